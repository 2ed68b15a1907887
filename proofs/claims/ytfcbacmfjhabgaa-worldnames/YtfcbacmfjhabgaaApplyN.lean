/-
  apply, where a file is renamed or removed.
-/
import Derived.Test.YtfcbacmfjhabgaaKeep
namespace Go.Proofs.Ytfcbacmfjhabgaa
open Go.RowKit Go.Maps
set_option linter.unusedVariables false
set_option linter.unusedSimpArgs false

theorem wpList_delete_run {w : World} {ops : Array Oper} {rest : List Oper} {o : Oper} {a : Act} {Q : Exit → Act → World → Prop} (hgd : o.guard = none) (m x : Operand)
    (ho : o.op = Op.call { callee := Callee.builtin Builtin.delete, args := #[m, x], argTypes := #[47, 9] }) (vm vx : Value) (hm : a.eval m = vm) (hx : a.eval x = vx) (w' : World)
    (hr : ∀ ty, (Builtin.delete_ #[47, 9] ty #[vm, vx]).run Try.prog w = .ok (.tuple #[]) w') (h : wpList Try.prog ops Q rest (a.put o.dst (.tuple #[])) w') : wpList Try.prog ops Q (o :: rest) a w := by
  refine wpList_plain hgd fun K' hK' => ?_
  unfold Oper.wp
  simp [execOp, ho, resolve, invoke, builtin, hm, hx, hr, Result.andThen]
  exact hK' _ _ h

theorem applied_rm {w0 w2 : World} {tag : Tags} {T : ByteArray → Tag} {mt : Tag} {M n : Nat} {f : ByteArray → Option Value} {F : FilesF} {s : ByteArray}
    (hTm : ∀ a, T a ≠ mt) (ht : tag M = some mt) (hlt : ∀ i, tag i ≠ none → i < w0.heap.size) (hfiles : Files w0 tag T f F) (hmap : MapIs w2 M n (updF f s none)) (hturn : w0.mapTurned w2 M) :
    Applied w0 w2 tag tag T mt M (n + 1) (updF F s none) (updF f s none) := by
  have st : Step w0 w2 tag tag (fun t => t = mt) := Step.turned hturn.grown tag ht rfl
  refine ⟨hmap.mono (Nat.le_succ _), ?_, st.weaken (fun t h => .inl h), ht, st.lt hlt⟩
  have hf := hfiles.step st (fun a h => hTm a h)
  intro t
  by_cases e : t = s
  · subst e; simp
  · rw [updF_other _ _ e, updF_other _ _ e]; exact hf t

theorem applied_rn {w0 w1 w2 : World} {tag : Tags} {T : ByteArray → Tag} {mt : Tag} {M n : Nat} {f : ByteArray → Option Value} {F : FilesF} {a b : ByteArray} {v : Value}
    (hTi : ∀ a b, T a = T b → a = b) (hTm : ∀ a, T a ≠ mt) (ht : tag M = some mt) (hlt : ∀ i, tag i ≠ none → i < w0.heap.size) (hfiles : Files w0 tag T f F) (hv : v = (f a).getD (.slice none 0 0))
    (hturn1 : w0.mapTurned w1 M) (hmap : MapIs w2 M (n + 1) (updF (updF f a none) b (some v))) (hturn : w1.mapTurned w2 M) :
    ∃ tag', Applied w0 w2 tag tag' T mt M (n + 1) (updF (updF F a none) b (some ((F a).getD []))) (updF (updF f a none) b (some v)) := by
  have st : Step w0 w2 tag tag (fun t => t = mt) := Step.turned (hturn1.grown.andThen hturn.grown (fun j h => .inr h)) tag ht rfl
  have hf := hfiles.step st (fun a h => hTm a h)
  have hva : Row w2 v ((F a).getD []) ∧ ((F a).getD []).length ≤ 1048576 ∧ ∀ g, v.ownBlock = some g → tag g = some (T a) := by
    have := hf a
    cases hF : F a with
    | none => rw [hF] at this; rw [hv, this]; exact ⟨row_nil _, by simp, by simp [Value.ownBlock]⟩
    | some zs => rw [hF] at this; obtain ⟨h1, x, hx, hr, hxt⟩ := this; rw [hv, hx]; exact ⟨hr, h1, hxt⟩
  obtain ⟨hrow, hlen, hvt⟩ := hva
  obtain ⟨tag', htag'⟩ : ∃ tag' : Tags, tag' = fun i => if v.ownBlock = some i then some (T b) else tag i := ⟨_, rfl⟩
  have hst' : Step w0 w2 tag tag' (fun t => t = mt ∨ ∃ s, t = T s) := by
    refine ⟨st.os, st.tape, st.output, st.size, fun i hi hx => st.block i hi (fun t h => hx t (.inl h)), fun i t hX => ?_, fun i hi hn => ?_, fun hl i hi => ?_⟩
    · rw [htag']
      by_cases e : v.ownBlock = some i
      · simp only [e, if_true]
        have h1 := hvt i e
        constructor
        · intro h; exfalso; exact hX (.inr ⟨b, by simpa using h.symm⟩)
        · intro h; exfalso; rw [h1] at h; exact hX (.inr ⟨a, by simpa using h.symm⟩)
      · simp [e]
    · rw [htag']
      have : v.ownBlock ≠ some i := fun e => by have := hvt i e; rw [hn] at this; cases this
      simp [this, hn]
    · rw [htag'] at hi
      by_cases e : v.ownBlock = some i
      · exact Nat.lt_of_lt_of_le (hl i (by rw [hvt i e]; simp)) st.size
      · simp [e] at hi; exact Nat.lt_of_lt_of_le (hl i hi) st.size
  refine ⟨tag', hmap, ?_, hst', ?_, hst'.lt hlt⟩
  · intro t
    by_cases e : t = b
    · subst e
      simp only [updF_same]
      exact ⟨hlen, v, rfl, hrow, fun g hg => by rw [htag']; simp [hg]⟩
    · rw [updF_other _ _ e, updF_other _ _ e]
      by_cases e2 : t = a
      · subst e2; simp
      · rw [updF_other _ _ e2, updF_other _ _ e2]
        have := hf t
        cases hF : F t with
        | none => rw [hF] at this; exact this
        | some zs =>
          rw [hF] at this
          obtain ⟨hl, x, hx, hr, hxt⟩ := this
          refine ⟨hl, x, hx, hr, fun g hg => ?_⟩
          rw [htag']
          have : v.ownBlock ≠ some g := fun e3 => by
            have h1 := hvt g e3
            rw [hxt g hg] at h1
            exact e2 (hTi t a (by simpa using h1))
          simp [this, hxt g hg]
  · rw [htag']
    have : v.ownBlock ≠ some M := fun e => by have h1 := hvt M e; rw [ht] at h1; exact hTm a (by simpa using h1.symm)
    simp [this, ht]

set_option maxRecDepth 100000 in
set_option maxHeartbeats 2000000 in
theorem applies_rm (s : ByteArray) : Applies (.rm s) (.slice none 0 0) := by
  intro w tag T mt M n f F hTi hTm hTd ht hlt hmap hfiles hn hok
  have hs : s.size ≤ 32 := by rcases hok with h | h <;> exact h.1
  have hMlt := hmap.lt
  obtain ⟨w0, hw0⟩ : ∃ w0, w0 = w.alloc (.cells #[.int .i64 2, .string s, .string ⟨#[]⟩, .int .i64 0, .slice none 0 0] 57) := ⟨_, rfl⟩
  have hgr0 : w.grownBy w0 none := by rw [hw0]; exact World.grownBy_alloc w _ none
  have hmap0 : MapIs w0 M n f := hmap.of_block (hgr0.block M hMlt (by simp))
  have hfiles0 : Files w0 tag T f F := hfiles.step (Step.grown hgr0 tag (fun _ => False)) (by simp)
  obtain ⟨w2, hdel, hmap2, hturn⟩ := hmap0.drop (size32 hs)
  have ha := applied_rm (n := n) hTm ht (fun i hi => Nat.lt_of_lt_of_le (hlt i hi) hgr0.size) hfiles0 hmap2 hturn
  have fin : ∃ tag' f', Applied w w2 tag tag' T mt M (n + 1) ((Chg.rm s).run F) f' := ⟨tag, _, ha.map, ha.files, (Step.grown hgr0 tag _).trans ha.step, ha.tM, ha.lt⟩
  replace fin := Kpt.mk fin
  replace hdel := Kpt.mk hdel
  clear ha hmap hfiles hmap0 hfiles0 hmap2
  show Calls Try.prog 33 #[.agg #[.int .i64 2, .string s, .string ⟨#[]⟩, .int .i64 0, .slice none 0 0], .map (some M)] w _
  go_enter Try.func33, Try.ntmps33
  go_wp2_with (at_delete; rw [← hw0]; refine wpList_delete_run rfl _ _ rfl (.map (some M)) (.string s) rfl rfl w2 hdel.out ?_)
  first | (refine bodyPost_end (results_none rfl _ _ _) rfl ?_) | (refine bodyPost_ret (results_none rfl _ _ _) rfl ?_)
  exact ⟨rfl, fin.out⟩

set_option maxRecDepth 100000 in
set_option maxHeartbeats 2000000 in
theorem applies_rn (a b : ByteArray) : Applies (.rn a b) (.slice none 0 0) := by
  intro w tag T mt M n f F hTi hTm hTd ht hlt hmap hfiles hn hok
  have hs : a.size ≤ 32 ∧ b.size ≤ 32 := by rcases hok with h | h <;> exact ⟨h.1, h.2.1⟩
  obtain ⟨hsa, hsb⟩ := hs
  have hMlt := hmap.lt
  obtain ⟨b0, hb0⟩ : ∃ b0, b0 = w.heap.size := ⟨_, rfl⟩
  obtain ⟨w0, hw0⟩ : ∃ w0, w0 = w.alloc (.cells #[.int .i64 1, .string a, .string b, .int .i64 0, .slice none 0 0] 57) := ⟨_, rfl⟩
  have hgr0 : w.grownBy w0 none := by rw [hw0]; exact World.grownBy_alloc w _ none
  have hmap0 : MapIs w0 M n f := hmap.of_block (hgr0.block M hMlt (by simp))
  have hfiles0 : Files w0 tag T f F := hfiles.step (Step.grown hgr0 tag (fun _ => False)) (by simp)
  obtain ⟨v, hv⟩ : ∃ v, v = (f a).getD (.slice none 0 0) := ⟨_, rfl⟩
  have hlook : (Instr.lookup 47 (.map (some M)) (.string a) false).run Try.prog w0 = .ok v w0 := by rw [hv]; exact hmap0.look (size32 hsa)
  obtain ⟨w1, hdel, hmap1, hturn1⟩ := hmap0.drop (size32 hsa)
  obtain ⟨w2, hst, hmap2, hturn2⟩ := hmap1.store (size32 hsb) (by unfold maxLen; omega) v
  obtain ⟨tag', ha⟩ := applied_rn (n := n) hTi hTm ht (fun i hi => Nat.lt_of_lt_of_le (hlt i hi) hgr0.size) hfiles0 hv hturn1 hmap2 hturn2
  have fin : ∃ tag' f', Applied w w2 tag tag' T mt M (n + 1) ((Chg.rn a b).run F) f' := ⟨tag', _, ha.map, ha.files, (Step.grown hgr0 tag _).trans ha.step, ha.tM, ha.lt⟩
  have hh0 : w0.heap[b0]? = some (.cells #[.int .i64 1, .string a, .string b, .int .i64 0, .slice none 0 0] 57 (0, 0)) := by rw [hw0, hb0]; exact heap_alloc_new w _
  have hh1 : w1.heap[b0]? = w0.heap[b0]? := hturn1.grown.block b0 (by rw [hw0, hb0]; simp) (fun e => by have : b0 = M := (by simpa using e); omega)
  have c2 : w1.cell? ⟨b0, 2, none⟩ = some (.string b) := by simp [World.cell?, hh1, hh0]
  replace fin := Kpt.mk fin
  replace hdel := Kpt.mk hdel
  replace hv := Kpt.mk hv
  replace hh0 := Kpt.mk hh0
  replace hh1 := Kpt.mk hh1
  clear ha hmap hfiles hmap0 hfiles0 hmap1 hmap2
  show Calls Try.prog 33 #[.agg #[.int .i64 1, .string a, .string b, .int .i64 0, .slice none 0 0], .map (some M)] w _
  rw [hb0] at c2
  replace hb0 := Kpt.mk hb0
  rw [hw0] at hlook
  go_enter Try.func33, Try.ntmps33
  go_wp2_with (at_delete; rw [← hw0]; refine wpList_delete_run rfl _ _ rfl (.map (some M)) (.string a) rfl rfl w1 hdel.out ?_)
  first | (refine bodyPost_end (results_none rfl _ _ _) rfl ?_) | (refine bodyPost_ret (results_none rfl _ _ _) rfl ?_)
  exact ⟨rfl, fin.out⟩


theorem grown_drewN (w : World) (m : Nat) : w.grownBy (w.drewN m) none := ⟨rfl, rfl, rfl, Nat.le_refl _, fun _ _ _ => rfl⟩

theorem seen_lookN {w : World} {B : Nat} {tag : Tags} {st : St} {M1 M2 n2 : Nat} {wv : Value} {fv : Option Nat} {f1 f2 : ByteArray → Option Value} {l : List (Chg × Value)} (h : Inv w B tag st M1 M2 wv fv f1 f2 l n2)
    {s : ByteArray} (hs' : s.size ≤ 32) {zs : List Int} (hs : st.seen s = some zs) :
    ∃ a cap, ∀ m, (Instr.lookup 47 (.map (some M1)) (.string s) true).run Try.prog (w.drewN m) = .ok (.tuple #[.slice a zs.length cap, .bool true]) (w.drewN m) := by
  have := h.seen s
  rw [hs] at this
  obtain ⟨_, v, hf, hr, ht⟩ := this
  obtain ⟨a, cap, rfl, _⟩ := row_shape hr
  refine ⟨a, cap, fun m => ?_⟩
  rw [MapIs.look_ok (w := w.drewN m) h.map1 (size32 hs'), hf]
  rfl

theorem seen_noneN {w : World} {B : Nat} {tag : Tags} {st : St} {M1 M2 n2 : Nat} {wv : Value} {fv : Option Nat} {f1 f2 : ByteArray → Option Value} {l : List (Chg × Value)} (h : Inv w B tag st M1 M2 wv fv f1 f2 l n2)
    {s : ByteArray} (hs' : s.size ≤ 32) (hs : st.seen s = none) :
    ∀ m, (Instr.lookup 47 (.map (some M1)) (.string s) true).run Try.prog (w.drewN m) = .ok (.tuple #[.slice none 0 0, .bool false]) (w.drewN m) := by
  have := h.seen s
  rw [hs] at this
  intro m
  rw [MapIs.look_ok (w := w.drewN m) h.map1 (size32 hs'), this]
  rfl

set_option maxRecDepth 100000 in
set_option maxHeartbeats 2000000 in
theorem alter_some (w : World) (B : Nat) (tag : Tags) (st : St) (h : Wd w B tag st) (hc : st.cnt < 549755813888) (hf : st.fails st.ops = false) (c : Chg) (k : Int) (s na : ByteArray) (hv : c.vals (.slice none 0 0) = #[.int .i64 k, .string s, .string na, .int .i64 0, .slice none 0 0])
    (hap : Applies c (.slice none 0 0)) (hpre : ∀ W t, c.pre W t (.slice none 0 0)) (h2 : s.size ≤ 32) (zs : List Int) (hs : st.seen s = some zs) :
    Calls Try.prog 29 #[.pointer (some ⟨B, 0, none⟩), .agg #[.int .i64 k, .string s, .string na, .int .i64 0, .slice none 0 0]] w fun e w' => e = .returned (.int .i64 0) ∧
      ∃ tag', Wd w' B tag' { st with seen := c.run st.seen, waits := st.waits ++ [c], ops := st.ops + 1, cnt := st.cnt + 2 } ∧ Step w w' tag tag' (fun _ => True) := by
  obtain ⟨M1, M2, wv, fv, f1, f2, l, n2, h⟩ := h
  obtain ⟨b0, hb0⟩ : ∃ b0, b0 = w.heap.size := ⟨_, rfl⟩
  obtain ⟨w0, hw0⟩ : ∃ w0, w0 = w.alloc (.cells #[.int .i64 k, .string s, .string na, .int .i64 0, .slice none 0 0] 57) := ⟨_, rfl⟩
  have hgr0 : w.grownBy w0 none := by rw [hw0]; exact World.grownBy_alloc w _ none
  have hh0 : w0.heap[b0]? = some (.cells #[.int .i64 k, .string s, .string na, .int .i64 0, .slice none 0 0] 57 (0, 0)) := by rw [hw0, hb0]; exact heap_alloc_new w _
  have hI0 := h.step (Step.grown hgr0 tag _)
  have hcl := call_any w0 B tag st M1 M2 n2 wv fv f1 f2 l hI0 (by omega)
  rw [hf] at hcl
  simp only [Bool.false_eq_true, if_false] at hcl
  have hBt := h.tB
  have hsz0 : w.heap.size < w0.heap.size := by rw [hw0]; simp
  have hb0B : b0 ≠ B := fun e => by have := h.lt B (by rw [h.tB]; simp); omega
  have cells : ∀ w1 : World, w0.grownBy w1 (some B) → w1.cell? ⟨b0, 0, none⟩ = some (.int .i64 k) ∧ w1.cell? ⟨b0, 1, none⟩ = some (.string s) ∧ w1.cell? ⟨b0, 2, none⟩ = some (.string na) ∧ w1.cell? ⟨b0, 3, none⟩ = some (.int .i64 0) ∧ w1.cell? ⟨b0, 4, none⟩ = some (.slice none 0 0) := by
    intro w1 hg
    have hh1 : w1.heap[b0]? = w0.heap[b0]? := hg.block b0 (by omega) (fun e => hb0B (by simpa using e))
    refine ⟨?_, ?_, ?_, ?_, ?_⟩ <;> simp [World.cell?, hh1, hh0]
  have hone : ∀ u ∈ [Value.int .i64 k, .string s, .string na, .int .i64 0, .slice none 0 0], u.oneCell' = true := by simp [Value.oneCell']
  replace cells := Kpt.mk cells
  replace hone := Kpt.mk hone
  replace hs := Kpt.mk hs
  replace hv := Kpt.mk hv
  replace hh0 := Kpt.mk hh0
  replace hap := Kpt.mk hap
  replace hpre := Kpt.mk hpre
  have hr := Kpt.mk hgr0
  clear h hI0 hgr0
  go_enter Try.func29, Try.ntmps29
  go_wp2_with (go_at_call 23; rw [← hw0]; refine hcl.mono ?_; rintro e w1 ⟨rfl, hI1, hg1⟩; have cB := hI1.at.1; obtain ⟨q0, q1, q2, q3, q4⟩ := cells.out w1 hg1; obtain ⟨a, cap, hlook⟩ := seen_lookN hI1 h2 hs.out)
  have hIn : ∀ m, Inv (w1.drewN m) B tag { st with ops := st.ops + 1, cnt := st.cnt + 1 } M1 M2 wv fv f1 f2 l n2 := fun m => hI1.step (Step.grown (grown_drewN w1 m) tag _)
  have hDo : ∀ m, _ := fun m => do_any (w1.drewN m) B tag { st with ops := st.ops + 1, cnt := st.cnt + 1 } M1 M2 n2 wv fv f1 f2 l (hIn m) (by show st.cnt + 1 < _; omega) c (.int .i64 k) (.string s) (.string na) (.int .i64 0) (.slice none 0 0) hv.out hap.out (hpre.out _ _) hone.out
  have st1 : ∀ m, Step w (w1.drewN m) tag tag (fun _ => True) := fun m => (Step.grown hr.out tag _).trans (Step.turned (w' := w1.drewN m) ⟨hg1.os, hg1.tape, hg1.output, hg1.size, hg1.block⟩ tag hBt trivial)
  replace hIn := Kpt.mk hIn
  replace hDo := Kpt.mk hDo
  replace st1 := Kpt.mk st1
  clear hI1 hg1 hcl
  rw [← hb0]
  replace hb0 := Kpt.mk hb0
  replace hw0 := Kpt.mk hw0
  go_quiet (fail)
  go_wp2_with (go_at_call 24; refine (hDo.out _).mono ?_; rintro e w3 ⟨rfl, tagA, wv', f1', hI3, hs3⟩)
  go_ret
  rw [tagDt_none rfl] at hI3
  exact ⟨rfl, tagA, ⟨M1, M2, wv', fv, f1', f2, _, n2, hI3⟩, (st1.out _).trans hs3⟩

set_option maxRecDepth 100000 in
set_option maxHeartbeats 2000000 in
theorem alter_none (w : World) (B : Nat) (tag : Tags) (st : St) (h : Wd w B tag st) (hc : st.cnt < 549755813888) (hf : st.fails st.ops = false) (k : Int) (s na : ByteArray) (h2 : s.size ≤ 32) (hs : st.seen s = none) :
    Calls Try.prog 29 #[.pointer (some ⟨B, 0, none⟩), .agg #[.int .i64 k, .string s, .string na, .int .i64 0, .slice none 0 0]] w fun e w' => e = .returned (.int .i64 8) ∧
      Wd w' B tag (stR st) ∧ Step w w' tag tag (fun _ => True) := by
  obtain ⟨M1, M2, wv, fv, f1, f2, l, n2, h⟩ := h
  obtain ⟨b0, hb0⟩ : ∃ b0, b0 = w.heap.size := ⟨_, rfl⟩
  obtain ⟨w0, hw0⟩ : ∃ w0, w0 = w.alloc (.cells #[.int .i64 k, .string s, .string na, .int .i64 0, .slice none 0 0] 57) := ⟨_, rfl⟩
  have hgr0 : w.grownBy w0 none := by rw [hw0]; exact World.grownBy_alloc w _ none
  have hh0 : w0.heap[b0]? = some (.cells #[.int .i64 k, .string s, .string na, .int .i64 0, .slice none 0 0] 57 (0, 0)) := by rw [hw0, hb0]; exact heap_alloc_new w _
  have hI0 := h.step (Step.grown hgr0 tag _)
  have hcl := call_any w0 B tag st M1 M2 n2 wv fv f1 f2 l hI0 (by omega)
  rw [hf] at hcl
  simp only [Bool.false_eq_true, if_false] at hcl
  have hBt := h.tB
  have hsz0 : w.heap.size < w0.heap.size := by rw [hw0]; simp
  have hb0B : b0 ≠ B := fun e => by have := h.lt B (by rw [h.tB]; simp); omega
  have cell : ∀ w1 : World, w0.grownBy w1 (some B) → w1.cell? ⟨b0, 1, none⟩ = some (.string s) := by
    intro w1 hg
    have hh1 : w1.heap[b0]? = w0.heap[b0]? := hg.block b0 (by omega) (fun e => hb0B (by simpa using e))
    simp [World.cell?, hh1, hh0]
  replace cell := Kpt.mk cell
  replace hs := Kpt.mk hs
  replace hh0 := Kpt.mk hh0
  have hr := Kpt.mk hgr0
  clear h hI0 hgr0
  go_enter Try.func29, Try.ntmps29
  go_wp2_with (go_at_call 23; rw [← hw0]; refine hcl.mono ?_; rintro e w1 ⟨rfl, hI1, hg1⟩; have cB := hI1.at.1; have q1 := cell.out w1 hg1; have hlook := seen_noneN hI1 h2 hs.out)
  have hIn : ∀ m, Wd (w1.drewN m) B tag (stR st) := fun m => ⟨M1, M2, wv, fv, f1, f2, l, n2, hI1.step (Step.grown (grown_drewN w1 m) tag _)⟩
  have st1 : ∀ m, Step w (w1.drewN m) tag tag (fun _ => True) := fun m => (Step.grown hr.out tag _).trans (Step.turned (w' := w1.drewN m) ⟨hg1.os, hg1.tape, hg1.output, hg1.size, hg1.block⟩ tag hBt trivial)
  replace hIn := Kpt.mk hIn
  replace st1 := Kpt.mk st1
  clear hI1 hg1 hcl
  rw [← hb0]
  replace hb0 := Kpt.mk hb0
  replace hw0 := Kpt.mk hw0
  go_quiet (fail)
  go_wp2
  go_ret
  exact ⟨rfl, hIn.out _, st1.out _⟩
end Go.Proofs.Ytfcbacmfjhabgaa
