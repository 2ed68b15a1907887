/-
  Contracts of named, ready and call.
-/
import Derived.Test.YtndlpmnidpandaaState
import Derived.Test.YtndlpmnidpandaaOrder
namespace Go.Proofs.Ytndlpmnidpandaa
open Go.RowKit Go.Maps
set_option linter.unusedVariables false
set_option linter.unusedSimpArgs false

theorem named_ok (s : ByteArray) (w : World) (h1 : 1 ≤ s.size) (h2 : s.size ≤ 32) :
    Calls Try.prog 40 #[.string s] w fun e w' => e = .returned (.bool true) ∧ w' = w := by
  have H1 : (1 : Int) ≤ s.size := by omega
  have H2 : (s.size : Int) ≤ 32 := by omega
  go_enter Try.func40, Try.ntmps40
  go_wp2
  go_ret
  exact ⟨rfl, rfl⟩

theorem Try.eqlMap (M : Nat) (w : World) : (binOp .eql 67 (.map (some M)) (.map none)).run Try.prog w = .ok (.bool false) w := by kernel_rfl

set_option maxRecDepth 100000 in
theorem ready_ok (B M : Nat) (w : World) (h : w.cell? ⟨B, 1, none⟩ = some (.map (some M))) :
    Calls Try.prog 52 #[.pointer (some ⟨B, 0, none⟩)] w fun e w' => e = .returned (.tuple #[]) ∧ w' = w := by
  go_enter Try.func52, Try.ntmps52
  have h0 := Try.eqlMap M
  go_wp2
  refine bodyPost_end (results_none rfl _ _ _) rfl ?_
  exact ⟨rfl, rfl⟩

section
variable {w w' : World} {B : Nat} {tag tag' : Tags} {st st' : St} {M1 M2 n2 : Nat} {wv : Value} {fv : Option Nat} {f1 f2 : ByteArray → Option Value} {l : List (Chg × Value)}

theorem Inv.at (h : Inv w B tag st M1 M2 wv fv f1 f2 l n2) :
    w.cell? ⟨B, 0, none⟩ = some (.map (some M1)) ∧ w.cell? ⟨B, 1, none⟩ = some (.map (some M2)) ∧ w.cell? ⟨B, 2, none⟩ = some wv ∧ w.cell? ⟨B, 3, none⟩ = some (.map fv) ∧
    w.cell? ⟨B, 4, none⟩ = some (.int .i64 st.stop) ∧ w.cell? ⟨B, 5, none⟩ = some (.int .i64 st.ops) ∧ w.cell? ⟨B, 6, none⟩ = some (.bool st.off) := by
  have := h.cell
  refine ⟨?_, ?_, ?_, ?_, ?_, ?_, ?_⟩ <;> simp [World.cell?, this, wdCells]

theorem Inv.frozen (h : Inv w B tag st M1 M2 wv fv f1 f2 l n2) (k : Nat) : w.frozen? ⟨B, k, none⟩ = false := by
  simp [World.frozen?, h.cell]

/-- What stays while blocks of others are written. -/
theorem Inv.step (h : Inv w B tag st M1 M2 wv fv f1 f2 l n2) (s : Step w w' tag tag' (fun _ => False)) : Inv w' B tag' st M1 M2 wv fv f1 f2 l n2 where
  cell := (s.keep (Array.getElem?_eq_some_iff.1 h.cell).1 h.tB id).1.trans h.cell
  tB := (s.keep (Array.getElem?_eq_some_iff.1 h.cell).1 h.tB id).2
  t1 := (s.keep h.map1.lt h.t1 id).2
  t2 := (s.keep h.map2.lt h.t2 id).2
  map1 := h.map1.of_block (s.keep h.map1.lt h.t1 id).1
  map2 := h.map2.of_block (s.keep h.map2.lt h.t2 id).1
  seen := h.seen.step s (fun _ => id)
  dur := h.dur.step s (fun _ => id)
  waits := h.waits.step s id id
  l_eq := h.l_eq
  fails := h.fails.step s id
  lt := s.lt h.lt
  opsLo := h.opsLo
  opsHi := h.opsHi
  cnt2 := h.cnt2

/-- The world's own cells have turned: another number of calls. -/
theorem Inv.tick (h : Inv w B tag st M1 M2 wv fv f1 f2 l n2) (hg : w.grownBy w' (some B)) (hc : w'.heap[B]? = some (.cells (wdCells M1 M2 wv fv (st.ops + 1) st.stop st.off) 71 (0, 0))) :
    Inv w' B tag { st with ops := st.ops + 1, cnt := st.cnt + 1 } M1 M2 wv fv f1 f2 l n2 := by
  have s : Step w w' tag tag (fun t => t = .wd) := Step.turned hg tag h.tB rfl
  exact {
    cell := hc
    tB := h.tB
    t1 := h.t1
    t2 := h.t2
    map1 := (h.map1.of_block (s.keep h.map1.lt h.t1 (by simp)).1).mono (Nat.le_succ _)
    map2 := h.map2.of_block (s.keep h.map2.lt h.t2 (by simp)).1
    seen := h.seen.step s (by simp)
    dur := h.dur.step s (by simp)
    waits := h.waits.step s (by simp) (by simp)
    l_eq := h.l_eq
    fails := h.fails.step s (by simp)
    lt := s.lt h.lt
    opsLo := by have := h.opsLo; show 0 ≤ st.ops + 1; omega
    opsHi := by have := h.opsHi; show st.ops + 1 ≤ ((st.cnt + 1 : Nat) : Int); omega
    cnt2 := by have := h.cnt2; show n2 + l.length ≤ st.cnt + 1; omega }
end

theorem Try.law3 : Keyed Try.prog 3 := int_keyed Try.underlying3
theorem Try.zeroUnit (w : World) : (zeroValue 76).run Try.prog w = .ok (.agg #[]) w := by kernel_rfl

theorem fails_look {w : World} {tag : Tags} {fv : Option Nat} {p : Int → Bool} (h : FailsIs w tag fv p) (x : Int) (hx : 0 ≤ x) (hx' : x ≤ 1099511627776) (w' : World) (hw : w'.heap = w.heap ∨ (∀ b, fv = some b → w'.heap[b]? = w.heap[b]?)) :
    (Instr.lookup 69 (.map fv) (.int .i64 x) true).run Try.prog w' = .ok (.tuple #[.agg #[], .bool (p x)]) w' := by
  have hwf : (Lit.int .i64 x).wf = true := WalkArith.wf_i64 (by omega)
  have hkey : keyOf Try.prog 3 (.int .i64 x) = some (.int .i64 x) := keyOf_int_mk Try.underlying3 hwf
  cases fv with
  | none =>
    rw [Maps.look_nil true Try.law3 Try.underlying69 (Try.zeroUnit w') hkey]
    simp [h x]
  | some b =>
    obtain ⟨_, n, D, ho, hp⟩ := h
    have ho' : w'.ownsMap (H := Unit) Try.prog 3 unitElem b n D := by
      obtain ⟨es, clock, h1, h2⟩ := ho
      refine ⟨es, clock, ?_, h2⟩
      rcases hw with hw | hw
      · rw [hw]; exact h1
      · rw [hw b rfl]; exact h1
    obtain ⟨v, ps, hrun, hv⟩ := ho'.look_ok Try.law3 Try.underlying69 (Try.zeroUnit w') unitElem_mk hkey
    obtain ⟨rfl, _⟩ := unitElem_inv hv
    rw [hrun, hp x hwf]

theorem setCell_other (w : World) (a : Addr) (v : Value) {i : Nat} (h : i ≠ a.block) : (w.setCell a v).heap[i]? = w.heap[i]? := by
  simp only [World.setCell, Array.getElem?_modify, if_neg (Ne.symm h)]

theorem setCell_own (w : World) (B k : Nat) (v : Value) (c : Array Value) (t : TypeId) (h : w.heap[B]? = some (.cells c t (0, 0))) : (w.setCell ⟨B, k, none⟩ v).heap[B]? = some (.cells (c.setIfInBounds k v) t (0, 0)) := by
  simp [World.setCell, Array.getElem?_modify, h]

theorem grown_setCell (w : World) (B k : Nat) (v : Value) : w.grownBy (w.setCell ⟨B, k, none⟩ v) (some B) :=
  ⟨rfl, rfl, rfl, by simp [World.setCell], fun i _ hi => setCell_other w _ v (fun e => hi (by rw [e]))⟩

set_option maxRecDepth 100000 in
set_option maxHeartbeats 1000000 in
theorem call_any (w : World) (B : Nat) (tag : Tags) (st : St) (M1 M2 n2 : Nat) (wv : Value) (fv : Option Nat) (f1 f2 : ByteArray → Option Value) (l : List (Chg × Value))
    (h : Inv w B tag st M1 M2 wv fv f1 f2 l n2) (hc : st.cnt < 1099511627776) (hlv : st.stop ≠ st.ops ∧ st.off = false) :
    Calls Try.prog 41 #[.pointer (some ⟨B, 0, none⟩)] w fun e w' => e = .returned (.int .i64 (if st.fails st.ops then 6 else 0)) ∧
      Inv w' B tag { st with ops := st.ops + 1, cnt := st.cnt + 1 } M1 M2 wv fv f1 f2 l n2 ∧ w.grownBy w' (some B) := by
  obtain ⟨c0, c1, c2, c3, c4, c5, c6⟩ := h.at
  obtain ⟨pf, hpf, hpe⟩ := h.fails
  have hpo : pf st.ops = st.fails st.ops := by
    rw [hpe st.ops h.opsLo, hlv.2, decide_eq_false (fun e => hlv.1 e.symm)]
    simp
  rw [hlv.2] at c6
  have fz := h.frozen 5
  have o1 := h.opsLo
  have o2 := h.opsHi
  have hlook := fails_look (w := w) hpf st.ops o1 (by omega) (w.setCell ⟨B, 5, none⟩ (.int .i64 (st.ops + 1))) (.inr (fun b hb => by
    have hbB : b ≠ B := by
      intro e
      have hf := hpf
      rw [hb] at hf
      have := hf.1
      rw [e, h.tB] at this
      cases this
    exact setCell_other w _ _ hbB))
  have hfin : ∀ W, (w.setCell ⟨B, 5, none⟩ (.int .i64 (st.ops + 1))).grownBy W none → Inv W B tag { st with ops := st.ops + 1, cnt := st.cnt + 1 } M1 M2 wv fv f1 f2 l n2 ∧ w.grownBy W (some B) := by
    intro W hW
    have hg : w.grownBy W (some B) := (grown_setCell w B 5 _).andThen hW (by simp)
    refine ⟨h.tick hg ?_, hg⟩
    have hlt : B < (w.setCell ⟨B, 5, none⟩ (.int .i64 (st.ops + 1))).heap.size := by
      have := (Array.getElem?_eq_some_iff.1 h.cell).1
      simpa [World.setCell] using this
    rw [hW.block B hlt (by simp), setCell_own w B 5 _ _ _ h.cell]
    simp [wdCells]
  rw [hpo] at hlook
  obtain ⟨x, hx⟩ : ∃ x, x = st.ops := ⟨_, rfl⟩
  obtain ⟨sp, hsp⟩ : ∃ x, x = st.stop := ⟨_, rfl⟩
  have hN : ¬ x = sp := by rw [hx, hsp]; exact fun e => hlv.1 e.symm
  rw [← hsp] at c4
  obtain ⟨p, hp⟩ : ∃ p, p = st.fails st.ops := ⟨_, rfl⟩
  rw [← hp]
  rw [← hp, ← hx] at hlook
  rw [← hx] at c5 o1 o2
  have hfin' : ∀ W, (w.setCell ⟨B, 5, none⟩ (.int .i64 (x + 1))).grownBy W none → Inv W B tag { st with ops := st.ops + 1, cnt := st.cnt + 1 } M1 M2 wv fv f1 f2 l n2 ∧ w.grownBy W (some B) := by
    rw [hx]; exact hfin
  replace hfin' := Kpt.mk hfin'
  clear hfin hp hx h hsp hpo hpe hpf hlv
  have hne : (x == sp) = false := by simp [hN]
  cases p
  · go_enter Try.func41, Try.ntmps41
    go_wp2_with (go_at_call 52; refine (ready_ok B M2 _ c1).mono ?_; rintro e w' ⟨rfl, hw'⟩; rw [hw'])
    go_ret
    exact ⟨rfl, hfin'.out _ (World.grownBy_alloc _ _ none)⟩
  · go_enter Try.func41, Try.ntmps41
    go_wp2_with (go_at_call 52; refine (ready_ok B M2 _ c1).mono ?_; rintro e w' ⟨rfl, hw'⟩; rw [hw'])
    go_ret
    exact ⟨rfl, hfin'.out _ (World.grownBy_alloc _ _ none)⟩
theorem Inv.live {w : World} {B : Nat} {tag : Tags} {st : St} {M1 M2 n2 : Nat} {wv : Value} {fv : Option Nat} {f1 f2 : ByteArray → Option Value} {l : List (Chg × Value)} (h : Inv w B tag st M1 M2 wv fv f1 f2 l n2) (hf : st.fails st.ops = false) : st.stop ≠ st.ops ∧ st.off = false := by
  obtain ⟨p, _, h2⟩ := h.fails
  have := h2 st.ops h.opsLo
  rw [hf] at this
  constructor
  · intro e
    rw [decide_eq_true e.symm] at this
    simp at this
  · cases ho : st.off with
    | false => rfl
    | true => rw [ho] at this; simp at this
end Go.Proofs.Ytndlpmnidpandaa
