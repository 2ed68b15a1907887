/-
  The contracts of awake and fill; a set between calls.
-/
import Derived.Test.YtcnefmfmmgdidaaTEnt
namespace Go.Proofs.Ytcnefmfmmgdidaa
open Go.RowKit
set_option linter.unusedVariables false
set_option linter.unusedSimpArgs false

/-- A row of tasks beside a set. -/
def RowB (W : World) (B : Nat) (v x : Value) (us : List Tk) : Prop := (∃ base, Own base W x us) ∧ ∀ g, x.ownBlock = some g → g ≠ B ∧ v.ownBlock ≠ some g
theorem RowB.keep {w w' : World} {B : Nat} {v v' x : Value} {us : List Tk} (h : RowB w B v x us) (ht : Trn w w' B v v') : RowB w' B v' x us := by
  obtain ⟨⟨base, ho⟩, hs⟩ := h
  refine ⟨⟨base, ho.of_block (fun g hg => ht.block g (ho.lt hg).2 (hs g hg).1 (hs g hg).2)⟩, fun g hg => ⟨(hs g hg).1, fun e => ?_⟩⟩
  rcases ht.came g e with e2 | e2
  · exact (hs g hg).2 e2
  · have := (ho.lt hg).2; omega
/-- A set, all below w0 as it was, and a row beside it. -/
def Ss (w0 W : World) (B : Nat) (ts : List Tk) (st : Int) (x : Value) (us : List Tk) : Prop := ∃ v, St w0.heap.size W B ts st v ∧ Below w0.heap.size w0 W ∧ RowB W B v x us
theorem row_none (W : World) (B : Nat) (v : Value) : RowB W B v (.slice none 0 0) [] := ⟨⟨0, own_nil _ _⟩, fun g h => by simp [Value.ownBlock] at h⟩
theorem Ss.below {w0 W : World} {B : Nat} {ts : List Tk} {st : Int} {x : Value} {us : List Tk} (h : Ss w0 W B ts st x us) : Below w0.heap.size w0 W := by obtain ⟨_, _, h, _⟩ := h; exact h
theorem Ss.grow {w0 W w' : World} {B : Nat} {ts : List Tk} {st : Int} {x : Value} {us : List Tk} (h : Ss w0 W B ts st x us) (hb : Below W.heap.size W w') : Ss w0 w' B ts st x us := by
  obtain ⟨v, h1, h2, h3⟩ := h
  exact ⟨v, h1.below hb, h2.trans (hb.mono h2.size), h3.keep (Trn.of_below B v hb)⟩
theorem Ss.few {w0 W : World} {B : Nat} {ts : List Tk} {st : Int} {x : Value} {us : List Tk} (h : Ss w0 W B ts st x us) : ts.length ≤ 16 := by obtain ⟨_, h, _⟩ := h; exact h.few
theorem ss_new (w0 W : World) (h : Below w0.heap.size w0 W) : Ss w0 (newS W) W.heap.size [] (-1) (.slice none 0 0) [] :=
  ⟨_, (st_new W).lower h.size, h.alloc h.size _, row_none _ _ _⟩

theorem ss_enter {w0 W : World} {B : Nat} {ts : List Tk} {st : Int} {x : Value} {us : List Tk} (t : Tk) (h : Ss w0 W B ts st x us) :
    Calls Try.prog 18 #[.pointer (some ⟨B, 0, none⟩), .agg t.vals] W fun e w' => e = .returned (.tuple #[.int .u8 (entR ts st t).1, .int .i64 (entR ts st t).2]) ∧ Ss w0 w' B (entL ts st t) st x us := by
  obtain ⟨v, h1, h2, h3⟩ := h
  refine (enter_any _ B ts st v t W h1).mono ?_
  rintro e w' ⟨he, v', x1, x2, x3⟩
  exact ⟨he, v', x1, h2.trans x3, h3.keep x2⟩
/-- Tasks: the row that it tells is the one beside the set from then on. -/
theorem ss_tasks {w0 W : World} {B : Nat} {ts : List Tk} {st : Int} {x : Value} {us : List Tk} (h : Ss w0 W B ts st x us) :
    Calls Try.prog 14 #[.pointer (some ⟨B, 0, none⟩)] W fun e w' => ∃ y, e = .returned y ∧ Own W.heap.size w' y ts ∧ Ss w0 w' B ts st y ts ∧ Ss w0 w' B ts st x us := by
  have hS := h
  obtain ⟨v, h1, h2, h3⟩ := h
  refine (tasks_any _ B ts st v W h1).mono ?_
  rintro e w' ⟨y, he, ho, hb⟩
  refine ⟨y, he, ho, ⟨v, h1.below hb, h2.trans (hb.mono h2.size), ⟨⟨_, ho⟩, fun g hg => ⟨fun e => ?_, fun e => ?_⟩⟩⟩, hS.grow hb⟩
  · have a1 := (ho.lt hg).1
    have a2 := h1.lt
    omega
  · have a1 := (ho.lt hg).1
    have a2 := (h1.own.lt e).2
    omega
theorem ss_ready {w0 W : World} {B : Nat} {ts : List Tk} {st : Int} {x : Value} {us : List Tk} (h : Ss w0 W B ts st x us) :
    Calls Try.prog 15 #[.pointer (some ⟨B, 0, none⟩)] W fun e w' => ∃ y, e = .returned y ∧ Own W.heap.size w' y (rdyL ts st ts.length) ∧ Ss w0 w' B ts st x us ∧ Below W.heap.size W w' := by
  have hS := h
  obtain ⟨v, h1, h2, h3⟩ := h
  refine (ready_any _ B ts st v W h1).mono ?_
  rintro e w' ⟨y, he, ho, hb⟩
  exact ⟨y, he, ho, hS.grow hb, hb⟩

set_option maxHeartbeats 1000000 in
theorem awake_any (w : World) : Calls Try.prog 9 #[] w fun e w' => e = .returned (.bool true) ∧ Below w.heap.size w w' := by
  have HN := Kpt.mk (new_any w)
  have HE := Kpt.mk (ss_enter ⟨0, 5, 0, false⟩ (ss_new w w (Below.refl _ _)))
  rw [show entR [] (-1) ⟨0, 5, 0, false⟩ = (0, 0) from by decide, show entL [] (-1) ⟨0, 5, 0, false⟩ = [⟨0, 5, 0, false⟩] from by simp [entL, entR, fidx, kOff]] at HE
  go_enter Try.func9, Try.ntmps9
  go_wp2_with (first
    | (go_at_call 10; refine HN.out.mono ?_; rintro e w1 ⟨rfl, rfl⟩)
    | (go_at_call 18; go_must (refine HE.out.mono ?_; rintro e w2 ⟨rfl, hs2⟩; have HR := Kpt.mk (ss_ready hs2); rw [show rdyL [⟨0, 5, 0, false⟩] (-1) ([⟨0, 5, 0, false⟩] : List Tk).length = [⟨0, 5, 0, false⟩] from by simp [rdyL, mayT, hasA]] at HR; clear hs2))
    | (go_at_call 15; go_must (refine HR.out.mono ?_; rintro e w3 ⟨y, rfl, ho, hs3, _⟩; obtain ⟨ay, cy, rfl, _⟩ := ho.shape; have hb3 := Kpt.mk hs3.below; clear ho hs3)))
  go_ret
  exact ⟨rfl, hb3.out⟩

theorem wanted_free {o : Oper} (h : o.guard = none) (y : Nat → Option Bool) : Region.wanted o y = true := by unfold Region.wanted; rw [h]

/-- Bytes that came in. -/
def Came (w : World) (a : Option Addr) (len : Nat) (zs : List Int) : Prop :=
  len ≤ maxLen ∧ ∀ W, Below w.heap.size w W → ∀ j, j < len → ∃ b off, a = some ⟨b, off, none⟩ ∧ b < w.heap.size ∧ W.cell? ⟨b, off + j, none⟩ = some (.int .u8 (zs.getD j 0)) ∧ 0 ≤ zs.getD j 0 ∧ zs.getD j 0 ≤ 255
theorem came {w : World} {a : Option Addr} {len cap : Nat} {zs : List Int}
    (h : (a = none ∧ len = 0 ∧ cap = 0 ∧ zs = []) ∨ ∃ x, a = some x ∧ len ≤ cap ∧ cap ≤ maxLen ∧ zs.length = cap ∧ (∀ i, i < zs.length → w.cell? (x.add i) = some (.int .u8 (zs.getD i 0))) ∧ ∀ n ∈ zs, (Lit.int .u8 n).wf = true) :
    Came w a len zs := by
  rcases h with ⟨_, h, _, _⟩ | ⟨x, ha, h1, hm, h2, hc, hw⟩
  · exact ⟨by rw [h]; exact Nat.zero_le _, fun W hb j hj => by omega⟩
  · refine ⟨Nat.le_trans h1 hm, fun W hb j hj => ?_⟩
    have hjz : j < zs.length := by omega
    obtain ⟨b, off, rfl, hc'⟩ := ints_at hc (by omega)
    have c1 := hc' j hjz
    have hbl : b < w.heap.size := World.block_lt_of_cell? w _ c1
    refine ⟨b, off, ha, hbl, (hb.cell (p := ⟨b, off + j, none⟩) hbl).trans c1, ?_⟩
    have : (Lit.int .u8 (zs.getD j 0)).wf = true := hw _ (by rw [List.getD_eq_getElem?_getD, List.getElem?_eq_getElem hjz]; exact List.getElem_mem hjz)
    simp [Lit.wf, IntKind.min, IntKind.max, IntKind.bits, IntKind.signed] at this
    simp
    omega

def GoodL (ts : List Tk) : Prop := ∀ t ∈ ts, 0 ≤ t.nx ∧ t.nx < 8
theorem good_ent {ts : List Tk} {st : Int} {t : Tk} (h : GoodL ts) : GoodL (entL ts st t) := by
  unfold entL
  split
  · rename_i he
    intro u hu
    rw [List.mem_append] at hu
    rcases hu with hu | hu
    · exact h u hu
    · simp at hu
      subst hu
      unfold entR at he
      split at he
      · simp at he
      · rename_i hn
        simp only
        omega
  · exact h

set_option maxRecDepth 100000 in
set_option maxHeartbeats 1000000 in
theorem fill_any (a0 : Option Addr) (l0 c0 : Nat) (z0 : List Int) (w0 w : World) (hw : Below w0.heap.size w0 w) (h0 : Came w0 a0 l0 z0) :
    Calls Try.prog 24 #[.slice a0 l0 c0] w fun e w' => ∃ B ts, e = .returned (.pointer (some ⟨B, 0, none⟩)) ∧ Ss w w' B ts (-1) (.slice none 0 0) [] ∧ GoodL ts := by
  have hm0 := h0.1
  unfold maxLen at hm0
  replace h0 := Kpt.mk h0.2
  replace hw := Kpt.mk hw
  have HN := Kpt.mk (new_any w)
  go_enter Try.func24, Try.ntmps24
  go_wp2_with (go_at_call 10; refine HN.out.mono ?_; rintro e w1 ⟨rfl, rfl⟩)
  have hq0 : Kpt (Ss w (newS w) w.heap.size [] (-1) (.slice none 0 0) []) := ⟨ss_new w w (Below.refl _ _)⟩
  obtain ⟨B, hB⟩ : ∃ B, B = w.heap.size := ⟨_, rfl⟩
  obtain ⟨wq, hwq⟩ : ∃ wq, wq = newS w := ⟨_, rfl⟩
  rw [← hwq, ← hB] at hq0
  rw [← hwq, ← hB]
  clear hwq HN hB
  go_loopw [4] (fun t wr => ∃ (k : Nat) (ts : List Tk), k ≤ l0 ∧ k ≤ 16 ∧ t = .int .i64 k ∧ Kpt (Ss w wr B ts (-1) (.slice none 0 0) []) ∧ Kpt (GoodL ts)) (fun t _ => 16 - (intOf t).toNat)
  case atStart => exact ⟨0, [], Nat.zero_le _, Nat.zero_le _, rfl, hq0, ⟨fun t ht => by simp at ht⟩⟩
  case round =>
    obtain ⟨k, ts, hk, hk16, rfl, hQ, hG⟩ := hrel
    clear hq0
    by_cases hlt : k < l0 ∧ k < 16
    · obtain ⟨b, off, rfl, hbl, hc, hr⟩ := h0.out wr (hw.out.trans (hQ.out.below.mono hw.out.size)) k hlt.1
      have hblw : b < w.heap.size := Nat.lt_of_lt_of_le hbl hw.out.size
      have e1 : (k : Int) < l0 := by omega
      have e2 : (k : Int) < 16 := by omega
      obtain ⟨x, hx⟩ : ∃ x, x = z0.getD k 0 := ⟨_, rfl⟩
      rw [← hx] at hc hr
      clear hx hlt
      have HE : Kpt (∀ W, Ss w W B ts (-1) (.slice none 0 0) [] → Calls Try.prog 18 #[.pointer (some ⟨B, 0, none⟩), .agg #[.int .i64 (x / 4 % 3), .int .u32 k, .int .u8 (x % 3), .bool false]] W fun e w' => e = .returned (.tuple #[.int .u8 (entR ts (-1) ⟨x / 4 % 3, k, x % 3, false⟩).1, .int .i64 (entR ts (-1) ⟨x / 4 % 3, k, x % 3, false⟩).2]) ∧ Ss w w' B (entL ts (-1) ⟨x / 4 % 3, k, x % 3, false⟩) (-1) (.slice none 0 0) []) := ⟨fun W hW => ss_enter ⟨x / 4 % 3, k, x % 3, false⟩ hW⟩
      go_wp2
      refine wp_region_any (by kernel_rfl) ?_
      refine wpAny_of_C (C := fun W => W.cell? ⟨b, off + k, none⟩ = some (.int .u8 x)) _ _ _ _ ?_
      refine wpAnyC_take 0 (.pointer (some ⟨B, 0, none⟩)) rfl (by kernel_rfl) (by kernel_rfl) (by kernel_rfl) (fun _ _ _ h => h) (wanted_free rfl _) (fun W hW => by go_simp) ?_
      simp only [Act.put, List.setIfInBounds_toArray, List.set_cons_succ, List.set_cons_zero]
      refine wpAnyC_take 1 (.slice (some ⟨b, off, none⟩) l0 c0) rfl (by kernel_rfl) (by kernel_rfl) (by kernel_rfl) (fun _ _ _ h => h) (wanted_free rfl _) (fun W hW => by go_simp) ?_
      simp only [Act.put, List.setIfInBounds_toArray, List.set_cons_succ, List.set_cons_zero]
      refine wpAnyC_take 2 (.int .i64 k) rfl (by kernel_rfl) (by kernel_rfl) (by kernel_rfl) (fun _ _ _ h => h) (wanted_free rfl _) (fun W hW => by go_simp) ?_
      simp only [Act.put, List.setIfInBounds_toArray, List.set_cons_succ, List.set_cons_zero]
      refine wpAnyC_take 3 (.pointer (some ⟨b, off + k, none⟩)) rfl (by kernel_rfl) (by kernel_rfl) (by kernel_rfl) (fun _ _ _ h => h) (wanted_free rfl _) (fun W hW => by go_simp) ?_
      simp only [Act.put, List.setIfInBounds_toArray, List.set_cons_succ, List.set_cons_zero]
      refine wpAnyC_take 4 (.int .u8 x) rfl (by kernel_rfl) (by kernel_rfl) (by kernel_rfl) (fun _ _ _ h => h) (wanted_free rfl _) (fun W hW => by go_simp) ?_
      simp only [Act.put, List.setIfInBounds_toArray, List.set_cons_succ, List.set_cons_zero]
      refine wpAnyC_take 5 (.int .u8 (x / 4)) rfl (by kernel_rfl) (by kernel_rfl) (by kernel_rfl) (fun _ _ _ h => h) (wanted_free rfl _) (fun W hW => by go_simp; rw [Int.tdiv_eq_ediv_of_nonneg hr.1, IntKind.wrap_u8]; omega) ?_
      simp only [Act.put, List.setIfInBounds_toArray, List.set_cons_succ, List.set_cons_zero]
      refine wpAnyC_take 6 (.int .i64 (x / 4)) rfl (by kernel_rfl) (by kernel_rfl) (by kernel_rfl) (fun _ _ _ h => h) (wanted_free rfl _) (fun W hW => by go_simp; rw [IntKind.wrap_i64]; omega) ?_
      simp only [Act.put, List.setIfInBounds_toArray, List.set_cons_succ, List.set_cons_zero]
      refine wpAnyC_take 7 (.int .i64 (x / 4 % 3)) rfl (by kernel_rfl) (by kernel_rfl) (by kernel_rfl) (fun _ _ _ h => h) (wanted_free rfl _) (fun W hW => by go_simp; first | done | (rw [Int.tmod_eq_emod_of_nonneg (by omega)]; done) | (rw [Int.tmod_eq_emod_of_nonneg (by omega), IntKind.wrap_i64]; omega)) ?_
      simp only [Act.put, List.setIfInBounds_toArray, List.set_cons_succ, List.set_cons_zero]
      refine wpAnyC_take 8 (.int .i64 k) rfl (by kernel_rfl) (by kernel_rfl) (by kernel_rfl) (fun _ _ _ h => h) (wanted_free rfl _) (fun W hW => by go_simp) ?_
      simp only [Act.put, List.setIfInBounds_toArray, List.set_cons_succ, List.set_cons_zero]
      refine wpAnyC_take 9 (.int .u32 k) rfl (by kernel_rfl) (by kernel_rfl) (by kernel_rfl) (fun _ _ _ h => h) (wanted_free rfl _) (fun W hW => by go_simp; rw [IntKind.wrap_u32]; omega) ?_
      simp only [Act.put, List.setIfInBounds_toArray, List.set_cons_succ, List.set_cons_zero]
      refine wpAnyC_take 10 (.slice (some ⟨b, off, none⟩) l0 c0) rfl (by kernel_rfl) (by kernel_rfl) (by kernel_rfl) (fun _ _ _ h => h) (wanted_free rfl _) (fun W hW => by go_simp) ?_
      simp only [Act.put, List.setIfInBounds_toArray, List.set_cons_succ, List.set_cons_zero]
      refine wpAnyC_take 11 (.int .i64 k) rfl (by kernel_rfl) (by kernel_rfl) (by kernel_rfl) (fun _ _ _ h => h) (wanted_free rfl _) (fun W hW => by go_simp) ?_
      simp only [Act.put, List.setIfInBounds_toArray, List.set_cons_succ, List.set_cons_zero]
      refine wpAnyC_take 12 (.pointer (some ⟨b, off + k, none⟩)) rfl (by kernel_rfl) (by kernel_rfl) (by kernel_rfl) (fun _ _ _ h => h) (wanted_free rfl _) (fun W hW => by go_simp) ?_
      simp only [Act.put, List.setIfInBounds_toArray, List.set_cons_succ, List.set_cons_zero]
      refine wpAnyC_take 13 (.int .u8 x) rfl (by kernel_rfl) (by kernel_rfl) (by kernel_rfl) (fun _ _ _ h => h) (wanted_free rfl _) (fun W hW => by go_simp) ?_
      simp only [Act.put, List.setIfInBounds_toArray, List.set_cons_succ, List.set_cons_zero]
      refine wpAnyC_take 14 (.int .u8 (x % 3)) rfl (by kernel_rfl) (by kernel_rfl) (by kernel_rfl) (fun _ _ _ h => h) (wanted_free rfl _) (fun W hW => by go_simp; first | done | (rw [Int.tmod_eq_emod_of_nonneg hr.1]; done) | (rw [Int.tmod_eq_emod_of_nonneg hr.1, IntKind.wrap_u8]; omega)) ?_
      simp only [Act.put, List.setIfInBounds_toArray, List.set_cons_succ, List.set_cons_zero]
      refine wpAnyC_take 15 (.agg #[.int .i64 (x / 4 % 3), .int .u32 k, .int .u8 (x % 3), .bool false]) rfl (by kernel_rfl) (by kernel_rfl) (by kernel_rfl) (fun _ _ _ h => h) (wanted_free rfl _) (fun W hW => by go_simp) ?_
      simp only [Act.put, List.setIfInBounds_toArray, List.set_cons_succ, List.set_cons_zero]
      refine wpAnyC_one 16 hc rfl (by kernel_rfl) (wanted_free rfl _) (fun KA hKA => ?_)
      go_simp
      refine (HE.out _ (hQ.out.grow (below_drewN (Below.refl _ _) 1))).mono ?_
      rintro e w2 ⟨rfl, hq2⟩
      refine hKA _ _ ?_
      clear hKA KA
      have hc2 : w2.cell? ⟨b, off + k, none⟩ = some (.int .u8 x) := (hq2.below.cell (p := ⟨b, off + k, none⟩) hblw).trans ((hQ.out.below.cell (p := ⟨b, off + k, none⟩) hblw).symm.trans hc)
      refine wpAnyC_done hc2 (by kernel_rfl) ?_
      replace hq2 := Kpt.mk hq2
      have hG2 : Kpt (GoodL (entL ts (-1) ⟨x / 4 % 3, k, x % 3, false⟩)) := ⟨good_ent hG.out⟩
      clear hc2 HE
      go_wp2
      go_roundw
      case rel => exact ⟨k + 1, _, by omega, by omega, by go_num, hq2, hG2⟩
      case measure => simp [intOf]; omega
    · have hor : ¬ (k : Int) < l0 ∨ ((k : Int) < l0 ∧ ¬ (k : Int) < 16) := by omega
      rcases hor with e2 | ⟨e2, e3⟩
      all_goals
        go_wp2
        go_ret
        first | exact ⟨B, ts, rfl, hQ.out, hG.out⟩ | exact ⟨B, rfl, ts, hQ.out, hG.out⟩
end Go.Proofs.Ytcnefmfmmgdidaa
