/-
  The contract of Save.
-/
import Derived.Test.YtmnoolcffkjmhaaPGood
import Derived.Test.YtmnoolcffkjmhaaBPut
import Derived.Laws.AppendOwn
import Derived.Deep.OwnRows
namespace Go.Proofs.Ytmnoolcffkjmhaa
open Go.RowKit
set_option linter.unusedVariables false
set_option linter.unusedSimpArgs false

/-- A slice of bytes, owned whole. -/
def OwnB (base : Nat) (w : World) (v : Value) (zs : List Int) : Prop := w.ownsRow base 5 1 v zs.length (zs.map (Value.int .u8))
/-- A key as eight bytes. -/
def be8 (x : Int) : List Int := B.asc [0, 0, 0, 0, 0, 0, 0, 0] 0 8 x 8
theorem be8_len (x : Int) : (be8 x).length = 8 := by unfold be8; rw [B.asc_len]; rfl
def regB (r : Int × Int) : List Int := r.1 :: be8 r.2
def headB (t : Tb) : List Int := [80, 82, t.res.1, if t.res.2 = -1 then 255 else t.res.2, t.regs.length]
def bodyB (l : List (Int × Int)) : List Int := l.flatMap regB
def Tb.save (t : Tb) : List Int := headB t ++ bodyB t.regs
theorem bodyB_len (l : List (Int × Int)) : (bodyB l).length = l.length * 9 := by
  induction l with
  | nil => rfl
  | cons r l ih => unfold bodyB at ih ⊢; rw [List.flatMap_cons, List.length_append, ih]; simp [regB, be8_len, Nat.add_mul]; omega
theorem bodyB_step (l : List (Int × Int)) (k : Nat) (r : Int × Int) (h : l[k]? = some r) : bodyB (l.take (k + 1)) = bodyB (l.take k) ++ (r.1 :: be8 r.2) := by
  rw [List.take_add_one, h]
  simp [bodyB, regB]

theorem OwnB.lt {base : Nat} {w : World} {v : Value} {zs : List Int} (h : OwnB base w v zs) {g : Nat} (hg : v.ownBlock = some g) : base ≤ g ∧ g < w.heap.size := World.ownsRow.lt h g hg
theorem OwnB.of_block {base : Nat} {w w' : World} {v : Value} {zs : List Int} (h : OwnB base w v zs) (hb : ∀ g, v.ownBlock = some g → w'.heap[g]? = w.heap[g]?) : OwnB base w' v zs := by
  refine ⟨h.1, ?_⟩
  rcases h.2 with hn | ⟨g, cap, cur, rfl, h0, hgg, rest⟩
  · exact .inl hn
  · exact .inr ⟨g, cap, cur, rfl, h0, (hb g rfl).trans hgg, rest⟩
theorem OwnB.lower {base base' : Nat} {w : World} {v : Value} {zs : List Int} (h : OwnB base w v zs) (hb : base' ≤ base) : OwnB base' w v zs := by
  refine ⟨h.1, ?_⟩
  rcases h.2 with h | ⟨g, cap, cur, rfl, h0, rest⟩
  · exact .inl h
  · exact .inr ⟨g, cap, cur, rfl, Nat.le_trans hb h0, rest⟩

theorem ownB_new (w : World) (zs : List Int) {n : Nat} (hn : n = zs.length) (hl : zs.length ≤ 1000 := by simp) : OwnB w.heap.size (w.alloc (.cells (zs.map (Value.int .u8)).toArray 5)) (.slice (some ⟨w.heap.size, 0, none⟩) n n) zs := by
  subst hn
  exact B.row_own (by first | exact heap_alloc_new _ _ | exact World.heap_alloc_new _ _) (by simp) (by unfold maxLen; omega) (Nat.le_refl _)
/-- append of bytes that can be read. -/
theorem wpList_append_bytes {w : World} {ops : Array Oper} {rest : List Oper} {o : Oper} {a : Act} {Q : Exit → Act → World → Prop} (hgd : o.guard = none) (d s : Operand)
    (ho : o.op = .call { callee := .builtin .append, args := #[d, s], argTypes := #[39, 39] })
    (base : Nat) (v : Value) (ts us : List Int) (g n c : Nat) (hn : n = us.length) (hd : a.eval d = v) (hs : a.eval s = .slice (some ⟨g, 0, none⟩) n c) (hc : ∀ j u, (us.map (Value.int .u8))[j]? = some u → w.cell? ⟨g, j, none⟩ = some u) (hown : OwnB base w v ts) (hl : ts.length + us.length ≤ 1000) (hbase : base ≤ w.heap.size)
    (h : ∀ v' w', Kpt (OwnB base w' v' (ts ++ us)) → Kpt (w.grownBy w' v.ownBlock) → Kpt (v'.ownBlock = v.ownBlock ∨ v'.ownBlock = some w.heap.size) → wpList Try.prog ops Q rest (a.put o.dst v') w') : wpList Try.prog ops Q (o :: rest) a w := by
  obtain ⟨i0, hi0, hz0, hz1, hz2⟩ := info_parts B.Try.info5
  subst hn
  refine wpList_append_own_at _ hgd d s 39 ho base 5 i0 (.int .u8 0) 1 1 Try.underlying39 hi0 hz0 hz1 hz2 rfl (by decide) v ts.length (ts.map (Value.int .u8)) hd hown ⟨g, 0, none⟩ us.length c (us.map (Value.int .u8)) hs (by simp) (fun j u hu => by rw [Go.WideShapes.add_plain, Nat.zero_add]; exact hc j u hu) (fun u hu => by obtain ⟨z, _, rfl⟩ := List.mem_map.1 hu; rfl) (by unfold maxLen; omega) (by omega) hbase ?_
  intro v' w' h1 h2 _ h3
  exact h v' w' ⟨by unfold OwnB; rw [List.map_append, List.length_append]; exact h1⟩ ⟨h2⟩ ⟨h3⟩

abbrev zero8 : Array Value := #[.int .u8 0, .int .u8 0, .int .u8 0, .int .u8 0, .int .u8 0, .int .u8 0, .int .u8 0, .int .u8 0]
theorem made8 : madeCells #[Value.int .u8 0] 8 = zero8 := by
  apply Array.ext
  · simp [madeCells]
  · intro i h1 h2
    have hi : i < 8 := by simpa using h2
    obtain rfl | rfl | rfl | rfl | rfl | rfl | rfl | rfl : i = 0 ∨ i = 1 ∨ i = 2 ∨ i = 3 ∨ i = 4 ∨ i = 5 ∨ i = 6 ∨ i = 7 := by omega
    all_goals simp [madeCells]
theorem make8 (W : World) : (Instr.makeSlice 39 (.int .i64 8) (.int .i64 8)).run Try.prog W = .ok (.slice (some ⟨W.heap.size, 0, none⟩) 8 8) (W.alloc (.cells zero8 5)) :=
  by
    have h := run_make_row' (P := Try.prog) 39 5 (.int .u8 0) 1 Try.underlying39 B.Try.info5 rfl .i64 .i64 8 (by omega) (by omega) W
    rw [made8] at h
    exact h
theorem put8 (g : Nat) (x : Int) (W : World) (hx : 0 ≤ x ∧ x < 18446744073709551616) (h : ∀ j, j < 8 → W.cell? ⟨g, j, none⟩ = some (.int .u8 0)) :
    Calls Try.prog 30 #[.slice (some ⟨g, 0, none⟩) 8 8, .int .i64 0, .int .i64 8, .int .u64 x] W fun e w' => ∃ g', e = .returned (.tuple #[.slice (some ⟨g', 0, none⟩) 8 8, .int .i64 0]) ∧ OwnB W.heap.size w' (.slice (some ⟨g', 0, none⟩) 8 8) (be8 x) ∧ Below W.heap.size W w' := by
  have hd : x / 2 ^ (8 * 8) = 0 := by
    have : (2 : Int) ^ (8 * 8) = 18446744073709551616 := by decide
    rw [this]; omega
  have := B.put_ok g 0 8 8 0 8 x [0, 0, 0, 0, 0, 0, 0, 0] W rfl (by omega) (by omega) (by omega) (by omega) hx.1 (by rw [hd]; rfl) (fun j hj => by
    rw [Nat.zero_add, h j hj]
    obtain rfl | rfl | rfl | rfl | rfl | rfl | rfl | rfl : j = 0 ∨ j = 1 ∨ j = 2 ∨ j = 3 ∨ j = 4 ∨ j = 5 ∨ j = 6 ∨ j = 7 := by omega
    all_goals rfl)
  exact this.mono fun e w' ⟨g', h1, h2, h3⟩ => ⟨g', h1, by unfold OwnB; rw [be8_len]; exact h2, h3⟩
theorem one_cell (W : World) (p : Int) (b : Nat) (hb : b = W.heap.size) : ∀ (j : Nat) (u : Value), ([p].map (Value.int .u8))[j]? = some u → (W.alloc (.cells #[.int .u8 p] 5)).cell? ⟨b, j, none⟩ = some u := fun j u hu => by
  subst hb
  have hj : j = 0 := by have := (List.getElem?_eq_some_iff.1 hu).1; simpa using this
  subst hj
  simp at hu
  subst hu
  simp
theorem cell8 (W : World) (b : Nat) (hb : b = W.heap.size) : ∀ j, j < 8 → (W.alloc (.cells zero8 5)).drew.cell? ⟨b, j, none⟩ = some (.int .u8 0) := fun j hj => by
  subst hb
  have : (W.alloc (.cells zero8 5)).drew.cell? ⟨W.heap.size, j, none⟩ = zero8[j]? := by simp
  rw [this]
  obtain rfl | rfl | rfl | rfl | rfl | rfl | rfl | rfl : j = 0 ∨ j = 1 ∨ j = 2 ∨ j = 3 ∨ j = 4 ∨ j = 5 ∨ j = 6 ∨ j = 7 := by omega
  all_goals rfl

set_option maxRecDepth 100000 in
set_option maxHeartbeats 2000000 in
theorem save_last (B : Nat) (t : Tb) (w : World) (h : Tab w B t) (hg : t.good) (hla : t.la = true) :
    Calls Try.prog 12 #[.pointer (some ⟨B, 0, none⟩)] w fun e w' => ∃ v, e = .returned v ∧ OwnB w.heap.size w' v t.save ∧ Below w.heap.size w w' := by
  have HLa := Kpt.mk (lasts_any B t w h)
  rw [hla] at HLa
  have HRv := Kpt.mk (reserved_any B t w h)
  have hT := Kpt.mk h
  have hl8 := regs_len t
  have hhead : Kpt (headB t = [80, 82, t.res.1, if t.res.2 = -1 then 255 else t.res.2, t.regs.length]) := ⟨rfl⟩
  have hr2 : Kpt (t.res.2 = -1 ∨ 0 ≤ t.res.2 ∧ t.res.2 < 8) := ⟨by
    unfold Tb.res
    by_cases h0 : t.kd = 0
    · simp [h0]
    · rw [if_neg h0]
      cases hal : isAll t.kd with
      | true => simp
      | false => obtain ⟨a, b, _⟩ := hg.one h0 hal; simp; omega⟩
  have hkr : Kpt (∀ r ∈ t.regs, (0 ≤ r.1 ∧ r.1 < 8) ∧ (0 ≤ r.2 ∧ r.2 < 18446744073709551616)) := ⟨fun r hr => by
    obtain ⟨m, hm, rfl, _⟩ := (regs_mem t r).1 hr
    exact ⟨by simp; omega, hg.kr m hm⟩⟩
  generalize t.res.1 = r1 at *
  generalize t.res.2 = r2 at *
  clear h hg hla
  obtain ⟨X, hX⟩ : ∃ X : Int, Kpt (headB t = [80, 82, r1, X, t.regs.length]) ∧ ((r2 = -1 ∧ X = 255) ∨ ((0 ≤ r2 ∧ r2 < 8) ∧ X = r2)) := by
    rcases hr2.out with e | e
    · exact ⟨255, ⟨by rw [hhead.out, if_pos e]⟩, .inl ⟨e, rfl⟩⟩
    · exact ⟨r2, ⟨by rw [hhead.out, if_neg (by omega)]⟩, .inr ⟨e, rfl⟩⟩
  clear hhead hr2
  obtain ⟨hhead, hX⟩ := hX
  rcases hX with ⟨rfl, hXe⟩ | ⟨hr2, rfl⟩
  case inl =>
    subst hXe
    go_enter Try.func12, Try.ntmps12
    go_wp2_with (first
      | (go_at_call 19; go_must (refine (regs_any B t _ (hT2.out)).mono ?_; rintro e w3 ⟨v3, rfl, hO3, hB3⟩; obtain ⟨a3, c3, hv3, hs3⟩ := hO3.shape; subst hv3; obtain ⟨m, hm⟩ : ∃ m, m = t.regs.length := ⟨_, rfl⟩; rw [← hm] at hs3 hl8 hhead ⊢; replace hm := Kpt.mk hm; replace hs3 := Kpt.mk hs3; have hm8 : (m : Int) ≤ 8 := (by omega); clear hO3; have hB4 : Kpt (Below w.heap.size w w3) := ⟨hB2.out.trans (hB3.mono hB2.out.size)⟩; clear hB3))
      | (go_at_call 20; go_must (refine HRv.out.mono ?_; rintro e w2 ⟨rfl, q, hq⟩; have hB2 : Kpt (Below w.heap.size w w2) := ⟨by rw [hq]; exact below_drewN (Below.refl _ _) q⟩; have hT2 : Kpt (Tab w2 B t) := ⟨by rw [hq]; exact hT.out.drewN q⟩; clear hq))
      | (go_at_call 29; go_must (refine HLa.out.mono ?_; rintro e w ⟨rfl, rfl⟩)))
    have hB3 : Kpt (w3.heap.size = w3.heap.size) := ⟨rfl⟩
    go_loopw [6, 34] (fun r i wr => ∃ (k : Nat) (x : Value), k ≤ m ∧ r = x ∧ i = .int .i64 k ∧ Kpt (OwnB w3.heap.size wr x (headB t ++ bodyB (t.regs.take k))) ∧ Kpt (Below w3.heap.size w3 wr)) (fun _ i _ => m - (intOf i).toNat)
    case atStart => exact ⟨0, _, Nat.zero_le _, rfl, rfl, ⟨by rw [hhead.out]; simpa [bodyB] using ownB_new w3 [80, 82, r1, _, (m : Int)] rfl⟩, ⟨(Below.refl _ _).alloc (Nat.le_refl _) _⟩⟩
    case round =>
      obtain ⟨k, x, hk, hx0, rfl, hO, hB⟩ := hrel
      replace hx0 := hx0.symm
      subst hx0
      by_cases hlt2 : k < m
      · have e1 : (k : Int) < m := by omega
        have hkz : k < t.regs.length := by rw [← hm.out]; exact hlt2
        obtain ⟨r, hr⟩ : ∃ r, t.regs[k]? = some r := ⟨_, List.getElem?_eq_getElem hkz⟩
        rcases hs3.out with ⟨_, _, hz⟩ | ⟨g, rfl, hbg, hg, hc1, hc2, hrr⟩
        · omega
        obtain ⟨r0, r1'⟩ := range2 (rangeAt_of_block (hrr k r hr) (hB.out.block g hg))
        have hst := Kpt.mk (bodyB_step t.regs k r hr)
        obtain ⟨hq1, hq2⟩ := hkr.out r (List.mem_of_getElem? hr)
        obtain ⟨p1, p2⟩ := r
        simp only at r0 r1' hst hq1 hq2
        have hp1 : p1 % 256 = p1 := by omega
        have hgl : g < wr.heap.size := Nat.lt_of_lt_of_le hg hB.out.size
        have hs1 : w3.heap.size ≤ wr.heap.size := hB.out.size
        clear hrr hr hs3
        go_wp2_with fail
        have hmk := make8
        go_region_with ((go_at_call 30; go_must (refine (put8 (wr.heap.size + 1) p2 _ hq2 (cell8 (wr.alloc (.cells #[.int .i64 p1, .int .u64 p2] 67)) _ (by simp))).mono ?_; rintro e w5 ⟨g5, rfl, hO5, hB5⟩; have hs5 : wr.heap.size + 2 ≤ w5.heap.size := (by have := hB5.size; simpa using this); have hwx : Kpt (OwnB w3.heap.size w5 x (headB t ++ bodyB (t.regs.take k))) := ⟨hO.out.of_block (fun g hg => by have hlt := (hO.out.lt hg).2; exact (hB5.block g (by simp; omega)).trans ((Below.heap_alloc _ _ _ (by simp; omega)).trans (Below.heap_alloc _ _ _ hlt)))⟩; have hb0 : w5.cell? ⟨wr.heap.size, 0, none⟩ = some (.int .i64 p1) := ((hB5.cell (p := ⟨wr.heap.size, 0, none⟩) (by simp; omega)).trans (by simp)); have hB35 : Kpt (Below w3.heap.size w3 w5) := ⟨((((hB.out.alloc hB.out.size _).alloc (by simp; omega) _).trans ((below_drewN (Below.refl _ _) 1).trans hB5 |>.mono (by simp; omega))))⟩; have hk5 : Kpt (wr.heap.size + 2 ≤ g5 ∧ g5 < w5.heap.size) := ⟨by have := hO5.lt rfl; simpa using this⟩; have hc5 : Kpt (∀ j u, ((be8 p2).map (Value.int .u8))[j]? = some u → w5.cell? ⟨g5, j, none⟩ = some u) := ⟨fun j u hu => by have hj : j < 8 := (by have := (List.getElem?_eq_some_iff.1 hu).1; simpa [be8_len] using this); rw [World.ownsRow.cellAt hO5 j (by first | omega | (rw [be8_len]; omega)), hu]⟩; clear hO5 hB5)))
        all_goals
          clear hmk
          have hl9 := Kpt.mk (bodyB_len (t.regs.take k))
          have hx1 : Kpt (∀ g, x.ownBlock = some g → w3.heap.size ≤ g ∧ g < wr.heap.size) := ⟨fun g hg => hO.out.lt hg⟩
          have hll : Kpt ((headB t ++ bodyB (t.regs.take k)).length ≤ 100) := ⟨by rw [List.length_append, hl9.out, hhead.out]; have : (t.regs.take k).length ≤ 8 := (by simp; omega); simp only [List.length_cons, List.length_nil]; omega⟩
          generalize hLe : headB t ++ bodyB (t.regs.take k) = L at *
          replace hLe := Kpt.mk hLe
          go_wp2_with (first
            | (at_builtin; have hmm := m1; go_must (refine wpList_append_bytes rfl (.tmp 51) (.tmp 52) rfl w3.heap.size v6 (L ++ [p1]) (be8 p2) g5 8 8 (be8_len p2).symm rfl rfl hc6.out ho6.out (by have := hll.out; rw [be8_len]; simp; omega) (by omega) ?_; intro v7 w7 ho7 hg7 hor7))
            | (at_builtin; go_must (refine wpList_append_bytes rfl (.tmp 45) (.tmp 49) rfl w3.heap.size x L [p1] w5.heap.size 1 1 rfl rfl rfl (one_cell w5 p1 _ rfl) (hwx.out.of_block (fun g hg => Below.heap_alloc _ _ _ (hwx.out.lt hg).2)) (by have := hll.out; simp; omega) (by simp; omega) ?_; intro v6 w6 ho6 hg6 hor6; have hc6 : Kpt (∀ j u, ((be8 p2).map (Value.int .u8))[j]? = some u → w6.cell? ⟨g5, j, none⟩ = some u) := ⟨fun j u hu => by have h5 := hk5.out; exact (World.cell?_of_block (w := w5) (w' := w6) (a := ⟨g5, j, none⟩) ((hg6.out.block g5 (by simp; omega) (fun e => by have := (hx1.out g5 e.symm).2; omega)).trans (Below.heap_alloc _ _ _ h5.2))).trans (hc5.out j u hu)⟩; have hB6 : Kpt (Below w3.heap.size w3 w6) := ⟨(hB35.out.alloc (by omega) _).grown hg6.out (by simp; omega) (fun g hg => (hx1.out g hg).1)⟩; have hs6 : w5.heap.size < w6.heap.size := Nat.lt_of_lt_of_le (by simp) hg6.out.size; have m1 : Kpt True := ⟨trivial⟩)))
          have hB7 : Kpt (Below w3.heap.size w3 w7) := ⟨hB6.out.grown hg7.out (by omega) (fun g hg => (ho6.out.lt hg).1)⟩
          go_wp2
          go_roundw
          case rel => exact ⟨k + 1, v7, by omega, rfl, by go_num, ⟨by have := ho7.out; rw [hst.out, ← List.append_assoc, hLe.out]; simpa using this⟩, hB7⟩
          case measure => simp [intOf]; omega
      · have e1 : ¬ (k : Int) < m := by omega
        have ek : k = m := by omega
        have hfi : Kpt (t.regs.take k = t.regs) := ⟨by rw [ek, hm.out]; simp⟩
        go_wp2
        go_ret
        exact ⟨x, rfl, by have := hO.out; rw [hfi.out] at this; exact this.lower hB4.out.size, hB4.out.trans (hB.out.mono hB4.out.size)⟩
  case inr =>
    have hXe : X % 256 = X := by omega
    have hXn : ((X : Int) != -1) = true := by simp; omega
    go_enter Try.func12, Try.ntmps12
    go_wp2_with (first
      | (go_at_call 19; go_must (refine (regs_any B t _ (hT2.out)).mono ?_; rintro e w3 ⟨v3, rfl, hO3, hB3⟩; obtain ⟨a3, c3, hv3, hs3⟩ := hO3.shape; subst hv3; obtain ⟨m, hm⟩ : ∃ m, m = t.regs.length := ⟨_, rfl⟩; rw [← hm] at hs3 hl8 hhead ⊢; replace hm := Kpt.mk hm; replace hs3 := Kpt.mk hs3; have hm8 : (m : Int) ≤ 8 := (by omega); clear hO3; have hB4 : Kpt (Below w.heap.size w w3) := ⟨hB2.out.trans (hB3.mono hB2.out.size)⟩; clear hB3))
      | (go_at_call 20; go_must (refine HRv.out.mono ?_; rintro e w2 ⟨rfl, q, hq⟩; have hB2 : Kpt (Below w.heap.size w w2) := ⟨by rw [hq]; exact below_drewN (Below.refl _ _) q⟩; have hT2 : Kpt (Tab w2 B t) := ⟨by rw [hq]; exact hT.out.drewN q⟩; clear hq))
      | (go_at_call 29; go_must (refine HLa.out.mono ?_; rintro e w ⟨rfl, rfl⟩)))
    have hB3 : Kpt (w3.heap.size = w3.heap.size) := ⟨rfl⟩
    go_loopw [6, 34] (fun r i wr => ∃ (k : Nat) (x : Value), k ≤ m ∧ r = x ∧ i = .int .i64 k ∧ Kpt (OwnB w3.heap.size wr x (headB t ++ bodyB (t.regs.take k))) ∧ Kpt (Below w3.heap.size w3 wr)) (fun _ i _ => m - (intOf i).toNat)
    case atStart => exact ⟨0, _, Nat.zero_le _, rfl, rfl, ⟨by rw [hhead.out]; simpa [bodyB] using ownB_new w3 [80, 82, r1, _, (m : Int)] rfl⟩, ⟨(Below.refl _ _).alloc (Nat.le_refl _) _⟩⟩
    case round =>
      obtain ⟨k, x, hk, hx0, rfl, hO, hB⟩ := hrel
      replace hx0 := hx0.symm
      subst hx0
      by_cases hlt2 : k < m
      · have e1 : (k : Int) < m := by omega
        have hkz : k < t.regs.length := by rw [← hm.out]; exact hlt2
        obtain ⟨r, hr⟩ : ∃ r, t.regs[k]? = some r := ⟨_, List.getElem?_eq_getElem hkz⟩
        rcases hs3.out with ⟨_, _, hz⟩ | ⟨g, rfl, hbg, hg, hc1, hc2, hrr⟩
        · omega
        obtain ⟨r0, r1'⟩ := range2 (rangeAt_of_block (hrr k r hr) (hB.out.block g hg))
        have hst := Kpt.mk (bodyB_step t.regs k r hr)
        obtain ⟨hq1, hq2⟩ := hkr.out r (List.mem_of_getElem? hr)
        obtain ⟨p1, p2⟩ := r
        simp only at r0 r1' hst hq1 hq2
        have hp1 : p1 % 256 = p1 := by omega
        have hgl : g < wr.heap.size := Nat.lt_of_lt_of_le hg hB.out.size
        have hs1 : w3.heap.size ≤ wr.heap.size := hB.out.size
        clear hrr hr hs3
        go_wp2_with fail
        have hmk := make8
        go_region_with ((go_at_call 30; go_must (refine (put8 (wr.heap.size + 1) p2 _ hq2 (cell8 (wr.alloc (.cells #[.int .i64 p1, .int .u64 p2] 67)) _ (by simp))).mono ?_; rintro e w5 ⟨g5, rfl, hO5, hB5⟩; have hs5 : wr.heap.size + 2 ≤ w5.heap.size := (by have := hB5.size; simpa using this); have hwx : Kpt (OwnB w3.heap.size w5 x (headB t ++ bodyB (t.regs.take k))) := ⟨hO.out.of_block (fun g hg => by have hlt := (hO.out.lt hg).2; exact (hB5.block g (by simp; omega)).trans ((Below.heap_alloc _ _ _ (by simp; omega)).trans (Below.heap_alloc _ _ _ hlt)))⟩; have hb0 : w5.cell? ⟨wr.heap.size, 0, none⟩ = some (.int .i64 p1) := ((hB5.cell (p := ⟨wr.heap.size, 0, none⟩) (by simp; omega)).trans (by simp)); have hB35 : Kpt (Below w3.heap.size w3 w5) := ⟨((((hB.out.alloc hB.out.size _).alloc (by simp; omega) _).trans ((below_drewN (Below.refl _ _) 1).trans hB5 |>.mono (by simp; omega))))⟩; have hk5 : Kpt (wr.heap.size + 2 ≤ g5 ∧ g5 < w5.heap.size) := ⟨by have := hO5.lt rfl; simpa using this⟩; have hc5 : Kpt (∀ j u, ((be8 p2).map (Value.int .u8))[j]? = some u → w5.cell? ⟨g5, j, none⟩ = some u) := ⟨fun j u hu => by have hj : j < 8 := (by have := (List.getElem?_eq_some_iff.1 hu).1; simpa [be8_len] using this); rw [World.ownsRow.cellAt hO5 j (by first | omega | (rw [be8_len]; omega)), hu]⟩; clear hO5 hB5)))
        all_goals
          clear hmk
          have hl9 := Kpt.mk (bodyB_len (t.regs.take k))
          have hx1 : Kpt (∀ g, x.ownBlock = some g → w3.heap.size ≤ g ∧ g < wr.heap.size) := ⟨fun g hg => hO.out.lt hg⟩
          have hll : Kpt ((headB t ++ bodyB (t.regs.take k)).length ≤ 100) := ⟨by rw [List.length_append, hl9.out, hhead.out]; have : (t.regs.take k).length ≤ 8 := (by simp; omega); simp only [List.length_cons, List.length_nil]; omega⟩
          generalize hLe : headB t ++ bodyB (t.regs.take k) = L at *
          replace hLe := Kpt.mk hLe
          go_wp2_with (first
            | (at_builtin; have hmm := m1; go_must (refine wpList_append_bytes rfl (.tmp 51) (.tmp 52) rfl w3.heap.size v6 (L ++ [p1]) (be8 p2) g5 8 8 (be8_len p2).symm rfl rfl hc6.out ho6.out (by have := hll.out; rw [be8_len]; simp; omega) (by omega) ?_; intro v7 w7 ho7 hg7 hor7))
            | (at_builtin; go_must (refine wpList_append_bytes rfl (.tmp 45) (.tmp 49) rfl w3.heap.size x L [p1] w5.heap.size 1 1 rfl rfl rfl (one_cell w5 p1 _ rfl) (hwx.out.of_block (fun g hg => Below.heap_alloc _ _ _ (hwx.out.lt hg).2)) (by have := hll.out; simp; omega) (by simp; omega) ?_; intro v6 w6 ho6 hg6 hor6; have hc6 : Kpt (∀ j u, ((be8 p2).map (Value.int .u8))[j]? = some u → w6.cell? ⟨g5, j, none⟩ = some u) := ⟨fun j u hu => by have h5 := hk5.out; exact (World.cell?_of_block (w := w5) (w' := w6) (a := ⟨g5, j, none⟩) ((hg6.out.block g5 (by simp; omega) (fun e => by have := (hx1.out g5 e.symm).2; omega)).trans (Below.heap_alloc _ _ _ h5.2))).trans (hc5.out j u hu)⟩; have hB6 : Kpt (Below w3.heap.size w3 w6) := ⟨(hB35.out.alloc (by omega) _).grown hg6.out (by simp; omega) (fun g hg => (hx1.out g hg).1)⟩; have hs6 : w5.heap.size < w6.heap.size := Nat.lt_of_lt_of_le (by simp) hg6.out.size; have m1 : Kpt True := ⟨trivial⟩)))
          have hB7 : Kpt (Below w3.heap.size w3 w7) := ⟨hB6.out.grown hg7.out (by omega) (fun g hg => (ho6.out.lt hg).1)⟩
          go_wp2
          go_roundw
          case rel => exact ⟨k + 1, v7, by omega, rfl, by go_num, ⟨by have := ho7.out; rw [hst.out, ← List.append_assoc, hLe.out]; simpa using this⟩, hB7⟩
          case measure => simp [intOf]; omega
      · have e1 : ¬ (k : Int) < m := by omega
        have ek : k = m := by omega
        have hfi : Kpt (t.regs.take k = t.regs) := ⟨by rw [ek, hm.out]; simp⟩
        go_wp2
        go_ret
        exact ⟨x, rfl, by have := hO.out; rw [hfi.out] at this; exact this.lower hB4.out.size, hB4.out.trans (hB.out.mono hB4.out.size)⟩
end Go.Proofs.Ytmnoolcffkjmhaa
