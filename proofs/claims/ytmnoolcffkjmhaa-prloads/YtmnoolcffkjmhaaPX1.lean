/-
  The document's table: what only looks at it.
-/
import Derived.Test.YtmnoolcffkjmhaaPBer
namespace Go.Proofs.Ytmnoolcffkjmhaa
open Go.RowKit
set_option linter.unusedVariables false
set_option linter.unusedSimpArgs false

/-- The document's table tells the same: who holds says something of a type that one nexus holds, of no other. -/
structure RTab (w : World) (B : Nat) (t : Tb) (h : Int) : Prop where
  lt : B < w.heap.size
  key : ∀ j, j < 8 → w.cell? ⟨B, j, none⟩ = some (.int .u64 (t.ks j))
  c8 : w.cell? ⟨B, 8, none⟩ = some (.int .i64 t.kd)
  c9 : w.cell? ⟨B, 9, none⟩ = some (.int .i64 h)
  c10 : w.cell? ⟨B, 10, none⟩ = some (.int .u32 t.gn)
  c11 : w.cell? ⟨B, 11, none⟩ = some (.bool t.la)
  free : ∀ j, w.frozen? ⟨B, j, none⟩ = false
  hold : t.kd ≠ 0 → isAll t.kd = false → h = t.ho

section
variable {w w' : World} {B : Nat} {t : Tb} {h : Int}
theorem RTab.of_block (H : RTab w B t h) (hs : B < w'.heap.size) (hb : w'.heap[B]? = w.heap[B]?) : RTab w' B t h :=
  have c : ∀ j, w'.cell? ⟨B, j, none⟩ = w.cell? ⟨B, j, none⟩ := fun j => World.cell?_of_block (w := w) (w' := w') (a := ⟨B, j, none⟩) hb
  ⟨hs, fun j hj => (c j).trans (H.key j hj), (c 8).trans H.c8, (c 9).trans H.c9, (c 10).trans H.c10, (c 11).trans H.c11, fun j => (World.frozen?_of_block (w := w) (w' := w') (a := ⟨B, j, none⟩) hb).trans (H.free j), H.hold⟩
theorem RTab.below {n : Nat} (H : RTab w B t h) (hb : Below n w w') (hn : B < n) : RTab w' B t h := H.of_block (Nat.lt_of_lt_of_le H.lt hb.size) (hb.block B hn)
theorem RTab.below' (H : RTab w B t h) (hb : Below w.heap.size w w') : RTab w' B t h := H.below hb H.lt
theorem RTab.alloc (H : RTab w B t h) (o : Obj) : RTab (w.alloc o) B t h := H.of_block (by have := H.lt; simp; omega) (Below.heap_alloc w o B H.lt)
theorem RTab.drewN (H : RTab w B t h) (n : Nat) : RTab (w.drewN n) B t h := ⟨H.lt, H.key, H.c8, H.c9, H.c10, H.c11, H.free, H.hold⟩
theorem RTab.drew (H : RTab w B t h) : RTab w.drew B t h := ⟨H.lt, H.key, H.c8, H.c9, H.c10, H.c11, H.free, H.hold⟩
theorem RTab.grown {row : Option Nat} (H : RTab w B t h) (hg : w.grownBy w' row) (hn : row ≠ some B) : RTab w' B t h :=
  H.of_block (Nat.lt_of_lt_of_le H.lt hg.size) (hg.block B H.lt (fun e => hn e.symm))
theorem RTab.congr {t' : Tb} (H : RTab w B t h) (hk : ∀ j, j < 8 → t'.ks j = t.ks j) (h1 : t'.kd = t.kd) (h3 : t'.gn = t.gn) (h4 : t'.la = t.la) (h2 : t'.kd ≠ 0 → isAll t'.kd = false → h = t'.ho) : RTab w B t' h :=
  ⟨H.lt, fun j hj => by rw [hk j hj]; exact H.key j hj, by rw [h1]; exact H.c8, H.c9, by rw [h3]; exact H.c10, by rw [h4]; exact H.c11, H.free, h2⟩
theorem RTab.setKey (H : RTab w B t h) (n : Nat) (hn : n < 8) (x : Int) : RTab (w.setCell ⟨B, n, none⟩ (.int .u64 x)) B { t with ks := upd t.ks n x } h := by
  refine ⟨by have := H.lt; simpa using this, fun j hj => ?_, (set_other (by omega)).trans H.c8, (set_other (by omega)).trans H.c9, (set_other (by omega)).trans H.c10, (set_other (by omega)).trans H.c11, fun j => by have := H.free j; simpa using this, H.hold⟩
  by_cases e : j = n
  · subst e; rw [set_same (H.key j hn)]; simp [upd]
  · rw [set_other (by omega), H.key j hj]; simp [upd, e]
theorem RTab.setKH (H : RTab w B t h) (x y z : Int) (hz : x ≠ 0 → isAll x = false → y = z) : RTab ((w.setCell ⟨B, 8, none⟩ (.int .i64 x)).setCell ⟨B, 9, none⟩ (.int .i64 y)) B { t with kd := x, ho := z } y :=
  ⟨by have := H.lt; simpa using this, fun j hj => (set_other (by omega)).trans ((set_other (by omega)).trans (H.key j hj)), (set_other (by omega)).trans (set_same H.c8), set_same ((set_other (by omega)).trans H.c9), (set_other (by omega)).trans ((set_other (by omega)).trans H.c10), (set_other (by omega)).trans ((set_other (by omega)).trans H.c11), fun j => by have := H.free j; simpa using this, hz⟩
theorem RTab.setGn (H : RTab w B t h) (x : Int) : RTab (w.setCell ⟨B, 10, none⟩ (.int .u32 x)) B { t with gn := x } h :=
  ⟨by have := H.lt; simpa using this, fun j hj => (set_other (by omega)).trans (H.key j hj), (set_other (by omega)).trans H.c8, (set_other (by omega)).trans H.c9, set_same H.c10, (set_other (by omega)).trans H.c11, fun j => by have := H.free j; simpa using this, H.hold⟩
theorem RTab.setLa (H : RTab w B t h) (x : Bool) : RTab (w.setCell ⟨B, 11, none⟩ (.bool x)) B { t with la := x } h :=
  ⟨by have := H.lt; simpa using this, fun j hj => (set_other (by omega)).trans (H.key j hj), (set_other (by omega)).trans H.c8, (set_other (by omega)).trans H.c9, (set_other (by omega)).trans H.c10, set_same H.c11, fun j => by have := H.free j; simpa using this, H.hold⟩
end

theorem risAll_any (k : Int) (w : World) : Calls Try.prog 33 #[.int .i64 k] w fun e w' => e = .returned (.bool (isAll k)) ∧ w' = w := by
  unfold isAll
  by_cases h : k = 7
  · subst h
    go_enter Try.func33, Try.ntmps33
    go_wp2
    go_ret
    exact ⟨rfl, rfl⟩
  · have hb : ((k : Int) == 7) = false := by simp [h]
    go_enter Try.func33, Try.ntmps33
    go_wp2
    go_ret
    exact ⟨ret_bool (by simp [h, beq_d]), rfl⟩
set_option maxHeartbeats 1000000 in
theorem risTy_any (k : Int) (w : World) : Calls Try.prog 32 #[.int .i64 k] w fun e w' => e = .returned (.bool (isTy k)) ∧ w' = w := by
  unfold isTy
  by_cases h1 : k = 1
  · subst h1; go_enter Try.func32, Try.ntmps32; go_wp2; go_ret; exact ⟨rfl, rfl⟩
  have b1 : ((k : Int) == 1) = false := by simp [h1]
  by_cases h3 : k = 3
  · subst h3; go_enter Try.func32, Try.ntmps32; go_wp2; go_ret; exact ⟨rfl, rfl⟩
  have b3 : ((k : Int) == 3) = false := by simp [h3]
  by_cases h5 : k = 5
  · subst h5; go_enter Try.func32, Try.ntmps32; go_wp2; go_ret; exact ⟨rfl, rfl⟩
  have b5 : ((k : Int) == 5) = false := by simp [h5]
  by_cases h6 : k = 6
  · subst h6; go_enter Try.func32, Try.ntmps32; go_wp2; go_ret; exact ⟨rfl, rfl⟩
  have b6 : ((k : Int) == 6) = false := by simp [h6]
  by_cases h7 : k = 7
  · subst h7; go_enter Try.func32, Try.ntmps32; go_wp2; go_ret; exact ⟨rfl, rfl⟩
  have b7 : ((k : Int) == 7) = false := by simp [h7]
  go_enter Try.func32, Try.ntmps32
  go_wp2
  go_ret
  exact ⟨ret_bool (by simp [h1, h3, h5, h6, h7, beq_d]), rfl⟩

set_option maxHeartbeats 1000000 in
theorem rholds_any (B : Nat) (t : Tb) (x n : Int) (w : World) (h : RTab w B t x) (hf : t.fit) : Calls Try.prog 45 #[.pointer (some ⟨B, 0, none⟩), .int .i64 n] w fun e w' => e = .returned (.bool (t.holds n)) ∧ w' = w := by
  have HA := Kpt.mk (risAll_any t.kd w)
  have hlt := h.lt
  have h8 := h.c8
  have h9 := h.c9
  have hkey := Kpt.mk h.key
  have hho := h.hold
  have hr : Kpt (t.holds n = if t.kd = 0 then false else if isAll t.kd = true then t.reg n else decide (t.ho = n)) := ⟨rfl⟩
  unfold Tb.fit at hf
  by_cases hk : t.kd = 0
  · generalize t.holds n = R at *
    rw [hk] at h8 hr
    clear h hf hho
    go_enter Try.func45, Try.ntmps45
    go_wp2
    go_ret
    exact ⟨ret_bool (by rw [hr.out]; simp), rfl⟩
  have hb : ((t.kd : Int) == 0) = false := by simp [hk]
  by_cases hn0 : n < 0
  · have hre : Kpt (t.holds n = false) := ⟨by
      rw [hr.out, if_neg hk]
      cases hal : isAll t.kd with
      | true => simp [Tb.reg]; omega
      | false => have := hf hk hal; simp; omega⟩
    generalize t.holds n = R at *
    generalize t.kd = k at *
    clear h hf hho hr
    go_enter Try.func45, Try.ntmps45
    go_wp2
    go_ret
    exact ⟨ret_bool hre.out.symm, rfl⟩
  by_cases hn7 : 7 < n
  · have hre : Kpt (t.holds n = false) := ⟨by
      rw [hr.out, if_neg hk]
      cases hal : isAll t.kd with
      | true => simp [Tb.reg]; omega
      | false => have := hf hk hal; simp; omega⟩
    generalize t.holds n = R at *
    generalize t.kd = k at *
    clear h hf hho hr
    go_enter Try.func45, Try.ntmps45
    go_wp2
    go_ret
    exact ⟨ret_bool hre.out.symm, rfl⟩
  obtain ⟨m, rfl⟩ : ∃ m : Nat, n = m := ⟨n.toNat, by omega⟩
  have hm : m < 8 := by omega
  have hkm := hkey.out m hm
  cases hal : isAll t.kd with
  | true =>
    have hre : Kpt (t.holds m = decide (t.ks m ≠ 0)) := ⟨by rw [hr.out, if_neg hk, if_pos hal]; unfold Tb.reg; simp; omega⟩
    rw [hal] at HA
    generalize t.holds m = R at *
    generalize t.kd = k at *
    generalize t.ks m = y at *
    clear h hf hho hr hal
    go_enter Try.func45, Try.ntmps45
    go_wp2_with (go_at_call 33; go_must (refine HA.out.mono ?_; rintro e w ⟨rfl, rfl⟩))
    go_ret
    exact ⟨ret_bool (by rw [hre.out]; simp [bne_d]), rfl⟩
  | false =>
    have hre : Kpt (t.holds m = decide (x = m)) := ⟨by rw [hr.out, if_neg hk, hal, if_neg (by simp), hho hk hal]⟩
    rw [hal] at HA
    generalize t.holds m = R at *
    generalize t.kd = k at *
    clear h hf hho hr hal
    go_enter Try.func45, Try.ntmps45
    go_wp2_with (go_at_call 33; go_must (refine HA.out.mono ?_; rintro e w ⟨rfl, rfl⟩))
    go_ret
    exact ⟨ret_bool (by rw [hre.out]; simp [beq_d]), rfl⟩

theorem Try.infoREV : (Try.prog.info? 57).map (fun i => (i.zero, i.size, i.bytes)) = some (some (.agg #[.int .i64 0, .int .i64 0]), 2, 16) := by kernel_rfl
/-- What the first k nexuses but one are told. -/
def rothTo (f : Nat → Int) (n c : Int) : Nat → List (Int × Int)
  | 0 => []
  | k + 1 => rothTo f n c k ++ if f k ≠ 0 ∧ (k : Int) ≠ n then [((k : Int), c)] else []
theorem roth_eq (f : Nat → Int) (n c : Int) : ∀ k, rothTo f n c k = othersL n c (regsTo f k)
  | 0 => rfl
  | k + 1 => by
    unfold rothTo regsTo
    rw [roth_eq f n c k]
    unfold othersL
    rw [List.filter_append, List.map_append]
    congr 1
    by_cases h : f k = 0
    · simp [h]
    · by_cases e : (k : Int) = n <;> simp [h, e]
theorem roth_len (f : Nat → Int) (n c : Int) (k : Nat) : (rothTo f n c k).length ≤ k := by
  rw [roth_eq]
  exact Nat.le_trans (othersL_len _ _ _) (regsTo_len f k)
set_option maxRecDepth 100000 in
set_option maxHeartbeats 2000000 in
theorem rothers_any (B : Nat) (t : Tb) (x n c : Int) (w : World) (h : RTab w B t x) :
    Calls Try.prog 46 #[.pointer (some ⟨B, 0, none⟩), .int .i64 n, .int .i64 c] w fun e w' => ∃ v, e = .returned v ∧ Own .i64 57 w.heap.size w' v (othersL n c t.regs) ∧ Below w.heap.size w w' := by
  have hkey := Kpt.mk h.key
  have hlt := h.lt
  rw [show othersL n c t.regs = rothTo t.ks n c 8 from (roth_eq t.ks n c 8).symm]
  generalize t.ks = f at *
  clear h
  go_enter Try.func46, Try.ntmps46
  go_wp2
  go_loopw [7, 8] (fun r i wr => ∃ (k : Nat) (x : Value), k ≤ 8 ∧ r = x ∧ i = .int .i64 k ∧ Kpt (Own .i64 57 w.heap.size wr x (rothTo f n c k)) ∧ Kpt (Below w.heap.size w wr)) (fun _ i _ => 8 - (intOf i).toNat)
  case atStart => exact ⟨0, _, Nat.zero_le _, rfl, rfl, ⟨own_nil _ _ _ _⟩, ⟨Below.refl _ _⟩⟩
  case round =>
    obtain ⟨k, x, hk, hx0, rfl, hO, hB⟩ := hrel
    replace hx0 := hx0.symm
    subst hx0
    by_cases hlt2 : k < 8
    · have e1 : (k : Int) < 8 := by omega
      have hck : wr.cell? ⟨B, k, none⟩ = some (.int .u64 (f k)) := (hB.out.cell (p := ⟨B, k, none⟩) hlt).trans (hkey.out k hlt2)
      have hBw : B < wr.heap.size := Nat.lt_of_lt_of_le hlt hB.out.size
      have hst : Kpt (rothTo f n c (k + 1) = rothTo f n c k ++ if f k ≠ 0 ∧ (k : Int) ≠ n then [((k : Int), c)] else []) := ⟨rfl⟩
      have hl := Kpt.mk (roth_len f n c k)
      generalize f k = y at *
      have hsz : w.heap.size ≤ wr.heap.size := hB.out.size
      by_cases hy : y = 0
      · subst hy
        go_wp2
        go_roundw
        case rel => exact ⟨k + 1, x, by omega, rfl, by go_num, ⟨by rw [hst.out]; simpa using hO.out⟩, hB⟩
        case measure => simp [intOf]; omega
      · have hyb : ((y : Int) != 0) = true := by simp [hy]
        by_cases hn : (k : Int) = n
        · subst hn
          go_wp2
          go_roundw
          case rel => exact ⟨k + 1, x, by omega, rfl, by go_num, ⟨by rw [hst.out]; simpa using hO.out⟩, hB⟩
          case measure => simp [intOf]; omega
        · have hnb : ((k : Int) != n) = true := by simp [hn]
          go_wp2_with (at_builtin; go_must (refine wpList_append_row (κ := .i64) Try.underlying48 Try.infoREV rfl (by decide) rfl (.tmp 25) (.tmp 29) rfl w.heap.size x _ (rothTo f n c k) [((k : Int), c)] rfl rfl (rowOf_new .i64 wr ((k : Int), c) _) (hO.out.of_block (fun g hg => Below.heap_alloc _ _ _ (hO.out.lt hg).2)) (by have := hl.out; simp; omega) (by simp; omega) ?_; intro v' w3 ho3 hg3 hor))
          have hB3 : Kpt (Below w.heap.size w w3) := ⟨(hB.out.alloc hB.out.size _).grown hg3.out (by simp; omega) (fun k hk => (hO.out.lt hk).1)⟩
          go_wp2
          go_roundw
          case rel => exact ⟨k + 1, v', by omega, rfl, by go_num, ⟨by rw [hst.out]; simpa [hy, hn] using ho3.out⟩, hB3⟩
          case measure => simp [intOf]; omega
    · have e1 : ¬ (k : Int) < 8 := by omega
      have ek : k = 8 := by omega
      go_wp2
      go_ret
      exact ⟨x, rfl, by rw [← ek]; exact hO.out, hB.out⟩
theorem oth_all (t : Tb) : (othersL (-1) 0 t.regs).length = t.regs.length := by
  unfold othersL
  rw [List.length_map, List.filter_eq_self.2]
  intro r hr
  obtain ⟨m, _, rfl, _⟩ := (regs_mem t r).1 hr
  simp
theorem rcount_any (B : Nat) (t : Tb) (x : Int) (w : World) (h : RTab w B t x) :
    Calls Try.prog 34 #[.pointer (some ⟨B, 0, none⟩)] w fun e w' => e = .returned (.int .i64 (t.regs.length : Int)) ∧ Below w.heap.size w w' := by
  have HO := Kpt.mk (rothers_any B t x (-1) 0 w h)
  have hl := Kpt.mk (oth_all t)
  generalize othersL (-1) 0 t.regs = L at *
  clear h
  go_enter Try.func34, Try.ntmps34
  go_wp2_with (go_at_call 46; go_must (refine HO.out.mono ?_; rintro e w1 ⟨v, rfl, hO1, hB1⟩; obtain ⟨a1, c1, hv1, _⟩ := hO1.shape; subst hv1; replace hB1 := Kpt.mk hB1; rw [hl.out]; clear hO1))
  go_ret
  exact ⟨rfl, hB1.out⟩
set_option maxHeartbeats 1000000 in
theorem rend_any (B : Nat) (t : Tb) (x n : Int) (w : World) (h : RTab w B t x) (hk : 0 ≤ t.kd) :
    Calls Try.prog 44 #[.pointer (some ⟨B, 0, none⟩), .int .i64 n] w fun e w' => ∃ v, e = .returned v ∧ Own .i64 57 w.heap.size w' v (t.endE n) ∧ RTab w' B { t with kd := 0 } 0 ∧ w.grownBy w' (some B) := by
  have hT := h.setKH 0 0 t.ho (fun e => absurd rfl e)
  have HO := Kpt.mk (rothers_any B _ 0 n 10756 _ hT)
  have hTK := Kpt.mk hT
  have hlt := h.lt
  have h8 := h.c8
  have h9 := h.c9
  have f8 := h.free 8
  have f9 := h.free 9
  have he : Kpt (t.endE n = if t.kd < 5 then [] else othersL n 10756 t.regs) := ⟨rfl⟩
  have hreg : Kpt (Tb.regs { t with kd := 0, ho := t.ho } = t.regs) := ⟨rfl⟩
  have hG : Kpt (w.grownBy ((w.setCell ⟨B, 8, none⟩ (.int .i64 0)).setCell ⟨B, 9, none⟩ (.int .i64 0)) (some B)) := ⟨grown_trans (grown_setCell w ⟨B, 8, none⟩ _) (grown_setCell _ ⟨B, 9, none⟩ _)⟩
  generalize t.endE n = E at *
  generalize t.kd = kd at *
  clear h hT
  by_cases h5 : kd < 5
  · have h5' : ¬ (5 : Int) ≤ kd := by omega
    go_enter Try.func44, Try.ntmps44
    go_wp2
    go_ret
    exact ⟨_, rfl, by rw [he.out, if_pos h5]; exact own_nil _ _ _ _, hTK.out, hG.out⟩
  · have h5' : (5 : Int) ≤ kd := by omega
    go_enter Try.func44, Try.ntmps44
    go_wp2_with (go_at_call 46; go_must (refine HO.out.mono ?_; rintro e w1 ⟨v, rfl, hO1, hB1⟩; replace hO1 := Kpt.mk hO1; replace hB1 := Kpt.mk hB1))
    go_ret
    exact ⟨v, rfl, by rw [he.out, if_neg (by omega)]; have := hO1.out; rw [hreg.out] at this; simpa using this, hTK.out.below' hB1.out, grown_trans hG.out (grown_below hB1.out)⟩
end Go.Proofs.Ytmnoolcffkjmhaa
