/-
  What parameters bring: the plain functions; the contracts of with and readHead.
-/
import Derived.Test.YtdojhgapdocngaaMOpen
import Derived.Lib.Strings
import Derived.Lib.Slices
import Derived.Lib.Small
import Derived.Lib.Walk
import Derived.Lib.BitFns
import Derived.Outline
namespace Go.Proofs.Ytdojhgapdocngaa
open Go.RowKit
set_option linter.unusedVariables false
set_option linter.unusedSimpArgs false

def bset (x n : Int) : Bool := Go.bits .and .u8 x n != 0
def withV (v : Vs) (p : List Int) : Vs := if p.getD 0 0 = 8 then ⟨bset (p.getD 2 0) 4, v.b, v.c⟩ else ⟨v.a, bset (p.getD 2 0) 4, bset (p.getD 4 0) 8⟩
def hbad (p : List Int) (fr : Nat) : Nat → Nat → Option Nat
  | 0, _ => none
  | f + 1, i => if i ≠ fr ∧ p.getD i 0 ≠ 0 then some i else hbad p fr f (i + 1)
def hsz (lg : Bool) : Nat := if lg then 8 else 4
def hfr (lg : Bool) : Nat := if lg then 3 else 2
def headE (lg : Bool) (p : List Int) : Option Sn := if p.length < hsz lg then some shortS else (hbad p (hfr lg) (hsz lg) 0).map fun (i : Nat) => faultS (i : Int) (-1)
def headRes (lg : Bool) : Option Sn → Value
  | none => .tuple #[.int .i64 (hsz lg : Nat), .agg noS.vals, .bool true]
  | some s => .tuple #[.int .i64 0, .agg s.vals, .bool false]
def pbad (r m : List Int) : Nat → Nat → Option (Nat × Int)
  | 0, _ => none
  | f + 1, i => if Go.bits .andNot .u8 (r.getD i 0) (m.getD i 0) = 0 then pbad r m f (i + 1) else some (i, Go.bits .andNot .u8 (r.getD i 0) (m.getD i 0))
def pageE (r : List Int) (k : Int) : Option Sn :=
  if r.getD 0 0 ≠ 8 ∧ r.getD 0 0 ≠ 10 then some (faultS k (-1))
  else if r.length < 2 then some shortS
  else if r.getD 1 0 ≠ (layB (r.getD 0 0) allV).getD 1 0 then some (faultS (k + 1) (-1))
  else if r.length < (layB (r.getD 0 0) allV).length then some shortS
  else (pbad r (layB (r.getD 0 0) allV) ((layB (r.getD 0 0) allV).length - 2) 2).map fun x => faultS (k + x.1) (x.2.toNat.log2 : Nat)

/-- Bytes that can be read from a place on. -/
def Cl (w : World) (b off : Nat) (r : List Int) : Prop := ∀ j, j < r.length → w.cell? ⟨b, off + j, none⟩ = some (.int .u8 (r.getD j 0))
theorem Cl.below {w w' : World} {b off : Nat} {r : List Int} (h : Cl w b off r) (hb : Below w.heap.size w w') (hl : b < w.heap.size) : Cl w' b off r := fun j hj => (hb.cell (p := ⟨b, off + j, none⟩) hl).trans (h j hj)
theorem Cl.of_block {w w' : World} {b off : Nat} {r : List Int} (h : Cl w b off r) (hb : w'.heap[b]? = w.heap[b]?) : Cl w' b off r := fun j hj => (World.cell?_of_block (w := w) (w' := w') (a := ⟨b, off + j, none⟩) hb).trans (h j hj)
theorem Cl.drop {w : World} {b off : Nat} {r : List Int} (h : Cl w b off r) (k : Nat) : Cl w b (off + k) (r.drop k) := fun j hj => by
  have hj' : k + j < r.length := by rw [List.length_drop] at hj; omega
  have := h (k + j) hj'
  rw [← Nat.add_assoc] at this
  rw [this]
  simp [List.getD_eq_getElem?_getD]

set_option maxHeartbeats 1000000 in
theorem with_any (b off n c : Nat) (v : Vs) (p : List Int) (w : World) (hp : Cl w b off p) (hb : b < w.heap.size) (hl : 5 ≤ p.length) (hn : 5 ≤ n) :
    Calls Try.prog 26 #[.agg v.vals, .slice (some ⟨b, off, none⟩) n c] w fun e w' => e = .returned (.agg (withV v p).vals) ∧ Below w.heap.size w w' := by
  have q0 := hp 0 (by omega)
  have q2 := hp 2 (by omega)
  have q4 := hp 4 (by omega)
  have n0 : (0 : Int) < n := by omega
  have n2 : (2 : Int) < n := by omega
  have n4 : (4 : Int) < n := by omega
  obtain ⟨x0, h0⟩ : ∃ x, x = p.getD 0 0 := ⟨_, rfl⟩
  obtain ⟨x2, h2⟩ : ∃ x, x = p.getD 2 0 := ⟨_, rfl⟩
  obtain ⟨x4, h4⟩ : ∃ x, x = p.getD 4 0 := ⟨_, rfl⟩
  unfold withV
  rw [← h0, ← h2, ← h4]
  rw [← h0] at q0
  rw [← h2] at q2
  rw [← h4] at q4
  clear h0 h2 h4 hp
  obtain ⟨a0, b0, c0⟩ := v
  simp only [Vs.vals]
  rw [Nat.add_zero] at q0
  by_cases h8 : x0 = 8
  · subst h8
    rw [if_pos rfl]
    go_enter Try.func26, Try.ntmps26
    go_wp2
    refine bodyPost_ret (v := .agg #[.bool (bset x2 4), .bool b0, .bool c0]) (by simp [results, Try.results26, go_sem, bset]) rfl ⟨rfl, ?_⟩
    exact ((Below.refl _ _).alloc (Nat.le_refl _) _).alloc (by simp) _
  · rw [if_neg h8]
    go_enter Try.func26, Try.ntmps26
    go_wp2
    refine bodyPost_ret (v := .agg #[.bool a0, .bool (bset x2 4), .bool (bset x4 8)]) (by simp [results, Try.results26, go_sem, bset]) rfl ⟨rfl, ?_⟩
    exact ((Below.refl _ _).alloc (Nat.le_refl _) _).alloc (by simp) _

set_option maxHeartbeats 1000000 in
theorem rhead_false (a : Option Addr) (c : Nat) (p : List Int) (w : World) (hp : RdAt w (.slice a p.length c) p) (hmx : p.length ≤ maxLen) :
    Calls Try.prog 24 #[.bool false, .slice a p.length c] w fun e w' => e = .returned (headRes false (headE false p)) ∧ Below w.heap.size w w' := by
  unfold maxLen at hmx
  obtain ⟨n, hn⟩ : ∃ n, n = p.length := ⟨_, rfl⟩
  have hE : headE false p = if n < 4 then some shortS else (hbad p 2 4 0).map fun (i : Nat) => faultS (i : Int) (-1) := by rw [hn]; rfl
  obtain ⟨a', c', hv, ha, hlc, hrd⟩ := hp
  simp only [Value.slice.injEq, true_and] at hv
  obtain ⟨rfl, rfl⟩ := hv
  rw [← hn] at hmx ⊢
  rw [hE]
  clear hE
  by_cases hs : n < 4
  · rw [if_pos hs]
    have hs' : (n : Int) < 4 := by omega
    clear ha hlc hrd
    go_enter Try.func24, Try.ntmps24
    go_wp2_with (first
      | (refine wpList_store_bx rfl 42 (.tmp 5) (.tmp 15) rfl _ _ shortS.vals rfl rfl hx.out rfl infoS (Sn.vals_one _) rfl ?_; intro w3 hx3 hg3; replace hx3 := Kpt.mk hx3; replace hg3 := Kpt.mk hg3; clear hx)
      | (go_at_call 30; refine (short_any _).mono ?_; rintro e w2 ⟨rfl, hb2⟩; have hx := Kpt.mk ((bx_new w zeroS 42).below hb2 (by simp)); replace hb2 := Kpt.mk hb2))
    obtain ⟨c0, c1, c2, c3, c4, c5, c6, c7⟩ := bx_sn hx3.out
    refine bodyPost_ret (v := headRes false (some shortS)) (by simp [results, Try.results24, go_sem, c0, c1, c2, c3, c4, c5, c6, c7, Sn.vals, headRes]) rfl ⟨rfl, (((Below.refl _ _).alloc (Nat.le_refl _) _).trans (hb2.out.mono (by simp))).grown hg3.out (by have := hb2.out.size; simp at this; omega) (fun k hk => by cases hk; exact Nat.le_refl _)⟩

  · rw [if_neg hs]
    have hs' : ¬ (n : Int) < 4 := by omega
    rcases hrd with h0 | ⟨b, off, rfl, hc⟩
    · omega
    have hcl : Kpt (∀ j, j < 4 → w.cell? ⟨b, off + j, none⟩ = some (.int .u8 (p.getD j 0)) ∧ b < w.heap.size) := ⟨fun j hj => by
      have := hc j (.int .u8 (p.getD j 0)) (by rw [cels, List.getElem?_map, List.getElem?_eq_getElem (by omega), List.getD_eq_getElem?_getD, List.getElem?_eq_getElem (by omega)]; rfl)
      exact ⟨this, World.block_lt_of_cell? w ⟨b, off + j, none⟩ this⟩⟩
    clear ha hlc hc hn
    go_enter Try.func24, Try.ntmps24
    go_wp2
    go_loop [17] (fun t => ∃ k : Nat, k ≤ 4 ∧ Kpt (hbad p 2 4 0 = hbad p 2 (4 - k) k) ∧ t = .int .i64 k) (fun t => 4 - (intOf t).toNat)
    case atStart => exact ⟨0, by omega, ⟨rfl⟩, rfl⟩
    case round =>
      obtain ⟨k, hk, hh, rfl⟩ := hrel
      by_cases hlt : k < 4
      · have e1 : (k : Int) < 4 := by omega
        have e2 : (k : Int) < n := by omega
        obtain ⟨hck, hbl⟩ := hcl.out k hlt
        have hstep : 4 - k = (4 - (k + 1)) + 1 := by omega
        obtain ⟨x, hx0⟩ : ∃ x, x = p.getD k 0 := ⟨_, rfl⟩
        rw [← hx0] at hck
        by_cases hkf : k = 2
        · have hnext : Kpt (hbad p 2 4 0 = hbad p 2 (4 - (k + 1)) (k + 1)) := ⟨by rw [hh.out, hstep, hbad, if_neg (fun h => h.1 hkf)]⟩
          subst hkf
          clear hh hstep hx0
          go_wp2
          go_round
          case rel => exact ⟨_, by omega, hnext, by go_num⟩
          case measure => simp [intOf]
        · have hkf' : ¬ (k : Int) = 2 := by omega
          by_cases hx1 : x = 0
          · have hnext : Kpt (hbad p 2 4 0 = hbad p 2 (4 - (k + 1)) (k + 1)) := ⟨by rw [hh.out, hstep, hbad, if_neg (fun h => h.2 (by rw [← hx0]; exact hx1))]⟩
            subst hx1
            clear hh hstep hx0
            go_wp2
            go_round
            case rel => exact ⟨k + 1, by omega, hnext, by go_num⟩
            case measure => simp [intOf]; omega
          · have hfin : hbad p 2 4 0 = some k := by rw [hh.out, hstep, hbad, if_pos ⟨hkf, by rw [← hx0]; exact hx1⟩]
            replace hfin := Kpt.mk hfin
            have hd1 : ((k : Int) != 2) = true := by simp; omega
            have hd2 : (x != 0) = true := by simp [hx1]
            clear hh hstep hx0 hx1 hkf hkf'
            go_wp2_with (first
              | (refine wpList_store_bx rfl 42 (.tmp 5) (.tmp 31) rfl _ _ (faultS k (-1)).vals rfl rfl hx.out rfl infoS (Sn.vals_one _) rfl ?_; intro w3 hx3 hg3; replace hx3 := Kpt.mk hx3; replace hg3 := Kpt.mk hg3; clear hx)
              | (go_at_call 31; refine (fault_any _ _ _).mono ?_; rintro e w2 ⟨rfl, hb2⟩; have hx := Kpt.mk ((bx_new w zeroS 42).below hb2 (by simp)); replace hb2 := Kpt.mk hb2))
            obtain ⟨c0, c1, c2, c3, c4, c5, c6, c7⟩ := bx_sn hx3.out
            refine bodyPost_ret (v := headRes false (some (faultS k (-1)))) (by simp [results, Try.results24, go_sem, c0, c1, c2, c3, c4, c5, c6, c7, Sn.vals, headRes]) rfl ⟨by rw [hfin.out]; rfl, (((Below.refl _ _).alloc (Nat.le_refl _) _).trans (hb2.out.mono (by simp))).grown hg3.out (by have := hb2.out.size; simp at this; omega) (fun k hk => by cases hk; exact Nat.le_refl _)⟩

      · obtain rfl : k = 4 := by omega
        have hfin : hbad p 2 4 0 = none := by rw [hh.out]; rfl
        replace hfin := Kpt.mk hfin
        clear hh
        go_wp2
        refine bodyPost_ret (v := headRes false none) (by simp [results, Try.results24, go_sem, headRes, noS, Sn.vals, hsz]) rfl ⟨by rw [hfin.out]; rfl, (Below.refl _ _).alloc (Nat.le_refl _) _⟩

set_option maxHeartbeats 1000000 in
theorem rhead_true (a : Option Addr) (c : Nat) (p : List Int) (w : World) (hp : RdAt w (.slice a p.length c) p) (hmx : p.length ≤ maxLen) :
    Calls Try.prog 24 #[.bool true, .slice a p.length c] w fun e w' => e = .returned (headRes true (headE true p)) ∧ Below w.heap.size w w' := by
  unfold maxLen at hmx
  obtain ⟨n, hn⟩ : ∃ n, n = p.length := ⟨_, rfl⟩
  have hE : headE true p = if n < 8 then some shortS else (hbad p 3 8 0).map fun (i : Nat) => faultS (i : Int) (-1) := by rw [hn]; rfl
  obtain ⟨a', c', hv, ha, hlc, hrd⟩ := hp
  simp only [Value.slice.injEq, true_and] at hv
  obtain ⟨rfl, rfl⟩ := hv
  rw [← hn] at hmx ⊢
  rw [hE]
  clear hE
  by_cases hs : n < 8
  · rw [if_pos hs]
    have hs' : (n : Int) < 8 := by omega
    clear ha hlc hrd
    go_enter Try.func24, Try.ntmps24
    go_wp2_with (first
      | (refine wpList_store_bx rfl 42 (.tmp 5) (.tmp 15) rfl _ _ shortS.vals rfl rfl hx.out rfl infoS (Sn.vals_one _) rfl ?_; intro w3 hx3 hg3; replace hx3 := Kpt.mk hx3; replace hg3 := Kpt.mk hg3; clear hx)
      | (go_at_call 30; refine (short_any _).mono ?_; rintro e w2 ⟨rfl, hb2⟩; have hx := Kpt.mk ((bx_new w zeroS 42).below hb2 (by simp)); replace hb2 := Kpt.mk hb2))
    obtain ⟨c0, c1, c2, c3, c4, c5, c6, c7⟩ := bx_sn hx3.out
    refine bodyPost_ret (v := headRes true (some shortS)) (by simp [results, Try.results24, go_sem, c0, c1, c2, c3, c4, c5, c6, c7, Sn.vals, headRes]) rfl ⟨rfl, (((Below.refl _ _).alloc (Nat.le_refl _) _).trans (hb2.out.mono (by simp))).grown hg3.out (by have := hb2.out.size; simp at this; omega) (fun k hk => by cases hk; exact Nat.le_refl _)⟩

  · rw [if_neg hs]
    have hs' : ¬ (n : Int) < 8 := by omega
    rcases hrd with h0 | ⟨b, off, rfl, hc⟩
    · omega
    have hcl : Kpt (∀ j, j < 8 → w.cell? ⟨b, off + j, none⟩ = some (.int .u8 (p.getD j 0)) ∧ b < w.heap.size) := ⟨fun j hj => by
      have := hc j (.int .u8 (p.getD j 0)) (by rw [cels, List.getElem?_map, List.getElem?_eq_getElem (by omega), List.getD_eq_getElem?_getD, List.getElem?_eq_getElem (by omega)]; rfl)
      exact ⟨this, World.block_lt_of_cell? w ⟨b, off + j, none⟩ this⟩⟩
    clear ha hlc hc hn
    go_enter Try.func24, Try.ntmps24
    go_wp2
    go_loop [17] (fun t => ∃ k : Nat, k ≤ 8 ∧ Kpt (hbad p 3 8 0 = hbad p 3 (8 - k) k) ∧ t = .int .i64 k) (fun t => 8 - (intOf t).toNat)
    case atStart => exact ⟨0, by omega, ⟨rfl⟩, rfl⟩
    case round =>
      obtain ⟨k, hk, hh, rfl⟩ := hrel
      by_cases hlt : k < 8
      · have e1 : (k : Int) < 8 := by omega
        have e2 : (k : Int) < n := by omega
        obtain ⟨hck, hbl⟩ := hcl.out k hlt
        have hstep : 8 - k = (8 - (k + 1)) + 1 := by omega
        obtain ⟨x, hx0⟩ : ∃ x, x = p.getD k 0 := ⟨_, rfl⟩
        rw [← hx0] at hck
        by_cases hkf : k = 3
        · have hnext : Kpt (hbad p 3 8 0 = hbad p 3 (8 - (k + 1)) (k + 1)) := ⟨by rw [hh.out, hstep, hbad, if_neg (fun h => h.1 hkf)]⟩
          subst hkf
          clear hh hstep hx0
          go_wp2
          go_round
          case rel => exact ⟨_, by omega, hnext, by go_num⟩
          case measure => simp [intOf]
        · have hkf' : ¬ (k : Int) = 3 := by omega
          by_cases hx1 : x = 0
          · have hnext : Kpt (hbad p 3 8 0 = hbad p 3 (8 - (k + 1)) (k + 1)) := ⟨by rw [hh.out, hstep, hbad, if_neg (fun h => h.2 (by rw [← hx0]; exact hx1))]⟩
            subst hx1
            clear hh hstep hx0
            go_wp2
            go_round
            case rel => exact ⟨k + 1, by omega, hnext, by go_num⟩
            case measure => simp [intOf]; omega
          · have hfin : hbad p 3 8 0 = some k := by rw [hh.out, hstep, hbad, if_pos ⟨hkf, by rw [← hx0]; exact hx1⟩]
            replace hfin := Kpt.mk hfin
            have hd1 : ((k : Int) != 3) = true := by simp; omega
            have hd2 : (x != 0) = true := by simp [hx1]
            clear hh hstep hx0 hx1 hkf hkf'
            go_wp2_with (first
              | (refine wpList_store_bx rfl 42 (.tmp 5) (.tmp 31) rfl _ _ (faultS k (-1)).vals rfl rfl hx.out rfl infoS (Sn.vals_one _) rfl ?_; intro w3 hx3 hg3; replace hx3 := Kpt.mk hx3; replace hg3 := Kpt.mk hg3; clear hx)
              | (go_at_call 31; refine (fault_any _ _ _).mono ?_; rintro e w2 ⟨rfl, hb2⟩; have hx := Kpt.mk ((bx_new w zeroS 42).below hb2 (by simp)); replace hb2 := Kpt.mk hb2))
            obtain ⟨c0, c1, c2, c3, c4, c5, c6, c7⟩ := bx_sn hx3.out
            refine bodyPost_ret (v := headRes true (some (faultS k (-1)))) (by simp [results, Try.results24, go_sem, c0, c1, c2, c3, c4, c5, c6, c7, Sn.vals, headRes]) rfl ⟨by rw [hfin.out]; rfl, (((Below.refl _ _).alloc (Nat.le_refl _) _).trans (hb2.out.mono (by simp))).grown hg3.out (by have := hb2.out.size; simp at this; omega) (fun k hk => by cases hk; exact Nat.le_refl _)⟩

      · obtain rfl : k = 8 := by omega
        have hfin : hbad p 3 8 0 = none := by rw [hh.out]; rfl
        replace hfin := Kpt.mk hfin
        clear hh
        go_wp2
        refine bodyPost_ret (v := headRes true none) (by simp [results, Try.results24, go_sem, headRes, noS, Sn.vals, hsz]) rfl ⟨by rw [hfin.out]; rfl, (Below.refl _ _).alloc (Nat.le_refl _) _⟩
end Go.Proofs.Ytdojhgapdocngaa
