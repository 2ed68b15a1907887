/-
  The document's: the contracts of kind, Num, tells.
-/
import Derived.Test.YtcgojpnjaloofaaCRowB
import Derived.Test.YtcgojpnjaloofaaBROdd
namespace Go.Proofs.Ytcgojpnjaloofaa
open Go.RowKit
set_option linter.unusedVariables false
set_option linter.unusedSimpArgs false

def opsK : List Int := [0, 3, 18, 21, 85, 26, 90, 37, 158, 8, 40, 136, 10, 42, 138, 46, 47, 53, 145, 65, 147, 66, 137, 94, 95, 160, 131]
def kindsK : List Int := [1, 2, 3, 4, 4, 5, 5, 6, 6, 7, 7, 7, 8, 8, 8, 9, 10, 11, 11, 12, 12, 13, 14, 15, 16, 17, 18]
def opCells : Array Value := (opsK.map (Value.int .u8)).toArray
def kindCells : Array Value := (kindsK.map (Value.int .i64)).toArray

theorem op_cell (w : World) (i : Nat) (hi : i < 27) : ((w.alloc (.cells opCells 5)).alloc (.cells kindCells 3)).cell? ⟨w.heap.size, i, none⟩ = some (.int .u8 (opsK.getD i 0)) := by
  have h : ((w.alloc (.cells opCells 5)).alloc (.cells kindCells 3)).cell? ⟨w.heap.size, i, none⟩ = opCells[i]? := by simp
  rw [h, opCells, List.getElem?_toArray, List.getElem?_map, List.getElem?_eq_getElem (show i < opsK.length from hi), List.getD_eq_getElem?_getD, List.getElem?_eq_getElem (show i < opsK.length from hi)]
  rfl
theorem kind_cell (w : World) (i : Nat) (hi : i < 27) : ((w.alloc (.cells opCells 5)).alloc (.cells kindCells 3)).cell? ⟨w.heap.size + 1, i, none⟩ = some (.int .i64 (kindsK.getD i 0)) := by
  have h : ((w.alloc (.cells opCells 5)).alloc (.cells kindCells 3)).cell? ⟨w.heap.size + 1, i, none⟩ = kindCells[i]? := by
    have := (bx_new2 w (.cells opCells 5) kindCells 3).cells i (show i < kindCells.size from by simpa [kindCells, kindsK] using hi)
    exact this
  rw [h, kindCells, List.getElem?_toArray, List.getElem?_map, List.getElem?_eq_getElem (show i < kindsK.length from hi), List.getD_eq_getElem?_getD, List.getElem?_eq_getElem (show i < kindsK.length from hi)]
  rfl

theorem kinds_of : ∀ k : Fin 27, kindsK.getD k 0 = kindL (opsK.getD k 0) := by decide

set_option maxRecDepth 100000 in
set_option maxHeartbeats 1000000 in
theorem rkind_loop (c : Int) (w : World) : Calls Try.prog 35 #[.int .u8 c] w fun e w' => ((∃ k, k < 27 ∧ opsK.getD k 0 = c ∧ e = .returned (.int .i64 (kindsK.getD k 0))) ∨ (∀ j, j < 27 → opsK.getD j 0 ≠ c)) ∧ Below w.heap.size w w' := by
  go_enter Try.func35, Try.ntmps35
  go_wp2
  change Code.wp _ _ _ _ ((w.alloc (.cells opCells 5)).alloc (.cells kindCells 3))
  obtain ⟨W, hW⟩ : ∃ W, W = (w.alloc (.cells opCells 5)).alloc (.cells kindCells 3) := ⟨_, rfl⟩
  rw [← hW]
  have hc : Kpt (∀ i, i < 27 → W.cell? ⟨w.heap.size, i, none⟩ = some (.int .u8 (opsK.getD i 0))) := ⟨fun i hi => by rw [hW]; exact op_cell w i hi⟩
  have hn : Kpt (∀ i, i < 27 → W.cell? ⟨w.heap.size + 1, i, none⟩ = some (.int .i64 (kindsK.getD i 0))) := ⟨fun i hi => by rw [hW]; exact kind_cell w i hi⟩
  have hb : Kpt (Below w.heap.size w W) := ⟨by rw [hW]; exact ((Below.refl _ _).alloc (Nat.le_refl _) _).alloc (by simp) _⟩
  clear hW
  go_loop [5] (fun t => ∃ i : Nat, i ≤ 27 ∧ t = .int .i64 i ∧ Kpt (∀ j, j < i → opsK.getD j 0 ≠ c)) (fun t => 27 - (intOf t).toNat)
  case atStart => exact ⟨0, by omega, rfl, ⟨fun j hj => by omega⟩⟩
  case round =>
    obtain ⟨i, hi, rfl, hne⟩ := hrel
    by_cases hlt : i < 27
    · have h1 := hc.out i hlt
      have h2 := hn.out i hlt
      obtain ⟨x, hx⟩ : ∃ x, x = opsK.getD i 0 := ⟨_, rfl⟩
      obtain ⟨y, hy⟩ : ∃ y, y = kindsK.getD i 0 := ⟨_, rfl⟩
      rw [← hx] at h1
      rw [← hy] at h2
      replace hx := Kpt.mk hx
      replace hy := Kpt.mk hy
      by_cases he : x = c
      · have hR : Kpt (∃ k, k < 27 ∧ opsK.getD k 0 = c ∧ Ending.returned (.int .i64 y) = .returned (.int .i64 (kindsK.getD k 0))) := ⟨i, hlt, by rw [← hx.out]; exact he, by rw [← hy.out]⟩
        go_wp2
        go_ret
        exact ⟨.inl hR.out, hb.out⟩
      · go_wp2
        go_round
        case rel => exact ⟨i + 1, by omega, by go_num, ⟨fun j hj => by
          by_cases hji : j < i
          · exact hne.out j hji
          · obtain rfl : j = i := by omega
            rw [← hx.out]; exact he⟩⟩
        case measure => simp [intOf]; omega
    · obtain rfl : i = 27 := by omega
      go_wp2
      go_ret
      exact ⟨.inr hne.out, hb.out⟩

theorem rkind_any (op : Int) (w : World) (h : ∃ j, j < 27 ∧ opsK.getD j 0 = op) : Calls Try.prog 35 #[.int .u8 op] w fun e w' => e = .returned (.int .i64 (kindL op)) ∧ Below w.heap.size w w' := by
  refine (rkind_loop op w).mono ?_
  rintro e w' ⟨⟨k, hk, he, hr⟩ | hn, hb⟩
  · refine ⟨?_, hb⟩
    have := kinds_of ⟨k, hk⟩
    simp only at this
    rw [hr, this, he]
  · obtain ⟨j, hj, he⟩ := h
    exact absurd he (hn j hj)

theorem rnum_any (b off n cap i k : Nat) (zs : List Int) (w : World) (hl : n ≤ 1000) (hk1 : 1 ≤ k) (hk2 : k ≤ 8) (hi : i + k ≤ n) (hb : B.Bytes zs)
    (hc : ∀ j, j < n → w.cell? ⟨b, off + j, none⟩ = some (.int .u8 (zs.getD j 0))) :
    Calls Try.prog 36 #[.slice (some ⟨b, off, none⟩) n cap, .int .i64 i, .int .i64 k] w fun e w' => e = .returned (.int .u64 (B.num zs i k)) ∧ w' = w := by
  have H := Kpt.mk (B.rget_ok b off n cap i k zs w (by unfold maxLen; omega) hk1 hk2 hi hb hc)
  clear hc
  go_enter Try.func36, Try.ntmps36
  go_wp2_with (go_at_call 45; refine H.out.mono ?_; rintro e w' ⟨rfl, rfl⟩)
  go_ret
  exact ⟨rfl, rfl⟩
theorem rnum_in (b off n cap i k : Nat) (zs : List Int) (w : World) (hl : n ≤ 1000) (hk1 : 1 ≤ k) (hk2 : k ≤ 8) (hi : i + k ≤ n) (hb : B.Bytes zs) (hc : Cells w b off n zs) :
    Kpt (∀ W, Below w.heap.size w W → Calls Try.prog 36 #[.slice (some ⟨b, off, none⟩) n cap, .int .i64 i, .int .i64 k] W fun e w' => e = .returned (.int .u64 (B.num zs i k)) ∧ w' = W) :=
  ⟨fun W hW => rnum_any b off n cap i k zs W hl hk1 hk2 hi hb (hc.below hW hc.1).2⟩

def tellB (op : Int) : Bool := decide (op = 94 ∨ op = 95 ∨ op = 131 ∨ op = 158)
theorem tells_any (op : Int) (w : World) : Calls Try.prog 22 #[.int .u8 op] w fun e w' => e = .returned (.bool (tellB op)) ∧ w' = w := by
  by_cases h1 : op = 94
  · subst h1
    go_enter Try.func22, Try.ntmps22
    go_wp2
    go_ret
    exact ⟨rfl, rfl⟩
  by_cases h2 : op = 95
  · subst h2
    clear h1
    go_enter Try.func22, Try.ntmps22
    go_wp2
    go_ret
    exact ⟨rfl, rfl⟩
  by_cases h3 : op = 131
  · subst h3
    clear h1 h2
    go_enter Try.func22, Try.ntmps22
    go_wp2
    go_ret
    exact ⟨rfl, rfl⟩
  by_cases h4 : op = 158
  · subst h4
    clear h1 h2 h3
    go_enter Try.func22, Try.ntmps22
    go_wp2
    go_ret
    exact ⟨rfl, rfl⟩
  go_enter Try.func22, Try.ntmps22
  go_wp2
  go_ret
  exact ⟨B.ret_bool (by simp [tellB, h1, h2, h3, h4]), rfl⟩

theorem num_one (zs : List Int) (i : Nat) : B.num zs i 1 = zs.getD i 0 := by simp [B.num]
theorem bt_more (z : Int) (h : 0 ≤ z ∧ z ≤ 255) : (z % 2 == 1) = bt z 1 ∧ (z / 8 % 2 == 1) = bt z 8 ∧ (z / 2 % 2 == 1) = bt z 2 := by
  have e : z / 1 = z := Int.ediv_one z
  refine ⟨?_, ?_, ?_⟩
  · unfold bt; rw [e]; exact Bool.eq_iff_iff.2 (by simp)
  · unfold bt; exact Bool.eq_iff_iff.2 (by simp)
  · unfold bt; exact Bool.eq_iff_iff.2 (by simp)
theorem bt_is1 (z : Int) (h : z = 0 ∨ z = 1) : (z == 1) = bt z 1 := by rcases h with rfl | rfl <;> decide
end Go.Proofs.Ytcgojpnjaloofaa
