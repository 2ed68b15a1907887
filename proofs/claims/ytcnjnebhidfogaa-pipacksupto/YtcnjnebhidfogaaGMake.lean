/-
  Contracts of hasRef, passedOver, Make.
-/
import Derived.Test.YtcnjnebhidfogaaGBox
import Derived.Test.YtcnjnebhidfogaaGAdd
import Derived.Test.YtcnjnebhidfogaaGRef
namespace Go.Proofs.Ytcnjnebhidfogaa
open Go.RowKit
set_option linter.unusedVariables false
set_option linter.unusedSimpArgs false

theorem ret_bool {a b : Bool} (h : a = b) : Ending.returned (.bool a) = .returned (.bool b) := by rw [h]
def hasB (k : Int) : Bool := decide (k = 1 ∨ k = 2)
theorem hasRef_any (k : Int) (w : World) (h0 : 0 ≤ k) (h1 : k ≤ 255) :
    Calls Try.prog 22 #[.int .u8 k] w fun e w' => e = .returned (.bool (hasB k)) ∧ w' = w := by
  by_cases h2 : 0 < k
  · by_cases h3 : k < 3
    · go_enter Try.func22, Try.ntmps22
      go_wp2
      go_ret
      exact ⟨ret_bool (by unfold hasB; rw [decide_eq_true (by omega)]), rfl⟩
    · go_enter Try.func22, Try.ntmps22
      go_wp2
      go_ret
      exact ⟨ret_bool (by unfold hasB; rw [decide_eq_false (by omega)]), rfl⟩
  · go_enter Try.func22, Try.ntmps22
    go_wp2
    go_ret
    exact ⟨ret_bool (by unfold hasB; rw [decide_eq_false (by omega)]), rfl⟩

/-- A tuple's cells. -/
def tupV (g a r : Int) : Array Value := #[.int .u16 g, .int .u16 a, .int .u32 r]
def refV (k lba : Int) : Int := if hasB k = true then lba % 4294967296 else 0

theorem box_row (w : World) (d : List Int) (hd : d.length = 16) (t : TypeId) : RowAt (w.alloc (.cells (cels d).toArray t)) (some ⟨w.heap.size, 0, none⟩) 16 d := by
  refine .inr ⟨w.heap.size, 0, rfl, fun j hj => ?_⟩
  rw [Nat.zero_add]
  simp [cels, hj, hd, List.getElem?_map, List.getD_eq_getElem?_getD, List.getElem?_eq_getElem (show j < d.length by omega)]

theorem bytes_of (d : List Int) (h : ∀ x ∈ d, 0 ≤ x ∧ x ≤ 255) : Bytes d := by
  intro j
  rw [List.getD_eq_getElem?_getD]
  by_cases hj : j < d.length
  · rw [List.getElem?_eq_getElem hj]; exact h _ (List.getElem_mem hj)
  · rw [List.getElem?_eq_none (by omega)]; simp

theorem c16_at (w : World) (a : Addr) (n : Nat) (d : List Int) (hd : d.length = 16) (hn : n = 16) (hb : ∀ x ∈ d, 0 ≤ x ∧ x ≤ 255) (h : RowAt w (some a) 16 d) :
    Calls Try.prog 21 #[.slice (some a) n n] w fun e w' => e = .returned (.int .u16 (reg16 0 d : Int)) ∧ w' = w := by
  subst hn
  exact c16_any _ 16 16 d w hd (by unfold maxLen; omega) (bytes_of d hb) h

set_option maxHeartbeats 400000 in
theorem make_any (k lba app : Int) (d : List Int) (w : World) (hd : d.length = 16) (hb : ∀ x ∈ d, 0 ≤ x ∧ x ≤ 255) (h0 : 0 ≤ k) (h1 : k ≤ 255) (l0 : 0 ≤ lba) (l1 : lba ≤ 18446744073709551615) :
    Calls Try.prog 9 #[.int .u8 k, .int .u64 lba, .agg (cels d).toArray, .int .u16 app] w fun e w' => e = .returned (.agg (tupV (reg16 0 d : Int) app (refV k lba))) ∧ Below w.heap.size w w' := by
  have hr : RowAt (w.alloc (.cells (cels d).toArray 23)) (some ⟨w.heap.size, 0, none⟩) 16 d := box_row w d hd 23
  obtain ⟨G, hG⟩ : ∃ G, G = reg16 0 d := ⟨_, rfl⟩
  have kc := fun (W : World) (a : Addr) (h : RowAt W (some a) 16 d) => c16_at W a 16 d hd rfl hb h
  rw [← hG] at kc ⊢
  obtain ⟨D, hD⟩ : ∃ D, D = (cels d).toArray := ⟨_, rfl⟩
  rw [← hD] at hr ⊢
  have hv : Kpt (refV k lba = if hasB k = true then lba % 4294967296 else 0) := ⟨rfl⟩
  rw [hv.out]
  have kh := fun (W : World) => hasRef_any k W h0 h1
  cases hk : hasB k with
  | true =>
    rw [hk] at kh
    rw [if_pos rfl]
    clear hv hk hD hG
    go_enter Try.func9, Try.ntmps9
    go_wp2_with (first | (go_at_call 21; refine (kc _ _ ?_).mono ?_; rotate_left; rintro e w' ⟨rfl, rfl⟩) | (go_at_call 22; refine (kh _).mono ?_; rintro e w' ⟨rfl, rfl⟩))
    · refine bodyPost_ret (v := .agg (tupV (G : Int) app (lba % 4294967296))) (by simp [results, Try.results9, go_sem, tupV]) rfl ⟨rfl, ?_⟩
      trace_state
      repeat (first | exact Below.refl _ _ | (refine Below.alloc ?_ (by first | exact Nat.le_refl _ | (simp; done) | (simp; omega)) _) | (refine Below.setCell ?_ (by first | exact Nat.le_refl _ | (simp; done) | (simp; omega) | omega) _))
    · exact hr.below ((Below.refl _ _).alloc (Nat.le_refl _) _)
  | false =>
    rw [hk] at kh
    rw [if_neg (by simp)]
    clear hv hk hD hG
    go_enter Try.func9, Try.ntmps9
    go_wp2_with (first | (go_at_call 21; refine (kc _ _ ?_).mono ?_; rotate_left; rintro e w' ⟨rfl, rfl⟩) | (go_at_call 22; refine (kh _).mono ?_; rintro e w' ⟨rfl, rfl⟩))
    · skip
      refine bodyPost_ret (v := .agg (tupV (G : Int) app 0)) (by simp [results, Try.results9, go_sem, tupV]) rfl ⟨rfl, ?_⟩
      trace_state
      repeat (first | exact Below.refl _ _ | (refine Below.alloc ?_ (by first | exact Nat.le_refl _ | (simp; done) | (simp; omega)) _) | (refine Below.setCell ?_ (by first | exact Nat.le_refl _ | (simp; done) | (simp; omega) | omega) _))
    · exact hr.below ((Below.refl _ _).alloc (Nat.le_refl _) _)
end Go.Proofs.Ytcnjnebhidfogaa
