/-
  pdu: dataLength.
-/
import Derived.Test.YtigfoldobkigeaaUPart
namespace Go.Proofs.Ytigfoldobkigeaa
open Go.RowKit
set_option linter.unusedVariables false
set_option linter.unusedSimpArgs false

def formB (zs : List Int) : Bool := decide (B.num zs 5 3 ≤ 8192) && (zs.getD 4 0 == 0) && (zs.getD 8 0 == 0) && zeroB ((zs.drop 10).take 6)

set_option maxHeartbeats 1000000 in
theorem data_any (b off c : Nat) (zs : List Int) (w : World) (hr : RdAt w (.slice (some ⟨b, off, none⟩) 48 c) zs) (hc : c ≤ maxLen) (hb : Bytes zs) :
    Calls Try.prog 27 #[.slice (some ⟨b, off, none⟩) 48 c] w fun e w' => e = .returned (.tuple #[.int .i64 (B.num zs 5 3), .bool (formB zs)]) ∧ w' = w := by
  have hzl := (rd_row hr).1
  have hR : ∀ W, Kpt (W = w) → Calls Try.prog 34 #[.slice (some ⟨b, off, none⟩) 48 c, .int .i64 5, .int .i64 3] W fun e w' => e = .returned (.int .u32 (B.num zs 5 3)) ∧ w' = W := fun W h => by
    rw [h.out]; exact read_any _ zs 5 3 w hr (by unfold maxLen; omega) hb (by decide) (by decide) (by omega)
  have h6 : RdAt w (.slice (some ⟨b, off + 10, none⟩) 6 (c - 10)) ((zs.drop 10).take 6) := by
    have hcn : 48 ≤ c := by obtain ⟨a', c', hv, h1, h2, h3⟩ := hr; simp only [Value.slice.injEq] at hv; omega
    have := rd_drop hr 10 (by decide)
    rw [show offK c off 10 = off + 10 by simp only [offK]; rw [if_neg (by omega)]] at this
    exact rd_take this 6 (by rw [List.length_drop]; omega)
  have hZ : ∀ W, Kpt (W = w) → Calls Try.prog 28 #[.slice (some ⟨b, off + 10, none⟩) 6 (c - 10)] W fun e w' => e = .returned (.bool (zeroB ((zs.drop 10).take 6))) ∧ w' = W := fun W h => by
    rw [h.out]; exact zero_any _ _ w h6 (by rw [List.length_take]; unfold maxLen; omega) (Bytes.take (by intro j; rw [List.getD_eq_getElem?_getD, List.getElem?_drop, ← List.getD_eq_getElem?_getD]; exact hb _) 6)
  have hcn : 48 ≤ c := by obtain ⟨a', c', hv, h1, h2, h3⟩ := hr; simp only [Value.slice.injEq] at hv; omega
  have hcell := (rd_cells hr).2
  have hc4 := hcell 4 (by decide)
  have hc8 := hcell 8 (by decide)
  obtain ⟨hx0, hx1⟩ := num4 zs hb 5 3 (by decide)
  obtain ⟨x, hx⟩ : ∃ x, x = B.num zs 5 3 := ⟨_, rfl⟩
  obtain ⟨y, hy⟩ : ∃ y, y = zs.getD 4 0 := ⟨_, rfl⟩
  obtain ⟨z, hz⟩ : ∃ y, y = zs.getD 8 0 := ⟨_, rfl⟩
  obtain ⟨u, hu⟩ : ∃ y, y = zeroB ((zs.drop 10).take 6) := ⟨_, rfl⟩
  unfold formB
  rw [← hx, ← hy, ← hz, ← hu]
  rw [← hx] at hR hx0 hx1
  rw [← hu] at hZ
  rw [← hy] at hc4
  rw [← hz] at hc8
  have c10 : ¬ c = 10 := by omega
  have c16 : ¬ c < 16 := by omega
  unfold maxLen at hc
  have wx : IntKind.i64.wrap x = x := by simp only [IntKind.wrap, IntKind.bits, IntKind.signed]; simp; omega
  replace hR := Kpt.mk hR
  replace hZ := Kpt.mk hZ
  clear hx hy hz hu hr hzl h6 hcell hb
  by_cases h1 : x ≤ 8192
  · by_cases h2 : y = 0
    · subst h2
      by_cases h3 : z = 0
      · subst h3
        cases u with
        | false =>
          go_enter Try.func27, Try.ntmps27
          go_wp2_with (first | (go_at_call 34; refine (hR.out _ ⟨by rfl⟩).mono ?_; rintro e w' ⟨rfl, rfl⟩) | (go_at_call 28; refine (hZ.out _ ⟨by rfl⟩).mono ?_; rintro e w' ⟨rfl, rfl⟩))
          go_ret2
          exact ⟨by simp [h1], rfl⟩
        | true =>
          go_enter Try.func27, Try.ntmps27
          go_wp2_with (first | (go_at_call 34; refine (hR.out _ ⟨by rfl⟩).mono ?_; rintro e w' ⟨rfl, rfl⟩) | (go_at_call 28; refine (hZ.out _ ⟨by rfl⟩).mono ?_; rintro e w' ⟨rfl, rfl⟩))
          go_ret2
          exact ⟨by simp [h1], rfl⟩
      · have h3' : (z == 0) = false := by simpa using h3
        go_enter Try.func27, Try.ntmps27
        go_wp2_with (go_at_call 34; refine (hR.out _ ⟨by rfl⟩).mono ?_; rintro e w' ⟨rfl, rfl⟩)
        go_ret2
        exact ⟨by simp [h3], rfl⟩
    · have h2' : (y == 0) = false := by simpa using h2
      go_enter Try.func27, Try.ntmps27
      go_wp2_with (go_at_call 34; refine (hR.out _ ⟨by rfl⟩).mono ?_; rintro e w' ⟨rfl, rfl⟩)
      go_ret2
      exact ⟨by simp [h2], rfl⟩
  · go_enter Try.func27, Try.ntmps27
    go_wp2_with (go_at_call 34; refine (hR.out _ ⟨by rfl⟩).mono ?_; rintro e w' ⟨rfl, rfl⟩)
    go_ret2
    exact ⟨by have h9 : ¬ x ≤ 8192 := (by omega); simp [h9], rfl⟩
end Go.Proofs.Ytigfoldobkigeaa
