/-
  The document's side: of, fits, Form, as.
-/
import Derived.Test.YteoaadpilaljnaaIStd
namespace Go.Proofs.Yteoaadpilaljnaa
open Go.RowKit
set_option linter.unusedVariables false
set_option linter.unusedSimpArgs false

def fitsB (S : ByteArray) (m n : Int) : Bool := (nums S).all okc && (decide (m ≤ (S.size : Int)) && decide ((S.size : Int) ≤ n))
set_option maxHeartbeats 1000000 in
theorem fits_any (S : ByteArray) (m n : Int) (w : World) (hS : S.size ≤ maxLen) :
    Calls Try.prog 34 #[.string S, .int .i64 m, .int .i64 n] w fun e w' => e = .returned (.bool (fitsB S m n)) ∧ w' = w := by
  unfold maxLen at hS
  go_enter Try.func34, Try.ntmps34
  go_wp2
  go_loop [7] (fun t => ∃ k : Nat, k ≤ S.size ∧ t = .int .i64 k ∧ Kpt (∀ j, j < k → okc ((nums S).getD j 0) = true)) (fun t => S.size - (intOf t).toNat)
  case atStart => exact ⟨0, by omega, rfl, ⟨fun j hj => by omega⟩⟩
  case round =>
    obtain ⟨k, hk, rfl, hh⟩ := hrel
    by_cases hlt : k < S.size
    · have e1 : (k : Int) < S.size := by omega
      have hx := Kpt.mk (nums_at S k hlt)
      by_cases h1 : (S[k].toNat : Int) < 32
      · go_wp2
        go_ret
        refine ⟨ret_bool ?_, rfl⟩
        have : (nums S).all okc = false := by
          rw [List.all_eq_false]
          refine ⟨(nums S).getD k 0, ?_, ?_⟩
          · rw [List.getD_eq_getElem?_getD, List.getElem?_eq_getElem (by rw [nums_len]; exact hlt)]; exact List.getElem_mem _
          · rw [hx.out]; simp [okc]; omega
        simp [fitsB, this]
      · by_cases h2 : (126 : Int) < S[k].toNat
        · have h1' : (32 : Int) ≤ S[k].toNat := by omega
          go_wp2
          go_ret
          refine ⟨ret_bool ?_, rfl⟩
          have : (nums S).all okc = false := by
            rw [List.all_eq_false]
            refine ⟨(nums S).getD k 0, ?_, ?_⟩
            · rw [List.getD_eq_getElem?_getD, List.getElem?_eq_getElem (by rw [nums_len]; exact hlt)]; exact List.getElem_mem _
            · rw [hx.out]; simp [okc]; omega
          simp [fitsB, this]
        · have hnext : Kpt (∀ j, j < k + 1 → okc ((nums S).getD j 0) = true) := ⟨fun j hj => by
            by_cases hjk : j < k
            · exact hh.out j hjk
            · obtain rfl : j = k := by omega
              rw [hx.out]; simp [okc]; omega⟩
          have h1' : (32 : Int) ≤ S[k].toNat := by omega
          have h2' : (S[k].toNat : Int) ≤ 126 := by omega
          go_wp2
          go_round
          case rel => exact ⟨k + 1, by omega, by go_num, hnext⟩
          case measure => simp [intOf]; omega
    · have e1 : ¬ (k : Int) < S.size := by omega
      have hall : (nums S).all okc = true := by
        rw [List.all_eq_true]
        intro x hx
        obtain ⟨j, hj, rfl⟩ := List.getElem_of_mem hx
        have := hh.out j (by rw [nums_len] at hj; omega)
        rw [List.getD_eq_getElem?_getD, List.getElem?_eq_getElem hj] at this
        exact this
      by_cases hm : m ≤ (S.size : Int)
      · go_wp2
        go_ret
        exact ⟨ret_bool (by simp [fitsB, hall, hm]), rfl⟩
      · have hm' : (S.size : Int) < m := by omega
        go_wp2
        go_ret
        exact ⟨ret_bool (by simp [fitsB, hall]; omega), rfl⟩


def In.rvals (i : In) : Array Value := #[.string i.ve, .string i.pr, .string i.re, .string i.se, .int .i64 i.pt]
theorem of_any (i : In) (w : World) (hi : i.wf) : Calls Try.prog 12 #[.agg i.vals] w fun e w' => e = .returned (.agg i.rvals) ∧ Below w.heap.size w w' := by
  have hp := hi.pt
  obtain ⟨ve, pr, re, se, pt⟩ := i
  simp only at hp
  have v1 : IntKind.i64.wrap pt = pt := by rw [IntKind.wrap_i64]; omega
  simp only [In.vals]
  go_enter Try.func12, Try.ntmps12
  go_wp2_with fail
  refine bodyPost_ret (v := .agg (In.rvals ⟨ve, pr, re, se, pt⟩)) (by simp [results, Try.results12, go_sem, In.rvals]) rfl ⟨rfl, ?_⟩
  exact ((Below.refl _ _).alloc (Nat.le_refl _) _).alloc (by simp) _
theorem fits_0 (S : ByteArray) (n : Int) : fitsB S 0 n = plainB S n := by unfold fitsB plainB; rw [decide_eq_true (show (0 : Int) ≤ S.size by omega), Bool.true_and]
theorem form_fits (i : In) : i.form = (fitsB i.ve 0 8 && fitsB i.pr 0 16 && fitsB i.re 0 4 && fitsB i.se 1 20 && decide (i.pt ≤ 3)) := by
  unfold In.form
  rw [fits_0, fits_0, fits_0]
  unfold fitsB plainB
  by_cases h : 0 < i.se.size
  · rw [decide_eq_true h, decide_eq_true (show (1 : Int) ≤ i.se.size by omega)]; simp [Bool.and_assoc]
  · rw [decide_eq_false h, decide_eq_false (show ¬ (1 : Int) ≤ i.se.size by omega)]; simp

set_option maxHeartbeats 2000000 in
theorem rform_any (i : In) (w : World) (hi : i.wf) :
    Calls Try.prog 14 #[.agg i.rvals] w fun e w' => e = .returned (.bool i.form) ∧ Below w.heap.size w w' := by
  have H1 := Kpt.mk (fun W => fits_any i.ve 0 8 W hi.ve)
  have H2 := Kpt.mk (fun W => fits_any i.pr 0 16 W hi.pr)
  have H3 := Kpt.mk (fun W => fits_any i.re 0 4 W hi.re)
  have H4 := Kpt.mk (fun W => fits_any i.se 1 20 W hi.se)
  obtain ⟨f, hf⟩ : ∃ f, f = i.form := ⟨_, rfl⟩
  rw [← hf]
  rw [form_fits] at hf
  obtain ⟨ve, pr, re, se, pt⟩ := i
  simp only [In.rvals] at H1 H2 H3 H4 hf ⊢
  generalize fitsB ve 0 8 = b1 at *
  generalize fitsB pr 0 16 = b2 at *
  generalize fitsB re 0 4 = b3 at *
  generalize fitsB se 1 20 = b4 at *
  have hb : ∀ o, Below w.heap.size w (w.alloc o) := fun o => (Below.refl _ _).alloc (Nat.le_refl _) _
  clear hi
  cases b1
  · simp only [Bool.and_true, Bool.and_false, Bool.false_and, Bool.true_and] at hf
    subst hf
    go_enter Try.func14, Try.ntmps14
    go_wp2_with fail
    refine (H1.out _).mono ?_
    rintro e w1 ⟨rfl, rfl⟩
    go_wp2_with fail
    go_ret
    exact ⟨rfl, hb _⟩
  cases b2
  · simp only [Bool.and_true, Bool.and_false, Bool.false_and, Bool.true_and] at hf
    subst hf
    go_enter Try.func14, Try.ntmps14
    go_wp2_with fail
    refine (H1.out _).mono ?_
    rintro e w1 ⟨rfl, rfl⟩
    go_wp2_with fail
    refine (H2.out _).mono ?_
    rintro e w1 ⟨rfl, rfl⟩
    go_wp2_with fail
    go_ret
    exact ⟨rfl, hb _⟩
  cases b3
  · simp only [Bool.and_true, Bool.and_false, Bool.false_and, Bool.true_and] at hf
    subst hf
    go_enter Try.func14, Try.ntmps14
    go_wp2_with fail
    refine (H1.out _).mono ?_
    rintro e w1 ⟨rfl, rfl⟩
    go_wp2_with fail
    refine (H2.out _).mono ?_
    rintro e w1 ⟨rfl, rfl⟩
    go_wp2_with fail
    refine (H3.out _).mono ?_
    rintro e w1 ⟨rfl, rfl⟩
    go_wp2_with fail
    go_ret
    exact ⟨rfl, hb _⟩
  cases b4
  · simp only [Bool.and_true, Bool.and_false, Bool.false_and, Bool.true_and] at hf
    subst hf
    go_enter Try.func14, Try.ntmps14
    go_wp2_with fail
    refine (H1.out _).mono ?_
    rintro e w1 ⟨rfl, rfl⟩
    go_wp2_with fail
    refine (H2.out _).mono ?_
    rintro e w1 ⟨rfl, rfl⟩
    go_wp2_with fail
    refine (H3.out _).mono ?_
    rintro e w1 ⟨rfl, rfl⟩
    go_wp2_with fail
    refine (H4.out _).mono ?_
    rintro e w1 ⟨rfl, rfl⟩
    go_wp2_with fail
    go_ret
    exact ⟨rfl, hb _⟩
  by_cases hp : pt ≤ 3
  · rw [decide_eq_true hp] at hf
    simp only [Bool.and_true, Bool.and_false, Bool.false_and, Bool.true_and] at hf
    subst hf
    go_enter Try.func14, Try.ntmps14
    go_wp2_with fail
    refine (H1.out _).mono ?_
    rintro e w1 ⟨rfl, rfl⟩
    go_wp2_with fail
    refine (H2.out _).mono ?_
    rintro e w1 ⟨rfl, rfl⟩
    go_wp2_with fail
    refine (H3.out _).mono ?_
    rintro e w1 ⟨rfl, rfl⟩
    go_wp2_with fail
    refine (H4.out _).mono ?_
    rintro e w1 ⟨rfl, rfl⟩
    go_wp2_with fail
    go_ret
    first | exact ⟨rfl, hb _⟩ | exact ⟨ret_bool (by simp; omega), hb _⟩
  · rw [decide_eq_false hp] at hf
    simp only [Bool.and_true, Bool.and_false, Bool.false_and, Bool.true_and] at hf
    subst hf
    go_enter Try.func14, Try.ntmps14
    go_wp2_with fail
    refine (H1.out _).mono ?_
    rintro e w1 ⟨rfl, rfl⟩
    go_wp2_with fail
    refine (H2.out _).mono ?_
    rintro e w1 ⟨rfl, rfl⟩
    go_wp2_with fail
    refine (H3.out _).mono ?_
    rintro e w1 ⟨rfl, rfl⟩
    go_wp2_with fail
    refine (H4.out _).mono ?_
    rintro e w1 ⟨rfl, rfl⟩
    go_wp2_with fail
    go_ret
    first | exact ⟨rfl, hb _⟩ | exact ⟨ret_bool (by simp; omega), hb _⟩

theorem sps_succ (k : Nat) : sps k ++ ⟨#[32]⟩ = sps (k + 1) := by
  apply Go.WideShapes.bytes_inj
  rw [ByteArray.data_append]
  simp [sps, List.replicate_succ']
theorem app_assoc (a b c : ByteArray) : a ++ b ++ c = a ++ (b ++ c) := by
  apply Go.WideShapes.bytes_inj
  simp
set_option maxRecDepth 100000 in
theorem as_any (S : ByteArray) (n : Nat) (w : World) (h : S.size ≤ n) (hn : n ≤ 16) :
    Calls Try.prog 32 #[.string S, .int .i64 n] w fun e w' => e = .returned (.string (fillS S n)) ∧ w' = w := by
  go_enter Try.func32, Try.ntmps32
  go_wp2
  go_loop [0] (fun s => ∃ k : Nat, S.size + k ≤ n ∧ s = .string (S ++ sps k)) (fun s => match s with | .string x => n - x.size | _ => 0)
  case atStart => exact ⟨0, by omega, by
    congr 1
    apply Go.WideShapes.bytes_inj
    simp [sps]⟩
  case round =>
    obtain ⟨k, hk, rfl⟩ := hrel
    have hz : (S ++ sps k).size = S.size + k := by rw [size_app, sps_size]
    have hs2 : S ++ sps k ++ ⟨#[32]⟩ = S ++ sps (k + 1) := by rw [app_assoc, sps_succ]
    have hz2 : (S ++ sps (k + 1)).size = S.size + (k + 1) := by rw [size_app, sps_size]
    obtain ⟨T, hT⟩ : ∃ T, T = S ++ sps k := ⟨_, rfl⟩
    rw [← hT] at hz hs2 ⊢
    obtain ⟨U, hU⟩ : ∃ U, U = S ++ sps (k + 1) := ⟨_, rfl⟩
    rw [← hU] at hz2 hs2
    by_cases hlt : S.size + k < n
    · have e1 : (T.size : Int) < n := by omega
      have hlim : ¬ 9223372036854775807 < T.size + (⟨#[32]⟩ : ByteArray).size := by rw [hz]; show ¬ 9223372036854775807 < S.size + k + 1; omega
      replace hT := Kpt.mk hT
      replace hU := Kpt.mk hU
      replace hz := Kpt.mk hz
      replace hz2 := Kpt.mk hz2
      go_wp2_with fail
      go_round
      case rel => exact ⟨k + 1, by omega, by rw [hU.out]⟩
      case measure => first | (simp only; rw [hz.out, hz2.out]; omega) | (have := hz.out; have := hz2.out; simp; omega) | (have := hz.out; have := hz2.out; omega)
    · have e1 : ¬ (T.size : Int) < n := by omega
      have hk' : k = n - S.size := by omega
      replace hT := Kpt.mk hT
      clear hz hs2 hz2 hU
      go_wp2_with fail
      go_ret
      exact ⟨by rw [hT.out, hk']; rfl, rfl⟩
end Go.Proofs.Yteoaadpilaljnaa
