/-
  The contracts of plain and Form.
-/
import Derived.Test.YteoaadpilaljnaaMem
import Derived.Test.YteoaadpilaljnaaOrder
import Derived.Lib.Strings
import Derived.Lib.Walk
namespace Go.Proofs.Yteoaadpilaljnaa
open Go.RowKit
set_option linter.unusedVariables false
set_option linter.unusedSimpArgs false

theorem ret_bool {a b : Bool} (h : a = b) : Ending.returned (.bool a) = .returned (.bool b) := by rw [h]
def okc (x : Int) : Bool := decide (32 ≤ x ∧ x ≤ 126)
/-- The bytes of a text, as numbers. -/
def nums (S : ByteArray) : List Int := S.data.toList.map (fun b => (b.toNat : Int))

theorem nums_len (S : ByteArray) : (nums S).length = S.size := by unfold nums; rw [List.length_map, Array.length_toList]; rfl
theorem nums_at (S : ByteArray) (k : Nat) (h : k < S.size) : (nums S).getD k 0 = (S[k].toNat : Int) := by
  rw [List.getD_eq_getElem?_getD, List.getElem?_eq_getElem (by rw [nums_len]; exact h)]
  simp [nums]
  rfl
def plainB (S : ByteArray) (n : Int) : Bool := (nums S).all okc && decide ((S.size : Int) ≤ n)

set_option maxHeartbeats 1000000 in
theorem plain_any (S : ByteArray) (n : Int) (w : World) (hS : S.size ≤ maxLen) :
    Calls Try.prog 33 #[.string S, .int .i64 n] w fun e w' => e = .returned (.bool (plainB S n)) ∧ w' = w := by
  unfold maxLen at hS
  go_enter Try.func33, Try.ntmps33
  go_wp2
  go_loop [8] (fun t => ∃ k : Nat, k ≤ S.size ∧ t = .int .i64 k ∧ Kpt (∀ j, j < k → okc ((nums S).getD j 0) = true)) (fun t => S.size - (intOf t).toNat)
  case atStart => exact ⟨0, by omega, rfl, ⟨fun j hj => by omega⟩⟩
  case round =>
    obtain ⟨k, hk, rfl, hh⟩ := hrel
    by_cases hlt : k < S.size
    · have e1 : (k : Int) < S.size := by omega
      have hx := Kpt.mk (nums_at S k hlt)
      by_cases h1 : (S[k].toNat : Int) < 32
      · go_wp2
        go_ret
        refine ⟨ret_bool ?_, rfl⟩
        have : (nums S).all okc = false := by
          rw [List.all_eq_false]
          refine ⟨(nums S).getD k 0, ?_, ?_⟩
          · rw [List.getD_eq_getElem?_getD, List.getElem?_eq_getElem (by rw [nums_len]; exact hlt)]; exact List.getElem_mem _
          · rw [hx.out]; simp [okc]; omega
        simp [plainB, this]
      · by_cases h2 : (126 : Int) < S[k].toNat
        · have h1' : (32 : Int) ≤ S[k].toNat := by omega
          go_wp2
          go_ret
          refine ⟨ret_bool ?_, rfl⟩
          have : (nums S).all okc = false := by
            rw [List.all_eq_false]
            refine ⟨(nums S).getD k 0, ?_, ?_⟩
            · rw [List.getD_eq_getElem?_getD, List.getElem?_eq_getElem (by rw [nums_len]; exact hlt)]; exact List.getElem_mem _
            · rw [hx.out]; simp [okc]; omega
          simp [plainB, this]
        · have hnext : Kpt (∀ j, j < k + 1 → okc ((nums S).getD j 0) = true) := ⟨fun j hj => by
            by_cases hjk : j < k
            · exact hh.out j hjk
            · obtain rfl : j = k := by omega
              rw [hx.out]; simp [okc]; omega⟩
          have h1' : (32 : Int) ≤ S[k].toNat := by omega
          have h2' : (S[k].toNat : Int) ≤ 126 := by omega
          go_wp2
          go_round
          case rel => exact ⟨k + 1, by omega, by go_num, hnext⟩
          case measure => simp [intOf]; omega
    · have e1 : ¬ (k : Int) < S.size := by omega
      have hall : (nums S).all okc = true := by
        rw [List.all_eq_true]
        intro x hx
        obtain ⟨j, hj, rfl⟩ := List.getElem_of_mem hx
        have := hh.out j (by rw [nums_len] at hj; omega)
        rw [List.getD_eq_getElem?_getD, List.getElem?_eq_getElem hj] at this
        exact this
      go_wp2
      go_ret
      exact ⟨ret_bool (by simp [plainB, hall]), rfl⟩

/-- Who a unit is. -/
structure In where
  ve : ByteArray
  pr : ByteArray
  re : ByteArray
  se : ByteArray
  pt : Int
def In.vals (i : In) : Array Value := #[.string i.ve, .string i.pr, .string i.re, .string i.se, .int .u8 i.pt]
structure In.wf (i : In) : Prop where
  ve : i.ve.size ≤ maxLen
  pr : i.pr.size ≤ maxLen
  re : i.re.size ≤ maxLen
  se : i.se.size ≤ maxLen
  pt : 0 ≤ i.pt ∧ i.pt ≤ 255
def In.form (i : In) : Bool := plainB i.ve 8 && plainB i.pr 16 && plainB i.re 4 && decide (0 < i.se.size) && plainB i.se 20 && decide (i.pt ≤ 3)

set_option maxHeartbeats 2000000 in
theorem form_any (i : In) (w : World) (hi : i.wf) :
    Calls Try.prog 13 #[.agg i.vals] w fun e w' => e = .returned (.bool i.form) ∧ Below w.heap.size w w' := by
  have H1 := Kpt.mk (fun W => plain_any i.ve 8 W hi.ve)
  have H2 := Kpt.mk (fun W => plain_any i.pr 16 W hi.pr)
  have H3 := Kpt.mk (fun W => plain_any i.re 4 W hi.re)
  have H4 := Kpt.mk (fun W => plain_any i.se 20 W hi.se)
  obtain ⟨f, hf⟩ : ∃ f, f = i.form := ⟨_, rfl⟩
  rw [← hf]
  unfold In.form at hf
  obtain ⟨ve, pr, re, se, pt⟩ := i
  simp only [In.vals] at H1 H2 H3 H4 hf ⊢
  generalize plainB ve 8 = b1 at *
  generalize plainB pr 16 = b2 at *
  generalize plainB re 4 = b3 at *
  generalize plainB se 20 = b4 at *
  have hb : ∀ o, Below w.heap.size w (w.alloc o) := fun o => (Below.refl _ _).alloc (Nat.le_refl _) _
  clear hi
  cases b1
  · simp only [Bool.and_true, Bool.and_false, Bool.false_and, Bool.true_and] at hf
    subst hf
    go_enter Try.func13, Try.ntmps13
    go_wp2_with fail
    refine (H1.out _).mono ?_
    rintro e w1 ⟨rfl, rfl⟩
    go_wp2_with fail
    go_ret
    exact ⟨rfl, hb _⟩
  cases b2
  · simp only [Bool.and_true, Bool.and_false, Bool.false_and, Bool.true_and] at hf
    subst hf
    go_enter Try.func13, Try.ntmps13
    go_wp2_with fail
    refine (H1.out _).mono ?_
    rintro e w1 ⟨rfl, rfl⟩
    go_wp2_with fail
    refine (H2.out _).mono ?_
    rintro e w1 ⟨rfl, rfl⟩
    go_wp2_with fail
    go_ret
    exact ⟨rfl, hb _⟩
  cases b3
  · simp only [Bool.and_true, Bool.and_false, Bool.false_and, Bool.true_and] at hf
    subst hf
    go_enter Try.func13, Try.ntmps13
    go_wp2_with fail
    refine (H1.out _).mono ?_
    rintro e w1 ⟨rfl, rfl⟩
    go_wp2_with fail
    refine (H2.out _).mono ?_
    rintro e w1 ⟨rfl, rfl⟩
    go_wp2_with fail
    refine (H3.out _).mono ?_
    rintro e w1 ⟨rfl, rfl⟩
    go_wp2_with fail
    go_ret
    exact ⟨rfl, hb _⟩
  by_cases hne : se = ⟨#[]⟩
  · subst hne
    have hz : (decide (0 < (⟨#[]⟩ : ByteArray).size)) = false := rfl
    rw [hz] at hf
    simp only [Bool.and_true, Bool.and_false, Bool.false_and, Bool.true_and] at hf
    subst hf
    go_enter Try.func13, Try.ntmps13
    go_wp2_with fail
    refine (H1.out _).mono ?_
    rintro e w1 ⟨rfl, rfl⟩
    go_wp2_with fail
    refine (H2.out _).mono ?_
    rintro e w1 ⟨rfl, rfl⟩
    go_wp2_with fail
    refine (H3.out _).mono ?_
    rintro e w1 ⟨rfl, rfl⟩
    go_wp2_with fail
    go_ret
    exact ⟨rfl, hb _⟩
  have hz : decide (0 < se.size) = true := by
    have h0 : ¬ se.size = 0 := fun e => hne (by
      obtain ⟨d⟩ := se
      have : d.size = 0 := e
      congr
      exact Array.eq_empty_of_size_eq_zero this)
    simp; omega
  rw [hz] at hf
  have hnl : ¬ se.toList = [] := by
    rw [ByteArray.toList_eq]
    intro h
    exact hne (by obtain ⟨d⟩ := se; congr; exact Array.toList_eq_nil_iff.1 h)
  have hie : se.toList.isEmpty = false := by cases h : se.toList with | nil => exact absurd h hnl | cons a b => rfl
  clear hne hz
  cases b4
  · simp only [Bool.and_true, Bool.and_false, Bool.false_and, Bool.true_and] at hf
    subst hf
    go_enter Try.func13, Try.ntmps13
    go_wp2_with fail
    refine (H1.out _).mono ?_
    rintro e w1 ⟨rfl, rfl⟩
    go_wp2_with fail
    refine (H2.out _).mono ?_
    rintro e w1 ⟨rfl, rfl⟩
    go_wp2_with fail
    refine (H3.out _).mono ?_
    rintro e w1 ⟨rfl, rfl⟩
    go_wp2_with fail
    refine (H4.out _).mono ?_
    rintro e w1 ⟨rfl, rfl⟩
    go_wp2_with fail
    go_ret
    first | exact ⟨rfl, hb _⟩ | exact ⟨ret_bool (by simp [hie]), hb _⟩ | exact ⟨ret_bool (by simp [hie, hp]), hb _⟩ | exact ⟨ret_bool (by simp [hie]; omega), hb _⟩
  by_cases hp : pt ≤ 3
  · rw [decide_eq_true hp] at hf
    simp only [Bool.and_true, Bool.and_false, Bool.false_and, Bool.true_and] at hf
    subst hf
    go_enter Try.func13, Try.ntmps13
    go_wp2_with fail
    refine (H1.out _).mono ?_
    rintro e w1 ⟨rfl, rfl⟩
    go_wp2_with fail
    refine (H2.out _).mono ?_
    rintro e w1 ⟨rfl, rfl⟩
    go_wp2_with fail
    refine (H3.out _).mono ?_
    rintro e w1 ⟨rfl, rfl⟩
    go_wp2_with fail
    refine (H4.out _).mono ?_
    rintro e w1 ⟨rfl, rfl⟩
    go_wp2_with fail
    go_ret
    first | exact ⟨rfl, hb _⟩ | exact ⟨ret_bool (by simp [hie]), hb _⟩ | exact ⟨ret_bool (by simp [hie, hp]), hb _⟩ | exact ⟨ret_bool (by simp [hie]; omega), hb _⟩
  · rw [decide_eq_false hp] at hf
    simp only [Bool.and_true, Bool.and_false, Bool.false_and, Bool.true_and] at hf
    subst hf
    go_enter Try.func13, Try.ntmps13
    go_wp2_with fail
    refine (H1.out _).mono ?_
    rintro e w1 ⟨rfl, rfl⟩
    go_wp2_with fail
    refine (H2.out _).mono ?_
    rintro e w1 ⟨rfl, rfl⟩
    go_wp2_with fail
    refine (H3.out _).mono ?_
    rintro e w1 ⟨rfl, rfl⟩
    go_wp2_with fail
    refine (H4.out _).mono ?_
    rintro e w1 ⟨rfl, rfl⟩
    go_wp2_with fail
    go_ret
    exact ⟨ret_bool (by simp; omega), hb _⟩
end Go.Proofs.Yteoaadpilaljnaa
