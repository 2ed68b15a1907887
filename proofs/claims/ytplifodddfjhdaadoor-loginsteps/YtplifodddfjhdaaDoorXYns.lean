/-
  text: answers to keys that are Yes or No.
-/
import Derived.Test.YtplifodddfjhdaaDoorXFsts
import Derived.Test.YtplifodddfjhdaaDoorXFnl
namespace Go.Proofs.YtplifodddfjhdaaDoor
open Go.RowKit
set_option linter.unusedVariables false
set_option linter.unusedSimpArgs false

def bothS (o : ByteArray) (b : Bool) : ByteArray := if o = ⟨#[89, 101, 115]⟩ then (if b = true then ⟨#[89, 101, 115]⟩ else ⟨#[78, 111]⟩) else if o = ⟨#[78, 111]⟩ then ⟨#[78, 111]⟩ else ⟨#[82, 101, 106, 101, 99, 116]⟩
def eitherS (o : ByteArray) (b : Bool) : ByteArray := if o = ⟨#[89, 101, 115]⟩ then ⟨#[89, 101, 115]⟩ else if o = ⟨#[78, 111]⟩ then (if b = true then ⟨#[89, 101, 115]⟩ else ⟨#[78, 111]⟩) else ⟨#[82, 101, 106, 101, 99, 116]⟩
theorem yes_no : ¬ (⟨#[78, 111]⟩ : ByteArray) = ⟨#[89, 101, 115]⟩ := fun e => by
  have := congrArg (fun a : ByteArray => a.size) e
  exact absurd this (by decide)
def ansS (o : ByteArray) (b : Bool) : ByteArray := if o = ⟨#[89, 101, 115]⟩ then (if b = true then ⟨#[89, 101, 115]⟩ else ⟨#[78, 111]⟩) else if o = ⟨#[78, 111]⟩ then (if b = true then ⟨#[89, 101, 115]⟩ else ⟨#[78, 111]⟩) else ⟨#[82, 101, 106, 101, 99, 116]⟩

set_option maxRecDepth 100000 in
theorem ans_any (o : ByteArray) (b : Bool) (w : World) : Calls Tryd.prog 52 #[.string o, .bool b] w fun e w' => e = .returned (.string (ansS o b)) ∧ w' = w := by
  by_cases h1 : o = ⟨#[89, 101, 115]⟩
  · subst h1
    cases b
    · have hv : ansS ⟨#[89, 101, 115]⟩ false = ⟨#[78, 111]⟩ := by simp [ansS]
      go_enter Tryd.func52, Tryd.ntmps52
      go_wp2
      go_ret
      exact ⟨by simp [ansS, ansS], rfl⟩
    · have hv : ansS ⟨#[89, 101, 115]⟩ true = ⟨#[89, 101, 115]⟩ := by simp [ansS]
      go_enter Tryd.func52, Tryd.ntmps52
      go_wp2
      go_ret
      exact ⟨by simp [ansS, ansS], rfl⟩
  · by_cases h2 : o = ⟨#[78, 111]⟩
    · subst h2
      have hne := toList_ne yes_no
      cases b
      · go_enter Tryd.func52, Tryd.ntmps52
        go_wp2
        go_ret
        exact ⟨by simp [ansS, ansS, yes_no], rfl⟩
      · go_enter Tryd.func52, Tryd.ntmps52
        go_wp2
        go_ret
        exact ⟨by simp [ansS, ansS, yes_no], rfl⟩
    · have k1 : (o.toList == [89, 101, 115]) = false := by have h := toList_ne h1; rwa [show (⟨#[89, 101, 115]⟩ : ByteArray).toList = [89, 101, 115] from by rw [ByteArray.toList_eq]] at h
      have k2 : (o.toList == [78, 111]) = false := by have h := toList_ne h2; rwa [show (⟨#[78, 111]⟩ : ByteArray).toList = [78, 111] from by rw [ByteArray.toList_eq]] at h
      have hv : ansS o b = ⟨#[82, 101, 106, 101, 99, 116]⟩ := by simp [ansS, h1, h2]
      have hw : ∀ c, ansS o c = ⟨#[82, 101, 106, 101, 99, 116]⟩ := fun c => by simp [ansS, h1, h2]
      have hw' := Kpt.mk hw
      have hv' := Kpt.mk hv
      clear hw hv h1 h2
      cases b
      · go_enter Tryd.func52, Tryd.ntmps52
        go_wp2
        go_ret
        exact ⟨by rw [hv'.out]; rfl, rfl⟩
      · go_enter Tryd.func52, Tryd.ntmps52
        go_wp2
        go_ret
        exact ⟨by rw [hv'.out]; rfl, rfl⟩

set_option maxRecDepth 100000 in
theorem both_any (o : ByteArray) (b : Bool) (w : World) : Calls Tryd.prog 42 #[.string o, .bool b] w fun e w' => e = .returned (.string (bothS o b)) ∧ w' = w := by
  by_cases h1 : o = ⟨#[89, 101, 115]⟩
  · subst h1
    cases b
    · have hv : bothS ⟨#[89, 101, 115]⟩ false = ⟨#[78, 111]⟩ := by simp [bothS]
      go_enter Tryd.func42, Tryd.ntmps42
      go_wp2_with (go_at_call 52; go_must (refine (ans_any _ _ _).mono ?_; rintro e w1 ⟨rfl, rfl⟩))
      go_ret
      exact ⟨by simp [bothS, ansS], rfl⟩
    · have hv : bothS ⟨#[89, 101, 115]⟩ true = ⟨#[89, 101, 115]⟩ := by simp [bothS]
      go_enter Tryd.func42, Tryd.ntmps42
      go_wp2_with (go_at_call 52; go_must (refine (ans_any _ _ _).mono ?_; rintro e w1 ⟨rfl, rfl⟩))
      go_ret
      exact ⟨by simp [bothS, ansS], rfl⟩
  · by_cases h2 : o = ⟨#[78, 111]⟩
    · subst h2
      have hne := toList_ne yes_no
      cases b
      · go_enter Tryd.func42, Tryd.ntmps42
        go_wp2_with (go_at_call 52; go_must (refine (ans_any _ _ _).mono ?_; rintro e w1 ⟨rfl, rfl⟩))
        go_ret
        exact ⟨by simp [bothS, ansS, yes_no], rfl⟩
      · go_enter Tryd.func42, Tryd.ntmps42
        go_wp2_with (go_at_call 52; go_must (refine (ans_any _ _ _).mono ?_; rintro e w1 ⟨rfl, rfl⟩))
        go_ret
        exact ⟨by simp [bothS, ansS, yes_no], rfl⟩
    · have k1 : (o.toList == [89, 101, 115]) = false := by have h := toList_ne h1; rwa [show (⟨#[89, 101, 115]⟩ : ByteArray).toList = [89, 101, 115] from by rw [ByteArray.toList_eq]] at h
      have k2 : (o.toList == [78, 111]) = false := by have h := toList_ne h2; rwa [show (⟨#[78, 111]⟩ : ByteArray).toList = [78, 111] from by rw [ByteArray.toList_eq]] at h
      have hv : bothS o b = ⟨#[82, 101, 106, 101, 99, 116]⟩ := by simp [bothS, h1, h2]
      have hw : ∀ c, ansS o c = ⟨#[82, 101, 106, 101, 99, 116]⟩ := fun c => by simp [ansS, h1, h2]
      have hw' := Kpt.mk hw
      have hv' := Kpt.mk hv
      clear hw hv h1 h2
      cases b
      · go_enter Tryd.func42, Tryd.ntmps42
        go_wp2_with (go_at_call 52; go_must (refine (ans_any _ _ _).mono ?_; rintro e w1 ⟨rfl, rfl⟩))
        go_ret
        exact ⟨by rw [hv'.out]; exact congrArg (fun s => Ending.returned (.string s)) (hw'.out _), rfl⟩
      · go_enter Tryd.func42, Tryd.ntmps42
        go_wp2_with (go_at_call 52; go_must (refine (ans_any _ _ _).mono ?_; rintro e w1 ⟨rfl, rfl⟩))
        go_ret
        exact ⟨by rw [hv'.out]; exact congrArg (fun s => Ending.returned (.string s)) (hw'.out _), rfl⟩

set_option maxRecDepth 100000 in
theorem either_any (o : ByteArray) (b : Bool) (w : World) : Calls Tryd.prog 41 #[.string o, .bool b] w fun e w' => e = .returned (.string (eitherS o b)) ∧ w' = w := by
  by_cases h1 : o = ⟨#[89, 101, 115]⟩
  · subst h1
    cases b
    · have hv : eitherS ⟨#[89, 101, 115]⟩ false = ⟨#[89, 101, 115]⟩ := by simp [eitherS]
      go_enter Tryd.func41, Tryd.ntmps41
      go_wp2_with (go_at_call 52; go_must (refine (ans_any _ _ _).mono ?_; rintro e w1 ⟨rfl, rfl⟩))
      go_ret
      exact ⟨by simp [eitherS, ansS], rfl⟩
    · have hv : eitherS ⟨#[89, 101, 115]⟩ true = ⟨#[89, 101, 115]⟩ := by simp [eitherS]
      go_enter Tryd.func41, Tryd.ntmps41
      go_wp2_with (go_at_call 52; go_must (refine (ans_any _ _ _).mono ?_; rintro e w1 ⟨rfl, rfl⟩))
      go_ret
      exact ⟨by simp [eitherS, ansS], rfl⟩
  · by_cases h2 : o = ⟨#[78, 111]⟩
    · subst h2
      have hne := toList_ne yes_no
      cases b
      · go_enter Tryd.func41, Tryd.ntmps41
        go_wp2_with (go_at_call 52; go_must (refine (ans_any _ _ _).mono ?_; rintro e w1 ⟨rfl, rfl⟩))
        go_ret
        exact ⟨by simp [eitherS, ansS, yes_no], rfl⟩
      · go_enter Tryd.func41, Tryd.ntmps41
        go_wp2_with (go_at_call 52; go_must (refine (ans_any _ _ _).mono ?_; rintro e w1 ⟨rfl, rfl⟩))
        go_ret
        exact ⟨by simp [eitherS, ansS, yes_no], rfl⟩
    · have k1 : (o.toList == [89, 101, 115]) = false := by have h := toList_ne h1; rwa [show (⟨#[89, 101, 115]⟩ : ByteArray).toList = [89, 101, 115] from by rw [ByteArray.toList_eq]] at h
      have k2 : (o.toList == [78, 111]) = false := by have h := toList_ne h2; rwa [show (⟨#[78, 111]⟩ : ByteArray).toList = [78, 111] from by rw [ByteArray.toList_eq]] at h
      have hv : eitherS o b = ⟨#[82, 101, 106, 101, 99, 116]⟩ := by simp [eitherS, h1, h2]
      have hw : ∀ c, ansS o c = ⟨#[82, 101, 106, 101, 99, 116]⟩ := fun c => by simp [ansS, h1, h2]
      have hw' := Kpt.mk hw
      have hv' := Kpt.mk hv
      clear hw hv h1 h2
      cases b
      · go_enter Tryd.func41, Tryd.ntmps41
        go_wp2_with (go_at_call 52; go_must (refine (ans_any _ _ _).mono ?_; rintro e w1 ⟨rfl, rfl⟩))
        go_ret
        exact ⟨by rw [hv'.out]; exact congrArg (fun s => Ending.returned (.string s)) (hw'.out _), rfl⟩
      · go_enter Tryd.func41, Tryd.ntmps41
        go_wp2_with (go_at_call 52; go_must (refine (ans_any _ _ _).mono ?_; rintro e w1 ⟨rfl, rfl⟩))
        go_ret
        exact ⟨by rw [hv'.out]; exact congrArg (fun s => Ending.returned (.string s)) (hw'.out _), rfl⟩

end Go.Proofs.YtplifodddfjhdaaDoor
