/-
  text: where a comma stands; what stands ahead of it and behind it.
-/
import Derived.Test.YtplifodddfjhdaaGreatDoorXIds
namespace Go.Proofs.YtplifodddfjhdaaGreatDoor
open Go.RowKit
set_option linter.unusedVariables false
set_option linter.unusedSimpArgs false

set_option maxHeartbeats 1000000 in
set_option maxRecDepth 100000 in
set_option maxHeartbeats 1000000 in
theorem sindex44 (zs : List Int) (w : World) (hb : Bytes zs) (hl : zs.length ≤ 281474976710656) :
    Calls Tryz.prog 82 #[.string (strOfNums zs), .string ⟨#[44]⟩] w fun e w' => e = .returned (.int .i64 (idxI zs 44)) ∧ w' = w := by
  have h := ibs_any zs 44 w hb (by decide) (by decide)
  by_cases h1 : zs = [44]
  · subst h1
    have e1 : idxI [44] 44 = 0 := rfl
    have e2 : strOfNums [44] = ⟨#[44]⟩ := rfl
    rw [e1, e2]
    clear h
    go_enter Tryz.func82, Tryz.ntmps82
    go_wp2
    go_ret
    exact ⟨rfl, rfl⟩
  · have hne : ¬ strOfNums zs = ⟨#[44]⟩ := fun e => h1 (str_inj hb (Bytes.cons (by decide) Bytes.nil) (e.trans rfl))
    obtain ⟨x, hx⟩ : ∃ x, x = idxI zs 44 := ⟨_, rfl⟩
    obtain ⟨s, hs⟩ : ∃ s, s = strOfNums zs := ⟨_, rfl⟩
    rw [← hs, ← hx] at h
    rw [← hs] at hne
    rw [← hs, ← hx]
    have hne2 : (([44] : List UInt8) == s.toList) = false := beq_eq_false_iff_ne.2 fun e => hne (by
      rw [ByteArray.toList_eq] at e
      obtain ⟨d⟩ := s
      congr
      exact Array.toList_inj.1 e.symm)
    replace h := Kpt.mk h
    clear hx hs hb h1
    go_enter Tryz.func82, Tryz.ntmps82
    go_wp2_with (go_at_call 96; go_must (refine h.out.mono ?_; rintro e w ⟨rfl, rfl⟩))
    go_ret
    exact ⟨rfl, rfl⟩

set_option maxRecDepth 100000 in
set_option maxHeartbeats 1000000 in
theorem slcut44_no (zs : List Int) (w : World) (hb : Bytes zs) (hl : zs.length ≤ 281474976710656) (hi : idxL zs 44 = none) :
    Calls Tryz.prog 74 #[.string (strOfNums zs), .string ⟨#[44]⟩] w fun e w' => e = .returned (.tuple #[.string (strOfNums zs), .string ⟨#[]⟩, .bool false]) ∧ Sm w w' := by
  have h := sindex44 zs w hb hl
  rw [show idxI zs 44 = -1 by unfold idxI; rw [hi]] at h
  obtain ⟨s, hs⟩ : ∃ s, s = strOfNums zs := ⟨_, rfl⟩
  rw [← hs] at h ⊢
  replace h := Kpt.mk h
  clear hs hi hb
  go_enter Tryz.func74, Tryz.ntmps74
  go_wp2_with (go_at_call 82; go_must (refine h.out.mono ?_; rintro e w ⟨rfl, rfl⟩))
  go_ret3
  exact ⟨rfl, ⟨rfl, ⟨rfl, rfl, rfl, Nat.le_refl _, fun _ _ => rfl⟩⟩⟩

set_option maxRecDepth 100000 in
set_option maxHeartbeats 1000000 in
theorem slcut44_yes (zs : List Int) (w : World) (hb : Bytes zs) (hl : zs.length ≤ 281474976710656) (i : Nat) (hi : idxL zs 44 = some i) :
    Calls Tryz.prog 74 #[.string (strOfNums zs), .string ⟨#[44]⟩] w fun e w' => e = .returned (.tuple #[.string (strOfNums (zs.take i)), .string (strOfNums (zs.drop (i + 1))), .bool true]) ∧ Sm w w' := by
  have h := sindex44 zs w hb hl
  rw [show idxI zs 44 = (i : Int) by unfold idxI; rw [hi]] at h
  have hlt := idxL_lt zs 44 i hi
  have e1 : (strOfNums zs).extract 0 i = strOfNums (zs.take i) := by rw [str_extract, List.drop_zero]
  have e2 : (strOfNums zs).extract (i + 1) zs.length = strOfNums (zs.drop (i + 1)) := by rw [str_extract, List.take_length]
  have hsz := str_size zs
  obtain ⟨s, hs⟩ : ∃ s, s = strOfNums zs := ⟨_, rfl⟩
  obtain ⟨s1, hs1⟩ : ∃ s, s = strOfNums (zs.take i) := ⟨_, rfl⟩
  obtain ⟨s2, hs2⟩ : ∃ s, s = strOfNums (zs.drop (i + 1)) := ⟨_, rfl⟩
  obtain ⟨n, hn⟩ : ∃ n, n = zs.length := ⟨_, rfl⟩
  rw [← hs] at h e1 e2 hsz
  rw [← hs1] at e1
  rw [← hs2, ← hn] at e2
  rw [← hs, ← hs1, ← hs2]
  rw [← hn] at hsz hlt hl
  replace h := Kpt.mk h
  have hin : (i : Int) < n := by omega
  clear hs hs1 hs2 hn hi hb
  go_enter Tryz.func74, Tryz.ntmps74
  go_wp2_with (go_at_call 82; go_must (refine h.out.mono ?_; rintro e w ⟨rfl, rfl⟩))
  go_region
  go_wp2
  go_ret3
  exact ⟨rfl, ⟨rfl, ⟨rfl, rfl, rfl, Nat.le_refl _, fun _ _ => rfl⟩⟩⟩
theorem scut44 (zs : List Int) (w : World) (hb : Bytes zs) (hl : zs.length ≤ 281474976710656) :
    Calls Tryz.prog 66 #[.string (strOfNums zs), .string ⟨#[44]⟩] w fun e w' => e = .returned (.tuple #[.string (strOfNums (cutA zs 44)), .string (strOfNums (cutB zs 44)), .bool (cutF zs 44)]) ∧ Sm w w' := by
  have h : Calls Tryz.prog 74 #[.string (strOfNums zs), .string ⟨#[44]⟩] w fun e w' => e = .returned (.tuple #[.string (strOfNums (cutA zs 44)), .string (strOfNums (cutB zs 44)), .bool (cutF zs 44)]) ∧ Sm w w' := by
    cases hi : idxL zs 44 with
    | none =>
      have := slcut44_no zs w hb hl hi
      unfold cutA cutB cutF
      rw [hi]
      exact this
    | some i =>
      have := slcut44_yes zs w hb hl i hi
      unfold cutA cutB cutF
      rw [hi]
      exact this
  obtain ⟨s, hs⟩ : ∃ s, s = strOfNums zs := ⟨_, rfl⟩
  obtain ⟨s1, hs1⟩ : ∃ s, s = strOfNums (cutA zs 44) := ⟨_, rfl⟩
  obtain ⟨s2, hs2⟩ : ∃ s, s = strOfNums (cutB zs 44) := ⟨_, rfl⟩
  obtain ⟨f, hf⟩ : ∃ s, s = cutF zs 44 := ⟨_, rfl⟩
  rw [← hs, ← hs1, ← hs2, ← hf] at h
  rw [← hs, ← hs1, ← hs2, ← hf]
  replace h := Kpt.mk h
  clear hs hs1 hs2 hf hb
  go_enter Tryz.func66, Tryz.ntmps66
  go_wp2_with (go_at_call 74; go_must (refine h.out.mono ?_; rintro e w1 ⟨rfl, hs1⟩; replace hs1 := Kpt.mk hs1))
  go_ret3
  exact ⟨rfl, hs1.out⟩

end Go.Proofs.YtplifodddfjhdaaGreatDoor
