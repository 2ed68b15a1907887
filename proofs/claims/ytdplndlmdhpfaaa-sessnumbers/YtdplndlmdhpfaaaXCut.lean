/-
  text: Cut of strings and of bytes; keys and values.
-/
import Derived.Test.YtdplndlmdhpfaaaXIdx
namespace Go.Proofs.Ytdplndlmdhpfaaa
open Go.RowKit
set_option linter.unusedVariables false
set_option linter.unusedSimpArgs false

theorem scut_any (zs : List Int) (w : World) (hb : Bytes zs) (hl : zs.length ≤ 100000) :
    Calls Try.prog 74 #[.string (strOfNums zs), .string ⟨#[61]⟩] w fun e w' => e = .returned (.tuple #[.string (strOfNums (cutA zs 61)), .string (strOfNums (cutB zs 61)), .bool (cutF zs 61)]) ∧ Sm w w' := by
  have h : Calls Try.prog 86 #[.string (strOfNums zs), .string ⟨#[61]⟩] w fun e w' => e = .returned (.tuple #[.string (strOfNums (cutA zs 61)), .string (strOfNums (cutB zs 61)), .bool (cutF zs 61)]) ∧ Sm w w' := by
    cases hi : idxL zs 61 with
    | none =>
      have := slcut_no zs w hb hl hi
      unfold cutA cutB cutF
      rw [hi]
      exact this
    | some i =>
      have := slcut_yes zs w hb hl i hi
      unfold cutA cutB cutF
      rw [hi]
      exact this
  obtain ⟨s, hs⟩ : ∃ s, s = strOfNums zs := ⟨_, rfl⟩
  obtain ⟨s1, hs1⟩ : ∃ s, s = strOfNums (cutA zs 61) := ⟨_, rfl⟩
  obtain ⟨s2, hs2⟩ : ∃ s, s = strOfNums (cutB zs 61) := ⟨_, rfl⟩
  obtain ⟨f, hf⟩ : ∃ s, s = cutF zs 61 := ⟨_, rfl⟩
  rw [← hs, ← hs1, ← hs2, ← hf] at h
  rw [← hs, ← hs1, ← hs2, ← hf]
  replace h := Kpt.mk h
  clear hs hs1 hs2 hf hb
  go_enter Try.func74, Try.ntmps74
  go_wp2_with (go_at_call 86; go_must (refine h.out.mono ?_; rintro e w1 ⟨rfl, hs1⟩; replace hs1 := Kpt.mk hs1))
  go_ret3
  exact ⟨rfl, hs1.out⟩

set_option maxRecDepth 100000 in
set_option maxHeartbeats 1000000 in
theorem bcut_no (b off n c g : Nat) (zs : List Int) (w : World) (hr : RdAt w (.slice (some ⟨b, off, none⟩) n c) zs) (hb : Bytes zs) (hg : w.cell? ⟨g, 0, none⟩ = some (.int .u8 0)) (hi : idxL zs 0 = none) :
    Calls Try.prog 73 #[.slice (some ⟨b, off, none⟩) n c, .slice (some ⟨g, 0, none⟩) 1 1] w fun e w' => e = .returned (.tuple #[.slice (some ⟨b, off, none⟩) n c, .slice none 0 0, .bool false]) ∧ Sm w w' := by
  have h := bindex_any b off n c g zs w hr hb hg
  rw [show idxI zs 0 = -1 by unfold idxI; rw [hi]] at h
  replace h := Kpt.mk h
  clear hr hi hb hg
  go_enter Try.func73, Try.ntmps73
  go_wp2_with (go_at_call 85; go_must (refine h.out.mono ?_; rintro e w ⟨rfl, rfl⟩))
  go_ret3
  exact ⟨rfl, Sm.refl _⟩

set_option maxRecDepth 100000 in
set_option maxHeartbeats 1000000 in
theorem bcut_yes (b off n c g : Nat) (zs : List Int) (w : World) (hr : RdAt w (.slice (some ⟨b, off, none⟩) n c) zs) (hb : Bytes zs) (hn : n ≤ 100000) (hc : c ≤ maxLen) (hg : w.cell? ⟨g, 0, none⟩ = some (.int .u8 0)) (i : Nat) (hi : idxL zs 0 = some i) :
    Calls Try.prog 73 #[.slice (some ⟨b, off, none⟩) n c, .slice (some ⟨g, 0, none⟩) 1 1] w fun e w' => e = .returned (.tuple #[.slice (some ⟨b, off, none⟩) i c, .slice (some ⟨b, offK c off (i + 1), none⟩) (n - (i + 1)) (c - (i + 1)), .bool true]) ∧ Sm w w' := by
  have h := bindex_any b off n c g zs w hr hb hg
  rw [show idxI zs 0 = (i : Int) by unfold idxI; rw [hi]] at h
  have hcn : n ≤ c ∧ zs.length = n := by obtain ⟨a', c', hv, h1, h2, h3⟩ := hr; simp only [Value.slice.injEq] at hv; omega
  have hlt := idxL_lt zs 0 i hi
  have hin : i + 1 ≤ n := by omega
  have k1 : ¬ c < i := by omega
  have k2 : ¬ (c : Int) < (i : Int) := by omega
  have k3 : ¬ (n : Int) < (i : Int) + 1 := by omega
  have e1 : ((i + 1 : Nat) : Int) = (i : Int) + 1 := by omega
  unfold maxLen at hc
  replace h := Kpt.mk h
  clear hr hi hb hg hlt
  go_enter Try.func73, Try.ntmps73
  go_wp2_with (go_at_call 85; go_must (refine h.out.mono ?_; rintro e w ⟨rfl, rfl⟩))
  go_region
  go_wp2
  all_goals (go_ret3; exact ⟨(by simp only [offK]; split <;> simp_all), ⟨rfl, ⟨rfl, rfl, rfl, Nat.le_refl _, fun _ _ => rfl⟩⟩⟩)

/-- A character of a key. -/
def keyC (c : Int) : Bool := decide (65 ≤ c ∧ c ≤ 90) || decide (97 ≤ c ∧ c ≤ 122) || decide (48 ≤ c ∧ c ≤ 57) || decide (c = 46 ∨ c = 45 ∨ c = 43 ∨ c = 95)
def keyB (zs : List Int) : Bool := zs.all keyC && decide (1 ≤ zs.length ∧ zs.length ≤ 63)
def valB (zs : List Int) : Bool := zs.all (fun c => decide (32 ≤ c ∧ c ≤ 126)) && decide (zs.length ≤ 255)
end Go.Proofs.Ytdplndlmdhpfaaa
