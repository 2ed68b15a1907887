/-
  Files that are renamed and removed.
-/
import Derived.Test.YtfcbacmfjhabgaaApplyN
namespace Go.Proofs.Ytfcbacmfjhabgaa
open Go.RowKit Go.Maps
set_option linter.unusedVariables false
set_option linter.unusedSimpArgs false

/-- The state behind a change that went well. -/
def stA (st : St) (c : Chg) : St := { st with seen := c.run st.seen, waits := st.waits ++ [c], ops := st.ops + 1, cnt := st.cnt + 2 }

theorem rename_some (w : World) (B : Nat) (tag : Tags) (st : St) (h : Wd w B tag st) (hc : st.cnt < 549755813888) (hf : st.fails st.ops = false) (s t : ByteArray) (h1 : 1 ≤ s.size) (h2 : s.size ≤ 32) (h3 : 1 ≤ t.size) (h4 : t.size ≤ 32) (zs : List Int) (hs : st.seen s = some zs) :
    Calls Try.prog 16 #[.pointer (some ⟨B, 0, none⟩), .string s, .string t] w fun e w' => e = .returned (.int .i64 0) ∧ ∃ tag', Wd w' B tag' (stA st (.rn s t)) ∧ Step w w' tag tag' (fun _ => True) := by
  have hal := alter_some w B tag st h hc hf (.rn s t) 1 s t rfl (applies_rn s t) (fun _ _ => ⟨h2, h4, rfl⟩) h2 zs hs
  clear h
  by_cases hst : s = t
  · subst hst
    go_enter Try.func16, Try.ntmps16
    go_wp2_with (first | (go_at_call 22; refine (named_ok s _ h1 h2).mono ?_; rintro e w' ⟨rfl, hw'⟩; rw [hw']) | (go_at_call 29; refine hal.mono ?_; rintro e w1 ⟨rfl, hx⟩))
    go_ret
    exact ⟨rfl, hx⟩
  · go_enter Try.func16, Try.ntmps16
    go_wp2_with (first | (go_at_call_of 22 (Value.string s); refine (named_ok s _ h1 h2).mono ?_; rintro e w' ⟨rfl, hw'⟩; rw [hw']) | (go_at_call 22; refine (named_ok t _ h3 h4).mono ?_; rintro e w' ⟨rfl, hw'⟩; rw [hw']) | (go_at_call 29; refine hal.mono ?_; rintro e w1 ⟨rfl, hx⟩))
    go_ret
    exact ⟨rfl, hx⟩

theorem rename_none (w : World) (B : Nat) (tag : Tags) (st : St) (h : Wd w B tag st) (hc : st.cnt < 549755813888) (hf : st.fails st.ops = false) (s t : ByteArray) (h1 : 1 ≤ s.size) (h2 : s.size ≤ 32) (h3 : 1 ≤ t.size) (h4 : t.size ≤ 32) (hs : st.seen s = none) :
    Calls Try.prog 16 #[.pointer (some ⟨B, 0, none⟩), .string s, .string t] w fun e w' => e = .returned (.int .i64 8) ∧ Wd w' B tag (stR st) ∧ Step w w' tag tag (fun _ => True) := by
  have hal := alter_none w B tag st h hc hf 1 s t h2 hs
  clear h
  go_enter Try.func16, Try.ntmps16
  go_wp2_with (first | (go_at_call_of 22 (Value.string s); refine (named_ok s _ h1 h2).mono ?_; rintro e w' ⟨rfl, hw'⟩; rw [hw']) | (go_at_call 22; refine (named_ok t _ h3 h4).mono ?_; rintro e w' ⟨rfl, hw'⟩; rw [hw']) | (go_at_call 29; refine hal.mono ?_; rintro e w1 ⟨rfl, hx⟩))
  go_ret
  exact ⟨rfl, hx⟩

theorem remove_some (w : World) (B : Nat) (tag : Tags) (st : St) (h : Wd w B tag st) (hc : st.cnt < 549755813888) (hf : st.fails st.ops = false) (s : ByteArray) (h1 : 1 ≤ s.size) (h2 : s.size ≤ 32) (zs : List Int) (hs : st.seen s = some zs) :
    Calls Try.prog 17 #[.pointer (some ⟨B, 0, none⟩), .string s] w fun e w' => e = .returned (.int .i64 0) ∧ ∃ tag', Wd w' B tag' (stA st (.rm s)) ∧ Step w w' tag tag' (fun _ => True) := by
  have hal := alter_some w B tag st h hc hf (.rm s) 2 s ⟨#[]⟩ rfl (applies_rm s) (fun _ _ => ⟨h2, rfl⟩) h2 zs hs
  clear h
  go_enter Try.func17, Try.ntmps17
  go_wp2_with (first | (go_at_call 22; refine (named_ok s _ h1 h2).mono ?_; rintro e w' ⟨rfl, hw'⟩; rw [hw']) | (go_at_call 29; refine hal.mono ?_; rintro e w1 ⟨rfl, hx⟩))
  go_ret
  exact ⟨rfl, hx⟩

theorem remove_none (w : World) (B : Nat) (tag : Tags) (st : St) (h : Wd w B tag st) (hc : st.cnt < 549755813888) (hf : st.fails st.ops = false) (s : ByteArray) (h1 : 1 ≤ s.size) (h2 : s.size ≤ 32) (hs : st.seen s = none) :
    Calls Try.prog 17 #[.pointer (some ⟨B, 0, none⟩), .string s] w fun e w' => e = .returned (.int .i64 8) ∧ Wd w' B tag (stR st) ∧ Step w w' tag tag (fun _ => True) := by
  have hal := alter_none w B tag st h hc hf 2 s ⟨#[]⟩ h2 hs
  clear h
  go_enter Try.func17, Try.ntmps17
  go_wp2_with (first | (go_at_call 22; refine (named_ok s _ h1 h2).mono ?_; rintro e w' ⟨rfl, hw'⟩; rw [hw']) | (go_at_call 29; refine hal.mono ?_; rintro e w1 ⟨rfl, hx⟩))
  go_ret
  exact ⟨rfl, hx⟩
end Go.Proofs.Ytfcbacmfjhabgaa
