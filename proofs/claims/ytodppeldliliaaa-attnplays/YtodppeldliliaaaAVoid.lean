/-
  The contracts where there are no queues, or the number is no nexus.
-/
import Derived.Test.YtodppeldliliaaaAAwake
namespace Go.Proofs.Ytodppeldliliaaa
open Go.RowKit
set_option linter.unusedVariables false
set_option linter.unusedSimpArgs false

/-- There are no queues, or the number is no nexus. -/
def Void (p : Option Addr) (n : Int) : Prop := ∀ w, Calls Try.prog 18 #[.pointer p, .int .i64 n] w fun e w' => e = .returned (.bool false) ∧ w' = w

theorem void_nil (n : Int) : Void none n := fun w => has_nil n w
theorem void_out (B : Nat) (n : Int) (h : ¬ (0 ≤ n ∧ n < 8)) : Void (some ⟨B, 0, none⟩) n := fun w => by
  have := has_any B n w
  rw [show hasB n = false from by simp [hasB]; omega] at this
  exact this

theorem codes_void (p : Option Addr) (n : Int) (w : World) (h : Void p n) : Calls Try.prog 20 #[.pointer p, .int .i64 n] w fun e w' => e = .returned (.slice none 0 0) ∧ w' = w := by
  have H := Kpt.mk (h w)
  clear h
  go_enter Try.func20, Try.ntmps20
  go_wp2_with (go_at_call 18; refine H.out.mono ?_; rintro e w' ⟨rfl, rfl⟩)
  go_ret
  exact ⟨rfl, rfl⟩
theorem peek_void (p : Option Addr) (n : Int) (w : World) (h : Void p n) : Calls Try.prog 12 #[.pointer p, .int .i64 n] w fun e w' => e = .returned (.tuple #[.int .u16 0, .bool false]) ∧ w' = w := by
  have H := Kpt.mk (codes_void p n w h)
  clear h
  go_enter Try.func12, Try.ntmps12
  go_wp2_with (go_at_call 20; refine H.out.mono ?_; rintro e w' ⟨rfl, rfl⟩)
  go_ret2
  exact ⟨rfl, rfl⟩
theorem next_void (p : Option Addr) (n : Int) (w : World) (h : Void p n) : Calls Try.prog 14 #[.pointer p, .int .i64 n] w fun e w' => e = .returned (.tuple #[.int .u16 0, .bool false]) ∧ w' = w := by
  have H := Kpt.mk (codes_void p n w h)
  clear h
  go_enter Try.func14, Try.ntmps14
  go_wp2_with (go_at_call 20; refine H.out.mono ?_; rintro e w' ⟨rfl, rfl⟩)
  go_ret2
  exact ⟨rfl, rfl⟩
theorem add_void (p : Option Addr) (n c : Int) (w : World) (h : Void p n) : Calls Try.prog 9 #[.pointer p, .int .i64 n, .int .u16 c] w fun e w' => e = .returned (.tuple #[]) ∧ w' = w := by
  have H := Kpt.mk (h w)
  clear h
  go_enter Try.func9, Try.ntmps9
  go_wp2_with (go_at_call 18; refine H.out.mono ?_; rintro e w' ⟨rfl, rfl⟩)
  exact bodyPost_end (results_none rfl _ _ _) rfl ⟨rfl, rfl⟩
theorem clear_void (p : Option Addr) (n : Int) (w : World) (h : Void p n) : Calls Try.prog 16 #[.pointer p, .int .i64 n] w fun e w' => e = .returned (.tuple #[]) ∧ w' = w := by
  have H := Kpt.mk (h w)
  clear h
  go_enter Try.func16, Try.ntmps16
  go_wp2_with (go_at_call 18; refine H.out.mono ?_; rintro e w' ⟨rfl, rfl⟩)
  exact bodyPost_end (results_none rfl _ _ _) rfl ⟨rfl, rfl⟩
set_option maxHeartbeats 1000000 in
theorem list_void (p : Option Addr) (n : Int) (w : World) (h : Void p n) :
    Calls Try.prog 15 #[.pointer p, .int .i64 n] w fun e w' => ∃ v', e = .returned v' ∧ Own w.heap.size w' v' [] ∧ Below w.heap.size w w' := by
  have HC := Kpt.mk (codes_void p n w h)
  obtain ⟨i0, hi0, hz0, hz1, hz2⟩ := info_parts Try.info31
  have hmax : 0 ≤ maxLen := Nat.zero_le _
  clear h
  go_enter Try.func15, Try.ntmps15
  go_wp2_with (first
    | (go_at_call 20; refine HC.out.mono ?_; rintro e w' ⟨rfl, rfl⟩)
    | (at_make; refine wpList_make_full _ rfl _ _ 27 rfl w'.heap.size 31 i0 (.int .u16 0) 1 Try.underlying27 hi0 hz0 hz1 .i64 .i64 _ _ 0 rfl rfl rfl rfl (by rw [hz2]; omega) hmax (Nat.le_refl _) ?_; intro w1 hown1 hg1; have hb1 : Kpt (Below w'.heap.size w' w1) := ⟨(Below.refl _ _).grown hg1 (Nat.le_refl _) (fun k h => by cases h)⟩; rw [made_u16] at hown1; replace hown1 := Kpt.mk hown1; clear hg1)
    | (refine wpList_copy_all rfl (.tmp 13) (.tmp 14) rfl w'.heap.size w'.heap.size 0 (List.replicate 0 0) [] (.slice none 0 0) rfl rfl hown1.out ⟨none, 0, rfl, .inl rfl⟩ rfl ?_; intro w2 hown2 hg2; have hb2 : Kpt (Below w'.heap.size w' w2) := ⟨hb1.out.grown hg2 hb1.out.size (fun k h => by cases h; exact Nat.le_refl _)⟩; replace hown2 := Kpt.mk hown2; clear hg2))
  go_ret
  exact ⟨_, rfl, hown2.out, hb2.out⟩
end Go.Proofs.Ytodppeldliliaaa
