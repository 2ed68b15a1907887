/-
  text: Number of any text; Least.
-/
import Derived.Test.YtplifodddfjhdaaGreatDoorXFmts
namespace Go.Proofs.YtplifodddfjhdaaGreatDoor
open Go.RowKit
set_option linter.unusedVariables false
set_option linter.unusedSimpArgs false

theorem ifmt_any (u : Nat) (w : World) (hu64 : u < 18446744073709551616) (hG : Gl w) :
    Calls Tryz.prog 81 #[.int .u64 (u : Nat), .int .i64 10] w fun e w' => e = .returned (.string (decS u)) ∧ Below w.heap.size w w' := by
  by_cases h : u < 100
  · exact ifmt_small u w h
  · exact ifmt_great u w (by omega) hu64 hG
theorem fmt_any (u : Nat) (w : World) (hu64 : u < 18446744073709551616) (hG : Gl w) :
    Calls Tryz.prog 73 #[.int .u64 (u : Nat), .int .i64 10] w fun e w' => e = .returned (.string (decS u)) ∧ Below w.heap.size w w' := by
  have hc := Kpt.mk (ifmt_any u w hu64 hG)
  clear hG hu64
  go_enter Tryz.func73, Tryz.ntmps73
  go_wp2_with (go_at_call 81; go_must (refine hc.out.mono ?_; rintro e w1 ⟨rfl, hb1⟩; replace hb1 := Kpt.mk hb1))
  go_ret
  exact ⟨rfl, hb1.out⟩

set_option maxHeartbeats 1000000 in
theorem pu_bad (b : Int) (S : ByteArray) (w : World) (hG : Gl w) (hS : S.size ≤ 281474976710656) (hc : Calls Tryz.prog 94 #[.string S, .int .i64 b, .int .i64 64] w fun e w' => BadP e ∧ Below w.heap.size w w') :
    Calls Tryz.prog 80 #[.string S, .int .i64 b, .int .i64 64] w fun e w' => (∃ (v : Int) (N : Nat), e = .returned (.tuple #[.int .u64 v, .iface 168 (.pointer (some ⟨N, 0, none⟩))])) ∧ Below w.heap.size w w' := by
  replace hc := Kpt.mk hc
  have hte : Kpt (∀ (W : World) (k : Int), Gl W → (k = 1 ∨ k = 2) → Calls Tryz.prog 95 #[.string ⟨#[80, 97, 114, 115, 101, 85, 105, 110, 116]⟩, .string S, .int .i64 b, .int .i64 64, .iface 166 (.int .i64 k)] W fun e w' => (∃ N, e = .returned (.iface 168 (.pointer (some ⟨N, 0, none⟩)))) ∧ Below W.heap.size W w') := ⟨fun W k hW hk => by
    rcases hk with rfl | rfl
    · obtain ⟨ev, h1, h2⟩ := hW.err 5 (.inr rfl)
      refine (Tryz.strconv_toError_range _ S b 64 ev W hS h1 h2).mono ?_
      rintro e w' ⟨N, rfl, -, -, hb⟩
      exact ⟨⟨N, rfl⟩, hb⟩
    · obtain ⟨ev, h1, h2⟩ := hW.err 4 (.inl rfl)
      refine (Tryz.strconv_toError_syntax _ S b 64 ev W hS h1 h2).mono ?_
      rintro e w' ⟨N, rfl, -, -, hb⟩
      exact ⟨⟨N, rfl⟩, hb⟩⟩
  replace hG := Kpt.mk hG
  clear hS
  go_enter Tryz.func80, Tryz.ntmps80
  go_wp2_with (first
    | (go_at_call 95; go_must (refine (hte.out _ _ (hG.out.below hb1.out) hk.out).mono ?_; rintro e w2 ⟨⟨N, rfl⟩, hb2⟩; replace hb2 : Kpt (Below w.heap.size w w2) := ⟨hb1.out.trans (hb2.mono hb1.out.size)⟩))
    | (go_at_call 94; go_must (refine hc.out.mono ?_; rintro e w1 ⟨⟨v, k, rfl, -, -, hk⟩, hb1⟩; replace hb1 := Kpt.mk hb1; replace hk := Kpt.mk hk)))
  go_ret2
  exact ⟨⟨_, N, rfl⟩, hb2.out⟩
theorem iface_cmp : True := trivial
end Go.Proofs.YtplifodddfjhdaaGreatDoor
