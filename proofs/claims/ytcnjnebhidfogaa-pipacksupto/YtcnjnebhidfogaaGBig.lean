/-
  The document's numbers as bytes: the contract of Big.
-/
import Derived.Test.YtcnjnebhidfogaaGBackP
import Derived.Test.YtcnjnebhidfogaaBPutNum
import Derived.Outline
namespace Go.Proofs.Ytcnjnebhidfogaa
open Go.RowKit
set_option linter.unusedVariables false
set_option linter.unusedSimpArgs false

def bigL (v : Int) (n : Nat) : List Int := B.desc (List.replicate n 0) 0 n v n

theorem bigL_len (v : Int) (n : Nat) : (bigL v n).length = n := by simp [bigL, B.desc_len]

set_option maxHeartbeats 1000000 in
theorem big_any (v : Int) (n : Nat) (w : World) (hv : 0 ≤ v) (hv2 : v < 18446744073709551616) (hn : 0 < n) (hn8 : n ≤ 8) :
    Calls Try.prog 29 #[.int .u64 v, .int .i64 n] w fun e w' => ∃ g, e = .returned (.slice (some ⟨g, 0, none⟩) n n) ∧ w'.ownsRow w.heap.size 5 1 (.slice (some ⟨g, 0, none⟩) n n) n (cels (bigL v n)) ∧ Below w.heap.size w w' := by
  obtain ⟨i0, hi0, hz0, hz1, hz2⟩ := info_parts Try.info5
  have hnm : n ≤ maxLen := by unfold maxLen; omega
  go_enter Try.func29, Try.ntmps29
  go_wp2_with (at_make; refine wpList_make_full _ rfl _ _ 40 rfl w.heap.size 5 i0 (.int .u8 0) 1 Try.underlying40 hi0 hz0 hz1 .i64 .i64 _ _ n rfl rfl rfl rfl (by rw [hz2]; omega) hnm (Nat.le_refl _) ?_; intro w1 hown1 hg1; have hb1 : Kpt (Below w.heap.size w w1) := ⟨(Below.refl _ _).grown hg1 (Nat.le_refl _) (fun k h => by cases h)⟩; rw [made_u8] at hown1; replace hown1 := Kpt.mk hown1; clear hg1)
  go_loopw [0, 6] (fun x t wr => ∃ m : Nat, m ≤ n ∧ x = .int .u64 (v / 2 ^ (8 * m)) ∧ t = .int .i64 ((n : Int) - 1 - m) ∧ wr.ownsRow w.heap.size 5 1 (.slice (some ⟨w.heap.size, 0, none⟩) n n) n (cels (B.desc (List.replicate n 0) 0 n v m)) ∧ Below w.heap.size w wr) (fun _ t _ => ((intOf t) + 1).toNat)
  case atStart => exact ⟨0, by omega, by simp, by go_num, hown1.out, hb1.out⟩
  case round =>
    obtain ⟨m, hm, rfl, rfl, hown, hb⟩ := hrel
    by_cases hlt : m < n
    · obtain ⟨d, hd⟩ : ∃ d, d = n - 1 - m := ⟨_, rfl⟩
      have hdk : (n : Int) - 1 - m = (d : Int) := by omega
      have hx := own_facts hown d (by omega)
      have hfr := hown.frozenAt d
      have HO := Kpt.mk hown
      have h0 := B.div_nonneg v hv m
      have h9 := B.div_le v hv m
      have hstep := Kpt.mk (B.div_step v m)
      have h1 : d < n := by omega
      have HD := Kpt.mk hd
      rw [hdk]
      clear hown hd hdk
      obtain ⟨y, hy⟩ : ∃ y, y = v / 2 ^ (8 * m) := ⟨_, rfl⟩
      rw [← hy] at h0 h9 hstep ⊢
      replace hy := Kpt.mk hy
      go_wp2
      go_roundw
      case rel =>
        refine ⟨m + 1, by omega, ?_, ?_, ?_, hb.setCell (Nat.le_refl _) _⟩
        · rw [← hstep.out]
        · have := HD.out; go_num
        · have := own_set HO.out d (y % 256)
          rw [show B.desc (List.replicate n 0) 0 n v (m + 1) = (B.desc (List.replicate n 0) 0 n v m).set d (y % 256) from by rw [B.desc, HD.out, hy.out]; simp]
          exact this
      case measure => have := HD.out; first | (simp [intOf]; done) | (simp [intOf]; omega)
    · obtain rfl : m = n := by omega
      go_wp2
      go_ret
      exact ⟨_, rfl, hown, hb⟩

theorem big2 (v : Int) (h : 0 ≤ v ∧ v ≤ 65535) : bigL v 2 = [v / 256, v % 256] := by
  simp [bigL, B.desc, List.replicate]
  omega
theorem big4 (v : Int) (h : 0 ≤ v ∧ v ≤ 4294967295) : bigL v 4 = [v / 16777216, v / 65536 % 256, v / 256 % 256, v % 256] := by
  simp [bigL, B.desc, List.replicate]
  omega
end Go.Proofs.Ytcnjnebhidfogaa
