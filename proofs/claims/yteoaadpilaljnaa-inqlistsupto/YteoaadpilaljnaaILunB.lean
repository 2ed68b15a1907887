/-
  The document's Luns; Cut, the document's Cut.
-/
import Derived.Test.YteoaadpilaljnaaILun
namespace Go.Proofs.Yteoaadpilaljnaa
open Go.RowKit
set_option linter.unusedVariables false
set_option linter.unusedSimpArgs false

set_option maxRecDepth 100000 in
set_option maxHeartbeats 2000000 in
theorem rluns_any (a : Option Addr) (n c : Nat) (zs : List Int) (w : World) (h : Ri w a n zs) (hn : n ≤ 1048576) :
    Calls Try.prog 18 #[.slice a n c] w fun e w' => ∃ v, e = .returned v ∧ RdAt w' v (lunL n zs) ∧ Below w.heap.size w w' := by
  have HB := Kpt.mk (fun W => big_any (8 * (n : Int)) 4 W (by omega) (by omega) (by decide) (by decide))
  simp only [bigL_len] at HB
  have v1 : IntKind.u64.wrap (8 * (n : Int)) = 8 * n := by rw [IntKind.wrap_u64]; omega
  have hK := Kpt.mk h
  clear h
  go_enter Try.func18, Try.ntmps18
  go_wp2_with fail
  refine (HB.out w).mono ?_
  rintro e w1 ⟨g1, rfl, ho1, hb1⟩
  have hg1 := World.ownsRow.lt ho1 g1 rfl
  have hoA : Kpt ((w1.alloc (.cells #[.int .u8 0, .int .u8 0, .int .u8 0, .int .u8 0] 5)).ownsRow w.heap.size 5 1 (.slice (some ⟨g1, 0, none⟩) 4 4) 4 (cels (bigL (8 * (n : Int)) 4))) := ⟨own_of_block ho1 (fun q hq => by cases hq; exact Below.heap_alloc _ _ _ hg1.2)⟩
  have hrA : Kpt (RdAt (w1.alloc (.cells #[.int .u8 0, .int .u8 0, .int .u8 0, .int .u8 0] 5)) (.slice (some ⟨w1.heap.size, 0, none⟩) 4 4) [0, 0, 0, 0]) := ⟨own_rd (own_alloc w1 w1.heap.size 4 0 [0, 0, 0, 0] rfl rfl (by decide) (Nat.zero_le _))⟩
  have hBA : Kpt (Below w.heap.size w (w1.alloc (.cells #[.int .u8 0, .int .u8 0, .int .u8 0, .int .u8 0] 5))) := ⟨hb1.alloc hb1.size _⟩
  clear ho1 hb1 HB
  go_wp2_with (refine wpList_append_new rfl (.tmp 10) (.tmp 11) rfl w.heap.size _ _ (bigL (8 * (n : Int)) 4) [0, 0, 0, 0] 4 8 rfl rfl hoA.out hrA.out (by decide) (bigL_len _ _) rfl (by decide) hBA.out.size ?_; intro g3 k3 w3 ho3 hl3 hg3; have hB3 : Kpt (Below w.heap.size w w3) := ⟨hBA.out.grown hg3.out hBA.out.size (fun q hq => by cases hq; exact hg1.1)⟩; clear hoA hrA hBA hg3)
  go_loopw [3, 4] (fun s t wr => ∃ k g c' : Nat, k ≤ n ∧ s = .slice (some ⟨g, 0, none⟩) (8 + 8 * k) c' ∧ t = .int .i64 k ∧ Kpt (wr.ownsRow w.heap.size 5 1 (.slice (some ⟨g, 0, none⟩) (8 + 8 * k) c') (8 + 8 * k) (cels (lunL n (zs.take k)))) ∧ Kpt (Below w.heap.size w wr)) (fun _ t _ => n - (intOf t).toNat)
  case atStart => exact ⟨0, g3, k3, by omega, rfl, rfl, ⟨by have := ho3.out; rw [show lunL n (zs.take 0) = bigL (8 * (n : Int)) 4 ++ [0, 0, 0, 0] from by unfold lunL; simp [lunF]]; exact this⟩, hB3⟩
  case round =>
    obtain ⟨k, g, c', hk, rfl, rfl, ho, hB⟩ := hrel
    clear ho3 hB3
    have hgl := World.ownsRow.lt ho.out g rfl
    by_cases hlt : k < n
    · have e1 : (k : Int) < n := by omega
      have hR := hK.out.below hB.out
      obtain ⟨hzl, hR⟩ := hR
      rcases hR with h0 | ⟨b, off, rfl, hbl, hc⟩
      · omega
      have hx := hc k hlt
      obtain ⟨x, hx1⟩ : ∃ x, x = zs.getD k 0 := ⟨_, rfl⟩
      rw [← hx1] at hx
      have hzx : zs[k]? = some x := by rw [hx1, List.getD_eq_getElem?_getD, List.getElem?_eq_getElem (by omega)]; rfl
      have v5 : IntKind.u8.wrap x = x % 256 := by rw [IntKind.wrap_u8]
      have hnext : Kpt (lunL n (zs.take k) ++ lun8 x = lunL n (zs.take (k + 1))) := ⟨by unfold lunL; rw [lunF_snoc zs k x hzx]; simp [List.append_assoc]⟩
      have hoC : Kpt ((wr.alloc (.cells #[.int .u8 0, .int .u8 (x % 256), .int .u8 0, .int .u8 0, .int .u8 0, .int .u8 0, .int .u8 0, .int .u8 0] 5)).ownsRow w.heap.size 5 1 (.slice (some ⟨g, 0, none⟩) (8 + 8 * k) c') (8 + 8 * k) (cels (lunL n (zs.take k)))) := ⟨own_of_block ho.out (fun q hq => by cases hq; exact Below.heap_alloc _ _ _ hgl.2)⟩
      have hrC : Kpt (RdAt (wr.alloc (.cells #[.int .u8 0, .int .u8 (x % 256), .int .u8 0, .int .u8 0, .int .u8 0, .int .u8 0, .int .u8 0, .int .u8 0] 5)) (.slice (some ⟨wr.heap.size, 0, none⟩) 8 8) (lun8 x)) := ⟨own_rd (own_alloc wr wr.heap.size 8 0 (lun8 x) rfl rfl (by decide) (Nat.zero_le _))⟩
      have hBC : Kpt (Below w.heap.size w (wr.alloc (.cells #[.int .u8 0, .int .u8 (x % 256), .int .u8 0, .int .u8 0, .int .u8 0, .int .u8 0, .int .u8 0, .int .u8 0] 5))) := ⟨hB.out.alloc hB.out.size _⟩
      have hlk : Kpt ((lunL n (zs.take k)).length = 8 + 8 * k) := ⟨by rw [lunL_len, List.length_take]; omega⟩
      obtain ⟨M, hM⟩ : ∃ M, M = 8 + 8 * k := ⟨_, rfl⟩
      have hM8 : 8 + 8 * (k + 1) = M + 8 := by omega
      rw [← hM] at hoC hlk ⊢
      obtain ⟨Q, hQ⟩ : ∃ Q, Q = lunL n (zs.take k) := ⟨_, rfl⟩
      rw [← hQ] at hoC hlk hnext
      have hMb : M + 8 ≤ 140737488355328 := by omega
      have hMk : Kpt (8 + 8 * (k + 1) = M + 8) := ⟨hM8⟩
      clear ho hB hx1 hzx hc hM hM8 hQ
      go_wp2_with (refine wpList_append_new rfl (.tmp 19) (.tmp 25) rfl w.heap.size _ _ Q (lun8 x) M (M + 8) rfl rfl hoC.out hrC.out (show 0 < 8 by decide) hlk.out rfl hMb hBC.out.size ?_; intro g4 k4 w4 ho4 hl4 hg4)
      go_roundw
      case rel => exact ⟨k + 1, g4, k4, by omega, by rw [hMk.out], by go_num, ⟨by rw [hMk.out, ← hnext.out]; exact ho4.out⟩, ⟨hBC.out.grown hg4.out hBC.out.size (fun q hq => by cases hq; exact hgl.1)⟩⟩
      case measure => simp [intOf]; omega
    · obtain rfl : k = n := by omega
      have hend : Kpt (zs.take k = zs) := ⟨List.take_of_length_le (by rw [hK.out.1]; exact Nat.le_refl _)⟩
      go_wp2_with fail
      go_ret
      exact ⟨_, rfl, by have := own_rd ho.out; rw [hend.out] at this; exact this, hB.out⟩

theorem rd_take {w : World} {a : Option Addr} {n k m : Nat} {zs : List Int} (h : RdAt w (.slice a n k) zs) (hm : m ≤ n) : RdAt w (.slice a m k) (zs.take m) := by
  obtain ⟨a', c', hv, ha, hlc, hr⟩ := h
  simp only [Value.slice.injEq] at hv
  obtain ⟨rfl, hn, rfl⟩ := hv
  have hl : (zs.take m).length = m := by rw [List.length_take]; omega
  refine ⟨a, k, by rw [hl], fun e => ⟨by rw [hl]; have := (ha e).1; omega, (ha e).2⟩, by rw [hl]; omega, ?_⟩
  rcases hr with h0 | ⟨b, off, rfl, hc⟩
  · exact .inl (by rw [hl]; omega)
  · refine .inr ⟨b, off, rfl, fun j u hu => hc j u ?_⟩
    rw [cels, List.getElem?_map] at hu ⊢
    rw [List.getElem?_take] at hu
    split at hu
    · exact hu
    · simp at hu
def cutN (n : Nat) (x : Int) : Nat := min n x.toNat
set_option maxRecDepth 100000 in
theorem rcut_any (a : Option Addr) (n k : Nat) (zs : List Int) (x : Int) (w : World) (h : RdAt w (.slice a n k) zs) (hn : zs.length = n) (hk : n ≤ k) (hm : k ≤ maxLen) :
    Calls Try.prog 20 #[.slice a n k, .int .i64 x] w fun e w' => ∃ v, e = .returned v ∧ RdAt w' v (zs.take (cutN n x)) ∧ w' = w := by
  unfold maxLen at hm
  replace h := Kpt.mk h
  by_cases h0 : x < 0
  · have hc : cutN n x = 0 := by unfold cutN; omega
    have e1 : ¬ (n : Int) < 0 := by omega
    go_enter Try.func20, Try.ntmps20
    go_wp2_with fail
    go_ret
    exact ⟨_, rfl, by have := rd_take (m := 0) h.out (Nat.zero_le _); rw [List.take_zero] at this; exact this, rfl⟩
  · obtain ⟨m, rfl⟩ : ∃ m : Nat, x = m := ⟨x.toNat, by omega⟩
    by_cases h1 : n < m
    · have hc : cutN n (m : Int) = n := by unfold cutN; omega
      have e1 : (n : Int) < m := by omega
      go_enter Try.func20, Try.ntmps20
      go_wp2_with fail
      go_ret
      exact ⟨_, rfl, rd_take h.out (Nat.le_refl _), rfl⟩
    · have hc : cutN n (m : Int) = m := by unfold cutN; omega
      have e1 : ¬ (n : Int) < m := by omega
      have e2 : m ≤ k := by omega
      have e3 : (m : Int) ≤ k := by omega
      go_enter Try.func20, Try.ntmps20
      go_wp2_with fail
      go_ret
      exact ⟨_, rfl, rd_take h.out (by omega), rfl⟩
end Go.Proofs.Yteoaadpilaljnaa
