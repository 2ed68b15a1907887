/-
  Lists of units: Luns, the document's Luns and Big.
-/
import Derived.Test.YteoaadpilaljnaaICut
namespace Go.Proofs.Yteoaadpilaljnaa
open Go.RowKit
set_option linter.unusedVariables false
set_option linter.unusedSimpArgs false

def bigL (v : Int) (n : Nat) : List Int := B.desc (List.replicate n 0) 0 n v n

theorem bigL_len (v : Int) (n : Nat) : (bigL v n).length = n := by simp [bigL, B.desc_len]

set_option maxRecDepth 100000 in
set_option maxHeartbeats 1000000 in
theorem big_any (v : Int) (n : Nat) (w : World) (hv : 0 ≤ v) (hv2 : v < 18446744073709551616) (hn : 0 < n) (hn8 : n ≤ 8) :
    Calls Try.prog 37 #[.int .u64 v, .int .i64 n] w fun e w' => ∃ g, e = .returned (.slice (some ⟨g, 0, none⟩) n n) ∧ (w'.ownsRow w.heap.size 5 1 (.slice (some ⟨g, 0, none⟩) n n) (bigL v n).length (cels (bigL v n)) ∧ Below w.heap.size w w') := by
  obtain ⟨i0, hi0, hz0, hz1, hz2⟩ := info_parts Try.info5
  have hnm : n ≤ maxLen := by unfold maxLen; omega
  go_enter Try.func37, Try.ntmps37
  go_wp2_with (at_make; refine wpList_make_full _ rfl _ _ 25 rfl w.heap.size 5 i0 (.int .u8 0) 1 Try.underlying25 hi0 hz0 hz1 .i64 .i64 _ _ n rfl rfl rfl rfl (by rw [hz2]; omega) hnm (Nat.le_refl _) ?_; intro w1 hown1 hg1; have hb1 : Kpt (Below w.heap.size w w1) := ⟨(Below.refl _ _).grown hg1 (Nat.le_refl _) (fun k h => by cases h)⟩; rw [made_u8] at hown1; replace hown1 := Kpt.mk hown1; clear hg1)
  go_loopw [0, 6] (fun x t wr => ∃ m : Nat, m ≤ n ∧ x = .int .u64 (v / 2 ^ (8 * m)) ∧ t = .int .i64 ((n : Int) - 1 - m) ∧ wr.ownsRow w.heap.size 5 1 (.slice (some ⟨w.heap.size, 0, none⟩) n n) n (cels (B.desc (List.replicate n 0) 0 n v m)) ∧ Below w.heap.size w wr) (fun _ t _ => ((intOf t) + 1).toNat)
  case atStart => exact ⟨0, by omega, by simp, by go_num, hown1.out, hb1.out⟩
  case round =>
    obtain ⟨m, hm, rfl, rfl, hown, hb⟩ := hrel
    by_cases hlt : m < n
    · obtain ⟨d, hd⟩ : ∃ d, d = n - 1 - m := ⟨_, rfl⟩
      have hdk : (n : Int) - 1 - m = (d : Int) := by omega
      have hx := own_facts hown d (by omega)
      have hfr := hown.frozenAt d
      have HO := Kpt.mk hown
      have h0 := B.div_nonneg v hv m
      have h9 := B.div_le v hv m
      have hstep := Kpt.mk (B.div_step v m)
      have h1 : d < n := by omega
      have HD := Kpt.mk hd
      rw [hdk]
      clear hown hd hdk
      obtain ⟨y, hy⟩ : ∃ y, y = v / 2 ^ (8 * m) := ⟨_, rfl⟩
      rw [← hy] at h0 h9 hstep ⊢
      replace hy := Kpt.mk hy
      go_wp2
      go_roundw
      case rel =>
        refine ⟨m + 1, by omega, ?_, ?_, ?_, hb.setCell (Nat.le_refl _) _⟩
        · rw [← hstep.out]
        · have := HD.out; go_num
        · have := own_set HO.out d (y % 256)
          rw [show B.desc (List.replicate n 0) 0 n v (m + 1) = (B.desc (List.replicate n 0) 0 n v m).set d (y % 256) from by rw [B.desc, HD.out, hy.out]; simp]
          exact this
      case measure => have := HD.out; first | (simp [intOf]; done) | (simp [intOf]; omega)
    · obtain rfl : m = n := by omega
      go_wp2
      go_ret
      exact ⟨_, rfl, by rw [bigL_len]; exact hown, hb⟩


theorem word_big (v : Int) : B.asc [0, 0, 0, 0] 0 4 v 4 = bigL v 4 := by
  simp [B.asc, bigL, B.desc]
/-- Numbers that can be read. -/
def Ri (w : World) (a : Option Addr) (n : Nat) (zs : List Int) : Prop := zs.length = n ∧ (n = 0 ∨ ∃ b off, a = some ⟨b, off, none⟩ ∧ b < w.heap.size ∧ ∀ j, j < n → w.cell? ⟨b, off + j, none⟩ = some (.int .i64 (zs.getD j 0)))
theorem Ri.below {w w' : World} {a : Option Addr} {n : Nat} {zs : List Int} (h : Ri w a n zs) (hb : Below w.heap.size w w') : Ri w' a n zs := by
  refine ⟨h.1, ?_⟩
  rcases h.2 with h | ⟨b, off, h1, h2, h3⟩
  · exact .inl h
  · exact .inr ⟨b, off, h1, Nat.lt_of_lt_of_le h2 hb.size, fun j hj => (hb.cell (p := ⟨b, off + j, none⟩) h2).trans (h3 j hj)⟩
/-- A unit's eight bytes. -/
def lun8 (x : Int) : List Int := [0, x % 256, 0, 0, 0, 0, 0, 0]
def lunF (zs : List Int) : List Int := zs.flatMap lun8
def lunL (n : Nat) (zs : List Int) : List Int := bigL (8 * n) 4 ++ [0, 0, 0, 0] ++ lunF zs
theorem lunF_len (zs : List Int) : (lunF zs).length = 8 * zs.length := by
  induction zs with
  | nil => rfl
  | cons a r ih => unfold lunF at *; rw [List.flatMap_cons, List.length_append, ih]; simp [lun8]; omega
theorem lunF_snoc (zs : List Int) (k : Nat) (x : Int) (h : zs[k]? = some x) : lunF (zs.take (k + 1)) = lunF (zs.take k) ++ lun8 x := by
  rw [List.take_add_one, h]
  unfold lunF
  simp
theorem lunL_len (n : Nat) (zs : List Int) : (lunL n zs).length = 8 + 8 * zs.length := by
  unfold lunL
  rw [List.length_append, List.length_append, lunF_len, bigL_len]
  rfl
/-- The row behind k of n units. -/
def lunK (n : Nat) (zs : List Int) (k : Nat) : List Int := lunL n (zs.take k) ++ List.replicate (8 * (n - k)) 0
theorem lunK_step (n : Nat) (zs : List Int) (k : Nat) (x : Int) (hn : zs.length = n) (hk : k < n) (h : zs[k]? = some x) : (lunK n zs k).set (8 + 8 * k + 1) (x % 256) = lunK n zs (k + 1) := by
  have hl : (lunL n (zs.take k)).length = 8 + 8 * k := by rw [lunL_len, List.length_take]; omega
  unfold lunK
  rw [List.set_append_right _ _ (by omega), hl]
  rw [show 8 + 8 * k + 1 - (8 + 8 * k) = 1 from by omega]
  have hr : 8 * (n - k) = 8 * (n - (k + 1)) + 8 := by omega
  rw [hr, show 8 * (n - (k + 1)) + 8 = 8 + 8 * (n - (k + 1)) from by omega, ← List.replicate_append_replicate]
  have h8 : lunL n (zs.take (k + 1)) = lunL n (zs.take k) ++ lun8 x := by unfold lunL; rw [lunF_snoc zs k x h]; simp [List.append_assoc]
  rw [h8, List.append_assoc]
  rfl
theorem lunK_end (n : Nat) (zs : List Int) (hn : zs.length = n) : lunK n zs n = lunL n zs := by
  unfold lunK
  rw [Nat.sub_self, List.take_of_length_le (by omega)]
  simp
theorem lunK_start (n : Nat) (zs : List Int) : lunK n zs 0 = over (List.replicate (8 + 8 * n) 0) 0 (bigL (8 * n) 4) := by
  unfold lunK lunL over
  rw [List.take_zero, List.take_zero, Nat.sub_zero, List.nil_append, Nat.zero_add, bigL_len, List.drop_replicate]
  rw [show 8 + 8 * n - 4 = 4 + 8 * n from by omega, ← List.replicate_append_replicate]
  simp [lunF, List.append_assoc]

set_option maxRecDepth 100000 in
set_option maxHeartbeats 2000000 in
theorem luns_any (a : Option Addr) (n c : Nat) (zs : List Int) (w : World) (h : Ri w a n zs) (hn : n ≤ 1048576) :
    Calls Try.prog 17 #[.slice a n c] w fun e w' => ∃ g, e = .returned (.slice (some ⟨g, 0, none⟩) (8 + 8 * n) (8 + 8 * n)) ∧ w'.ownsRow w.heap.size 5 1 (.slice (some ⟨g, 0, none⟩) (8 + 8 * n) (8 + 8 * n)) (8 + 8 * n) (cels (lunL n zs)) ∧ Below w.heap.size w w' := by
  obtain ⟨i0', hi0, hz0, hz1, hz2⟩ := info_parts Try.info5
  obtain ⟨N, hN⟩ : ∃ N, N = 8 + 8 * n := ⟨_, rfl⟩
  have hNi : (8 : Int) + 8 * (n : Int) = (N : Int) := by omega
  have hnm : N ≤ maxLen := by unfold maxLen; omega
  have HW := Kpt.mk (fun W => word_any (8 * (n : Int)) W (by omega) (by omega))
  rw [word_big] at HW
  have hst := Kpt.mk (lunK_start n zs)
  rw [← hN] at hst ⊢
  have v1 : IntKind.u64.wrap (8 * (n : Int)) = 8 * n := by rw [IntKind.wrap_u64]; omega
  have hK := Kpt.mk h
  replace hN := Kpt.mk hN
  clear h
  go_enter Try.func17, Try.ntmps17
  go_wp2_with (at_make; refine wpList_make_full _ rfl _ _ 25 rfl w.heap.size 5 i0' (.int .u8 0) 1 Try.underlying25 hi0 hz0 hz1 .i64 .i64 _ _ N (by first | rfl | (rw [← hNi]; rfl)) (by first | rfl | (rw [← hNi]; rfl)) rfl rfl (by rw [hz2]; omega) hnm (Nat.le_refl _) ?_; intro w1 hown1 hg1; have hb1 : Kpt (Below w.heap.size w w1) := ⟨(Below.refl _ _).grown hg1 (Nat.le_refl _) (fun k h => by cases h)⟩; rw [made_u8] at hown1; replace hown1 := Kpt.mk hown1; clear hg1)
  refine (HW.out w1).mono ?_
  rintro e w2 ⟨g2, rfl, hg2, ho2, hb2⟩
  have hl1 := (World.ownsRow.lt hown1.out w.heap.size rfl).2
  have hoX := Kpt.mk (own_of_block hown1.out (fun q hq => by cases hq; exact hb2.block _ hl1))
  have hrd := Kpt.mk (own_rd ho2)
  have hB2 : Kpt (Below w.heap.size w w2) := ⟨hb1.out.trans (hb2.mono hb1.out.size)⟩
  clear ho2 hb2 hown1 hb1 HW
  go_wp2_with (refine wpList_plain rfl fun KK hKK => wp_copy_at (.tmp 11) (.tmp 16) rfl w.heap.size w.heap.size 0 N N N (List.replicate N 0) (bigL (8 * (n : Int)) 4) _ rfl rfl hoX.out hrd.out (by rw [bigL_len]; omega) (by rw [bigL_len]; omega) (by rw [bigL_len]; decide) (fun w3 ho3 hg3 => hKK _ _ ?_); have hB3 : Kpt (Below w.heap.size w w3) := ⟨hB2.out.grown hg3 hB2.out.size (fun q hq => by cases hq; exact Nat.le_refl _)⟩; rw [← hst.out] at ho3; replace ho3 := Kpt.mk ho3; clear hg3 hoX hrd hB2)
  go_loopw [20] (fun t wr => ∃ k : Nat, k ≤ n ∧ t = .int .i64 k ∧ Kpt (wr.ownsRow w.heap.size 5 1 (.slice (some ⟨w.heap.size, 0, none⟩) N N) N (cels (lunK n zs k))) ∧ Kpt (Below w.heap.size w wr)) (fun t _ => n - (intOf t).toNat)
  case atStart => exact ⟨0, by omega, rfl, ho3, hB3⟩
  case round =>
    obtain ⟨k, hk, rfl, ho, hB⟩ := hrel
    clear ho3 hB3
    by_cases hlt : k < n
    · have e1 : (k : Int) < n := by omega
      have hR := hK.out.below hB.out
      obtain ⟨hzl, hR⟩ := hR
      rcases hR with h0 | ⟨b, off, rfl, hbl, hc⟩
      · omega
      have hx := hc k hlt
      obtain ⟨x, hx1⟩ : ∃ x, x = zs.getD k 0 := ⟨_, rfl⟩
      rw [← hx1] at hx
      have hzx : zs[k]? = some x := by rw [hx1, List.getD_eq_getElem?_getD, List.getElem?_eq_getElem (by omega)]; rfl
      obtain ⟨d, hd⟩ : ∃ d, d = 8 + 8 * k + 1 := ⟨_, rfl⟩
      have hdi : (8 : Int) + 8 * (k : Int) + 1 = (d : Int) := by omega
      have hdl : (d : Int) < N := by have := hN.out; omega
      have hdn : d < N := by omega
      have cd := own_facts ho.out d hdn
      have fd := ho.out.frozenAt d
      obtain ⟨y, hy⟩ : ∃ y, y = (lunK n zs k).getD d 0 := ⟨_, rfl⟩
      rw [← hy] at cd
      have v5 : IntKind.u8.wrap x = x % 256 := by rw [IntKind.wrap_u8]
      have hnext : Kpt ((lunK n zs k).set d (x % 256) = lunK n zs (k + 1)) := ⟨by rw [hd]; exact lunK_step n zs k x hzl hlt hzx⟩
      replace hd := Kpt.mk hd
      clear hx1 hy hzx hc
      go_wp2_with fail
      go_roundw
      case rel => exact ⟨k + 1, by omega, by go_num, ⟨by rw [← hnext.out]; exact own_set ho.out d _⟩, ⟨hB.out.setCell (p := ⟨w.heap.size, d, none⟩) (Nat.le_refl _) _⟩⟩
      case measure => simp [intOf]; omega
    · obtain rfl : k = n := by omega
      have hend := lunK_end k zs hK.out.1
      rw [hend] at ho
      go_wp2_with fail
      go_ret
      exact ⟨w.heap.size, rfl, ho.out, hB.out⟩
end Go.Proofs.Yteoaadpilaljnaa
