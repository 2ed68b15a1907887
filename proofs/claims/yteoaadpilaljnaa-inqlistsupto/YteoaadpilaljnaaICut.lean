/-
  InqKeeps: awake, Cut, the walk.
-/
import Derived.Test.YteoaadpilaljnaaIPage
namespace Go.Proofs.Yteoaadpilaljnaa
open Go.RowKit
set_option linter.unusedVariables false
set_option linter.unusedSimpArgs false

def i0 : In := ⟨⟨#[]⟩, ⟨#[]⟩, ⟨#[]⟩, ⟨#[83, 48]⟩, 0⟩
theorem i0_wf : i0.wf := ⟨Nat.zero_le _, Nat.zero_le _, Nat.zero_le _, (show 2 ≤ maxLen by unfold maxLen; decide), by decide⟩
theorem i0_form : i0.form = true := by decide +kernel
theorem i0_str : strOfNums (pageL i0 128) = ⟨#[0, 128, 0, 2, 83, 48]⟩ := by decide +kernel

set_option maxRecDepth 100000 in
theorem awake_any (w : World) : Calls Try.prog 9 #[] w fun e w' => e = .returned (.bool true) ∧ Below w.heap.size w w' := by
  have HP := Kpt.mk (fun W => page_some i0 128 W i0_wf i0_form (.inr (.inl rfl)))
  have hl : (pageL i0 128).length = 6 := by decide +kernel
  rw [hl] at HP
  rw [show In.vals i0 = #[.string ⟨#[]⟩, .string ⟨#[]⟩, .string ⟨#[]⟩, .string ⟨#[83, 48]⟩, .int .u8 0] from rfl] at HP
  go_enter Try.func9, Try.ntmps9
  go_wp2_with fail
  refine (HP.out _).mono ?_
  rintro e w1 ⟨g, k, rfl, ho, hb⟩
  have hcv : (convert 25 9 (.slice (some ⟨g, 0, none⟩) 6 k)).run Try.prog w1 = .ok (.string ⟨#[0, 128, 0, 2, 83, 48]⟩) w1 := by rw [← i0_str]; exact conv_rd (own_rd ho)
  replace hb := Kpt.mk hb
  clear ho HP
  go_wp2_with fail
  go_ret
  exact ⟨rfl, hb.out⟩

theorem rd_below {w W : World} {v : Value} {p : List Int} (h : RdAt w v p) (hB : Below w.heap.size w W) : RdAt W v p := by
  obtain ⟨a, c, rfl, ha, hlc, h⟩ := h
  refine ⟨a, c, rfl, ha, hlc, ?_⟩
  rcases h with h | ⟨b, off, rfl, hc⟩
  · exact .inl h
  · exact .inr ⟨b, off, rfl, fun j u hu => (hB.cell (p := ⟨b, off + j, none⟩) (World.block_lt_of_cell? w ⟨b, off + j, none⟩ (hc j u hu))).trans (hc j u hu)⟩
theorem over_all (zs : List Int) (n : Nat) (h : zs.length = n) : over (List.replicate n 0) 0 zs = zs := by
  unfold over
  rw [List.take_zero, List.nil_append, Nat.zero_add, List.drop_eq_nil_of_le (by simp; omega), List.append_nil]

set_option maxRecDepth 100000 in
set_option maxHeartbeats 1000000 in
theorem cut_all (g n k : Nat) (zs : List Int) (w : World) (hn : zs.length = n) (h0 : 0 < n) (hm : n ≤ 1000) (hrd : RdAt w (.slice (some ⟨g, 0, none⟩) n k) zs) (hgl : g < w.heap.size) :
    Calls Try.prog 19 #[.slice (some ⟨g, 0, none⟩) n k, .int .i64 n] w fun e w' => ∃ g2, e = .returned (.slice (some ⟨g2, 0, none⟩) n n) ∧ w'.ownsRow w.heap.size 5 1 (.slice (some ⟨g2, 0, none⟩) n n) n (cels zs) ∧ Below w.heap.size w w' := by
  obtain ⟨i0', hi0, hz0, hz1, hz2⟩ := info_parts Try.info5
  have hnm : n ≤ maxLen := by unfold maxLen; omega
  have e1 : (0 : Int) ≤ n := by omega
  replace hrd := Kpt.mk hrd
  replace hn := Kpt.mk hn
  go_enter Try.func19, Try.ntmps19
  go_wp2_with (first
    | (refine wpList_plain rfl fun KK hKK => wp_copy_at (.tmp 12) (.tmp 13) rfl w.heap.size w.heap.size 0 n n n (List.replicate n 0) zs _ rfl rfl hown1.out (hrd.out.of_block (fun q hq => by cases hq; exact hg1.out.block g hgl (fun e => by cases e))) (by rw [hn.out]; exact Nat.le_refl _) (by rw [hn.out]; omega) (by rw [hn.out]; exact h0) (fun w2 ho2 hg2 => hKK _ _ ?_); rw [over_all zs n hn.out] at ho2; replace ho2 := Kpt.mk ho2; replace hg2 := Kpt.mk hg2)
    | (at_make; refine wpList_make_full _ rfl _ _ 25 rfl w.heap.size 5 i0' (.int .u8 0) 1 Try.underlying25 hi0 hz0 hz1 .i64 .i64 _ _ n rfl rfl rfl rfl (by rw [hz2]; omega) hnm (Nat.le_refl _) ?_; intro w1 hown1 hg1; have hb1 : Kpt (Below w.heap.size w w1) := ⟨(Below.refl _ _).grown hg1 (Nat.le_refl _) (fun k h => by cases h)⟩; rw [made_u8] at hown1; replace hown1 := Kpt.mk hown1; replace hg1 := Kpt.mk hg1))
  go_ret
  exact ⟨_, rfl, ho2.out, hb1.out.grown hg2.out hb1.out.size (fun q hq => by cases hq; exact Nat.le_refl _)⟩
set_option maxRecDepth 100000 in
theorem cut_nil (w : World) : Calls Try.prog 19 #[.slice none 0 0, .int .i64 0] w fun e w' => ∃ a k, e = .returned (.slice a 0 k) ∧ Below w.heap.size w w' := by
  obtain ⟨i0', hi0, hz0, hz1, hz2⟩ := info_parts Try.info5
  have hnm : 0 ≤ maxLen := by unfold maxLen; omega
  go_enter Try.func19, Try.ntmps19
  go_wp2_with (first | (refine wpList_copy_nothing rfl (.tmp 12) (.tmp 13) 25 25 rfl 5 Try.underlying25 Try.size5 _ _ 0 0 0 0 rfl rfl (by simp) ?_) | (at_make; refine wpList_make_full _ rfl _ _ 25 rfl w.heap.size 5 i0' (.int .u8 0) 1 Try.underlying25 hi0 hz0 hz1 .i64 .i64 _ _ 0 rfl rfl rfl rfl (by rw [hz2]; omega) hnm (Nat.le_refl _) ?_; intro w1 hown1 hg1; have hb1 : Kpt (Below w.heap.size w w1) := ⟨(Below.refl _ _).grown hg1 (Nat.le_refl _) (fun k h => by cases h)⟩; clear hown1 hg1))
  go_ret
  exact ⟨_, _, rfl, hb1.out⟩
end Go.Proofs.Yteoaadpilaljnaa
