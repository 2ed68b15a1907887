/-
  awake.
-/
import Derived.Test.YtnebcbfjlkhimaaDoorJPany
namespace Go.Proofs.YtnebcbfjlkhimaaDoor
open Go.RowKit
set_option linter.unusedVariables false
set_option linter.unusedSimpArgs false
def awL : List Int := bytesX [[83]] [⟨0, 0, 2, 0, 4⟩]
theorem aw_form : Form [[83]] [⟨0, 0, 2, 0, 4⟩] := ⟨by decide, by decide, fun s hs => by
  rw [List.mem_singleton.1 hs]; exact ⟨by decide, by decide⟩, fun g hg => by
  rw [List.mem_singleton.1 hg]; exact ⟨⟨by decide, by decide⟩, ⟨by decide, by decide⟩, ⟨by decide, by decide⟩⟩⟩
theorem aw_w : ∀ g ∈ [(⟨0, 0, 2, 0, 4⟩ : Sg)], SegW g := fun g hg => by
  rw [List.mem_singleton.1 hg]; exact ⟨⟨by decide, by decide⟩, ⟨by decide, by decide⟩⟩
theorem aw_parse (b g n cap : Nat) (w : World) (ho : w.ownsRow b 5 1 (.slice (some ⟨g, 0, none⟩) n cap) n (cels awL)) :
    Calls Tryd.prog 7 #[.slice (some ⟨g, 0, none⟩) n cap] w fun e w' => ∃ ua un uc g2 sc, e = .returned (.tuple #[.agg (lsV (.slice ua un uc) (.slice (some ⟨g2, 0, none⟩) 1 sc)), .agg noS.vals, .bool true]) ∧ g2 < w'.heap.size ∧ 1 ≤ sc ∧ sc ≤ maxLen ∧ w'.rangeAt g2 0 (Sg.vals ⟨0, 0, 2, 0, 4⟩).toList ∧ Below w.heap.size w w' := by
  have hp : parseX awL = ⟨[[83]], [⟨0, 0, 2, 0, 4⟩], noS, true⟩ := parse_back aw_form aw_w
  have hl : awL.length = 76 := by have := bytesX_len (us := [[83]]) (ss := [⟨0, 0, 2, 0, 4⟩]) (fun s hs => (aw_form.uu s hs).1); simpa [awL] using this
  have hn : n = 76 := by have := ho.1; rw [cels_length, hl] at this; omega
  refine (par_any _ n cap awL w (own_rd ho) (bytes_bytesX (fun s hs => by rw [List.mem_singleton.1 hs]; exact bytes_mem (by decide))) (by omega)).mono ?_
  rintro e w' ⟨u, s, rfl, hP⟩
  rw [hp] at hP ⊢
  obtain ⟨ua, uc, rfl, _⟩ := hP.ur.shape
  obtain ⟨sa, sc, rfl, hs⟩ := hP.sr.shape
  rcases hs with ⟨_, _, h0⟩ | ⟨g2, rfl, hg, h1, h2, _, h3⟩
  · cases h0
  · exact ⟨ua, _, uc, g2, sc, rfl, hg, h1, h2, by have := h3 0 _ rfl; rwa [Nat.zero_mul] at this, hP.bel⟩
theorem aw_s : nums (⟨#[83]⟩ : ByteArray) = [83] := rfl
set_option maxRecDepth 100000 in
set_option maxHeartbeats 4000000 in
theorem awake_any (w : World) : Calls Tryd.prog 6 #[] w fun e w' => e = .returned (.bool true) ∧ Below w.heap.size w w' := by
  have hF : Kpt (∀ (W : World) (b1 b2 : Nat), Ro 1 W (.slice (some ⟨b1, 0, none⟩) 1 1) ([(⟨#[83]⟩ : ByteArray)].map sZ) → Ro 5 W (.slice (some ⟨b2, 0, none⟩) 1 1) ([(⟨0, 0, 2, 0, 4⟩ : Sg)].map Sg.vals) → Calls Tryd.prog 10 #[.agg (lsV (.slice (some ⟨b1, 0, none⟩) 1 1) (.slice (some ⟨b2, 0, none⟩) 1 1))] W fun e w' => ∃ g n cap, e = .returned (.tuple #[.slice (some ⟨g, 0, none⟩) n cap, .int .i64 0]) ∧ w'.ownsRow W.heap.size 5 1 (.slice (some ⟨g, 0, none⟩) n cap) n (cels awL) ∧ Below W.heap.size W w') := ⟨fun W b1 b2 h1 h2 => by
    have := by_ok _ _ 1 1 1 1 [(⟨#[83]⟩ : ByteArray)] [⟨0, 0, 2, 0, 4⟩] W h1 h2 (by decide) (by decide) (fun S hS => by rw [List.mem_singleton.1 hS, aw_s]; exact aw_form.uu _ (by simp)) (fun g hg => aw_form.gg g hg) aw_w
    exact this⟩
  have hP := Kpt.mk aw_parse
  have hb := Kpt.mk (Below.refl w.heap.size w)
  go_enter Tryd.func6, Tryd.ntmps6
  go_wp2_with (first
      | (refine (?_ : wpList _ _ _ (Oper.mk _ (Op.store 31 _ _) _ _ _ _ :: _) _ _); have hm := m7; go_must (refine wpList_store_bx rfl 31 _ _ rfl b4 zeroS noS.vals rfl rfl O4.out rfl infoS (Sn.vals_one noS) rfl ?_; intro w8 hX_ hg_; replace hr := Kpt.mk (rangeAt_block hr.out (hg_.block g2 (by have := O4.out.lt; omega) (fun e => by injection e with e; omega))); replace O3 := Kpt.mk (O3.out.grown hg_ (fun e => by injection e with e; omega)); replace hb := Kpt.mk (hb.out.trans (bel_own hg_ hb.out.size l4.out)); replace O4 := Kpt.mk hX_; have c1 := ls_c1 O3.out; obtain ⟨y0, y1, y2, y3, y4⟩ := g_cells hr.out; rw [Nat.zero_add] at y4; clear hX_ hg_ y0 y1 y2 y3; clear hm m7; have m8 : Kpt True := ⟨trivial⟩))
      | (refine (?_ : wpList _ _ _ (Oper.mk _ (Op.store 27 _ _) _ _ _ _ :: _) _ _); have hm := m6; go_must (refine wpList_store_bx rfl 27 _ _ rfl b3 zeroL (lsV (.slice ua un uc) (.slice (some ⟨g2, 0, none⟩) 1 sc)) rfl rfl O3.out rfl infoL (lsV_one rfl rfl) rfl ?_; intro w7 hX_ hg_; replace hr := Kpt.mk (rangeAt_block hr.out (hg_.block g2 (by have := O3.out.lt; omega) (fun e => by injection e with e; omega))); replace O4 := Kpt.mk (O4.out.grown hg_ (fun e => by injection e with e; omega)); replace hb := Kpt.mk (hb.out.trans (bel_own hg_ hb.out.size l3.out)); replace O3 := Kpt.mk hX_; clear hX_ hg_; clear hm m6; have m7 : Kpt True := ⟨trivial⟩))
      | (have hm := m5; refine wpList_var rfl 31 rfl zeroS zeroSi ?_; intro b4 w6 hl_ hX_ h_; have l4 := Kpt.mk (Nat.le_trans hb.out.size hl_); have q4 : b3 < b4 := Nat.lt_of_lt_of_le O3.out.lt hl_; replace hr := Kpt.mk (rangeAt_block hr.out (h_.block g2 (by have := O3.out.lt; omega))); replace O3 := Kpt.mk (O3.out.below h_ O3.out.lt); replace hb := Kpt.mk (hb.out.trans (h_.mono hb.out.size)); have O4 := Kpt.mk hX_; clear hl_ hX_ h_; clear hm m5; have m6 : Kpt True := ⟨trivial⟩)
      | (have hm := m4; refine wpList_var rfl 27 rfl zeroL zeroLi ?_; intro b3 w5 hl_ hX_ h_; have l3 := Kpt.mk (Nat.le_trans hb.out.size hl_); have q3 : g2 < b3 := Nat.lt_of_lt_of_le hgl.out hl_; replace hr := Kpt.mk (rangeAt_block hr.out (h_.block g2 hgl.out)); replace hb := Kpt.mk (hb.out.trans (h_.mono hb.out.size)); have O3 := Kpt.mk hX_; clear hl_ hX_ h_; clear hm m4; have m5 : Kpt True := ⟨trivial⟩)
      | (go_at_call 7; have hm := m3; go_must (refine (hP.out _ g n cap _ ho.out).mono ?_; rintro e w4 ⟨ua, un, uc, g2, sc, rfl, hg2, hs1, hs2, hr_, h_⟩; have hr := Kpt.mk hr_; have hgl := Kpt.mk hg2; replace hb := Kpt.mk (hb.out.trans (h_.mono hb.out.size)); clear hr_ hg2 h_; clear hm m3; have m4 : Kpt True := ⟨trivial⟩))
      | (go_at_call 10; have hm := m2; go_must (refine (hF.out _ b1 b2 (O1.out.one ⟨rfl, by simp [Value.oneCell']⟩).ro (O2.out.one ⟨rfl, Sg.vals_one _⟩).ro).mono ?_; rintro e w3 ⟨g, n, cap, rfl, ho_, h_⟩; have ho := Kpt.mk ho_; replace hb := Kpt.mk (hb.out.trans (h_.mono hb.out.size)); clear ho_ h_; clear hm m2; have m3 : Kpt True := ⟨trivial⟩))
      | (refine (?_ : wpList _ _ _ (Oper.mk _ (Op.buildSlice 25 _ _) _ _ _ _ :: _) _ _); have hm := m1; go_must (refine wpList_build1 rfl 25 50 5 40 _ Tryd.underlying25 infoGb (by decide) (by decide) _ rfl (.agg (Sg.vals ⟨0, 0, 2, 0, 4⟩)) (Sg.vals ⟨0, 0, 2, 0, 4⟩) rfl rfl rfl ?_; intro b2 w2 _ hX_ h_ _; have O2 := Kpt.mk hX_; replace O1 := Kpt.mk (O1.out.below h_ O1.out.lt); replace hb := Kpt.mk (hb.out.trans (h_.mono hb.out.size)); clear hX_ h_; clear hm m1; have m2 : Kpt True := ⟨trivial⟩))
      | (refine (?_ : wpList _ _ _ (Oper.mk _ (Op.buildSlice 24 _ _) _ _ _ _ :: _) _ _); go_must (refine wpList_build1 rfl 24 9 1 16 _ Tryd.underlying24 infoU (by decide) (by decide) _ rfl (.string ⟨#[83]⟩) #[.string ⟨#[83]⟩] rfl rfl rfl ?_; intro b1 w1 _ hX_ h_ _; have O1 := Kpt.mk hX_; replace hb := Kpt.mk (hb.out.trans (h_.mono hb.out.size)); clear hX_ h_; have m1 : Kpt True := ⟨trivial⟩))
      | fail)
  go_ret
  exact ⟨rfl, hb.out⟩
end Go.Proofs.YtnebcbfjlkhimaaDoor
