/-
  The contract of unmap of one descriptor.
-/
import Derived.Test.YtklboieemljmiaaVUmp
namespace Go.Proofs.Ytklboieemljmiaa
open Go.RowKit
set_option linter.unusedVariables false
set_option linter.unusedSimpArgs false
set_option maxRecDepth 100000 in
set_option maxHeartbeats 2000000 in
theorem unmap_one (w : World) (B : Nat) (tag : Tags) (st : St) (f : ByteArray) (S D N : Nat) (k : Int) (ca : Bool) (l n : Nat) (a : Option Addr) (m cp : Nat) (h : Dv w B tag st f S D N k ca) (hf1 : 1 ≤ f.size) (hf2 : f.size ≤ 32) (hN : N ≤ 4096) (hc : st.cnt < 500000000000) (hcw : st.waits.length < 1000000) (hf : ∀ i, st.fails i = false) (hw : Wrs st.waits) (hin : l + n ≤ N) (hm : 0 < m)
    (HF : ∀ W, Below w.heap.size w W → Calls Try.prog 64 #[.slice a m cp] W fun e w' => e = .returned (.bool true) ∧ w' = W)
    (HP : ∀ W, Below w.heap.size w W → Calls Try.prog 66 #[.pointer (some ⟨D, 0, none⟩), .slice a m cp] W fun e w' => ∃ v, e = .returned (.tuple #[v, .agg noS.vals]) ∧ OwnR 124 2 w' v [#[.int .u64 l, .int .u64 n]] ∧ (∀ g, v.ownBlock = some g → W.heap.size ≤ g) ∧ Below W.heap.size W w') :
    Calls Try.prog 47 #[.pointer (some ⟨D, 0, none⟩), .slice a m cp] w fun e w' => e = .returned (.agg noS.vals) ∧ Aft w w' B tag (emF st f l n ca) := by
  have e0 : ((m : Int) == 0) = false := by simp; omega
  have HK := Kpt.mk (fun W (h : Dv W B tag st f S D N k ca) => dempty_ok W B tag st f S D N k ca l n h hf1 hf2 hN hc hcw hf hw hin)
  obtain ⟨st2, hst2⟩ : ∃ s, s = emF st f l n ca := ⟨_, rfl⟩
  rw [← hst2] at HK ⊢
  have HE := Kpt.mk (fun W => ended_any noS W)
  replace HF := Kpt.mk HF
  replace HP := Kpt.mk HP
  have en : IntKind.i64.wrap (n : Int) = n := by rw [IntKind.wrap_i64]; omega
  have hSl := h.sto.lt
  have hDl := h.bx.lt
  have F := Kpt.mk h.fx
  have hb := Kpt.mk (Below.refl w.heap.size w)
  replace h := Kpt.mk h
  clear hst2 hf hw
  go_enter Try.func47, Try.ntmps47
  go_wp2_with (first
      | (go_at_call 22; have hm := m5; go_must (refine (HE.out _).mono ?_; rintro e w11 ⟨rfl, h_⟩; replace hgr := Kpt.mk (rangeAt_keep hgr.out (h_.block gv hgl.out)); replace hgl := Kpt.mk (Nat.lt_of_lt_of_le hgl.out h_.size); replace Or := Kpt.mk (Or.out.below h_); replace Oy := Kpt.mk (Oy.out.below h_); replace F := Kpt.mk (F.out.below h_); replace hb := Kpt.mk (hb.out.trans (h_.mono hb.out.size)); clear h_; clear hm m5; have m6 : Kpt True := ⟨trivial⟩))
      | (have hm := m4; refine wpList_store_bx rfl 32 _ _ rfl by_ _ (noS).vals rfl rfl Oy.out.bx rfl infoS (Sn.vals_one _) rfl ?_; intro w10 hX_ hg_; replace hgr := Kpt.mk (rangeAt_keep hgr.out (hg_.block gv hgl.out (fun e => by have := Option.some.inj e; omega))); replace hgl := Kpt.mk (Nat.lt_of_lt_of_le hgl.out hg_.size); replace hb := Kpt.mk (hb.out.trans (Below.ofGrown hg_ hb.out.size Oy.out.lo)); replace Or := Kpt.mk (Or.out.other hg_ (by omega)); replace F := Kpt.mk (F.out.own Oy.out hg_ hSl hDl); replace Oy := Kpt.mk (Oy.out.set hX_); clear hX_ hg_; clear hm m4; have m5 : Kpt True := ⟨trivial⟩)
      | (have hm := m3; refine wpList_var rfl 32 rfl zeroS zeroSi ?_; intro by_ w_y hl_ hX_ h_; have qy_ : gv < by_ := Nat.lt_of_lt_of_le hgl.out hl_; have q_r_y : br < by_ := Nat.lt_of_lt_of_le Or.out.bx.lt hl_; have Oy := Kpt.mk (F.out.new hl_ hX_); replace hgr := Kpt.mk (rangeAt_keep hgr.out (h_.block gv hgl.out)); replace hgl := Kpt.mk (Nat.lt_of_lt_of_le hgl.out h_.size); replace Or := Kpt.mk (Or.out.below h_); replace F := Kpt.mk (F.out.below h_); replace hb := Kpt.mk (hb.out.trans (h_.mono hb.out.size)); clear hl_ hX_ h_; clear hm m3; have m4 : Kpt True := ⟨trivial⟩)
      | (go_at_call 66; have hm := m2; go_must (refine (HP.out _ hb.out).mono ?_; rintro e w7 ⟨v, rfl, ho_, hv_, h_⟩; obtain ⟨va, vc, hve, hvs⟩ := ho_.shape; obtain ⟨gv, hva, hgl_, hgc_, hgm_, hgr_⟩ : ∃ g, va = some ⟨g, 0, none⟩ ∧ g < w7.heap.size ∧ 1 ≤ vc ∧ vc ≤ maxLen ∧ w7.rangeAt g 0 [.int .u64 (l : Int), .int .u64 (n : Int)] := (hvs.elim (fun h => absurd h.2.2 (by simp)) (fun ⟨g, h1, h2, h3, h4, _, h5⟩ => ⟨g, h1, h2, h3, h4, h5 0 _ rfl⟩)); subst hve; subst hva; have qv_ := hv_ gv rfl; have qr_ : br < gv := Nat.lt_of_lt_of_le Or.out.bx.lt qv_; have hvb := Kpt.mk (And.intro (Nat.le_trans hb.out.size qv_) (wd_none F.out.dv.wd qv_)); have hgl := Kpt.mk hgl_; have hgr := Kpt.mk hgr_; have hgm : (vc : Int) ≤ 9223372036854775807 := (by unfold maxLen at hgm_; omega); have hgc : (1 : Int) ≤ vc := (by omega); replace Or := Kpt.mk (Or.out.below h_); replace F := Kpt.mk (F.out.below h_); replace hb := Kpt.mk (hb.out.trans (h_.mono hb.out.size)); clear h_ ho_ hvs hv_ hgl_ hgr_ hgm_ hgc_ qv_; clear hm m2; have m3 : Kpt True := ⟨trivial⟩))
      | (go_at_call 64; have hm := m1; go_must (refine (HF.out _ hb.out).mono ?_; rintro e w6 ⟨rfl, rfl⟩; clear hm m1; have m2 : Kpt True := ⟨trivial⟩))
      | (refine wpList_var rfl 32 rfl zeroS zeroSi ?_; intro br w_r hl_ hX_ h_; have Or := Kpt.mk (F.out.new hl_ hX_); replace F := Kpt.mk (F.out.below h_); replace hb := Kpt.mk (hb.out.trans (h_.mono hb.out.size)); clear hl_ hX_ h_; have m1 : Kpt True := ⟨trivial⟩)
      | (refine wpList_load_bx rfl 32 _ rfl by_ (noS).vals rfl Oy.out.bx _ Try.underlying32 rfl infoS ?_)
      | fail)
  obtain ⟨W0, hW0⟩ : ∃ W, W = w11 := ⟨_, rfl⟩
  go_loopg [8, 9, 29] 1 (fun i r8 r9 r29 wv => (i = 1 ∧ r29 = .int .i64 0 ∧ Kpt (wv = w11)) ∨ (i = 0 ∧ r29 = .int .i64 1 ∧ ∃ tag', Kpt (Fx w wv B tag tag' st2 f S D N k ca) ∧ Kpt (Ow w wv tag' br zeroS)))
  case atStart => exact .inl ⟨rfl, rfl, ⟨rfl⟩⟩
  case round =>
    rcases hrel with ⟨rfl, rfl, hw⟩ | ⟨rfl, rfl, tag', F, Or⟩
    · have hwe := hw.out
      subst hwe
      clear hW0 hw
      have m20 : Kpt True := ⟨trivial⟩
      go_wp2_with (first
      | (go_at_call 22; have hm := m26; go_must (refine (HE.out _).mono ?_; rintro e w25 ⟨rfl, h_⟩; replace Or := Kpt.mk (Or.out.below h_); replace Op := Kpt.mk (Op.out.below h_); replace Oz := Kpt.mk (Oz.out.below h_); replace F := Kpt.mk (F.out.below h_); clear h_; clear hm m26; have m27 : Kpt True := ⟨trivial⟩))
      | (have hm := m25; refine wpList_store_bx rfl 32 _ _ rfl bz _ (noS).vals rfl rfl Oz.out.bx rfl infoS (Sn.vals_one _) rfl ?_; intro w26 hX_ hg_; replace Or := Kpt.mk (Or.out.other hg_ (by omega)); replace Op := Kpt.mk (Op.out.other hg_ (by omega)); replace F := Kpt.mk (F.out.own Oz.out hg_ hSl hDl); replace Oz := Kpt.mk (Oz.out.set hX_); clear hX_ hg_; clear hm m25; have m26 : Kpt True := ⟨trivial⟩)
      | (have hm := m24; refine wpList_var rfl 32 rfl zeroS zeroSi ?_; intro bz w_z hl_ hX_ h_; have q_r_z : br < bz := Nat.lt_of_lt_of_le Or.out.bx.lt hl_; have q_p_z : bp < bz := Nat.lt_of_lt_of_le Op.out.bx.lt hl_; have Oz := Kpt.mk (F.out.new hl_ hX_); replace Or := Kpt.mk (Or.out.below h_); replace Op := Kpt.mk (Op.out.below h_); replace F := Kpt.mk (F.out.below h_); clear hl_ hX_ h_; clear hm m24; have m25 : Kpt True := ⟨trivial⟩)
      | (go_at_call 62; have hm := m23; clear c0 c1; go_must (refine (HK.out _ F.out.dv).mono ?_; rintro e w22 ⟨rfl, tag2, hW_, s_⟩; replace Or := Kpt.mk (Or.out.call s_); replace Op := Kpt.mk (Op.out.call s_); replace F := Kpt.mk (F.out.call hW_ s_); clear hW_ s_; clear hm m23; have m24 : Kpt True := ⟨trivial⟩))
      | (have hm := m22; refine wpList_store_bx rfl 124 _ _ rfl bp _ #[.int .u64 (l : Int), .int .u64 (n : Int)] rfl rfl Op.out.bx rfl sizePrt (by simp [Value.oneCell']) rfl ?_; intro w21 hX_ hg_; replace Or := Kpt.mk (Or.out.other hg_ (by omega)); replace F := Kpt.mk (F.out.own Op.out hg_ hSl hDl); replace Op := Kpt.mk (Op.out.set hX_); have c0 : w21.cell? ⟨bp, 0, none⟩ = some (.int .u64 (l : Int)) := (by simpa using Op.out.bx.range 0 _ rfl); have c1 : w21.cell? ⟨bp, 1, none⟩ = some (.int .u64 (n : Int)) := (by simpa using Op.out.bx.range 1 _ rfl); clear hX_ hg_; clear hm m22; have m23 : Kpt True := ⟨trivial⟩)
      | (have hm := m21; refine wpList_var rfl 124 rfl #[.int .u64 0, .int .u64 0] zeroPrt ?_; intro bp w_p hl_ hX_ h_; have q_r_p : br < bp := Nat.lt_of_lt_of_le Or.out.bx.lt hl_; have Op := Kpt.mk (F.out.new hl_ hX_); replace Or := Kpt.mk (Or.out.below h_); replace F := Kpt.mk (F.out.below h_); clear hl_ hX_ h_ hgr hgl; clear hm m21; have m22 : Kpt True := ⟨trivial⟩)
      | (have hm := m20; refine (?_ : wpList _ _ _ (Oper.mk (some 32) _ _ _ _ _ :: _) _ _); go_must (refine wpList_load_mid rfl 124 _ rfl gv 0 rfl [.int .u64 (l : Int), .int .u64 (n : Int)] _ hgr.out Try.underlying124 rfl sizePrt ?_; clear hm m20; have m21 : Kpt True := ⟨trivial⟩))
      | (refine wpList_load_bx rfl 32 _ rfl bz (noS).vals rfl Oz.out.bx _ Try.underlying32 rfl infoS ?_)
      | fail)
      go_roundg 0
      case measure => omega
      case rel => exact .inr ⟨rfl, rfl, _, F, Or⟩
    · have m40 : Kpt True := ⟨trivial⟩
      go_wp2_with (first
      | (have hm := m40; refine wpList_store_bx rfl 32 _ _ rfl br _ (noS).vals rfl rfl Or.out.bx rfl infoS (Sn.vals_one _) rfl ?_; intro w41 hX_ hg_; replace F := Kpt.mk (F.out.own Or.out hg_ hSl hDl); replace Or := Kpt.mk (Or.out.set hX_); clear hX_ hg_; clear hm m40; have m41 : Kpt True := ⟨trivial⟩)
      | fail)
      refine bodyPost_ret (v := .agg noS.vals) (by simp [results, Try.results47, asAddr, Act.put, res_run Or.out.bx]) rfl ⟨rfl, _, F.out.dv.wd, F.out.st⟩
end Go.Proofs.Ytklboieemljmiaa
