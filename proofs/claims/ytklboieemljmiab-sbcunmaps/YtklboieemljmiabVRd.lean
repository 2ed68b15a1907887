/-
  The contract of Do: commands that act, and reads.
-/
import Derived.Test.YtklboieemljmiabVDo
namespace Go.Proofs.Ytklboieemljmiab
open Go.RowKit
set_option linter.unusedVariables false
set_option linter.unusedSimpArgs false
set_option maxRecDepth 100000 in
set_option maxHeartbeats 1000000 in
theorem do_0 (w : World) (B : Nat) (tag : Tags) (st : St) (f : ByteArray) (S D N : Nat) (k : Int) (ca : Bool) (c : Cm) (p : Value)  (st2 : St) (h : Dv w B tag st f S D N k ca)
    (H : ∀ W, Below w.heap.size w W → Calls Try.prog 10 #[.pointer (some ⟨D, 0, none⟩), .agg c.vals, p] W fun e w' => e = .returned (.tuple #[.slice none 0 0, .agg (noS).vals]) ∧ Aft W w' B tag st2) :
    Calls Try.prog 6 #[.pointer (some ⟨D, 0, none⟩), .agg c.vals, p] w fun e w' => e = .returned (.agg (resV 0 noS (.slice none 0 0))) ∧ Aft w w' B tag st2 := by
  have HE := fun W => ended_any noS W
  simp only [show (noS.key != 0) = false from rfl] at HE
  have hCs : c.vals.size = 15 := rfl
  obtain ⟨CV, hCV⟩ : ∃ CV, CV = c.vals := ⟨_, rfl⟩
  rw [← hCV] at hCs  H ⊢
  replace hCs := Kpt.mk hCs
  clear hCV
  have hSl := h.sto.lt
  have hDl := h.bx.lt
  have F := Kpt.mk h.fx
  have hb := Kpt.mk (Below.refl w.heap.size w)
  replace H := Kpt.mk H
  replace HE := Kpt.mk HE
  replace h := Kpt.mk h
  have hsv : Kpt (noS.vals = #[.int .u8 noS.key, .int .u16 noS.code, .int .u64 noS.info, .bool noS.hi, .int .i64 noS.field, .int .i64 noS.bit, .bool noS.hf, .bool noS.ic]) := ⟨rfl⟩
  go_enter Try.func6, Try.ntmps6
  go_wp2_with (first
      | (have hm := m6; refine wpList_store_bx rfl 34 _ _ rfl br _ (resV 0 noS (.slice none 0 0)) rfl rfl Or.out.bx rfl infoR (resV_one _ _ _ _ _) rfl ?_; intro w9 hX_ hg_; replace Oc := Kpt.mk (Oc.out.other hg_ (by omega)); replace Ov := Kpt.mk (Ov.out.other hg_ (by omega)); replace F := Kpt.mk (F.out.own Or.out hg_ hSl hDl); replace Or := Kpt.mk (Or.out.set hX_); clear hX_ hg_; clear hm m6; have m7 : Kpt True := ⟨trivial⟩)
      | (go_at_call 11; have hm := m5; go_must (refine (HE.out _).mono ?_; rintro e w6 ⟨rfl, h_⟩; replace Oc := Kpt.mk (Oc.out.below h_); replace Or := Kpt.mk (Or.out.below h_); replace Ov := Kpt.mk (Ov.out.below h_); replace F := Kpt.mk (F.out.below h_); clear h_; clear hm m5; have m6 : Kpt True := ⟨trivial⟩))
      | (have hm := m4; refine wpList_store_bx rfl 32 _ _ rfl bv _ (noS).vals rfl rfl Ov.out.bx rfl infoS (Sn.vals_one _) rfl ?_; intro w5 hX_ hg_; replace Oc := Kpt.mk (Oc.out.other hg_ (by omega)); replace Or := Kpt.mk (Or.out.other hg_ (by omega)); replace F := Kpt.mk (F.out.own Ov.out hg_ hSl hDl); replace Ov := Kpt.mk (Ov.out.set hX_); clear hX_ hg_; clear hm m4; have m5 : Kpt True := ⟨trivial⟩)
      | (have hm := m3; refine wpList_var rfl 32 rfl zeroS zeroSi ?_; intro bv w_v hl_ hX_ h_; have q_c_v : bc < bv := Nat.lt_of_lt_of_le Oc.out.bx.lt hl_; have q_r_v : br < bv := Nat.lt_of_lt_of_le Or.out.bx.lt hl_; have Ov := Kpt.mk (F.out.new hl_ hX_); replace Oc := Kpt.mk (Oc.out.below h_); replace Or := Kpt.mk (Or.out.below h_); replace F := Kpt.mk (F.out.below h_); clear hl_ hX_ h_; clear hm m3; have m4 : Kpt True := ⟨trivial⟩)
      | (go_at_call 10; have hm := m2; go_must (refine (H.out _ hb.out).mono ?_; rintro e w5 ⟨rfl, tag5, hW_, s_⟩; replace Oc := Kpt.mk (Oc.out.call s_); replace Or := Kpt.mk (Or.out.call s_); replace F := Kpt.mk (F.out.call hW_ s_); clear hW_ s_; clear hm m2; have m3 : Kpt True := ⟨trivial⟩))
      | (have hm := m1; refine wpList_var rfl 34 rfl zeroR zeroRi ?_; intro br w_r hl_ hX_ h_; have q_c_r : bc < br := Nat.lt_of_lt_of_le Oc.out.bx.lt hl_; have Or := Kpt.mk (F.out.new hl_ hX_); replace Oc := Kpt.mk (Oc.out.below h_); replace F := Kpt.mk (F.out.below h_); replace hb := Kpt.mk (hb.out.trans (h_.mono hb.out.size)); clear hl_ hX_ h_; clear hm m1; have m2 : Kpt True := ⟨trivial⟩)
      | (refine wpList_box rfl 38 _ rfl CV rfl ?_; intro bc w_c hl_ hX_ h_ _; have Oc := Kpt.mk (F.out.new hl_ hX_); replace F := Kpt.mk (F.out.below h_); replace hb := Kpt.mk (hb.out.trans (h_.mono hb.out.size)); clear hl_ hX_ h_; have m1 : Kpt True := ⟨trivial⟩)
      | (refine wpList_load_bx rfl 38 _ rfl bc CV rfl Oc.out.bx _ Try.underlying38 rfl (by rw [hCs.out]; exact infoC) ?_)
      | (refine wpList_load_bx rfl 32 _ rfl bv (noS).vals rfl Ov.out.bx _ Try.underlying32 rfl infoS ?_)
      | fail)
  refine bodyPost_ret (v := .agg (resV 0 noS (.slice none 0 0))) (by simp [results, Try.results6, asAddr, Act.put, resR_run Or.out.bx]) rfl ⟨rfl, _, F.out.dv.wd, F.out.st⟩

set_option maxRecDepth 100000 in
set_option maxHeartbeats 1000000 in
theorem do_s (w : World) (B : Nat) (tag : Tags) (st : St) (f : ByteArray) (S D N : Nat) (k : Int) (ca : Bool) (c : Cm) (p : Value) (s : Sn) (hs : s.key ≠ 0) (st2 : St) (h : Dv w B tag st f S D N k ca)
    (H : ∀ W, Below w.heap.size w W → Calls Try.prog 10 #[.pointer (some ⟨D, 0, none⟩), .agg c.vals, p] W fun e w' => e = .returned (.tuple #[.slice none 0 0, .agg (s).vals]) ∧ Aft W w' B tag st2) :
    Calls Try.prog 6 #[.pointer (some ⟨D, 0, none⟩), .agg c.vals, p] w fun e w' => e = .returned (.agg (resV 2 s (.slice none 0 0))) ∧ Aft w w' B tag st2 := by
  have HE := fun W => ended_any s W
  simp only [show (s.key != 0) = true from by simpa using hs] at HE
  have hCs : c.vals.size = 15 := rfl
  obtain ⟨CV, hCV⟩ : ∃ CV, CV = c.vals := ⟨_, rfl⟩
  rw [← hCV] at hCs  H ⊢
  replace hCs := Kpt.mk hCs
  clear hCV
  have hSl := h.sto.lt
  have hDl := h.bx.lt
  have F := Kpt.mk h.fx
  have hb := Kpt.mk (Below.refl w.heap.size w)
  replace H := Kpt.mk H
  replace HE := Kpt.mk HE
  replace h := Kpt.mk h
  have hsv : Kpt (s.vals = #[.int .u8 s.key, .int .u16 s.code, .int .u64 s.info, .bool s.hi, .int .i64 s.field, .int .i64 s.bit, .bool s.hf, .bool s.ic]) := ⟨rfl⟩
  go_enter Try.func6, Try.ntmps6
  go_wp2_with (first
      | (have hm := m6; refine wpList_store_bx rfl 34 _ _ rfl br _ (resV 2 s (.slice none 0 0)) rfl rfl Or.out.bx rfl infoR (resV_one _ _ _ _ _) rfl ?_; intro w9 hX_ hg_; replace Oc := Kpt.mk (Oc.out.other hg_ (by omega)); replace Ov := Kpt.mk (Ov.out.other hg_ (by omega)); replace F := Kpt.mk (F.out.own Or.out hg_ hSl hDl); replace Or := Kpt.mk (Or.out.set hX_); clear hX_ hg_; clear hm m6; have m7 : Kpt True := ⟨trivial⟩)
      | (go_at_call 11; have hm := m5; go_must (refine (HE.out _).mono ?_; rintro e w6 ⟨rfl, h_⟩; replace Oc := Kpt.mk (Oc.out.below h_); replace Or := Kpt.mk (Or.out.below h_); replace Ov := Kpt.mk (Ov.out.below h_); replace F := Kpt.mk (F.out.below h_); clear h_; clear hm m5; have m6 : Kpt True := ⟨trivial⟩))
      | (have hm := m4; refine wpList_store_bx rfl 32 _ _ rfl bv _ (s).vals rfl rfl Ov.out.bx rfl infoS (Sn.vals_one _) rfl ?_; intro w5 hX_ hg_; replace Oc := Kpt.mk (Oc.out.other hg_ (by omega)); replace Or := Kpt.mk (Or.out.other hg_ (by omega)); replace F := Kpt.mk (F.out.own Ov.out hg_ hSl hDl); replace Ov := Kpt.mk (Ov.out.set hX_); clear hX_ hg_; clear hm m4; have m5 : Kpt True := ⟨trivial⟩)
      | (have hm := m3; refine wpList_var rfl 32 rfl zeroS zeroSi ?_; intro bv w_v hl_ hX_ h_; have q_c_v : bc < bv := Nat.lt_of_lt_of_le Oc.out.bx.lt hl_; have q_r_v : br < bv := Nat.lt_of_lt_of_le Or.out.bx.lt hl_; have Ov := Kpt.mk (F.out.new hl_ hX_); replace Oc := Kpt.mk (Oc.out.below h_); replace Or := Kpt.mk (Or.out.below h_); replace F := Kpt.mk (F.out.below h_); clear hl_ hX_ h_; clear hm m3; have m4 : Kpt True := ⟨trivial⟩)
      | (go_at_call 10; have hm := m2; go_must (refine (H.out _ hb.out).mono ?_; rintro e w5 ⟨rfl, tag5, hW_, s_⟩; replace Oc := Kpt.mk (Oc.out.call s_); replace Or := Kpt.mk (Or.out.call s_); replace F := Kpt.mk (F.out.call hW_ s_); clear hW_ s_; clear hm m2; have m3 : Kpt True := ⟨trivial⟩))
      | (have hm := m1; refine wpList_var rfl 34 rfl zeroR zeroRi ?_; intro br w_r hl_ hX_ h_; have q_c_r : bc < br := Nat.lt_of_lt_of_le Oc.out.bx.lt hl_; have Or := Kpt.mk (F.out.new hl_ hX_); replace Oc := Kpt.mk (Oc.out.below h_); replace F := Kpt.mk (F.out.below h_); replace hb := Kpt.mk (hb.out.trans (h_.mono hb.out.size)); clear hl_ hX_ h_; clear hm m1; have m2 : Kpt True := ⟨trivial⟩)
      | (refine wpList_box rfl 38 _ rfl CV rfl ?_; intro bc w_c hl_ hX_ h_ _; have Oc := Kpt.mk (F.out.new hl_ hX_); replace F := Kpt.mk (F.out.below h_); replace hb := Kpt.mk (hb.out.trans (h_.mono hb.out.size)); clear hl_ hX_ h_; have m1 : Kpt True := ⟨trivial⟩)
      | (refine wpList_load_bx rfl 38 _ rfl bc CV rfl Oc.out.bx _ Try.underlying38 rfl (by rw [hCs.out]; exact infoC) ?_)
      | (refine wpList_load_bx rfl 32 _ rfl bv (s).vals rfl Ov.out.bx _ Try.underlying32 rfl infoS ?_; first | (have hm := m6; rw [hsv.out]) | skip)
      | fail)
  refine bodyPost_ret (v := .agg (resV 2 s (.slice none 0 0))) (by simp [results, Try.results6, asAddr, Act.put, resR_run Or.out.bx]) rfl ⟨rfl, _, F.out.dv.wd, F.out.st⟩

/-- What a read leaves: bytes in a row of their own. -/
def Got (w w' : World) (B : Nat) (tag : Tags) (st2 : St) (g n cap : Nat) (zs : List Int) : Prop := ∃ tag', Wd w' B tag' st2 ∧ Step w w' tag tag' (fun _ => True) ∧ w'.ownsRow w.heap.size 5 1 (.slice (some ⟨g, 0, none⟩) n cap) n (cels zs) ∧ tag' g = none
theorem own_step {W W' : World} {tag' tag2 : Tags} {X : Tag → Prop} {b g n cap : Nat} {zs : List Value} (h : W.ownsRow b 5 1 (.slice (some ⟨g, 0, none⟩) n cap) n zs) (hb : W'.heap[g]? = W.heap[g]?) : W'.ownsRow b 5 1 (.slice (some ⟨g, 0, none⟩) n cap) n zs :=
  own_of_block h (fun q hq => by simp [Value.ownBlock] at hq; subst hq; exact hb)
theorem pack_tb (tb : Bool) (a : Option Addr) (n cp : Nat) (bs : List Bk) (w : World) (hbs : Bks w (.slice a n cp) bs) (hl : bs.length = n) (hn : n * 24 ≤ 140737488355328) :
    Calls Try.prog 14 #[.slice a n cp, .bool tb] w fun e w' => ∃ g cap, e = .returned (.slice (some ⟨g, 0, none⟩) (n * sz tb) cap) ∧ w'.ownsRow w.heap.size 5 1 (.slice (some ⟨g, 0, none⟩) (n * sz tb) cap) (n * sz tb) (cels (packL tb bs)) ∧ Below w.heap.size w w' := by
  cases tb
  · exact pack_false a n cp bs w hbs hl hn
  · exact pack_true a n cp bs w hbs hl hn
theorem own_lo {W : World} {b g n cap : Nat} {zs : List Value} (h : W.ownsRow b 5 1 (.slice (some ⟨g, 0, none⟩) n cap) n zs) : b ≤ g ∧ g < W.heap.size := by
  have := World.ownsRow.lt h g rfl
  exact this

theorem bks_grown {w w' : World} {g n cp b : Nat} {bs : List Bk} (h : Bks w (.slice (some ⟨g, 0, none⟩) n cp) bs) (hg : w.grownBy w' (some b)) (hne : g ≠ b) : Bks w' (.slice (some ⟨g, 0, none⟩) n cp) bs :=
  h.step (tag := fun i => if i = b then some Tag.wd else none) (tag' := fun i => if i = b then some Tag.wd else none) (X := fun _ => True) (Step.turned hg _ (if_pos rfl) trivial) (fun g' o e => by cases e; exact if_neg hne)
set_option maxRecDepth 100000 in
set_option maxHeartbeats 1000000 in
theorem answer_read (w : World) (B : Nat) (tag : Tags) (st : St) (f : ByteArray) (S D N : Nat) (k : Int) (ca : Bool) (l n : Nat) (c : Cm) (p : Value) (h : Dv w B tag st f S D N k ca) (hf1 : 1 ≤ f.size) (hf2 : f.size ≤ 32) (hN : N ≤ 4096) (hc : st.cnt < 500000000000) (hf : ∀ i, st.fails i = false) (hG : Good (st.seen f)) (h0 : 0 ≤ k) (h1 : k ≤ 255) (p0 : 0 ≤ c.pr) (p1 : c.pr ≤ 255) (hk : knownB k c.pr = true) (hkd : c.kd = 7) (hl : c.lba = (l : Nat)) (hbl : c.bl = (n : Nat)) (hin : l + n ≤ N) (hlk : lookS k c.pr l (rdL (st.seen f) l n) = noS) :
    Calls Try.prog 10 #[.pointer (some ⟨D, 0, none⟩), .agg c.vals, p] w fun e w' => ∃ g cap, e = .returned (.tuple #[.slice (some ⟨g, 0, none⟩) (n * sz (c.pr != 0)) cap, .agg noS.vals]) ∧ Got w w' B tag (rdSt st n) g (n * sz (c.pr != 0)) cap (packL (c.pr != 0) (rdL (st.seen f) l n)) := by
  have hcm0 : ∀ (W : World) (b : Nat), Bx W b c.vals → W.cell? ⟨b, 0, none⟩ = some (.int .u8 c.kd) := fun W b h => (cm_at h).1
  rw [hkd] at hcm0
  have HR := fun W (h : Dv W B tag st f S D N k ca) => refuse_in W B tag st f S D N k ca l n c h hN h0 p0 hk (by omega) (by omega) hl hbl hin
  have HD := fun W (h : Dv W B tag st f S D N k ca) => dread_ok W B tag st f S D N l n k ca c h hf1 hf2 hN hc hf hG h0 h1 p0 p1 hl hbl hin hlk
  have HT := withT_any c
  obtain ⟨tb, htb⟩ : ∃ tb, tb = (c.pr != 0) := ⟨_, rfl⟩
  rw [← htb] at HT ⊢
  obtain ⟨bs, hbs⟩ : ∃ bs, bs = rdL (st.seen f) l n := ⟨_, rfl⟩
  have hbn : bs.length = n := by rw [hbs]; exact rdL_len _ _ _
  rw [← hbs] at HD ⊢
  have HP := fun W g (hv : Bks W (.slice (some ⟨g, 0, none⟩) n n) bs) => pack_tb tb (some ⟨g, 0, none⟩) n n bs W hv hbn (by omega)
  have HE := fun W => ended_any noS W
  simp only [show (noS.key != 0) = false from rfl] at HE
  obtain ⟨sn, hsn⟩ : ∃ sn, sn = n * sz tb := ⟨_, rfl⟩
  rw [← hsn] at HP ⊢
  have hCs : c.vals.size = 15 := rfl
  obtain ⟨CV, hCV⟩ : ∃ CV, CV = c.vals := ⟨_, rfl⟩
  rw [← hCV] at hCs hcm0 HR HD HT ⊢
  replace hcm0 := Kpt.mk hcm0
  replace hCs := Kpt.mk hCs
  clear hCV
  have hSl := h.sto.lt
  have hDl := h.bx.lt
  have F := Kpt.mk h.fx
  have hb := Kpt.mk (Below.refl w.heap.size w)
  replace HR := Kpt.mk HR
  replace HD := Kpt.mk HD
  replace HT := Kpt.mk HT
  replace HP := Kpt.mk HP
  replace HE := Kpt.mk HE
  replace h := Kpt.mk h
  clear hk hkd hl hbl hlk hf hG hbn htb hbs hsn
  go_enter Try.func10, Try.ntmps10
  go_wp2_with (first
      | (have hm := m8; refine wpList_store_bx rfl 32 _ _ rfl bz _ (noS).vals rfl rfl Oz.out.bx rfl infoS (Sn.vals_one _) rfl ?_; intro w9 hX_ hg_; replace Oc := Kpt.mk (Oc.out.other hg_ (by omega)); replace Or := Kpt.mk (Or.out.other hg_ (by omega)); replace Ov := Kpt.mk (Ov.out.other hg_ (by omega)); replace F := Kpt.mk (F.out.own Oz.out hg_ hSl hDl); replace Oz := Kpt.mk (Oz.out.set hX_); replace hv5 := Kpt.mk (bks_grown hv5.out hg_ (by omega)); clear hX_ hg_; clear hm m8; have m9 : Kpt True := ⟨trivial⟩)
      | (have hm := m7; refine wpList_var rfl 32 rfl zeroS zeroSi ?_; intro bz w_z hl_ hX_ h_; have q_c_z : bc < bz := Nat.lt_of_lt_of_le Oc.out.bx.lt hl_; have q_r_z : br < bz := Nat.lt_of_lt_of_le Or.out.bx.lt hl_; have q_v_z : bv < bz := Nat.lt_of_lt_of_le Ov.out.bx.lt hl_; have Oz := Kpt.mk (F.out.new hl_ hX_); replace Oc := Kpt.mk (Oc.out.below h_); replace Or := Kpt.mk (Or.out.below h_); replace Ov := Kpt.mk (Ov.out.below h_); replace F := Kpt.mk (F.out.below h_); replace hv5 := Kpt.mk (hv5.out.below h_); have q_gd_z : gd < bz := Nat.lt_of_lt_of_le (hgdl5) hl_; clear hl_ hX_ h_; clear hm m7; have m8 : Kpt True := ⟨trivial⟩)
      | (go_at_call 13; have hm := m6; go_must (refine (HD.out _ F.out.dv).mono ?_; rintro e w5 ⟨gd, rfl, hW_, s_, hv5, hgd5, hgdlt⟩; have hgdn : tag gd = none := wd_none F.out.dv.wd hgd5; have q_r_gd : br < gd := Nat.lt_of_lt_of_le Or.out.bx.lt hgd5; have hgd6_ : gd < w5.heap.size := hgdlt; replace hv5 := Kpt.mk hv5; replace Oc := Kpt.mk (Oc.out.call s_); replace Or := Kpt.mk (Or.out.call s_); replace Ov := Kpt.mk (Ov.out.call s_); replace F := Kpt.mk (F.out.call hW_ s_); replace x0 := hcm0.out _ _ Oc.out.bx; have hgdl5 := hgd6_; clear hW_ s_; clear hm m6; have m7 : Kpt True := ⟨trivial⟩))
      | (go_at_call 11; have hm := m5; go_must (refine (HE.out _).mono ?_; rintro e w4 ⟨rfl, h_⟩; replace Oc := Kpt.mk (Oc.out.below h_); replace Or := Kpt.mk (Or.out.below h_); replace Ov := Kpt.mk (Ov.out.below h_); replace F := Kpt.mk (F.out.below h_); replace x0 := hcm0.out _ _ Oc.out.bx; replace hb := Kpt.mk (hb.out.trans (h_.mono hb.out.size)); clear h_; clear hm m5; have m6 : Kpt True := ⟨trivial⟩))
      | (have hm := m4; refine wpList_store_bx rfl 32 _ _ rfl bv _ (noS).vals rfl rfl Ov.out.bx rfl infoS (Sn.vals_one _) rfl ?_; intro w5 hX_ hg_; replace hb := Kpt.mk (hb.out.trans (Below.ofGrown hg_ hb.out.size Ov.out.lo)); replace Oc := Kpt.mk (Oc.out.other hg_ (by omega)); replace Or := Kpt.mk (Or.out.other hg_ (by omega)); replace F := Kpt.mk (F.out.own Ov.out hg_ hSl hDl); replace Ov := Kpt.mk (Ov.out.set hX_); replace x0 := hcm0.out _ _ Oc.out.bx; clear hX_ hg_; clear hm m4; have m5 : Kpt True := ⟨trivial⟩)
      | (have hm := m3; refine wpList_var rfl 32 rfl zeroS zeroSi ?_; intro bv w_v hl_ hX_ h_; have q_c_v : bc < bv := Nat.lt_of_lt_of_le Oc.out.bx.lt hl_; have q_r_v : br < bv := Nat.lt_of_lt_of_le Or.out.bx.lt hl_; have Ov := Kpt.mk (F.out.new hl_ hX_); replace Oc := Kpt.mk (Oc.out.below h_); replace Or := Kpt.mk (Or.out.below h_); replace F := Kpt.mk (F.out.below h_); replace x0 := hcm0.out _ _ Oc.out.bx; replace hb := Kpt.mk (hb.out.trans (h_.mono hb.out.size)); clear hl_ hX_ h_; clear hm m3; have m4 : Kpt True := ⟨trivial⟩)
      | (go_at_call 12; have hm := m2; go_must (refine (HR.out _ F.out.dv).mono ?_; rintro e w3 ⟨rfl, h_⟩; replace Oc := Kpt.mk (Oc.out.below h_); replace Or := Kpt.mk (Or.out.below h_); replace F := Kpt.mk (F.out.below h_); replace x0 := hcm0.out _ _ Oc.out.bx; replace hb := Kpt.mk (hb.out.trans (h_.mono hb.out.size)); clear h_; clear hm m2; have m3 : Kpt True := ⟨trivial⟩))
      | (have hm := m1; refine wpList_var rfl 32 rfl zeroS zeroSi ?_; intro br w_r hl_ hX_ h_; have q_c_r : bc < br := Nat.lt_of_lt_of_le Oc.out.bx.lt hl_; have Or := Kpt.mk (F.out.new hl_ hX_); replace Oc := Kpt.mk (Oc.out.below h_); replace F := Kpt.mk (F.out.below h_); replace x0 := hcm0.out _ _ Oc.out.bx; replace hb := Kpt.mk (hb.out.trans (h_.mono hb.out.size)); clear hl_ hX_ h_; clear hm m1; have m2 : Kpt True := ⟨trivial⟩)
      | (refine wpList_box rfl 38 _ rfl CV rfl ?_; intro bc w_c hl_ hX_ h_ _; have Oc := Kpt.mk (F.out.new hl_ hX_); replace F := Kpt.mk (F.out.below h_); replace hb := Kpt.mk (hb.out.trans (h_.mono hb.out.size)); have x0 := hcm0.out _ _ Oc.out.bx; clear hl_ hX_ h_; have m1 : Kpt True := ⟨trivial⟩)
      | (refine wpList_load_bx rfl 38 _ rfl bc CV rfl Oc.out.bx _ Try.underlying38 rfl (by rw [hCs.out]; exact infoC) ?_)
      | (refine wpList_load_bx rfl 32 _ rfl bv (noS).vals rfl Ov.out.bx _ Try.underlying32 rfl infoS ?_)
      | (refine wpList_load_bx rfl 32 _ rfl bz (noS).vals rfl Oz.out.bx _ Try.underlying32 rfl infoS ?_)
      | fail)
  refine wp_region_any (by kernel_rfl) ?_
  refine wpAny_of_C (C := fun W => Bx W bc CV ∧ Bx W bz noS.vals) _ _ _ _ ?_
  refine wpAnyC_take 0 (.slice (some ⟨gd, 0, none⟩) n n) rfl (by kernel_rfl) (by kernel_rfl) (by kernel_rfl) (fun _ _ _ h => h) (wanted_free rfl _) (fun W hW => by go_simp) ?_
  try simp only [Act.put, List.getElem_toArray, List.getElem_cons_succ, List.getElem_cons_zero, List.setIfInBounds_toArray, List.set_cons_succ, List.set_cons_zero]
  refine wpAnyC_take 1 (.agg CV) rfl (by kernel_rfl) (by kernel_rfl) (by kernel_rfl) (fun _ _ _ h => h) (wanted_free rfl _) (fun W hW => exec_load_bxG 38 _ rfl bc CV rfl hW.1 _ Try.underlying38 rfl (by rw [hCs.out]; exact infoC)) ?_
  try simp only [Act.put, List.getElem_toArray, List.getElem_cons_succ, List.getElem_cons_zero, List.setIfInBounds_toArray, List.set_cons_succ, List.set_cons_zero]
  refine wpAnyC_take 4 (.agg noS.vals) rfl (by kernel_rfl) (by kernel_rfl) (by kernel_rfl) (fun _ _ _ h => h) (wanted_free rfl _) (fun W hW => exec_load_bxG 32 _ rfl bz noS.vals rfl hW.2 _ Try.underlying32 rfl infoS) ?_
  try simp only [Act.put, List.getElem_toArray, List.getElem_cons_succ, List.getElem_cons_zero, List.setIfInBounds_toArray, List.set_cons_succ, List.set_cons_zero]
  refine wpAnyC_one 2 (⟨Oc.out.bx.drew, Oz.out.bx.drew⟩) rfl (by kernel_rfl) (wanted_free rfl _) (fun KA hKA => ?_)
  go_simp
  refine (HT.out _).mono ?_
  rintro e w7 ⟨rfl, h7⟩
  have h_ := below_undrew h7
  replace Oc := Kpt.mk (Oc.out.below h_)
  replace Or := Kpt.mk (Or.out.below h_)
  replace Ov := Kpt.mk (Ov.out.below h_)
  replace Oz := Kpt.mk (Oz.out.below h_)
  replace F := Kpt.mk (F.out.below h_)
  replace hv5 := Kpt.mk (hv5.out.below h_)
  clear h_ h7
  refine hKA _ _ ?_
  clear hKA KA
  try simp only [Act.put, List.getElem_toArray, List.getElem_cons_succ, List.getElem_cons_zero, List.setIfInBounds_toArray, List.set_cons_succ, List.set_cons_zero]
  refine wpAnyC_one 3 (⟨Oc.out.bx, Oz.out.bx⟩) rfl (by kernel_rfl) (wanted_free rfl _) (fun KA hKA => ?_)
  go_simp
  refine (HP.out _ _ hv5.out).mono ?_
  rintro e w8 ⟨gp, cap, rfl, hrow, h8⟩
  have h_ := h8
  have hlo := own_lo hrow
  have hgpn : tag gp = none := wd_none F.out.dv.wd hlo.1
  have q_r_gp : br < gp := Nat.lt_of_lt_of_le Or.out.bx.lt hlo.1
  have hsz7 := F.out.st.size
  replace Oc := Kpt.mk (Oc.out.below h_)
  replace Or := Kpt.mk (Or.out.below h_)
  replace Ov := Kpt.mk (Ov.out.below h_)
  replace Oz := Kpt.mk (Oz.out.below h_)
  replace F := Kpt.mk (F.out.below h_)
  clear h_ h8
  refine hKA _ _ ?_
  clear hKA KA
  try simp only [Act.put, List.getElem_toArray, List.getElem_cons_succ, List.getElem_cons_zero, List.setIfInBounds_toArray, List.set_cons_succ, List.set_cons_zero]
  refine wpAnyC_take 5 (.slice (some ⟨gp, 0, none⟩) sn cap) rfl (by kernel_rfl) (by kernel_rfl) (by kernel_rfl) (fun _ _ _ h => h) (wanted_free rfl _) (fun W hW => by go_simp) ?_
  try simp only [Act.put, List.getElem_toArray, List.getElem_cons_succ, List.getElem_cons_zero, List.setIfInBounds_toArray, List.set_cons_succ, List.set_cons_zero]
  refine wpAnyC_one 6 ⟨Oc.out.bx, Oz.out.bx⟩ rfl (by kernel_rfl) (wanted_free rfl _) (fun KA hKA => ?_)
  refine wp_store_bx 32 _ _ rfl br zeroS noS.vals rfl rfl Or.out.bx rfl infoS (Sn.vals_one _) ?_
  intro w9 hX_ hg9
  have hg_ : w8.grownBy w9 (some br) := hg9
  refine hKA _ _ ?_
  clear hKA KA
  try simp only [Act.put, List.getElem_toArray, List.getElem_cons_succ, List.getElem_cons_zero, List.setIfInBounds_toArray, List.set_cons_succ, List.set_cons_zero]
  replace Oc := Kpt.mk (Oc.out.other hg_ (by omega))
  replace Ov := Kpt.mk (Ov.out.other hg_ (by omega))
  replace Oz := Kpt.mk (Oz.out.other hg_ (by omega))
  replace F := Kpt.mk (F.out.own Or.out hg_ hSl hDl)
  replace Or := Kpt.mk (Or.out.set hX_)
  have hrow9 : w9.ownsRow w.heap.size 5 1 (.slice (some ⟨gp, 0, none⟩) sn cap) sn (cels (packL tb bs)) := own_base (own_of_block hrow (fun q hq => by simp [Value.ownBlock] at hq; subst hq; exact hg_.block _ hlo.2 (by simp; omega))) hsz7
  refine wpAnyC_done (⟨Oc.out.bx, Oz.out.bx⟩) (by kernel_rfl) ?_
  clear hg9 hg_ hX_ hrow
  replace hrow9 := Kpt.mk hrow9
  go_wp2
  refine bodyPost_ret (v := .tuple #[.slice (some ⟨gp, 0, none⟩) sn cap, .agg noS.vals]) (by simp [results, Try.results10, asAddr, Act.put, res_run Or.out.bx]) rfl ⟨gp, cap, rfl, _, F.out.dv.wd, F.out.st, hrow9.out, hgpn⟩

end Go.Proofs.Ytklboieemljmiab
