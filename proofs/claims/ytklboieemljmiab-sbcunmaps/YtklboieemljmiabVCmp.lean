/-
  The contracts of compare, verify.
-/
import Derived.Test.YtklboieemljmiabVDif
namespace Go.Proofs.Ytklboieemljmiab
open Go.RowKit
set_option linter.unusedVariables false
set_option linter.unusedSimpArgs false
/-- Blocks in a row of their own, to be read. -/
structure Br (w W : World) (tag' : Tags) (g n : Nat) (bs : List Bk) : Prop where
  bks : Bks W (.slice (some ⟨g, 0, none⟩) n n) bs
  lt : g < W.heap.size
  bare : tag' g = none
/-- Blocks that came in, to be read. -/
structure Bi (w W : World) (tag' : Tags) (a : Option Addr) (n cp : Nat) (bs : List Bk) : Prop where
  bks : Bks W (.slice a n cp) bs
  lo : ∀ g o, a = some ⟨g, o, none⟩ → g < w.heap.size ∧ tag' g = none
  sz : w.heap.size ≤ W.heap.size
/-- Bytes that came in, to be read. -/
structure Yi (w W : World) (tag' : Tags) (a : Option Addr) (n cp : Nat) (zs : List Int) : Prop where
  rd : RdAt W (.slice a n cp) zs
  lo : ∀ g o, a = some ⟨g, o, none⟩ → g < w.heap.size ∧ tag' g = none
  sz : w.heap.size ≤ W.heap.size
section
variable {w W W' : World} {tag' tag2 : Tags} {g n cap b2 cp : Nat} {bs : List Bk} {a : Option Addr} {zs : List Int}
theorem Br.below (o : Br w W tag' g n bs) (hb : Below W.heap.size W W') : Br w W' tag' g n bs := ⟨o.bks.below hb, Nat.lt_of_lt_of_le o.lt hb.size, o.bare⟩
theorem Br.call (o : Br w W tag' g n bs) {X : Tag → Prop} (s : Step W W' tag' tag2 X) : Br w W' tag2 g n bs := ⟨o.bks.step s (fun g' o' e => by cases e; exact o.bare), Nat.lt_of_lt_of_le o.lt s.size, s.bare g o.lt o.bare⟩
theorem Br.other (o : Br w W tag' g n bs) (hg : W.grownBy W' (some b2)) (hne : b2 ≠ g) : Br w W' tag' g n bs := ⟨bks_grown o.bks hg (fun e => hne e.symm), Nat.lt_of_lt_of_le o.lt hg.size, o.bare⟩
theorem Bi.below (o : Bi w W tag' a n cp bs) (hb : Below W.heap.size W W') : Bi w W' tag' a n cp bs := ⟨o.bks.below hb, o.lo, Nat.le_trans o.sz hb.size⟩
theorem Bi.call (o : Bi w W tag' a n cp bs) {X : Tag → Prop} (s : Step W W' tag' tag2 X) : Bi w W' tag2 a n cp bs := ⟨o.bks.step s (fun g' o' e => (o.lo g' o' e).2), fun g' o' e => ⟨(o.lo g' o' e).1, s.bare g' (Nat.lt_of_lt_of_le (o.lo g' o' e).1 o.sz) (o.lo g' o' e).2⟩, Nat.le_trans o.sz s.size⟩
theorem Bi.other (o : Bi w W tag' a n cp bs) (hg : W.grownBy W' (some b2)) (hl : w.heap.size ≤ b2) : Bi w W' tag' a n cp bs :=
  ⟨o.bks.step (tag := fun i => if i = b2 then some Tag.wd else none) (tag' := fun i => if i = b2 then some Tag.wd else none) (X := fun _ => True) (Step.turned hg _ (if_pos rfl) trivial) (fun g' o' e => if_neg (by have := (o.lo g' o' e).1; omega)), o.lo, Nat.le_trans o.sz hg.size⟩
theorem yi_keep (h : RdAt W (.slice a n cp) zs) (hb : ∀ g o, a = some ⟨g, o, none⟩ → W'.heap[g]? = W.heap[g]?) : RdAt W' (.slice a n cp) zs := by
  obtain ⟨sa, sc, e, h1, h2, h3⟩ := h
  refine ⟨sa, sc, e, h1, h2, ?_⟩
  simp only [Value.slice.injEq] at e
  rcases h3 with h3 | ⟨b, off, ha, hc⟩
  · exact .inl h3
  · refine .inr ⟨b, off, ha, fun j u hu => ?_⟩
    exact (World.cell?_of_block (w := W) (a := ⟨b, off + j, none⟩) (hb b off (by rw [e.1]; exact ha))).trans (hc j u hu)
theorem Yi.below (o : Yi w W tag' a n cp zs) (hb : Below W.heap.size W W') : Yi w W' tag' a n cp zs := ⟨rd_below o.rd hb, o.lo, Nat.le_trans o.sz hb.size⟩
theorem Yi.call (o : Yi w W tag' a n cp zs) {X : Tag → Prop} (s : Step W W' tag' tag2 X) : Yi w W' tag2 a n cp zs := ⟨yi_keep o.rd (fun g' o' e => s.block g' (Nat.lt_of_lt_of_le (o.lo g' o' e).1 o.sz) (fun t _ e2 => by rw [(o.lo g' o' e).2] at e2; cases e2)), fun g' o' e => ⟨(o.lo g' o' e).1, s.bare g' (Nat.lt_of_lt_of_le (o.lo g' o' e).1 o.sz) (o.lo g' o' e).2⟩, Nat.le_trans o.sz s.size⟩
theorem Yi.other (o : Yi w W tag' a n cp zs) (hg : W.grownBy W' (some b2)) (hl : w.heap.size ≤ b2) : Yi w W' tag' a n cp zs :=
  ⟨yi_keep o.rd (fun g' o' e => hg.block g' (Nat.lt_of_lt_of_le (o.lo g' o' e).1 o.sz) (by have := (o.lo g' o' e).1; simp; omega)), o.lo, Nat.le_trans o.sz hg.size⟩
end

set_option maxRecDepth 100000 in
set_option maxHeartbeats 1000000 in
theorem compare_same (w : World) (B : Nat) (tag : Tags) (st : St) (f : ByteArray) (S D N : Nat) (k : Int) (ca : Bool) (l n cp : Nat) (a : Option Addr) (c : Cm) (bs : List Bk) (h : Dv w B tag st f S D N k ca) (hf1 : 1 ≤ f.size) (hf2 : f.size ≤ 32) (hN : N ≤ 4096) (hc : st.cnt < 500000000000) (hf : ∀ i, st.fails i = false) (hG : Good (st.seen f)) (h0 : 0 ≤ k) (h1 : k ≤ 255) (p0 : 0 ≤ c.pr) (p1 : c.pr ≤ 255) (hl : c.lba = (l : Nat)) (hbl : c.bl = (n : Nat)) (hin : l + n ≤ N) (hlk : lookS k c.pr l (rdL (st.seen f) l n) = noS) (hv : Bi w w tag a n cp bs) (hn : bs.length = n) (hd : ∀ j x y, j < n → (rdL (st.seen f) l n)[j]? = some x → bs[j]? = some y → x.d = y.d) :
    Calls Try.prog 46 #[.pointer (some ⟨D, 0, none⟩), .agg c.vals, .slice a n cp] w fun e w' => e = .returned (.agg (noS).vals) ∧ Aft w w' B tag (rdSt st n) := by
  have HD := fun W (h : Dv W B tag st f S D N k ca) => dread_ok W B tag st f S D N l n k ca c h hf1 hf2 hN hc hf hG h0 h1 p0 p1 hl hbl hin hlk
  have HE := fun W => ended_any noS W
  simp only [show (noS.key != 0) = false from rfl] at HE
  obtain ⟨rs, hrs⟩ : ∃ rs, rs = rdL (st.seen f) l n := ⟨_, rfl⟩
  have hrn : rs.length = n := by rw [hrs]; exact rdL_len _ _ _
  rw [← hrs] at HD hd
  have HF := fun W g (h1 : Bks W (.slice (some ⟨g, 0, none⟩) n n) rs) (h2 : Bks W (.slice a n cp) bs) => differ_none (some ⟨g, 0, none⟩) a n n cp rs bs W h1 hrn h2 hn (by omega) hd
  have hCs : c.vals.size = 15 := rfl
  obtain ⟨CV, hCV⟩ : ∃ CV, CV = c.vals := ⟨_, rfl⟩
  rw [← hCV] at hCs  HD ⊢
  replace hCs := Kpt.mk hCs
  clear hCV
  have hSl := h.sto.lt
  have hDl := h.bx.lt
  have F := Kpt.mk h.fx
  have hb := Kpt.mk (Below.refl w.heap.size w)
  replace HD := Kpt.mk HD
  replace HE := Kpt.mk HE
  replace HF := Kpt.mk HF
  have IV := Kpt.mk hv
  replace h := Kpt.mk h
  clear hv hrn hn hrs hlk hd hf hG hl hbl
  go_enter Try.func46, Try.ntmps46
  go_wp2_with (first
      | (have hm := m7; refine wpList_store_bx rfl 32 _ _ rfl br _ (noS).vals rfl rfl Or.out.bx rfl infoS (Sn.vals_one _) rfl ?_; intro w8 hX_ hg_; replace Oc := Kpt.mk (Oc.out.other hg_ (by omega)); replace Ov := Kpt.mk (Ov.out.other hg_ (by omega)); replace Rd := Kpt.mk (Rd.out.other hg_ (by omega)); replace IV := Kpt.mk (IV.out.other hg_ Or.out.lo); replace F := Kpt.mk (F.out.own Or.out hg_ hSl hDl); replace Or := Kpt.mk (Or.out.set hX_); clear hX_ hg_; clear hm m7; have m8 : Kpt True := ⟨trivial⟩)
      | (go_at_call 66; have hm := m6; go_must (refine (HF.out _ _ Rd.out.bks IV.out.bks).mono ?_; rintro e w7 ⟨rfl, h_⟩; replace Oc := Kpt.mk (Oc.out.below h_); replace Or := Kpt.mk (Or.out.below h_); replace Ov := Kpt.mk (Ov.out.below h_); replace Rd := Kpt.mk (Rd.out.below h_); replace IV := Kpt.mk (IV.out.below h_); replace F := Kpt.mk (F.out.below h_); clear h_; clear hm m6; have m7 : Kpt True := ⟨trivial⟩))
      | (go_at_call 11; have hm := m5; go_must (refine (HE.out _).mono ?_; rintro e w6 ⟨rfl, h_⟩; replace Oc := Kpt.mk (Oc.out.below h_); replace Or := Kpt.mk (Or.out.below h_); replace Ov := Kpt.mk (Ov.out.below h_); replace Rd := Kpt.mk (Rd.out.below h_); replace IV := Kpt.mk (IV.out.below h_); replace F := Kpt.mk (F.out.below h_); clear h_; clear hm m5; have m6 : Kpt True := ⟨trivial⟩))
      | (have hm := m4; refine wpList_store_bx rfl 32 _ _ rfl bv _ (noS).vals rfl rfl Ov.out.bx rfl infoS (Sn.vals_one _) rfl ?_; intro w5 hX_ hg_; replace Oc := Kpt.mk (Oc.out.other hg_ (by omega)); replace Or := Kpt.mk (Or.out.other hg_ (by omega)); replace Rd := Kpt.mk (Rd.out.other hg_ (by omega)); replace IV := Kpt.mk (IV.out.other hg_ Ov.out.lo); replace F := Kpt.mk (F.out.own Ov.out hg_ hSl hDl); replace Ov := Kpt.mk (Ov.out.set hX_); clear hX_ hg_; clear hm m4; have m5 : Kpt True := ⟨trivial⟩)
      | (have hm := m3; refine wpList_var rfl 32 rfl zeroS zeroSi ?_; intro bv w_v hl_ hX_ h_; have q_c_v : bc < bv := Nat.lt_of_lt_of_le Oc.out.bx.lt hl_; have q_r_v : br < bv := Nat.lt_of_lt_of_le Or.out.bx.lt hl_; have q_d_v : gd < bv := Nat.lt_of_lt_of_le Rd.out.lt hl_; have Ov := Kpt.mk (F.out.new hl_ hX_); replace Oc := Kpt.mk (Oc.out.below h_); replace Or := Kpt.mk (Or.out.below h_); replace Rd := Kpt.mk (Rd.out.below h_); replace IV := Kpt.mk (IV.out.below h_); replace F := Kpt.mk (F.out.below h_); clear hl_ hX_ h_; clear hm m3; have m4 : Kpt True := ⟨trivial⟩)
      | (go_at_call 13; have hm := m2; go_must (refine (HD.out _ F.out.dv).mono ?_; rintro e w5 ⟨gd, rfl, hW_, s_, hv_, hgd_, hgl_⟩; have q_c_d : bc < gd := Nat.lt_of_lt_of_le Oc.out.bx.lt hgd_; have q_r_d : br < gd := Nat.lt_of_lt_of_le Or.out.bx.lt hgd_; have Rd_ := Kpt.mk (Br.mk (w := w) hv_ hgl_ (wd_none F.out.dv.wd hgd_) ); replace Oc := Kpt.mk (Oc.out.call s_); replace Or := Kpt.mk (Or.out.call s_); replace IV := Kpt.mk (IV.out.call s_); replace F := Kpt.mk (F.out.call hW_ s_); have Rd := Rd_; clear Rd_; clear hW_ s_ hv_ hgd_ hgl_; clear hm m2; have m3 : Kpt True := ⟨trivial⟩))
      | (have hm := m1; refine wpList_var rfl 32 rfl zeroS zeroSi ?_; intro br w_r hl_ hX_ h_; have q_c_r : bc < br := Nat.lt_of_lt_of_le Oc.out.bx.lt hl_; have Or := Kpt.mk (F.out.new hl_ hX_); replace Oc := Kpt.mk (Oc.out.below h_); replace IV := Kpt.mk (IV.out.below h_); replace F := Kpt.mk (F.out.below h_); replace hb := Kpt.mk (hb.out.trans (h_.mono hb.out.size)); clear hl_ hX_ h_; clear hm m1; have m2 : Kpt True := ⟨trivial⟩)
      | (refine wpList_box rfl 38 _ rfl CV rfl ?_; intro bc w_c hl_ hX_ h_ _; have Oc := Kpt.mk (F.out.new hl_ hX_); replace IV := Kpt.mk (IV.out.below h_); replace F := Kpt.mk (F.out.below h_); replace hb := Kpt.mk (hb.out.trans (h_.mono hb.out.size)); clear hl_ hX_ h_; have m1 : Kpt True := ⟨trivial⟩)
      | (refine wpList_load_bx rfl 38 _ rfl bc CV rfl Oc.out.bx _ Try.underlying38 rfl (by rw [hCs.out]; exact infoC) ?_)
      | (refine wpList_load_bx rfl 32 _ rfl bv (noS).vals rfl Ov.out.bx _ Try.underlying32 rfl infoS ?_)
      | fail)
  refine bodyPost_ret (v := .agg (noS).vals) (by simp [results, Try.results46, asAddr, Act.put, res_run Or.out.bx]) rfl ⟨rfl, _, F.out.dv.wd, F.out.st⟩

set_option maxRecDepth 100000 in
set_option maxHeartbeats 1000000 in
theorem compare_dif (w : World) (B : Nat) (tag : Tags) (st : St) (f : ByteArray) (S D N : Nat) (k : Int) (ca : Bool) (l n cp : Nat) (a : Option Addr) (c : Cm) (bs : List Bk) (h : Dv w B tag st f S D N k ca) (hf1 : 1 ≤ f.size) (hf2 : f.size ≤ 32) (hN : N ≤ 4096) (hc : st.cnt < 500000000000) (hf : ∀ i, st.fails i = false) (hG : Good (st.seen f)) (h0 : 0 ≤ k) (h1 : k ≤ 255) (p0 : 0 ≤ c.pr) (p1 : c.pr ≤ 255) (hl : c.lba = (l : Nat)) (hbl : c.bl = (n : Nat)) (hin : l + n ≤ N) (hlk : lookS k c.pr l (rdL (st.seen f) l n) = noS) (hv : Bi w w tag a n cp bs) (hn : bs.length = n) (pl : Nat) (hpl : pl < 1000000) (hd : Dif (rdL (st.seen f) l n) bs pl) :
    Calls Try.prog 46 #[.pointer (some ⟨D, 0, none⟩), .agg c.vals, .slice a n cp] w fun e w' => e = .returned (.agg (nuS 14 7424 pl).vals) ∧ Aft w w' B tag (rdSt st n) := by
  have HD := fun W (h : Dv W B tag st f S D N k ca) => dread_ok W B tag st f S D N l n k ca c h hf1 hf2 hN hc hf hG h0 h1 p0 p1 hl hbl hin hlk
  have HE := fun W => ended_any noS W
  simp only [show (noS.key != 0) = false from rfl] at HE
  obtain ⟨rs, hrs⟩ : ∃ rs, rs = rdL (st.seen f) l n := ⟨_, rfl⟩
  have hrn : rs.length = n := by rw [hrs]; exact rdL_len _ _ _
  rw [← hrs] at HD hd
  have HF := fun W g (h1 : Bks W (.slice (some ⟨g, 0, none⟩) n n) rs) (h2 : Bks W (.slice a n cp) bs) => differ_at (some ⟨g, 0, none⟩) a n n cp rs bs W h1 hrn h2 hn (by omega) pl hd
  have HNu := Kpt.mk (fun W => numbered_any 14 7424 pl W)
  have ep : IntKind.u64.wrap (pl : Int) = pl := by rw [IntKind.wrap_u64]; omega
  have hCs : c.vals.size = 15 := rfl
  obtain ⟨CV, hCV⟩ : ∃ CV, CV = c.vals := ⟨_, rfl⟩
  rw [← hCV] at hCs  HD ⊢
  replace hCs := Kpt.mk hCs
  clear hCV
  have hSl := h.sto.lt
  have hDl := h.bx.lt
  have F := Kpt.mk h.fx
  have hb := Kpt.mk (Below.refl w.heap.size w)
  replace HD := Kpt.mk HD
  replace HE := Kpt.mk HE
  replace HF := Kpt.mk HF
  have IV := Kpt.mk hv
  replace h := Kpt.mk h
  clear hv hrn hn hrs hlk hd hf hG hl hbl
  go_enter Try.func46, Try.ntmps46
  go_wp2_with (first
      | (have hm := m8; refine wpList_store_bx rfl 32 _ _ rfl br _ (nuS 14 7424 pl).vals rfl rfl Or.out.bx rfl infoS (Sn.vals_one _) rfl ?_; intro w9 hX_ hg_; replace Oc := Kpt.mk (Oc.out.other hg_ (by omega)); replace Ov := Kpt.mk (Ov.out.other hg_ (by omega)); replace Rd := Kpt.mk (Rd.out.other hg_ (by omega)); replace IV := Kpt.mk (IV.out.other hg_ Or.out.lo); replace F := Kpt.mk (F.out.own Or.out hg_ hSl hDl); replace Or := Kpt.mk (Or.out.set hX_); clear hX_ hg_; clear hm m8; have m9 : Kpt True := ⟨trivial⟩)
      | (go_at_call 22; have hm := m7; go_must (refine (HNu.out _).mono ?_; rintro e w8 ⟨rfl, h_⟩; replace Oc := Kpt.mk (Oc.out.below h_); replace Or := Kpt.mk (Or.out.below h_); replace Ov := Kpt.mk (Ov.out.below h_); replace Rd := Kpt.mk (Rd.out.below h_); replace IV := Kpt.mk (IV.out.below h_); replace F := Kpt.mk (F.out.below h_); clear h_; clear hm m7; have m8 : Kpt True := ⟨trivial⟩))
      | (go_at_call 66; have hm := m6; go_must (refine (HF.out _ _ Rd.out.bks IV.out.bks).mono ?_; rintro e w7 ⟨rfl, h_⟩; replace Oc := Kpt.mk (Oc.out.below h_); replace Or := Kpt.mk (Or.out.below h_); replace Ov := Kpt.mk (Ov.out.below h_); replace Rd := Kpt.mk (Rd.out.below h_); replace IV := Kpt.mk (IV.out.below h_); replace F := Kpt.mk (F.out.below h_); clear h_; clear hm m6; have m7 : Kpt True := ⟨trivial⟩))
      | (go_at_call 11; have hm := m5; go_must (refine (HE.out _).mono ?_; rintro e w6 ⟨rfl, h_⟩; replace Oc := Kpt.mk (Oc.out.below h_); replace Or := Kpt.mk (Or.out.below h_); replace Ov := Kpt.mk (Ov.out.below h_); replace Rd := Kpt.mk (Rd.out.below h_); replace IV := Kpt.mk (IV.out.below h_); replace F := Kpt.mk (F.out.below h_); clear h_; clear hm m5; have m6 : Kpt True := ⟨trivial⟩))
      | (have hm := m4; refine wpList_store_bx rfl 32 _ _ rfl bv _ (noS).vals rfl rfl Ov.out.bx rfl infoS (Sn.vals_one _) rfl ?_; intro w5 hX_ hg_; replace Oc := Kpt.mk (Oc.out.other hg_ (by omega)); replace Or := Kpt.mk (Or.out.other hg_ (by omega)); replace Rd := Kpt.mk (Rd.out.other hg_ (by omega)); replace IV := Kpt.mk (IV.out.other hg_ Ov.out.lo); replace F := Kpt.mk (F.out.own Ov.out hg_ hSl hDl); replace Ov := Kpt.mk (Ov.out.set hX_); clear hX_ hg_; clear hm m4; have m5 : Kpt True := ⟨trivial⟩)
      | (have hm := m3; refine wpList_var rfl 32 rfl zeroS zeroSi ?_; intro bv w_v hl_ hX_ h_; have q_c_v : bc < bv := Nat.lt_of_lt_of_le Oc.out.bx.lt hl_; have q_r_v : br < bv := Nat.lt_of_lt_of_le Or.out.bx.lt hl_; have q_d_v : gd < bv := Nat.lt_of_lt_of_le Rd.out.lt hl_; have Ov := Kpt.mk (F.out.new hl_ hX_); replace Oc := Kpt.mk (Oc.out.below h_); replace Or := Kpt.mk (Or.out.below h_); replace Rd := Kpt.mk (Rd.out.below h_); replace IV := Kpt.mk (IV.out.below h_); replace F := Kpt.mk (F.out.below h_); clear hl_ hX_ h_; clear hm m3; have m4 : Kpt True := ⟨trivial⟩)
      | (go_at_call 13; have hm := m2; go_must (refine (HD.out _ F.out.dv).mono ?_; rintro e w5 ⟨gd, rfl, hW_, s_, hv_, hgd_, hgl_⟩; have q_c_d : bc < gd := Nat.lt_of_lt_of_le Oc.out.bx.lt hgd_; have q_r_d : br < gd := Nat.lt_of_lt_of_le Or.out.bx.lt hgd_; have Rd_ := Kpt.mk (Br.mk (w := w) hv_ hgl_ (wd_none F.out.dv.wd hgd_) ); replace Oc := Kpt.mk (Oc.out.call s_); replace Or := Kpt.mk (Or.out.call s_); replace IV := Kpt.mk (IV.out.call s_); replace F := Kpt.mk (F.out.call hW_ s_); have Rd := Rd_; clear Rd_; clear hW_ s_ hv_ hgd_ hgl_; clear hm m2; have m3 : Kpt True := ⟨trivial⟩))
      | (have hm := m1; refine wpList_var rfl 32 rfl zeroS zeroSi ?_; intro br w_r hl_ hX_ h_; have q_c_r : bc < br := Nat.lt_of_lt_of_le Oc.out.bx.lt hl_; have Or := Kpt.mk (F.out.new hl_ hX_); replace Oc := Kpt.mk (Oc.out.below h_); replace IV := Kpt.mk (IV.out.below h_); replace F := Kpt.mk (F.out.below h_); replace hb := Kpt.mk (hb.out.trans (h_.mono hb.out.size)); clear hl_ hX_ h_; clear hm m1; have m2 : Kpt True := ⟨trivial⟩)
      | (refine wpList_box rfl 38 _ rfl CV rfl ?_; intro bc w_c hl_ hX_ h_ _; have Oc := Kpt.mk (F.out.new hl_ hX_); replace IV := Kpt.mk (IV.out.below h_); replace F := Kpt.mk (F.out.below h_); replace hb := Kpt.mk (hb.out.trans (h_.mono hb.out.size)); clear hl_ hX_ h_; have m1 : Kpt True := ⟨trivial⟩)
      | (refine wpList_load_bx rfl 38 _ rfl bc CV rfl Oc.out.bx _ Try.underlying38 rfl (by rw [hCs.out]; exact infoC) ?_)
      | (refine wpList_load_bx rfl 32 _ rfl bv (noS).vals rfl Ov.out.bx _ Try.underlying32 rfl infoS ?_)
      | fail)
  refine bodyPost_ret (v := .agg (nuS 14 7424 pl).vals) (by simp [results, Try.results46, asAddr, Act.put, res_run Or.out.bx]) rfl ⟨rfl, _, F.out.dv.wd, F.out.st⟩

set_option maxRecDepth 100000 in
set_option maxHeartbeats 1000000 in
theorem verify_plain (w : World) (B : Nat) (tag : Tags) (st : St) (f : ByteArray) (S D N : Nat) (k : Int) (ca : Bool) (l n : Nat) (c : Cm) (p : Value) (h : Dv w B tag st f S D N k ca) (hf1 : 1 ≤ f.size) (hf2 : f.size ≤ 32) (hN : N ≤ 4096) (hc : st.cnt < 500000000000) (hf : ∀ i, st.fails i = false) (hG : Good (st.seen f)) (h0 : 0 ≤ k) (h1 : k ≤ 255) (p0 : 0 ≤ c.pr) (p1 : c.pr ≤ 255) (hl : c.lba = (l : Nat)) (hbl : c.bl = (n : Nat)) (hin : l + n ≤ N) (hlk : lookS k c.pr l (rdL (st.seen f) l n) = noS) (hbs : c.bs = false) :
    Calls Try.prog 31 #[.pointer (some ⟨D, 0, none⟩), .agg c.vals, p] w fun e w' => e = .returned (.agg noS.vals) ∧ Aft w w' B tag (rdSt st n) := by
  have HD := fun W (h : Dv W B tag st f S D N k ca) => dread_ok W B tag st f S D N l n k ca c h hf1 hf2 hN hc hf hG h0 h1 p0 p1 hl hbl hin hlk
  have hcm14 : ∀ (W : World) (b : Nat), Bx W b c.vals → W.cell? ⟨b, 14, none⟩ = some (.bool c.bs) := fun W b h => (cm_at h).2.2.2.2.2.2.2.2
  rw [hbs] at hcm14
  have hCs : c.vals.size = 15 := rfl
  obtain ⟨CV, hCV⟩ : ∃ CV, CV = c.vals := ⟨_, rfl⟩
  rw [← hCV] at hCs hcm14 HD ⊢
  replace hcm14 := Kpt.mk hcm14
  replace hCs := Kpt.mk hCs
  clear hCV
  have hSl := h.sto.lt
  have hDl := h.bx.lt
  have F := Kpt.mk h.fx
  have hb := Kpt.mk (Below.refl w.heap.size w)
  replace HD := Kpt.mk HD
  replace h := Kpt.mk h
  clear hlk hf hG hl hbl hbs
  go_enter Try.func31, Try.ntmps31
  go_wp2_with (first
      | (have hm := m5; refine wpList_store_bx rfl 32 _ _ rfl br _ (noS).vals rfl rfl Or.out.bx rfl infoS (Sn.vals_one _) rfl ?_; intro w6 hX_ hg_; replace Oc := Kpt.mk (Oc.out.other hg_ (by omega)); replace Ov := Kpt.mk (Ov.out.other hg_ (by omega)); replace Rd := Kpt.mk (Rd.out.other hg_ (by omega)); replace F := Kpt.mk (F.out.own Or.out hg_ hSl hDl); replace Or := Kpt.mk (Or.out.set hX_); replace x14 := hcm14.out _ _ Oc.out.bx; clear hX_ hg_; clear hm m5; have m6 : Kpt True := ⟨trivial⟩)
      | (have hm := m4; refine wpList_store_bx rfl 32 _ _ rfl bv _ (noS).vals rfl rfl Ov.out.bx rfl infoS (Sn.vals_one _) rfl ?_; intro w5 hX_ hg_; replace Oc := Kpt.mk (Oc.out.other hg_ (by omega)); replace Or := Kpt.mk (Or.out.other hg_ (by omega)); replace Rd := Kpt.mk (Rd.out.other hg_ (by omega)); replace F := Kpt.mk (F.out.own Ov.out hg_ hSl hDl); replace Ov := Kpt.mk (Ov.out.set hX_); replace x14 := hcm14.out _ _ Oc.out.bx; clear hX_ hg_; clear hm m4; have m5 : Kpt True := ⟨trivial⟩)
      | (have hm := m3; refine wpList_var rfl 32 rfl zeroS zeroSi ?_; intro bv w_v hl_ hX_ h_; have q_c_v : bc < bv := Nat.lt_of_lt_of_le Oc.out.bx.lt hl_; have q_r_v : br < bv := Nat.lt_of_lt_of_le Or.out.bx.lt hl_; have q_d_v : gd < bv := Nat.lt_of_lt_of_le Rd.out.lt hl_; have Ov := Kpt.mk (F.out.new hl_ hX_); replace Oc := Kpt.mk (Oc.out.below h_); replace Or := Kpt.mk (Or.out.below h_); replace Rd := Kpt.mk (Rd.out.below h_); replace F := Kpt.mk (F.out.below h_); replace x14 := hcm14.out _ _ Oc.out.bx; clear hl_ hX_ h_; clear hm m3; have m4 : Kpt True := ⟨trivial⟩)
      | (go_at_call 13; have hm := m2; go_must (refine (HD.out _ F.out.dv).mono ?_; rintro e w5 ⟨gd, rfl, hW_, s_, hv_, hgd_, hgl_⟩; have q_c_d : bc < gd := Nat.lt_of_lt_of_le Oc.out.bx.lt hgd_; have q_r_d : br < gd := Nat.lt_of_lt_of_le Or.out.bx.lt hgd_; have Rd_ := Kpt.mk (Br.mk (w := w) hv_ hgl_ (wd_none F.out.dv.wd hgd_) ); replace Oc := Kpt.mk (Oc.out.call s_); replace Or := Kpt.mk (Or.out.call s_); replace F := Kpt.mk (F.out.call hW_ s_); replace x14 := hcm14.out _ _ Oc.out.bx; have Rd := Rd_; clear Rd_; clear hW_ s_ hv_ hgd_ hgl_; clear hm m2; have m3 : Kpt True := ⟨trivial⟩))
      | (have hm := m1; refine wpList_var rfl 32 rfl zeroS zeroSi ?_; intro br w_r hl_ hX_ h_; have q_c_r : bc < br := Nat.lt_of_lt_of_le Oc.out.bx.lt hl_; have Or := Kpt.mk (F.out.new hl_ hX_); replace Oc := Kpt.mk (Oc.out.below h_); replace F := Kpt.mk (F.out.below h_); replace x14 := hcm14.out _ _ Oc.out.bx; replace hb := Kpt.mk (hb.out.trans (h_.mono hb.out.size)); clear hl_ hX_ h_; clear hm m1; have m2 : Kpt True := ⟨trivial⟩)
      | (refine wpList_box rfl 38 _ rfl CV rfl ?_; intro bc w_c hl_ hX_ h_ _; have Oc := Kpt.mk (F.out.new hl_ hX_); replace F := Kpt.mk (F.out.below h_); replace hb := Kpt.mk (hb.out.trans (h_.mono hb.out.size)); have x14 := hcm14.out _ _ Oc.out.bx; clear hl_ hX_ h_; have m1 : Kpt True := ⟨trivial⟩)
      | (refine wpList_load_bx rfl 38 _ rfl bc CV rfl Oc.out.bx _ Try.underlying38 rfl (by rw [hCs.out]; exact infoC) ?_)
      | (refine wpList_load_bx rfl 32 _ rfl bv (noS).vals rfl Ov.out.bx _ Try.underlying32 rfl infoS ?_)
      | fail)
  refine bodyPost_ret (v := .agg (noS).vals) (by simp [results, Try.results31, asAddr, Act.put, res_run Or.out.bx]) rfl ⟨rfl, _, F.out.dv.wd, F.out.st⟩

set_option maxRecDepth 100000 in
set_option maxHeartbeats 1000000 in
theorem verify_same (w : World) (B : Nat) (tag : Tags) (st : St) (f : ByteArray) (S D N : Nat) (k : Int) (ca : Bool) (l n m cp : Nat) (a : Option Addr) (zs : List Int) (c : Cm) (h : Dv w B tag st f S D N k ca) (hf1 : 1 ≤ f.size) (hf2 : f.size ≤ 32) (hN : N ≤ 4096) (hc : st.cnt < 500000000000) (hf : ∀ i, st.fails i = false) (hG : Good (st.seen f)) (h0 : 0 ≤ k) (h1 : k ≤ 255) (p0 : 0 ≤ c.pr) (p1 : c.pr ≤ 255) (hl : c.lba = (l : Nat)) (hbl : c.bl = (n : Nat)) (hin : l + n ≤ N) (hlk : lookS k c.pr l (rdL (st.seen f) l n) = noS) (hbs : c.bs = true) (hr : RdAt w (.slice a m cp) zs) (hlz : zs.length = m) (hby : Bytes zs) (hm : m = n * sz (c.pr != 0)) (hd : ∀ j x y, j < n → (rdL (st.seen f) l n)[j]? = some x → (unBs (c.pr != 0) zs n)[j]? = some y → x.d = y.d) :
    Calls Try.prog 31 #[.pointer (some ⟨D, 0, none⟩), .agg c.vals, .slice a m cp] w fun e w' => e = .returned (.agg (noS).vals) ∧ Aft w w' B tag (rdSt st n) := by
  have hcm3 : ∀ (W : World) (b : Nat), Bx W b c.vals → W.cell? ⟨b, 3, none⟩ = some (.int .u64 c.bl) := fun W b h => (cm_at h).2.2.2.1
  have hcm14 : ∀ (W : World) (b : Nat), Bx W b c.vals → W.cell? ⟨b, 14, none⟩ = some (.bool c.bs) := fun W b h => (cm_at h).2.2.2.2.2.2.2.2
  rw [hbs] at hcm14
  rw [hbl] at hcm3
  have hszb : sz (c.pr != 0) ≤ 24 := by cases (c.pr != 0) <;> decide
  have HU := fun W (h : Below w.heap.size w W) => dunpack_yes c a m cp n zs W (rd_below hr h) hlz hby (by rw [hm]; have : n * sz (c.pr != 0) ≤ n * 24 := Nat.mul_le_mul_left _ hszb; omega) (by omega) hm
  have hbo : ∀ b ∈ unBs (c.pr != 0) zs n, b.ok := unBs_ok _ zs n hby (by rw [hlz, hm])
  have hbn : (unBs (c.pr != 0) zs n).length = n := unBs_len _ _ _
  obtain ⟨bs, hbs2⟩ : ∃ bs, bs = unBs (c.pr != 0) zs n := ⟨_, rfl⟩
  rw [← hbs2] at HU hbo hbn hd
  have HC := fun W g (h : Dv W B tag st f S D N k ca) (hg : W.heap[g]? = some (.cells (flat bs).toArray 81 (0, 0))) (ht : tag g = none) => compare_same W B tag st f S D N k ca l n n (some ⟨g, 0, none⟩) c bs h hf1 hf2 hN hc hf hG h0 h1 p0 p1 hl hbl hin hlk ⟨bks_row hg hbo n n hbn (by unfold maxLen; omega), fun g' o' e => by cases e; exact ⟨heap_lt hg, ht⟩, Nat.le_refl _⟩ hbn hd
  have HE := fun W => ended_any noS W
  simp only [show (noS.key != 0) = false from rfl] at HE
  have en : IntKind.i64.wrap (n : Int) = n := by rw [IntKind.wrap_i64]; omega
  have hCs : c.vals.size = 15 := rfl
  obtain ⟨CV, hCV⟩ : ∃ CV, CV = c.vals := ⟨_, rfl⟩
  rw [← hCV] at hCs hcm3 hcm14 HU HC ⊢
  replace hcm3 := Kpt.mk hcm3
  replace hcm14 := Kpt.mk hcm14
  replace hCs := Kpt.mk hCs
  clear hCV
  have hSl := h.sto.lt
  have hDl := h.bx.lt
  have F := Kpt.mk h.fx
  have hb := Kpt.mk (Below.refl w.heap.size w)
  replace HU := Kpt.mk HU
  replace HC := Kpt.mk HC
  replace HE := Kpt.mk HE
  replace hm := Kpt.mk hm
  replace h := Kpt.mk h
  clear hbo hbn hr hlz hl hbl hf hG hlk hd hbs hbs2 hszb
  go_enter Try.func31, Try.ntmps31
  go_wp2_with (first
      | (have hm := m7; refine wpList_store_bx rfl 32 _ _ rfl br _ (noS).vals rfl rfl Or.out.bx rfl infoS (Sn.vals_one _) rfl ?_; intro w8 hX_ hg_; replace Oc := Kpt.mk (Oc.out.other hg_ (by omega)); replace Ov := Kpt.mk (Ov.out.other hg_ (by omega)); replace Rg := Kpt.mk (Rg.out.other hg_ (by omega)); replace F := Kpt.mk (F.out.own Or.out hg_ hSl hDl); replace Or := Kpt.mk (Or.out.set hX_); replace x3 := hcm3.out _ _ Oc.out.bx; replace x14 := hcm14.out _ _ Oc.out.bx; clear hX_ hg_; clear hm m7; have m8 : Kpt True := ⟨trivial⟩)
      | (go_at_call 46; have hm := m6; go_must (refine (HC.out _ _ F.out.dv Rg.out.row Rg.out.bare).mono ?_; rintro e w7 ⟨rfl, tag7, hW_, s_⟩; replace Oc := Kpt.mk (Oc.out.call s_); replace Or := Kpt.mk (Or.out.call s_); replace Ov := Kpt.mk (Ov.out.call s_); replace Rg := Kpt.mk (Rg.out.call s_); replace F := Kpt.mk (F.out.call hW_ s_); replace x3 := hcm3.out _ _ Oc.out.bx; replace x14 := hcm14.out _ _ Oc.out.bx; clear hW_ s_; clear hm m6; have m7 : Kpt True := ⟨trivial⟩))
      | (go_at_call 11; have hm := m5; go_must (refine (HE.out _).mono ?_; rintro e w6 ⟨rfl, h_⟩; replace Oc := Kpt.mk (Oc.out.below h_); replace Or := Kpt.mk (Or.out.below h_); replace Ov := Kpt.mk (Ov.out.below h_); replace Rg := Kpt.mk (Rg.out.below h_); replace F := Kpt.mk (F.out.below h_); replace x3 := hcm3.out _ _ Oc.out.bx; replace x14 := hcm14.out _ _ Oc.out.bx; replace hb := Kpt.mk (hb.out.trans (h_.mono hb.out.size)); clear h_; clear hm m5; have m6 : Kpt True := ⟨trivial⟩))
      | (have hm := m4; refine wpList_store_bx rfl 32 _ _ rfl bv _ (noS).vals rfl rfl Ov.out.bx rfl infoS (Sn.vals_one _) rfl ?_; intro w5 hX_ hg_; replace hb := Kpt.mk (hb.out.trans (Below.ofGrown hg_ hb.out.size Ov.out.lo)); replace Oc := Kpt.mk (Oc.out.other hg_ (by omega)); replace Or := Kpt.mk (Or.out.other hg_ (by omega)); replace Rg := Kpt.mk (Rg.out.other hg_ (by omega)); replace F := Kpt.mk (F.out.own Ov.out hg_ hSl hDl); replace Ov := Kpt.mk (Ov.out.set hX_); replace x3 := hcm3.out _ _ Oc.out.bx; replace x14 := hcm14.out _ _ Oc.out.bx; clear hX_ hg_; clear hm m4; have m5 : Kpt True := ⟨trivial⟩)
      | (have hm := m3; refine wpList_var rfl 32 rfl zeroS zeroSi ?_; intro bv w_v hl_ hX_ h_; have q_c_v : bc < bv := Nat.lt_of_lt_of_le Oc.out.bx.lt hl_; have q_r_v : br < bv := Nat.lt_of_lt_of_le Or.out.bx.lt hl_; have q_g_v : gg < bv := Nat.lt_of_lt_of_le Rg.out.lt hl_; have Ov := Kpt.mk (F.out.new hl_ hX_); replace Oc := Kpt.mk (Oc.out.below h_); replace Or := Kpt.mk (Or.out.below h_); replace Rg := Kpt.mk (Rg.out.below h_); replace F := Kpt.mk (F.out.below h_); replace x3 := hcm3.out _ _ Oc.out.bx; replace x14 := hcm14.out _ _ Oc.out.bx; replace hb := Kpt.mk (hb.out.trans (h_.mono hb.out.size)); clear hl_ hX_ h_; clear hm m3; have m4 : Kpt True := ⟨trivial⟩)
      | (go_at_call 45; have hm := m2; go_must (refine (HU.out _ hb.out).mono ?_; rintro e w3 ⟨gg, rfl, hr_, hgl_, h_⟩; have q_c_g : bc < gg := Nat.lt_of_lt_of_le Oc.out.bx.lt hgl_; have q_r_g : br < gg := Nat.lt_of_lt_of_le Or.out.bx.lt hgl_; have Rg := Kpt.mk (F.out.row hgl_ hr_); replace Oc := Kpt.mk (Oc.out.below h_); replace Or := Kpt.mk (Or.out.below h_); replace F := Kpt.mk (F.out.below h_); replace x3 := hcm3.out _ _ Oc.out.bx; replace x14 := hcm14.out _ _ Oc.out.bx; replace hb := Kpt.mk (hb.out.trans (h_.mono hb.out.size)); clear h_; clear hgl_ hr_; clear hm m2; have m3 : Kpt True := ⟨trivial⟩))
      | (have hm := m1; refine wpList_var rfl 32 rfl zeroS zeroSi ?_; intro br w_r hl_ hX_ h_; have q_c_r : bc < br := Nat.lt_of_lt_of_le Oc.out.bx.lt hl_; have Or := Kpt.mk (F.out.new hl_ hX_); replace Oc := Kpt.mk (Oc.out.below h_); replace F := Kpt.mk (F.out.below h_); replace x3 := hcm3.out _ _ Oc.out.bx; replace x14 := hcm14.out _ _ Oc.out.bx; replace hb := Kpt.mk (hb.out.trans (h_.mono hb.out.size)); clear hl_ hX_ h_; clear hm m1; have m2 : Kpt True := ⟨trivial⟩)
      | (refine wpList_box rfl 38 _ rfl CV rfl ?_; intro bc w_c hl_ hX_ h_ _; have Oc := Kpt.mk (F.out.new hl_ hX_); replace F := Kpt.mk (F.out.below h_); replace hb := Kpt.mk (hb.out.trans (h_.mono hb.out.size)); have x3 := hcm3.out _ _ Oc.out.bx; have x14 := hcm14.out _ _ Oc.out.bx; clear hl_ hX_ h_; have m1 : Kpt True := ⟨trivial⟩)
      | (refine wpList_load_bx rfl 38 _ rfl bc CV rfl Oc.out.bx _ Try.underlying38 rfl (by rw [hCs.out]; exact infoC) ?_)
      | (refine wpList_load_bx rfl 32 _ rfl bv (noS).vals rfl Ov.out.bx _ Try.underlying32 rfl infoS ?_)
      | fail)
  refine bodyPost_ret (v := .agg (noS).vals) (by simp [results, Try.results31, asAddr, Act.put, res_run Or.out.bx]) rfl ⟨rfl, _, F.out.dv.wd, F.out.st⟩

set_option maxRecDepth 100000 in
set_option maxHeartbeats 1000000 in
theorem verify_dif (w : World) (B : Nat) (tag : Tags) (st : St) (f : ByteArray) (S D N : Nat) (k : Int) (ca : Bool) (l n m cp : Nat) (a : Option Addr) (zs : List Int) (c : Cm) (h : Dv w B tag st f S D N k ca) (hf1 : 1 ≤ f.size) (hf2 : f.size ≤ 32) (hN : N ≤ 4096) (hc : st.cnt < 500000000000) (hf : ∀ i, st.fails i = false) (hG : Good (st.seen f)) (h0 : 0 ≤ k) (h1 : k ≤ 255) (p0 : 0 ≤ c.pr) (p1 : c.pr ≤ 255) (hl : c.lba = (l : Nat)) (hbl : c.bl = (n : Nat)) (hin : l + n ≤ N) (hlk : lookS k c.pr l (rdL (st.seen f) l n) = noS) (hbs : c.bs = true) (hr : RdAt w (.slice a m cp) zs) (hlz : zs.length = m) (hby : Bytes zs) (hm : m = n * sz (c.pr != 0)) (pl : Nat) (hpl : pl < 1000000) (hd : Dif (rdL (st.seen f) l n) (unBs (c.pr != 0) zs n) pl) :
    Calls Try.prog 31 #[.pointer (some ⟨D, 0, none⟩), .agg c.vals, .slice a m cp] w fun e w' => e = .returned (.agg (nuS 14 7424 pl).vals) ∧ Aft w w' B tag (rdSt st n) := by
  have hcm3 : ∀ (W : World) (b : Nat), Bx W b c.vals → W.cell? ⟨b, 3, none⟩ = some (.int .u64 c.bl) := fun W b h => (cm_at h).2.2.2.1
  have hcm14 : ∀ (W : World) (b : Nat), Bx W b c.vals → W.cell? ⟨b, 14, none⟩ = some (.bool c.bs) := fun W b h => (cm_at h).2.2.2.2.2.2.2.2
  rw [hbs] at hcm14
  rw [hbl] at hcm3
  have hszb : sz (c.pr != 0) ≤ 24 := by cases (c.pr != 0) <;> decide
  have HU := fun W (h : Below w.heap.size w W) => dunpack_yes c a m cp n zs W (rd_below hr h) hlz hby (by rw [hm]; have : n * sz (c.pr != 0) ≤ n * 24 := Nat.mul_le_mul_left _ hszb; omega) (by omega) hm
  have hbo : ∀ b ∈ unBs (c.pr != 0) zs n, b.ok := unBs_ok _ zs n hby (by rw [hlz, hm])
  have hbn : (unBs (c.pr != 0) zs n).length = n := unBs_len _ _ _
  obtain ⟨bs, hbs2⟩ : ∃ bs, bs = unBs (c.pr != 0) zs n := ⟨_, rfl⟩
  rw [← hbs2] at HU hbo hbn hd
  have HC := fun W g (h : Dv W B tag st f S D N k ca) (hg : W.heap[g]? = some (.cells (flat bs).toArray 81 (0, 0))) (ht : tag g = none) => compare_dif W B tag st f S D N k ca l n n (some ⟨g, 0, none⟩) c bs h hf1 hf2 hN hc hf hG h0 h1 p0 p1 hl hbl hin hlk ⟨bks_row hg hbo n n hbn (by unfold maxLen; omega), fun g' o' e => by cases e; exact ⟨heap_lt hg, ht⟩, Nat.le_refl _⟩ hbn pl hpl hd
  have HE := fun W => ended_any noS W
  simp only [show (noS.key != 0) = false from rfl] at HE
  have en : IntKind.i64.wrap (n : Int) = n := by rw [IntKind.wrap_i64]; omega
  have hCs : c.vals.size = 15 := rfl
  obtain ⟨CV, hCV⟩ : ∃ CV, CV = c.vals := ⟨_, rfl⟩
  rw [← hCV] at hCs hcm3 hcm14 HU HC ⊢
  replace hcm3 := Kpt.mk hcm3
  replace hcm14 := Kpt.mk hcm14
  replace hCs := Kpt.mk hCs
  clear hCV
  have hSl := h.sto.lt
  have hDl := h.bx.lt
  have F := Kpt.mk h.fx
  have hb := Kpt.mk (Below.refl w.heap.size w)
  replace HU := Kpt.mk HU
  replace HC := Kpt.mk HC
  replace HE := Kpt.mk HE
  replace hm := Kpt.mk hm
  replace h := Kpt.mk h
  clear hbo hbn hr hlz hl hbl hf hG hlk hd hbs hbs2 hszb
  go_enter Try.func31, Try.ntmps31
  go_wp2_with (first
      | (have hm := m7; refine wpList_store_bx rfl 32 _ _ rfl br _ (nuS 14 7424 pl).vals rfl rfl Or.out.bx rfl infoS (Sn.vals_one _) rfl ?_; intro w8 hX_ hg_; replace Oc := Kpt.mk (Oc.out.other hg_ (by omega)); replace Ov := Kpt.mk (Ov.out.other hg_ (by omega)); replace Rg := Kpt.mk (Rg.out.other hg_ (by omega)); replace F := Kpt.mk (F.out.own Or.out hg_ hSl hDl); replace Or := Kpt.mk (Or.out.set hX_); replace x3 := hcm3.out _ _ Oc.out.bx; replace x14 := hcm14.out _ _ Oc.out.bx; clear hX_ hg_; clear hm m7; have m8 : Kpt True := ⟨trivial⟩)
      | (go_at_call 46; have hm := m6; go_must (refine (HC.out _ _ F.out.dv Rg.out.row Rg.out.bare).mono ?_; rintro e w7 ⟨rfl, tag7, hW_, s_⟩; replace Oc := Kpt.mk (Oc.out.call s_); replace Or := Kpt.mk (Or.out.call s_); replace Ov := Kpt.mk (Ov.out.call s_); replace Rg := Kpt.mk (Rg.out.call s_); replace F := Kpt.mk (F.out.call hW_ s_); replace x3 := hcm3.out _ _ Oc.out.bx; replace x14 := hcm14.out _ _ Oc.out.bx; clear hW_ s_; clear hm m6; have m7 : Kpt True := ⟨trivial⟩))
      | (go_at_call 11; have hm := m5; go_must (refine (HE.out _).mono ?_; rintro e w6 ⟨rfl, h_⟩; replace Oc := Kpt.mk (Oc.out.below h_); replace Or := Kpt.mk (Or.out.below h_); replace Ov := Kpt.mk (Ov.out.below h_); replace Rg := Kpt.mk (Rg.out.below h_); replace F := Kpt.mk (F.out.below h_); replace x3 := hcm3.out _ _ Oc.out.bx; replace x14 := hcm14.out _ _ Oc.out.bx; replace hb := Kpt.mk (hb.out.trans (h_.mono hb.out.size)); clear h_; clear hm m5; have m6 : Kpt True := ⟨trivial⟩))
      | (have hm := m4; refine wpList_store_bx rfl 32 _ _ rfl bv _ (noS).vals rfl rfl Ov.out.bx rfl infoS (Sn.vals_one _) rfl ?_; intro w5 hX_ hg_; replace hb := Kpt.mk (hb.out.trans (Below.ofGrown hg_ hb.out.size Ov.out.lo)); replace Oc := Kpt.mk (Oc.out.other hg_ (by omega)); replace Or := Kpt.mk (Or.out.other hg_ (by omega)); replace Rg := Kpt.mk (Rg.out.other hg_ (by omega)); replace F := Kpt.mk (F.out.own Ov.out hg_ hSl hDl); replace Ov := Kpt.mk (Ov.out.set hX_); replace x3 := hcm3.out _ _ Oc.out.bx; replace x14 := hcm14.out _ _ Oc.out.bx; clear hX_ hg_; clear hm m4; have m5 : Kpt True := ⟨trivial⟩)
      | (have hm := m3; refine wpList_var rfl 32 rfl zeroS zeroSi ?_; intro bv w_v hl_ hX_ h_; have q_c_v : bc < bv := Nat.lt_of_lt_of_le Oc.out.bx.lt hl_; have q_r_v : br < bv := Nat.lt_of_lt_of_le Or.out.bx.lt hl_; have q_g_v : gg < bv := Nat.lt_of_lt_of_le Rg.out.lt hl_; have Ov := Kpt.mk (F.out.new hl_ hX_); replace Oc := Kpt.mk (Oc.out.below h_); replace Or := Kpt.mk (Or.out.below h_); replace Rg := Kpt.mk (Rg.out.below h_); replace F := Kpt.mk (F.out.below h_); replace x3 := hcm3.out _ _ Oc.out.bx; replace x14 := hcm14.out _ _ Oc.out.bx; replace hb := Kpt.mk (hb.out.trans (h_.mono hb.out.size)); clear hl_ hX_ h_; clear hm m3; have m4 : Kpt True := ⟨trivial⟩)
      | (go_at_call 45; have hm := m2; go_must (refine (HU.out _ hb.out).mono ?_; rintro e w3 ⟨gg, rfl, hr_, hgl_, h_⟩; have q_c_g : bc < gg := Nat.lt_of_lt_of_le Oc.out.bx.lt hgl_; have q_r_g : br < gg := Nat.lt_of_lt_of_le Or.out.bx.lt hgl_; have Rg := Kpt.mk (F.out.row hgl_ hr_); replace Oc := Kpt.mk (Oc.out.below h_); replace Or := Kpt.mk (Or.out.below h_); replace F := Kpt.mk (F.out.below h_); replace x3 := hcm3.out _ _ Oc.out.bx; replace x14 := hcm14.out _ _ Oc.out.bx; replace hb := Kpt.mk (hb.out.trans (h_.mono hb.out.size)); clear h_; clear hgl_ hr_; clear hm m2; have m3 : Kpt True := ⟨trivial⟩))
      | (have hm := m1; refine wpList_var rfl 32 rfl zeroS zeroSi ?_; intro br w_r hl_ hX_ h_; have q_c_r : bc < br := Nat.lt_of_lt_of_le Oc.out.bx.lt hl_; have Or := Kpt.mk (F.out.new hl_ hX_); replace Oc := Kpt.mk (Oc.out.below h_); replace F := Kpt.mk (F.out.below h_); replace x3 := hcm3.out _ _ Oc.out.bx; replace x14 := hcm14.out _ _ Oc.out.bx; replace hb := Kpt.mk (hb.out.trans (h_.mono hb.out.size)); clear hl_ hX_ h_; clear hm m1; have m2 : Kpt True := ⟨trivial⟩)
      | (refine wpList_box rfl 38 _ rfl CV rfl ?_; intro bc w_c hl_ hX_ h_ _; have Oc := Kpt.mk (F.out.new hl_ hX_); replace F := Kpt.mk (F.out.below h_); replace hb := Kpt.mk (hb.out.trans (h_.mono hb.out.size)); have x3 := hcm3.out _ _ Oc.out.bx; have x14 := hcm14.out _ _ Oc.out.bx; clear hl_ hX_ h_; have m1 : Kpt True := ⟨trivial⟩)
      | (refine wpList_load_bx rfl 38 _ rfl bc CV rfl Oc.out.bx _ Try.underlying38 rfl (by rw [hCs.out]; exact infoC) ?_)
      | (refine wpList_load_bx rfl 32 _ rfl bv (noS).vals rfl Ov.out.bx _ Try.underlying32 rfl infoS ?_)
      | fail)
  refine bodyPost_ret (v := .agg (nuS 14 7424 pl).vals) (by simp [results, Try.results31, asAddr, Act.put, res_run Or.out.bx]) rfl ⟨rfl, _, F.out.dv.wd, F.out.st⟩

end Go.Proofs.Ytklboieemljmiab
