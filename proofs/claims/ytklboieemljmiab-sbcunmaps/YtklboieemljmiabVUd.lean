/-
  SbcUnmaps: Unmap and WriteSame by Do; what is read behind them.
-/
import Derived.Test.YtklboieemljmiabVWu
import Derived.Test.YtklboieemljmiabVLem
namespace Go.Proofs.Ytklboieemljmiab
open Go.RowKit
set_option linter.unusedVariables false
set_option linter.unusedSimpArgs false

/-- The parameters of Unmap with one descriptor. -/
def zU (l m : Nat) : List Int := [0, 22, 0, 16, 0, 0, 0, 0, 0, 0, 0, 0, 0, 0, 0, (l : Int), 0, 0, 0, (m : Int), 0, 0, 0, 0]
def vU (l m : Nat) : Array Value := #[.int .u8 0, .int .u8 22, .int .u8 0, .int .u8 16, .int .u8 0, .int .u8 0, .int .u8 0, .int .u8 0, .int .u8 0, .int .u8 0, .int .u8 0, .int .u8 0, .int .u8 0, .int .u8 0, .int .u8 0, .int .u8 (l : Int), .int .u8 0, .int .u8 0, .int .u8 0, .int .u8 (m : Int), .int .u8 0, .int .u8 0, .int .u8 0, .int .u8 0]
theorem zU_bytes (l m : Nat) (hl : l ≤ 255) (hm : m ≤ 255) : Bytes (zU l m) := fun j => by
  by_cases hj : j < 24
  · have : j = 0 ∨ j = 1 ∨ j = 2 ∨ j = 3 ∨ j = 4 ∨ j = 5 ∨ j = 6 ∨ j = 7 ∨ j = 8 ∨ j = 9 ∨ j = 10 ∨ j = 11 ∨ j = 12 ∨ j = 13 ∨ j = 14 ∨ j = 15 ∨ j = 16 ∨ j = 17 ∨ j = 18 ∨ j = 19 ∨ j = 20 ∨ j = 21 ∨ j = 22 ∨ j = 23 := by omega
    rcases this with rfl | rfl | rfl | rfl | rfl | rfl | rfl | rfl | rfl | rfl | rfl | rfl | rfl | rfl | rfl | rfl | rfl | rfl | rfl | rfl | rfl | rfl | rfl | rfl <;> simp [zU] <;> omega
  · rw [List.getD_eq_getElem?_getD, List.getElem?_eq_none (by simp [zU]; omega)]
    simp
theorem zU_frm (l m : Nat) : frmB (zU l m) 24 = true := by
  unfold frmB
  refine decide_eq_true ?_
  simp [B.num, zU]
theorem zU_l (l m : Nat) : B.num (zU l m) 8 8 = l := by simp [B.num, zU]
theorem zU_m (l m : Nat) : B.num (zU l m) 16 4 = m := by simp [B.num, zU]
theorem vU_at {w : World} {b l m : Nat} (h : Bx w b (vU l m)) (j : Nat) (hj : j < 24) : w.cell? ⟨b, 0 + j, none⟩ = some (.int .u8 ((zU l m).getD j 0)) := by
  refine h.range j _ ?_
  have e : (vU l m).toList = cels (zU l m) := rfl
  rw [e]
  unfold cels
  rw [List.getElem?_map, List.getD_eq_getElem?_getD, List.getElem?_eq_getElem (by simp [zU]; omega)]
  rfl

theorem doUnmap (w : World) (WB : Nat) (tag : Tags) (st : St) (f : ByteArray) (S D N : Nat) (k : Int) (ca : Bool) (l m b cp : Nat) (c : Cm) (h : Dv w WB tag st f S D N k ca) (hf1 : 1 ≤ f.size) (hf2 : f.size ≤ 32) (hN : N ≤ 4096) (hc : st.cnt < 500000000000) (hcw : st.waits.length < 1000000) (hf : ∀ i, st.fails i = false) (hw : Wrs st.waits) (h0 : 0 ≤ k) (h1 : k ≤ 3) (hkd : c.kd = 13) (hpr : c.pr = 0) (hl : l ≤ 255) (hm : m ≤ 255) (hin : l + m ≤ N) (hX : Bx w b (vU l m)) :
    Calls Try.prog 6 #[.pointer (some ⟨D, 0, none⟩), .agg c.vals, .slice (some ⟨b, 0, none⟩) 24 cp] w fun e w' => e = .returned (.agg (resV 0 noS (.slice none 0 0))) ∧ Aft w w' WB tag (emF st f l m ca) :=
  do_0 w WB tag st f S D N k ca c _ _ h (fun W hb => answer_act W WB tag st f S D N k ca c _ noS _ (h.below hb) (by omega) (by omega)
    (fun W2 hb2 => refuse_free13 W2 WB tag st f S D N k ca c ((h.below hb).below hb2) hN h0 (by omega) (by rw [hpr]; unfold knownB; exact decide_eq_true (by omega)) hkd)
    (fun W2 hb2 => act_13 W2 WB tag st f S D N k ca c _ noS _ ((h.below hb).below hb2) hkd (fun W3 hb3 => by
      have hX3 : Bx W3 b (vU l m) := ((hX.below hb hX.lt).below hb2 (hX.below hb hX.lt).lt).below hb3 ((hX.below hb hX.lt).below hb2 (hX.below hb hX.lt).lt).lt
      have hD3 := (((h.below hb).below hb2).below hb3)
      refine unmap_one W3 WB tag st f S D N k ca l m _ 24 cp hD3 hf1 hf2 hN hc hcw hf hw hin (by decide) (fun W4 hb4 => ?_) (fun W4 hb4 => ?_)
      · have := framed_any b 0 24 cp (zU l m) W4 (by decide) (by decide) (zU_bytes l m hl hm) (fun j hj => vU_at (hX3.below hb4 hX3.lt) j hj)
        rw [zU_frm] at this
        exact this
      · have hX4 := hX3.below hb4 hX3.lt
        exact parts_one W4 WB tag st f S D N k ca (hD3.below hb4) hN b 0 cp l m (zU l m) (zU_bytes l m hl hm) hX4.lt (fun j hj => vU_at hX4 j hj) (zU_l l m) (zU_m l m) hin (by omega))))
theorem doSameU (w : World) (B : Nat) (tag : Tags) (st : St) (f : ByteArray) (S D N : Nat) (k : Int) (ca : Bool) (l m cp : Nat) (a : Option Addr) (c : Cm) (h : Dv w B tag st f S D N k ca) (hf1 : 1 ≤ f.size) (hf2 : f.size ≤ 32) (hN : N ≤ 4096) (hc : st.cnt < 500000000000) (hcw : st.waits.length < 1000000) (hf : ∀ i, st.fails i = false) (hw : Wrs st.waits) (h0 : 0 ≤ k) (h1 : k ≤ 3) (hkd : c.kd = 12) (hl : c.lba = (l : Nat)) (hbl : c.bl = (m : Nat)) (hm1 : 1 ≤ m) (hin : l + m ≤ N) (hr : RdAt w (.slice a 16 cp) z16) (hpr : c.pr = 0) (hum : c.um = true) :
    Calls Try.prog 6 #[.pointer (some ⟨D, 0, none⟩), .agg c.vals, .slice a 16 cp] w fun e w' => e = .returned (.agg (resV 0 noS (.slice none 0 0))) ∧ Aft w w' B tag (emF st f l m ca) :=
  do_0 w B tag st f S D N k ca c _ _ h (fun W hb => answer_act W B tag st f S D N k ca c _ noS _ (h.below hb) (by omega) (by omega)
    (fun W2 hb2 => refuse_in W2 B tag st f S D N k ca l m c ((h.below hb).below hb2) hN h0 (by omega) (by rw [hpr]; unfold knownB; exact decide_eq_true (by omega)) (by omega) (by omega) hl hbl hin)
    (fun W2 hb2 => act_12 W2 B tag st f S D N k ca c _ noS _ ((h.below hb).below hb2) hkd (fun W3 hb3 =>
      wsame_um W3 B tag st f S D N k ca l m cp a c (((h.below hb).below hb2).below hb3) hf1 hf2 hN hc hcw hf hw h0 (by omega) hl hbl hm1 hin (rd_below (rd_below (rd_below hr hb) hb2) hb3) hpr hum)))

theorem packL_dropU (c : Bool) : ∀ (bs : List Bk) (k : Nat) (b : Bk), (∀ x ∈ bs, x.ok) → bs[k]? = some b → (packL c bs).drop (k * sz c) = pkL c b ++ packL c (bs.drop (k + 1))
  | [], k, b, _, h => by simp at h
  | x :: bs, 0, b, ho, h => by
    simp only [List.getElem?_cons_zero, Option.some.injEq] at h
    subst h
    simp [packL]
  | x :: bs, k + 1, b, ho, h => by
    have hl := pkL_len c x (ho x (by simp))
    rw [show packL c (x :: bs) = pkL c x ++ packL c bs from by simp [packL], show (k + 1) * sz c = (pkL c x).length + k * sz c from by rw [hl, Nat.add_mul]; omega, List.drop_append, List.drop_of_length_le (by omega), List.nil_append, show (pkL c x).length + k * sz c - (pkL c x).length = k * sz c by omega]
    exact packL_dropU c bs k b (fun y hy => ho y (by simp [hy])) (by simpa using h)
theorem getD_dropU (zs : List Int) (n i : Nat) : zs.getD (n + i) 0 = (zs.drop n).getD i 0 := by
  simp [List.getD_eq_getElem?_getD, List.getElem?_drop]
theorem pack_getDU (bs : List Bk) (ho : ∀ x ∈ bs, x.ok) (k y : Nat) (b : Bk) (hb : bs[k]? = some b) (hy : y < 16) : (packL false bs).getD (k * 16 + y) 0 = b.d.getD y 0 := by
  have h := packL_dropU false bs k b ho hb
  have hl := (ho b (List.mem_of_getElem? hb)).len
  rw [getD_dropU, show k * 16 = k * sz false from rfl, h]
  simp only [List.getD_eq_getElem?_getD]
  rw [List.getElem?_append_left (by simp [pkL, hl]; exact hy)]
  simp [pkL]
def s1U (Z : List Int) : St := wrF st0 nmF 0 (prL 1 0 (unBs false Z 16)) true false
def s2U (Z : List Int) (l m : Nat) : St := emF (s1U Z) nmF l m true
theorem s1U_fine (Z : List Int) (hb : Bytes Z) (hZ : Z.length = 256) : Fine 65 (s1U Z) nmF := by
  have := (fine0 nmF).write 0 (prL 1 0 (unBs false Z 16)) (prL_ok 1 0 _ (unBs_ok false Z 16 hb (by rw [hZ]; rfl))) true false
  rw [prL_len, unBs_len] at this
  exact this
theorem s2U_fine (Z : List Int) (l m : Nat) (hb : Bytes Z) (hZ : Z.length = 256) (hm : m ≤ 16) : Fine 200 (s2U Z l m) nmF := by
  have h := s1U_fine Z hb hZ
  obtain ⟨h1, h2, h3, h4⟩ := un_ops (s1U Z) nmF l m
  have hv := (un_view (s1U Z) nmF l h.good m).1
  have hwr := un_wrs (s1U Z) nmF l h.wrs m
  have hc := h.cnt
  have hl := h.wl
  unfold s2U emF
  split
  · exact ⟨by omega, by omega, by rw [h3]; exact h.fails, hwr, hv⟩
  · exact ⟨by simp only [syncSt]; omega, by simp [syncSt], by simp only [syncSt]; rw [h3]; exact h.fails, fun c hc => by simp [syncSt] at hc, hv⟩
theorem s2U_view (Z : List Int) (l m : Nat) (hb : Bytes Z) (hZ : Z.length = 256) (i : Nat) : blkAt ((s2U Z l m).seen nmF) i = if l ≤ i ∧ i < l + m then emptyB else if i < 16 then prB 1 i ((unBs false Z 16).getD i emptyB) else emptyB := by
  have h := s1U_fine Z hb hZ
  have hok := unBs_ok false Z 16 hb (by rw [hZ]; rfl)
  unfold s2U emF
  rw [sync_seen, (un_view (s1U Z) nmF l h.good m).2 i]
  split
  · rfl
  · unfold s1U
    rw [wrF_view good_none 0 _ (prL_ok 1 0 _ hok), prL_len, unBs_len]
    by_cases h16 : i < 16
    · rw [if_pos (by omega), if_pos h16]
      have e := prL_at 1 0 (unBs false Z 16) i
      rw [unBs_at _ _ _ _ h16, Nat.zero_add] at e
      rw [List.getD_eq_getElem?_getD, Nat.sub_zero, e, List.getD_eq_getElem?_getD, unBs_at _ _ _ _ h16]
      rfl
    · rw [if_neg (by omega), if_neg h16]
      have : st0.seen nmF = none := rfl
      rw [this]
      rfl
theorem s2U_look (Z : List Int) (l m : Nat) (hb : Bytes Z) (hZ : Z.length = 256) : lookS 1 0 0 (rdL ((s2U Z l m).seen nmF) 0 16) = noS := by
  refine look_all 1 0 0 _ (fun i b hi hb' => ?_)
  rw [rdL_len] at hi
  rw [rdL_at _ _ _ i hi, Option.some.injEq] at hb'
  rw [← hb', Nat.zero_add, s2U_view Z l m hb hZ]
  by_cases hc : l ≤ i ∧ i < l + m
  · rw [if_pos hc]
    exact check_empty 1 0 _
  · rw [if_neg hc, if_pos hi]
    exact check_pr 1 0 _ _
theorem s2U_data (Z : List Int) (l m : Nat) (hb : Bytes Z) (hZ : Z.length = 256) (hm : m ≤ 16) (x : Nat) (hx : x < 256) : (packL false (rdL ((s2U Z l m).seen nmF) 0 16)).getD x 0 = if 16 * l ≤ x ∧ x < 16 * (l + m) then 0 else Z.getD x 0 := by
  have hf := s2U_fine Z l m hb hZ hm
  have hq : (rdL ((s2U Z l m).seen nmF) 0 16)[x / 16]? = some (blkAt ((s2U Z l m).seen nmF) (0 + x / 16)) := rdL_at _ _ _ _ (by omega)
  have hp := pack_getDU _ (rdL_ok hf.good 0 16) (x / 16) (x % 16) _ hq (by omega)
  rw [show x / 16 * 16 + x % 16 = x by omega] at hp
  rw [hp, Nat.zero_add, s2U_view Z l m hb hZ]
  by_cases hc : l ≤ x / 16 ∧ x / 16 < l + m
  · rw [if_pos hc, if_pos (by omega)]
    show (List.replicate 16 (0 : Int)).getD (x % 16) 0 = 0
    rw [List.getD_eq_getElem?_getD, List.getElem?_replicate, if_pos (by omega)]
    rfl
  · rw [if_neg hc, if_pos (show x / 16 < 16 by omega), if_neg (by omega)]
    have e : (unBs false Z 16).getD (x / 16) emptyB = unB false Z (x / 16) := by rw [List.getD_eq_getElem?_getD, unBs_at _ _ _ _ (show x / 16 < 16 by omega)]; rfl
    rw [e]
    show ((Z.drop (x / 16 * 16)).take 16).getD (x % 16) 0 = _
    rw [cut_getD _ _ _ (by omega), show x / 16 * 16 + x % 16 = x by omega]
end Go.Proofs.Ytklboieemljmiab
