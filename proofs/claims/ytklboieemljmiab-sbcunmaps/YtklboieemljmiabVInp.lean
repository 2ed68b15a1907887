/-
  Bytes that came in; what blocks of bytes are; Verify and CompareWrite, whole.
-/
import Derived.Test.YtklboieemljmiabVCmp
namespace Go.Proofs.Ytklboieemljmiab
open Go.RowKit
set_option linter.unusedVariables false
set_option linter.unusedSimpArgs false
theorem wf_u8 {n : Int} (h : (Lit.int .u8 n).wf = true) : 0 ≤ n ∧ n ≤ 255 := by
  simp [Lit.wf, IntKind.min, IntKind.max, IntKind.bits, IntKind.signed] at h; omega
theorem wf_u64 {n : Int} (h : (Lit.int .u64 n).wf = true) : 0 ≤ n ∧ n < 18446744073709551616 := by
  simp [Lit.wf, IntKind.min, IntKind.max, IntKind.bits, IntKind.signed] at h; omega
theorem wf_i64 {n : Int} (h : (Lit.int .i64 n).wf = true) : -9223372036854775808 ≤ n ∧ n < 9223372036854775808 := by
  simp [Lit.wf, IntKind.min, IntKind.max, IntKind.bits, IntKind.signed] at h; omega

theorem wf_u16 {n : Int} (h : (Lit.int .u16 n).wf = true) : 0 ≤ n ∧ n ≤ 65535 := by
  simp [Lit.wf, IntKind.min, IntKind.max, IntKind.bits, IntKind.signed] at h; omega
theorem xor_ne (x y : Int) (hx : 0 ≤ x ∧ x ≤ 255) (hy : 0 ≤ y ∧ y ≤ 255) (h0 : y ≠ 0) : bits .xor .u8 x y ≠ x ∧ 0 ≤ bits .xor .u8 x y ∧ bits .xor .u8 x y ≤ 255 := by
  obtain ⟨a, rfl⟩ : ∃ a : Nat, x = a := ⟨x.toNat, by omega⟩
  obtain ⟨b, rfl⟩ : ∃ b : Nat, y = b := ⟨y.toNat, by omega⟩
  rw [u8_xor_nat a b (by omega) (by omega)]
  have hlt : a ^^^ b < 2 ^ 8 := Nat.xor_lt_two_pow (by omega) (by omega)
  refine ⟨fun h => ?_, by omega, by omega⟩
  have h1 : a ^^^ b = a := by omega
  have h2 : a ^^^ (a ^^^ b) = a ^^^ a := by rw [h1]
  rw [← Nat.xor_assoc, Nat.xor_self, Nat.zero_xor] at h2
  omega

/-- Bytes that came in. -/
structure Inp (w : World) (a : Option Addr) (len cap : Nat) (zs : List Int) : Prop where
  rd : ∀ m, m ≤ len → RdAt w (.slice a m cap) (zs.take m)
  byt : Bytes zs
  hl : len ≤ cap
  hc : cap ≤ maxLen
  hz : len ≤ zs.length
  shape : 0 < len → ∃ g o, a = some ⟨g, o, none⟩ ∧ g < w.heap.size
theorem inp_of {w : World} {a : Option Addr} {len cap : Nat} {zs : List Int}
    (h : (a = none ∧ len = 0 ∧ cap = 0 ∧ zs = []) ∨ ∃ x, a = some x ∧ len ≤ cap ∧ cap ≤ maxLen ∧ zs.length = cap ∧ (∀ i, i < zs.length → w.cell? (x.add i) = some (.int .u8 (zs.getD i 0))) ∧ ∀ n ∈ zs, (Lit.int .u8 n).wf = true) : Inp w a len cap zs := by
  rcases h with ⟨rfl, rfl, rfl, rfl⟩ | ⟨x, rfl, h1, h2, h3, h4, h5⟩
  · refine ⟨fun m hm => ?_, fun j => by simp, Nat.le_refl _, Nat.zero_le _, Nat.le_refl _, fun h => by omega⟩
    have : m = 0 := by omega
    subst this
    exact ⟨none, 0, rfl, fun _ => ⟨rfl, rfl⟩, Nat.le_refl _, .inl rfl⟩
  · have hby : Bytes zs := fun j => by
      rw [List.getD_eq_getElem?_getD]
      cases hj : zs[j]? with
      | none => simp
      | some y => exact wf_u8 (h5 y (List.mem_of_getElem? hj))
    have hsh : 0 < cap → ∃ g o, x = ⟨g, o, none⟩ ∧ g < w.heap.size := fun h0 => by
      obtain ⟨b, off, spot⟩ := x
      have e := h4 0 (by omega)
      have hsp : spot = none := by simpa [Addr.add] using World.cell?_spot e
      subst hsp
      exact ⟨b, off, rfl, by have := World.block_lt_of_cell? w _ e; simpa [Addr.add] using this⟩
    refine ⟨fun m hm => ?_, hby, h1, h2, by omega, fun h0 => ?_⟩
    · have hl : (zs.take m).length = m := by rw [List.length_take]; omega
      refine ⟨some x, cap, by rw [hl], (fun e => by cases e), by omega, ?_⟩
      rw [hl]
      by_cases h0 : m = 0
      · exact .inl h0
      · obtain ⟨g, o, rfl, hg⟩ := hsh (by omega)
        refine .inr ⟨g, o, rfl, fun j u hu => ?_⟩
        unfold cels at hu
        rw [List.getElem?_map, List.getElem?_take] at hu
        have hjm : j < m := by
          by_cases hjm : j < m
          · exact hjm
          · rw [if_neg hjm] at hu; simp at hu
        rw [if_pos hjm, List.getElem?_eq_getElem (by omega)] at hu
        simp only [Option.map_some, Option.some.injEq] at hu
        have e := h4 j (by omega)
        rw [Go.WideShapes.add_plain, List.getD_eq_getElem?_getD, List.getElem?_eq_getElem (by omega)] at e
        rw [e, ← hu]
        rfl
    · obtain ⟨g, o, rfl, hg⟩ := hsh (by omega)
      exact ⟨g, o, rfl, hg⟩
theorem take_bytes {zs : List Int} (h : Bytes zs) (m : Nat) : Bytes (zs.take m) := Bytes.take h m
theorem look_k0 (p : Int) : ∀ (l : Nat) (bs : List Bk), lookS 0 p l bs = noS := fun l bs => look_all 0 p l bs (fun i b _ _ => by unfold checkC; rw [if_pos (.inl (by decide))])
/-- What was written is read. -/
theorem rd_wr {st : St} {f : ByteArray} (hG : Good (st.seen f)) (l : Nat) (bs : List Bk) (hok : ∀ b ∈ bs, b.ok) (ca fua : Bool) : rdL ((wrF st f l bs ca fua).seen f) l bs.length = bs := by
  refine List.ext_getElem? (fun j => ?_)
  by_cases hj : j < bs.length
  · rw [rdL_at _ _ _ _ hj, wrF_view hG l bs hok, if_pos (by omega), show l + j - l = j by omega, List.getD_eq_getElem?_getD, List.getElem?_eq_getElem hj]
    rfl
  · rw [List.getElem?_eq_none (by rw [rdL_len]; omega), List.getElem?_eq_none (by omega)]
theorem unB_d (Z : List Int) (j : Nat) : (unB false Z j).d = (Z.drop (j * 16)).take 16 := rfl
theorem cut_getD (Z : List Int) (a j : Nat) (hj : j < 16) : ((Z.drop (a * 16)).take 16).getD j 0 = Z.getD (a * 16 + j) 0 := by
  simp only [List.getD_eq_getElem?_getD]
  rw [List.getElem?_take, if_pos hj, List.getElem?_drop]
/-- A byte turned is where two rows of blocks differ first. -/
theorem dif_set (Z : List Int) (n i : Nat) (v : Int) (k : Int) (l : Nat) (hZ : Z.length = n * 16) (hi : i < n * 16) (hv : v ≠ Z.getD i 0) : Dif (prL k l (unBs false Z n)) (unBs false (Z.set i v) n) i := by
  have ha : i / 16 < n := by omega
  have hm : i / 16 * 16 + i % 16 = i := by omega
  have hset : ∀ q, (Z.set i v).getD q 0 = if q = i then v else Z.getD q 0 := fun q => by
    simp only [List.getD_eq_getElem?_getD, List.getElem?_set]
    by_cases e : i = q
    · subst e; rw [if_pos rfl, if_pos (by omega), if_pos rfl]; rfl
    · rw [if_neg e, if_neg (fun h => e h.symm)]
  refine ⟨i / 16, i % 16, prB k (l + i / 16) (unB false Z (i / 16)), unB false (Z.set i v) (i / 16), by omega, ?_, unBs_at _ _ _ _ ha, by omega, ?_, ?_, ?_⟩
  · rw [prL_at, unBs_at _ _ _ _ ha]; rfl
  · show ((Z.drop (i / 16 * 16)).take 16).getD (i % 16) 0 ≠ (((Z.set i v).drop (i / 16 * 16)).take 16).getD (i % 16) 0
    rw [cut_getD _ _ _ (by omega), cut_getD _ _ _ (by omega), hm, hset, if_pos rfl]
    exact fun h => hv h.symm
  · intro q hq
    show ((Z.drop (i / 16 * 16)).take 16).getD q 0 = (((Z.set i v).drop (i / 16 * 16)).take 16).getD q 0
    rw [cut_getD _ _ _ (by omega), cut_getD _ _ _ (by omega), hset, if_neg (by omega)]
  · intro q x y hq hx hy
    rw [prL_at, unBs_at _ _ _ _ (by omega)] at hx
    rw [unBs_at _ _ _ _ (by omega)] at hy
    simp only [Option.map_some, Option.some.injEq] at hx hy
    subst hx hy
    show (Z.drop (q * 16)).take 16 = ((Z.set i v).drop (q * 16)).take 16
    refine List.ext_getElem? (fun j => ?_)
    rw [List.getElem?_take, List.getElem?_take]
    split
    · rw [List.getElem?_drop, List.getElem?_drop, List.getElem?_set_ne (by omega)]
    · rfl
theorem pr_same (k : Int) (l : Nat) (Z : List Int) (n : Nat) : ∀ j x y, j < n → (prL k l (unBs false Z n))[j]? = some x → (unBs false Z n)[j]? = some y → x.d = y.d := fun j x y hj hx hy => by
  rw [prL_at, unBs_at _ _ _ _ hj] at hx
  rw [unBs_at _ _ _ _ hj] at hy
  simp only [Option.map_some, Option.some.injEq] at hx hy
  subst hx hy
  rfl

theorem doVerify_plain (w : World) (B : Nat) (tag : Tags) (st : St) (f : ByteArray) (S D N : Nat) (k : Int) (ca : Bool) (l n : Nat) (c : Cm) (p : Value) (h : Dv w B tag st f S D N k ca) (hf1 : 1 ≤ f.size) (hf2 : f.size ≤ 32) (hN : N ≤ 4096) (hc : st.cnt < 500000000000) (hf : ∀ i, st.fails i = false) (hG : Good (st.seen f)) (h0 : 0 ≤ k) (h1 : k ≤ 3) (hpr : c.pr = 0) (hkd : c.kd = 10) (hl : c.lba = (l : Nat)) (hbl : c.bl = (n : Nat)) (hin : l + n ≤ N) (hlk : lookS k c.pr l (rdL (st.seen f) l n) = noS) (hbs : c.bs = false) :
    Calls Try.prog 6 #[.pointer (some ⟨D, 0, none⟩), .agg c.vals, p] w fun e w' => e = .returned (.agg (resV 0 noS (.slice none 0 0))) ∧ Aft w w' B tag (rdSt st n) :=
  do_0 w B tag st f S D N k ca c _ _ h (fun W hb => answer_act W B tag st f S D N k ca c _ noS _ (h.below hb) (by omega) (by omega) (fun W2 hb2 => refuse_in W2 B tag st f S D N k ca l n c ((h.below hb).below hb2) hN h0 (by omega) (by rw [hpr]; unfold knownB; exact decide_eq_true (by omega)) (by omega) (by omega) hl hbl hin)
    (fun W2 hb2 => act_10 W2 B tag st f S D N k ca c _ noS _ ((h.below hb).below hb2) hkd (fun W3 hb3 =>
      verify_plain W3 B tag st f S D N k ca l n c _ (((h.below hb).below hb2).below hb3) hf1 hf2 hN hc hf hG h0 (by omega) (by omega) (by omega) hl hbl hin hlk hbs)))
theorem doVerify_same (w : World) (B : Nat) (tag : Tags) (st : St) (f : ByteArray) (S D N : Nat) (k : Int) (ca : Bool) (l n m cp : Nat) (a : Option Addr) (zs : List Int) (c : Cm) (h : Dv w B tag st f S D N k ca) (hf1 : 1 ≤ f.size) (hf2 : f.size ≤ 32) (hN : N ≤ 4096) (hc : st.cnt < 500000000000) (hf : ∀ i, st.fails i = false) (hG : Good (st.seen f)) (h0 : 0 ≤ k) (h1 : k ≤ 3) (hpr : c.pr = 0) (hkd : c.kd = 10) (hl : c.lba = (l : Nat)) (hbl : c.bl = (n : Nat)) (hin : l + n ≤ N) (hlk : lookS k c.pr l (rdL (st.seen f) l n) = noS) (hbs : c.bs = true) (hr : RdAt w (.slice a m cp) zs) (hlz : zs.length = m) (hby : Bytes zs) (hm : m = n * sz (c.pr != 0)) (hd : ∀ j x y, j < n → (rdL (st.seen f) l n)[j]? = some x → (unBs (c.pr != 0) zs n)[j]? = some y → x.d = y.d) :
    Calls Try.prog 6 #[.pointer (some ⟨D, 0, none⟩), .agg c.vals, .slice a m cp] w fun e w' => e = .returned (.agg (resV 0 noS (.slice none 0 0))) ∧ Aft w w' B tag (rdSt st n) :=
  do_0 w B tag st f S D N k ca c _ _ h (fun W hb => answer_act W B tag st f S D N k ca c _ noS _ (h.below hb) (by omega) (by omega) (fun W2 hb2 => refuse_in W2 B tag st f S D N k ca l n c ((h.below hb).below hb2) hN h0 (by omega) (by rw [hpr]; unfold knownB; exact decide_eq_true (by omega)) (by omega) (by omega) hl hbl hin)
    (fun W2 hb2 => act_10 W2 B tag st f S D N k ca c _ noS _ ((h.below hb).below hb2) hkd (fun W3 hb3 =>
      verify_same W3 B tag st f S D N k ca l n m cp a zs c (((h.below hb).below hb2).below hb3) hf1 hf2 hN hc hf hG h0 (by omega) (by omega) (by omega) hl hbl hin hlk hbs (rd_below (rd_below (rd_below hr hb) hb2) hb3) hlz hby hm hd)))
theorem doVerify_dif (w : World) (B : Nat) (tag : Tags) (st : St) (f : ByteArray) (S D N : Nat) (k : Int) (ca : Bool) (l n m cp : Nat) (a : Option Addr) (zs : List Int) (c : Cm) (h : Dv w B tag st f S D N k ca) (hf1 : 1 ≤ f.size) (hf2 : f.size ≤ 32) (hN : N ≤ 4096) (hc : st.cnt < 500000000000) (hf : ∀ i, st.fails i = false) (hG : Good (st.seen f)) (h0 : 0 ≤ k) (h1 : k ≤ 3) (hpr : c.pr = 0) (hkd : c.kd = 10) (hl : c.lba = (l : Nat)) (hbl : c.bl = (n : Nat)) (hin : l + n ≤ N) (hlk : lookS k c.pr l (rdL (st.seen f) l n) = noS) (hbs : c.bs = true) (hr : RdAt w (.slice a m cp) zs) (hlz : zs.length = m) (hby : Bytes zs) (hm : m = n * sz (c.pr != 0)) (pl : Nat) (hpl : pl < 1000000) (hd : Dif (rdL (st.seen f) l n) (unBs (c.pr != 0) zs n) pl) :
    Calls Try.prog 6 #[.pointer (some ⟨D, 0, none⟩), .agg c.vals, .slice a m cp] w fun e w' => e = .returned (.agg (resV 2 (nuS 14 7424 pl) (.slice none 0 0))) ∧ Aft w w' B tag (rdSt st n) :=
  do_s w B tag st f S D N k ca c _ (nuS 14 7424 pl) (show (14 : Int) ≠ 0 by decide) _ h (fun W hb => answer_act W B tag st f S D N k ca c _ (nuS 14 7424 pl) _ (h.below hb) (by omega) (by omega) (fun W2 hb2 => refuse_in W2 B tag st f S D N k ca l n c ((h.below hb).below hb2) hN h0 (by omega) (by rw [hpr]; unfold knownB; exact decide_eq_true (by omega)) (by omega) (by omega) hl hbl hin)
    (fun W2 hb2 => act_10 W2 B tag st f S D N k ca c _ (nuS 14 7424 pl) _ ((h.below hb).below hb2) hkd (fun W3 hb3 =>
      verify_dif W3 B tag st f S D N k ca l n m cp a zs c (((h.below hb).below hb2).below hb3) hf1 hf2 hN hc hf hG h0 (by omega) (by omega) (by omega) hl hbl hin hlk hbs (rd_below (rd_below (rd_below hr hb) hb2) hb3) hlz hby hm pl hpl hd)))
end Go.Proofs.Ytklboieemljmiab
