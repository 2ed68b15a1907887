/-
  The contract of writeSame, of noughts that are unmapped.
-/
import Derived.Test.YtklboieemljmiaaVUm1
import Derived.DeepKeys
import Derived.Laws.StructEq
namespace Go.Proofs.Ytklboieemljmiaa
open Go.RowKit
set_option linter.unusedVariables false
set_option linter.unusedSimpArgs false
def zA16 : Array Value := #[.int .u8 0, .int .u8 0, .int .u8 0, .int .u8 0, .int .u8 0, .int .u8 0, .int .u8 0, .int .u8 0, .int .u8 0, .int .u8 0, .int .u8 0, .int .u8 0, .int .u8 0, .int .u8 0, .int .u8 0, .int .u8 0]
def z16 : List Int := List.replicate 16 0
theorem z16_bytes : Bytes z16 := fun j => by
  unfold z16
  rw [List.getD_eq_getElem?_getD, List.getElem?_replicate]
  split <;> simp
theorem z16_cs : (cels z16).toArray = zA16 := rfl
theorem wpList_load_rgg {w : World} {ops : Array Oper} {rest : List Oper} {o : Oper} {a : Act} {Q : Exit → Act → World → Prop} (hwt : Region.wanted o (yielded ops a.tmps) = true) (ty : TypeId) (x : Operand) (ho : o.op = .load ty x) (b off : Nat) (V : Array Value) (hx : a.eval x = .pointer (some ⟨b, off, none⟩)) (hr : w.rangeAt b off V.toList) (d : TypeDesc)
    (hu : Try.prog.underlying ty = some d) (hd : d.isRow = true) (hi : (Try.prog.info? ty).map (·.size) = some V.size) (h : wpList Try.prog ops Q rest (a.put o.dst (.agg V)) w) : wpList Try.prog ops Q (o :: rest) a w :=
  BigFrame.wpList_want hwt fun K hK => by
    unfold Oper.wp
    rw [exec_load_rg ty x ho b off V.toList hx hr d hu hd (by rw [Array.length_toList]; exact hi)]
    exact hK _ _ h
theorem items_sameU (w : World) (d : Nat) (xs : Array Value) : ∀ is : List Nat, (∀ i ∈ is, ∃ z, xs[i]? = some (.int .u8 z)) → (Op.eqItems (d + 1) 5 1 xs xs is).run Try.prog w = .ok true w
  | [], _ => by simp [Op.eqItems]
  | i :: is, h => by
    obtain ⟨z, hz⟩ := h i (by simp)
    have hp := run_part_plain (P := Try.prog) w (e := 5) (off := i * 1) (xs := xs) (v := .int .u8 z) (by kernel_rfl) (by rw [Nat.mul_one]; exact hz)
    have he := run_equalIn_int (P := Try.prog) w d 5 .u8 .u8 z z Try.underlying5
    have ih := items_sameU w d xs is (fun j hj => h j (by simp [hj]))
    simp only [Op.eqItems, Sem.run_bind, hp, he, Result.andThen_ok, beq_self_eq_true, Bool.not_true, Bool.false_eq_true, if_false, ih]
theorem arr_equalU (w : World) : (Op.equalIn 10000 71 (.agg zA16) (.agg zA16)).run Try.prog w = .ok true w := by
  obtain ⟨i, hi⟩ := info_of_underlying Try.underlying5
  rw [run_equalIn_array w 9999 _ _ Try.underlying71 hi, show Try.prog.cellsOf 5 = 1 from by kernel_rfl]
  refine items_sameU w 9998 _ _ (fun j hj => ⟨0, ?_⟩)
  have hj' : j < 16 := by simpa using hj
  rw [← z16_cs, List.getElem?_toArray]
  unfold cels z16
  rw [List.getElem?_map, List.getElem?_replicate, if_pos hj']
  rfl
theorem wpList_eql_arrU {w : World} {ops : Array Oper} {rest : List Oper} {o : Oper} {a : Act} {Q : Exit → Act → World → Prop} (hwt : Region.wanted o (yielded ops a.tmps) = true) (x y : Operand) (ho : o.op = .binOp .eql 71 x y 71) (hx : a.eval x = .agg zA16) (hy : a.eval y = .agg zA16)
    (h : wpList Try.prog ops Q rest (a.put o.dst (.bool true)) w) : wpList Try.prog ops Q (o :: rest) a w :=
  BigFrame.wpList_want hwt fun K hK => by
    have e : (execOp a.eval o).run Try.prog w = .ok (.value (.bool true)) w := by
      unfold execOp
      simp only [ho, hx, hy]
      have hg := run_eqGuard_agg (P := Try.prog) w .eql 71 x y zA16 zA16 (by kernel_rfl)
      have he := arr_equalU w
      simp [hg, run_eql_struct, he]
    unfold Oper.wp
    rw [e]
    exact hK _ _ h
set_option maxRecDepth 100000 in
set_option maxHeartbeats 2000000 in
theorem wsame_um (w : World) (B : Nat) (tag : Tags) (st : St) (f : ByteArray) (S D N : Nat) (k : Int) (ca : Bool) (l m cp : Nat) (a : Option Addr) (c : Cm) (h : Dv w B tag st f S D N k ca) (hf1 : 1 ≤ f.size) (hf2 : f.size ≤ 32) (hN : N ≤ 4096) (hc : st.cnt < 500000000000) (hcw : st.waits.length < 1000000) (hf : ∀ i, st.fails i = false) (hw : Wrs st.waits) (h0 : 0 ≤ k) (h1 : k ≤ 255) (hl : c.lba = (l : Nat)) (hbl : c.bl = (m : Nat)) (hm1 : 1 ≤ m) (hin : l + m ≤ N) (hr : RdAt w (.slice a 16 cp) z16) (hpr : c.pr = 0) (hum : c.um = true) :
    Calls Try.prog 46 #[.pointer (some ⟨D, 0, none⟩), .agg c.vals, .slice a 16 cp] w fun e w' => e = .returned (.agg (noS).vals) ∧ Aft w w' B tag (emF st f l m ca) := by
  have hcm2 : ∀ (W : World) (b : Nat), Bx W b c.vals → W.cell? ⟨b, 2, none⟩ = some (.int .u64 c.lba) := fun W b h => (cm_at h).2.2.1
  have hcm3 : ∀ (W : World) (b : Nat), Bx W b c.vals → W.cell? ⟨b, 3, none⟩ = some (.int .u64 c.bl) := fun W b h => (cm_at h).2.2.2.1
  have hcm7 : ∀ (W : World) (b : Nat), Bx W b c.vals → W.cell? ⟨b, 7, none⟩ = some (.bool c.um) := fun W b h => (cm_at h).2.2.2.2.2.2.2.1
  rw [hl] at hcm2
  rw [hbl] at hcm3
  rw [hum] at hcm7
  have HC := fun W (hb : Below w.heap.size w W) (hD : Bx W D (devV S k)) => come_0 D S l k c a 16 cp 1 z16 W hD h0 h1 hl (by omega) (rd_below hr hb) rfl z16_bytes hpr rfl
  have hu1 : unBs false z16 1 = [unB false z16 0] := rfl
  obtain ⟨b0, hb0⟩ : ∃ b, b = prB k l (unB false z16 0) := ⟨_, rfl⟩
  have hfl : flat (prL k l (unBs false z16 1)) = b0.cs := by rw [hu1, hb0]; simp [prL, flat]
  have hb0d : b0.d = z16 := by rw [hb0]; rfl
  have hdat : Kpt (∀ (W : World) g, W.rangeAt g 0 b0.cs → W.rangeAt g 0 zA16.toList) := ⟨fun W g hg j v hv => hg j v (by
    rw [Bk.cs, hb0d, List.getElem?_append_left (by have := (List.getElem?_eq_some_iff.1 hv).1; simpa [cels, z16, zA16] using this)]
    exact hv)⟩
  simp only [hfl] at HC
  have em : IntKind.i64.wrap (m : Int) = m := by rw [IntKind.wrap_i64]; omega
  have nm0 : ¬ (m : Int) = 0 := by omega
  have bm0 : ((m : Int) == 0) = false := beq_eq_false_iff_ne.mpr nm0
  have HE := fun W => ended_any noS W
  simp only [show (noS.key != 0) = false from rfl] at HE
  have HK := Kpt.mk (fun W (h : Dv W B tag st f S D N k ca) => dempty_ok W B tag st f S D N k ca l m h hf1 hf2 hN hc hcw hf hw hin)
  obtain ⟨st2, hst2⟩ : ∃ s, s = emF st f l m ca := ⟨_, rfl⟩
  rw [← hst2] at HK ⊢
  have hCs : c.vals.size = 15 := rfl
  obtain ⟨CV, hCV⟩ : ∃ CV, CV = c.vals := ⟨_, rfl⟩
  rw [← hCV] at hCs hcm2 hcm3 hcm7 HC ⊢
  replace hcm2 := Kpt.mk hcm2
  replace hcm3 := Kpt.mk hcm3
  replace hcm7 := Kpt.mk hcm7
  replace hCs := Kpt.mk hCs
  clear hCV
  have hSl := h.sto.lt
  have hDl := h.bx.lt
  have F := Kpt.mk h.fx
  have hb := Kpt.mk (Below.refl w.heap.size w)
  replace HC := Kpt.mk HC
  replace HE := Kpt.mk HE
  replace h := Kpt.mk h
  obtain ⟨LV, hLV⟩ : ∃ L, L = b0.cs := ⟨_, rfl⟩
  rw [← hLV] at HC hdat
  clear hr hl hbl hw hpr hst2 hb0 hfl hu1 hum hLV hf hb0d
  go_enter Try.func46, Try.ntmps46
  go_wp2_with (first
      | (have hm := m9; refine wpList_store_bx rfl 32 _ _ rfl br _ (noS).vals rfl rfl Or.out.bx rfl infoS (Sn.vals_one _) rfl ?_; intro w10 hX_ hg_; replace Oc := Kpt.mk (Oc.out.other hg_ (by omega)); replace Ov := Kpt.mk (Ov.out.other hg_ (by omega)); replace Rg := Kpt.mk (Rg.out.other hg_ (by omega)); replace F := Kpt.mk (F.out.own Or.out hg_ hSl hDl); replace Or := Kpt.mk (Or.out.set hX_); replace x2 := hcm2.out _ _ Oc.out.bx; replace x3 := hcm3.out _ _ Oc.out.bx; replace x7 := hcm7.out _ _ Oc.out.bx; clear hX_ hg_; clear hm m9; have m10 : Kpt True := ⟨trivial⟩)
      | (go_at_call 62; have hm := m8; clear hrd; refine (HK.out _ F.out.dv).mono ?_; rintro e w5 ⟨rfl, tag2, hW_, s_⟩; replace Oc := Kpt.mk (Oc.out.call s_); replace Or := Kpt.mk (Or.out.call s_); replace Ov := Kpt.mk (Ov.out.call s_); replace Rg := Kpt.mk (Rg.out.call s_); replace F := Kpt.mk (F.out.call hW_ s_); replace x2 := hcm2.out _ _ Oc.out.bx; replace x3 := hcm3.out _ _ Oc.out.bx; replace x7 := hcm7.out _ _ Oc.out.bx; clear hW_ s_; clear hm m8; have m9 : Kpt True := ⟨trivial⟩)
      | (have hm := m7; refine (?_ : wpList _ _ _ (Oper.mk (some 42) _ _ _ _ _ :: _) _ _); go_must (refine wpList_eql_arrU (wanted_at true rfl rfl rfl rfl) (.tmp 40) (.tmp 41) rfl rfl rfl ?_; clear hm m7; have m8 : Kpt True := ⟨trivial⟩))
      | (have hm := m6; refine (?_ : wpList _ _ _ (Oper.mk (some 40) _ _ _ _ _ :: _) _ _); go_must (refine wpList_load_rgg (wanted_at true rfl rfl rfl rfl) 71 (.tmp 39) rfl gg 0 zA16 rfl hrd _ Try.underlying71 rfl infoA ?_; clear hm m6; have m7 : Kpt True := ⟨trivial⟩))
      | (go_at_call 22; have hm := m5; refine (HE.out _).mono ?_; rintro e w4 ⟨rfl, h_⟩; replace Oc := Kpt.mk (Oc.out.below h_); replace Or := Kpt.mk (Or.out.below h_); replace Ov := Kpt.mk (Ov.out.below h_); replace Rg := Kpt.mk (Rg.out.below h_); replace F := Kpt.mk (F.out.below h_); replace x2 := hcm2.out _ _ Oc.out.bx; replace x3 := hcm3.out _ _ Oc.out.bx; replace x7 := hcm7.out _ _ Oc.out.bx; replace hb := Kpt.mk (hb.out.trans (h_.mono hb.out.size)); have hrd : w4.rangeAt gg 0 zA16.toList := hdat.out _ _ (range_of (A := []) (C := []) (M := LV) (t := 76) (by simpa using Rg.out.row) rfl); clear h_; clear hm m5; have m6 : Kpt True := ⟨trivial⟩)
      | (have hm := m4; refine wpList_store_bx rfl 32 _ _ rfl bv _ (noS).vals rfl rfl Ov.out.bx rfl infoS (Sn.vals_one _) rfl ?_; intro w5 hX_ hg_; replace hb := Kpt.mk (hb.out.trans (Below.ofGrown hg_ hb.out.size Ov.out.lo)); replace Oc := Kpt.mk (Oc.out.other hg_ (by omega)); replace Or := Kpt.mk (Or.out.other hg_ (by omega)); replace Rg := Kpt.mk (Rg.out.other hg_ (by omega)); replace F := Kpt.mk (F.out.own Ov.out hg_ hSl hDl); replace Ov := Kpt.mk (Ov.out.set hX_); replace x2 := hcm2.out _ _ Oc.out.bx; replace x3 := hcm3.out _ _ Oc.out.bx; replace x7 := hcm7.out _ _ Oc.out.bx; clear hX_ hg_; clear hm m4; have m5 : Kpt True := ⟨trivial⟩)
      | (have hm := m3; refine wpList_var rfl 32 rfl zeroS zeroSi ?_; intro bv w_v hl_ hX_ h_; have q_c_v : bc < bv := Nat.lt_of_lt_of_le Oc.out.bx.lt hl_; have q_r_v : br < bv := Nat.lt_of_lt_of_le Or.out.bx.lt hl_; have q_g_v : gg < bv := Nat.lt_of_lt_of_le Rg.out.lt hl_; have Ov := Kpt.mk (F.out.new hl_ hX_); replace Oc := Kpt.mk (Oc.out.below h_); replace Or := Kpt.mk (Or.out.below h_); replace Rg := Kpt.mk (Rg.out.below h_); replace F := Kpt.mk (F.out.below h_); replace x2 := hcm2.out _ _ Oc.out.bx; replace x3 := hcm3.out _ _ Oc.out.bx; replace x7 := hcm7.out _ _ Oc.out.bx; replace hb := Kpt.mk (hb.out.trans (h_.mono hb.out.size)); clear hl_ hX_ h_; clear hm m3; have m4 : Kpt True := ⟨trivial⟩)
      | (go_at_call 57; have hm := m2; refine (HC.out _ hb.out F.out.dv.bx).mono ?_; rintro e w3 ⟨gg, rfl, hr_, hgl_, h_⟩; have q_c_g : bc < gg := Nat.lt_of_lt_of_le Oc.out.bx.lt hgl_; have q_r_g : br < gg := Nat.lt_of_lt_of_le Or.out.bx.lt hgl_; have Rg := Kpt.mk (F.out.row hgl_ hr_); replace Oc := Kpt.mk (Oc.out.below h_); replace Or := Kpt.mk (Or.out.below h_); replace F := Kpt.mk (F.out.below h_); replace x2 := hcm2.out _ _ Oc.out.bx; replace x3 := hcm3.out _ _ Oc.out.bx; replace x7 := hcm7.out _ _ Oc.out.bx; replace hb := Kpt.mk (hb.out.trans (h_.mono hb.out.size)); clear h_; clear hgl_ hr_; clear hm m2; have m3 : Kpt True := ⟨trivial⟩)
      | (have hm := m1; refine wpList_var rfl 32 rfl zeroS zeroSi ?_; intro br w_r hl_ hX_ h_; have q_c_r : bc < br := Nat.lt_of_lt_of_le Oc.out.bx.lt hl_; have Or := Kpt.mk (F.out.new hl_ hX_); replace Oc := Kpt.mk (Oc.out.below h_); replace F := Kpt.mk (F.out.below h_); replace x2 := hcm2.out _ _ Oc.out.bx; replace x3 := hcm3.out _ _ Oc.out.bx; replace x7 := hcm7.out _ _ Oc.out.bx; replace hb := Kpt.mk (hb.out.trans (h_.mono hb.out.size)); clear hl_ hX_ h_; clear hm m1; have m2 : Kpt True := ⟨trivial⟩)
      | (refine wpList_box rfl 38 _ rfl CV rfl ?_; intro bc w_c hl_ hX_ h_ _; have Oc := Kpt.mk (F.out.new hl_ hX_); replace F := Kpt.mk (F.out.below h_); replace hb := Kpt.mk (hb.out.trans (h_.mono hb.out.size)); have x2 := hcm2.out _ _ Oc.out.bx; have x3 := hcm3.out _ _ Oc.out.bx; have x7 := hcm7.out _ _ Oc.out.bx; clear hl_ hX_ h_; have m1 : Kpt True := ⟨trivial⟩)
      | (refine wpList_load_bx rfl 38 _ rfl bc CV rfl Oc.out.bx _ Try.underlying38 rfl (by rw [hCs.out]; exact infoC) ?_)
      | (refine wpList_load_bx rfl 32 _ rfl bv (noS).vals rfl Ov.out.bx _ Try.underlying32 rfl infoS ?_)
      | (refine wpList_load_bx rfl 32 _ rfl br (noS).vals rfl Or.out.bx _ Try.underlying32 rfl infoS ?_)
      | fail)
  refine bodyPost_ret (v := .agg noS.vals) (by simp [results, Try.results46, asAddr, Act.put, res_run Or.out.bx]) rfl ⟨rfl, _, F.out.dv.wd, F.out.st⟩
end Go.Proofs.Ytklboieemljmiaa
