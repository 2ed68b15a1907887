/-
  sess: SessTargets' walk, a way.
-/
import Derived.Test.YtdplndlmdhpfaabETgW0
namespace Go.Proofs.Ytdplndlmdhpfaab
open Go.RowKit
set_option linter.unusedVariables false
set_option linter.unusedSimpArgs false

set_option maxRecDepth 100000 in
set_option maxHeartbeats 8000000 in
theorem tg_all_d (a : Option Addr) (n c : Nat) (os : List ByteArray) (w : World) (hst : StAt w (.slice a n c) os) (hca : a = none → c = 0) (hcm : c ≤ maxLen) (hsum : (os.map ByteArray.size).sum + n + (⟨#[65, 108, 108]⟩ : ByteArray).size ≤ 1048576) :
    Calls Try.prog 3 #[.slice a n c, .bool true, .string (⟨#[65, 108, 108]⟩ : ByteArray)] w fun e w' => e = .returned (.bool true) ∧ Below w.heap.size w w' := by
  have hA : Kpt (∀ W : World, Calls Try.prog 6 #[] W fun e w' => e = .returned (.bool true) ∧ Below W.heap.size W w') := ⟨awake_any⟩
  have hP : Kpt (∀ W : World, Calls Try.prog 7 #[] W fun e w' => e = .returned (.agg plainS.prm) ∧ Below W.heap.size W w') := ⟨plain_any⟩
  have hN : Kpt (∀ W : World, Below w.heap.size w W → Calls Try.prog 8 #[.agg (plD true).prm, .slice a n c, .int .u32 1] W fun e w' => (∃ S a' c', e = .returned (.pointer (some ⟨S, 0, none⟩)) ∧ W.heap.size ≤ S ∧ Ss w' S ((plD true).newT 1 (.slice a' n c')) [] [] [] ∧ StAt w' (.slice a' n c') os ∧ c' ≤ maxLen ∧ ∀ x, a' = some x → x.block ≠ S ∧ x.block < w'.heap.size) ∧ Below W.heap.size W w') := ⟨fun W hb => new_str (plD true) 1 a n c os W (hst.bel hb) hca (by omega)⟩
  have hE : wrE [(stB, (⟨#[65, 108, 108]⟩ : ByteArray))] = 0 := by decide +kernel
  obtain ⟨N, hNL⟩ : ∃ N, (rowL (stB, (⟨#[65, 108, 108]⟩ : ByteArray))).length = N := ⟨_, rfl⟩
  have hW : Kpt (∀ W b, Bx W b #[.string stB, .string (⟨#[65, 108, 108]⟩ : ByteArray)] → Calls Try.prog 9 #[.slice (some ⟨b, 0, none⟩) 1 1] W fun e w' => ∃ va vc, e = .returned (.tuple #[.slice va N vc, .int .i64 0]) ∧ RdAt w' (.slice va N vc) (rowL (stB, (⟨#[65, 108, 108]⟩ : ByteArray))) ∧ (∀ g, (Value.slice va N vc).ownBlock = some g → W.heap.size ≤ g ∧ g < w'.heap.size) ∧ Below W.heap.size W w') := ⟨fun W b h => write_one (⟨#[65, 108, 108]⟩ : ByteArray) (by unfold maxLen; omega) b W h hE N hNL⟩
  have hsum2 : (os.map ByteArray.size).sum + n ≤ 1048576 := by omega
  have hI : Kpt (∀ (S : Nat) (ta : Option Addr) (tc : Nat) (va : Option Addr) (vc : Nat) (W : World), Ss W S ((plD true).newT 1 (.slice ta n tc)) [] [] [] → Dt (((plD true).newT 1 (.slice ta n tc)).X S) W (.slice va N vc) (rowL (stB, (⟨#[65, 108, 108]⟩ : ByteArray))) → StAt W (.slice ta n tc) os → (∀ x, ta = some x → x.block ≠ S) → tc ≤ maxLen →
      Calls Try.prog 10 #[.pointer (some ⟨S, 0, none⟩), .agg (tgP (.slice va N vc)).v] W fun e w' => ∃ gv tv, e = .returned (.tuple #[gv, tv]) ∧ TgA S true (tellL true os) ((plD true).newT 1 (.slice ta n tc)) W w' gv) := ⟨fun S ta tc va vc W h1 h2 h3 h4 h5 => in_all_d S ta n tc os va N vc W h1 h2 h3 h4 h5 hsum2⟩
  have hR : Kpt (∀ W : World, Calls Try.prog 11 #[.int .u32 2, .int .u32 2, .int .u32 16] W fun e w' => e = .returned (.agg (rdP 2 2 16).v) ∧ Below W.heap.size W w') := ⟨fun W => read_any 2 2 16 W⟩
  have hargs : Kpt (∀ W, Below w.heap.size w W → StAt W (.slice a n c) os) := ⟨fun W hb => hst.bel hb⟩
  have hsumK := Kpt.mk hsum2
  have hos := Kpt.mk (st_len hst)
  have hn1 : n ≤ 1048576 := by omega
  have hnc : n ≤ c := by obtain ⟨_, _, hv, h1, _⟩ := hst; simp only [Value.slice.injEq] at hv; omega
  have hcm2 : c ≤ 9223372036854775807 := by unfold maxLen at hcm; omega
  clear hst hca hsum hcm hE hsum2 hNL 
  go_enter Try.func3, Try.ntmps3
  go_upto_region 11 with (first
    | (go_at_call 10; go_must (refine (hI.out S ta tc va vc w7 kS7.out hD7.out kt7.out (fun x e => (hoff.out x e).1) htcm.out).mono ?_; rintro e w8 ⟨gv, tv, rfl, ⟨⟨s3, hS3, hst3, hnx, hov, hds⟩, ⟨g, gc, v, rfl, hgc, hgc2, hc13, hrd⟩⟩⟩; have hb8 : Kpt (Below w.heap.size w w8) := ⟨hb7.out.trans (hst3.fr.below hb7.out.size (fun b e => by rw [newT_X e]; exact hSw.out))⟩; have hX3 : Kpt (∀ b, s3.X S b → w.heap.size ≤ b) := ⟨fun b e => by rcases hst3.new b e with e | e; (rw [newT_X e]; exact hSw.out); (have := hb7.out.size; omega)⟩; replace hnx := Kpt.mk hnx; replace hov := Kpt.mk hov; replace hds := Kpt.mk hds; have kL : Kpt (TgL w w8 g v (tellL true os) a n c os S s3) := ⟨⟨hS3, hb8.out, hc13, hrd, hargs.out _ hb8.out⟩⟩; clear hS3 hst3 hc13 hrd))
    | (go_at_call 9; go_must (refine (hW.out _ _ hB6.out).mono ?_; rintro e w7 ⟨va, vc, rfl, hr7, ho7, hb7'⟩; have hb7 := Kpt.mk (hb6.out.trans (hb7'.mono hb6.out.size)); have kS7 := Kpt.mk (kS6.out.below hb7'); have kt7 := Kpt.mk (kt6.out.bel hb7'); have hD7 : Kpt (Dt (((plD true).newT 1 (.slice ta n tc)).X S) w7 (.slice va N vc) (rowL (stB, (⟨#[65, 108, 108]⟩ : ByteArray)))) := ⟨⟨hr7, fun _ q hq => ⟨(ho7 q hq).2, fun e => by have e2 := newT_X e; have h9 := (ho7 q hq).1; have h8 := kS6.out.bx.lt; omega⟩⟩⟩; clear hr7 ho7 hb7'))
    | (refine (?_ : wpList _ _ _ (Oper.mk _ (Op.buildSlice 35 _ _) _ _ _ _ :: _) _ _); go_must (refine wpList_build1 rfl 35 34 2 32 _ Try.underlying35 infoPr (by decide) (by decide) _ rfl #[.string stB, .string (⟨#[65, 108, 108]⟩ : ByteArray)] rfl rfl ?_; intro B w6 hB6l hB6 hb6' _; have hb6 := Kpt.mk (hb5.out.trans (hb6'.mono hb5.out.size)); have kS6 := Kpt.mk (hS.out.below hb6'); have kt6 := Kpt.mk (hts.out.bel hb6'); replace hB6 := Kpt.mk hB6; clear hb6' hB6l))
    | (go_at_call 8; go_must (refine (hN.out _ hb4.out).mono ?_; rintro e w5 ⟨⟨S, ta, tc, rfl, hSl, hS, hts, htcm, hoff⟩, hb5'⟩; have hb5 := Kpt.mk (hb4.out.trans (hb5'.mono hb4.out.size)); have hSw := Kpt.mk (Nat.le_trans hb4.out.size hSl); replace hS := Kpt.mk hS; replace hts := Kpt.mk hts; replace htcm := Kpt.mk htcm; replace hoff := Kpt.mk hoff; clear hb5' hSl))
    | (go_at_call 6; go_must (refine (hA.out _).mono ?_; rintro e w1 ⟨rfl, hb1⟩; replace hb1 := Kpt.mk hb1))
    | (go_at_call 7; go_must (refine (hP.out _).mono ?_; rintro e w2 ⟨rfl, hb2'⟩; have hb2 := Kpt.mk (hb1.out.trans (hb2'.mono hb1.out.size)); clear hb2'))
    | (refine (?_ : wpList _ _ _ (Oper.mk _ (Op.load 25 _) _ _ _ _ :: _) _ _); go_must (refine wpList_load_bx rfl 25 _ rfl R (plD true).prm rfl hB4.out _ Try.underlying25 rfl szPrm ?_; have hm := hn1))
    | (refine (?_ : wpList _ _ _ (Oper.mk _ (Op.store 25 _ _) _ _ _ _ :: _) _ _); go_must (refine wpList_store_bx rfl 25 _ _ rfl R _ plainS.prm rfl rfl hB3.out rfl szPrm (by simp [Se.prm, plainS, Value.oneCell']) rfl ?_; intro w4 hBx hgx; have hb3x := Kpt.mk (hb3.out.grown hgx hb3.out.size (fun q e => by injection e with e; subst e; exact hRw.out)); have c2 := hBx.cells 2 (by simp [Se.prm]); have f2 := hBx.free 2; simp [Se.prm, plainS] at c2; have hB4 : Kpt (Bx (w4.setCell ⟨R, 2, none⟩ (.bool true)) R (plD true).prm) := ⟨by have := bx_setC (.bool true) hBx (j := 2) (by simp [Se.prm]); simpa [Se.prm, plainS, plD] using this⟩; have hb4 : Kpt (Below w.heap.size w (w4.setCell ⟨R, 2, none⟩ (.bool true))) := ⟨hb3x.out.setCell (p := ⟨R, 2, none⟩) hRw.out _⟩; clear hBx hgx))
    | (refine (?_ : wpList _ _ _ (Oper.mk _ (Op.alloc 25) _ _ _ _ :: _) _ _); go_must (refine wpList_var rfl 25 rfl _ zPrm ?_; intro R w3 hR hBq hbq; have hb3 := Kpt.mk (hb2.out.trans (hbq.mono hb2.out.size)); have hB3 := Kpt.mk hBq; have hRw := Kpt.mk (Nat.le_trans hb2.out.size hR); clear hR hBq hbq)))
  clear hA hP hN hW hI hb1 hb2 hb3 hb5 hb6 hb7 hS hts htcm hoff kS6 kt6 kS7 kt7 hD7 hB6 hargs hb3x hB3 hB4 hb4 c2 f2 hRw hSw
  have kL2 := kL
  clear kL hb8
  go_wp2
  go_loopw [13, 14] (fun t13 t14 wr => ∃ (k : Nat) (X : ByteArray), k ≤ n ∧ t14 = .int .i64 k ∧ t13 = .string X ∧ Kpt (nums X = tellL true (os.take k)) ∧ Kpt (TgL w wr g v (tellL true os) a n c os S s3)) (fun _ t _ => n - (intOf t).toNat)
  case atStart => exact ⟨0, ⟨#[]⟩, by omega, rfl, rfl, ⟨by simp [tellL, rowsL, nums]⟩, kL2⟩
  case round =>
    obtain ⟨k, X, hk, rfl, rfl, hX, kl⟩ := hrel
    by_cases hlt : k < n
    · have hltI : (k : Int) < n := by omega
      obtain ⟨o, ho⟩ : ∃ o, os[k]? = some o := ⟨_, List.getElem?_eq_getElem (by rw [hos.out]; exact hlt)⟩
      obtain ⟨-, -, b, off, hta, hbl, hcell⟩ := kl.out.st.cellAt hlt
      rw [List.getD_eq_getElem?_getD, ho] at hcell
      simp only [Option.getD_some] at hcell
      subst hta
      have htk : Kpt (os.take (k + 1) = os.take k ++ [o]) := ⟨by
        obtain ⟨h9, rfl⟩ := List.getElem?_eq_some_iff.1 ho
        exact List.take_succ_eq_append_getElem h9⟩
      have hosz : o.size ≤ 1048576 := by have := sum_mem os k o ho; have := hsumK.out; omega
      have hNb : X.size ≤ 14000000 := by
        have h0 : X.size = (nums X).length := by rw [nums_len]
        have h1 := rowsL_le (tellB true) (os.take k)
        have h2 := sum_take os k
        have h3 := hsumK.out
        rw [hX.out] at h0
        unfold tellL at h0
        rw [List.length_take] at h1
        omega
      have z11 : (⟨#[84, 97, 114, 103, 101, 116, 78, 97, 109, 101, 61]⟩ : ByteArray).size = 11 := rfl
      have z1 : (⟨#[0]⟩ : ByteArray).size = 1 := rfl
      have q1 : ¬ 9223372036854775807 < 11 + o.size := by omega
      have q2 : ¬ 9223372036854775807 < 11 + o.size + 1 := by omega
      have q3 : ¬ 9223372036854775807 < X.size + (11 + o.size + 1) := by omega
      have hcN : ∀ m, (wr.drewN m).cell? ⟨b, off + k, none⟩ = some (.string o) := fun m => hcell
      clear ho
      have hrw : Kpt (tellL true (os.take (k + 1)) = tellL true (os.take k) ++ rowL (tnB, o)) := ⟨by rw [htk.out, tellL_snoc]; rfl⟩
      have kl2 := kl
      clear hcN
      go_wp2
      go_roundw
      case rel => exact ⟨k + 1, _, by omega, by go_num, rfl, ⟨by rw [hrw.out]; exact nums_want X o true _ hX.out⟩, kl2⟩
      case measure => simp [intOf]; omega
    · have hltI : ¬ (k : Int) < n := by omega
      obtain rfl : k = n := by omega
      have htt : os.take k = os := List.take_of_length_le (Nat.le_of_eq hos.out)
      rw [htt] at hX
      have hXs : strOfNums (tellL true os) = X := by rw [← hX.out, str_nums]
      clear htt hX
      obtain ⟨da, dc, hdv⟩ := rd_len kl.out.rd
      subst hdv
      have c13N : wr.cell? ⟨g, 13, none⟩ = some (.slice da ((tellL true os)).length dc) := kl.out.c13
      have cvN : (convert 30 9 (.slice da ((tellL true os)).length dc)).run Try.prog wr = .ok (.string X) wr := by rw [← hXs]; exact conv_rd kl.out.rd
      obtain ⟨DL, hDL⟩ : ∃ DL, DL = ((tellL true os)).length := ⟨_, rfl⟩
      rw [← hDL] at c13N cvN
      have kS9 := Kpt.mk kl.out.ss
      have hb9 := Kpt.mk kl.out.bel
      clear hDL kl hXs
      have hI2 : Kpt (∀ W, Ss W S s3 [] [] [] → Calls Try.prog 10 #[.pointer (some ⟨S, 0, none⟩), .agg (rdP 2 2 16).v] W fun e w' => ∃ g gc ta tc, e = .returned (.tuple #[.slice (some ⟨g, 0, none⟩) 1 gc, .slice ta 0 tc]) ∧ 1 ≤ gc ∧ gc ≤ 9223372036854775807 ∧ w'.cell? ⟨g, 0, none⟩ = some (.int .u8 63) ∧ w'.cell? ⟨g, 2, none⟩ = some (.int .u8 4) ∧ ∃ s4, St S W w' s3 s4) := ⟨fun W h => in_tgd S s3 W h hnx.out hov.out hds.out⟩
      go_wp2_with (first
        | (go_at_call 10; go_must (refine (hI2.out _ k10.out).mono ?_; rintro e w11 ⟨g2, gc2, xa, xc, rfl, hg1, hg2, d0, d2, s4, hst4⟩; have hb11 : Kpt (Below w.heap.size w w11) := ⟨hb10.out.trans (hst4.fr.below hb10.out.size (fun b e => hX3.out b e))⟩; clear hst4))
        | (go_at_call 11; go_must (refine (hR.out _).mono ?_; rintro e w10 ⟨rfl, hb10'⟩; have k10 := Kpt.mk (kS9.out.below hb10'); have hb10 := Kpt.mk (hb9.out.trans (hb10'.mono hb9.out.size)); clear hb10')))
      go_ret
      exact ⟨rfl, hb11.out⟩
end Go.Proofs.Ytdplndlmdhpfaab
