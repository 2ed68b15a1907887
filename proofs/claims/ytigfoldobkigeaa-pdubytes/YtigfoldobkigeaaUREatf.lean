/-
  pdu: the document's Encode.
-/
import Derived.Test.YtigfoldobkigeaaURE
namespace Go.Proofs.Ytigfoldobkigeaa
open Go.RowKit
set_option linter.unusedVariables false
set_option linter.unusedSimpArgs false

set_option maxRecDepth 100000 in
set_option maxHeartbeats 2000000 in
theorem renc_tf (p : Pd) (a : Option Addr) (n c : Nat) (w : World) (hp : p.ok) (hd : RdAt w (.slice a n c) p.d) (hn8 : n ≤ 8192) :
    Calls Try.prog 11 #[.agg (p.vals (.slice a n c)), .bool true, .bool false] w fun e w' => ∃ g N cap, e = .returned (.tuple #[.slice (some ⟨g, 0, none⟩) N cap, .int .i64 0]) ∧ w'.ownsRow w.heap.size 5 1 (.slice (some ⟨g, 0, none⟩) N cap) N (cels (encL p true false)) ∧ Below w.heap.size w w' := by
  obtain ⟨x0, x1, x2, x3, x4, x5, x6, hw⟩ := seven hp.len
  have hnl : p.d.length = n := (rd_row hd).1
  obtain ⟨V, hV⟩ : ∃ V, V = p.vals (.slice a n c) := ⟨_, rfl⟩
  have hc : Kpt (∀ W B, Bx W B V → W.cell? ⟨B, 0, none⟩ = some (.int .u8 p.op) ∧ W.cell? ⟨B, 1, none⟩ = some (.int .u8 p.fl) ∧ W.cell? ⟨B, 2, none⟩ = some (.int .u8 p.rs) ∧ W.cell? ⟨B, 3, none⟩ = some (.int .u8 p.st) ∧ W.cell? ⟨B, 4, none⟩ = some (.int .u8 p.lun) ∧ W.cell? ⟨B, 5, none⟩ = some (.int .u32 p.tag) ∧ W.cell? ⟨B, 13, none⟩ = some (.slice a n c)) := ⟨fun W B h => by
    rw [hV] at h
    obtain ⟨op, fl, rs, st, lun, tag, ws, d⟩ := p
    simp only at hw
    subst hw
    have h := pd_cells h
    exact ⟨h.1, h.2.1, h.2.2.1, h.2.2.2.1, h.2.2.2.2.1, h.2.2.2.2.2.1, h.2.2.2.2.2.2.2.2.2.2.2.2.2⟩⟩
  have hcw : Kpt (∀ W B k, k < 7 → Bx W B V → W.cell? ⟨B, 6 + k, none⟩ = some (.int .u32 (p.ws.getD k 0))) := ⟨fun W B k hk h => by
    rw [hV] at h
    obtain ⟨op, fl, rs, st, lun, tag, ws, d⟩ := p
    simp only at hw
    subst hw
    have h := pd_cells h
    obtain rfl | rfl | rfl | rfl | rfl | rfl | rfl : k = 0 ∨ k = 1 ∨ k = 2 ∨ k = 3 ∨ k = 4 ∨ k = 5 ∨ k = 6 := by omega
    · exact h.2.2.2.2.2.2.1
    · exact h.2.2.2.2.2.2.2.1
    · exact h.2.2.2.2.2.2.2.2.1
    · exact h.2.2.2.2.2.2.2.2.2.1
    · exact h.2.2.2.2.2.2.2.2.2.2.1
    · exact h.2.2.2.2.2.2.2.2.2.2.2.1
    · exact h.2.2.2.2.2.2.2.2.2.2.2.2.1⟩
  have hwsb : Kpt (∀ k, 0 ≤ p.ws.getD k 0 ∧ p.ws.getD k 0 ≤ 4294967295) := ⟨fun k => by
    rw [List.getD_eq_getElem?_getD]
    cases hk : p.ws[k]? with
    | none => simp
    | some x => exact hp.ws x (List.mem_of_getElem? hk)⟩
  have hr0 : Kpt (rK p 0 = [p.op, p.fl, p.rs, p.st, 0] ++ bigL n 3 ++ [0, p.lun, 0, 0, 0, 0, 0, 0] ++ bigL p.tag 4) := ⟨by rw [rK, hnl]⟩
  have hrs : Kpt (∀ k, rK p (k + 1) = rK p k ++ bigL (p.ws.getD k 0) 4) := ⟨fun k => rfl⟩
  have hrl := Kpt.mk (rK_len p)
  have hr7 := Kpt.mk (rK_seven p hp.len)
  have hdB : Kpt (∀ W, Below w.heap.size w W → RdAt W (.slice a n c) p.d) := ⟨fun W h => hd.bel h⟩
  have hwn : IntKind.u64.wrap (n : Int) = n := B.wrap64_id _ (by omega) (by omega)
  have htg := hp.tag
  have hwt : IntKind.u64.wrap p.tag = p.tag := B.wrap64_id _ htg.1 (by omega)
  have hwrp := Kpt.mk B.wrap64_id
  have hhb := Kpt.mk (headL_bytes hp)
  have hhl := Kpt.mk (headL_len p hp.len)
  have hdb := Kpt.mk hp.d
  obtain ⟨P, hP⟩ : ∃ P, P = padN n := ⟨_, rfl⟩
  have hP4 : P ≤ 3 ∧ (n + P) % 4 = 0 := by rw [hP]; unfold padN; omega
  have hbd : Kpt (bodyL p.d = p.d ++ List.replicate P 0) := ⟨by unfold bodyL; rw [hnl, hP]⟩
  have hn1 : ¬ (8192 : Int) < n := by omega
  have hnn : (0 : Int) ≤ n := by omega
  rw [← hV]
  obtain ⟨op, hop⟩ : ∃ x, x = p.op := ⟨_, rfl⟩
  obtain ⟨fl, hfl⟩ : ∃ x, x = p.fl := ⟨_, rfl⟩
  obtain ⟨rs, hrs'⟩ : ∃ x, x = p.rs := ⟨_, rfl⟩
  obtain ⟨st, hst⟩ : ∃ x, x = p.st := ⟨_, rfl⟩
  obtain ⟨lun, hlun⟩ : ∃ x, x = p.lun := ⟨_, rfl⟩
  obtain ⟨tag, htag⟩ : ∃ x, x = p.tag := ⟨_, rfl⟩
  rw [← hop, ← hfl, ← hrs', ← hst, ← hlun, ← htag] at hc hr0
  rw [← htag] at htg hwt
  replace hnl := Kpt.mk hnl
  clear hV hd hw hp hP hop hfl hrs' hst hlun htag
  go_enter Try.func11, Try.ntmps11
  go_wp2_with (first
    | (refine (?_ : wpList _ _ _ (Oper.mk (some 41) _ _ _ _ _ :: _) _ _); go_must (refine wpList_append_new rfl (.tmp 36) (.tmp 40) rfl w0s _ _ ([op, fl, rs, st, 0] ++ bigL n 3 ++ [0, lun, 0, 0, 0, 0, 0, 0]) (bigL tag 4) (16) (20) rfl rfl R5.out.row (own_rd ho6.out) (by simp [bigL_len]) R5.out.len (by simp [bigL_len]) (by omega) R5.out.le ?_; intro g7 cap7 w7 ho hgl hgr; have R7 : Kpt (RE w w7 w0s B V g7 (20) cap7 ([op, fl, rs, st, 0] ++ bigL n 3 ++ [0, lun, 0, 0, 0, 0, 0, 0] ++ bigL tag 4)) := ⟨R5.out.app ho.out hgr.out⟩; clear ho hgl hgr))
    | (go_at_call 24; have hm := R5; go_must (refine (big4_any tag _ htg.1 htg.2).mono ?_; rintro e w6 ⟨gN6, rfl, ho6, hbe6⟩; replace R5 : Kpt (RE w w6 w0s B V g5 16 cap5 ([op, fl, rs, st, 0] ++ bigL n 3 ++ [0, lun, 0, 0, 0, 0, 0, 0])) := ⟨R5.out.below hbe6⟩; replace ho6 := Kpt.mk ho6; clear hbe6; have hcc := hc.out _ _ R5.out.bx))
    | (refine (?_ : wpList _ _ _ (Oper.mk (some 35) _ _ _ _ _ :: _) _ _); go_must (refine wpList_append_new rfl (.tmp 31) (.tmp 34) rfl w0s _ _ ([op, fl, rs, st, 0] ++ bigL n 3) ([0, lun, 0, 0, 0, 0, 0, 0]) (8) (16) rfl rfl R4.out.row (own_rd ho4.out) (by simp [bigL_len]) R4.out.len (by simp [bigL_len]) (by omega) R4.out.le ?_; intro g5 cap5 w5 ho hgl hgr; have R5 : Kpt (RE w w5 w0s B V g5 (16) cap5 ([op, fl, rs, st, 0] ++ bigL n 3 ++ [0, lun, 0, 0, 0, 0, 0, 0])) := ⟨R4.out.app ho.out hgr.out⟩; clear ho hgl hgr; have hcc := hc.out _ _ R5.out.bx))
    | (refine (?_ : wpList _ _ _ (Oper.mk (some 34) _ _ _ _ _ :: _) _ _); go_must (refine wpList_built rfl 8 [0, lun, 0, 0, 0, 0, 0, 0] (by kernel_rfl) rfl (by decide) ?_; intro gN4 w4 hg4 ho4 hbe4; have R4 : Kpt (RE w w4 w0s B V g3 8 cap3 ([op, fl, rs, st, 0] ++ bigL n 3)) := ⟨R3.out.below hbe4⟩; replace ho4 := Kpt.mk ho4; clear hbe4 hg4))
    | (refine (?_ : wpList _ _ _ (Oper.mk (some 30) _ _ _ _ _ :: _) _ _); go_must (refine wpList_append_new rfl (.tmp 24) (.tmp 29) rfl w0s _ _ ([op, fl, rs, st, 0]) (bigL n 3) (5) (8) rfl rfl R2.out.row (own_rd ho2.out) (by simp [bigL_len]) R2.out.len (by simp [bigL_len]) (by omega) R2.out.le ?_; intro g3 cap3 w3 ho hgl hgr; have R3 : Kpt (RE w w3 w0s B V g3 (8) cap3 ([op, fl, rs, st, 0] ++ bigL n 3)) := ⟨R2.out.app ho.out hgr.out⟩; clear ho hgl hgr; have hcc := hc.out _ _ R3.out.bx))
    | (go_at_call 24; go_must (refine (big3_any n _ hnn (by omega)).mono ?_; rintro e w2 ⟨gN2, rfl, ho2, hbe2⟩; have R2 : Kpt (RE w w2 w0s B V g1 5 5 [op, fl, rs, st, 0]) := ⟨R1.out.below hbe2⟩; replace ho2 := Kpt.mk ho2; clear hbe2))
    | (refine (?_ : wpList _ _ _ (Oper.mk (some 23) _ _ _ _ _ :: _) _ _); go_must (refine wpList_built rfl 5 [op, fl, rs, st, 0] (by kernel_rfl) rfl (by decide) ?_; intro g1 w1 hg1 ho1 hbe1; obtain ⟨w0s, hw0s⟩ : ∃ s, s = w0.heap.size := ⟨_, rfl⟩; have R1 : Kpt (RE w w1 w0s B V g1 5 5 [op, fl, rs, st, 0]) := ⟨hw0s ▸ ⟨hb0.out.trans (hbe1.mono hb0.out.size), hX0.out.below hbe1 hX0.out.lt, ho1, hX0.out.lt, hbe1.size, hb0.out.size⟩⟩; clear hbe1 hg1 ho1 hcc hX0 hb0 hw0s; have hcc := hc.out _ _ R1.out.bx))
    | (refine wpList_box rfl 26 (.tmp 0) rfl V rfl ?_; intro B w0 hB hX0 hb0 hz0; have hcc := hc.out _ _ hX0; replace hX0 := Kpt.mk hX0; replace hb0 := Kpt.mk hb0; clear hz0 hB))
  rw [← hr0.out] at R7
  clear R5 R4 R3 R2 R1 hcc ho2 ho4 ho6
  go_loopw [8, 9] (fun q t wr => ∃ k g cap : Nat, k ≤ 7 ∧ t = .int .i64 k ∧ q = .slice (some ⟨g, 0, none⟩) (20 + 4 * k) cap ∧ Kpt (RE w wr w0s B V g (20 + 4 * k) cap (rK p k))) (fun _ t _ => 7 - (intOf t).toNat)
  case atStart => exact ⟨0, _, _, by omega, rfl, rfl, R7⟩
  case round =>
    obtain ⟨k, g, cap, hk, rfl, rfl, Rk⟩ := hrel
    clear R7
    by_cases hlt : k < 7
    · have hck := hcw.out _ _ k hlt Rk.out.bx
      have hwb := Kpt.mk (hwsb.out k)
      obtain ⟨x, hx⟩ : ∃ x, x = p.ws.getD k 0 := ⟨_, rfl⟩
      rw [← hx] at hck hwb
      have hww : IntKind.u64.wrap x = x := hwrp.out _ hwb.out.1 (by have := hwb.out.2; omega)
      have hnx : Kpt (rK p (k + 1) = rK p k ++ bigL x 4) := ⟨by rw [hx]; exact hrs.out k⟩
      have hlk := Kpt.mk (hrl.out k)
      have hltI : (k : Int) < 7 := by omega
      clear hx
      go_wp2_with (first
        | (refine (?_ : wpList _ _ _ (Oper.mk (some 53) _ _ _ _ _ :: _) _ _); go_must (refine wpList_append_new rfl (.tmp 46) (.tmp 52) rfl w0s _ _ (rK p k) (bigL x 4) (20 + 4 * k) (20 + 4 * (k + 1)) rfl rfl Rk.out.row (own_rd ho8.out) (by simp [bigL_len]) hlk.out (by rw [bigL_len]; omega) (by omega) Rk.out.le ?_; intro g9 cap9 w9 ho hgl hgr; have R9 : Kpt (RE w w9 w0s B V g9 (20 + 4 * (k + 1)) cap9 (rK p (k + 1))) := ⟨by rw [hnx.out]; exact Rk.out.app ho.out hgr.out⟩; clear ho hgl hgr))
        | (go_at_call 24; go_must (refine (big4_any x _ hwb.out.1 hwb.out.2).mono ?_; rintro e w8 ⟨gN8, rfl, ho8, hbe8⟩; replace Rk : Kpt (RE w w8 w0s B V g (20 + 4 * k) cap (rK p k)) := ⟨Rk.out.below hbe8⟩; replace ho8 := Kpt.mk ho8; clear hbe8)))
      go_roundw
      case rel => exact ⟨k + 1, g9, cap9, by omega, by go_num, rfl, R9⟩
      case measure => simp [intOf]; omega
    · obtain rfl : k = 7 := by omega
      rw [hr7.out] at Rk
      have hc13 := (hc.out _ _ Rk.out.bx).2.2.2.2.2.2
      go_wp2_with (first
        | (refine (?_ : wpList _ _ _ (Oper.mk (some 62) _ _ _ _ _ :: _) _ _); go_must (obtain ⟨b1, hb1⟩ : ∃ b, b = ws.heap.size := ⟨_, rfl⟩; refine wpList_append_rd rfl (.tmp 59) (.tmp 61) rfl b1 (.slice none 0 0) [] rfl (World.ownsRow_nil _ _ 5 1) (.slice a n c) p.d rfl (hdB.out _ Rs.out.bel) (by rw [hnl.out]; simp; omega) (by omega) ?_; intro v1 wb ho hg; rw [List.nil_append, hnl.out] at ho; obtain ⟨va, vc, rfl⟩ := own_len ho; have hgb : Kpt (gs < b1 ∧ w0s ≤ b1) := ⟨by rw [hb1]; exact (World.ownsRow.lt Rs.out.row _ rfl).2, by rw [hb1]; exact Rs.out.le⟩; have Rb : Kpt (RE w wb w0s B V gs 52 caps (headL p ++ bigL (sumL (headL p)) 4)) := ⟨Rs.out.other hg (fun k h => by cases h) hgb.out.1 hgb.out.2⟩; have hlb : Kpt (b1 ≤ wb.heap.size) := ⟨by rw [hb1]; exact hg.size⟩; replace ho := Kpt.mk ho; clear hg hb1))
        | (refine (?_ : wpList _ _ _ (Oper.mk (some 58) _ _ _ _ _ :: _) _ _); go_must (refine wpList_append_new rfl (.tmp 55) (.tmp 57) rfl w0s _ _ (headL p) (bigL (sumL (headL p)) 4) 48 52 rfl rfl Rq.out.row (own_rd hosu.out) (by simp [bigL_len]) hhl.out (by simp [bigL_len]) (by omega) Rq.out.le ?_; intro gs caps ws ho hgl hgr; have Rs : Kpt (RE w ws w0s B V gs 52 caps (headL p ++ bigL (sumL (headL p)) 4)) := ⟨Rq.out.app ho.out hgr.out⟩; clear ho hgl hgr hc13; have hc13 := (hc.out _ _ Rs.out.bx).2.2.2.2.2.2))
        | (go_at_call 25; go_must (refine (rsum_any _ (headL p) _ (own_rd Rk.out.row) (by rw [hhl.out]; unfold maxLen; omega) hhb.out).mono ?_; rintro e wq ⟨gN, rfl, hosu, hbe⟩; have Rq : Kpt (RE w wq w0s B V g 48 cap (headL p)) := ⟨Rk.out.below hbe⟩; replace hosu := Kpt.mk hosu; clear hbe))
        | fail)
      clear hc13 hlt
      go_loopw [10] (fun bv wr => ∃ (j : Nat) (va : Option Addr) (vc : Nat), j ≤ P ∧ bv = .slice va (n + j) vc ∧ Kpt (RE w wr w0s B V gs 52 caps (headL p ++ bigL (sumL (headL p)) 4)) ∧ Kpt (wr.ownsRow b1 5 1 (.slice va (n + j) vc) (n + j) (cels (p.d ++ List.replicate j 0))) ∧ Kpt (b1 ≤ wr.heap.size)) (fun bv _ => n + 4 - sliceN bv)
      case atStart => exact ⟨0, va, vc, by omega, rfl, Rb, ⟨by simpa using ho.out⟩, hlb⟩
      case round =>
        obtain ⟨j, va', vc', hj, rfl, Rj, hoj, hlj⟩ := hrel
        by_cases hjP : j < P
        · have hrem : (((n + j : Nat) : Int).tmod 4 == 0) = false := by
            rw [Int.tmod_eq_emod_of_nonneg (by omega)]
            simp
            omega
          have hrem2 : ¬ ((n + j : Nat) : Int).tmod 4 = 0 := by simpa using hrem
          have hpl : Kpt ((p.d ++ List.replicate j (0 : Int)).length = n + j) := ⟨by rw [List.length_append, hnl.out]; simp⟩
          go_wp2_with (first
            | (refine (?_ : wpList _ _ _ (Oper.mk (some 69) _ _ _ _ _ :: _) _ _); go_must (refine wpList_append_new rfl (.tmp 67) (.tmp 68) rfl b1 _ _ (p.d ++ List.replicate j 0) [0] (n + j) (n + (j + 1)) rfl rfl hoz.out (own_rd hozz.out) (by simp) hpl.out (by simp; omega) (by omega) hlz.out ?_; intro gz capz wz ho hgl hgr; have Rz2 : Kpt (RE w wz w0s B V gs 52 caps (headL p ++ bigL (sumL (headL p)) 4)) := ⟨Rz.out.other hgr.out (fun k e => (World.ownsRow.lt hoz.out k e).1) hgb.out.1 hgb.out.2⟩; have hoz2 : Kpt (wz.ownsRow b1 5 1 (.slice (some ⟨gz, 0, none⟩) (n + (j + 1)) capz) (n + (j + 1)) (cels (p.d ++ List.replicate (j + 1) 0))) := ⟨by rw [List.replicate_succ', ← List.append_assoc]; exact ho.out⟩; have hlz2 : Kpt (b1 ≤ wz.heap.size) := ⟨Nat.le_trans hlz.out hgr.out.size⟩; clear ho hgl hgr))
            | (refine (?_ : wpList _ _ _ (Oper.mk (some 68) _ _ _ _ _ :: _) _ _); go_must (refine wpList_built rfl 1 [0] (by kernel_rfl) rfl (by decide) ?_; intro gN4 w4 hg4 ho4 hbe4; have Rz : Kpt (RE w w4 w0s B V gs 52 caps (headL p ++ bigL (sumL (headL p)) 4)) := ⟨Rj.out.below hbe4⟩; have hoz : Kpt (w4.ownsRow b1 5 1 (.slice va' (n + j) vc') (n + j) (cels (p.d ++ List.replicate j 0))) := ⟨own_of_block hoj.out fun g' hg' => hbe4.block g' (World.ownsRow.lt hoj.out g' hg').2⟩; have hozz := Kpt.mk ho4; have hlz : Kpt (b1 ≤ w4.heap.size) := ⟨Nat.le_trans hlj.out hbe4.size⟩; clear hbe4 hg4 ho4)))
          go_roundw
          case rel => exact ⟨j + 1, some ⟨gz, 0, none⟩, capz, by omega, rfl, Rz2, hoz2, hlz2⟩
          case measure => simp [sliceN]; omega
        · obtain rfl : j = P := by omega
          have hrem : (((n + j : Nat) : Int).tmod 4 == 0) = true := by
            rw [Int.tmod_eq_emod_of_nonneg (by omega)]
            simp
            omega
          have hrem2 : ((n + j : Nat) : Int).tmod 4 = 0 := by simpa using hrem
          rw [← hbd.out] at hoj
          have hbl : Kpt ((bodyL p.d).length = n + j) := ⟨by rw [hbd.out, List.length_append, hnl.out]; simp⟩
          obtain ⟨NN, hNN⟩ : ∃ N, N = (headL p ++ bigL (sumL (headL p)) 4 ++ bodyL p.d).length := ⟨_, rfl⟩
          replace hNN := Kpt.mk hNN
          have hen : Kpt (encL p true false = headL p ++ bigL (sumL (headL p)) 4 ++ bodyL p.d) := ⟨by simp [encL, partL, s2B]⟩
          go_wp2_with (first
            | (refine (?_ : wpList _ _ _ (Oper.mk (some 72) _ _ _ _ _ :: _) _ _); go_must (refine wpList_append_rd rfl (.tmp 70) (.tmp 71) rfl w0s (.slice (some ⟨gs, 0, none⟩) 52 caps) (headL p ++ bigL (sumL (headL p)) 4) rfl (by rw [Rj.out.len]; exact Rj.out.row) (.slice va' (n + j) vc') (bodyL p.d) rfl (own_rdv hoj.out) (by rw [Rj.out.len, hbl.out]; omega) Rj.out.le ?_; intro v7 w7 ho7 hg7; obtain ⟨g7, cap7, rfl, _, _, _⟩ := own_shape2 ho7 (by rw [List.length_append, Rj.out.len]; omega); have R7 : Kpt (RE w w7 w0s B V g7 NN cap7 (headL p ++ bigL (sumL (headL p)) 4 ++ bodyL p.d)) := ⟨by rw [hNN.out]; exact Rj.out.app ho7 hg7⟩; have hob7 : Kpt (w7.ownsRow b1 5 1 (.slice va' (n + j) vc') (n + j) (cels (bodyL p.d))) := ⟨own_of_block hoj.out fun g' hg' => hg7.block g' (World.ownsRow.lt hoj.out g' hg').2 (fun e => by have h1 := (World.ownsRow.lt hoj.out g' hg').1; have h2 := hgb.out.1; have h3 := Option.some.inj e; simp at h3; omega)⟩; rw [← hNN.out]; clear ho7 hg7))
            | fail)
          go_ret2
          refine ⟨g7, NN, cap7, rfl, ?_, R7.out.bel⟩
          rw [hen.out]
          exact own_base R7.out.row R7.out.ws
end Go.Proofs.Ytigfoldobkigeaa
