/-
  sess: SessWrites' walk.
-/
import Derived.Test.YtdplndlmdhpfaaaEWdf
namespace Go.Proofs.Ytdplndlmdhpfaaa
open Go.RowKit
set_option linter.unusedVariables false
set_option linter.unusedSimpArgs false

theorem ltW {w : World} {v : Value} {ds : List Int} (h : RdAt w v ds) (h0 : 0 < ds.length) (g : Nat) (hg : v.ownBlock = some g) : g < w.heap.size := by
  obtain ⟨a, c, rfl, _, _, h3⟩ := h
  rcases h3 with h3 | ⟨b, off, rfl, hc⟩
  · omega
  · simp [Value.ownBlock] at hg
    subst hg
    have := hc 0 (.int .u8 ds[0]) (by simp [cels, h0])
    exact World.block_lt_of_cell? w ⟨b, off + 0, none⟩ this
def dtP (tag : Int) (i : Nat) (fl : Int) (dv : Value) : Pd := { zP with op := 5, fl := fl, tg := 7, w0 := tag, w5 := (i : Int), da := dv }

set_option maxRecDepth 100000 in
set_option maxHeartbeats 16000000 in
theorem writes_any (b0 o0 n c : Nat) (D : List Int) (burst wi : Int) (ca : Option Addr) (cl cc : Nat) (cs : List Int) (w : World) (hrd : RdAt w (.slice (some ⟨b0, o0, none⟩) n c) D) (hDn : D.length = n) (hn : 1 ≤ n ∧ n ≤ 3000) (hc : c ≤ maxLen) (hbu : 0 ≤ burst ∧ burst < 65536) (hwi : 0 ≤ wi ∧ wi < 65536) (hcs : RdAt w (.slice ca cl cc) cs) (hcl : cs.length = cl) (hby : Bytes cs) (hcm : cl ≤ maxLen) :
    Calls Try.prog 4 #[.slice (some ⟨b0, o0, none⟩) n c, .int .u16 burst, .int .u16 wi, .slice ca cl cc] w fun e w' => e = .returned (.bool true) ∧ Below w.heap.size w w' := by
  obtain ⟨g, hg⟩ : ∃ g : Nat, (g : Int) = 1 + burst.tmod 700 := ⟨(1 + burst % 700).toNat, by rw [Int.tmod_eq_emod_of_nonneg hbu.1]; omega⟩
  have hm1 : 0 ≤ wi % ((n : Int) + 1) ∧ wi % ((n : Int) + 1) < (n : Int) + 1 := ⟨Int.emod_nonneg _ (by omega), Int.emod_lt_of_pos _ (by omega)⟩
  obtain ⟨i0, hi0⟩ : ∃ g : Nat, (g : Int) = wi.tmod ((n : Int) + 1) := ⟨(wi % ((n : Int) + 1)).toNat, by rw [Int.tmod_eq_emod_of_nonneg hwi.1]; omega⟩
  have hg0 : 0 < g ∧ g ≤ 1000 := by rw [Int.tmod_eq_emod_of_nonneg hbu.1] at hg; omega
  have hin : i0 ≤ n := by rw [Int.tmod_eq_emod_of_nonneg hwi.1] at hi0; omega
  have e1 : IntKind.i64.wrap burst = burst := by rw [IntKind.wrap_i64]; omega
  have e2 : IntKind.i64.wrap wi = wi := by rw [IntKind.wrap_i64]; omega
  have e3 : 1 + burst % 700 = (g : Int) := by rw [hg, Int.tmod_eq_emod_of_nonneg hbu.1]
  have e3' : IntKind.i64.wrap (1 + burst.tmod 700) = (g : Int) := by rw [← hg, IntKind.wrap_i64]; omega
  have e4 : wi % ((n : Int) + 1) = (i0 : Int) := by rw [hi0, Int.tmod_eq_emod_of_nonneg hwi.1]
  have e4' : wi.tmod ((n : Int) + 1) = (i0 : Int) := hi0.symm
  have e5 : IntKind.u32.wrap (n : Int) = n := by rw [IntKind.wrap_u32]; omega
  have e6 : ¬ (3000 : Int) < n := by omega
  have d6 : decide ((3000 : Int) < n) = false := by simp; omega
  have e7 : ¬ (n : Int) = 0 := by omega
  have d7 : decide ((n : Int) = 0) = false := by simp; omega
  have d7' : ((n : Int) == 0) = false := by simp; omega
  have e8 : ¬ (n : Int) + 1 = 0 := by omega
  have e9 : (i0 : Int) ≤ c := by obtain ⟨_, _, e, _, h, _⟩ := hrd; injection e with _ e2 e3; omega
  have e9' : i0 ≤ c := by omega
  have hnc : n ≤ c := by obtain ⟨_, _, e, _, h, _⟩ := hrd; injection e with _ e2 e3; omega
  have hc63 : c ≤ 9223372036854775807 := by unfold maxLen at hc; omega
  have hcl63 : cl ≤ 9223372036854775807 := by unfold maxLen at hcm; omega
  have hb0 : b0 < w.heap.size := ltW hrd (by omega) b0 rfl
  have hA : Kpt (∀ W : World, Calls Try.prog 8 #[] W fun e w' => e = .returned (.bool true) ∧ Below W.heap.size W w') := ⟨awake_any⟩
  have hP : Kpt (∀ W : World, Calls Try.prog 10 #[] W fun e w' => e = .returned (.agg plainS.prm) ∧ Below W.heap.size W w') := ⟨plain_any⟩
  have hN : Kpt (∀ W : World, Calls Try.prog 9 #[.agg (burS g).prm, .slice none 0 0, .int .u32 1] W fun e w' => (∃ S, e = .returned (.pointer (some ⟨S, 0, none⟩)) ∧ W.heap.size ≤ S ∧ Ss w' S ((burS g).new 1) [] [] []) ∧ Below W.heap.size W w') := ⟨fun W => new_nil (burS g) 1 W⟩
  replace hrd := Kpt.mk hrd
  replace hcs := Kpt.mk hcs
  replace hDn := Kpt.mk hDn
  replace hcl := Kpt.mk hcl
  replace hby := Kpt.mk hby
  clear hg hi0 hm1
  go_enter Try.func4, Try.ntmps4
  go_upto_region 5 with (first
    | (go_at_call 8; go_must (refine (hA.out _).mono ?_; rintro e w1 ⟨rfl, hb1⟩; replace hb1 := Kpt.mk hb1))
    | (go_at_call 10; go_must (refine (hP.out _).mono ?_; rintro e w2 ⟨rfl, hb2'⟩; have hb2 := Kpt.mk (hb1.out.trans (hb2'.mono hb1.out.size)); clear hb2'))
    | (refine (?_ : wpList _ _ _ (Oper.mk _ (Op.alloc 28) _ _ _ _ :: _) _ _); go_must (refine wpList_var rfl 28 rfl _ zPrm ?_; intro P w3 hP3 hB3 hb3; have q3 := Kpt.mk (hb2.out.trans (hb3.mono hb2.out.size)); have hPw := Kpt.mk (Nat.le_trans hb2.out.size hP3); have x3 := Kpt.mk hB3; clear hP3 hB3 hb3))
    | (refine (?_ : wpList _ _ _ (Oper.mk _ (Op.store 28 _ _) _ _ _ _ :: _) _ _); go_must (refine wpList_store_bx rfl 28 _ _ rfl P _ plainS.prm rfl rfl x3.out rfl szPrm (by simp [Se.prm, plainS, Value.oneCell']) rfl ?_; intro w4 hB4 hg4; have q4 := Kpt.mk (q3.out.grown hg4 q3.out.size (fun q e => by injection e with e; subst e; exact hPw.out)); have x4 := Kpt.mk hB4; have c5 := x4.out.cells 6 (by simp [Se.prm]); have f5 := x4.out.free 6; simp [Se.prm, plainS] at c5; have x5 : Kpt (Bx (w4.setCell ⟨P, 6, none⟩ (.int .i64 g)) P (burS g).prm) := ⟨by have := bx_setC (.int .i64 g) x4.out (j := 6) (by simp [Se.prm]); rw [burS_prm]; exact this⟩; have q5 : Kpt (Below w.heap.size w (w4.setCell ⟨P, 6, none⟩ (.int .i64 g))) := ⟨q4.out.setCell (p := ⟨P, 6, none⟩) hPw.out _⟩; clear hB4 hg4)))
  obtain ⟨w5, hw5⟩ : ∃ W, W = w4.setCell ⟨P, 6, none⟩ (.int .i64 g) := ⟨_, rfl⟩
  try rw [← hw5]
  rw [← hw5] at x5 q5
  clear hw5 x4 q4 x3 q3 c5 f5 hb1 hb2
  have hb5 : b0 < w5.heap.size := Nat.lt_of_lt_of_le hb0 q5.out.size
  have hrd5 : Kpt (∀ W, Below w5.heap.size w5 W → RdAt W (.slice (some ⟨b0, o0, none⟩) n c) D) := ⟨fun W hb => (hrd.out.bel q5.out).bel hb⟩
  have hcs5 : Kpt (∀ W, Below w5.heap.size w5 W → RdAt W (.slice ca cl cc) cs) := ⟨fun W hb => (hcs.out.bel q5.out).bel hb⟩
  have hret : Kpt (∀ W, Below w5.heap.size w5 W → Below w.heap.size w W) := ⟨fun W hb => q5.out.trans (hb.mono q5.out.size)⟩
  have hPx : Kpt (∀ W, Below w5.heap.size w5 W → W.cell? ⟨P, 6, none⟩ = some (.int .i64 g)) := ⟨fun W hb => by have := (x5.out.below hb x5.out.lt).cells 6 (by simp [Se.prm]); simpa [Se.prm, burS] using this⟩
  have hF : Kpt (∀ W S, Below w5.heap.size w5 W → w5.heap.size ≤ S → Ss W S ((burS g).new 1) [] [] [] → Calls Try.prog 11 #[.pointer (some ⟨S, 0, none⟩), .agg (wdP n (.slice (some ⟨b0, o0, none⟩) i0 c)).v] W fun e w' => ∃ v u, e = .returned (.tuple #[v, u]) ∧ Below w5.heap.size W w' ∧ Nw w5.heap.size w' S D n g i0 v u) := ⟨fun W S hb hS h => in_first w5.heap.size S D n g i0 ⟨b0, o0, none⟩ c W h hb.size hS hin hn.2 hDn.out hg0 ⟨by
    obtain ⟨_, cp, e, h1, h2, h3⟩ := hrd5.out W hb
    simp only [Value.slice.injEq] at e
    obtain ⟨rfl, -, rfl⟩ := e
    have hl : (D.take i0).length = i0 := by have := hDn.out; rw [List.length_take]; omega
    refine ⟨_, c, by rw [hl], fun e => (by cases e), by rw [hl]; omega, ?_⟩
    rcases h3 with h3 | ⟨b', off', e', h3⟩
    · have := hDn.out; omega
    · refine .inr ⟨b', off', e', fun j x hj => h3 j x ?_⟩
      simp only [cels, List.getElem?_map, List.getElem?_take] at hj ⊢
      split at hj
      · exact hj
      · simp at hj, fun _ x hx => by
    have hx' : b0 = x := Option.some.inj hx
    have := hb.size
    exact ⟨by omega, fun e => by have := own_newW hS x e; omega⟩⟩⟩
  have hone : Kpt ((wdP n (.slice (some ⟨b0, o0, none⟩) i0 c)).v.all (·.oneCell') = true) := ⟨(Pd.one (p := wdP n (.slice (some ⟨b0, o0, none⟩) i0 c)) rfl).2⟩
  go_upto_region 9 with (first
    | (refine (?_ : wpList _ _ _ (Oper.mk _ (Op.load 28 _) _ _ _ _ :: _) _ _); go_must (refine wpList_load_bx rfl 28 _ rfl P (burS g).prm rfl x5.out _ Try.underlying28 rfl szPrm ?_; have hm := hg0))
    | (go_at_call 9; go_must (refine (hN.out _).mono ?_; rintro e w6 ⟨⟨S, rfl, hSl, hS⟩, hb6⟩; have q6 := Kpt.mk hb6; have hSw := Kpt.mk hSl; replace hS := Kpt.mk hS; clear hb6 hSl))
    | (refine (?_ : wpList _ _ _ (Oper.mk _ (Op.alloc 37) _ _ _ _ :: _) _ _); go_must (refine wpList_var rfl 37 rfl _ zPdu ?_; intro C w7 hC hB7 hb7; have q7 := Kpt.mk (q6.out.trans (hb7.mono q6.out.size)); have S7 := Kpt.mk (hS.out.below hb7); have hCn := Kpt.mk (Nat.le_trans q6.out.size hC); have hCl := Kpt.mk (fun e => by have := hS.out.lt C e; omega : ¬ ((burS g).new 1).X S C); have x7 := Kpt.mk hB7; clear hC hB7 hb7))
    | (refine (?_ : wpList _ _ _ (Oper.mk _ (Op.store 37 _ _) _ _ _ _ :: _) _ _); go_must (refine wpList_store_bx rfl 37 _ _ rfl C zP.v (wdP n (.slice (some ⟨b0, o0, none⟩) i0 c)).v rfl rfl x7.out rfl szPdu hone.out rfl ?_; intro w8 hB8 hg8; have q8 := Kpt.mk (q7.out.grown hg8 q7.out.size (fun q e => by injection e with e; subst e; exact hCn.out)); have S8 := Kpt.mk (S7.out.frame (Y := fun b => b = C) (Fr.of_grown hg8 (fun b e => by injection e with e; exact e.symm)) (fun b hx e => hCl.out (by rw [← e]; exact hx))); have x8 := Kpt.mk hB8; clear hB8 hg8))
    | (refine (?_ : wpList _ _ _ (Oper.mk _ (Op.load 37 _) _ _ _ _ :: _) _ _); go_must (refine wpList_load_bx rfl 37 _ rfl C (wdP n (.slice (some ⟨b0, o0, none⟩) i0 c)).v rfl x8.out _ Try.underlying37 rfl szPdu ?_; have hm2 := hg0))
    | (go_at_call 11; go_must (refine (hF.out _ _ q8.out hSw.out S8.out).mono ?_; rintro e w9 ⟨v9, u9, rfl, hb9, hw9⟩; have q9 := Kpt.mk (q8.out.trans (hb9.mono (Nat.le_refl _))); replace hw9 := Kpt.mk hw9; clear hb9)))
  clear hF hone hA hP hN x8 x7 S8 S7 hS q6 q7 q8 hCn hCl x5
  go_wp2_with fail
  go_loopg [13, 14, 15, 16] (n - i0) (fun i r13 r14 r15 r16 wr => ∃ (at_ kk : Nat), r15 = .int .i64 (at_ : Int) ∧ r16 = .int .i64 (kk : Int) ∧ at_ + i = n ∧ kk ≤ at_ ∧ Kpt (Nw w5.heap.size wr S D n g at_ r13 r14) ∧ Kpt (Below w5.heap.size w5 wr))
  case atStart => exact ⟨i0, 0, rfl, rfl, by omega, by omega, hw9, q9⟩
  case round =>
    obtain ⟨at_, kk, rfl, rfl, hati, hkk, hnw, hq⟩ := hrel
    clear hw9 q9
    have hfin : Kpt (Below w.heap.size w wr) := ⟨hret.out wr hq.out⟩
    rcases hnw.out.or with ⟨⟨ua, uc, rfl⟩, zz, hask⟩ | ⟨hane, hend⟩
    · obtain ⟨b, bc, q, rfl, hbc1, hbc2, hBq, t0, t5, t6, hgo⟩ := hask.ex
      have hlt := hask.lt
      have hz := hask.z
      obtain ⟨tag, htag⟩ : ∃ tag, tag = q.w0 := ⟨_, rfl⟩
      rw [← htag] at hgo
      obtain ⟨en, hen⟩ : ∃ en, en = at_ + zz := ⟨_, rfl⟩
      rw [← hen] at hgo
      have c0 := hBq.cells 0 (by simp [Pd.v])
      have c6 := hBq.cells 6 (by simp [Pd.v])
      have c11 := hBq.cells 11 (by simp [Pd.v])
      have c12 := hBq.cells 12 (by simp [Pd.v])
      simp [Pd.v] at c0 c6 c11 c12
      rw [t0] at c0
      rw [← htag] at c6
      rw [t5] at c11
      rw [t6] at c12
      have cP := hPx.out wr hq.out
      have hcl0 : Kpt (wr.cell? ⟨b, 0, none⟩ = some (.int .u8 49) ∧ wr.cell? ⟨b, 11, none⟩ = some (.int .u32 at_) ∧ wr.cell? ⟨b, 12, none⟩ = some (.int .u32 zz) ∧ wr.cell? ⟨P, 6, none⟩ = some (.int .i64 g)) := ⟨c0, c11, c12, cP⟩
      have zz1 : 0 < zz := by omega
      have zz2 : zz ≤ g := by omega
      have hen2 : at_ < en ∧ en ≤ n := by omega
      have m1 : IntKind.i64.wrap (at_ : Int) = at_ := by rw [IntKind.wrap_i64]; omega
      have m2 : IntKind.i64.wrap (zz : Int) = zz := by rw [IntKind.wrap_i64]; omega
      have m3 : IntKind.i64.wrap ((n : Int) - at_) = (n : Int) - at_ := by rw [IntKind.wrap_i64]; omega
      have m4 : IntKind.i64.wrap ((at_ : Int) + zz) = (en : Int) := by rw [IntKind.wrap_i64]; omega
      have m4' : (at_ : Int) + zz = (en : Int) := by omega
      have m5 : (if (n : Int) - at_ < (g : Int) then (n : Int) - at_ else (g : Int)) = (zz : Int) := by split <;> omega
      have hbc3 : (1 : Int) ≤ bc := by omega
      replace hgo := Kpt.mk hgo
      replace hz := Kpt.mk hz
      replace hen := Kpt.mk hen
      replace htag := Kpt.mk htag
      clear hBq t0 t5 t6 hask hnw
      go_upto_region 12 with fail
      clear c0 c11 cP m4'
      refine wp_region_any (by kernel_rfl) ?_
      refine wpAny_of_C (C := fun W => W.cell? ⟨b, 0, none⟩ = some (.int .u8 49) ∧ W.cell? ⟨b, 11, none⟩ = some (.int .u32 at_) ∧ W.cell? ⟨b, 12, none⟩ = some (.int .u32 zz) ∧ W.cell? ⟨P, 6, none⟩ = some (.int .i64 g)) _ _ _ _ ?_
      refine wpAnyC_take 0 (.slice (some ⟨b, 0, none⟩) 1 bc) rfl (by kernel_rfl) (by kernel_rfl) (by kernel_rfl) (fun _ _ _ h => h) (wanted_free rfl _) (fun W hW => by go_simp) ?_
      try simp only [Act.put, List.getElem_toArray, List.getElem_cons_succ, List.getElem_cons_zero, List.setIfInBounds_toArray, List.set_cons_succ, List.set_cons_zero]
      refine wpAnyC_take 1 (.int .i64 1) rfl (by kernel_rfl) (by kernel_rfl) (by kernel_rfl) (fun _ _ _ h => h) (wanted_free rfl _) (fun W hW => by go_simp) ?_
      try simp only [Act.put, List.getElem_toArray, List.getElem_cons_succ, List.getElem_cons_zero, List.setIfInBounds_toArray, List.set_cons_succ, List.set_cons_zero]
      refine wpAnyC_take 2 (.bool false) rfl (by kernel_rfl) (by kernel_rfl) (by kernel_rfl) (fun _ _ _ h => h) (wanted_free rfl _) (fun W hW => by go_simp) ?_
      try simp only [Act.put, List.getElem_toArray, List.getElem_cons_succ, List.getElem_cons_zero, List.setIfInBounds_toArray, List.set_cons_succ, List.set_cons_zero]
      refine wpAnyC_take 3 (.bool false) rfl (by kernel_rfl) (by kernel_rfl) (by kernel_rfl) (fun _ _ _ h => h) (wanted_free rfl _) (fun W hW => by go_simp) ?_
      try simp only [Act.put, List.getElem_toArray, List.getElem_cons_succ, List.getElem_cons_zero, List.setIfInBounds_toArray, List.set_cons_succ, List.set_cons_zero]
      refine wpAnyC_take 4 (.slice (some ⟨b, 0, none⟩) 1 bc) rfl (by kernel_rfl) (by kernel_rfl) (by kernel_rfl) (fun _ _ _ h => h) (wanted_at false rfl rfl rfl rfl) (fun W hW => by go_simp) ?_
      try simp only [Act.put, List.getElem_toArray, List.getElem_cons_succ, List.getElem_cons_zero, List.setIfInBounds_toArray, List.set_cons_succ, List.set_cons_zero]
      refine wpAnyC_take 5 (.pointer (some ⟨b, 0, none⟩)) rfl (by kernel_rfl) (by kernel_rfl) (by kernel_rfl) (fun _ _ _ h => h) (wanted_at false rfl rfl rfl rfl) (fun W hW => by go_simp) ?_
      try simp only [Act.put, List.getElem_toArray, List.getElem_cons_succ, List.getElem_cons_zero, List.setIfInBounds_toArray, List.set_cons_succ, List.set_cons_zero]
      refine wpAnyC_take 6 (.pointer (some ⟨b, 0, none⟩)) rfl (by kernel_rfl) (by kernel_rfl) (by kernel_rfl) (fun _ _ _ h => h) (wanted_at false rfl rfl rfl rfl) (fun W hW => by go_simp) ?_
      try simp only [Act.put, List.getElem_toArray, List.getElem_cons_succ, List.getElem_cons_zero, List.setIfInBounds_toArray, List.set_cons_succ, List.set_cons_zero]
      refine wpAnyC_take 7 (.int .u8 49) rfl (by kernel_rfl) (by kernel_rfl) (by kernel_rfl) (fun _ _ _ h => h) (wanted_at false rfl rfl rfl rfl) (fun W hW => by have c := hW.1; go_simp) ?_
      try simp only [Act.put, List.getElem_toArray, List.getElem_cons_succ, List.getElem_cons_zero, List.setIfInBounds_toArray, List.set_cons_succ, List.set_cons_zero]
      refine wpAnyC_take 8 (.bool false) rfl (by kernel_rfl) (by kernel_rfl) (by kernel_rfl) (fun _ _ _ h => h) (wanted_at false rfl rfl rfl rfl) (fun W hW => by go_simp) ?_
      try simp only [Act.put, List.getElem_toArray, List.getElem_cons_succ, List.getElem_cons_zero, List.setIfInBounds_toArray, List.set_cons_succ, List.set_cons_zero]
      refine wpAnyC_take 9 (.bool false) rfl (by kernel_rfl) (by kernel_rfl) (by kernel_rfl) (fun _ _ _ h => h) (wanted_free rfl _) (fun W hW => by go_simp) ?_
      try simp only [Act.put, List.getElem_toArray, List.getElem_cons_succ, List.getElem_cons_zero, List.setIfInBounds_toArray, List.set_cons_succ, List.set_cons_zero]
      refine wpAnyC_take 10 (.bool false) rfl (by kernel_rfl) (by kernel_rfl) (by kernel_rfl) (fun _ _ _ h => h) (wanted_free rfl _) (fun W hW => by go_simp) ?_
      try simp only [Act.put, List.getElem_toArray, List.getElem_cons_succ, List.getElem_cons_zero, List.setIfInBounds_toArray, List.set_cons_succ, List.set_cons_zero]
      refine wpAnyC_take 11 (.slice (some ⟨b, 0, none⟩) 1 bc) rfl (by kernel_rfl) (by kernel_rfl) (by kernel_rfl) (fun _ _ _ h => h) (wanted_at false rfl rfl rfl rfl) (fun W hW => by go_simp) ?_
      try simp only [Act.put, List.getElem_toArray, List.getElem_cons_succ, List.getElem_cons_zero, List.setIfInBounds_toArray, List.set_cons_succ, List.set_cons_zero]
      refine wpAnyC_take 12 (.pointer (some ⟨b, 0, none⟩)) rfl (by kernel_rfl) (by kernel_rfl) (by kernel_rfl) (fun _ _ _ h => h) (wanted_at false rfl rfl rfl rfl) (fun W hW => by go_simp) ?_
      try simp only [Act.put, List.getElem_toArray, List.getElem_cons_succ, List.getElem_cons_zero, List.setIfInBounds_toArray, List.set_cons_succ, List.set_cons_zero]
      refine wpAnyC_take 13 (.pointer (some ⟨b, 6, none⟩)) rfl (by kernel_rfl) (by kernel_rfl) (by kernel_rfl) (fun _ _ _ h => h) (wanted_at false rfl rfl rfl rfl) (fun W hW => by go_simp) ?_
      try simp only [Act.put, List.getElem_toArray, List.getElem_cons_succ, List.getElem_cons_zero, List.setIfInBounds_toArray, List.set_cons_succ, List.set_cons_zero]
      refine wpAnyC_take 14 (.pointer (some ⟨b, 11, none⟩)) rfl (by kernel_rfl) (by kernel_rfl) (by kernel_rfl) (fun _ _ _ h => h) (wanted_at false rfl rfl rfl rfl) (fun W hW => by go_simp) ?_
      try simp only [Act.put, List.getElem_toArray, List.getElem_cons_succ, List.getElem_cons_zero, List.setIfInBounds_toArray, List.set_cons_succ, List.set_cons_zero]
      refine wpAnyC_take 15 (.int .u32 at_) rfl (by kernel_rfl) (by kernel_rfl) (by kernel_rfl) (fun _ _ _ h => h) (wanted_at false rfl rfl rfl rfl) (fun W hW => by have c := hW.2.1; go_simp) ?_
      try simp only [Act.put, List.getElem_toArray, List.getElem_cons_succ, List.getElem_cons_zero, List.setIfInBounds_toArray, List.set_cons_succ, List.set_cons_zero]
      refine wpAnyC_take 16 (.int .i64 at_) rfl (by kernel_rfl) (by kernel_rfl) (by kernel_rfl) (fun _ _ _ h => h) (wanted_at false rfl rfl rfl rfl) (fun W hW => by go_simp; try omega) ?_
      try simp only [Act.put, List.getElem_toArray, List.getElem_cons_succ, List.getElem_cons_zero, List.setIfInBounds_toArray, List.set_cons_succ, List.set_cons_zero]
      refine wpAnyC_take 17 (.int .i64 at_) rfl (by kernel_rfl) (by kernel_rfl) (by kernel_rfl) (fun _ _ _ h => h) (wanted_at false rfl rfl rfl rfl) (fun W hW => by go_simp) ?_
      try simp only [Act.put, List.getElem_toArray, List.getElem_cons_succ, List.getElem_cons_zero, List.setIfInBounds_toArray, List.set_cons_succ, List.set_cons_zero]
      refine wpAnyC_take 18 (.bool false) rfl (by kernel_rfl) (by kernel_rfl) (by kernel_rfl) (fun _ _ _ h => h) (wanted_at false rfl rfl rfl rfl) (fun W hW => by go_simp) ?_
      try simp only [Act.put, List.getElem_toArray, List.getElem_cons_succ, List.getElem_cons_zero, List.setIfInBounds_toArray, List.set_cons_succ, List.set_cons_zero]
      refine wpAnyC_take 19 (.bool false) rfl (by kernel_rfl) (by kernel_rfl) (by kernel_rfl) (fun _ _ _ h => h) (wanted_free rfl _) (fun W hW => by go_simp) ?_
      try simp only [Act.put, List.getElem_toArray, List.getElem_cons_succ, List.getElem_cons_zero, List.setIfInBounds_toArray, List.set_cons_succ, List.set_cons_zero]
      refine wpAnyC_take 20 (.bool false) rfl (by kernel_rfl) (by kernel_rfl) (by kernel_rfl) (fun _ _ _ h => h) (wanted_free rfl _) (fun W hW => by go_simp) ?_
      try simp only [Act.put, List.getElem_toArray, List.getElem_cons_succ, List.getElem_cons_zero, List.setIfInBounds_toArray, List.set_cons_succ, List.set_cons_zero]
      refine wpAnyC_take 21 (.slice (some ⟨b, 0, none⟩) 1 bc) rfl (by kernel_rfl) (by kernel_rfl) (by kernel_rfl) (fun _ _ _ h => h) (wanted_at false rfl rfl rfl rfl) (fun W hW => by go_simp) ?_
      try simp only [Act.put, List.getElem_toArray, List.getElem_cons_succ, List.getElem_cons_zero, List.setIfInBounds_toArray, List.set_cons_succ, List.set_cons_zero]
      refine wpAnyC_take 22 (.pointer (some ⟨b, 0, none⟩)) rfl (by kernel_rfl) (by kernel_rfl) (by kernel_rfl) (fun _ _ _ h => h) (wanted_at false rfl rfl rfl rfl) (fun W hW => by go_simp) ?_
      try simp only [Act.put, List.getElem_toArray, List.getElem_cons_succ, List.getElem_cons_zero, List.setIfInBounds_toArray, List.set_cons_succ, List.set_cons_zero]
      refine wpAnyC_take 23 (.pointer (some ⟨b, 6, none⟩)) rfl (by kernel_rfl) (by kernel_rfl) (by kernel_rfl) (fun _ _ _ h => h) (wanted_at false rfl rfl rfl rfl) (fun W hW => by go_simp) ?_
      try simp only [Act.put, List.getElem_toArray, List.getElem_cons_succ, List.getElem_cons_zero, List.setIfInBounds_toArray, List.set_cons_succ, List.set_cons_zero]
      refine wpAnyC_take 24 (.pointer (some ⟨b, 12, none⟩)) rfl (by kernel_rfl) (by kernel_rfl) (by kernel_rfl) (fun _ _ _ h => h) (wanted_at false rfl rfl rfl rfl) (fun W hW => by go_simp) ?_
      try simp only [Act.put, List.getElem_toArray, List.getElem_cons_succ, List.getElem_cons_zero, List.setIfInBounds_toArray, List.set_cons_succ, List.set_cons_zero]
      refine wpAnyC_take 25 (.int .u32 zz) rfl (by kernel_rfl) (by kernel_rfl) (by kernel_rfl) (fun _ _ _ h => h) (wanted_at false rfl rfl rfl rfl) (fun W hW => by have c := hW.2.2.1; go_simp) ?_
      try simp only [Act.put, List.getElem_toArray, List.getElem_cons_succ, List.getElem_cons_zero, List.setIfInBounds_toArray, List.set_cons_succ, List.set_cons_zero]
      refine wpAnyC_take 26 (.int .i64 zz) rfl (by kernel_rfl) (by kernel_rfl) (by kernel_rfl) (fun _ _ _ h => h) (wanted_at false rfl rfl rfl rfl) (fun W hW => by go_simp; try omega) ?_
      try simp only [Act.put, List.getElem_toArray, List.getElem_cons_succ, List.getElem_cons_zero, List.setIfInBounds_toArray, List.set_cons_succ, List.set_cons_zero]
      refine wpAnyC_take 27 (.pointer (some ⟨P, 6, none⟩)) rfl (by kernel_rfl) (by kernel_rfl) (by kernel_rfl) (fun _ _ _ h => h) (wanted_at false rfl rfl rfl rfl) (fun W hW => by go_simp) ?_
      try simp only [Act.put, List.getElem_toArray, List.getElem_cons_succ, List.getElem_cons_zero, List.setIfInBounds_toArray, List.set_cons_succ, List.set_cons_zero]
      refine wpAnyC_take 28 (.int .i64 g) rfl (by kernel_rfl) (by kernel_rfl) (by kernel_rfl) (fun _ _ _ h => h) (wanted_at false rfl rfl rfl rfl) (fun W hW => by have c := hW.2.2.2; go_simp) ?_
      try simp only [Act.put, List.getElem_toArray, List.getElem_cons_succ, List.getElem_cons_zero, List.setIfInBounds_toArray, List.set_cons_succ, List.set_cons_zero]
      refine wpAnyC_take 29 (.slice (some ⟨b0, o0, none⟩) n c) rfl (by kernel_rfl) (by kernel_rfl) (by kernel_rfl) (fun _ _ _ h => h) (wanted_at false rfl rfl rfl rfl) (fun W hW => by go_simp) ?_
      try simp only [Act.put, List.getElem_toArray, List.getElem_cons_succ, List.getElem_cons_zero, List.setIfInBounds_toArray, List.set_cons_succ, List.set_cons_zero]
      refine wpAnyC_take 30 (.int .i64 n) rfl (by kernel_rfl) (by kernel_rfl) (by kernel_rfl) (fun _ _ _ h => h) (wanted_at false rfl rfl rfl rfl) (fun W hW => by go_simp) ?_
      try simp only [Act.put, List.getElem_toArray, List.getElem_cons_succ, List.getElem_cons_zero, List.setIfInBounds_toArray, List.set_cons_succ, List.set_cons_zero]
      refine wpAnyC_take 31 (.int .i64 at_) rfl (by kernel_rfl) (by kernel_rfl) (by kernel_rfl) (fun _ _ _ h => h) (wanted_at false rfl rfl rfl rfl) (fun W hW => by go_simp) ?_
      try simp only [Act.put, List.getElem_toArray, List.getElem_cons_succ, List.getElem_cons_zero, List.setIfInBounds_toArray, List.set_cons_succ, List.set_cons_zero]
      refine wpAnyC_take 32 (.int .i64 ((n : Int) - at_)) rfl (by kernel_rfl) (by kernel_rfl) (by kernel_rfl) (fun _ _ _ h => h) (wanted_at false rfl rfl rfl rfl) (fun W hW => by go_simp; try omega) ?_
      try simp only [Act.put, List.getElem_toArray, List.getElem_cons_succ, List.getElem_cons_zero, List.setIfInBounds_toArray, List.set_cons_succ, List.set_cons_zero]
      refine wpAnyC_take 33 (.int .i64 zz) rfl (by kernel_rfl) (by kernel_rfl) (by kernel_rfl) (fun _ _ _ h => h) (wanted_at false rfl rfl rfl rfl) (fun W hW => by go_simp; try (split <;> omega)) ?_
      try simp only [Act.put, List.getElem_toArray, List.getElem_cons_succ, List.getElem_cons_zero, List.setIfInBounds_toArray, List.set_cons_succ, List.set_cons_zero]
      refine wpAnyC_take 34 (.bool false) rfl (by kernel_rfl) (by kernel_rfl) (by kernel_rfl) (fun _ _ _ h => h) (wanted_at false rfl rfl rfl rfl) (fun W hW => by go_simp) ?_
      try simp only [Act.put, List.getElem_toArray, List.getElem_cons_succ, List.getElem_cons_zero, List.setIfInBounds_toArray, List.set_cons_succ, List.set_cons_zero]
      refine wpAnyC_take 35 (.bool false) rfl (by kernel_rfl) (by kernel_rfl) (by kernel_rfl) (fun _ _ _ h => h) (wanted_free rfl _) (fun W hW => by go_simp) ?_
      try simp only [Act.put, List.getElem_toArray, List.getElem_cons_succ, List.getElem_cons_zero, List.setIfInBounds_toArray, List.set_cons_succ, List.set_cons_zero]
      have hgo1 : Kpt (Goes w5.heap.size wr.drew S (wdO n) D n g at_ en tag) := ⟨hgo.out.below (below_drew wr)⟩
      have hq1 : Kpt (Below w5.heap.size w5 wr.drew) := ⟨hq.out.trans ((below_drew wr).mono hq.out.size)⟩
      have c6' : wr.drew.cell? ⟨b, 6, none⟩ = some (.int .u32 tag) := c6
      have c12' : wr.drew.cell? ⟨b, 12, none⟩ = some (.int .u32 zz) := c12
      have hcl1 : Kpt (wr.drew.cell? ⟨b, 0, none⟩ = some (.int .u8 49) ∧ wr.drew.cell? ⟨b, 11, none⟩ = some (.int .u32 at_) ∧ wr.drew.cell? ⟨b, 12, none⟩ = some (.int .u32 zz) ∧ wr.drew.cell? ⟨P, 6, none⟩ = some (.int .i64 g)) := ⟨hcl0.out⟩
      obtain ⟨W1, hW1⟩ : ∃ W, W = wr.drew := ⟨_, rfl⟩
      rw [← hW1] at hgo1 hq1 c6' c12' hcl1
      refine wpAnyC_world hW1 ?_
      clear hW1 hcl0 hgo hq c6 c12 hfin
      refine wpAnyC_done (hcl1.out) (by kernel_rfl) ?_
      clear hcl1
      have z0 : (0 : Int) < bc := by omega
      go_upto_region 17 with fail
      clear c6' c12' m1 m2 m3 m4 m5 z0
      go_loopg [13, 14, 15, 16] zz (fun i r13 r14 r15 r16 wx => ∃ (a2 k2 : Nat), r15 = .int .i64 (a2 : Int) ∧ r16 = .int .i64 (k2 : Int) ∧ a2 + i = en ∧ k2 ≤ a2 ∧ Kpt (at_ < a2 ∨ a2 < en) ∧ Kpt (Nx w5.heap.size wx S (wdO n) D n g a2 en tag r13 r14) ∧ Kpt (Below w5.heap.size w5 wx))
      case atStart => exact ⟨at_, kk, rfl, rfl, by have := hen.out; omega, hkk, ⟨.inr hen2.1⟩, ⟨⟨.inl ⟨hen2.1, rfl, ⟨ua, uc, rfl⟩, hgo1.out⟩⟩⟩, hq1⟩
      case round =>
        obtain ⟨a2, k2, rfl, rfl, ha2, hk2, hgrow, hnx, hq2⟩ := hrel
        clear hgo1 hq1
        rcases hnx.out.or with ⟨hae, rfl, ⟨ub, ud, rfl⟩, hgo⟩ | hdone
        · have p1 : (a2 : Int) < en := by omega
          have p2 : IntKind.i64.wrap ((en : Int) - a2) = (en : Int) - a2 := by rw [IntKind.wrap_i64]; omega
          replace hgo := Kpt.mk hgo
          clear hnx
          go_upto_region 19 with fail
          obtain ⟨W2, hW2⟩ : ∃ W, W = wr := ⟨_, rfl⟩
          rw [← hW2] at hgo hq2 ⊢
          clear hW2
          have hk3 : Kpt (at_ < en) := ⟨hen2.1⟩
          by_cases hk : k2 < cl ∧ k2 < 200
          · have x1 : (k2 : Int) < cl := by omega
            have x2 : (k2 : Int) < 200 := by omega
            have x1d : decide ((k2 : Int) < cl) = true := by simp; omega
            have x2d : decide ((k2 : Int) < 200) = true := by simp; omega
            obtain ⟨x, hx⟩ : ∃ x : Nat, (x : Int) = cs.getD k2 0 := ⟨(cs.getD k2 0).toNat, by have := hby.out k2; omega⟩
            have hx255 : x ≤ 255 := by have := hby.out k2; omega
            have hcell : ∃ cb co, ca = some ⟨cb, co, none⟩ ∧ W2.cell? ⟨cb, co + k2, none⟩ = some (.int .u8 x) := by
              obtain ⟨_, _, e, _, _, h3⟩ := hcs5.out W2 hq2.out
              simp only [Value.slice.injEq] at e
              obtain ⟨rfl, -, rfl⟩ := e
              rcases h3 with h3 | ⟨cb, co, e', h3⟩
              · have := hcl.out; omega
              · refine ⟨cb, co, e', h3 k2 _ ?_⟩
                have hk2c : k2 < cs.length := by have := hcl.out; omega
                rw [hx]
                simp [cels, hk2c]
            obtain ⟨cb, co, hca, hcell⟩ := hcell
            subst hca
            replace hx := Kpt.mk hx
            have x3 : IntKind.i64.wrap (x : Int) = x := by rw [IntKind.wrap_i64]; omega
            replace hk := Kpt.mk hk
            by_cases hmn : 1 + x < en - a2
            · obtain ⟨m, hm⟩ : ∃ m : Nat, m = 1 + x := ⟨_, rfl⟩
              have x4 : IntKind.i64.wrap (1 + (x : Int)) = (m : Int) := by rw [IntKind.wrap_i64]; omega
              have x6 : 1 + (x : Int) = (m : Int) := by omega
              have x5 : (m : Int) < (en : Int) - a2 := by omega
              have hm0 : 0 < m := by omega
              have hm1 : a2 + m ≤ en := by omega
              replace hm := Kpt.mk hm
              replace hmn := Kpt.mk hmn
              go_upto_region 21 with fail
              clear hcell
              have y1 : IntKind.i64.wrap ((k2 : Int) + 1) = (k2 : Int) + 1 := by rw [IntKind.wrap_i64]; omega
              have y2 : IntKind.u32.wrap (a2 : Int) = a2 := by rw [IntKind.wrap_u32]; omega
              obtain ⟨a3, ha3⟩ : ∃ a3, a3 = a2 + m := ⟨_, rfl⟩
              have y3 : IntKind.i64.wrap ((a2 : Int) + m) = (a3 : Int) := by rw [IntKind.wrap_i64]; omega
              have y3' : (a2 : Int) + m = (a3 : Int) := by omega
              have y4 : (a2 : Int) ≤ a3 := by omega
              have y5 : (a3 : Int) ≤ c := by omega
              have y7 : ¬ c = a2 := by omega
              have y8 : a3 - a2 = m := by omega
              have y9 : a2 ≤ a3 ∧ a3 ≤ c := by omega
              have hone : Kpt (∀ fl, (dtP tag a2 fl (.slice (some ⟨b0, o0 + a2, none⟩) m (c - a2))).v.all (·.oneCell') = true) := ⟨fun fl => (Pd.one (p := dtP tag a2 fl (.slice (some ⟨b0, o0 + a2, none⟩) m (c - a2))) rfl).2⟩
              have hIn : Kpt (∀ W fl, Below W2.heap.size W2 W → (a2 + m < en → fl = 0) → Calls Try.prog 11 #[.pointer (some ⟨S, 0, none⟩), .agg (dtP tag a2 fl (.slice (some ⟨b0, o0 + a2, none⟩) m (c - a2))).v] W fun e w' => ∃ v u, e = .returned (.tuple #[v, u]) ∧ Below w5.heap.size W w' ∧ Nx w5.heap.size w' S (wdO n) D n g a3 en tag v u) := ⟨fun W fl hb hf => by
                rw [ha3]
                exact in_step w5.heap.size S (wdO n) D n g a2 m en tag b0 (o0 + a2) (c - a2) (dtP tag a2 fl (.slice (some ⟨b0, o0 + a2, none⟩) m (c - a2))) W (hgo.out.below hb) (Nat.le_trans hq2.out.size hb.size) (rd_mid (hrd5.out W (hq2.out.trans (hb.mono hq2.out.size))) a2 m hm0 (by omega)) hb5 hm0 hm1 hen2.2 hn.2 hDn.out hg0 rfl rfl rfl rfl rfl hf⟩
              replace ha3 := Kpt.mk ha3
              go_upto_region 24 with (first
                | (refine (?_ : wpList _ _ _ (Oper.mk _ (Op.alloc 37) _ _ _ _ :: _) _ _); go_must (refine wpList_var rfl 37 rfl _ zPdu ?_; intro C2 w7 hC hB7 hb7; replace hb7 := Kpt.mk hb7; replace hC := Kpt.mk hC; have x7 := Kpt.mk hB7; clear hB7))
                | (refine (?_ : wpList _ _ _ (Oper.mk _ (Op.store 37 _ _) _ _ _ _ :: _) _ _); go_must (refine wpList_store_bx rfl 37 _ _ rfl C2 zP.v (dtP tag a2 0 (.slice (some ⟨b0, o0 + a2, none⟩) m (c - a2))).v rfl rfl x7.out rfl szPdu (hone.out 0) rfl ?_; intro w8 hB8 hg8; have b8 := Kpt.mk (hb7.out.grown hg8 hb7.out.size (fun q e => by injection e with e; subst e; exact hC.out)); have x8 := Kpt.mk hB8; clear hB8 hg8)))
              clear hb7 x7
              by_cases hl : a3 = en
              · have l1 : (a3 : Int) = en := by omega
                have l2 : ((a3 : Int) == (en : Int)) = true := by simp; omega
                have l3 : decide ((a3 : Int) = (en : Int)) = true := by simp; omega
                replace l1 := Kpt.mk l1
                have c1 := x8.out.cells 1 (by simp [Pd.v])
                have f1 := x8.out.free 1
                simp [Pd.v, dtP, zP] at c1
                have x9 : Kpt (Bx (w8.setCell ⟨C2, 1, none⟩ (.int .u8 128)) C2 (dtP tag a2 128 (.slice (some ⟨b0, o0 + a2, none⟩) m (c - a2))).v) := ⟨by have := bx_setC (.int .u8 128) x8.out (j := 1) (by simp [Pd.v]); simpa [Pd.v, dtP, zP] using this⟩
                have b9 : Kpt (Below W2.heap.size W2 (w8.setCell ⟨C2, 1, none⟩ (.int .u8 128))) := ⟨b8.out.setCell (p := ⟨C2, 1, none⟩) hC.out _⟩
                replace hl := Kpt.mk hl
                go_upto_region 26 with fail
                obtain ⟨w9, hw9⟩ : ∃ W, W = w8.setCell ⟨C2, 1, none⟩ (.int .u8 128) := ⟨_, rfl⟩
                rw [← hw9] at x9 b9 ⊢
                clear hw9 x8 b8 c1 f1
                go_wp2_with (first
                  | (refine (?_ : wpList _ _ _ (Oper.mk _ (Op.load 37 _) _ _ _ _ :: _) _ _); go_must (refine wpList_load_bx rfl 37 _ rfl C2 (dtP tag a2 128 (.slice (some ⟨b0, o0 + a2, none⟩) m (c - a2))).v rfl x9.out _ Try.underlying37 rfl szPdu ?_; have hm2 := hg0))
                  | (go_at_call 11; go_must (refine (hIn.out _ 128 b9.out (fun h => by have := hl.out; have := ha3.out; omega)).mono ?_; rintro e w10 ⟨v10, u10, rfl, hb10, hn10⟩; have q10 := Kpt.mk ((hq2.out.trans (b9.out.mono hq2.out.size)).trans hb10); replace hn10 := Kpt.mk hn10; clear hb10)))
                go_roundg (en - a3)
                case measure => have := ha3.out; omega
                case rel => exact ⟨a3, k2 + 1, by first | rfl | go_num, by first | rfl | go_num, by have := hl.out; omega, by have := ha3.out; omega, ⟨by have := ha3.out; have := hgrow.out; have := hk3.out; omega⟩, hn10, q10⟩
              · have l2 : ((a3 : Int) == (en : Int)) = false := by simp; omega
                have l3 : decide ((a3 : Int) = (en : Int)) = false := by simp; omega
                replace hl := Kpt.mk hl
                go_wp2_with (first
                  | (refine (?_ : wpList _ _ _ (Oper.mk _ (Op.load 37 _) _ _ _ _ :: _) _ _); go_must (refine wpList_load_bx rfl 37 _ rfl C2 (dtP tag a2 0 (.slice (some ⟨b0, o0 + a2, none⟩) m (c - a2))).v rfl x8.out _ Try.underlying37 rfl szPdu ?_; have hm2 := hg0))
                  | (go_at_call 11; go_must (refine (hIn.out _ 0 b8.out (fun h => rfl)).mono ?_; rintro e w10 ⟨v10, u10, rfl, hb10, hn10⟩; have q10 := Kpt.mk ((hq2.out.trans (b8.out.mono hq2.out.size)).trans hb10); replace hn10 := Kpt.mk hn10; clear hb10)))
                go_roundg (en - a3)
                case measure => have := ha3.out; omega
                case rel => exact ⟨a3, k2 + 1, by first | rfl | go_num, by first | rfl | go_num, by have := hl.out; have := ha3.out; omega, by have := ha3.out; omega, ⟨by have := hl.out; have := ha3.out; omega⟩, hn10, q10⟩
            · obtain ⟨m, hm⟩ : ∃ m : Nat, m = en - a2 := ⟨_, rfl⟩
              have x4 : IntKind.i64.wrap (1 + (x : Int)) = 1 + (x : Int) := by rw [IntKind.wrap_i64]; omega
              have x6 : (en : Int) - a2 = (m : Int) := by omega
              have x5 : ¬ 1 + (x : Int) < (m : Int) := by omega
              have hm0 : 0 < m := by omega
              have hm1 : a2 + m ≤ en := by omega
              replace hm := Kpt.mk hm
              replace hmn := Kpt.mk hmn
              go_upto_region 21 with fail
              clear hcell
              have y1 : IntKind.i64.wrap ((k2 : Int) + 1) = (k2 : Int) + 1 := by rw [IntKind.wrap_i64]; omega
              have y2 : IntKind.u32.wrap (a2 : Int) = a2 := by rw [IntKind.wrap_u32]; omega
              obtain ⟨a3, ha3⟩ : ∃ a3, a3 = a2 + m := ⟨_, rfl⟩
              have y3 : IntKind.i64.wrap ((a2 : Int) + m) = (a3 : Int) := by rw [IntKind.wrap_i64]; omega
              have y3' : (a2 : Int) + m = (a3 : Int) := by omega
              have y4 : (a2 : Int) ≤ a3 := by omega
              have y5 : (a3 : Int) ≤ c := by omega
              have y7 : ¬ c = a2 := by omega
              have y8 : a3 - a2 = m := by omega
              have y9 : a2 ≤ a3 ∧ a3 ≤ c := by omega
              have hone : Kpt (∀ fl, (dtP tag a2 fl (.slice (some ⟨b0, o0 + a2, none⟩) m (c - a2))).v.all (·.oneCell') = true) := ⟨fun fl => (Pd.one (p := dtP tag a2 fl (.slice (some ⟨b0, o0 + a2, none⟩) m (c - a2))) rfl).2⟩
              have hIn : Kpt (∀ W fl, Below W2.heap.size W2 W → (a2 + m < en → fl = 0) → Calls Try.prog 11 #[.pointer (some ⟨S, 0, none⟩), .agg (dtP tag a2 fl (.slice (some ⟨b0, o0 + a2, none⟩) m (c - a2))).v] W fun e w' => ∃ v u, e = .returned (.tuple #[v, u]) ∧ Below w5.heap.size W w' ∧ Nx w5.heap.size w' S (wdO n) D n g a3 en tag v u) := ⟨fun W fl hb hf => by
                rw [ha3]
                exact in_step w5.heap.size S (wdO n) D n g a2 m en tag b0 (o0 + a2) (c - a2) (dtP tag a2 fl (.slice (some ⟨b0, o0 + a2, none⟩) m (c - a2))) W (hgo.out.below hb) (Nat.le_trans hq2.out.size hb.size) (rd_mid (hrd5.out W (hq2.out.trans (hb.mono hq2.out.size))) a2 m hm0 (by omega)) hb5 hm0 hm1 hen2.2 hn.2 hDn.out hg0 rfl rfl rfl rfl rfl hf⟩
              replace ha3 := Kpt.mk ha3
              go_upto_region 24 with (first
                | (refine (?_ : wpList _ _ _ (Oper.mk _ (Op.alloc 37) _ _ _ _ :: _) _ _); go_must (refine wpList_var rfl 37 rfl _ zPdu ?_; intro C2 w7 hC hB7 hb7; replace hb7 := Kpt.mk hb7; replace hC := Kpt.mk hC; have x7 := Kpt.mk hB7; clear hB7))
                | (refine (?_ : wpList _ _ _ (Oper.mk _ (Op.store 37 _ _) _ _ _ _ :: _) _ _); go_must (refine wpList_store_bx rfl 37 _ _ rfl C2 zP.v (dtP tag a2 0 (.slice (some ⟨b0, o0 + a2, none⟩) m (c - a2))).v rfl rfl x7.out rfl szPdu (hone.out 0) rfl ?_; intro w8 hB8 hg8; have b8 := Kpt.mk (hb7.out.grown hg8 hb7.out.size (fun q e => by injection e with e; subst e; exact hC.out)); have x8 := Kpt.mk hB8; clear hB8 hg8)))
              clear hb7 x7
              by_cases hl : a3 = en
              · have l1 : (a3 : Int) = en := by omega
                have l2 : ((a3 : Int) == (en : Int)) = true := by simp; omega
                have l3 : decide ((a3 : Int) = (en : Int)) = true := by simp; omega
                replace l1 := Kpt.mk l1
                have c1 := x8.out.cells 1 (by simp [Pd.v])
                have f1 := x8.out.free 1
                simp [Pd.v, dtP, zP] at c1
                have x9 : Kpt (Bx (w8.setCell ⟨C2, 1, none⟩ (.int .u8 128)) C2 (dtP tag a2 128 (.slice (some ⟨b0, o0 + a2, none⟩) m (c - a2))).v) := ⟨by have := bx_setC (.int .u8 128) x8.out (j := 1) (by simp [Pd.v]); simpa [Pd.v, dtP, zP] using this⟩
                have b9 : Kpt (Below W2.heap.size W2 (w8.setCell ⟨C2, 1, none⟩ (.int .u8 128))) := ⟨b8.out.setCell (p := ⟨C2, 1, none⟩) hC.out _⟩
                replace hl := Kpt.mk hl
                go_upto_region 26 with fail
                obtain ⟨w9, hw9⟩ : ∃ W, W = w8.setCell ⟨C2, 1, none⟩ (.int .u8 128) := ⟨_, rfl⟩
                rw [← hw9] at x9 b9 ⊢
                clear hw9 x8 b8 c1 f1
                go_wp2_with (first
                  | (refine (?_ : wpList _ _ _ (Oper.mk _ (Op.load 37 _) _ _ _ _ :: _) _ _); go_must (refine wpList_load_bx rfl 37 _ rfl C2 (dtP tag a2 128 (.slice (some ⟨b0, o0 + a2, none⟩) m (c - a2))).v rfl x9.out _ Try.underlying37 rfl szPdu ?_; have hm2 := hg0))
                  | (go_at_call 11; go_must (refine (hIn.out _ 128 b9.out (fun h => by have := hl.out; have := ha3.out; omega)).mono ?_; rintro e w10 ⟨v10, u10, rfl, hb10, hn10⟩; have q10 := Kpt.mk ((hq2.out.trans (b9.out.mono hq2.out.size)).trans hb10); replace hn10 := Kpt.mk hn10; clear hb10)))
                go_roundg (en - a3)
                case measure => have := ha3.out; omega
                case rel => exact ⟨a3, k2 + 1, by first | rfl | go_num, by first | rfl | go_num, by have := hl.out; omega, by have := ha3.out; omega, ⟨by have := ha3.out; have := hgrow.out; have := hk3.out; omega⟩, hn10, q10⟩
              · have l2 : ((a3 : Int) == (en : Int)) = false := by simp; omega
                have l3 : decide ((a3 : Int) = (en : Int)) = false := by simp; omega
                replace hl := Kpt.mk hl
                go_wp2_with (first
                  | (refine (?_ : wpList _ _ _ (Oper.mk _ (Op.load 37 _) _ _ _ _ :: _) _ _); go_must (refine wpList_load_bx rfl 37 _ rfl C2 (dtP tag a2 0 (.slice (some ⟨b0, o0 + a2, none⟩) m (c - a2))).v rfl x8.out _ Try.underlying37 rfl szPdu ?_; have hm2 := hg0))
                  | (go_at_call 11; go_must (refine (hIn.out _ 0 b8.out (fun h => rfl)).mono ?_; rintro e w10 ⟨v10, u10, rfl, hb10, hn10⟩; have q10 := Kpt.mk ((hq2.out.trans (b8.out.mono hq2.out.size)).trans hb10); replace hn10 := Kpt.mk hn10; clear hb10)))
                go_roundg (en - a3)
                case measure => have := ha3.out; omega
                case rel => exact ⟨a3, k2 + 1, by first | rfl | go_num, by first | rfl | go_num, by have := hl.out; have := ha3.out; omega, by have := ha3.out; omega, ⟨by have := hl.out; have := ha3.out; omega⟩, hn10, q10⟩
          · obtain ⟨m, hm⟩ : ∃ m : Nat, m = en - a2 := ⟨_, rfl⟩
            have x6 : (en : Int) - a2 = (m : Int) := by omega
            have hm0 : 0 < m := by omega
            have hm1 : a2 + m ≤ en := by omega
            replace hm := Kpt.mk hm
            by_cases hk4 : k2 < cl
            · have x1 : (k2 : Int) < cl := by omega
              have x2 : ¬ (k2 : Int) < 200 := by omega
              have x1d : decide ((k2 : Int) < cl) = true := by simp; omega
              have x2d : decide ((k2 : Int) < 200) = false := by simp; omega
              replace hk := Kpt.mk hk
              go_upto_region 21 with fail
              have y1 : IntKind.i64.wrap ((k2 : Int) + 1) = (k2 : Int) + 1 := by rw [IntKind.wrap_i64]; omega
              have y2 : IntKind.u32.wrap (a2 : Int) = a2 := by rw [IntKind.wrap_u32]; omega
              obtain ⟨a3, ha3⟩ : ∃ a3, a3 = a2 + m := ⟨_, rfl⟩
              have y3 : IntKind.i64.wrap ((a2 : Int) + m) = (a3 : Int) := by rw [IntKind.wrap_i64]; omega
              have y3' : (a2 : Int) + m = (a3 : Int) := by omega
              have y4 : (a2 : Int) ≤ a3 := by omega
              have y5 : (a3 : Int) ≤ c := by omega
              have y7 : ¬ c = a2 := by omega
              have y8 : a3 - a2 = m := by omega
              have y9 : a2 ≤ a3 ∧ a3 ≤ c := by omega
              have hone : Kpt (∀ fl, (dtP tag a2 fl (.slice (some ⟨b0, o0 + a2, none⟩) m (c - a2))).v.all (·.oneCell') = true) := ⟨fun fl => (Pd.one (p := dtP tag a2 fl (.slice (some ⟨b0, o0 + a2, none⟩) m (c - a2))) rfl).2⟩
              have hIn : Kpt (∀ W fl, Below W2.heap.size W2 W → (a2 + m < en → fl = 0) → Calls Try.prog 11 #[.pointer (some ⟨S, 0, none⟩), .agg (dtP tag a2 fl (.slice (some ⟨b0, o0 + a2, none⟩) m (c - a2))).v] W fun e w' => ∃ v u, e = .returned (.tuple #[v, u]) ∧ Below w5.heap.size W w' ∧ Nx w5.heap.size w' S (wdO n) D n g a3 en tag v u) := ⟨fun W fl hb hf => by
                rw [ha3]
                exact in_step w5.heap.size S (wdO n) D n g a2 m en tag b0 (o0 + a2) (c - a2) (dtP tag a2 fl (.slice (some ⟨b0, o0 + a2, none⟩) m (c - a2))) W (hgo.out.below hb) (Nat.le_trans hq2.out.size hb.size) (rd_mid (hrd5.out W (hq2.out.trans (hb.mono hq2.out.size))) a2 m hm0 (by omega)) hb5 hm0 hm1 hen2.2 hn.2 hDn.out hg0 rfl rfl rfl rfl rfl hf⟩
              replace ha3 := Kpt.mk ha3
              go_upto_region 24 with (first
                | (refine (?_ : wpList _ _ _ (Oper.mk _ (Op.alloc 37) _ _ _ _ :: _) _ _); go_must (refine wpList_var rfl 37 rfl _ zPdu ?_; intro C2 w7 hC hB7 hb7; replace hb7 := Kpt.mk hb7; replace hC := Kpt.mk hC; have x7 := Kpt.mk hB7; clear hB7))
                | (refine (?_ : wpList _ _ _ (Oper.mk _ (Op.store 37 _ _) _ _ _ _ :: _) _ _); go_must (refine wpList_store_bx rfl 37 _ _ rfl C2 zP.v (dtP tag a2 0 (.slice (some ⟨b0, o0 + a2, none⟩) m (c - a2))).v rfl rfl x7.out rfl szPdu (hone.out 0) rfl ?_; intro w8 hB8 hg8; have b8 := Kpt.mk (hb7.out.grown hg8 hb7.out.size (fun q e => by injection e with e; subst e; exact hC.out)); have x8 := Kpt.mk hB8; clear hB8 hg8)))
              clear hb7 x7
              by_cases hl : a3 = en
              · have l1 : (a3 : Int) = en := by omega
                have l2 : ((a3 : Int) == (en : Int)) = true := by simp; omega
                have l3 : decide ((a3 : Int) = (en : Int)) = true := by simp; omega
                replace l1 := Kpt.mk l1
                have c1 := x8.out.cells 1 (by simp [Pd.v])
                have f1 := x8.out.free 1
                simp [Pd.v, dtP, zP] at c1
                have x9 : Kpt (Bx (w8.setCell ⟨C2, 1, none⟩ (.int .u8 128)) C2 (dtP tag a2 128 (.slice (some ⟨b0, o0 + a2, none⟩) m (c - a2))).v) := ⟨by have := bx_setC (.int .u8 128) x8.out (j := 1) (by simp [Pd.v]); simpa [Pd.v, dtP, zP] using this⟩
                have b9 : Kpt (Below W2.heap.size W2 (w8.setCell ⟨C2, 1, none⟩ (.int .u8 128))) := ⟨b8.out.setCell (p := ⟨C2, 1, none⟩) hC.out _⟩
                replace hl := Kpt.mk hl
                go_upto_region 26 with fail
                obtain ⟨w9, hw9⟩ : ∃ W, W = w8.setCell ⟨C2, 1, none⟩ (.int .u8 128) := ⟨_, rfl⟩
                rw [← hw9] at x9 b9 ⊢
                clear hw9 x8 b8 c1 f1
                go_wp2_with (first
                  | (refine (?_ : wpList _ _ _ (Oper.mk _ (Op.load 37 _) _ _ _ _ :: _) _ _); go_must (refine wpList_load_bx rfl 37 _ rfl C2 (dtP tag a2 128 (.slice (some ⟨b0, o0 + a2, none⟩) m (c - a2))).v rfl x9.out _ Try.underlying37 rfl szPdu ?_; have hm2 := hg0))
                  | (go_at_call 11; go_must (refine (hIn.out _ 128 b9.out (fun h => by have := hl.out; have := ha3.out; omega)).mono ?_; rintro e w10 ⟨v10, u10, rfl, hb10, hn10⟩; have q10 := Kpt.mk ((hq2.out.trans (b9.out.mono hq2.out.size)).trans hb10); replace hn10 := Kpt.mk hn10; clear hb10)))
                go_roundg (en - a3)
                case measure => have := ha3.out; omega
                case rel => exact ⟨a3, k2 + 1, by first | rfl | go_num, by first | rfl | go_num, by have := hl.out; omega, by have := ha3.out; omega, ⟨by have := ha3.out; have := hgrow.out; have := hk3.out; omega⟩, hn10, q10⟩
              · have l2 : ((a3 : Int) == (en : Int)) = false := by simp; omega
                have l3 : decide ((a3 : Int) = (en : Int)) = false := by simp; omega
                replace hl := Kpt.mk hl
                go_wp2_with (first
                  | (refine (?_ : wpList _ _ _ (Oper.mk _ (Op.load 37 _) _ _ _ _ :: _) _ _); go_must (refine wpList_load_bx rfl 37 _ rfl C2 (dtP tag a2 0 (.slice (some ⟨b0, o0 + a2, none⟩) m (c - a2))).v rfl x8.out _ Try.underlying37 rfl szPdu ?_; have hm2 := hg0))
                  | (go_at_call 11; go_must (refine (hIn.out _ 0 b8.out (fun h => rfl)).mono ?_; rintro e w10 ⟨v10, u10, rfl, hb10, hn10⟩; have q10 := Kpt.mk ((hq2.out.trans (b8.out.mono hq2.out.size)).trans hb10); replace hn10 := Kpt.mk hn10; clear hb10)))
                go_roundg (en - a3)
                case measure => have := ha3.out; omega
                case rel => exact ⟨a3, k2 + 1, by first | rfl | go_num, by first | rfl | go_num, by have := hl.out; have := ha3.out; omega, by have := ha3.out; omega, ⟨by have := hl.out; have := ha3.out; omega⟩, hn10, q10⟩
            · have x1 : ¬ (k2 : Int) < cl := by omega
              have x1d : decide ((k2 : Int) < cl) = false := by simp; omega
              replace hk := Kpt.mk hk
              go_upto_region 21 with fail
              have y1 : IntKind.i64.wrap ((k2 : Int) + 1) = (k2 : Int) + 1 := by rw [IntKind.wrap_i64]; omega
              have y2 : IntKind.u32.wrap (a2 : Int) = a2 := by rw [IntKind.wrap_u32]; omega
              obtain ⟨a3, ha3⟩ : ∃ a3, a3 = a2 + m := ⟨_, rfl⟩
              have y3 : IntKind.i64.wrap ((a2 : Int) + m) = (a3 : Int) := by rw [IntKind.wrap_i64]; omega
              have y3' : (a2 : Int) + m = (a3 : Int) := by omega
              have y4 : (a2 : Int) ≤ a3 := by omega
              have y5 : (a3 : Int) ≤ c := by omega
              have y7 : ¬ c = a2 := by omega
              have y8 : a3 - a2 = m := by omega
              have y9 : a2 ≤ a3 ∧ a3 ≤ c := by omega
              have hone : Kpt (∀ fl, (dtP tag a2 fl (.slice (some ⟨b0, o0 + a2, none⟩) m (c - a2))).v.all (·.oneCell') = true) := ⟨fun fl => (Pd.one (p := dtP tag a2 fl (.slice (some ⟨b0, o0 + a2, none⟩) m (c - a2))) rfl).2⟩
              have hIn : Kpt (∀ W fl, Below W2.heap.size W2 W → (a2 + m < en → fl = 0) → Calls Try.prog 11 #[.pointer (some ⟨S, 0, none⟩), .agg (dtP tag a2 fl (.slice (some ⟨b0, o0 + a2, none⟩) m (c - a2))).v] W fun e w' => ∃ v u, e = .returned (.tuple #[v, u]) ∧ Below w5.heap.size W w' ∧ Nx w5.heap.size w' S (wdO n) D n g a3 en tag v u) := ⟨fun W fl hb hf => by
                rw [ha3]
                exact in_step w5.heap.size S (wdO n) D n g a2 m en tag b0 (o0 + a2) (c - a2) (dtP tag a2 fl (.slice (some ⟨b0, o0 + a2, none⟩) m (c - a2))) W (hgo.out.below hb) (Nat.le_trans hq2.out.size hb.size) (rd_mid (hrd5.out W (hq2.out.trans (hb.mono hq2.out.size))) a2 m hm0 (by omega)) hb5 hm0 hm1 hen2.2 hn.2 hDn.out hg0 rfl rfl rfl rfl rfl hf⟩
              replace ha3 := Kpt.mk ha3
              go_upto_region 24 with (first
                | (refine (?_ : wpList _ _ _ (Oper.mk _ (Op.alloc 37) _ _ _ _ :: _) _ _); go_must (refine wpList_var rfl 37 rfl _ zPdu ?_; intro C2 w7 hC hB7 hb7; replace hb7 := Kpt.mk hb7; replace hC := Kpt.mk hC; have x7 := Kpt.mk hB7; clear hB7))
                | (refine (?_ : wpList _ _ _ (Oper.mk _ (Op.store 37 _ _) _ _ _ _ :: _) _ _); go_must (refine wpList_store_bx rfl 37 _ _ rfl C2 zP.v (dtP tag a2 0 (.slice (some ⟨b0, o0 + a2, none⟩) m (c - a2))).v rfl rfl x7.out rfl szPdu (hone.out 0) rfl ?_; intro w8 hB8 hg8; have b8 := Kpt.mk (hb7.out.grown hg8 hb7.out.size (fun q e => by injection e with e; subst e; exact hC.out)); have x8 := Kpt.mk hB8; clear hB8 hg8)))
              clear hb7 x7
              by_cases hl : a3 = en
              · have l1 : (a3 : Int) = en := by omega
                have l2 : ((a3 : Int) == (en : Int)) = true := by simp; omega
                have l3 : decide ((a3 : Int) = (en : Int)) = true := by simp; omega
                replace l1 := Kpt.mk l1
                have c1 := x8.out.cells 1 (by simp [Pd.v])
                have f1 := x8.out.free 1
                simp [Pd.v, dtP, zP] at c1
                have x9 : Kpt (Bx (w8.setCell ⟨C2, 1, none⟩ (.int .u8 128)) C2 (dtP tag a2 128 (.slice (some ⟨b0, o0 + a2, none⟩) m (c - a2))).v) := ⟨by have := bx_setC (.int .u8 128) x8.out (j := 1) (by simp [Pd.v]); simpa [Pd.v, dtP, zP] using this⟩
                have b9 : Kpt (Below W2.heap.size W2 (w8.setCell ⟨C2, 1, none⟩ (.int .u8 128))) := ⟨b8.out.setCell (p := ⟨C2, 1, none⟩) hC.out _⟩
                replace hl := Kpt.mk hl
                go_upto_region 26 with fail
                obtain ⟨w9, hw9⟩ : ∃ W, W = w8.setCell ⟨C2, 1, none⟩ (.int .u8 128) := ⟨_, rfl⟩
                rw [← hw9] at x9 b9 ⊢
                clear hw9 x8 b8 c1 f1
                go_wp2_with (first
                  | (refine (?_ : wpList _ _ _ (Oper.mk _ (Op.load 37 _) _ _ _ _ :: _) _ _); go_must (refine wpList_load_bx rfl 37 _ rfl C2 (dtP tag a2 128 (.slice (some ⟨b0, o0 + a2, none⟩) m (c - a2))).v rfl x9.out _ Try.underlying37 rfl szPdu ?_; have hm2 := hg0))
                  | (go_at_call 11; go_must (refine (hIn.out _ 128 b9.out (fun h => by have := hl.out; have := ha3.out; omega)).mono ?_; rintro e w10 ⟨v10, u10, rfl, hb10, hn10⟩; have q10 := Kpt.mk ((hq2.out.trans (b9.out.mono hq2.out.size)).trans hb10); replace hn10 := Kpt.mk hn10; clear hb10)))
                go_roundg (en - a3)
                case measure => have := ha3.out; omega
                case rel => exact ⟨a3, k2 + 1, by first | rfl | go_num, by first | rfl | go_num, by have := hl.out; omega, by have := ha3.out; omega, ⟨by have := ha3.out; have := hgrow.out; have := hk3.out; omega⟩, hn10, q10⟩
              · have l2 : ((a3 : Int) == (en : Int)) = false := by simp; omega
                have l3 : decide ((a3 : Int) = (en : Int)) = false := by simp; omega
                replace hl := Kpt.mk hl
                go_wp2_with (first
                  | (refine (?_ : wpList _ _ _ (Oper.mk _ (Op.load 37 _) _ _ _ _ :: _) _ _); go_must (refine wpList_load_bx rfl 37 _ rfl C2 (dtP tag a2 0 (.slice (some ⟨b0, o0 + a2, none⟩) m (c - a2))).v rfl x8.out _ Try.underlying37 rfl szPdu ?_; have hm2 := hg0))
                  | (go_at_call 11; go_must (refine (hIn.out _ 0 b8.out (fun h => rfl)).mono ?_; rintro e w10 ⟨v10, u10, rfl, hb10, hn10⟩; have q10 := Kpt.mk ((hq2.out.trans (b8.out.mono hq2.out.size)).trans hb10); replace hn10 := Kpt.mk hn10; clear hb10)))
                go_roundg (en - a3)
                case measure => have := ha3.out; omega
                case rel => exact ⟨a3, k2 + 1, by first | rfl | go_num, by first | rfl | go_num, by have := hl.out; have := ha3.out; omega, by have := ha3.out; omega, ⟨by have := hl.out; have := ha3.out; omega⟩, hn10, q10⟩
        · have hae : a2 = en := by
            rcases hdone with h | h
            · exact h.1
            · exact h.1
          have p1 : ¬ (a2 : Int) < en := by omega
          replace hdone := Kpt.mk hdone
          replace hae := Kpt.mk hae
          clear hnx
          go_wp2_with fail
          go_roundg (n - a2)
          case measure => have := hae.out; omega
          case rel =>
            refine ⟨a2, k2, rfl, rfl, by have := hae.out; omega, hk2, ⟨⟨?_⟩⟩, hq2⟩
            rcases hdone.out with ⟨_, hu, zz', ha⟩ | ⟨_, hn', he⟩
            · exact .inl ⟨⟨none, 0, hu⟩, zz', ha⟩
            · exact .inr ⟨hn', he⟩
    · obtain ⟨va, vc, rfl⟩ := hend.nil
      obtain ⟨tb, tc, oa, ol, oc, s', rfl, htc1, htc2, d0, d4, hrdo, hSe⟩ := hend.ex
      have a1 : ((at_ : Int) == (n : Int)) = true := by simp; omega
      have a2 : decide ((at_ : Int) = (n : Int)) = true := by simp; omega
      have a3 : (1 : Int) ≤ tc := by omega
      have hol : ((wdO n).length : Int) = 1 := rfl
      have hx1 : ∀ m, (convert 23 9 (.slice oa ol oc)).run Try.prog (wr.drewN m) = .ok (.string (strOfNums D)) (wr.drewN m) := fun m => conv_rd (w := wr.drewN m) (hrdo.of_block (fun _ _ => rfl))
      have hx2 : ∀ m, (convert 23 9 (.slice (some ⟨b0, o0, none⟩) n c)).run Try.prog (wr.drewN m) = .ok (.string (strOfNums D)) (wr.drewN m) := fun m => conv_rd (w := wr.drewN m) ((hrd5.out wr hq.out).of_block (fun _ _ => rfl))
      replace hSe := Kpt.mk hSe
      replace hrdo := Kpt.mk hrdo
      replace hane := Kpt.mk hane
      clear hend hnw
      go_upto_region 29 with fail
      go_quiet ((go_at_call 14; exact Calls.quiet_of_same (waits_any S s' [] (wdO n) [] _ (hSe.out.drewN _))))
      go_wp2
      go_ret
      exact ⟨rfl, below_drewN hfin.out _⟩
end Go.Proofs.Ytdplndlmdhpfaaa
