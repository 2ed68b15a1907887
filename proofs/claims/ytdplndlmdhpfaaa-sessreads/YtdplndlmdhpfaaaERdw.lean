/-
  sess: SessReads' walk.
-/
import Derived.Test.YtdplndlmdhpfaaaEEnn
import Derived.Test.YtdplndlmdhpfaaaEFgt
import Derived.Test.YtdplndlmdhpfaaaERdi
namespace Go.Proofs.Ytdplndlmdhpfaaa
open Go.RowKit
set_option linter.unusedVariables false
set_option linter.unusedSimpArgs false

theorem ltb {w : World} {v : Value} {ds : List Int} (h : RdAt w v ds) (h0 : 0 < ds.length) (g : Nat) (hg : v.ownBlock = some g) : g < w.heap.size := by
  obtain ⟨a, c, rfl, _, _, h3⟩ := h
  rcases h3 with h3 | ⟨b, off, rfl, hc⟩
  · omega
  · simp [Value.ownBlock] at hg
    subst hg
    have := hc 0 (.int .u8 ds[0]) (by simp [cels, h0])
    exact World.block_lt_of_cell? w ⟨b, off + 0, none⟩ this
theorem own_new {S m : Nat} {s : Se} {first : Int} (hS : m ≤ S) (b : Nat) (hb : (s.new first).X S b) : m ≤ b := by
  rcases hb with e | e | e | e
  · rw [e]; exact hS
  all_goals simp [Se.new, Value.ownBlock] at e
/-- What was got so far. -/
structure Gt (w W : World) (v : Value) (xs : List Int) : Prop where
  own : W.ownsRow w.heap.size 5 1 v xs.length (cels xs)
  bel : Below w.heap.size w W
theorem Gt.start (w : World) : Gt w w (.slice none 0 0) [] := ⟨World.ownsRow_nil _ _ _ _, Below.refl _ _⟩
theorem Gt.shape {w W : World} {v : Value} {xs : List Int} (h : Gt w W v xs) : ∃ a c, v = .slice a xs.length c := by
  rcases h.own.2 with ⟨h1, h2⟩ | ⟨g, cap, cur, h1, _⟩
  · exact ⟨none, 0, by rw [h2]; exact h1⟩
  · exact ⟨_, _, h1⟩
theorem Gt.rd {w W : World} {v : Value} {xs : List Int} (h : Gt w W v xs) : RdAt W v xs := by
  refine Row.rd (show W.ownsRow 0 5 1 _ xs.length _ from ⟨by simp, ?_⟩)
  rcases h.own.2 with h1 | ⟨g, cap, cur, e, _, rest⟩
  · exact .inl h1
  · exact .inr ⟨g, cap, cur, e, Nat.zero_le _, rest⟩
theorem Gt.below {w W W' : World} {v : Value} {xs : List Int} (h : Gt w W v xs) (hb : Below W.heap.size W W') : Gt w W' v xs :=
  ⟨own_of_block h.own (fun g hg => hb.block g (World.ownsRow.lt h.own g hg).2), h.bel.trans (hb.mono h.bel.size)⟩
/-- A session of a segment. -/
def segS (g : Nat) : Se := { plainS with seg := (g : Int) }
theorem segS_prm (g : Nat) : (segS g).prm = plainS.prm.setIfInBounds 5 (.int .i64 g) := by simp [segS, Se.prm, plainS]

set_option maxRecDepth 100000 in
set_option maxHeartbeats 8000000 in
theorem reads_any (a : Option Addr) (n c : Nat) (ds : List Int) (want seg : Int) (w : World) (hrd : RdAt w (.slice a n c) ds) (hn : ds.length = n) (h3 : n ≤ 3000) (hc : c ≤ maxLen) (hw : 0 ≤ want ∧ want < 65536) (hs : 0 ≤ seg ∧ seg < 65536) :
    Calls Try.prog 5 #[.slice a n c, .int .u16 want, .int .u16 seg] w fun e w' => e = .returned (.bool true) ∧ Below w.heap.size w w' := by
  obtain ⟨g, hg⟩ : ∃ g : Nat, (g : Int) = 1 + seg.tmod 900 := ⟨(1 + seg % 900).toNat, by rw [Int.tmod_eq_emod_of_nonneg hs.1]; omega⟩
  obtain ⟨wn, hwn⟩ : ∃ g : Nat, (g : Int) = want.tmod 4000 := ⟨(want % 4000).toNat, by rw [Int.tmod_eq_emod_of_nonneg hw.1]; omega⟩
  have hg0 : 0 < g ∧ g ≤ 900 := by rw [Int.tmod_eq_emod_of_nonneg hs.1] at hg; omega
  have hwl : wn < 4000 := by rw [Int.tmod_eq_emod_of_nonneg hw.1] at hwn; omega
  have e1 : IntKind.i64.wrap seg = seg := by rw [IntKind.wrap_i64]; omega
  have e2 : IntKind.i64.wrap want = want := by rw [IntKind.wrap_i64]; omega
  have e3 : IntKind.i64.wrap (1 + seg.tmod 900) = (g : Int) := by rw [← hg, IntKind.wrap_i64]; omega
  have e4 : IntKind.i64.wrap (want.tmod 4000) = (wn : Int) := by rw [← hwn, IntKind.wrap_i64]; omega
  have e3' : 1 + seg % 900 = (g : Int) := by rw [hg, Int.tmod_eq_emod_of_nonneg hs.1]
  have e4' : want.tmod 4000 = (wn : Int) := hwn.symm
  have e5 : IntKind.u32.wrap (wn : Int) = wn := by rw [IntKind.wrap_u32]; omega
  have e6 : ¬ (3000 : Int) < n := by omega
  have d6 : decide ((3000 : Int) < n) = false := by simp; omega
  have hA : Kpt (∀ W : World, Calls Try.prog 8 #[] W fun e w' => e = .returned (.bool true) ∧ Below W.heap.size W w') := ⟨awake_any⟩
  have hP : Kpt (∀ W : World, Calls Try.prog 10 #[] W fun e w' => e = .returned (.agg plainS.prm) ∧ Below W.heap.size W w') := ⟨plain_any⟩
  have hN : Kpt (∀ W : World, Calls Try.prog 9 #[.agg (segS g).prm, .slice none 0 0, .int .u32 1] W fun e w' => (∃ S, e = .returned (.pointer (some ⟨S, 0, none⟩)) ∧ W.heap.size ≤ S ∧ Ss w' S ((segS g).new 1) [] [] []) ∧ Below W.heap.size W w') := ⟨fun W => new_nil (segS g) 1 W⟩
  have hR : Kpt (∀ W : World, Calls Try.prog 12 #[.int .u32 7, .int .u32 1, .int .u32 wn] W fun e w' => e = .returned (.agg (rdP 7 1 wn).v) ∧ Below W.heap.size W w') := ⟨fun W => read_any 7 1 wn W⟩
  have hI : Kpt (∀ W S, Ss W S ((segS g).new 1) [] [] [] → Calls Try.prog 11 #[.pointer (some ⟨S, 0, none⟩), .agg (rdP 7 1 wn).v] W fun e w' => ∃ gv tv gs ts s3, e = .returned (.tuple #[gv, tv]) ∧ RdPost S ((segS g).new 1) [] [] (rdP 7 1 wn) w' s3 gs ts ∧ St S W w' ((segS g).new 1) s3 ∧ Gots W w' S s3 37 14 gv gs ∧ Gots W w' S s3 41 8 tv ts) := ⟨fun W S h => in_rd S ((segS g).new 1) [] [] (rdP 7 1 wn) W h (by simp) rfl rfl rfl rfl rfl rfl rfl (by intro x hx; simp [rdP, zP] at hx; omega)⟩
  replace hrd := Kpt.mk hrd
  clear hg hwn
  go_enter Try.func5, Try.ntmps5
  go_upto_region 6 with (first
    | (go_at_call 8; go_must (refine (hA.out _).mono ?_; rintro e w1 ⟨rfl, hb1⟩; replace hb1 := Kpt.mk hb1))
    | (go_at_call 10; go_must (refine (hP.out _).mono ?_; rintro e w2 ⟨rfl, hb2'⟩; have hb2 := Kpt.mk (hb1.out.trans (hb2'.mono hb1.out.size)); clear hb2'))
    | (refine (?_ : wpList _ _ _ (Oper.mk _ (Op.alloc 28) _ _ _ _ :: _) _ _); go_must (refine wpList_var rfl 28 rfl _ zPrm ?_; intro P w3 hP3 hB3 hb3; have q3 := Kpt.mk (hb2.out.trans (hb3.mono hb2.out.size)); have hPw := Kpt.mk (Nat.le_trans hb2.out.size hP3); have x3 := Kpt.mk hB3; clear hP3 hB3 hb3))
    | (refine (?_ : wpList _ _ _ (Oper.mk _ (Op.store 28 _ _) _ _ _ _ :: _) _ _); go_must (refine wpList_store_bx rfl 28 _ _ rfl P _ plainS.prm rfl rfl x3.out rfl szPrm (by simp [Se.prm, plainS, Value.oneCell']) rfl ?_; intro w4 hB4 hg4; have q4 := Kpt.mk (q3.out.grown hg4 q3.out.size (fun q e => by injection e with e; subst e; exact hPw.out)); have x4 := Kpt.mk hB4; have c5 := x4.out.cells 5 (by simp [Se.prm]); have f5 := x4.out.free 5; simp [Se.prm, plainS] at c5; have x5 : Kpt (Bx (w4.setCell ⟨P, 5, none⟩ (.int .i64 g)) P (segS g).prm) := ⟨by have := bx_setC (.int .i64 g) x4.out (j := 5) (by simp [Se.prm]); rw [segS_prm]; exact this⟩; have q5 : Kpt (Below w.heap.size w (w4.setCell ⟨P, 5, none⟩ (.int .i64 g))) := ⟨q4.out.setCell (p := ⟨P, 5, none⟩) hPw.out _⟩; clear hB4 hg4)))
  obtain ⟨w5, hw5⟩ : ∃ W, W = w4.setCell ⟨P, 5, none⟩ (.int .i64 g) := ⟨_, rfl⟩
  try rw [← hw5]
  rw [← hw5] at x5 q5
  clear hw5 x4 q4 x3 q3 c5 f5 hb1 hb2
  go_upto_region 8 with (first
    | (refine (?_ : wpList _ _ _ (Oper.mk _ (Op.load 28 _) _ _ _ _ :: _) _ _); go_must (refine wpList_load_bx rfl 28 _ rfl P (segS g).prm rfl x5.out _ Try.underlying28 rfl szPrm ?_; have hm := h3))
    | (go_at_call 9; go_must (refine (hN.out _).mono ?_; rintro e w6 ⟨⟨S, rfl, hSl, hS⟩, hb6⟩; have q6 := Kpt.mk hb6; have hSw := Kpt.mk hSl; replace hS := Kpt.mk hS; clear hb6 hSl))
    | (go_at_call 12; go_must (refine (hR.out _).mono ?_; rintro e w7 ⟨rfl, hb7⟩; have q7 := Kpt.mk (q6.out.trans (hb7.mono q6.out.size)); have hS7 := Kpt.mk (hS.out.below hb7); clear hb7))
    | (go_at_call 11; go_must (refine (hI.out _ _ hS7.out).mono ?_; rintro e w8 ⟨gv, tv, gs, ts, s3, rfl, ⟨rfl, v1, v2, cv, ov, hs3, hS8, rfl, hD1, hD2⟩, hst, hG, hT⟩; replace hS8 := Kpt.mk hS8; replace hst := Kpt.mk hst; replace hs3 := Kpt.mk hs3; clear hD1 hD2 hG hT)))
  have hX8 : Kpt (∀ b, s3.X S b → w5.heap.size ≤ b) := ⟨fun b hb => by
    rcases hst.out.new b hb with e | e
    · exact own_new hSw.out b e
    · exact Nat.le_trans q7.out.size e⟩
  have q8 : Kpt (Below w5.heap.size w5 w8) := ⟨q7.out.trans (hst.out.fr.below q7.out.size (fun b hb => own_new hSw.out b hb))⟩
  have hov : Kpt (s3.over = false) := ⟨by rw [hs3.out]; rfl⟩
  have hnx : Kpt (0 ≤ s3.next ∧ s3.next < 4294967296) := ⟨by rw [hs3.out]; simp [Se.rd, Se.new]⟩
  have hsg : Kpt (s3.seg = (g : Int)) := ⟨by rw [hs3.out]; rfl⟩
  obtain ⟨cm, hcm⟩ : ∃ cm, cm = (rdP 7 1 wn).cm := ⟨_, rfl⟩
  have hS9 : Kpt (Ss w8 S s3 [] [cm.v] []) := ⟨by rw [hcm]; simpa using hS8.out⟩
  have hc7 : cm.tg = 7 := by rw [hcm]; rfl
  have hcr : Kpt (cm.rd = true) := ⟨by rw [hcm]; rfl⟩
  have hcw : Kpt (cm.wn = (wn : Int)) := ⟨by rw [hcm]; rfl⟩
  have hDt : Kpt (Dt (s3.X S) w8 (.slice a n c) ds) := ⟨⟨(hrd.out.bel q5.out).bel q8.out, fun h0 b hb => by
    have hlt := ltb hrd.out h0 b hb
    have := q5.out.size
    have := q8.out.size
    exact ⟨by omega, fun e => by have := hX8.out b e; omega⟩⟩⟩
  obtain ⟨E, hE⟩ : ∃ E, E = min n wn := ⟨_, rfl⟩
  have hEnd : Kpt (Calls Try.prog 15 #[.pointer (some ⟨S, 0, none⟩), .int .u32 7, .agg (rsv (.slice a n c)), .bool false] w8 fun e w' => ∃ v zs k s' p, e = .returned v ∧ Ss w' S s' [] [] [] ∧ St S w8 w' s3 s' ∧ s'.over = false ∧ OwnR 37 14 w' v (zs ++ [p]) ∧ p = ((lst cm n k).num s3).v ∧ zs.length = k ∧ (∀ j z, zs[j]? = some z → PcOne w8.heap.size w' v g (ds.take E) 7 (if j + 1 = k then 128 else 0) j z) ∧ E ≤ k * g ∧ (k = 0 ∨ (k - 1) * g < E)) := ⟨by
    have := end_any S s3 [] cm (.slice a n c) ds g wn false w8 hS9.out hov.out hcr.out hcw.out (by omega) hDt.out (fun a' n' m' e => by injection e with _ _ e; rw [← e]; unfold maxLen at hc; omega) hsg.out ⟨hg0.1, by omega⟩ (by omega) hnx.out
    rw [hc7, hn, ← hE] at this
    exact this⟩
  have hNone : Kpt (∀ W s', Ss W S s' [] [] [] → s'.over = false → Calls Try.prog 15 #[.pointer (some ⟨S, 0, none⟩), .int .u32 7, .agg (rsv (.slice none 0 0)), .bool false] W fun e w' => e = .returned (.slice none 0 0) ∧ Below W.heap.size W w') := ⟨fun W s' h1 h2 => end_none S s' [] [] [] 7 (rsv (.slice none 0 0)) false W h1 h2 (by simp) rfl⟩
  replace hE := Kpt.mk hE
  replace hcm := Kpt.mk hcm
  clear hS8 hS9 hDt hA hP hN hR hI hS hS7 hsg hov q6 q7
  go_upto_region 9 with (go_at_call 15; go_must (refine hEnd.out.mono ?_; rintro e w9 ⟨v, zs, k, s', p, rfl, hS9, ht9, ho9, hw9, hp, hzk, hea, hk1, hk2⟩; replace hS9 := Kpt.mk hS9; replace ht9 := Kpt.mk ht9; replace ho9 := Kpt.mk ho9; replace hw9 := Kpt.mk hw9; replace hp := Kpt.mk hp; replace hzk := Kpt.mk hzk; replace hea := Kpt.mk hea; replace hk1 := Kpt.mk hk1; replace hk2 := Kpt.mk hk2))
  obtain ⟨N, hN⟩ : ∃ N, N = k + 1 := ⟨_, rfl⟩
  obtain ⟨va, vc, hv, hsh⟩ := hw9.out.shape
  have hlen : (zs ++ [p]).length = N := by simp [hzk.out, hN]
  rw [hlen] at hv hsh
  subst hv
  rcases hsh with ⟨_, _, hx⟩ | ⟨r, rfl, hr9, hNc, hcm2, hfz, hrow⟩
  · omega
  replace hrow := Kpt.mk hrow
  replace hlen := Kpt.mk hlen
  have hkE : k ≤ E + 1 := by
    rcases hk2.out with e | e
    · omega
    · have : (k - 1) * 1 ≤ (k - 1) * g := Nat.mul_le_mul_left _ hg0.1
      omega
  have hEn : E ≤ n ∧ E ≤ wn := by have := hE.out; omega
  have hk5 : k ≤ 3001 := by omega
  have d0 : decide ((N : Int) = 0) = false := by simp; omega
  have n0 : ¬ (N : Int) = 0 := by omega
  have d0' : ((N : Int) == 0) = false := by simp; omega
  have q9 : Kpt (Below w5.heap.size w5 w9) := ⟨q8.out.trans (ht9.out.fr.below q8.out.size (fun b hb => hX8.out b hb))⟩
  have hrd9 : Kpt (w8.heap.size ≤ r ∨ True) := ⟨.inr trivial⟩
  clear hrd9 hfz
  replace hN := Kpt.mk hN
  go_upto_region 11 with (first
    | (go_at_call 15; go_must (refine (hNone.out _ _ hS9.out ho9.out).mono ?_; rintro e w10 ⟨rfl, hb10⟩; have hS10 := Kpt.mk (hS9.out.below hb10); replace hb10 := Kpt.mk hb10))
    | (go_at_call 14; go_must (refine (waits_any _ _ _ _ _ _ hS10.out).mono ?_; rintro e wx ⟨rfl, hwx⟩; rw [hwx]; clear hwx; simp only [List.length_nil])))
  have q10 : Kpt (Below w5.heap.size w5 w10) := ⟨q9.out.trans (hb10.out.mono q9.out.size)⟩
  have hDl : Kpt ((ds.take E).length = E) := ⟨by rw [List.length_take]; omega⟩
  obtain ⟨D, hD⟩ : ∃ D, D = ds.take E := ⟨_, rfl⟩
  rw [← hD] at hDl hea
  have hrdD : Kpt (∀ W, Below w10.heap.size w10 W → RdAt W (.slice a n c) ds) := ⟨fun W hb => (hrd.out.bel q5.out).bel (q10.out.trans (hb.mono q10.out.size))⟩
  have hret : Kpt (∀ W, Below w10.heap.size w10 W → Below w.heap.size w W) := ⟨fun W hb => q5.out.trans ((q10.out.trans (hb.mono q10.out.size)).mono q5.out.size)⟩
  have hPx : Kpt (∀ W, Below w10.heap.size w10 W → Bx W P (segS g).prm) := ⟨fun W hb => x5.out.below (q10.out.trans (hb.mono q10.out.size)) x5.out.lt⟩
  have hb9 : Kpt (∀ W, Below w10.heap.size w10 W → Below w9.heap.size w9 W) := ⟨fun W hb => hb10.out.trans (hb.mono hb10.out.size)⟩
  have hrw : Kpt (∀ W, Below w10.heap.size w10 W → ∀ j z, (zs ++ [p])[j]? = some z → W.rangeAt r (j * 14) z.toList) := ⟨fun W hb j z hj => rangeAt_block (hrow.out j z hj) ((hb9.out W hb).block r hr9)⟩
  have hwd : Kpt (∀ (j : Nat) (z : Array Value), (zs ++ [p])[j]? = some z → z.size = 14 ∧ z.all (·.oneCell') = true) := ⟨fun j z hj => hw9.out.wide z (List.mem_of_getElem? hj)⟩
  have hvc : vc ≤ 9223372036854775807 := by unfold maxLen at hcm2; omega
  replace hD := Kpt.mk hD
  clear hS9 ht9 ho9 hw9 hS10 hEnd hNone hX8 hst q8 q9 hr9 hcm2 hnx hrow
  have n1 : IntKind.i64.wrap ((N : Int) - 1) = (k : Int) := by have := hN.out; rw [IntKind.wrap_i64]; omega
  have n2 : IntKind.i64.wrap ((N : Int) - 2) = (k : Int) - 1 := by have := hN.out; rw [IntKind.wrap_i64]; omega
  have n3 : (k : Int) < N := by have := hN.out; omega
  have n4 : (N : Int) ≤ vc := by omega
  go_wp2_with fail
  go_loopg [11, 12] k (fun i r11 r12 wr => ∃ (j : Nat), r12 = .int .i64 (j : Int) ∧ j + i = k ∧ Kpt (Gt w10 wr r11 (D.take (j * g))))
  case atStart => exact ⟨0, rfl, by omega, ⟨by rw [Nat.zero_mul, List.take_zero]; exact Gt.start _⟩⟩
  case round =>
    obtain ⟨j, rfl, hji, hgt⟩ := hrel
    obtain ⟨ga, gc, hgv⟩ := hgt.out.shape
    by_cases hjk : j < k
    · have hjg : j * g < E := by
        rcases hk2.out with e | e
        · omega
        · have : j * g ≤ (k - 1) * g := Nat.mul_le_mul_right g (by omega)
          omega
      have hlB : (D.take (j * g)).length = j * g := by rw [List.length_take, hDl.out]; omega
      rw [hlB] at hgv
      subst hgv
      obtain ⟨z, hz⟩ : ∃ z, zs[j]? = some z := ⟨_, List.getElem?_eq_getElem (by have := hzk.out; omega)⟩
      have hzz : (zs ++ [p])[j]? = some z := by rw [List.getElem?_append_left (by have := hzk.out; omega)]; exact hz
      obtain ⟨pp, rfl, t0, t1, t5, t10, t11, t13, hbl⟩ := (hea.out j z hz).pd
      obtain ⟨da, dc, hdv⟩ := rd_len t13
      obtain ⟨L, hL⟩ : ∃ L, L = (cutAt D g j).length := ⟨_, rfl⟩
      rw [← hL] at hdv
      have hLg : L ≤ g := by rw [hL]; exact cutAt_le _ _ _
      have hL0 : 0 < L := by rw [hL]; exact cutAt_pos hg0.1 (by rw [hDl.out]; exact hjg)
      obtain ⟨B, hB⟩ : ∃ B, B = j * g := ⟨_, rfl⟩
      rw [← hB] at t11 hjg hlB hgt ⊢
      have rz : Kpt (wr.rangeAt r (j * 14) pp.v.toList) := ⟨hrw.out wr hgt.out.bel j _ hzz⟩
      have wz : Kpt (pp.v.size = 14 ∧ pp.v.all (·.oneCell') = true) := ⟨hwd.out j _ hzz⟩
      have t13' : Kpt (RdAt wr (.slice da L dc) (cutAt D g j)) := ⟨by have := t13.bel (hb9.out wr hgt.out.bel); rw [hdv] at this; exact this⟩
      have m1 : (j : Int) < k := by omega
      have m2 : (j : Int) < N := by omega
      have m3 : IntKind.i64.wrap (j : Int) = j := by rw [IntKind.wrap_i64]; omega
      have m4 : IntKind.i64.wrap (B : Int) = B := by rw [IntKind.wrap_i64]; omega
      have m5 : ¬ (g : Int) < L := by omega
      have m6 : decide ((g : Int) < L) = false := by simp; omega
      have m7 : ¬ (L : Int) = 0 := by omega
      have m8 : decide ((L : Int) = 0) = false := by simp; omega
      have m9 : ((L : Int) == 0) = false := by simp; omega
      replace hB := Kpt.mk hB
      replace hL := Kpt.mk hL
      replace hz := Kpt.mk hz
      replace hzz := Kpt.mk hzz
      replace hdv := Kpt.mk hdv
      replace hlB := Kpt.mk hlB
      replace t0 := Kpt.mk t0
      replace t1 := Kpt.mk t1
      replace t5 := Kpt.mk t5
      replace t10 := Kpt.mk t10
      replace t11 := Kpt.mk t11
      clear t13 hbl
      go_upto_region 16 with (first
        | (refine (?_ : wpList _ _ _ (Oper.mk _ (Op.load 37 _) _ _ _ _ :: _) _ _); go_must (refine wpList_load_mid rfl 37 _ rfl r (j * 14) rfl pp.v.toList _ rz.out Try.underlying37 rfl (by rw [Array.length_toList, wz.out.1]; exact szPdu) ?_; have hld := rz))
        | (refine (?_ : wpList _ _ _ (Oper.mk _ (Op.alloc 37) _ _ _ _ :: _) _ _); go_must (refine wpList_var rfl 37 rfl _ zPdu ?_; intro Q w11 hQ hBq hbq; have g11 := Kpt.mk (hgt.out.below hbq); have u11 := Kpt.mk (t13'.out.bel hbq); replace hQ := Kpt.mk hQ; replace hBq := Kpt.mk hBq; replace hbq := Kpt.mk hbq))
        | (refine (?_ : wpList _ _ _ (Oper.mk _ (Op.store 37 _ _) _ _ _ _ :: _) _ _); go_must (refine wpList_store_bx rfl 37 _ _ rfl Q zP.v pp.v rfl rfl hBq.out wz.out.1 (by rw [wz.out.1]; exact szPdu) wz.out.2 rfl ?_; intro w12 hB12 hg12; have b12 := Kpt.mk (hbq.out.grown hg12 hbq.out.size (fun q e => by injection e with e; subst e; exact hQ.out)); replace hB12 := Kpt.mk hB12; clear hg12)))
      have g12 := Kpt.mk (hgt.out.below b12.out)
      have u12 := Kpt.mk (t13'.out.bel b12.out)
      have c0 := hB12.out.cells 0 (by simp [Pd.v])
      have c1 := hB12.out.cells 1 (by simp [Pd.v])
      have c5 := hB12.out.cells 5 (by simp [Pd.v])
      have c10 := hB12.out.cells 10 (by simp [Pd.v])
      have c11 := hB12.out.cells 11 (by simp [Pd.v])
      have c13 := hB12.out.cells 13 (by simp [Pd.v])
      have s5 := (hPx.out w12 g12.out.bel).cells 5 (by simp [Se.prm])
      simp [Pd.v, Se.prm, segS] at c0 c1 c5 c10 c11 c13 s5
      rw [t0.out] at c0
      rw [t5.out] at c5
      rw [t10.out] at c10
      rw [t11.out] at c11
      rw [hdv.out] at c13
      rw [t1.out] at c1
      clear g11 u11 hBq hbq hQ rz wz
      have hjoin : Kpt (D.take B ++ cutAt D g j = D.take ((j + 1) * g)) := ⟨by rw [hB.out]; exact cutAt_join D g j⟩
      have hnl : Kpt ((D.take ((j + 1) * g)).length = B + L) := ⟨by rw [← hjoin.out, List.length_append, hlB.out, hL.out]⟩
      have hown : Kpt (w12.ownsRow w10.heap.size 5 1 (.slice ga B gc) B (cels (D.take B))) := ⟨by have := g12.out.own; rw [hlB.out] at this; exact this⟩
      by_cases hlast : j + 1 = k
      · rw [if_pos hlast] at c1
        have l2 : decide ((j : Int) = (k : Int) - 1) = true := by simp; omega
        have l3 : ((j : Int) == (k : Int) - 1) = true := by simp; omega
        go_upto_region 18 with fail
        go_wp2_with (refine (?_ : wpList _ _ _ (Oper.mk (some 125) _ _ _ _ _ :: _) _ _); go_must (refine wpList_append_new rfl _ _ rfl w10.heap.size (.slice ga B gc) (.slice da L dc) (D.take B) (cutAt D g j) B (B + L) rfl rfl hown.out u12.out (by have := hL.out; omega) hlB.out (by rw [hL.out]) (by omega) g12.out.bel.size ?_; intro g2 cap2 w13 ho13 hl13 hg13))
        go_roundg (k - j - 1)
        case measure => omega
        case rel =>
          refine ⟨j + 1, by go_num, by omega, ⟨?_, ?_⟩⟩
          · rw [hnl.out, ← hjoin.out]; exact ho13.out
          · exact g12.out.bel.grown hg13.out g12.out.bel.size (fun q e => (World.ownsRow.lt hown.out q e).1)
      · rw [if_neg hlast] at c1
        have l2 : decide ((j : Int) = (k : Int) - 1) = false := by simp; omega
        have l3 : ((j : Int) == (k : Int) - 1) = false := by simp; omega
        go_upto_region 18 with fail
        go_wp2_with (refine (?_ : wpList _ _ _ (Oper.mk (some 125) _ _ _ _ _ :: _) _ _); go_must (refine wpList_append_new rfl _ _ rfl w10.heap.size (.slice ga B gc) (.slice da L dc) (D.take B) (cutAt D g j) B (B + L) rfl rfl hown.out u12.out (by have := hL.out; omega) hlB.out (by rw [hL.out]) (by omega) g12.out.bel.size ?_; intro g2 cap2 w13 ho13 hl13 hg13))
        go_roundg (k - j - 1)
        case measure => omega
        case rel =>
          refine ⟨j + 1, by go_num, by omega, ⟨?_, ?_⟩⟩
          · rw [hnl.out, ← hjoin.out]; exact ho13.out
          · exact g12.out.bel.grown hg13.out g12.out.bel.size (fun q e => (World.ownsRow.lt hown.out q e).1)
    · have hjk' : j = k := by omega
      subst hjk'
      have m1 : ¬ (j : Int) < j := by omega
      have hfull : D.take (j * g) = D := List.take_of_length_le (by rw [hDl.out]; exact hk1.out)
      rw [hfull] at hgt hgv
      rw [hDl.out] at hgv
      subst hgv
      have hzz : (zs ++ [p])[j]? = some p := by rw [List.getElem?_append_right (by have := hzk.out; omega)]; simp [hzk.out]
      have hpv : Kpt (p = ((lst cm n j).num s3).v) := hp
      obtain ⟨pp, hpp⟩ : ∃ pp : Pd, pp = (lst cm n j).num s3 := ⟨_, rfl⟩
      have t0 : Kpt (pp.op = 33) := ⟨by rw [hpp]; rfl⟩
      have t1 : Kpt (pp.fl = rspF cm n) := ⟨by rw [hpp]; rfl⟩
      have t10 : Kpt (pp.w4 = j) := ⟨by rw [hpp]; rfl⟩
      have t12 : Kpt (pp.w6 = rspR cm n) := ⟨by rw [hpp]; rfl⟩
      have hppv : p = pp.v := by rw [hpv.out, hpp]
      rw [hppv] at hzz
      have rz : Kpt (wr.rangeAt r (j * 14) pp.v.toList) := ⟨hrw.out wr hgt.out.bel j _ (by rw [hppv]; exact hzz)⟩
      have wz : Kpt (pp.v.size = 14 ∧ pp.v.all (·.oneCell') = true) := ⟨hwd.out j _ (by rw [hppv]; exact hzz)⟩
      have m3 : IntKind.i64.wrap (j : Int) = j := by rw [IntKind.wrap_i64]; omega
      have e7 : (if (wn : Int) < (n : Int) then (wn : Int) else (n : Int)) = (E : Int) := by have := hE.out; split <;> omega
      have e7' : (if wn < n then (wn : Int) else (n : Int)) = (E : Int) := by have := hE.out; split <;> omega
      have e8 : min (n : Int) (wn : Int) = (E : Int) := by have := hE.out; omega
      clear hpp hppv hzz hp hpv hea hrw hwd
      go_upto_region 20 with (first
        | (refine (?_ : wpList _ _ _ (Oper.mk _ (Op.load 37 _) _ _ _ _ :: _) _ _); go_must (refine wpList_load_mid rfl 37 _ rfl r (j * 14) rfl pp.v.toList _ rz.out Try.underlying37 rfl (by rw [Array.length_toList, wz.out.1]; exact szPdu) ?_; have hld := rz))
        | (refine (?_ : wpList _ _ _ (Oper.mk _ (Op.alloc 37) _ _ _ _ :: _) _ _); go_must (refine wpList_var rfl 37 rfl _ zPdu ?_; intro Q w11 hQ hBq hbq; replace hQ := Kpt.mk hQ; replace hBq := Kpt.mk hBq; replace hbq := Kpt.mk hbq))
        | (refine (?_ : wpList _ _ _ (Oper.mk _ (Op.store 37 _ _) _ _ _ _ :: _) _ _); go_must (refine wpList_store_bx rfl 37 _ _ rfl Q zP.v pp.v rfl rfl hBq.out wz.out.1 (by rw [wz.out.1]; exact szPdu) wz.out.2 rfl ?_; intro w12 hB12 hg12; have b12 := Kpt.mk (hbq.out.grown hg12 hbq.out.size (fun q e => by injection e with e; subst e; exact hQ.out)); replace hB12 := Kpt.mk hB12; clear hg12)))
      have g12 := Kpt.mk (hgt.out.below b12.out)
      have c0 := hB12.out.cells 0 (by simp [Pd.v])
      have c1 := hB12.out.cells 1 (by simp [Pd.v])
      have c10 := hB12.out.cells 10 (by simp [Pd.v])
      have c12 := hB12.out.cells 12 (by simp [Pd.v])
      simp [Pd.v] at c0 c1 c10 c12
      rw [t0.out] at c0
      rw [t1.out] at c1
      rw [t10.out] at c10
      rw [t12.out] at c12
      have hF : Kpt (rspF cm n = if (wn : Int) < n then 132 else if (n : Int) < wn then 130 else 128) := ⟨by unfold rspF; rw [hcw.out, hcr.out]; simp⟩
      have hR : Kpt (rspR cm n = if (wn : Int) < n then (n : Int) - wn else if (n : Int) < wn then (wn : Int) - n else 0) := ⟨by unfold rspR; rw [hcw.out, hcr.out]; simp⟩
      rw [hF.out] at c1
      rw [hR.out] at c12
      have hcv1 : Kpt (∀ m, (convert 23 9 (.slice ga E gc)).run Try.prog (w12.drewN m) = .ok (.string (strOfNums D)) (w12.drewN m)) := ⟨fun m => conv_rd (w := w12.drewN m) (g12.out.rd.of_block (fun _ _ => rfl))⟩
      have hrr := hrdD.out w12 g12.out.bel
      have hfin : Kpt (∀ m, Below w.heap.size w (w12.drewN m)) := ⟨fun m => below_drewN (hret.out w12 g12.out.bel) m⟩
      clear hgt g12 b12 hBq hbq hQ rz wz hB12 hF hR hcr hcw hrdD hret hPx hb9 x5 q5 q10
      go_upto_region 21 with fail
      cases a with
      | none =>
        obtain ⟨a', c', e', hnil, _, _⟩ := id hrr
        simp only [Value.slice.injEq] at e'
        obtain ⟨rfl, -, rfl⟩ := e'
        obtain ⟨h00, rfl⟩ := hnil rfl
        have hn0 : n = 0 := by omega
        subst hn0
        have hE0 : E = 0 := by omega
        subst hE0
        have hD0 : D = [] := List.eq_nil_of_length_eq_zero hDl.out
        have hcv2 : Kpt (∀ m, (convert 23 9 (.slice none 0 0)).run Try.prog (w12.drewN m) = .ok (.string (strOfNums D)) (w12.drewN m)) := ⟨fun m => by rw [hD0]; exact conv_rd (w := w12.drewN m) (rd_nil _)⟩
        replace hrr := Kpt.mk hrr
        replace hD0 := Kpt.mk hD0
        have hz0 : ((0 : Nat) : Int) = 0 := rfl
        rw [hz0] at c1 c12
        clear hz0
        rcases Nat.lt_trichotomy 0 wn with hlt | heq | hgt'
        · have a1 : ¬ (wn : Int) < (0 : Int) := by omega
          have a2 : (0 : Int) < wn := by omega
          rw [if_neg a1, if_pos a2] at c1 c12
          have a3 : IntKind.i64.wrap ((wn : Int) - (0 : Int)) = (wn : Int) - (0 : Int) := by rw [IntKind.wrap_i64]; omega
          go_upto_region 29 with fail
          have hx1 := hcv1.out
          have hx2 := hcv2.out
          go_quiet (fail)
          go_wp2
          go_ret
          exact ⟨rfl, hfin.out _⟩
        · have a1 : ¬ (wn : Int) < (0 : Int) := by omega
          have a2 : ¬ (0 : Int) < wn := by omega
          replace heq := Kpt.mk heq
          rw [if_neg a1, if_neg a2] at c1 c12
          go_upto_region 29 with fail
          have hx1 := hcv1.out
          have hx2 := hcv2.out
          go_quiet (fail)
          go_wp2
          go_ret
          exact ⟨rfl, hfin.out _⟩
        · omega
      | some q =>
        have hcv2 : Kpt (∀ m, (convert 23 9 (.slice (some q) E c)).run Try.prog (w12.drewN m) = .ok (.string (strOfNums D)) (w12.drewN m)) := ⟨fun m => conv_rd (w := w12.drewN m) (by rw [hD.out]; exact ((show RdAt w12 (.slice (some q) n c) ds from hrr).upto E (by omega)).of_block (fun _ _ => rfl))⟩
        have hnc : E ≤ c := by obtain ⟨_, _, e, _, hc', _⟩ := hrr; injection e with _ _ e3; omega
        have hnc' : (E : Int) ≤ c := by omega
        have hc' : c ≤ 9223372036854775807 := by unfold maxLen at hc; omega
        replace hrr := Kpt.mk hrr
        have hsl : Kpt (∀ m, (Instr.sliceAt 23 (.slice (some q) n c) none (some (.int .i64 (E : Int))) none).run Try.prog (w12.drewN m) = .ok (.slice (some q) E c) (w12.drewN m)) := ⟨fun m => by go_simp⟩
        have hsl2 : Kpt (∀ m, (Instr.slice 23 (.slice (some q) n c) none (some (.int .i64 (E : Int))) none).run Try.prog (w12.drewN m) = .ok (.slice (some q) E c) (w12.drewN m)) := ⟨fun m => by go_simp⟩
        rcases Nat.lt_trichotomy n wn with hlt | heq | hgt'
        · have a1 : ¬ (wn : Int) < n := by omega
          have a2 : (n : Int) < wn := by omega
          rw [if_neg a1, if_pos a2] at c1 c12
          have a3 : IntKind.i64.wrap ((wn : Int) - n) = (wn : Int) - n := by rw [IntKind.wrap_i64]; omega
          go_upto_region 29 with fail
          have hx1 := hcv1.out
          have hx2 := hcv2.out
          have hx3 := hsl.out
          have hx4 := hsl2.out
          go_quiet (fail)
          go_wp2
          go_ret
          exact ⟨rfl, hfin.out _⟩
        · have a1 : ¬ (wn : Int) < n := by omega
          have a2 : ¬ (n : Int) < wn := by omega
          replace heq := Kpt.mk heq
          rw [if_neg a1, if_neg a2] at c1 c12
          go_upto_region 29 with fail
          have hx1 := hcv1.out
          have hx2 := hcv2.out
          have hx3 := hsl.out
          have hx4 := hsl2.out
          go_quiet (fail)
          go_wp2
          go_ret
          exact ⟨rfl, hfin.out _⟩
        · have a1 : (wn : Int) < n := by omega
          rw [if_pos a1] at c1 c12
          have a3 : IntKind.i64.wrap ((n : Int) - wn) = (n : Int) - wn := by rw [IntKind.wrap_i64]; omega
          go_upto_region 29 with fail
          have hx1 := hcv1.out
          have hx2 := hcv2.out
          have hx3 := hsl.out
          have hx4 := hsl2.out
          go_quiet (fail)
          go_wp2
          go_ret
          exact ⟨rfl, hfin.out _⟩
end Go.Proofs.Ytdplndlmdhpfaaa
