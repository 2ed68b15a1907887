/-
  What is handed in may be written over, what is answered, too.
-/
import Derived.Test.YtfcbacmfjhabgaaNil
namespace Go.Proofs.Ytfcbacmfjhabgaa
open Go.RowKit Go.Maps
set_option linter.unusedVariables false
set_option linter.unusedSimpArgs false

/-- A row of the caller's beside a world, while it is written over. -/
structure Mine (w wr : World) (B : Nat) (t : Tags) (st : St) (v : Value) (n : Nat) : Prop where
  row : ∃ L : List Int, L.length = n ∧ Row wr v L
  wd : Wd wr B t st
  below : Below w.heap.size w wr
  bare : ∀ g, v.ownBlock = some g → t g = none ∧ w.heap.size ≤ g

theorem Mine.at {w wr : World} {B : Nat} {t : Tags} {st : St} {a : Option Addr} {n c : Nat} (h : Mine w wr B t st (.slice a n c) n) (i : Nat) (hi : i < n) :
    ∃ g x, a = some ⟨g, 0, none⟩ ∧ wr.cell? ⟨g, i, none⟩ = some (.int .u8 x) ∧ wr.frozen? ⟨g, i, none⟩ = false ∧ ∀ y : Int, Mine w (wr.setCell ⟨g, i, none⟩ (.int .u8 y)) B t st (.slice a n c) n := by
  obtain ⟨⟨L, hL, hr⟩, hw, hb, hbare⟩ := h
  obtain ⟨g, rfl⟩ : ∃ g, a = some ⟨g, 0, none⟩ := by
    rcases hr.2 with ⟨hx, h0⟩ | ⟨g, cap, cur, hx, _⟩
    · omega
    · simp only [Value.slice.injEq] at hx; exact ⟨g, hx.1⟩
  have hg := hbare g rfl
  refine ⟨g, L.getD i 0, rfl, ?_, ?_, fun y => ?_⟩
  · have := World.ownsRow.cells hr (g := g) rfl i (.int .u8 (L.getD i 0)) (by
      rw [cels, List.getElem?_map, List.getElem?_eq_getElem (by omega), List.getD_eq_getElem?_getD, List.getElem?_eq_getElem (by omega)]; rfl)
    rw [Go.WideShapes.add_plain] at this
    simpa using this
  · rcases hr.2 with ⟨hx, _⟩ | ⟨g', cap, cur, hx, _, hgg, _⟩
    · cases hx
    · simp only [Value.slice.injEq, Option.some.injEq, Addr.mk.injEq, and_true, true_and] at hx
      obtain ⟨rfl, _⟩ := hx
      simp [World.frozen?, hgg]
  · refine ⟨⟨L.set i y, by simpa using hL, hr.put hL.symm i y⟩, ?_, ?_, hbare⟩
    · exact hw.frame (by simp [World.setCell]) (fun j hj => setCell_other wr _ _ (fun e => hj (by rw [e]; exact hg.1)))
    · exact hb.trans ⟨rfl, rfl, rfl, by simp [World.setCell], fun j hj => setCell_other wr _ _ (fun e => by have e' : j = g := e; omega)⟩

theorem own_shape5 {w : World} {base n : Nat} {v : Value} {xs : List Value} (h : w.ownsRow base 5 1 v n xs) : ∃ a c, v = .slice a n c := by
  rcases h.2 with ⟨rfl, h0⟩ | ⟨g, cap, cur, rfl, _⟩
  · exact ⟨none, 0, by rw [h0]⟩
  · exact ⟨_, _, rfl⟩
theorem row_of_own {w : World} {base : Nat} {v : Value} {zs : List Int} (h : w.ownsRow base 5 1 v zs.length (cels zs)) : Row w v zs := by
  refine ⟨h.1, ?_⟩
  rcases h.2 with hn | ⟨g, cap, cur, hv, hb, rest⟩
  · exact .inl hn
  · exact .inr ⟨g, cap, cur, hv, Nat.zero_le _, rest⟩

def kS1 (d : List Int) : St := stW st0 nF 0 d

set_option maxRecDepth 100000 in
set_option maxHeartbeats 4000000 in
theorem keep_any (w : World) (a0 : Option Addr) (c0 n : Nat) (d : List Int) (hn : n = d.length) (h0 : RdAt w (.slice a0 n c0) d) (m0 : n ≤ 5000) (name : ByteArray) :
    Calls Try.prog 5 #[.slice a0 n c0, .string name] w fun e w' => e = .returned (.bool true) ∧ Below w.heap.size w w' := by
  have M0 : ¬ ((5000 : Int) < (n : Int)) := by omega
  have c1 : (kS1 d).cnt < 549755813888 := by simp [kS1, stW, st0]
  have c2 : (stR (kS1 d)).cnt < 549755813888 := by simp [stR, kS1, stW, st0]
  have f1 : (kS1 d).seen nF = some d := by simp [kS1, stW, st0, Chg.run, laidL_nil]
  have f2 : (stR (kS1 d)).seen nF = some d := f1
  have hRd : (d.drop 0).take 10000 = d := by rw [List.drop_zero, List.take_of_length_le (by omega)]
  have hod : 0 + d.length ≤ 1048576 := by omega
  have hroom : ([] : List Int).length + d.length ≤ 140737488355328 := by simp; omega
  have hnil : ∀ W : World, W.ownsRow W.heap.size 5 1 (.slice none 0 0) ([] : List Int).length (cels []) := fun W => World.ownsRow_nil _ _ _ _
  replace c1 := Kpt.mk c1
  replace c2 := Kpt.mk c2
  replace f1 := Kpt.mk f1
  replace f2 := Kpt.mk f2
  replace hRd := Kpt.mk hRd
  replace hod := Kpt.mk hod
  replace hroom := Kpt.mk hroom
  replace hnil := Kpt.mk hnil
  replace h0 := Kpt.mk h0
  replace hn := Kpt.mk hn
  go_enter Try.func5, Try.ntmps5
  go_wp2_with (first
    | (go_at_call 10; refine (write_ok _ B tN st0 hWP 0 calm0 (by omega) nF (by decide) (by decide) 0 0 rfl _ d hrP.rd (fun _ => htP) hod.out).mono ?_; rintro e w1 ⟨rfl, t1, hW1, hs1⟩; obtain ⟨hb1', ht1⟩ := hs1.below hbP.size htN; have hb1 := hbP.trans hb1'; obtain ⟨hr1, hbare1⟩ := hrP.keep hs1 htP; have hC1 := conv_rd _ _ _ hr1.rd; have hC2 := conv_rd _ _ _ (h0.out.low hb1))
    | (at_builtin; refine wpList_append_rd rfl _ _ rfl wN.heap.size (.slice none 0 0) [] rfl (hnil.out wN) _ d rfl (h0.out.low hbN) hroom.out (Nat.le_refl _) ?_; intro vP wP hownP hgP; rw [List.nil_append] at hownP; obtain ⟨am, cm, hvP⟩ := own_shape5 hownP; rw [← hn.out] at hvP; subst hvP; have hgP' : wN.grownBy wP none := (by simpa [Value.ownBlock] using hgP); have hrP : Row wP (.slice am n cm) d := row_of_own hownP; have hbP := below_new hbN hgP'; have hWP := hWN.step (Step.grown hgP' tN _); have hgeP := (fun g hg => (World.ownsRow.lt hownP g hg).1); have htP := (fun g hg => bare_new hWN (hgeP g hg)))
    | (go_at_call 9; refine (new_any _).mono ?_; rintro e wN ⟨B, tN, rfl, hWN, hgN, htN'⟩; have hbN := below_new hbA hgN; have htN : ∀ i, i < w.heap.size → tN i = none := fun i hi => htN' i (Nat.lt_of_lt_of_le hi hbA.size))
    | (go_at_call 8; refine (awake_any _).mono ?_; rintro e wA ⟨rfl, hgA⟩; have hbA := below_grown hgA))
  have mine1 : Mine w w1 B t1 (kS1 d) (.slice am n cm) n := ⟨⟨d, hn.out.symm, hr1⟩, hW1, hb1, fun g hg => ⟨hbare1 g hg, Nat.le_trans hbN.size (hgeP g hg)⟩⟩
  replace ht1 := Kpt.mk ht1
  clear hC1 hC2 hr1 hbare1 hW1 hs1 hb1 hb1' htP hgeP hWP hbP hrP hgP' hownP hgP htN hbN htN' hgN hWN hbA hgA
  go_loopw [7] (fun t wr => ∃ j : Nat, j ≤ n ∧ t = .int .i64 j ∧ Mine w wr B t1 (kS1 d) (.slice am n cm) n) (fun t _ => n - (intOf t).toNat)
  case atStart => exact ⟨0, by omega, rfl, mine1⟩
  case round =>
    obtain ⟨j, hj, rfl, hM⟩ := hrel
    by_cases hlt : j < n
    · have hlt' : (j : Int) < (n : Int) := by omega
      obtain ⟨g, x, rfl, hcell, hfz, hput⟩ := hM.at j hlt
      clear hM mine1
      replace hput := Kpt.mk hput
      go_wp2
      go_roundw
      case rel => exact ⟨j + 1, by omega, by go_num, hput.out _⟩
      case measure => simp [intOf]; omega
    · obtain rfl : j = n := by omega
      have hWr := hM.wd
      have hbr := hM.below
      clear hM mine1
      go_wp2_with (go_at_call 14; refine (read_ok _ B t1 (kS1 d) hWr c1.out rfl nF (by decide) (by decide) 0 10000 (by decide) (by decide) d f1.out).mono ?_; rintro e w2 ⟨v2, rfl, hW2, hs2, hr2, hn2⟩; obtain ⟨hb2', _⟩ := hs2.below hbr.size ht1.out; have hb2 := hbr.trans hb2'; rw [hRd.out] at hr2; obtain ⟨aq, cq, hv2, _⟩ := rd_shape hr2.rd; rw [← hn.out] at hv2; subst hv2; have hC1 := conv_rd _ _ _ hr2.rd; have hC2 := conv_rd _ _ _ (h0.out.low hb2))
      have mine2 : Mine w w2 B t1 (stR (kS1 d)) (.slice aq j cq) j := ⟨⟨d, hn.out.symm, hr2⟩, hW2, hb2, fun g hg => ⟨bare_new hWr (hn2 g hg), Nat.le_trans hbr.size (hn2 g hg)⟩⟩
      clear hC1 hC2 hr2 hn2 hW2 hs2 hb2 hb2' hWr hbr
      go_loopw [10] (fun t wr => ∃ k : Nat, k ≤ j ∧ t = .int .i64 k ∧ Mine w wr B t1 (stR (kS1 d)) (.slice aq j cq) j) (fun t _ => j - (intOf t).toNat)
      case atStart => exact ⟨0, by omega, rfl, mine2⟩
      case round =>
        obtain ⟨k, hk, rfl, hM⟩ := hrel
        by_cases hlt2 : k < j
        · have hlt' : (k : Int) < (j : Int) := by omega
          obtain ⟨g, x, rfl, hcell, hfz, hput⟩ := hM.at k hlt2
          clear hM mine2
          replace hput := Kpt.mk hput
          go_wp2
          go_roundw
          case rel => exact ⟨k + 1, by omega, by go_num, hput.out _⟩
          case measure => simp [intOf]; omega
        · obtain rfl : k = j := by omega
          have hWr := hM.wd
          have hbr := hM.below
          have hnp : k ≤ 1048576 := by omega
          clear hM mine2
          go_wp2_with (first
            | (go_at_call_of 14 (Value.pointer none); refine (read_nil _ ⟨#[102]⟩ (by decide) (by decide)).mono ?_; rintro e w' ⟨rfl, hw'⟩; rw [hw'])
            | (go_at_call 14; refine (read_ok _ B t1 (stR (kS1 d)) hWr c2.out rfl nF (by decide) (by decide) 0 10000 (by decide) (by decide) d f2.out).mono ?_; rintro e w4 ⟨v4, rfl, hW4, hs4, hr4, hn4⟩; obtain ⟨hb4', _⟩ := hs4.below hbr.size ht1.out; have hb4 := hbr.trans hb4'; rw [hRd.out] at hr4; obtain ⟨ar, cr, hv4, _⟩ := rd_shape hr4.rd; rw [← hn.out] at hv4; subst hv4; have hC1 := conv_rd _ _ _ hr4.rd; have hC2 := conv_rd _ _ _ (h0.out.low hb4))
            | (go_at_call 10; refine (write_nil _ ⟨#[102]⟩ (by decide) (by decide) a0 k c0 hnp).mono ?_; rintro e w' ⟨rfl, hw'⟩; rw [hw'])
            | (go_at_call 11; refine (sync_nil _).mono ?_; rintro e w' ⟨rfl, hw'⟩; rw [hw'])
            | (go_at_call 16; refine (rename_nil _ ⟨#[102]⟩ ⟨#[103]⟩ (by decide) (by decide) (by decide) (by decide)).mono ?_; rintro e w5 ⟨rfl, hg5⟩; have hb5 := below_new hb4 hg5)
            | (go_at_call 17; refine (remove_nil _ ⟨#[102]⟩ (by decide) (by decide)).mono ?_; rintro e w6 ⟨rfl, hg6⟩; have hb6 := below_new hb5 hg6)
            | (go_at_call 18; refine (names_nil _).mono ?_; rintro e w' ⟨rfl, hw'⟩; rw [hw'])
            | (go_at_call 15; refine (size_nil _ name).mono ?_; rintro e w' ⟨rfl, hw'⟩; rw [hw'])
            | (go_at_call 19; refine (ops_nil _).mono ?_; rintro e w' ⟨rfl, hw'⟩; rw [hw'])
            | (go_at_call 12; refine (waits_nil _).mono ?_; rintro e w' ⟨rfl, hw'⟩; rw [hw'])
            | (go_at_call 20; refine (off_nil _).mono ?_; rintro e w' ⟨rfl, hw'⟩; rw [hw']))
          go_ret
          exact ⟨rfl, hb6⟩

set_option maxRecDepth 100000 in
theorem keep_long (w : World) (a0 : Option Addr) (c0 n0 : Nat) (h : 5000 < n0) (m0 : n0 ≤ maxLen) (name : ByteArray) :
    Calls Try.prog 5 #[.slice a0 n0 c0, .string name] w fun e w' => e = .returned (.bool true) ∧ Below w.heap.size w w' := by
  have two : ∀ wA wB : World, w.grownBy wA none → wA.grownBy wB none → Below w.heap.size w wB := by
    intro wA wB h1 h2
    have g := h1.andThen h2 (by simp)
    exact ⟨g.os, g.tape, g.output, g.size, fun i hi => g.block i hi (by simp)⟩
  replace two := Kpt.mk two
  have H0 : (5000 : Int) < (n0 : Int) := by omega
  go_enter Try.func5, Try.ntmps5
  go_wp2_with (first
    | (go_at_call 8; refine (awake_any wA).mono ?_; rintro e wB ⟨rfl, hgB⟩)
    | (go_at_call 8; refine (awake_any _).mono ?_; rintro e wA ⟨rfl, hgA⟩))
  go_ret
  exact ⟨rfl, two.out _ _ hgA hgB⟩
end Go.Proofs.Ytfcbacmfjhabgaa
