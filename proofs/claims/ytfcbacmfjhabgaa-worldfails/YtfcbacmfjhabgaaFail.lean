/-
  Calls that a plan names fail, one by one.
-/
import Derived.Test.YtfcbacmfjhabgaaPlan
import Derived.Maps.AppendAt
namespace Go.Proofs.Ytfcbacmfjhabgaa
open Go.RowKit Go.Maps
set_option linter.unusedVariables false
set_option linter.unusedSimpArgs false

theorem Try.info3 : (Try.prog.info? 3).map (fun i => (i.zero, i.size, i.bytes)) = some (some (.int .i64 0), 1, 8) := by kernel_rfl

/-- The pieces: a slice of slices of bytes that can be read. -/
def PiecesAt (w : World) (v : Value) (n : Nat) (P : Nat → List Int) : Prop :=
  ∃ a c, v = .slice a n c ∧ ∀ i, i < n → ∃ b off ai ci, a = some ⟨b, off, none⟩ ∧ w.cell? ⟨b, off + i, none⟩ = some (.slice ai (P i).length ci) ∧ RdAt w (.slice ai (P i).length ci) (P i)

theorem PiecesAt.low {w w' : World} {v : Value} {n : Nat} {P : Nat → List Int} (h : PiecesAt w v n P) (b : Below w.heap.size w w') : PiecesAt w' v n P := by
  obtain ⟨a, c, rfl, h⟩ := h
  refine ⟨a, c, rfl, fun i hi => ?_⟩
  obtain ⟨b', off, ai, ci, h1, h2, h3⟩ := h i hi
  refine ⟨b', off, ai, ci, h1, ?_, h3.low b⟩
  exact (World.cell?_of_block (a := ⟨b', off + i, none⟩) (b.block b' (World.block_lt_of_cell? w ⟨b', off + i, none⟩ h2))).trans h2

theorem laidL_end (W d : List Int) : laidL W W.length d = W ++ d := by
  unfold laidL over
  simp

theorem str_append (a b : List Int) : strOfNums a ++ strOfNums b = strOfNums (a ++ b) := by
  apply ByteArray.ext
  simp [strOfNums]

/-- What the first loop keeps: the numbers so far, beside a new world. -/
structure PlanR (w wN wr : World) (B : Nat) (tN : Tags) (zs : List Int) (j : Nat) (v : Value) : Prop where
  own : wr.ownsRow wN.heap.size 3 1 v j ((zs.take j).map (Value.int .i64))
  wd : Wd wr B tN st0
  below : Below w.heap.size w wr
  size : wN.heap.size ≤ wr.heap.size

theorem PlanR.app {w wN wr : World} {B : Nat} {tN : Tags} {zs : List Int} {j : Nat} {v : Value} (h : PlanR w wN wr B tN zs j v) (hN : Wd wN B tN st0) (hbN : Below w.heap.size w wN) {o : Obj} {w' : World} {v' : Value} {x : Int} (hx : zs[j]? = some x)
    (hown : w'.ownsRow wN.heap.size 3 1 v' (j + 1) ((zs.take j).map (Value.int .i64) ++ [.int .i64 x])) (hg : (wr.alloc o).grownBy w' v.ownBlock) : PlanR w wN w' B tN zs (j + 1) v' := by
  have g0 := World.grownBy_alloc wr o none
  have hvb : ∀ g, v.ownBlock = some g → wN.heap.size ≤ g := fun g hg => (h.own.lt g hg).1
  have e : zs.take (j + 1) = zs.take j ++ [x] := by rw [List.take_add_one, hx]; rfl
  refine ⟨by rw [e, List.map_append]; exact hown, ?_, ?_, Nat.le_trans h.size (Nat.le_trans g0.size hg.size)⟩
  · refine h.wd.frame (Nat.le_trans g0.size hg.size) (fun i hi => ?_)
    have hil := h.wd.lt i hi
    have hiN := hN.lt i hi
    rw [hg.block i (Nat.lt_of_lt_of_le hil g0.size) (fun e => by have := hvb i e.symm; omega), g0.block i hil (by simp)]
  · refine h.below.trans ⟨hg.os.trans g0.os, hg.tape.trans g0.tape, hg.output.trans g0.output, Nat.le_trans g0.size hg.size, fun i hi => ?_⟩
    have hil : i < wr.heap.size := Nat.lt_of_lt_of_le hi h.below.size
    rw [hg.block i (Nat.lt_of_lt_of_le hil g0.size) (fun e => by have := hvb i e.symm; have := hbN.size; omega), g0.block i hil (by simp)]

theorem own_shape3 {w : World} {base n : Nat} {v : Value} {xs : List Value} (h : w.ownsRow base 3 1 v n xs) : ∃ a c, v = .slice a n c := by
  rcases h.2 with ⟨rfl, h0⟩ | ⟨g, cap, cur, rfl, _⟩
  · exact ⟨none, 0, by rw [h0]⟩
  · exact ⟨_, _, rfl⟩

theorem PlanR.ints {w wN wr : World} {B : Nat} {tN : Tags} {zs : List Int} {j : Nat} {v : Value} (h : PlanR w wN wr B tN zs j v) (hN : Wd wN B tN st0) (hj : j ≤ zs.length) :
    IntsAt wr v (zs.take j) ∧ (∀ g, v.ownBlock = some g → tN g = none) ∧ (∀ g, v.ownBlock = some g → wN.heap.size ≤ g) := by
  have hl : (zs.take j).length = j := by simp; omega
  refine ⟨?_, fun g hg => bare_new hN (h.own.lt g hg).1, fun g hg => (h.own.lt g hg).1⟩
  rcases h.own.2 with ⟨rfl, h0⟩ | ⟨g, cap, cur, rfl, _⟩
  · exact ⟨none, 0, by rw [hl, h0], .inl (by omega)⟩
  · refine ⟨some ⟨g, 0, none⟩, cap, by rw [hl], .inr ⟨g, 0, rfl, fun i x hx => ?_⟩⟩
    have := h.own.cells (g := g) rfl i (.int .i64 x) (by rw [List.getElem?_map, hx]; rfl)
    rw [Go.WideShapes.add_plain] at this
    exact this

theorem plan_n (w : World) (B : Nat) (tag : Tags) (st : St) (h : Wd w B tag st) (a : Option Addr) (c n : Nat) (xs : List Int) (hn : n = xs.length) (hx : IntsAt w (.slice a n c) xs) (hxl : xs.length < 1099511627776) (hwf : ∀ x ∈ xs, (Lit.int .i64 x).wf = true)
    (hbare : xs ≠ [] → ∀ g, (Value.slice a n c).ownBlock = some g → tag g = none) :
    Calls Try.prog 21 #[.pointer (some ⟨B, 0, none⟩), .slice a n c, .int .i64 (-1)] w fun e w' => e = .returned (.tuple #[]) ∧ ∃ tag', Wd w' B tag' (stP st xs) ∧ Step w w' tag tag' (fun _ => True) := by
  subst hn; exact plan_any w B tag st h a c xs hx hxl hwf hbare

theorem IntsAt.keep {w w' : World} {tag tag' : Tags} {v : Value} {xs : List Int} (h : IntsAt w v xs) (s : Step w w' tag tag' (fun _ => True)) (hb : xs ≠ [] → ∀ g, v.ownBlock = some g → tag g = none) : IntsAt w' v xs ∧ (xs ≠ [] → ∀ g, v.ownBlock = some g → tag' g = none) := by
  constructor
  · by_cases h0 : xs.length = 0
    · obtain ⟨a', c', e, _⟩ := h
      exact ⟨a', c', e, .inl h0⟩
    · exact h.of_block (fun g hg => s.block g (h.lt (by omega) hg) (by simp [hb (fun e => h0 (by rw [e]; rfl)) g hg]))
  · intro hne g hg
    exact s.bare g (h.lt (List.length_pos_iff.2 hne) hg) (hb hne g hg)

/-- What the second loop keeps. -/
structure FailR (w wr : World) (B : Nat) (xs : List Int) (pv : Value) (i : Nat) (t : Tags) (W : List Int) (st : St) : Prop where
  wd : Wd wr B t st
  below : Below w.heap.size w wr
  bare : ∀ i, i < w.heap.size → t i = none
  ints : IntsAt wr pv xs
  pbare : xs ≠ [] → ∀ g, pv.ownBlock = some g → t g = none
  fails : st.fails = fun x => decide (x ∈ xs)
  ops : st.ops = (i : Int)
  cnt : st.cnt ≤ 2 * i
  seen : st.seen nF = some W ∨ (st.seen nF = none ∧ W = [])
  len : W.length ≤ 1000 * i

theorem fail_write {w wr : World} {B : Nat} {xs : List Int} {pv : Value} {i : Nat} {t : Tags} {W : List Int} {st : St} (h : FailR w wr B xs pv i t W st) (hi : i < 30) (dv : Value) (d : List Int) (hd : RdAt wr dv d) (hdb : d ≠ [] → ∀ g, dv.ownBlock = some g → t g = none) (hdl : d.length ≤ 1000) :
    Calls Try.prog 10 #[.pointer (some ⟨B, 0, none⟩), .string nF, .int .i64 (W.length : Int), dv] wr fun e w' => e = .returned (.int .i64 (if (i : Int) ∈ xs then 6 else 0)) ∧
      ∃ t' st', FailR w w' B xs pv (i + 1) t' (if (i : Int) ∈ xs then W else W ++ d) st' := by
  have hl := h.len
  have hc := h.cnt
  refine (write_any wr B t st h.wd (by omega) nF (by decide) (by decide) W.length dv d hd hdb (by omega)).mono ?_
  rintro e w' ⟨rfl, t', hW, hs⟩
  obtain ⟨hb, ht⟩ := hs.below h.below.size h.bare
  obtain ⟨hi', hp'⟩ := h.ints.keep hs h.pbare
  have hf : st.fails st.ops = decide ((i : Int) ∈ xs) := by rw [h.fails, h.ops]
  by_cases hin : (i : Int) ∈ xs
  · rw [hf] at hW ⊢
    simp only [hin, decide_true, if_true] at hW ⊢
    refine ⟨trivial, t', _, hW, h.below.trans hb, ht, hi', hp', h.fails, ?_, ?_, h.seen, by omega⟩
    · show st.ops + 1 = _; rw [h.ops]; simp
    · show st.cnt + 1 ≤ _; omega
  · rw [hf] at hW ⊢
    simp only [hin, decide_false, Bool.false_eq_true, if_false] at hW ⊢
    refine ⟨trivial, t', _, hW, h.below.trans hb, ht, hi', hp', h.fails, ?_, ?_, ?_, by simp; omega⟩
    · show st.ops + 1 = _; rw [h.ops]; simp
    · show st.cnt + 2 ≤ _; omega
    · left
      show (Chg.wr nF W.length d).run st.seen nF = _
      simp only [Chg.run, updF_same]
      rcases h.seen with hs | ⟨hs, rfl⟩
      · rw [hs]; simp [laidL_end]
      · rw [hs]; simp [laidL_nil]

set_option maxRecDepth 100000 in
set_option maxHeartbeats 1000000 in
theorem fail_A (w : World) (ap : Option Addr) (np cp : Nat) (P : Nat → List Int) (hP : PiecesAt w (.slice ap np cp) np P) (af : Option Addr) (cf : Nat) (zs : List Int) (hz : RdAt w (.slice af zs.length cf) zs) (hzb : ∀ z ∈ zs, 0 ≤ z ∧ z ≤ 255) (mp : np ≤ maxLen) (mf : zs.length ≤ maxLen) (hA : zs.length ≤ 20) :
    Calls Try.prog 6 #[.slice ap np cp, .slice af zs.length cf] w fun e w' => e = .returned (.bool true) ∧ Below w.heap.size w w' := by
  obtain ⟨i0, hi0, hz0, hz1, hz2⟩ := info_parts Try.info3
  obtain ⟨m, hm⟩ : ∃ m, m = min zs.length 20 := ⟨_, rfl⟩
  have hm20 : m ≤ 20 := by omega
  have hmz : m ≤ zs.length := by omega
  replace hP := Kpt.mk hP
  replace hz := Kpt.mk hz
  have hi0K := Kpt.mk hi0
  replace hz0 := Kpt.mk hz0
  replace hz1 := Kpt.mk hz1
  replace hz2 := Kpt.mk hz2
  replace hm := Kpt.mk hm
  clear hi0
  obtain ⟨nf, hnf⟩ : ∃ nf, nf = zs.length := ⟨_, rfl⟩
  have hnfb : nf ≤ maxLen := by omega
  rw [← hnf] at hz ⊢
  replace hnf := Kpt.mk hnf
  go_enter Try.func6, Try.ntmps6
  go_wp2_with (first
    | (go_at_call 9; refine (new_any _).mono ?_; rintro e wN ⟨B, tN, rfl, hWN, hgN, htN'⟩; have hbN := below_new hbA hgN; have htN : ∀ i, i < w.heap.size → tN i = none := fun i hi => htN' i (Nat.lt_of_lt_of_le hi hbA.size))
    | (go_at_call 8; refine (awake_any _).mono ?_; rintro e wA ⟨rfl, hgA⟩; have hbA := below_grown hgA))
  have start : PlanR w wN wN B tN zs 0 (.slice none 0 0) := ⟨by simpa using World.ownsRow_nil wN wN.heap.size 3 1, hWN, hbN, Nat.le_refl _⟩
  replace hbN := Kpt.mk hbN
  replace htN := Kpt.mk htN
  replace hWN := Kpt.mk hWN
  clear hgN htN' hbA hgA
  go_loopw [6, 7] (fun v t wr => ∃ j : Nat, j ≤ m ∧ t = .int .i64 j ∧ PlanR w wN wr B tN zs j v) (fun _ t _ => m - (intOf t).toNat)
  case atStart => exact ⟨0, by omega, rfl, start⟩
  case round =>
    obtain ⟨j, hj, rfl, hR⟩ := hrel
    obtain ⟨av, cv, hv⟩ := own_shape3 hR.own
    subst hv
    by_cases hlt : j < m
    · have l1 : (j : Int) < (nf : Int) := by have := hnf.out; omega
      have l2 : (j : Int) < 20 := by omega
      obtain ⟨x, hx⟩ : ∃ x, zs[j]? = some x := ⟨_, List.getElem?_eq_getElem (by omega)⟩
      have hxb := hzb x (List.mem_of_getElem? hx)
      obtain ⟨b, off, rfl, hcx⟩ : ∃ b off, af = some ⟨b, off, none⟩ ∧ wr.cell? ⟨b, off + j, none⟩ = some (.int .u8 x) := by
        obtain ⟨a', c', e, _, _, h'⟩ := hz.out.low hR.below
        have := hnf.out
        simp only [Value.slice.injEq] at e
        obtain ⟨rfl, _, rfl⟩ := e
        rcases h' with h' | ⟨b, off, rfl, hc⟩
        · omega
        · exact ⟨b, off, rfl, hc j _ (by rw [cels, List.getElem?_map, hx]; rfl)⟩
      have hown1 : ∀ o, (wr.alloc o).ownsRow wN.heap.size 3 1 (.slice av j cv) j ((zs.take j).map (Value.int .i64)) := fun o => hR.own.alloc o
      replace hown1 := Kpt.mk hown1
      replace hR := Kpt.mk hR
      replace hx := Kpt.mk hx
      have hbd : j + 1 ≤ maxLen := by unfold maxLen; omega
      have hbd2 : (j + 1) * 8 ≤ 140737488355328 := by omega
      have hsz : wN.heap.size ≤ wr.heap.size + 1 := by have := hR.out.size; omega
      have hone1 : ∀ u ∈ [Value.int .i64 x], u.oneCell' = true := by simp [Value.oneCell']
      replace hone1 := Kpt.mk hone1
      replace hbd := Kpt.mk hbd
      replace hbd2 := Kpt.mk hbd2
      replace hsz := Kpt.mk hsz
      go_wp2_with (at_builtin; refine wpList_append_own _ rfl _ _ 43 rfl wN.heap.size 3 i0 (.int .i64 0) 1 8 Try.underlying43 hi0K.out hz0.out hz1.out hz2.out rfl (by decide) (.slice av j cv) j _ rfl (hown1.out _) ⟨wr.heap.size, 0, none⟩ 1 1 [.int .i64 x] rfl rfl (cell_one_new _ _ _) hone1.out hbd.out hbd2.out (by simpa using hsz.out) ?_; intro v' w' hown' hg' _)
      have hR' := hR.out.app hWN.out hbN.out hx.out hown' hg'
      clear hown' hg'
      go_roundw
      case rel => exact ⟨j + 1, by omega, by go_num, hR'⟩
      case measure => simp [intOf]; omega
    · obtain rfl : j = m := by omega
      have hnf' := hnf.out
      have hm' := hm.out
      have l1 : ¬ ((j : Int) < (nf : Int)) := by omega
      obtain ⟨hints, hbare, hge⟩ := hR.ints hWN.out hmz
      obtain ⟨xs, hxs⟩ : ∃ xs, xs = zs.take j := ⟨_, rfl⟩
      have hxl : j = xs.length := by rw [hxs]; simp; omega
      have hxw : ∀ x ∈ xs, (Lit.int .i64 x).wf = true := by
        intro x hx
        have := hzb x (by rw [hxs] at hx; exact List.mem_of_mem_take hx)
        exact WalkArith.wf_i64 (by omega)
      rw [← hxs] at hints
      have hplan := plan_n wr B tN st0 hR.wd av cv j xs hxl hints (by omega) hxw (fun _ => hbare)
      have next : ∀ w1 t1, Wd w1 B t1 (stP st0 xs) → Step wr w1 tN t1 (fun _ => True) → FailR w w1 B xs (.slice av j cv) 0 t1 [] (stP st0 xs) := by
        intro w1 t1 hW hs
        obtain ⟨hb, ht⟩ := hs.below hR.below.size htN.out
        obtain ⟨hi', hp'⟩ := hints.keep hs (fun _ => hbare)
        exact ⟨hW, hR.below.trans hb, ht, hi', hp', rfl, rfl, by simp [stP, st0], .inr ⟨rfl, rfl⟩, by simp⟩
      replace next := Kpt.mk next
      replace hxl := Kpt.mk hxl
      clear hints hbare hge hR hnf' hm' hxw hxs hzb
      go_wp2_with (go_at_call 21; refine hplan.mono ?_; rintro e w1 ⟨rfl, t1, hW1, hs1⟩)
      have start2 := next.out w1 t1 hW1 hs1
      clear hW1 hs1 hplan
      obtain ⟨q, hq⟩ : ∃ q, q = min np 30 := ⟨_, rfl⟩
      have hq30 : q ≤ 30 := by omega
      have hqn : q ≤ np := by omega
      replace hq := Kpt.mk hq
      go_loopw [8, 9] (fun sv t wr => ∃ i : Nat, i ≤ q ∧ t = .int .i64 i ∧ ∃ tg st W, sv = .string (strOfNums W) ∧ FailR w wr B xs (.slice av j cv) i tg W st) (fun _ t _ => q - (intOf t).toNat)
      case atStart => exact ⟨0, by omega, rfl, t1, _, [], rfl, start2⟩
      case round =>
        obtain ⟨i, hi, rfl, tg, st, W, rfl, hF⟩ := hrel
        clear start2
        obtain ⟨S, hS⟩ : ∃ S, S = strOfNums W := ⟨_, rfl⟩
        have hSs : S.size = W.length := by rw [hS]; exact strOfNums_size W
        rw [← hS]
        replace hS := Kpt.mk hS
        by_cases hlt2 : i < q
        · have p1 : (i : Int) < (np : Int) := by omega
          have p2 : (i : Int) < 30 := by omega
          obtain ⟨a', c', e', hpc⟩ := hP.out.low hF.below
          simp only [Value.slice.injEq, true_and] at e'
          obtain ⟨rfl, rfl⟩ := e'
          obtain ⟨pb, poff, ai, ci, rfl, hcell, hrd⟩ := hpc i (by omega)
          clear hpc
          obtain ⟨b1, o1, a1, c1, e1, hcell0, hrd0⟩ : ∃ b off ai ci, some (⟨pb, poff, none⟩ : Addr) = some ⟨b, off, none⟩ ∧ w.cell? ⟨b, off + i, none⟩ = some (.slice ai (P i).length ci) ∧ RdAt w (.slice ai (P i).length ci) (P i) := by
            obtain ⟨a2, c2, e2, h2⟩ := hP.out
            simp only [Value.slice.injEq, true_and] at e2
            obtain ⟨rfl, rfl⟩ := e2
            exact h2 i (by omega)
          simp only [Option.some.injEq, Addr.mk.injEq, and_true] at e1
          obtain ⟨rfl, rfl⟩ := e1
          have hcw : ∀ w3 : World, Below w.heap.size w w3 → w3.cell? ⟨pb, poff + i, none⟩ = some (.slice a1 (P i).length c1) := fun w3 hb3 =>
            (World.cell?_of_block (a := ⟨pb, poff + i, none⟩) (hb3.block pb (World.block_lt_of_cell? w ⟨pb, poff + i, none⟩ hcell0))).trans hcell0
          obtain ⟨ea, en, ec⟩ : ai = a1 ∧ (P i).length = (P i).length ∧ ci = c1 := by
            have := hcw wr hF.below
            rw [hcell] at this
            simpa using this
          subst ea
          subst ec
          obtain ⟨d, hd⟩ : ∃ d, d = P i := ⟨_, rfl⟩
          rw [← hd] at hcell hrd hrd0 hcw
          clear hd en
          have hrdb : FailR w wr B xs (.slice av j cv) i tg W st → d ≠ [] → ∀ g, (Value.slice ai d.length ci).ownBlock = some g → tg g = none := fun hF => hrd0.bare hF.bare
          have hpiece : Kpt (∀ w3 : World, Below w.heap.size w w3 → w3.cell? ⟨pb, poff + i, none⟩ = some (.slice ai d.length ci) ∧ (convert 22 9 (.slice ai d.length ci)).run Try.prog w3 = .ok (.string (strOfNums d)) w3) :=
            ⟨fun w3 hb3 => ⟨hcw w3 hb3, conv_rd w3 _ d (hrd0.low hb3)⟩⟩
          replace hrd0 := Kpt.mk hrd0
          clear hcw hcell0
          by_cases hlong : 1000 < d.length
          · have p3 : (1000 : Int) < (d.length : Int) := by omega
            have hbl := Kpt.mk hF.below
            clear hF hrd
            go_wp2
            go_ret
            exact ⟨rfl, hbl.out⟩
          · have p3 : ¬ ((1000 : Int) < (d.length : Int)) := by omega
            have hints := hF.ints
            replace hF := Kpt.mk hF
            replace hrd := Kpt.mk hrd
            have hj20 : j ≤ 20 := hm20
            go_wp2
            go_loop [10, 11] (fun bv t => ∃ k : Nat, k ≤ j ∧ t = .int .i64 k ∧ bv = .bool (decide ((i : Int) ∈ xs.take k))) (fun _ t => j - (intOf t).toNat)
            case atStart => exact ⟨0, by omega, rfl, by simp⟩
            case round =>
              obtain ⟨k, hk, rfl, rfl⟩ := hrel
              by_cases hkj : k < j
              · have r1 : (k : Int) < (j : Int) := by omega
                obtain ⟨x, hx⟩ : ∃ x, xs[k]? = some x := ⟨_, List.getElem?_eq_getElem (by have := hxl.out; omega)⟩
                have et : xs.take (k + 1) = xs.take k ++ [x] := by rw [List.take_add_one, hx]; rfl
                obtain ⟨g, off, rfl, hcx⟩ : ∃ g off, av = some ⟨g, off, none⟩ ∧ wr.cell? ⟨g, off + k, none⟩ = some (.int .i64 x) := by
                  obtain ⟨a2, c2, e2, h2⟩ := hints
                  simp only [Value.slice.injEq] at e2
                  obtain ⟨rfl, _, rfl⟩ := e2
                  have := hxl.out
                  rcases h2 with h2 | ⟨g, off, rfl, hc⟩
                  · omega
                  · exact ⟨g, off, rfl, hc k x hx⟩
                replace et := Kpt.mk et
                clear hx hints
                by_cases hin : (i : Int) ∈ xs.take k
                · have hd1 : decide ((i : Int) ∈ xs.take k) = true := by simp [hin]
                  rw [hd1]
                  clear hd1
                  replace hin := Kpt.mk hin
                  go_wp2
                  go_round
                  case rel => exact ⟨k + 1, by omega, by go_num, by rw [et.out]; simp [hin.out]⟩
                  case measure => simp [intOf]; omega
                · have hd1 : decide ((i : Int) ∈ xs.take k) = false := by simp [hin]
                  rw [hd1]
                  clear hd1
                  replace hin := Kpt.mk hin
                  by_cases hxi : x = (i : Int)
                  · have hb1 : (x == (i : Int)) = true := by simp [hxi]
                    replace hxi := Kpt.mk hxi
                    go_wp2
                    go_round
                    case rel => exact ⟨k + 1, by omega, by go_num, by rw [et.out, hxi.out]; simp⟩
                    case measure => simp [intOf]; omega
                  · have hb1 : (x == (i : Int)) = false := by simp [hxi]
                    have hxi' : ¬ (i : Int) = x := fun e => hxi e.symm
                    replace hxi := Kpt.mk hxi
                    replace hxi' := Kpt.mk hxi'
                    go_wp2
                    go_round
                    case rel => exact ⟨k + 1, by omega, by go_num, by rw [et.out]; simp [hin.out, hxi'.out]⟩
                    case measure => simp [intOf]; omega
              · obtain rfl : k = j := by omega
                have htk : xs.take k = xs := List.take_of_length_le (by have := hxl.out; omega)
                rw [htk]
                clear htk hints
                have hbl := hF.out.below
                have hwr := fail_write hF.out (by omega) (.slice ai d.length ci) d hrd.out (hrdb hF.out) (by omega)
                by_cases hin : (i : Int) ∈ xs
                · have hd1 : decide ((i : Int) ∈ xs) = true := by simp [hin]
                  rw [hd1]
                  simp only [hin, if_true] at hwr
                  clear hd1 hbl
                  go_wp2_with (go_at_call 10; refine hwr.mono ?_; rintro e w3 ⟨rfl, t3, st3, hF3⟩)
                  go_roundw
                  case rel => exact ⟨i + 1, by omega, by go_num, t3, st3, W, by rw [hS.out], hF3⟩
                  case measure => simp [intOf]; omega
                · have hd1 : decide ((i : Int) ∈ xs) = false := by simp [hin]
                  rw [hd1]
                  simp only [hin, if_false] at hwr
                  have hcat : ¬ (9223372036854775807 < W.length + (strOfNums d).size) := by rw [strOfNums_size]; have := hF.out.len; omega
                  clear hd1 hbl
                  go_wp2_with (go_at_call 10; refine hwr.mono ?_; rintro e w3 ⟨rfl, t3, st3, hF3⟩; obtain ⟨hc3, hv3⟩ := hpiece.out w3 hF3.below)
                  go_roundw
                  case rel => exact ⟨i + 1, by omega, by go_num, t3, st3, W ++ d, by rw [hS.out, str_append], hF3⟩
                  case measure => simp [intOf]; omega
        · obtain rfl : i = q := by omega
          have hplan2 := plan_n wr B tg st hF.wd none 0 0 [] rfl ⟨none, 0, rfl, .inl rfl⟩ (by simp) (by simp) (by simp)
          have hbl := hF.below
          have hbr := hF.bare
          have hlenW := hF.len
          have hcnt : (stP st []).cnt < 549755813888 := by have := hF.cnt; show st.cnt < _; omega
          have hseen := hF.seen
          replace hcnt := Kpt.mk hcnt
          have hq' := hq.out
          clear hF
          by_cases hnp : np ≤ 30
          · have l3 : ¬ ((i : Int) < (np : Int)) := by omega
            clear hq'
            rcases hseen with hs | ⟨hs, hs0⟩
            · have hRd : (W.drop 0).take 40000 = W := by rw [List.drop_zero, List.take_of_length_le (by omega)]
              have hne : ((W.length : Int) == -1) = false := by simp
              have hne2 : ¬ ((W.length : Int) = -1) := by omega
              replace hRd := Kpt.mk hRd
              replace hs := Kpt.mk hs
              go_wp2_with (first
                | (go_at_call 15; refine (size_some _ B t5 (stR (stP st [])) hW6 nF (by decide) W hs.out).mono ?_; rintro e w' ⟨rfl, hw'⟩; rw [hw'])
                | (go_at_call 14; refine (read_ok _ B t5 (stP st []) hW5 hcnt.out (by simp [stP]) nF (by decide) (by decide) 0 40000 (by decide) (by decide) W hs.out).mono ?_; rintro e w6 ⟨v6, rfl, hW6, hs6, hr6, hn6⟩; obtain ⟨hb6', _⟩ := hs6.below hb5.size ht5; have hb6 := hb5.trans hb6'; rw [hRd.out] at hr6; obtain ⟨a6, c6, rfl, _⟩ := rd_shape hr6.rd; have hC := conv_rd _ _ _ hr6.rd; rw [← hS.out] at hC)
                | (go_at_call 21; refine hplan2.mono ?_; rintro e w5 ⟨rfl, t5, hW5, hs5⟩; obtain ⟨hb5', ht5⟩ := hs5.below hbl.size hbr; have hb5 := hbl.trans hb5'))
              go_ret
              exact ⟨rfl, hb6⟩
            · have hSe : S = ⟨#[]⟩ := by rw [hS.out, hs0]; rfl
              subst hSe
              replace hs := Kpt.mk hs
              go_wp2_with (first
                | (go_at_call 15; refine (size_none _ B t5 (stR (stP st [])) hW6 nF (by decide) hs.out).mono ?_; rintro e w' ⟨rfl, hw'⟩; rw [hw'])
                | (go_at_call 14; refine (read_none _ B t5 (stP st []) hW5 hcnt.out (by simp [stP]) nF (by decide) (by decide) 0 40000 hs.out).mono ?_; rintro e w6 ⟨rfl, hW6, hs6⟩; obtain ⟨hb6', _⟩ := hs6.below hb5.size ht5; have hb6 := hb5.trans hb6')
                | (go_at_call 21; refine hplan2.mono ?_; rintro e w5 ⟨rfl, t5, hW5, hs5⟩; obtain ⟨hb5', ht5⟩ := hs5.below hbl.size hbr; have hb5 := hbl.trans hb5'))
              go_ret
              exact ⟨rfl, hb6⟩
          · have l3 : ((i : Int) < (np : Int)) := by omega
            have l4 : ¬ ((i : Int) < 30) := by omega
            clear hq'
            rcases hseen with hs | ⟨hs, hs0⟩
            · have hRd : (W.drop 0).take 40000 = W := by rw [List.drop_zero, List.take_of_length_le (by omega)]
              have hne : ((W.length : Int) == -1) = false := by simp
              have hne2 : ¬ ((W.length : Int) = -1) := by omega
              replace hRd := Kpt.mk hRd
              replace hs := Kpt.mk hs
              go_wp2_with (first
                | (go_at_call 15; refine (size_some _ B t5 (stR (stP st [])) hW6 nF (by decide) W hs.out).mono ?_; rintro e w' ⟨rfl, hw'⟩; rw [hw'])
                | (go_at_call 14; refine (read_ok _ B t5 (stP st []) hW5 hcnt.out (by simp [stP]) nF (by decide) (by decide) 0 40000 (by decide) (by decide) W hs.out).mono ?_; rintro e w6 ⟨v6, rfl, hW6, hs6, hr6, hn6⟩; obtain ⟨hb6', _⟩ := hs6.below hb5.size ht5; have hb6 := hb5.trans hb6'; rw [hRd.out] at hr6; obtain ⟨a6, c6, rfl, _⟩ := rd_shape hr6.rd; have hC := conv_rd _ _ _ hr6.rd; rw [← hS.out] at hC)
                | (go_at_call 21; refine hplan2.mono ?_; rintro e w5 ⟨rfl, t5, hW5, hs5⟩; obtain ⟨hb5', ht5⟩ := hs5.below hbl.size hbr; have hb5 := hbl.trans hb5'))
              go_ret
              exact ⟨rfl, hb6⟩
            · have hSe : S = ⟨#[]⟩ := by rw [hS.out, hs0]; rfl
              subst hSe
              replace hs := Kpt.mk hs
              go_wp2_with (first
                | (go_at_call 15; refine (size_none _ B t5 (stR (stP st [])) hW6 nF (by decide) hs.out).mono ?_; rintro e w' ⟨rfl, hw'⟩; rw [hw'])
                | (go_at_call 14; refine (read_none _ B t5 (stP st []) hW5 hcnt.out (by simp [stP]) nF (by decide) (by decide) 0 40000 hs.out).mono ?_; rintro e w6 ⟨rfl, hW6, hs6⟩; obtain ⟨hb6', _⟩ := hs6.below hb5.size ht5; have hb6 := hb5.trans hb6')
                | (go_at_call 21; refine hplan2.mono ?_; rintro e w5 ⟨rfl, t5, hW5, hs5⟩; obtain ⟨hb5', ht5⟩ := hs5.below hbl.size hbr; have hb5 := hbl.trans hb5'))
              go_ret
              exact ⟨rfl, hb6⟩
set_option maxRecDepth 100000 in
set_option maxHeartbeats 1000000 in
theorem fail_B (w : World) (ap : Option Addr) (np cp : Nat) (P : Nat → List Int) (hP : PiecesAt w (.slice ap np cp) np P) (af : Option Addr) (cf : Nat) (zs : List Int) (hz : RdAt w (.slice af zs.length cf) zs) (hzb : ∀ z ∈ zs, 0 ≤ z ∧ z ≤ 255) (mp : np ≤ maxLen) (mf : zs.length ≤ maxLen) (hA : 20 < zs.length) :
    Calls Try.prog 6 #[.slice ap np cp, .slice af zs.length cf] w fun e w' => e = .returned (.bool true) ∧ Below w.heap.size w w' := by
  obtain ⟨i0, hi0, hz0, hz1, hz2⟩ := info_parts Try.info3
  obtain ⟨m, hm⟩ : ∃ m, m = min zs.length 20 := ⟨_, rfl⟩
  have hm20 : m ≤ 20 := by omega
  have hmz : m ≤ zs.length := by omega
  replace hP := Kpt.mk hP
  replace hz := Kpt.mk hz
  have hi0K := Kpt.mk hi0
  replace hz0 := Kpt.mk hz0
  replace hz1 := Kpt.mk hz1
  replace hz2 := Kpt.mk hz2
  replace hm := Kpt.mk hm
  clear hi0
  obtain ⟨nf, hnf⟩ : ∃ nf, nf = zs.length := ⟨_, rfl⟩
  have hnfb : nf ≤ maxLen := by omega
  rw [← hnf] at hz ⊢
  replace hnf := Kpt.mk hnf
  go_enter Try.func6, Try.ntmps6
  go_wp2_with (first
    | (go_at_call 9; refine (new_any _).mono ?_; rintro e wN ⟨B, tN, rfl, hWN, hgN, htN'⟩; have hbN := below_new hbA hgN; have htN : ∀ i, i < w.heap.size → tN i = none := fun i hi => htN' i (Nat.lt_of_lt_of_le hi hbA.size))
    | (go_at_call 8; refine (awake_any _).mono ?_; rintro e wA ⟨rfl, hgA⟩; have hbA := below_grown hgA))
  have start : PlanR w wN wN B tN zs 0 (.slice none 0 0) := ⟨by simpa using World.ownsRow_nil wN wN.heap.size 3 1, hWN, hbN, Nat.le_refl _⟩
  replace hbN := Kpt.mk hbN
  replace htN := Kpt.mk htN
  replace hWN := Kpt.mk hWN
  clear hgN htN' hbA hgA
  go_loopw [6, 7] (fun v t wr => ∃ j : Nat, j ≤ m ∧ t = .int .i64 j ∧ PlanR w wN wr B tN zs j v) (fun _ t _ => m - (intOf t).toNat)
  case atStart => exact ⟨0, by omega, rfl, start⟩
  case round =>
    obtain ⟨j, hj, rfl, hR⟩ := hrel
    obtain ⟨av, cv, hv⟩ := own_shape3 hR.own
    subst hv
    by_cases hlt : j < m
    · have l1 : (j : Int) < (nf : Int) := by have := hnf.out; omega
      have l2 : (j : Int) < 20 := by omega
      obtain ⟨x, hx⟩ : ∃ x, zs[j]? = some x := ⟨_, List.getElem?_eq_getElem (by omega)⟩
      have hxb := hzb x (List.mem_of_getElem? hx)
      obtain ⟨b, off, rfl, hcx⟩ : ∃ b off, af = some ⟨b, off, none⟩ ∧ wr.cell? ⟨b, off + j, none⟩ = some (.int .u8 x) := by
        obtain ⟨a', c', e, _, _, h'⟩ := hz.out.low hR.below
        have := hnf.out
        simp only [Value.slice.injEq] at e
        obtain ⟨rfl, _, rfl⟩ := e
        rcases h' with h' | ⟨b, off, rfl, hc⟩
        · omega
        · exact ⟨b, off, rfl, hc j _ (by rw [cels, List.getElem?_map, hx]; rfl)⟩
      have hown1 : ∀ o, (wr.alloc o).ownsRow wN.heap.size 3 1 (.slice av j cv) j ((zs.take j).map (Value.int .i64)) := fun o => hR.own.alloc o
      replace hown1 := Kpt.mk hown1
      replace hR := Kpt.mk hR
      replace hx := Kpt.mk hx
      have hbd : j + 1 ≤ maxLen := by unfold maxLen; omega
      have hbd2 : (j + 1) * 8 ≤ 140737488355328 := by omega
      have hsz : wN.heap.size ≤ wr.heap.size + 1 := by have := hR.out.size; omega
      have hone1 : ∀ u ∈ [Value.int .i64 x], u.oneCell' = true := by simp [Value.oneCell']
      replace hone1 := Kpt.mk hone1
      replace hbd := Kpt.mk hbd
      replace hbd2 := Kpt.mk hbd2
      replace hsz := Kpt.mk hsz
      go_wp2_with (at_builtin; refine wpList_append_own _ rfl _ _ 43 rfl wN.heap.size 3 i0 (.int .i64 0) 1 8 Try.underlying43 hi0K.out hz0.out hz1.out hz2.out rfl (by decide) (.slice av j cv) j _ rfl (hown1.out _) ⟨wr.heap.size, 0, none⟩ 1 1 [.int .i64 x] rfl rfl (cell_one_new _ _ _) hone1.out hbd.out hbd2.out (by simpa using hsz.out) ?_; intro v' w' hown' hg' _)
      have hR' := hR.out.app hWN.out hbN.out hx.out hown' hg'
      clear hown' hg'
      go_roundw
      case rel => exact ⟨j + 1, by omega, by go_num, hR'⟩
      case measure => simp [intOf]; omega
    · obtain rfl : j = m := by omega
      have hnf' := hnf.out
      have hm' := hm.out
      have l1 : ((j : Int) < (nf : Int)) := by omega
      have l2 : ¬ ((j : Int) < 20) := by omega
      obtain ⟨hints, hbare, hge⟩ := hR.ints hWN.out hmz
      obtain ⟨xs, hxs⟩ : ∃ xs, xs = zs.take j := ⟨_, rfl⟩
      have hxl : j = xs.length := by rw [hxs]; simp; omega
      have hxw : ∀ x ∈ xs, (Lit.int .i64 x).wf = true := by
        intro x hx
        have := hzb x (by rw [hxs] at hx; exact List.mem_of_mem_take hx)
        exact WalkArith.wf_i64 (by omega)
      rw [← hxs] at hints
      have hplan := plan_n wr B tN st0 hR.wd av cv j xs hxl hints (by omega) hxw (fun _ => hbare)
      have next : ∀ w1 t1, Wd w1 B t1 (stP st0 xs) → Step wr w1 tN t1 (fun _ => True) → FailR w w1 B xs (.slice av j cv) 0 t1 [] (stP st0 xs) := by
        intro w1 t1 hW hs
        obtain ⟨hb, ht⟩ := hs.below hR.below.size htN.out
        obtain ⟨hi', hp'⟩ := hints.keep hs (fun _ => hbare)
        exact ⟨hW, hR.below.trans hb, ht, hi', hp', rfl, rfl, by simp [stP, st0], .inr ⟨rfl, rfl⟩, by simp⟩
      replace next := Kpt.mk next
      replace hxl := Kpt.mk hxl
      clear hints hbare hge hR hnf' hm' hxw hxs hzb
      go_wp2_with (go_at_call 21; refine hplan.mono ?_; rintro e w1 ⟨rfl, t1, hW1, hs1⟩)
      have start2 := next.out w1 t1 hW1 hs1
      clear hW1 hs1 hplan
      obtain ⟨q, hq⟩ : ∃ q, q = min np 30 := ⟨_, rfl⟩
      have hq30 : q ≤ 30 := by omega
      have hqn : q ≤ np := by omega
      replace hq := Kpt.mk hq
      go_loopw [8, 9] (fun sv t wr => ∃ i : Nat, i ≤ q ∧ t = .int .i64 i ∧ ∃ tg st W, sv = .string (strOfNums W) ∧ FailR w wr B xs (.slice av j cv) i tg W st) (fun _ t _ => q - (intOf t).toNat)
      case atStart => exact ⟨0, by omega, rfl, t1, _, [], rfl, start2⟩
      case round =>
        obtain ⟨i, hi, rfl, tg, st, W, rfl, hF⟩ := hrel
        clear start2
        obtain ⟨S, hS⟩ : ∃ S, S = strOfNums W := ⟨_, rfl⟩
        have hSs : S.size = W.length := by rw [hS]; exact strOfNums_size W
        rw [← hS]
        replace hS := Kpt.mk hS
        by_cases hlt2 : i < q
        · have p1 : (i : Int) < (np : Int) := by omega
          have p2 : (i : Int) < 30 := by omega
          obtain ⟨a', c', e', hpc⟩ := hP.out.low hF.below
          simp only [Value.slice.injEq, true_and] at e'
          obtain ⟨rfl, rfl⟩ := e'
          obtain ⟨pb, poff, ai, ci, rfl, hcell, hrd⟩ := hpc i (by omega)
          clear hpc
          obtain ⟨b1, o1, a1, c1, e1, hcell0, hrd0⟩ : ∃ b off ai ci, some (⟨pb, poff, none⟩ : Addr) = some ⟨b, off, none⟩ ∧ w.cell? ⟨b, off + i, none⟩ = some (.slice ai (P i).length ci) ∧ RdAt w (.slice ai (P i).length ci) (P i) := by
            obtain ⟨a2, c2, e2, h2⟩ := hP.out
            simp only [Value.slice.injEq, true_and] at e2
            obtain ⟨rfl, rfl⟩ := e2
            exact h2 i (by omega)
          simp only [Option.some.injEq, Addr.mk.injEq, and_true] at e1
          obtain ⟨rfl, rfl⟩ := e1
          have hcw : ∀ w3 : World, Below w.heap.size w w3 → w3.cell? ⟨pb, poff + i, none⟩ = some (.slice a1 (P i).length c1) := fun w3 hb3 =>
            (World.cell?_of_block (a := ⟨pb, poff + i, none⟩) (hb3.block pb (World.block_lt_of_cell? w ⟨pb, poff + i, none⟩ hcell0))).trans hcell0
          obtain ⟨ea, en, ec⟩ : ai = a1 ∧ (P i).length = (P i).length ∧ ci = c1 := by
            have := hcw wr hF.below
            rw [hcell] at this
            simpa using this
          subst ea
          subst ec
          obtain ⟨d, hd⟩ : ∃ d, d = P i := ⟨_, rfl⟩
          rw [← hd] at hcell hrd hrd0 hcw
          clear hd en
          have hrdb : FailR w wr B xs (.slice av j cv) i tg W st → d ≠ [] → ∀ g, (Value.slice ai d.length ci).ownBlock = some g → tg g = none := fun hF => hrd0.bare hF.bare
          have hpiece : Kpt (∀ w3 : World, Below w.heap.size w w3 → w3.cell? ⟨pb, poff + i, none⟩ = some (.slice ai d.length ci) ∧ (convert 22 9 (.slice ai d.length ci)).run Try.prog w3 = .ok (.string (strOfNums d)) w3) :=
            ⟨fun w3 hb3 => ⟨hcw w3 hb3, conv_rd w3 _ d (hrd0.low hb3)⟩⟩
          replace hrd0 := Kpt.mk hrd0
          clear hcw hcell0
          by_cases hlong : 1000 < d.length
          · have p3 : (1000 : Int) < (d.length : Int) := by omega
            have hbl := Kpt.mk hF.below
            clear hF hrd
            go_wp2
            go_ret
            exact ⟨rfl, hbl.out⟩
          · have p3 : ¬ ((1000 : Int) < (d.length : Int)) := by omega
            have hints := hF.ints
            replace hF := Kpt.mk hF
            replace hrd := Kpt.mk hrd
            have hj20 : j ≤ 20 := hm20
            go_wp2
            go_loop [10, 11] (fun bv t => ∃ k : Nat, k ≤ j ∧ t = .int .i64 k ∧ bv = .bool (decide ((i : Int) ∈ xs.take k))) (fun _ t => j - (intOf t).toNat)
            case atStart => exact ⟨0, by omega, rfl, by simp⟩
            case round =>
              obtain ⟨k, hk, rfl, rfl⟩ := hrel
              by_cases hkj : k < j
              · have r1 : (k : Int) < (j : Int) := by omega
                obtain ⟨x, hx⟩ : ∃ x, xs[k]? = some x := ⟨_, List.getElem?_eq_getElem (by have := hxl.out; omega)⟩
                have et : xs.take (k + 1) = xs.take k ++ [x] := by rw [List.take_add_one, hx]; rfl
                obtain ⟨g, off, rfl, hcx⟩ : ∃ g off, av = some ⟨g, off, none⟩ ∧ wr.cell? ⟨g, off + k, none⟩ = some (.int .i64 x) := by
                  obtain ⟨a2, c2, e2, h2⟩ := hints
                  simp only [Value.slice.injEq] at e2
                  obtain ⟨rfl, _, rfl⟩ := e2
                  have := hxl.out
                  rcases h2 with h2 | ⟨g, off, rfl, hc⟩
                  · omega
                  · exact ⟨g, off, rfl, hc k x hx⟩
                replace et := Kpt.mk et
                clear hx hints
                by_cases hin : (i : Int) ∈ xs.take k
                · have hd1 : decide ((i : Int) ∈ xs.take k) = true := by simp [hin]
                  rw [hd1]
                  clear hd1
                  replace hin := Kpt.mk hin
                  go_wp2
                  go_round
                  case rel => exact ⟨k + 1, by omega, by go_num, by rw [et.out]; simp [hin.out]⟩
                  case measure => simp [intOf]; omega
                · have hd1 : decide ((i : Int) ∈ xs.take k) = false := by simp [hin]
                  rw [hd1]
                  clear hd1
                  replace hin := Kpt.mk hin
                  by_cases hxi : x = (i : Int)
                  · have hb1 : (x == (i : Int)) = true := by simp [hxi]
                    replace hxi := Kpt.mk hxi
                    go_wp2
                    go_round
                    case rel => exact ⟨k + 1, by omega, by go_num, by rw [et.out, hxi.out]; simp⟩
                    case measure => simp [intOf]; omega
                  · have hb1 : (x == (i : Int)) = false := by simp [hxi]
                    have hxi' : ¬ (i : Int) = x := fun e => hxi e.symm
                    replace hxi := Kpt.mk hxi
                    replace hxi' := Kpt.mk hxi'
                    go_wp2
                    go_round
                    case rel => exact ⟨k + 1, by omega, by go_num, by rw [et.out]; simp [hin.out, hxi'.out]⟩
                    case measure => simp [intOf]; omega
              · obtain rfl : k = j := by omega
                have htk : xs.take k = xs := List.take_of_length_le (by have := hxl.out; omega)
                rw [htk]
                clear htk hints
                have hbl := hF.out.below
                have hwr := fail_write hF.out (by omega) (.slice ai d.length ci) d hrd.out (hrdb hF.out) (by omega)
                by_cases hin : (i : Int) ∈ xs
                · have hd1 : decide ((i : Int) ∈ xs) = true := by simp [hin]
                  rw [hd1]
                  simp only [hin, if_true] at hwr
                  clear hd1 hbl
                  go_wp2_with (go_at_call 10; refine hwr.mono ?_; rintro e w3 ⟨rfl, t3, st3, hF3⟩)
                  go_roundw
                  case rel => exact ⟨i + 1, by omega, by go_num, t3, st3, W, by rw [hS.out], hF3⟩
                  case measure => simp [intOf]; omega
                · have hd1 : decide ((i : Int) ∈ xs) = false := by simp [hin]
                  rw [hd1]
                  simp only [hin, if_false] at hwr
                  have hcat : ¬ (9223372036854775807 < W.length + (strOfNums d).size) := by rw [strOfNums_size]; have := hF.out.len; omega
                  clear hd1 hbl
                  go_wp2_with (go_at_call 10; refine hwr.mono ?_; rintro e w3 ⟨rfl, t3, st3, hF3⟩; obtain ⟨hc3, hv3⟩ := hpiece.out w3 hF3.below)
                  go_roundw
                  case rel => exact ⟨i + 1, by omega, by go_num, t3, st3, W ++ d, by rw [hS.out, str_append], hF3⟩
                  case measure => simp [intOf]; omega
        · obtain rfl : i = q := by omega
          have hplan2 := plan_n wr B tg st hF.wd none 0 0 [] rfl ⟨none, 0, rfl, .inl rfl⟩ (by simp) (by simp) (by simp)
          have hbl := hF.below
          have hbr := hF.bare
          have hlenW := hF.len
          have hcnt : (stP st []).cnt < 549755813888 := by have := hF.cnt; show st.cnt < _; omega
          have hseen := hF.seen
          replace hcnt := Kpt.mk hcnt
          have hq' := hq.out
          clear hF
          by_cases hnp : np ≤ 30
          · have l3 : ¬ ((i : Int) < (np : Int)) := by omega
            clear hq'
            rcases hseen with hs | ⟨hs, hs0⟩
            · have hRd : (W.drop 0).take 40000 = W := by rw [List.drop_zero, List.take_of_length_le (by omega)]
              have hne : ((W.length : Int) == -1) = false := by simp
              have hne2 : ¬ ((W.length : Int) = -1) := by omega
              replace hRd := Kpt.mk hRd
              replace hs := Kpt.mk hs
              go_wp2_with (first
                | (go_at_call 15; refine (size_some _ B t5 (stR (stP st [])) hW6 nF (by decide) W hs.out).mono ?_; rintro e w' ⟨rfl, hw'⟩; rw [hw'])
                | (go_at_call 14; refine (read_ok _ B t5 (stP st []) hW5 hcnt.out (by simp [stP]) nF (by decide) (by decide) 0 40000 (by decide) (by decide) W hs.out).mono ?_; rintro e w6 ⟨v6, rfl, hW6, hs6, hr6, hn6⟩; obtain ⟨hb6', _⟩ := hs6.below hb5.size ht5; have hb6 := hb5.trans hb6'; rw [hRd.out] at hr6; obtain ⟨a6, c6, rfl, _⟩ := rd_shape hr6.rd; have hC := conv_rd _ _ _ hr6.rd; rw [← hS.out] at hC)
                | (go_at_call 21; refine hplan2.mono ?_; rintro e w5 ⟨rfl, t5, hW5, hs5⟩; obtain ⟨hb5', ht5⟩ := hs5.below hbl.size hbr; have hb5 := hbl.trans hb5'))
              go_ret
              exact ⟨rfl, hb6⟩
            · have hSe : S = ⟨#[]⟩ := by rw [hS.out, hs0]; rfl
              subst hSe
              replace hs := Kpt.mk hs
              go_wp2_with (first
                | (go_at_call 15; refine (size_none _ B t5 (stR (stP st [])) hW6 nF (by decide) hs.out).mono ?_; rintro e w' ⟨rfl, hw'⟩; rw [hw'])
                | (go_at_call 14; refine (read_none _ B t5 (stP st []) hW5 hcnt.out (by simp [stP]) nF (by decide) (by decide) 0 40000 hs.out).mono ?_; rintro e w6 ⟨rfl, hW6, hs6⟩; obtain ⟨hb6', _⟩ := hs6.below hb5.size ht5; have hb6 := hb5.trans hb6')
                | (go_at_call 21; refine hplan2.mono ?_; rintro e w5 ⟨rfl, t5, hW5, hs5⟩; obtain ⟨hb5', ht5⟩ := hs5.below hbl.size hbr; have hb5 := hbl.trans hb5'))
              go_ret
              exact ⟨rfl, hb6⟩
          · have l3 : ((i : Int) < (np : Int)) := by omega
            have l4 : ¬ ((i : Int) < 30) := by omega
            clear hq'
            rcases hseen with hs | ⟨hs, hs0⟩
            · have hRd : (W.drop 0).take 40000 = W := by rw [List.drop_zero, List.take_of_length_le (by omega)]
              have hne : ((W.length : Int) == -1) = false := by simp
              have hne2 : ¬ ((W.length : Int) = -1) := by omega
              replace hRd := Kpt.mk hRd
              replace hs := Kpt.mk hs
              go_wp2_with (first
                | (go_at_call 15; refine (size_some _ B t5 (stR (stP st [])) hW6 nF (by decide) W hs.out).mono ?_; rintro e w' ⟨rfl, hw'⟩; rw [hw'])
                | (go_at_call 14; refine (read_ok _ B t5 (stP st []) hW5 hcnt.out (by simp [stP]) nF (by decide) (by decide) 0 40000 (by decide) (by decide) W hs.out).mono ?_; rintro e w6 ⟨v6, rfl, hW6, hs6, hr6, hn6⟩; obtain ⟨hb6', _⟩ := hs6.below hb5.size ht5; have hb6 := hb5.trans hb6'; rw [hRd.out] at hr6; obtain ⟨a6, c6, rfl, _⟩ := rd_shape hr6.rd; have hC := conv_rd _ _ _ hr6.rd; rw [← hS.out] at hC)
                | (go_at_call 21; refine hplan2.mono ?_; rintro e w5 ⟨rfl, t5, hW5, hs5⟩; obtain ⟨hb5', ht5⟩ := hs5.below hbl.size hbr; have hb5 := hbl.trans hb5'))
              go_ret
              exact ⟨rfl, hb6⟩
            · have hSe : S = ⟨#[]⟩ := by rw [hS.out, hs0]; rfl
              subst hSe
              replace hs := Kpt.mk hs
              go_wp2_with (first
                | (go_at_call 15; refine (size_none _ B t5 (stR (stP st [])) hW6 nF (by decide) hs.out).mono ?_; rintro e w' ⟨rfl, hw'⟩; rw [hw'])
                | (go_at_call 14; refine (read_none _ B t5 (stP st []) hW5 hcnt.out (by simp [stP]) nF (by decide) (by decide) 0 40000 hs.out).mono ?_; rintro e w6 ⟨rfl, hW6, hs6⟩; obtain ⟨hb6', _⟩ := hs6.below hb5.size ht5; have hb6 := hb5.trans hb6')
                | (go_at_call 21; refine hplan2.mono ?_; rintro e w5 ⟨rfl, t5, hW5, hs5⟩; obtain ⟨hb5', ht5⟩ := hs5.below hbl.size hbr; have hb5 := hbl.trans hb5'))
              go_ret
              exact ⟨rfl, hb6⟩
end Go.Proofs.Ytfcbacmfjhabgaa
