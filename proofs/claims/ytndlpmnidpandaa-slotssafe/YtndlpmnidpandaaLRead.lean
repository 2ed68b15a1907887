/-
  The contracts of Read, Size, Waits.
-/
import Derived.Test.YtndlpmnidpandaaWrite
namespace Go.Proofs.Ytndlpmnidpandaa
open Go.RowKit Go.Maps
set_option linter.unusedVariables false
set_option linter.unusedSimpArgs false

theorem made_u8 (n : Nat) : (madeCells (Value.int .u8 0).cells (n * 1)).toList = cels (List.replicate n 0) := by
  have : madeCells (Value.int .u8 0).cells (n * 1) = (cels (List.replicate n 0)).toArray := by
    apply Array.ext
    · simp [madeCells]
    · intro i h1 h2
      simp [madeCells, Value.cells, cels]
      have : i % 1 = 0 := by omega
      simp [this]
  rw [this]

/-- A row that was made, filled off a row that is as long, or longer. -/
theorem wpList_copy_fill {w : World} {ops : Array Oper} {rest : List Oper} {o : Oper} {a : Act} {Q : Exit → Act → World → Prop} (hgd : o.guard = none) (d s : Operand)
    (ho : o.op = .call { callee := .builtin .copy, args := #[d, s], argTypes := #[23, 23] })
    (g n : Nat) (hd : a.eval d = .slice (some ⟨g, 0, none⟩) n n) (zs : List Int) (hz : zs.length = n) (hrow : Row w (.slice (some ⟨g, 0, none⟩) n n) zs)
    (sv : Value) (ds : List Int) (hs : a.eval s = sv) (hrd : RdAt w sv ds) (hfit : n ≤ ds.length)
    (h : ∀ w', Row w' (.slice (some ⟨g, 0, none⟩) n n) (ds.take n) → w.grownBy w' (some g) → wpList Try.prog ops Q rest (a.put o.dst (goInt n)) w') : wpList Try.prog ops Q (o :: rest) a w := by
  obtain ⟨sa, sc, rfl, hsn, hsl, hsr⟩ := hrd
  subst hz
  have hl : (ds.take zs.length).length = zs.length := by simp; omega
  by_cases h0 : zs.length = 0
  · refine wpList_copy_nothing hgd d s 23 23 ho 5 Try.underlying23 Try.size5 _ sa _ _ ds.length sc hd hs (by rw [h0]; simp) ?_
    have e : zs = [] := List.eq_nil_of_length_eq_zero h0
    have := h w (by rw [h0]; simp; subst e; exact hrow) ⟨rfl, rfl, rfl, Nat.le_refl _, fun _ _ _ => rfl⟩
    rw [h0] at this
    exact this
  · rcases hsr with h1 | ⟨b, soff, rfl, hc⟩
    · omega
    · rcases hrow.2 with ⟨hx, _⟩ | ⟨g', cap', cur, hx, hbg, hg, hnc, hcm, hcs, htake⟩
      · cases hx
      · simp only [Value.slice.injEq, Option.some.injEq, Addr.mk.injEq, and_true, true_and] at hx
        obtain ⟨rfl, rfl⟩ := hx
        refine wpList_copy_own hgd d s 23 23 ho 5 Try.underlying23 Try.size5 g 0 zs.length zs.length ⟨b, soff, none⟩ ds.length sc hd hs cur 5 hg (cels (ds.take zs.length)) ?_ ?_ ?_ (cels_one _) ?_
        · simp only [cels_length, hl]; show zs.length = Nat.min ds.length zs.length; exact (Nat.min_eq_right hfit).symm
        · intro j u hu
          rw [Go.WideShapes.add_plain]
          refine hc j u ?_
          simp only [cels, List.map_take, List.getElem?_take] at hu
          split at hu
          · exact hu
          · cases hu
        · simp only [cels_length, hl]; omega
        · rw [cels_length, hl]
          refine h _ ⟨?_, .inr ⟨g, zs.length, _, ?_, Nat.zero_le _, setRow_heap w g cur _ 5 _ hg, ?_, hcm, ?_, ?_⟩⟩ ⟨rfl, rfl, rfl, by simp, fun j _ hk => setRow_other w g j _ (fun e => hk (by rw [e]))⟩
          · simp
          · rw [hl]
          · rw [hl]; exact Nat.le_refl _
          · simp [hl]; omega
          · rw [hl]
            simp only [List.take_zero, List.nil_append, Nat.zero_add, Nat.mul_one]
            rw [List.take_append_of_le_length (by simp [hl]), List.take_of_length_le (by simp [hl])]

/-- The cut 'p[off:]' of an owned row can be read. -/
theorem row_cut_rd {w : World} {a : Option Addr} {cap : Nat} {zs : List Int} (h : Row w (.slice a zs.length cap) zs) (off : Nat) (hoff : off ≤ zs.length) :
    ∃ dp dc, (∀ W : World, (Instr.slice 23 (.slice a zs.length cap) (some (.int .i64 (off : Int))) none none).run Try.prog W = .ok (.slice dp (zs.length - off) dc) W) ∧ RdAt w (.slice dp (zs.length - off) dc) (zs.drop off) ∧ (∀ g, (Value.slice dp (zs.length - off) dc).ownBlock = some g → (Value.slice a zs.length cap).ownBlock = some g) := by
  obtain ⟨i, hi, hz, hsize, hby⟩ := info_parts Try.info5
  refine ⟨if cap = off then a else a.map (·.add (off * 1)), cap - off, fun W => ?_, ?_, ?_⟩
  · have hel : Try.prog.underlying 23 = some (.slice (Try.prog.elem 23)) := by rw [show Try.prog.elem 23 = 5 from by kernel_rfl]; exact Try.underlying23
    rw [Go.run_slice_l (P := Try.prog) W 23 a zs.length cap hel .i64 (off : Int) (by omega) (by omega)]
    rw [show Try.prog.elem 23 = 5 from by kernel_rfl]
    simp [sizeOf, typeInfo, hi, hsize, Result.andThen, sliced]
  · rcases h.2 with ⟨hx, h0⟩ | ⟨g, cap', cur, hx, _, hg, hc, hm, _, _⟩
    · simp only [Value.slice.injEq] at hx; obtain ⟨rfl, _, rfl⟩ := hx
      have e : zs = [] := List.eq_nil_of_length_eq_zero h0
      subst e
      exact ⟨none, 0 - off, by simp, fun _ => ⟨by simp, by omega⟩, by simp, .inl (by simp)⟩
    · simp only [Value.slice.injEq] at hx
      obtain ⟨rfl, _, rfl⟩ := hx
      refine ⟨_, _, by rw [List.length_drop], ?_, by simp; omega, ?_⟩
      · by_cases hco : cap = off <;> simp [hco]
      · by_cases hl : zs.length - off = 0
        · left; simp; omega
        · right
          refine ⟨g, off, ?_, fun j u hu => ?_⟩
          · have hco : ¬ cap = off := by omega
            simp [hco, Go.WideShapes.add_plain]
          · have := World.ownsRow.cells h (g := g) rfl (off + j) u (by
              simp only [cels, List.map_drop, List.getElem?_drop] at hu ⊢
              exact hu)
            rw [Go.WideShapes.add_plain] at this
            simpa using this
  · intro g hg
    cases a with
    | none => by_cases hco : cap = off <;> simp [hco, Value.ownBlock] at hg
    | some x =>
      by_cases hco : cap = off
      · simpa [hco, Value.ownBlock] using hg
      · rcases h.2 with ⟨hx, h0⟩ | ⟨g', cap', cur, hx, _⟩
        · cases hx
        · simp only [Value.slice.injEq, Option.some.injEq] at hx
          obtain ⟨rfl, _, rfl⟩ := hx
          simpa [hco, Value.ownBlock, Go.WideShapes.add_plain] using hg

theorem seen_look {w : World} {B : Nat} {tag : Tags} {st : St} {M1 M2 n2 : Nat} {wv : Value} {fv : Option Nat} {f1 f2 : ByteArray → Option Value} {l : List (Chg × Value)} (h : Inv w B tag st M1 M2 wv fv f1 f2 l n2)
    {s : ByteArray} (hs' : s.size ≤ 32) {zs : List Int} (hs : st.seen s = some zs) :
    ∃ a cap, (Instr.lookup 67 (.map (some M1)) (.string s) true).run Try.prog w = .ok (.tuple #[.slice a zs.length cap, .bool true]) w ∧ Row w (.slice a zs.length cap) zs ∧ ∀ g, (Value.slice a zs.length cap).ownBlock = some g → tag g = some (.r1 s) := by
  have := h.seen s
  rw [hs] at this
  obtain ⟨_, v, hf, hr, ht⟩ := this
  obtain ⟨a, cap, rfl, _⟩ := row_shape hr
  refine ⟨a, cap, ?_, hr, ht⟩
  rw [h.map1.look_ok (size32 hs'), hf]
  rfl

theorem seen_none {w : World} {B : Nat} {tag : Tags} {st : St} {M1 M2 n2 : Nat} {wv : Value} {fv : Option Nat} {f1 f2 : ByteArray → Option Value} {l : List (Chg × Value)} (h : Inv w B tag st M1 M2 wv fv f1 f2 l n2)
    {s : ByteArray} (hs' : s.size ≤ 32) (hs : st.seen s = none) :
    (Instr.lookup 67 (.map (some M1)) (.string s) true).run Try.prog w = .ok (.tuple #[.slice none 0 0, .bool false]) w := by
  have := h.seen s
  rw [hs] at this
  rw [h.map1.look_ok (size32 hs'), this]
  rfl

set_option maxRecDepth 100000 in
set_option maxHeartbeats 1000000 in
theorem read_ok (w : World) (B : Nat) (tag : Tags) (st : St) (h : Wd w B tag st) (hc : st.cnt < 549755813888) (hf : st.fails st.ops = false) (s : ByteArray) (h1 : 1 ≤ s.size) (h2 : s.size ≤ 32) (off n : Nat) (hn : n ≤ 1048576) (ho : off ≤ 1099511627776)
    (zs : List Int) (hs : st.seen s = some zs) :
    Calls Try.prog 21 #[.pointer (some ⟨B, 0, none⟩), .string s, .int .i64 (off : Int), .int .i64 (n : Int)] w fun e w' => ∃ v, e = .returned (.tuple #[v, .int .i64 0]) ∧
      Wd w' B tag { st with ops := st.ops + 1, cnt := st.cnt + 1 } ∧ Step w w' tag tag (fun _ => True) ∧ Row w' v ((zs.drop off).take n) ∧ ∀ g, v.ownBlock = some g → w.heap.size ≤ g := by
  obtain ⟨M1, M2, wv, fv, f1, f2, l, n2, h⟩ := h
  have hcl := call_any w B tag st M1 M2 n2 wv fv f1 f2 l h (by omega) (h.live hf)
  rw [hf] at hcl
  simp only [Bool.false_eq_true, if_false] at hcl
  obtain ⟨i0, hi0, hz0, hz1, hz2⟩ := info_parts Try.info5
  have hzl : zs.length ≤ 1048576 := by have := h.seen s; rw [hs] at this; exact this.1
  obtain ⟨m, hm⟩ : ∃ m, m = min off zs.length := ⟨_, rfl⟩
  obtain ⟨q, hq⟩ : ∃ q, q = min n (zs.length - m) := ⟨_, rfl⟩
  have hml : m ≤ zs.length := by omega
  have hql : q ≤ 1048576 := by omega
  have H1 : ¬ ((off : Int) < 0) := by omega
  have H2 : ¬ ((n : Int) < 0) := by omega
  have hfin : (zs.drop m).take q = (zs.drop off).take n := by
    by_cases ho' : off ≤ zs.length
    · have : m = off := by omega
      subst this
      rw [hq]
      by_cases hn' : n ≤ zs.length - m
      · rw [Nat.min_eq_left hn']
      · rw [Nat.min_eq_right (by omega), List.take_of_length_le (by simp), List.take_of_length_le (by simp; omega)]
    · have : m = zs.length := by omega
      rw [this, List.drop_eq_nil_of_le (Nat.le_refl _), List.drop_eq_nil_of_le (by omega)]
      simp
  have hBt := h.tB
  obtain ⟨dl, hdl⟩ : ∃ dl, dl = zs.length - m := ⟨_, rfl⟩
  rw [← hdl] at hq
  have hA : (off ≤ zs.length ∧ m = off) ∨ (zs.length < off ∧ m = zs.length) := by omega
  have hB : (n ≤ dl ∧ q = n) ∨ (dl < n ∧ q = dl) := by omega
  have hqd : q ≤ (zs.drop m).length := by simp; omega
  replace hfin := Kpt.mk hfin
  clear hm hq h
  replace hs := Kpt.mk hs
  replace hqd := Kpt.mk hqd
  replace hdl := Kpt.mk hdl
  have hi0K := Kpt.mk hi0
  replace hz0 := Kpt.mk hz0
  replace hz1 := Kpt.mk hz1
  replace hz2 := Kpt.mk hz2
  clear hi0
  rcases hA with ⟨a1, e1⟩ | ⟨a1, e1⟩
  · rcases hB with ⟨b1, e2⟩ | ⟨b1, e2⟩
    · obtain rfl : off = m := e1.symm
      have A1 : (off : Int) ≤ (zs.length : Int) := by omega
      have A2 : ¬ ((zs.length : Int) < (off : Int)) := by omega
      obtain rfl : n = q := e2.symm
      have B1 : (n : Int) ≤ (dl : Int) := by omega
      have B2 : ¬ ((dl : Int) < (n : Int)) := by omega
      go_enter Try.func21, Try.ntmps21
      go_wp2_with (first
        | (go_at_call 40; refine (named_ok s _ h1 h2).mono ?_; rintro e w' ⟨rfl, hw'⟩; rw [hw'])
        | (go_at_call 41; refine hcl.mono ?_; rintro e w1 ⟨rfl, hI1, hg1⟩; have cB := hI1.at.1; obtain ⟨a, cap, hlook, hrow, hrt⟩ := seen_look hI1 h2 hs.out; obtain ⟨dp, dc, hcut, hrdp, hblk⟩ := row_cut_rd hrow off hml; rw [← hdl.out] at hcut hrdp hblk)
        | (at_make; refine wpList_make_full _ rfl _ _ 23 rfl 0 5 i0 (.int .u8 0) 1 Try.underlying23 hi0K.out hz0.out hz1.out .i64 .i64 _ _ n rfl rfl rfl rfl (by rw [hz2.out]; omega) (by unfold maxLen; omega) (Nat.zero_le _) ?_; intro w2 hown2 hg2; rw [made_u8] at hown2; replace hrdp := RdAt.of_block hrdp (fun g hg => hg2.block g (hrow.lt (hblk g hg)) (by simp)))
        | (refine wpList_copy_fill rfl _ _ rfl w1.heap.size n rfl (List.replicate n 0) (by simp) (by unfold Row; rw [List.length_replicate]; exact hown2) _ (zs.drop off) rfl hrdp hqd.out ?_; intro w3 hrow3 hg3))
      go_ret2
      have st1 : Step w w1 tag tag (fun _ => True) := Step.turned hg1 tag hBt trivial
      have hg13 : w1.grownBy w3 none := hg2.andThen hg3 (fun j hj => by cases hj; exact .inl (Nat.le_refl _))
      exact ⟨_, rfl, ⟨M1, M2, wv, fv, f1, f2, l, n2, hI1.step (Step.grown hg13 _ _)⟩, st1.trans (Step.grown hg13 _ _), (by first | exact hrow3 | exact hfin.out ▸ hrow3), fun g hg => by cases hg; exact st1.size⟩
    · obtain rfl : off = m := e1.symm
      have A1 : (off : Int) ≤ (zs.length : Int) := by omega
      have A2 : ¬ ((zs.length : Int) < (off : Int)) := by omega
      obtain rfl : dl = q := e2.symm
      have B1 : ¬ ((n : Int) ≤ (dl : Int)) := by omega
      have B2 : ((dl : Int) < (n : Int)) := by omega
      go_enter Try.func21, Try.ntmps21
      go_wp2_with (first
        | (go_at_call 40; refine (named_ok s _ h1 h2).mono ?_; rintro e w' ⟨rfl, hw'⟩; rw [hw'])
        | (go_at_call 41; refine hcl.mono ?_; rintro e w1 ⟨rfl, hI1, hg1⟩; have cB := hI1.at.1; obtain ⟨a, cap, hlook, hrow, hrt⟩ := seen_look hI1 h2 hs.out; obtain ⟨dp, dc, hcut, hrdp, hblk⟩ := row_cut_rd hrow off hml; rw [← hdl.out] at hcut hrdp hblk)
        | (at_make; refine wpList_make_full _ rfl _ _ 23 rfl 0 5 i0 (.int .u8 0) 1 Try.underlying23 hi0K.out hz0.out hz1.out .i64 .i64 _ _ dl rfl rfl rfl rfl (by rw [hz2.out]; omega) (by unfold maxLen; omega) (Nat.zero_le _) ?_; intro w2 hown2 hg2; rw [made_u8] at hown2; replace hrdp := RdAt.of_block hrdp (fun g hg => hg2.block g (hrow.lt (hblk g hg)) (by simp)))
        | (refine wpList_copy_fill rfl _ _ rfl w1.heap.size dl rfl (List.replicate dl 0) (by simp) (by unfold Row; rw [List.length_replicate]; exact hown2) _ (zs.drop off) rfl hrdp hqd.out ?_; intro w3 hrow3 hg3))
      go_ret2
      have st1 : Step w w1 tag tag (fun _ => True) := Step.turned hg1 tag hBt trivial
      have hg13 : w1.grownBy w3 none := hg2.andThen hg3 (fun j hj => by cases hj; exact .inl (Nat.le_refl _))
      exact ⟨_, rfl, ⟨M1, M2, wv, fv, f1, f2, l, n2, hI1.step (Step.grown hg13 _ _)⟩, st1.trans (Step.grown hg13 _ _), (by first | exact hrow3 | exact hfin.out ▸ hrow3), fun g hg => by cases hg; exact st1.size⟩
  · rcases hB with ⟨b1, e2⟩ | ⟨b1, e2⟩
    · obtain rfl : m = zs.length := e1
      have A1 : ¬ ((off : Int) ≤ (zs.length : Int)) := by omega
      have A2 : ((zs.length : Int) < (off : Int)) := by omega
      obtain rfl : n = q := e2.symm
      have B1 : (n : Int) ≤ (dl : Int) := by omega
      have B2 : ¬ ((dl : Int) < (n : Int)) := by omega
      go_enter Try.func21, Try.ntmps21
      go_wp2_with (first
        | (go_at_call 40; refine (named_ok s _ h1 h2).mono ?_; rintro e w' ⟨rfl, hw'⟩; rw [hw'])
        | (go_at_call 41; refine hcl.mono ?_; rintro e w1 ⟨rfl, hI1, hg1⟩; have cB := hI1.at.1; obtain ⟨a, cap, hlook, hrow, hrt⟩ := seen_look hI1 h2 hs.out; obtain ⟨dp, dc, hcut, hrdp, hblk⟩ := row_cut_rd hrow zs.length hml; rw [← hdl.out] at hcut hrdp hblk)
        | (at_make; refine wpList_make_full _ rfl _ _ 23 rfl 0 5 i0 (.int .u8 0) 1 Try.underlying23 hi0K.out hz0.out hz1.out .i64 .i64 _ _ n rfl rfl rfl rfl (by rw [hz2.out]; omega) (by unfold maxLen; omega) (Nat.zero_le _) ?_; intro w2 hown2 hg2; rw [made_u8] at hown2; replace hrdp := RdAt.of_block hrdp (fun g hg => hg2.block g (hrow.lt (hblk g hg)) (by simp)))
        | (refine wpList_copy_fill rfl _ _ rfl w1.heap.size n rfl (List.replicate n 0) (by simp) (by unfold Row; rw [List.length_replicate]; exact hown2) _ (zs.drop zs.length) rfl hrdp hqd.out ?_; intro w3 hrow3 hg3))
      go_ret2
      have st1 : Step w w1 tag tag (fun _ => True) := Step.turned hg1 tag hBt trivial
      have hg13 : w1.grownBy w3 none := hg2.andThen hg3 (fun j hj => by cases hj; exact .inl (Nat.le_refl _))
      exact ⟨_, rfl, ⟨M1, M2, wv, fv, f1, f2, l, n2, hI1.step (Step.grown hg13 _ _)⟩, st1.trans (Step.grown hg13 _ _), (by first | exact hrow3 | exact hfin.out ▸ hrow3), fun g hg => by cases hg; exact st1.size⟩
    · obtain rfl : m = zs.length := e1
      have A1 : ¬ ((off : Int) ≤ (zs.length : Int)) := by omega
      have A2 : ((zs.length : Int) < (off : Int)) := by omega
      obtain rfl : dl = q := e2.symm
      have B1 : ¬ ((n : Int) ≤ (dl : Int)) := by omega
      have B2 : ((dl : Int) < (n : Int)) := by omega
      go_enter Try.func21, Try.ntmps21
      go_wp2_with (first
        | (go_at_call 40; refine (named_ok s _ h1 h2).mono ?_; rintro e w' ⟨rfl, hw'⟩; rw [hw'])
        | (go_at_call 41; refine hcl.mono ?_; rintro e w1 ⟨rfl, hI1, hg1⟩; have cB := hI1.at.1; obtain ⟨a, cap, hlook, hrow, hrt⟩ := seen_look hI1 h2 hs.out; obtain ⟨dp, dc, hcut, hrdp, hblk⟩ := row_cut_rd hrow zs.length hml; rw [← hdl.out] at hcut hrdp hblk)
        | (at_make; refine wpList_make_full _ rfl _ _ 23 rfl 0 5 i0 (.int .u8 0) 1 Try.underlying23 hi0K.out hz0.out hz1.out .i64 .i64 _ _ dl rfl rfl rfl rfl (by rw [hz2.out]; omega) (by unfold maxLen; omega) (Nat.zero_le _) ?_; intro w2 hown2 hg2; rw [made_u8] at hown2; replace hrdp := RdAt.of_block hrdp (fun g hg => hg2.block g (hrow.lt (hblk g hg)) (by simp)))
        | (refine wpList_copy_fill rfl _ _ rfl w1.heap.size dl rfl (List.replicate dl 0) (by simp) (by unfold Row; rw [List.length_replicate]; exact hown2) _ (zs.drop zs.length) rfl hrdp hqd.out ?_; intro w3 hrow3 hg3))
      go_ret2
      have st1 : Step w w1 tag tag (fun _ => True) := Step.turned hg1 tag hBt trivial
      have hg13 : w1.grownBy w3 none := hg2.andThen hg3 (fun j hj => by cases hj; exact .inl (Nat.le_refl _))
      exact ⟨_, rfl, ⟨M1, M2, wv, fv, f1, f2, l, n2, hI1.step (Step.grown hg13 _ _)⟩, st1.trans (Step.grown hg13 _ _), (by first | exact hrow3 | exact hfin.out ▸ hrow3), fun g hg => by cases hg; exact st1.size⟩

set_option maxRecDepth 100000 in
set_option maxHeartbeats 1000000 in
theorem read_none (w : World) (B : Nat) (tag : Tags) (st : St) (h : Wd w B tag st) (hc : st.cnt < 549755813888) (hf : st.fails st.ops = false) (s : ByteArray) (h1 : 1 ≤ s.size) (h2 : s.size ≤ 32) (off n : Nat)
    (hs : st.seen s = none) :
    Calls Try.prog 21 #[.pointer (some ⟨B, 0, none⟩), .string s, .int .i64 (off : Int), .int .i64 (n : Int)] w fun e w' => e = .returned (.tuple #[.slice none 0 0, .int .i64 8]) ∧
      Wd w' B tag { st with ops := st.ops + 1, cnt := st.cnt + 1 } ∧ Step w w' tag tag (fun _ => True) := by
  obtain ⟨M1, M2, wv, fv, f1, f2, l, n2, h⟩ := h
  have hcl := call_any w B tag st M1 M2 n2 wv fv f1 f2 l h (by omega) (h.live hf)
  rw [hf] at hcl
  simp only [Bool.false_eq_true, if_false] at hcl
  have H1 : ¬ ((off : Int) < 0) := by omega
  have H2 : ¬ ((n : Int) < 0) := by omega
  have hBt := h.tB
  replace hs := Kpt.mk hs
  clear h
  go_enter Try.func21, Try.ntmps21
  go_wp2_with (first
      | (go_at_call 40; refine (named_ok s _ h1 h2).mono ?_; rintro e w' ⟨rfl, hw'⟩; rw [hw'])
      | (go_at_call 41; refine hcl.mono ?_; rintro e w1 ⟨rfl, hI1, hg1⟩; have cB := hI1.at.1; have hlook := seen_none hI1 h2 hs.out))
  go_ret2
  exact ⟨rfl, ⟨M1, M2, wv, fv, f1, f2, l, n2, hI1⟩, Step.turned hg1 tag hBt trivial⟩

theorem waits_shape {w : World} {tag : Tags} {wv : Value} {l : List (Chg × Value)} (h : WaitsIs w tag wv l) : ∃ a c, wv = .slice a l.length c := by
  rcases h.2.1.2 with ⟨rfl, h0⟩ | ⟨g, cap, cur, rfl, _⟩
  · exact ⟨none, 0, by rw [h0]⟩
  · exact ⟨_, _, rfl⟩

theorem waits_any (w : World) (B : Nat) (tag : Tags) (st : St) (h : Wd w B tag st) :
    Calls Try.prog 23 #[.pointer (some ⟨B, 0, none⟩)] w fun e w' => e = .returned (.int .i64 (st.waits.length : Int)) ∧ w' = w := by
  obtain ⟨M1, M2, wv, fv, f1, f2, l, n2, h⟩ := h
  have cB := h.at.2.2.1
  obtain ⟨a, c, rfl⟩ := waits_shape h.waits
  have hl : l.length = st.waits.length := by rw [← h.l_eq]; simp
  clear h
  go_enter Try.func23, Try.ntmps23
  go_wp2
  go_ret
  exact ⟨rfl, rfl⟩

/-- The world of New. -/
def st0 : St := { seen := fun _ => none, dur := fun _ => none, waits := [], fails := fun _ => false, ops := 0, cnt := 0 }

theorem new_any (w : World) :
    Calls Try.prog 12 #[] w fun e w' => ∃ B tag, e = .returned (.pointer (some ⟨B, 0, none⟩)) ∧ Wd w' B tag st0 ∧ w.grownBy w' none ∧ (∀ i, i < w.heap.size → tag i = none) := by
  have hmm := @run_makeMap Try.prog
  go_enter Try.func12, Try.ntmps12
  go_wp2
  go_ret
  clear hmm
  obtain ⟨n, hn⟩ : ∃ n, n = w.heap.size := ⟨_, rfl⟩
  obtain ⟨wa, hwa⟩ : ∃ wa, wa = w.alloc (.map #[] 0) := ⟨_, rfl⟩
  obtain ⟨wb, hwb⟩ : ∃ wb, wb = wa.alloc (.map #[] 0) := ⟨_, rfl⟩
  obtain ⟨wc, hwc⟩ : ∃ wc, wc = wb.alloc (.cells (wdCells n (n + 1) (.slice none 0 0) none 0) 71) := ⟨_, rfl⟩
  have sa : wa.heap.size = n + 1 := by rw [hwa, hn]; simp
  have sb : wb.heap.size = n + 2 := by rw [hwb]; simp [sa]
  have sc : wc.heap.size = n + 3 := by rw [hwc]; simp [sb]
  have ga : w.grownBy wa none := by rw [hwa]; exact World.grownBy_alloc _ _ _
  have gb : wa.grownBy wb none := by rw [hwb]; exact World.grownBy_alloc _ _ _
  have gc : wb.grownBy wc none := by rw [hwc]; exact World.grownBy_alloc _ _ _
  have m1 : MapIs wc n 0 (fun _ => none) := by
    have h0 : MapIs wa n 0 (fun _ => none) := by rw [hwa, hn]; exact MapIs.made w
    exact (h0.of_block (gb.block n (by omega) (by simp))).of_block (gc.block n (by omega) (by simp))
  have m2 : MapIs wc (n + 1) 0 (fun _ => none) := by
    have h0 : MapIs wb (n + 1) 0 (fun _ => none) := by rw [hwb, ← sa]; exact MapIs.made wa
    exact h0.of_block (gc.block (n + 1) (by omega) (by simp))
  have hcell : wc.heap[n + 2]? = some (.cells (wdCells n (n + 1) (.slice none 0 0) none 0) 71 (0, 0)) := by rw [hwc, ← sb]; exact heap_alloc_new wb _
  have hfin : Wd wc (n + 2) (fun i => if i = n then some .m1 else if i = n + 1 then some .m2 else if i = n + 2 then some .wd else none) st0 := by
    refine ⟨n, n + 1, .slice none 0 0, none, (fun _ => none), (fun _ => none), [], 0, ?_⟩
    exact {
      cell := hcell
      tB := by simp
      t1 := by simp
      t2 := by simp
      map1 := m1
      map2 := m2
      seen := fun s => by simp [st0]
      dur := fun s => by simp [st0]
      waits := ⟨by simp, World.ownsRow_nil _ _ _ _, by simp [Value.ownBlock]⟩
      l_eq := rfl
      fails := failsS_none _ _
      lt := fun i hi => by
        rw [sc]
        by_cases e1 : i = n
        · omega
        · by_cases e2 : i = n + 1
          · omega
          · by_cases e3 : i = n + 2
            · omega
            · simp [e1, e2, e3] at hi
      opsLo := by simp [st0]
      opsHi := by simp [st0]
      cnt2 := by simp [st0] }
  have e : ((w.alloc (.map #[] 0)).alloc (.map #[] 0)).alloc (.cells #[.map (some w.heap.size), .map (some (w.heap.size + 1)), .slice none 0 0, .map none, .int .i64 (-1), .int .i64 0, .bool false] 71) = wc := by
    rw [hwc, hwb, hwa, hn]; rfl
  rw [e]
  refine ⟨n + 2, _, by rw [hn]; rfl, hfin, (ga.andThen gb (by simp)).andThen gc (by simp), ?_⟩
  intro i hi
  rw [← hn] at hi
  have e1 : ¬ i = n := by omega
  have e2 : ¬ i = n + 1 := by omega
  have e3 : ¬ i = n + 2 := by omega
  simp [e1, e2, e3]
end Go.Proofs.Ytndlpmnidpandaa
