/-
  sess: a command that writes and has data; rows of one's own beside a session.
-/
import Derived.Test.YtdplndlmdhpfaaaEBgw
import Derived.Test.YtdplndlmdhpfaaaETkw
import Derived.Test.YtdplndlmdhpfaaaEPcs0
namespace Go.Proofs.Ytdplndlmdhpfaaa
open Go.RowKit
set_option linter.unusedVariables false
set_option linter.unusedSimpArgs false

/-- Bytes of one's own that a session does not turn. -/
structure Od (X : Nat → Prop) (w : World) (v : Value) (ds : List Int) : Prop where
  own : Row w v ds
  off : ∀ g, v.ownBlock = some g → ¬ X g
theorem Od.rd {X : Nat → Prop} {w : World} {v : Value} {ds : List Int} (h : Od X w v ds) : RdAt w v ds := Row.rd h.own
theorem Od.lt {X : Nat → Prop} {w : World} {v : Value} {ds : List Int} (h : Od X w v ds) {g : Nat} (hg : v.ownBlock = some g) : g < w.heap.size := (World.ownsRow.lt h.own g hg).2
theorem Od.fr {X Y : Nat → Prop} {w w' : World} {v : Value} {ds : List Int} (h : Od X w v ds) (hf : Fr X w w') (hY : ∀ b, Y b → X b ∨ w.heap.size ≤ b) : Od Y w' v ds :=
  ⟨h.own.of_block (fun g hg => hf.block g (h.lt hg) (h.off g hg)), fun g hg e => by
    rcases hY g e with e | e
    · exact h.off g hg e
    · have := h.lt hg; omega⟩
theorem Od.put {X : Nat → Prop} {w w' : World} {v : Value} {ds : List Int} {b : Nat} (h : Od X w v ds) (hg : w.grownBy w' (some b)) (hne : ∀ g, v.ownBlock = some g → g ≠ b) : Od X w' v ds :=
  ⟨h.own.of_block (fun g hgg => hg.block g (h.lt hgg) (fun e => hne g hgg (by injection e))), h.off⟩
theorem Od.below {X : Nat → Prop} {w w' : World} {v : Value} {ds : List Int} (h : Od X w v ds) (hb : Below w.heap.size w w') : Od X w' v ds := h.fr (Fr.of_below hb) (fun _ h => .inl h)
theorem Od.st {S : Nat} {s s' : Se} {w w' : World} {v : Value} {ds : List Int} (h : Od (s.X S) w v ds) (t : St S w w' s s') : Od (s'.X S) w' v ds := h.fr t.fr t.new
theorem Row.od {w w' : World} {S : Nat} {s : Se} {H O T : List (Array Value)} {v : Value} {ds : List Int} (hs : Ss w S s H O T) (hr : Row w' v ds) (hn : ∀ g, v.ownBlock = some g → w.heap.size ≤ g) : Od (s.X S) w' v ds :=
  ⟨hr, fun g hg e => by have := hs.lt g e; have := hn g hg; omega⟩

set_option maxRecDepth 100000 in
set_option maxHeartbeats 4000000 in
theorem allowsData_ok (S : Nat) (s : Se) (H O T : List (Array Value)) (p : Pd) (a : Option Addr) (n c : Nat) (w : World) (h : Ss w S s H O T) (hda : p.da = .slice a n c) (him : s.imm = true) (hfi : (n : Int) ≤ s.fi) (hfl : p.fl = 161) (hw0 : (n : Int) ≤ p.w0 ∧ p.w0 ≤ 1048576) :
    Calls Try.prog 78 #[.pointer (some ⟨S, 0, none⟩), .agg p.v] w fun e w' => e = .returned (.bool true) ∧ Below w.heap.size w w' := by
  have hK := Kpt.mk h
  have hdaK := Kpt.mk hda
  have himK := Kpt.mk him
  have hflK := Kpt.mk hfl
  have e1 : IntKind.i64.wrap p.w0 = p.w0 := by rw [IntKind.wrap_i64]; omega
  have d1 : decide ((n : Int) ≤ s.fi) = true := by simp; omega
  have d2 : decide ((n : Int) ≤ p.w0) = true := by simp; omega
  have d3 := hw0.1
  clear h hda him hfl
  go_enter Try.func78, Try.ntmps78
  go_wp2_with (refine (?_ : wpList _ _ _ (Oper.mk _ (Op.box 37 _) _ _ _ _ :: _) _ _); go_must (refine wpList_box rfl 37 _ rfl p.v rfl ?_; intro P w1 hP hB hb1 _; have c1 := hB.cells 1 (by simp [Pd.v]); have c6 := hB.cells 6 (by simp [Pd.v]); have c13 := hB.cells 13 (by simp [Pd.v]); simp [Pd.v] at c1 c6 c13; rw [hflK.out] at c1; rw [hdaK.out] at c13; obtain ⟨s8, -⟩ := (hK.out.below hb1).cell 8 (by omega); obtain ⟨s7, -⟩ := (hK.out.below hb1).cell 7 (by omega); simp [Se.v] at s8 s7; rw [himK.out] at s8; replace hb1 := Kpt.mk hb1; clear hP hB))
  go_ret
  exact ⟨rfl, hb1.out⟩

/-- A whole struct is loaded, where a guard says so. -/
theorem wpList_load_bxg {w : World} {ops : Array Oper} {rest : List Oper} {o : Oper} {a : Act} {Q : Exit → Act → World → Prop} (hwt : Region.wanted o (yielded ops a.tmps) = true) (ty : TypeId) (x : Operand)
    (ho : o.op = .load ty x) (b : Nat) (cs : Array Value) (hx : a.eval x = .pointer (some ⟨b, 0, none⟩)) (hB : Bx w b cs) (d : TypeDesc)
    (hu : Try.prog.underlying ty = some d) (hd : d.isRow = true) (hi : (Try.prog.info? ty).map (·.size) = some cs.size)
    (h : wpList Try.prog ops Q rest (a.put o.dst (.agg cs)) w) : wpList Try.prog ops Q (o :: rest) a w :=
  BigFrame.wpList_want hwt fun K hK => by
    unfold Oper.wp
    rw [exec_load_bx ty x ho b cs hx hB d hu hd hi]
    exact hK _ _ h

set_option maxRecDepth 100000 in
set_option maxHeartbeats 4000000 in
theorem allows_wd (S : Nat) (s : Se) (H : List (Array Value)) (O : List Cm) (T : List (Array Value)) (p : Pd) (a : Option Addr) (n c : Nat) (w : World) (h : Ss w S s H (O.map Cm.v) T) (hl : O.length ≤ 10000) (hda : p.da = .slice a n c) (hds : s.dis = false) (hfree : fidx (isC p.tg) (O.map Cm.v) 0 = -1) (hfl : p.fl = 161) (him : s.imm = true) (hfi : (n : Int) ≤ s.fi) (hw0 : (n : Int) ≤ p.w0 ∧ p.w0 ≤ 1048576) :
    Calls Try.prog 59 #[.pointer (some ⟨S, 0, none⟩), .agg p.v] w fun e w' => e = .returned (.tuple #[.int .u8 0, .bool true]) ∧ Below w.heap.size w w' := by
  by_cases h0 : n = 0
  · subst h0
    exact allows_ok S s H O T p a c w h hl hda hds hfree (.inr ⟨hfl, by omega, hw0.2⟩)
  · have hF : Kpt (∀ W, Ss W S s H (O.map Cm.v) T → Calls Try.prog 47 #[.pointer (some ⟨S, 0, none⟩), .int .u32 p.tg] W fun e w' => e = .returned (.int .i64 (-1)) ∧ Below W.heap.size W w') := ⟨fun W h => by have := findOpen_any S s H O T p.tg W h hl; rw [hfree] at this; exact this⟩
    have hA : Kpt (∀ W, Ss W S s H (O.map Cm.v) T → Calls Try.prog 78 #[.pointer (some ⟨S, 0, none⟩), .agg p.v] W fun e w' => e = .returned (.bool true) ∧ Below W.heap.size W w') := ⟨fun W h => allowsData_ok S s H _ T p a n c W h hda him hfi hfl hw0⟩
    have hK := Kpt.mk h
    have hdaK := Kpt.mk hda
    have hdsK := Kpt.mk hds
    clear h hda hds hfree
    have h2 : ¬ (1048576 < p.w0) := by omega
    have h3 : decide (1048576 < p.w0) = false := by simp; omega
    have h4 : (0 : Int) < n := by omega
    have h5 : decide ((0 : Int) < n) = true := by simp; omega
    go_enter Try.func59, Try.ntmps59
    go_wp2_with (first
      | (go_at_call 78; go_must (refine (hA.out _ (hK.out.below hb3.out)).mono ?_; rintro e w4 ⟨rfl, hb4⟩; have hb5 := Kpt.mk (hb3.out.trans (hb4.mono hb3.out.size)); have c1 := (hb4.cell (p := ⟨P, 1, none⟩) hPl.out).trans c1'; have c6 := (hb4.cell (p := ⟨P, 6, none⟩) hPl.out).trans c6'; clear hb4))
      | (go_at_call 47; go_must (refine (hF.out _ (hK.out.below hb1.out)).mono ?_; rintro e w2 ⟨rfl, hb2⟩; have hb3 := Kpt.mk (hb1.out.trans (hb2.mono hb1.out.size)); obtain ⟨d2, -⟩ := (hK.out.below hb3.out).cell 2 (by omega); simp [Se.v] at d2; rw [hdsK.out] at d2; have hB2 := hB.out.below hb2 hB.out.lt; have hPl := Kpt.mk hB2.lt; have hB2k := Kpt.mk hB2; have c13 := hB2.cells 13 (by simp [Pd.v]); have c1' := hB2.cells 1 (by simp [Pd.v]); have c6' := hB2.cells 6 (by simp [Pd.v]); simp [Pd.v] at c13 c1' c6'; rw [hdaK.out] at c13; rw [hfl] at c1'; clear hb2 hB2))
      | (refine (?_ : wpList _ _ _ (Oper.mk _ (Op.load 37 _) _ _ _ _ :: _) _ _); go_must (refine wpList_load_bxg (wanted_at true rfl rfl rfl rfl) 37 _ rfl P p.v rfl hB2k.out _ Try.underlying37 rfl szPdu ?_; have hm := hw0))
      | (refine (?_ : wpList _ _ _ (Oper.mk _ (Op.box 37 _) _ _ _ _ :: _) _ _); go_must (refine wpList_box rfl 37 _ rfl p.v rfl ?_; intro P w1 hP hB hb1 _; have c5 := hB.cells 5 (by simp [Pd.v]); simp [Pd.v] at c5; replace hb1 := Kpt.mk hb1; replace hB := Kpt.mk hB; clear hP)))
    go_ret2
    exact ⟨rfl, hb5.out⟩

/-- The data of a PDU are a write's. -/
theorem takeData1_any (r : Wr) (p : Pd) (q : Nat) (w : World) (hq : Bx w q p.v) (h1 : r.t.tg = p.tg) (h2 : r.tag = p.w0) :
    Calls Try.prog 35 #[.agg r.v, .pointer (some ⟨q, 0, none⟩)] w fun e w' => e = .returned (.bool true) ∧ Below w.heap.size w w' := by
  have hqK := Kpt.mk hq
  clear hq
  have h1K := Kpt.mk h1
  have h2K := Kpt.mk h2
  clear h1 h2
  go_enter Try.func35, Try.ntmps35
  go_wp2_with (refine (?_ : wpList _ _ _ (Oper.mk _ (Op.box 81 _) _ _ _ _ :: _) _ _); go_must (refine wpList_box rfl 81 _ rfl r.v rfl ?_; intro P w1 hP hB hb _; have c0 := hB.cells 0 (by simp [Wr.v]); have c8 := hB.cells 8 (by simp [Wr.v]); have hq1 := hqK.out.below hb hqK.out.lt; have q5 := hq1.cells 5 (by simp [Pd.v]); have q6 := hq1.cells 6 (by simp [Pd.v]); simp [Wr.v] at c0 c8; simp [Pd.v] at q5 q6; rw [h1K.out] at c0; rw [h2K.out] at c8; replace hb := Kpt.mk hb; clear hB hP hq1))
  go_ret
  exact ⟨rfl, hb.out⟩
/-- The data of a PDU fit. -/
theorem fits_any (r : Wr) (p : Pd) (oa : Option Addr) (m oc : Nat) (da : Option Addr) (l dc : Nat) (w : World) (ho : r.t.out = .slice oa m oc) (hd : p.da = .slice da l dc) (h5 : p.w5 = (m : Int)) (hm : m ≤ 1048576) (hle : (m : Int) + l ≤ r.en) (hen : r.en ≤ 1048576) :
    Calls Try.prog 36 #[.agg r.v, .agg p.v] w fun e w' => e = .returned (.bool true) ∧ Below w.heap.size w w' := by
  have hoK := Kpt.mk ho
  have hdK := Kpt.mk hd
  have h5K := Kpt.mk h5
  clear ho hd h5
  have e1 : IntKind.u32.wrap (m : Int) = m := by rw [IntKind.wrap_u32]; omega
  have e2 : IntKind.i64.wrap (r.en - m) = r.en - m := by rw [IntKind.wrap_i64]; omega
  have d1 : decide ((l : Int) ≤ r.en - m) = true := by simp; omega
  have d2 : (l : Int) ≤ r.en - m := by omega
  go_enter Try.func36, Try.ntmps36
  go_wp2_with (first
    | (refine (?_ : wpList _ _ _ (Oper.mk _ (Op.box 81 _) _ _ _ _ :: _) _ _); go_must (refine wpList_box rfl 81 _ rfl r.v rfl ?_; intro P w1 hP hB hb _; replace hB := Kpt.mk hB; replace hb := Kpt.mk hb; clear hP))
    | (refine (?_ : wpList _ _ _ (Oper.mk _ (Op.box 37 _) _ _ _ _ :: _) _ _); go_must (refine wpList_box rfl 37 _ rfl p.v rfl ?_; intro Q w2 hQ hB2 hb2 _; have hB1 := hB.out.below hb2 hB.out.lt; have c4 := hB1.cells 4 (by simp [Wr.v]); have c9 := hB1.cells 9 (by simp [Wr.v]); have q11 := hB2.cells 11 (by simp [Pd.v]); have q13 := hB2.cells 13 (by simp [Pd.v]); simp [Wr.v] at c4 c9; simp [Pd.v] at q11 q13; rw [hoK.out] at c4; rw [h5K.out] at q11; rw [hdK.out] at q13; have hb3 := Kpt.mk (hb.out.trans (hb2.mono hb.out.size)); clear hB1 hB2 hb2 hQ)))
  go_ret
  exact ⟨rfl, hb3.out⟩

theorem take_set_succ {α : Type} (l : List α) (o : Nat) (v : α) (h : o < l.length) : (l.set o v).take (o + 1) = l.take o ++ [v] := by
  rw [List.take_add_one, List.getElem?_set_self h]
  congr 1
  rw [List.take_set, List.set_eq_of_length_le (by simp; omega)]
/-- A struct is stored over the first of a row. -/
theorem ownR_setCells {ty kk g n cap : Nat} : ∀ (vs : List Value) (o : Nat) (w : World) (z : Array Value), OwnR ty kk w (.slice (some ⟨g, 0, none⟩) n cap) [z] → o + vs.length = kk → (∀ v ∈ vs, v.oneCell' = true) →
    ∃ z', OwnR ty kk (w.setCells g o vs) (.slice (some ⟨g, 0, none⟩) n cap) [z'] ∧ z'.toList = z.toList.take o ++ vs
  | [], o, w, z, h, hl, _ => ⟨z, h, by have hk := (h.wide z (by simp)).1; rw [List.append_nil, List.take_of_length_le (by rw [Array.length_toList]; simp at hl; omega)]⟩
  | v :: vs, o, w, z, h, hl, h1 => by
    have hk := (h.wide z (by simp)).1
    simp only [List.length_cons] at hl
    have h2 : OwnR ty kk (w.setCell ⟨g, o, none⟩ v) (.slice (some ⟨g, 0, none⟩) n cap) [z.setIfInBounds o v] := by
      have := ownR_setLast (zs := []) (z := z) (j := o) (x := v) h (by omega) (h1 v (by simp))
      simpa using this
    obtain ⟨z', h3, h4⟩ := ownR_setCells vs (o + 1) _ _ h2 (by omega) (fun u hu => h1 u (by simp [hu]))
    refine ⟨z', h3, ?_⟩
    rw [h4, Array.toList_setIfInBounds, take_set_succ _ _ _ (by rw [Array.length_toList]; omega), List.append_assoc]
    rfl
theorem ownR_over {ty kk g n cap : Nat} {w : World} {z z' : Array Value} (h : OwnR ty kk w (.slice (some ⟨g, 0, none⟩) n cap) [z]) (hs : z'.size = kk ∧ z'.all (·.oneCell') = true) : OwnR ty kk (w.setCells g 0 z'.toList) (.slice (some ⟨g, 0, none⟩) n cap) [z'] := by
  obtain ⟨y, h1, h2⟩ := ownR_setCells z'.toList 0 w z h (by rw [Array.length_toList]; have := hs.1; omega) (fun v hv => by
    have := hs.2
    rw [Array.all_eq_true_iff_forall_mem] at this
    exact this v (by simpa using hv))
  have : y = z' := by apply Array.toList_inj.1; rw [h2]; simp
  rw [← this]
  rw [← this] at h1
  exact h1
end Go.Proofs.Ytdplndlmdhpfaaa
