/-
  The contract of fieldBytes.
-/
import Derived.Test.YtglfkpdbgddpdaaSFix
namespace Go.Proofs.Ytglfkpdbgddpdaa
open Go.RowKit
set_option linter.unusedVariables false
set_option linter.unusedSimpArgs false

theorem own_facts {w : World} {base g : Nat} {zs : List Int} {n c : Nat} (h : w.ownsRow base 5 1 (.slice (some ⟨g, 0, none⟩) n c) n (cels zs)) (i : Nat) (hi : i < n) :
    w.cell? ⟨g, i, none⟩ = some (.int .u8 (zs.getD i 0)) := by
  have hl : zs.length = n := by have := h.1; simpa using this
  rw [h.cellAt i (by omega)]
  unfold cels
  rw [List.getElem?_map, List.getElem?_eq_getElem (by omega), List.getD_eq_getElem?_getD, List.getElem?_eq_getElem (by omega)]
  rfl

theorem own_set {w : World} {base g : Nat} {zs : List Int} {n c : Nat} (h : w.ownsRow base 5 1 (.slice (some ⟨g, 0, none⟩) n c) n (cels zs)) (i : Nat) (x : Int) :
    (w.setCell ⟨g, i, none⟩ (.int .u8 x)).ownsRow base 5 1 (.slice (some ⟨g, 0, none⟩) n c) n (cels (zs.set i x)) := by
  have := (h.stored i (.int .u8 x)).1
  unfold cels at *
  rw [List.map_set]
  exact this

theorem box_keep {w w1 : World} {cs : Array Value} {t : TypeId} {row : Option Nat} (hg : (w.alloc (.cells cs t)).grownBy w1 row) (hr : row ≠ some w.heap.size) (i : Nat) : w1.cell? ⟨w.heap.size, i, none⟩ = cs[i]? := by
  have hb : w1.heap[w.heap.size]? = (w.alloc (.cells cs t)).heap[w.heap.size]? := hg.block w.heap.size (by simp) (fun e => hr e.symm)
  rw [World.cell?_of_block (w := w.alloc (.cells cs t)) (a := ⟨w.heap.size, i, none⟩) hb]
  simp

theorem made_u8 (n : Nat) : (madeCells (Value.int .u8 0).cells (n * 1)).toList = cels (List.replicate n 0) := by
  simp [madeCells, Value.cells, cels]
  refine List.ext_getElem (by simp) (fun i h1 h2 => ?_)
  simp [Nat.mod_one]

/-- make behind the box of a struct. -/
theorem wpList_make_box (w : World) {cs : Array Value} {t0 : TypeId} {ops : Array Oper} {rest : List Oper} {o : Oper} {a : Act} {Q : Exit → Act → World → Prop}
    (hg : o.guard = none) (l c : Operand) (hop : o.op = Op.makeSlice 27 l c) (n : Nat) (hl : a.eval l = .int .i64 n) (hc : a.eval c = .int .i64 n) (hn : n ≤ 1000)
    (hK : ∀ w1, Kpt (∀ i, w1.cell? ⟨w.heap.size, i, none⟩ = cs[i]?) → Kpt (w1.ownsRow w.heap.size 5 1 (.slice (some ⟨w.heap.size + 1, 0, none⟩) n n) n (cels (List.replicate n 0))) → Kpt (Below w.heap.size w w1) →
      wpList Try.prog ops Q rest (a.put o.dst (.slice (some ⟨w.heap.size + 1, 0, none⟩) n n)) w1) :
    wpList Try.prog ops Q (o :: rest) a (w.alloc (.cells cs t0)) := by
  obtain ⟨i0, hi0, hz0, hz1, hz2⟩ := info_parts Try.info5
  have hsz : (w.alloc (.cells cs t0)).heap.size = w.heap.size + 1 := by simp
  refine wpList_make_full _ hg l c 27 hop w.heap.size 5 i0 (.int .u8 0) 1 Try.underlying27 hi0 hz0 hz1 .i64 .i64 n n n hl hc rfl rfl (by rw [hz2]; omega) (by unfold maxLen; omega) (by omega) ?_
  intro w1 hown hgr
  rw [hsz] at hown ⊢
  rw [made_u8] at hown
  refine hK w1 ⟨box_keep hgr (by simp)⟩ ⟨hown⟩ ⟨?_⟩
  exact ((Below.refl _ _).alloc (Nat.le_refl _) _).grown hgr (by omega) (fun k h => by cases h)

theorem Sn.form_field {s : Sn} (h : s.form = true) : 0 ≤ s.field ∧ s.field ≤ 65535 ∧ -1 ≤ s.bit ∧ s.bit ≤ 7 ∧ s.key ≤ 15 := by
  obtain ⟨key, code, info, hi, field, bit, hf, ic⟩ := s
  cases hf <;> simp [Sn.form] at h ⊢ <;> omega

theorem or_bit (x : Int) (hx : x = 128 ∨ x = 192) (bit : Int) (h0 : 0 ≤ bit) (h1 : bit ≤ 7) : bits .or .u8 x (bits .or .u8 8 bit) = x + 8 + bit := by
  have : bit = 0 ∨ bit = 1 ∨ bit = 2 ∨ bit = 3 ∨ bit = 4 ∨ bit = 5 ∨ bit = 6 ∨ bit = 7 := by omega
  rcases hx with rfl | rfl <;> rcases this with rfl | rfl | rfl | rfl | rfl | rfl | rfl | rfl <;> decide

theorem drew_grown (w : World) : w.grownBy w.drew none := ⟨rfl, rfl, rfl, Nat.le_refl _, fun _ _ _ => rfl⟩
theorem Below.drew {b : Nat} {a w : World} (h : Below b a w) : Below b a w.drew := h.trans ⟨rfl, rfl, rfl, Nat.le_refl _, fun _ _ => rfl⟩
theorem own_rd {w : World} {b n c g : Nat} {zs : List Int} (h : w.ownsRow b 5 1 (.slice (some ⟨g, 0, none⟩) n c) n (cels zs)) : RdAt w (.slice (some ⟨g, 0, none⟩) n c) zs := by
  obtain ⟨h0, h1⟩ := h
  have hz : zs.length = n := by simpa using h0
  refine Row.rd (show w.ownsRow 0 5 1 _ zs.length _ from ⟨by simp, ?_⟩)
  rw [hz]
  rcases h1 with h1 | ⟨g, cap, cur, e, _, rest⟩
  · exact .inl h1
  · exact .inr ⟨g, cap, cur, e, Nat.zero_le _, rest⟩

theorem own_base {w : World} {b b' n : Nat} {v : Value} {zs : List Value} (h : w.ownsRow b 5 1 v n zs) (hb : b' ≤ b) : w.ownsRow b' 5 1 v n zs := by
  refine ⟨h.1, ?_⟩
  rcases h.2 with h1 | ⟨g, cap, cur, e, hg, rest⟩
  · exact .inl h1
  · exact .inr ⟨g, cap, cur, e, Nat.le_trans hb hg, rest⟩

theorem asc3 (f field : Int) (h0 : 0 ≤ field) (h1 : field ≤ 65535) : B.asc [f, 0, 0] 1 2 field 2 = [f, field / 256, field % 256] := by
  simp [B.asc]
  omega

set_option maxRecDepth 100000 in
set_option maxHeartbeats 2000000 in
theorem fieldBytes_bit (s : Sn) (hform : s.form = true) (hf : s.hf = true) (hb : 0 ≤ s.bit) (w : World) :
    Calls Try.prog 28 #[.agg s.vals] w fun e w' => ∃ g, e = .returned (.slice (some ⟨g, 0, none⟩) 3 3) ∧ New w w' (.slice (some ⟨g, 0, none⟩) 3 3) s.fieldB := by
  obtain ⟨key, code, info, hi, field, bit, hf, ic⟩ := s
  obtain ⟨hf0, hf1, _, hb7, _⟩ := Sn.form_field hform
  simp only [Sn.vals] at *
  subst hf
  clear hform
  have hwr : IntKind.u8.wrap bit = bit := by simp [IntKind.wrap, IntKind.bits, IntKind.signed]; omega
  have hv : (field / 2 ^ (8 * 2) != 0) = false := by simp; omega
  cases ic with
  | true =>
    have hor : bits .or .u8 (bits BinOp.or IntKind.u8 128 64) (bits .or .u8 8 bit) = Sn.flags ⟨key, code, info, hi, field, bit, true, true⟩ := by rw [or_bit _ (.inr (by decide)) bit hb hb7]; simp [Sn.flags, hb]; rw [show bits BinOp.or IntKind.u8 128 64 = 192 from by decide]; omega
    replace hor := Kpt.mk hor
    replace hv := Kpt.mk hv
    go_enter Try.func28, Try.ntmps28
    go_wp2_with (first | (at_make; refine wpList_make_box w rfl _ _ rfl 3 rfl rfl (by decide) ?_; intro w1 hbox hown hbel; have c4 := hbox.out 4; have c5 := hbox.out 5; have c6 := hbox.out 6; have c7 := hbox.out 7; simp at c4 c5 c6 c7; have p0 := own_facts hown.out 0 (by decide); have f0 := hown.out.frozenAt 0; simp at p0))
    obtain ⟨w2, hw2⟩ : ∃ w2, w2 = (w1.setCell ⟨w.heap.size + 1, 0, none⟩ (.int .u8 128)).setCell ⟨w.heap.size + 1, 0, none⟩ (.int .u8 (bits BinOp.or IntKind.u8 128 64)) := ⟨_, rfl⟩
    rw [← hw2]
    have q0 : w2.cell? ⟨w.heap.size + 1, 0, none⟩ = some (.int .u8 (bits BinOp.or IntKind.u8 128 64)) := by rw [hw2]; go_simp
    have q4 : w2.cell? ⟨w.heap.size, 4, none⟩ = some (.int .i64 field) := by rw [hw2]; go_simp
    have q5 : w2.cell? ⟨w.heap.size, 5, none⟩ = some (.int .i64 bit) := by rw [hw2]; go_simp
    have qf : w2.frozen? ⟨w.heap.size + 1, 0, none⟩ = false := by rw [hw2]; go_simp
    have ho2 : Kpt (w2.ownsRow w.heap.size 5 1 (.slice (some ⟨w.heap.size + 1, 0, none⟩) 3 3) 3 (cels [bits BinOp.or IntKind.u8 128 64, 0, 0])) := ⟨by rw [hw2]; exact own_set (own_set hown.out 0 128) 0 (bits BinOp.or IntKind.u8 128 64)⟩
    have hb2 : Kpt (Below w.heap.size w w2) := ⟨by rw [hw2]; exact (hbel.out.setCell (Nat.le_succ _) _).setCell (Nat.le_succ _) _⟩
    clear hw2 p0 c4 c5 c6 c7 f0 hown hbox hbel
    refine wp_region_any (by kernel_rfl) ?_
    refine wpAny_of_C (C := fun W => W.cell? ⟨w.heap.size, 5, none⟩ = some (.int .i64 bit)) _ _ _ _ ?_
    refine wpAnyC_take 0 (.slice (some ⟨w.heap.size + 1, 0, none⟩) 3 3) rfl (by kernel_rfl) (by kernel_rfl) (by kernel_rfl) (fun _ _ _ h => h) (by rfl) (fun W _ => by go_simp) ?_
    refine wpAnyC_take 1 (.pointer (some ⟨w.heap.size + 1, 0, none⟩)) rfl (by kernel_rfl) (by kernel_rfl) (by kernel_rfl) (fun _ _ _ h => h) (by rfl) (fun W _ => by go_simp) ?_
    refine wpAnyC_take 3 (.pointer (some ⟨w.heap.size, 5, none⟩)) rfl (by kernel_rfl) (by kernel_rfl) (by kernel_rfl) (fun _ _ _ h => h) (by rfl) (fun W _ => by go_simp) ?_
    refine wpAnyC_take 4 (.int .i64 bit) rfl (by kernel_rfl) (by kernel_rfl) (by kernel_rfl) (fun _ _ _ h => h) (by rfl) (fun W x1 => by clear q0 q5; go_simp) ?_
    refine wpAnyC_take 5 (.int .u8 bit) rfl (by kernel_rfl) (by kernel_rfl) (by kernel_rfl) (fun _ _ _ h => h) (by rfl) (fun W _ => by go_simp) ?_
    refine wpAnyC_take 6 (.int .u8 (bits .or .u8 8 bit)) rfl (by kernel_rfl) (by kernel_rfl) (by kernel_rfl) (fun _ _ _ h => h) (by rfl) (fun W _ => by go_simp) ?_
    change wpAnyC _ _ _ _ _ _ _ _ w2.drew
    refine wpAnyC_one 2 (by first | exact q5 | go_simp) rfl (by kernel_rfl) (by rfl) (fun K hK => ?_)
    go_simp
    refine hK _ _ ?_
    clear hK K
    refine wpAnyC_one 7 (by first | exact q5 | go_simp) rfl (by kernel_rfl) (by rfl) (fun K hK => ?_)
    go_simp
    refine hK _ _ ?_
    clear hK K
    refine wpAnyC_one 8 (by first | exact q5 | go_simp) rfl (by kernel_rfl) (by rfl) (fun K hK => ?_)
    go_simp
    refine hK _ _ ?_
    clear hK K
    refine wpAnyC_one 9 (by first | exact q5 | go_simp) rfl (by kernel_rfl) (by rfl) (fun K hK => ?_)
    go_simp
    refine hK _ _ ?_
    clear hK K
    refine wpAnyC_done (by go_simp) (by kernel_rfl) ?_
    obtain ⟨w3, hw3⟩ : ∃ w3, w3 = (w2.setCell ⟨w.heap.size + 1, 0, none⟩ (.int .u8 (bits .or .u8 (bits BinOp.or IntKind.u8 128 64) (bits .or .u8 8 bit)))).drew := ⟨_, rfl⟩
    rw [← hw3]
    have d4 : w3.cell? ⟨w.heap.size, 4, none⟩ = some (.int .i64 field) := by rw [hw3]; go_simp
    have ho3 : Kpt (w3.ownsRow w.heap.size 5 1 (.slice (some ⟨w.heap.size + 1, 0, none⟩) 3 3) 3 (cels [Sn.flags ⟨key, code, info, hi, field, bit, true, true⟩, 0, 0])) := ⟨by rw [hw3, hor.out]; exact World.ownsRow.kept (own_set ho2.out 0 _) (drew_grown _) (.inr (by simp [Value.ownBlock]))⟩
    have hb3 : Kpt (Below w.heap.size w w3) := ⟨by rw [hw3]; exact Below.drew (hb2.out.setCell (Nat.le_succ _) _)⟩
    clear hw3 q0 q4 q5 qf ho2 hb2
    have H := Kpt.mk (put_new (.slice (some ⟨w.heap.size + 1, 0, none⟩) 3 3) [Sn.flags ⟨key, code, info, hi, field, bit, true, true⟩, 0, 0] 1 2 field w3 (own_rd ho3.out) (by simp) (by decide) (by decide) (by simp) hf0 hv.out)
    simp only [List.length_cons, List.length_nil, Nat.reduceAdd] at H
    go_wp2_with (go_at_call 27; refine H.out.mono ?_; rintro e w4 ⟨g, rfl, ho4, hb4⟩)
    go_ret
    refine ⟨g, rfl, ?_, ?_⟩
    · rw [asc3 _ _ hf0 hf1] at ho4
      exact own_base ho4 hb3.out.size
    · exact hb3.out.trans (hb4.mono hb3.out.size)
  | false =>
    have hor : bits .or .u8 (128) (bits .or .u8 8 bit) = Sn.flags ⟨key, code, info, hi, field, bit, true, false⟩ := by rw [or_bit _ (.inl rfl) bit hb hb7]; simp [Sn.flags, hb]; omega
    replace hor := Kpt.mk hor
    replace hv := Kpt.mk hv
    go_enter Try.func28, Try.ntmps28
    go_wp2_with (first | (at_make; refine wpList_make_box w rfl _ _ rfl 3 rfl rfl (by decide) ?_; intro w1 hbox hown hbel; have c4 := hbox.out 4; have c5 := hbox.out 5; have c6 := hbox.out 6; have c7 := hbox.out 7; simp at c4 c5 c6 c7; have p0 := own_facts hown.out 0 (by decide); have f0 := hown.out.frozenAt 0; simp at p0))
    obtain ⟨w2, hw2⟩ : ∃ w2, w2 = w1.setCell ⟨w.heap.size + 1, 0, none⟩ (.int .u8 128) := ⟨_, rfl⟩
    rw [← hw2]
    have q0 : w2.cell? ⟨w.heap.size + 1, 0, none⟩ = some (.int .u8 (128)) := by rw [hw2]; go_simp
    have q4 : w2.cell? ⟨w.heap.size, 4, none⟩ = some (.int .i64 field) := by rw [hw2]; go_simp
    have q5 : w2.cell? ⟨w.heap.size, 5, none⟩ = some (.int .i64 bit) := by rw [hw2]; go_simp
    have qf : w2.frozen? ⟨w.heap.size + 1, 0, none⟩ = false := by rw [hw2]; go_simp
    have ho2 : Kpt (w2.ownsRow w.heap.size 5 1 (.slice (some ⟨w.heap.size + 1, 0, none⟩) 3 3) 3 (cels [128, 0, 0])) := ⟨by rw [hw2]; exact own_set hown.out 0 128⟩
    have hb2 : Kpt (Below w.heap.size w w2) := ⟨by rw [hw2]; exact hbel.out.setCell (Nat.le_succ _) _⟩
    clear hw2 p0 c4 c5 c6 c7 f0 hown hbox hbel
    refine wp_region_any (by kernel_rfl) ?_
    refine wpAny_of_C (C := fun W => W.cell? ⟨w.heap.size, 5, none⟩ = some (.int .i64 bit)) _ _ _ _ ?_
    refine wpAnyC_take 0 (.slice (some ⟨w.heap.size + 1, 0, none⟩) 3 3) rfl (by kernel_rfl) (by kernel_rfl) (by kernel_rfl) (fun _ _ _ h => h) (by rfl) (fun W _ => by go_simp) ?_
    refine wpAnyC_take 1 (.pointer (some ⟨w.heap.size + 1, 0, none⟩)) rfl (by kernel_rfl) (by kernel_rfl) (by kernel_rfl) (fun _ _ _ h => h) (by rfl) (fun W _ => by go_simp) ?_
    refine wpAnyC_take 3 (.pointer (some ⟨w.heap.size, 5, none⟩)) rfl (by kernel_rfl) (by kernel_rfl) (by kernel_rfl) (fun _ _ _ h => h) (by rfl) (fun W _ => by go_simp) ?_
    refine wpAnyC_take 4 (.int .i64 bit) rfl (by kernel_rfl) (by kernel_rfl) (by kernel_rfl) (fun _ _ _ h => h) (by rfl) (fun W x1 => by clear q0 q5; go_simp) ?_
    refine wpAnyC_take 5 (.int .u8 bit) rfl (by kernel_rfl) (by kernel_rfl) (by kernel_rfl) (fun _ _ _ h => h) (by rfl) (fun W _ => by go_simp) ?_
    refine wpAnyC_take 6 (.int .u8 (bits .or .u8 8 bit)) rfl (by kernel_rfl) (by kernel_rfl) (by kernel_rfl) (fun _ _ _ h => h) (by rfl) (fun W _ => by go_simp) ?_
    change wpAnyC _ _ _ _ _ _ _ _ w2.drew
    refine wpAnyC_one 2 (by first | exact q5 | go_simp) rfl (by kernel_rfl) (by rfl) (fun K hK => ?_)
    go_simp
    refine hK _ _ ?_
    clear hK K
    refine wpAnyC_one 7 (by first | exact q5 | go_simp) rfl (by kernel_rfl) (by rfl) (fun K hK => ?_)
    go_simp
    refine hK _ _ ?_
    clear hK K
    refine wpAnyC_one 8 (by first | exact q5 | go_simp) rfl (by kernel_rfl) (by rfl) (fun K hK => ?_)
    go_simp
    refine hK _ _ ?_
    clear hK K
    refine wpAnyC_one 9 (by first | exact q5 | go_simp) rfl (by kernel_rfl) (by rfl) (fun K hK => ?_)
    go_simp
    refine hK _ _ ?_
    clear hK K
    refine wpAnyC_done (by go_simp) (by kernel_rfl) ?_
    obtain ⟨w3, hw3⟩ : ∃ w3, w3 = (w2.setCell ⟨w.heap.size + 1, 0, none⟩ (.int .u8 (bits .or .u8 (128) (bits .or .u8 8 bit)))).drew := ⟨_, rfl⟩
    rw [← hw3]
    have d4 : w3.cell? ⟨w.heap.size, 4, none⟩ = some (.int .i64 field) := by rw [hw3]; go_simp
    have ho3 : Kpt (w3.ownsRow w.heap.size 5 1 (.slice (some ⟨w.heap.size + 1, 0, none⟩) 3 3) 3 (cels [Sn.flags ⟨key, code, info, hi, field, bit, true, false⟩, 0, 0])) := ⟨by rw [hw3, hor.out]; exact World.ownsRow.kept (own_set ho2.out 0 _) (drew_grown _) (.inr (by simp [Value.ownBlock]))⟩
    have hb3 : Kpt (Below w.heap.size w w3) := ⟨by rw [hw3]; exact Below.drew (hb2.out.setCell (Nat.le_succ _) _)⟩
    clear hw3 q0 q4 q5 qf ho2 hb2
    have H := Kpt.mk (put_new (.slice (some ⟨w.heap.size + 1, 0, none⟩) 3 3) [Sn.flags ⟨key, code, info, hi, field, bit, true, false⟩, 0, 0] 1 2 field w3 (own_rd ho3.out) (by simp) (by decide) (by decide) (by simp) hf0 hv.out)
    simp only [List.length_cons, List.length_nil, Nat.reduceAdd] at H
    go_wp2_with (go_at_call 27; refine H.out.mono ?_; rintro e w4 ⟨g, rfl, ho4, hb4⟩)
    go_ret
    refine ⟨g, rfl, ?_, ?_⟩
    · rw [asc3 _ _ hf0 hf1] at ho4
      exact own_base ho4 hb3.out.size
    · exact hb3.out.trans (hb4.mono hb3.out.size)

set_option maxRecDepth 100000 in
set_option maxHeartbeats 2000000 in
theorem fieldBytes_nobit (s : Sn) (hform : s.form = true) (hf : s.hf = true) (hb : s.bit < 0) (w : World) :
    Calls Try.prog 28 #[.agg s.vals] w fun e w' => ∃ g, e = .returned (.slice (some ⟨g, 0, none⟩) 3 3) ∧ New w w' (.slice (some ⟨g, 0, none⟩) 3 3) s.fieldB := by
  obtain ⟨key, code, info, hi, field, bit, hf, ic⟩ := s
  obtain ⟨hf0, hf1, _, hb7, _⟩ := Sn.form_field hform
  simp only [Sn.vals] at *
  subst hf
  clear hform
  have hb' : ¬ 0 ≤ bit := by omega
  have hv : (field / 2 ^ (8 * 2) != 0) = false := by simp; omega
  cases ic with
  | true =>
    have hor : bits BinOp.or IntKind.u8 128 64 = Sn.flags ⟨key, code, info, hi, field, bit, true, true⟩ := by simp [Sn.flags, hb']; decide
    replace hor := Kpt.mk hor
    replace hv := Kpt.mk hv
    have H : Kpt (∀ w1 : World, w1.ownsRow w.heap.size 5 1 (.slice (some ⟨w.heap.size + 1, 0, none⟩) 3 3) 3 (cels [0, 0, 0]) → Calls Try.prog 27 #[.slice (some ⟨w.heap.size + 1, 0, none⟩) 3 3, .int .i64 1, .int .i64 2, .int .u64 field] ((w1.setCell ⟨w.heap.size + 1, 0, none⟩ (.int .u8 128)).setCell ⟨w.heap.size + 1, 0, none⟩ (.int .u8 (bits BinOp.or IntKind.u8 128 64))) fun e w' => ∃ g, e = .returned (.slice (some ⟨g, 0, none⟩) 3 3) ∧ New ((w1.setCell ⟨w.heap.size + 1, 0, none⟩ (.int .u8 128)).setCell ⟨w.heap.size + 1, 0, none⟩ (.int .u8 (bits BinOp.or IntKind.u8 128 64))) w' (.slice (some ⟨g, 0, none⟩) 3 3) (B.asc [Sn.flags ⟨key, code, info, hi, field, bit, true, true⟩, 0, 0] 1 2 field 2)) := by
      refine ⟨fun w1 h1 => ?_⟩
      have H := put_new (.slice (some ⟨w.heap.size + 1, 0, none⟩) 3 3) [Sn.flags ⟨key, code, info, hi, field, bit, true, true⟩, 0, 0] 1 2 field ((w1.setCell ⟨w.heap.size + 1, 0, none⟩ (.int .u8 128)).setCell ⟨w.heap.size + 1, 0, none⟩ (.int .u8 (bits BinOp.or IntKind.u8 128 64))) (own_rd (b := w.heap.size) (by rw [← hor.out]; exact own_set (own_set h1 0 128) 0 (bits BinOp.or IntKind.u8 128 64))) (by simp) (by decide) (by decide) (by simp) hf0 hv.out
      simp only [List.length_cons, List.length_nil, Nat.reduceAdd] at H
      exact H
    go_enter Try.func28, Try.ntmps28
    go_wp2_with (first | (at_make; refine wpList_make_box w rfl _ _ rfl 3 rfl rfl (by decide) ?_; intro w1 hbox hown hbel; have c4 := hbox.out 4; have c5 := hbox.out 5; have c6 := hbox.out 6; have c7 := hbox.out 7; simp at c4 c5 c6 c7; have p0 := own_facts hown.out 0 (by decide); have f0 := hown.out.frozenAt 0; simp at p0) | (go_at_call 27; refine (H.out w1 hown.out).mono ?_; rintro e w4 ⟨g, rfl, ho4, hb4⟩))
    go_ret
    have hb3 : Below w.heap.size w ((w1.setCell ⟨w.heap.size + 1, 0, none⟩ (.int .u8 128)).setCell ⟨w.heap.size + 1, 0, none⟩ (.int .u8 (bits BinOp.or IntKind.u8 128 64))) := (hbel.out.setCell (Nat.le_succ _) _).setCell (Nat.le_succ _) _
    refine ⟨g, rfl, ?_, ?_⟩
    · rw [asc3 _ _ hf0 hf1] at ho4
      exact own_base ho4 hb3.size
    · exact hb3.trans (hb4.mono hb3.size)
  | false =>
    have hor : 128 = Sn.flags ⟨key, code, info, hi, field, bit, true, false⟩ := by simp [Sn.flags, hb']
    replace hor := Kpt.mk hor
    replace hv := Kpt.mk hv
    have H : Kpt (∀ w1 : World, w1.ownsRow w.heap.size 5 1 (.slice (some ⟨w.heap.size + 1, 0, none⟩) 3 3) 3 (cels [0, 0, 0]) → Calls Try.prog 27 #[.slice (some ⟨w.heap.size + 1, 0, none⟩) 3 3, .int .i64 1, .int .i64 2, .int .u64 field] (w1.setCell ⟨w.heap.size + 1, 0, none⟩ (.int .u8 128)) fun e w' => ∃ g, e = .returned (.slice (some ⟨g, 0, none⟩) 3 3) ∧ New (w1.setCell ⟨w.heap.size + 1, 0, none⟩ (.int .u8 128)) w' (.slice (some ⟨g, 0, none⟩) 3 3) (B.asc [Sn.flags ⟨key, code, info, hi, field, bit, true, false⟩, 0, 0] 1 2 field 2)) := by
      refine ⟨fun w1 h1 => ?_⟩
      have H := put_new (.slice (some ⟨w.heap.size + 1, 0, none⟩) 3 3) [Sn.flags ⟨key, code, info, hi, field, bit, true, false⟩, 0, 0] 1 2 field (w1.setCell ⟨w.heap.size + 1, 0, none⟩ (.int .u8 128)) (own_rd (b := w.heap.size) (by rw [← hor.out]; exact own_set h1 0 128)) (by simp) (by decide) (by decide) (by simp) hf0 hv.out
      simp only [List.length_cons, List.length_nil, Nat.reduceAdd] at H
      exact H
    go_enter Try.func28, Try.ntmps28
    go_wp2_with (first | (at_make; refine wpList_make_box w rfl _ _ rfl 3 rfl rfl (by decide) ?_; intro w1 hbox hown hbel; have c4 := hbox.out 4; have c5 := hbox.out 5; have c6 := hbox.out 6; have c7 := hbox.out 7; simp at c4 c5 c6 c7; have p0 := own_facts hown.out 0 (by decide); have f0 := hown.out.frozenAt 0; simp at p0) | (go_at_call 27; refine (H.out w1 hown.out).mono ?_; rintro e w4 ⟨g, rfl, ho4, hb4⟩))
    go_ret
    have hb3 : Below w.heap.size w (w1.setCell ⟨w.heap.size + 1, 0, none⟩ (.int .u8 128)) := hbel.out.setCell (Nat.le_succ _) _
    refine ⟨g, rfl, ?_, ?_⟩
    · rw [asc3 _ _ hf0 hf1] at ho4
      exact own_base ho4 hb3.size
    · exact hb3.trans (hb4.mono hb3.size)

set_option maxRecDepth 100000 in
set_option maxHeartbeats 2000000 in
theorem fieldBytes_none (s : Sn) (hform : s.form = true) (hf : s.hf = false) (w : World) :
    Calls Try.prog 28 #[.agg s.vals] w fun e w' => ∃ g, e = .returned (.slice (some ⟨g, 0, none⟩) 3 3) ∧ New w w' (.slice (some ⟨g, 0, none⟩) 3 3) s.fieldB := by
  obtain ⟨key, code, info, hi, field, bit, hf, ic⟩ := s
  simp only [Sn.vals] at *
  subst hf
  have hz : field = 0 := by simp [Sn.form] at hform; omega
  have hB : Kpt (Sn.fieldB ⟨key, code, info, hi, field, bit, false, ic⟩ = [0, 0, 0]) := ⟨by simp [Sn.fieldB, Sn.flags, hz]⟩
  clear hform hz
  go_enter Try.func28, Try.ntmps28
  go_wp2_with (first | (at_make; refine wpList_make_box w rfl _ _ rfl 3 rfl rfl (by decide) ?_; intro w1 hbox hown hbel; have c6 := hbox.out 6; simp at c6))
  go_ret
  refine ⟨_, rfl, ?_, hbel.out⟩
  rw [hB.out]
  exact hown.out

theorem fieldBytes_any (s : Sn) (hform : s.form = true) (w : World) :
    Calls Try.prog 28 #[.agg s.vals] w fun e w' => ∃ g, e = .returned (.slice (some ⟨g, 0, none⟩) 3 3) ∧ New w w' (.slice (some ⟨g, 0, none⟩) 3 3) s.fieldB := by
  cases hf : s.hf with
  | false => exact fieldBytes_none s hform hf w
  | true =>
    by_cases hb : 0 ≤ s.bit
    · exact fieldBytes_bit s hform hf hb w
    · exact fieldBytes_nobit s hform hf (by omega) w

end Go.Proofs.Ytglfkpdbgddpdaa
