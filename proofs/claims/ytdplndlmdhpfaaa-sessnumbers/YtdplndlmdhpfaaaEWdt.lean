/-
  sess: data come that a write waits for.
-/
import Derived.Test.YtdplndlmdhpfaaaEWd0
import Derived.Test.YtdplndlmdhpfaaaEFgt
namespace Go.Proofs.Ytdplndlmdhpfaaa
open Go.RowKit
set_option linter.unusedVariables false
set_option linter.unusedSimpArgs false

theorem wp_append_at {w : World} {o : Oper} {a : Act} {K : Act → World → Prop} {Q : Exit → Act → World → Prop} (hgd : o.guard = none) (d s : Operand)
    (ho : o.op = .call { callee := .builtin .append, args := #[d, s], argTypes := #[23, 23] })
    (v sv : Value) (zs ds : List Int) (m n : Nat) (hd : a.eval d = v) (hs : a.eval s = sv) (hown : w.ownsRow 0 5 1 v m (cels zs)) (hrd : RdAt w sv ds) (hpos : 0 < ds.length) (hm : zs.length = m) (hn : m + ds.length = n) (hlen : n ≤ 140737488355328)
    (h : ∀ g cap w', Kpt (w'.ownsRow 0 5 1 (.slice (some ⟨g, 0, none⟩) n cap) n (cels (zs ++ ds))) → Kpt (w.grownBy w' v.ownBlock) → Kpt (v.ownBlock = some g ∨ g = w.heap.size) →
      K (a.put o.dst (.slice (some ⟨g, 0, none⟩) n cap)) w') : o.wp Try.prog a w K Q := by
  subst hm hn
  obtain ⟨i0, hi0, hz0, hz1, hz2⟩ := info_parts Try.info5
  obtain ⟨sa, sc, rfl, hsn, hsl, hsr⟩ := hrd
  rcases hsr with h1 | ⟨b, soff, rfl, hc⟩
  · omega
  obtain ⟨v', w', hr, h2, h3, h4, h5⟩ := run_append_own_at (P := Try.prog) w 0 23 o.type 5 i0 (.int .u8 0) 1 1 Try.underlying23 hi0 hz0 hz1 hz2 rfl (by decide) v zs.length (cels zs) hown ⟨b, soff, none⟩ ds.length sc (cels ds) (by simp) (fun j u hu => by rw [Go.WideShapes.add_plain]; exact hc j u hu) (cels_one _) (by unfold maxLen; omega) (by omega) (Nat.zero_le _)
  obtain ⟨g, cap, rfl, hg, hlt⟩ := own_shape h2 (by omega)
  unfold Oper.wp execOp
  simp only [ho, resolve, invoke, builtin, Sem.run_bind, Sem.run_pure, Result.andThen_ok, List.map_toArray, List.map_cons, List.map_nil, hd, hs, hr]
  exact h g cap w' ⟨by rw [cels_append]; exact h2⟩ ⟨h3⟩ ⟨by
    rcases h5 with e | e
    · exact .inl e.symm
    · exact .inr (by injection e)⟩
theorem wpList_append_at {w : World} {ops : Array Oper} {rest : List Oper} {o : Oper} {a : Act} {Q : Exit → Act → World → Prop} (hgd : o.guard = none) (d s : Operand)
    (ho : o.op = .call { callee := .builtin .append, args := #[d, s], argTypes := #[23, 23] })
    (v sv : Value) (zs ds : List Int) (m n : Nat) (hd : a.eval d = v) (hs : a.eval s = sv) (hown : w.ownsRow 0 5 1 v m (cels zs)) (hrd : RdAt w sv ds) (hpos : 0 < ds.length) (hm : zs.length = m) (hn : m + ds.length = n) (hlen : n ≤ 140737488355328)
    (h : ∀ g cap w', Kpt (w'.ownsRow 0 5 1 (.slice (some ⟨g, 0, none⟩) n cap) n (cels (zs ++ ds))) → Kpt (w.grownBy w' v.ownBlock) → Kpt (v.ownBlock = some g ∨ g = w.heap.size) →
      wpList Try.prog ops Q rest (a.put o.dst (.slice (some ⟨g, 0, none⟩) n cap)) w') : wpList Try.prog ops Q (o :: rest) a w :=
  wpList_plain hgd fun K hK => wp_append_at hgd d s ho v sv zs ds m n hd hs hown hrd hpos hm hn hlen (fun g cap w' h1 h2 h3 => hK _ _ (h g cap w' h1 h2 h3))

theorem ownR_bx {ty k g c : Nat} {w : World} {z : Array Value} (h : OwnR ty k w (.slice (some ⟨g, 0, none⟩) 1 c) [z]) : Bx w g z := by
  obtain ⟨a, c', hv, hs⟩ := h.shape
  rcases hs with ⟨_, _, hx⟩ | ⟨g', rfl, hg, _, _, hf, hr⟩
  · simp at hx
  · simp only [Value.slice.injEq, Option.some.injEq, Addr.mk.injEq, and_true] at hv
    obtain ⟨rfl, _⟩ := hv
    refine ⟨hg, fun j hj => ?_, hf⟩
    have := hr 0 z rfl j z[j] (by simp [hj])
    rw [Nat.zero_mul, Nat.zero_add] at this
    rw [this, Array.getElem?_eq_getElem hj]
theorem bx_task {w : World} {R : Nat} {r : Wr} (h : Bx w R r.v) : Bx w R r.t.v := by
  refine ⟨h.lt, fun j hj => ?_, h.free⟩
  have hj8 : j < 8 := hj
  rw [h.cells j (by show j < 11; omega)]
  have : j = 0 ∨ j = 1 ∨ j = 2 ∨ j = 3 ∨ j = 4 ∨ j = 5 ∨ j = 6 ∨ j = 7 := by omega
  rcases this with rfl | rfl | rfl | rfl | rfl | rfl | rfl | rfl <;> rfl
/-- The write that waits is another now. -/
theorem Ss.over {W : World} {S g c : Nat} {s : Se} {H O : List (Array Value)} {z z' : Array Value} (h : Ss W S s H O [z]) (hw : s.wts = .slice (some ⟨g, 0, none⟩) 1 c) (hz : z'.size = 11 ∧ z'.all (·.oneCell') = true) : Ss (W.setCells g 0 z'.toList) S s H O [z'] ∧ St S W (W.setCells g 0 z'.toList) s s := by
  have hg := grown_setCells g z'.toList 0 W
  have hX : s.wts.ownBlock = some g := by rw [hw]; rfl
  refine ⟨⟨h.bx.grown hg (fun e => h.nw (by rw [hX]; exact e)), h.held.of_block (fun b hb => hg.block b (h.held.lt hb) (fun e => h.hw b hb (by rw [hX]; injection e with e; rw [e]))), h.opn.of_block (fun b hb => hg.block b (h.opn.lt hb) (fun e => h.ow b hb (by rw [hX]; injection e with e; rw [e]))), ?_, h.nh, h.no, h.nw, h.ho, h.hw, h.ow⟩, Fr.of_grown hg (fun b e => .inr (.inr (.inr (by rw [hX]; exact e)))), fun _ h => .inl h⟩
  have := h.wts
  rw [hw] at this ⊢
  exact ownR_over this hz

/-- A session that has one write that waits, with what has come. -/
structure Wst (base : Nat) (W : World) (S : Nat) (s : Se) (O : List (Array Value)) (r : Wr) (xs : List Int) : Prop where
  ss : Ss W S s [] O [r.v]
  od : Od (s.X S) W r.t.out xs
  cdb : ∃ ca cn cc, r.t.cdb = .slice ca cn cc
  bs : ∀ b, s.X S b ∨ r.t.out.ownBlock = some b → base ≤ b
def Wr.more (r : Wr) (o : Value) : Wr := { r with t := { r.t with out := o } }
structure DtAll (base : Nat) (S : Nat) (s : Se) (O : List (Array Value)) (r : Wr) (n : Nat) (xs : List Int) (W : World) (v u : Value) : Prop where
  eq : (n : Int) = r.t.wn
  nil : v = .slice none 0 0
  ex : ∃ s' o' b, Ss W S s' [] O [] ∧ RdAt W o' xs ∧ u = .slice (some ⟨b, 0, none⟩) 1 1 ∧ Bx W b (r.more o').t.v
structure DtAsk (base : Nat) (S : Nat) (s : Se) (O : List (Array Value)) (r : Wr) (m : Nat) (z : Int) (xs : List Int) (W : World) (v u : Value) : Prop where
  ne : (m : Int) ≠ r.t.wn
  eq : (m : Int) = r.en
  nil : u = .slice none 0 0
  ex : ∃ o' b, Wst base W S s.ask O ((r.more o').ask s m z) xs ∧ v = .slice (some ⟨b, 0, none⟩) 1 1 ∧ Bx W b ((r2t r s m z).num s.ask).v
structure DtOn (base : Nat) (S : Nat) (s : Se) (O : List (Array Value)) (r : Wr) (n : Nat) (xs : List Int) (W : World) (v u : Value) : Prop where
  lt : (n : Int) < r.en
  nil : v = .slice none 0 0
  nil2 : u = .slice none 0 0
  ex : ∃ o', Wst base W S s O (r.more o') xs

set_option maxRecDepth 100000 in
set_option maxHeartbeats 8000000 in
theorem data_some (base S : Nat) (s : Se) (O : List (Array Value)) (r : Wr) (xs ys : List Int) (p : Pd) (da : Option Addr) (m l n dc : Nat) (z : Int) (w : World) (h : Wst base w S s O r xs) (hbw : base ≤ w.heap.size) (htg : r.t.tg = p.tg) (htag : r.tag = p.w0) (hm : xs.length = m) (h5 : p.w5 = (m : Int)) (hda : p.da = .slice da l dc) (hy : RdAt w p.da ys) (hyl : ys.length = l) (hl0 : 0 < l) (hyb : ∀ g, p.da.ownBlock = some g → g < base) (hmn : m + l = n) (hle : (n : Int) ≤ r.en) (hen : r.en ≤ r.t.wn) (hwn : r.t.wn ≤ 5000) (htm : 0 ≤ r.tm ∧ r.tm < 5000) (hn : 0 ≤ s.next ∧ s.next < 4294967296) (hfl : (n : Int) < r.en → p.fl = 0) (hz : z = min (max s.bu 1) (r.t.wn - n)) (hz0 : 0 ≤ z ∧ z ≤ 1048576) :
    Calls Try.prog 21 #[.pointer (some ⟨S, 0, none⟩), .agg p.v] w fun e w' => ∃ v u, e = .returned (.tuple #[v, u]) ∧ Below base w w' ∧
      (DtAll base S s O r n (xs ++ ys) w' v u ∨ DtAsk base S s O r n z (xs ++ ys) w' v u ∨ DtOn base S s O r n (xs ++ ys) w' v u) := by
  obtain ⟨g, wc, hwv, -, -, hwc⟩ := ownR_oneS h.ss.wts
  obtain ⟨ca, cn, cc, hcdb⟩ := h.cdb
  obtain ⟨oa, oc, hout⟩ := rd_len h.od.rd
  rw [hm] at hout
  have hXg : Kpt (s.X S g) := ⟨.inr (.inr (.inr (by rw [hwv]; rfl)))⟩
  have hBg : Kpt (∀ W, Ss W S s [] O [r.v] → Bx W g r.v) := ⟨fun W hS => by have := hS.wts; rw [hwv] at this; exact ownR_bx this⟩
  have hX : Kpt (∀ W q, Ss W S s [] O [r.v] → Bx W q p.v → Calls Try.prog 34 #[.slice (some ⟨g, 0, none⟩) 1 wc, .func (.func 35) #[] #[.pointer (some ⟨q, 0, none⟩)]] W fun e w' => e = .returned (.int .i64 0) ∧ Below W.heap.size W w') := ⟨fun W q hS hq => by
    have := idxW_any 35 #[.pointer (some ⟨q, 0, none⟩)] (fun _ => true) s.wts [r.v] W hS.wts.rd (by simp) hcfT (fun W2 hW t ht => by simp at ht; subst ht; exact takeData1_any r p q W2 (hq.below hW hq.lt) htg htag)
    rw [hwv] at this
    exact this⟩
  have hF : Kpt (∀ W, Calls Try.prog 36 #[.agg r.v, .agg p.v] W fun e w' => e = .returned (.bool true) ∧ Below W.heap.size W w') := ⟨fun W => fits_any r p oa m oc da l dc W hout hda h5 (by omega) (by omega) (by omega)⟩
  have hone : Kpt (∀ (o' : Value) (a' : Option Addr) (n' c' : Nat), o' = .slice a' n' c' → (r.more o').v.size = 11 ∧ (r.more o').v.all (·.oneCell') = true) := ⟨fun o' a' n' c' e => Wr.one (r := r.more o') hcdb e⟩
  have hone0 : Kpt (r.v.size = 11 ∧ r.v.all (·.oneCell') = true) := ⟨Wr.one hcdb hout⟩
  have k0 := Kpt.mk (Lo.start h.ss)
  have hod := Kpt.mk h.od
  have hbs := Kpt.mk h.bs
  have hwvK := Kpt.mk hwv
  have houtK := Kpt.mk hout
  have hdaK := Kpt.mk hda
  have hyK := Kpt.mk hy
  have hybK := Kpt.mk hyb
  have hcdbK := Kpt.mk hcdb
  have hzK := Kpt.mk hz
  have hmK := Kpt.mk hm
  have hylK := Kpt.mk hyl
  have hflK := Kpt.mk hfl
  have hmnK := Kpt.mk hmn
  clear h hda hy hyb hcdb hz hm hyl hfl hwv hout htg htag h5 hmn
  have hmm := hmf
  go_enter Try.func21, Try.ntmps21
  go_upto_region 2 with (first
    | (go_at_call 34; go_must (refine (hX.out _ _ k1.out.ss k1.out.b0).mono ?_; rintro e w2 ⟨rfl, hb2⟩; have k2 := Kpt.mk (k1.out.below hb2); clear hb2))
    | (refine (?_ : wpList _ _ _ (Oper.mk _ (Op.box 37 _) _ _ _ _ :: _) _ _); go_must (refine wpList_box rfl 37 _ rfl p.v rfl ?_; intro P w1 hP hB hb _; have k1 := Kpt.mk (k0.out.add hb hP hB); have c16 := (k1.out.ss.cell 16 (by omega)).1; simp only [Se.v, List.getElem?_toArray, List.getElem?_cons_succ, List.getElem?_cons_zero] at c16; rw [hwvK.out] at c16; clear hb hP hB)))
  have hCl : Kpt (∀ W, Lo w W S s s [] O [r.v] [(P, p.v)] → Bx W P p.v ∧ Bx W g r.v ∧ W.cell? ⟨S, 16, none⟩ = some (.slice (some ⟨g, 0, none⟩) 1 wc)) := ⟨fun W k => ⟨k.b0, hBg.out W k.ss, by have := (k.ss.cell 16 (by omega)).1; simp only [Se.v, List.getElem?_toArray, List.getElem?_cons_succ, List.getElem?_cons_zero] at this; rw [hwvK.out] at this; exact this⟩⟩
  replace k2 := Kpt.mk k2.out.drew
  refine wp_region_any (by kernel_rfl) ?_
  refine wpAny_of_C (C := fun W => Bx W P p.v ∧ Bx W g r.v ∧ W.cell? ⟨S, 16, none⟩ = some (.slice (some ⟨g, 0, none⟩) 1 wc)) _ _ _ _ ?_
  refine wpAnyC_take 0 (.int .i64 0) rfl (by kernel_rfl) (by kernel_rfl) (by kernel_rfl) (fun _ _ _ h => h) (wanted_free rfl _) (fun W hW => by go_simp) ?_
  try simp only [Act.put, List.getElem_toArray, List.getElem_cons_succ, List.getElem_cons_zero, List.setIfInBounds_toArray, List.set_cons_succ, List.set_cons_zero]
  refine wpAnyC_take 1 (.bool false) rfl (by kernel_rfl) (by kernel_rfl) (by kernel_rfl) (fun _ _ _ h => h) (wanted_free rfl _) (fun W hW => by go_simp) ?_
  try simp only [Act.put, List.getElem_toArray, List.getElem_cons_succ, List.getElem_cons_zero, List.setIfInBounds_toArray, List.set_cons_succ, List.set_cons_zero]
  refine wpAnyC_take 2 (.bool false) rfl (by kernel_rfl) (by kernel_rfl) (by kernel_rfl) (fun _ _ _ h => h) (wanted_free rfl _) (fun W hW => by go_simp) ?_
  try simp only [Act.put, List.getElem_toArray, List.getElem_cons_succ, List.getElem_cons_zero, List.setIfInBounds_toArray, List.set_cons_succ, List.set_cons_zero]
  refine wpAnyC_take 3 (.pointer (some ⟨S, 0, none⟩)) rfl (by kernel_rfl) (by kernel_rfl) (by kernel_rfl) (fun _ _ _ h => h) (wanted_at false rfl rfl rfl rfl) (fun W hW => by go_simp) ?_
  try simp only [Act.put, List.getElem_toArray, List.getElem_cons_succ, List.getElem_cons_zero, List.setIfInBounds_toArray, List.set_cons_succ, List.set_cons_zero]
  refine wpAnyC_take 4 (.pointer (some ⟨S, 0, none⟩)) rfl (by kernel_rfl) (by kernel_rfl) (by kernel_rfl) (fun _ _ _ h => h) (wanted_at false rfl rfl rfl rfl) (fun W hW => by go_simp) ?_
  try simp only [Act.put, List.getElem_toArray, List.getElem_cons_succ, List.getElem_cons_zero, List.setIfInBounds_toArray, List.set_cons_succ, List.set_cons_zero]
  refine wpAnyC_take 5 (.pointer (some ⟨S, 16, none⟩)) rfl (by kernel_rfl) (by kernel_rfl) (by kernel_rfl) (fun _ _ _ h => h) (wanted_at false rfl rfl rfl rfl) (fun W hW => by go_simp) ?_
  try simp only [Act.put, List.getElem_toArray, List.getElem_cons_succ, List.getElem_cons_zero, List.setIfInBounds_toArray, List.set_cons_succ, List.set_cons_zero]
  refine wpAnyC_take 6 (.slice (some ⟨g, 0, none⟩) 1 wc) rfl (by kernel_rfl) (by kernel_rfl) (by kernel_rfl) (fun _ _ _ h => h) (wanted_at false rfl rfl rfl rfl) (fun W hW => by have c := hW.2.2; go_simp) ?_
  try simp only [Act.put, List.getElem_toArray, List.getElem_cons_succ, List.getElem_cons_zero, List.setIfInBounds_toArray, List.set_cons_succ, List.set_cons_zero]
  refine wpAnyC_take 7 (.int .i64 0) rfl (by kernel_rfl) (by kernel_rfl) (by kernel_rfl) (fun _ _ _ h => h) (wanted_at false rfl rfl rfl rfl) (fun W hW => by go_simp) ?_
  try simp only [Act.put, List.getElem_toArray, List.getElem_cons_succ, List.getElem_cons_zero, List.setIfInBounds_toArray, List.set_cons_succ, List.set_cons_zero]
  refine wpAnyC_take 8 (.pointer (some ⟨g, 0, none⟩)) rfl (by kernel_rfl) (by kernel_rfl) (by kernel_rfl) (fun _ _ _ h => h) (wanted_at false rfl rfl rfl rfl) (fun W hW => by go_simp) ?_
  try simp only [Act.put, List.getElem_toArray, List.getElem_cons_succ, List.getElem_cons_zero, List.setIfInBounds_toArray, List.set_cons_succ, List.set_cons_zero]
  refine wpAnyC_take 9 (.agg r.v) rfl (by kernel_rfl) (by kernel_rfl) (by kernel_rfl) (fun _ _ _ h => h) (wanted_at false rfl rfl rfl rfl) (fun W hW => exec_load_bx 81 (.tmp 24) rfl g _ rfl hW.2.1 _ Try.underlying81 rfl szWrt) ?_
  try simp only [Act.put, List.getElem_toArray, List.getElem_cons_succ, List.getElem_cons_zero, List.setIfInBounds_toArray, List.set_cons_succ, List.set_cons_zero]
  refine wpAnyC_take 10 (.agg p.v) rfl (by kernel_rfl) (by kernel_rfl) (by kernel_rfl) (fun _ _ _ h => h) (wanted_at false rfl rfl rfl rfl) (fun W hW => exec_load_bx 37 (.tmp 3) rfl P _ rfl hW.1 _ Try.underlying37 rfl szPdu) ?_
  try simp only [Act.put, List.getElem_toArray, List.getElem_cons_succ, List.getElem_cons_zero, List.setIfInBounds_toArray, List.set_cons_succ, List.set_cons_zero]
  obtain ⟨W2, hW2⟩ : ∃ W, W = w2.drew := ⟨_, rfl⟩
  rw [← hW2] at k2
  refine wpAnyC_world hW2 ?_
  clear hW2 c16
  refine wpAnyC_one 11 (hCl.out _ k2.out) rfl (by kernel_rfl) (wanted_at false rfl rfl rfl rfl) (fun KA hKA => ?_)
  go_simp
  refine (hF.out _).mono ?_
  rintro e w3 ⟨rfl, hb3⟩
  have k3 := Kpt.mk (k2.out.below hb3)
  clear hb3
  refine hKA _ _ ?_
  clear hKA KA
  try simp only [Act.put, List.getElem_toArray, List.getElem_cons_succ, List.getElem_cons_zero, List.setIfInBounds_toArray, List.set_cons_succ, List.set_cons_zero]
  refine wpAnyC_take 12 (.bool false) rfl (by kernel_rfl) (by kernel_rfl) (by kernel_rfl) (fun _ _ _ h => h) (wanted_at false rfl rfl rfl rfl) (fun W hW => by go_simp) ?_
  try simp only [Act.put, List.getElem_toArray, List.getElem_cons_succ, List.getElem_cons_zero, List.setIfInBounds_toArray, List.set_cons_succ, List.set_cons_zero]
  refine wpAnyC_take 13 (.bool false) rfl (by kernel_rfl) (by kernel_rfl) (by kernel_rfl) (fun _ _ _ h => h) (wanted_free rfl _) (fun W hW => by go_simp) ?_
  try simp only [Act.put, List.getElem_toArray, List.getElem_cons_succ, List.getElem_cons_zero, List.setIfInBounds_toArray, List.set_cons_succ, List.set_cons_zero]
  refine wpAnyC_done (hCl.out _ k3.out) (by kernel_rfl) ?_
  have c16 := (hCl.out _ k3.out).2.2
  have hg3 := Kpt.mk (hCl.out _ k3.out).2.1
  go_upto_region 5 with (first
    | (refine (?_ : wpList _ _ _ (Oper.mk _ (Op.load 81 _) _ _ _ _ :: _) _ _); go_must (refine wpList_load_bx rfl 81 _ rfl g r.v rfl hg3.out _ Try.underlying81 rfl szWrt ?_; have hm8 := hone0))
    | (refine (?_ : wpList _ _ _ (Oper.mk _ (Op.alloc 81) _ _ _ _ :: _) _ _); go_must (refine wpList_var rfl 81 rfl _ zWrt ?_; intro R w4 hR hB hb; have k4 := Kpt.mk (k3.out.add hb hR hB); clear hR hB hb))
    | (refine (?_ : wpList _ _ _ (Oper.mk _ (Op.store 81 _ _) _ _ _ _ :: _) _ _); go_must (refine wpList_store_bx rfl 81 _ _ rfl R zW.v r.v rfl rfl k4.out.b0 rfl szWrt hone0.out.2 rfl ?_; intro w5 hB hg; have k5 := Kpt.mk (k4.out.put0 hB hg); clear hB hg)))
  have r4 := k5.out.b0.cells 4 (by simp [Wr.v])
  have p13 := k5.out.b1.cells 13 (by simp [Pd.v])
  simp [Wr.v] at r4
  simp [Pd.v] at p13
  rw [houtK.out] at r4
  rw [hdaK.out] at p13
  have od5 := Kpt.mk (hod.out.st k5.out.st)
  have hyr5 : Kpt (RdAt w5 (.slice da l dc) ys) := ⟨by
    rw [← hdaK.out]
    have hb5 : Below base w w5 := k5.out.st.fr.below hbw (fun b hb => hbs.out b (.inl hb))
    exact hyK.out.of_block (fun b hb => hb5.block b (hybK.out b hb))⟩
  have hown5 : Kpt (w5.ownsRow 0 5 1 (.slice oa m oc) m (cels xs)) := ⟨by have := od5.out.own; unfold Row at this; rw [hmK.out, houtK.out] at this; exact this⟩
  have hRn : Kpt (R ≠ P ∧ ¬ s.X S R ∧ ¬ s.X S P ∧ w.heap.size ≤ R ∧ w.heap.size ≤ P ∧ R < w5.heap.size ∧ P < w5.heap.size) := ⟨by
    have h1 := k5.out.bx (R, r.v) (by simp)
    have h2 := k5.out.bx (P, p.v) (by simp)
    have h3 := k5.out.nd
    simp at h3
    exact ⟨h3, h1.2.1, h2.2.1, h1.2.2, h2.2.2, h1.1.lt, h2.1.lt⟩⟩
  have hon5 : Kpt (∀ b, r.t.out.ownBlock = some b → b < w.heap.size ∧ base ≤ b ∧ ¬ s.X S b) := ⟨fun b hb => ⟨hod.out.lt hb, hbs.out b (.inr hb), hod.out.off b hb⟩⟩
  go_upto_region 6 with (refine (?_ : wpList _ _ _ (Oper.mk (some 45) _ _ _ _ _ :: _) _ _); go_must (refine wpList_append_at rfl _ _ rfl (.slice oa m oc) (.slice da l dc) xs ys m n rfl rfl hown5.out hyr5.out (by have := hylK.out; omega) hmK.out (by rw [hylK.out]; exact hmnK.out) (by omega) ?_; intro g2 cap2 w6 ho6 hg6 hor6; have hF6 : Kpt (Fr (fun b => r.t.out.ownBlock = some b) w5 w6) := ⟨Fr.of_grown hg6.out (fun b e => by rw [houtK.out]; exact e)⟩; have b6R : Kpt (Bx w6 R r.v) := ⟨hF6.out.bx k5.out.b0 (fun e => by have := (hon5.out R e).1; have := hRn.out; omega)⟩; have b6P : Kpt (Bx w6 P p.v) := ⟨hF6.out.bx k5.out.b1 (fun e => by have := (hon5.out P e).1; have := hRn.out; omega)⟩; have x := b6R.out.cells 4 (by simp [Wr.v]); have f := b6R.out.free 4; simp [Wr.v] at x))
  have hg2 : Kpt (g2 ≠ R ∧ g2 ≠ P ∧ ¬ s.X S g2 ∧ base ≤ g2) := ⟨by
    have hr := hRn.out
    rcases hor6.out with e | e
    · rw [← houtK.out] at e
      obtain ⟨h1, h2, h3⟩ := hon5.out g2 e
      exact ⟨by omega, by omega, h3, h2⟩
    · have := k5.out.st.fr.size
      exact ⟨by omega, by omega, fun e' => by have := k5.out.ss.lt _ e'; omega, by omega⟩⟩
  have S6 : Kpt (Ss w6 S s [] O [r.v]) := ⟨k5.out.ss.frame hF6.out (fun b hx e => (hon5.out b e).2.2 hx)⟩
  have q6 : Kpt (Below base w w6) := ⟨(k5.out.st.fr.below hbw (fun b hb => hbs.out b (.inl hb))).grown hg6.out (Nat.le_trans hbw k5.out.st.fr.size) (fun b e => by rw [← houtK.out] at e; exact (hon5.out b e).2.1)⟩
  have od6 : Kpt (Od (s.X S) w6 (.slice (some ⟨g2, 0, none⟩) n cap2) (xs ++ ys)) := ⟨by show w6.ownsRow 0 5 1 _ (xs ++ ys).length _; rw [List.length_append, hmK.out, hylK.out, hmnK.out]; exact ho6.out, fun b e => by injection e with e; rw [← e]; exact hg2.out.2.2.1⟩
  obtain ⟨o2, ho2⟩ : ∃ o2 : Value, o2 = .slice (some ⟨g2, 0, none⟩) n cap2 := ⟨_, rfl⟩
  have hgr := grown_setCellK w6 ⟨R, 4, none⟩ (.slice (some ⟨g2, 0, none⟩) n cap2)
  have S7 : Kpt (Ss (w6.setCell ⟨R, 4, none⟩ (.slice (some ⟨g2, 0, none⟩) n cap2)) S s [] O [r.v]) := ⟨S6.out.frame (Y := fun b => b = R) (Fr.of_grown hgr (fun b e => by injection e with e; exact e.symm)) (fun b hx e => hRn.out.2.1 (by rw [← e]; exact hx))⟩
  have b7R : Kpt (Bx (w6.setCell ⟨R, 4, none⟩ (.slice (some ⟨g2, 0, none⟩) n cap2)) R (r.more o2).v) := ⟨by have := bx_setC (.slice (some ⟨g2, 0, none⟩) n cap2) b6R.out (j := 4) (by simp [Wr.v]); rw [ho2]; simpa [Wr.v, Wr.more] using this⟩
  have b7P : Kpt (Bx (w6.setCell ⟨R, 4, none⟩ (.slice (some ⟨g2, 0, none⟩) n cap2)) P p.v) := ⟨b6P.out.grown hgr (fun e => hRn.out.1 (by injection e))⟩
  have od7 : Kpt (Od (s.X S) (w6.setCell ⟨R, 4, none⟩ (.slice (some ⟨g2, 0, none⟩) n cap2)) o2 (xs ++ ys)) := ⟨by rw [ho2]; exact od6.out.put hgr (fun b e => by injection e with e; rw [← e]; exact hg2.out.1)⟩
  have q7 : Kpt (Below base w (w6.setCell ⟨R, 4, none⟩ (.slice (some ⟨g2, 0, none⟩) n cap2))) := ⟨q6.out.setCell (p := ⟨R, 4, none⟩) (by have := hRn.out; show base ≤ R; omega) _⟩
  obtain ⟨w7, hw7⟩ : ∃ W, W = w6.setCell ⟨R, 4, none⟩ (.slice (some ⟨g2, 0, none⟩) n cap2) := ⟨_, rfl⟩
  rw [← hw7] at S7 b7R b7P od7 q7 ⊢
  have ho2K := Kpt.mk ho2
  have hsz7 : Kpt (base ≤ w7.heap.size) := ⟨Nat.le_trans hbw q7.out.size⟩
  clear hw7 hgr x f b6R b6P S6 q6 od6 ho6 hg6 hor6 hF6 k5 k3 k2 k1 k0 c16 r4 p13 ho2 hyr5 hown5 od5 hg3 k4
  have c16 := (S7.out.cell 16 (by omega)).1
  simp only [Se.v, List.getElem?_toArray, List.getElem?_cons_succ, List.getElem?_cons_zero] at c16
  rw [hwvK.out] at c16
  have r4 := b7R.out.cells 4 (by simp [Wr.v])
  have r5 := b7R.out.cells 5 (by simp [Wr.v])
  have r9 := b7R.out.cells 9 (by simp [Wr.v])
  have p1 := b7P.out.cells 1 (by simp [Pd.v])
  simp [Wr.v, Wr.more] at r4 r5 r9
  simp [Pd.v] at p1
  rw [ho2K.out] at r4
  have hmo : Kpt ((r.more o2).v.size = 11 ∧ (r.more o2).v.all (·.oneCell') = true) := ⟨hone.out o2 _ _ _ ho2K.out⟩
  obtain ⟨r2, hr2⟩ : ∃ r2, r2 = r.more o2 := ⟨_, rfl⟩
  rw [← hr2] at b7R hmo
  have t2 : Kpt (r2.t.out = o2) := ⟨by rw [hr2]; rfl⟩
  have d2 : Kpt (r2.t.cdb = .slice ca cn cc) := ⟨by rw [hr2]; exact hcdbK.out⟩
  have wn2 : Kpt (r2.t.wn = r.t.wn) := ⟨by rw [hr2]; rfl⟩
  have tm2 : Kpt (r2.tm = r.tm) := ⟨by rw [hr2]; rfl⟩
  have hrt2 : Kpt (r2t r2 s n z = r2t r s n z) := ⟨by rw [hr2]; rfl⟩
  have hr2K := Kpt.mk hr2
  clear hr2
  have hgR : Kpt (g ≠ R ∧ S ≠ R ∧ g2 ≠ g ∧ g2 ≠ S) := ⟨fun e => hRn.out.2.1 (by rw [← e]; exact hXg.out), fun e => hRn.out.2.1 (by rw [← e]; exact .inl rfl), fun e => hg2.out.2.2.1 (by rw [e]; exact hXg.out), fun e => hg2.out.2.2.1 (by rw [e]; exact .inl rfl)⟩
  by_cases hA : (n : Int) = r.t.wn
  · have hAK := Kpt.mk hA
    have a1 : ((n : Int) == r.t.wn) = true := by simp [hA]
    have a2 : decide ((n : Int) = r.t.wn) = true := by simp [hA]
    clear hA
    have hT : Kpt (Calls Try.prog 37 #[.slice (some ⟨g, 0, none⟩) 1 wc, .int .i64 0] w7 fun e w' => e = .returned (.tuple #[.agg r.v, .slice (some ⟨g, 0, none⟩) 0 wc]) ∧ OwnR 81 11 w' (.slice (some ⟨g, 0, none⟩) 0 wc) [] ∧ w7.grownBy w' (some g)) := ⟨by
      have h7 := S7.out.wts
      rw [hwvK.out] at h7
      obtain ⟨a', c', e', hs'⟩ := h7.shape
      have hwc1 : 1 ≤ wc := by
        rcases hs' with ⟨_, _, hx⟩ | ⟨_, _, _, hc1, _⟩
        · simp at hx
        · injection e' with _ _ e3; rw [e3]; simpa using hc1
      exact takeW_any g wc 0 1 [r.v] r.v w7 h7 rfl rfl (by omega) hwc1 hwc⟩
    go_upto_region 9 with (go_at_call 37; go_must (refine hT.out.mono ?_; rintro e w8 ⟨rfl, ho8, hg8⟩; obtain ⟨q1, q2, q3, q4⟩ := S7.out.setWts (v' := .slice (some ⟨g, 0, none⟩) 0 wc) (by rw [hwvK.out]; exact hg8) ho8 (fun b hb => .inl (by rw [hwvK.out]; exact hb)); rw [hwvK.out] at q3; have q1K := Kpt.mk q1; have q2K := Kpt.mk q2; clear q1 q2 ho8 hg8))
    have b9R : Kpt (Bx (w8.setCell ⟨S, 16, none⟩ (.slice (some ⟨g, 0, none⟩) 0 wc)) R r2.v) := ⟨q2K.out.fr.bx b7R.out hRn.out.2.1⟩
    have od9 : Kpt (RdAt (w8.setCell ⟨S, 16, none⟩ (.slice (some ⟨g, 0, none⟩) 0 wc)) o2 (xs ++ ys)) := ⟨(od7.out.st q2K.out).rd⟩
    have q9 : Kpt (Below base w (w8.setCell ⟨S, 16, none⟩ (.slice (some ⟨g, 0, none⟩) 0 wc))) := ⟨q7.out.trans (q2K.out.fr.below hsz7.out (fun b hb => hbs.out b (.inl hb)))⟩
    obtain ⟨w9, hw9⟩ : ∃ W, W = w8.setCell ⟨S, 16, none⟩ (.slice (some ⟨g, 0, none⟩) 0 wc) := ⟨_, rfl⟩
    rw [← hw9] at b9R od9 q9 q1K ⊢
    clear hw9 q3 q4 q2K
    refine wp_region_any (by kernel_rfl) ?_
    refine wpAny_of_C (C := fun W => Bx W R r2.v) _ _ _ _ ?_
    refine wpAnyC_take 0 (.pointer (some ⟨R, 0, none⟩)) rfl (by kernel_rfl) (by kernel_rfl) (by kernel_rfl) (fun _ _ _ h => h) (wanted_free rfl _) (fun W hW => by go_simp) ?_
    try simp only [Act.put, List.getElem_toArray, List.getElem_cons_succ, List.getElem_cons_zero, List.setIfInBounds_toArray, List.set_cons_succ, List.set_cons_zero]
    refine wpAnyC_take 1 (.agg r2.t.v) rfl (by kernel_rfl) (by kernel_rfl) (by kernel_rfl) (fun _ _ _ h => h) (wanted_free rfl _) (fun W hW => exec_load_bx 41 (.tmp 69) rfl R _ rfl (bx_task hW) _ Try.underlying41 rfl szTask) ?_
    try simp only [Act.put, List.getElem_toArray, List.getElem_cons_succ, List.getElem_cons_zero, List.setIfInBounds_toArray, List.set_cons_succ, List.set_cons_zero]
    refine wpAnyC_take 3 (.slice none 0 0) rfl (by kernel_rfl) (by kernel_rfl) (by kernel_rfl) (fun _ _ _ h => h) (wanted_free rfl _) (fun W hW => by go_simp) ?_
    try simp only [Act.put, List.getElem_toArray, List.getElem_cons_succ, List.getElem_cons_zero, List.setIfInBounds_toArray, List.set_cons_succ, List.set_cons_zero]
    refine wpAnyC_one 2 (b9R.out.drew) rfl (by kernel_rfl) (wanted_free rfl _) (fun KA hKA => ?_)
    unfold Oper.wp
    rw [exec_build1 32 41 8 72 _ Try.underlying32 infoTask (by decide) (by decide) (.tmp 70) rfl r2.t.v rfl rfl]
    refine hKA _ (w9.drew.alloc (.cells r2.t.v 41)) ?_
    clear hKA KA
    have hb1 : Below w9.heap.size w9 (w9.drew.alloc (.cells r2.t.v 41)) := (below_drew w9).alloc (Nat.le_refl _) _
    have hBN : Kpt (Bx (w9.drew.alloc (.cells r2.t.v 41)) w9.drew.heap.size r2.t.v) := ⟨bx_new _ _ _⟩
    have S10 := Kpt.mk (q1K.out.below hb1)
    have od10 := Kpt.mk (od9.out.bel hb1)
    have q10 := Kpt.mk (q9.out.trans (hb1.mono (Nat.le_trans hbw q9.out.size)))
    have b10R := Kpt.mk (b9R.out.below hb1 b9R.out.lt)
    obtain ⟨N, hNN⟩ : ∃ N, N = w9.drew.heap.size := ⟨_, rfl⟩
    rw [← hNN] at hBN
    rw [show w9.heap.size = N from hNN.symm]
    obtain ⟨W7, hW7⟩ : ∃ W7, W7 = w9.drew.alloc (.cells r2.t.v 41) := ⟨_, rfl⟩
    rw [← hW7] at hBN S10 od10 b10R q10 ⊢
    clear hNN hb1 hW7
    try simp only [Act.put, List.getElem_toArray, List.getElem_cons_succ, List.getElem_cons_zero, List.setIfInBounds_toArray, List.set_cons_succ, List.set_cons_zero]
    refine wpAnyC_one 4 (b10R.out) rfl (by kernel_rfl) (wanted_free rfl _) (fun KA hKA => ?_)
    go_simp
    refine hKA _ _ ?_
    clear hKA KA
    try simp only [Act.put, List.getElem_toArray, List.getElem_cons_succ, List.getElem_cons_zero, List.setIfInBounds_toArray, List.set_cons_succ, List.set_cons_zero]
    refine wpAnyC_done (b10R.out) (by kernel_rfl) ?_
    go_wp2
    try rw [Exit.noGoto_ret]
    refine bodyPost_ret (v := .tuple #[.slice none 0 0, .slice (some ⟨N, 0, none⟩) 1 1]) (by simp [results, Try.results21, asAddr, Act.put]) rfl ?_
    exact ⟨_, _, rfl, q10.out, .inl ⟨hAK.out, rfl, _, o2, N, S10.out, od10.out, rfl, by rw [← hr2K.out]; exact hBN.out⟩⟩
  · have hAK := Kpt.mk hA
    have a1 : ((n : Int) == r.t.wn) = false := by simp [hA]
    have a2 : decide ((n : Int) = r.t.wn) = false := by simp [hA]
    clear hA
    by_cases hB : (n : Int) = r.en
    · have hBK := Kpt.mk hB
      have b1 : ((n : Int) == r.en) = true := by simp [hB]
      have b2 : decide ((n : Int) = r.en) = true := by simp [hB]
      clear hB
      have hAsk : Kpt (Calls Try.prog 38 #[.pointer (some ⟨S, 0, none⟩), .agg r2.v] w7 fun e w' => ∃ v, e = .returned (.tuple #[.agg (r2.ask s n z).v, v]) ∧ Ss w' S s.ask [] O [r.v] ∧ St S w7 w' s s.ask ∧ Ou w7 w' S s.ask v 37 ((r2t r2 s n z).num s.ask).v) := ⟨askFor_any S s [] O [r.v] r2 ca cn cc _ n cap2 z w7 S7.out d2.out (by rw [t2.out]; exact ho2K.out) (by rw [wn2.out]; exact hzK.out) hz0 (by omega) (by rw [wn2.out]; omega) (by rw [tm2.out]; omega) hn⟩
      have hmo2 : Kpt ((r2.ask s n z).v.size = 11 ∧ (r2.ask s n z).v.all (·.oneCell') = true) := ⟨Wr.one (r := r2.ask s n z) d2.out (show r2.t.out = _ from by rw [t2.out]; exact ho2K.out)⟩
      obtain ⟨r3, hr3⟩ : ∃ r3, r3 = r2.ask s n z := ⟨_, rfl⟩
      rw [← hr3] at hAsk hmo2
      have t3 : Kpt (r3.t.out = o2) := ⟨by rw [hr3]; exact t2.out⟩
      have d3 : Kpt (r3.t.cdb = .slice ca cn cc) := ⟨by rw [hr3]; exact d2.out⟩
      rw [hrt2.out] at hAsk
      obtain ⟨s1, hs1⟩ : ∃ s1, s1 = s.ask := ⟨_, rfl⟩
      rw [← hs1] at hAsk
      have X1 : Kpt (∀ b, s1.X S b → s.X S b) := ⟨fun b hb => by rw [hs1] at hb; exact hb⟩
      have hwv1 : Kpt (s1.wts = .slice (some ⟨g, 0, none⟩) 1 wc) := ⟨by rw [hs1]; exact hwvK.out⟩
      have hs1K := Kpt.mk hs1
      clear hs1
      have hr3K := Kpt.mk hr3
      clear hr3
      go_upto_region 15 with (first
        | (go_at_call 38; go_must (refine hAsk.out.mono ?_; rintro e w8 ⟨av, rfl, hs8, ht8, ho8⟩; replace hs8 := Kpt.mk hs8; replace ht8 := Kpt.mk ht8; replace ho8 := Kpt.mk ho8; have b8R := Kpt.mk (ht8.out.fr.bx b7R.out hRn.out.2.1)))
        | (refine (?_ : wpList _ _ _ (Oper.mk _ (Op.load 81 _) _ _ _ _ :: _) _ _); go_must (refine wpList_load_bx rfl 81 _ rfl R r2.v rfl b7R.out _ Try.underlying81 rfl szWrt ?_; have hm8 := hmo))
        | (refine (?_ : wpList _ _ _ (Oper.mk _ (Op.store 81 _ _) _ _ _ _ :: _) _ _); go_must (refine wpList_store_bx rfl 81 _ _ rfl R r2.v r3.v rfl rfl b8R.out rfl szWrt hmo2.out.2 rfl ?_; intro w9 hB9 hg9; replace hB9 := Kpt.mk hB9; replace hg9 := Kpt.mk hg9)))
      have S9 : Kpt (Ss w9 S s1 [] O [r.v]) := ⟨hs8.out.frame (Y := fun b => b = R) (Fr.of_grown hg9.out (fun b e => by injection e with e; exact e.symm)) (fun b hx e => hRn.out.2.1 (by rw [← e]; exact X1.out b hx))⟩
      have od9 : Kpt (Od (s1.X S) w9 o2 (xs ++ ys)) := ⟨(od7.out.st ht8.out).put hg9.out (fun b e => by rw [ho2K.out] at e; injection e with e; rw [← e]; exact hg2.out.1)⟩
      have q9 : Kpt (Below base w w9) := ⟨(q7.out.trans (ht8.out.fr.below hsz7.out (fun b hb => hbs.out b (.inl hb)))).grown hg9.out (Nat.le_trans hsz7.out ht8.out.fr.size) (fun b e => by injection e with e; rw [← e]; have := hRn.out; omega)⟩
      obtain ⟨b, hav, hb1, hb2, hb3⟩ := ho8.out.at_
      subst hav
      have hbl : b < w8.heap.size := (Array.getElem?_eq_some_iff.1 hb2).1
      have hBb : Kpt (Bx w9 b ((r2t r s n z).num s1).v) := ⟨by
        have hb7 : R < w7.heap.size := b7R.out.lt
        have e9 := (hg9.out.block b hbl (fun e => by injection e with e; omega)).trans hb2
        exact ownR_bx (Bx.oneOwn (k := 14) e9 (Pd.one (p := (r2t r s n z).num s1) rfl))⟩
      have hbg : Kpt (b ≠ g) := ⟨fun e => hb3 (by rw [e]; exact .inr (.inr (.inr (by rw [hwv1.out]; rfl))))⟩
      clear hs8 ht8 ho8 b8R hg9 hAsk b7R b7P S7 od7 q7 c16 hb1 hb2 hb3 hbl
      have c16 := (S9.out.cell 16 (by omega)).1
      simp only [Se.v, List.getElem?_toArray, List.getElem?_cons_succ, List.getElem?_cons_zero] at c16
      rw [show s1.wts = .slice (some ⟨g, 0, none⟩) 1 wc from hwv1.out] at c16
      have bg := Kpt.mk (ownR_bx (show OwnR 81 11 w9 (.slice (some ⟨g, 0, none⟩) 1 wc) [r.v] from by have := S9.out.wts; rw [show s1.wts = .slice (some ⟨g, 0, none⟩) 1 wc from hwv1.out] at this; exact this))
      refine wp_region_any (by kernel_rfl) ?_
      refine wpAny_of_C (C := fun W => Bx W R (r3).v ∧ W.cell? ⟨S, 16, none⟩ = some (.slice (some ⟨g, 0, none⟩) 1 wc)) _ _ _ _ ?_
      refine wpAnyC_take 0 (.pointer (some ⟨S, 0, none⟩)) rfl (by kernel_rfl) (by kernel_rfl) (by kernel_rfl) (fun _ _ _ h => h) (wanted_free rfl _) (fun W hW => by go_simp) ?_
      try simp only [Act.put, List.getElem_toArray, List.getElem_cons_succ, List.getElem_cons_zero, List.setIfInBounds_toArray, List.set_cons_succ, List.set_cons_zero]
      refine wpAnyC_take 1 (.pointer (some ⟨S, 0, none⟩)) rfl (by kernel_rfl) (by kernel_rfl) (by kernel_rfl) (fun _ _ _ h => h) (wanted_free rfl _) (fun W hW => by go_simp) ?_
      try simp only [Act.put, List.getElem_toArray, List.getElem_cons_succ, List.getElem_cons_zero, List.setIfInBounds_toArray, List.set_cons_succ, List.set_cons_zero]
      refine wpAnyC_take 2 (.pointer (some ⟨S, 16, none⟩)) rfl (by kernel_rfl) (by kernel_rfl) (by kernel_rfl) (fun _ _ _ h => h) (wanted_free rfl _) (fun W hW => by go_simp) ?_
      try simp only [Act.put, List.getElem_toArray, List.getElem_cons_succ, List.getElem_cons_zero, List.setIfInBounds_toArray, List.set_cons_succ, List.set_cons_zero]
      refine wpAnyC_take 3 (.slice (some ⟨g, 0, none⟩) 1 wc) rfl (by kernel_rfl) (by kernel_rfl) (by kernel_rfl) (fun _ _ _ h => h) (wanted_free rfl _) (fun W hW => by have c := hW.2; go_simp) ?_
      try simp only [Act.put, List.getElem_toArray, List.getElem_cons_succ, List.getElem_cons_zero, List.setIfInBounds_toArray, List.set_cons_succ, List.set_cons_zero]
      refine wpAnyC_take 4 (.int .i64 0) rfl (by kernel_rfl) (by kernel_rfl) (by kernel_rfl) (fun _ _ _ h => h) (wanted_free rfl _) (fun W hW => by go_simp) ?_
      try simp only [Act.put, List.getElem_toArray, List.getElem_cons_succ, List.getElem_cons_zero, List.setIfInBounds_toArray, List.set_cons_succ, List.set_cons_zero]
      refine wpAnyC_take 5 (.agg (r3).v) rfl (by kernel_rfl) (by kernel_rfl) (by kernel_rfl) (fun _ _ _ h => h) (wanted_free rfl _) (fun W hW => exec_load_bx 81 (.tmp 7) rfl R _ rfl hW.1 _ Try.underlying81 rfl szWrt) ?_
      try simp only [Act.put, List.getElem_toArray, List.getElem_cons_succ, List.getElem_cons_zero, List.setIfInBounds_toArray, List.set_cons_succ, List.set_cons_zero]
      refine wpAnyC_take 6 (.pointer (some ⟨g, 0, none⟩)) rfl (by kernel_rfl) (by kernel_rfl) (by kernel_rfl) (fun _ _ _ h => h) (wanted_free rfl _) (fun W hW => by go_simp) ?_
      try simp only [Act.put, List.getElem_toArray, List.getElem_cons_succ, List.getElem_cons_zero, List.setIfInBounds_toArray, List.set_cons_succ, List.set_cons_zero]
      refine wpAnyC_one 7 (⟨hB9.out.drew, c16⟩) rfl (by kernel_rfl) (wanted_free rfl _) (fun KA hKA => ?_)
      refine wp_store_mid 81 _ _ rfl g 0 (r3).v rfl rfl (by have := bg.out.drew.there; rw [show r.v.size = (r3).v.size from rfl] at this; exact this) szWrt hmo2.out.2 ?_
      obtain ⟨y1, y2⟩ := S9.out.drew.over (z' := (r3).v) hwv1.out hmo2.out
      have hgr := grown_setCells g (r3).v.toList 0 w9.drew
      have yb : Bx (w9.drew.setCells g 0 (r3).v.toList) R (r3).v := hB9.out.drew.grown hgr (fun e => hgR.out.1 (Option.some.inj e))
      have yo : Od (s1.X S) (w9.drew.setCells g 0 (r3).v.toList) o2 (xs ++ ys) := (od9.out.below (below_drew _)).fr y2.fr (fun _ h => .inl h)
      have yq : Below base w (w9.drew.setCells g 0 (r3).v.toList) := (q9.out.trans ((below_drew w9).mono (Nat.le_trans hbw q9.out.size))).trans (y2.fr.below (Nat.le_trans hbw q9.out.size) (fun b hb => hbs.out b (.inl (X1.out b hb))))
      have yc : (w9.drew.setCells g 0 (r3).v.toList).cell? ⟨S, 16, none⟩ = some (.slice (some ⟨g, 0, none⟩) 1 wc) := by have := (y1.cell 16 (by omega)).1; simp only [Se.v, List.getElem?_toArray, List.getElem?_cons_succ, List.getElem?_cons_zero] at this; rw [show s1.wts = .slice (some ⟨g, 0, none⟩) 1 wc from hwv1.out] at this; exact this
      have hbg2 : some g ≠ some b := fun e => hbg.out (Option.some.inj e).symm
      have yx := hBb.out.drew.grown hgr hbg2
      refine hKA _ (w9.drew.setCells g 0 (r3).v.toList) ?_
      obtain ⟨wz, hwz⟩ : ∃ W, W = w9.drew.setCells g 0 (r3).v.toList := ⟨_, rfl⟩
      rw [← hwz] at y1 yb yo yq yc yx ⊢
      replace y1 := Kpt.mk y1
      replace yb := Kpt.mk yb
      replace yo := Kpt.mk yo
      replace yq := Kpt.mk yq
      replace yc := Kpt.mk yc
      clear hwz y2 hgr c16 bg
      clear hKA KA
      try simp only [Act.put, List.getElem_toArray, List.getElem_cons_succ, List.getElem_cons_zero, List.setIfInBounds_toArray, List.set_cons_succ, List.set_cons_zero]
      refine wpAnyC_done (⟨yb.out, yc.out⟩) (by kernel_rfl) ?_
      go_wp2
      try rw [Exit.noGoto_ret]
      refine bodyPost_ret (v := .tuple #[.slice (some ⟨b, 0, none⟩) 1 1, .slice none 0 0]) (by simp [results, Try.results21, asAddr, Act.put]) rfl ?_
      have hbs2 : ∀ x, s1.X S x ∨ r3.t.out.ownBlock = some x → base ≤ x := fun x hx => by
        rcases hx with hx | hx
        · exact hbs.out x (.inl (X1.out x hx))
        · rw [t3.out, ho2K.out] at hx; injection hx with hx; rw [← hx]; exact hg2.out.2.2.2
      exact ⟨_, _, rfl, yq.out, .inr (.inl ⟨hAK.out, hBK.out, rfl, o2, b, by rw [← hr2K.out, ← hr3K.out, ← hs1K.out]; exact ⟨y1.out, by rw [t3.out]; exact yo.out, ⟨ca, cn, cc, d3.out⟩, hbs2⟩, rfl, by rw [← hs1K.out]; exact yx⟩)⟩
    · have hBK : Kpt ((n : Int) < r.en) := ⟨by omega⟩
      have b1 : ((n : Int) == r.en) = false := by simp [hB]
      have b2 : decide ((n : Int) = r.en) = false := by simp [hB]
      clear hB
      rw [hflK.out hBK.out] at p1
      go_upto_region 15 with fail
      have c16 := (S7.out.cell 16 (by omega)).1
      simp only [Se.v, List.getElem?_toArray, List.getElem?_cons_succ, List.getElem?_cons_zero] at c16
      rw [show s.wts = .slice (some ⟨g, 0, none⟩) 1 wc from hwvK.out] at c16
      have bg := Kpt.mk (ownR_bx (show OwnR 81 11 w7 (.slice (some ⟨g, 0, none⟩) 1 wc) [r.v] from by have := S7.out.wts; rw [show s.wts = .slice (some ⟨g, 0, none⟩) 1 wc from hwvK.out] at this; exact this))
      refine wp_region_any (by kernel_rfl) ?_
      refine wpAny_of_C (C := fun W => Bx W R (r2).v ∧ W.cell? ⟨S, 16, none⟩ = some (.slice (some ⟨g, 0, none⟩) 1 wc)) _ _ _ _ ?_
      refine wpAnyC_take 0 (.pointer (some ⟨S, 0, none⟩)) rfl (by kernel_rfl) (by kernel_rfl) (by kernel_rfl) (fun _ _ _ h => h) (wanted_free rfl _) (fun W hW => by go_simp) ?_
      try simp only [Act.put, List.getElem_toArray, List.getElem_cons_succ, List.getElem_cons_zero, List.setIfInBounds_toArray, List.set_cons_succ, List.set_cons_zero]
      refine wpAnyC_take 1 (.pointer (some ⟨S, 0, none⟩)) rfl (by kernel_rfl) (by kernel_rfl) (by kernel_rfl) (fun _ _ _ h => h) (wanted_free rfl _) (fun W hW => by go_simp) ?_
      try simp only [Act.put, List.getElem_toArray, List.getElem_cons_succ, List.getElem_cons_zero, List.setIfInBounds_toArray, List.set_cons_succ, List.set_cons_zero]
      refine wpAnyC_take 2 (.pointer (some ⟨S, 16, none⟩)) rfl (by kernel_rfl) (by kernel_rfl) (by kernel_rfl) (fun _ _ _ h => h) (wanted_free rfl _) (fun W hW => by go_simp) ?_
      try simp only [Act.put, List.getElem_toArray, List.getElem_cons_succ, List.getElem_cons_zero, List.setIfInBounds_toArray, List.set_cons_succ, List.set_cons_zero]
      refine wpAnyC_take 3 (.slice (some ⟨g, 0, none⟩) 1 wc) rfl (by kernel_rfl) (by kernel_rfl) (by kernel_rfl) (fun _ _ _ h => h) (wanted_free rfl _) (fun W hW => by have c := hW.2; go_simp) ?_
      try simp only [Act.put, List.getElem_toArray, List.getElem_cons_succ, List.getElem_cons_zero, List.setIfInBounds_toArray, List.set_cons_succ, List.set_cons_zero]
      refine wpAnyC_take 4 (.int .i64 0) rfl (by kernel_rfl) (by kernel_rfl) (by kernel_rfl) (fun _ _ _ h => h) (wanted_free rfl _) (fun W hW => by go_simp) ?_
      try simp only [Act.put, List.getElem_toArray, List.getElem_cons_succ, List.getElem_cons_zero, List.setIfInBounds_toArray, List.set_cons_succ, List.set_cons_zero]
      refine wpAnyC_take 5 (.agg (r2).v) rfl (by kernel_rfl) (by kernel_rfl) (by kernel_rfl) (fun _ _ _ h => h) (wanted_free rfl _) (fun W hW => exec_load_bx 81 (.tmp 7) rfl R _ rfl hW.1 _ Try.underlying81 rfl szWrt) ?_
      try simp only [Act.put, List.getElem_toArray, List.getElem_cons_succ, List.getElem_cons_zero, List.setIfInBounds_toArray, List.set_cons_succ, List.set_cons_zero]
      refine wpAnyC_take 6 (.pointer (some ⟨g, 0, none⟩)) rfl (by kernel_rfl) (by kernel_rfl) (by kernel_rfl) (fun _ _ _ h => h) (wanted_free rfl _) (fun W hW => by go_simp) ?_
      try simp only [Act.put, List.getElem_toArray, List.getElem_cons_succ, List.getElem_cons_zero, List.setIfInBounds_toArray, List.set_cons_succ, List.set_cons_zero]
      refine wpAnyC_one 7 (⟨b7R.out.drew, c16⟩) rfl (by kernel_rfl) (wanted_free rfl _) (fun KA hKA => ?_)
      refine wp_store_mid 81 _ _ rfl g 0 (r2).v rfl rfl (by have := bg.out.drew.there; rw [show r.v.size = (r2).v.size from rfl] at this; exact this) szWrt hmo.out.2 ?_
      obtain ⟨y1, y2⟩ := S7.out.drew.over (z' := (r2).v) hwvK.out hmo.out
      have hgr := grown_setCells g (r2).v.toList 0 w7.drew
      have yb : Bx (w7.drew.setCells g 0 (r2).v.toList) R (r2).v := b7R.out.drew.grown hgr (fun e => hgR.out.1 (Option.some.inj e))
      have yo : Od (s.X S) (w7.drew.setCells g 0 (r2).v.toList) o2 (xs ++ ys) := (od7.out.below (below_drew _)).fr y2.fr (fun _ h => .inl h)
      have yq : Below base w (w7.drew.setCells g 0 (r2).v.toList) := (q7.out.trans ((below_drew w7).mono (Nat.le_trans hbw q7.out.size))).trans (y2.fr.below (Nat.le_trans hbw q7.out.size) (fun b hb => hbs.out b (.inl (id hb))))
      have yc : (w7.drew.setCells g 0 (r2).v.toList).cell? ⟨S, 16, none⟩ = some (.slice (some ⟨g, 0, none⟩) 1 wc) := by have := (y1.cell 16 (by omega)).1; simp only [Se.v, List.getElem?_toArray, List.getElem?_cons_succ, List.getElem?_cons_zero] at this; rw [show s.wts = .slice (some ⟨g, 0, none⟩) 1 wc from hwvK.out] at this; exact this
      refine hKA _ (w7.drew.setCells g 0 (r2).v.toList) ?_
      obtain ⟨wz, hwz⟩ : ∃ W, W = w7.drew.setCells g 0 (r2).v.toList := ⟨_, rfl⟩
      rw [← hwz] at y1 yb yo yq yc ⊢
      replace y1 := Kpt.mk y1
      replace yb := Kpt.mk yb
      replace yo := Kpt.mk yo
      replace yq := Kpt.mk yq
      replace yc := Kpt.mk yc
      clear hwz y2 hgr c16 bg
      clear hKA KA
      try simp only [Act.put, List.getElem_toArray, List.getElem_cons_succ, List.getElem_cons_zero, List.setIfInBounds_toArray, List.set_cons_succ, List.set_cons_zero]
      refine wpAnyC_done (⟨yb.out, yc.out⟩) (by kernel_rfl) ?_
      go_wp2
      try rw [Exit.noGoto_ret]
      refine bodyPost_ret (v := .tuple #[.slice none 0 0, .slice none 0 0]) (by simp [results, Try.results21, asAddr, Act.put]) rfl ?_
      have hbs2 : ∀ x, s.X S x ∨ r2.t.out.ownBlock = some x → base ≤ x := fun x hx => by
        rcases hx with hx | hx
        · exact hbs.out x (.inl (id hx))
        · rw [t2.out, ho2K.out] at hx; injection hx with hx; rw [← hx]; exact hg2.out.2.2.2
      exact ⟨_, _, rfl, yq.out, .inr (.inr ⟨hBK.out, rfl, rfl, o2, by rw [← hr2K.out]; exact ⟨y1.out, by rw [t2.out]; exact yo.out, ⟨ca, cn, cc, d2.out⟩, hbs2⟩⟩)⟩
end Go.Proofs.Ytdplndlmdhpfaaa
