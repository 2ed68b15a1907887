/-
  The contracts of lay, asked, head.
-/
import Derived.Test.YtdojhgapdocngaaMLay
import Derived.Maps.AppendAt
namespace Go.Proofs.Ytdojhgapdocngaa
open Go.RowKit
set_option linter.unusedVariables false
set_option linter.unusedSimpArgs false

theorem wanted_free {o : Oper} (h : o.guard = none) (y : Nat → Option Bool) : Region.wanted o y = true := by unfold Region.wanted; rw [h]

def askV (ct : Int) (n s : Vs) : Vs := if ct = 1 then allV else if ct = 2 then dflt else if ct = 3 then s else n
def layB (pg : Int) (v : Vs) : List Int := if pg = 8 then cachL v else if pg = 10 then ctlL v else cachL v ++ ctlL v
def isPg (pg : Int) : Prop := pg = 8 ∨ pg = 10 ∨ pg = 63
def devB (c : Bool) : Int := if c then 144 else 16
def headL (lg : Bool) (k : Int) (c : Bool) : List Int := if lg then [0, 6 + k, 0, devB c, 0, 0, 0, 0] else [3 + k, 0, devB c, 0]

theorem lay_no (pg : Int) (v : Vs) (w : World) (h : ¬ isPg pg) : Calls Try.prog 21 #[.int .u8 pg, .agg v.vals] w fun e w' => e = .returned (.slice none 0 0) ∧ Below w.heap.size w w' := by
  obtain ⟨a, b, c⟩ := v
  have h1 : ¬ pg = 8 := fun e => h (.inl e)
  have h2 : ¬ pg = 10 := fun e => h (.inr (.inl e))
  have h3 : ¬ pg = 63 := fun e => h (.inr (.inr e))
  clear h
  simp only [Vs.vals]
  go_enter Try.func21, Try.ntmps21
  go_wp2
  go_ret
  exact ⟨rfl, (Below.refl _ _).alloc (Nat.le_refl _) _⟩

theorem lay_8 (v : Vs) (w : World) : Calls Try.prog 21 #[.int .u8 8, .agg v.vals] w fun e w' => ∃ g c, e = .returned (.slice (some ⟨g, 0, none⟩) 20 c) ∧ w.heap.size ≤ g ∧ w'.ownsRow w.heap.size 5 1 (.slice (some ⟨g, 0, none⟩) 20 c) 20 (cels (cachL v)) ∧ Below w.heap.size w w' := by
  have H := Kpt.mk (cach_any v)
  obtain ⟨a, b, c⟩ := v
  simp only [Vs.vals] at H ⊢
  go_enter Try.func21, Try.ntmps21
  go_wp2_with (go_at_call 27; refine (H.out _).mono ?_; rintro e w1 ⟨g, rfl, hg, ho, hb⟩; replace ho := Kpt.mk ho; replace hb := Kpt.mk hb; replace hg := Kpt.mk hg)
  go_ret
  have e : (w.alloc (.cells #[.bool a, .bool b, .bool c] 23)).heap.size = w.heap.size + 1 := by simp
  have ho := ho.out
  have hb := hb.out
  have hg := hg.out
  rw [e] at ho hb hg
  exact ⟨g, 20, rfl, by omega, own_base ho (Nat.le_succ _), ((Below.refl _ _).alloc (Nat.le_refl _) _).trans (hb.mono (Nat.le_succ _))⟩

theorem lay_10 (v : Vs) (w : World) : Calls Try.prog 21 #[.int .u8 10, .agg v.vals] w fun e w' => ∃ g c, e = .returned (.slice (some ⟨g, 0, none⟩) 12 c) ∧ w.heap.size ≤ g ∧ w'.ownsRow w.heap.size 5 1 (.slice (some ⟨g, 0, none⟩) 12 c) 12 (cels (ctlL v)) ∧ Below w.heap.size w w' := by
  have H := Kpt.mk (ctl_any v)
  obtain ⟨a, b, c⟩ := v
  simp only [Vs.vals] at H ⊢
  go_enter Try.func21, Try.ntmps21
  go_wp2_with (go_at_call 28; refine (H.out _).mono ?_; rintro e w1 ⟨g, rfl, hg, ho, hb⟩; replace ho := Kpt.mk ho; replace hb := Kpt.mk hb; replace hg := Kpt.mk hg)
  go_ret
  have e : (w.alloc (.cells #[.bool a, .bool b, .bool c] 23)).heap.size = w.heap.size + 1 := by simp
  have ho := ho.out
  have hb := hb.out
  have hg := hg.out
  rw [e] at ho hb hg
  exact ⟨g, 12, rfl, by omega, own_base ho (Nat.le_succ _), ((Below.refl _ _).alloc (Nat.le_refl _) _).trans (hb.mono (Nat.le_succ _))⟩

theorem wp_append_new {w : World} {o : Oper} {a : Act} {K : Act → World → Prop} {Q : Exit → Act → World → Prop} (hgd : o.guard = none) (d s : Operand)
    (ho : o.op = .call { callee := .builtin .append, args := #[d, s], argTypes := #[37, 37] })
    (base : Nat) (v sv : Value) (zs ds : List Int) (m n : Nat) (hd : a.eval d = v) (hs : a.eval s = sv) (hown : w.ownsRow base 5 1 v m (cels zs)) (hrd : RdAt w sv ds) (hpos : 0 < ds.length) (hm : zs.length = m) (hn : m + ds.length = n) (hlen : n ≤ 140737488355328) (hb : base ≤ w.heap.size)
    (h : ∀ g cap w', Kpt (w'.ownsRow base 5 1 (.slice (some ⟨g, 0, none⟩) n cap) n (cels (zs ++ ds))) → Kpt (base ≤ g ∧ g < w'.heap.size) → Kpt (w.grownBy w' v.ownBlock) →
      K (a.put o.dst (.slice (some ⟨g, 0, none⟩) n cap)) w') : o.wp Try.prog a w K Q := by
  subst hm hn
  obtain ⟨i0, hi0, hz0, hz1, hz2⟩ := info_parts Try.info5
  obtain ⟨sa, sc, rfl, hsn, hsl, hsr⟩ := hrd
  rcases hsr with h1 | ⟨b, soff, rfl, hc⟩
  · omega
  obtain ⟨v', w', hr, h2, h3, h4, h5⟩ := run_append_own_at (P := Try.prog) w base 37 o.type 5 i0 (.int .u8 0) 1 1 Try.underlying37 hi0 hz0 hz1 hz2 rfl (by decide) v zs.length (cels zs) hown ⟨b, soff, none⟩ ds.length sc (cels ds) (by simp) (fun j u hu => by rw [Go.WideShapes.add_plain]; exact hc j u hu) (cels_one _) (by unfold maxLen; omega) (by omega) hb
  obtain ⟨g, cap, rfl, hg, hlt⟩ := own_shape h2 (by omega)
  unfold Oper.wp execOp
  simp only [ho, resolve, invoke, builtin, Sem.run_bind, Sem.run_pure, Result.andThen_ok, List.map_toArray, List.map_cons, List.map_nil, hd, hs, hr]
  exact h g cap w' ⟨by rw [cels_append]; exact h2⟩ ⟨hg, hlt⟩ ⟨h3⟩

theorem below_undrew {n : Nat} {a b : World} (h : Below n a.drew b) : Below n a b := ⟨h.os, h.tape, h.output, h.size, h.block⟩

set_option maxRecDepth 100000 in
set_option maxHeartbeats 2000000 in
theorem lay_63 (v : Vs) (w : World) : Calls Try.prog 21 #[.int .u8 63, .agg v.vals] w fun e w' => ∃ g c, e = .returned (.slice (some ⟨g, 0, none⟩) 32 c) ∧ w.heap.size ≤ g ∧ w'.ownsRow w.heap.size 5 1 (.slice (some ⟨g, 0, none⟩) 32 c) 32 (cels (cachL v ++ ctlL v)) ∧ Below w.heap.size w w' := by
  have H1 := Kpt.mk (cach_any v)
  have H2 := Kpt.mk (ctl_any v)
  obtain ⟨vv, hvv⟩ : ∃ vv, vv = v := ⟨_, rfl⟩
  obtain ⟨a, b, c⟩ := v
  rw [← hvv] at H1 H2 ⊢
  rw [show vv.vals = #[.bool a, .bool b, .bool c] from by rw [hvv]; rfl] at H1 H2 ⊢
  clear hvv
  go_enter Try.func21, Try.ntmps21
  go_wp2_with fail
  obtain ⟨w1, hw1⟩ : ∃ w1, w1 = w.alloc (.cells #[.bool a, .bool b, .bool c] 23) := ⟨_, rfl⟩
  have hs1 : w1.heap.size = w.heap.size + 1 := by rw [hw1]; simp
  have hb1 : Kpt (Below w.heap.size w w1) := ⟨by rw [hw1]; exact (Below.refl _ _).alloc (Nat.le_refl _) _⟩
  have z0 : w1.cell? ⟨w.heap.size, 0, none⟩ = some (.bool a) := by rw [hw1]; simp
  have z1 : w1.cell? ⟨w.heap.size, 1, none⟩ = some (.bool b) := by rw [hw1]; simp
  have z2 : w1.cell? ⟨w.heap.size, 2, none⟩ = some (.bool c) := by rw [hw1]; simp
  rw [← hw1]
  clear hw1
  refine wp_region_any (by kernel_rfl) ?_
  refine wpAny_of_C (C := fun W => W.cell? ⟨w.heap.size, 0, none⟩ = some (.bool a) ∧ W.cell? ⟨w.heap.size, 1, none⟩ = some (.bool b) ∧ W.cell? ⟨w.heap.size, 2, none⟩ = some (.bool c)) _ _ _ _ ?_
  refine wpAnyC_take 0 (.agg #[.bool a, .bool b, .bool c]) rfl (by kernel_rfl) (by kernel_rfl) (by kernel_rfl) (fun _ _ _ h => h) (wanted_free rfl _) (fun W hW => by obtain ⟨y0, y1, y2⟩ := hW; go_simp) ?_
  simp only [Act.put, List.getElem_toArray, List.getElem_cons_succ, List.getElem_cons_zero, List.setIfInBounds_toArray, List.set_cons_succ, List.set_cons_zero]
  refine wpAnyC_take 2 (.agg #[.bool a, .bool b, .bool c]) rfl (by kernel_rfl) (by kernel_rfl) (by kernel_rfl) (fun _ _ _ h => h) (wanted_free rfl _) (fun W hW => by obtain ⟨y0, y1, y2⟩ := hW; go_simp) ?_
  simp only [Act.put, List.getElem_toArray, List.getElem_cons_succ, List.getElem_cons_zero, List.setIfInBounds_toArray, List.set_cons_succ, List.set_cons_zero]
  refine wpAnyC_one 1 ⟨z0, z1, z2⟩ rfl (by kernel_rfl) (wanted_free rfl _) (fun KA hKA => ?_)
  go_simp
  refine (H1.out _).mono ?_
  rintro e w2 ⟨g, rfl, hg, ho, hb⟩
  have hbx : Below w1.heap.size w1 w2 := below_undrew hb
  have ho2 : w2.ownsRow w1.heap.size 5 1 (.slice (some ⟨g, 0, none⟩) 20 20) 20 (cels (cachL vv)) := ho
  have hl : w.heap.size < w1.heap.size := by omega
  have y0 := (hbx.cell (p := ⟨w.heap.size, 0, none⟩) hl).trans z0
  have y1 := (hbx.cell (p := ⟨w.heap.size, 1, none⟩) hl).trans z1
  have y2 := (hbx.cell (p := ⟨w.heap.size, 2, none⟩) hl).trans z2
  have hg1 : w1.heap.size ≤ g := hg
  refine hKA _ _ ?_
  clear hKA KA hb ho hg
  try simp only [Act.put, List.getElem_toArray, List.getElem_cons_succ, List.getElem_cons_zero, List.setIfInBounds_toArray, List.set_cons_succ, List.set_cons_zero]
  refine wpAnyC_one 3 ⟨y0, y1, y2⟩ rfl (by kernel_rfl) (wanted_free rfl _) (fun KA hKA => ?_)
  go_simp
  refine (H2.out _).mono ?_
  rintro e w3 ⟨g3, rfl, hg3, ho3, hb3⟩
  have hgl := (World.ownsRow.lt ho2 g rfl).2
  have q0 := (hb3.cell (p := ⟨w.heap.size, 0, none⟩) (Nat.lt_of_lt_of_le hl hbx.size)).trans y0
  have q1 := (hb3.cell (p := ⟨w.heap.size, 1, none⟩) (Nat.lt_of_lt_of_le hl hbx.size)).trans y1
  have q2 := (hb3.cell (p := ⟨w.heap.size, 2, none⟩) (Nat.lt_of_lt_of_le hl hbx.size)).trans y2
  have ho4 : w3.ownsRow w1.heap.size 5 1 (.slice (some ⟨g, 0, none⟩) 20 20) 20 (cels (cachL vv)) := own_of_block ho2 (fun k hk => by cases hk; exact hb3.block _ hgl)
  refine hKA _ _ ?_
  clear hKA KA
  try simp only [Act.put, List.getElem_toArray, List.getElem_cons_succ, List.getElem_cons_zero, List.setIfInBounds_toArray, List.set_cons_succ, List.set_cons_zero]
  refine wpAnyC_one 4 ⟨q0, q1, q2⟩ rfl (by kernel_rfl) (wanted_free rfl _) (fun KA hKA => ?_)
  refine wp_append_new rfl (.tmp 17) (.tmp 19) rfl w1.heap.size _ _ (cachL vv) (ctlL vv) 20 32 rfl rfl ho4 (own_rd ho3) (show 0 < 12 by decide) rfl rfl (by decide) (Nat.le_trans hbx.size hb3.size) ?_
  intro g5 cap w4 ho5 hl5 hg5
  have p0 := (far_cell hg5.out ⟨w.heap.size, 0, none⟩ (by have := hbx.size; have := hb3.size; simp; omega) (fun e => by have e' : g = w.heap.size := Option.some.inj e; omega)).trans q0
  have p1 := (far_cell hg5.out ⟨w.heap.size, 1, none⟩ (by have := hbx.size; have := hb3.size; simp; omega) (fun e => by have e' : g = w.heap.size := Option.some.inj e; omega)).trans q1
  have p2 := (far_cell hg5.out ⟨w.heap.size, 2, none⟩ (by have := hbx.size; have := hb3.size; simp; omega) (fun e => by have e' : g = w.heap.size := Option.some.inj e; omega)).trans q2
  refine hKA _ _ ?_
  clear hKA KA
  try simp only [Act.put, List.getElem_toArray, List.getElem_cons_succ, List.getElem_cons_zero, List.setIfInBounds_toArray, List.set_cons_succ, List.set_cons_zero]
  refine wpAnyC_take 5 (.slice (some ⟨g5, 0, none⟩) 32 cap) rfl (by kernel_rfl) (by kernel_rfl) (by kernel_rfl) (fun _ _ _ h => h) (wanted_free rfl _) (fun W hW => by go_simp) ?_
  simp only [Act.put, List.getElem_toArray, List.getElem_cons_succ, List.getElem_cons_zero, List.setIfInBounds_toArray, List.set_cons_succ, List.set_cons_zero]
  refine wpAnyC_done ⟨p0, p1, p2⟩ (by kernel_rfl) ?_
  have hbf : Kpt (Below w.heap.size w w4) := ⟨((hb1.out.trans (hbx.mono (by omega))).trans (hb3.mono (by have := hbx.size; omega))).grown hg5.out (by have := hbx.size; have := hb3.size; omega) (fun k hk => by cases hk; show w.heap.size ≤ g; omega)⟩
  have hl5' := hl5.out
  clear y0 y1 y2 q0 q1 q2 p0 p1 p2 z0 z1 z2 ho2 ho3 ho4 hbx hb3 hg5 hl5
  go_wp2
  go_ret
  exact ⟨g5, cap, rfl, by omega, own_base ho5.out (by omega), hbf.out⟩

theorem isPg_len {pg : Int} {v : Vs} (h : isPg pg) : (layB pg v).length = if pg = 8 then 20 else if pg = 10 then 12 else 32 := by
  rcases h with rfl | rfl | rfl <;> rfl

theorem lay_some (pg : Int) (v : Vs) (w : World) (h : isPg pg) : Calls Try.prog 21 #[.int .u8 pg, .agg v.vals] w fun e w' => ∃ g c, e = .returned (.slice (some ⟨g, 0, none⟩) (layB pg v).length c) ∧ w.heap.size ≤ g ∧ w'.ownsRow w.heap.size 5 1 (.slice (some ⟨g, 0, none⟩) (layB pg v).length c) (layB pg v).length (cels (layB pg v)) ∧ Below w.heap.size w w' := by
  rcases h with rfl | rfl | rfl
  · exact lay_8 v w
  · exact lay_10 v w
  · exact lay_63 v w

set_option maxHeartbeats 1000000 in
theorem asked_any (B : Nat) (n s : Vs) (ct : Int) (w : World) (h : Pg w B n s) : Calls Try.prog 22 #[.pointer (some ⟨B, 0, none⟩), .int .u8 ct] w fun e w' => e = .returned (.agg (askV ct n s).vals) ∧ Below w.heap.size w w' := by
  have hP := Kpt.mk h
  have hsz : ∀ o, (w.alloc o).heap.size = w.heap.size + 1 := by intro o; simp
  have hba : ∀ o, Below w.heap.size w (w.alloc o) := fun o => (Below.refl _ _).alloc (Nat.le_refl _) _
  have hlt := h.lt
  clear h
  by_cases h1 : ct = 1
  · have H := Kpt.mk every_any; simp only [allV, Vs.vals] at H; subst h1
    go_enter Try.func22, Try.ntmps22
    go_wp2_with (go_at_call 29; refine (H.out _).mono ?_; rintro e w1 ⟨rfl, hb⟩; have hsb := hb.size; have z0 := (hb.cell (p := ⟨w.heap.size, 0, none⟩) (by simp)); have z1 := (hb.cell (p := ⟨w.heap.size, 1, none⟩) (by simp)); have z2 := (hb.cell (p := ⟨w.heap.size, 2, none⟩) (by simp)); have f0 := (hb.frozen (p := ⟨w.heap.size, 0, none⟩) (by simp)); have f1 := (hb.frozen (p := ⟨w.heap.size, 1, none⟩) (by simp)); have f2 := (hb.frozen (p := ⟨w.heap.size, 2, none⟩) (by simp)); simp at z0 z1 z2 f0 f1 f2 hsb; replace hb := Kpt.mk hb)
    refine bodyPost_ret (v := .agg #[.bool true, .bool true, .bool true]) (by simp [results, Try.results22, go_sem, z0, z1, z2, f0, f1, f2]) rfl ⟨by simp [askV, Vs.vals, allV, dflt], ?_⟩
    exact ((((hba _).trans (hb.out.mono (by simp))).setCell (p := ⟨w.heap.size, 0, none⟩) (Nat.le_refl _) _).setCell (p := ⟨w.heap.size, 1, none⟩) (Nat.le_refl _) _).setCell (p := ⟨w.heap.size, 2, none⟩) (Nat.le_refl _) _
  by_cases h2 : ct = 2
  · have H := Kpt.mk default_any; simp only [dflt, Vs.vals] at H; subst h2
    go_enter Try.func22, Try.ntmps22
    go_wp2_with (go_at_call 9; refine (H.out _).mono ?_; rintro e w1 ⟨rfl, hb⟩; have hsb := hb.size; have z0 := (hb.cell (p := ⟨w.heap.size, 0, none⟩) (by simp)); have z1 := (hb.cell (p := ⟨w.heap.size, 1, none⟩) (by simp)); have z2 := (hb.cell (p := ⟨w.heap.size, 2, none⟩) (by simp)); have f0 := (hb.frozen (p := ⟨w.heap.size, 0, none⟩) (by simp)); have f1 := (hb.frozen (p := ⟨w.heap.size, 1, none⟩) (by simp)); have f2 := (hb.frozen (p := ⟨w.heap.size, 2, none⟩) (by simp)); simp at z0 z1 z2 f0 f1 f2 hsb; replace hb := Kpt.mk hb)
    refine bodyPost_ret (v := .agg #[.bool true, .bool false, .bool false]) (by simp [results, Try.results22, go_sem, z0, z1, z2, f0, f1, f2]) rfl ⟨by simp [askV, Vs.vals, allV, dflt], ?_⟩
    exact ((((hba _).trans (hb.out.mono (by simp))).setCell (p := ⟨w.heap.size, 0, none⟩) (Nat.le_refl _) _).setCell (p := ⟨w.heap.size, 1, none⟩) (Nat.le_refl _) _).setCell (p := ⟨w.heap.size, 2, none⟩) (Nat.le_refl _) _
  obtain ⟨n0, n1, n2⟩ := n
  obtain ⟨s0, s1, s2⟩ := s
  by_cases h3 : ct = 3
  · have H := Kpt.mk (saved_any B ⟨n0, n1, n2⟩ ⟨s0, s1, s2⟩); simp only [Vs.vals] at H; subst h3
    go_enter Try.func22, Try.ntmps22
    go_wp2_with (go_at_call 17; refine (H.out _ (hP.out.below (hba _) hlt)).mono ?_; rintro e w1 ⟨rfl, hb⟩; have hsb := hb.size; have z0 := (hb.cell (p := ⟨w.heap.size, 0, none⟩) (by simp)); have z1 := (hb.cell (p := ⟨w.heap.size, 1, none⟩) (by simp)); have z2 := (hb.cell (p := ⟨w.heap.size, 2, none⟩) (by simp)); have f0 := (hb.frozen (p := ⟨w.heap.size, 0, none⟩) (by simp)); have f1 := (hb.frozen (p := ⟨w.heap.size, 1, none⟩) (by simp)); have f2 := (hb.frozen (p := ⟨w.heap.size, 2, none⟩) (by simp)); simp at z0 z1 z2 f0 f1 f2 hsb; replace hb := Kpt.mk hb)
    refine bodyPost_ret (v := .agg #[.bool s0, .bool s1, .bool s2]) (by simp [results, Try.results22, go_sem, z0, z1, z2, f0, f1, f2]) rfl ⟨by simp [askV, Vs.vals, allV, dflt], ?_⟩
    exact ((((hba _).trans (hb.out.mono (by simp))).setCell (p := ⟨w.heap.size, 0, none⟩) (Nat.le_refl _) _).setCell (p := ⟨w.heap.size, 1, none⟩) (Nat.le_refl _) _).setCell (p := ⟨w.heap.size, 2, none⟩) (Nat.le_refl _) _
  · have H := Kpt.mk (now_any B ⟨n0, n1, n2⟩ ⟨s0, s1, s2⟩); simp only [Vs.vals] at H
    go_enter Try.func22, Try.ntmps22
    go_wp2_with (go_at_call 16; refine (H.out _ (hP.out.below (hba _) hlt)).mono ?_; rintro e w1 ⟨rfl, hb⟩; have hsb := hb.size; have z0 := (hb.cell (p := ⟨w.heap.size, 0, none⟩) (by simp)); have z1 := (hb.cell (p := ⟨w.heap.size, 1, none⟩) (by simp)); have z2 := (hb.cell (p := ⟨w.heap.size, 2, none⟩) (by simp)); have f0 := (hb.frozen (p := ⟨w.heap.size, 0, none⟩) (by simp)); have f1 := (hb.frozen (p := ⟨w.heap.size, 1, none⟩) (by simp)); have f2 := (hb.frozen (p := ⟨w.heap.size, 2, none⟩) (by simp)); simp at z0 z1 z2 f0 f1 f2 hsb; replace hb := Kpt.mk hb)
    refine bodyPost_ret (v := .agg #[.bool n0, .bool n1, .bool n2]) (by simp [results, Try.results22, go_sem, z0, z1, z2, f0, f1, f2]) rfl ⟨by simp [askV, h1, h2, h3, Vs.vals, allV, dflt], ?_⟩
    exact ((((hba _).trans (hb.out.mono (by simp))).setCell (p := ⟨w.heap.size, 0, none⟩) (Nat.le_refl _) _).setCell (p := ⟨w.heap.size, 1, none⟩) (Nat.le_refl _) _).setCell (p := ⟨w.heap.size, 2, none⟩) (Nat.le_refl _) _

set_option maxHeartbeats 1000000 in
theorem head_any (lg : Bool) (k : Nat) (v : Vs) (w : World) (hk : k ≤ 100) : Calls Try.prog 23 #[.bool lg, .int .i64 k, .agg v.vals] w fun e w' => ∃ g c, e = .returned (.slice (some ⟨g, 0, none⟩) (headL lg k v.c).length c) ∧ w.heap.size ≤ g ∧ w'.ownsRow w.heap.size 5 1 (.slice (some ⟨g, 0, none⟩) (headL lg k v.c).length c) (headL lg k v.c).length (cels (headL lg k v.c)) ∧ Below w.heap.size w w' := by
  obtain ⟨a, b, c⟩ := v
  have e6 : IntKind.u8.wrap (6 + (k : Int)) = 6 + k := by rw [IntKind.wrap_u8]; omega
  have e3 : IntKind.u8.wrap (3 + (k : Int)) = 3 + k := by rw [IntKind.wrap_u8]; omega
  simp only [Vs.vals]
  have h144 : Go.bits BinOp.or IntKind.u8 16 128 = 144 := by decide
  have hba : ∀ o o', Below w.heap.size w ((w.alloc o).alloc o') := fun o o' => ((Below.refl _ _).alloc (Nat.le_refl _) _).alloc (by simp) _
  cases lg <;> cases c
  · go_enter Try.func23, Try.ntmps23
    go_wp2
    go_ret
    exact ⟨w.heap.size + 1, 4, rfl, Nat.le_succ _, own_alloc (w.alloc _) (w.heap.size + 1) 4 w.heap.size (headL false k false) (by simp) rfl (by decide) (Nat.le_succ _), hba _ _⟩
  · go_enter Try.func23, Try.ntmps23
    go_wp2
    go_ret
    exact ⟨w.heap.size + 1, 4, rfl, Nat.le_succ _, own_alloc (w.alloc _) (w.heap.size + 1) 4 w.heap.size (headL false k true) (by simp) rfl (by decide) (Nat.le_succ _), hba _ _⟩
  · go_enter Try.func23, Try.ntmps23
    go_wp2
    go_ret
    exact ⟨w.heap.size + 1, 8, rfl, Nat.le_succ _, own_alloc (w.alloc _) (w.heap.size + 1) 8 w.heap.size (headL true k false) (by simp) rfl (by decide) (Nat.le_succ _), hba _ _⟩
  · go_enter Try.func23, Try.ntmps23
    go_wp2
    go_ret
    exact ⟨w.heap.size + 1, 8, rfl, Nat.le_succ _, own_alloc (w.alloc _) (w.heap.size + 1) 8 w.heap.size (headL true k true) (by simp) rfl (by decide) (Nat.le_succ _), hba _ _⟩
end Go.Proofs.Ytdojhgapdocngaa
