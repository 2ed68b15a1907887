/-
  sess: the head of a PDU: its size, its first two bytes.
-/
import Derived.Test.YtdplndlmdhpfaabEAwk
import Derived.Test.YtdplndlmdhpfaabBPutS
namespace Go.Proofs.Ytdplndlmdhpfaab
open Go.RowKit
set_option linter.unusedVariables false
set_option linter.unusedSimpArgs false

theorem wpList_copy_at {w : World} {ops : Array Oper} {rest : List Oper} {o : Oper} {a : Act} {Q : Exit → Act → World → Prop} (hgd : o.guard = none) (d s : Operand)
    (ho : o.op = .call { callee := .builtin .copy, args := #[d, s], argTypes := #[30, 30] })
    (base g off n dLen dCap : Nat) (zs ds : List Int) (sv : Value) (hd : a.eval d = .slice (some ⟨g, off, none⟩) dLen dCap) (hs : a.eval s = sv)
    (hown : w.ownsRow base 5 1 (.slice (some ⟨g, 0, none⟩) n n) n (cels zs)) (hrd : RdAt w sv ds) (hdl : ds.length ≤ dLen) (hfit : off + ds.length ≤ n) (h0 : 0 < ds.length)
    (h : ∀ w', w'.ownsRow base 5 1 (.slice (some ⟨g, 0, none⟩) n n) n (cels (over zs off ds)) → w.grownBy w' (some g) → wpList Try.prog ops Q rest (a.put o.dst (goInt ds.length)) w') : wpList Try.prog ops Q (o :: rest) a w :=
  wpList_plain hgd fun K hK => wp_copy_at d s ho base g off n dLen dCap zs ds sv hd hs hown hrd hdl hfit h0 (fun w' h1 h2 => hK _ _ (h w' h1 h2))

set_option maxHeartbeats 1000000 in
theorem number_w (x : Int) (n : Nat) (w : World) (hn1 : 1 ≤ n) (hn2 : n ≤ 8) (hx : 0 ≤ x) (hx2 : x < 2 ^ (8 * n)) :
    Calls Try.prog 83 #[.int .u64 x, .int .i64 n] w fun e w' => ∃ g zs, e = .returned (.slice (some ⟨g, 0, none⟩) n n) ∧
      w'.ownsRow w.heap.size 5 1 (.slice (some ⟨g, 0, none⟩) n n) n (cels zs) ∧ Below w.heap.size w w' ∧ w.heap.size ≤ g := by
  obtain ⟨i0, hi0, hz0, hz1, hz2⟩ := info_parts Try.info5
  have hnm : n ≤ maxLen := by unfold maxLen; omega
  have hP : Kpt (∀ W : World, W.ownsRow w.heap.size 5 1 (.slice (some ⟨w.heap.size, 0, none⟩) n n) n (cels (List.replicate n 0)) → Calls Try.prog 89 #[.slice (some ⟨w.heap.size, 0, none⟩) n n, .int .i64 0, .int .i64 n, .int .u64 x] W fun e w' => ∃ g, e = .returned (.tuple #[.slice (some ⟨g, 0, none⟩) n n, .int .i64 0]) ∧ w'.ownsRow W.heap.size 5 1 (.slice (some ⟨g, 0, none⟩) n n) n (cels (B.asc (List.replicate n 0) 0 n x n)) ∧ Below W.heap.size W w') := ⟨fun W h => B.put_ok w.heap.size 0 n n 0 n x (List.replicate n 0) W (by simp) (by omega) hn1 hn2 (by omega) hx (by simp; rw [Int.ediv_eq_zero_of_lt hx hx2]) (fun j hj => by rw [Nat.zero_add]; exact own_facts h j hj)⟩
  clear hx hx2
  go_enter Try.func83, Try.ntmps83
  go_wp2_with (first
    | (go_at_call 89; go_must (have hm := m1; refine (hP.out _ hown1.out).mono ?_; rintro e w2 ⟨g, rfl, ho2, hb2⟩; replace ho2 := Kpt.mk ho2; replace hb2 := Kpt.mk hb2))
    | (at_make; go_must (refine wpList_make_full _ rfl _ _ 30 rfl w.heap.size 5 i0 (.int .u8 0) 1 Try.underlying30 hi0 hz0 hz1 .i64 .i64 _ _ n rfl rfl rfl rfl (by rw [hz2]; omega) hnm (Nat.le_refl _) ?_; intro w1 hown1 hgr1; have hb1 : Kpt (Below w.heap.size w w1) := ⟨(Below.refl _ _).grown hgr1 (Nat.le_refl _) (fun k h => by cases h)⟩; rw [made_u8] at hown1; replace hown1 := Kpt.mk hown1; clear hgr1; have m1 : Kpt True := ⟨trivial⟩)))
  go_ret
  exact ⟨g, _, rfl, own_base ho2.out hb1.out.size, hb1.out.trans (hb2.out.mono hb1.out.size), Nat.le_trans hb1.out.size (World.ownsRow.lt ho2.out g rfl).1⟩

/-- A head that is being laid. -/
structure Hw (w W : World) (P g : Nat) (zs : List Int) (p : Pd) : Prop where
  own : W.ownsRow w.heap.size 5 1 (.slice (some ⟨g, 0, none⟩) 48 48) 48 (cels zs)
  bel : Below w.heap.size w W
  bx : Bx W P p.v
  ne : P ≠ g
  new : w.heap.size ≤ P
  z0 : zs.getD 0 0 = p.op
  z1 : zs.getD 1 0 = p.fl
theorem Hw.len {w W : World} {P g : Nat} {zs : List Int} {p : Pd} (h : Hw w W P g zs p) : zs.length = 48 := by have := h.own.1; simpa using this
theorem Hw.lt {w W : World} {P g : Nat} {zs : List Int} {p : Pd} (h : Hw w W P g zs p) : w.heap.size ≤ g ∧ g < W.heap.size := World.ownsRow.lt h.own g rfl
theorem Hw.below {w W W' : World} {P g : Nat} {zs : List Int} {p : Pd} (h : Hw w W P g zs p) (hb : Below W.heap.size W W') : Hw w W' P g zs p :=
  ⟨own_of_block h.own (fun q hq => by simp [Value.ownBlock] at hq; subst hq; exact hb.block _ h.lt.2), h.bel.trans (hb.mono h.bel.size), h.bx.below hb h.bx.lt, h.ne, h.new, h.z0, h.z1⟩
theorem Hw.copy {w W W' : World} {P g off : Nat} {zs ds : List Int} {p : Pd} (h : Hw w W P g zs p) (ho : W'.ownsRow w.heap.size 5 1 (.slice (some ⟨g, 0, none⟩) 48 48) 48 (cels (over zs off ds))) (hg : W.grownBy W' (some g)) (h2 : 2 ≤ off) (hf : off + ds.length ≤ 48) : Hw w W' P g (over zs off ds) p := by
  have e : ∀ j, j < 2 → (over zs off ds).getD j 0 = zs.getD j 0 := fun j hj => by
    unfold over
    rw [List.getD_eq_getElem?_getD, List.getD_eq_getElem?_getD, List.getElem?_append_left (by rw [List.length_take, h.len]; omega), List.getElem?_take_of_lt (by omega)]
  exact ⟨ho, h.bel.grown hg h.bel.size (fun q e => by injection e with e; subst e; exact h.lt.1), h.bx.grown hg (fun e => h.ne (by injection e with e; exact e.symm)), h.ne, h.new, (e 0 (by omega)).trans h.z0, (e 1 (by omega)).trans h.z1⟩
theorem Hw.set {w W : World} {P g j : Nat} {zs : List Int} {p : Pd} (h : Hw w W P g zs p) (x : Int) (h2 : 2 ≤ j) : Hw w (W.setCell ⟨g, j, none⟩ (.int .u8 x)) P g (zs.set j x) p := by
  have hg := grown_setCellK W ⟨g, j, none⟩ (.int .u8 x)
  refine ⟨own_set h.own j x, h.bel.grown hg h.bel.size (fun q e => by injection e with e; subst e; exact h.lt.1), h.bx.grown hg (fun e => h.ne (by injection e with e; exact e.symm)), h.ne, h.new, ?_, ?_⟩
  · rw [← h.z0]; simp [List.getD_eq_getElem?_getD, List.getElem?_set_ne (show j ≠ 0 by omega)]
  · rw [← h.z1]; simp [List.getD_eq_getElem?_getD, List.getElem?_set_ne (show j ≠ 1 by omega)]
theorem own_len {w : World} {b n g c : Nat} {zs : List Int} (h : w.ownsRow b 5 1 (.slice (some ⟨g, 0, none⟩) n c) n (cels zs)) : zs.length = n := by have := h.1; simpa using this
theorem szW7 : (Try.prog.info? 40).map (·.size) = some 7 := by kernel_rfl
def Pd.all32 (p : Pd) : Prop := ∀ x ∈ [p.tg, p.w0, p.w1, p.w2, p.w3, p.w4, p.w5, p.w6], 0 ≤ x ∧ x < 4294967296

set_option maxRecDepth 100000 in
set_option maxHeartbeats 8000000 in
theorem phead_w (p : Pd) (w : World) (hda : p.da = .slice none 0 0) (hu : p.all32) :
    Calls Try.prog 72 #[.agg p.v] w fun e w' => ∃ g zs, e = .returned (.slice (some ⟨g, 0, none⟩) 48 48) ∧ w'.ownsRow w.heap.size 5 1 (.slice (some ⟨g, 0, none⟩) 48 48) 48 (cels zs) ∧ Below w.heap.size w w' ∧ zs.getD 0 0 = p.op ∧ zs.getD 1 0 = p.fl := by
  obtain ⟨i0, hi0, hz0, hz1, hz2⟩ := info_parts Try.info5
  have hN : Kpt (∀ (W : World) (x : Int) (n : Nat), (n = 3 ∧ x = 0) ∨ (n = 4 ∧ x ∈ [p.tg, p.w0, p.w1, p.w2, p.w3, p.w4, p.w5, p.w6]) → Calls Try.prog 83 #[.int .u64 x, .int .i64 n] W fun e w' => ∃ g zs, e = .returned (.slice (some ⟨g, 0, none⟩) n n) ∧ w'.ownsRow W.heap.size 5 1 (.slice (some ⟨g, 0, none⟩) n n) n (cels zs) ∧ Below W.heap.size W w' ∧ W.heap.size ≤ g) := ⟨fun W x n h => by
    rcases h with ⟨rfl, rfl⟩ | ⟨rfl, hx⟩
    · exact number_w 0 3 W (by omega) (by omega) (by omega) (by decide)
    · have := hu x hx
      exact number_w x 4 W (by omega) (by omega) this.1 (by have := this.2; simpa using this)⟩
  have hdaK := Kpt.mk hda
  have hu' := Kpt.mk hu
  clear hu hda
  go_enter Try.func72, Try.ntmps72
  go_upto_region 3 with (first
    | (at_make; go_must (refine wpList_make_full _ rfl _ _ 30 rfl w.heap.size 5 i0 (.int .u8 0) 1 Try.underlying30 hi0 hz0 hz1 .i64 .i64 _ _ 48 rfl rfl rfl rfl (by rw [hz2]; decide) (by decide) hb1.out.size ?_; intro w2 hown2 hgr2; rw [made_u8] at hown2; have hb2 : Below w1.heap.size w1 w2 := below_none hgr2; have hX2 := Kpt.mk (hB.out.below hb2 hB.out.lt); have c0 := hX2.out.cells 0 (by simp [Pd.v]); have c1 := hX2.out.cells 1 (by simp [Pd.v]); have c2 := hX2.out.cells 2 (by simp [Pd.v]); have c3 := hX2.out.cells 3 (by simp [Pd.v]); simp [Pd.v] at c0 c1 c2 c3; replace hown2 := Kpt.mk hown2; have hbw2 := Kpt.mk (hb1.out.trans (hb2.mono hb1.out.size)); clear hgr2 hb2))
    | (refine (?_ : wpList _ _ _ (Oper.mk (some 17) _ _ _ _ _ :: _) _ _); go_must (refine wpList_copy_at rfl (.tmp 7) (.tmp 16) rfl w.heap.size w1.heap.size 0 48 48 48 (List.replicate 48 0) [p.op, p.fl, p.rs, p.st] (.slice (some ⟨w2.heap.size, 0, none⟩) 4 4) rfl rfl (hown2.out.alloc _) (own_rd (own_alloc w2 w2.heap.size 4 0 [p.op, p.fl, p.rs, p.st] rfl rfl (by decide) (Nat.zero_le _))) (by simp) (by simp) (by simp) ?_; intro w3 ho3 hg3; have k3 : Kpt (Hw w w3 P w1.heap.size (over (List.replicate 48 0) 0 [p.op, p.fl, p.rs, p.st]) p) := ⟨⟨ho3, (hbw2.out.alloc hbw2.out.size _).grown hg3 (by have := hbw2.out.size; simp; omega) (fun q e => by injection e with e; subst e; exact hb1.out.size), (hX2.out.alloc _).grown hg3 (fun e => by injection e with e; have := hB.out.lt; omega), by have := hB.out.lt; omega, hP.out, by simp [over], by simp [over]⟩⟩; clear ho3 hg3))
    | (refine (?_ : wpList _ _ _ (Oper.mk _ (Op.box 42 _) _ _ _ _ :: _) _ _); go_must (refine wpList_box rfl 42 _ rfl p.v rfl ?_; intro P w1 hP hB hb1 _; replace hb1 := Kpt.mk hb1; replace hB := Kpt.mk hB; replace hP := Kpt.mk hP)))
  obtain ⟨g, hgg⟩ : ∃ g, g = w1.heap.size := ⟨_, rfl⟩
  obtain ⟨z3, hz3⟩ : ∃ z, z = over (List.replicate 48 0) 0 [p.op, p.fl, p.rs, p.st] := ⟨_, rfl⟩
  rw [← hgg, ← hz3] at k3
  rw [← hgg]
  clear hgg hz3 c0 c1 c2 c3 hX2 hown2 hbw2
  refine wp_region_any (by kernel_rfl) ?_
  refine wpAny_of_C (C := fun W => Bx W P p.v) _ _ _ _ ?_
  refine wpAnyC_take 0 (.slice (some ⟨g, 0, none⟩) 48 48) rfl (by kernel_rfl) (by kernel_rfl) (by kernel_rfl) (fun _ _ _ h => h) (wanted_free rfl _) (fun W hW => by go_simp) ?_
  try simp only [Act.put, List.getElem_toArray, List.getElem_cons_succ, List.getElem_cons_zero, List.setIfInBounds_toArray, List.set_cons_succ, List.set_cons_zero]
  refine wpAnyC_take 1 (.slice (some ⟨g, 5, none⟩) 43 43) rfl (by kernel_rfl) (by kernel_rfl) (by kernel_rfl) (fun _ _ _ h => h) (wanted_free rfl _) (fun W hW => by go_simp) ?_
  try simp only [Act.put, List.getElem_toArray, List.getElem_cons_succ, List.getElem_cons_zero, List.setIfInBounds_toArray, List.set_cons_succ, List.set_cons_zero]
  refine wpAnyC_take 2 (.pointer (some ⟨P, 13, none⟩)) rfl (by kernel_rfl) (by kernel_rfl) (by kernel_rfl) (fun _ _ _ h => h) (wanted_free rfl _) (fun W hW => by go_simp) ?_
  try simp only [Act.put, List.getElem_toArray, List.getElem_cons_succ, List.getElem_cons_zero, List.setIfInBounds_toArray, List.set_cons_succ, List.set_cons_zero]
  refine wpAnyC_take 3 (.slice none 0 0) rfl (by kernel_rfl) (by kernel_rfl) (by kernel_rfl) (fun _ _ _ h => h) (wanted_free rfl _) (fun W hW => by have c := hW.cells 13 (by simp [Pd.v]); simp [Pd.v] at c; rw [hdaK.out] at c; go_simp) ?_
  try simp only [Act.put, List.getElem_toArray, List.getElem_cons_succ, List.getElem_cons_zero, List.setIfInBounds_toArray, List.set_cons_succ, List.set_cons_zero]
  refine wpAnyC_take 4 (.int .i64 0) rfl (by kernel_rfl) (by kernel_rfl) (by kernel_rfl) (fun _ _ _ h => h) (wanted_free rfl _) (fun W hW => by go_simp) ?_
  try simp only [Act.put, List.getElem_toArray, List.getElem_cons_succ, List.getElem_cons_zero, List.setIfInBounds_toArray, List.set_cons_succ, List.set_cons_zero]
  refine wpAnyC_take 5 (.int .u64 0) rfl (by kernel_rfl) (by kernel_rfl) (by kernel_rfl) (fun _ _ _ h => h) (wanted_free rfl _) (fun W hW => by go_simp; first | rfl | decide) ?_
  try simp only [Act.put, List.getElem_toArray, List.getElem_cons_succ, List.getElem_cons_zero, List.setIfInBounds_toArray, List.set_cons_succ, List.set_cons_zero]
  have q0 := Kpt.mk (k3.out.below (below_drew _))
  obtain ⟨W0, hW0⟩ : ∃ W, W = w3.drew := ⟨_, rfl⟩
  rw [← hW0] at q0
  refine wpAnyC_world hW0 ?_
  clear hW0
  refine wpAnyC_one 6 (q0.out.bx) rfl (by kernel_rfl) (wanted_free rfl _) (fun KA hKA => ?_)
  go_simp
  refine (hN.out _ 0 3 (.inl ⟨rfl, rfl⟩)).mono ?_
  rintro e W1 ⟨nb, nz, rfl, no, nbel, nnew⟩
  have q1 := Kpt.mk (q0.out.below nbel)
  have nlen := own_len no
  have nrd := Kpt.mk (own_rd no)
  clear no nbel
  refine hKA _ _ ?_
  clear hKA KA
  try simp only [Act.put, List.getElem_toArray, List.getElem_cons_succ, List.getElem_cons_zero, List.setIfInBounds_toArray, List.set_cons_succ, List.set_cons_zero]
  refine wpAnyC_one 7 (q1.out.bx) rfl (by kernel_rfl) (wanted_free rfl _) (fun KA hKA => ?_)
  refine wp_copy_at (.tmp 19) (.tmp 24) rfl w.heap.size g (5) 48 (43) (43) _ nz _ rfl rfl q1.out.own nrd.out (by omega) (by omega) (by omega) ?_
  intro W2 ho2 hg2
  have k4 := Kpt.mk (q1.out.copy ho2 hg2 (by omega) (by omega))
  obtain ⟨z4, hz4⟩ : ∃ z, z = over z3 5 nz := ⟨_, rfl⟩
  rw [← hz4] at k4
  clear hz4
  rw [nlen]
  clear ho2 hg2
  refine hKA _ _ ?_
  clear hKA KA
  try simp only [Act.put, List.getElem_toArray, List.getElem_cons_succ, List.getElem_cons_zero, List.setIfInBounds_toArray, List.set_cons_succ, List.set_cons_zero]
  refine wpAnyC_done (k4.out.bx) (by kernel_rfl) ?_
  clear q0 q1 nlen nrd k3
  have d4 := k4.out.bx.cells 4 (by simp [Pd.v])
  have d9 := own_facts k4.out.own 9 (by omega)
  have f9 := k4.out.own.frozenAt 9
  simp [Pd.v] at d4
  have k5 := Kpt.mk (k4.out.set (j := 9) p.lu (by omega))
  go_upto_region 5 with fail
  obtain ⟨w5, hw5⟩ : ∃ x, x = W2.setCell ⟨g, 9, none⟩ (.int .u8 p.lu) := ⟨_, rfl⟩
  obtain ⟨z5, hz5⟩ : ∃ x, x = z4.set 9 p.lu := ⟨_, rfl⟩
  rw [← hw5, ← hz5] at k5
  rw [← hw5]
  clear hw5 hz5 d4 d9 f9 k4
  refine wp_region_any (by kernel_rfl) ?_
  refine wpAny_of_C (C := fun W => Bx W P p.v) _ _ _ _ ?_
  refine wpAnyC_take 0 (.slice (some ⟨g, 0, none⟩) 48 48) rfl (by kernel_rfl) (by kernel_rfl) (by kernel_rfl) (fun _ _ _ h => h) (wanted_free rfl _) (fun W hW => by go_simp) ?_
  try simp only [Act.put, List.getElem_toArray, List.getElem_cons_succ, List.getElem_cons_zero, List.setIfInBounds_toArray, List.set_cons_succ, List.set_cons_zero]
  refine wpAnyC_take 1 (.slice (some ⟨g, 16, none⟩) 32 32) rfl (by kernel_rfl) (by kernel_rfl) (by kernel_rfl) (fun _ _ _ h => h) (wanted_free rfl _) (fun W hW => by go_simp) ?_
  try simp only [Act.put, List.getElem_toArray, List.getElem_cons_succ, List.getElem_cons_zero, List.setIfInBounds_toArray, List.set_cons_succ, List.set_cons_zero]
  refine wpAnyC_take 2 (.pointer (some ⟨P, 5, none⟩)) rfl (by kernel_rfl) (by kernel_rfl) (by kernel_rfl) (fun _ _ _ h => h) (wanted_free rfl _) (fun W hW => by go_simp) ?_
  try simp only [Act.put, List.getElem_toArray, List.getElem_cons_succ, List.getElem_cons_zero, List.setIfInBounds_toArray, List.set_cons_succ, List.set_cons_zero]
  refine wpAnyC_take 3 (.int .u32 p.tg) rfl (by kernel_rfl) (by kernel_rfl) (by kernel_rfl) (fun _ _ _ h => h) (wanted_free rfl _) (fun W hW => by have c := hW.cells 5 (by simp [Pd.v]); simp [Pd.v] at c; go_simp) ?_
  try simp only [Act.put, List.getElem_toArray, List.getElem_cons_succ, List.getElem_cons_zero, List.setIfInBounds_toArray, List.set_cons_succ, List.set_cons_zero]
  refine wpAnyC_take 4 (.int .u64 p.tg) rfl (by kernel_rfl) (by kernel_rfl) (by kernel_rfl) (fun _ _ _ h => h) (wanted_free rfl _) (fun W hW => by have := hu'.out p.tg (by simp); go_simp; first | omega | (rw [IntKind.wrap_u64]; omega)) ?_
  try simp only [Act.put, List.getElem_toArray, List.getElem_cons_succ, List.getElem_cons_zero, List.setIfInBounds_toArray, List.set_cons_succ, List.set_cons_zero]
  have q0 := Kpt.mk (k5.out.below (below_drew _))
  obtain ⟨V0, hV0⟩ : ∃ W, W = w5.drew := ⟨_, rfl⟩
  rw [← hV0] at q0
  refine wpAnyC_world hV0 ?_
  clear hV0
  refine wpAnyC_one 5 (q0.out.bx) rfl (by kernel_rfl) (wanted_free rfl _) (fun KA hKA => ?_)
  go_simp
  refine (hN.out _ p.tg 4 (.inr ⟨rfl, by simp⟩)).mono ?_
  rintro e V1 ⟨nb, nz, rfl, no, nbel, nnew⟩
  have q1 := Kpt.mk (q0.out.below nbel)
  have nlen := own_len no
  have nrd := Kpt.mk (own_rd no)
  clear no nbel
  refine hKA _ _ ?_
  clear hKA KA
  try simp only [Act.put, List.getElem_toArray, List.getElem_cons_succ, List.getElem_cons_zero, List.setIfInBounds_toArray, List.set_cons_succ, List.set_cons_zero]
  refine wpAnyC_one 6 (q1.out.bx) rfl (by kernel_rfl) (wanted_free rfl _) (fun KA hKA => ?_)
  refine wp_copy_at (.tmp 31) (.tmp 35) rfl w.heap.size g (16) 48 (32) (32) _ nz _ rfl rfl q1.out.own nrd.out (by omega) (by omega) (by omega) ?_
  intro V2 ho2 hg2
  have k6 := Kpt.mk (q1.out.copy ho2 hg2 (by omega) (by omega))
  obtain ⟨z6, hz6⟩ : ∃ z, z = over z5 16 nz := ⟨_, rfl⟩
  rw [← hz6] at k6
  clear hz6
  rw [nlen]
  clear ho2 hg2
  refine hKA _ _ ?_
  clear hKA KA
  try simp only [Act.put, List.getElem_toArray, List.getElem_cons_succ, List.getElem_cons_zero, List.setIfInBounds_toArray, List.set_cons_succ, List.set_cons_zero]
  refine wpAnyC_done (k6.out.bx) (by kernel_rfl) ?_
  clear q0 q1 nlen nrd k5
  have hr6 : Kpt (V2.rangeAt P 6 [.int .u32 p.w0, .int .u32 p.w1, .int .u32 p.w2, .int .u32 p.w3, .int .u32 p.w4, .int .u32 p.w5, .int .u32 p.w6]) := ⟨fun j v hv => by
    have hj : j < 7 := (List.getElem?_eq_some_iff.1 hv).1
    rw [k6.out.bx.cells (6 + j) (by simp [Pd.v]; omega), ← hv]
    have : j = 0 ∨ j = 1 ∨ j = 2 ∨ j = 3 ∨ j = 4 ∨ j = 5 ∨ j = 6 := by omega
    rcases this with rfl | rfl | rfl | rfl | rfl | rfl | rfl <;> rfl⟩
  go_wp2_with (refine (?_ : wpList _ _ _ (Oper.mk _ (Op.load 40 _) _ _ _ _ :: _) _ _); go_must (refine wpList_load_mid rfl 40 _ rfl P 6 rfl [.int .u32 p.w0, .int .u32 p.w1, .int .u32 p.w2, .int .u32 p.w3, .int .u32 p.w4, .int .u32 p.w5, .int .u32 p.w6] _ hr6.out Try.underlying40 rfl szW7 ?_; have hm := hr6))
  go_loopw [39] (fun t wr => ∃ (i : Nat) (zz : List Int), i ≤ 7 ∧ t = .int .i64 i ∧ Kpt (Hw w wr P g zz p)) (fun t _ => 7 - (intOf t).toNat)
  case atStart => exact ⟨0, _, by omega, rfl, k6⟩
  case round =>
    obtain ⟨i, zz, hi, rfl, k7⟩ := hrel
    have hcs : i = 0 ∨ i = 1 ∨ i = 2 ∨ i = 3 ∨ i = 4 ∨ i = 5 ∨ i = 6 ∨ i = 7 := by omega
    clear k6 hr6 hm
    rcases hcs with rfl | rfl | rfl | rfl | rfl | rfl | rfl | rfl
    · have hix : ∀ W, (Instr.index 40 (.agg #[.int .u32 p.w0, .int .u32 p.w1, .int .u32 p.w2, .int .u32 p.w3, .int .u32 p.w4, .int .u32 p.w5, .int .u32 p.w6]) (.int .i64 0)).run Try.prog W = .ok (.int .u32 p.w0) W := fun _ => by kernel_rfl
      go_upto_region 9 with fail
      refine wp_region_any (by kernel_rfl) ?_
      refine wpAny_of_C (C := fun W => Bx W P p.v) _ _ _ _ ?_
      refine wpAnyC_take 0 (.slice (some ⟨g, 0, none⟩) 48 48) rfl (by kernel_rfl) (by kernel_rfl) (by kernel_rfl) (fun _ _ _ h => h) (wanted_free rfl _) (fun W hW => by go_simp) ?_
      try simp only [Act.put, List.getElem_toArray, List.getElem_cons_succ, List.getElem_cons_zero, List.setIfInBounds_toArray, List.set_cons_succ, List.set_cons_zero]
      refine wpAnyC_take 1 (.int .i64 0) rfl (by kernel_rfl) (by kernel_rfl) (by kernel_rfl) (fun _ _ _ h => h) (wanted_free rfl _) (fun W hW => by go_simp) ?_
      try simp only [Act.put, List.getElem_toArray, List.getElem_cons_succ, List.getElem_cons_zero, List.setIfInBounds_toArray, List.set_cons_succ, List.set_cons_zero]
      refine wpAnyC_take 2 (.int .i64 0) rfl (by kernel_rfl) (by kernel_rfl) (by kernel_rfl) (fun _ _ _ h => h) (wanted_free rfl _) (fun W hW => by go_simp; try rfl) ?_
      try simp only [Act.put, List.getElem_toArray, List.getElem_cons_succ, List.getElem_cons_zero, List.setIfInBounds_toArray, List.set_cons_succ, List.set_cons_zero]
      refine wpAnyC_take 3 (.int .i64 20) rfl (by kernel_rfl) (by kernel_rfl) (by kernel_rfl) (fun _ _ _ h => h) (wanted_free rfl _) (fun W hW => by go_simp; try rfl) ?_
      try simp only [Act.put, List.getElem_toArray, List.getElem_cons_succ, List.getElem_cons_zero, List.setIfInBounds_toArray, List.set_cons_succ, List.set_cons_zero]
      refine wpAnyC_take 4 (.slice (some ⟨g, 20, none⟩) 28 28) rfl (by kernel_rfl) (by kernel_rfl) (by kernel_rfl) (fun _ _ _ h => h) (wanted_free rfl _) (fun W hW => by go_simp) ?_
      try simp only [Act.put, List.getElem_toArray, List.getElem_cons_succ, List.getElem_cons_zero, List.setIfInBounds_toArray, List.set_cons_succ, List.set_cons_zero]
      refine wpAnyC_take 5 (.int .u32 p.w0) rfl (by kernel_rfl) (by kernel_rfl) (by kernel_rfl) (fun _ _ _ h => h) (wanted_free rfl _) (fun W hW => by go_simp) ?_
      try simp only [Act.put, List.getElem_toArray, List.getElem_cons_succ, List.getElem_cons_zero, List.setIfInBounds_toArray, List.set_cons_succ, List.set_cons_zero]
      refine wpAnyC_take 6 (.int .u64 p.w0) rfl (by kernel_rfl) (by kernel_rfl) (by kernel_rfl) (fun _ _ _ h => h) (wanted_free rfl _) (fun W hW => by have := hu'.out p.w0 (by simp); go_simp; first | omega | (rw [IntKind.wrap_u64]; omega)) ?_
      try simp only [Act.put, List.getElem_toArray, List.getElem_cons_succ, List.getElem_cons_zero, List.setIfInBounds_toArray, List.set_cons_succ, List.set_cons_zero]
      have q0 := Kpt.mk (k7.out.below (below_drew _))
      obtain ⟨U0, hU0⟩ : ∃ W, W = wr.drew := ⟨_, rfl⟩
      rw [← hU0] at q0
      refine wpAnyC_world hU0 ?_
      clear hU0
      refine wpAnyC_one 7 (q0.out.bx) rfl (by kernel_rfl) (wanted_free rfl _) (fun KA hKA => ?_)
      go_simp
      refine (hN.out _ p.w0 4 (.inr ⟨rfl, by simp⟩)).mono ?_
      rintro e U1 ⟨nb, nz, rfl, no, nbel, nnew⟩
      have q1 := Kpt.mk (q0.out.below nbel)
      have nlen := own_len no
      have nrd := Kpt.mk (own_rd no)
      clear no nbel
      refine hKA _ _ ?_
      clear hKA KA
      try simp only [Act.put, List.getElem_toArray, List.getElem_cons_succ, List.getElem_cons_zero, List.setIfInBounds_toArray, List.set_cons_succ, List.set_cons_zero]
      refine wpAnyC_one 8 (q1.out.bx) rfl (by kernel_rfl) (wanted_free rfl _) (fun KA hKA => ?_)
      refine wp_copy_at (.tmp 47) (.tmp 50) rfl w.heap.size g (20) 48 (28) (28) _ nz _ rfl rfl q1.out.own nrd.out (by omega) (by omega) (by omega) ?_
      intro U2 ho2 hg2
      have k8 := Kpt.mk (q1.out.copy ho2 hg2 (by omega) (by omega))
      skip
      rw [nlen]
      clear ho2 hg2
      refine hKA _ _ ?_
      clear hKA KA
      try simp only [Act.put, List.getElem_toArray, List.getElem_cons_succ, List.getElem_cons_zero, List.setIfInBounds_toArray, List.set_cons_succ, List.set_cons_zero]
      refine wpAnyC_done (k8.out.bx) (by kernel_rfl) ?_
      clear q0 q1 nrd
      go_wp2_with fail
      go_roundw
      case rel => exact ⟨1, _, by omega, by go_num, k8⟩
      case measure => simp [intOf]
    · have hix : ∀ W, (Instr.index 40 (.agg #[.int .u32 p.w0, .int .u32 p.w1, .int .u32 p.w2, .int .u32 p.w3, .int .u32 p.w4, .int .u32 p.w5, .int .u32 p.w6]) (.int .i64 1)).run Try.prog W = .ok (.int .u32 p.w1) W := fun _ => by kernel_rfl
      go_upto_region 9 with fail
      refine wp_region_any (by kernel_rfl) ?_
      refine wpAny_of_C (C := fun W => Bx W P p.v) _ _ _ _ ?_
      refine wpAnyC_take 0 (.slice (some ⟨g, 0, none⟩) 48 48) rfl (by kernel_rfl) (by kernel_rfl) (by kernel_rfl) (fun _ _ _ h => h) (wanted_free rfl _) (fun W hW => by go_simp) ?_
      try simp only [Act.put, List.getElem_toArray, List.getElem_cons_succ, List.getElem_cons_zero, List.setIfInBounds_toArray, List.set_cons_succ, List.set_cons_zero]
      refine wpAnyC_take 1 (.int .i64 1) rfl (by kernel_rfl) (by kernel_rfl) (by kernel_rfl) (fun _ _ _ h => h) (wanted_free rfl _) (fun W hW => by go_simp) ?_
      try simp only [Act.put, List.getElem_toArray, List.getElem_cons_succ, List.getElem_cons_zero, List.setIfInBounds_toArray, List.set_cons_succ, List.set_cons_zero]
      refine wpAnyC_take 2 (.int .i64 4) rfl (by kernel_rfl) (by kernel_rfl) (by kernel_rfl) (fun _ _ _ h => h) (wanted_free rfl _) (fun W hW => by go_simp; try rfl) ?_
      try simp only [Act.put, List.getElem_toArray, List.getElem_cons_succ, List.getElem_cons_zero, List.setIfInBounds_toArray, List.set_cons_succ, List.set_cons_zero]
      refine wpAnyC_take 3 (.int .i64 24) rfl (by kernel_rfl) (by kernel_rfl) (by kernel_rfl) (fun _ _ _ h => h) (wanted_free rfl _) (fun W hW => by go_simp; try rfl) ?_
      try simp only [Act.put, List.getElem_toArray, List.getElem_cons_succ, List.getElem_cons_zero, List.setIfInBounds_toArray, List.set_cons_succ, List.set_cons_zero]
      refine wpAnyC_take 4 (.slice (some ⟨g, 24, none⟩) 24 24) rfl (by kernel_rfl) (by kernel_rfl) (by kernel_rfl) (fun _ _ _ h => h) (wanted_free rfl _) (fun W hW => by go_simp) ?_
      try simp only [Act.put, List.getElem_toArray, List.getElem_cons_succ, List.getElem_cons_zero, List.setIfInBounds_toArray, List.set_cons_succ, List.set_cons_zero]
      refine wpAnyC_take 5 (.int .u32 p.w1) rfl (by kernel_rfl) (by kernel_rfl) (by kernel_rfl) (fun _ _ _ h => h) (wanted_free rfl _) (fun W hW => by go_simp) ?_
      try simp only [Act.put, List.getElem_toArray, List.getElem_cons_succ, List.getElem_cons_zero, List.setIfInBounds_toArray, List.set_cons_succ, List.set_cons_zero]
      refine wpAnyC_take 6 (.int .u64 p.w1) rfl (by kernel_rfl) (by kernel_rfl) (by kernel_rfl) (fun _ _ _ h => h) (wanted_free rfl _) (fun W hW => by have := hu'.out p.w1 (by simp); go_simp; first | omega | (rw [IntKind.wrap_u64]; omega)) ?_
      try simp only [Act.put, List.getElem_toArray, List.getElem_cons_succ, List.getElem_cons_zero, List.setIfInBounds_toArray, List.set_cons_succ, List.set_cons_zero]
      have q0 := Kpt.mk (k7.out.below (below_drew _))
      obtain ⟨U0, hU0⟩ : ∃ W, W = wr.drew := ⟨_, rfl⟩
      rw [← hU0] at q0
      refine wpAnyC_world hU0 ?_
      clear hU0
      refine wpAnyC_one 7 (q0.out.bx) rfl (by kernel_rfl) (wanted_free rfl _) (fun KA hKA => ?_)
      go_simp
      refine (hN.out _ p.w1 4 (.inr ⟨rfl, by simp⟩)).mono ?_
      rintro e U1 ⟨nb, nz, rfl, no, nbel, nnew⟩
      have q1 := Kpt.mk (q0.out.below nbel)
      have nlen := own_len no
      have nrd := Kpt.mk (own_rd no)
      clear no nbel
      refine hKA _ _ ?_
      clear hKA KA
      try simp only [Act.put, List.getElem_toArray, List.getElem_cons_succ, List.getElem_cons_zero, List.setIfInBounds_toArray, List.set_cons_succ, List.set_cons_zero]
      refine wpAnyC_one 8 (q1.out.bx) rfl (by kernel_rfl) (wanted_free rfl _) (fun KA hKA => ?_)
      refine wp_copy_at (.tmp 47) (.tmp 50) rfl w.heap.size g (24) 48 (24) (24) _ nz _ rfl rfl q1.out.own nrd.out (by omega) (by omega) (by omega) ?_
      intro U2 ho2 hg2
      have k8 := Kpt.mk (q1.out.copy ho2 hg2 (by omega) (by omega))
      skip
      rw [nlen]
      clear ho2 hg2
      refine hKA _ _ ?_
      clear hKA KA
      try simp only [Act.put, List.getElem_toArray, List.getElem_cons_succ, List.getElem_cons_zero, List.setIfInBounds_toArray, List.set_cons_succ, List.set_cons_zero]
      refine wpAnyC_done (k8.out.bx) (by kernel_rfl) ?_
      clear q0 q1 nrd
      go_wp2_with fail
      go_roundw
      case rel => exact ⟨2, _, by omega, by go_num, k8⟩
      case measure => simp [intOf]
    · have hix : ∀ W, (Instr.index 40 (.agg #[.int .u32 p.w0, .int .u32 p.w1, .int .u32 p.w2, .int .u32 p.w3, .int .u32 p.w4, .int .u32 p.w5, .int .u32 p.w6]) (.int .i64 2)).run Try.prog W = .ok (.int .u32 p.w2) W := fun _ => by kernel_rfl
      go_upto_region 9 with fail
      refine wp_region_any (by kernel_rfl) ?_
      refine wpAny_of_C (C := fun W => Bx W P p.v) _ _ _ _ ?_
      refine wpAnyC_take 0 (.slice (some ⟨g, 0, none⟩) 48 48) rfl (by kernel_rfl) (by kernel_rfl) (by kernel_rfl) (fun _ _ _ h => h) (wanted_free rfl _) (fun W hW => by go_simp) ?_
      try simp only [Act.put, List.getElem_toArray, List.getElem_cons_succ, List.getElem_cons_zero, List.setIfInBounds_toArray, List.set_cons_succ, List.set_cons_zero]
      refine wpAnyC_take 1 (.int .i64 2) rfl (by kernel_rfl) (by kernel_rfl) (by kernel_rfl) (fun _ _ _ h => h) (wanted_free rfl _) (fun W hW => by go_simp) ?_
      try simp only [Act.put, List.getElem_toArray, List.getElem_cons_succ, List.getElem_cons_zero, List.setIfInBounds_toArray, List.set_cons_succ, List.set_cons_zero]
      refine wpAnyC_take 2 (.int .i64 8) rfl (by kernel_rfl) (by kernel_rfl) (by kernel_rfl) (fun _ _ _ h => h) (wanted_free rfl _) (fun W hW => by go_simp; try rfl) ?_
      try simp only [Act.put, List.getElem_toArray, List.getElem_cons_succ, List.getElem_cons_zero, List.setIfInBounds_toArray, List.set_cons_succ, List.set_cons_zero]
      refine wpAnyC_take 3 (.int .i64 28) rfl (by kernel_rfl) (by kernel_rfl) (by kernel_rfl) (fun _ _ _ h => h) (wanted_free rfl _) (fun W hW => by go_simp; try rfl) ?_
      try simp only [Act.put, List.getElem_toArray, List.getElem_cons_succ, List.getElem_cons_zero, List.setIfInBounds_toArray, List.set_cons_succ, List.set_cons_zero]
      refine wpAnyC_take 4 (.slice (some ⟨g, 28, none⟩) 20 20) rfl (by kernel_rfl) (by kernel_rfl) (by kernel_rfl) (fun _ _ _ h => h) (wanted_free rfl _) (fun W hW => by go_simp) ?_
      try simp only [Act.put, List.getElem_toArray, List.getElem_cons_succ, List.getElem_cons_zero, List.setIfInBounds_toArray, List.set_cons_succ, List.set_cons_zero]
      refine wpAnyC_take 5 (.int .u32 p.w2) rfl (by kernel_rfl) (by kernel_rfl) (by kernel_rfl) (fun _ _ _ h => h) (wanted_free rfl _) (fun W hW => by go_simp) ?_
      try simp only [Act.put, List.getElem_toArray, List.getElem_cons_succ, List.getElem_cons_zero, List.setIfInBounds_toArray, List.set_cons_succ, List.set_cons_zero]
      refine wpAnyC_take 6 (.int .u64 p.w2) rfl (by kernel_rfl) (by kernel_rfl) (by kernel_rfl) (fun _ _ _ h => h) (wanted_free rfl _) (fun W hW => by have := hu'.out p.w2 (by simp); go_simp; first | omega | (rw [IntKind.wrap_u64]; omega)) ?_
      try simp only [Act.put, List.getElem_toArray, List.getElem_cons_succ, List.getElem_cons_zero, List.setIfInBounds_toArray, List.set_cons_succ, List.set_cons_zero]
      have q0 := Kpt.mk (k7.out.below (below_drew _))
      obtain ⟨U0, hU0⟩ : ∃ W, W = wr.drew := ⟨_, rfl⟩
      rw [← hU0] at q0
      refine wpAnyC_world hU0 ?_
      clear hU0
      refine wpAnyC_one 7 (q0.out.bx) rfl (by kernel_rfl) (wanted_free rfl _) (fun KA hKA => ?_)
      go_simp
      refine (hN.out _ p.w2 4 (.inr ⟨rfl, by simp⟩)).mono ?_
      rintro e U1 ⟨nb, nz, rfl, no, nbel, nnew⟩
      have q1 := Kpt.mk (q0.out.below nbel)
      have nlen := own_len no
      have nrd := Kpt.mk (own_rd no)
      clear no nbel
      refine hKA _ _ ?_
      clear hKA KA
      try simp only [Act.put, List.getElem_toArray, List.getElem_cons_succ, List.getElem_cons_zero, List.setIfInBounds_toArray, List.set_cons_succ, List.set_cons_zero]
      refine wpAnyC_one 8 (q1.out.bx) rfl (by kernel_rfl) (wanted_free rfl _) (fun KA hKA => ?_)
      refine wp_copy_at (.tmp 47) (.tmp 50) rfl w.heap.size g (28) 48 (20) (20) _ nz _ rfl rfl q1.out.own nrd.out (by omega) (by omega) (by omega) ?_
      intro U2 ho2 hg2
      have k8 := Kpt.mk (q1.out.copy ho2 hg2 (by omega) (by omega))
      skip
      rw [nlen]
      clear ho2 hg2
      refine hKA _ _ ?_
      clear hKA KA
      try simp only [Act.put, List.getElem_toArray, List.getElem_cons_succ, List.getElem_cons_zero, List.setIfInBounds_toArray, List.set_cons_succ, List.set_cons_zero]
      refine wpAnyC_done (k8.out.bx) (by kernel_rfl) ?_
      clear q0 q1 nrd
      go_wp2_with fail
      go_roundw
      case rel => exact ⟨3, _, by omega, by go_num, k8⟩
      case measure => simp [intOf]
    · have hix : ∀ W, (Instr.index 40 (.agg #[.int .u32 p.w0, .int .u32 p.w1, .int .u32 p.w2, .int .u32 p.w3, .int .u32 p.w4, .int .u32 p.w5, .int .u32 p.w6]) (.int .i64 3)).run Try.prog W = .ok (.int .u32 p.w3) W := fun _ => by kernel_rfl
      go_upto_region 9 with fail
      refine wp_region_any (by kernel_rfl) ?_
      refine wpAny_of_C (C := fun W => Bx W P p.v) _ _ _ _ ?_
      refine wpAnyC_take 0 (.slice (some ⟨g, 0, none⟩) 48 48) rfl (by kernel_rfl) (by kernel_rfl) (by kernel_rfl) (fun _ _ _ h => h) (wanted_free rfl _) (fun W hW => by go_simp) ?_
      try simp only [Act.put, List.getElem_toArray, List.getElem_cons_succ, List.getElem_cons_zero, List.setIfInBounds_toArray, List.set_cons_succ, List.set_cons_zero]
      refine wpAnyC_take 1 (.int .i64 3) rfl (by kernel_rfl) (by kernel_rfl) (by kernel_rfl) (fun _ _ _ h => h) (wanted_free rfl _) (fun W hW => by go_simp) ?_
      try simp only [Act.put, List.getElem_toArray, List.getElem_cons_succ, List.getElem_cons_zero, List.setIfInBounds_toArray, List.set_cons_succ, List.set_cons_zero]
      refine wpAnyC_take 2 (.int .i64 12) rfl (by kernel_rfl) (by kernel_rfl) (by kernel_rfl) (fun _ _ _ h => h) (wanted_free rfl _) (fun W hW => by go_simp; try rfl) ?_
      try simp only [Act.put, List.getElem_toArray, List.getElem_cons_succ, List.getElem_cons_zero, List.setIfInBounds_toArray, List.set_cons_succ, List.set_cons_zero]
      refine wpAnyC_take 3 (.int .i64 32) rfl (by kernel_rfl) (by kernel_rfl) (by kernel_rfl) (fun _ _ _ h => h) (wanted_free rfl _) (fun W hW => by go_simp; try rfl) ?_
      try simp only [Act.put, List.getElem_toArray, List.getElem_cons_succ, List.getElem_cons_zero, List.setIfInBounds_toArray, List.set_cons_succ, List.set_cons_zero]
      refine wpAnyC_take 4 (.slice (some ⟨g, 32, none⟩) 16 16) rfl (by kernel_rfl) (by kernel_rfl) (by kernel_rfl) (fun _ _ _ h => h) (wanted_free rfl _) (fun W hW => by go_simp) ?_
      try simp only [Act.put, List.getElem_toArray, List.getElem_cons_succ, List.getElem_cons_zero, List.setIfInBounds_toArray, List.set_cons_succ, List.set_cons_zero]
      refine wpAnyC_take 5 (.int .u32 p.w3) rfl (by kernel_rfl) (by kernel_rfl) (by kernel_rfl) (fun _ _ _ h => h) (wanted_free rfl _) (fun W hW => by go_simp) ?_
      try simp only [Act.put, List.getElem_toArray, List.getElem_cons_succ, List.getElem_cons_zero, List.setIfInBounds_toArray, List.set_cons_succ, List.set_cons_zero]
      refine wpAnyC_take 6 (.int .u64 p.w3) rfl (by kernel_rfl) (by kernel_rfl) (by kernel_rfl) (fun _ _ _ h => h) (wanted_free rfl _) (fun W hW => by have := hu'.out p.w3 (by simp); go_simp; first | omega | (rw [IntKind.wrap_u64]; omega)) ?_
      try simp only [Act.put, List.getElem_toArray, List.getElem_cons_succ, List.getElem_cons_zero, List.setIfInBounds_toArray, List.set_cons_succ, List.set_cons_zero]
      have q0 := Kpt.mk (k7.out.below (below_drew _))
      obtain ⟨U0, hU0⟩ : ∃ W, W = wr.drew := ⟨_, rfl⟩
      rw [← hU0] at q0
      refine wpAnyC_world hU0 ?_
      clear hU0
      refine wpAnyC_one 7 (q0.out.bx) rfl (by kernel_rfl) (wanted_free rfl _) (fun KA hKA => ?_)
      go_simp
      refine (hN.out _ p.w3 4 (.inr ⟨rfl, by simp⟩)).mono ?_
      rintro e U1 ⟨nb, nz, rfl, no, nbel, nnew⟩
      have q1 := Kpt.mk (q0.out.below nbel)
      have nlen := own_len no
      have nrd := Kpt.mk (own_rd no)
      clear no nbel
      refine hKA _ _ ?_
      clear hKA KA
      try simp only [Act.put, List.getElem_toArray, List.getElem_cons_succ, List.getElem_cons_zero, List.setIfInBounds_toArray, List.set_cons_succ, List.set_cons_zero]
      refine wpAnyC_one 8 (q1.out.bx) rfl (by kernel_rfl) (wanted_free rfl _) (fun KA hKA => ?_)
      refine wp_copy_at (.tmp 47) (.tmp 50) rfl w.heap.size g (32) 48 (16) (16) _ nz _ rfl rfl q1.out.own nrd.out (by omega) (by omega) (by omega) ?_
      intro U2 ho2 hg2
      have k8 := Kpt.mk (q1.out.copy ho2 hg2 (by omega) (by omega))
      skip
      rw [nlen]
      clear ho2 hg2
      refine hKA _ _ ?_
      clear hKA KA
      try simp only [Act.put, List.getElem_toArray, List.getElem_cons_succ, List.getElem_cons_zero, List.setIfInBounds_toArray, List.set_cons_succ, List.set_cons_zero]
      refine wpAnyC_done (k8.out.bx) (by kernel_rfl) ?_
      clear q0 q1 nrd
      go_wp2_with fail
      go_roundw
      case rel => exact ⟨4, _, by omega, by go_num, k8⟩
      case measure => simp [intOf]
    · have hix : ∀ W, (Instr.index 40 (.agg #[.int .u32 p.w0, .int .u32 p.w1, .int .u32 p.w2, .int .u32 p.w3, .int .u32 p.w4, .int .u32 p.w5, .int .u32 p.w6]) (.int .i64 4)).run Try.prog W = .ok (.int .u32 p.w4) W := fun _ => by kernel_rfl
      go_upto_region 9 with fail
      refine wp_region_any (by kernel_rfl) ?_
      refine wpAny_of_C (C := fun W => Bx W P p.v) _ _ _ _ ?_
      refine wpAnyC_take 0 (.slice (some ⟨g, 0, none⟩) 48 48) rfl (by kernel_rfl) (by kernel_rfl) (by kernel_rfl) (fun _ _ _ h => h) (wanted_free rfl _) (fun W hW => by go_simp) ?_
      try simp only [Act.put, List.getElem_toArray, List.getElem_cons_succ, List.getElem_cons_zero, List.setIfInBounds_toArray, List.set_cons_succ, List.set_cons_zero]
      refine wpAnyC_take 1 (.int .i64 4) rfl (by kernel_rfl) (by kernel_rfl) (by kernel_rfl) (fun _ _ _ h => h) (wanted_free rfl _) (fun W hW => by go_simp) ?_
      try simp only [Act.put, List.getElem_toArray, List.getElem_cons_succ, List.getElem_cons_zero, List.setIfInBounds_toArray, List.set_cons_succ, List.set_cons_zero]
      refine wpAnyC_take 2 (.int .i64 16) rfl (by kernel_rfl) (by kernel_rfl) (by kernel_rfl) (fun _ _ _ h => h) (wanted_free rfl _) (fun W hW => by go_simp; try rfl) ?_
      try simp only [Act.put, List.getElem_toArray, List.getElem_cons_succ, List.getElem_cons_zero, List.setIfInBounds_toArray, List.set_cons_succ, List.set_cons_zero]
      refine wpAnyC_take 3 (.int .i64 36) rfl (by kernel_rfl) (by kernel_rfl) (by kernel_rfl) (fun _ _ _ h => h) (wanted_free rfl _) (fun W hW => by go_simp; try rfl) ?_
      try simp only [Act.put, List.getElem_toArray, List.getElem_cons_succ, List.getElem_cons_zero, List.setIfInBounds_toArray, List.set_cons_succ, List.set_cons_zero]
      refine wpAnyC_take 4 (.slice (some ⟨g, 36, none⟩) 12 12) rfl (by kernel_rfl) (by kernel_rfl) (by kernel_rfl) (fun _ _ _ h => h) (wanted_free rfl _) (fun W hW => by go_simp) ?_
      try simp only [Act.put, List.getElem_toArray, List.getElem_cons_succ, List.getElem_cons_zero, List.setIfInBounds_toArray, List.set_cons_succ, List.set_cons_zero]
      refine wpAnyC_take 5 (.int .u32 p.w4) rfl (by kernel_rfl) (by kernel_rfl) (by kernel_rfl) (fun _ _ _ h => h) (wanted_free rfl _) (fun W hW => by go_simp) ?_
      try simp only [Act.put, List.getElem_toArray, List.getElem_cons_succ, List.getElem_cons_zero, List.setIfInBounds_toArray, List.set_cons_succ, List.set_cons_zero]
      refine wpAnyC_take 6 (.int .u64 p.w4) rfl (by kernel_rfl) (by kernel_rfl) (by kernel_rfl) (fun _ _ _ h => h) (wanted_free rfl _) (fun W hW => by have := hu'.out p.w4 (by simp); go_simp; first | omega | (rw [IntKind.wrap_u64]; omega)) ?_
      try simp only [Act.put, List.getElem_toArray, List.getElem_cons_succ, List.getElem_cons_zero, List.setIfInBounds_toArray, List.set_cons_succ, List.set_cons_zero]
      have q0 := Kpt.mk (k7.out.below (below_drew _))
      obtain ⟨U0, hU0⟩ : ∃ W, W = wr.drew := ⟨_, rfl⟩
      rw [← hU0] at q0
      refine wpAnyC_world hU0 ?_
      clear hU0
      refine wpAnyC_one 7 (q0.out.bx) rfl (by kernel_rfl) (wanted_free rfl _) (fun KA hKA => ?_)
      go_simp
      refine (hN.out _ p.w4 4 (.inr ⟨rfl, by simp⟩)).mono ?_
      rintro e U1 ⟨nb, nz, rfl, no, nbel, nnew⟩
      have q1 := Kpt.mk (q0.out.below nbel)
      have nlen := own_len no
      have nrd := Kpt.mk (own_rd no)
      clear no nbel
      refine hKA _ _ ?_
      clear hKA KA
      try simp only [Act.put, List.getElem_toArray, List.getElem_cons_succ, List.getElem_cons_zero, List.setIfInBounds_toArray, List.set_cons_succ, List.set_cons_zero]
      refine wpAnyC_one 8 (q1.out.bx) rfl (by kernel_rfl) (wanted_free rfl _) (fun KA hKA => ?_)
      refine wp_copy_at (.tmp 47) (.tmp 50) rfl w.heap.size g (36) 48 (12) (12) _ nz _ rfl rfl q1.out.own nrd.out (by omega) (by omega) (by omega) ?_
      intro U2 ho2 hg2
      have k8 := Kpt.mk (q1.out.copy ho2 hg2 (by omega) (by omega))
      skip
      rw [nlen]
      clear ho2 hg2
      refine hKA _ _ ?_
      clear hKA KA
      try simp only [Act.put, List.getElem_toArray, List.getElem_cons_succ, List.getElem_cons_zero, List.setIfInBounds_toArray, List.set_cons_succ, List.set_cons_zero]
      refine wpAnyC_done (k8.out.bx) (by kernel_rfl) ?_
      clear q0 q1 nrd
      go_wp2_with fail
      go_roundw
      case rel => exact ⟨5, _, by omega, by go_num, k8⟩
      case measure => simp [intOf]
    · have hix : ∀ W, (Instr.index 40 (.agg #[.int .u32 p.w0, .int .u32 p.w1, .int .u32 p.w2, .int .u32 p.w3, .int .u32 p.w4, .int .u32 p.w5, .int .u32 p.w6]) (.int .i64 5)).run Try.prog W = .ok (.int .u32 p.w5) W := fun _ => by kernel_rfl
      go_upto_region 9 with fail
      refine wp_region_any (by kernel_rfl) ?_
      refine wpAny_of_C (C := fun W => Bx W P p.v) _ _ _ _ ?_
      refine wpAnyC_take 0 (.slice (some ⟨g, 0, none⟩) 48 48) rfl (by kernel_rfl) (by kernel_rfl) (by kernel_rfl) (fun _ _ _ h => h) (wanted_free rfl _) (fun W hW => by go_simp) ?_
      try simp only [Act.put, List.getElem_toArray, List.getElem_cons_succ, List.getElem_cons_zero, List.setIfInBounds_toArray, List.set_cons_succ, List.set_cons_zero]
      refine wpAnyC_take 1 (.int .i64 5) rfl (by kernel_rfl) (by kernel_rfl) (by kernel_rfl) (fun _ _ _ h => h) (wanted_free rfl _) (fun W hW => by go_simp) ?_
      try simp only [Act.put, List.getElem_toArray, List.getElem_cons_succ, List.getElem_cons_zero, List.setIfInBounds_toArray, List.set_cons_succ, List.set_cons_zero]
      refine wpAnyC_take 2 (.int .i64 20) rfl (by kernel_rfl) (by kernel_rfl) (by kernel_rfl) (fun _ _ _ h => h) (wanted_free rfl _) (fun W hW => by go_simp; try rfl) ?_
      try simp only [Act.put, List.getElem_toArray, List.getElem_cons_succ, List.getElem_cons_zero, List.setIfInBounds_toArray, List.set_cons_succ, List.set_cons_zero]
      refine wpAnyC_take 3 (.int .i64 40) rfl (by kernel_rfl) (by kernel_rfl) (by kernel_rfl) (fun _ _ _ h => h) (wanted_free rfl _) (fun W hW => by go_simp; try rfl) ?_
      try simp only [Act.put, List.getElem_toArray, List.getElem_cons_succ, List.getElem_cons_zero, List.setIfInBounds_toArray, List.set_cons_succ, List.set_cons_zero]
      refine wpAnyC_take 4 (.slice (some ⟨g, 40, none⟩) 8 8) rfl (by kernel_rfl) (by kernel_rfl) (by kernel_rfl) (fun _ _ _ h => h) (wanted_free rfl _) (fun W hW => by go_simp) ?_
      try simp only [Act.put, List.getElem_toArray, List.getElem_cons_succ, List.getElem_cons_zero, List.setIfInBounds_toArray, List.set_cons_succ, List.set_cons_zero]
      refine wpAnyC_take 5 (.int .u32 p.w5) rfl (by kernel_rfl) (by kernel_rfl) (by kernel_rfl) (fun _ _ _ h => h) (wanted_free rfl _) (fun W hW => by go_simp) ?_
      try simp only [Act.put, List.getElem_toArray, List.getElem_cons_succ, List.getElem_cons_zero, List.setIfInBounds_toArray, List.set_cons_succ, List.set_cons_zero]
      refine wpAnyC_take 6 (.int .u64 p.w5) rfl (by kernel_rfl) (by kernel_rfl) (by kernel_rfl) (fun _ _ _ h => h) (wanted_free rfl _) (fun W hW => by have := hu'.out p.w5 (by simp); go_simp; first | omega | (rw [IntKind.wrap_u64]; omega)) ?_
      try simp only [Act.put, List.getElem_toArray, List.getElem_cons_succ, List.getElem_cons_zero, List.setIfInBounds_toArray, List.set_cons_succ, List.set_cons_zero]
      have q0 := Kpt.mk (k7.out.below (below_drew _))
      obtain ⟨U0, hU0⟩ : ∃ W, W = wr.drew := ⟨_, rfl⟩
      rw [← hU0] at q0
      refine wpAnyC_world hU0 ?_
      clear hU0
      refine wpAnyC_one 7 (q0.out.bx) rfl (by kernel_rfl) (wanted_free rfl _) (fun KA hKA => ?_)
      go_simp
      refine (hN.out _ p.w5 4 (.inr ⟨rfl, by simp⟩)).mono ?_
      rintro e U1 ⟨nb, nz, rfl, no, nbel, nnew⟩
      have q1 := Kpt.mk (q0.out.below nbel)
      have nlen := own_len no
      have nrd := Kpt.mk (own_rd no)
      clear no nbel
      refine hKA _ _ ?_
      clear hKA KA
      try simp only [Act.put, List.getElem_toArray, List.getElem_cons_succ, List.getElem_cons_zero, List.setIfInBounds_toArray, List.set_cons_succ, List.set_cons_zero]
      refine wpAnyC_one 8 (q1.out.bx) rfl (by kernel_rfl) (wanted_free rfl _) (fun KA hKA => ?_)
      refine wp_copy_at (.tmp 47) (.tmp 50) rfl w.heap.size g (40) 48 (8) (8) _ nz _ rfl rfl q1.out.own nrd.out (by omega) (by omega) (by omega) ?_
      intro U2 ho2 hg2
      have k8 := Kpt.mk (q1.out.copy ho2 hg2 (by omega) (by omega))
      skip
      rw [nlen]
      clear ho2 hg2
      refine hKA _ _ ?_
      clear hKA KA
      try simp only [Act.put, List.getElem_toArray, List.getElem_cons_succ, List.getElem_cons_zero, List.setIfInBounds_toArray, List.set_cons_succ, List.set_cons_zero]
      refine wpAnyC_done (k8.out.bx) (by kernel_rfl) ?_
      clear q0 q1 nrd
      go_wp2_with fail
      go_roundw
      case rel => exact ⟨6, _, by omega, by go_num, k8⟩
      case measure => simp [intOf]
    · have hix : ∀ W, (Instr.index 40 (.agg #[.int .u32 p.w0, .int .u32 p.w1, .int .u32 p.w2, .int .u32 p.w3, .int .u32 p.w4, .int .u32 p.w5, .int .u32 p.w6]) (.int .i64 6)).run Try.prog W = .ok (.int .u32 p.w6) W := fun _ => by kernel_rfl
      go_upto_region 9 with fail
      refine wp_region_any (by kernel_rfl) ?_
      refine wpAny_of_C (C := fun W => Bx W P p.v) _ _ _ _ ?_
      refine wpAnyC_take 0 (.slice (some ⟨g, 0, none⟩) 48 48) rfl (by kernel_rfl) (by kernel_rfl) (by kernel_rfl) (fun _ _ _ h => h) (wanted_free rfl _) (fun W hW => by go_simp) ?_
      try simp only [Act.put, List.getElem_toArray, List.getElem_cons_succ, List.getElem_cons_zero, List.setIfInBounds_toArray, List.set_cons_succ, List.set_cons_zero]
      refine wpAnyC_take 1 (.int .i64 6) rfl (by kernel_rfl) (by kernel_rfl) (by kernel_rfl) (fun _ _ _ h => h) (wanted_free rfl _) (fun W hW => by go_simp) ?_
      try simp only [Act.put, List.getElem_toArray, List.getElem_cons_succ, List.getElem_cons_zero, List.setIfInBounds_toArray, List.set_cons_succ, List.set_cons_zero]
      refine wpAnyC_take 2 (.int .i64 24) rfl (by kernel_rfl) (by kernel_rfl) (by kernel_rfl) (fun _ _ _ h => h) (wanted_free rfl _) (fun W hW => by go_simp; try rfl) ?_
      try simp only [Act.put, List.getElem_toArray, List.getElem_cons_succ, List.getElem_cons_zero, List.setIfInBounds_toArray, List.set_cons_succ, List.set_cons_zero]
      refine wpAnyC_take 3 (.int .i64 44) rfl (by kernel_rfl) (by kernel_rfl) (by kernel_rfl) (fun _ _ _ h => h) (wanted_free rfl _) (fun W hW => by go_simp; try rfl) ?_
      try simp only [Act.put, List.getElem_toArray, List.getElem_cons_succ, List.getElem_cons_zero, List.setIfInBounds_toArray, List.set_cons_succ, List.set_cons_zero]
      refine wpAnyC_take 4 (.slice (some ⟨g, 44, none⟩) 4 4) rfl (by kernel_rfl) (by kernel_rfl) (by kernel_rfl) (fun _ _ _ h => h) (wanted_free rfl _) (fun W hW => by go_simp) ?_
      try simp only [Act.put, List.getElem_toArray, List.getElem_cons_succ, List.getElem_cons_zero, List.setIfInBounds_toArray, List.set_cons_succ, List.set_cons_zero]
      refine wpAnyC_take 5 (.int .u32 p.w6) rfl (by kernel_rfl) (by kernel_rfl) (by kernel_rfl) (fun _ _ _ h => h) (wanted_free rfl _) (fun W hW => by go_simp) ?_
      try simp only [Act.put, List.getElem_toArray, List.getElem_cons_succ, List.getElem_cons_zero, List.setIfInBounds_toArray, List.set_cons_succ, List.set_cons_zero]
      refine wpAnyC_take 6 (.int .u64 p.w6) rfl (by kernel_rfl) (by kernel_rfl) (by kernel_rfl) (fun _ _ _ h => h) (wanted_free rfl _) (fun W hW => by have := hu'.out p.w6 (by simp); go_simp; first | omega | (rw [IntKind.wrap_u64]; omega)) ?_
      try simp only [Act.put, List.getElem_toArray, List.getElem_cons_succ, List.getElem_cons_zero, List.setIfInBounds_toArray, List.set_cons_succ, List.set_cons_zero]
      have q0 := Kpt.mk (k7.out.below (below_drew _))
      obtain ⟨U0, hU0⟩ : ∃ W, W = wr.drew := ⟨_, rfl⟩
      rw [← hU0] at q0
      refine wpAnyC_world hU0 ?_
      clear hU0
      refine wpAnyC_one 7 (q0.out.bx) rfl (by kernel_rfl) (wanted_free rfl _) (fun KA hKA => ?_)
      go_simp
      refine (hN.out _ p.w6 4 (.inr ⟨rfl, by simp⟩)).mono ?_
      rintro e U1 ⟨nb, nz, rfl, no, nbel, nnew⟩
      have q1 := Kpt.mk (q0.out.below nbel)
      have nlen := own_len no
      have nrd := Kpt.mk (own_rd no)
      clear no nbel
      refine hKA _ _ ?_
      clear hKA KA
      try simp only [Act.put, List.getElem_toArray, List.getElem_cons_succ, List.getElem_cons_zero, List.setIfInBounds_toArray, List.set_cons_succ, List.set_cons_zero]
      refine wpAnyC_one 8 (q1.out.bx) rfl (by kernel_rfl) (wanted_free rfl _) (fun KA hKA => ?_)
      refine wp_copy_at (.tmp 47) (.tmp 50) rfl w.heap.size g (44) 48 (4) (4) _ nz _ rfl rfl q1.out.own nrd.out (by omega) (by omega) (by omega) ?_
      intro U2 ho2 hg2
      have k8 := Kpt.mk (q1.out.copy ho2 hg2 (by omega) (by omega))
      skip
      rw [nlen]
      clear ho2 hg2
      refine hKA _ _ ?_
      clear hKA KA
      try simp only [Act.put, List.getElem_toArray, List.getElem_cons_succ, List.getElem_cons_zero, List.setIfInBounds_toArray, List.set_cons_succ, List.set_cons_zero]
      refine wpAnyC_done (k8.out.bx) (by kernel_rfl) ?_
      clear q0 q1 nrd
      go_wp2_with fail
      go_roundw
      case rel => exact ⟨7, _, by omega, by go_num, k8⟩
      case measure => simp [intOf]
    · go_wp2
      go_ret
      exact ⟨g, zz, rfl, k7.out.own, k7.out.bel, k7.out.z0, k7.out.z1⟩
end Go.Proofs.Ytdplndlmdhpfaab
