/-
  The contracts of infoPart and fieldPart.
-/
import Derived.Test.YtglfkpdbgddpdaaSFixd2
namespace Go.Proofs.Ytglfkpdbgddpdaa
open Go.RowKit
set_option linter.unusedVariables false
set_option linter.unusedSimpArgs false

theorem wpList_copy_at {w : World} {ops : Array Oper} {rest : List Oper} {o : Oper} {a : Act} {Q : Exit → Act → World → Prop} (hgd : o.guard = none) (d s : Operand)
    (ho : o.op = .call { callee := .builtin .copy, args := #[d, s], argTypes := #[27, 27] })
    (base g off n dLen dCap : Nat) (zs ds : List Int) (sv : Value) (hd : a.eval d = .slice (some ⟨g, off, none⟩) dLen dCap) (hs : a.eval s = sv)
    (hown : w.ownsRow base 5 1 (.slice (some ⟨g, 0, none⟩) n n) n (cels zs)) (hrd : RdAt w sv ds) (hdl : ds.length ≤ dLen) (hfit : off + ds.length ≤ n) (hpos : 0 < ds.length)
    (h : ∀ w', w'.ownsRow base 5 1 (.slice (some ⟨g, 0, none⟩) n n) n (cels (over zs off ds)) → w.grownBy w' (some g) → wpList Try.prog ops Q rest (a.put o.dst (goInt ds.length)) w') : wpList Try.prog ops Q (o :: rest) a w := by
  refine wpList_plain hgd fun K hK => ?_
  exact wp_copy_at d s ho base g off n dLen dCap zs ds sv hd hs hown hrd hdl hfit hpos (fun w' h1 h2 => hK _ _ (h w' h1 h2))

/-- A list of bytes laid anew. -/
theorem rd_alloc (w : World) (zs : List Int) (n : Nat) (hn : n = zs.length) : RdAt (w.alloc (.cells (cels zs).toArray 5)) (.slice (some ⟨w.heap.size, 0, none⟩) n n) zs := by
  subst hn
  refine ⟨_, _, rfl, (fun h => by cases h), Nat.le_refl _, .inr ⟨w.heap.size, 0, rfl, fun j u hu => ?_⟩⟩
  have : (w.alloc (.cells (cels zs).toArray 5)).cell? ⟨w.heap.size, 0 + j, none⟩ = (cels zs).toArray[j]? := by simp
  rw [this, List.getElem?_toArray]
  exact hu

theorem info_bytes (info : Int) (h0 : 0 ≤ info) (h1 : info < 18446744073709551616) :
    B.asc (over (List.replicate 12 0) 0 [0, 10, 128]) 4 8 info 8 = [0, 10, 128, 0, info / 72057594037927936, info / 281474976710656 % 256, info / 1099511627776 % 256, info / 4294967296 % 256, info / 16777216 % 256, info / 65536 % 256, info / 256 % 256, info % 256] := by
  simp [B.asc, over, List.replicate]
  omega

set_option maxRecDepth 100000 in
set_option maxHeartbeats 1000000 in
theorem infoPart_any (s : Sn) (hs : s.wf) (w : World) :
    Calls Try.prog 29 #[.agg s.vals] w fun e w' => ∃ g, e = .returned (.slice (some ⟨g, 0, none⟩) 12 12) ∧ New w w' (.slice (some ⟨g, 0, none⟩) 12 12) s.infoB := by
  obtain ⟨key, code, info, hi, field, bit, hf, ic⟩ := s
  obtain ⟨⟨k0, k1⟩, ⟨d0, d1⟩, ⟨i0, i1⟩, _, _⟩ := hs
  simp only at k0 k1 d0 d1 i0 i1
  have hB : Kpt (Sn.infoB ⟨key, code, info, hi, field, bit, hf, ic⟩ = B.asc (over (List.replicate 12 0) 0 [0, 10, 128]) 4 8 info 8) := ⟨by rw [info_bytes info i0 i1]; rfl⟩
  have H2 : Kpt (∀ (w2 : World) (g b : Nat), w2.ownsRow b 5 1 (.slice (some ⟨g, 0, none⟩) 12 12) 12 (cels (over (List.replicate 12 0) 0 [0, 10, 128])) → Calls Try.prog 27 #[.slice (some ⟨g, 0, none⟩) 12 12, .int .i64 4, .int .i64 8, .int .u64 info] w2 fun e w' => ∃ g, e = .returned (.slice (some ⟨g, 0, none⟩) 12 12) ∧ New w2 w' (.slice (some ⟨g, 0, none⟩) 12 12) (B.asc (over (List.replicate 12 0) 0 [0, 10, 128]) 4 8 info 8)) := by
    refine ⟨fun w2 g b h1 => put_new' g 12 (over (List.replicate 12 0) 0 [0, 10, 128]) 4 8 info w2 b (by decide) h1 (by decide) (by decide) (by decide) (by decide) i0 (by omega)⟩
  simp only [Sn.vals]
  go_enter Try.func29, Try.ntmps29
  go_wp2_with (first
    | (go_at_call 27; refine (H2.out w2 _ _ ho2.out).mono ?_; rintro e w3 ⟨g3, rfl, ho3⟩; replace ho3 := Kpt.mk ho3)
    | (refine wpList_copy_at (w := w1.alloc (.cells (cels [0, 10, 128]).toArray 5)) rfl (.tmp 5) (.tmp 6) rfl w.heap.size (w.heap.size + 1) 0 12 12 12 (List.replicate 12 0) [0, 10, 128] (.slice (some ⟨w1.heap.size, 0, none⟩) 3 3) rfl rfl (own_of_block hown.out (fun g hg => by simp [Value.ownBlock] at hg; subst hg; exact Below.heap_alloc _ _ _ hlt.out)) (rd_alloc w1 [0, 10, 128] 3 rfl) (by decide) (by decide) (by decide) ?_; intro w2 ho2 hg2; have hw2 : Kpt (Below w.heap.size w w2) := ⟨(hbel.out.alloc (by have := hlt.out; omega) _).grown hg2 (by have := hlt.out; simp; omega) (fun k h => by simp at h; omega)⟩; replace ho2 := Kpt.mk ho2; have c2 : w2.cell? ⟨w.heap.size, 2, none⟩ = some (.int .u64 info) := (World.cell?_of_block (w := w1) (a := ⟨w.heap.size, 2, none⟩) ((hg2.block w.heap.size (by have := hlt.out; simp; omega) (fun e => by simp at e)).trans (Below.heap_alloc _ _ _ (by have := hlt.out; omega)))).trans (hbox.out 2); clear hg2)
    | (at_make; refine wpList_make_box w rfl _ _ rfl 12 rfl rfl (by decide) ?_; intro w1 hbox hown hbel; have hlt : Kpt (w.heap.size + 1 < w1.heap.size) := ⟨(World.ownsRow.lt hown.out (w.heap.size + 1) rfl).2⟩))
  go_ret
  refine ⟨g3, rfl, ?_⟩
  rw [hB.out]
  exact New.trans hw2.out ho3.out

theorem part_bytes (s : Sn) : over (over (List.replicate 8 0) 0 [2, 6]) 4 s.fieldB = s.partB := by
  simp [over, Sn.fieldB, Sn.partB, List.replicate]

set_option maxRecDepth 100000 in
set_option maxHeartbeats 1000000 in
theorem fieldPart_any (s : Sn) (hform : s.form = true) (w : World) :
    Calls Try.prog 30 #[.agg s.vals] w fun e w' => ∃ g, e = .returned (.slice (some ⟨g, 0, none⟩) 8 8) ∧ New w w' (.slice (some ⟨g, 0, none⟩) 8 8) s.partB := by
  obtain ⟨s', hs'⟩ : ∃ s', s' = s := ⟨_, rfl⟩
  obtain ⟨key, code, info, hi, field, bit, hf, ic⟩ := s
  rw [← hs'] at hform ⊢
  have hfb := fun w => Kpt.mk (fieldBytes_any s' hform w)
  have hvals : s'.vals = #[.int .u8 key, .int .u16 code, .int .u64 info, .bool hi, .int .i64 field, .int .i64 bit, .bool hf, .bool ic] := by rw [hs']; rfl
  rw [hvals]
  replace hvals := Kpt.mk hvals
  clear hs'
  replace hform := Kpt.mk hform
  go_enter Try.func30, Try.ntmps30
  go_wp2_with (first
    | (refine wpList_copy_at (w := w1.alloc (.cells (cels [2, 6]).toArray 5)) rfl (.tmp 5) (.tmp 6) rfl w.heap.size (w.heap.size + 1) 0 8 8 8 (List.replicate 8 0) [2, 6] (.slice (some ⟨w1.heap.size, 0, none⟩) 2 2) rfl rfl (own_of_block hown.out (fun g hg => by simp [Value.ownBlock] at hg; subst hg; exact Below.heap_alloc _ _ _ hlt.out)) (rd_alloc w1 [2, 6] 2 rfl) (by decide) (by decide) (by decide) ?_; intro w2 ho2 hg2; have hw2 : Kpt (Below w.heap.size w w2) := ⟨(hbel.out.alloc (by have := hlt.out; omega) _).grown hg2 (by have := hlt.out; simp; omega) (fun k h => by simp at h; omega)⟩; replace ho2 := Kpt.mk ho2; have hB2 : Kpt (Box w2 w.heap.size s') := ⟨Box.mk0 (fun i => (World.cell?_of_block (w := w1) (a := ⟨w.heap.size, i, none⟩) ((hg2.block w.heap.size (by have := hlt.out; simp; omega) (fun e => by simp at e)).trans (Below.heap_alloc _ _ _ (by have := hlt.out; omega)))).trans (hbox.out i)) hvals.out⟩; clear hg2)
    | (at_make; refine wpList_make_box w rfl _ _ rfl 8 rfl rfl (by decide) ?_; intro w1 hbox hown hbel; have hlt : Kpt (w.heap.size + 1 < w1.heap.size) := ⟨(World.ownsRow.lt hown.out (w.heap.size + 1) rfl).2⟩))
  have hlt2 : Kpt (w.heap.size + 1 < w2.heap.size) := ⟨(World.ownsRow.lt ho2.out (w.heap.size + 1) rfl).2⟩
  clear hown hbox hbel hlt
  refine wp_region_any (by kernel_rfl) ?_
  refine wpAny_of_C (C := fun W => Box W w.heap.size s') _ _ _ _ ?_
  refine wpAnyC_take 0 (.slice (some ⟨w.heap.size + 1, 0, none⟩) 8 8) rfl (by kernel_rfl) (by kernel_rfl) (by kernel_rfl) (fun _ _ _ h => h) (by rfl) (fun W _ => by go_simp) ?_
  refine wpAnyC_take 1 (.slice (some ⟨w.heap.size + 1, 4, none⟩) 4 4) rfl (by kernel_rfl) (by kernel_rfl) (by kernel_rfl) (fun _ _ _ h => h) (by rfl) (fun W _ => by go_simp) ?_
  refine wpAnyC_take 2 (.agg s'.vals) rfl (by kernel_rfl) (by kernel_rfl) (by kernel_rfl) (fun _ _ _ h => h) (by rfl) (fun W hW => by rw [hvals.out]; have q0 := hW 0; have q1 := hW 1; have q2 := hW 2; have q3 := hW 3; have q4 := hW 4; have q5 := hW 5; have q6 := hW 6; have q7 := hW 7; rw [hvals.out] at q0 q1 q2 q3 q4 q5 q6 q7; simp at q0 q1 q2 q3 q4 q5 q6 q7; go_simp) ?_
  change wpAnyC _ _ _ _ _ _ _ _ w2.drew
  refine wpAnyC_one 3 (Box.drew hB2.out) rfl (by kernel_rfl) (by rfl) (fun K hK => ?_)
  go_simp
  refine (hfb w2.drew).out.mono ?_
  rintro e w4 ⟨g4, rfl, ho4⟩
  dsimp only
  refine hK _ _ ?_
  clear hK K
  have hb4 : Below w2.heap.size w2 w4 := Below.trans (Below.drew (Below.refl _ w2)) (show Below w2.heap.size w2.drew w4 from ho4.2)
  have hB4 : Box w4 w.heap.size s' := Box.below hB2.out hb4 (by have := hlt2.out; omega)
  have ho3 : w4.ownsRow w.heap.size 5 1 (.slice (some ⟨w.heap.size + 1, 0, none⟩) 8 8) 8 (cels (over (List.replicate 8 0) 0 [2, 6])) :=
    own_of_block ho2.out (fun g hg => by simp [Value.ownBlock] at hg; subst hg; exact hb4.block _ hlt2.out)
  refine wpAnyC_one 4 hB4 rfl (by kernel_rfl) (by rfl) (fun K hK => ?_)
  refine wp_copy_at (.tmp 9) (.tmp 11) rfl w.heap.size (w.heap.size + 1) 4 8 4 4 _ s'.fieldB (.slice (some ⟨g4, 0, none⟩) 3 3) rfl rfl ho3 (own_rd ho4.1) (by simp [Sn.fieldB]) (by simp [Sn.fieldB]) (by simp [Sn.fieldB]) ?_
  intro w5 ho5 hg5
  refine hK _ _ ?_
  clear hK K
  refine wpAnyC_done (fun i => (World.cell?_of_block (w := w4) (a := ⟨w.heap.size, i, none⟩) (hg5.block w.heap.size (by have := hlt2.out; have := hb4.size; omega) (fun e => by simp at e))).trans (hB4 i)) (by kernel_rfl) ?_
  have hw5 : Kpt (Below w.heap.size w w5) := ⟨(hw2.out.trans (hb4.mono (by have := hlt2.out; omega))).grown hg5 (by have := hlt2.out; have := hb4.size; omega) (fun k h => by simp at h; omega)⟩
  rw [part_bytes] at ho5
  replace ho5 := Kpt.mk ho5
  clear hB4 ho3 hb4 ho4 hg5
  go_wp2
  go_ret
  exact ⟨_, rfl, ho5.out, hw5.out⟩
end Go.Proofs.Ytglfkpdbgddpdaa
