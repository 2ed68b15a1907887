/-
  The contracts of fix and Fixed.
-/
import Derived.Test.YtglfkpdbgddpdaaSBox
import Derived.Test.YtglfkpdbgddpdaaSForm
namespace Go.Proofs.Ytglfkpdbgddpdaa
open Go.RowKit
set_option linter.unusedVariables false
set_option linter.unusedSimpArgs false

theorem or_info : bits BinOp.or IntKind.u8 112 128 = 240 := by decide

def fixA (k : Int) (m : Int) : List Int := [m, 0, k, 0, 0, 0, 0, 10, 0, 0, 0, 0, 0, 0, 0, 0, 0, 0]

theorem fix_bytes (m key info code : Int) (fb : List Int) (f0 f1 f2 : Int) (hfb : fb = [f0, f1, f2]) (h0 : 0 ≤ info) (h1 : info < 4294967296) (h2 : 0 ≤ code) (h3 : code ≤ 65535) :
    over (B.asc (B.asc (fixA key m) 3 4 info 4) 12 2 code 2) 15 fb = [m, 0, key, info / 16777216, info / 65536 % 256, info / 256 % 256, info % 256, 10, 0, 0, 0, 0, code / 256, code % 256, 0] ++ fb := by
  subst hfb
  simp [B.asc, fixA, over]
  omega

theorem own_of_block {w w' : World} {b n : Nat} {v : Value} {zs : List Value} (h : w.ownsRow b 5 1 v n zs) (hb : ∀ g, v.ownBlock = some g → w'.heap[g]? = w.heap[g]?) : w'.ownsRow b 5 1 v n zs := by
  refine ⟨h.1, ?_⟩
  rcases h.2 with hn | ⟨g, cap, cur, rfl, h0, hgg, rest⟩
  · exact .inl hn
  · exact .inr ⟨g, cap, cur, rfl, h0, (hb g rfl).trans hgg, rest⟩

theorem Box.mk0 {w : World} {b : Nat} {s : Sn} {cs : Array Value} (h : ∀ i, w.cell? ⟨b, i, none⟩ = cs[i]?) (e : s.vals = cs) : Box w b s := fun i => by rw [e]; exact h i

set_option maxRecDepth 100000 in
set_option maxHeartbeats 2000000 in
theorem fix_any (s : Sn) (hs : s.wf) (hform : s.form = true) (hinfo : s.info < 4294967296) (w : World) :
    Calls Try.prog 19 #[.agg s.vals] w fun e w' => ∃ g, e = .returned (.slice (some ⟨g, 0, none⟩) 18 18) ∧ New w w' (.slice (some ⟨g, 0, none⟩) 18 18) s.fixedB := by
  obtain ⟨s', hs'⟩ : ∃ s', s' = s := ⟨_, rfl⟩
  obtain ⟨key, code, info, hi, field, bit, hf, ic⟩ := s
  obtain ⟨⟨k0, k1⟩, ⟨d0, d1⟩, ⟨i0, i1⟩, _, _⟩ := hs
  simp only at k0 k1 d0 d1 i0 i1 hinfo
  rw [← hs'] at hform
  have hfb := fun w => Kpt.mk (fieldBytes_any s' hform w)
  have hvals : s'.vals = #[.int .u8 key, .int .u16 code, .int .u64 info, .bool hi, .int .i64 field, .int .i64 bit, .bool hf, .bool ic] := by rw [hs']; rfl
  have hfix : Kpt (∀ m, m = (if hi then 240 else 112) → over (B.asc (B.asc (fixA key m) 3 4 info 4) 12 2 code 2) 15 s'.fieldB = s'.fixedB) := ⟨fun m hm => by
    rw [fix_bytes m key info code s'.fieldB _ _ _ rfl i0 hinfo d0 d1, hm, hs']; rfl⟩
  simp only [Sn.vals]
  replace hs' := Kpt.mk hs'
  replace hform := Kpt.mk hform
  replace hvals := Kpt.mk hvals
  cases hi with
  | true =>
    have H : Kpt (∀ w1 : World, w1.ownsRow w.heap.size 5 1 (.slice (some ⟨w.heap.size + 1, 0, none⟩) 18 18) 18 (cels (List.replicate 18 0)) → Calls Try.prog 27 #[.slice (some ⟨w.heap.size + 1, 0, none⟩) 18 18, .int .i64 3, .int .i64 4, .int .u64 info] ((((w1.setCell ⟨w.heap.size + 1, 0, none⟩ (.int .u8 112)).setCell ⟨w.heap.size + 1, 0, none⟩ (.int .u8 (bits BinOp.or IntKind.u8 112 128))).setCell ⟨w.heap.size + 1, 2, none⟩ (.int .u8 key)).setCell ⟨w.heap.size + 1, 7, none⟩ (.int .u8 10)) fun e w' => ∃ g, e = .returned (.slice (some ⟨g, 0, none⟩) 18 18) ∧ New ((((w1.setCell ⟨w.heap.size + 1, 0, none⟩ (.int .u8 112)).setCell ⟨w.heap.size + 1, 0, none⟩ (.int .u8 (bits BinOp.or IntKind.u8 112 128))).setCell ⟨w.heap.size + 1, 2, none⟩ (.int .u8 key)).setCell ⟨w.heap.size + 1, 7, none⟩ (.int .u8 10)) w' (.slice (some ⟨g, 0, none⟩) 18 18) (B.asc (fixA key (bits BinOp.or IntKind.u8 112 128)) 3 4 info 4)) := by
      refine ⟨fun w1 h1 => put_new' (w.heap.size + 1) 18 (fixA key (bits BinOp.or IntKind.u8 112 128)) 3 4 info ((((w1.setCell ⟨w.heap.size + 1, 0, none⟩ (.int .u8 112)).setCell ⟨w.heap.size + 1, 0, none⟩ (.int .u8 (bits BinOp.or IntKind.u8 112 128))).setCell ⟨w.heap.size + 1, 2, none⟩ (.int .u8 key)).setCell ⟨w.heap.size + 1, 7, none⟩ (.int .u8 10)) w.heap.size rfl (own_set (own_set (own_set (own_set h1 0 112) 0 (bits BinOp.or IntKind.u8 112 128)) 2 key) 7 10) (by decide) (by decide) (by decide) (by decide) i0 (by simpa using hinfo)⟩
    have H2 : Kpt (∀ (w2 : World) (g b : Nat), w2.ownsRow b 5 1 (.slice (some ⟨g, 0, none⟩) 18 18) 18 (cels (B.asc (fixA key (bits BinOp.or IntKind.u8 112 128)) 3 4 info 4)) → Calls Try.prog 27 #[.slice (some ⟨g, 0, none⟩) 18 18, .int .i64 12, .int .i64 2, .int .u64 code] w2 fun e w' => ∃ g, e = .returned (.slice (some ⟨g, 0, none⟩) 18 18) ∧ New w2 w' (.slice (some ⟨g, 0, none⟩) 18 18) (B.asc (B.asc (fixA key (bits BinOp.or IntKind.u8 112 128)) 3 4 info 4) 12 2 code 2)) := by
      refine ⟨fun w2 g b h1 => put_new' g 18 (B.asc (fixA key (bits BinOp.or IntKind.u8 112 128)) 3 4 info 4) 12 2 code w2 b (by rw [B.asc_len]; rfl) h1 (by decide) (by decide) (by decide) (by decide) d0 (by omega)⟩
    go_enter Try.func19, Try.ntmps19
    go_wp2_with (first
      | (go_at_call 27; refine (H2.out w2 g2 _ ho2.out.1).mono ?_; rintro e w3 ⟨g3, rfl, ho3⟩; replace ho3 := Kpt.mk ho3)
      | (go_at_call 27; refine (H.out w1 hown.out).mono ?_; rintro e w2 ⟨g2, rfl, ho2⟩; replace ho2 := Kpt.mk ho2; have hB1 : Kpt (Box ((((w1.setCell ⟨w.heap.size + 1, 0, none⟩ (.int .u8 112)).setCell ⟨w.heap.size + 1, 0, none⟩ (.int .u8 (bits BinOp.or IntKind.u8 112 128))).setCell ⟨w.heap.size + 1, 2, none⟩ (.int .u8 key)).setCell ⟨w.heap.size + 1, 7, none⟩ (.int .u8 10)) w.heap.size s') := ⟨Box.set (Box.set (Box.set (Box.set (Box.mk0 hbox.out hvals.out) (by omega)) (by omega)) (by omega)) (by omega)⟩; have hlt1 : Kpt (w.heap.size < ((((w1.setCell ⟨w.heap.size + 1, 0, none⟩ (.int .u8 112)).setCell ⟨w.heap.size + 1, 0, none⟩ (.int .u8 (bits BinOp.or IntKind.u8 112 128))).setCell ⟨w.heap.size + 1, 2, none⟩ (.int .u8 key)).setCell ⟨w.heap.size + 1, 7, none⟩ (.int .u8 10)).heap.size) := ⟨Nat.lt_of_lt_of_le hlt.out (by simp)⟩; have hB2 : Kpt (Box w2 w.heap.size s') := ⟨Box.below hB1.out ho2.out.2 hlt1.out⟩; have hw2 : Kpt (Below w.heap.size w w2) := ⟨((((hbel.out.setCell (Nat.le_succ _) _).setCell (Nat.le_succ _) _).setCell (Nat.le_succ _) _).setCell (Nat.le_succ _) _).trans (ho2.out.2.mono (Nat.le_of_lt hlt1.out))⟩; have c1 := hB2.out 1; rw [hvals.out] at c1; simp at c1)
      | (at_make; refine wpList_make_box w rfl _ _ rfl 18 rfl rfl (by decide) ?_; intro w1 hbox hown hbel; have hlt : Kpt (w.heap.size < w1.heap.size) := ⟨by have := (World.ownsRow.lt hown.out (w.heap.size + 1) rfl).2; omega⟩; have c0 := hbox.out 0; have c2 := hbox.out 2; have c3 := hbox.out 3; simp at c0 c2 c3; have p0 := own_facts hown.out 0 (by decide); have f0 := hown.out.frozenAt 0; have p2 := own_facts hown.out 2 (by decide); have f2 := hown.out.frozenAt 2; have p7 := own_facts hown.out 7 (by decide); have f7 := hown.out.frozenAt 7; simp at p0 p2 p7))
    have hlt2 : Kpt (w.heap.size < w2.heap.size) := ⟨Nat.lt_of_lt_of_le hlt1.out ho2.out.2.size⟩
    have hB3 : Kpt (Box w3 w.heap.size s') := ⟨Box.below hB2.out ho3.out.2 hlt2.out⟩
    have hw3 : Kpt (Below w.heap.size w w3) := ⟨hw2.out.trans (ho3.out.2.mono (Nat.le_of_lt hlt2.out))⟩
    have hg3 : Kpt (w.heap.size < g3) := ⟨by have := (World.ownsRow.lt ho3.out.1 g3 rfl).1; have := hlt2.out; omega⟩
    have hg3' : Kpt (g3 < w3.heap.size) := ⟨(World.ownsRow.lt ho3.out.1 g3 rfl).2⟩
    clear hown hbox hbel c0 c2 c3 p0 f0 p2 f2 p7 f7 hB1 hlt1 c1 hB2 hw2 H H2
    refine wp_region_any (by kernel_rfl) ?_
    refine wpAny_of_C (C := fun W => Box W w.heap.size s') _ _ _ _ ?_
    refine wpAnyC_take 0 (.slice (some ⟨g3, 0, none⟩) 18 18) rfl (by kernel_rfl) (by kernel_rfl) (by kernel_rfl) (fun _ _ _ h => h) (by rfl) (fun W _ => by go_simp) ?_
    refine wpAnyC_take 1 (.slice (some ⟨g3, 15, none⟩) 3 3) rfl (by kernel_rfl) (by kernel_rfl) (by kernel_rfl) (fun _ _ _ h => h) (by rfl) (fun W _ => by go_simp) ?_
    refine wpAnyC_take 2 (.agg s'.vals) rfl (by kernel_rfl) (by kernel_rfl) (by kernel_rfl) (fun _ _ _ h => h) (by rfl) (fun W hW => by rw [hvals.out]; have q0 := hW 0; have q1 := hW 1; have q2 := hW 2; have q3 := hW 3; have q4 := hW 4; have q5 := hW 5; have q6 := hW 6; have q7 := hW 7; rw [hvals.out] at q0 q1 q2 q3 q4 q5 q6 q7; simp at q0 q1 q2 q3 q4 q5 q6 q7; go_simp) ?_
    change wpAnyC _ _ _ _ _ _ _ _ w3.drew
    refine wpAnyC_one 3 (Box.drew hB3.out) rfl (by kernel_rfl) (by rfl) (fun K hK => ?_)
    go_simp
    refine (hfb w3.drew).out.mono ?_
    rintro e w4 ⟨g4, rfl, ho4⟩
    dsimp only
    refine hK _ _ ?_
    clear hK K
    have hb4 : Below w3.heap.size w3 w4 := Below.trans (Below.drew (Below.refl _ w3)) (show Below w3.heap.size w3.drew w4 from ho4.2)
    have hB4 : Box w4 w.heap.size s' := Box.below hB3.out hb4 (Nat.lt_trans hg3.out hg3'.out)
    have ho3' : w4.ownsRow w2.heap.size 5 1 (.slice (some ⟨g3, 0, none⟩) 18 18) 18 (cels (B.asc (B.asc (fixA key (bits BinOp.or IntKind.u8 112 128)) 3 4 info 4) 12 2 code 2)) := by
      have := ho3.out.1
      rw [B.asc_len, B.asc_len] at this
      exact own_of_block this (fun g hg => by simp [Value.ownBlock] at hg; subst hg; exact hb4.block _ hg3'.out)
    refine wpAnyC_one 4 hB4 rfl (by kernel_rfl) (by rfl) (fun K hK => ?_)
    refine wp_copy_at (.tmp 30) (.tmp 32) rfl w2.heap.size g3 15 18 3 3 _ s'.fieldB (.slice (some ⟨g4, 0, none⟩) 3 3) rfl rfl ho3' (own_rd ho4.1) (by simp [Sn.fieldB]) (by simp [Sn.fieldB]) (by simp [Sn.fieldB]) ?_
    intro w5 ho5 hg5
    refine hK _ _ ?_
    clear hK K
    refine wpAnyC_done (fun i => (World.cell?_of_block (w := w4) (a := ⟨w.heap.size, i, none⟩) (hg5.block w.heap.size (by have := hg3.out; have := hg3'.out; have := hb4.size; omega) (fun e => by have := hg3.out; simp at e; omega))).trans (hB4 i)) (by kernel_rfl) ?_
    have hw5 : Kpt (Below w.heap.size w w5) := ⟨(hw3.out.trans (hb4.mono (Nat.le_of_lt (Nat.lt_trans hg3.out hg3'.out)))).grown hg5 (by have := hg3.out; have := hg3'.out; have := hb4.size; omega) (fun k h => by simp at h; subst h; exact Nat.le_of_lt hg3.out)⟩
    rw [hfix.out _ (by simp [or_info])] at ho5
    replace ho5 := Kpt.mk ho5
    clear hB4 ho3' hb4 ho4 hg5
    go_wp2
    go_ret
    refine ⟨g3, rfl, ?_, hw5.out⟩
    rw [← hs'.out]
    exact own_base ho5.out (Nat.le_of_lt hlt2.out)
  | false =>
    have H : Kpt (∀ w1 : World, w1.ownsRow w.heap.size 5 1 (.slice (some ⟨w.heap.size + 1, 0, none⟩) 18 18) 18 (cels (List.replicate 18 0)) → Calls Try.prog 27 #[.slice (some ⟨w.heap.size + 1, 0, none⟩) 18 18, .int .i64 3, .int .i64 4, .int .u64 info] (((w1.setCell ⟨w.heap.size + 1, 0, none⟩ (.int .u8 112)).setCell ⟨w.heap.size + 1, 2, none⟩ (.int .u8 key)).setCell ⟨w.heap.size + 1, 7, none⟩ (.int .u8 10)) fun e w' => ∃ g, e = .returned (.slice (some ⟨g, 0, none⟩) 18 18) ∧ New (((w1.setCell ⟨w.heap.size + 1, 0, none⟩ (.int .u8 112)).setCell ⟨w.heap.size + 1, 2, none⟩ (.int .u8 key)).setCell ⟨w.heap.size + 1, 7, none⟩ (.int .u8 10)) w' (.slice (some ⟨g, 0, none⟩) 18 18) (B.asc (fixA key (112)) 3 4 info 4)) := by
      refine ⟨fun w1 h1 => put_new' (w.heap.size + 1) 18 (fixA key (112)) 3 4 info (((w1.setCell ⟨w.heap.size + 1, 0, none⟩ (.int .u8 112)).setCell ⟨w.heap.size + 1, 2, none⟩ (.int .u8 key)).setCell ⟨w.heap.size + 1, 7, none⟩ (.int .u8 10)) w.heap.size rfl (own_set (own_set (own_set h1 0 112) 2 key) 7 10) (by decide) (by decide) (by decide) (by decide) i0 (by simpa using hinfo)⟩
    have H2 : Kpt (∀ (w2 : World) (g b : Nat), w2.ownsRow b 5 1 (.slice (some ⟨g, 0, none⟩) 18 18) 18 (cels (B.asc (fixA key (112)) 3 4 info 4)) → Calls Try.prog 27 #[.slice (some ⟨g, 0, none⟩) 18 18, .int .i64 12, .int .i64 2, .int .u64 code] w2 fun e w' => ∃ g, e = .returned (.slice (some ⟨g, 0, none⟩) 18 18) ∧ New w2 w' (.slice (some ⟨g, 0, none⟩) 18 18) (B.asc (B.asc (fixA key (112)) 3 4 info 4) 12 2 code 2)) := by
      refine ⟨fun w2 g b h1 => put_new' g 18 (B.asc (fixA key (112)) 3 4 info 4) 12 2 code w2 b (by rw [B.asc_len]; rfl) h1 (by decide) (by decide) (by decide) (by decide) d0 (by omega)⟩
    go_enter Try.func19, Try.ntmps19
    go_wp2_with (first
      | (go_at_call 27; refine (H2.out w2 g2 _ ho2.out.1).mono ?_; rintro e w3 ⟨g3, rfl, ho3⟩; replace ho3 := Kpt.mk ho3)
      | (go_at_call 27; refine (H.out w1 hown.out).mono ?_; rintro e w2 ⟨g2, rfl, ho2⟩; replace ho2 := Kpt.mk ho2; have hB1 : Kpt (Box (((w1.setCell ⟨w.heap.size + 1, 0, none⟩ (.int .u8 112)).setCell ⟨w.heap.size + 1, 2, none⟩ (.int .u8 key)).setCell ⟨w.heap.size + 1, 7, none⟩ (.int .u8 10)) w.heap.size s') := ⟨Box.set (Box.set (Box.set (Box.mk0 hbox.out hvals.out) (by omega)) (by omega)) (by omega)⟩; have hlt1 : Kpt (w.heap.size < (((w1.setCell ⟨w.heap.size + 1, 0, none⟩ (.int .u8 112)).setCell ⟨w.heap.size + 1, 2, none⟩ (.int .u8 key)).setCell ⟨w.heap.size + 1, 7, none⟩ (.int .u8 10)).heap.size) := ⟨Nat.lt_of_lt_of_le hlt.out (by simp)⟩; have hB2 : Kpt (Box w2 w.heap.size s') := ⟨Box.below hB1.out ho2.out.2 hlt1.out⟩; have hw2 : Kpt (Below w.heap.size w w2) := ⟨(((hbel.out.setCell (Nat.le_succ _) _).setCell (Nat.le_succ _) _).setCell (Nat.le_succ _) _).trans (ho2.out.2.mono (Nat.le_of_lt hlt1.out))⟩; have c1 := hB2.out 1; rw [hvals.out] at c1; simp at c1)
      | (at_make; refine wpList_make_box w rfl _ _ rfl 18 rfl rfl (by decide) ?_; intro w1 hbox hown hbel; have hlt : Kpt (w.heap.size < w1.heap.size) := ⟨by have := (World.ownsRow.lt hown.out (w.heap.size + 1) rfl).2; omega⟩; have c0 := hbox.out 0; have c2 := hbox.out 2; have c3 := hbox.out 3; simp at c0 c2 c3; have p0 := own_facts hown.out 0 (by decide); have f0 := hown.out.frozenAt 0; have p2 := own_facts hown.out 2 (by decide); have f2 := hown.out.frozenAt 2; have p7 := own_facts hown.out 7 (by decide); have f7 := hown.out.frozenAt 7; simp at p0 p2 p7))
    have hlt2 : Kpt (w.heap.size < w2.heap.size) := ⟨Nat.lt_of_lt_of_le hlt1.out ho2.out.2.size⟩
    have hB3 : Kpt (Box w3 w.heap.size s') := ⟨Box.below hB2.out ho3.out.2 hlt2.out⟩
    have hw3 : Kpt (Below w.heap.size w w3) := ⟨hw2.out.trans (ho3.out.2.mono (Nat.le_of_lt hlt2.out))⟩
    have hg3 : Kpt (w.heap.size < g3) := ⟨by have := (World.ownsRow.lt ho3.out.1 g3 rfl).1; have := hlt2.out; omega⟩
    have hg3' : Kpt (g3 < w3.heap.size) := ⟨(World.ownsRow.lt ho3.out.1 g3 rfl).2⟩
    clear hown hbox hbel c0 c2 c3 p0 f0 p2 f2 p7 f7 hB1 hlt1 c1 hB2 hw2 H H2
    refine wp_region_any (by kernel_rfl) ?_
    refine wpAny_of_C (C := fun W => Box W w.heap.size s') _ _ _ _ ?_
    refine wpAnyC_take 0 (.slice (some ⟨g3, 0, none⟩) 18 18) rfl (by kernel_rfl) (by kernel_rfl) (by kernel_rfl) (fun _ _ _ h => h) (by rfl) (fun W _ => by go_simp) ?_
    refine wpAnyC_take 1 (.slice (some ⟨g3, 15, none⟩) 3 3) rfl (by kernel_rfl) (by kernel_rfl) (by kernel_rfl) (fun _ _ _ h => h) (by rfl) (fun W _ => by go_simp) ?_
    refine wpAnyC_take 2 (.agg s'.vals) rfl (by kernel_rfl) (by kernel_rfl) (by kernel_rfl) (fun _ _ _ h => h) (by rfl) (fun W hW => by rw [hvals.out]; have q0 := hW 0; have q1 := hW 1; have q2 := hW 2; have q3 := hW 3; have q4 := hW 4; have q5 := hW 5; have q6 := hW 6; have q7 := hW 7; rw [hvals.out] at q0 q1 q2 q3 q4 q5 q6 q7; simp at q0 q1 q2 q3 q4 q5 q6 q7; go_simp) ?_
    change wpAnyC _ _ _ _ _ _ _ _ w3.drew
    refine wpAnyC_one 3 (Box.drew hB3.out) rfl (by kernel_rfl) (by rfl) (fun K hK => ?_)
    go_simp
    refine (hfb w3.drew).out.mono ?_
    rintro e w4 ⟨g4, rfl, ho4⟩
    dsimp only
    refine hK _ _ ?_
    clear hK K
    have hb4 : Below w3.heap.size w3 w4 := Below.trans (Below.drew (Below.refl _ w3)) (show Below w3.heap.size w3.drew w4 from ho4.2)
    have hB4 : Box w4 w.heap.size s' := Box.below hB3.out hb4 (Nat.lt_trans hg3.out hg3'.out)
    have ho3' : w4.ownsRow w2.heap.size 5 1 (.slice (some ⟨g3, 0, none⟩) 18 18) 18 (cels (B.asc (B.asc (fixA key (112)) 3 4 info 4) 12 2 code 2)) := by
      have := ho3.out.1
      rw [B.asc_len, B.asc_len] at this
      exact own_of_block this (fun g hg => by simp [Value.ownBlock] at hg; subst hg; exact hb4.block _ hg3'.out)
    refine wpAnyC_one 4 hB4 rfl (by kernel_rfl) (by rfl) (fun K hK => ?_)
    refine wp_copy_at (.tmp 30) (.tmp 32) rfl w2.heap.size g3 15 18 3 3 _ s'.fieldB (.slice (some ⟨g4, 0, none⟩) 3 3) rfl rfl ho3' (own_rd ho4.1) (by simp [Sn.fieldB]) (by simp [Sn.fieldB]) (by simp [Sn.fieldB]) ?_
    intro w5 ho5 hg5
    refine hK _ _ ?_
    clear hK K
    refine wpAnyC_done (fun i => (World.cell?_of_block (w := w4) (a := ⟨w.heap.size, i, none⟩) (hg5.block w.heap.size (by have := hg3.out; have := hg3'.out; have := hb4.size; omega) (fun e => by have := hg3.out; simp at e; omega))).trans (hB4 i)) (by kernel_rfl) ?_
    have hw5 : Kpt (Below w.heap.size w w5) := ⟨(hw3.out.trans (hb4.mono (Nat.le_of_lt (Nat.lt_trans hg3.out hg3'.out)))).grown hg5 (by have := hg3.out; have := hg3'.out; have := hb4.size; omega) (fun k h => by simp at h; subst h; exact Nat.le_of_lt hg3.out)⟩
    rw [hfix.out _ (by simp)] at ho5
    replace ho5 := Kpt.mk ho5
    clear hB4 ho3' hb4 ho4 hg5
    go_wp2
    go_ret
    refine ⟨g3, rfl, ?_, hw5.out⟩
    rw [← hs'.out]
    exact own_base ho5.out (Nat.le_of_lt hlt2.out)

theorem New.trans {a b c : World} {v : Value} {zs : List Int} (hb : Below a.heap.size a b) (h : New b c v zs) : New a c v zs := ⟨own_base h.1 hb.size, hb.trans (h.2.mono hb.size)⟩

theorem box_alloc (w : World) (cs : Array Value) (t : TypeId) : Below w.heap.size w (w.alloc (.cells cs t)) := (Below.refl _ _).alloc (Nat.le_refl _) _

end Go.Proofs.Ytglfkpdbgddpdaa
