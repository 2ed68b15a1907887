/-
  The walks of SenseSpoils.
-/
import Derived.Test.YtglfkpdbgddpdaaSSpoil
namespace Go.Proofs.Ytglfkpdbgddpdaa
open Go.RowKit
set_option linter.unusedVariables false
set_option linter.unusedSimpArgs false

theorem rd_alloc' (w : World) (zs : List Int) (n b : Nat) (hn : n = zs.length) (hb : b = w.heap.size) : RdAt (w.alloc (.cells (cels zs).toArray 5)) (.slice (some ⟨b, 0, none⟩) n n) zs := by
  subst hb
  exact rd_alloc w zs n hn
theorem Blk.grown {w w' : World} {b : Nat} {s : Sn} {row : Option Nat} (h : Blk w b s) (hg : w.grownBy w' row) (hr : row ≠ some b) : Blk w' b s :=
  ⟨fun i => (World.cell?_of_block (w := w) (a := ⟨b, i, none⟩) (hg.block b h.lt (fun e => hr e.symm))).trans (h.box i), fun i => (World.frozen?_of_block (w := w) (a := ⟨b, i, none⟩) (hg.block b h.lt (fun e => hr e.symm))).trans (h.fz i), Nat.lt_of_lt_of_le h.lt hg.size⟩
theorem Blk.set {w : World} {b g i : Nat} {s : Sn} {u : Value} (h : Blk w b s) (hn : b ≠ g) : Blk (w.setCell ⟨g, i, none⟩ u) b s :=
  ⟨h.box.set hn, fun j => (World.frozen?_of_block (w := w) (a := ⟨b, j, none⟩) (Below.heap_setCell _ _ _ _ (fun e => hn (by simpa using e)))).trans (h.fz j), by have := h.lt; simpa using this⟩

set_option maxRecDepth 100000 in
set_option maxHeartbeats 4000000 in
theorem spoil_C_none (s : Sn) (x y : Int) (w : World) (hs : s.wf) (hform : s.form = true) (hx : 0 ≤ x ∧ x ≤ 255) (hy : 0 ≤ y ∧ y ≤ 255) (hy0 : y ≠ 0) (hr : s.info < 4294967296) (i : Nat) (hi : x % (s.fixedB.length : Int) = i) (hq : decS (turned s.fixedB i y) = none) :
    Calls Try.prog 6 #[.agg s.vals, .int .u8 x, .int .u8 y, .bool false] w fun e w' => e = .returned (.bool true) ∧ Below w.heap.size w w' := by
  have HA := fun w => Kpt.mk (awake_any w)
  have hP : OfS s s.fixedB := .inl ⟨hr, rfl⟩
  have hPl := hP.len
  have hPb := hP.bytes hs hform
  have hiP : i < s.fixedB.length := by
    have := Int.emod_lt_of_pos x (show (0 : Int) < (s.fixedB.length : Int) by omega)
    omega
  obtain ⟨hQb, hQn, hQl⟩ := turned_facts hPb hiP hy hy0
  obtain ⟨V, hV⟩ : ∃ V, V = s.vals := ⟨_, rfl⟩
  have hbox0 : Kpt (Blk (w.alloc (.cells V 25)) w.heap.size s) := ⟨by rw [hV]; exact blk_alloc w s⟩
  have HC1 : Kpt (∀ W v, RdAt W v (turned s.fixedB i y) → (∀ g, v.ownBlock = some g → g < W.heap.size) → Calls Try.prog 15 #[v] W fun e w' => e = .returned (.tuple #[.agg sn0.vals, .int .i64 3]) ∧ Below W.heap.size W w') := ⟨fun W v h1 h2 => by
    have := decode_any v _ W h1 hQb (by unfold maxLen; omega) h2
    unfold decRes at this
    rw [hq] at this
    exact this⟩
  have HC2 : Kpt (∀ W v, RdAt W v (s.fixedB.take i) → (∀ g, v.ownBlock = some g → g < W.heap.size) → Calls Try.prog 15 #[v] W fun e w' => e = .returned (.tuple #[.agg sn0.vals, .int .i64 3]) ∧ Below W.heap.size W w') := ⟨fun W v h1 h2 => by
    have := decode_any v _ W h1 (bytes_take hPb i) (by unfold maxLen; rw [List.length_take]; omega) h2
    unfold decRes at this
    rw [spoil_short hP hs hform i hiP] at this
    exact this⟩
  have HC3 : Kpt (∀ W v, RdAt W v (turned s.fixedB i y ++ [0]) → (∀ g, v.ownBlock = some g → g < W.heap.size) → Calls Try.prog 15 #[v] W fun e w' => e = .returned (.tuple #[.agg sn0.vals, .int .i64 3]) ∧ Below W.heap.size W w') := ⟨fun W v h1 h2 => by
    have := decode_any v _ W h1 (bytes_zero hQb) (by unfold maxLen; simp; omega) h2
    unfold decRes at this
    rw [spoil_long hP (bytes_zero hQb) (by simp; omega)] at this
    exact this⟩
  have H9 : Kpt (∀ W, Calls Try.prog 9 #[.agg V] W fun e w' => ∃ g, e = .returned (.tuple #[.slice (some ⟨g, 0, none⟩) 18 18, .int .i64 0]) ∧ (RdAt w' (.slice (some ⟨g, 0, none⟩) 18 18) s.fixedB ∧ g < w'.heap.size) ∧ Below W.heap.size W w') := ⟨fun W => by
    rw [hV]
    exact (fixed_ok s hs hform hr W).mono (fun e w' ⟨g, h1, h2⟩ => ⟨g, h1, ⟨own_rd h2.1, (World.ownsRow.lt h2.1 g rfl).2⟩, h2.2⟩)⟩
  obtain ⟨P, hPd⟩ : ∃ P, P = s.fixedB := ⟨_, rfl⟩
  obtain ⟨X, hX⟩ : ∃ X, X = bits .xor .u8 (P[i]?.getD 0) y := ⟨_, rfl⟩
  have hQe : turned P i y = P.set i X := by rw [hX]; rfl
  rw [← hPd] at HC1 HC2 HC3 hPl hiP hi H9
  rw [hQe] at HC1 HC3
  replace hX := Kpt.mk hX.symm
  obtain ⟨n, hn⟩ : ∃ n, n = P.length := ⟨_, rfl⟩
  have hn18 : n = 18 := by rw [hn, hPd]; exact fixedB_len s
  subst hn18
  rw [← hn] at hiP hi
  have hrem : Int.tmod x 18 = (i : Int) := by rw [Int.tmod_eq_emod_of_nonneg hx.1]; exact hi
  replace hn := Kpt.mk hn
  rw [← hV]
  obtain ⟨s', hs'⟩ : ∃ s', s' = s := ⟨_, rfl⟩
  rw [← hs'] at hbox0
  obtain ⟨key, code, info, hii, field, bit, hf, ic⟩ := s
  simp only [Sn.vals] at hV
  subst hV
  have hvs : Kpt (s'.vals = #[.int .u8 key, .int .u16 code, .int .u64 info, .bool hii, .int .i64 field, .int .i64 bit, .bool hf, .bool ic]) := ⟨by rw [hs']; rfl⟩
  simp only [Sn.vals, sn0] at HC1 HC2 HC3
  clear hs hform hP hPb hQb hQn hQl hq hPd hQe hr
  replace hs' := Kpt.mk hs'
  obtain ⟨x0, x1⟩ := hx
  obtain ⟨y0, y1⟩ := hy
  have hn0 : 0 < 18 := by omega
  go_enter Try.func6, Try.ntmps6
  go_wp2_with (first
    | (go_at_call 15; have hm := m6; refine (HC3.out _ _ (own_rd hob.out) (fun g hg => by simp [Value.ownBlock] at hg; subst hg; exact hgb.out.2)).mono ?_; rintro e w7 ⟨rfl, hN7⟩; have hB7 : Kpt (Blk w7 w.heap.size s') := ⟨hBb.out.below hN7 hBb.out.lt⟩; have hb7 : Kpt (Below w.heap.size w w7) := ⟨hbb.out.trans (hN7.mono (Nat.le_of_lt hBb.out.lt))⟩; clear hN7; have hl7 := hB7.out.lt; clear c0 c1 c2 c3 c4 c5 c6 c7; have c0 := hB7.out.box 0; rw [hvs.out] at c0; simp at c0; have c1 := hB7.out.box 1; rw [hvs.out] at c1; simp at c1; have c2 := hB7.out.box 2; rw [hvs.out] at c2; simp at c2; have c3 := hB7.out.box 3; rw [hvs.out] at c3; simp at c3; have c4 := hB7.out.box 4; rw [hvs.out] at c4; simp at c4; have c5 := hB7.out.box 5; rw [hvs.out] at c5; simp at c5; have c6 := hB7.out.box 6; rw [hvs.out] at c6; simp at c6; have c7 := hB7.out.box 7; rw [hvs.out] at c7; simp at c7)
    | (at_builtin; have hm := m6; refine wpList_append_new (w := (w6.alloc (.cells #[.int .u8 0, .int .u16 0, .int .u64 0, .bool false, .int .i64 0, .int .i64 0, .bool false, .bool false] 25)).alloc (.cells (cels [0]).toArray 5)) rfl (.tmp 72) (.tmp 73) rfl w2.heap.size (.slice (some ⟨ga, 0, none⟩) 18 capa) (.slice (some ⟨w6.heap.size + 1, 0, none⟩) 1 1) (P.set i X) [0] 18 (18 + 1) rfl rfl (own_of_block hos6.out (fun g hg => by simp [Value.ownBlock] at hg; subst hg; exact (Below.heap_alloc _ _ _ (by have := hga6.out; simp; omega)).trans (Below.heap_alloc _ _ _ hga6.out))) (rd_alloc' _ [0] 1 (w6.heap.size + 1) rfl (by simp)) (by decide) (by rw [List.length_set]; exact hn.out.symm) (by simp) (by omega) (by have := hga6.out; have := hga.out; simp; omega) ?_; intro gb capb wb hob hgb hgrb; have hB6a : Kpt (Blk ((w6.alloc (.cells #[.int .u8 0, .int .u16 0, .int .u64 0, .bool false, .int .i64 0, .int .i64 0, .bool false, .bool false] 25)).alloc (.cells (cels [0]).toArray 5)) w.heap.size s') := ⟨(hB6.out.below (n := w6.heap.size) ((Below.refl _ _).alloc (Nat.le_refl _) _) hB6.out.lt).below (n := (w6.alloc (.cells #[.int .u8 0, .int .u16 0, .int .u64 0, .bool false, .int .i64 0, .int .i64 0, .bool false, .bool false] 25)).heap.size) ((Below.refl _ _).alloc (Nat.le_refl _) _) (by have := hB6.out.lt; simp; omega)⟩; have hBb : Kpt (Blk wb w.heap.size s') := ⟨hB6a.out.grown hgrb.out (fun e => by simp [Value.ownBlock] at e; have := hga.out; have := hpw.out; omega)⟩; have hbb : Kpt (Below w.heap.size w wb) := ⟨((hb6.out.alloc (Nat.le_of_lt hB6.out.lt) _).alloc (by have := hB6.out.lt; simp; omega) _).grown hgrb.out (by have := hB6.out.lt; simp; omega) (fun k h => by simp [Value.ownBlock] at h; have := hga.out; have := hpw.out; omega)⟩; )
    | (go_at_call 15; have hm := m5; refine (HC2.out _ _ (rd_take (hrp5.out.of_block (fun g hg => by simp [Value.ownBlock] at hg; subst hg; exact Below.heap_alloc _ _ _ hgp5.out)) i (by omega)) (fun g hg => by simp [Value.ownBlock] at hg; subst hg; have := hgp5.out; simp; omega)).mono ?_; rintro e w6 ⟨rfl, hN6⟩; have hA6 : Kpt (Below w5.heap.size w5 (w5.alloc (.cells #[.int .u8 0, .int .u16 0, .int .u64 0, .bool false, .int .i64 0, .int .i64 0, .bool false, .bool false] 25))) := ⟨(Below.refl _ _).alloc (Nat.le_refl _) _⟩; have hB6 : Kpt (Blk w6 w.heap.size _) := ⟨(hB5.out.below hA6.out hB5.out.lt).below hN6 (by have := hB5.out.lt; simp; omega)⟩; have hb6 : Kpt (Below w.heap.size w w6) := ⟨hb5.out.trans ((hA6.out.mono (Nat.le_of_lt hB5.out.lt)).trans (hN6.mono (by have := hB5.out.lt; simp; omega)))⟩; have hos6 : Kpt (w6.ownsRow w2.heap.size 5 1 (.slice (some ⟨ga, 0, none⟩) 18 capa) 18 (cels (P.set i X))) := ⟨own_of_block hos5.out (fun g hg => by simp [Value.ownBlock] at hg; subst hg; exact (hN6.block _ (by have := hga5.out; simp; omega)).trans (Below.heap_alloc _ _ _ hga5.out))⟩; have hga6 : Kpt (ga < w6.heap.size) := ⟨Nat.lt_of_lt_of_le hga5.out (Nat.le_trans hA6.out.size hN6.size)⟩; clear hN6; have m6 : Kpt True := ⟨trivial⟩)
    | (go_at_call 15; refine (HC1.out _ _ (own_rd (by rw [hX.out]; exact hos.out)) (fun g hg => by simp [Value.ownBlock] at hg; subst hg; have := hga.out.2; simpa using this)).mono ?_; rintro e w5 ⟨rfl, hN5⟩; have hsz : Kpt ((wa.setCell ⟨ga, i, none⟩ (.int .u8 X)).heap.size = wa.heap.size) := ⟨by simp⟩; rw [hX.out] at hN5; have hB5 : Kpt (Blk w5 w.heap.size s') := ⟨hBs.out.below hN5 hBs.out.lt⟩; have hb5 : Kpt (Below w.heap.size w w5) := ⟨hbs.out.trans (hN5.mono (Nat.le_of_lt hBs.out.lt))⟩; have hos5 : Kpt (w5.ownsRow w2.heap.size 5 1 (.slice (some ⟨ga, 0, none⟩) 18 capa) 18 (cels (P.set i X))) := ⟨own_of_block hos.out (fun g hg => by simp [Value.ownBlock] at hg; subst hg; exact hN5.block _ (by have := hga.out.2; have := hsz.out; omega))⟩; have hga5 : Kpt (ga < w5.heap.size) := ⟨Nat.lt_of_lt_of_le (by have := hga.out.2; have := hsz.out; omega) hN5.size⟩; have hw5s : Kpt (w2.heap.size ≤ ga ∧ ga < w5.heap.size) := ⟨hga.out.1, hga5.out⟩; have hrp5 : Kpt (RdAt w5 (.slice (some ⟨g2, 0, none⟩) 18 18) P) := ⟨hrs.out.of_block (fun g hg => by simp [Value.ownBlock] at hg; subst hg; exact hN5.block _ (by have := hgp.out; have := hga.out; have := hsz.out; omega))⟩; have hgp5 : Kpt (g2 < w5.heap.size) := ⟨Nat.lt_of_lt_of_le (by have := hgp.out; have := hga.out; have := hsz.out; omega) hN5.size⟩; clear hN5; have m5 : Kpt True := ⟨trivial⟩)
    | (at_builtin; refine wpList_append_new (w := w2) rfl (.tmp 48) (.tmp 49) rfl w2.heap.size (.slice none 0 0) (.slice (some ⟨g2, 0, none⟩) 18 18) [] P 0 18 rfl rfl (World.ownsRow_nil _ _ _ _) hrp.out.1 (by have := hn.out; omega) rfl (by have := hn.out; omega) (by omega) (Nat.le_refl _) ?_; intro ga capa wa hoa hga hgra; have hgp : Kpt (g2 < w2.heap.size) := ⟨hrp.out.2⟩; have pa := own_facts hoa.out i hiP; have fa := hoa.out.frozenAt i; have hsz0 : Kpt ((wa.setCell ⟨ga, i, none⟩ (.int .u8 X)).heap.size = wa.heap.size) := ⟨by simp⟩; have hos : Kpt ((wa.setCell ⟨ga, i, none⟩ (.int .u8 X)).ownsRow w2.heap.size 5 1 (.slice (some ⟨ga, 0, none⟩) 18 capa) 18 (cels (P.set i X))) := ⟨own_set hoa.out i X⟩; have hpw : Kpt (w.heap.size < w2.heap.size) := ⟨hB2.out.lt⟩; have hBs : Kpt (Blk (wa.setCell ⟨ga, i, none⟩ (.int .u8 X)) w.heap.size s') := ⟨(hB2.out.grown hgra.out (fun e => by simp [Value.ownBlock] at e)).set (by have := hga.out; have := hpw.out; omega)⟩; have hbs : Kpt (Below w.heap.size w (wa.setCell ⟨ga, i, none⟩ (.int .u8 X))) := ⟨(hb2.out.grown hgra.out (Nat.le_of_lt hpw.out) (fun k h => by simp [Value.ownBlock] at h)).setCell (by have := hga.out; have := hpw.out; show w.heap.size ≤ ga; omega) _⟩; have hrs : Kpt (RdAt (wa.setCell ⟨ga, i, none⟩ (.int .u8 X)) (.slice (some ⟨g2, 0, none⟩) 18 18) P) := ⟨hrp.out.1.of_block (fun g hg => by simp [Value.ownBlock] at hg; subst hg; exact (Below.heap_setCell _ _ _ _ (by have := hga.out; have := hrp.out.2; show g2 ≠ ga; omega)).trans (hgra.out.block _ hrp.out.2 (fun e => by simp [Value.ownBlock] at e)))⟩)
    | (go_at_call 9; refine (H9.out _).mono ?_; rintro e w2 ⟨g2, rfl, hrp, hN2⟩; replace hrp := Kpt.mk hrp; have hB2 : Kpt (Blk w2 w.heap.size _) := ⟨hB1.out.below hN2 hB1.out.lt⟩; have hb2 : Kpt (Below w.heap.size w w2) := ⟨hb1.out.trans (hN2.mono (Nat.le_of_lt hB1.out.lt))⟩; clear hN2; clear c0 c1 c2 c3 c4 c5 c6 c7; have c0 := hB2.out.box 0; rw [hvs.out] at c0; simp at c0; have c1 := hB2.out.box 1; rw [hvs.out] at c1; simp at c1; have c2 := hB2.out.box 2; rw [hvs.out] at c2; simp at c2; have c3 := hB2.out.box 3; rw [hvs.out] at c3; simp at c3; have c4 := hB2.out.box 4; rw [hvs.out] at c4; simp at c4; have c5 := hB2.out.box 5; rw [hvs.out] at c5; simp at c5; have c6 := hB2.out.box 6; rw [hvs.out] at c6; simp at c6; have c7 := hB2.out.box 7; rw [hvs.out] at c7; simp at c7)
    | (go_at_call 8; refine (HA _).out.mono ?_; rintro e w1 ⟨rfl, hN1⟩; have hB1 : Kpt (Blk w1 w.heap.size s') := ⟨hbox0.out.below hN1 hbox0.out.lt⟩; have hb1 : Kpt (Below w.heap.size w w1) := ⟨((Below.refl _ _).alloc (Nat.le_refl _) _).trans (hN1.mono (by simp))⟩; clear hN1; have c0 := hB1.out.box 0; rw [hvs.out] at c0; simp at c0; have c1 := hB1.out.box 1; rw [hvs.out] at c1; simp at c1; have c2 := hB1.out.box 2; rw [hvs.out] at c2; simp at c2; have c3 := hB1.out.box 3; rw [hvs.out] at c3; simp at c3; have c4 := hB1.out.box 4; rw [hvs.out] at c4; simp at c4; have c5 := hB1.out.box 5; rw [hvs.out] at c5; simp at c5; have c6 := hB1.out.box 6; rw [hvs.out] at c6; simp at c6; have c7 := hB1.out.box 7; rw [hvs.out] at c7; simp at c7))
  go_ret
  exact ⟨rfl, hb7.out.alloc (Nat.le_of_lt hl7) _⟩

end Go.Proofs.Ytglfkpdbgddpdaa
