/-
  The walks of SenseSpoils.
-/
import Derived.Test.YtglfkpdbgddpdaaSSpA
namespace Go.Proofs.Ytglfkpdbgddpdaa
open Go.RowKit
set_option linter.unusedVariables false
set_option linter.unusedSimpArgs false

set_option maxRecDepth 100000 in
set_option maxHeartbeats 4000000 in
theorem spoil_D2f_none (s : Sn) (x y : Int) (w : World) (hs : s.wf) (hform : s.form = true) (hx : 0 ≤ x ∧ x ≤ 255) (hy : 0 ≤ y ∧ y ≤ 255) (hy0 : y ≠ 0) (hr : 4294967295 < s.info) (i : Nat) (hi : x % (s.descB.length : Int) = i) (hq : decS (turned s.descB i y) = none) :
    Calls Try.prog 6 #[.agg s.vals, .int .u8 x, .int .u8 y, .bool false] w fun e w' => e = .returned (.bool true) ∧ Below w.heap.size w w' := by
  have HA := fun w => Kpt.mk (awake_any w)
  have hP : OfS s s.descB := .inr rfl
  have hPl := hP.len
  have hPb := hP.bytes hs hform
  have hiP : i < s.descB.length := by
    have := Int.emod_lt_of_pos x (show (0 : Int) < (s.descB.length : Int) by omega)
    omega
  obtain ⟨hQb, hQn, hQl⟩ := turned_facts hPb hiP hy hy0
  obtain ⟨V, hV⟩ : ∃ V, V = s.vals := ⟨_, rfl⟩
  have hbox0 : Kpt (Blk (w.alloc (.cells V 25)) w.heap.size s) := ⟨by rw [hV]; exact blk_alloc w s⟩
  have HC1 : Kpt (∀ W v, RdAt W v (turned s.descB i y) → (∀ g, v.ownBlock = some g → g < W.heap.size) → Calls Try.prog 15 #[v] W fun e w' => e = .returned (.tuple #[.agg sn0.vals, .int .i64 3]) ∧ Below W.heap.size W w') := ⟨fun W v h1 h2 => by
    have := decode_any v _ W h1 hQb (by unfold maxLen; omega) h2
    unfold decRes at this
    rw [hq] at this
    exact this⟩
  have HC2 : Kpt (∀ W v, RdAt W v (s.descB.take i) → (∀ g, v.ownBlock = some g → g < W.heap.size) → Calls Try.prog 15 #[v] W fun e w' => e = .returned (.tuple #[.agg sn0.vals, .int .i64 3]) ∧ Below W.heap.size W w') := ⟨fun W v h1 h2 => by
    have := decode_any v _ W h1 (bytes_take hPb i) (by unfold maxLen; rw [List.length_take]; omega) h2
    unfold decRes at this
    rw [spoil_short hP hs hform i hiP] at this
    exact this⟩
  have HC3 : Kpt (∀ W v, RdAt W v (turned s.descB i y ++ [0]) → (∀ g, v.ownBlock = some g → g < W.heap.size) → Calls Try.prog 15 #[v] W fun e w' => e = .returned (.tuple #[.agg sn0.vals, .int .i64 3]) ∧ Below W.heap.size W w') := ⟨fun W v h1 h2 => by
    have := decode_any v _ W h1 (bytes_zero hQb) (by unfold maxLen; simp; omega) h2
    unfold decRes at this
    rw [spoil_long hP (bytes_zero hQb) (by simp; omega)] at this
    exact this⟩
  have H9 : Kpt (∀ W, Calls Try.prog 9 #[.agg V] W fun e w' => e = .returned (.tuple #[.slice none 0 0, .int .i64 4]) ∧ Below W.heap.size W w') := ⟨fun W => by rw [hV]; exact fixed_range s hform hr W⟩
  have H10 : Kpt (∀ W, Calls Try.prog 10 #[.agg V] W fun e w' => ∃ g cap, e = .returned (.tuple #[.slice (some ⟨g, 0, none⟩) s.descB.length cap, .int .i64 0]) ∧ (RdAt w' (.slice (some ⟨g, 0, none⟩) s.descB.length cap) s.descB ∧ g < w'.heap.size) ∧ Below W.heap.size W w') := ⟨fun W => by
    rw [hV]
    exact (described_ok s hs hform W).mono (fun e w' ⟨g, cap, h1, h2⟩ => ⟨g, cap, h1, ⟨own_rd h2.1, (World.ownsRow.lt h2.1 g rfl).2⟩, h2.2⟩)⟩
  obtain ⟨P, hPd⟩ : ∃ P, P = s.descB := ⟨_, rfl⟩
  obtain ⟨X, hX⟩ : ∃ X, X = bits .xor .u8 (P[i]?.getD 0) y := ⟨_, rfl⟩
  have hQe : turned P i y = P.set i X := by rw [hX]; rfl
  rw [← hPd] at HC1 HC2 HC3 hPl hiP hi H10
  rw [hQe] at HC1 HC3
  replace hX := Kpt.mk hX.symm
  obtain ⟨n, hn⟩ : ∃ n, n = P.length := ⟨_, rfl⟩
  rw [← hn] at H10 hiP hi hPl
  have hrem : Int.tmod x n = (i : Int) := by rw [Int.tmod_eq_emod_of_nonneg hx.1]; exact hi
  replace hn := Kpt.mk hn
  rw [← hV]
  obtain ⟨s', hs'⟩ : ∃ s', s' = s := ⟨_, rfl⟩
  rw [← hs'] at hbox0
  obtain ⟨key, code, info, hii, field, bit, hf, ic⟩ := s
  simp only [Sn.vals] at hV
  subst hV
  have hvs : Kpt (s'.vals = #[.int .u8 key, .int .u16 code, .int .u64 info, .bool hii, .int .i64 field, .int .i64 bit, .bool hf, .bool ic]) := ⟨by rw [hs']; rfl⟩
  simp only [Sn.vals, sn0] at HC1 HC2 HC3
  clear hs hform hP hPb hQb hQn hQl hq hPd hQe hr
  replace hs' := Kpt.mk hs'
  obtain ⟨x0, x1⟩ := hx
  obtain ⟨y0, y1⟩ := hy
  have hn0 : 0 < n := by omega
  go_enter Try.func6, Try.ntmps6
  go_wp2_with (first
    | (go_at_call 15; have hm := m6; refine (HC3.out _ _ (own_rd hob.out) (fun g hg => by simp [Value.ownBlock] at hg; subst hg; exact hgb.out.2)).mono ?_; rintro e w7 ⟨rfl, hN7⟩; have hB7 : Kpt (Blk w7 w.heap.size s') := ⟨hBb.out.below hN7 hBb.out.lt⟩; have hb7 : Kpt (Below w.heap.size w w7) := ⟨hbb.out.trans (hN7.mono (Nat.le_of_lt hBb.out.lt))⟩; clear hN7; have hl7 := hB7.out.lt; clear c0 c1 c2 c3 c4 c5 c6 c7; have c0 := hB7.out.box 0; rw [hvs.out] at c0; simp at c0; have c1 := hB7.out.box 1; rw [hvs.out] at c1; simp at c1; have c2 := hB7.out.box 2; rw [hvs.out] at c2; simp at c2; have c3 := hB7.out.box 3; rw [hvs.out] at c3; simp at c3; have c4 := hB7.out.box 4; rw [hvs.out] at c4; simp at c4; have c5 := hB7.out.box 5; rw [hvs.out] at c5; simp at c5; have c6 := hB7.out.box 6; rw [hvs.out] at c6; simp at c6; have c7 := hB7.out.box 7; rw [hvs.out] at c7; simp at c7)
    | (at_builtin; have hm := m6; refine wpList_append_new (w := (w6.alloc (.cells #[.int .u8 0, .int .u16 0, .int .u64 0, .bool false, .int .i64 0, .int .i64 0, .bool false, .bool false] 25)).alloc (.cells (cels [0]).toArray 5)) rfl (.tmp 72) (.tmp 73) rfl w3.heap.size (.slice (some ⟨ga, 0, none⟩) n capa) (.slice (some ⟨w6.heap.size + 1, 0, none⟩) 1 1) (P.set i X) [0] n (n + 1) rfl rfl (own_of_block hos6.out (fun g hg => by simp [Value.ownBlock] at hg; subst hg; exact (Below.heap_alloc _ _ _ (by have := hga6.out; simp; omega)).trans (Below.heap_alloc _ _ _ hga6.out))) (rd_alloc' _ [0] 1 (w6.heap.size + 1) rfl (by simp)) (by decide) (by rw [List.length_set]; exact hn.out.symm) (by simp) (by omega) (by have := hga6.out; have := hga.out; simp; omega) ?_; intro gb capb wb hob hgb hgrb; have hB6a : Kpt (Blk ((w6.alloc (.cells #[.int .u8 0, .int .u16 0, .int .u64 0, .bool false, .int .i64 0, .int .i64 0, .bool false, .bool false] 25)).alloc (.cells (cels [0]).toArray 5)) w.heap.size s') := ⟨(hB6.out.below (n := w6.heap.size) ((Below.refl _ _).alloc (Nat.le_refl _) _) hB6.out.lt).below (n := (w6.alloc (.cells #[.int .u8 0, .int .u16 0, .int .u64 0, .bool false, .int .i64 0, .int .i64 0, .bool false, .bool false] 25)).heap.size) ((Below.refl _ _).alloc (Nat.le_refl _) _) (by have := hB6.out.lt; simp; omega)⟩; have hBb : Kpt (Blk wb w.heap.size s') := ⟨hB6a.out.grown hgrb.out (fun e => by simp [Value.ownBlock] at e; have := hga.out; have := hpw.out; omega)⟩; have hbb : Kpt (Below w.heap.size w wb) := ⟨((hb6.out.alloc (Nat.le_of_lt hB6.out.lt) _).alloc (by have := hB6.out.lt; simp; omega) _).grown hgrb.out (by have := hB6.out.lt; simp; omega) (fun k h => by simp [Value.ownBlock] at h; have := hga.out; have := hpw.out; omega)⟩; )
    | (go_at_call 15; have hm := m5; refine (HC2.out _ _ (rd_take (hrp5.out.of_block (fun g hg => by simp [Value.ownBlock] at hg; subst hg; exact Below.heap_alloc _ _ _ hgp5.out)) i (by omega)) (fun g hg => by simp [Value.ownBlock] at hg; subst hg; have := hgp5.out; simp; omega)).mono ?_; rintro e w6 ⟨rfl, hN6⟩; have hA6 : Kpt (Below w5.heap.size w5 (w5.alloc (.cells #[.int .u8 0, .int .u16 0, .int .u64 0, .bool false, .int .i64 0, .int .i64 0, .bool false, .bool false] 25))) := ⟨(Below.refl _ _).alloc (Nat.le_refl _) _⟩; have hB6 : Kpt (Blk w6 w.heap.size _) := ⟨(hB5.out.below hA6.out hB5.out.lt).below hN6 (by have := hB5.out.lt; simp; omega)⟩; have hb6 : Kpt (Below w.heap.size w w6) := ⟨hb5.out.trans ((hA6.out.mono (Nat.le_of_lt hB5.out.lt)).trans (hN6.mono (by have := hB5.out.lt; simp; omega)))⟩; have hos6 : Kpt (w6.ownsRow w3.heap.size 5 1 (.slice (some ⟨ga, 0, none⟩) n capa) n (cels (P.set i X))) := ⟨own_of_block hos5.out (fun g hg => by simp [Value.ownBlock] at hg; subst hg; exact (hN6.block _ (by have := hga5.out; simp; omega)).trans (Below.heap_alloc _ _ _ hga5.out))⟩; have hga6 : Kpt (ga < w6.heap.size) := ⟨Nat.lt_of_lt_of_le hga5.out (Nat.le_trans hA6.out.size hN6.size)⟩; clear hN6; have m6 : Kpt True := ⟨trivial⟩)
    | (go_at_call 15; refine (HC1.out _ _ (own_rd (by rw [hX.out]; exact hos.out)) (fun g hg => by simp [Value.ownBlock] at hg; subst hg; have := hga.out.2; simpa using this)).mono ?_; rintro e w5 ⟨rfl, hN5⟩; have hsz : Kpt ((wa.setCell ⟨ga, i, none⟩ (.int .u8 X)).heap.size = wa.heap.size) := ⟨by simp⟩; rw [hX.out] at hN5; have hB5 : Kpt (Blk w5 w.heap.size s') := ⟨hBs.out.below hN5 hBs.out.lt⟩; have hb5 : Kpt (Below w.heap.size w w5) := ⟨hbs.out.trans (hN5.mono (Nat.le_of_lt hBs.out.lt))⟩; have hos5 : Kpt (w5.ownsRow w3.heap.size 5 1 (.slice (some ⟨ga, 0, none⟩) n capa) n (cels (P.set i X))) := ⟨own_of_block hos.out (fun g hg => by simp [Value.ownBlock] at hg; subst hg; exact hN5.block _ (by have := hga.out.2; have := hsz.out; omega))⟩; have hga5 : Kpt (ga < w5.heap.size) := ⟨Nat.lt_of_lt_of_le (by have := hga.out.2; have := hsz.out; omega) hN5.size⟩; have hw5s : Kpt (w3.heap.size ≤ ga ∧ ga < w5.heap.size) := ⟨hga.out.1, hga5.out⟩; have hrp5 : Kpt (RdAt w5 (.slice (some ⟨g3, 0, none⟩) n c3') P) := ⟨hrs.out.of_block (fun g hg => by simp [Value.ownBlock] at hg; subst hg; exact hN5.block _ (by have := hgp.out; have := hga.out; have := hsz.out; omega))⟩; have hgp5 : Kpt (g3 < w5.heap.size) := ⟨Nat.lt_of_lt_of_le (by have := hgp.out; have := hga.out; have := hsz.out; omega) hN5.size⟩; clear hN5; have m5 : Kpt True := ⟨trivial⟩)
    | (at_builtin; refine wpList_append_new (w := w3) rfl (.tmp 48) (.tmp 49) rfl w3.heap.size (.slice none 0 0) (.slice (some ⟨g3, 0, none⟩) n c3') [] P 0 n rfl rfl (World.ownsRow_nil _ _ _ _) hrp.out.1 (by have := hn.out; omega) rfl (by have := hn.out; omega) (by omega) (Nat.le_refl _) ?_; intro ga capa wa hoa hga hgra; have hgp : Kpt (g3 < w3.heap.size) := ⟨hrp.out.2⟩; have pa := own_facts hoa.out i hiP; have fa := hoa.out.frozenAt i; have hsz0 : Kpt ((wa.setCell ⟨ga, i, none⟩ (.int .u8 X)).heap.size = wa.heap.size) := ⟨by simp⟩; have hos : Kpt ((wa.setCell ⟨ga, i, none⟩ (.int .u8 X)).ownsRow w3.heap.size 5 1 (.slice (some ⟨ga, 0, none⟩) n capa) n (cels (P.set i X))) := ⟨own_set hoa.out i X⟩; have hpw : Kpt (w.heap.size < w3.heap.size) := ⟨hB3.out.lt⟩; have hBs : Kpt (Blk (wa.setCell ⟨ga, i, none⟩ (.int .u8 X)) w.heap.size s') := ⟨(hB3.out.grown hgra.out (fun e => by simp [Value.ownBlock] at e)).set (by have := hga.out; have := hpw.out; omega)⟩; have hbs : Kpt (Below w.heap.size w (wa.setCell ⟨ga, i, none⟩ (.int .u8 X))) := ⟨(hb3.out.grown hgra.out (Nat.le_of_lt hpw.out) (fun k h => by simp [Value.ownBlock] at h)).setCell (by have := hga.out; have := hpw.out; show w.heap.size ≤ ga; omega) _⟩; have hrs : Kpt (RdAt (wa.setCell ⟨ga, i, none⟩ (.int .u8 X)) (.slice (some ⟨g3, 0, none⟩) n c3') P) := ⟨hrp.out.1.of_block (fun g hg => by simp [Value.ownBlock] at hg; subst hg; exact (Below.heap_setCell _ _ _ _ (by have := hga.out; have := hrp.out.2; show g3 ≠ ga; omega)).trans (hgra.out.block _ hrp.out.2 (fun e => by simp [Value.ownBlock] at e)))⟩)
    | (go_at_call 10; refine (H10.out _).mono ?_; rintro e w3 ⟨g3, c3', rfl, hrp, hN3⟩; replace hrp := Kpt.mk hrp; have hcc : n ≤ c3' := (by obtain ⟨_, _, e, _, h, _⟩ := hrp.out.1; simp at e; omega); have hB3 : Kpt (Blk w3 w.heap.size _) := ⟨hB2.out.below hN3 hB2.out.lt⟩; have hb3 : Kpt (Below w.heap.size w w3) := ⟨hb2.out.trans (hN3.mono (Nat.le_of_lt hB2.out.lt))⟩; clear hN3; clear c0 c1 c2 c3 c4 c5 c6 c7; have c0 := hB3.out.box 0; rw [hvs.out] at c0; simp at c0; have c1 := hB3.out.box 1; rw [hvs.out] at c1; simp at c1; have c2 := hB3.out.box 2; rw [hvs.out] at c2; simp at c2; have c3 := hB3.out.box 3; rw [hvs.out] at c3; simp at c3; have c4 := hB3.out.box 4; rw [hvs.out] at c4; simp at c4; have c5 := hB3.out.box 5; rw [hvs.out] at c5; simp at c5; have c6 := hB3.out.box 6; rw [hvs.out] at c6; simp at c6; have c7 := hB3.out.box 7; rw [hvs.out] at c7; simp at c7)
    | (go_at_call 9; refine (H9.out _).mono ?_; rintro e w2 ⟨rfl, hN2⟩; have hB2 : Kpt (Blk w2 w.heap.size _) := ⟨hB1.out.below hN2 hB1.out.lt⟩; have hb2 : Kpt (Below w.heap.size w w2) := ⟨hb1.out.trans (hN2.mono (Nat.le_of_lt hB1.out.lt))⟩; clear hN2; clear c0 c1 c2 c3 c4 c5 c6 c7; have c0 := hB2.out.box 0; rw [hvs.out] at c0; simp at c0; have c1 := hB2.out.box 1; rw [hvs.out] at c1; simp at c1; have c2 := hB2.out.box 2; rw [hvs.out] at c2; simp at c2; have c3 := hB2.out.box 3; rw [hvs.out] at c3; simp at c3; have c4 := hB2.out.box 4; rw [hvs.out] at c4; simp at c4; have c5 := hB2.out.box 5; rw [hvs.out] at c5; simp at c5; have c6 := hB2.out.box 6; rw [hvs.out] at c6; simp at c6; have c7 := hB2.out.box 7; rw [hvs.out] at c7; simp at c7)
    | (go_at_call 8; refine (HA _).out.mono ?_; rintro e w1 ⟨rfl, hN1⟩; have hB1 : Kpt (Blk w1 w.heap.size s') := ⟨hbox0.out.below hN1 hbox0.out.lt⟩; have hb1 : Kpt (Below w.heap.size w w1) := ⟨((Below.refl _ _).alloc (Nat.le_refl _) _).trans (hN1.mono (by simp))⟩; clear hN1; have c0 := hB1.out.box 0; rw [hvs.out] at c0; simp at c0; have c1 := hB1.out.box 1; rw [hvs.out] at c1; simp at c1; have c2 := hB1.out.box 2; rw [hvs.out] at c2; simp at c2; have c3 := hB1.out.box 3; rw [hvs.out] at c3; simp at c3; have c4 := hB1.out.box 4; rw [hvs.out] at c4; simp at c4; have c5 := hB1.out.box 5; rw [hvs.out] at c5; simp at c5; have c6 := hB1.out.box 6; rw [hvs.out] at c6; simp at c6; have c7 := hB1.out.box 7; rw [hvs.out] at c7; simp at c7))
  go_ret
  exact ⟨rfl, hb7.out.alloc (Nat.le_of_lt hl7) _⟩

set_option maxRecDepth 100000 in
set_option maxHeartbeats 4000000 in
theorem spoil_D2f_some (s : Sn) (x y : Int) (w : World) (hs : s.wf) (hform : s.form = true) (hx : 0 ≤ x ∧ x ≤ 255) (hy : 0 ≤ y ∧ y ≤ 255) (hy0 : y ≠ 0) (hr : 4294967295 < s.info) (i : Nat) (hi : x % (s.descB.length : Int) = i) (t : Sn) (hq : decS (turned s.descB i y) = some t) :
    Calls Try.prog 6 #[.agg s.vals, .int .u8 x, .int .u8 y, .bool false] w fun e w' => e = .returned (.bool true) ∧ Below w.heap.size w w' := by
  have HA := fun w => Kpt.mk (awake_any w)
  have hP : OfS s s.descB := .inr rfl
  have hPl := hP.len
  have hPb := hP.bytes hs hform
  have hiP : i < s.descB.length := by
    have := Int.emod_lt_of_pos x (show (0 : Int) < (s.descB.length : Int) by omega)
    omega
  obtain ⟨hQb, hQn, hQl⟩ := turned_facts hPb hiP hy hy0
  have hts : t ≠ s := spoil_other hP hQb hQn hQl hq
  obtain ⟨V, hV⟩ : ∃ V, V = s.vals := ⟨_, rfl⟩
  have hbox0 : Kpt (Blk (w.alloc (.cells V 25)) w.heap.size s) := ⟨by rw [hV]; exact blk_alloc w s⟩
  have HC1 : Kpt (∀ W v, RdAt W v (turned s.descB i y) → (∀ g, v.ownBlock = some g → g < W.heap.size) → Calls Try.prog 15 #[v] W fun e w' => e = .returned (.tuple #[.agg t.vals, .int .i64 0]) ∧ Below W.heap.size W w') := ⟨fun W v h1 h2 => by
    have := decode_any v _ W h1 hQb (by unfold maxLen; omega) h2
    unfold decRes at this
    rw [hq] at this
    exact this⟩
  have HC2 : Kpt (∀ W v, RdAt W v (s.descB.take i) → (∀ g, v.ownBlock = some g → g < W.heap.size) → Calls Try.prog 15 #[v] W fun e w' => e = .returned (.tuple #[.agg sn0.vals, .int .i64 3]) ∧ Below W.heap.size W w') := ⟨fun W v h1 h2 => by
    have := decode_any v _ W h1 (bytes_take hPb i) (by unfold maxLen; rw [List.length_take]; omega) h2
    unfold decRes at this
    rw [spoil_short hP hs hform i hiP] at this
    exact this⟩
  have HC3 : Kpt (∀ W v, RdAt W v (turned s.descB i y ++ [0]) → (∀ g, v.ownBlock = some g → g < W.heap.size) → Calls Try.prog 15 #[v] W fun e w' => e = .returned (.tuple #[.agg sn0.vals, .int .i64 3]) ∧ Below W.heap.size W w') := ⟨fun W v h1 h2 => by
    have := decode_any v _ W h1 (bytes_zero hQb) (by unfold maxLen; simp; omega) h2
    unfold decRes at this
    rw [spoil_long hP (bytes_zero hQb) (by simp; omega)] at this
    exact this⟩
  have H9 : Kpt (∀ W, Calls Try.prog 9 #[.agg V] W fun e w' => e = .returned (.tuple #[.slice none 0 0, .int .i64 4]) ∧ Below W.heap.size W w') := ⟨fun W => by rw [hV]; exact fixed_range s hform hr W⟩
  have H10 : Kpt (∀ W, Calls Try.prog 10 #[.agg V] W fun e w' => ∃ g cap, e = .returned (.tuple #[.slice (some ⟨g, 0, none⟩) s.descB.length cap, .int .i64 0]) ∧ (RdAt w' (.slice (some ⟨g, 0, none⟩) s.descB.length cap) s.descB ∧ g < w'.heap.size) ∧ Below W.heap.size W w') := ⟨fun W => by
    rw [hV]
    exact (described_ok s hs hform W).mono (fun e w' ⟨g, cap, h1, h2⟩ => ⟨g, cap, h1, ⟨own_rd h2.1, (World.ownsRow.lt h2.1 g rfl).2⟩, h2.2⟩)⟩
  obtain ⟨P, hPd⟩ : ∃ P, P = s.descB := ⟨_, rfl⟩
  obtain ⟨X, hX⟩ : ∃ X, X = bits .xor .u8 (P[i]?.getD 0) y := ⟨_, rfl⟩
  have hQe : turned P i y = P.set i X := by rw [hX]; rfl
  rw [← hPd] at HC1 HC2 HC3 hPl hiP hi H10
  rw [hQe] at HC1 HC3
  replace hX := Kpt.mk hX.symm
  obtain ⟨n, hn⟩ : ∃ n, n = P.length := ⟨_, rfl⟩
  rw [← hn] at H10 hiP hi hPl
  have hrem : Int.tmod x n = (i : Int) := by rw [Int.tmod_eq_emod_of_nonneg hx.1]; exact hi
  replace hn := Kpt.mk hn
  rw [← hV]
  obtain ⟨s', hs'⟩ : ∃ s', s' = s := ⟨_, rfl⟩
  rw [← hs'] at hbox0
  replace hts := Kpt.mk hts
  obtain ⟨key, code, info, hii, field, bit, hf, ic⟩ := s
  simp only [Sn.vals] at hV
  subst hV
  obtain ⟨tk, tc, ti, th, tf, tb, thf, tic⟩ := t
  have hvs : Kpt (s'.vals = #[.int .u8 key, .int .u16 code, .int .u64 info, .bool hii, .int .i64 field, .int .i64 bit, .bool hf, .bool ic]) := ⟨by rw [hs']; rfl⟩
  simp only [Sn.vals, sn0] at HC1 HC2 HC3
  clear hs hform hP hPb hQb hQn hQl hq hPd hQe hr
  replace hs' := Kpt.mk hs'
  obtain ⟨x0, x1⟩ := hx
  obtain ⟨y0, y1⟩ := hy
  have hn0 : 0 < n := by omega
  go_enter Try.func6, Try.ntmps6
  go_wp2_with (first
    | (go_at_call 15; have hm := m6; refine (HC3.out _ _ (own_rd hob.out) (fun g hg => by simp [Value.ownBlock] at hg; subst hg; exact hgb.out.2)).mono ?_; rintro e w7 ⟨rfl, hN7⟩; have hB7 : Kpt (Blk w7 w.heap.size s') := ⟨hBb.out.below hN7 hBb.out.lt⟩; have hb7 : Kpt (Below w.heap.size w w7) := ⟨hbb.out.trans (hN7.mono (Nat.le_of_lt hBb.out.lt))⟩; have hT7 : Kpt (Blk w7 w5.heap.size _) := ⟨hTb.out.below hN7 hTb.out.lt⟩; have e0 := hT7.out.box 0; have e1 := hT7.out.box 1; have e2 := hT7.out.box 2; have e3 := hT7.out.box 3; have e4 := hT7.out.box 4; have e5 := hT7.out.box 5; have e6 := hT7.out.box 6; have e7 := hT7.out.box 7; simp [Sn.vals] at e0 e1 e2 e3 e4 e5 e6 e7; have hl57 := hT7.out.lt; clear hN7; have hl7 := hB7.out.lt; clear c0 c1 c2 c3 c4 c5 c6 c7; have c0 := hB7.out.box 0; rw [hvs.out] at c0; simp at c0; have c1 := hB7.out.box 1; rw [hvs.out] at c1; simp at c1; have c2 := hB7.out.box 2; rw [hvs.out] at c2; simp at c2; have c3 := hB7.out.box 3; rw [hvs.out] at c3; simp at c3; have c4 := hB7.out.box 4; rw [hvs.out] at c4; simp at c4; have c5 := hB7.out.box 5; rw [hvs.out] at c5; simp at c5; have c6 := hB7.out.box 6; rw [hvs.out] at c6; simp at c6; have c7 := hB7.out.box 7; rw [hvs.out] at c7; simp at c7)
    | (at_builtin; have hm := m6; refine wpList_append_new (w := (w6.alloc (.cells #[.int .u8 0, .int .u16 0, .int .u64 0, .bool false, .int .i64 0, .int .i64 0, .bool false, .bool false] 25)).alloc (.cells (cels [0]).toArray 5)) rfl (.tmp 72) (.tmp 73) rfl w3.heap.size (.slice (some ⟨ga, 0, none⟩) n capa) (.slice (some ⟨w6.heap.size + 1, 0, none⟩) 1 1) (P.set i X) [0] n (n + 1) rfl rfl (own_of_block hos6.out (fun g hg => by simp [Value.ownBlock] at hg; subst hg; exact (Below.heap_alloc _ _ _ (by have := hga6.out; simp; omega)).trans (Below.heap_alloc _ _ _ hga6.out))) (rd_alloc' _ [0] 1 (w6.heap.size + 1) rfl (by simp)) (by decide) (by rw [List.length_set]; exact hn.out.symm) (by simp) (by omega) (by have := hga6.out; have := hga.out; simp; omega) ?_; intro gb capb wb hob hgb hgrb; have hB6a : Kpt (Blk ((w6.alloc (.cells #[.int .u8 0, .int .u16 0, .int .u64 0, .bool false, .int .i64 0, .int .i64 0, .bool false, .bool false] 25)).alloc (.cells (cels [0]).toArray 5)) w.heap.size s') := ⟨(hB6.out.below (n := w6.heap.size) ((Below.refl _ _).alloc (Nat.le_refl _) _) hB6.out.lt).below (n := (w6.alloc (.cells #[.int .u8 0, .int .u16 0, .int .u64 0, .bool false, .int .i64 0, .int .i64 0, .bool false, .bool false] 25)).heap.size) ((Below.refl _ _).alloc (Nat.le_refl _) _) (by have := hB6.out.lt; simp; omega)⟩; have hBb : Kpt (Blk wb w.heap.size s') := ⟨hB6a.out.grown hgrb.out (fun e => by simp [Value.ownBlock] at e; have := hga.out; have := hpw.out; omega)⟩; have hbb : Kpt (Below w.heap.size w wb) := ⟨((hb6.out.alloc (Nat.le_of_lt hB6.out.lt) _).alloc (by have := hB6.out.lt; simp; omega) _).grown hgrb.out (by have := hB6.out.lt; simp; omega) (fun k h => by simp [Value.ownBlock] at h; have := hga.out; have := hpw.out; omega)⟩; have hT6a : Kpt (Blk ((w6.alloc (.cells #[.int .u8 0, .int .u16 0, .int .u64 0, .bool false, .int .i64 0, .int .i64 0, .bool false, .bool false] 25)).alloc (.cells (cels [0]).toArray 5)) w5.heap.size ⟨tk, tc, ti, th, tf, tb, thf, tic⟩) := ⟨(hT6.out.below (n := w6.heap.size) ((Below.refl _ _).alloc (Nat.le_refl _) _) hT6.out.lt).below (n := (w6.alloc (.cells #[.int .u8 0, .int .u16 0, .int .u64 0, .bool false, .int .i64 0, .int .i64 0, .bool false, .bool false] 25)).heap.size) ((Below.refl _ _).alloc (Nat.le_refl _) _) (by have := hT6.out.lt; simp; omega)⟩; have hTb : Kpt (Blk wb w5.heap.size ⟨tk, tc, ti, th, tf, tb, thf, tic⟩) := ⟨hT6a.out.grown hgrb.out (fun e => by simp [Value.ownBlock] at e; have := hga.out; have := hw5s.out; omega)⟩; )
    | (go_at_call 15; have hm := m5; refine (HC2.out _ _ (rd_take (hrp5.out.of_block (fun g hg => by simp [Value.ownBlock] at hg; subst hg; exact Below.heap_alloc _ _ _ hgp5.out)) i (by omega)) (fun g hg => by simp [Value.ownBlock] at hg; subst hg; have := hgp5.out; simp; omega)).mono ?_; rintro e w6 ⟨rfl, hN6⟩; have hA6 : Kpt (Below w5.heap.size w5 (w5.alloc (.cells #[.int .u8 tk, .int .u16 tc, .int .u64 ti, .bool th, .int .i64 tf, .int .i64 tb, .bool thf, .bool tic] 25))) := ⟨(Below.refl _ _).alloc (Nat.le_refl _) _⟩; have hB6 : Kpt (Blk w6 w.heap.size _) := ⟨(hB5.out.below hA6.out hB5.out.lt).below hN6 (by have := hB5.out.lt; simp; omega)⟩; have hb6 : Kpt (Below w.heap.size w w6) := ⟨hb5.out.trans ((hA6.out.mono (Nat.le_of_lt hB5.out.lt)).trans (hN6.mono (by have := hB5.out.lt; simp; omega)))⟩; have hos6 : Kpt (w6.ownsRow w3.heap.size 5 1 (.slice (some ⟨ga, 0, none⟩) n capa) n (cels (P.set i X))) := ⟨own_of_block hos5.out (fun g hg => by simp [Value.ownBlock] at hg; subst hg; exact (hN6.block _ (by have := hga5.out; simp; omega)).trans (Below.heap_alloc _ _ _ hga5.out))⟩; have hga6 : Kpt (ga < w6.heap.size) := ⟨Nat.lt_of_lt_of_le hga5.out (Nat.le_trans hA6.out.size hN6.size)⟩; have hT6 : Kpt (Blk w6 w5.heap.size ⟨tk, tc, ti, th, tf, tb, thf, tic⟩) := ⟨(blk_alloc w5 ⟨tk, tc, ti, th, tf, tb, thf, tic⟩).below hN6 (by simp)⟩; clear hN6; have m6 : Kpt True := ⟨trivial⟩)
    | (go_at_call 15; refine (HC1.out _ _ (own_rd (by rw [hX.out]; exact hos.out)) (fun g hg => by simp [Value.ownBlock] at hg; subst hg; have := hga.out.2; simpa using this)).mono ?_; rintro e w5 ⟨rfl, hN5⟩; have hsz : Kpt ((wa.setCell ⟨ga, i, none⟩ (.int .u8 X)).heap.size = wa.heap.size) := ⟨by simp⟩; rw [hX.out] at hN5; have hB5 : Kpt (Blk w5 w.heap.size s') := ⟨hBs.out.below hN5 hBs.out.lt⟩; have hb5 : Kpt (Below w.heap.size w w5) := ⟨hbs.out.trans (hN5.mono (Nat.le_of_lt hBs.out.lt))⟩; have hos5 : Kpt (w5.ownsRow w3.heap.size 5 1 (.slice (some ⟨ga, 0, none⟩) n capa) n (cels (P.set i X))) := ⟨own_of_block hos.out (fun g hg => by simp [Value.ownBlock] at hg; subst hg; exact hN5.block _ (by have := hga.out.2; have := hsz.out; omega))⟩; have hga5 : Kpt (ga < w5.heap.size) := ⟨Nat.lt_of_lt_of_le (by have := hga.out.2; have := hsz.out; omega) hN5.size⟩; have hw5s : Kpt (w3.heap.size ≤ ga ∧ ga < w5.heap.size) := ⟨hga.out.1, hga5.out⟩; have hrp5 : Kpt (RdAt w5 (.slice (some ⟨g3, 0, none⟩) n c3') P) := ⟨hrs.out.of_block (fun g hg => by simp [Value.ownBlock] at hg; subst hg; exact hN5.block _ (by have := hgp.out; have := hga.out; have := hsz.out; omega))⟩; have hgp5 : Kpt (g3 < w5.heap.size) := ⟨Nat.lt_of_lt_of_le (by have := hgp.out; have := hga.out; have := hsz.out; omega) hN5.size⟩; clear hN5; have m5 : Kpt True := ⟨trivial⟩)
    | (at_builtin; refine wpList_append_new (w := w3) rfl (.tmp 48) (.tmp 49) rfl w3.heap.size (.slice none 0 0) (.slice (some ⟨g3, 0, none⟩) n c3') [] P 0 n rfl rfl (World.ownsRow_nil _ _ _ _) hrp.out.1 (by have := hn.out; omega) rfl (by have := hn.out; omega) (by omega) (Nat.le_refl _) ?_; intro ga capa wa hoa hga hgra; have hgp : Kpt (g3 < w3.heap.size) := ⟨hrp.out.2⟩; have pa := own_facts hoa.out i hiP; have fa := hoa.out.frozenAt i; have hsz0 : Kpt ((wa.setCell ⟨ga, i, none⟩ (.int .u8 X)).heap.size = wa.heap.size) := ⟨by simp⟩; have hos : Kpt ((wa.setCell ⟨ga, i, none⟩ (.int .u8 X)).ownsRow w3.heap.size 5 1 (.slice (some ⟨ga, 0, none⟩) n capa) n (cels (P.set i X))) := ⟨own_set hoa.out i X⟩; have hpw : Kpt (w.heap.size < w3.heap.size) := ⟨hB3.out.lt⟩; have hBs : Kpt (Blk (wa.setCell ⟨ga, i, none⟩ (.int .u8 X)) w.heap.size s') := ⟨(hB3.out.grown hgra.out (fun e => by simp [Value.ownBlock] at e)).set (by have := hga.out; have := hpw.out; omega)⟩; have hbs : Kpt (Below w.heap.size w (wa.setCell ⟨ga, i, none⟩ (.int .u8 X))) := ⟨(hb3.out.grown hgra.out (Nat.le_of_lt hpw.out) (fun k h => by simp [Value.ownBlock] at h)).setCell (by have := hga.out; have := hpw.out; show w.heap.size ≤ ga; omega) _⟩; have hrs : Kpt (RdAt (wa.setCell ⟨ga, i, none⟩ (.int .u8 X)) (.slice (some ⟨g3, 0, none⟩) n c3') P) := ⟨hrp.out.1.of_block (fun g hg => by simp [Value.ownBlock] at hg; subst hg; exact (Below.heap_setCell _ _ _ _ (by have := hga.out; have := hrp.out.2; show g3 ≠ ga; omega)).trans (hgra.out.block _ hrp.out.2 (fun e => by simp [Value.ownBlock] at e)))⟩)
    | (go_at_call 10; refine (H10.out _).mono ?_; rintro e w3 ⟨g3, c3', rfl, hrp, hN3⟩; replace hrp := Kpt.mk hrp; have hcc : n ≤ c3' := (by obtain ⟨_, _, e, _, h, _⟩ := hrp.out.1; simp at e; omega); have hB3 : Kpt (Blk w3 w.heap.size _) := ⟨hB2.out.below hN3 hB2.out.lt⟩; have hb3 : Kpt (Below w.heap.size w w3) := ⟨hb2.out.trans (hN3.mono (Nat.le_of_lt hB2.out.lt))⟩; clear hN3; clear c0 c1 c2 c3 c4 c5 c6 c7; have c0 := hB3.out.box 0; rw [hvs.out] at c0; simp at c0; have c1 := hB3.out.box 1; rw [hvs.out] at c1; simp at c1; have c2 := hB3.out.box 2; rw [hvs.out] at c2; simp at c2; have c3 := hB3.out.box 3; rw [hvs.out] at c3; simp at c3; have c4 := hB3.out.box 4; rw [hvs.out] at c4; simp at c4; have c5 := hB3.out.box 5; rw [hvs.out] at c5; simp at c5; have c6 := hB3.out.box 6; rw [hvs.out] at c6; simp at c6; have c7 := hB3.out.box 7; rw [hvs.out] at c7; simp at c7)
    | (go_at_call 9; refine (H9.out _).mono ?_; rintro e w2 ⟨rfl, hN2⟩; have hB2 : Kpt (Blk w2 w.heap.size _) := ⟨hB1.out.below hN2 hB1.out.lt⟩; have hb2 : Kpt (Below w.heap.size w w2) := ⟨hb1.out.trans (hN2.mono (Nat.le_of_lt hB1.out.lt))⟩; clear hN2; clear c0 c1 c2 c3 c4 c5 c6 c7; have c0 := hB2.out.box 0; rw [hvs.out] at c0; simp at c0; have c1 := hB2.out.box 1; rw [hvs.out] at c1; simp at c1; have c2 := hB2.out.box 2; rw [hvs.out] at c2; simp at c2; have c3 := hB2.out.box 3; rw [hvs.out] at c3; simp at c3; have c4 := hB2.out.box 4; rw [hvs.out] at c4; simp at c4; have c5 := hB2.out.box 5; rw [hvs.out] at c5; simp at c5; have c6 := hB2.out.box 6; rw [hvs.out] at c6; simp at c6; have c7 := hB2.out.box 7; rw [hvs.out] at c7; simp at c7)
    | (go_at_call 8; refine (HA _).out.mono ?_; rintro e w1 ⟨rfl, hN1⟩; have hB1 : Kpt (Blk w1 w.heap.size s') := ⟨hbox0.out.below hN1 hbox0.out.lt⟩; have hb1 : Kpt (Below w.heap.size w w1) := ⟨((Below.refl _ _).alloc (Nat.le_refl _) _).trans (hN1.mono (by simp))⟩; clear hN1; have c0 := hB1.out.box 0; rw [hvs.out] at c0; simp at c0; have c1 := hB1.out.box 1; rw [hvs.out] at c1; simp at c1; have c2 := hB1.out.box 2; rw [hvs.out] at c2; simp at c2; have c3 := hB1.out.box 3; rw [hvs.out] at c3; simp at c3; have c4 := hB1.out.box 4; rw [hvs.out] at c4; simp at c4; have c5 := hB1.out.box 5; rw [hvs.out] at c5; simp at c5; have c6 := hB1.out.box 6; rw [hvs.out] at c6; simp at c6; have c7 := hB1.out.box 7; rw [hvs.out] at c7; simp at c7))
  all_goals (first
    | (go_ret; exact ⟨rfl, hb7.out.alloc (Nat.le_of_lt hl7) _⟩)
    | (exfalso; exact hts.out rfl)
    | (exfalso; refine hts.out ?_; simp_all))

end Go.Proofs.Ytglfkpdbgddpdaa
