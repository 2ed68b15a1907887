/-
  CdbReserved: the walks.
-/
import Derived.Test.YtcgojpnjaloofaaCApp
namespace Go.Proofs.Ytcgojpnjaloofaa
open Go.RowKit
set_option linter.unusedVariables false
set_option linter.unusedSimpArgs false

theorem bx_newMB (w : World) (o1 o2 : Obj) (cs : Array Value) (t : TypeId) : Bx (((w.alloc o1).alloc o2).alloc (.cells cs t)) (w.heap.size + 2) cs := by
  have := bx_new ((w.alloc o1).alloc o2) cs t
  simpa using this

set_option maxRecDepth 100000 in
set_option maxHeartbeats 8000000 in
theorem res_B (b off len cap m i d n2 : Nat) (P X ms : List Int) (op y1 a1 a2 : Int) (R : Cm) (v3 : Value) (w : World) (hlt : b < w.heap.size) (hlc : len ≤ cap) (h2 : 2 ≤ m) (hm16 : m ≤ 16) (hml : m ≤ len) (hmax : cap ≤ 140737488351232) (h1 : 0 ≤ a1 ∧ a1 ≤ 255) (h2' : 0 ≤ a2 ∧ a2 ≤ 255) (hi : a1 % (m : Int) = (i : Int)) (hd : a2 % 8 = (d : Int)) (him : i < m) (hd8 : d < 8)
    (c0 : w.cell? ⟨b, off, none⟩ = some (.int .u8 op)) (c1 : w.cell? ⟨b, off + 1, none⟩ = some (.int .u8 y1)) (hy : 0 ≤ y1 ∧ y1 ≤ 255) (hPl : P.length = len) (hX : X.length ≤ 140737488351232) (hn2 : n2 = m + X.length) (hms : ms.length = m) (hmb : B.Bytes ms)
    (HR : Kpt (RdAt w (.slice (some ⟨b, off, none⟩) len cap) P)) (HX : Kpt (RdAt w v3 X))
    (HP : Kpt (∀ W, Below w.heap.size w W → Calls Try.prog 10 #[.slice (some ⟨b, off, none⟩) len cap] W fun e w' => e = .returned (.tuple #[.agg R.vals, .agg noS.vals, .bool true]) ∧ Below W.heap.size W w'))
    (HP2 : Kpt (∀ W v, RdAt W v (P.take m ++ X) → Calls Try.prog 10 #[v] W fun e w' => e = .returned (.tuple #[.agg R.vals, .agg noS.vals, .bool true]) ∧ Below W.heap.size W w'))
    (HU : Kpt (∀ s W, Calls Try.prog 12 #[.int .u8 op, .int .u8 s] W fun e w' => e = .returned (.tuple #[.slice (some ⟨W.heap.size, 0, none⟩) m m, .bool (servB op s)]) ∧ w' = W.alloc (.cells (cels ms).toArray 5))) (hi0 : 0 < i) (hbt : (bits .and .u8 (ms.getD i 0 / 2 ^ d) 1 == 1) = true) :
    Calls Try.prog 5 #[.slice (some ⟨b, off, none⟩) len cap, .int .u8 a1, .int .u8 a2, v3] w fun e w' => e = .returned (.bool true) ∧ Below w.heap.size w w' := by
  have HA := fun w => Kpt.mk (awake_any w)
  obtain ⟨kind, long, lba, blocks, alloc, fua, prot, unmap, evpd, page, control, save, service, type, bytes⟩ := R
  simp only [Cm.vals, Sn.vals, noC, noS, faultS] at HP HP2
  have e1 : (2 : Int) ≤ m := by omega
  have e2 : (m : Int) ≤ len := by omega
  have e3 : (len : Int) ≤ cap := by omega
  have e4 : ¬ (m : Int) = 0 := by omega
  have e5 : (m : Int) ≤ cap := by omega
  have e6 : (1 : Int) < len := by omega
  have e7 : (i : Int) < m := by omega
  have c0K := Kpt.mk c0
  have c1K := Kpt.mk c1
  have hmsK := Kpt.mk hms
  have hPlK := Kpt.mk hPl
  have hn2K := Kpt.mk hn2
  have hn2' : n2 ≤ 140737488355328 := by omega
  have himn : (i : Int) < n2 := by omega
  have hin2 : i < n2 := by omega
  clear c0 c1 hms hPl hn2
  obtain ⟨cs, hcs⟩ : ∃ cs, cs = (cels ms).toArray := ⟨_, rfl⟩
  rw [← hcs] at HU
  have hcell : Kpt (∀ j, j < m → cs[j]? = some (.int .u8 (ms.getD j 0))) := ⟨fun j hj => by rw [hcs, List.getElem?_toArray, cels, List.getElem?_map, List.getElem?_eq_getElem (by rw [hmsK.out]; exact hj), List.getD_eq_getElem?_getD, List.getElem?_eq_getElem (by rw [hmsK.out]; exact hj)]; rfl⟩
  have hcsz : Kpt (cs.size = m) := ⟨by rw [hcs]; simp [hmsK.out]⟩
  clear hcs
  have hi1 : ¬ (i : Int) = 0 := by omega
  have hM := hmb i
  obtain ⟨M, eM⟩ : ∃ M, M = ms.getD i 0 := ⟨_, rfl⟩
  rw [← eM] at hM hbt
  replace eM := Kpt.mk eM
  go_enter Try.func5, Try.ntmps5
  go_wp2_with (first
    | (go_at_call 10; have hm := mB; refine (HP2.out w5 _ (own_rd ho5.out)).mono ?_; rintro e w6 ⟨rfl, hb6⟩; have HB6 : Kpt (Below w.heap.size w w6) := ⟨HB5.out.trans (hb6.mono HB5.out.size)⟩; have X6 : Kpt (Bx w6 w2.heap.size #[.int .u8 kind, .bool long, .int .u64 lba, .int .u64 blocks, .int .i64 alloc, .bool fua, .int .u8 prot, .bool unmap, .bool evpd, .int .u8 page, .int .u8 control, .bool save, .int .u8 service, .int .u8 type, .bool bytes]) := ⟨X5.out.below hb6 X5.out.lt⟩; have M6 : Kpt (Bx w6 (w2.heap.size + 2) cs) := ⟨M5.out.below hb6 M5.out.lt⟩; have l1 := X6.out.lt; have l2 : w2.heap.size + 1 + 1 < w6.heap.size := M6.out.lt; have l3 : w2.heap.size + 1 < w6.heap.size := (by omega); have l4 : w2.heap.size + 1 + 1 < w6.heap.size + 1 := (by omega); have c0 := X6.out.cells 0 (by simp); simp at c0; have c1 := X6.out.cells 1 (by simp); simp at c1; have c2 := X6.out.cells 2 (by simp); simp at c2; have c3 := X6.out.cells 3 (by simp); simp at c3; have c4 := X6.out.cells 4 (by simp); simp at c4; have c5 := X6.out.cells 5 (by simp); simp at c5; have c6 := X6.out.cells 6 (by simp); simp at c6; have c7 := X6.out.cells 7 (by simp); simp at c7; have c8 := X6.out.cells 8 (by simp); simp at c8; have c9 := X6.out.cells 9 (by simp); simp at c9; have c10 := X6.out.cells 10 (by simp); simp at c10; have c11 := X6.out.cells 11 (by simp); simp at c11; have c12 := X6.out.cells 12 (by simp); simp at c12; have c13 := X6.out.cells 13 (by simp); simp at c13; have c14 := X6.out.cells 14 (by simp); simp at c14; have mk : w6.cell? ⟨w2.heap.size + 1 + 1, i, none⟩ = some (.int .u8 M) := (M6.out.cells i (by rw [hcsz.out]; exact him)).trans (by rw [hcell.out i him, eM.out]); have ho7 : Kpt (((w6.alloc (.cells #[.int .u8 kind, .bool long, .int .u64 lba, .int .u64 blocks, .int .i64 alloc, .bool fua, .int .u8 prot, .bool unmap, .bool evpd, .int .u8 page, .int .u8 control, .bool save, .int .u8 service, .int .u8 type, .bool bytes] 27)).alloc (.cells #[.int .u8 0, .int .u16 0, .int .u64 0, .bool false, .int .i64 0, .int .i64 0, .bool false, .bool false] 30)).ownsRow (w2.heap.size + 3) 5 1 (.slice (some ⟨g2, 0, none⟩) n2 q2) n2 (cels (P.take m ++ X))) := ⟨own_of_block ho5.out (fun g hg => by simp [Value.ownBlock] at hg; subst hg; exact ((Below.heap_alloc _ _ _ (by have := hg5.out; have := hb6.size; simp; omega)).trans (Below.heap_alloc _ _ _ (by have := hg5.out; have := hb6.size; omega))).trans (hb6.block _ hg5.out.2))⟩; have hg7 : Kpt (w2.heap.size + 3 ≤ g2 ∧ g2 < w6.heap.size) := ⟨hg5.out.1, Nat.lt_of_lt_of_le hg5.out.2 hb6.size⟩; clear hb6 HP2 mB X5 M5 ho5 hg5; have mC : Kpt True := ⟨trivial⟩)
    | (refine wpList_append_any rfl (.tmp 60) (.tmp 61) rfl (w2.heap.size + 3) (.slice (some ⟨g1, 0, none⟩) m q1) v3 m n2 (P.take m) X rfl rfl ho4'.out (HX.out.below HB4.out) (by omega) hn2K.out hn2' (by have := hg4.out; omega) ?_; intro g2 q2 w5 ho5 hg5 hB5; have HB5 : Kpt (Below w.heap.size w w5) := ⟨HB4.out.trans (hB5.out.mono (by have := HB2.out.size; omega))⟩; have X5 : Kpt (Bx w5 w2.heap.size #[.int .u8 kind, .bool long, .int .u64 lba, .int .u64 blocks, .int .i64 alloc, .bool fua, .int .u8 prot, .bool unmap, .bool evpd, .int .u8 page, .int .u8 control, .bool save, .int .u8 service, .int .u8 type, .bool bytes]) := ⟨X4.out.below hB5.out (by omega)⟩; have M5 : Kpt (Bx w5 (w2.heap.size + 2) cs) := ⟨M4.out.below hB5.out (by omega)⟩; clear hB5 X4 M4 ho4' hg4; have mB : Kpt True := ⟨trivial⟩)
    | (refine wpList_append_new rfl (.tmp 55) (.tmp 58) rfl (w2.heap.size + 3) (.slice none 0 0) (.slice (some ⟨b, off, none⟩) m cap) [] (P.take m) 0 m rfl rfl (World.ownsRow_nil _ _ _ _) ((rd_take HR.out hml hlc).below HB3.out) (by rw [List.length_take, hPlK.out]; omega) rfl (by rw [List.length_take, hPlK.out]; omega) (by omega) (Nat.le_of_eq Z3.out.symm) ?_; intro g1 q1 w4 ho4 hg4 hgr4; have HX4 : Kpt (Below (w2.heap.size + 3) (((w2.alloc (.cells #[.int .u8 kind, .bool long, .int .u64 lba, .int .u64 blocks, .int .i64 alloc, .bool fua, .int .u8 prot, .bool unmap, .bool evpd, .int .u8 page, .int .u8 control, .bool save, .int .u8 service, .int .u8 type, .bool bytes] 27)).alloc (.cells #[.int .u8 0, .int .u16 0, .int .u64 0, .bool false, .int .i64 0, .int .i64 0, .bool false, .bool false] 30)).alloc (.cells cs 5)) w4) := ⟨(Below.refl _ _).grown hgr4.out (Nat.le_of_eq Z3.out.symm) (fun k h => by cases h)⟩; have HB4 : Kpt (Below w.heap.size w w4) := ⟨HB3.out.trans (HX4.out.mono (by have := HB2.out.size; omega))⟩; have X4 : Kpt (Bx w4 w2.heap.size #[.int .u8 kind, .bool long, .int .u64 lba, .int .u64 blocks, .int .i64 alloc, .bool fua, .int .u8 prot, .bool unmap, .bool evpd, .int .u8 page, .int .u8 control, .bool save, .int .u8 service, .int .u8 type, .bool bytes]) := ⟨X3.out.below HX4.out (by omega)⟩; have M4 : Kpt (Bx w4 (w2.heap.size + 2) cs) := ⟨M3.out.below HX4.out (by omega)⟩; have ho4' : Kpt (w4.ownsRow (w2.heap.size + 3) 5 1 (.slice (some ⟨g1, 0, none⟩) m q1) m (cels (P.take m))) := ⟨by have := ho4.out; simpa using this⟩; clear hgr4 X3 M3 ho4 HX4)
    | (go_at_call 12; refine (HU.out _ _).mono ?_; rintro e w3 ⟨rfl, rfl⟩; have HB3 : Kpt (Below w.heap.size w (((w2.alloc (.cells #[.int .u8 kind, .bool long, .int .u64 lba, .int .u64 blocks, .int .i64 alloc, .bool fua, .int .u8 prot, .bool unmap, .bool evpd, .int .u8 page, .int .u8 control, .bool save, .int .u8 service, .int .u8 type, .bool bytes] 27)).alloc (.cells #[.int .u8 0, .int .u16 0, .int .u64 0, .bool false, .int .i64 0, .int .i64 0, .bool false, .bool false] 30)).alloc (.cells cs 5))) := ⟨((HB2.out.alloc HB2.out.size _).alloc (by have := HB2.out.size; simp; omega) _).alloc (by have := HB2.out.size; simp; omega) _⟩; have X3 : Kpt (Bx (((w2.alloc (.cells #[.int .u8 kind, .bool long, .int .u64 lba, .int .u64 blocks, .int .i64 alloc, .bool fua, .int .u8 prot, .bool unmap, .bool evpd, .int .u8 page, .int .u8 control, .bool save, .int .u8 service, .int .u8 type, .bool bytes] 27)).alloc (.cells #[.int .u8 0, .int .u16 0, .int .u64 0, .bool false, .int .i64 0, .int .i64 0, .bool false, .bool false] 30)).alloc (.cells cs 5)) w2.heap.size #[.int .u8 kind, .bool long, .int .u64 lba, .int .u64 blocks, .int .i64 alloc, .bool fua, .int .u8 prot, .bool unmap, .bool evpd, .int .u8 page, .int .u8 control, .bool save, .int .u8 service, .int .u8 type, .bool bytes]) := ⟨((bx_new w2 _ 27).alloc _).alloc _⟩; have M3 : Kpt (Bx (((w2.alloc (.cells #[.int .u8 kind, .bool long, .int .u64 lba, .int .u64 blocks, .int .i64 alloc, .bool fua, .int .u8 prot, .bool unmap, .bool evpd, .int .u8 page, .int .u8 control, .bool save, .int .u8 service, .int .u8 type, .bool bytes] 27)).alloc (.cells #[.int .u8 0, .int .u16 0, .int .u64 0, .bool false, .int .i64 0, .int .i64 0, .bool false, .bool false] 30)).alloc (.cells cs 5)) (w2.heap.size + 2) cs) := ⟨bx_newMB w2 _ _ cs 5⟩; have Z3 : Kpt ((((w2.alloc (.cells #[.int .u8 kind, .bool long, .int .u64 lba, .int .u64 blocks, .int .i64 alloc, .bool fua, .int .u8 prot, .bool unmap, .bool evpd, .int .u8 page, .int .u8 control, .bool save, .int .u8 service, .int .u8 type, .bool bytes] 27)).alloc (.cells #[.int .u8 0, .int .u16 0, .int .u64 0, .bool false, .int .i64 0, .int .i64 0, .bool false, .bool false] 30)).alloc (.cells cs 5)).heap.size = w2.heap.size + 3) := ⟨by simp⟩; clear k0 k1 hlt2 HU)
    | (go_at_call 10; have hm := mA; refine (HP.out w1 hb1.out).mono ?_; rintro e w2 ⟨rfl, hb2⟩; have HB2 : Kpt (Below w.heap.size w w2) := ⟨hb1.out.trans (hb2.mono hb1.out.size)⟩; have k0 : w2.cell? ⟨b, off, none⟩ = some (.int .u8 op) := (HB2.out.cell (p := ⟨b, off, none⟩) hlt).trans c0K.out; have k1 : w2.cell? ⟨b, off + 1, none⟩ = some (.int .u8 y1) := (HB2.out.cell (p := ⟨b, off + 1, none⟩) hlt).trans c1K.out; have hlt2 : b < w2.heap.size := Nat.lt_of_lt_of_le hlt HB2.out.size; clear hb2 HP mA hb1)
    | (go_at_call 9; refine (HA _).out.mono ?_; rintro e w1 ⟨rfl, hb1⟩; replace hb1 := Kpt.mk hb1; clear HA; have mA : Kpt True := ⟨trivial⟩))
  go_ret
  exact ⟨rfl, (HB6.out.alloc HB6.out.size _).alloc (by have := HB6.out.size; simp; omega) _⟩

end Go.Proofs.Ytcgojpnjaloofaa
