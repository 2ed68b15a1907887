/-
  sess: askFor.
-/
import Derived.Test.YtdplndlmdhpfaaaEEnc
import Derived.Deep.DeepCutAuto
namespace Go.Proofs.Ytdplndlmdhpfaaa
open Go.RowKit
set_option linter.unusedVariables false
set_option linter.unusedSimpArgs false

/-- A write whose data have not come yet. -/
structure Wr where
  (t : Tk) (tag en tm : Int)
def Wr.v (r : Wr) : Array Value := #[.int .u32 r.t.tg, .int .u8 r.t.lu, .int .u8 r.t.at_, r.t.cdb, r.t.out, .int .i64 r.t.wn, .int .u8 r.t.fn, .int .u32 r.t.rf, .int .u32 r.tag, .int .i64 r.en, .int .i64 r.tm]
theorem Wr.one {r : Wr} {a b : Option Addr} {n c m d : Nat} (h : r.t.cdb = .slice a n c) (h2 : r.t.out = .slice b m d) : r.v.size = 11 ∧ r.v.all (·.oneCell') = true := ⟨rfl, by simp [Wr.v, h, h2, Value.oneCell']⟩
def zW : Wr := { t := zT, tag := 0, en := 0, tm := 0 }
theorem zWrt : (Try.prog.info? 81).map (fun i => i.zero) = some (some (.agg zW.v)) := by kernel_rfl
theorem infoWrt : (Try.prog.info? 81).map (fun i => (i.zero, i.size, i.bytes)) = some (some (.agg zW.v), 11, 96) := by kernel_rfl
def Se.ask (s : Se) : Se := { s with asked := (s.asked + 1) % 4294967296 }
def Wr.ask (r : Wr) (s : Se) (m z : Int) : Wr := { r with tag := (s.asked + 1) % 4294967296, en := m + z, tm := r.tm + 1 }
def r2t (r : Wr) (s : Se) (m z : Int) : Pd := { zP with op := 49, fl := 128, lu := r.t.lu, tg := r.t.tg, w0 := (s.asked + 1) % 4294967296, w4 := r.tm, w5 := m, w6 := z }

set_option maxRecDepth 100000 in
set_option maxHeartbeats 8000000 in
theorem askFor_any (S : Nat) (s : Se) (H O T : List (Array Value)) (r : Wr) (ca : Option Addr) (cn cc : Nat) (oa : Option Addr) (m oc : Nat) (z : Int) (w : World) (h : Ss w S s H O T) (hcdb : r.t.cdb = .slice ca cn cc) (hout : r.t.out = .slice oa m oc)
    (hz : z = min (max s.bu 1) (r.t.wn - m)) (hz0 : 0 ≤ z ∧ z ≤ 1048576) (hm : m ≤ 1048576) (hwn : 0 ≤ r.t.wn ∧ r.t.wn ≤ 1048576) (htm : 0 ≤ r.tm ∧ r.tm < 1048576) (hn : 0 ≤ s.next ∧ s.next < 4294967296) :
    Calls Try.prog 38 #[.pointer (some ⟨S, 0, none⟩), .agg r.v] w fun e w' => ∃ v, e = .returned (.tuple #[.agg (r.ask s m z).v, v]) ∧ Ss w' S s.ask H O T ∧ St S w w' s s.ask ∧ Ou w w' S s.ask v 37 ((r2t r s m z).num s.ask).v := by
  have hN : Kpt (∀ W (q : Pd) (a : Option Addr) (n c : Nat), Ss W S s.ask H O T → q.da = .slice a n c → Calls Try.prog 50 #[.pointer (some ⟨S, 0, none⟩), .agg q.v] W fun e w' => e = .returned (.agg (q.num s.ask).v) ∧ Below W.heap.size W w') := ⟨fun W q a n c h hq => numbered_any S s.ask H O T q a n c W h hq hn⟩
  have k0 := Kpt.mk (Lo.start h)
  have hone : Kpt (∀ (tag en tm : Int), ({ r with tag := tag, en := en, tm := tm } : Wr).v.all (·.oneCell') = true) := ⟨fun tag en tm => (Wr.one (r := { r with tag := tag, en := en, tm := tm }) hcdb hout).2⟩
  have houtK := Kpt.mk hout
  have hzK := Kpt.mk hz
  clear h hcdb hout hz
  go_enter Try.func38, Try.ntmps38
  go_upto_region 2 with (first
    | (refine (?_ : wpList _ _ _ (Oper.mk _ (Op.box 81 _) _ _ _ _ :: _) _ _); go_must (refine wpList_box rfl 81 _ rfl r.v rfl ?_; intro P w1 hP hB hb _; have k1 := Kpt.mk (k0.out.add hb hP hB); clear hb hP hB))
    | (refine (?_ : wpList _ _ _ (Oper.mk _ (Op.alloc 81) _ _ _ _ :: _) _ _); go_must (refine wpList_var rfl 81 rfl _ zWrt ?_; intro R w2 hR hB hb; have k2 := Kpt.mk (k1.out.add hb hR hB); have c4 := k2.out.b1.cells 4 (by simp [Wr.v]); simp [Wr.v] at c4; rw [houtK.out] at c4; clear hb hR hB)))
  refine wp_region_any (by kernel_rfl) ?_
  refine wpAny_of_C (C := fun W => Bx W P r.v ∧ W.cell? ⟨S, 6, none⟩ = some (.int .i64 s.bu)) _ _ _ _ ?_
  refine wpAnyC_take 0 (.pointer (some ⟨S, 0, none⟩)) rfl (by kernel_rfl) (by kernel_rfl) (by kernel_rfl) (fun _ _ _ h => h) (wanted_free rfl _) (fun W hW => by go_simp) ?_
  try simp only [Act.put, List.getElem_toArray, List.getElem_cons_succ, List.getElem_cons_zero, List.setIfInBounds_toArray, List.set_cons_succ, List.set_cons_zero]
  refine wpAnyC_take 1 (.pointer (some ⟨S, 0, none⟩)) rfl (by kernel_rfl) (by kernel_rfl) (by kernel_rfl) (fun _ _ _ h => h) (wanted_free rfl _) (fun W hW => by go_simp) ?_
  try simp only [Act.put, List.getElem_toArray, List.getElem_cons_succ, List.getElem_cons_zero, List.setIfInBounds_toArray, List.set_cons_succ, List.set_cons_zero]
  refine wpAnyC_take 2 (.pointer (some ⟨S, 0, none⟩)) rfl (by kernel_rfl) (by kernel_rfl) (by kernel_rfl) (fun _ _ _ h => h) (wanted_free rfl _) (fun W hW => by go_simp) ?_
  try simp only [Act.put, List.getElem_toArray, List.getElem_cons_succ, List.getElem_cons_zero, List.setIfInBounds_toArray, List.set_cons_succ, List.set_cons_zero]
  refine wpAnyC_take 3 (.pointer (some ⟨S, 6, none⟩)) rfl (by kernel_rfl) (by kernel_rfl) (by kernel_rfl) (fun _ _ _ h => h) (wanted_free rfl _) (fun W hW => by go_simp) ?_
  try simp only [Act.put, List.getElem_toArray, List.getElem_cons_succ, List.getElem_cons_zero, List.setIfInBounds_toArray, List.set_cons_succ, List.set_cons_zero]
  refine wpAnyC_take 4 (.int .i64 s.bu) rfl (by kernel_rfl) (by kernel_rfl) (by kernel_rfl) (fun _ _ _ h => h) (wanted_free rfl _) (fun W hW => by have c := hW.2; go_simp) ?_
  try simp only [Act.put, List.getElem_toArray, List.getElem_cons_succ, List.getElem_cons_zero, List.setIfInBounds_toArray, List.set_cons_succ, List.set_cons_zero]
  refine wpAnyC_take 5 (.int .i64 (max s.bu 1)) rfl (by kernel_rfl) (by kernel_rfl) (by kernel_rfl) (fun _ _ _ h => h) (wanted_free rfl _) (fun W hW => by go_simp; try omega) ?_
  try simp only [Act.put, List.getElem_toArray, List.getElem_cons_succ, List.getElem_cons_zero, List.setIfInBounds_toArray, List.set_cons_succ, List.set_cons_zero]
  refine wpAnyC_take 6 (.pointer (some ⟨P, 0, none⟩)) rfl (by kernel_rfl) (by kernel_rfl) (by kernel_rfl) (fun _ _ _ h => h) (wanted_free rfl _) (fun W hW => by go_simp) ?_
  try simp only [Act.put, List.getElem_toArray, List.getElem_cons_succ, List.getElem_cons_zero, List.setIfInBounds_toArray, List.set_cons_succ, List.set_cons_zero]
  refine wpAnyC_take 7 (.pointer (some ⟨P, 5, none⟩)) rfl (by kernel_rfl) (by kernel_rfl) (by kernel_rfl) (fun _ _ _ h => h) (wanted_free rfl _) (fun W hW => by go_simp) ?_
  try simp only [Act.put, List.getElem_toArray, List.getElem_cons_succ, List.getElem_cons_zero, List.setIfInBounds_toArray, List.set_cons_succ, List.set_cons_zero]
  refine wpAnyC_take 8 (.int .i64 r.t.wn) rfl (by kernel_rfl) (by kernel_rfl) (by kernel_rfl) (fun _ _ _ h => h) (wanted_free rfl _) (fun W hW => by have c := hW.1.cells 5 (by simp [Wr.v]); simp [Wr.v] at c; go_simp) ?_
  try simp only [Act.put, List.getElem_toArray, List.getElem_cons_succ, List.getElem_cons_zero, List.setIfInBounds_toArray, List.set_cons_succ, List.set_cons_zero]
  refine wpAnyC_take 9 (.int .i64 m) rfl (by kernel_rfl) (by kernel_rfl) (by kernel_rfl) (fun _ _ _ h => h) (wanted_free rfl _) (fun W hW => by go_simp) ?_
  try simp only [Act.put, List.getElem_toArray, List.getElem_cons_succ, List.getElem_cons_zero, List.setIfInBounds_toArray, List.set_cons_succ, List.set_cons_zero]
  refine wpAnyC_take 10 (.int .i64 (r.t.wn - m)) rfl (by kernel_rfl) (by kernel_rfl) (by kernel_rfl) (fun _ _ _ h => h) (wanted_free rfl _) (fun W hW => by go_simp; first | omega | (rw [IntKind.wrap_i64]; omega)) ?_
  try simp only [Act.put, List.getElem_toArray, List.getElem_cons_succ, List.getElem_cons_zero, List.setIfInBounds_toArray, List.set_cons_succ, List.set_cons_zero]
  refine wpAnyC_take 11 (.int .i64 z) rfl (by kernel_rfl) (by kernel_rfl) (by kernel_rfl) (fun _ _ _ h => h) (wanted_free rfl _) (fun W hW => by rw [hzK.out]; go_simp; try omega) ?_
  try simp only [Act.put, List.getElem_toArray, List.getElem_cons_succ, List.getElem_cons_zero, List.setIfInBounds_toArray, List.set_cons_succ, List.set_cons_zero]
  refine wpAnyC_take 12 (.int .i64 z) rfl (by kernel_rfl) (by kernel_rfl) (by kernel_rfl) (fun _ _ _ h => h) (wanted_free rfl _) (fun W hW => by go_simp) ?_
  try simp only [Act.put, List.getElem_toArray, List.getElem_cons_succ, List.getElem_cons_zero, List.setIfInBounds_toArray, List.set_cons_succ, List.set_cons_zero]
  have k3 := Kpt.mk k2.out.drew
  obtain ⟨w3, hw3⟩ : ∃ W, W = w2.drew := ⟨_, rfl⟩
  rw [← hw3] at k3
  refine wpAnyC_world hw3 ?_
  clear hw3
  have c6 := (k3.out.ss.cell 6 (by omega)).1
  simp only [Se.v, List.getElem?_toArray, List.getElem?_cons_succ, List.getElem?_cons_zero] at c6
  refine wpAnyC_done (⟨k3.out.b1, c6⟩) (by kernel_rfl) ?_
  clear c6 c4
  clear k2 k1 k0
  obtain ⟨A, hA⟩ : ∃ A, A = (s.asked + 1) % 4294967296 := ⟨_, rfl⟩
  have hwA : IntKind.u32.wrap (s.asked + 1) = A := by rw [IntKind.wrap_u32, hA]
  have c13 := (k3.out.ss.cell 13 (by omega)).1
  have f13 := (k3.out.ss.cell 13 (by omega)).2
  simp only [Se.v, List.getElem?_toArray, List.getElem?_cons_succ, List.getElem?_cons_zero] at c13
  have k4 : Kpt (Lo w (w3.setCell ⟨S, 13, none⟩ (.int .u32 A)) S s s.ask H O T [(R, zW.v), (P, r.v)]) := ⟨k3.out.set 13 _ (by omega) (by rw [hA]; simp [Se.v, Se.ask]) rfl rfl rfl⟩
  have hask : Kpt (s.ask.asked = A) := ⟨by rw [hA]; rfl⟩
  replace hA := Kpt.mk hA
  go_upto_region 4 with fail
  obtain ⟨w4, hw4⟩ : ∃ x, x = w3.setCell ⟨S, 13, none⟩ (.int .u32 A) := ⟨_, rfl⟩
  rw [← hw4] at k4 ⊢
  clear hw4 k3 c13 f13
  have c0 := k4.out.b1.cells 0 (by simp [Wr.v])
  have c1 := k4.out.b1.cells 1 (by simp [Wr.v])
  simp [Wr.v] at c0 c1
  go_upto_region 5 with (first
    | (refine (?_ : wpList _ _ _ (Oper.mk _ (Op.alloc 37) _ _ _ _ :: _) _ _); go_must (refine wpList_var rfl 37 rfl _ zPdu ?_; intro Q w5 hQ hB hb; have k5 := Kpt.mk (k4.out.add hb hQ hB); clear hb hQ hB))
    | (refine (?_ : wpList _ _ _ (Oper.mk _ (Op.store 37 _ _) _ _ _ _ :: _) _ _); go_must (refine wpList_store_bx rfl 37 _ _ rfl Q zP.v ({ zP with op := 49, fl := 128, lu := r.t.lu, tg := r.t.tg } : Pd).v rfl rfl k5.out.b0 rfl szPdu (Pd.one rfl).2 rfl ?_; intro w6 hB hg; have k6 := Kpt.mk (k5.out.put0 hB hg); clear hB hg)))
  clear c0 c1 k4 k5
  have s13 := (k6.out.ss.cell 13 (by omega)).1
  simp only [Se.v, List.getElem?_toArray, List.getElem?_cons_succ, List.getElem?_cons_zero] at s13
  rw [hask.out] at s13
  have p10 := k6.out.b2.cells 10 (by simp [Wr.v])
  simp [Wr.v] at p10
  have c := k6.out.b0.cells 6 (by simp [Pd.v])
  have f := k6.out.b0.free 6
  simp [Pd.v] at c
  have k7 : Kpt (Lo w (w6.setCell ⟨Q, 6, none⟩ (.int .u32 A)) S s s.ask H O T [(Q, ({ zP with op := 49, fl := 128, lu := r.t.lu, tg := r.t.tg, w0 := A } : Pd).v), (R, zW.v), (P, r.v)]) := ⟨k6.out.put0 (by have := bx_setC (.int .u32 A) k6.out.b0 (j := 6) (by simp [Pd.v]); simpa [Pd.v] using this) (grown_setCellK _ _ _)⟩
  go_upto_region 6 with fail
  obtain ⟨w7, hw7⟩ : ∃ x, x = w6.setCell ⟨Q, 6, none⟩ (.int .u32 A) := ⟨_, rfl⟩
  rw [← hw7] at k7 ⊢
  clear hw7 k6 c f s13 p10
  have s13 := (k7.out.ss.cell 13 (by omega)).1
  simp only [Se.v, List.getElem?_toArray, List.getElem?_cons_succ, List.getElem?_cons_zero] at s13
  rw [hask.out] at s13
  have p10 := k7.out.b2.cells 10 (by simp [Wr.v])
  simp [Wr.v] at p10
  have c := k7.out.b0.cells 10 (by simp [Pd.v])
  have f := k7.out.b0.free 10
  simp [Pd.v] at c
  have k8 : Kpt (Lo w (w7.setCell ⟨Q, 10, none⟩ (.int .u32 r.tm)) S s s.ask H O T [(Q, ({ zP with op := 49, fl := 128, lu := r.t.lu, tg := r.t.tg, w0 := A, w4 := r.tm } : Pd).v), (R, zW.v), (P, r.v)]) := ⟨k7.out.put0 (by have := bx_setC (.int .u32 r.tm) k7.out.b0 (j := 10) (by simp [Pd.v]); simpa [Pd.v] using this) (grown_setCellK _ _ _)⟩
  go_upto_region 7 with fail
  obtain ⟨w8, hw8⟩ : ∃ x, x = w7.setCell ⟨Q, 10, none⟩ (.int .u32 r.tm) := ⟨_, rfl⟩
  rw [← hw8] at k8 ⊢
  clear hw8 k7 c f s13 p10
  have s13 := (k8.out.ss.cell 13 (by omega)).1
  simp only [Se.v, List.getElem?_toArray, List.getElem?_cons_succ, List.getElem?_cons_zero] at s13
  rw [hask.out] at s13
  have p10 := k8.out.b2.cells 10 (by simp [Wr.v])
  simp [Wr.v] at p10
  have c := k8.out.b0.cells 11 (by simp [Pd.v])
  have f := k8.out.b0.free 11
  simp [Pd.v] at c
  have k9 : Kpt (Lo w (w8.setCell ⟨Q, 11, none⟩ (.int .u32 m)) S s s.ask H O T [(Q, ({ zP with op := 49, fl := 128, lu := r.t.lu, tg := r.t.tg, w0 := A, w4 := r.tm, w5 := (m : Int) } : Pd).v), (R, zW.v), (P, r.v)]) := ⟨k8.out.put0 (by have := bx_setC (.int .u32 m) k8.out.b0 (j := 11) (by simp [Pd.v]); simpa [Pd.v] using this) (grown_setCellK _ _ _)⟩
  go_upto_region 8 with fail
  obtain ⟨w9, hw9⟩ : ∃ x, x = w8.setCell ⟨Q, 11, none⟩ (.int .u32 m) := ⟨_, rfl⟩
  rw [← hw9] at k9 ⊢
  clear hw9 k8 c f s13 p10
  have s13 := (k9.out.ss.cell 13 (by omega)).1
  simp only [Se.v, List.getElem?_toArray, List.getElem?_cons_succ, List.getElem?_cons_zero] at s13
  rw [hask.out] at s13
  have p10 := k9.out.b2.cells 10 (by simp [Wr.v])
  simp [Wr.v] at p10
  have c := k9.out.b0.cells 12 (by simp [Pd.v])
  have f := k9.out.b0.free 12
  simp [Pd.v] at c
  have k10 : Kpt (Lo w (w9.setCell ⟨Q, 12, none⟩ (.int .u32 z)) S s s.ask H O T [(Q, ({ zP with op := 49, fl := 128, lu := r.t.lu, tg := r.t.tg, w0 := A, w4 := r.tm, w5 := (m : Int), w6 := z } : Pd).v), (R, zW.v), (P, r.v)]) := ⟨k9.out.put0 (by have := bx_setC (.int .u32 z) k9.out.b0 (j := 12) (by simp [Pd.v]); simpa [Pd.v] using this) (grown_setCellK _ _ _)⟩
  go_upto_region 9 with fail
  obtain ⟨w10, hw10⟩ : ∃ x, x = w9.setCell ⟨Q, 12, none⟩ (.int .u32 z) := ⟨_, rfl⟩
  rw [← hw10] at k10 ⊢
  clear hw10 k9 c f s13 p10
  have s13 := (k10.out.ss.cell 13 (by omega)).1
  simp only [Se.v, List.getElem?_toArray, List.getElem?_cons_succ, List.getElem?_cons_zero] at s13
  rw [hask.out] at s13
  have p10 := k10.out.b2.cells 10 (by simp [Wr.v])
  simp [Wr.v] at p10
  have c := k10.out.b2.cells 8 (by simp [Wr.v])
  have f := k10.out.b2.free 8
  simp [Wr.v] at c
  have k11 : Kpt (Lo w (w10.setCell ⟨P, 8, none⟩ (.int .u32 A)) S s s.ask H O T [(Q, ({ zP with op := 49, fl := 128, lu := r.t.lu, tg := r.t.tg, w0 := A, w4 := r.tm, w5 := (m : Int), w6 := z } : Pd).v), (R, zW.v), (P, ({ r with tag := A } : Wr).v)]) := ⟨k10.out.put2 (by have := bx_setC (.int .u32 A) k10.out.b2 (j := 8) (by simp [Wr.v]); simpa [Wr.v] using this) (grown_setCellK _ _ _)⟩
  go_upto_region 10 with fail
  obtain ⟨w11, hw11⟩ : ∃ x, x = w10.setCell ⟨P, 8, none⟩ (.int .u32 A) := ⟨_, rfl⟩
  rw [← hw11] at k11 ⊢
  clear hw11 k10 c f s13 p10
  have s13 := (k11.out.ss.cell 13 (by omega)).1
  simp only [Se.v, List.getElem?_toArray, List.getElem?_cons_succ, List.getElem?_cons_zero] at s13
  rw [hask.out] at s13
  have p10 := k11.out.b2.cells 10 (by simp [Wr.v])
  simp [Wr.v] at p10
  have c := k11.out.b2.cells 9 (by simp [Wr.v])
  have f := k11.out.b2.free 9
  simp [Wr.v] at c
  have k12 : Kpt (Lo w (w11.setCell ⟨P, 9, none⟩ (.int .i64 ((m : Int) + z))) S s s.ask H O T [(Q, ({ zP with op := 49, fl := 128, lu := r.t.lu, tg := r.t.tg, w0 := A, w4 := r.tm, w5 := (m : Int), w6 := z } : Pd).v), (R, zW.v), (P, ({ r with tag := A, en := (m : Int) + z } : Wr).v)]) := ⟨k11.out.put2 (by have := bx_setC (.int .i64 ((m : Int) + z)) k11.out.b2 (j := 9) (by simp [Wr.v]); simpa [Wr.v] using this) (grown_setCellK _ _ _)⟩
  go_upto_region 11 with fail
  obtain ⟨w12, hw12⟩ : ∃ x, x = w11.setCell ⟨P, 9, none⟩ (.int .i64 ((m : Int) + z)) := ⟨_, rfl⟩
  rw [← hw12] at k12 ⊢
  clear hw12 k11 c f s13 p10
  have s13 := (k12.out.ss.cell 13 (by omega)).1
  simp only [Se.v, List.getElem?_toArray, List.getElem?_cons_succ, List.getElem?_cons_zero] at s13
  rw [hask.out] at s13
  have p10 := k12.out.b2.cells 10 (by simp [Wr.v])
  simp [Wr.v] at p10
  have c := k12.out.b2.cells 10 (by simp [Wr.v])
  have f := k12.out.b2.free 10
  simp [Wr.v] at c
  have k13 : Kpt (Lo w (w12.setCell ⟨P, 10, none⟩ (.int .i64 (r.tm + 1))) S s s.ask H O T [(Q, ({ zP with op := 49, fl := 128, lu := r.t.lu, tg := r.t.tg, w0 := A, w4 := r.tm, w5 := (m : Int), w6 := z } : Pd).v), (R, zW.v), (P, ({ r with tag := A, en := (m : Int) + z, tm := r.tm + 1 } : Wr).v)]) := ⟨k12.out.put2 (by have := bx_setC (.int .i64 (r.tm + 1)) k12.out.b2 (j := 10) (by simp [Wr.v]); simpa [Wr.v] using this) (grown_setCellK _ _ _)⟩
  go_upto_region 12 with fail
  obtain ⟨w13, hw13⟩ : ∃ x, x = w12.setCell ⟨P, 10, none⟩ (.int .i64 (r.tm + 1)) := ⟨_, rfl⟩
  rw [← hw13] at k13 ⊢
  clear hw13 k12 c f s13 p10
  have eW : ({ r with tag := A, en := (m : Int) + z, tm := r.tm + 1 } : Wr) = r.ask s m z := by rw [hA.out]; rfl
  have eQ : ({ zP with op := 49, fl := 128, lu := r.t.lu, tg := r.t.tg, w0 := A, w4 := r.tm, w5 := (m : Int), w6 := z } : Pd) = r2t r s m z := by rw [hA.out]; rfl
  rw [eW, eQ] at k13
  have hone2 : Kpt ((r.ask s m z).v.all (·.oneCell') = true) := ⟨by rw [← eW]; exact hone.out _ _ _⟩
  clear eW eQ hone
  refine wp_region_any (by kernel_rfl) ?_
  refine wpAny_of_C (C := fun W => Bx W P (r.ask s m z).v ∧ Bx W Q (r2t r s m z).v) _ _ _ _ ?_
  refine wpAnyC_take 0 (.agg (r.ask s m z).v) rfl (by kernel_rfl) (by kernel_rfl) (by kernel_rfl) (fun _ _ _ h => h) (wanted_free rfl _) (fun W hW => exec_load_bx 81 (.tmp 3) rfl P _ rfl hW.1 _ Try.underlying81 rfl szWrt) ?_
  try simp only [Act.put, List.getElem_toArray, List.getElem_cons_succ, List.getElem_cons_zero, List.setIfInBounds_toArray, List.set_cons_succ, List.set_cons_zero]
  refine wpAnyC_take 1 (.pointer (some ⟨S, 0, none⟩)) rfl (by kernel_rfl) (by kernel_rfl) (by kernel_rfl) (fun _ _ _ h => h) (wanted_free rfl _) (fun W hW => by go_simp) ?_
  try simp only [Act.put, List.getElem_toArray, List.getElem_cons_succ, List.getElem_cons_zero, List.setIfInBounds_toArray, List.set_cons_succ, List.set_cons_zero]
  refine wpAnyC_take 2 (.agg (r2t r s m z).v) rfl (by kernel_rfl) (by kernel_rfl) (by kernel_rfl) (fun _ _ _ h => h) (wanted_free rfl _) (fun W hW => exec_load_bx 37 (.tmp 8) rfl Q _ rfl hW.2 _ Try.underlying37 rfl szPdu) ?_
  try simp only [Act.put, List.getElem_toArray, List.getElem_cons_succ, List.getElem_cons_zero, List.setIfInBounds_toArray, List.set_cons_succ, List.set_cons_zero]
  have k14 := Kpt.mk k13.out.drew
  obtain ⟨W0, hW0⟩ : ∃ W, W = w13.drew := ⟨_, rfl⟩
  rw [← hW0] at k14
  refine wpAnyC_world hW0 ?_
  clear hW0
  refine wpAnyC_one 3 (⟨k14.out.b2, k14.out.b0⟩) rfl (by kernel_rfl) (wanted_free rfl _) (fun KA hKA => ?_)
  go_simp
  refine (hN.out _ (r2t r s m z) _ _ _ k14.out.ss rfl).mono ?_
  intro e W1 hh
  obtain ⟨he, hb1⟩ := hh
  subst he
  have k15 := Kpt.mk (k14.out.below hb1)
  clear hb1
  refine hKA _ _ ?_
  clear hKA KA
  try simp only [Act.put, List.getElem_toArray, List.getElem_cons_succ, List.getElem_cons_zero, List.setIfInBounds_toArray, List.set_cons_succ, List.set_cons_zero]
  refine wpAnyC_two 4 5 (⟨k15.out.b2, k15.out.b0⟩) rfl rfl (by kernel_rfl) (wanted_free rfl _) (wanted_free rfl _) (fun KA hKA => ?_) (fun KA hKA => ?_)
  · unfold Oper.wp
    rw [exec_build1 31 37 14 64 _ Try.underlying31 infoPdu (by decide) (by decide) (.tmp 74) rfl ((r2t r s m z).num s.ask).v rfl rfl]
    refine hKA _ (W1.alloc (.cells ((r2t r s m z).num s.ask).v 37)) ?_
    clear hKA KA
    have hb2 : Below W1.heap.size W1 (W1.alloc (.cells ((r2t r s m z).num s.ask).v 37)) := (Below.refl _ _).alloc (Nat.le_refl _) _
    have k16 := Kpt.mk (k15.out.below hb2)
    have hh7 : Kpt ((W1.alloc (.cells ((r2t r s m z).num s.ask).v 37)).heap[W1.heap.size]? = some (.cells ((r2t r s m z).num s.ask).v 37 (0, 0))) := ⟨by show (W1.heap.push _)[W1.heap.size]? = _; simp⟩
    obtain ⟨N, hNN⟩ : ∃ N, N = W1.heap.size := ⟨_, rfl⟩
    have hN7 : Kpt (W1.heap.size ≤ N) := ⟨by rw [hNN]; exact Nat.le_refl _⟩
    have hX7 : Kpt (¬ s.ask.X S N) := ⟨fun e => by have := k15.out.ss.lt _ e; omega⟩
    have hRN : Kpt (N ≠ R) := ⟨fun e => by have := k15.out.b1.lt; omega⟩
    have hwN : Kpt (w.heap.size ≤ N) := ⟨Nat.le_trans k15.out.st.fr.size hN7.out⟩
    have hNl : Kpt (N < (W1.alloc (.cells ((r2t r s m z).num s.ask).v 37)).heap.size) := ⟨by rw [hNN]; simp⟩
    rw [← hNN] at hh7 ⊢
    obtain ⟨W7, hW7⟩ : ∃ W7, W7 = W1.alloc (.cells ((r2t r s m z).num s.ask).v 37) := ⟨_, rfl⟩
    rw [← hW7] at k16 hh7 hNl ⊢
    clear hNN hW7 hb2
    try simp only [Act.put, List.getElem_toArray, List.getElem_cons_succ, List.getElem_cons_zero, List.setIfInBounds_toArray, List.set_cons_succ, List.set_cons_zero]
    refine wpAnyC_one 5 (⟨k16.out.b2, k16.out.b0⟩) rfl (by kernel_rfl) (wanted_free rfl _) (fun KA hKA => ?_)
    refine wp_store_bx 81 _ _ rfl R zW.v (r.ask s m z).v rfl rfl k16.out.b1 rfl szWrt hone2.out ?_
    intro W8 hBs hgs
    have k17 := Kpt.mk (k16.out.put1 hBs hgs)
    have hh9 : Kpt (W8.heap[N]? = some (.cells ((r2t r s m z).num s.ask).v 37 (0, 0))) := ⟨(hgs.block N hNl.out (fun e => hRN.out (by injection e))).trans hh7.out⟩
    clear hBs hgs
    refine hKA _ _ ?_
    clear hKA KA
    try simp only [Act.put, List.getElem_toArray, List.getElem_cons_succ, List.getElem_cons_zero, List.setIfInBounds_toArray, List.set_cons_succ, List.set_cons_zero]
    refine wpAnyC_one 6 (⟨k17.out.b2, k17.out.b0⟩) rfl (by kernel_rfl) (wanted_free rfl _) (fun KA hKA => ?_)
    go_simp
    refine hKA _ _ ?_
    clear hKA KA
    try simp only [Act.put, List.getElem_toArray, List.getElem_cons_succ, List.getElem_cons_zero, List.setIfInBounds_toArray, List.set_cons_succ, List.set_cons_zero]
    refine wpAnyC_done (⟨k17.out.b2, k17.out.b0⟩) (by kernel_rfl) ?_
    go_wp2
    refine bodyPost_ret (v := .tuple #[.agg (r.ask s m z).v, .slice (some ⟨N, 0, none⟩) 1 1]) (by simp [results, Try.results38, asAddr, Act.put, run_res k17.out.b1 81 _ Try.underlying81 rfl szWrt]) rfl ⟨_, rfl, k17.out.ss, k17.out.st, ⟨N, rfl, hwN.out, hh9.out, hX7.out⟩⟩
  · refine wp_store_bx 81 _ _ rfl R zW.v (r.ask s m z).v rfl rfl k15.out.b1 rfl szWrt hone2.out ?_
    intro W8 hBs hgs
    have k16 := Kpt.mk (k15.out.put1 hBs hgs)
    skip
    clear hBs hgs
    refine hKA _ _ ?_
    clear hKA KA
    try simp only [Act.put, List.getElem_toArray, List.getElem_cons_succ, List.getElem_cons_zero, List.setIfInBounds_toArray, List.set_cons_succ, List.set_cons_zero]
    refine wpAnyC_one 4 (⟨k16.out.b2, k16.out.b0⟩) rfl (by kernel_rfl) (wanted_free rfl _) (fun KA hKA => ?_)
    unfold Oper.wp
    rw [exec_build1 31 37 14 64 _ Try.underlying31 infoPdu (by decide) (by decide) (.tmp 74) rfl ((r2t r s m z).num s.ask).v rfl rfl]
    refine hKA _ (W8.alloc (.cells ((r2t r s m z).num s.ask).v 37)) ?_
    clear hKA KA
    have hb2 : Below W8.heap.size W8 (W8.alloc (.cells ((r2t r s m z).num s.ask).v 37)) := (Below.refl _ _).alloc (Nat.le_refl _) _
    have k17 := Kpt.mk (k16.out.below hb2)
    have hh7 : Kpt ((W8.alloc (.cells ((r2t r s m z).num s.ask).v 37)).heap[W8.heap.size]? = some (.cells ((r2t r s m z).num s.ask).v 37 (0, 0))) := ⟨by show (W8.heap.push _)[W8.heap.size]? = _; simp⟩
    obtain ⟨N, hNN⟩ : ∃ N, N = W8.heap.size := ⟨_, rfl⟩
    have hN7 : Kpt (W8.heap.size ≤ N) := ⟨by rw [hNN]; exact Nat.le_refl _⟩
    have hX7 : Kpt (¬ s.ask.X S N) := ⟨fun e => by have := k16.out.ss.lt _ e; omega⟩
    have hRN : Kpt (N ≠ R) := ⟨fun e => by have := k16.out.b1.lt; omega⟩
    have hwN : Kpt (w.heap.size ≤ N) := ⟨Nat.le_trans k16.out.st.fr.size hN7.out⟩
    have hNl : Kpt (N < (W8.alloc (.cells ((r2t r s m z).num s.ask).v 37)).heap.size) := ⟨by rw [hNN]; simp⟩
    rw [← hNN] at hh7 ⊢
    obtain ⟨W7, hW7⟩ : ∃ W7, W7 = W8.alloc (.cells ((r2t r s m z).num s.ask).v 37) := ⟨_, rfl⟩
    rw [← hW7] at k17 hh7 hNl ⊢
    clear hNN hW7 hb2
    try simp only [Act.put, List.getElem_toArray, List.getElem_cons_succ, List.getElem_cons_zero, List.setIfInBounds_toArray, List.set_cons_succ, List.set_cons_zero]
    have hh9 := hh7
    refine wpAnyC_one 6 (⟨k17.out.b2, k17.out.b0⟩) rfl (by kernel_rfl) (wanted_free rfl _) (fun KA hKA => ?_)
    go_simp
    refine hKA _ _ ?_
    clear hKA KA
    try simp only [Act.put, List.getElem_toArray, List.getElem_cons_succ, List.getElem_cons_zero, List.setIfInBounds_toArray, List.set_cons_succ, List.set_cons_zero]
    refine wpAnyC_done (⟨k17.out.b2, k17.out.b0⟩) (by kernel_rfl) ?_
    go_wp2
    refine bodyPost_ret (v := .tuple #[.agg (r.ask s m z).v, .slice (some ⟨N, 0, none⟩) 1 1]) (by simp [results, Try.results38, asAddr, Act.put, run_res k17.out.b1 81 _ Try.underlying81 rfl szWrt]) rfl ⟨_, rfl, k17.out.ss, k17.out.st, ⟨N, rfl, hwN.out, hh9.out, hX7.out⟩⟩
end Go.Proofs.Ytdplndlmdhpfaaa
