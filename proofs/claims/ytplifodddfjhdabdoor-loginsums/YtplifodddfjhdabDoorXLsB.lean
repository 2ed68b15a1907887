/-
  login: the answer to a key on sums.
-/
import Derived.Test.YtplifodddfjhdabDoorXLsA
import Derived.Test.YtplifodddfjhdabDoorXLgHs
import Derived.Great.BuildSlice
namespace Go.Proofs.YtplifodddfjhdabDoor
open Go.RowKit
set_option linter.unusedVariables false
set_option linter.unusedSimpArgs false

/-- What a pair's row is. -/
theorem exec_build1 {o : Oper} {a : Act} {w : World} (sl ty k by' : Nat) (Z : Value) (hu : Tryd.prog.underlying sl = some (.slice ty)) (hinf : (Tryd.prog.info? ty).map (fun i => (i.zero, i.size, i.bytes)) = some (some Z, k, by')) (hk0 : 0 < k) (hk : k ≤ 1000)
    (x : Operand) (ho : o.op = .buildSlice sl 1 #[(0, x)]) (z : Array Value) (hz : z.size = k) (hx : a.eval x = .agg z) :
    (execOp a.eval o).run Tryd.prog w = .ok (.value (.slice (some ⟨w.heap.size, 0, none⟩) 1 1)) (w.alloc (.cells z ty)) := by
  obtain ⟨i0, hi0, hz0, hz1, hz2⟩ := info_parts hinf
  have hf := Great.fill_whole hk0 [.agg z] ((Array.range (1 * i0.size)).map (Z.cells[· % Z.cells.size]!)) (by intro v hv; simp at hv; subst hv; exact hz) (by simp [hz1])
  have he : ([Value.agg z].flatMap fun v => v.cells.toList).toArray = z := by simp [Value.cells]
  rw [he, show (([Value.agg z].zipIdx 0).map fun x => (x.2, x.1)) = [(0, .agg z)] from rfl] at hf
  have := run_buildSlice (P := Tryd.prog) w sl ty 1 #[(0, .agg z)] z i0 _ hu hi0 hz0 (by rw [hz1]; omega) (by rw [hz1]; omega) (by rw [hz1] at hf ⊢; exact hf)
  unfold execOp
  simp only [ho]
  simp [hx, this]

theorem exec_pair {o : Oper} {a : Act} {w : World} (x : Operand) (ho : o.op = .buildSlice 29 1 #[(0, x)]) (K V : ByteArray) (hx : a.eval x = .agg #[.string K, .string V]) :
    (execOp a.eval o).run Tryd.prog w = .ok (.value (.slice (some ⟨w.heap.size, 0, none⟩) 1 1)) (w.alloc (.cells #[.string K, .string V] 37)) :=
  exec_build1 29 37 2 32 _ Tryd.underlying29 infoP (by decide) (by decide) x ho #[.string K, .string V] rfl hx

set_option maxRecDepth 100000 in
set_option maxHeartbeats 4000000 in
theorem agree_h (L : Nat) (s : Lg) (S : ByteArray) (w : World) (hX : Bx w L s.v) (hl : S.size ≤ 281474976710656) :
    Calls Tryd.prog 27 #[.pointer (some ⟨L, 0, none⟩), .string hdB, .string S] w fun e w' => e = .returned (.string (fstV s.sums S)) ∧ Bx w' L (s.v.setIfInBounds 15 (.bool (isCrc (fstV s.sums S)))) ∧ w.grownBy w' (some L) := by
  have hA := Kpt.mk (agreeSums_any L 15 (by omega) s S w hX hl)
  obtain ⟨x, hx⟩ : ∃ x, x = fstV s.sums S := ⟨_, rfl⟩
  rw [← hx] at hA ⊢
  clear hX hl hx
  unfold hdB
  go_enter Tryd.func27, Tryd.ntmps27
  go_wp2_with (go_at_call 33; go_must (refine hA.out.mono ?_; rintro e w2 ⟨rfl, hX2, hg2⟩; replace hX2 := Kpt.mk hX2; replace hg2 := Kpt.mk hg2))
  go_ret
  exact ⟨rfl, hX2.out, hg2.out⟩

set_option maxRecDepth 100000 in
set_option maxHeartbeats 4000000 in
theorem akey_h (L : Nat) (s : Lg) (S rs : ByteArray) (w : World) (hX : Bx w L s.v) (hl : S.size ≤ 281474976710656) :
    Calls Tryd.prog 21 #[.pointer (some ⟨L, 0, none⟩), .agg #[.string hdB, .string S], .string rs] w fun e w' => ∃ g, e = .returned (.tuple #[.slice (some ⟨g, 0, none⟩) 1 1, .bool true]) ∧ w.heap.size ≤ g ∧ Bx w' g #[.string hdB, .string (fstV s.sums S)] ∧ Bx w' L (s.v.setIfInBounds 15 (.bool (isCrc (fstV s.sums S)))) ∧ w.grownBy w' (some L) := by
  have hA := Kpt.mk (fun (W : World) (hb : Below w.heap.size w W) => agree_h L s S W (hX.below hb hX.lt) hl)
  have hne := fstV_ne s.sums S
  obtain ⟨x, hx⟩ : ∃ x, x = fstV s.sums S := ⟨_, rfl⟩
  rw [← hx] at hA hne ⊢
  have n1 : (x.toList == []) = false := beq_eq_false_iff_ne.2 hne
  have n2 : x.toList.isEmpty = false := by simpa using hne
  have hlt := hX.lt
  clear hX hl hx hne
  unfold hdB at hA ⊢
  go_enter Tryd.func21, Tryd.ntmps21
  go_wp2_with (first
    | (refine (?_ : wpList _ _ _ (Oper.mk (some 98) _ _ _ _ _ :: _) _ _); go_must (refine wpList_of_exec rfl (exec_pair (.tmp 97) rfl ⟨#[72, 101, 97, 100, 101, 114, 68, 105, 103, 101, 115, 116]⟩ x rfl) ?_))
    | (go_at_call 27; go_must (refine (hA.out _ hb1.out).mono ?_; rintro e w2 ⟨rfl, hX2, hg2⟩; have hB2 := hB.out.grown hg2 (fun e => by injection e with e; omega); have k0 := hB2.cells 0 (by simp); have k1 := hB2.cells 1 (by simp); simp only [List.getElem?_toArray, List.getElem?_cons_succ, List.getElem?_cons_zero] at k0 k1; replace hX2 := Kpt.mk hX2; have hgw : Kpt (w.grownBy w2 (some L)) := ⟨grown_tr (grown_of_below hb1.out _) hg2⟩; clear hB2 hg2))
    | (refine (?_ : wpList _ _ _ (Oper.mk _ (Op.box 37 _) _ _ _ _ :: _) _ _); go_must (refine wpList_box rfl 37 (.tmp 1) rfl #[.string ⟨#[72, 101, 97, 100, 101, 114, 68, 105, 103, 101, 115, 116]⟩, .string S] rfl ?_; intro B w1 hBl hBq hbe _; have hB := Kpt.mk hBq; have hb1 := Kpt.mk hbe; have k0 := hBq.cells 0 (by simp); have k1 := hBq.cells 1 (by simp); simp only [List.getElem?_toArray, List.getElem?_cons_succ, List.getElem?_cons_zero] at k0 k1; clear hBq hbe)))
  go_ret2
  refine ⟨w2.heap.size, rfl, hgw.out.size, bx_new w2 _ 37, hX2.out.alloc _, grown_tr hgw.out (grown_of_below ((Below.refl _ _).alloc (Nat.le_refl _) _) _)⟩

set_option maxRecDepth 100000 in
set_option maxHeartbeats 4000000 in
theorem agree_d (L : Nat) (s : Lg) (S : ByteArray) (w : World) (hX : Bx w L s.v) (hl : S.size ≤ 281474976710656) :
    Calls Tryd.prog 27 #[.pointer (some ⟨L, 0, none⟩), .string ddB, .string S] w fun e w' => e = .returned (.string (fstV s.sums S)) ∧ Bx w' L (s.v.setIfInBounds 16 (.bool (isCrc (fstV s.sums S)))) ∧ w.grownBy w' (some L) := by
  have hA := Kpt.mk (agreeSums_any L 16 (by omega) s S w hX hl)
  obtain ⟨x, hx⟩ : ∃ x, x = fstV s.sums S := ⟨_, rfl⟩
  rw [← hx] at hA ⊢
  clear hX hl hx
  unfold ddB
  go_enter Tryd.func27, Tryd.ntmps27
  go_wp2_with (go_at_call 33; go_must (refine hA.out.mono ?_; rintro e w2 ⟨rfl, hX2, hg2⟩; replace hX2 := Kpt.mk hX2; replace hg2 := Kpt.mk hg2))
  go_ret
  exact ⟨rfl, hX2.out, hg2.out⟩

set_option maxRecDepth 100000 in
set_option maxHeartbeats 4000000 in
theorem akey_d (L : Nat) (s : Lg) (S rs : ByteArray) (w : World) (hX : Bx w L s.v) (hl : S.size ≤ 281474976710656) :
    Calls Tryd.prog 21 #[.pointer (some ⟨L, 0, none⟩), .agg #[.string ddB, .string S], .string rs] w fun e w' => ∃ g, e = .returned (.tuple #[.slice (some ⟨g, 0, none⟩) 1 1, .bool true]) ∧ w.heap.size ≤ g ∧ Bx w' g #[.string ddB, .string (fstV s.sums S)] ∧ Bx w' L (s.v.setIfInBounds 16 (.bool (isCrc (fstV s.sums S)))) ∧ w.grownBy w' (some L) := by
  have hA := Kpt.mk (fun (W : World) (hb : Below w.heap.size w W) => agree_d L s S W (hX.below hb hX.lt) hl)
  have hne := fstV_ne s.sums S
  obtain ⟨x, hx⟩ : ∃ x, x = fstV s.sums S := ⟨_, rfl⟩
  rw [← hx] at hA hne ⊢
  have n1 : (x.toList == []) = false := beq_eq_false_iff_ne.2 hne
  have n2 : x.toList.isEmpty = false := by simpa using hne
  have hlt := hX.lt
  clear hX hl hx hne
  unfold ddB at hA ⊢
  go_enter Tryd.func21, Tryd.ntmps21
  go_wp2_with (first
    | (refine (?_ : wpList _ _ _ (Oper.mk (some 98) _ _ _ _ _ :: _) _ _); go_must (refine wpList_of_exec rfl (exec_pair (.tmp 97) rfl ⟨#[68, 97, 116, 97, 68, 105, 103, 101, 115, 116]⟩ x rfl) ?_))
    | (go_at_call 27; go_must (refine (hA.out _ hb1.out).mono ?_; rintro e w2 ⟨rfl, hX2, hg2⟩; have hB2 := hB.out.grown hg2 (fun e => by injection e with e; omega); have k0 := hB2.cells 0 (by simp); have k1 := hB2.cells 1 (by simp); simp only [List.getElem?_toArray, List.getElem?_cons_succ, List.getElem?_cons_zero] at k0 k1; replace hX2 := Kpt.mk hX2; have hgw : Kpt (w.grownBy w2 (some L)) := ⟨grown_tr (grown_of_below hb1.out _) hg2⟩; clear hB2 hg2))
    | (refine (?_ : wpList _ _ _ (Oper.mk _ (Op.box 37 _) _ _ _ _ :: _) _ _); go_must (refine wpList_box rfl 37 (.tmp 1) rfl #[.string ⟨#[68, 97, 116, 97, 68, 105, 103, 101, 115, 116]⟩, .string S] rfl ?_; intro B w1 hBl hBq hbe _; have hB := Kpt.mk hBq; have hb1 := Kpt.mk hbe; have k0 := hBq.cells 0 (by simp); have k1 := hBq.cells 1 (by simp); simp only [List.getElem?_toArray, List.getElem?_cons_succ, List.getElem?_cons_zero] at k0 k1; clear hBq hbe)))
  go_ret2
  refine ⟨w2.heap.size, rfl, hgw.out.size, bx_new w2 _ 37, hX2.out.alloc _, grown_tr hgw.out (grown_of_below ((Below.refl _ _).alloc (Nat.le_refl _) _) _)⟩
end Go.Proofs.YtplifodddfjhdabDoor
