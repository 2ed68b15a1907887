/-
  TaskPlays: the walk.
-/
import Derived.Test.YtcnefmfmmgdidaaTScr
import Derived.Test.YtcnefmfmmgdidaaTEnds
namespace Go.Proofs.Ytcnefmfmmgdidaa
open Go.RowKit
set_option linter.unusedVariables false
set_option linter.unusedSimpArgs false

section
variable {P : Program} {md : Region.Mode} {ops : Array Oper} {C C' : World → Prop} {Q : Exit → Act → World → Prop}
/-- The class may be made narrower for what is left. -/
theorem wpAnyC_mono (hC : ∀ w, C' w → C w) : ∀ (fuel : Nat) (listed : Array Bool) (a : Act) (w : World), wpAnyC P md ops C' Q fuel listed a w → wpAnyC P md ops C Q fuel listed a w
  | 0, _, _, _, h => ⟨hC _ h.1, h.2⟩
  | fuel + 1, _, _, _, h => ⟨hC _ h.1, h.2.1, fun i hi => wpOp_mono (fun a' w' h' => wpAnyC_mono hC fuel _ a' w' h') (h.2.2 i hi)⟩
end
theorem wanted_at (b : Bool) {o oj : Oper} {ops : Array Oper} {tmps : Array Value} {j d : Nat} (hg : o.guard = some (j, b)) (hj : ops[j]? = some oj) (hd : oj.dst = some d) (ht : tmps[d]? = some (.bool b)) : Region.wanted o (yielded ops tmps) = true := by
  unfold Region.wanted yielded
  rw [hg]
  simp [hj, hd, ht]
theorem Try.size32 : (Try.prog.info? 32).map (·.size) = some 4 := by kernel_rfl
theorem exec_load_act {W : World} {o : Oper} {a : Act} (x : Operand) (ho : o.op = .load 32 x) (b off : Nat) (K n g t : Int) (hx : a.eval x = .pointer (some ⟨b, off, none⟩)) (hB : W.rangeAt b off (actV K n g t)) :
    (execOp a.eval o).run Try.prog W = .ok (.value (.agg #[.int .u8 K, .int .i64 n, .int .u32 g, .int .u8 t])) W := by
  have := run_loadAt_mid (P := Try.prog) W b off 32 (actV K n g t) _ hB Try.underlying32 rfl Try.size32
  unfold execOp
  simp only [ho, hx]
  simp [this]
theorem Pa.grow {w0 W W' : World} {B C : Nat} {ts : List Tk} {st : Int} {v u : Value} (h : Pa w0 W B C ts st v u) (hb : Below W.heap.size W W') : Pa w0 W' B C ts st v u :=
  ⟨h.a.below hb, h.b.below hb, h.low.trans (hb.mono h.low.size), h.bc, h.vC, h.uB, h.vu⟩
theorem Two.grow {w0 W W' : World} {B C : Nat} (h : Two w0 W B C) (hb : Below W.heap.size W W') : Two w0 W' B C := by
  obtain ⟨ts, st, v, u, h1, h2⟩ := h
  exact ⟨ts, st, v, u, Pa.grow h1 hb, h2⟩
theorem Two.low {w0 W : World} {B C : Nat} (h : Two w0 W B C) : Below w0.heap.size w0 W := by
  obtain ⟨ts, st, v, u, h1, h2⟩ := h
  exact h1.low
theorem two_new (w0 W : World) (h : Below w0.heap.size w0 W) : Two w0 (newR (newS W)) W.heap.size (W.heap.size + 1) := by
  have hb : Below W.heap.size W (newS W) := (Below.refl _ _).alloc (Nat.le_refl _) _
  have hb2 : Below (newS W).heap.size (newS W) (newR (newS W)) := (Below.refl _ _).alloc (Nat.le_refl _) _
  have hsz : (newS W).heap.size = W.heap.size + 1 := by simp
  have hr := (stR_new (newS W)).lower (base' := w0.heap.size) (by rw [hsz]; have := h.size; omega)
  rw [hsz] at hr
  exact ⟨[], -1, _, _, ⟨((st_new W).lower h.size).below hb2, hr, (h.trans (hb.mono h.size)).trans (hb2.mono (by rw [hsz]; have := h.size; omega)), by omega, by simp [Value.ownBlock], by simp [Value.ownBlock], fun g hg => by simp [Value.ownBlock] at hg⟩, inv_new⟩

end Go.Proofs.Ytcnefmfmmgdidaa
namespace Go.Proofs.Ytcnefmfmmgdidaa.taskPlays
open Go.Proofs.Ytcnefmfmmgdidaa
open Go.RowKit
set_option linter.unusedVariables false
set_option linter.unusedSimpArgs false

set_option maxRecDepth 100000 in
set_option maxHeartbeats 4000000 in
theorem play_walk (a0 : Option Addr) (l0 c0 : Nat) (w : World) (h0 : Acts w a0 l0) :
    Calls Try.prog 3 #[.slice a0 l0 c0] w fun e w' => e = .returned (.bool true) ∧ Below w.heap.size w w' := by
  have HW := Kpt.mk (awake_any w)
  have hm0 := h0.1
  unfold maxLen at hm0
  replace h0 := Kpt.mk h0.2
  go_enter Try.func3, Try.ntmps3
  go_wp2_with (first
    | (go_at_call 9; refine HW.out.mono ?_; rintro e wB ⟨rfl, hbB⟩; have HN := Kpt.mk (new_any wB); have HR := Kpt.mk (rnew_any (newS wB)); replace hbB := Kpt.mk hbB)
    | (go_at_call 11; refine HR.out.mono ?_; rintro e w2 ⟨rfl, rfl⟩)
    | (go_at_call 10; refine HN.out.mono ?_; rintro e w1 ⟨rfl, rfl⟩))
  have hq0 := Kpt.mk (two_new w wB hbB.out)
  obtain ⟨B, hB⟩ : ∃ B, B = wB.heap.size := ⟨_, rfl⟩
  obtain ⟨C, hC⟩ : ∃ C, C = wB.heap.size + 1 := ⟨_, rfl⟩
  obtain ⟨wq, hwq⟩ : ∃ wq, wq = newR (newS wB) := ⟨_, rfl⟩
  rw [← hwq, ← hC, ← hB] at hq0
  try simp only [World.size_alloc]
  try rw [← hwq]
  try rw [← hC]
  try rw [← hB]
  clear hwq HN HR hB hC HW
  go_loopw [5] (fun t wr => ∃ (k : Nat), k ≤ l0 ∧ k ≤ 300 ∧ t = .int .i64 k ∧ Kpt (Two w wr B C)) (fun t _ => 300 - (intOf t).toNat)
  case atStart => exact ⟨0, Nat.zero_le _, Nat.zero_le _, rfl, hq0⟩
  case round =>
    obtain ⟨k, hk, hk300, rfl, hQ⟩ := hrel
    clear hq0
    by_cases hlt : k < l0 ∧ k < 300
    · obtain ⟨b, off, rfl, hbl, K, n, g, a, hrg, rK, rg, ra⟩ := h0.out wr hQ.out.low k hlt.1
      have e1 : (k : Int) < l0 := by omega
      have e2 : (k : Int) < 300 := by omega
      have hgo : Kpt (∀ W, Below w.heap.size w W → W.rangeAt b (off + k * 4) (actV K n g a)) := ⟨fun W hW => rangeAt_of_block hrg ((hW.block b hbl).trans (hQ.out.low.block b hbl).symm)⟩
      clear hlt hrg
      go_wp2_with fail
      refine wp_region_any (by kernel_rfl) ?_
      refine wpAny_of_C (C := fun W => Below w.heap.size w W) _ _ _ _ ?_
      refine wpAnyC_take 0 (.pointer (some ⟨B, 0, none⟩)) rfl (by kernel_rfl) (by kernel_rfl) (by kernel_rfl) (fun _ _ _ h => h) (wanted_free rfl _) (fun W hW => by go_simp) ?_
      simp only [Act.put, List.getElem_toArray, List.getElem_cons_succ, List.getElem_cons_zero, List.setIfInBounds_toArray, List.set_cons_succ, List.set_cons_zero]
      refine wpAnyC_take 1 (.pointer (some ⟨C, 0, none⟩)) rfl (by kernel_rfl) (by kernel_rfl) (by kernel_rfl) (fun _ _ _ h => h) (wanted_free rfl _) (fun W hW => by go_simp) ?_
      simp only [Act.put, List.getElem_toArray, List.getElem_cons_succ, List.getElem_cons_zero, List.setIfInBounds_toArray, List.set_cons_succ, List.set_cons_zero]
      refine wpAnyC_take 2 (.slice (some ⟨b, off, none⟩) l0 c0) rfl (by kernel_rfl) (by kernel_rfl) (by kernel_rfl) (fun _ _ _ h => h) (wanted_free rfl _) (fun W hW => by go_simp) ?_
      simp only [Act.put, List.getElem_toArray, List.getElem_cons_succ, List.getElem_cons_zero, List.setIfInBounds_toArray, List.set_cons_succ, List.set_cons_zero]
      refine wpAnyC_take 3 (.int .i64 k) rfl (by kernel_rfl) (by kernel_rfl) (by kernel_rfl) (fun _ _ _ h => h) (wanted_free rfl _) (fun W hW => by go_simp) ?_
      simp only [Act.put, List.getElem_toArray, List.getElem_cons_succ, List.getElem_cons_zero, List.setIfInBounds_toArray, List.set_cons_succ, List.set_cons_zero]
      refine wpAnyC_take 4 (.pointer (some ⟨b, off + k * 4, none⟩)) rfl (by kernel_rfl) (by kernel_rfl) (by kernel_rfl) (fun _ _ _ h => h) (wanted_free rfl _) (fun W hW => by go_simp) ?_
      simp only [Act.put, List.getElem_toArray, List.getElem_cons_succ, List.getElem_cons_zero, List.setIfInBounds_toArray, List.set_cons_succ, List.set_cons_zero]
      refine wpAnyC_take 5 (.agg #[.int .u8 K, .int .i64 n, .int .u32 g, .int .u8 a]) rfl (by kernel_rfl) (by kernel_rfl) (by kernel_rfl) (fun _ _ _ h => h) (wanted_free rfl _) (fun W hW => exec_load_act (.tmp 28) rfl b (off + k * 4) K n g a rfl (hgo.out W hW)) ?_
      simp only [Act.put, List.getElem_toArray, List.getElem_cons_succ, List.getElem_cons_zero, List.setIfInBounds_toArray, List.set_cons_succ, List.set_cons_zero]
      refine wpAnyC_one 6 (below_drewN hQ.out.low 1) rfl (by kernel_rfl) (wanted_free rfl _) (fun KA hKA => ?_)
      go_simp
      refine (both_any w _ B C K n g a (hQ.out.grow (below_drewN (Below.refl _ _) 1)) rK rg ra).mono ?_
      rintro e w2 ⟨rfl, hP2⟩
      refine hKA _ _ ?_
      try simp only [Act.put, List.getElem_toArray, List.getElem_cons_succ, List.getElem_cons_zero, List.setIfInBounds_toArray, List.set_cons_succ, List.set_cons_zero]
      clear hKA KA
      obtain ⟨ts, st, v, u, hP2, hI⟩ := hP2
      have hA : Kpt (∀ t ∈ ts, 0 ≤ t.ar ∧ t.ar ≤ 3) := ⟨fun t ht => by have := hI.2.1 t ht; exact ⟨this.1, this.2.1⟩⟩
      have hA2 : Kpt (∀ t ∈ rdyL ts st ts.length, 0 ≤ t.ar ∧ t.ar ≤ 3) := ⟨fun t ht => by obtain ⟨j, _, h, _⟩ := (taskEnds.mem_rdy ts st t ts.length).1 ht; exact hA.out t (List.mem_of_getElem? h)⟩
      have hrl := Kpt.mk (rdy_len ts st ts.length)
      replace hI := Kpt.mk hI
      replace hP2 := Kpt.mk hP2
      clear hQ hgo
      refine wpAnyC_mono (C' := fun W => Pa w W B C ts st v u) (fun W hW => hW.low) _ _ _ _ ?_
      refine wpAnyC_take 7 (.bool false) rfl (by kernel_rfl) (by kernel_rfl) (by kernel_rfl) (fun _ _ _ h => h) (wanted_free rfl _) (fun W hW => by go_simp) ?_
      simp only [Act.put, List.getElem_toArray, List.getElem_cons_succ, List.getElem_cons_zero, List.setIfInBounds_toArray, List.set_cons_succ, List.set_cons_zero]
      refine wpAnyC_take 8 (.bool false) rfl (by kernel_rfl) (by kernel_rfl) (by kernel_rfl) (fun _ _ _ h => h) (wanted_free rfl _) (fun W hW => by go_simp) ?_
      simp only [Act.put, List.getElem_toArray, List.getElem_cons_succ, List.getElem_cons_zero, List.setIfInBounds_toArray, List.set_cons_succ, List.set_cons_zero]
      refine wpAnyC_take 9 (.pointer (some ⟨B, 0, none⟩)) rfl (by kernel_rfl) (by kernel_rfl) (by kernel_rfl) (fun _ _ _ h => h) (wanted_at false rfl rfl rfl rfl) (fun W hW => by go_simp) ?_
      simp only [Act.put, List.getElem_toArray, List.getElem_cons_succ, List.getElem_cons_zero, List.setIfInBounds_toArray, List.set_cons_succ, List.set_cons_zero]
      refine wpAnyC_take 11 (.pointer (some ⟨C, 0, none⟩)) rfl (by kernel_rfl) (by kernel_rfl) (by kernel_rfl) (fun _ _ _ h => h) (wanted_at false rfl rfl rfl rfl) (fun W hW => by go_simp) ?_
      simp only [Act.put, List.getElem_toArray, List.getElem_cons_succ, List.getElem_cons_zero, List.setIfInBounds_toArray, List.set_cons_succ, List.set_cons_zero]
      refine wpAnyC_take 12 (.pointer (some ⟨C, 0, none⟩)) rfl (by kernel_rfl) (by kernel_rfl) (by kernel_rfl) (fun _ _ _ h => h) (wanted_at false rfl rfl rfl rfl) (fun W hW => by go_simp) ?_
      simp only [Act.put, List.getElem_toArray, List.getElem_cons_succ, List.getElem_cons_zero, List.setIfInBounds_toArray, List.set_cons_succ, List.set_cons_zero]
      refine wpAnyC_take 13 (.pointer (some ⟨C, 0, none⟩)) rfl (by kernel_rfl) (by kernel_rfl) (by kernel_rfl) (fun _ _ _ h => h) (wanted_at false rfl rfl rfl rfl) (fun W hW => by go_simp) ?_
      simp only [Act.put, List.getElem_toArray, List.getElem_cons_succ, List.getElem_cons_zero, List.setIfInBounds_toArray, List.set_cons_succ, List.set_cons_zero]
      refine wpAnyC_take 14 (u) rfl (by kernel_rfl) (by kernel_rfl) (by kernel_rfl) (fun _ _ _ h => h) (wanted_at false rfl rfl rfl rfl) (fun W hW => by have h0 := hW.b.c0; have h1 := hW.b.lt; go_simp) ?_
      simp only [Act.put, List.getElem_toArray, List.getElem_cons_succ, List.getElem_cons_zero, List.setIfInBounds_toArray, List.set_cons_succ, List.set_cons_zero]
      refine wpAnyC_one 10 hP2.out rfl (by kernel_rfl) (wanted_at false rfl rfl rfl rfl) (fun KA hKA => ?_)
      go_simp
      refine (tasks_any _ B ts st v w2 hP2.out.a).mono ?_
      rintro e w3 ⟨y3, rfl, ho3, hb3⟩
      have hP3 := Kpt.mk (hP2.out.grow hb3)
      replace ho3 := Kpt.mk ho3.rd
      clear hP2 hb3
      refine hKA _ _ ?_
      try simp only [Act.put, List.getElem_toArray, List.getElem_cons_succ, List.getElem_cons_zero, List.setIfInBounds_toArray, List.set_cons_succ, List.set_cons_zero]
      clear hKA KA
      refine wpAnyC_one 15 hP3.out rfl (by kernel_rfl) (wanted_at false rfl rfl rfl rfl) (fun KA hKA => ?_)
      go_simp
      refine (alike_any y3 u ts w3 ho3.out hP3.out.b.own.rd (by have := hP3.out.a.few; omega) hA.out).mono ?_
      rintro e w4 ⟨rfl, hb4⟩
      have hP4 := Kpt.mk (hP3.out.grow hb4)
      clear hP3 hb4 ho3
      refine hKA _ _ ?_
      try simp only [Act.put, List.getElem_toArray, List.getElem_cons_succ, List.getElem_cons_zero, List.setIfInBounds_toArray, List.set_cons_succ, List.set_cons_zero]
      clear hKA KA
      refine wpAnyC_take 16 (.bool false) rfl (by kernel_rfl) (by kernel_rfl) (by kernel_rfl) (fun _ _ _ h => h) (wanted_at false rfl rfl rfl rfl) (fun W hW => by go_simp) ?_
      simp only [Act.put, List.getElem_toArray, List.getElem_cons_succ, List.getElem_cons_zero, List.setIfInBounds_toArray, List.set_cons_succ, List.set_cons_zero]
      refine wpAnyC_take 17 (.bool false) rfl (by kernel_rfl) (by kernel_rfl) (by kernel_rfl) (fun _ _ _ h => h) (wanted_free rfl _) (fun W hW => by go_simp) ?_
      simp only [Act.put, List.getElem_toArray, List.getElem_cons_succ, List.getElem_cons_zero, List.setIfInBounds_toArray, List.set_cons_succ, List.set_cons_zero]
      refine wpAnyC_take 18 (.bool false) rfl (by kernel_rfl) (by kernel_rfl) (by kernel_rfl) (fun _ _ _ h => h) (wanted_free rfl _) (fun W hW => by go_simp) ?_
      simp only [Act.put, List.getElem_toArray, List.getElem_cons_succ, List.getElem_cons_zero, List.setIfInBounds_toArray, List.set_cons_succ, List.set_cons_zero]
      refine wpAnyC_take 19 (.pointer (some ⟨B, 0, none⟩)) rfl (by kernel_rfl) (by kernel_rfl) (by kernel_rfl) (fun _ _ _ h => h) (wanted_at false rfl rfl rfl rfl) (fun W hW => by go_simp) ?_
      simp only [Act.put, List.getElem_toArray, List.getElem_cons_succ, List.getElem_cons_zero, List.setIfInBounds_toArray, List.set_cons_succ, List.set_cons_zero]
      refine wpAnyC_take 21 (.pointer (some ⟨C, 0, none⟩)) rfl (by kernel_rfl) (by kernel_rfl) (by kernel_rfl) (fun _ _ _ h => h) (wanted_at false rfl rfl rfl rfl) (fun W hW => by go_simp) ?_
      simp only [Act.put, List.getElem_toArray, List.getElem_cons_succ, List.getElem_cons_zero, List.setIfInBounds_toArray, List.set_cons_succ, List.set_cons_zero]
      refine wpAnyC_one 20 hP4.out rfl (by kernel_rfl) (wanted_at false rfl rfl rfl rfl) (fun KA hKA => ?_)
      go_simp
      refine (ready_any _ B ts st v w4 hP4.out.a).mono ?_
      rintro e w5 ⟨y5, rfl, ho5, hb5⟩
      have hP5 := Kpt.mk (hP4.out.grow hb5)
      replace ho5 := Kpt.mk ho5.rd
      clear hP4 hb5
      refine hKA _ _ ?_
      try simp only [Act.put, List.getElem_toArray, List.getElem_cons_succ, List.getElem_cons_zero, List.setIfInBounds_toArray, List.set_cons_succ, List.set_cons_zero]
      clear hKA KA
      refine wpAnyC_one 22 hP5.out rfl (by kernel_rfl) (wanted_at false rfl rfl rfl rfl) (fun KA hKA => ?_)
      go_simp
      refine (rready_any _ C ts st u w5 hP5.out.b hI.out.st0).mono ?_
      rintro e w6 ⟨y6, rfl, ho6, hb6⟩
      have hP6 := Kpt.mk (hP5.out.grow hb6)
      replace ho6 := Kpt.mk ho6.rd
      have ho5b := Kpt.mk (ho5.out.below (Nat.le_refl _) hb6)
      clear hP5 hb6 ho5
      refine hKA _ _ ?_
      try simp only [Act.put, List.getElem_toArray, List.getElem_cons_succ, List.getElem_cons_zero, List.setIfInBounds_toArray, List.set_cons_succ, List.set_cons_zero]
      clear hKA KA
      refine wpAnyC_one 23 hP6.out rfl (by kernel_rfl) (wanted_at false rfl rfl rfl rfl) (fun KA hKA => ?_)
      go_simp
      refine (alike_any y5 y6 _ w6 ho5b.out ho6.out (by have := hP6.out.a.few; have := hrl.out; omega) hA2.out).mono ?_
      rintro e w7 ⟨rfl, hb7⟩
      have hP7 := Kpt.mk (hP6.out.grow hb7)
      clear hP6 hb7 ho6 ho5b
      refine hKA _ _ ?_
      try simp only [Act.put, List.getElem_toArray, List.getElem_cons_succ, List.getElem_cons_zero, List.setIfInBounds_toArray, List.set_cons_succ, List.set_cons_zero]
      clear hKA KA
      refine wpAnyC_take 24 (.bool false) rfl (by kernel_rfl) (by kernel_rfl) (by kernel_rfl) (fun _ _ _ h => h) (wanted_at false rfl rfl rfl rfl) (fun W hW => by go_simp) ?_
      simp only [Act.put, List.getElem_toArray, List.getElem_cons_succ, List.getElem_cons_zero, List.setIfInBounds_toArray, List.set_cons_succ, List.set_cons_zero]
      refine wpAnyC_take 25 (.bool false) rfl (by kernel_rfl) (by kernel_rfl) (by kernel_rfl) (fun _ _ _ h => h) (wanted_free rfl _) (fun W hW => by go_simp) ?_
      simp only [Act.put, List.getElem_toArray, List.getElem_cons_succ, List.getElem_cons_zero, List.setIfInBounds_toArray, List.set_cons_succ, List.set_cons_zero]
      refine wpAnyC_take 26 (.bool false) rfl (by kernel_rfl) (by kernel_rfl) (by kernel_rfl) (fun _ _ _ h => h) (wanted_free rfl _) (fun W hW => by go_simp) ?_
      simp only [Act.put, List.getElem_toArray, List.getElem_cons_succ, List.getElem_cons_zero, List.setIfInBounds_toArray, List.set_cons_succ, List.set_cons_zero]
      refine wpAnyC_take 27 (.pointer (some ⟨B, 0, none⟩)) rfl (by kernel_rfl) (by kernel_rfl) (by kernel_rfl) (fun _ _ _ h => h) (wanted_at false rfl rfl rfl rfl) (fun W hW => by go_simp) ?_
      simp only [Act.put, List.getElem_toArray, List.getElem_cons_succ, List.getElem_cons_zero, List.setIfInBounds_toArray, List.set_cons_succ, List.set_cons_zero]
      refine wpAnyC_take 29 (.pointer (some ⟨C, 0, none⟩)) rfl (by kernel_rfl) (by kernel_rfl) (by kernel_rfl) (fun _ _ _ h => h) (wanted_at false rfl rfl rfl rfl) (fun W hW => by go_simp) ?_
      simp only [Act.put, List.getElem_toArray, List.getElem_cons_succ, List.getElem_cons_zero, List.setIfInBounds_toArray, List.set_cons_succ, List.set_cons_zero]
      refine wpAnyC_take 30 (.pointer (some ⟨C, 0, none⟩)) rfl (by kernel_rfl) (by kernel_rfl) (by kernel_rfl) (fun _ _ _ h => h) (wanted_at false rfl rfl rfl rfl) (fun W hW => by go_simp) ?_
      simp only [Act.put, List.getElem_toArray, List.getElem_cons_succ, List.getElem_cons_zero, List.setIfInBounds_toArray, List.set_cons_succ, List.set_cons_zero]
      refine wpAnyC_take 31 (.pointer (some ⟨C, 1, none⟩)) rfl (by kernel_rfl) (by kernel_rfl) (by kernel_rfl) (fun _ _ _ h => h) (wanted_at false rfl rfl rfl rfl) (fun W hW => by go_simp) ?_
      simp only [Act.put, List.getElem_toArray, List.getElem_cons_succ, List.getElem_cons_zero, List.setIfInBounds_toArray, List.set_cons_succ, List.set_cons_zero]
      refine wpAnyC_take 32 (.int .i64 st) rfl (by kernel_rfl) (by kernel_rfl) (by kernel_rfl) (fun _ _ _ h => h) (wanted_at false rfl rfl rfl rfl) (fun W hW => by have h0 := hW.b.c1; have h1 := hW.b.lt; go_simp) ?_
      simp only [Act.put, List.getElem_toArray, List.getElem_cons_succ, List.getElem_cons_zero, List.setIfInBounds_toArray, List.set_cons_succ, List.set_cons_zero]
      refine wpAnyC_one 28 hP7.out rfl (by kernel_rfl) (wanted_at false rfl rfl rfl rfl) (fun KA hKA => ?_)
      go_simp
      refine (stands_any _ B ts st v w7 hP7.out.a).mono ?_
      rintro e w8 ⟨rfl, rfl⟩
      refine hKA _ _ ?_
      try simp only [Act.put, List.getElem_toArray, List.getElem_cons_succ, List.getElem_cons_zero, List.setIfInBounds_toArray, List.set_cons_succ, List.set_cons_zero]
      clear hKA KA
      refine wpAnyC_take 33 (.bool false) rfl (by kernel_rfl) (by kernel_rfl) (by kernel_rfl) (fun _ _ _ h => h) (wanted_at false rfl rfl rfl rfl) (fun W hW => by go_simp) ?_
      simp only [Act.put, List.getElem_toArray, List.getElem_cons_succ, List.getElem_cons_zero, List.setIfInBounds_toArray, List.set_cons_succ, List.set_cons_zero]
      refine wpAnyC_take 34 (.bool false) rfl (by kernel_rfl) (by kernel_rfl) (by kernel_rfl) (fun _ _ _ h => h) (wanted_free rfl _) (fun W hW => by go_simp) ?_
      simp only [Act.put, List.getElem_toArray, List.getElem_cons_succ, List.getElem_cons_zero, List.setIfInBounds_toArray, List.set_cons_succ, List.set_cons_zero]
      refine wpAnyC_done hP7.out (by kernel_rfl) ?_
      have hT : Kpt (Two w w8 B C) := ⟨⟨ts, st, v, u, hP7.out, hI.out⟩⟩
      clear hP7 hA hA2 hrl hI
      go_wp2
      go_roundw
      case rel => exact ⟨k + 1, by omega, by omega, by go_num, hT⟩
      case measure => simp [intOf]; omega
    · have hor : ¬ (k : Int) < l0 ∨ ((k : Int) < l0 ∧ ¬ (k : Int) < 300) := by omega
      have hbe := Kpt.mk hQ.out.low
      clear hlt hQ
      rcases hor with e2 | ⟨e2, e3⟩
      all_goals
        go_wp2
        go_ret
        exact ⟨rfl, hbe.out⟩
end Go.Proofs.Ytcnefmfmmgdidaa.taskPlays
