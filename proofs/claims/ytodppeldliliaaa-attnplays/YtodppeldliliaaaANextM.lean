/-
  The contract of Next where a code waits.
-/
import Derived.Test.YtodppeldliliaaaANext
namespace Go.Proofs.Ytodppeldliliaaa
open Go.RowKit
set_option linter.unusedVariables false
set_option linter.unusedSimpArgs false

set_option maxRecDepth 100000 in
set_option maxHeartbeats 4000000 in
theorem next_some (base B n : Nat) (L : Nat → List Int) (S : Nat → Value) (w : World) (h : Qu base w B L S) (hn : n < 8) (h0 : 0 < (L n).length) :
    Calls Try.prog 14 #[.pointer (some ⟨B, 0, none⟩), .int .i64 n] w fun e w' => e = .returned (.tuple #[.int .u16 (bestC (L n)), .bool true]) ∧ (∃ S', Qu base w' B (upd L n ((L n).eraseIdx (bestAt (L n)))) S' ∧ Turned w w' B S S') ∧ Below base w w' := by
  have HC := Kpt.mk (codes_any base B n L S w h hn)
  obtain ⟨a, cap, hv, hs⟩ := (h.own n hn).shape
  obtain ⟨g, rfl, hb, hg, hc⟩ := hs h0
  rw [hv] at HC
  have HF := Kpt.mk (first_any g cap (L n) w h0 (h.few n hn) (h.good n hn) (fun j hj => (hc j hj).1))
  have hlt := best_lt (L n) (L n).length 0 0 (by omega) h0
  have hcell := (hc _ hlt).1
  have hfew := h.few n hn
  have hown := h.own n hn
  rw [hv] at hown
  have hcaps : (L n).length ≤ cap ∧ cap ≤ 9223372036854775807 := by
    rcases hown.2 with ⟨hx, _⟩ | ⟨g', cap', cur, hx, _, _, h1, h2, _, _⟩
    · cases hx
    · simp only [Value.slice.injEq, Option.some.injEq, Addr.mk.injEq, and_true, true_and] at hx
      obtain ⟨rfl, rfl⟩ := hx
      exact ⟨h1, h2⟩
  have HD : Kpt (∀ W, W.heap = w.heap → Calls Try.prog 22 #[.slice (some ⟨g, 0, none⟩) (L n).length cap, .int .i64 ((bestFrom (L n) (L n).length 0 0 : Nat) : Int), .int .i64 (((bestFrom (L n) (L n).length 0 0 : Nat) : Int) + 1)] W fun e w' =>
      e = .returned (.slice (some ⟨g, 0, none⟩) ((L n).length - 1) cap) ∧ w'.ownsRow base 31 1 (.slice (some ⟨g, 0, none⟩) ((L n).length - 1) cap) ((L n).length - 1) (cels ((L n).eraseIdx (bestAt (L n)))) ∧ W.grownBy w' (some g)) :=
    ⟨fun W hW => delete_any base g cap (bestFrom (L n) (L n).length 0 0) (L n).length (L n) W (hown.of_block (fun g' _ => by rw [hW])) hlt hfew hcaps.1 hcaps.2⟩
  have hK := Kpt.mk h
  have hvK := Kpt.mk hv
  have hC0 := h.cells n hn
  rw [hv] at hC0
  have hfr := h.free n
  have hBlt := h.lt
  have hgB : g ≠ B := h.other n g hn (by rw [hv]; rfl)
  have hlenK := Kpt.mk (List.length_eraseIdx_of_lt hlt)
  show Calls Try.prog 14 #[.pointer (some ⟨B, 0, none⟩), .int .i64 n] w fun e w' => e = .returned (.tuple #[.int .u16 ((L n).getD (bestFrom (L n) (L n).length 0 0) 0), .bool true]) ∧ (∃ S', Qu base w' B (upd L n ((L n).eraseIdx (bestAt (L n)))) S' ∧ Turned w w' B S S') ∧ Below base w w'
  have e0 : (0 : Int) ≤ (n : Int) := by omega
  have e00 : (n : Int) < 8 := by omega
  obtain ⟨ys, hys⟩ : ∃ ys, ys = (L n).eraseIdx (bestAt (L n)) := ⟨_, rfl⟩
  have hysl : Kpt (ys.length = (L n).length - 1) := ⟨by rw [hys]; exact hlenK.out⟩
  have hysg : Kpt (∀ c ∈ ys, 0 ≤ c ∧ c ≤ 65535) := ⟨fun c hc' => h.good n hn c (by rw [hys] at hc'; exact List.mem_of_mem_eraseIdx hc')⟩
  rw [← hys] at HD ⊢
  replace hys := Kpt.mk hys
  clear hlenK
  obtain ⟨p, hp⟩ : ∃ p, p = bestFrom (L n) (L n).length 0 0 := ⟨_, rfl⟩
  rw [← hp] at HF HD hlt hcell ⊢
  obtain ⟨x, hx⟩ : ∃ x, x = (L n).getD p 0 := ⟨_, rfl⟩
  rw [← hx] at hcell ⊢
  obtain ⟨m, hm⟩ : ∃ m, m = (L n).length := ⟨_, rfl⟩
  rw [← hm] at HC HF HD hlt hfew hysl h0
  have e1 : (p : Int) < m := by omega
  have e2 : ¬ (m : Int) = 0 := by omega
  obtain ⟨q, hq⟩ : ∃ q, q = m - 1 := ⟨_, rfl⟩
  rw [← hq] at HD hysl
  have e3 : m = q + 1 := by omega
  replace e3 := Kpt.mk e3
  replace hp := Kpt.mk hp
  replace hx := Kpt.mk hx
  replace hm := Kpt.mk hm
  clear h hv hs hc hown hcaps hq hb
  go_enter Try.func14, Try.ntmps14
  go_wp2_with (first
    | (go_at_call 20; refine HC.out.mono ?_; rintro e w' ⟨rfl, rfl⟩)
    | (go_at_call 21; refine HF.out.mono ?_; rintro e w2 ⟨rfl, k, rfl⟩))
  refine wp_region_any (by kernel_rfl) ?_
  refine wpAny_of_C (C := fun _ => True) _ _ _ _ ?_
  refine wpAnyC_take 0 (.pointer (some ⟨B, 0, none⟩)) rfl (by kernel_rfl) (by kernel_rfl) (by kernel_rfl) (fun _ _ _ h => h) (by rfl) (fun W hW => by rfl) ?_
  refine wpAnyC_take 1 (.int .i64 n) rfl (by kernel_rfl) (by kernel_rfl) (by kernel_rfl) (fun _ _ _ h => h) (by rfl) (fun W hW => by rfl) ?_
  refine wpAnyC_take 2 (.slice (some ⟨g, 0, none⟩) m cap) rfl (by kernel_rfl) (by kernel_rfl) (by kernel_rfl) (fun _ _ _ h => h) (by rfl) (fun W hW => by rfl) ?_
  refine wpAnyC_take 3 (.int .i64 p) rfl (by kernel_rfl) (by kernel_rfl) (by kernel_rfl) (fun _ _ _ h => h) (by rfl) (fun W hW => by rfl) ?_
  refine wpAnyC_take 4 (.int .i64 p) rfl (by kernel_rfl) (by kernel_rfl) (by kernel_rfl) (fun _ _ _ h => h) (by rfl) (fun W hW => by rfl) ?_
  refine wpAnyC_take 5 (.int .i64 ((p : Int) + 1)) rfl (by kernel_rfl) (by kernel_rfl) (by kernel_rfl) (fun _ _ _ h => h) (by rfl) (fun W hW => by go_simp; rw [IntKind.wrap_i64]; omega) ?_
  refine wpAnyC_take 7 (.pointer (some ⟨B, 0, none⟩)) rfl (by kernel_rfl) (by kernel_rfl) (by kernel_rfl) (fun _ _ _ h => h) (by rfl) (fun W hW => by go_simp) ?_
  refine wpAnyC_take 8 (.pointer (some ⟨B, 0, none⟩)) rfl (by kernel_rfl) (by kernel_rfl) (by kernel_rfl) (fun _ _ _ h => h) (by rfl) (fun W hW => by go_simp) ?_
  refine wpAnyC_one 6 trivial rfl (by kernel_rfl) (by rfl) (fun K hKK => ?_)
  go_simp
  refine Calls.mono (HD.out _ (by rfl)) ?_
  rintro e w1 ⟨rfl, hO1, hg1⟩
  have hgw : w'.grownBy w1 (some g) := ⟨hg1.os, hg1.tape, hg1.output, hg1.size, hg1.block⟩
  have hBv : some B ≠ some g := fun e => hgB (Option.some.inj e).symm
  have hB1 : w1.heap[B]? = w'.heap[B]? := hgw.block B hBlt hBv
  have k1 : w1.cell? ⟨B, n, none⟩ = _ := (World.cell?_of_block (w := w') (w' := w1) (a := ⟨B, n, none⟩) hB1).trans hC0
  have k2 : w1.frozen? ⟨B, n, none⟩ = false := (World.frozen?_of_block (w := w') (w' := w1) (a := ⟨B, n, none⟩) hB1).trans hfr
  have hO1K := Kpt.mk hO1
  have hgwK := Kpt.mk hgw
  clear hO1 hgw hg1 hBv hB1
  refine hKK _ _ ?_
  clear hKK K
  refine wpAnyC_take 9 (.pointer (some ⟨B, n, none⟩)) rfl (by kernel_rfl) (by kernel_rfl) (by kernel_rfl) (fun _ _ _ h => h) (by rfl) (fun W hW => by go_simp) ?_
  refine wpAnyC_one 10 trivial rfl (by kernel_rfl) (by rfl) (fun K hKK => ?_)
  go_simp
  refine hKK _ _ ?_
  clear hKK K
  refine wpAnyC_done trivial (by kernel_rfl) ?_
  go_wp2
  have hgS : w'.grownBy w1 (S n).ownBlock := by rw [hvK.out]; exact hgwK.out
  have hO1 : Own base w1 (.slice (some ⟨g, 0, none⟩) q cap) ys := by unfold Own; rw [hysl.out]; exact hO1K.out
  go_ret2
  refine ⟨rfl, ⟨_, hK.out.turn hn hgS hO1 (.inl (by rw [hvK.out]; rfl)) (by rw [hysl.out]; have := e3.out; omega) hysg.out, turned_turn hK.out hn hgS (.inl (by rw [hvK.out]; rfl))⟩, below_turn hK.out hn hgS⟩
end Go.Proofs.Ytodppeldliliaaa
