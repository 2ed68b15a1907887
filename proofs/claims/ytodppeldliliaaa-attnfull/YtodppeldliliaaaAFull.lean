/-
  AttnFull.
-/
import Derived.Test.YtodppeldliliaaaAFullP
namespace Go.Proofs.Ytodppeldliliaaa.attnFull
open Go.Proofs.Ytodppeldliliaaa
open Go.RowKit
set_option linter.unusedVariables false
set_option linter.unusedSimpArgs false

theorem upd_upd {α : Type} (L : Nat → α) (n : Nat) (x y : α) : upd (upd L n x) n y = upd L n y := by
  funext k; unfold upd; split <;> rfl
theorem upd_at {α : Type} (L : Nat → α) (n : Nat) (x : α) : upd L n x n = x := by simp [upd]
theorem upd_same {α : Type} (L : Nat → α) (n : Nat) : upd L n (L n) = L := by
  funext k; unfold upd; split
  · rename_i h; rw [h]
  · rfl

theorem below_drewN {B : Nat} {a w : World} (h : Below B a w) (n : Nat) : Below B a (w.drewN n) := ⟨h.os, h.tape, h.output, h.size, h.block⟩

theorem full_row {base : Nat} {w : World} {v : Value} {x : Int} (h : Own base w v (fl x 12)) : ∃ g cap, v = .slice (some ⟨g, 0, none⟩) 8 cap ∧ base ≤ g ∧ g < w.heap.size ∧ ∀ j, j < 8 → w.cell? ⟨g, j, none⟩ = some (.int .u16 (x + (j : Nat))) := by
  obtain ⟨a, cap, hv, hs⟩ := h.shape
  have hl : (fl x 12).length = 8 := by rw [fl_end]; rfl
  rw [hl] at hv hs
  obtain ⟨g, rfl, hb, hg, hc⟩ := hs (by decide)
  refine ⟨g, cap, hv, hb, hg, fun j hj => ?_⟩
  rw [(hc j hj).1]
  have : (fl x 12).getD j 0 = x + (j : Nat) := by
    unfold fl
    rw [List.getD_eq_getElem?_getD, List.getElem?_map, List.getElem?_range (by omega)]
    rfl
  rw [this]

/-- What is known between the calls: the queues, a row beside them whose first code is x. -/
def Fs (w0 W : World) (B N g : Nat) (l : List Int) (x : Int) : Prop :=
  ∃ S, Qu B W B (upd (fun _ => []) N l) S ∧ Beside W B S g ∧ W.cell? ⟨g, 0, none⟩ = some (.int .u16 x) ∧ Below w0.heap.size w0 W

theorem Fs.step {w0 W w' : World} {B N g : Nat} {l' : List Int} {x : Int} {S : Nat → Value} (hs : w0.heap.size ≤ B) (hB : Beside W B S g) (hc : W.cell? ⟨g, 0, none⟩ = some (.int .u16 x)) (hb : Below w0.heap.size w0 W)
    (h : (∃ S', Qu B w' B (upd (fun _ => []) N l') S' ∧ Turned W w' B S S') ∧ Below B W w') : Fs w0 w' B N g l' x := by
  obtain ⟨⟨S', hq, ht⟩, hb'⟩ := h
  obtain ⟨h1, h2⟩ := hB.keep ht
  exact ⟨S', hq, h1, (World.cell?_of_block (w := W) (w' := w') (a := ⟨g, 0, none⟩) h2).trans hc, hb.trans (hb'.mono hs)⟩

theorem st_add {w0 W : World} {B N g : Nat} {l : List Int} {x : Int} (c : Int) (l' : List Int) (hl : addL l c = l') (hc : 0 ≤ c ∧ c ≤ 65535) (hN : N < 8) (hs : w0.heap.size ≤ B) (h : Fs w0 W B N g l x) :
    Calls Try.prog 9 #[.pointer (some ⟨B, 0, none⟩), .int .i64 N, .int .u16 c] W fun e w' => e = .returned (.tuple #[]) ∧ Fs w0 w' B N g l' x := by
  obtain ⟨S, hq, hB, hx, hb⟩ := h
  refine (add_any B B N _ S c W hq hN hc).mono ?_
  rintro e w' ⟨rfl, h1⟩
  rw [upd_at, upd_upd, hl] at h1
  exact ⟨rfl, Fs.step hs hB hx hb h1⟩
theorem st_next {w0 W : World} {B N g : Nat} {x : Int} (h1 : 12288 ≤ x) (hN : N < 8) (hs : w0.heap.size ≤ B) (h : Fs w0 W B N g (fl x 12) x) :
    Calls Try.prog 14 #[.pointer (some ⟨B, 0, none⟩), .int .i64 N] W fun e w' => e = .returned (.tuple #[.int .u16 x, .bool true]) ∧ Fs w0 w' B N g ((fl x 12).eraseIdx 0) x := by
  obtain ⟨S, hq, hB, hx, hb⟩ := h
  have hl : 0 < (upd (fun _ => []) N (fl x 12) N).length := by rw [upd_at, fl_end]; simp
  refine (next_some B B N _ S W hq hN hl).mono ?_
  rintro e w' ⟨rfl, h2⟩
  rw [upd_at, upd_upd, (full_first x h1).1] at h2
  rw [upd_at, (full_first x h1).2]
  exact ⟨rfl, Fs.step hs hB hx hb h2⟩
theorem st_peek {w0 W : World} {B N g : Nat} {x : Int} (h1 : 12288 ≤ x) (hN : N < 8) (hs : w0.heap.size ≤ B) (h : Fs w0 W B N g (flB x) x) :
    Calls Try.prog 12 #[.pointer (some ⟨B, 0, none⟩), .int .i64 N] W fun e w' => e = .returned (.tuple #[.int .u16 12032, .bool true]) ∧ Fs w0 w' B N g (flB x) x := by
  obtain ⟨S, hq, hB, hx, hb⟩ := h
  have hl : 0 < (upd (fun _ => []) N (flB x) N).length := by rw [upd_at]; simp [flB]
  refine (peek_some B B N _ S W hq hN hl).mono ?_
  rintro e w' ⟨rfl, k, rfl⟩
  rw [upd_at, full_peek x h1]
  have hbk : Below W.heap.size W (W.drewN k) := below_drewN (Below.refl _ _) k
  exact ⟨rfl, Fs.step hs hB hx hb ⟨⟨S, hq.below (n := 0) hbk, (Turned.refl _ _ _).below hbk⟩, hbk.mono (Nat.le_of_lt hq.lt)⟩⟩
theorem st_list {w0 W : World} {B N g : Nat} {x : Int} (hN : N < 8) (hs : w0.heap.size ≤ B) (h : Fs w0 W B N g (flB x) x) :
    Calls Try.prog 15 #[.pointer (some ⟨B, 0, none⟩), .int .i64 N] W fun e w' => ∃ a c, e = .returned (.slice a 8 c) ∧ Below w0.heap.size w0 w' := by
  obtain ⟨S, hq, hB, hx, hb⟩ := h
  refine (list_any B B N _ S W hq hN).mono ?_
  rintro e w' ⟨v, rfl, hO, hb'⟩
  rw [upd_at] at hO
  obtain ⟨a, c, hv, _⟩ := hO.shape
  exact ⟨a, c, by rw [hv]; rfl, hb.trans (hb'.mono hb.size)⟩

set_option maxHeartbeats 600000 in
theorem full_walk (a b : Int) (w : World) (ha : 0 ≤ a ∧ a ≤ 255) (hb : 0 ≤ b ∧ b ≤ 65535) : Calls Try.prog 6 #[.int .u8 a, .int .u16 b] w fun e w' => e = .returned (.bool true) ∧ Below w.heap.size w w' := by
  have HW := Kpt.mk (awake_any w)
  obtain ⟨N, hN⟩ : ∃ N : Nat, (N : Int) = a.tmod 8 := ⟨(a % 8).toNat, by rw [Int.tmod_eq_emod_of_nonneg ha.1]; omega⟩
  have hN8 : N < 8 := by rw [Int.tmod_eq_emod_of_nonneg ha.1] at hN; omega
  have eN : IntKind.i64.wrap (a.tmod 8) = N := by rw [← hN, IntKind.wrap_i64]; omega
  go_enter Try.func6, Try.ntmps6
  go_wp2_with (first
    | (go_at_call 7; refine HW.out.mono ?_; rintro e w0 ⟨rfl, hb0⟩; have HN := Kpt.mk (new_any w0); replace hb0 := Kpt.mk hb0)
    | (go_at_call 8; refine HN.out.mono ?_; rintro e w1 ⟨rfl, rfl⟩))
  have hx0 := qu_new w0
  obtain ⟨x, hx⟩ : ∃ x : Int, x = 12288 + b % 4096 := ⟨_, rfl⟩
  have hx1 : 12288 ≤ x ∧ x ≤ 16383 := by omega
  obtain ⟨B, hB⟩ : ∃ B, B = w0.heap.size := ⟨_, rfl⟩
  rw [← hB] at hx0 ⊢
  obtain ⟨wq, hwq⟩ : ∃ wq, wq = newW w0 := ⟨_, rfl⟩
  have hbq : Kpt (Below w.heap.size w wq) := ⟨by rw [hwq]; exact hb0.out.alloc hb0.out.size _⟩
  have hsB : w.heap.size ≤ B := by rw [hB]; exact hb0.out.size
  rw [show (w0.alloc (.cells #[.slice none 0 0, .slice none 0 0, .slice none 0 0, .slice none 0 0, .slice none 0 0, .slice none 0 0, .slice none 0 0, .slice none 0 0] 46)) = wq from hwq.symm] at hx0 ⊢
  have hQ : Kpt (∃ S', Qu B wq B (upd (fun _ => []) N (fl x 0)) S') := ⟨_, by rw [fl_zero, upd_same (fun _ : Nat => ([] : List Int)) N]; exact hx0⟩
  have eN2 : a % 8 = (N : Int) := by rw [hN, Int.tmod_eq_emod_of_nonneg ha.1]
  rw [eN2]
  clear hx0 HW HN hwq hB hb0 eN hN eN2
  replace hx := Kpt.mk hx
  go_loopw [7] (fun t wr => ∃ (k : Nat), k ≤ 12 ∧ t = .int .u16 k ∧ Kpt (∃ S', Qu B wr B (upd (fun _ => []) N (fl x k)) S') ∧ Kpt (Below w.heap.size w wr)) (fun t _ => 12 - (intOf t).toNat)
  case atStart => exact ⟨0, Nat.zero_le _, rfl, hQ, hbq⟩
  case round =>
    obtain ⟨k, hk, rfl, hI, hW⟩ := hrel
    by_cases hlt : k < 12
    · have e1 : (k : Int) < 12 := by omega
      obtain ⟨S1, hS1⟩ := hI.out
      have ex : 12288 + b % 4096 + (k : Int) = x + k := by rw [hx.out]
      have HA : Kpt (Calls Try.prog 9 #[.pointer (some ⟨B, 0, none⟩), .int .i64 N, .int .u16 (12288 + b % 4096 + (k : Int))] wr fun e w' => e = .returned (.tuple #[]) ∧ (∃ S', Qu B w' B (upd (fun _ => []) N (fl x (k + 1))) S') ∧ Below B wr w') := ⟨by
        rw [ex]
        have h := add_any B B N _ S1 (x + k) wr hS1 hN8 (by omega)
        rw [upd_at, fl_step x k hx1.1, upd_upd] at h
        exact h.mono (fun e w' ⟨h1, ⟨S2, h2, _⟩, h3⟩ => ⟨h1, ⟨S2, h2⟩, h3⟩)⟩
      clear hS1 hI hQ ex
      go_wp2_with (go_at_call 9; go_must (refine HA.out.mono ?_; rintro e w2 ⟨rfl, hq2, hb2⟩; replace hq2 := Kpt.mk hq2; have hW2 := Kpt.mk (hW.out.trans (hb2.mono hsB)); clear hb2))
      go_roundw
      case rel => exact ⟨k + 1, by omega, by go_num, hq2, hW2⟩
      case measure => simp [intOf]; omega
    · have e12 : k = 12 := by omega
      subst e12
      obtain ⟨S1, hS1⟩ := hI.out
      have HL := Kpt.mk (list_any B B N _ S1 wr hS1 hN8)
      rw [upd_at] at HL
      have hS1K := Kpt.mk hS1
      clear hS1 hI hQ hbq
      go_wp2_with (go_at_call 15; go_must (refine HL.out.mono ?_; rintro e w3 ⟨v, rfl, hO3, hb3⟩; obtain ⟨g, cap, rfl, hg1, hg2, hg3⟩ := full_row hO3; have F3 : Kpt (Fs w w3 B N g (fl x 12) x) := ⟨⟨S1, hS1K.out.below (n := 0) hb3, Beside.new hS1K.out hg1 hg2, by have := hg3 0 (by decide); simpa using this, hW.out.trans (hb3.mono hW.out.size)⟩⟩; replace hg3 := Kpt.mk hg3; clear hO3 hb3 hg1))
      clear HL hS1K hW
      go_loopw [9] (fun t wq => ∃ (k : Nat), k ≤ 8 ∧ t = .int .i64 k ∧ wq = w3) (fun t _ => 8 - (intOf t).toNat)
      case atStart => exact ⟨0, Nat.zero_le _, rfl, rfl⟩
      case round =>
        obtain ⟨k, hk, rfl, rfl⟩ := hrel
        by_cases hlt : k < 8
        · have e1 : (k : Int) < 8 := by omega
          have c1 : wr.cell? ⟨g, k, none⟩ = some (.int .u16 (12288 + b % 4096 + (k : Int))) := by rw [hg3.out k hlt, hx.out]
          go_wp2_with fail
          go_roundw
          case rel => exact ⟨k + 1, by omega, by go_num, by first | rfl | trivial⟩
          case measure => simp [intOf]; omega
        · have e8 : k = 8 := by omega
          subst e8
          have H4 := Kpt.mk (st_next hx1.1 hN8 hsB F3.out)
          clear hg3 F3
          go_wp2_with (first
            | (go_at_call 15; go_must (refine H8.out.mono ?_; rintro e w8 ⟨a8, c8, rfl, hb8⟩; replace hb8 := Kpt.mk hb8))
            | (go_at_call 9; (refine H7.out.mono ?_; rintro e w7 ⟨rfl, F7⟩; have c7 : w7.cell? ⟨g, 0, none⟩ = some (.int .u16 x) := (by obtain ⟨_, _, _, h, _⟩ := F7; exact h); have H8 := Kpt.mk (st_list hN8 hsB F7); clear F7 H7))
            | (go_at_call 12; go_must (refine H6.out.mono ?_; rintro e w6 ⟨rfl, F6⟩; have H7 := Kpt.mk (st_add 12033 _ (full_more x) (by decide) hN8 hsB F6); clear F6 H6))
            | (go_at_call 9; (refine H5.out.mono ?_; rintro e w5 ⟨rfl, F5⟩; have H6 := Kpt.mk (st_peek hx1.1 hN8 hsB F5); clear F5 H5))
            | (go_at_call 14; go_must (refine H4.out.mono ?_; rintro e w4 ⟨rfl, F4⟩; have H5 := Kpt.mk (st_add 12032 _ (full_room x hx1.1) (by decide) hN8 hsB F4); clear F4 H4)))
          go_ret
          exact ⟨rfl, hb8.out⟩
end Go.Proofs.Ytodppeldliliaaa.attnFull
