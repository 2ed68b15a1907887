/-
  PiPacks: the walk, for what came in.
-/
import Derived.Test.YtcnjnebhidfogaaGPks
namespace Go.Proofs.Ytcnjnebhidfogaa
open Go.RowKit
set_option linter.unusedVariables false
set_option linter.unusedSimpArgs false

theorem ans_none (w : World) (bl : Nat → Bk) : Ans w (.slice none 0 0) 0 bl := ⟨none, 0, rfl, fun j hj => by omega⟩
theorem ans_heap {w : World} {g m : Nat} {c : Bool} {zs : List Int} (hb : Bytes zs) (hl : zs.length = m * sz c) (hg : w.heap[g]? = some (.cells (unL c zs m).toArray 33 (0, 0))) : Ans w (.slice (some ⟨g, 0, none⟩) m m) m (unB c zs) :=
  ⟨_, _, rfl, rows_of_heap hb hl hg (fun _ _ => rfl)⟩
theorem own_rd' {w : World} {b n : Nat} {v : Value} {zs : List Int} (h : w.ownsRow b 5 1 v n (cels zs)) : RdAt w v zs := by
  have hz : zs.length = n := by have := h.1; simpa using this
  refine Row.rd (show w.ownsRow 0 5 1 v zs.length (cels zs) from ?_)
  rw [hz]
  exact own_base h (Nat.zero_le _)

theorem packs_any (a1 a2 : Option Addr) (n1 c1 n2 c2 : Nat) (bs : List Bk) (zs : List Int) (c : Bool) (w : World) (h1 : Bks w (.slice a1 n1 c1) bs) (l1 : bs.length = n1) (b1 : n1 ≤ 1048576)
    (h2 : RdAt w (.slice a2 n2 c2) zs) (l2 : zs.length = n2) (hz : Bytes zs) (b2 : n2 ≤ 1048576) :
    Calls Try.prog 5 #[.slice a1 n1 c1, .slice a2 n2 c2, .bool c] w fun e w' => e = .returned (.bool true) ∧ Below w.heap.size w w' := by
  have P1 : ∀ W, Below w.heap.size w W → Calls Try.prog 16 #[.slice a1 n1 c1, .bool c] W fun e w' => ∃ v, e = .returned v ∧ RdAt w' v (packL c bs) ∧ Below W.heap.size W w' := fun W hW => by
    cases c with
    | true =>
      refine (pack_true a1 n1 c1 bs W (h1.below hW) l1 (by omega)).mono ?_
      rintro e w' ⟨g, cap, rfl, ho, hb⟩
      exact ⟨_, rfl, own_rd' ho, hb⟩
    | false =>
      refine (pack_false a1 n1 c1 bs W (h1.below hW) l1 (by omega)).mono ?_
      rintro e w' ⟨g, cap, rfl, ho, hb⟩
      exact ⟨_, rfl, own_rd' ho, hb⟩
  have P2 : ∀ W, Below w.heap.size w W → Calls Try.prog 19 #[.slice a1 n1 c1, .bool c] W fun e w' => ∃ v, e = .returned v ∧ RdAt w' v (packL c bs) ∧ Below W.heap.size W w' := fun W hW => by
    cases c with
    | true =>
      refine (rpack_true a1 n1 c1 bs W (h1.below hW) l1 (by omega)).mono ?_
      rintro e w' ⟨v, rfl, ho, hb⟩
      exact ⟨_, rfl, own_rd' ho, hb⟩
    | false =>
      refine (rpack_false a1 n1 c1 bs W (h1.below hW) l1 (by omega)).mono ?_
      rintro e w' ⟨v, rfl, ho, hb⟩
      exact ⟨_, rfl, own_rd' ho, hb⟩
  by_cases hd : n2 % sz c = 0
  · obtain ⟨m, hm⟩ : ∃ m, n2 = m * sz c := ⟨n2 / sz c, by rw [Nat.div_mul_cancel (Nat.dvd_of_mod_eq_zero hd)]⟩
    have hmb : m ≤ 1048576 := by cases c <;> simp [sz] at hm <;> omega
    have hlz : zs.length = m * sz c := by rw [l2, hm]
    refine packs_go _ _ c true w (packL c bs) m (unB c zs) (by omega) P1 P2 (fun W hW => ?_) (fun W hW => ?_)
    · cases c with
      | true =>
        refine (unpack_true a2 n2 c2 m zs W (rd_below h2 hW) l2 hm hz (by omega)).mono ?_
        rintro e w' ⟨g, rfl, hh, _, hb⟩
        exact ⟨_, rfl, ans_heap hz hlz hh, hb⟩
      | false =>
        refine (unpack_false a2 n2 c2 m zs W (rd_below h2 hW) l2 hm hz (by omega)).mono ?_
        rintro e w' ⟨g, rfl, hh, _, hb⟩
        exact ⟨_, rfl, ans_heap hz hlz hh, hb⟩
    · cases c with
      | true =>
        refine (runpack_true a2 n2 c2 m zs W (rd_below h2 hW) l2 hm hz (by omega)).mono ?_
        rintro e w' ⟨v, rfl, ho, hb⟩
        exact ⟨_, rfl, ans_own hz hlz ho, hb⟩
      | false =>
        refine (runpack_false a2 n2 c2 m zs W (rd_below h2 hW) l2 hm hz (by omega)).mono ?_
        rintro e w' ⟨v, rfl, ho, hb⟩
        exact ⟨_, rfl, ans_own hz hlz ho, hb⟩
  · have hx : n2 ≤ maxLen := by unfold maxLen; omega
    refine packs_go _ _ c false w (packL c bs) 0 (unB c zs) (by omega) P1 P2 (fun W hW => ?_) (fun W hW => ?_)
    · cases c with
      | true =>
        refine (unpack_no_true a2 n2 c2 W hx hd).mono ?_
        rintro e w' ⟨rfl, rfl⟩
        exact ⟨_, rfl, ans_none _ _, Below.refl _ _⟩
      | false =>
        refine (unpack_no_false a2 n2 c2 W hx hd).mono ?_
        rintro e w' ⟨rfl, rfl⟩
        exact ⟨_, rfl, ans_none _ _, Below.refl _ _⟩
    · cases c with
      | true =>
        refine (runpack_no_true a2 n2 c2 W hx hd).mono ?_
        rintro e w' ⟨rfl, rfl⟩
        exact ⟨_, rfl, ans_none _ _, Below.refl _ _⟩
      | false =>
        refine (runpack_no_false a2 n2 c2 W hx hd).mono ?_
        rintro e w' ⟨rfl, rfl⟩
        exact ⟨_, rfl, ans_none _ _, Below.refl _ _⟩
end Go.Proofs.Ytcnjnebhidfogaa
