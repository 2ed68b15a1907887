/-
  The document's Load of what was saved.
-/
import Derived.Test.YtmnoolcffkjmhaaPX12
import Derived.Test.YtmnoolcffkjmhaaPOrder
import Derived.Test.YtmnoolcffkjmhaaBSame
namespace Go.Proofs.Ytmnoolcffkjmhaa
open Go.RowKit
set_option linter.unusedVariables false
set_option linter.unusedSimpArgs false

theorem rnum_any (b off len cap i n : Nat) (zs : List Int) (w : World) (hl : len ≤ maxLen) (hn1 : 1 ≤ n) (hn2 : n ≤ 8) (hi : i + n ≤ len) (hb : B.Bytes zs)
    (hc : ∀ j, j < len → w.cell? ⟨b, off + j, none⟩ = some (.int .u8 (zs.getD j 0))) :
    Calls Try.prog 31 #[.slice (some ⟨b, off, none⟩) len cap, .int .i64 i, .int .i64 n] w fun e w' => e = .returned (.int .u64 (B.num zs i n)) ∧ w' = w := by
  have H := Kpt.mk (B.rget_ok b off len cap i n zs w hl hn1 hn2 hi hb hc)
  clear hc
  go_enter Try.func31, Try.ntmps31
  go_wp2_with (go_at_call 53; go_must (refine H.out.mono ?_; rintro e w ⟨rfl, rfl⟩))
  go_ret
  exact ⟨rfl, rfl⟩

def rzero : Tb := ⟨fun _ => 0, 0, 0, 0, false⟩
abbrev rnewW (w : World) : World := w.alloc (.cells #[.int .u64 0, .int .u64 0, .int .u64 0, .int .u64 0, .int .u64 0, .int .u64 0, .int .u64 0, .int .u64 0, .int .i64 0, .int .i64 0, .int .u32 0, .bool false] 31)
theorem rtab_new (w : World) : RTab (rnewW w) w.heap.size zeroT 0 :=
  ⟨by simp, fun j hj => by
    simp only [rnewW, zeroT]
    obtain rfl | rfl | rfl | rfl | rfl | rfl | rfl | rfl : j = 0 ∨ j = 1 ∨ j = 2 ∨ j = 3 ∨ j = 4 ∨ j = 5 ∨ j = 6 ∨ j = 7 := by omega
    all_goals simp, by simp [zeroT], by simp, by simp [zeroT], by simp [zeroT], fun j => by simp, fun _ _ => rfl⟩
theorem rload_nil (a : Option Addr) (c : Nat) (w : World) : Calls Try.prog 13 #[.slice a 0 c] w fun e w' => ∃ C y, e = .returned (.tuple #[.pointer (some ⟨C, 0, none⟩), .int .i64 0]) ∧ w.heap.size ≤ C ∧ RTab w' C zeroT y ∧ Below w.heap.size w w' := by
  go_enter Try.func13, Try.ntmps13
  go_wp2
  go_ret2
  exact ⟨w.heap.size, 0, rfl, Nat.le_refl _, rtab_new w, (Below.refl _ _).alloc (Nat.le_refl _) _⟩

/-- The keys that the first k of a table's registrations tell. -/
abbrev kT (t : Tb) (k : Nat) : Tb := ⟨keyF (t.regs.take k), t.res.1, if t.res.2 = -1 then 255 else t.res.2, 0, true⟩
theorem keyF_step (l : List (Int × Int)) (k m : Nat) (y : Int) (h : l[k]? = some ((m : Int), y)) : keyF (l.take (k + 1)) = upd (keyF (l.take k)) m y := by
  rw [List.take_add_one, h]
  unfold keyF
  rw [List.foldl_append]
  simp
theorem rsave_row (B : Nat) (t : Tb) (x : Int) (w : World) (n : Nat) (h : RTab w B t x) (hg : t.good) (hla : t.la = true) (hn : t.save.length = n) :
    Calls Try.prog 14 #[.pointer (some ⟨B, 0, none⟩)] w fun e w' => ∃ g c, e = .returned (.slice (some ⟨g, 0, none⟩) n c) ∧ Go.Proofs.Ytmnoolcffkjmhaa.B.RowAt w' (some ⟨g, 0, none⟩) n t.save ∧ Below w.heap.size w w' ∧ (n ≤ c ∧ c ≤ maxLen) ∧ w.heap.size ≤ g := by
  refine (rsave_last B t x w h hg hla).mono fun e w' ⟨v, h1, h2, h3⟩ => ?_
  have hpos : 0 < t.save.length := by unfold Tb.save headB; simp
  subst hn
  rcases id h2.2 with ⟨rfl, h0⟩ | ⟨g, cap, cur, rfl, hb, hgg, hc1, hc2, rest⟩
  · omega
  · exact ⟨g, cap, h1, Go.Proofs.Ytmnoolcffkjmhaa.B.rowAt_own h2, h3, ⟨hc1, hc2⟩, hb⟩
theorem RTab.setH {w : World} {B : Nat} {t : Tb} {h : Int} (H : RTab w B t h) (y : Int) (hz : t.kd = 0 ∨ isAll t.kd = true) : RTab (w.setCell ⟨B, 9, none⟩ (.int .i64 y)) B t y := by
  refine ⟨by have := H.lt; simpa using this, fun j hj => (set_other (by omega)).trans (H.key j hj), (set_other (by omega)).trans H.c8, set_same H.c9, (set_other (by omega)).trans H.c10, (set_other (by omega)).trans H.c11, fun j => by have := H.free j; simpa using this, fun a b => ?_⟩
  rcases hz with e | e
  · exact absurd e a
  · rw [e] at b; cases b
theorem below_of_grown {w w' : World} (h : w.grownBy w' (some w.heap.size)) : Below w.heap.size w w' := (Below.refl _ _).grown h (Nat.le_refl _) (fun k hk => by simp at hk; omega)
end Go.Proofs.Ytmnoolcffkjmhaa
