/-
  sess: a PDU; small functions.
-/
import Derived.Test.YtdplndlmdhpfaabESs
import Derived.Test.YtdplndlmdhpfaabClone
namespace Go.Proofs.Ytdplndlmdhpfaab
open Go.RowKit
set_option linter.unusedVariables false
set_option linter.unusedSimpArgs false

theorem ret_int {k : IntKind} {a b : Int} (h : a = b) : Ending.returned (.int k a) = .returned (.int k b) := by rw [h]
theorem ret_bool {a b : Bool} (h : a = b) : Ending.returned (.bool a) = .returned (.bool b) := by rw [h]

structure Pd where
  (op fl rs st lu tg w0 w1 w2 w3 w4 w5 w6 : Int) (da : Value)
def Pd.v (p : Pd) : Array Value := #[.int .u8 p.op, .int .u8 p.fl, .int .u8 p.rs, .int .u8 p.st, .int .u8 p.lu, .int .u32 p.tg, .int .u32 p.w0, .int .u32 p.w1, .int .u32 p.w2, .int .u32 p.w3, .int .u32 p.w4, .int .u32 p.w5, .int .u32 p.w6, p.da]
theorem Pd.v_size (p : Pd) : p.v.size = 14 := rfl
theorem Pd.one {p : Pd} {a : Option Addr} {n c : Nat} (h : p.da = .slice a n c) : p.v.size = 14 ∧ p.v.all (·.oneCell') = true := ⟨rfl, by simp [Pd.v, h, Value.oneCell']⟩
def Pd.opk (p : Pd) : Prop := p.op = 0 ∨ p.op = 1 ∨ p.op = 5 ∨ p.op = 64 ∨ p.op = 68 ∨ p.op = 70 ∨ p.op = 33 ∨ p.op = 62 ∨ p.op = 4

theorem operation_any (p : Pd) (w : World) (h : p.opk) : Calls Try.prog 20 #[.agg p.v] w fun e w' => e = .returned (.int .u8 (p.op % 64)) ∧ Below w.heap.size w w' := by
  obtain ⟨op, fl, rs, st, lu, tg, w0, w1, w2, w3, w4, w5, w6, da⟩ := p
  simp only [Pd.opk] at h
  rcases h with rfl | rfl | rfl | rfl | rfl | rfl | rfl | rfl | rfl
  all_goals
    go_enter Try.func20, Try.ntmps20
    go_wp2_with (refine (?_ : wpList _ _ _ (Oper.mk _ (Op.box 42 _) _ _ _ _ :: _) _ _); go_must (refine wpList_box rfl 42 _ rfl _ rfl ?_; intro P w1 hP hB hb _; have q0 := hB.cells 0 (by simp [Pd.v]); simp [Pd.v] at q0; replace hb := Kpt.mk hb; clear hB hP))
    go_ret
    exact ⟨by first | rfl | decide, hb.out⟩

theorem isKnown_any (x : Int) (w : World) (h : x = 0 ∨ x = 1 ∨ x = 4 ∨ x = 6 ∨ x = 33 ∨ x = 62) : Calls Try.prog 22 #[.int .u8 x] w fun e w' => e = .returned (.bool (decide (x ≤ 6))) ∧ w' = w := by
  rcases h with rfl | rfl | rfl | rfl | rfl | rfl
  all_goals
    go_enter Try.func22, Try.ntmps22
    go_wp2
    go_ret
    exact ⟨rfl, rfl⟩

theorem attributeOf_any (x : Int) (w : World) (h : x = 193 ∨ x = 161) : Calls Try.prog 60 #[.int .u8 x] w fun e w' => e = .returned (.int .u8 0) ∧ w' = w := by
  rcases h with rfl | rfl
  all_goals
    go_enter Try.func60, Try.ntmps60
    go_wp2
    go_ret
    exact ⟨rfl, rfl⟩

theorem next_any (S : Nat) (s : Se) (H O T : List (Array Value)) (w : World) (h : Ss w S s H O T) : Calls Try.prog 12 #[.pointer (some ⟨S, 0, none⟩)] w fun e w' => e = .returned (.int .u32 s.next) ∧ w' = w := by
  have c := (h.cell 11 (by omega)).1
  simp [Se.v] at c
  clear h
  go_enter Try.func12, Try.ntmps12
  go_wp2
  go_ret
  exact ⟨rfl, rfl⟩
theorem waits_any (S : Nat) (s : Se) (H O T : List (Array Value)) (w : World) (h : Ss w S s H O T) : Calls Try.prog 13 #[.pointer (some ⟨S, 0, none⟩)] w fun e w' => e = .returned (.int .i64 O.length) ∧ w' = w := by
  have c := (h.cell 15 (by omega)).1
  obtain ⟨a, k, hv, _⟩ := h.opn.shape
  simp [Se.v] at c
  rw [hv] at c
  clear h hv
  obtain ⟨n, hn⟩ : ∃ n, n = O.length := ⟨_, rfl⟩
  rw [← hn] at c ⊢
  clear hn
  go_enter Try.func13, Try.ntmps13
  go_wp2
  go_ret
  exact ⟨rfl, rfl⟩
end Go.Proofs.Ytdplndlmdhpfaab
