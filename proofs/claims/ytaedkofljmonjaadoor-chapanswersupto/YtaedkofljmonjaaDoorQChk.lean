/-
  The contract of the library's iterator over pieces of a slice, at pieces of 64 bytes.
-/
import Derived.RangeFuncNested
import Derived.RangeFuncBound
import Derived.RangeFuncCalls
import Derived.RangeFuncLeaves
import Derived.Shelf.Abstract
import Derived.Shelf.RegionOpen
import Derived.WalkKit
import Derived.OwnWalkIn
import Derived.TacticsInMore
import Derived.LoopNIn
import Derived.LoopIn
import Derived.Test.YtaedkofljmonjaaDoorRows
namespace Go.Proofs.YtaedkofljmonjaaDoor
open Go.RowKit Go.Shelf
set_option linter.unusedVariables false
set_option linter.unusedSimpArgs false
attribute [local go_sem] Oper.semAt_some

/-- What a round keeps: every block that lay there, but one. -/
def Kc (n₁ hB : Nat) (W W' : World) : Prop := ∀ j, j < n₁ → j ≠ hB → W'.heap[j]? = W.heap[j]?
theorem Kc.refl (n₁ hB : Nat) (W : World) : Kc n₁ hB W W := fun _ _ _ => rfl
theorem Kc.trans {n₁ hB : Nat} {A B C : World} (h : Kc n₁ hB A B) (k : Kc n₁ hB B C) : Kc n₁ hB A C := fun j h1 h2 => (k j h1 h2).trans (h j h1 h2)
theorem Kc.cell {n₁ hB : Nat} {A B : World} (h : Kc n₁ hB A B) {p : Addr} (h1 : p.block < n₁) (h2 : p.block ≠ hB) : B.cell? p = A.cell? p := World.cell?_of_block (h _ h1 h2)

/-- The first k places. -/
def upX (N : Nat) : (k : Nat) → k ≤ N → List { i : Nat // i < N }
  | 0, _ => []
  | k + 1, h => upX N k (Nat.le_of_succ_le h) ++ [⟨k, h⟩]
theorem upX_length (N : Nat) : ∀ k h, (upX N k h).length = k
  | 0, _ => rfl
  | k + 1, h => by simp [upX, upX_length N k]

set_option maxRecDepth 100000 in
set_option maxHeartbeats 2000000 in
theorem chunk1_in (n : Nat) (hn : 1 ≤ n) (l Bs Bn n₁ hB b off N c : Nat) (J Jx : List { i : Nat // i < N } → World → Prop)
    (hY : ∀ pre x W, J pre W → pre.length < N → YieldAt Fence.wide (n - 1) Tryd.prog l #[.slice (some ⟨b, off + 64 * x.1, none⟩) 64 64] W fun e W' =>
      (e = .returned (.bool true) ∧ J (pre ++ [x]) W' ∧ Kc n₁ hB W W') ∨ (e = .returned (.bool false) ∧ Jx (pre ++ [x]) W'))
    (W : World) (hs1 : Bs < n₁) (hs2 : Bs ≠ hB) (hn1 : Bn < n₁) (hn2 : Bn ≠ hB) (hBs : W.cell? ⟨Bs, 0, none⟩ = some (.slice (some ⟨b, off, none⟩) (64 * N) c)) (hBn : W.cell? ⟨Bn, 0, none⟩ = some (.int .i64 64)) (hc : 64 * N ≤ c) (hm : 64 * N ≤ 140737488355328) (hJ : AbidesFrom W.heap.size J) (h0 : J [] W) :
    CallsIn Fence.wide n Tryd.prog 28 #[.func (.yield l) #[] #[], .pointer (some ⟨Bs, 0, none⟩), .pointer (some ⟨Bn, 0, none⟩)] W fun e W' => (∃ v, e = .returned v) ∧
      ((∃ ys, ys = upX N N (Nat.le_refl _) ∧ J ys W') ∨ (∃ pre, Jx pre W')) := by
  refine callsIn_of_wp Tryd.func28 rfl trivial ?_ rfl
  simp only [Tryd.ntmps28, List.size_toArray, List.length_cons, List.length_nil, Nat.reduceAdd, Nat.reduceSub, Array.replicate_succ, Array.replicate_zero, List.push_toArray, List.append_toArray, List.nil_append, List.cons_append]
  gi_wp2
  gi_loopw [4] (fun i wr => ∃ (k : Nat) (hk : k ≤ N), i = .int .i64 (64 * k : Nat) ∧ J (upX N k hk) wr ∧ Kc n₁ hB W wr)
    (fun i _ => 64 * N - (intOf i).toNat)
  case atStart => exact ⟨0, Nat.zero_le _, rfl, h0, Kc.refl _ _ _⟩
  case round =>
    obtain ⟨k, hk, rfl, hJs, hnx⟩ := hrel
    have hcs : wr.cell? ⟨Bs, 0, none⟩ = some (.slice (some ⟨b, off, none⟩) (64 * N) c) := (hnx.cell (p := ⟨Bs, 0, none⟩) hs1 hs2).trans hBs
    have hcn : wr.cell? ⟨Bn, 0, none⟩ = some (.int .i64 64) := (hnx.cell (p := ⟨Bn, 0, none⟩) hn1 hn2).trans hBn
    by_cases hlt : k < N
    · have hJd : J (upX N k hk) wr.drew := hJ _ wr wr.drew none hJs ⟨rfl, rfl, rfl, Nat.le_refl _, fun _ _ _ => rfl⟩ (fun r e => by cases e)
      obtain ⟨fn, tmps, assign, body, hy, hR⟩ := hY _ ⟨k, hlt⟩ wr.drew hJd (by rw [upX_length]; exact hlt)
      dsimp only at hy
      have hcsd : wr.drew.cell? ⟨Bs, 0, none⟩ = some (.slice (some ⟨b, off, none⟩) (64 * N) c) := hcs
      gi_wp2
      gi_region
      gi_wp2
      refine hR.mono ?_
      rintro e W3 (⟨rfl, hJ3, hk3⟩ | ⟨rfl, hJx3⟩)
      · have hcn3 : W3.cell? ⟨Bn, 0, none⟩ = some (.int .i64 64) := (hk3.cell (p := ⟨Bn, 0, none⟩) hn1 hn2).trans hcn
        gi_wp2
        go_roundw
        case rel => exact ⟨k + 1, hlt, by simp; omega, hJ3, hnx.trans (Kc.trans (fun _ _ _ => rfl) hk3)⟩
        case measure => simp [intOf]; omega
      · gi_wp2
        refine bodyPost_ret (results_none rfl _ _ _) rfl ?_
        exact ⟨⟨_, rfl⟩, .inr ⟨_, hJx3⟩⟩
    · obtain rfl : k = N := by omega
      gi_wp2
      go_end0
      exact ⟨⟨_, rfl⟩, .inl ⟨_, rfl, hJs⟩⟩

set_option maxRecDepth 100000 in
set_option maxHeartbeats 1000000 in
/-- .. with nothing in it: no round. -/
theorem chunk1_nil_in (n : Nat) (l Bs Bn : Nat) (a : Option Addr) (c : Nat) (α : Type) (J : List α → World → Prop) (W : World) (hBs : W.cell? ⟨Bs, 0, none⟩ = some (.slice a 0 c)) (h0 : J [] W) :
    CallsIn Fence.wide n Tryd.prog 28 #[.func (.yield l) #[] #[], .pointer (some ⟨Bs, 0, none⟩), .pointer (some ⟨Bn, 0, none⟩)] W fun e W' => (∃ v, e = .returned v) ∧ J [] W' := by
  refine callsIn_of_wp Tryd.func28 rfl trivial ?_ rfl
  simp only [Tryd.ntmps28, List.size_toArray, List.length_cons, List.length_nil, Nat.reduceAdd, Nat.reduceSub, Array.replicate_succ, Array.replicate_zero, List.push_toArray, List.append_toArray, List.nil_append, List.cons_append]
  gi_wp2
  gi_loopw [4] (fun i wr => i = .int .i64 0 ∧ J [] wr ∧ wr = W) (fun _ _ => 0)
  case atStart => exact ⟨rfl, h0, rfl⟩
  case round =>
    obtain ⟨rfl, hJs, rfl⟩ := hrel
    gi_wp2
    go_end0
    exact ⟨⟨_, rfl⟩, hJs⟩

/-- A slice of N pieces of 64 bytes, whose memory a round keeps. -/
def Pcs (n₁ hB N : Nat) (b off c : Nat) (sv : Value) : Prop := (N = 0 ∧ ∃ a c', sv = .slice a 0 c') ∨ (sv = .slice (some ⟨b, off, none⟩) (64 * N) c ∧ 64 * N ≤ c ∧ 64 * N ≤ 140737488355328 ∧ 0 < N)

theorem chunk_stops (n : Nat) (hn : 1 ≤ n) (Bs Bn n₁ hB b off N c : Nat) (sv : Value) (hp : Pcs n₁ hB N b off c sv) (w : World) (hs1 : Bs < n₁) (hs2 : Bs ≠ hB) (hn1 : Bn < n₁) (hn2 : Bn ≠ hB) (hsz : n₁ ≤ w.heap.size)
    (hBs : w.cell? ⟨Bs, 0, none⟩ = some sv) (hBn : w.cell? ⟨Bn, 0, none⟩ = some (.int .i64 64)) :
    SeqStopsK Fence.wide n Tryd.prog 28 #[.pointer (some ⟨Bs, 0, none⟩), .pointer (some ⟨Bn, 0, none⟩)] (fun x : { i : Nat // i < N } => #[.slice (some ⟨b, off + 64 * x.1, none⟩) 64 64]) (Kc n₁ hB)
      (fun ys => ys = upX N N (Nat.le_refl _)) (fun _ => True) N w := fun l J Jx W hW hJ _ hY h0 => by
  have hc1 : W.cell? ⟨Bs, 0, none⟩ = some sv := (hW.cell (p := ⟨Bs, 0, none⟩) (by simp; omega)).trans hBs
  have hc2 : W.cell? ⟨Bn, 0, none⟩ = some (.int .i64 64) := (hW.cell (p := ⟨Bn, 0, none⟩) (by simp; omega)).trans hBn
  rcases hp with ⟨rfl, a, c', rfl⟩ | ⟨rfl, h1, h2, h3⟩
  · exact (chunk1_nil_in n l Bs Bn a c' _ J W hc1 h0).mono fun e W' ⟨he, hj⟩ => ⟨he, .inl ⟨_, rfl, hj⟩⟩
  · refine (chunk1_in n hn l Bs Bn n₁ hB b off N c J Jx hY W hs1 hs2 hn1 hn2 hc1 hc2 h1 h2 hJ h0).mono ?_
    rintro e W' ⟨he, ⟨ys, rfl, hj⟩ | ⟨pre, hj⟩⟩
    · exact ⟨he, .inl ⟨_, rfl, hj⟩⟩
    · exact ⟨he, .inr ⟨pre, trivial, hj⟩⟩

set_option maxHeartbeats 1000000 in
/-- The library's function hands back its closure, with two boxes. -/
theorem chunk_in (n : Nat) (a : Option Addr) (len cap : Nat) (w : World) :
    CallsIn Fence.wide n Tryd.prog 17 #[.slice a len cap, .int .i64 64] w fun e w' => e = .returned (.func (.func 28) #[] #[.pointer (some ⟨w.heap.size, 0, none⟩), .pointer (some ⟨w.heap.size + 1, 0, none⟩)]) ∧ w' = (w.alloc (.cells #[.slice a len cap] 22)).alloc (.cells #[.int .i64 64] 3) := by
  refine callsIn_of_wp Tryd.func17 rfl trivial ?_ rfl
  simp only [Tryd.ntmps17, List.size_toArray, List.length_cons, List.length_nil, Nat.reduceAdd, Nat.reduceSub, Array.replicate_succ, Array.replicate_zero, List.push_toArray, List.append_toArray, List.nil_append, List.cons_append]
  gi_wp2
  go_ret
  exact ⟨rfl, rfl⟩

end Go.Proofs.YtaedkofljmonjaaDoor
