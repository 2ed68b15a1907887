/-
  Abort, Establish with what is no nexus; a set and the document's side by side.
-/
import Derived.Test.YtcnefmfmmgdidaaTREnt
import Derived.Test.YtcnefmfmmgdidaaTNil
namespace Go.Proofs.Ytcnefmfmmgdidaa
open Go.RowKit
set_option linter.unusedVariables false
set_option linter.unusedSimpArgs false

theorem aborts_any (t : Tk) (p q : Nat) (n g : Int) (w : World) (hp : w.cell? ⟨p, 0, none⟩ = some (.int .i64 n)) (hq : w.cell? ⟨q, 0, none⟩ = some (.int .u32 g)) (hpl : p < w.heap.size) (hql : q < w.heap.size) :
    Calls Try.prog 42 #[.agg t.vals, .pointer (some ⟨p, 0, none⟩), .pointer (some ⟨q, 0, none⟩)] w fun e w' => e = .returned (.bool (isT n g t)) ∧ Below w.heap.size w w' := by
  obtain ⟨a, b, c, d⟩ := t
  simp only [Tk.vals]
  by_cases h1 : a = n
  · subst h1
    by_cases h2 : b = g
    · subst h2
      go_enter Try.func42, Try.ntmps42
      go_wp2
      go_ret
      exact ⟨ret_bool (by simp [isT]), (Below.refl _ _).alloc (Nat.le_refl _) _⟩
    · go_enter Try.func42, Try.ntmps42
      go_wp2
      go_ret
      exact ⟨ret_bool (by simp [isT, h2]), (Below.refl _ _).alloc (Nat.le_refl _) _⟩
  · go_enter Try.func42, Try.ntmps42
    go_wp2
    go_ret
    exact ⟨ret_bool (by simp [isT, h1]), (Below.refl _ _).alloc (Nat.le_refl _) _⟩
theorem hcf42 : ∀ (args : Array Value) (W : World), (callFunc 42 args).run Try.prog W = .ok (Next.enter 42 args) W := fun args W => Go.MuLone.run_callFunc_enter (P := Try.prog) Try.func42 (by kernel_rfl) rfl args W

set_option maxHeartbeats 1000000 in
theorem abort_any (base B : Nat) (ts : List Tk) (st : Int) (v : Value) (n g : Int) (w : World) (h : St base w B ts st v) :
    Calls Try.prog 29 #[.pointer (some ⟨B, 0, none⟩), .int .i64 n, .int .u32 g] w (TakePost (isT n g) base B ts st v w) := by
  obtain ⟨w1, hw1⟩ : ∃ w1, w1 = (w.alloc (.cells #[.int .i64 n] 3)).alloc (.cells #[.int .u32 g] 29) := ⟨_, rfl⟩
  have hb1 : Below w.heap.size w w1 := by rw [hw1]; exact ((Below.refl _ _).alloc (Nat.le_refl _) _).alloc (by simp) _
  have hsz : w1.heap.size = w.heap.size + 2 := by rw [hw1]; simp
  have hp : w1.cell? ⟨w.heap.size, 0, none⟩ = some (.int .i64 n) := by rw [hw1]; simp
  have hq : w1.cell? ⟨w.heap.size + 1, 0, none⟩ = some (.int .u32 g) := by rw [hw1]; simp
  have H := Kpt.mk (take_any 42 #[.pointer (some ⟨w.heap.size, 0, none⟩), .pointer (some ⟨w.heap.size + 1, 0, none⟩)] (isT n g) base B ts st v w1 (h.below hb1) hcf42 (fun W hW t _ =>
    aborts_any t _ _ n g W ((hW.cell (p := ⟨w.heap.size, 0, none⟩) (by rw [hsz]; simp)).trans hp) ((hW.cell (p := ⟨w.heap.size + 1, 0, none⟩) (by rw [hsz]; simp)).trans hq) (Nat.lt_of_lt_of_le (by rw [hsz]; omega) hW.size) (Nat.lt_of_lt_of_le (by rw [hsz]; omega) hW.size)))
  have hb0K := Kpt.mk hb1
  have hK := Kpt.mk h
  have hszK : w.heap.size ≤ w1.heap.size := hb1.size
  rw [hw1] at H
  replace hw1 := Kpt.mk hw1
  clear h hb1 hp hq hsz
  go_enter Try.func29, Try.ntmps29
  have hm := hmf
  go_wp2_with (go_at_call 37; go_must (refine H.out.mono ?_; rintro e w' ⟨y, v', rfl, h1, h2, h3, h4, h5⟩; rw [← hw1.out] at h1 h3 h4; have hP : Kpt (TakePost (isT n g) base B ts st v w (.returned y) w') := ⟨⟨y, v', rfl, h1.lower hszK, h2, (Trn.of_below B v hb0K.out).trans h3, (hb0K.out.mono (Nat.le_trans hK.out.le (Nat.le_of_lt hK.out.lt))).trans h4, h5⟩⟩; clear h1 h2 h3 h4 h5))
  go_ret
  exact hP.out

theorem establish_arg (base B : Nat) (ts : List Tk) (st : Int) (v : Value) (n : Int) (w : World) (h : St base w B ts st v) (hn : ¬ (0 ≤ n ∧ n < 8)) :
    Calls Try.prog 21 #[.pointer (some ⟨B, 0, none⟩), .int .i64 n] w fun e w' => e = .returned (.int .i64 1) ∧ w' = w := by
  have HN := fun W => Kpt.mk (isNexus_any n W)
  rw [show decide (0 ≤ n ∧ n < 8) = false from by simp; omega] at HN
  clear h
  go_enter Try.func21, Try.ntmps21
  go_wp2_with (go_at_call 33; go_must (refine (HN _).out.mono ?_; rintro e w' ⟨rfl, rfl⟩))
  go_ret
  exact ⟨rfl, rfl⟩

/-- A set and the document's, and an act's block beside them. -/
structure Pt (w0 W : World) (B C T : Nat) (av : List Value) (ts : List Tk) (st : Int) (v : Value) (us : List Tk) (su : Int) (u : Value) : Prop where
  a : St w0.heap.size W B ts st v
  b : StR w0.heap.size W C us su u
  low : Below w0.heap.size w0 W
  bc : B ≠ C
  vC : v.ownBlock ≠ some C
  uB : u.ownBlock ≠ some B
  vu : ∀ g, v.ownBlock = some g → u.ownBlock ≠ some g
  tr : W.rangeAt T 0 av
  tl : T < W.heap.size
  t0 : w0.heap.size ≤ T
  tB : T ≠ B
  tC : T ≠ C
  tv : v.ownBlock ≠ some T
  tu : u.ownBlock ≠ some T

section
variable {w0 W W' : World} {B C T : Nat} {av : List Value} {ts us ts' us' : List Tk} {st su st' su' : Int} {v u v' u' : Value}
theorem Pt.left (h : Pt w0 W B C T av ts st v us su u) (hs : St w0.heap.size W' B ts' st' v') (ht : Trn W W' B v v') (hb : Below w0.heap.size W W') : Pt w0 W' B C T av ts' st' v' us su u := by
  have hkeep : ∀ g, u.ownBlock = some g → W'.heap[g]? = W.heap[g]? := fun g hg => ht.block g (h.b.own.lt hg).2 (fun e => h.uB (by rw [← e]; exact hg)) (fun e => h.vu g e hg)
  have hnew : ∀ g, g < W.heap.size → v.ownBlock ≠ some g → v'.ownBlock ≠ some g := fun g hg hv e => by
    rcases ht.came g e with e2 | e2
    · exact hv e2
    · omega
  exact ⟨hs, h.b.keep ht.size (ht.block C h.b.lt (fun e => h.bc e.symm) h.vC) hkeep, h.low.trans hb, h.bc, hnew C h.b.lt h.vC, h.uB,
    fun g hg e => hnew g (h.b.own.lt e).2 (fun e2 => h.vu g e2 e) hg, rangeAt_of_block h.tr (ht.block T h.tl h.tB h.tv), Nat.lt_of_lt_of_le h.tl ht.size, h.t0, h.tB, h.tC, hnew T h.tl h.tv, h.tu⟩
theorem Pt.right (h : Pt w0 W B C T av ts st v us su u) (hs : StR w0.heap.size W' C us' su' u') (ht : Trn W W' C u u') (hb : Below w0.heap.size W W') : Pt w0 W' B C T av ts st v us' su' u' := by
  have hkeep : ∀ g, v.ownBlock = some g → W'.heap[g]? = W.heap[g]? := fun g hg => ht.block g (h.a.own.lt hg).2 (fun e => h.vC (by rw [← e]; exact hg)) (fun e => h.vu g hg e)
  have hnew : ∀ g, g < W.heap.size → u.ownBlock ≠ some g → u'.ownBlock ≠ some g := fun g hg hv e => by
    rcases ht.came g e with e2 | e2
    · exact hv e2
    · omega
  exact ⟨h.a.keep ht.size (ht.block B h.a.lt h.bc h.uB) hkeep, hs, h.low.trans hb, h.bc, h.vC, hnew B h.a.lt h.uB,
    fun g hg e => hnew g (h.a.own.lt hg).2 (fun e2 => h.vu g hg e2) e, rangeAt_of_block h.tr (ht.block T h.tl h.tC h.tu), Nat.lt_of_lt_of_le h.tl ht.size, h.t0, h.tB, h.tC, h.tv, hnew T h.tl h.tu⟩
theorem Pt.grow (h : Pt w0 W B C T av ts st v us su u) (hb : Below W.heap.size W W') : Pt w0 W' B C T av ts st v us su u :=
  h.left (h.a.below hb) (Trn.of_below B v hb) (hb.mono h.low.size)
end
end Go.Proofs.Ytcnefmfmmgdidaa
