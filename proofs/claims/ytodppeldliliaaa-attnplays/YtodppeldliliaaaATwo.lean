/-
  The program's queues and the document's, side by side.
-/
import Derived.Test.YtodppeldliliaaaARAdd
import Derived.Test.YtodppeldliliaaaARNext
namespace Go.Proofs.Ytodppeldliliaaa
open Go.RowKit
set_option linter.unusedVariables false
set_option linter.unusedSimpArgs false

/-- No block is both one's. -/
structure Apart (B : Nat) (S : Nat → Value) (X : Nat) (T : Nat → Value) : Prop where
  ne : B ≠ X
  sx : ∀ n, n < 8 → (S n).ownBlock ≠ some X
  tb : ∀ n, n < 8 → (T n).ownBlock ≠ some B
  st : ∀ n m g, n < 8 → m < 8 → (S n).ownBlock = some g → (T m).ownBlock ≠ some g

theorem Apart.symm {B X : Nat} {S T : Nat → Value} (h : Apart B S X T) : Apart X T B S :=
  ⟨fun e => h.ne e.symm, h.tb, h.sx, fun n m g hn hm h1 h2 => h.st m n g hm hn h2 h1⟩

theorem Qu.lower {base base' : Nat} {w : World} {B : Nat} {L : Nat → List Int} {S : Nat → Value} (h : Qu base w B L S) (hb : base' ≤ base) : Qu base' w B L S :=
  ⟨h.lt, Nat.le_trans hb h.le, h.cells, h.free, fun n hn => (h.own n hn).lower hb, h.apart, h.other, h.few, h.good⟩

theorem Qu.keep {base base' : Nat} {w w' : World} {B X : Nat} {M : Nat → List Int} {S S' T : Nat → Value} (h : Qu base w X M T) (ht : Turned w w' B S S') (ha : Apart B S X T) : Qu base w' X M T := by
  have hX : w'.heap[X]? = w.heap[X]? := ht.block X h.lt (fun e => ha.ne e.symm) ha.sx
  have hT : ∀ n g, n < 8 → (T n).ownBlock = some g → w'.heap[g]? = w.heap[g]? := fun n g hn hg => ht.block g ((h.own n hn).lt hg).2 (fun e => ha.tb n hn (by rw [← e]; exact hg)) (fun m hm e => ha.st m n g hm hn e hg)
  exact ⟨Nat.lt_of_lt_of_le h.lt ht.size, h.le, fun n hn => (World.cell?_of_block (w := w) (w' := w') (a := ⟨X, n, none⟩) hX).trans (h.cells n hn), fun n => (World.frozen?_of_block (w := w) (w' := w') (a := ⟨X, n, none⟩) hX).trans (h.free n), fun n hn => (h.own n hn).of_block (fun g hg => hT n g hn hg), h.apart, h.other, h.few, h.good⟩

theorem Apart.turn {base : Nat} {w w' : World} {B X : Nat} {M : Nat → List Int} {S S' T : Nat → Value} (ha : Apart B S X T) (ht : Turned w w' B S S') (h : Qu base w X M T) : Apart B S' X T := by
  refine ⟨ha.ne, fun n hn e => ?_, ha.tb, fun n m g hn hm h1 h2 => ?_⟩
  · rcases ht.came n X hn e with ⟨k, hk, e2⟩ | e2
    · exact ha.sx k hk e2
    · have := h.lt; omega
  · rcases ht.came n g hn h1 with ⟨k, hk, e2⟩ | e2
    · exact ha.st k m g hk hm e2 h2
    · have := ((h.own m hm).lt h2).2; omega

def Two (w0 W : World) (B X : Nat) (L M : Nat → List Int) : Prop :=
  ∃ S T, Qu w0.heap.size W B L S ∧ Qu w0.heap.size W X M T ∧ Apart B S X T ∧ Below w0.heap.size w0 W

theorem Two.below {w0 W : World} {B X : Nat} {L M : Nat → List Int} (h : Two w0 W B X L M) : Below w0.heap.size w0 W := by obtain ⟨_, _, _, _, _, h⟩ := h; exact h
theorem Two.swap {w0 W : World} {B X : Nat} {L M : Nat → List Int} (h : Two w0 W B X L M) : Two w0 W X B M L := by
  obtain ⟨S, T, h1, h2, h3, h4⟩ := h; exact ⟨T, S, h2, h1, h3.symm, h4⟩
theorem Two.grow {w0 W w' : World} {B X : Nat} {L M : Nat → List Int} (h : Two w0 W B X L M) (hb : Below W.heap.size W w') : Two w0 w' B X L M := by
  obtain ⟨S, T, h1, h2, h3, h4⟩ := h
  exact ⟨S, T, h1.below (n := 0) hb, h2.below (n := 0) hb, h3, h4.trans (hb.mono h4.size)⟩

/-- The first of two turned. -/
theorem two_step {w0 W w' : World} {B X : Nat} {L' M : Nat → List Int} {S T : Nat → Value} (h2 : Qu w0.heap.size W X M T) (h3 : Apart B S X T) (h4 : Below w0.heap.size w0 W)
    (h : (∃ S', Qu w0.heap.size w' B L' S' ∧ Turned W w' B S S') ∧ Below w0.heap.size W w') : Two w0 w' B X L' M := by
  obtain ⟨⟨S', hq, ht⟩, hb⟩ := h
  exact ⟨S', T, hq, h2.keep (base' := 0) ht h3, h3.turn ht h2, h4.trans hb⟩

/-- What a call does to a nexus' list, and nothing where there is none. -/
def onI (L : Nat → List Int) (n : Int) (f : List Int → List Int) : Nat → List Int := if 0 ≤ n ∧ n < 8 then upd L n.toNat (f (L n.toNat)) else L
def getI (L : Nat → List Int) (n : Int) : List Int := if 0 ≤ n ∧ n < 8 then L n.toNat else []
def pkI (zs : List Int) : Value := if 0 < zs.length then .tuple #[.int .u16 (bestC zs), .bool true] else .tuple #[.int .u16 0, .bool false]
def nextL (zs : List Int) : List Int := zs.eraseIdx (bestAt zs)

theorem onI_in (L : Nat → List Int) (n : Nat) (f : List Int → List Int) (h : n < 8) : onI L n f = upd L n (f (L n)) := by unfold onI; rw [if_pos (by omega)]; simp
theorem onI_out (L : Nat → List Int) (n : Int) (f : List Int → List Int) (h : ¬ (0 ≤ n ∧ n < 8)) : onI L n f = L := by unfold onI; rw [if_neg h]
theorem getI_in (L : Nat → List Int) (n : Nat) (h : n < 8) : getI L n = L n := by unfold getI; rw [if_pos (by omega)]; simp
theorem getI_out (L : Nat → List Int) (n : Int) (h : ¬ (0 ≤ n ∧ n < 8)) : getI L n = [] := by unfold getI; rw [if_neg h]
theorem int_cases (n : Int) : (∃ k : Nat, k < 8 ∧ n = (k : Int)) ∨ ¬ (0 ≤ n ∧ n < 8) := by
  by_cases h : 0 ≤ n ∧ n < 8
  · exact .inl ⟨n.toNat, by omega, by omega⟩
  · exact .inr h

theorem radd_void (p : Value) (n c : Int) (w : World) (h : ¬ (0 ≤ n ∧ n < 8)) : Calls Try.prog 10 #[p, .int .i64 n, .int .u16 c] w fun e w' => e = .returned (.tuple #[]) ∧ w' = w := by
  by_cases h0 : n < 0
  · clear h
    go_enter Try.func10, Try.ntmps10
    go_wp2
    exact bodyPost_ret (results_none rfl _ _ _) rfl ⟨rfl, rfl⟩
  · have h7 : 7 < n := by omega
    clear h
    go_enter Try.func10, Try.ntmps10
    go_wp2
    exact bodyPost_ret (results_none rfl _ _ _) rfl ⟨rfl, rfl⟩

section
variable {w0 W : World} {B X : Nat} {L M : Nat → List Int}

theorem tw_add (n c : Int) (h : Two w0 W B X L M) (hc : 0 ≤ c ∧ c ≤ 65535) :
    Calls Try.prog 9 #[.pointer (some ⟨B, 0, none⟩), .int .i64 n, .int .u16 c] W fun e w' => e = .returned (.tuple #[]) ∧ Two w0 w' B X (onI L n (addL · c)) M := by
  rcases int_cases n with ⟨k, hk, rfl⟩ | hn
  · rw [onI_in _ _ _ hk]
    obtain ⟨S, T, h1, h2, h3, h4⟩ := h
    exact (add_any _ B k L S c W h1 hk hc).mono (fun e w' ⟨e1, e2⟩ => ⟨e1, two_step h2 h3 h4 e2⟩)
  · rw [onI_out _ _ _ hn]
    exact (add_void _ n c W (void_out B n hn)).mono (fun e w' ⟨e1, e2⟩ => ⟨e1, by rw [e2]; exact h⟩)
theorem tw_radd (n c : Int) (h : Two w0 W B X L M) (hc : 0 ≤ c ∧ c ≤ 65535) :
    Calls Try.prog 10 #[.pointer (some ⟨X, 0, none⟩), .int .i64 n, .int .u16 c] W fun e w' => e = .returned (.tuple #[]) ∧ Two w0 w' B X L (onI M n (addL · c)) := by
  rcases int_cases n with ⟨k, hk, rfl⟩ | hn
  · rw [onI_in _ _ _ hk]
    obtain ⟨S, T, h1, h2, h3, h4⟩ := h
    exact (radd_any _ X k M T c W h2 hk hc).mono (fun e w' ⟨e1, e2⟩ => ⟨e1, (two_step h1 h3.symm h4 e2).swap⟩)
  · rw [onI_out _ _ _ hn]
    exact (radd_void _ n c W hn).mono (fun e w' ⟨e1, e2⟩ => ⟨e1, by rw [e2]; exact h⟩)
theorem tw_all (n c : Int) (h : Two w0 W B X L M) (hc : 0 ≤ c ∧ c ≤ 65535) (hn : -9223372036854775808 ≤ n ∧ n ≤ 9223372036854775807) :
    Calls Try.prog 11 #[.pointer (some ⟨B, 0, none⟩), .int .i64 n, .int .u16 c] W fun e w' => e = .returned (.tuple #[]) ∧ Two w0 w' B X (allL L n c 8) M := by
  obtain ⟨S, T, h1, h2, h3, h4⟩ := h
  exact (addAll_any _ B n L S c W h1 hc hn).mono (fun e w' ⟨e1, e2⟩ => ⟨e1, two_step h2 h3 h4 e2⟩)
theorem tw_clear (n : Int) (h : Two w0 W B X L M) :
    Calls Try.prog 16 #[.pointer (some ⟨B, 0, none⟩), .int .i64 n] W fun e w' => e = .returned (.tuple #[]) ∧ Two w0 w' B X (onI L n (fun _ => [])) M := by
  rcases int_cases n with ⟨k, hk, rfl⟩ | hn
  · rw [onI_in _ _ _ hk]
    obtain ⟨S, T, h1, h2, h3, h4⟩ := h
    exact (clear_any _ B k L S W h1 hk).mono (fun e w' ⟨e1, e2⟩ => ⟨e1, two_step h2 h3 h4 e2⟩)
  · rw [onI_out _ _ _ hn]
    exact (clear_void _ n W (void_out B n hn)).mono (fun e w' ⟨e1, e2⟩ => ⟨e1, by rw [e2]; exact h⟩)
theorem pkI_some {zs : List Int} (h : 0 < zs.length) : pkI zs = .tuple #[.int .u16 (bestC zs), .bool true] := by unfold pkI; rw [if_pos h]
theorem pkI_none : pkI [] = .tuple #[.int .u16 0, .bool false] := rfl
theorem nextL_nil : nextL [] = [] := rfl
theorem tw_peek (n : Int) (h : Two w0 W B X L M) :
    Calls Try.prog 12 #[.pointer (some ⟨B, 0, none⟩), .int .i64 n] W fun e w' => e = .returned (pkI (getI L n)) ∧ Two w0 w' B X L M := by
  rcases int_cases n with ⟨k, hk, rfl⟩ | hn
  · rw [getI_in _ _ hk]
    have hT := h
    obtain ⟨S, T, h1, h2, h3, h4⟩ := h
    by_cases h0 : 0 < (L k).length
    · rw [pkI_some h0]
      exact (peek_some _ B k L S W h1 hk h0).mono (fun e w' ⟨e1, j, e2⟩ => ⟨e1, by rw [e2]; exact hT.grow (below_drewN (Below.refl _ _) j)⟩)
    · have e0 : L k = [] := List.eq_nil_of_length_eq_zero (by omega)
      rw [e0, pkI_none]
      exact (peek_none _ B k L S W h1 hk e0).mono (fun e w' ⟨e1, e2⟩ => ⟨e1, by rw [e2]; exact hT⟩)
  · rw [getI_out _ _ hn, pkI_none]
    exact (peek_void _ n W (void_out B n hn)).mono (fun e w' ⟨e1, e2⟩ => ⟨e1, by rw [e2]; exact h⟩)
theorem tw_next (n : Int) (h : Two w0 W B X L M) :
    Calls Try.prog 14 #[.pointer (some ⟨B, 0, none⟩), .int .i64 n] W fun e w' => e = .returned (pkI (getI L n)) ∧ Two w0 w' B X (onI L n nextL) M := by
  rcases int_cases n with ⟨k, hk, rfl⟩ | hn
  · rw [getI_in _ _ hk, onI_in _ _ _ hk]
    have hT := h
    obtain ⟨S, T, h1, h2, h3, h4⟩ := h
    by_cases h0 : 0 < (L k).length
    · rw [pkI_some h0]
      exact (next_some _ B k L S W h1 hk h0).mono (fun e w' ⟨e1, e2⟩ => ⟨e1, two_step h2 h3 h4 e2⟩)
    · have e0 : L k = [] := List.eq_nil_of_length_eq_zero (by omega)
      have e3 : upd L k (nextL (L k)) = L := by rw [e0, nextL_nil, ← e0, upd_same]
      rw [e3]
      rw [e0, pkI_none]
      exact (next_none _ B k L S W h1 hk e0).mono (fun e w' ⟨e1, e2⟩ => ⟨e1, by rw [e2]; exact hT⟩)
  · rw [getI_out _ _ hn, onI_out _ _ _ hn, pkI_none]
    exact (next_void _ n W (void_out B n hn)).mono (fun e w' ⟨e1, e2⟩ => ⟨e1, by rw [e2]; exact h⟩)
theorem tw_rpeek (n : Int) (h : Two w0 W B X L M) :
    Calls Try.prog 13 #[.pointer (some ⟨X, 0, none⟩), .int .i64 n, .bool false] W fun e w' => e = .returned (pkI (getI M n)) ∧ Two w0 w' B X L M := by
  rcases int_cases n with ⟨k, hk, rfl⟩ | hn
  · rw [getI_in _ _ hk]
    have hT := h
    obtain ⟨S, T, h1, h2, h3, h4⟩ := h
    by_cases h0 : 0 < (M k).length
    · rw [pkI_some h0]
      refine (rnext_some _ X k M T false W h2 hk h0).mono (fun e w' ⟨e1, e2⟩ => ⟨e1, ?_⟩)
      have e3 : w' = W := by simpa [NextPost] using e2
      rw [e3]; exact hT
    · have e0 : M k = [] := List.eq_nil_of_length_eq_zero (by omega)
      rw [e0, pkI_none]
      exact (rnext_none _ X k M T false W h2 hk e0).mono (fun e w' ⟨e1, e2⟩ => ⟨e1, by rw [e2]; exact hT⟩)
  · rw [getI_out _ _ hn, pkI_none]
    exact (rnext_void _ n false W hn).mono (fun e w' ⟨e1, e2⟩ => ⟨e1, by rw [e2]; exact h⟩)
theorem tw_rnext (n : Int) (h : Two w0 W B X L M) :
    Calls Try.prog 13 #[.pointer (some ⟨X, 0, none⟩), .int .i64 n, .bool true] W fun e w' => e = .returned (pkI (getI M n)) ∧ Two w0 w' B X L (onI M n nextL) := by
  rcases int_cases n with ⟨k, hk, rfl⟩ | hn
  · rw [getI_in _ _ hk, onI_in _ _ _ hk]
    have hT := h
    obtain ⟨S, T, h1, h2, h3, h4⟩ := h
    by_cases h0 : 0 < (M k).length
    · rw [pkI_some h0]
      refine (rnext_some _ X k M T true W h2 hk h0).mono (fun e w' ⟨e1, e2⟩ => ⟨e1, ?_⟩)
      unfold NextPost at e2
      rw [if_pos rfl] at e2
      exact (two_step h1 h3.symm h4 e2).swap
    · have e0 : M k = [] := List.eq_nil_of_length_eq_zero (by omega)
      have e3 : upd M k (nextL (M k)) = M := by rw [e0, nextL_nil, ← e0, upd_same]
      rw [e3]
      rw [e0, pkI_none]
      exact (rnext_none _ X k M T true W h2 hk e0).mono (fun e w' ⟨e1, e2⟩ => ⟨e1, by rw [e2]; exact hT⟩)
  · rw [getI_out _ _ hn, onI_out _ _ _ hn, pkI_none]
    exact (rnext_void _ n true W hn).mono (fun e w' ⟨e1, e2⟩ => ⟨e1, by rw [e2]; exact h⟩)
/-- List: a row of one's own. -/
theorem tw_list (n : Int) (h : Two w0 W B X L M) :
    Calls Try.prog 15 #[.pointer (some ⟨B, 0, none⟩), .int .i64 n] W fun e w' => ∃ v, e = .returned v ∧ Own W.heap.size w' v (getI L n) ∧ Below W.heap.size W w' := by
  rcases int_cases n with ⟨k, hk, rfl⟩ | hn
  · rw [getI_in _ _ hk]
    obtain ⟨S, T, h1, h2, h3, h4⟩ := h
    exact list_any _ B k L S W h1 hk
  · rw [getI_out _ _ hn]
    exact list_void _ n W (void_out B n hn)
/-- The document's own list of a nexus. -/
theorem two_row (k : Nat) (hk : k < 8) (h : Two w0 W B X L M) : ∃ a c, W.cell? ⟨X, k, none⟩ = some (.slice a (M k).length c) ∧ W.frozen? ⟨X, k, none⟩ = false ∧ X < W.heap.size ∧ (M k).length ≤ 8 ∧
    (0 < (M k).length → ∃ g, a = some ⟨g, 0, none⟩ ∧ g < W.heap.size ∧ ∀ j, j < (M k).length → W.cell? ⟨g, j, none⟩ = some (.int .u16 ((M k).getD j 0))) := by
  obtain ⟨S, T, h1, h2, h3, h4⟩ := h
  obtain ⟨a, c, hv, hs⟩ := (h2.own k hk).shape
  refine ⟨a, c, by rw [← hv]; exact h2.cells k hk, h2.free k, h2.lt, h2.few k hk, fun h0 => ?_⟩
  obtain ⟨g, ha, _, hg, hc⟩ := hs h0
  exact ⟨g, ha, hg, fun j hj => (hc j hj).1⟩
/-- The document's list of a nexus is made none. -/
theorem two_none (k : Nat) (hk : k < 8) (h : Two w0 W B X L M) : Two w0 (W.setCell ⟨X, k, none⟩ (.slice none 0 0)) B X L (upd M k []) := by
  obtain ⟨S, T, h1, h2, h3, h4⟩ := h
  have hg : W.grownBy W (T k).ownBlock := ⟨rfl, rfl, rfl, Nat.le_refl _, fun _ _ _ => rfl⟩
  exact (two_step h1 h3.symm h4 ⟨⟨_, h2.turn (v := .slice none 0 0) (zs := []) hk hg (World.ownsRow_nil W _ 31 1) (.inr (.inl rfl)) (by simp) (by simp), turned_turn h2 hk hg (.inr (.inl rfl))⟩, below_turn h2 hk hg⟩).swap
end

abbrev newX (w : World) : World := w.alloc (.cells #[.slice none 0 0, .slice none 0 0, .slice none 0 0, .slice none 0 0, .slice none 0 0, .slice none 0 0, .slice none 0 0, .slice none 0 0] 30)
theorem qx_new (w : World) : Qu w.heap.size (newX w) w.heap.size (fun _ => []) (fun _ => .slice none 0 0) := by
  refine ⟨by simp, Nat.le_refl _, fun n hn => ?_, fun n => by simp, fun n hn => World.ownsRow_nil _ _ _ _, fun n k g _ _ h => by simp [Value.ownBlock] at h, fun n g _ h => by simp [Value.ownBlock] at h, fun n _ => by simp, fun n _ c hc => by simp at hc⟩
  have : n = 0 ∨ n = 1 ∨ n = 2 ∨ n = 3 ∨ n = 4 ∨ n = 5 ∨ n = 6 ∨ n = 7 := by omega
  rcases this with rfl | rfl | rfl | rfl | rfl | rfl | rfl | rfl <;> simp
theorem two_new (w0 W : World) (h : Below w0.heap.size w0 W) : Two w0 (newX (newW W)) W.heap.size (newW W).heap.size (fun _ => []) (fun _ => []) := by
  have hb : Below (newW W).heap.size (newW W) (newX (newW W)) := (Below.refl _ _).alloc (Nat.le_refl _) _
  refine ⟨_, _, ((qu_new W).below (n := 0) hb).lower h.size, (qx_new (newW W)).lower (by have := h.size; simp; omega), ⟨by simp, fun n _ e => by simp [Value.ownBlock] at e, fun n _ e => by simp [Value.ownBlock] at e, fun n m g _ _ e => by simp [Value.ownBlock] at e⟩, (h.alloc h.size _).alloc (by have := h.size; simp; omega) _⟩
end Go.Proofs.Ytodppeldliliaaa
