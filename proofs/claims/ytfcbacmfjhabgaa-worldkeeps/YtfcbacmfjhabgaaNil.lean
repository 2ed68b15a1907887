/-
  A nil world; memory of the caller's own beside a world.
-/
import Derived.Test.YtfcbacmfjhabgaaLose
namespace Go.Proofs.Ytfcbacmfjhabgaa
open Go.RowKit Go.Maps
set_option linter.unusedVariables false
set_option linter.unusedSimpArgs false

theorem call_nil (w : World) : Calls Try.prog 23 #[.pointer none] w fun e w' => e = .returned (.int .i64 8) ∧ w' = w := by
  go_enter Try.func23, Try.ntmps23
  go_wp2
  go_ret
  exact ⟨rfl, rfl⟩

theorem read_nil (w : World) (s : ByteArray) (h1 : 1 ≤ s.size) (h2 : s.size ≤ 32) : Calls Try.prog 14 #[.pointer none, .string s, .int .i64 0, .int .i64 1] w fun e w' => e = .returned (.tuple #[.slice none 0 0, .int .i64 8]) ∧ w' = w := by
  go_enter Try.func14, Try.ntmps14
  go_wp2_with (first | (go_at_call 22; refine (named_ok s _ h1 h2).mono ?_; rintro e w' ⟨rfl, hw'⟩; rw [hw']) | (go_at_call 23; refine (call_nil _).mono ?_; rintro e w' ⟨rfl, hw'⟩; rw [hw']))
  go_ret2
  exact ⟨rfl, rfl⟩

theorem write_nil (w : World) (s : ByteArray) (h1 : 1 ≤ s.size) (h2 : s.size ≤ 32) (a : Option Addr) (n c : Nat) (hn : n ≤ 1048576) : Calls Try.prog 10 #[.pointer none, .string s, .int .i64 0, .slice a n c] w fun e w' => e = .returned (.int .i64 8) ∧ w' = w := by
  have H : ¬ ((1048576 : Int) - (n : Int) < 0) := by omega
  go_enter Try.func10, Try.ntmps10
  go_wp2_with (first | (go_at_call 22; refine (named_ok s _ h1 h2).mono ?_; rintro e w' ⟨rfl, hw'⟩; rw [hw']) | (go_at_call 23; refine (call_nil _).mono ?_; rintro e w' ⟨rfl, hw'⟩; rw [hw']))
  go_ret
  exact ⟨rfl, rfl⟩

theorem sync_nil (w : World) : Calls Try.prog 11 #[.pointer none] w fun e w' => e = .returned (.int .i64 8) ∧ w' = w := by
  go_enter Try.func11, Try.ntmps11
  go_wp2_with (go_at_call 23; refine (call_nil _).mono ?_; rintro e w' ⟨rfl, hw'⟩; rw [hw'])
  go_ret
  exact ⟨rfl, rfl⟩

theorem alter_nil (w : World) (k fi na of dv : Value) : Calls Try.prog 29 #[.pointer none, .agg #[k, fi, na, of, dv]] w fun e w' => e = .returned (.int .i64 8) ∧ w.grownBy w' none := by
  go_enter Try.func29, Try.ntmps29
  go_wp2_with (go_at_call 23; refine (call_nil _).mono ?_; rintro e w' ⟨rfl, hw'⟩; rw [hw'])
  go_ret
  refine ⟨rfl, ?_⟩
  first | exact World.grownBy_alloc _ _ _ | exact ⟨rfl, rfl, rfl, Nat.le_refl _, fun _ _ _ => rfl⟩

theorem rename_nil (w : World) (s t : ByteArray) (h1 : 1 ≤ s.size) (h2 : s.size ≤ 32) (h3 : 1 ≤ t.size) (h4 : t.size ≤ 32) : Calls Try.prog 16 #[.pointer none, .string s, .string t] w fun e w' => e = .returned (.int .i64 8) ∧ w.grownBy w' none := by
  go_enter Try.func16, Try.ntmps16
  go_wp2_with (first | (go_at_call_of 22 (Value.string s); refine (named_ok s _ h1 h2).mono ?_; rintro e w' ⟨rfl, hw'⟩; rw [hw']) | (go_at_call 22; refine (named_ok t _ h3 h4).mono ?_; rintro e w' ⟨rfl, hw'⟩; rw [hw']) | (go_at_call 29; refine (alter_nil _ _ _ _ _ _).mono ?_; rintro e w1 ⟨rfl, hg⟩))
  go_ret
  exact ⟨rfl, hg⟩

theorem remove_nil (w : World) (s : ByteArray) (h1 : 1 ≤ s.size) (h2 : s.size ≤ 32) : Calls Try.prog 17 #[.pointer none, .string s] w fun e w' => e = .returned (.int .i64 8) ∧ w.grownBy w' none := by
  go_enter Try.func17, Try.ntmps17
  go_wp2_with (first | (go_at_call 22; refine (named_ok s _ h1 h2).mono ?_; rintro e w' ⟨rfl, hw'⟩; rw [hw']) | (go_at_call 29; refine (alter_nil _ _ _ _ _ _).mono ?_; rintro e w1 ⟨rfl, hg⟩))
  go_ret
  exact ⟨rfl, hg⟩

theorem names_nil (w : World) : Calls Try.prog 18 #[.pointer none] w fun e w' => e = .returned (.slice none 0 0) ∧ w' = w := by
  go_enter Try.func18, Try.ntmps18
  go_wp2
  go_ret
  exact ⟨rfl, rfl⟩

theorem size_nil (w : World) (s : ByteArray) : Calls Try.prog 15 #[.pointer none, .string s] w fun e w' => e = .returned (.int .i64 (-1)) ∧ w' = w := by
  go_enter Try.func15, Try.ntmps15
  go_wp2
  go_ret
  exact ⟨rfl, rfl⟩

theorem ops_nil (w : World) : Calls Try.prog 19 #[.pointer none] w fun e w' => e = .returned (.int .i64 0) ∧ w' = w := by
  go_enter Try.func19, Try.ntmps19
  go_wp2
  go_ret
  exact ⟨rfl, rfl⟩

theorem waits_nil (w : World) : Calls Try.prog 12 #[.pointer none] w fun e w' => e = .returned (.int .i64 0) ∧ w' = w := by
  go_enter Try.func12, Try.ntmps12
  go_wp2
  go_ret
  exact ⟨rfl, rfl⟩

theorem off_nil (w : World) : Calls Try.prog 20 #[.pointer none] w fun e w' => e = .returned (.bool false) ∧ w' = w := by
  go_enter Try.func20, Try.ntmps20
  go_wp2
  go_ret
  exact ⟨rfl, rfl⟩

/-! ### memory beside a world -/
theorem Chg.ok.frame {w w' : World} {tag : Tags} {c : Chg} {dv : Value} (h : c.ok w tag dv) (hb : ∀ i, tag i ≠ none → w'.heap[i]? = w.heap[i]?) : c.ok w' tag dv := by
  obtain ⟨two, three, s, t, off, ds⟩ := c
  cases two with
  | false => obtain ⟨h1, h2, hr, ht⟩ := h; exact ⟨h1, h2, hr.of_block (fun g hg => hb g (by rw [ht g hg]; simp)), ht⟩
  | true => cases three <;> exact h

theorem Wd.frame {w w' : World} {B : Nat} {tag : Tags} {st : St} (h : Wd w B tag st) (hs : w.heap.size ≤ w'.heap.size) (hb : ∀ i, tag i ≠ none → w'.heap[i]? = w.heap[i]?) : Wd w' B tag st := by
  obtain ⟨M1, M2, wv, fv, f1, f2, l, n2, h⟩ := h
  refine ⟨M1, M2, wv, fv, f1, f2, l, n2, ?_⟩
  have hb' : ∀ i t, i < w.heap.size → tag i = some t → w'.heap[i]? = w.heap[i]? := fun i t _ ht => hb i (by rw [ht]; simp)
  exact {
    cell := (hb B (by rw [h.tB]; simp)).trans h.cell
    tB := h.tB
    t1 := h.t1
    t2 := h.t2
    map1 := h.map1.of_block (hb M1 (by rw [h.t1]; simp))
    map2 := h.map2.of_block (hb M2 (by rw [h.t2]; simp))
    seen := h.seen.of_blocks hb'
    dur := h.dur.of_blocks hb'
    waits := by
      obtain ⟨h1, h2, h3⟩ := h.waits
      refine ⟨fun p hp => (h1 p hp).frame hb, ⟨h2.1, ?_⟩, h3⟩
      rcases h2.2 with hn | ⟨g, cap, cur, rfl, h0, hgg, rest⟩
      · exact .inl hn
      · exact .inr ⟨g, cap, cur, rfl, h0, (hb g (by rw [h3 g rfl]; simp)).trans hgg, rest⟩
    l_eq := h.l_eq
    fails := by
      have hf := h.fails
      cases fv with
      | none => exact hf
      | some b =>
        obtain ⟨ht, n, D, ⟨es, clock, h1, h2⟩, hp⟩ := hf
        exact ⟨ht, n, D, ⟨es, clock, (hb b (by rw [ht]; simp)).trans h1, h2⟩, hp⟩
    lt := fun i hi => Nat.lt_of_lt_of_le (h.lt i hi) hs
    opsLo := h.opsLo
    opsHi := h.opsHi
    cnt2 := h.cnt2 }

/-- A byte of an owned row is written. -/
theorem Row.put {w : World} {g n c : Nat} {zs : List Int} (h : Row w (.slice (some ⟨g, 0, none⟩) n c) zs) (hn : n = zs.length) (i : Nat) (y : Int) : Row (w.setCell ⟨g, i, none⟩ (.int .u8 y)) (.slice (some ⟨g, 0, none⟩) n c) (zs.set i y) := by
  subst hn
  have := (World.ownsRow.stored h i (.int .u8 y)).1
  unfold Row
  rw [List.length_set]
  simpa [cels, List.map_set] using this
end Go.Proofs.Ytfcbacmfjhabgaa
