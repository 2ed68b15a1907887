/-
  The contracts of place, Within, has, settle, Open, Sync of a store.
-/
import Derived.Test.YtklboieemljmiabKUnpF
namespace Go.Proofs.Ytklboieemljmiab
open Go.RowKit
set_option linter.unusedVariables false
set_option linter.unusedSimpArgs false

theorem retb {a b : Bool} (h : a = b) : Ending.returned (.bool a) = .returned (.bool b) := by rw [h]
theorem place_any (k : Nat) (w : World) (h : k ≤ 1000000) : Calls Try.prog 39 #[.int .i64 k] w fun e w' => e = .returned (.int .i64 ((k * 25 : Nat) : Int)) ∧ w' = w := by
  go_enter Try.func39, Try.ntmps39
  go_wp2
  go_ret
  exact ⟨by simp, rfl⟩

theorem within_any (a b c : Int) (w : World) (ha : 0 ≤ a ∧ a < 9223372036854775808) (hb : 0 ≤ b ∧ b < 9223372036854775808) (hc : 0 ≤ c ∧ c < 9223372036854775808) :
    Calls Try.prog 36 #[.int .u64 a, .int .u64 b, .int .u64 c] w fun e w' => e = .returned (.bool (decide (a + b ≤ c))) ∧ w' = w := by
  by_cases h : b ≤ c
  · go_enter Try.func36, Try.ntmps36
    go_wp2
    go_ret
    first
      | exact ⟨retb (decide_eq_decide.2 (by omega)), rfl⟩
      | exact ⟨retb (by rw [show IntKind.u64.wrap (c - b) = c - b from by rw [IntKind.wrap_u64]; omega]; exact decide_eq_decide.2 (by omega)), rfl⟩
  · go_enter Try.func36, Try.ntmps36
    go_wp2
    go_ret
    exact ⟨retb (by first | exact (decide_eq_false (by omega)).symm | simp; omega), rfl⟩

/-- A store. -/
structure Sto (w : World) (tag : Tags) (S B : Nat) (f : ByteArray) (N : Nat) (ca : Bool) : Prop where
  lt : S < w.heap.size
  bare : tag S = none
  c0 : w.cell? ⟨S, 0, none⟩ = some (.pointer (some ⟨B, 0, none⟩))
  c1 : w.cell? ⟨S, 1, none⟩ = some (.string f)
  c2 : w.cell? ⟨S, 2, none⟩ = some (.int .i64 (N : Int))
  c3 : w.cell? ⟨S, 3, none⟩ = some (.bool ca)
  free : ∀ j, w.frozen? ⟨S, j, none⟩ = false
theorem Sto.of_block {w w' : World} {tag tag' : Tags} {S B N : Nat} {f : ByteArray} {ca : Bool} (h : Sto w tag S B f N ca) (hlt : S < w'.heap.size) (ht : tag' S = none) (hb : w'.heap[S]? = w.heap[S]?) : Sto w' tag' S B f N ca :=
  ⟨hlt, ht, (World.cell?_of_block (w := w) (a := ⟨S, 0, none⟩) hb).trans h.c0, (World.cell?_of_block (w := w) (a := ⟨S, 1, none⟩) hb).trans h.c1, (World.cell?_of_block (w := w) (a := ⟨S, 2, none⟩) hb).trans h.c2, (World.cell?_of_block (w := w) (a := ⟨S, 3, none⟩) hb).trans h.c3, fun j => (World.frozen?_of_block (w := w) (a := ⟨S, j, none⟩) hb).trans (h.free j)⟩
theorem Sto.step {w w' : World} {tag tag' : Tags} {S B N : Nat} {f : ByteArray} {ca : Bool} {X : Tag → Prop} (h : Sto w tag S B f N ca) (s : Step w w' tag tag' X) : Sto w' tag' S B f N ca :=
  h.of_block (Nat.lt_of_lt_of_le h.lt s.size) (s.bare S h.lt h.bare) (s.block S h.lt (fun t _ e => by rw [h.bare] at e; cases e))
theorem Sto.below {w w' : World} {tag : Tags} {S B N : Nat} {f : ByteArray} {ca : Bool} (h : Sto w tag S B f N ca) (s : Below w.heap.size w w') : Sto w' tag S B f N ca :=
  h.of_block (Nat.lt_of_lt_of_le h.lt s.size) h.bare (s.block S h.lt)
/-- New memory alone is a step. -/
theorem step_below {w w' : World} (h : Below w.heap.size w w') (tag : Tags) (X : Tag → Prop) : Step w w' tag tag X :=
  Step.grown ⟨h.os, h.tape, h.output, h.size, fun i hi _ => h.block i hi⟩ tag X

set_option maxHeartbeats 1000000 in
theorem has_any (w : World) (tag : Tags) (S B N : Nat) (f : ByteArray) (ca : Bool) (lba n : Int) (h : Sto w tag S B f N ca) (hN : N ≤ 4096) (hl : -9223372036854775808 ≤ lba ∧ lba < 9223372036854775808) (hn : -9223372036854775808 ≤ n ∧ n < 9223372036854775808) :
    Calls Try.prog 37 #[.pointer (some ⟨S, 0, none⟩), .int .i64 lba, .int .i64 n] w fun e w' => e = .returned (.bool (decide (0 ≤ lba ∧ 0 ≤ n ∧ lba + n ≤ N))) ∧ w' = w := by
  have c2 := h.c2
  have hlt := h.lt
  clear h
  by_cases h1 : 0 ≤ lba
  · by_cases h2 : 0 ≤ n
    · have HW := Kpt.mk (within_any lba n N w ⟨h1, hl.2⟩ ⟨h2, hn.2⟩ (by omega))
      have e1 : IntKind.u64.wrap lba = lba := by rw [IntKind.wrap_u64]; omega
      have e2 : IntKind.u64.wrap n = n := by rw [IntKind.wrap_u64]; omega
      have e3 : IntKind.u64.wrap (N : Int) = N := by rw [IntKind.wrap_u64]; omega
      go_enter Try.func37, Try.ntmps37
      go_wp2_with (go_at_call 36; refine HW.out.mono ?_; rintro e w' ⟨rfl, rfl⟩)
      go_ret
      exact ⟨retb (decide_eq_decide.2 (by omega)), rfl⟩
    · go_enter Try.func37, Try.ntmps37
      go_wp2
      go_ret
      exact ⟨retb (by first | exact (decide_eq_false (by omega)).symm | simp; omega), rfl⟩
  · go_enter Try.func37, Try.ntmps37
    go_wp2
    go_ret
    exact ⟨retb (by first | exact (decide_eq_false (by omega)).symm | simp; omega), rfl⟩

/-- What is made durable behind a write of n blocks. -/
def settled (ca fua : Bool) (n : Nat) : Bool := decide (n = 0) || ca && !fua
def syncSt (st : St) : St := { st with dur := runs st.waits st.dur, waits := [], ops := st.ops + 1, cnt := st.cnt + 1 + st.waits.length }

set_option maxHeartbeats 1000000 in
theorem settle_any (w : World) (B : Nat) (tag : Tags) (st : St) (S N n : Nat) (f : ByteArray) (ca fua : Bool) (h : Wd w B tag st) (hs : Sto w tag S B f N ca) (hc : st.cnt + st.waits.length < 549755813888) (hf : st.fails st.ops = false) (hw : Wrs st.waits) (hn : n ≤ 4096) :
    Calls Try.prog 75 #[.pointer (some ⟨S, 0, none⟩), .int .i64 n, .bool fua] w fun e w' => e = .returned (.int .i64 0) ∧ ∃ tag', Wd w' B tag' (if settled ca fua n then st else syncSt st) ∧ Step w w' tag tag' (fun _ => True) := by
  have HS := Kpt.mk (sync_any w B tag st h hc hf hw)
  have hK := Kpt.mk h
  have c0 := hs.c0
  have c3 := hs.c3
  have hlt := hs.lt
  clear h hs hw hc hf
  by_cases h0 : n = 0
  · subst h0
    rw [show settled ca fua 0 = true from by simp [settled]]
    go_enter Try.func75, Try.ntmps75
    go_wp2
    go_ret
    exact ⟨rfl, tag, hK.out, Step.refl _ _ _⟩
  · have e0 : ¬ (n : Int) = 0 := by omega
    have e0' : ((n : Int) == 0) = false := by simp; exact h0
    by_cases hq : ca = true ∧ fua = false
    · obtain ⟨rfl, rfl⟩ := hq
      rw [show settled true false n = true from by simp [settled]]
      go_enter Try.func75, Try.ntmps75
      go_wp2
      go_ret
      exact ⟨rfl, tag, hK.out, Step.refl _ _ _⟩
    · have hset : settled ca fua n = false := by cases ca <;> cases fua <;> simp_all [settled]
      rw [hset]
      clear hset
      cases ca <;> cases fua
      · go_enter Try.func75, Try.ntmps75
        go_wp2_with (go_at_call 67; refine HS.out.mono ?_; rintro e w' ⟨rfl, hP⟩; replace hP := Kpt.mk hP)
        go_ret
        exact ⟨rfl, hP.out⟩
      · go_enter Try.func75, Try.ntmps75
        go_wp2_with (go_at_call 67; refine HS.out.mono ?_; rintro e w' ⟨rfl, hP⟩; replace hP := Kpt.mk hP)
        go_ret
        exact ⟨rfl, hP.out⟩
      · exact absurd ⟨rfl, rfl⟩ hq
      · go_enter Try.func75, Try.ntmps75
        go_wp2_with (go_at_call 67; refine HS.out.mono ?_; rintro e w' ⟨rfl, hP⟩; replace hP := Kpt.mk hP)
        go_ret
        exact ⟨rfl, hP.out⟩

theorem kopen_any (w : World) (B N : Nat) (f : ByteArray) (ca : Bool) (h1 : 1 ≤ f.size) (h2 : f.size ≤ 32) (h3 : 1 ≤ N) (h4 : N ≤ 4096) :
    Calls Try.prog 9 #[.pointer (some ⟨B, 0, none⟩), .string f, .int .i64 N, .bool ca] w fun e w' => e = .returned (.tuple #[.pointer (some ⟨w.heap.size, 0, none⟩), .int .i64 0]) ∧ w' = w.alloc (.cells #[.pointer (some ⟨B, 0, none⟩), .string f, .int .i64 N, .bool ca] 58) := by
  have i1 : ¬ (f.size : Int) < 1 := by omega
  have i2 : ¬ (32 : Int) < f.size := by omega
  have i3 : ¬ (N : Int) < 1 := by omega
  have i4 : ¬ (4096 : Int) < N := by omega
  go_enter Try.func9, Try.ntmps9
  go_wp2
  go_ret2
  exact ⟨rfl, rfl⟩
theorem sto_new (w : World) (tag : Tags) (B N : Nat) (f : ByteArray) (ca : Bool) (ht : tag w.heap.size = none) : Sto (w.alloc (.cells #[.pointer (some ⟨B, 0, none⟩), .string f, .int .i64 N, .bool ca] 58)) tag w.heap.size B f N ca :=
  ⟨by simp, ht, by simp, by simp, by simp, by simp, fun j => by simp⟩
theorem ksync_any (w : World) (B : Nat) (tag : Tags) (st : St) (S N : Nat) (f : ByteArray) (ca : Bool) (h : Wd w B tag st) (hs : Sto w tag S B f N ca) (hc : st.cnt + st.waits.length < 549755813888) (hf : st.fails st.ops = false) (hw : Wrs st.waits) :
    Calls Try.prog 47 #[.pointer (some ⟨S, 0, none⟩)] w fun e w' => e = .returned (.int .i64 0) ∧ ∃ tag', Wd w' B tag' (syncSt st) ∧ Step w w' tag tag' (fun _ => True) := by
  have HS := Kpt.mk (sync_any w B tag st h hc hf hw)
  have c0 := hs.c0
  have hlt := hs.lt
  clear h hs hw hc hf
  go_enter Try.func47, Try.ntmps47
  go_wp2_with (go_at_call 67; refine HS.out.mono ?_; rintro e w' ⟨rfl, hP⟩; replace hP := Kpt.mk hP)
  go_ret
  exact ⟨rfl, hP.out⟩
end Go.Proofs.Ytklboieemljmiab
