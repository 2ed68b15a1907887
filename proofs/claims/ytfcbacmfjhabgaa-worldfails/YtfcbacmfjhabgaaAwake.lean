/-
  Calls that go well, one behind the other; the contract of awake.
-/
import Derived.Test.YtfcbacmfjhabgaaSync
import Derived.Lib.SlBytesConst
namespace Go.Proofs.Ytfcbacmfjhabgaa
open Go.RowKit Go.Maps
set_option linter.unusedVariables false
set_option linter.unusedSimpArgs false

theorem conv_rd (w : World) (v : Value) (zs : List Int) (h : RdAt w v zs) : (convert 22 9 v).run Try.prog w = .ok (.string (strOfNums zs)) w := by
  obtain ⟨a, c, rfl, ha, hlc, h⟩ := h
  by_cases h0 : zs.length = 0
  · obtain rfl : zs = [] := List.eq_nil_of_length_eq_zero h0
    cases a with
    | none => exact run_convert_bytes_nil w 22 5 Try.underlying22 Try.underlying5 0 c 9 Try.underlying9
    | some x =>
      rw [show ([] : List Int).length = 0 from rfl, run_convert_bytes_string w 22 9 5 _ 0 c Try.underlying22 Try.underlying5 Try.underlying9, run_bytesToString w x 0 c [] ?_]
      · rfl
      · exact run_loadCells_list (P := Try.prog) w x [] (fun j v hj => by simp at hj)
  · rcases h with h | ⟨b, off, rfl, hc⟩
    · exact absurd h h0
    · refine run_convert_bytes_arg w 22 5 Try.underlying22 Try.underlying5 b off zs.length c zs rfl (fun j hj => ?_) 9 Try.underlying9
      refine hc j _ ?_
      rw [List.getD_eq_getElem?_getD, List.getElem?_eq_getElem hj]
      simp [cels, List.getElem?_eq_getElem hj]

/-- The state behind a Write, a Read, a Sync that went well. -/
def stW (st : St) (s : ByteArray) (off : Nat) (ds : List Int) : St := { st with seen := (Chg.wr s off ds).run st.seen, waits := st.waits ++ [.wr s off ds], ops := st.ops + 1, cnt := st.cnt + 2 }
def stR (st : St) : St := { st with ops := st.ops + 1, cnt := st.cnt + 1 }
def stS (st : St) : St := { st with dur := runs st.waits st.dur, waits := [], ops := st.ops + 1, cnt := st.cnt + 1 + st.waits.length }

/-- No call is to fail, and there is room. -/
structure Calm (st : St) (n : Nat) : Prop where
  fails : ∀ x, st.fails x = false
  cnt : st.cnt ≤ n

theorem Calm.w {st : St} {n : Nat} (h : Calm st n) (s : ByteArray) (off : Nat) (ds : List Int) : Calm (stW st s off ds) (n + 2) := ⟨h.fails, Nat.add_le_add_right h.cnt 2⟩
theorem Calm.r {st : St} {n : Nat} (h : Calm st n) : Calm (stR st) (n + 1) := ⟨h.fails, Nat.add_le_add_right h.cnt 1⟩
theorem Calm.s {st : St} {n : Nat} (h : Calm st n) : Calm (stS st) (n + 1 + st.waits.length) := ⟨h.fails, by have := h.cnt; show st.cnt + 1 + st.waits.length ≤ _; omega⟩
theorem calm0 : Calm st0 0 := ⟨fun _ => rfl, Nat.le_refl _⟩

theorem write_ok (w : World) (B : Nat) (tag : Tags) (st : St) (h : Wd w B tag st) (n : Nat) (hc : Calm st n) (hn : n < 549755813888) (s : ByteArray) (h1 : 1 ≤ s.size) (h2 : s.size ≤ 32) (off : Nat) (x : Int) (hx : x = (off : Int)) (dv : Value) (ds : List Int) (hrd : RdAt w dv ds)
    (hdt : ds ≠ [] → ∀ g, dv.ownBlock = some g → tag g = none) (ho : off + ds.length ≤ 1048576) :
    Calls Try.prog 10 #[.pointer (some ⟨B, 0, none⟩), .string s, .int .i64 x, dv] w fun e w' => e = .returned (.int .i64 0) ∧ ∃ tag', Wd w' B tag' (stW st s off ds) ∧ Step w w' tag tag' (fun _ => True) := by
  subst hx
  have := write_any w B tag st h (Nat.lt_of_le_of_lt hc.cnt hn) s h1 h2 off dv ds hrd hdt ho
  rw [hc.fails] at this
  exact this

theorem stW_seen (st : St) (s : ByteArray) (off : Nat) (ds : List Int) : (stW st s off ds).seen s = some (laidL ((st.seen s).getD []) off ds) := by simp [stW, Chg.run]
theorem stW_other (st : St) (s t : ByteArray) (off : Nat) (ds : List Int) (h : t ≠ s) : (stW st s off ds).seen t = st.seen t := by simp [stW, Chg.run, updF_other _ _ h]
theorem laidL_nil (ds : List Int) : laidL [] 0 ds = ds := by simp [laidL, over]

/-- Rows of the caller's own are there behind a call. -/
theorem RdAt.keep {w w' : World} {tag tag' : Tags} {v : Value} {zs : List Int} (h : RdAt w v zs) (s : Step w w' tag tag' (fun _ => True)) (ht : ∀ g, v.ownBlock = some g → tag g = none) : RdAt w' v zs ∧ ∀ g, v.ownBlock = some g → zs ≠ [] → tag' g = none := by
  constructor
  · by_cases h0 : zs.length = 0
    · obtain ⟨a', c', hx, h1, h2, _⟩ := h
      exact ⟨a', c', hx, h1, h2, .inl h0⟩
    · exact h.of_block (fun g hg => s.block g (h.lt (by omega) hg) (by simp [ht g hg]))
  · intro g hg hz
    have h0 : 0 < zs.length := List.length_pos_iff.2 hz
    exact s.bare g (h.lt h0 hg) (ht g hg)

/-- A caller's row, below everything that is tagged. -/
theorem RdAt.low {w w' : World} {v : Value} {zs : List Int} (h : RdAt w v zs) (b : Below w.heap.size w w') : RdAt w' v zs := by
  by_cases h0 : zs.length = 0
  · obtain ⟨a', c', hx, h1, h2, _⟩ := h
    exact ⟨a', c', hx, h1, h2, .inl h0⟩
  · exact h.of_block (fun g hg => b.block g (h.lt (by omega) hg))

theorem RdAt.bare {w : World} {tag : Tags} {v : Value} {zs : List Int} (h : RdAt w v zs) (ht : ∀ i, i < w.heap.size → tag i = none) : zs ≠ [] → ∀ g, v.ownBlock = some g → tag g = none :=
  fun hz g hg => ht g (h.lt (List.length_pos_iff.2 hz) hg)

theorem Row.keep {w w' : World} {tag tag' : Tags} {v : Value} {zs : List Int} (h : Row w v zs) (s : Step w w' tag tag' (fun _ => True)) (ht : ∀ g, v.ownBlock = some g → tag g = none) : Row w' v zs ∧ ∀ g, v.ownBlock = some g → tag' g = none :=
  ⟨h.of_block (fun g hg => s.block g (h.lt hg) (by simp [ht g hg])), fun g hg => s.bare g (h.lt hg) (ht g hg)⟩

/-- Untagged memory that is there stays. -/
theorem Step.below {w w' : World} {tag tag' : Tags} (s : Step w w' tag tag' (fun _ => True)) {n : Nat} (hn : n ≤ w.heap.size) (ht : ∀ i, i < n → tag i = none) : Below n w w' ∧ ∀ i, i < n → tag' i = none :=
  ⟨⟨s.os, s.tape, s.output, s.size, fun i hi => s.block i (by omega) (by simp [ht i hi])⟩, fun i hi => s.bare i (by omega) (ht i hi)⟩

set_option maxRecDepth 100000 in
set_option maxHeartbeats 1000000 in
theorem awake_any (w : World) : Calls Try.prog 8 #[] w fun e w' => e = .returned (.bool true) ∧ w.grownBy w' none := by
  have fin : ∀ (w1 w2 w3 w4 : World) (B : Nat) (tag tag3 : Tags), w.grownBy w1 none → (∀ i, i < w.heap.size → tag i = none) → w1.grownBy w2 none → Step w2 w3 tag tag3 (fun _ => True) → Step w3 w4 tag3 tag3 (fun _ => True) → w.grownBy w4 none := by
    intro w1 w2 w3 w4 B tag tag3 g1 ht g2 s3 s4
    have g12 := g1.andThen g2 (by simp)
    obtain ⟨b3, ht3⟩ := s3.below g12.size ht
    obtain ⟨b4, _⟩ := s4.below (Nat.le_trans g12.size s3.size) ht3
    exact ⟨(b4.os.trans b3.os).trans g12.os, (b4.tape.trans b3.tape).trans g12.tape, (b4.output.trans b3.output).trans g12.output, Nat.le_trans g12.size (Nat.le_trans b3.size b4.size), fun i hi hne => ((b4.block i hi).trans (b3.block i hi)).trans (g12.block i hi hne)⟩
  have arg : ∀ (w1 : World) (fr : Nat × Nat), RdAt (w1.alloc (.cells #[.int .u8 120, .int .u8 121] 5 fr)) (.slice (some ⟨w1.heap.size, 0, none⟩) 2 2) [120, 121] := by
    intro w1 fr
    refine ⟨_, _, rfl, by simp, by simp, .inr ⟨_, _, rfl, fun j u hu => ?_⟩⟩
    have hh := heap_alloc_new w1 (.cells #[.int .u8 120, .int .u8 121] 5 fr)
    simp only [World.cell?, hh]
    simpa [cels] using hu
  have unt : ∀ (w1 : World) (B : Nat) (tag : Tags) (st : St), Wd w1 B tag st → ∀ g, (Value.slice (some ⟨w1.heap.size, 0, none⟩) 2 2).ownBlock = some g → tag g = none := by
    intro w1 B tag st h g hg
    simp [Value.ownBlock] at hg
    subst hg
    cases hh : tag w1.heap.size with
    | none => rfl
    | some t => have := h.lt _ (by rw [hh]; simp); omega
  replace fin := Kpt.mk fin
  replace arg := Kpt.mk arg
  replace unt := Kpt.mk unt
  have kc := fun (w : World) (C : Array Value) (n c : Nat) => Lib.run_convert_bytes_const (P := Try.prog) w 22 5 C n c Try.underlying22 Try.underlying5
  have hstr : strOfNums [121] = ⟨#[121]⟩ := by decide
  go_enter Try.func8, Try.ntmps8
  go_wp2_with (first
    | (go_at_call 9; refine (new_any _).mono ?_; rintro e w1 ⟨B, tag, rfl, hW1, hg1, ht1⟩)
    | (go_at_call 10; refine (write_ok _ B tag st0 (hW1.step (Step.grown (World.grownBy_alloc _ _ _) _ _)) 0 calm0 (by omega) ⟨#[97]⟩ (by decide) (by decide) 0 0 rfl _ [120, 121] (arg.out w1 _) (fun _ => unt.out w1 B tag st0 hW1) (by decide)).mono ?_; rintro e w3 ⟨rfl, tag3, hW3, hs3⟩)
    | (go_at_call 14; refine (read_ok _ B tag3 _ hW3 (by decide) rfl ⟨#[97]⟩ (by decide) (by decide) 1 9 (by decide) (by decide) [120, 121] rfl).mono ?_; rintro e w4 ⟨v4, rfl, hW4, hs4, hr4, hn4⟩; have hcv := conv_rd w4 v4 [121] hr4.rd))
  go_ret
  exact ⟨rfl, fin.out _ _ _ _ B tag tag3 hg1 ht1 (World.grownBy_alloc _ _ _) hs3 hs4⟩
end Go.Proofs.Ytfcbacmfjhabgaa
