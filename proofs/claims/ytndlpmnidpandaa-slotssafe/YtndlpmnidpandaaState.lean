/-
  The state of a world of files, as memory holds it: two maps of owned rows, what waits, what is to fail; who owns which block (tags).
-/
import Derived.Test.YtndlpmnidpandaaLaid
namespace Go.Proofs.Ytndlpmnidpandaa
open Go.RowKit Go.Maps
set_option linter.unusedVariables false
set_option linter.unusedSimpArgs false

/-- The files by name. -/
abbrev FilesF := ByteArray → Option (List Int)

def updF {α : Type} (F : ByteArray → Option α) (s : ByteArray) (x : Option α) : ByteArray → Option α := fun t => if t = s then x else F t
@[simp] theorem updF_same {α : Type} (F : ByteArray → Option α) (s : ByteArray) (x : Option α) : updF F s x s = x := by simp [updF]
theorem updF_other {α : Type} (F : ByteArray → Option α) {s t : ByteArray} (x : Option α) (h : t ≠ s) : updF F s x t = F t := by simp [updF, h]

/-! ### a map from names to values -/
theorem Try.law9 : Keyed Try.prog 9 := string_keyed Try.underlying9
theorem Try.zeroSB (w : World) : (zeroValue 23).run Try.prog w = .ok (.slice none 0 0) w := by kernel_rfl

/-- An element is read as itself. -/
def rawElem : Value → Option (DataW Value × List MemPlace) := fun v => some (.held v, [])

def lit (s : ByteArray) : Lit := .string s.data.toList
theorem lit_ne {s t : ByteArray} (h : t ≠ s) : lit t ≠ lit s := by
  intro e
  apply h
  cases s with | mk s => cases t with | mk t =>
  simp only [lit, Lit.string.injEq] at e
  have : t = s := by cases s; cases t; simpa using e
  rw [this]
theorem lit_key (s : ByteArray) : WideAt.IsKeyLit (lit s) := by simp [lit, WideAt.IsKeyLit]

def MapIs (w : World) (M n : Nat) (f : ByteArray → Option Value) : Prop :=
  ∃ D : DataW Value, w.ownsMap Try.prog 9 rawElem M n D ∧ ∀ (s : ByteArray) (zd : DataW Value), D.atKey (lit s) zd = (match f s with | some v => .held v | none => zd)

theorem MapIs.of_block {w w' : World} {M n : Nat} {f : ByteArray → Option Value} (h : MapIs w M n f) (hb : w'.heap[M]? = w.heap[M]?) : MapIs w' M n f := by
  obtain ⟨D, ⟨es, clock, h1, h2⟩, h3⟩ := h
  exact ⟨D, ⟨es, clock, hb.trans h1, h2⟩, h3⟩

theorem MapIs.lt {w : World} {M n : Nat} {f : ByteArray → Option Value} (h : MapIs w M n f) : M < w.heap.size := by
  obtain ⟨D, h1, _⟩ := h
  exact h1.lt

theorem MapIs.mono {w : World} {M n n' : Nat} {f : ByteArray → Option Value} (h : MapIs w M n f) (hn : n ≤ n') : MapIs w M n' f := by
  obtain ⟨D, h1, h2⟩ := h
  exact ⟨D, h1.mono hn, h2⟩

theorem MapIs.made (w : World) : MapIs (w.alloc (.map #[] 0)) w.heap.size 0 (fun _ => none) :=
  ⟨.map [], World.ownsMap_made w Try.prog 9 rawElem, fun s zd => by simp [DataW.atKey]⟩

theorem key9 {s : ByteArray} (h : s.size ≤ maxLen) : keyOf Try.prog 9 (.string s) = some (lit s) := WideMaps.keyOf_string_mk Try.underlying9 h

theorem raw_held {v : Value} {d : DataW Value} {ps : List MemPlace} (h : rawElem v = some (d, ps)) : d = .held v := by
  simp only [rawElem, Option.some.injEq, Prod.mk.injEq] at h
  exact h.1.symm

theorem MapIs.look_ok {w : World} {M n : Nat} {f : ByteArray → Option Value} (h : MapIs w M n f) {s : ByteArray} (hs : s.size ≤ maxLen) :
    (Instr.lookup 67 (.map (some M)) (.string s) true).run Try.prog w = .ok (.tuple #[(f s).getD (.slice none 0 0), .bool (f s).isSome]) w := by
  obtain ⟨D, h1, h2⟩ := h
  obtain ⟨v, ps, hrun, hv⟩ := h1.look_ok Try.law9 Try.underlying67 (Try.zeroSB w) (zd := .held (.slice none 0 0)) (zp := []) rfl (key9 hs)
  have hd := raw_held hv
  rw [hrun]
  cases hf : f s with
  | none =>
    rw [h2 s, hf] at hd
    have hh : has D (lit s) = false := has_false_of_atKey (fun z => by rw [h2 s, hf])
    rw [hh]
    simp only [DataW.held.injEq] at hd
    simp [hd]
  | some x =>
    rw [h2 s, hf] at hd
    have hh : has D (lit s) = true := has_true_of_atKey (y := .held x) (fun z => by rw [h2 s, hf])
    rw [hh]
    simp only [DataW.held.injEq] at hd
    simp [hd]

theorem MapIs.look {w : World} {M n : Nat} {f : ByteArray → Option Value} (h : MapIs w M n f) {s : ByteArray} (hs : s.size ≤ maxLen) :
    (Instr.lookup 67 (.map (some M)) (.string s) false).run Try.prog w = .ok ((f s).getD (.slice none 0 0)) w := by
  obtain ⟨D, h1, h2⟩ := h
  obtain ⟨v, ps, hrun, hv⟩ := h1.lookup Try.law9 Try.underlying67 (Try.zeroSB w) (zd := .held (.slice none 0 0)) (zp := []) rfl (key9 hs)
  have hd := raw_held hv
  rw [hrun]
  cases hf : f s with
  | none => rw [h2 s, hf] at hd; simp only [DataW.held.injEq] at hd; simp [hd]
  | some x => rw [h2 s, hf] at hd; simp only [DataW.held.injEq] at hd; simp [hd]

theorem MapIs.store {w : World} {M n : Nat} {f : ByteArray → Option Value} (h : MapIs w M n f) {s : ByteArray} (hs : s.size ≤ maxLen) (hn : n < maxLen) (v : Value) :
    ∃ w', (Instr.mapUpdate 67 (.map (some M)) (.string s) v).run Try.prog w = .ok () w' ∧ MapIs w' M (n + 1) (updF f s (some v)) ∧ w.mapTurned w' M := by
  obtain ⟨D, h1, h2⟩ := h
  obtain ⟨w', hrun, hown, ht⟩ := h1.store Try.law9 Try.underlying67 hn (key9 hs) (val := v) (d := .held v) (ps := []) rfl
  refine ⟨w', hrun, ⟨_, hown, fun t zd => ?_⟩, ht⟩
  by_cases e : t = s
  · subst e; rw [atKey_put_same h1.isMap (lit_key t)]; simp
  · rw [atKey_put_other (lit_ne e), h2 t, updF_other _ _ e]

theorem MapIs.drop {w : World} {M n : Nat} {f : ByteArray → Option Value} (h : MapIs w M n f) {s : ByteArray} (hs : s.size ≤ maxLen) :
    ∃ w', (∀ ty, (Builtin.delete_ #[67, 9] ty #[.map (some M), .string s]).run Try.prog w = .ok (.tuple #[]) w') ∧ MapIs w' M n (updF f s none) ∧ w.mapTurned w' M := by
  obtain ⟨D, h1, h2⟩ := h
  obtain ⟨w', hrun, hown, ht⟩ := h1.drop Try.law9 Try.underlying67 (key9 hs) 0
  refine ⟨w', fun ty => ?_, ⟨_, hown, fun t zd => ?_⟩, ht⟩
  · rw [← hrun]; rfl
  · by_cases e : t = s
    · subst e; rw [atKey_del_same]; simp
    · rw [atKey_del_other (lit_ne e), h2 t, updF_other _ _ e]

/-! ### who owns which block -/
structure Tag where
  a : Bool
  b : Bool
  c : Bool
  s : ByteArray

abbrev Tag.wd : Tag := ⟨false, false, false, ⟨#[]⟩⟩
abbrev Tag.m1 : Tag := ⟨false, false, true, ⟨#[]⟩⟩
abbrev Tag.m2 : Tag := ⟨false, true, false, ⟨#[]⟩⟩
abbrev Tag.dt : Tag := ⟨false, true, true, ⟨#[]⟩⟩
abbrev Tag.wt : Tag := ⟨true, false, false, ⟨#[]⟩⟩
abbrev Tag.fl : Tag := ⟨true, false, true, ⟨#[]⟩⟩
abbrev Tag.r1 (s : ByteArray) : Tag := ⟨true, true, false, s⟩
abbrev Tag.r2 (s : ByteArray) : Tag := ⟨true, true, true, s⟩

abbrev Tags := Nat → Option Tag

structure Step (w w' : World) (tag tag' : Tags) (X : Tag → Prop) : Prop where
  os : w'.os = w.os
  tape : w'.tape = w.tape
  output : w'.output = w.output
  size : w.heap.size ≤ w'.heap.size
  block : ∀ i, i < w.heap.size → (∀ t, X t → tag i ≠ some t) → w'.heap[i]? = w.heap[i]?
  other : ∀ i t, ¬ X t → (tag' i = some t ↔ tag i = some t)
  bare : ∀ i, i < w.heap.size → tag i = none → tag' i = none
  lt : (∀ i, tag i ≠ none → i < w.heap.size) → ∀ i, tag' i ≠ none → i < w'.heap.size

theorem Step.refl (w : World) (tag : Tags) (X : Tag → Prop) : Step w w tag tag X :=
  ⟨rfl, rfl, rfl, Nat.le_refl _, fun _ _ _ => rfl, fun _ _ _ => Iff.rfl, fun _ _ h => h, fun h => h⟩

theorem Step.weaken {w w' : World} {tag tag' : Tags} {X Y : Tag → Prop} (h : Step w w' tag tag' X) (hXY : ∀ t, X t → Y t) : Step w w' tag tag' Y :=
  ⟨h.os, h.tape, h.output, h.size, fun i hi hy => h.block i hi (fun t ht => hy t (hXY t ht)), fun i t ht => h.other i t (fun hx => ht (hXY t hx)), h.bare, h.lt⟩

theorem Step.trans {w w1 w2 : World} {tag tag1 tag2 : Tags} {X : Tag → Prop} (h : Step w w1 tag tag1 X) (k : Step w1 w2 tag1 tag2 X) : Step w w2 tag tag2 X where
  os := k.os.trans h.os
  tape := k.tape.trans h.tape
  output := k.output.trans h.output
  size := Nat.le_trans h.size k.size
  block := fun i hi hx => by
    rw [k.block i (Nat.lt_of_lt_of_le hi h.size) ?_, h.block i hi hx]
    intro t ht
    cases hti : tag i with
    | none => rw [h.bare i hi hti]; simp
    | some t0 =>
      have h0 : ¬ X t0 := fun hx0 => hx t0 hx0 hti
      rw [(h.other i t0 h0).2 hti]
      intro e; cases e; exact h0 ht
  other := fun i t ht => (k.other i t ht).trans (h.other i t ht)
  bare := fun i hi hn => k.bare i (Nat.lt_of_lt_of_le hi h.size) (h.bare i hi hn)
  lt := fun hl => k.lt (h.lt hl)

theorem Step.keep {w w' : World} {tag tag' : Tags} {X : Tag → Prop} (h : Step w w' tag tag' X) {i : Nat} {t : Tag} (hi : i < w.heap.size) (ht : tag i = some t) (hX : ¬ X t) : w'.heap[i]? = w.heap[i]? ∧ tag' i = some t :=
  ⟨h.block i hi (fun t' hx e => by rw [ht] at e; cases e; exact hX hx), (h.other i t hX).2 ht⟩

/-- Only untagged memory is laid, nothing that was there has turned. -/
theorem Step.grown {w w' : World} (h : w.grownBy w' none) (tag : Tags) (X : Tag → Prop) : Step w w' tag tag X :=
  ⟨h.os, h.tape, h.output, h.size, fun i hi _ => h.block i hi (by simp), fun _ _ _ => Iff.rfl, fun _ _ hn => hn, fun hl i hi => Nat.lt_of_lt_of_le (hl i hi) h.size⟩

/-- One tagged block has turned. -/
theorem Step.turned {w w' : World} {b : Nat} (h : w.grownBy w' (some b)) (tag : Tags) {t : Tag} (hb : tag b = some t) {X : Tag → Prop} (hX : X t) : Step w w' tag tag X :=
  ⟨h.os, h.tape, h.output, h.size, fun i hi hx => h.block i hi (fun e => by cases e; exact hx t hX hb), fun _ _ _ => Iff.rfl, fun _ _ hn => hn, fun hl i hi => Nat.lt_of_lt_of_le (hl i hi) h.size⟩

/-- New blocks get a tag of X. -/
theorem Step.tagged {w w' : World} {tag : Tags} {X : Tag → Prop} (h : Step w w' tag tag X) (g : Nat) (hg : w.heap.size ≤ g) (hg' : g < w'.heap.size) {t : Tag} (hX : X t) (hl : ∀ i, tag i ≠ none → i < w.heap.size) :
    Step w w' tag (fun i => if i = g then some t else tag i) X where
  os := h.os
  tape := h.tape
  output := h.output
  size := h.size
  block := h.block
  other := fun i t' ht' => by
    by_cases e : i = g
    · subst e
      have h0 : tag i = none := by
        cases hti : tag i with
        | none => rfl
        | some x => have := hl i (by simp [hti]); omega
      simp [h0]
      intro e; rw [← e] at ht'; exact ht' hX
    · simp [e]
  bare := fun i hi hn => by simp [hn]; omega
  lt := fun hl' i hi => by
    by_cases e : i = g
    · omega
    · simp [e] at hi; exact Nat.lt_of_lt_of_le (hl' i hi) h.size

/-! ### files -/
def Files (w : World) (tag : Tags) (T : ByteArray → Tag) (f : ByteArray → Option Value) (F : FilesF) : Prop :=
  ∀ s, match F s with
    | none => f s = none
    | some zs => zs.length ≤ 1048576 ∧ ∃ v, f s = some v ∧ Row w v zs ∧ ∀ g, v.ownBlock = some g → tag g = some (T s)

theorem Files.step {w w' : World} {tag tag' : Tags} {T : ByteArray → Tag} {f : ByteArray → Option Value} {F : FilesF} {X : Tag → Prop} (h : Files w tag T f F) (st : Step w w' tag tag' X) (hX : ∀ s, ¬ X (T s)) : Files w' tag' T f F := by
  intro s
  have := h s
  cases hF : F s with
  | none => rw [hF] at this; exact this
  | some zs =>
    rw [hF] at this
    obtain ⟨hl, v, hf, hr, ht⟩ := this
    exact ⟨hl, v, hf, hr.of_block (fun g hg => (st.keep (hr.lt hg) (ht g hg) (hX s)).1), fun g hg => (st.keep (hr.lt hg) (ht g hg) (hX s)).2⟩

/-! ### changes that wait -/
structure Chg where
  two : Bool
  three : Bool
  s : ByteArray
  t : ByteArray
  off : Nat
  ds : List Int

abbrev Chg.wr (s : ByteArray) (off : Nat) (ds : List Int) : Chg := ⟨false, false, s, ⟨#[]⟩, off, ds⟩
abbrev Chg.rn (a b : ByteArray) : Chg := ⟨true, false, a, b, 0, []⟩
abbrev Chg.rm (a : ByteArray) : Chg := ⟨true, true, a, ⟨#[]⟩, 0, []⟩

/-- What a change does to files. -/
def Chg.run : Chg → FilesF → FilesF
  | ⟨false, _, s, _, off, ds⟩, F => updF F s (some (laidL ((F s).getD []) off ds))
  | ⟨true, false, a, b, _, _⟩, F => updF (updF F a none) b (some ((F a).getD []))
  | ⟨true, true, a, _, _, _⟩, F => updF F a none

def Chg.vals : Chg → Value → Array Value
  | ⟨false, _, s, _, off, _⟩, dv => #[.int .i64 0, .string s, .string ⟨#[]⟩, .int .i64 (off : Int), dv]
  | ⟨true, false, a, b, _, _⟩, dv => #[.int .i64 1, .string a, .string b, .int .i64 0, dv]
  | ⟨true, true, a, _, _, _⟩, dv => #[.int .i64 2, .string a, .string ⟨#[]⟩, .int .i64 0, dv]

theorem Chg.vals_size (c : Chg) (dv : Value) : (c.vals dv).size = 5 := by
  obtain ⟨two, three, s, t, off, ds⟩ := c
  cases two <;> cases three <;> rfl

def Chg.ok (w : World) (tag : Tags) : Chg → Value → Prop
  | ⟨false, _, s, _, off, ds⟩, dv => s.size ≤ 32 ∧ off + ds.length ≤ 1048576 ∧ Row w dv ds ∧ ∀ g, dv.ownBlock = some g → tag g = some .dt
  | ⟨true, false, a, b, _, _⟩, dv => a.size ≤ 32 ∧ b.size ≤ 32 ∧ dv = .slice none 0 0
  | ⟨true, true, a, _, _, _⟩, dv => a.size ≤ 32 ∧ dv = .slice none 0 0

theorem Chg.ok.step {w w' : World} {tag tag' : Tags} {c : Chg} {dv : Value} {X : Tag → Prop} (h : c.ok w tag dv) (st : Step w w' tag tag' X) (hX : ¬ X .dt) : c.ok w' tag' dv := by
  obtain ⟨two, three, s, t, off, ds⟩ := c
  cases two with
  | false =>
    obtain ⟨h1, h2, hr, ht⟩ := h
    exact ⟨h1, h2, hr.of_block (fun g hg => (st.keep (hr.lt hg) (ht g hg) hX).1), fun g hg => (st.keep (hr.lt hg) (ht g hg) hX).2⟩
  | true => cases three <;> exact h

def WaitsIs (w : World) (tag : Tags) (wv : Value) (l : List (Chg × Value)) : Prop :=
  (∀ p ∈ l, p.1.ok w tag p.2) ∧ w.ownsRow 0 83 5 wv l.length (l.flatMap fun p => (p.1.vals p.2).toList) ∧ ∀ g, wv.ownBlock = some g → tag g = some .wt

theorem WaitsIs.step {w w' : World} {tag tag' : Tags} {wv : Value} {l : List (Chg × Value)} {X : Tag → Prop} (h : WaitsIs w tag wv l) (st : Step w w' tag tag' X) (hX : ¬ X .dt) (hX' : ¬ X .wt) : WaitsIs w' tag' wv l := by
  obtain ⟨h1, h2, h3⟩ := h
  refine ⟨fun p hp => (h1 p hp).step st hX, ⟨h2.1, ?_⟩, fun g hg => (st.keep (h2.lt g hg).2 (h3 g hg) hX').2⟩
  rcases h2.2 with hn | ⟨g, cap, cur, rfl, h0, hgg, rest⟩
  · exact .inl hn
  · exact .inr ⟨g, cap, cur, rfl, h0, (st.keep (Array.getElem?_eq_some_iff.1 hgg).1 (h3 g rfl) hX').1.trans hgg, rest⟩

/-! ### what is to fail -/
def FailsIs (w : World) (tag : Tags) (fv : Option Nat) (p : Int → Bool) : Prop :=
  match fv with
  | none => ∀ x, p x = false
  | some b => tag b = some .fl ∧ ∃ n D, w.ownsMap (H := Unit) Try.prog 3 unitElem b n D ∧ ∀ x : Int, (Lit.int .i64 x).wf = true → has D (.int .i64 x) = p x

theorem FailsIs.step {w w' : World} {tag tag' : Tags} {fv : Option Nat} {p : Int → Bool} {X : Tag → Prop} (h : FailsIs w tag fv p) (st : Step w w' tag tag' X) (hX : ¬ X .fl) : FailsIs w' tag' fv p := by
  cases fv with
  | none => exact h
  | some b =>
    obtain ⟨ht, n, D, ho, hp⟩ := h
    have hk := st.keep ho.lt ht hX
    obtain ⟨es, clock, h1, h2⟩ := ho
    exact ⟨hk.2, n, D, ⟨es, clock, hk.1.trans h1, h2⟩, hp⟩

/-- Which calls do not succeed: those that are to fail, the one at which the power goes off, all behind it. -/
def FailsS (w : World) (tag : Tags) (fv : Option Nat) (fl : Int → Bool) (stop : Int) (off : Bool) : Prop := ∃ p, FailsIs w tag fv p ∧ ∀ x, 0 ≤ x → fl x = (p x || decide (x = stop) || off)
theorem FailsS.step {w w' : World} {tag tag' : Tags} {fv : Option Nat} {fl : Int → Bool} {stop : Int} {off : Bool} {X : Tag → Prop} (h : FailsS w tag fv fl stop off) (st : Step w w' tag tag' X) (hX : ¬ X .fl) : FailsS w' tag' fv fl stop off := by
  obtain ⟨p, h1, h2⟩ := h
  exact ⟨p, h1.step st hX, h2⟩
theorem failsS_none (w : World) (tag : Tags) : FailsS w tag none (fun _ => false) (-1) false := ⟨fun _ => false, fun _ => rfl, fun x hx => by
  have : ¬ x = -1 := by omega
  simp [this]⟩

/-! ### the whole -/
structure St where
  seen : FilesF
  dur : FilesF
  waits : List Chg
  fails : Int → Bool
  ops : Int
  cnt : Nat
  stop : Int := -1
  off : Bool := false

def wdCells (M1 M2 : Nat) (wv : Value) (fv : Option Nat) (ops : Int) (stop : Int := -1) (off : Bool := false) : Array Value := #[.map (some M1), .map (some M2), wv, .map fv, .int .i64 stop, .int .i64 ops, .bool off]

structure Inv (w : World) (B : Nat) (tag : Tags) (st : St) (M1 M2 : Nat) (wv : Value) (fv : Option Nat) (f1 f2 : ByteArray → Option Value) (l : List (Chg × Value)) (n2 : Nat) : Prop where
  cell : w.heap[B]? = some (.cells (wdCells M1 M2 wv fv st.ops st.stop st.off) 71 (0, 0))
  tB : tag B = some .wd
  t1 : tag M1 = some .m1
  t2 : tag M2 = some .m2
  map1 : MapIs w M1 st.cnt f1
  map2 : MapIs w M2 n2 f2
  seen : Files w tag .r1 f1 st.seen
  dur : Files w tag .r2 f2 st.dur
  waits : WaitsIs w tag wv l
  l_eq : l.map Prod.fst = st.waits
  fails : FailsS w tag fv st.fails st.stop st.off
  lt : ∀ i, tag i ≠ none → i < w.heap.size
  opsLo : 0 ≤ st.ops
  opsHi : st.ops ≤ st.cnt
  cnt2 : n2 + l.length ≤ st.cnt

def World' (w : World) (B : Nat) (tag : Tags) (st : St) : Prop := ∃ M1 M2 wv fv f1 f2 l n2, Inv w B tag st M1 M2 wv fv f1 f2 l n2

end Go.Proofs.Ytndlpmnidpandaa
