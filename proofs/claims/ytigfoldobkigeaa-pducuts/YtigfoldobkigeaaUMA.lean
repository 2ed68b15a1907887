/-
  Rows of bytes: read, owned, grown by noughts, written over. Regions that draw their order: an operation that yields one value in every world of a class may be taken first, where every step stays in the class. Rows of one's own; a text's bytes; bytes as text. The contract of slices.Clone on bytes. Contracts of the small functions that look whether a number's bytes are there, and of Get. Plain facts on numbers as bytes, the highest byte first: no program is looked at here. Contracts of Get, of the program and of the document's answer. A list of bytes that came in, as a row of cells. Plain facts on a number that is laid in bytes, from the left or from the right: no program is looked at here. Contracts of the program's Put. Plain facts for what was laid and is read again: no program is looked at here. Bytes as strings; the contract of Same. Plain facts on the two check sums, as registers that are natural numbers: no program is looked at here. Contracts of the program's two steps: a byte's eight bits. A list of bytes that came in, as a row of cells. Contracts of the program's sums. Contracts of the document's sums. Structs in blocks of their own, rows that are read, numbers as bytes. Plain facts on the first bit that a mask has not: no program is looked at here. Contracts of Odd, of the program and of the document's answer.
-/
import Derived.Test.YtigfoldobkigeaaRows
import Derived.OpenShut
import Derived.Laws.CopyOwn
import Derived.Laws.BytesArg
import Derived.Laws.AppendOwnNone
import Derived.Lib.AppendZerosOnto
import Derived.Outline
import Derived.ProofKit
import Derived.WalkKit
import Derived.Below
import Derived.BigQuiet
import Derived.Deep.QuietTactic
import Derived.Deep.RegionWith
import Derived.Deep.RegionLawGrows
import Derived.Deep.Cut
import Derived.Maps.RangeWalk
import Derived.Maps.OwnSet
import Derived.Maps.Ext
import Derived.Deep.DeepMust
import Derived.OwnWalk
import Derived.Deep.MidRow
import Derived.Maps.AppendAt
import Derived.Laws.BitsAllLaws
import Derived.Laws.BitsLemmas
import Derived.Lib.BufferWrite
import Derived.Lib.Strings
import Derived.Lib.Slices
import Derived.Lib.Small
import Derived.Lib.Walk
import Derived.Lib.BitFns
namespace Go.Proofs.Ytigfoldobkigeaa
open Go.RowKit
set_option linter.unusedVariables false
set_option linter.unusedSimpArgs false

theorem Try.info5 : (Try.prog.info? 5).map (fun i => (i.zero, i.size, i.bytes)) = some (some (.int .u8 0), 1, 1) := by kernel_rfl
theorem Try.size5 : (Try.prog.info? 5).map (·.size) = some 1 := by kernel_rfl

/-- A fact kept from the walk's sight. -/
structure Kpt (p : Prop) : Prop where
  out : p

/-- Bytes as cells. -/
def cels (zs : List Int) : List Value := zs.map (Value.int .u8)
@[simp] theorem cels_length (zs : List Int) : (cels zs).length = zs.length := by simp [cels]
theorem cels_one (zs : List Int) : ∀ v ∈ cels zs, v.oneCell' = true := ints_oneCell _ _
theorem cels_append (a b : List Int) : cels (a ++ b) = cels a ++ cels b := by simp [cels]

/-- A slice of bytes, owned whole. -/
def Row (w : World) (v : Value) (zs : List Int) : Prop := w.ownsRow 0 5 1 v zs.length (cels zs)

/-- A slice of bytes that can be read. -/
def RdAt (w : World) (v : Value) (zs : List Int) : Prop :=
  ∃ a c, v = .slice a zs.length c ∧ (a = none → zs.length = 0 ∧ c = 0) ∧ zs.length ≤ c ∧
    (zs.length = 0 ∨ ∃ b off, a = some ⟨b, off, none⟩ ∧ ∀ j u, (cels zs)[j]? = some u → w.cell? ⟨b, off + j, none⟩ = some u)

theorem Row.kept {w w' : World} {row : Option Nat} {v : Value} {zs : List Int} (h : Row w v zs) (hg : w.grownBy w' row) (hne : v.ownBlock = none ∨ v.ownBlock ≠ row) : Row w' v zs := World.ownsRow.kept h hg hne

theorem Row.of_block {w w' : World} {v : Value} {zs : List Int} (h : Row w v zs) (hb : ∀ g, v.ownBlock = some g → w'.heap[g]? = w.heap[g]?) : Row w' v zs := by
  refine ⟨h.1, ?_⟩
  rcases h.2 with hn | ⟨g, cap, cur, rfl, h0, hgg, rest⟩
  · exact .inl hn
  · exact .inr ⟨g, cap, cur, rfl, h0, (hb g rfl).trans hgg, rest⟩

theorem RdAt.of_block {w w' : World} {v : Value} {zs : List Int} (h : RdAt w v zs) (hb : ∀ g, v.ownBlock = some g → w'.heap[g]? = w.heap[g]?) : RdAt w' v zs := by
  obtain ⟨a, c, rfl, ha, hlc, h⟩ := h
  refine ⟨a, c, rfl, ha, hlc, ?_⟩
  rcases h with h | ⟨b, off, rfl, hc⟩
  · exact .inl h
  · exact .inr ⟨b, off, rfl, fun j u hu => (World.cell?_of_block (a := ⟨b, off + j, none⟩) (hb b rfl)).trans (hc j u hu)⟩

theorem Row.rd {w : World} {v : Value} {zs : List Int} (h : Row w v zs) : RdAt w v zs := by
  rcases h.2 with ⟨rfl, h0⟩ | ⟨g, cap, cur, rfl, _, hg, hc, hm, _, _⟩
  · exact ⟨none, 0, by rw [h0], fun _ => ⟨h0, rfl⟩, by omega, .inl h0⟩
  · refine ⟨some ⟨g, 0, none⟩, cap, rfl, (fun h => by cases h), hc, .inr ⟨g, 0, rfl, fun j u hu => ?_⟩⟩
    have := World.ownsRow.cells h (g := g) rfl j u hu
    rw [Go.WideShapes.add_plain] at this
    exact this

theorem Row.lt {w : World} {v : Value} {zs : List Int} (h : Row w v zs) {g : Nat} (hg : v.ownBlock = some g) : g < w.heap.size := (World.ownsRow.lt h g hg).2

theorem RdAt.lt {w : World} {v : Value} {zs : List Int} (h : RdAt w v zs) (h0 : 0 < zs.length) {g : Nat} (hg : v.ownBlock = some g) : g < w.heap.size := by
  obtain ⟨a, c, rfl, ha, hlc, h⟩ := h
  rcases h with h | ⟨b, off, rfl, hc⟩
  · omega
  · simp [Value.ownBlock] at hg
    subst hg
    exact World.block_lt_of_cell? w ⟨b, off + 0, none⟩ (hc 0 ((cels zs)[0]'(by simpa using h0)) (by rw [List.getElem?_eq_getElem]))

theorem row_nil (w : World) : Row w (.slice none 0 0) [] := World.ownsRow_nil w 0 5 1

theorem rd_nil (w : World) : RdAt w (.slice none 0 0) [] := (row_nil w).rd

theorem zeroCells_u8 (k : Nat) : Builtin.zeroCells (Value.int .u8 0).cells k = (cels (List.replicate k 0)).toArray := by
  apply Array.ext
  · simp [size_zeroCells, Value.cells]
  · intro i h1 h2
    simp [Builtin.zeroCells, Value.cells, cels]
    have : i % 1 = 0 := by omega
    simp [this]

/-- 'append(p, make([]byte, k)...)'. -/
theorem run_append_zeros (w : World) (v : Value) (zs : List Int) (hown : Row w v zs) (k : Nat) (h0 : 0 < k) (hb : zs.length + k ≤ 140737488355328) :
    ∃ v' w', (∀ ty, (Builtin.append_ #[24, 3] ty #[v, .int .i64 (k : Int)]).run Try.prog w = .ok v' w') ∧ Row w' v' (zs ++ List.replicate k 0) ∧ w.grownBy w' v.ownBlock ∧
      (v'.ownBlock = v.ownBlock ∨ ∃ g, v'.ownBlock = some g ∧ w.heap.size ≤ g) := by
  obtain ⟨i, hi, hz, hsize, hby⟩ := info_parts Try.info5
  have hw : IntKind.i64.wrap (k : Int) = k := by rw [IntKind.wrap_i64]; omega
  have mk : ∀ old : Nat, old < zs.length + k → ∀ row, Row (w.drew.alloc (.cells ((cels zs).toArray ++ Builtin.zeroCells (Value.int .u8 0).cells k ++ Builtin.zeroCells (Value.int .u8 0).cells (grownCap w (zs.length + k) old 5 - (zs.length + k))) 5))
      (.slice (some ⟨w.heap.size, 0, none⟩) (zs.length + k) (grownCap w (zs.length + k) old 5)) (zs ++ List.replicate k 0) ∧
      w.grownBy (w.drew.alloc (.cells ((cels zs).toArray ++ Builtin.zeroCells (Value.int .u8 0).cells k ++ Builtin.zeroCells (Value.int .u8 0).cells (grownCap w (zs.length + k) old 5 - (zs.length + k))) 5)) row := by
    intro old ho row
    have hge := grownCap_ge w (zs.length + k) old 5
    have hcm : grownCap w (zs.length + k) old 5 ≤ maxLen := grownCap_le_maxLen w (zs.length + k) old 5 (by unfold maxLen; omega)
    refine ⟨⟨by simp, .inr ⟨w.heap.size, _, _, by simp, Nat.zero_le _, heap_alloc_new w.drew _, by simpa using hge, hcm, ?_, ?_⟩⟩, ⟨rfl, rfl, rfl, by simp, fun j hj _ => heap_alloc_old w.drew _ hj⟩⟩
    · simp [size_zeroCells, Value.cells]; omega
    · rw [zeroCells_u8, zeroCells_u8]
      simp only [Array.toList_append, List.length_append, List.length_replicate, Nat.mul_one, cels_append]
      rw [List.take_append_of_le_length (by simp)]
      rw [List.take_of_length_le (by simp)]
  rcases hown.2 with ⟨rfl, hl0⟩ | ⟨g, cap, cur, rfl, hbg, hg, hnc, hcm, hcs, htake⟩
  · obtain rfl : zs = [] := List.eq_nil_of_length_eq_zero hl0
    have hr := fun ty => Lib.run_append_nil_zeros (P := Try.prog) w 24 3 ty 5 i (.int .u8 0) .i64 .i64 Try.underlying24 Try.underlying3 hi hz k h0 (by omega) (by simp at hb; omega) (by rw [hby]; simp at hb; omega)
    have hm := mk 0 (by simp; omega) (Value.ownBlock (.slice none 0 0))
    simp only [List.length_nil, Nat.zero_add, cels, List.map_nil, Array.empty_append, List.nil_append] at hm ⊢
    exact ⟨_, _, hr, hm.1, hm.2, .inr ⟨_, rfl, Nat.le_refl _⟩⟩
  · by_cases hroom : zs.length + k ≤ cap
    · have hfit : zs.length * 1 + 0 + (cels (List.replicate k 0)).length ≤ cur.size := by simp; omega
      have hst := run_storeCells_at Try.prog g (zs.length * 1) 5 (cels (List.replicate k 0)) 0 cur w hg hfit (cels_one _)
      have hneg : ¬ ((k : Int) < 0) := by omega
      have hk : k ≠ 0 := by omega
      have h48i : ¬ (281474976710656 < (k : Int)) := by omega
      have hrun : ∀ ty, (Builtin.append_ #[24, 3] ty #[.slice (some ⟨g, 0, none⟩) zs.length cap, .int .i64 (k : Int)]).run Try.prog w = .ok (.slice (some ⟨g, 0, none⟩) (zs.length + k) cap) (w.setRow g (cur.toList.take (zs.length * 1 + 0) ++ cels (List.replicate k 0) ++ cur.toList.drop (zs.length * 1 + 0 + (cels (List.replicate k 0)).length)).toArray) := by
        intro ty
        simp [Builtin.append_, run_underlying Try.underlying24, run_underlying Try.underlying3, sizeOf, typeInfo, zeroValue, hi, hz, asInt, asIntOf, hw, hneg, hk, hsize, hby, h48i, hroom, zeroCells_u8, Addr.add_lit] 
        simp at hst
        rw [hst]
        simp
      refine ⟨_, _, hrun, ⟨by simp, .inr ⟨g, cap, _, by simp, hbg, setRow_heap w g cur _ 5 _ hg, by simpa using hroom, hcm, ?_, ?_⟩⟩, ⟨rfl, rfl, rfl, by simp, fun j _ hk => setRow_other w g j _ (fun e => hk (by simp [Value.ownBlock, e]))⟩, .inl rfl⟩
      · simp; omega
      · simp only [List.length_append, List.length_replicate, Nat.mul_one, Nat.add_zero] at htake ⊢
        rw [htake, cels_append, List.take_append_of_le_length (by simp), List.take_of_length_le (by simp)]
    · have holds : ∀ j u, (cels zs)[j]? = some u → w.drew.cell? ((⟨g, 0, none⟩ : Addr).add j) = some u := fun j u hu => World.ownsRow.cells hown (g := g) rfl j u hu
      have hf := run_firstCells_some (P := Try.prog) w.drew i.size zs.length ⟨g, 0, none⟩ zs.length cap (cels zs) (by simp [hsize]) holds
      have hr := fun ty => Lib.run_append_grow_zeros (P := Try.prog) w 24 3 ty 5 i (.int .u8 0) .i64 .i64 Try.underlying24 Try.underlying3 hi hz (some ⟨g, 0, none⟩) zs.length cap (cels zs) hf k h0 (by omega) (by omega) (by omega) (by rw [hby]; omega) (growslice_fits (by omega) (by rw [hby]; omega))
      have hm := mk cap (by omega) (Value.ownBlock (.slice (some ⟨g, 0, none⟩) zs.length cap))
      exact ⟨_, _, hr, hm.1, hm.2, .inr ⟨_, rfl, Nat.le_refl _⟩⟩

/-- Bytes laid over others from a place on (they fit). -/
def over (zs : List Int) (off : Nat) (ds : List Int) : List Int := zs.take off ++ (ds ++ zs.drop (off + ds.length))

/-- A file's bytes with data laid in them from off on, noughts between. -/
def laidL (zs : List Int) (off : Nat) (ds : List Int) : List Int := over (zs ++ List.replicate (off + ds.length - zs.length) 0) off ds

theorem over_length (zs ds : List Int) (off : Nat) (h : off + ds.length ≤ zs.length) : (over zs off ds).length = zs.length := by simp [over]; omega
theorem laidL_length (zs ds : List Int) (off : Nat) : (laidL zs off ds).length = max zs.length (off + ds.length) := by
  unfold laidL; rw [over_length _ _ _ (by simp; omega)]; simp; omega

/-- 'copy(p[off:], data)' on an owned row: the copy's own law. -/
theorem wpList_copy_row {w : World} {ops : Array Oper} {rest : List Oper} {o : Oper} {a : Act} {Q : Exit → Act → World → Prop} (hgd : o.guard = none) (d s : Operand)
    (ho : o.op = .call { callee := .builtin .copy, args := #[d, s], argTypes := #[24, 24] })
    (v : Value) (zs : List Int) (hrow : Row w v zs) (off : Nat) (dp : Option Addr) (dLen dCap : Nat) (hd : a.eval d = .slice dp dLen dCap) (hdl : dLen = zs.length - off)
    (hdp : dp = none ∨ ∃ g cap, v = .slice (some ⟨g, 0, none⟩) zs.length cap ∧ (dp = some ⟨g, 0, none⟩ ∧ cap = off ∨ dp = some ⟨g, off, none⟩)) (hdn : dp = none → zs = [])
    (sv : Value) (ds : List Int) (hs : a.eval s = sv) (hrd : RdAt w sv ds) (hfit : off + ds.length ≤ zs.length)
    (h : ∀ w', Row w' v (over zs off ds) → w.grownBy w' v.ownBlock → wpList Try.prog ops Q rest (a.put o.dst (goInt ds.length)) w') : wpList Try.prog ops Q (o :: rest) a w := by
  obtain ⟨sa, sc, rfl, hsn, hsl, hsr⟩ := hrd
  by_cases h0 : ds.length = 0
  · obtain rfl : ds = [] := List.eq_nil_of_length_eq_zero h0
    refine wpList_copy_nothing hgd d s 24 24 ho 5 Try.underlying24 Try.size5 dp sa dLen dCap 0 sc hd hs (by simp) ?_
    have e : over zs off [] = zs := by simp [over]
    exact h w (by rw [e]; exact hrow) ⟨rfl, rfl, rfl, Nat.le_refl _, fun _ _ _ => rfl⟩
  · rcases hsr with h1 | ⟨b, soff, rfl, hc⟩
    · omega
    · rcases hdp with hn | ⟨g, cap, rfl, hdp⟩
      · have := hdn hn; subst this; simp at hfit; simp [hfit] at h0
      · rcases hrow.2 with ⟨hx, _⟩ | ⟨g', cap', cur, hx, hbg, hg, hnc, hcm, hcs, htake⟩
        · cases hx
        · simp only [Value.slice.injEq, Option.some.injEq, Addr.mk.injEq, and_true, true_and] at hx
          obtain ⟨rfl, rfl⟩ := hx
          have hdp' : dp = some ⟨g, off, none⟩ := by
            rcases hdp with ⟨_, hc0⟩ | h'
            · omega
            · exact h'
          subst hdp'
          refine wpList_copy_own hgd d s 24 24 ho 5 Try.underlying24 Try.size5 g off dLen dCap ⟨b, soff, none⟩ ds.length sc hd hs cur 5 hg (cels ds) ?_ ?_ ?_ (cels_one _) ?_
          · simp only [cels_length]; show ds.length = Nat.min ds.length dLen; exact (Nat.min_eq_left (by omega)).symm
          · intro j u hu
            rw [Go.WideShapes.add_plain]
            exact hc j u hu
          · simp; omega
          · rw [cels_length]
            refine h _ ⟨?_, .inr ⟨g, cap, _, ?_, Nat.zero_le _, setRow_heap w g cur _ 5 _ hg, ?_, hcm, ?_, ?_⟩⟩ ⟨rfl, rfl, rfl, by simp, fun j _ hk => setRow_other w g j _ (fun e => hk (by simp [Value.ownBlock, e]))⟩
            · simp
            · rw [over_length _ _ _ hfit]
            · rw [over_length _ _ _ hfit]; exact hnc
            · simp; omega
            · rw [over_length _ _ _ hfit]
              simp only [Nat.mul_one] at htake ⊢
              obtain ⟨R, hl⟩ : ∃ R, cur.toList = cels zs ++ R := ⟨cur.toList.drop zs.length, by rw [← htake, List.take_append_drop]⟩
              have e1 : (cels zs ++ R).take off = (cels zs).take off := List.take_append_of_le_length (by simp; omega)
              have e2 : (cels zs ++ R).drop (off + ds.length) = (cels zs).drop (off + ds.length) ++ R := List.drop_append_of_le_length (by simp; omega)
              rw [hl, e1, e2]
              simp only [← List.append_assoc]
              rw [List.take_append_of_le_length (by simp; omega), List.take_of_length_le (by simp; omega)]
              simp [over, cels, List.map_take, List.map_drop]
end Go.Proofs.Ytigfoldobkigeaa

namespace Go.Proofs.Ytigfoldobkigeaa
open Go
set_option linter.unusedVariables false

section
variable {P : Program} {md : Region.Mode} {ops : Array Oper} {C : World → Prop} {Q : Exit → Act → World → Prop}

def wpAnyC (P : Program) (md : Region.Mode) (ops : Array Oper) (C : World → Prop) (Q : Exit → Act → World → Prop) : Nat → Array Bool → Act → World → Prop
  | 0, listed, a, w => C w ∧ Region.ready md ops listed = [] ∧ Q .normal a w
  | fuel + 1, listed, a, w => C w ∧ (Region.ready md ops listed = [] → Q .normal a w) ∧
    ∀ i ∈ Region.ready md ops listed, wpOp P ops Q i (wpAnyC P md ops C Q fuel (listed.setIfInBounds i true)) a w

theorem wpAnyC.cls : ∀ {fuel : Nat} {listed : Array Bool} {a : Act} {w : World}, wpAnyC P md ops C Q fuel listed a w → C w
  | 0, _, _, _, h => h.1
  | _ + 1, _, _, _, h => h.1

theorem wpAny_of_C : ∀ (fuel : Nat) (listed : Array Bool) (a : Act) (w : World), wpAnyC P md ops C Q fuel listed a w → wpAny P md ops Q fuel listed a w
  | 0, _, _, _, h => h.2
  | fuel + 1, _, _, _, h => ⟨h.2.1, fun i hi => wpOp_mono (fun a' w' h' => wpAny_of_C fuel _ a' w' h') (h.2.2 i hi)⟩

def YieldsC (P : Program) (ops : Array Oper) (C : World → Prop) (o : Oper) (v : Value) (a : Act) : Prop :=
  (Region.wanted o (yielded ops a.tmps) = true ∧ ∀ w, C w → (execOp a.eval o).run P w = .ok (.value v) w) ∨ (Region.wanted o (yielded ops a.tmps) = false ∧ v = undef)

theorem YieldsC.of_same {o : Oper} {v : Value} {a a' : Act} (hy : YieldsC P ops C o v a) (he : execOp a'.eval o = execOp a.eval o)
    (hw : Region.wanted o (yielded ops a'.tmps) = Region.wanted o (yielded ops a.tmps)) : YieldsC P ops C o v a' := by
  unfold YieldsC at *
  rw [he, hw]
  exact hy

theorem YieldsC.wpOp {i : Nat} {o : Oper} {v : Value} {a : Act} {w : World} (hi : ops[i]? = some o) (hy : YieldsC P ops C o v a) (hC : C w) {K : Act → World → Prop} (h : K (a.put o.dst v) w) : wpOp P ops Q i K a w := by
  unfold Go.wpOp
  simp only [hi]
  rcases hy with ⟨hw, hv⟩ | ⟨hw, rfl⟩
  · simp only [hw, if_true, Oper.wp, hv w hC, Oper.upon]; exact .inl h
  · simp only [hw, Bool.false_eq_true, if_false]; exact h

theorem wpOp_putC {j : Nat} {oi oj : Oper} {v : Value} (hj : ops[j]? = some oj) (hap : oi.apart ops oj = true)
    (hsi : ∀ cs b, oi.op ≠ .select cs b) (hsj : ∀ cs b, oj.op ≠ .select cs b)
    (hQ : ∀ c a w, Q (.panic c) (a.put oi.dst v) w → Q (.panic c) a w) {K : Act → World → Prop} {a : Act} {w : World}
    (hy : YieldsC P ops C oi v a) (h : wpOp P ops Q j K (a.put oi.dst v) w) :
    wpOp P ops Q j (fun a' w' => YieldsC P ops C oi v a' ∧ K (a'.put oi.dst v) w') a w := by
  obtain ⟨h1, h2, h3⟩ := Oper.apart_spec hap
  have keep : ∀ (a : Act), YieldsC P ops C oi v a → ∀ u, YieldsC P ops C oi v (a.put oj.dst u) := fun a hy u =>
    hy.of_same (execOp_put oi hsi a oj.dst u h3) (wanted_put oi a oj.dst u h3)
  have keepD : ∀ d, YieldsC P ops C oi v { a with defers := d :: a.defers } := fun d => hy.of_same rfl rfl
  unfold wpOp at *
  simp only [hj] at *
  rw [wanted_put oj a oi.dst v h1] at h
  split
  · rename_i hw
    simp only [hw, if_true] at h
    rcases h with h | ⟨hasks, hlets⟩
    case inr => exact .inr ⟨by unfold Oper.asks at *; rw [execOp_put oj hsj a oi.dst v h1] at hasks; exact hasks, hlets⟩
    refine .inl ?_
    unfold Oper.wp at *
    rw [execOp_put oj hsj a oi.dst v h1] at h
    generalize (execOp a.eval oj).run P w = r at *
    cases r with
    | ok n w' =>
      cases n <;> simp only [Oper.upon] at h ⊢
      case value u => exact ⟨keep a hy u, by rw [← Act.put_comm a v u h2]; exact h⟩
      case skip => exact ⟨keep a hy _, by rw [← Act.put_comm a v undef h2]; exact h⟩
      case defer d =>
        refine ⟨keep _ (keepD d) _, ?_⟩
        rw [← Act.put_comm _ v undef h2, ← Act.put_defers]
        exact h
      case enter f args =>
        refine Calls.mono h fun e w'' he => ?_
        cases e with
        | returned u => exact ⟨keep a hy u, by rw [← Act.put_comm a v u h2]; exact he⟩
        | panicked c => exact hQ _ _ _ he
        | outgrown => exact he
      case row row args => exact Rows.mono h fun u w'' he => ⟨keep a hy u, by rw [← Act.put_comm a v u h2]; exact he⟩
    | halt x w' =>
      cases x <;> simp only [Oper.upon] at h ⊢
      case panic u => exact hQ _ _ _ h
  · rename_i hw
    simp only [hw] at h
    exact ⟨keep a hy _, by rw [← Act.put_comm a v undef h2]; exact h⟩

theorem wpAnyC_first {i : Nat} {oi : Oper} {v : Value} (hi : ops[i]? = some oi) (hsel : ∀ (j : Nat) (o : Oper) cs b, ops[j]? = some o → o.op ≠ .select cs b)
    (hQ : ∀ c a w, Q (.panic c) (a.put oi.dst v) w → Q (.panic c) a w) :
    ∀ (fuel : Nat) (listed : Array Bool) (a : Act) (w : World),
      (∀ j oj, ops[j]? = some oj → j ≠ i → listed.getD j true = false → (∀ e ∈ oj.after, Region.binds md e = true → e.on ≠ i) → oi.apart ops oj = true) →
      i ∈ Region.ready md ops listed → YieldsC P ops C oi v a →
      wpAnyC P md ops C Q fuel (listed.setIfInBounds i true) (a.put oi.dst v) w → wpAnyC P md ops C Q (fuel + 1) listed a w := by
  intro fuel
  induction fuel with
  | zero =>
    intro listed a w _ hr hy H
    refine ⟨H.1, fun h => (by rw [h] at hr; cases hr), fun j hj => ?_⟩
    by_cases hji : j = i
    · subst hji; exact hy.wpOp hi H.1 H
    · have := ready_mono hj hji
      rw [H.2.1] at this
      cases this
  | succ fuel ih =>
    intro listed a w hfree hr hy H
    refine ⟨H.1, fun h => (by rw [h] at hr; cases hr), fun j hj => ?_⟩
    by_cases hji : j = i
    · subst hji; exact hy.wpOp hi H.1 H
    · have h1 := H.2.2 j (ready_mono hj hji)
      obtain ⟨hjun, oj, hoj, hall⟩ := mem_ready.1 hj
      have hnot : ∀ e ∈ oj.after, Region.binds md e = true → e.on ≠ i := fun e he hb heq => by
        have h1 := hall e he hb
        have h0 := (mem_ready.1 hr).1
        rw [heq] at h1
        rcases Nat.lt_or_ge i listed.size with h' | h'
        · simp [h'] at h0 h1; rw [h0] at h1; cases h1
        · simp [Array.getElem?_eq_none h'] at h1
      have h2 := wpOp_putC hoj (hfree j oj hoj hji hjun hnot) (fun cs b => hsel i oi cs b hi) (fun cs b => hsel j oj cs b hoj) hQ hy h1
      have hfree' : ∀ k ok, ops[k]? = some ok → k ≠ i → (listed.setIfInBounds j true).getD k true = false →
          (∀ e ∈ ok.after, Region.binds md e = true → e.on ≠ i) → oi.apart ops ok = true := fun k ok hk hki hun hno => by
        refine hfree k ok hk hki ?_ hno
        by_cases hjk : j = k
        · subst hjk; exact hjun
        · rw [getD_set_ne true hjk] at hun; exact hun
      refine wpOp_mono (fun a' w' h3 => ih (listed.setIfInBounds j true) a' w' hfree' (ready_mono hr (Ne.symm hji)) h3.1 ?_) h2
      rw [Array.setIfInBounds_comm _ _ hji]
      exact h3.2

/-- Take it first. -/
theorem wpAnyC_take (i : Nat) (v : Value) {oi : Oper} {fuel : Nat} {listed : Array Bool} {a : Act} {w : World} (hi : ops[i]? = some oi)
    (hs : Region.noSelect ops = true) (hf : Region.free md ops listed i = true) (hr : (Region.ready md ops listed).contains i = true)
    (hQ : ∀ c a w, Q (.panic c) (a.put oi.dst v) w → Q (.panic c) a w) (hw : Region.wanted oi (yielded ops a.tmps) = true) (hy : ∀ w, C w → (execOp a.eval oi).run P w = .ok (.value v) w)
    (h : wpAnyC P md ops C Q fuel (listed.setIfInBounds i true) (a.put oi.dst v) w) : wpAnyC P md ops C Q (fuel + 1) listed a w :=
  wpAnyC_first hi (Region.noSelect_spec hs) hQ fuel listed a w (Region.free_spec hi hf) (by simpa using hr) (.inl ⟨hw, hy⟩) h

/-- One alone may come up. -/
theorem wpAnyC_one (i : Nat) {oi : Oper} {fuel : Nat} {listed : Array Bool} {a : Act} {w : World} (hC : C w) (hi : ops[i]? = some oi) (hr : Region.ready md ops listed = [i]) (hw : Region.wanted oi (yielded ops a.tmps) = true)
    (h : ∀ K : Act → World → Prop, (∀ a w, wpAnyC P md ops C Q fuel (listed.setIfInBounds i true) a w → K a w) → oi.wp P a w K Q) : wpAnyC P md ops C Q (fuel + 1) listed a w := by
  refine ⟨hC, (fun h0 => by rw [hr] at h0; cases h0), fun j hj => ?_⟩
  rw [hr] at hj
  simp only [List.mem_singleton] at hj
  subst hj
  unfold wpOp
  simp only [hi, hw, if_true]
  exact .inl (h _ (fun _ _ h => h))

/-- Two may come up. -/
theorem wpAnyC_two (i j : Nat) {oi oj : Oper} {fuel : Nat} {listed : Array Bool} {a : Act} {w : World} (hC : C w) (hi : ops[i]? = some oi) (hj : ops[j]? = some oj) (hr : Region.ready md ops listed = [i, j]) (hwi : Region.wanted oi (yielded ops a.tmps) = true) (hwj : Region.wanted oj (yielded ops a.tmps) = true)
    (h : ∀ K : Act → World → Prop, (∀ a w, wpAnyC P md ops C Q fuel (listed.setIfInBounds i true) a w → K a w) → oi.wp P a w K Q)
    (h2 : ∀ K : Act → World → Prop, (∀ a w, wpAnyC P md ops C Q fuel (listed.setIfInBounds j true) a w → K a w) → oj.wp P a w K Q) : wpAnyC P md ops C Q (fuel + 1) listed a w := by
  refine ⟨hC, (fun h0 => by rw [hr] at h0; cases h0), fun x hx => ?_⟩
  rw [hr] at hx
  simp only [List.mem_cons, List.not_mem_nil, or_false] at hx
  unfold wpOp
  rcases hx with rfl | rfl
  · simp only [hi, hwi, if_true]
    exact .inl (h _ (fun _ _ h => h))
  · simp only [hj, hwj, if_true]
    exact .inl (h2 _ (fun _ _ h => h))

theorem wpAnyC_done {fuel : Nat} {listed : Array Bool} {a : Act} {w : World} (hC : C w) (hr : Region.ready md ops listed = []) (h : Q .normal a w) : wpAnyC P md ops C Q fuel listed a w := by
  cases fuel with
  | zero => exact ⟨hC, hr, h⟩
  | succ n => exact ⟨hC, fun _ => h, by rw [hr]; simp⟩
end

end Go.Proofs.Ytigfoldobkigeaa

namespace Go.Proofs.Ytigfoldobkigeaa
open Go.RowKit
set_option linter.unusedVariables false
set_option linter.unusedSimpArgs false

theorem below_drewN {B : Nat} {a w : World} (h : Below B a w) (n : Nat) : Below B a (w.drewN n) := ⟨h.os, h.tape, h.output, h.size, h.block⟩
theorem below_drew (w : World) : Below w.heap.size w w.drew := ⟨rfl, rfl, rfl, Nat.le_refl _, fun _ _ => rfl⟩
theorem wanted_free {o : Oper} (h : o.guard = none) (y : Nat → Option Bool) : Region.wanted o y = true := by unfold Region.wanted; rw [h]
theorem far_cell {w w' : World} {row : Option Nat} (hg : w.grownBy w' row) (a : Addr) (hlt : a.block < w.heap.size) (hne : row ≠ some a.block) : w'.cell? a = w.cell? a := World.cell?_of_block (hg.block _ hlt (fun e => hne e.symm))

theorem own_facts {w : World} {base g : Nat} {zs : List Int} {n c : Nat} (h : w.ownsRow base 5 1 (.slice (some ⟨g, 0, none⟩) n c) n (cels zs)) (i : Nat) (hi : i < n) :
    w.cell? ⟨g, i, none⟩ = some (.int .u8 (zs.getD i 0)) := by
  have hl : zs.length = n := by have := h.1; simpa using this
  rw [h.cellAt i (by omega)]
  unfold cels
  rw [List.getElem?_map, List.getElem?_eq_getElem (by omega), List.getD_eq_getElem?_getD, List.getElem?_eq_getElem (by omega)]
  rfl

theorem own_set {w : World} {base g : Nat} {zs : List Int} {n c : Nat} (h : w.ownsRow base 5 1 (.slice (some ⟨g, 0, none⟩) n c) n (cels zs)) (i : Nat) (x : Int) :
    (w.setCell ⟨g, i, none⟩ (.int .u8 x)).ownsRow base 5 1 (.slice (some ⟨g, 0, none⟩) n c) n (cels (zs.set i x)) := by
  have := (h.stored i (.int .u8 x)).1
  unfold cels at *
  rw [List.map_set]
  exact this

theorem made_u8 (n : Nat) : (madeCells (Value.int .u8 0).cells (n * 1)).toList = cels (List.replicate n 0) := by
  simp [madeCells, Value.cells, cels]
  refine List.ext_getElem (by simp) (fun i h1 h2 => ?_)
  simp [Nat.mod_one]

theorem own_rd {w : World} {b n c g : Nat} {zs : List Int} (h : w.ownsRow b 5 1 (.slice (some ⟨g, 0, none⟩) n c) n (cels zs)) : RdAt w (.slice (some ⟨g, 0, none⟩) n c) zs := by
  obtain ⟨h0, h1⟩ := h
  have hz : zs.length = n := by simpa using h0
  refine Row.rd (show w.ownsRow 0 5 1 _ zs.length _ from ⟨by simp, ?_⟩)
  rw [hz]
  rcases h1 with h1 | ⟨g, cap, cur, e, _, rest⟩
  · exact .inl h1
  · exact .inr ⟨g, cap, cur, e, Nat.zero_le _, rest⟩

theorem own_base {w : World} {b b' n : Nat} {v : Value} {zs : List Value} (h : w.ownsRow b 5 1 v n zs) (hb : b' ≤ b) : w.ownsRow b' 5 1 v n zs := by
  refine ⟨h.1, ?_⟩
  rcases h.2 with h1 | ⟨g, cap, cur, e, hg, rest⟩
  · exact .inl h1
  · exact .inr ⟨g, cap, cur, e, Nat.le_trans hb hg, rest⟩

theorem own_of_block {w w' : World} {b n : Nat} {v : Value} {zs : List Value} (h : w.ownsRow b 5 1 v n zs) (hb : ∀ g, v.ownBlock = some g → w'.heap[g]? = w.heap[g]?) : w'.ownsRow b 5 1 v n zs := by
  refine ⟨h.1, ?_⟩
  rcases h.2 with hn | ⟨g, cap, cur, rfl, h0, hgg, rest⟩
  · exact .inl hn
  · exact .inr ⟨g, cap, cur, rfl, h0, (hb g rfl).trans hgg, rest⟩

theorem own_shape {w : World} {base n : Nat} {v : Value} {xs : List Value} (h : w.ownsRow base 5 1 v n xs) (h0 : 0 < n) : ∃ g cap, v = .slice (some ⟨g, 0, none⟩) n cap ∧ base ≤ g ∧ g < w.heap.size := by
  rcases id h.2 with ⟨_, h'⟩ | ⟨g, cap, cur, h', hb, _⟩
  · omega
  · exact ⟨g, cap, h', hb, (World.ownsRow.lt h g (by rw [h']; rfl)).2⟩

theorem own_re {w : World} {b b' n g k c : Nat} {xs : List Value} (h : w.ownsRow b 5 1 (.slice (some ⟨g, 0, none⟩) k c) n xs) (hb : b' ≤ g) : w.ownsRow b' 5 1 (.slice (some ⟨g, 0, none⟩) k c) n xs := by
  refine ⟨h.1, ?_⟩
  rcases h.2 with ⟨h1, _⟩ | ⟨g', cap, cur, e, _, rest⟩
  · cases h1
  · have : g' = g := by simp at e; exact e.1.symm
    subst this
    exact .inr ⟨g', cap, cur, e, hb, rest⟩

theorem wpList_append_new {w : World} {ops : Array Oper} {rest : List Oper} {o : Oper} {a : Act} {Q : Exit → Act → World → Prop} (hgd : o.guard = none) (d s : Operand)
    (ho : o.op = .call { callee := .builtin .append, args := #[d, s], argTypes := #[24, 24] })
    (base : Nat) (v sv : Value) (zs ds : List Int) (m n : Nat) (hd : a.eval d = v) (hs : a.eval s = sv) (hown : w.ownsRow base 5 1 v m (cels zs)) (hrd : RdAt w sv ds) (hpos : 0 < ds.length) (hm : zs.length = m) (hn : m + ds.length = n) (hlen : n ≤ 140737488355328) (hb : base ≤ w.heap.size)
    (h : ∀ g cap w', Kpt (w'.ownsRow base 5 1 (.slice (some ⟨g, 0, none⟩) n cap) n (cels (zs ++ ds))) → Kpt (base ≤ g ∧ g < w'.heap.size) → Kpt (w.grownBy w' v.ownBlock) →
      wpList Try.prog ops Q rest (a.put o.dst (.slice (some ⟨g, 0, none⟩) n cap)) w') : wpList Try.prog ops Q (o :: rest) a w := by
  subst hm hn
  obtain ⟨i0, hi0, hz0, hz1, hz2⟩ := info_parts Try.info5
  obtain ⟨sa, sc, rfl, hsn, hsl, hsr⟩ := hrd
  rcases hsr with h1 | ⟨b, soff, rfl, hc⟩
  · omega
  refine wpList_append_own _ hgd d s 24 ho base 5 i0 (.int .u8 0) 1 1 Try.underlying24 hi0 hz0 hz1 hz2 rfl (by decide) v zs.length (cels zs) hd hown ⟨b, soff, none⟩ ds.length sc (cels ds) hs (by simp) (fun j u hu => by rw [Go.WideShapes.add_plain]; exact hc j u hu) (cels_one _) (by unfold maxLen; omega) (by omega) hb ?_
  intro v1 w1 hown1 hg1 _
  obtain ⟨g, cap, rfl, hg, hlt⟩ := own_shape hown1 (by omega)
  exact h g cap w1 ⟨by rw [cels_append]; exact hown1⟩ ⟨hg, hlt⟩ ⟨hg1⟩

theorem own_alloc (W : World) (b n base : Nat) (zs : List Int) (hb : b = W.heap.size) (hn : n = zs.length) (hm : n ≤ 1000) (hbase : base ≤ b) :
    (W.alloc (.cells (cels zs).toArray 5)).ownsRow base 5 1 (.slice (some ⟨b, 0, none⟩) n n) n (cels zs) := by
  subst hb hn
  refine ⟨by simp, .inr ⟨W.heap.size, zs.length, (cels zs).toArray, rfl, hbase, (MapKept.heap_alloc W _).1, Nat.le_refl _, by unfold maxLen; omega, by simp, List.take_of_length_le (by simp)⟩⟩

theorem conv_at (w : World) (a : Option Addr) (len cap : Nat) (Z : List Int) (hz : Z.length = len) (hp : len = 0 ∨ ∃ b off, a = some ⟨b, off, none⟩ ∧ ∀ j, j < len → w.cell? ⟨b, off + j, none⟩ = some (.int .u8 (Z.getD j 0))) :
    (convert 24 9 (.slice a len cap)).run Try.prog w = .ok (.string (strOfNums Z)) w := by
  by_cases h0 : len = 0
  · subst h0
    have hz0 : Z = [] := List.eq_nil_of_length_eq_zero hz
    subst hz0
    cases a with
    | none => exact run_convert_bytes_nil w 24 5 Try.underlying24 Try.underlying5 0 cap 9 Try.underlying9
    | some x =>
      rw [run_convert_bytes_string w 24 9 5 _ 0 cap Try.underlying24 Try.underlying5 Try.underlying9, run_bytesToString w x 0 cap [] ?_]
      · rfl
      · exact run_loadCells_list (P := Try.prog) w x [] (fun j v hj => by simp at hj)
  · rcases hp with h | ⟨b, off, rfl, hc⟩
    · exact absurd h h0
    · exact run_convert_bytes_arg w 24 5 Try.underlying24 Try.underlying5 b off len cap Z hz hc 9 Try.underlying9


theorem conv_rd {w : World} {v : Value} {zs : List Int} (h : RdAt w v zs) : (convert 24 9 v).run Try.prog w = .ok (.string (strOfNums zs)) w := by
  obtain ⟨a, c, rfl, ha, hlc, h⟩ := h
  refine conv_at w a zs.length c zs rfl ?_
  rcases h with h | ⟨b, off, rfl, hc⟩
  · exact .inl h
  · refine .inr ⟨b, off, rfl, fun j hj => ?_⟩
    refine hc j _ ?_
    rw [cels, List.getElem?_map, List.getElem?_eq_getElem hj, List.getD_eq_getElem?_getD, List.getElem?_eq_getElem hj]
    rfl

theorem wp_append_new {w : World} {o : Oper} {a : Act} {K : Act → World → Prop} {Q : Exit → Act → World → Prop} (hgd : o.guard = none) (d s : Operand)
    (ho : o.op = .call { callee := .builtin .append, args := #[d, s], argTypes := #[24, 24] })
    (base : Nat) (v sv : Value) (zs ds : List Int) (m n : Nat) (hd : a.eval d = v) (hs : a.eval s = sv) (hown : w.ownsRow base 5 1 v m (cels zs)) (hrd : RdAt w sv ds) (hpos : 0 < ds.length) (hm : zs.length = m) (hn : m + ds.length = n) (hlen : n ≤ 140737488355328) (hb : base ≤ w.heap.size)
    (h : ∀ g cap w', Kpt (w'.ownsRow base 5 1 (.slice (some ⟨g, 0, none⟩) n cap) n (cels (zs ++ ds))) → Kpt (base ≤ g ∧ g < w'.heap.size) → Kpt (w.grownBy w' v.ownBlock) →
      K (a.put o.dst (.slice (some ⟨g, 0, none⟩) n cap)) w') : o.wp Try.prog a w K Q := by
  subst hm hn
  obtain ⟨i0, hi0, hz0, hz1, hz2⟩ := info_parts Try.info5
  obtain ⟨sa, sc, rfl, hsn, hsl, hsr⟩ := hrd
  rcases hsr with h1 | ⟨b, soff, rfl, hc⟩
  · omega
  obtain ⟨v', w', hr, h2, h3, h4, h5⟩ := run_append_own_at (P := Try.prog) w base 24 o.type 5 i0 (.int .u8 0) 1 1 Try.underlying24 hi0 hz0 hz1 hz2 rfl (by decide) v zs.length (cels zs) hown ⟨b, soff, none⟩ ds.length sc (cels ds) (by simp) (fun j u hu => by rw [Go.WideShapes.add_plain]; exact hc j u hu) (cels_one _) (by unfold maxLen; omega) (by omega) hb
  obtain ⟨g, cap, rfl, hg, hlt⟩ := own_shape h2 (by omega)
  unfold Oper.wp execOp
  simp only [ho, resolve, invoke, builtin, Sem.run_bind, Sem.run_pure, Result.andThen_ok, List.map_toArray, List.map_cons, List.map_nil, hd, hs, hr]
  exact h g cap w' ⟨by rw [cels_append]; exact h2⟩ ⟨hg, hlt⟩ ⟨h3⟩

theorem below_undrew {n : Nat} {a b : World} (h : Below n a.drew b) : Below n a b := ⟨h.os, h.tape, h.output, h.size, h.block⟩
end Go.Proofs.Ytigfoldobkigeaa

namespace Go.Proofs.Ytigfoldobkigeaa
open Go.RowKit Go.Maps
set_option linter.unusedVariables false
set_option linter.unusedSimpArgs false

theorem Try.eqlNilSlice (w : World) : (binOp .eql 24 (.slice none 0 0) (.slice none 0 0)).run Try.prog w = .ok (.bool true) w := by kernel_rfl
theorem Try.eqlSlice (a : Addr) (n c : Nat) (w : World) : (binOp .eql 24 (.slice (some a) n c) (.slice none 0 0)).run Try.prog w = .ok (.bool false) w := by kernel_rfl

/-- append(v, p...), v owned. -/
theorem wpList_append_rd {w : World} {ops : Array Oper} {rest : List Oper} {o : Oper} {a : Act} {Q : Exit → Act → World → Prop} (hgd : o.guard = none) (s x : Operand)
    (ho : o.op = .call { callee := .builtin .append, args := #[s, x], argTypes := #[24, 24] })
    (base : Nat) (v : Value) (xs : List Int) (hs : a.eval s = v) (hown : w.ownsRow base 5 1 v xs.length (cels xs))
    (sv : Value) (ds : List Int) (hx : a.eval x = sv) (hrd : RdAt w sv ds) (hroom : xs.length + ds.length ≤ 140737488355328) (hbase : base ≤ w.heap.size)
    (h : ∀ v' w', w'.ownsRow base 5 1 v' (xs ++ ds).length (cels (xs ++ ds)) → w.grownBy w' v.ownBlock → wpList Try.prog ops Q rest (a.put o.dst v') w') :
    wpList Try.prog ops Q (o :: rest) a w := by
  obtain ⟨i0, hi0, hz0, hz1, hz2⟩ := info_parts Try.info5
  obtain ⟨sa, sc, rfl, hsn, hsl, hsr⟩ := hrd
  cases sa with
  | none =>
    obtain ⟨hl, rfl⟩ := hsn rfl
    obtain rfl : ds = [] := List.eq_nil_of_length_eq_zero hl
    refine wpList_append_own_none hgd s x 24 ho base 5 i0 1 Try.underlying24 hi0 v xs.length (cels xs) hs hown hx ?_
    exact h v w (by simpa using hown) ⟨rfl, rfl, rfl, Nat.le_refl _, fun _ _ _ => rfl⟩
  | some ad =>
    have hnews : ∀ (j : Nat) (u : Value), (cels ds)[j]? = some u → w.cell? (ad.add j) = some u := by
      intro j u hj
      rcases hsr with h0 | ⟨b, off, hb, hc⟩
      · obtain rfl : ds = [] := List.eq_nil_of_length_eq_zero h0
        simp [cels] at hj
      · have hb' : ad = ⟨b, off, none⟩ := by simpa using hb
        subst hb'
        rw [Go.WideShapes.add_plain]
        exact hc j u hj
    refine wpList_append_own w hgd s x 24 ho base 5 i0 (.int .u8 0) 1 1 Try.underlying24 hi0 hz0 hz1 hz2 rfl (by decide) v xs.length (cels xs) hs hown ad ds.length sc (cels ds) hx (by simp) hnews
      (cels_one _) (by unfold maxLen; omega) (by omega) hbase ?_
    intro v' w' hown' hg _
    exact h v' w' (by rw [List.length_append, cels_append]; exact hown') hg

/-- A row that may be read, as new memory or none. -/
theorem clone_any (w : World) (dv : Value) (ds : List Int) (hrd : RdAt w dv ds) (hl : ds.length ≤ 140737488355328) :
    Calls Try.prog 36 #[dv] w fun e w' => ∃ v', e = .returned v' ∧ Row w' v' ds ∧ w.grownBy w' none ∧ ∀ g, v'.ownBlock = some g → w.heap.size ≤ g := by
  obtain ⟨sa, sc, rfl, hsn, hsl, hsr⟩ := hrd
  cases sa with
  | none =>
    obtain ⟨hl0, rfl⟩ := hsn rfl
    obtain rfl : ds = [] := List.eq_nil_of_length_eq_zero hl0
    have h0 := Try.eqlNilSlice
    go_enter Try.func36, Try.ntmps36
    go_wp2
    go_ret
    exact ⟨_, rfl, row_nil _, ⟨rfl, rfl, rfl, Nat.le_refl _, fun _ _ _ => rfl⟩, by simp [Value.ownBlock]⟩
  | some ad =>
    have h0 := Try.eqlSlice ad ds.length sc
    have hrd' : ∀ o, RdAt (w.alloc o) (.slice (some ad) ds.length sc) ds := by
      intro o
      refine ⟨some ad, sc, rfl, hsn, hsl, ?_⟩
      rcases hsr with h | ⟨b, off, hb, hc⟩
      · exact .inl h
      · refine .inr ⟨b, off, hb, fun j u hu => ?_⟩
        have := hc j u hu
        exact (World.grownBy_alloc w o none).cell this (by simp)
    have hown0 : (w.alloc (.cells #[] 5)).ownsRow w.heap.size 5 1 (.slice (some ⟨w.heap.size, 0, none⟩) 0 0) ([] : List Int).length (cels []) := World.ownsRow_made w #[] 0 (Nat.le_refl _) (Nat.zero_le _) rfl
    replace hrd' := Kpt.mk hrd'
    replace hown0 := Kpt.mk hown0
    clear hsr hsn
    go_enter Try.func36, Try.ntmps36
    go_wp2_with (at_builtin; refine wpList_append_rd rfl _ _ rfl w.heap.size (.slice (some ⟨w.heap.size, 0, none⟩) 0 0) [] rfl hown0.out _ ds rfl (hrd'.out _) (by simpa using hl) (by simp) ?_; intro v' w' hown' hg')
    go_ret
    rw [List.nil_append] at hown'
    have hgr : w.grownBy w' none := (World.grownBy_alloc w (.cells #[] 5) none).andThen hg' (by simp [Value.ownBlock])
    refine ⟨v', rfl, ⟨hown'.1, ?_⟩, hgr, fun g hg => (hown'.lt g hg).1⟩
    rcases hown'.2 with hn | ⟨g, cap, cur, hv, hb, rest⟩
    · exact .inl hn
    · exact .inr ⟨g, cap, cur, hv, Nat.zero_le _, rest⟩
end Go.Proofs.Ytigfoldobkigeaa

namespace Go.Proofs.Ytigfoldobkigeaa.B
open Go.RowKit

def widB (n : Int) : Bool := decide (1 ≤ n ∧ n ≤ 8)
def insB (len : Nat) (at' n : Int) : Bool := decide (0 ≤ at' ∧ at' ≤ (len : Int) - n)

theorem ret_bool {a b : Bool} (h : a = b) : Ending.returned (.bool a) = .returned (.bool b) := by rw [h]

theorem width_any (n : Int) (w : World) :
    Calls Try.prog 44 #[.int .i64 n] w fun e w' => e = .returned (.bool (widB n)) ∧ w' = w := by
  by_cases h1 : 1 ≤ n
  · by_cases h2 : n ≤ 8
    · go_enter Try.func44, Try.ntmps44
      go_wp2
      go_ret
      exact ⟨ret_bool (by simp [widB, h1, h2]), rfl⟩
    · go_enter Try.func44, Try.ntmps44
      go_wp2
      go_ret
      exact ⟨ret_bool (by simp [widB, h1, h2]), rfl⟩
  · go_enter Try.func44, Try.ntmps44
    go_wp2
    go_ret
    exact ⟨ret_bool (by simp [widB]; omega), rfl⟩

theorem inside_any (a : Option Addr) (len cap : Nat) (i n : Int) (w : World) (hl : len ≤ maxLen) (hn1 : 1 ≤ n) (hn2 : n ≤ 8) :
    Calls Try.prog 45 #[.slice a len cap, .int .i64 i, .int .i64 n] w fun e w' => e = .returned (.bool (insB len i n)) ∧ w' = w := by
  unfold maxLen at hl
  by_cases h1 : 0 ≤ i
  · by_cases h2 : i ≤ (len : Int) - n
    · go_enter Try.func45, Try.ntmps45
      go_wp2
      go_ret
      exact ⟨ret_bool (by simp [insB, h1, h2]), rfl⟩
    · go_enter Try.func45, Try.ntmps45
      go_wp2
      go_ret
      exact ⟨ret_bool (by simp [insB, h1, h2]), rfl⟩
  · go_enter Try.func45, Try.ntmps45
    go_wp2
    go_ret
    exact ⟨ret_bool (by simp [insB]; omega), rfl⟩

theorem field_arg (len : Nat) (i n : Int) (w : World) (h : n < 1 ∨ 8 < n) :
    Calls Try.prog 43 #[.int .i64 len, .int .i64 i, .int .i64 n] w fun e w' => e = .returned (.int .i64 1) ∧ w' = w := by
  by_cases h1 : n < 1
  · go_enter Try.func43, Try.ntmps43
    go_wp2
    go_ret
    exact ⟨rfl, rfl⟩
  · have h2 : 8 < n := by omega
    clear h
    go_enter Try.func43, Try.ntmps43
    go_wp2
    go_ret
    exact ⟨rfl, rfl⟩

theorem field_ok (len : Nat) (i n : Int) (w : World) (hl : len ≤ maxLen) (hn1 : 1 ≤ n) (hn2 : n ≤ 8) (h0 : 0 ≤ i) (h1 : i ≤ (len : Int) - n) :
    Calls Try.prog 43 #[.int .i64 len, .int .i64 i, .int .i64 n] w fun e w' => e = .returned (.int .i64 0) ∧ w' = w := by
  unfold maxLen at hl
  have h2 : i < len := by omega
  have h3 : ¬ (len : Int) ≤ i := by omega
  have h4 : ¬ (len : Int) - i < n := by omega
  go_enter Try.func43, Try.ntmps43
  go_wp2
  go_ret
  exact ⟨rfl, rfl⟩

theorem field_range (len : Nat) (i n : Int) (w : World) (_hl : len ≤ maxLen) (hn1 : 1 ≤ n) (hn2 : n ≤ 8) (h : ¬ (0 ≤ i ∧ i ≤ (len : Int) - n)) :
    Calls Try.prog 43 #[.int .i64 len, .int .i64 i, .int .i64 n] w fun e w' => e = .returned (.int .i64 4) ∧ w' = w := by
  unfold maxLen at _hl
  by_cases h0 : i < 0
  · clear h
    go_enter Try.func43, Try.ntmps43
    go_wp2
    go_ret
    exact ⟨rfl, rfl⟩
  · by_cases h2 : (len : Int) ≤ i
    · clear h
      go_enter Try.func43, Try.ntmps43
      go_wp2
      go_ret
      exact ⟨rfl, rfl⟩
    · have h4 : (len : Int) - i < n := by omega
      clear h
      go_enter Try.func43, Try.ntmps43
      go_wp2
      go_ret
      exact ⟨rfl, rfl⟩

end Go.Proofs.Ytigfoldobkigeaa.B

namespace Go.Proofs.Ytigfoldobkigeaa.B

/-- The number of the first k bytes from the place i on. -/
def num (zs : List Int) (i : Nat) : Nat → Int
  | 0 => 0
  | k + 1 => num zs i k * 256 + zs.getD (i + k) 0

/-- All are bytes. -/
def Bytes (zs : List Int) : Prop := ∀ j, 0 ≤ zs.getD j 0 ∧ zs.getD j 0 ≤ 255

theorem num_bd (zs : List Int) (i : Nat) (hb : Bytes zs) : ∀ k, 0 ≤ num zs i k ∧ num zs i k < 256 ^ k
  | 0 => by simp [num]
  | k + 1 => by
    have ih := num_bd zs i hb k
    have h := hb (i + k)
    have e : (256 : Int) ^ (k + 1) = 256 ^ k * 256 := Int.pow_succ ..
    unfold num
    omega

theorem pow_pos256 : ∀ k : Nat, (0 : Int) < 256 ^ k
  | 0 => by simp
  | k + 1 => by
    have ih := pow_pos256 k
    have e : (256 : Int) ^ (k + 1) = 256 ^ k * 256 := Int.pow_succ ..
    omega

theorem pow_le (k : Nat) : ∀ d : Nat, (256 : Int) ^ k ≤ 256 ^ (k + d)
  | 0 => Int.le_refl _
  | d + 1 => by
    have ih := pow_le k d
    have h := pow_pos256 (k + d)
    have e : (256 : Int) ^ (k + (d + 1)) = 256 ^ (k + d) * 256 := Int.pow_succ ..
    omega

theorem num_bd7 (zs : List Int) (i : Nat) (hb : Bytes zs) (k : Nat) (hk : k < 8) : 0 ≤ num zs i k ∧ num zs i k < 72057594037927936 := by
  have h := num_bd zs i hb k
  have h2 := pow_le k (7 - k)
  have e : (256 : Int) ^ (k + (7 - k)) = 72057594037927936 := by
    rw [show k + (7 - k) = 7 by omega]; decide
  omega

theorem wrap64_id (x : Int) (h0 : 0 ≤ x) (h1 : x < 18446744073709551616) : IntKind.u64.wrap x = x := by
  rw [IntKind.wrap_u64]; omega

/-- A round of the program's Get. -/
theorem num_step_or (zs : List Int) (i : Nat) (hb : Bytes zs) (k : Nat) (hk : k < 8) :
    bits BinOp.or IntKind.u64 (IntKind.u64.wrap (num zs i k * 256)) (IntKind.u64.wrap (zs[i + k]?.getD 0)) = num zs i (k + 1) := by
  have h := num_bd7 zs i hb k hk
  have h2 := hb (i + k)
  rw [List.getD_eq_getElem?_getD] at h2
  rw [wrap64_id _ (by omega) (by omega), wrap64_id _ (by omega) (by omega)]
  rw [bits_join .u64 64 (by decide) (fun n h0 h1 => wrap64_id n h0 (by omega)) 8 _ _ (by omega) (by omega) (by omega) (by omega) (by omega) (by omega)]
  simp [num]

/-- A round of the document's. -/
theorem num_step_add (zs : List Int) (i : Nat) (hb : Bytes zs) (k : Nat) (hk : k < 8) :
    IntKind.u64.wrap (IntKind.u64.wrap (num zs i k * 256) + IntKind.u64.wrap (zs[i + k]?.getD 0)) = num zs i (k + 1) := by
  have h := num_bd7 zs i hb k hk
  have h2 := hb (i + k)
  rw [List.getD_eq_getElem?_getD] at h2
  rw [wrap64_id (num zs i k * 256) (by omega) (by omega), wrap64_id (zs[i + k]?.getD 0) (by omega) (by omega), wrap64_id _ (by omega) (by omega)]
  simp [num]

end Go.Proofs.Ytigfoldobkigeaa.B

namespace Go.Proofs.Ytigfoldobkigeaa.B
open Go.RowKit

theorem get_arg (a : Option Addr) (len cap : Nat) (i n : Int) (w : World) (h : widB n = false) :
    Calls Try.prog 41 #[.slice a len cap, .int .i64 i, .int .i64 n] w fun e w' => e = .returned (.tuple #[.int .u64 0, .int .i64 1]) ∧ w' = w := by
  go_enter Try.func41, Try.ntmps41
  go_wp2_with (go_at_call 44; refine (width_any _ _).mono ?_; rintro e w' ⟨rfl, rfl⟩)
  go_ret2
  exact ⟨rfl, rfl⟩

theorem get_range (a : Option Addr) (len cap : Nat) (i n : Int) (w : World) (hl : len ≤ maxLen) (h : widB n = true) (h2 : insB len i n = false) :
    Calls Try.prog 41 #[.slice a len cap, .int .i64 i, .int .i64 n] w fun e w' => e = .returned (.tuple #[.int .u64 0, .int .i64 4]) ∧ w' = w := by
  have hn : 1 ≤ n ∧ n ≤ 8 := by simpa [widB] using h
  go_enter Try.func41, Try.ntmps41
  go_wp2_with (first | (go_at_call 44; refine (width_any _ _).mono ?_; rintro e w' ⟨rfl, rfl⟩) | (go_at_call 45; refine (inside_any _ _ _ _ _ _ hl hn.1 hn.2).mono ?_; rintro e w' ⟨rfl, rfl⟩))
  go_ret2
  exact ⟨rfl, rfl⟩

set_option maxHeartbeats 400000 in
theorem get_ok (b off len cap i n : Nat) (zs : List Int) (w : World) (hl : len ≤ maxLen) (hn1 : 1 ≤ n) (hn2 : n ≤ 8) (hi : i + n ≤ len) (hb : Bytes zs)
    (hc : ∀ j, j < len → w.cell? ⟨b, off + j, none⟩ = some (.int .u8 (zs.getD j 0))) :
    Calls Try.prog 41 #[.slice (some ⟨b, off, none⟩) len cap, .int .i64 i, .int .i64 n] w fun e w' => e = .returned (.tuple #[.int .u64 (num zs i n), .int .i64 0]) ∧ w' = w := by
  have H1 : widB n = true := by simp [widB]; omega
  have H2 : insB len i n = true := by simp [insB]; omega
  unfold maxLen at hl
  go_enter Try.func41, Try.ntmps41
  go_wp2_with (first | (go_at_call 44; refine (width_any _ _).mono ?_; rintro e w' ⟨rfl, rfl⟩) | (go_at_call 45; refine (inside_any _ _ _ _ _ _ (by unfold maxLen; omega) (by omega) (by omega)).mono ?_; rintro e w' ⟨rfl, rfl⟩))
  go_loop [8, 19] (fun v t => ∃ k : Nat, k ≤ n ∧ v = .int .u64 (num zs i k) ∧ t = .int .i64 k) (fun _ t => n - (intOf t).toNat)
  case atStart => exact ⟨0, by omega, rfl, rfl⟩
  case round =>
    obtain ⟨k, hk, rfl, rfl⟩ := hrel
    by_cases hlt : k < n
    · have hcell := hc (i + k) (by omega)
      go_wp2
      go_round
      case rel => exact ⟨k + 1, by omega, by rw [num_step_or zs i hb k (by omega)], by go_num⟩
      case measure => simp [intOf]; omega
    · have : k = n := by omega
      subst this
      go_wp2
      go_ret2
      exact ⟨rfl, rfl⟩

/-! The document's. -/

theorem rget_arg (a : Option Addr) (len cap : Nat) (i n : Int) (w : World) (h : widB n = false) :
    Calls Try.prog 37 #[.slice a len cap, .int .i64 i, .int .i64 n] w fun e w' => e = .returned (.tuple #[.int .u64 0, .int .i64 1]) ∧ w' = w := by
  have hn : n < 1 ∨ 8 < n := by simp [widB] at h; omega
  go_enter Try.func37, Try.ntmps37
  go_wp2_with (go_at_call 43; refine (field_arg _ _ _ _ hn).mono ?_; rintro e w' ⟨rfl, rfl⟩)
  go_ret2
  exact ⟨rfl, rfl⟩

theorem rget_range (a : Option Addr) (len cap : Nat) (i n : Int) (w : World) (hl : len ≤ maxLen) (h : widB n = true) (h2 : insB len i n = false) :
    Calls Try.prog 37 #[.slice a len cap, .int .i64 i, .int .i64 n] w fun e w' => e = .returned (.tuple #[.int .u64 0, .int .i64 4]) ∧ w' = w := by
  have hn : 1 ≤ n ∧ n ≤ 8 := by simpa [widB] using h
  have hi : ¬ (0 ≤ i ∧ i ≤ (len : Int) - n) := by simpa [insB] using h2
  go_enter Try.func37, Try.ntmps37
  go_wp2_with (go_at_call 43; refine (field_range _ _ _ _ hl hn.1 hn.2 hi).mono ?_; rintro e w' ⟨rfl, rfl⟩)
  go_ret2
  exact ⟨rfl, rfl⟩

set_option maxHeartbeats 400000 in
theorem rget_ok (b off len cap i n : Nat) (zs : List Int) (w : World) (hl : len ≤ maxLen) (hn1 : 1 ≤ n) (hn2 : n ≤ 8) (hi : i + n ≤ len) (hb : Bytes zs)
    (hc : ∀ j, j < len → w.cell? ⟨b, off + j, none⟩ = some (.int .u8 (zs.getD j 0))) :
    Calls Try.prog 37 #[.slice (some ⟨b, off, none⟩) len cap, .int .i64 i, .int .i64 n] w fun e w' => e = .returned (.tuple #[.int .u64 (num zs i n), .int .i64 0]) ∧ w' = w := by
  have hl' := hl
  unfold maxLen at hl
  go_enter Try.func37, Try.ntmps37
  go_wp2_with (go_at_call 43; refine (field_ok _ _ _ _ hl' (by omega) (by omega) (by omega) (by omega)).mono ?_; rintro e w' ⟨rfl, rfl⟩)
  go_loop [9, 10] (fun v t => ∃ k : Nat, k ≤ n ∧ v = .int .u64 (num zs i k) ∧ t = .int .i64 k) (fun _ t => n - (intOf t).toNat)
  case atStart => exact ⟨0, by omega, rfl, rfl⟩
  case round =>
    obtain ⟨k, hk, rfl, rfl⟩ := hrel
    by_cases hlt : k < n
    · have hcell := hc (i + k) (by omega)
      go_wp2
      go_round
      case rel => exact ⟨k + 1, by omega, by rw [num_step_add zs i hb k (by omega)], by go_num⟩
      case measure => simp [intOf]; omega
    · have : k = n := by omega
      subst this
      go_wp2
      go_ret2
      exact ⟨rfl, rfl⟩

end Go.Proofs.Ytigfoldobkigeaa.B

namespace Go.Proofs.Ytigfoldobkigeaa.B
open Go.RowKit

/-- A row of bytes is there (or it has none). -/
def RowAt (w : World) (a : Option Addr) (len : Nat) (zs : List Int) : Prop :=
  len = 0 ∨ ∃ b off, a = some ⟨b, off, none⟩ ∧ ∀ j, j < len → w.cell? ⟨b, off + j, none⟩ = some (.int .u8 (zs.getD j 0))

theorem RowAt.below {w w' : World} {a : Option Addr} {len : Nat} {zs : List Int} (h : RowAt w a len zs) (hb : Below w.heap.size w w') : RowAt w' a len zs := by
  rcases h with h | ⟨b, off, ha, hc⟩
  · exact .inl h
  · refine .inr ⟨b, off, ha, fun j hj => ?_⟩
    have h1 := hc j hj
    rw [hb.cell (p := ⟨b, off + j, none⟩) (World.block_lt_of_cell? w ⟨b, off + j, none⟩ h1)]
    exact h1

theorem rowAt_of {w : World} {a : Option Addr} {len cap : Nat} {zs : List Int}
    (h : (a = none ∧ len = 0 ∧ cap = 0 ∧ zs = []) ∨
      ∃ x, a = some x ∧ len ≤ cap ∧ cap ≤ maxLen ∧ zs.length = cap ∧ (∀ i, i < zs.length → w.cell? (x.add i) = some (.int .u8 (zs.getD i 0))) ∧ ∀ n ∈ zs, (Lit.int .u8 n).wf = true) :
    RowAt w a len zs ∧ Bytes zs ∧ len ≤ maxLen := by
  rcases h with ⟨_, h, _, hz⟩ | ⟨x, rfl, hlc, hm, hz, hcell, hwz⟩
  · refine ⟨.inl h, ?_, ?_⟩
    · intro j; rw [hz]; simp
    · rw [h]; exact Nat.zero_le _
  · refine ⟨?_, fun j => by rw [List.getD_eq_getElem?_getD]; exact range_u8 hwz j, by omega⟩
    by_cases h0 : len = 0
    · exact .inl h0
    · obtain ⟨b, off, rfl, hc⟩ := ints_at hcell (by omega)
      exact .inr ⟨b, off, rfl, fun j hj => hc j (by omega)⟩

theorem rowAt_of' {w : World} {a : Option Addr} {len cap : Nat} {zs : List Int}
    (h : (a = none ∧ len = 0 ∧ cap = 0 ∧ zs = []) ∨
      ∃ x, a = some x ∧ len ≤ cap ∧ cap ≤ 140737488351232 ∧ zs.length = cap ∧ (∀ i, i < zs.length → w.cell? (x.add i) = some (.int .u8 (zs.getD i 0))) ∧ ∀ n ∈ zs, (Lit.int .u8 n).wf = true) :
    RowAt w a len zs ∧ Bytes zs := by
  have h' := rowAt_of (w := w) (a := a) (len := len) (cap := cap) (zs := zs) (by
    rcases h with h | ⟨x, h1, h2, h3, h4⟩
    · exact .inl h
    · exact .inr ⟨x, h1, h2, by unfold maxLen; omega, h4⟩)
  exact ⟨h'.1, h'.2.1⟩

end Go.Proofs.Ytigfoldobkigeaa.B

namespace Go.Proofs.Ytigfoldobkigeaa.B

/-- The list with the number's first k bytes laid in. -/
def asc (Z : List Int) (i n : Nat) (v : Int) : Nat → List Int
  | 0 => Z
  | k + 1 => (asc Z i n v k).set (i + k) (v / 2 ^ (8 * (n - 1 - k)) % 256)

/-- The list with the number's last m bytes laid in. -/
def desc (Z : List Int) (i n : Nat) (v : Int) : Nat → List Int
  | 0 => Z
  | m + 1 => (desc Z i n v m).set (i + (n - 1 - m)) (v / 2 ^ (8 * m) % 256)

theorem asc_len (Z : List Int) (i n : Nat) (v : Int) : ∀ k, (asc Z i n v k).length = Z.length
  | 0 => rfl
  | k + 1 => by simp [asc, asc_len Z i n v k]

theorem desc_len (Z : List Int) (i n : Nat) (v : Int) : ∀ k, (desc Z i n v k).length = Z.length
  | 0 => rfl
  | k + 1 => by simp [desc, desc_len Z i n v k]

theorem asc_get (Z : List Int) (i n : Nat) (v : Int) (hi : i + n ≤ Z.length) : ∀ k, k ≤ n → ∀ j, (asc Z i n v k)[j]? = if i ≤ j ∧ j < i + k then some (v / 2 ^ (8 * (n - 1 - (j - i))) % 256) else Z[j]?
  | 0, _, j => by simp [asc]; omega
  | k + 1, hk, j => by
    have ih := asc_get Z i n v hi k (by omega) j
    rw [asc, List.getElem?_set]
    by_cases h1 : i + k = j
    · subst h1
      rw [if_pos rfl, if_pos (by rw [asc_len]; omega), if_pos (by omega), Nat.add_sub_cancel_left]
    · rw [if_neg h1, ih]
      by_cases h2 : i ≤ j ∧ j < i + k
      · rw [if_pos h2, if_pos (by omega)]
      · rw [if_neg h2, if_neg (by omega)]

theorem desc_get (Z : List Int) (i n : Nat) (v : Int) (hi : i + n ≤ Z.length) : ∀ m, m ≤ n → ∀ j, (desc Z i n v m)[j]? = if i + (n - m) ≤ j ∧ j < i + n then some (v / 2 ^ (8 * (n - 1 - (j - i))) % 256) else Z[j]?
  | 0, _, j => by simp [desc]; omega
  | m + 1, hm, j => by
    have ih := desc_get Z i n v hi m (by omega) j
    rw [desc, List.getElem?_set]
    by_cases h1 : i + (n - 1 - m) = j
    · subst h1
      rw [if_pos rfl, if_pos (by rw [desc_len]; omega), if_pos (by omega), Nat.add_sub_cancel_left, show n - 1 - (n - 1 - m) = m by omega]
    · rw [if_neg h1, ih]
      by_cases h2 : i + (n - m) ≤ j ∧ j < i + n
      · rw [if_pos h2, if_pos (by omega)]
      · rw [if_neg h2, if_neg (by omega)]

theorem desc_asc (Z : List Int) (i n : Nat) (v : Int) (hi : i + n ≤ Z.length) : desc Z i n v n = asc Z i n v n := by
  apply List.ext_getElem?
  intro j
  rw [desc_get Z i n v hi n (Nat.le_refl _), asc_get Z i n v hi n (Nat.le_refl _)]
  by_cases h : i ≤ j ∧ j < i + n
  · rw [if_pos (by omega), if_pos h]
  · rw [if_neg (by omega), if_neg h]

/-- One byte more is taken off. -/
theorem div_step (v : Int) (k : Nat) : v / 2 ^ (8 * k) / 256 = v / 2 ^ (8 * (k + 1)) := by
  rw [Int.ediv_ediv_of_nonneg (by exact Int.le_of_lt (Int.pow_pos (by decide)))]
  congr 1
  rw [show 8 * (k + 1) = 8 * k + 8 by omega, Int.pow_add]
  rfl

theorem div_nonneg (v : Int) (h : 0 ≤ v) (k : Nat) : 0 ≤ v / 2 ^ (8 * k) :=
  Int.ediv_nonneg h (Int.le_of_lt (Int.pow_pos (by decide)))

theorem div_le (v : Int) (h : 0 ≤ v) (k : Nat) : v / 2 ^ (8 * k) ≤ v :=
  Int.ediv_le_self _ h

/-- A round of the document's division. -/
theorem quo_step (v : Int) (h0 : 0 ≤ v) (h1 : v < 18446744073709551616) (k : Nat) : IntKind.u64.wrap ((v / 2 ^ (8 * k)).tdiv 256) = v / 2 ^ (8 * (k + 1)) := by
  have a := div_nonneg v h0 k
  have b := div_le v h0 (k + 1)
  have c := div_nonneg v h0 (k + 1)
  rw [Int.tdiv_eq_ediv_of_nonneg a, div_step, wrap64_id _ c (by omega)]

theorem bytes_asc (Z : List Int) (hb : Bytes Z) (i n : Nat) (v : Int) (hi : i + n ≤ Z.length) (k : Nat) (hk : k ≤ n) : Bytes (asc Z i n v k) := by
  intro j
  rw [List.getD_eq_getElem?_getD, asc_get Z i n v hi k hk]
  by_cases h : i ≤ j ∧ j < i + k
  · rw [if_pos h]
    simp only [Option.getD_some]
    omega
  · rw [if_neg h, ← List.getD_eq_getElem?_getD]
    exact hb j

end Go.Proofs.Ytigfoldobkigeaa.B

namespace Go.Proofs.Ytigfoldobkigeaa.B
open Go.RowKit
set_option linter.unusedVariables false

theorem Try.info5 : (Try.prog.info? 5).map (fun i => (i.zero, i.size, i.bytes)) = some (some (.int .u8 0), 1, 1) := by kernel_rfl

theorem put_arg (a : Option Addr) (len cap : Nat) (i n v : Int) (w : World) (h : widB n = false) :
    Calls Try.prog 38 #[.slice a len cap, .int .i64 i, .int .i64 n, .int .u64 v] w fun e w' => e = .returned (.tuple #[.slice none 0 0, .int .i64 1]) ∧ w' = w := by
  go_enter Try.func38, Try.ntmps38
  go_wp2_with (go_at_call 44; refine (width_any _ _).mono ?_; rintro e w' ⟨rfl, rfl⟩)
  go_ret2
  exact ⟨rfl, rfl⟩

theorem put_form (a : Option Addr) (len cap : Nat) (i v : Int) (n : Nat) (w : World) (h : widB n = true) (hf : (v / 2 ^ (8 * n) != 0) = true) :
    Calls Try.prog 38 #[.slice a len cap, .int .i64 i, .int .i64 n, .int .u64 v] w fun e w' => e = .returned (.tuple #[.slice none 0 0, .int .i64 3]) ∧ w' = w := by
  have hn : 1 ≤ n ∧ n ≤ 8 := by have h' : (1 : Int) ≤ n ∧ (n : Int) ≤ 8 := (by simpa [widB] using h); omega
  go_enter Try.func38, Try.ntmps38
  go_wp2_with (go_at_call 44; refine (width_any _ _).mono ?_; rintro e w' ⟨rfl, rfl⟩)
  go_ret2
  exact ⟨rfl, rfl⟩

theorem put_range (a : Option Addr) (len cap : Nat) (i v : Int) (n : Nat) (w : World) (hl : len ≤ maxLen) (h : widB n = true) (hf : (v / 2 ^ (8 * n) != 0) = false) (h2 : insB len i n = false) :
    Calls Try.prog 38 #[.slice a len cap, .int .i64 i, .int .i64 n, .int .u64 v] w fun e w' => e = .returned (.tuple #[.slice none 0 0, .int .i64 4]) ∧ w' = w := by
  have hn : 1 ≤ n ∧ n ≤ 8 := by have h' : (1 : Int) ≤ n ∧ (n : Int) ≤ 8 := (by simpa [widB] using h); omega
  have hn1 : (1 : Int) ≤ n := by omega
  have hn2 : (n : Int) ≤ 8 := by omega
  go_enter Try.func38, Try.ntmps38
  go_wp2_with (first | (go_at_call 44; refine (width_any _ _).mono ?_; rintro e w' ⟨rfl, rfl⟩) | (go_at_call 45; refine (inside_any _ _ _ _ _ _ hl hn1 hn2).mono ?_; rintro e w' ⟨rfl, rfl⟩))
  go_ret2
  exact ⟨rfl, rfl⟩

/-- The block of a row that the call owns whole. -/
theorem own_row {w : World} {base g len : Nat} {xs : List Value} (h : w.ownsRow base 5 1 (.slice (some ⟨g, 0, none⟩) len len) len xs) : w.heap[g]? = some (.cells xs.toArray 5 (0, 0)) ∧ xs.length = len ∧ base ≤ g := by
  obtain ⟨h0, h1⟩ := h
  rcases h1 with ⟨h', _⟩ | ⟨g', cap', cur, h', hb, hg, _, _, hcs, htake⟩
  · simp at h'
  · simp only [Value.slice.injEq, Option.some.injEq, Addr.mk.injEq, and_true, true_and] at h'
    obtain ⟨rfl, rfl⟩ := h'
    have e : cur.toList = xs := by rw [← htake, List.take_of_length_le (by rw [Array.length_toList]; omega)]
    refine ⟨?_, by omega, hb⟩
    rw [hg, ← e]

theorem row_own {w : World} {base g len : Nat} {xs : List Value} (h : w.heap[g]? = some (.cells xs.toArray 5 (0, 0))) (hl : xs.length = len) (hm : len ≤ maxLen) (hb : base ≤ g) :
    w.ownsRow base 5 1 (.slice (some ⟨g, 0, none⟩) len len) len xs :=
  ⟨by omega, .inr ⟨g, len, xs.toArray, rfl, hb, h, Nat.le_refl _, hm, by simp; omega, List.take_of_length_le (by simp; omega)⟩⟩

theorem own_ex {w : World} {base g len : Nat} {xs : List Value} (h : w.ownsRow base 5 1 (.slice (some ⟨g, 0, none⟩) len len) len xs) : ∃ cur : List Value, cur.length = len ∧ Hid (w.heap[g]? = some (.cells cur.toArray 5 (0, 0))) :=
  ⟨xs, (own_row h).2.1, (own_row h).1⟩

theorem splice_whole {cur cs : List Value} (h : cs.length = cur.length) : splice cur 0 cs = cs := by
  unfold splice
  rw [List.drop_eq_nil_of_le (by omega)]
  simp

theorem src_cells {w : World} {b off len : Nat} {Z : List Int} (hz : Z.length = len) (hc : ∀ j, j < len → w.cell? ⟨b, off + j, none⟩ = some (.int .u8 (Z.getD j 0))) :
    ∀ (j : Nat) (v : Value), (Z.map (Value.int .u8))[j]? = some v → w.cell? ((⟨b, off, none⟩ : Addr).add j) = some v := by
  intro j v hj
  rw [Go.WideShapes.add_plain]
  have hlt : j < Z.length := by
    by_cases h : j < Z.length
    · exact h
    · rw [List.getElem?_eq_none (by simp; omega)] at hj; simp at hj
  rw [hc j (by omega)]
  rw [List.getElem?_map, List.getElem?_eq_getElem hlt] at hj
  rw [List.getD_eq_getElem?_getD, List.getElem?_eq_getElem hlt]
  simpa using hj

theorem Try.size5 : (Try.prog.info? 5).map (·.size) = some 1 := by kernel_rfl

set_option maxHeartbeats 1000000 in
theorem put_ok (b off len cap i n : Nat) (v : Int) (Z : List Int) (w : World) (hz : Z.length = len) (hl : len ≤ 140737488351232) (hn1 : 1 ≤ n) (hn2 : n ≤ 8) (hi : i + n ≤ len)
    (hv : 0 ≤ v) (hf : (v / 2 ^ (8 * n) != 0) = false)
    (hc : ∀ j, j < len → w.cell? ⟨b, off + j, none⟩ = some (.int .u8 (Z.getD j 0))) :
    Calls Try.prog 38 #[.slice (some ⟨b, off, none⟩) len cap, .int .i64 i, .int .i64 n, .int .u64 v] w fun e w' => ∃ g, e = .returned (.tuple #[.slice (some ⟨g, 0, none⟩) len len, .int .i64 0]) ∧
      w'.ownsRow w.heap.size 5 1 (.slice (some ⟨g, 0, none⟩) len len) len ((asc Z i n v n).map (Value.int .u8)) ∧ Below w.heap.size w w' := by
  have H1 : widB n = true := by simp [widB]; omega
  have H2 : insB len i n = true := by simp [insB]; omega
  obtain ⟨i0, hi0, hz0, hz1, hz2⟩ := info_parts Try.info5
  have hlm : len ≤ maxLen := by unfold maxLen; omega
  have hn1' : (1 : Int) ≤ n := by omega
  have hn2' : (n : Int) ≤ 8 := by omega
  have hlt : b < w.heap.size := World.block_lt_of_cell? w ⟨b, off + 0, none⟩ (hc 0 (by omega))
  have hcs : (Z.map (Value.int .u8)).length = Nat.min len len := by simp [hz]
  have h1c : ∀ u ∈ Z.map (Value.int .u8), u.oneCell' = true := ints_oneCell _ _
  go_enter Try.func38, Try.ntmps38
  go_wp2_with (first | (go_at_call 44; refine (width_any _ _).mono ?_; rintro e w' ⟨rfl, rfl⟩) | (go_at_call 45; refine (inside_any _ _ _ _ _ _ hlm hn1' hn2').mono ?_; rintro e w' ⟨rfl, rfl⟩) | (at_make; refine wpList_make_full _ rfl _ _ 24 rfl _ 5 i0 (.int .u8 0) 1 Try.underlying24 hi0 hz0 hz1 .i64 .i64 _ _ len rfl rfl rfl rfl (by rw [hz2]; omega) hlm (Nat.le_refl _) ?_; intro w1 hown1 hg1; have hb1 := (Below.refl _ _).grown hg1 (Nat.le_refl _) (fun k h => by cases h); obtain ⟨cur, hcl, hrow⟩ := own_ex hown1; have hc1 := fun j hj => (hb1.cell (p := ⟨b, off + j, none⟩) hlt).trans (hc j hj); clear hown1 hg1) | (refine wpList_copy_splice rfl (.tmp 28) (.tmp 29) 24 24 rfl 5 Try.underlying24 Try.size5 _ _ len len len cap rfl rfl _ 0 cur 5 hrow.out (Z.map (Value.int .u8)) hcs (fun _ => ⟨rfl, _, rfl, src_cells hz hc1⟩) (by simp; omega) h1c _ _ hb1 (Nat.le_refl _) ?_; intro w2 hg2 hb2; clear hc1 hrow hb1))
  have hown2 : w2.ownsRow w'.heap.size 5 1 (.slice (some ⟨w'.heap.size, 0, none⟩) len len) len ((asc Z i n v 0).map (Value.int .u8)) := by
    refine row_own ?_ (by simp [asc, hz]) hlm (Nat.le_refl _)
    have := hg2.out
    rw [splice_whole (by simp [hz, hcl])] at this
    exact this
  clear hg2 hcl hcs h1c hc hlt
  go_loopw [32] (fun t wr => ∃ k : Nat, k ≤ n ∧ t = .int .i64 k ∧ wr.ownsRow w'.heap.size 5 1 (.slice (some ⟨w'.heap.size, 0, none⟩) len len) len ((asc Z i n v k).map (Value.int .u8)) ∧ Below w'.heap.size w' wr) (fun t _ => n - (intOf t).toNat)
  case atStart => exact ⟨0, by omega, rfl, hown2, hb2⟩
  case round =>
    obtain ⟨k, hk, rfl, hown, hb⟩ := hrel
    by_cases hlt : k < n
    · obtain ⟨x, hx⟩ : ∃ x, wr.cell? ⟨w'.heap.size, i + k, none⟩ = some x := by
        rw [hown.cellAt (i + k) (by omega)]
        exact ⟨_, List.getElem?_eq_getElem (by simp [asc_len]; omega)⟩
      have hfr := hown.frozenAt (i + k)
      have HO : Hid (wr.ownsRow w'.heap.size 5 1 (.slice (some ⟨w'.heap.size, 0, none⟩) len len) len ((asc Z i n v k).map (Value.int .u8))) := hown
      clear hown
      go_wp2
      go_roundw
      case rel => exact ⟨k + 1, by omega, by go_num, by rw [asc, List.map_set]; exact (HO.out.stored (i + k) _).1, hb.setCell (Nat.le_refl _) _⟩
      case measure => simp [intOf]; omega
    · obtain rfl : k = n := by omega
      go_wp2
      go_ret2
      exact ⟨_, rfl, hown, hb⟩

end Go.Proofs.Ytigfoldobkigeaa.B

namespace Go.Proofs.Ytigfoldobkigeaa.B

theorem num_asc (Z : List Int) (i k : Nat) (x : Int) (hi : i + k ≤ Z.length) (h0 : 0 ≤ x) (h1 : x < 2 ^ (8 * k)) : ∀ j, j ≤ k → num (asc Z i k x k) i j = x / 2 ^ (8 * (k - j))
  | 0, _ => by rw [num, Nat.sub_zero, Int.ediv_eq_zero_of_lt h0 h1]
  | j + 1, hj => by
    have ih := num_asc Z i k x hi h0 h1 j (by omega)
    rw [num, ih, List.getD_eq_getElem?_getD, asc_get Z i k x hi k (Nat.le_refl _), if_pos (by omega), Option.getD_some, Nat.add_sub_cancel_left]
    have e1 := div_step x (k - 1 - j)
    rw [show k - 1 - j + 1 = k - j by omega] at e1
    rw [← e1, show k - (j + 1) = k - 1 - j by omega]
    omega

theorem num_back (Z : List Int) (i k : Nat) (x : Int) (hi : i + k ≤ Z.length) (h0 : 0 ≤ x) (h1 : x < 2 ^ (8 * k)) : num (asc Z i k x k) i k = x := by
  rw [num_asc Z i k x hi h0 h1 k (Nat.le_refl _)]; simp

theorem asc_take (Z : List Int) (i k : Nat) (x : Int) (hi : i + k ≤ Z.length) : (asc Z i k x k).take i = Z.take i := by
  apply List.ext_getElem?
  intro j
  rw [List.getElem?_take, List.getElem?_take, asc_get Z i k x hi k (Nat.le_refl _)]
  by_cases h : j < i
  · rw [if_pos h, if_pos h, if_neg (by omega)]
  · rw [if_neg h, if_neg h]

theorem asc_drop (Z : List Int) (i k : Nat) (x : Int) (hi : i + k ≤ Z.length) : (asc Z i k x k).drop (i + k) = Z.drop (i + k) := by
  apply List.ext_getElem?
  intro j
  rw [List.getElem?_drop, List.getElem?_drop, asc_get Z i k x hi k (Nat.le_refl _), if_neg (by omega)]

theorem fits (x : Int) (k : Nat) (h0 : 0 ≤ x) (h1 : x < 2 ^ (8 * k)) : (x / 2 ^ (8 * k) != 0) = false := by
  rw [Int.ediv_eq_zero_of_lt h0 h1]; rfl

theorem pow_wrap (k : Nat) (hk : k < 8) : IntKind.u64.wrap (2 ^ (8 * k)) = 2 ^ (8 * k) := by
  have h : k = 0 ∨ k = 1 ∨ k = 2 ∨ k = 3 ∨ k = 4 ∨ k = 5 ∨ k = 6 ∨ k = 7 := by omega
  rcases h with rfl | rfl | rfl | rfl | rfl | rfl | rfl | rfl <;> decide

end Go.Proofs.Ytigfoldobkigeaa.B

namespace Go.Proofs.Ytigfoldobkigeaa.B
open Go.RowKit
set_option linter.unusedVariables false

theorem conv_any (w : World) (a : Option Addr) (len cap : Nat) (Z : List Int) (hz : Z.length = len) (hp : RowAt w a len Z) :
    (convert 24 9 (.slice a len cap)).run Try.prog w = .ok (.string (strOfNums Z)) w := by
  by_cases h0 : len = 0
  · subst h0
    have hz0 : Z = [] := List.eq_nil_of_length_eq_zero hz
    subst hz0
    cases a with
    | none => exact run_convert_bytes_nil w 24 5 Try.underlying24 Try.underlying5 0 cap 9 Try.underlying9
    | some x =>
      rw [run_convert_bytes_string w 24 9 5 _ 0 cap Try.underlying24 Try.underlying5 Try.underlying9, run_bytesToString w x 0 cap [] ?_]
      · rfl
      · exact run_loadCells_list (P := Try.prog) w x [] (fun j v hj => by simp at hj)
  · rcases hp with h | ⟨b, off, rfl, hc⟩
    · exact absurd h h0
    · exact run_convert_bytes_arg w 24 5 Try.underlying24 Try.underlying5 b off len cap Z hz hc 9 Try.underlying9

theorem RowAt.take {w : World} {a : Option Addr} {len : Nat} {zs : List Int} (h : RowAt w a len zs) : RowAt w a len (zs.take len) := by
  rcases h with h | ⟨b, off, ha, hc⟩
  · exact .inl h
  · refine .inr ⟨b, off, ha, fun j hj => ?_⟩
    rw [hc j hj]
    simp [List.getD_eq_getElem?_getD, hj]

theorem Bytes.take {zs : List Int} (h : Bytes zs) (n : Nat) : Bytes (zs.take n) := by
  intro j
  have := h j
  rw [List.getD_eq_getElem?_getD] at this ⊢
  rw [List.getElem?_take]
  by_cases hj : j < n
  · rw [if_pos hj]; exact this
  · rw [if_neg hj]; simp

theorem rowAt_own {w : World} {base g len cap : Nat} {L : List Int} (h : w.ownsRow base 5 1 (.slice (some ⟨g, 0, none⟩) len cap) len (L.map (Value.int .u8))) : RowAt w (some ⟨g, 0, none⟩) len L := by
  refine .inr ⟨g, 0, rfl, fun j hj => ?_⟩
  have hl : L.length = len := by have := h.1; simpa using this
  rw [Nat.zero_add, h.cellAt j (by omega), List.getElem?_map, List.getElem?_eq_getElem (by omega), List.getD_eq_getElem?_getD, List.getElem?_eq_getElem (by omega)]
  rfl

theorem own_cells {w : World} {base g len cap : Nat} {L : List Int} (h : w.ownsRow base 5 1 (.slice (some ⟨g, 0, none⟩) len cap) len (L.map (Value.int .u8))) :
    ∀ j, j < len → w.cell? ⟨g, 0 + j, none⟩ = some (.int .u8 (L.getD j 0)) := by
  intro j hj
  rcases rowAt_own h with h0 | ⟨b, off, hb, hc⟩
  · omega
  · simp only [Option.some.injEq, Addr.mk.injEq] at hb
    obtain ⟨rfl, rfl, _⟩ := hb
    exact hc j hj

end Go.Proofs.Ytigfoldobkigeaa.B

namespace Go.Proofs.Ytigfoldobkigeaa

/-! ### CRC32C -/

/-- One bit. -/
def b32 (r : Nat) : Nat := if r % 2 = 1 then r / 2 ^^^ 2197175160 else r / 2

def it32 : Nat → Nat → Nat
  | 0, r => r
  | k + 1, r => b32 (it32 k r)

/-- One byte. -/
def s32 (r x : Nat) : Nat := it32 8 (r ^^^ x)

/-- A list of bytes. -/
def reg32 (r : Nat) (zs : List Int) : Nat := zs.foldl (fun r z => s32 r z.toNat) r

theorem b32_lt (r : Nat) (h : r < 4294967296) : b32 r < 4294967296 := by
  unfold b32
  split
  · have : r / 2 ^^^ 2197175160 < 2 ^ 32 := Nat.xor_lt_two_pow (by omega) (by omega)
    omega
  · omega

theorem it32_lt (k r : Nat) (h : r < 4294967296) : it32 k r < 4294967296 := by
  induction k with
  | zero => exact h
  | succ k ih => exact b32_lt _ ih

theorem xor_lt32 (a b : Nat) (ha : a < 4294967296) (hb : b < 4294967296) : a ^^^ b < 4294967296 := by
  have : a ^^^ b < 2 ^ 32 := Nat.xor_lt_two_pow (by omega) (by omega)
  omega

theorem s32_lt (r x : Nat) (h : r < 4294967296) (hx : x < 256) : s32 r x < 4294967296 :=
  it32_lt _ _ (xor_lt32 _ _ h (by omega))

theorem reg32_lt (zs : List Int) (hz : ∀ z ∈ zs, 0 ≤ z ∧ z ≤ 255) : ∀ r, r < 4294967296 → reg32 r zs < 4294967296 := by
  induction zs with
  | nil => intro r h; exact h
  | cons z zs ih =>
    intro r h
    have hz0 := hz z (by simp)
    exact ih (fun y hy => hz y (by simp [hy])) _ (s32_lt _ _ h (by omega))

theorem reg32_append (r : Nat) (xs ys : List Int) : reg32 r (xs ++ ys) = reg32 (reg32 r xs) ys := by
  unfold reg32; rw [List.foldl_append]

/-- The document's road, bit by bit: what it has behind j bits of a byte. -/
def d32 (r x : Nat) : Nat → Nat
  | 0 => r
  | j + 1 => if (d32 r x j ^^^ (x / 2 ^ j % 2)) % 2 = 1 then d32 r x j / 2 ^^^ 2197175160 else d32 r x j / 2

theorem xor_div2 (a b : Nat) : (a ^^^ b) / 2 = a / 2 ^^^ b / 2 := by
  have h := @Nat.shiftRight_xor_distrib 1 a b
  simpa [Nat.shiftRight_eq_div_pow] using h

theorem xor_mod1 (a b : Nat) : (a ^^^ b) % 2 = a % 2 ^^^ b % 2 := by
  have h := @Nat.xor_mod_two_pow a b 1
  simpa using h

theorem xor_swap (a b p : Nat) : a ^^^ b ^^^ p = a ^^^ p ^^^ b := by
  rw [Nat.xor_assoc, Nat.xor_comm b p, ← Nat.xor_assoc]

theorem d32_it (r x : Nat) : ∀ j, it32 j (r ^^^ x) = d32 r x j ^^^ x / 2 ^ j
  | 0 => by simp [it32, d32]
  | j + 1 => by
    have ih := d32_it r x j
    have hm : (d32 r x j ^^^ x / 2 ^ j) % 2 = (d32 r x j ^^^ (x / 2 ^ j % 2)) % 2 := by
      rw [xor_mod1, xor_mod1, Nat.mod_mod]
    have hd : x / 2 ^ j / 2 = x / 2 ^ (j + 1) := by rw [Nat.div_div_eq_div_mul, Nat.pow_succ]
    rw [it32, ih, b32, hm, xor_div2, hd, d32]
    by_cases h : (d32 r x j ^^^ (x / 2 ^ j % 2)) % 2 = 1
    · rw [if_pos h, if_pos h, xor_swap]
    · rw [if_neg h, if_neg h]

theorem d32_s (r x : Nat) (hx : x < 256) : d32 r x 8 = s32 r x := by
  have h := d32_it r x 8
  rw [show x / 2 ^ 8 = 0 by omega, Nat.xor_zero] at h
  exact h.symm

theorem d32_lt (r x : Nat) (h : r < 4294967296) : ∀ j, d32 r x j < 4294967296
  | 0 => h
  | j + 1 => by
    have ih := d32_lt r x h j
    unfold d32
    split
    · exact xor_lt32 _ _ (by omega) (by omega)
    · omega

/-! ### The guard -/

def b16 (r : Nat) : Nat := if r / 32768 = 1 then r * 2 % 65536 ^^^ 35767 else r * 2 % 65536

def it16 : Nat → Nat → Nat
  | 0, r => r
  | k + 1, r => b16 (it16 k r)

def s16 (r x : Nat) : Nat := it16 8 (r ^^^ x * 256)

def reg16 (r : Nat) (zs : List Int) : Nat := zs.foldl (fun r z => s16 r z.toNat) r

theorem xor_lt16 (a b : Nat) (ha : a < 65536) (hb : b < 65536) : a ^^^ b < 65536 := by
  have : a ^^^ b < 2 ^ 16 := Nat.xor_lt_two_pow (by omega) (by omega)
  omega

theorem b16_lt (r : Nat) : b16 r < 65536 := by
  unfold b16
  split
  · exact xor_lt16 _ _ (by omega) (by omega)
  · omega

theorem it16_lt (k r : Nat) (h : r < 65536) : it16 k r < 65536 := by
  cases k with
  | zero => exact h
  | succ k => exact b16_lt _

theorem s16_lt (r x : Nat) (h : r < 65536) (hx : x < 256) : s16 r x < 65536 :=
  it16_lt _ _ (xor_lt16 _ _ h (by omega))

theorem reg16_lt (zs : List Int) (hz : ∀ z ∈ zs, 0 ≤ z ∧ z ≤ 255) : ∀ r, r < 65536 → reg16 r zs < 65536 := by
  induction zs with
  | nil => intro r h; exact h
  | cons z zs ih =>
    intro r h
    have hz0 := hz z (by simp)
    exact ih (fun y hy => hz y (by simp [hy])) _ (s16_lt _ _ h (by omega))

theorem reg16_append (r : Nat) (xs ys : List Int) : reg16 r (xs ++ ys) = reg16 (reg16 r xs) ys := by
  unfold reg16; rw [List.foldl_append]

def d16 (r x : Nat) : Nat → Nat
  | 0 => r
  | j + 1 => if d16 r x j / 32768 ^^^ (x / 2 ^ (7 - j) % 2) = 1 then d16 r x j * 2 % 65536 ^^^ 35767 else d16 r x j * 2 % 65536

theorem d16_lt (r x : Nat) (h : r < 65536) : ∀ j, d16 r x j < 65536
  | 0 => h
  | j + 1 => by
    unfold d16
    split
    · exact xor_lt16 _ _ (by omega) (by omega)
    · omega

theorem xor_mod16 (a b : Nat) : (a ^^^ b) % 65536 = a % 65536 ^^^ b % 65536 := by
  have h := @Nat.xor_mod_two_pow a b 16
  simpa using h

theorem xor_mul2 (a b : Nat) : (a ^^^ b) * 2 = a * 2 ^^^ b * 2 := by
  have h := @Nat.shiftLeft_xor_distrib 1 a b
  simpa [Nat.shiftLeft_eq] using h

theorem xor_div15 (a b : Nat) : (a ^^^ b) / 32768 = a / 32768 ^^^ b / 32768 := by
  have h := @Nat.shiftRight_xor_distrib 15 a b
  simpa [Nat.shiftRight_eq_div_pow] using h

theorem top_bit (x j : Nat) (hx : x < 256) (hj : j < 8) : x * 2 ^ (8 + j) % 65536 / 32768 = x / 2 ^ (7 - j) % 2 := by
  have h : j = 0 ∨ j = 1 ∨ j = 2 ∨ j = 3 ∨ j = 4 ∨ j = 5 ∨ j = 6 ∨ j = 7 := by omega
  rcases h with rfl | rfl | rfl | rfl | rfl | rfl | rfl | rfl <;> omega

theorem d16_it (r x : Nat) (hx : x < 256) : ∀ j, j ≤ 8 → it16 j (r ^^^ x * 256) = d16 r x j ^^^ x * 2 ^ (8 + j) % 65536
  | 0, _ => by rw [it16, d16, show x * 2 ^ (8 + 0) % 65536 = x * 256 by omega]
  | j + 1, hj => by
    have ih := d16_it r x hx j (by omega)
    have ht := top_bit x j hx (by omega)
    have hs : x * 2 ^ (8 + j) % 65536 * 2 % 65536 = x * 2 ^ (8 + (j + 1)) % 65536 := by
      rw [show 8 + (j + 1) = (8 + j) + 1 by omega, Nat.pow_succ, ← Nat.mul_assoc]; omega
    rw [it16, ih, b16, xor_div15, ht, xor_mul2, xor_mod16, hs, d16]
    by_cases h : d16 r x j / 32768 ^^^ (x / 2 ^ (7 - j) % 2) = 1
    · rw [if_pos h, if_pos h, xor_swap]
    · rw [if_neg h, if_neg h]

theorem d16_s (r x : Nat) (hx : x < 256) : d16 r x 8 = s16 r x := by
  have h := d16_it r x hx 8 (Nat.le_refl _)
  rw [show x * 2 ^ (8 + 8) % 65536 = 0 by omega, Nat.xor_zero] at h
  exact h.symm

theorem take_step (Z : List Int) (k : Nat) (h : k < Z.length) : Z.take (k + 1) = Z.take k ++ [Z.getD k 0] := by
  rw [List.take_succ_eq_append_getElem h, List.getD_eq_getElem?_getD, List.getElem?_eq_getElem h]; rfl

/-! ### Unlike registers stay unlike -/

theorem xor_cancel (a b p : Nat) (h : a ^^^ p = b ^^^ p) : a = b := by
  have h2 : a ^^^ p ^^^ p = b ^^^ p ^^^ p := by rw [h]
  rwa [Nat.xor_assoc, Nat.xor_assoc, Nat.xor_self, Nat.xor_zero, Nat.xor_zero] at h2

theorem xor_move (a b p : Nat) (h : a ^^^ p = b) : p = a ^^^ b := by
  rw [← h, ← Nat.xor_assoc, Nat.xor_self, Nat.zero_xor]

theorem b32_inj (r s : Nat) (hr : r < 4294967296) (hs : s < 4294967296) (h : b32 r = b32 s) : r = s := by
  unfold b32 at h
  by_cases h1 : r % 2 = 1
  · by_cases h2 : s % 2 = 1
    · rw [if_pos h1, if_pos h2] at h
      have := xor_cancel _ _ _ h
      omega
    · rw [if_pos h1, if_neg h2] at h
      have h3 := xor_move _ _ _ h
      have h4 : r / 2 ^^^ s / 2 < 2 ^ 31 := Nat.xor_lt_two_pow (by omega) (by omega)
      omega
  · by_cases h2 : s % 2 = 1
    · rw [if_neg h1, if_pos h2] at h
      have h3 := xor_move _ _ _ h.symm
      have h4 : s / 2 ^^^ r / 2 < 2 ^ 31 := Nat.xor_lt_two_pow (by omega) (by omega)
      omega
    · rw [if_neg h1, if_neg h2] at h
      omega

theorem it32_inj (k r s : Nat) (hr : r < 4294967296) (hs : s < 4294967296) (h : it32 k r = it32 k s) : r = s := by
  induction k with
  | zero => exact h
  | succ k ih => exact ih (b32_inj _ _ (it32_lt k r hr) (it32_lt k s hs) h)

theorem s32_inj (r s x y : Nat) (hr : r < 4294967296) (hs : s < 4294967296) (hx : x < 256) (hy : y < 256) (h : s32 r x = s32 s y) : r ^^^ x = s ^^^ y :=
  it32_inj 8 _ _ (xor_lt32 _ _ hr (by omega)) (xor_lt32 _ _ hs (by omega)) h

theorem reg32_inj (zs : List Int) (hz : ∀ z ∈ zs, 0 ≤ z ∧ z ≤ 255) : ∀ r s, r < 4294967296 → s < 4294967296 → reg32 r zs = reg32 s zs → r = s := by
  induction zs with
  | nil => intro r s _ _ h; exact h
  | cons z zs ih =>
    intro r s hr hs h
    have hz0 := hz z (by simp)
    have h2 := ih (fun y hy => hz y (by simp [hy])) _ _ (s32_lt r z.toNat hr (by omega)) (s32_lt s z.toNat hs (by omega)) h
    exact xor_cancel _ _ _ (s32_inj r s _ _ hr hs (by omega) (by omega) h2)

theorem b16_inj (r s : Nat) (hr : r < 65536) (hs : s < 65536) (h : b16 r = b16 s) : r = s := by
  unfold b16 at h
  by_cases h1 : r / 32768 = 1
  · by_cases h2 : s / 32768 = 1
    · rw [if_pos h1, if_pos h2] at h
      have := xor_cancel _ _ _ h
      omega
    · rw [if_pos h1, if_neg h2] at h
      have h3 := congrArg (· % 2) h
      simp only [xor_mod1] at h3
      rw [show r * 2 % 65536 % 2 = 0 by omega, show s * 2 % 65536 % 2 = 0 by omega] at h3
      simp at h3
  · by_cases h2 : s / 32768 = 1
    · rw [if_neg h1, if_pos h2] at h
      have h3 := congrArg (· % 2) h
      simp only [xor_mod1] at h3
      rw [show r * 2 % 65536 % 2 = 0 by omega, show s * 2 % 65536 % 2 = 0 by omega] at h3
      simp at h3
    · rw [if_neg h1, if_neg h2] at h
      omega

theorem it16_inj (k r s : Nat) (hr : r < 65536) (hs : s < 65536) (h : it16 k r = it16 k s) : r = s := by
  induction k with
  | zero => exact h
  | succ k ih => exact ih (b16_inj _ _ (it16_lt k r hr) (it16_lt k s hs) h)

theorem s16_inj (r s x y : Nat) (hr : r < 65536) (hs : s < 65536) (hx : x < 256) (hy : y < 256) (h : s16 r x = s16 s y) : r ^^^ x * 256 = s ^^^ y * 256 :=
  it16_inj 8 _ _ (xor_lt16 _ _ hr (by omega)) (xor_lt16 _ _ hs (by omega)) h

theorem reg16_inj (zs : List Int) (hz : ∀ z ∈ zs, 0 ≤ z ∧ z ≤ 255) : ∀ r s, r < 65536 → s < 65536 → reg16 r zs = reg16 s zs → r = s := by
  induction zs with
  | nil => intro r s _ _ h; exact h
  | cons z zs ih =>
    intro r s hr hs h
    have hz0 := hz z (by simp)
    have h2 := ih (fun y hy => hz y (by simp [hy])) _ _ (s16_lt r z.toNat hr (by omega)) (s16_lt s z.toNat hs (by omega)) h
    exact xor_cancel _ _ _ (s16_inj r s _ _ hr hs (by omega) (by omega) h2)

theorem set_split (Z : List Int) (i : Nat) (y : Int) (hi : i < Z.length) : Z = Z.take i ++ Z.getD i 0 :: Z.drop (i + 1) ∧ Z.set i y = Z.take i ++ y :: Z.drop (i + 1) := by
  constructor
  · rw [List.getD_eq_getElem?_getD, List.getElem?_eq_getElem hi]
    simp
  · rw [List.set_eq_take_append_cons_drop, if_pos hi]

theorem tells32 (Z : List Int) (hz : ∀ z ∈ Z, 0 ≤ z ∧ z ≤ 255) (i : Nat) (hi : i < Z.length) (y : Nat) (hy : y < 256) (hne : (Z.getD i 0).toNat ≠ y) (r : Nat) (hr : r < 4294967296) : reg32 r Z ≠ reg32 r (Z.set i (y : Int)) := by
  obtain ⟨e1, e2⟩ := set_split Z i (y : Int) hi
  have hA : ∀ z ∈ Z.take i, 0 ≤ z ∧ z ≤ 255 := fun z h => hz z (List.mem_of_mem_take h)
  have hB : ∀ z ∈ Z.drop (i + 1), 0 ≤ z ∧ z ≤ 255 := fun z h => hz z (List.mem_of_mem_drop h)
  have hx : 0 ≤ Z.getD i 0 ∧ Z.getD i 0 ≤ 255 := by
    apply hz
    rw [List.getD_eq_getElem?_getD, List.getElem?_eq_getElem hi]
    exact List.getElem_mem hi
  intro h
  have hq := reg32_lt _ hA r hr
  rw [e2] at h
  have h1 : reg32 r (Z.take i ++ Z.getD i 0 :: Z.drop (i + 1)) = reg32 r (Z.take i ++ (y : Int) :: Z.drop (i + 1)) := by rw [← e1]; exact h
  rw [reg32_append, reg32_append] at h1
  have h2 := reg32_inj _ hB _ _ (s32_lt _ (Z.getD i 0).toNat hq (by omega)) (s32_lt _ (y : Int).toNat hq (by omega)) h1
  have h3 := s32_inj _ _ _ _ hq hq (by omega) (by omega) h2
  rw [Nat.xor_comm, Nat.xor_comm (reg32 r (Z.take i))] at h3
  have h4 := xor_cancel _ _ _ h3
  omega

theorem tells16 (Z : List Int) (hz : ∀ z ∈ Z, 0 ≤ z ∧ z ≤ 255) (i : Nat) (hi : i < Z.length) (y : Nat) (hy : y < 256) (hne : (Z.getD i 0).toNat ≠ y) (r : Nat) (hr : r < 65536) : reg16 r Z ≠ reg16 r (Z.set i (y : Int)) := by
  obtain ⟨e1, e2⟩ := set_split Z i (y : Int) hi
  have hA : ∀ z ∈ Z.take i, 0 ≤ z ∧ z ≤ 255 := fun z h => hz z (List.mem_of_mem_take h)
  have hB : ∀ z ∈ Z.drop (i + 1), 0 ≤ z ∧ z ≤ 255 := fun z h => hz z (List.mem_of_mem_drop h)
  have hx : 0 ≤ Z.getD i 0 ∧ Z.getD i 0 ≤ 255 := by
    apply hz
    rw [List.getD_eq_getElem?_getD, List.getElem?_eq_getElem hi]
    exact List.getElem_mem hi
  intro h
  have hq := reg16_lt _ hA r hr
  rw [e2] at h
  have h1 : reg16 r (Z.take i ++ Z.getD i 0 :: Z.drop (i + 1)) = reg16 r (Z.take i ++ (y : Int) :: Z.drop (i + 1)) := by rw [← e1]; exact h
  rw [reg16_append, reg16_append] at h1
  have h2 := reg16_inj _ hB _ _ (s16_lt _ (Z.getD i 0).toNat hq (by omega)) (s16_lt _ (y : Int).toNat hq (by omega)) h1
  have h3 := s16_inj _ _ _ _ hq hq (by omega) (by omega) h2
  rw [Nat.xor_comm, Nat.xor_comm (reg16 r (Z.take i))] at h3
  have h4 := xor_cancel _ _ _ h3
  omega

/-! ### The guard of bytes xored -/

theorem b16_xor (a b : Nat) (ha : a < 65536) (hb : b < 65536) : b16 (a ^^^ b) = b16 a ^^^ b16 b := by
  have hd := xor_div15 a b
  have hm : (a ^^^ b) * 2 % 65536 = a * 2 % 65536 ^^^ b * 2 % 65536 := by rw [xor_mul2, xor_mod16]
  unfold b16
  rw [hd, hm]
  by_cases h1 : a / 32768 = 1
  · by_cases h2 : b / 32768 = 1
    · rw [if_pos h1, if_pos h2, h1, h2, if_neg (by decide), Nat.xor_assoc, Nat.xor_comm 35767, Nat.xor_assoc, Nat.xor_self, Nat.xor_zero]
    · rw [if_pos h1, if_neg h2, h1, show b / 32768 = 0 by omega, if_pos (by decide), xor_swap]
  · by_cases h2 : b / 32768 = 1
    · rw [if_neg h1, if_pos h2, h2, show a / 32768 = 0 by omega, if_pos (by decide), Nat.xor_assoc]
    · rw [if_neg h1, if_neg h2, show a / 32768 = 0 by omega, show b / 32768 = 0 by omega, if_neg (by decide)]

theorem it16_xor (k a b : Nat) (ha : a < 65536) (hb : b < 65536) : it16 k (a ^^^ b) = it16 k a ^^^ it16 k b := by
  induction k with
  | zero => rfl
  | succ k ih => rw [it16, it16, it16, ih, b16_xor _ _ (it16_lt k a ha) (it16_lt k b hb)]

theorem xor_mul256 (a b : Nat) : (a ^^^ b) * 256 = a * 256 ^^^ b * 256 := by
  have h := @Nat.shiftLeft_xor_distrib 8 a b
  simpa [Nat.shiftLeft_eq] using h

theorem s16_xor (r s x y : Nat) (hr : r < 65536) (hs : s < 65536) (hx : x < 256) (hy : y < 256) : s16 (r ^^^ s) (x ^^^ y) = s16 r x ^^^ s16 s y := by
  unfold s16
  rw [← it16_xor 8 _ _ (xor_lt16 _ _ hr (by omega)) (xor_lt16 _ _ hs (by omega)), xor_mul256]
  congr 1
  rw [Nat.xor_assoc, Nat.xor_assoc]
  congr 1
  rw [← Nat.xor_assoc, ← Nat.xor_assoc, Nat.xor_comm s]

/-- The bytes of two lists, xored one by one, as many as k. -/
def xors (Z Y : List Int) : Nat → List Int
  | 0 => []
  | k + 1 => xors Z Y k ++ [((((Z.getD k 0).toNat ^^^ (Y.getD k 0).toNat : Nat)) : Int)]

theorem xors_len (Z Y : List Int) : ∀ k, (xors Z Y k).length = k
  | 0 => rfl
  | k + 1 => by simp [xors, xors_len Z Y k]

theorem xors_reg (Z Y : List Int) (hZ : ∀ z ∈ Z, 0 ≤ z ∧ z ≤ 255) (hY : ∀ z ∈ Y, 0 ≤ z ∧ z ≤ 255) : ∀ k, k ≤ Z.length → k ≤ Y.length → reg16 0 (xors Z Y k) = reg16 0 (Z.take k) ^^^ reg16 0 (Y.take k)
  | 0, _, _ => by simp [xors, reg16]
  | k + 1, h1, h2 => by
    have ih := xors_reg Z Y hZ hY k (by omega) (by omega)
    have hz : 0 ≤ Z.getD k 0 ∧ Z.getD k 0 ≤ 255 := by
      apply hZ; rw [List.getD_eq_getElem?_getD, List.getElem?_eq_getElem (by omega)]; exact List.getElem_mem _
    have hy : 0 ≤ Y.getD k 0 ∧ Y.getD k 0 ≤ 255 := by
      apply hY; rw [List.getD_eq_getElem?_getD, List.getElem?_eq_getElem (by omega)]; exact List.getElem_mem _
    rw [take_step Z k (by omega), take_step Y k (by omega), xors, reg16_append, reg16_append, reg16_append, ih]
    exact s16_xor _ _ _ _ (reg16_lt _ (fun z h => hZ z (List.mem_of_mem_take h)) 0 (by omega)) (reg16_lt _ (fun z h => hY z (List.mem_of_mem_take h)) 0 (by omega)) (by omega) (by omega)

/-! ### As the program spells it -/

theorem and1_32 (R : Nat) (hR : R < 4294967296) : bits BinOp.and IntKind.u32 (R : Int) 1 = ((R % 2 : Nat) : Int) := by
  have h := u32_and_nat R 1 hR (by omega)
  rw [Nat.and_one_is_mod] at h
  exact h

theorem xor32 (a b : Nat) (ha : a < 4294967296) (hb : b < 4294967296) : bits BinOp.xor IntKind.u32 (a : Int) (b : Int) = ((a ^^^ b : Nat) : Int) := u32_xor_nat a b ha hb

theorem half_cast (R : Nat) : (R : Int) / 2 = ((R / 2 : Nat) : Int) := by omega

theorem w32_yes (R : Nat) (hR : R < 4294967296) (h : (bits BinOp.and IntKind.u32 (R : Int) 1 == 1) = true) : bits BinOp.xor IntKind.u32 ((R : Int) / 2) 2197175160 = ((b32 R : Nat) : Int) := by
  rw [and1_32 R hR] at h
  have h1 : R % 2 = 1 := by have : ((R % 2 : Nat) : Int) = 1 := (by simpa using h); omega
  rw [half_cast, b32, if_pos h1]
  exact xor32 (R / 2) 2197175160 (by omega) (by omega)

theorem w32_no (R : Nat) (hR : R < 4294967296) (h : (bits BinOp.and IntKind.u32 (R : Int) 1 == 1) = false) : (R : Int) / 2 = ((b32 R : Nat) : Int) := by
  rw [and1_32 R hR] at h
  have h1 : ¬ R % 2 = 1 := by
    intro h0; rw [h0] at h; simp at h
  rw [half_cast, b32, if_neg h1]

theorem wrap16_dbl (R : Nat) : IntKind.u16.wrap ((R : Int) * 2) = ((R * 2 % 65536 : Nat) : Int) := by
  rw [IntKind.wrap_u16]; omega

theorem w16_yes (R : Nat) (h : ((R : Int) / 32768 == 1) = true) : bits BinOp.xor IntKind.u16 (IntKind.u16.wrap ((R : Int) * 2)) 35767 = ((b16 R : Nat) : Int) := by
  have h1 : R / 32768 = 1 := by have : (R : Int) / 32768 = 1 := (by simpa using h); omega
  rw [wrap16_dbl, b16, if_pos h1]
  exact u16_xor_nat (R * 2 % 65536) 35767 (by omega) (by omega)

theorem w16_no (R : Nat) (h : ((R : Int) / 32768 == 1) = false) : IntKind.u16.wrap ((R : Int) * 2) = ((b16 R : Nat) : Int) := by
  have h1 : ¬ R / 32768 = 1 := by have : ¬ (R : Int) / 32768 = 1 := (by simpa using h); omega
  rw [wrap16_dbl, b16, if_neg h1]

theorem xor_ones (s : Nat) (hs : s < 4294967296) : 4294967295 ^^^ s = 4294967295 - s := by
  apply Nat.eq_of_testBit_eq
  intro i
  rw [Nat.testBit_xor, show 4294967295 - s = 2 ^ 32 - (s + 1) by omega, Nat.testBit_two_pow_sub_succ (by omega), show (4294967295 : Nat) = 2 ^ 32 - 1 by omega, Nat.testBit_two_pow_sub_one]
  by_cases h : i < 32
  · simp [h]
  · have : s.testBit i = false := Nat.testBit_lt_two_pow (Nat.lt_of_lt_of_le (show s < 2 ^ 32 by omega) (Nat.pow_le_pow_right (by decide) (by omega)))
    simp [h, this]

theorem not32' (s : Nat) (hs : s < 4294967296) : bits BinOp.xor IntKind.u32 (s : Int) 4294967295 = ((4294967295 - s : Nat) : Int) := by
  have h := u32_xor_nat s 4294967295 hs (by omega)
  rw [Nat.xor_comm, xor_ones s hs] at h
  exact h

theorem cast_div (X j : Nat) : (X : Int) / 2 ^ j = ((X / 2 ^ j : Nat) : Int) := by
  rw [Int.natCast_ediv]; simp

theorem t32 (D X j : Nat) (hD : D < 4294967296) (hX : X < 256) :
    bits BinOp.and IntKind.u32 (bits BinOp.xor IntKind.u32 (D : Int) (bits BinOp.and IntKind.u32 ((X : Int) / 2 ^ j % 4294967296) 1)) 1 = (((D ^^^ (X / 2 ^ j % 2)) % 2 : Nat) : Int) := by
  have hq : X / 2 ^ j ≤ X := Nat.div_le_self _ _
  rw [cast_div]
  generalize X / 2 ^ j = q at *
  rw [show (q : Int) % 4294967296 = (q : Int) by omega, and1_32 _ (by omega), xor32 _ _ hD (by omega), and1_32 _ (xor_lt32 _ _ hD (by omega))]

theorem r32_yes (R X j D : Nat) (hD : D < 4294967296) (hX : X < 256) (e : D = d32 R X j)
    (h : (bits BinOp.and IntKind.u32 (bits BinOp.xor IntKind.u32 (D : Int) (bits BinOp.and IntKind.u32 ((X : Int) / 2 ^ j % 4294967296) 1)) 1 == 1) = true) :
    bits BinOp.xor IntKind.u32 ((D : Int) / 2) 2197175160 = ((d32 R X (j + 1) : Nat) : Int) := by
  rw [t32 D X j hD hX] at h
  have h1 : (D ^^^ (X / 2 ^ j % 2)) % 2 = 1 := by have : (((D ^^^ (X / 2 ^ j % 2)) % 2 : Nat) : Int) = 1 := (by simpa using h); omega
  rw [half_cast, d32, ← e, if_pos h1]
  exact xor32 (D / 2) 2197175160 (by omega) (by omega)

theorem r32_no (R X j D : Nat) (hD : D < 4294967296) (hX : X < 256) (e : D = d32 R X j)
    (h : (bits BinOp.and IntKind.u32 (bits BinOp.xor IntKind.u32 (D : Int) (bits BinOp.and IntKind.u32 ((X : Int) / 2 ^ j % 4294967296) 1)) 1 == 1) = false) :
    (D : Int) / 2 = ((d32 R X (j + 1) : Nat) : Int) := by
  rw [t32 D X j hD hX] at h
  have h1 : ¬ (D ^^^ (X / 2 ^ j % 2)) % 2 = 1 := by
    intro h0; rw [h0] at h; simp at h
  rw [half_cast, d32, ← e, if_neg h1]

theorem and1_16 (R : Nat) (hR : R < 65536) : bits BinOp.and IntKind.u16 (R : Int) 1 = ((R % 2 : Nat) : Int) := by
  have h := u16_and_nat R 1 hR (by omega)
  rw [Nat.and_one_is_mod] at h
  exact h

theorem t16 (D X j : Nat) (hD : D < 65536) (hX : X < 256) :
    bits BinOp.xor IntKind.u16 ((D : Int) / 32768) (bits BinOp.and IntKind.u16 (IntKind.u16.wrap ((X : Int) / 2 ^ (7 - j))) 1) = ((D / 32768 ^^^ (X / 2 ^ (7 - j) % 2) : Nat) : Int) := by
  have hq : X / 2 ^ (7 - j) ≤ X := Nat.div_le_self _ _
  rw [cast_div]
  generalize X / 2 ^ (7 - j) = q at *
  rw [IntKind.wrap_u16, show (q : Int) % 65536 = (q : Int) by omega, and1_16 _ (by omega), show (D : Int) / 32768 = ((D / 32768 : Nat) : Int) by omega]
  exact u16_xor_nat _ _ (by omega) (by omega)

theorem r16_yes (R X j D : Nat) (hD : D < 65536) (hX : X < 256) (e : D = d16 R X j)
    (h : (bits BinOp.xor IntKind.u16 ((D : Int) / 32768) (bits BinOp.and IntKind.u16 (IntKind.u16.wrap ((X : Int) / 2 ^ (7 - j))) 1) == 1) = true) :
    bits BinOp.xor IntKind.u16 (IntKind.u16.wrap ((D : Int) * 2)) 35767 = ((d16 R X (j + 1) : Nat) : Int) := by
  rw [t16 D X j hD hX] at h
  have h1 : D / 32768 ^^^ (X / 2 ^ (7 - j) % 2) = 1 := by have : ((D / 32768 ^^^ (X / 2 ^ (7 - j) % 2) : Nat) : Int) = 1 := (by simpa using h); omega
  rw [wrap16_dbl, d16, ← e, if_pos h1]
  exact u16_xor_nat (D * 2 % 65536) 35767 (by omega) (by omega)

theorem r16_no (R X j D : Nat) (hD : D < 65536) (hX : X < 256) (e : D = d16 R X j)
    (h : (bits BinOp.xor IntKind.u16 ((D : Int) / 32768) (bits BinOp.and IntKind.u16 (IntKind.u16.wrap ((X : Int) / 2 ^ (7 - j))) 1) == 1) = false) :
    IntKind.u16.wrap ((D : Int) * 2) = ((d16 R X (j + 1) : Nat) : Int) := by
  rw [t16 D X j hD hX] at h
  have h1 : ¬ D / 32768 ^^^ (X / 2 ^ (7 - j) % 2) = 1 := by
    intro h0; rw [h0] at h; simp at h
  rw [wrap16_dbl, d16, ← e, if_neg h1]

theorem not32 (s : Nat) (hs : s < 4294967296) : bits BinOp.xor IntKind.u32 IntKind.u32.max (s : Int) = ((4294967295 - s : Nat) : Int) := by
  have h := u32_xor_nat 4294967295 s (by omega) hs
  rw [xor_ones s hs] at h
  exact h

theorem xorbyte32 (R X : Nat) (hR : R < 4294967296) (hX : X < 256) : bits BinOp.xor IntKind.u32 (R : Int) (X : Int) = ((R ^^^ X : Nat) : Int) := by
  exact u32_xor_nat R X hR (by omega)

theorem xorbyte16 (R X : Nat) (hR : R < 65536) (hX : X < 256) : bits BinOp.xor IntKind.u16 (R : Int) ((X : Int) * 256) = ((R ^^^ X * 256 : Nat) : Int) := by
  rw [show (X : Int) * 256 = ((X * 256 : Nat) : Int) by omega]
  exact u16_xor_nat R (X * 256) hR (by omega)

theorem reg32_step (r : Nat) (Z : List Int) (k : Nat) (h : k < Z.length) : reg32 r (Z.take (k + 1)) = s32 (reg32 r (Z.take k)) (Z.getD k 0).toNat := by
  rw [take_step Z k h, reg32_append]; rfl

theorem reg16_step (r : Nat) (Z : List Int) (k : Nat) (h : k < Z.length) : reg16 r (Z.take (k + 1)) = s16 (reg16 r (Z.take k)) (Z.getD k 0).toNat := by
  rw [take_step Z k h, reg16_append]; rfl

/-! ### The examples -/

def digits : List Int := [49, 50, 51, 52, 53, 54, 55, 56, 57]
theorem digits32 : reg32 4294967295 digits = 4294967295 - 3808858755 := by decide +kernel
theorem digits16 : reg16 0 digits = 53467 := by decide +kernel

end Go.Proofs.Ytigfoldobkigeaa

namespace Go.Proofs.Ytigfoldobkigeaa
open Go.RowKit
set_option linter.unusedVariables false

theorem ret_int {k : IntKind} {a b : Int} (h : a = b) : Ending.returned (.int k a) = .returned (.int k b) := by rw [h]

theorem step32_any (r : Nat) (w : World) (hr : r < 4294967296) :
    Calls Try.prog 46 #[.int .u32 (r : Int)] w fun e w' => e = .returned (.int .u32 (it32 8 r : Int)) ∧ w' = w := by
  go_enter Try.func46, Try.ntmps46
  go_wp2
  go_loop [0, 4] (fun x t => ∃ k : Nat, k ≤ 8 ∧ x = .int .u32 (it32 k r : Int) ∧ t = .int .i64 k) (fun _ t => 8 - (intOf t).toNat)
  case atStart => exact ⟨0, by omega, rfl, rfl⟩
  case round =>
    obtain ⟨k, hk, rfl, rfl⟩ := hrel
    have hR := it32_lt k r hr
    obtain ⟨R, hRe⟩ : ∃ R, R = it32 k r := ⟨_, rfl⟩
    have HR : Hid (R = it32 k r) := hRe
    rw [← hRe]
    rw [← hRe] at hR
    clear hRe
    by_cases hlt : k < 8
    · go_wp2
      · have ht : (bits BinOp.and IntKind.u32 (R : Int) 1 == 1) = true := by assumption
        go_round
        case rel => exact ⟨k + 1, by omega, by rw [w32_yes R hR ht, it32, ← HR.out], by go_num⟩
        case measure => simp [intOf]; omega
      · have ht : (bits BinOp.and IntKind.u32 (R : Int) 1 == 1) = false := by assumption
        go_round
        case rel => exact ⟨k + 1, by omega, by rw [w32_no R hR ht, it32, ← HR.out], by go_num⟩
        case measure => simp [intOf]; omega
    · obtain rfl : k = 8 := by omega
      go_wp2
      go_ret
      exact ⟨ret_int (by rw [HR.out]), rfl⟩

end Go.Proofs.Ytigfoldobkigeaa

namespace Go.Proofs.Ytigfoldobkigeaa
open Go.RowKit

/-- All are bytes. -/
def Bytes (zs : List Int) : Prop := ∀ j, 0 ≤ zs.getD j 0 ∧ zs.getD j 0 ≤ 255

/-- A row of bytes is there (or it has none). -/
def RowAt (w : World) (a : Option Addr) (len : Nat) (zs : List Int) : Prop :=
  len = 0 ∨ ∃ b off, a = some ⟨b, off, none⟩ ∧ ∀ j, j < len → w.cell? ⟨b, off + j, none⟩ = some (.int .u8 (zs.getD j 0))

theorem RowAt.below {w w' : World} {a : Option Addr} {len : Nat} {zs : List Int} (h : RowAt w a len zs) (hb : Below w.heap.size w w') : RowAt w' a len zs := by
  rcases h with h | ⟨b, off, ha, hc⟩
  · exact .inl h
  · refine .inr ⟨b, off, ha, fun j hj => ?_⟩
    have h1 := hc j hj
    rw [hb.cell (p := ⟨b, off + j, none⟩) (World.block_lt_of_cell? w ⟨b, off + j, none⟩ h1)]
    exact h1

theorem rowAt_of {w : World} {a : Option Addr} {len cap : Nat} {zs : List Int}
    (h : (a = none ∧ len = 0 ∧ cap = 0 ∧ zs = []) ∨
      ∃ x, a = some x ∧ len ≤ cap ∧ cap ≤ maxLen ∧ zs.length = cap ∧ (∀ i, i < zs.length → w.cell? (x.add i) = some (.int .u8 (zs.getD i 0))) ∧ ∀ n ∈ zs, (Lit.int .u8 n).wf = true) :
    RowAt w a len zs ∧ Bytes zs ∧ len ≤ maxLen := by
  rcases h with ⟨_, h, _, hz⟩ | ⟨x, rfl, hlc, hm, hz, hcell, hwz⟩
  · refine ⟨.inl h, ?_, ?_⟩
    · intro j; rw [hz]; simp
    · rw [h]; exact Nat.zero_le _
  · refine ⟨?_, fun j => by rw [List.getD_eq_getElem?_getD]; exact range_u8 hwz j, by omega⟩
    by_cases h0 : len = 0
    · exact .inl h0
    · obtain ⟨b, off, rfl, hc⟩ := ints_at hcell (by omega)
      exact .inr ⟨b, off, rfl, fun j hj => hc j (by omega)⟩

theorem rowAt_of' {w : World} {a : Option Addr} {len cap : Nat} {zs : List Int}
    (h : (a = none ∧ len = 0 ∧ cap = 0 ∧ zs = []) ∨
      ∃ x, a = some x ∧ len ≤ cap ∧ cap ≤ 140737488351232 ∧ zs.length = cap ∧ (∀ i, i < zs.length → w.cell? (x.add i) = some (.int .u8 (zs.getD i 0))) ∧ ∀ n ∈ zs, (Lit.int .u8 n).wf = true) :
    RowAt w a len zs ∧ Bytes zs := by
  have h' := rowAt_of (w := w) (a := a) (len := len) (cap := cap) (zs := zs) (by
    rcases h with h | ⟨x, h1, h2, h3, h4⟩
    · exact .inl h
    · exact .inr ⟨x, h1, h2, by unfold maxLen; omega, h4⟩)
  exact ⟨h'.1, h'.2.1⟩

theorem RowAt.take {w : World} {a : Option Addr} {len : Nat} {zs : List Int} (h : RowAt w a len zs) : RowAt w a len (zs.take len) := by
  rcases h with h | ⟨b, off, ha, hc⟩
  · exact .inl h
  · refine .inr ⟨b, off, ha, fun j hj => ?_⟩
    rw [hc j hj]
    simp [List.getD_eq_getElem?_getD, hj]

theorem Bytes.take {zs : List Int} (h : Bytes zs) (n : Nat) : Bytes (zs.take n) := by
  intro j
  have := h j
  rw [List.getD_eq_getElem?_getD] at this ⊢
  rw [List.getElem?_take]
  by_cases hj : j < n
  · rw [if_pos hj]; exact this
  · rw [if_neg hj]; simp

theorem Bytes.mem {zs : List Int} (h : Bytes zs) : ∀ z ∈ zs, 0 ≤ z ∧ z ≤ 255 := by
  intro z hz
  obtain ⟨j, hj, rfl⟩ := List.getElem_of_mem hz
  have := h j
  rw [List.getD_eq_getElem?_getD, List.getElem?_eq_getElem hj] at this
  exact this

end Go.Proofs.Ytigfoldobkigeaa

namespace Go.Proofs.Ytigfoldobkigeaa
open Go.RowKit
set_option linter.unusedVariables false

set_option maxHeartbeats 400000 in
theorem add32_any (s : Nat) (a : Option Addr) (len cap : Nat) (Z : List Int) (w : World) (hs : s < 4294967296) (hz : Z.length = len) (hl : len ≤ maxLen) (hb : Bytes Z) (hp : RowAt w a len Z) :
    Calls Try.prog 39 #[.int .u32 (s : Int), .slice a len cap] w fun e w' => e = .returned (.int .u32 ((4294967295 - reg32 (4294967295 - s) Z : Nat) : Int)) ∧ w' = w := by
  unfold maxLen at hl
  go_enter Try.func39, Try.ntmps39
  go_wp2
  go_loop [5, 11] (fun x t => ∃ k : Nat, k ≤ len ∧ x = .int .u32 (reg32 (4294967295 - s) (Z.take k) : Int) ∧ t = .int .i64 k) (fun _ t => len - (intOf t).toNat)
  case atStart => exact ⟨0, by omega, by rw [not32 s hs]; rfl, rfl⟩
  case round =>
    obtain ⟨k, hk, rfl, rfl⟩ := hrel
    have hR := reg32_lt (Z.take k) (hb.take k).mem (4294967295 - s) (by omega)
    obtain ⟨R, hRe⟩ : ∃ R, R = reg32 (4294967295 - s) (Z.take k) := ⟨_, rfl⟩
    have HR : Hid (R = reg32 (4294967295 - s) (Z.take k)) := hRe
    rw [← hRe]
    rw [← hRe] at hR
    clear hRe
    by_cases hlt : k < len
    · rcases hp with hp | ⟨b, off, rfl, hc⟩
      · omega
      have hcell := hc k hlt
      have hx := hb k
      obtain ⟨X, hX⟩ : ∃ X : Nat, Z.getD k 0 = (X : Int) := ⟨(Z.getD k 0).toNat, by omega⟩
      have HS : Hid (reg32 (4294967295 - s) (Z.take (k + 1)) = it32 8 (R ^^^ X)) := by
        unfold Hid; rw [reg32_step _ Z k (by omega), ← HR.out, hX]; rfl
      rw [hX] at hcell hx
      have hX2 : X < 256 := by omega
      have hxx := xorbyte32 R X hR hX2
      have hlx := xor_lt32 R X hR (by omega)
      obtain ⟨Y, hY⟩ : ∃ Y, Y = it32 8 (R ^^^ X) := ⟨_, rfl⟩
      have hst : ∀ W, Calls Try.prog 46 #[.int .u32 ((R ^^^ X : Nat) : Int)] W fun e w' => e = .returned (.int .u32 (Y : Int)) ∧ w' = W := fun W => by rw [hY]; exact step32_any _ W hlx
      rw [← hY] at HS
      clear hX hc hb hz hY
      go_wp2_with (go_at_call 46; refine (hst _).mono ?_; rintro e w' ⟨rfl, rfl⟩)
      go_round
      case rel => exact ⟨k + 1, by omega, by rw [HS.out], by go_num⟩
      case measure => simp [intOf]; omega
    · obtain rfl : k = len := by omega
      go_wp2
      go_ret
      exact ⟨ret_int (by rw [not32 R hR, HR.out, List.take_of_length_le (by omega)]), rfl⟩

theorem c32_any (a : Option Addr) (len cap : Nat) (Z : List Int) (w : World) (hz : Z.length = len) (hl : len ≤ maxLen) (hb : Bytes Z) (hp : RowAt w a len Z) :
    Calls Try.prog 32 #[.slice a len cap] w fun e w' => e = .returned (.int .u32 ((4294967295 - reg32 4294967295 Z : Nat) : Int)) ∧ w' = w := by
  have h := add32_any 0 a len cap Z w (by omega) hz hl hb hp
  go_enter Try.func32, Try.ntmps32
  go_wp2_with (go_at_call 39; refine h.mono ?_; rintro e w' ⟨rfl, rfl⟩)
  go_ret
  exact ⟨rfl, rfl⟩

end Go.Proofs.Ytigfoldobkigeaa

namespace Go.Proofs.Ytigfoldobkigeaa
open Go.RowKit
set_option linter.unusedVariables false

set_option maxHeartbeats 1000000 in
theorem radd32_any (s : Nat) (a : Option Addr) (len cap : Nat) (Z : List Int) (w : World) (hs : s < 4294967296) (hz : Z.length = len) (hl : len ≤ maxLen) (hb : Bytes Z) (hp : RowAt w a len Z) :
    Calls Try.prog 40 #[.int .u32 (s : Int), .slice a len cap] w fun e w' => e = .returned (.int .u32 ((4294967295 - reg32 (4294967295 - s) Z : Nat) : Int)) ∧ w' = w := by
  unfold maxLen at hl
  go_enter Try.func40, Try.ntmps40
  go_wp2
  go_loop [5, 6] (fun x t => ∃ k : Nat, k ≤ len ∧ x = .int .u32 (reg32 (4294967295 - s) (Z.take k) : Int) ∧ t = .int .i64 k) (fun _ t => len - (intOf t).toNat)
  case atStart => exact ⟨0, by omega, by rw [not32' s hs]; rfl, rfl⟩
  case round =>
    obtain ⟨k, hk, rfl, rfl⟩ := hrel
    have hR := reg32_lt (Z.take k) (hb.take k).mem (4294967295 - s) (by omega)
    obtain ⟨R, hRe⟩ : ∃ R, R = reg32 (4294967295 - s) (Z.take k) := ⟨_, rfl⟩
    have HR : Hid (R = reg32 (4294967295 - s) (Z.take k)) := hRe
    rw [← hRe]
    rw [← hRe] at hR
    clear hRe
    by_cases hlt : k < len
    · rcases hp with hp | ⟨b, off, rfl, hc⟩
      · omega
      have hcell := hc k hlt
      have hx := hb k
      obtain ⟨X, hX⟩ : ∃ X : Nat, Z.getD k 0 = (X : Int) := ⟨(Z.getD k 0).toNat, by omega⟩
      have HS : Hid (reg32 (4294967295 - s) (Z.take (k + 1)) = d32 R X 8) := by
        unfold Hid; rw [reg32_step _ Z k (by omega), ← HR.out, hX, d32_s _ _ (by omega)]; rfl
      rw [hX] at hcell hx
      have hX2 : X < 256 := by omega
      clear hX hc hb hz
      go_wp2
      go_loop [5, 7] (fun x t => ∃ j : Nat, j ≤ 8 ∧ x = .int .u32 (d32 R X j : Int) ∧ t = .int .i64 j) (fun _ t => 8 - (intOf t).toNat)
      case atStart => exact ⟨0, by omega, rfl, rfl⟩
      case round =>
        obtain ⟨j, hj, rfl, rfl⟩ := hrel
        have hD := d32_lt R X hR j
        obtain ⟨D, hDe⟩ : ∃ D, D = d32 R X j := ⟨_, rfl⟩
        have HD : Hid (D = d32 R X j) := hDe
        rw [← hDe]
        rw [← hDe] at hD
        clear hDe
        by_cases hjl : j < 8
        · go_wp2
          · have ht : (bits BinOp.and IntKind.u32 (bits BinOp.xor IntKind.u32 (D : Int) (bits BinOp.and IntKind.u32 ((X : Int) / 2 ^ j % 4294967296) 1)) 1 == 1) = true := by assumption
            have HT : Hid (bits BinOp.xor IntKind.u32 ((D : Int) / 2) 2197175160 = ((d32 R X (j + 1) : Nat) : Int)) := r32_yes R X j D hD hX2 HD.out ht
            go_round
            case rel => exact ⟨j + 1, by omega, by rw [HT.out], by go_num⟩
            case measure => simp [intOf]; omega
          · have ht : (bits BinOp.and IntKind.u32 (bits BinOp.xor IntKind.u32 (D : Int) (bits BinOp.and IntKind.u32 ((X : Int) / 2 ^ j % 4294967296) 1)) 1 == 1) = false := by assumption
            have HT : Hid ((D : Int) / 2 = ((d32 R X (j + 1) : Nat) : Int)) := r32_no R X j D hD hX2 HD.out ht
            go_round
            case rel => exact ⟨j + 1, by omega, by rw [HT.out], by go_num⟩
            case measure => simp [intOf]; omega
        · obtain rfl : j = 8 := by omega
          go_wp2
          go_round
          case rel => exact ⟨k + 1, by omega, by rw [HS.out, HD.out], by go_num⟩
          case measure => simp [intOf]; omega
    · obtain rfl : k = len := by omega
      go_wp2
      go_ret
      exact ⟨ret_int (by rw [not32' R hR, HR.out, List.take_of_length_le (by omega)]), rfl⟩

theorem rc32_any (a : Option Addr) (len cap : Nat) (Z : List Int) (w : World) (hz : Z.length = len) (hl : len ≤ maxLen) (hb : Bytes Z) (hp : RowAt w a len Z) :
    Calls Try.prog 33 #[.slice a len cap] w fun e w' => e = .returned (.int .u32 ((4294967295 - reg32 4294967295 Z : Nat) : Int)) ∧ w' = w := by
  have h := radd32_any 0 a len cap Z w (by omega) hz hl hb hp
  go_enter Try.func33, Try.ntmps33
  go_wp2_with (go_at_call 40; refine h.mono ?_; rintro e w' ⟨rfl, rfl⟩)
  go_ret
  exact ⟨rfl, rfl⟩

end Go.Proofs.Ytigfoldobkigeaa

namespace Go.Proofs.Ytigfoldobkigeaa
open Go.RowKit
set_option linter.unusedVariables false
set_option linter.unusedSimpArgs false


/-- A block that holds these cells, and may be written. -/
structure Bx (w : World) (b : Nat) (cs : Array Value) : Prop where
  lt : b < w.heap.size
  cells : ∀ j, j < cs.size → w.cell? ⟨b, j, none⟩ = cs[j]?
  free : ∀ j, w.frozen? ⟨b, j, none⟩ = false

theorem Bx.of_block {w w' : World} {b : Nat} {cs : Array Value} (h : Bx w b cs) (hlt : b < w'.heap.size) (hb : w'.heap[b]? = w.heap[b]?) : Bx w' b cs :=
  ⟨hlt, fun j hj => (World.cell?_of_block (w := w) (a := ⟨b, j, none⟩) hb).trans (h.cells j hj), fun j => (World.frozen?_of_block (w := w) (a := ⟨b, j, none⟩) hb).trans (h.free j)⟩
theorem Bx.below {w w' : World} {b n : Nat} {cs : Array Value} (h : Bx w b cs) (hb : Below n w w') (hn : b < n) : Bx w' b cs :=
  h.of_block (Nat.lt_of_lt_of_le h.lt hb.size) (hb.block b hn)
theorem Bx.alloc {w : World} {b : Nat} {cs : Array Value} (h : Bx w b cs) (o : Obj) : Bx (w.alloc o) b cs :=
  h.of_block (by have := h.lt; simp; omega) (Below.heap_alloc w o b h.lt)
theorem Bx.grown {w w' : World} {b : Nat} {row : Option Nat} {cs : Array Value} (h : Bx w b cs) (hg : w.grownBy w' row) (hn : row ≠ some b) : Bx w' b cs :=
  h.of_block (Nat.lt_of_lt_of_le h.lt hg.size) (hg.block b h.lt (fun e => hn e.symm))
theorem Bx.drew {w : World} {b : Nat} {cs : Array Value} (h : Bx w b cs) : Bx w.drew b cs := ⟨h.lt, h.cells, h.free⟩
theorem bx_new (w : World) (cs : Array Value) (t : TypeId) : Bx (w.alloc (.cells cs t)) w.heap.size cs := ⟨by simp, fun j hj => by simp, fun j => by simp⟩

theorem Bx.range {w : World} {b : Nat} {cs : Array Value} (h : Bx w b cs) : w.rangeAt b 0 cs.toList := fun j v hv => by
  have hj : j < cs.size := by have := (List.getElem?_eq_some_iff.1 hv).1; simpa using this
  rw [Nat.zero_add, h.cells j hj, ← hv, Array.getElem?_toList]
theorem Bx.there {w : World} {b : Nat} {cs : Array Value} (h : Bx w b cs) : w.there b 0 cs.size := fun j hj => by
  rw [Nat.zero_add, h.cells j hj, Array.getElem?_eq_getElem hj]
  exact ⟨rfl, h.free j⟩

theorem grown_setCellK (w : World) (a : Addr) (u : Value) : w.grownBy (w.setCell a u) (some a.block) :=
  ⟨rfl, rfl, rfl, by simp, fun j _ hk => Below.heap_setCell w a u j (fun e => hk (by rw [e]))⟩
theorem grown_setCells (b : Nat) : ∀ (vs : List Value) (o : Nat) (w : World), w.grownBy (w.setCells b o vs) (some b)
  | [], _, w => ⟨rfl, rfl, rfl, Nat.le_refl _, fun _ _ _ => rfl⟩
  | v :: r, o, w => by
    have h1 := grown_setCellK w ⟨b, o, none⟩ v
    have h2 := grown_setCells b r (o + 1) (w.setCell ⟨b, o, none⟩ v)
    exact ⟨h2.os.trans h1.os, h2.tape.trans h1.tape, h2.output.trans h1.output, Nat.le_trans h1.size h2.size, fun j hj hk => (h2.block j (Nat.lt_of_lt_of_le hj h1.size) hk).trans (h1.block j hj hk)⟩

theorem bx_set {w : World} {b : Nat} {cs ds : Array Value} (h : Bx w b cs) (hl : ds.size = cs.size) : Bx (w.setCells b 0 ds.toList) b ds := by
  have hg := grown_setCells b ds.toList 0 w
  refine ⟨Nat.lt_of_lt_of_le h.lt hg.size, fun j hj => ?_, fun j => ?_⟩
  · have := World.rangeAt_setCells_same w b 0 ds.toList (by have := h.there; rw [← hl] at this; simpa using this) j ds[j] (by simp [hj])
    rw [Nat.zero_add] at this
    rw [this, Array.getElem?_eq_getElem hj]
  · rw [World.frozen?_setCells]; exact h.free j

/-- A whole struct is stored. -/
theorem wp_store_bx {w : World} {o : Oper} {a : Act} {K : Act → World → Prop} {Q : Exit → Act → World → Prop} (ty : TypeId) (x y : Operand)
    (ho : o.op = .store ty x y) (b : Nat) (cs ds : Array Value) (hx : a.eval x = .pointer (some ⟨b, 0, none⟩)) (hy : a.eval y = .agg ds) (hB : Bx w b cs) (hl : ds.size = cs.size)
    (hi : (Try.prog.info? ty).map (·.size) = some ds.size) (h1 : ds.all (·.oneCell') = true)
    (h : ∀ w', Bx w' b ds → w.grownBy w' (some b) → K (a.put o.dst undef) w') : o.wp Try.prog a w K Q :=
  wp_store_mid ty x y ho b 0 ds hx hy (by rw [hl]; exact hB.there) hi h1 (h _ (bx_set hB hl) (grown_setCells b ds.toList 0 w))
theorem wpList_store_bx {w : World} {ops : Array Oper} {rest : List Oper} {o : Oper} {a : Act} {Q : Exit → Act → World → Prop} (hgd : o.guard = none) (ty : TypeId) (x y : Operand)
    (ho : o.op = .store ty x y) (b : Nat) (cs ds : Array Value) (hx : a.eval x = .pointer (some ⟨b, 0, none⟩)) (hy : a.eval y = .agg ds) (hB : Bx w b cs) (hl : ds.size = cs.size)
    (hi : (Try.prog.info? ty).map (·.size) = some ds.size) (h1 : ds.all (·.oneCell') = true) (hdst : o.dst = none)
    (h : ∀ w', Bx w' b ds → w.grownBy w' (some b) → wpList Try.prog ops Q rest a w') : wpList Try.prog ops Q (o :: rest) a w :=
  wpList_plain hgd fun K hK => wp_store_bx ty x y ho b cs ds hx hy hB hl hi h1 (fun w' h1 h2 => hK _ _ (by rw [hdst]; exact h w' h1 h2))

/-- A whole struct is loaded. -/
theorem wpList_load_bx {w : World} {ops : Array Oper} {rest : List Oper} {o : Oper} {a : Act} {Q : Exit → Act → World → Prop} (hgd : o.guard = none) (ty : TypeId) (x : Operand)
    (ho : o.op = .load ty x) (b : Nat) (cs : Array Value) (hx : a.eval x = .pointer (some ⟨b, 0, none⟩)) (hB : Bx w b cs) (d : TypeDesc)
    (hu : Try.prog.underlying ty = some d) (hd : d.isRow = true) (hi : (Try.prog.info? ty).map (·.size) = some cs.size)
    (h : wpList Try.prog ops Q rest (a.put o.dst (.agg cs)) w) : wpList Try.prog ops Q (o :: rest) a w :=
  wpList_load_mid hgd ty x ho b 0 hx cs.toList d hB.range hu hd (by rw [Array.length_toList]; exact hi) (by simpa using h)

theorem run_res {w : World} {b : Nat} {cs : Array Value} (hB : Bx w b cs) (ty : TypeId) (d : TypeDesc)
    (hu : Try.prog.underlying ty = some d) (hd : d.isRow = true) (hi : (Try.prog.info? ty).map (·.size) = some cs.size) : (loadVar ty ⟨b, 0, none⟩).run Try.prog w = .ok (.agg cs) w := by
  have := run_loadVar_mid (P := Try.prog) w b 0 ty cs.toList d hB.range hu hd (by rw [Array.length_toList]; exact hi)
  simpa using this

theorem wp_copy_at {w : World} {o : Oper} {a : Act} {K : Act → World → Prop} {Q : Exit → Act → World → Prop} (d s : Operand)
    (ho : o.op = .call { callee := .builtin .copy, args := #[d, s], argTypes := #[24, 24] })
    (base g off n dLen dCap : Nat) (zs ds : List Int) (sv : Value) (hd : a.eval d = .slice (some ⟨g, off, none⟩) dLen dCap) (hs : a.eval s = sv)
    (hown : w.ownsRow base 5 1 (.slice (some ⟨g, 0, none⟩) n n) n (cels zs)) (hrd : RdAt w sv ds) (hdl : ds.length ≤ dLen) (hfit : off + ds.length ≤ n) (hpos : 0 < ds.length)
    (h : ∀ w', w'.ownsRow base 5 1 (.slice (some ⟨g, 0, none⟩) n n) n (cels (over zs off ds)) → w.grownBy w' (some g) → K (a.put o.dst (goInt ds.length)) w') : o.wp Try.prog a w K Q := by
  obtain ⟨sa, sc, rfl, hsn, hsl, hsr⟩ := hrd
  rcases hsr with h1 | ⟨b, soff, rfl, hc⟩
  · omega
  have hz : zs.length = n := by have := hown.1; simpa using this
  rcases hown.2 with ⟨hx, _⟩ | ⟨g', cap', cur, hx, hbg, hg, hnc, hcm, hcs, htake⟩
  · cases hx
  simp only [Value.slice.injEq, Option.some.injEq, Addr.mk.injEq, and_true, true_and] at hx
  obtain ⟨rfl, rfl⟩ := hx
  have hrun := run_copy_row (P := Try.prog) w 24 24 o.type 5 g off dLen dCap ⟨b, soff, none⟩ ds.length sc cur 5 (cels ds) Try.underlying24 Try.size5 hg
    (by simp only [cels_length]; exact (Nat.min_eq_left hdl).symm) (fun j u hu => by rw [Go.WideShapes.add_plain]; exact hc j u hu) (by simp; omega) (cels_one _)
  unfold Oper.wp
  simp [execOp, ho, resolve, invoke, builtin, hd, hs, hrun, Result.andThen]
  rw [cels_length] at *
  refine h _ ⟨?_, .inr ⟨g, n, _, rfl, hbg, setRow_heap w g cur _ 5 _ hg, Nat.le_refl _, hcm, ?_, ?_⟩⟩ ⟨rfl, rfl, rfl, by simp, fun j _ hk => setRow_other w g j _ (fun e => hk (by rw [e]))⟩
  · simp [over_length zs ds off (by omega), hz]
  · simp; omega
  · simp only [Nat.mul_one] at htake ⊢
    obtain ⟨R, hl⟩ : ∃ R, cur.toList = cels zs ++ R := ⟨cur.toList.drop n, by rw [← htake, List.take_append_drop]⟩
    have e1 : (cels zs ++ R).take off = (cels zs).take off := List.take_append_of_le_length (by simp; omega)
    have e2 : (cels zs ++ R).drop (off + ds.length) = (cels zs).drop (off + ds.length) ++ R := List.drop_append_of_le_length (by simp; omega)
    rw [hl, e1, e2]
    simp only [← List.append_assoc]
    rw [List.take_append_of_le_length (by simp; omega), List.take_of_length_le (by simp; omega)]
    simp [over, cels, List.map_take, List.map_drop]


theorem wpAnyC_mono {P : Program} {md : Region.Mode} {ops : Array Oper} {C C' : World → Prop} {Q : Exit → Act → World → Prop} (hC : ∀ w, C' w → C w) : ∀ (fuel : Nat) (listed : Array Bool) (a : Act) (w : World), wpAnyC P md ops C' Q fuel listed a w → wpAnyC P md ops C Q fuel listed a w
  | 0, _, _, _, h => ⟨hC _ h.1, h.2⟩
  | fuel + 1, _, _, _, h => ⟨hC _ h.1, h.2.1, fun i hi => wpOp_mono (fun a' w' h' => wpAnyC_mono hC fuel _ a' w' h') (h.2.2 i hi)⟩
theorem wpAnyC_skip {P : Program} {md : Region.Mode} {ops : Array Oper} {C : World → Prop} {Q : Exit → Act → World → Prop} (i : Nat) {oi : Oper} {fuel : Nat} {listed : Array Bool} {a : Act} {w : World} (hi : ops[i]? = some oi)
    (hs : Region.noSelect ops = true) (hf : Region.free md ops listed i = true) (hr : (Region.ready md ops listed).contains i = true)
    (hQ : ∀ c a w, Q (.panic c) (a.put oi.dst undef) w → Q (.panic c) a w) (hw : Region.wanted oi (yielded ops a.tmps) = false)
    (h : wpAnyC P md ops C Q fuel (listed.setIfInBounds i true) (a.put oi.dst undef) w) : wpAnyC P md ops C Q (fuel + 1) listed a w :=
  wpAnyC_first hi (Region.noSelect_spec hs) hQ fuel listed a w (Region.free_spec hi hf) (by simpa using hr) (.inr ⟨hw, rfl⟩) h
theorem wanted_at (b : Bool) {o oj : Oper} {ops : Array Oper} {tmps : Array Value} {j d : Nat} (hg : o.guard = some (j, b)) (hj : ops[j]? = some oj) (hd : oj.dst = some d) (ht : tmps[d]? = some (.bool b)) : Region.wanted o (yielded ops tmps) = true := by
  unfold Region.wanted yielded
  rw [hg]
  simp [hj, hd, ht]
theorem wanted_no (b : Bool) {o oj : Oper} {ops : Array Oper} {tmps : Array Value} {j d : Nat} (hg : o.guard = some (j, b)) (hj : ops[j]? = some oj) (hd : oj.dst = some d) (ht : tmps[d]? = some (.bool !b)) : Region.wanted o (yielded ops tmps) = false := by
  unfold Region.wanted yielded
  rw [hg]
  cases b <;> simp [hj, hd, ht]
theorem wanted_undef (b : Bool) {o oj : Oper} {ops : Array Oper} {tmps : Array Value} {j d : Nat} (hg : o.guard = some (j, b)) (hj : ops[j]? = some oj) (hd : oj.dst = some d) (ht : tmps[d]? = some undef) : Region.wanted o (yielded ops tmps) = false := by
  unfold Region.wanted yielded
  rw [hg]
  simp [hj, hd, ht, undef]
/-- A whole struct or array is loaded, as an operation of a region. -/
theorem exec_load_bx {W : World} {o : Oper} {a : Act} (ty : TypeId) (x : Operand) (ho : o.op = .load ty x) (b : Nat) (cs : Array Value) (hx : a.eval x = .pointer (some ⟨b, 0, none⟩)) (hB : Bx W b cs) (d : TypeDesc)
    (hu : Try.prog.underlying ty = some d) (hd : d.isRow = true) (hi : (Try.prog.info? ty).map (·.size) = some cs.size) :
    (execOp a.eval o).run Try.prog W = .ok (.value (.agg cs)) W := by
  have := run_loadAt_mid (P := Try.prog) W b 0 ty cs.toList d hB.range hu hd (by rw [Array.length_toList]; exact hi)
  unfold execOp
  simp only [ho, hx]
  simp [this]
theorem info_zero {ty : TypeId} {Z : Array Value} (h : (Try.prog.info? ty).map (fun i => i.zero) = some (some (.agg Z))) : ∀ (o : Oper) (a : Act) (w : World), o.op = .alloc ty → (execOp a.eval o).run Try.prog w = .ok (.value (.pointer (some ⟨w.heap.size, 0, none⟩))) (w.alloc (.cells Z ty)) := by
  cases hi : Try.prog.info? ty with
  | none => rw [hi] at h; simp at h
  | some i =>
    rw [hi] at h
    simp only [Option.map_some, Option.some.injEq] at h
    intro o a w ho
    unfold execOp
    simp only [ho]
    simp [Instr.alloc, zeroValue, typeInfo, hi, h, newVar, newRow, newObj, Value.cells]
    rfl
theorem exec_box {o : Oper} {a : Act} {w : World} (ty : TypeId) (x : Operand) (ho : o.op = .box ty x) (V : Array Value) (hx : a.eval x = .agg V) : (execOp a.eval o).run Try.prog w = .ok (.value (.pointer (some ⟨w.heap.size, 0, none⟩))) (w.alloc (.cells V ty)) := by
  unfold execOp
  simp only [ho]
  simp [hx, Instr.box, newVar, newRow, newObj, Value.cells]
  rfl
theorem wpList_of_exec {w w1 : World} {v : Value} {ops : Array Oper} {rest : List Oper} {o : Oper} {a : Act} {Q : Exit → Act → World → Prop} (hgd : o.guard = none) (he : (execOp a.eval o).run Try.prog w = .ok (.value v) w1)
    (h : wpList Try.prog ops Q rest (a.put o.dst v) w1) : wpList Try.prog ops Q (o :: rest) a w :=
  wpList_plain hgd fun K hK => by
    unfold Oper.wp
    rw [he]
    exact hK _ _ h
theorem wpList_box {w : World} {ops : Array Oper} {rest : List Oper} {o : Oper} {a : Act} {Q : Exit → Act → World → Prop} (hgd : o.guard = none) (ty : TypeId) (x : Operand) (ho : o.op = .box ty x) (V : Array Value) (hx : a.eval x = .agg V)
    (h : ∀ b w', w.heap.size ≤ b → Bx w' b V → Below w.heap.size w w' → w'.heap[b]? = some (.cells V ty (0, 0)) → wpList Try.prog ops Q rest (a.put o.dst (.pointer (some ⟨b, 0, none⟩))) w') : wpList Try.prog ops Q (o :: rest) a w :=
  wpList_of_exec hgd (exec_box ty x ho V hx) (h _ _ (Nat.le_refl _) (bx_new w V ty) ((Below.refl _ _).alloc (Nat.le_refl _) _) (by show (w.heap.push _)[w.heap.size]? = _; simp))
theorem wpList_var {w : World} {ops : Array Oper} {rest : List Oper} {o : Oper} {a : Act} {Q : Exit → Act → World → Prop} (hgd : o.guard = none) (ty : TypeId) (ho : o.op = .alloc ty) (Z : Array Value) (hz : (Try.prog.info? ty).map (fun i => i.zero) = some (some (.agg Z)))
    (h : ∀ b w', w.heap.size ≤ b → Bx w' b Z → Below w.heap.size w w' → wpList Try.prog ops Q rest (a.put o.dst (.pointer (some ⟨b, 0, none⟩))) w') : wpList Try.prog ops Q (o :: rest) a w :=
  wpList_of_exec hgd (info_zero hz o a w ho) (h _ _ (Nat.le_refl _) (bx_new w Z ty) ((Below.refl _ _).alloc (Nat.le_refl _) _))
theorem RdAt.bel {w w' : World} {v : Value} {zs : List Int} (h : RdAt w v zs) (hb : Below w.heap.size w w') : RdAt w' v zs := by
  obtain ⟨a, c, rfl, h1, h2, h3⟩ := h
  refine ⟨a, c, rfl, h1, h2, ?_⟩
  rcases h3 with h3 | ⟨b, off, rfl, hc⟩
  · exact .inl h3
  · refine .inr ⟨b, off, rfl, fun j u hu => ?_⟩
    have h1 := hc j u hu
    rw [hb.cell (p := ⟨b, off + j, none⟩) (World.block_lt_of_cell? w ⟨b, off + j, none⟩ h1)]
    exact h1

theorem wpList_copy_at {w : World} {ops : Array Oper} {rest : List Oper} {o : Oper} {a : Act} {Q : Exit → Act → World → Prop} (hgd : o.guard = none) (d s : Operand)
    (ho : o.op = .call { callee := .builtin .copy, args := #[d, s], argTypes := #[24, 24] })
    (base g off n dLen dCap : Nat) (zs ds : List Int) (sv : Value) (hd : a.eval d = .slice (some ⟨g, off, none⟩) dLen dCap) (hs : a.eval s = sv)
    (hown : w.ownsRow base 5 1 (.slice (some ⟨g, 0, none⟩) n n) n (cels zs)) (hrd : RdAt w sv ds) (hdl : ds.length ≤ dLen) (hfit : off + ds.length ≤ n)
    (h : ∀ w', w'.ownsRow base 5 1 (.slice (some ⟨g, 0, none⟩) n n) n (cels (over zs off ds)) → w.grownBy w' (some g) → wpList Try.prog ops Q rest (a.put o.dst (goInt ds.length)) w') : wpList Try.prog ops Q (o :: rest) a w := by
  by_cases h0 : ds.length = 0
  · obtain rfl : ds = [] := List.eq_nil_of_length_eq_zero h0
    obtain ⟨sa, sc, rfl, _, _, _⟩ := hrd
    refine wpList_copy_nothing hgd d s 24 24 ho 5 Try.underlying24 Try.size5 (some ⟨g, off, none⟩) sa dLen dCap 0 sc hd hs (by simp) ?_
    have e : over zs off [] = zs := by simp [over]
    exact h w (by rw [e]; exact hown) ⟨rfl, rfl, rfl, Nat.le_refl _, fun _ _ _ => rfl⟩
  · exact wpList_plain hgd fun K hK => wp_copy_at d s ho base g off n dLen dCap zs ds sv hd hs hown hrd hdl hfit (by omega) (fun w' h1 h2 => hK _ _ (h w' h1 h2))

/-- Put into a row of one's own. -/
theorem put_row (base g i n L : Nat) (zs : List Int) (x : Int) (w : World) (hz : zs.length = L) (hL : L ≤ 5000) (ho : w.ownsRow base 5 1 (.slice (some ⟨g, 0, none⟩) L L) L (cels zs)) (hn1 : 1 ≤ n) (hn2 : n ≤ 8) (hi : i + n ≤ L) (hx : 0 ≤ x) (hx2 : x < 2 ^ (8 * n)) :
    Calls Try.prog 38 #[.slice (some ⟨g, 0, none⟩) L L, .int .i64 i, .int .i64 n, .int .u64 x] w fun e w' => ∃ g', e = .returned (.tuple #[.slice (some ⟨g', 0, none⟩) L L, .int .i64 0]) ∧
      w'.ownsRow w.heap.size 5 1 (.slice (some ⟨g', 0, none⟩) L L) L (cels (B.asc zs i n x n)) ∧ Below w.heap.size w w' := by
  have := B.put_ok g 0 L L i n x zs w hz (by omega) hn1 hn2 hi hx (by simp; rw [Int.ediv_eq_zero_of_lt hx hx2]) (fun j hj => by rw [Nat.zero_add]; exact own_facts ho j hj)
  exact this

theorem rd_len {w : World} {v : Value} {zs : List Int} (h : RdAt w v zs) : ∃ a c, v = .slice a zs.length c := by
  obtain ⟨a, c, rfl, _⟩ := h
  exact ⟨a, c, rfl⟩

theorem rd_cells {w : World} {b off len c : Nat} {zs : List Int} (h : RdAt w (.slice (some ⟨b, off, none⟩) len c) zs) : zs.length = len ∧ ∀ j, j < len → w.cell? ⟨b, off + j, none⟩ = some (.int .u8 (zs.getD j 0)) := by
  obtain ⟨a, c', hv, _, _, h⟩ := h
  simp only [Value.slice.injEq] at hv
  obtain ⟨ha, hl, _⟩ := hv
  refine ⟨hl.symm, fun j hj => ?_⟩
  rcases h with h | ⟨b', off', hb, hc⟩
  · omega
  · rw [← ha] at hb
    simp only [Option.some.injEq, Addr.mk.injEq, and_true] at hb
    obtain ⟨rfl, rfl⟩ := hb
    refine hc j _ ?_
    unfold cels
    rw [List.getElem?_map, List.getElem?_eq_getElem (by omega), List.getD_eq_getElem?_getD, List.getElem?_eq_getElem (by omega)]
    rfl

theorem str_inj {A C : List Int} (hA : B.Bytes A) (hC : B.Bytes C) (h : strOfNums A = strOfNums C) : A = C := by
  have h1 := congrArg (fun s => s.data.toList) h
  simp only [strOfNums_data] at h1
  have hl : A.length = C.length := by have := congrArg List.length h1; simpa using this
  refine List.ext_getElem hl (fun i h2 h3 => ?_)
  have h4 := congrArg (fun l => l[i]?) h1
  simp [h2, h3] at h4
  have a := hA i
  have c := hC i
  rw [List.getD_eq_getElem?_getD, List.getElem?_eq_getElem h2] at a
  rw [List.getD_eq_getElem?_getD, List.getElem?_eq_getElem h3] at c
  simp at a c
  have h5 := congrArg UInt8.toNat h4
  simp at h5
  omega

theorem get_in (a : Option Addr) (n c : Nat) (zs : List Int) (i k : Nat) (w : World) (hr : RdAt w (.slice a n c) zs) (hl : zs.length = n) (hm : n ≤ maxLen) (hb : B.Bytes zs) (hk1 : 1 ≤ k) (hk2 : k ≤ 8) (hi : i + k ≤ n) :
    Calls Try.prog 41 #[.slice a n c, .int .i64 i, .int .i64 k] w fun e w' => e = .returned (.tuple #[.int .u64 (B.num zs i k), .int .i64 0]) ∧ w' = w := by
  obtain ⟨a', c', hv, h1, h2, h3⟩ := id hr
  simp only [Value.slice.injEq] at hv
  obtain ⟨rfl, -, rfl⟩ := hv
  rcases h3 with h3 | ⟨b, off, rfl, hc⟩
  · omega
  · exact B.get_ok b off n c i k zs w hm hk1 hk2 hi hb (rd_cells hr).2

theorem rd_take {w : World} {a : Option Addr} {n c : Nat} {zs : List Int} (h : RdAt w (.slice a n c) zs) (m : Nat) (hm : m ≤ zs.length) : RdAt w (.slice a m c) (zs.take m) := by
  obtain ⟨a', c', hv, h1, h2, h3⟩ := h
  simp only [Value.slice.injEq] at hv
  obtain ⟨rfl, rfl, rfl⟩ := hv
  have hl : (zs.take m).length = m := by rw [List.length_take]; omega
  refine ⟨a, c, by rw [hl], fun e => ?_, by rw [hl]; omega, ?_⟩
  · have := h1 e; rw [hl]; omega
  · rcases h3 with h3 | ⟨b, off, rfl, hc⟩
    · exact .inl (by rw [hl]; omega)
    · refine .inr ⟨b, off, rfl, fun j u hu => hc j u ?_⟩
      unfold cels at hu ⊢
      rw [List.map_take, List.getElem?_take] at hu
      split at hu
      · exact hu
      · cases hu

def bigL (v : Int) (n : Nat) : List Int := B.desc (List.replicate n 0) 0 n v n

theorem bigL_len (v : Int) (n : Nat) : (bigL v n).length = n := by simp [bigL, B.desc_len]

set_option maxHeartbeats 1000000 in
set_option maxRecDepth 100000 in
theorem big_any (v : Int) (n : Nat) (w : World) (hv : 0 ≤ v) (hv2 : v < 18446744073709551616) (hn : 0 < n) (hn8 : n ≤ 8) :
    Calls Try.prog 24 #[.int .u64 v, .int .i64 n] w fun e w' => ∃ g, e = .returned (.slice (some ⟨g, 0, none⟩) n n) ∧ w'.ownsRow w.heap.size 5 1 (.slice (some ⟨g, 0, none⟩) n n) n (cels (bigL v n)) ∧ Below w.heap.size w w' := by
  obtain ⟨i0, hi0, hz0, hz1, hz2⟩ := info_parts Try.info5
  have hnm : n ≤ maxLen := by unfold maxLen; omega
  go_enter Try.func24, Try.ntmps24
  go_wp2_with (at_make; refine wpList_make_full _ rfl _ _ 24 rfl w.heap.size 5 i0 (.int .u8 0) 1 Try.underlying24 hi0 hz0 hz1 .i64 .i64 _ _ n rfl rfl rfl rfl (by rw [hz2]; omega) hnm (Nat.le_refl _) ?_; intro w1 hown1 hg1; have hb1 : Kpt (Below w.heap.size w w1) := ⟨(Below.refl _ _).grown hg1 (Nat.le_refl _) (fun k h => by cases h)⟩; rw [made_u8] at hown1; replace hown1 := Kpt.mk hown1; clear hg1)
  go_loopw [0, 6] (fun x t wr => ∃ m : Nat, m ≤ n ∧ x = .int .u64 (v / 2 ^ (8 * m)) ∧ t = .int .i64 ((n : Int) - 1 - m) ∧ wr.ownsRow w.heap.size 5 1 (.slice (some ⟨w.heap.size, 0, none⟩) n n) n (cels (B.desc (List.replicate n 0) 0 n v m)) ∧ Below w.heap.size w wr) (fun _ t _ => ((intOf t) + 1).toNat)
  case atStart => exact ⟨0, by omega, by simp, by go_num, hown1.out, hb1.out⟩
  case round =>
    obtain ⟨m, hm, rfl, rfl, hown, hb⟩ := hrel
    by_cases hlt : m < n
    · obtain ⟨d, hd⟩ : ∃ d, d = n - 1 - m := ⟨_, rfl⟩
      have hdk : (n : Int) - 1 - m = (d : Int) := by omega
      have hx := own_facts hown d (by omega)
      have hfr := hown.frozenAt d
      have HO := Kpt.mk hown
      have h0 := B.div_nonneg v hv m
      have h9 := B.div_le v hv m
      have hstep := Kpt.mk (B.div_step v m)
      have h1 : d < n := by omega
      have HD := Kpt.mk hd
      rw [hdk]
      clear hown hd hdk
      obtain ⟨y, hy⟩ : ∃ y, y = v / 2 ^ (8 * m) := ⟨_, rfl⟩
      rw [← hy] at h0 h9 hstep ⊢
      replace hy := Kpt.mk hy
      go_wp2
      go_roundw
      case rel =>
        refine ⟨m + 1, by omega, ?_, ?_, ?_, hb.setCell (Nat.le_refl _) _⟩
        · rw [← hstep.out]
        · have := HD.out; go_num
        · have := own_set HO.out d (y % 256)
          rw [show B.desc (List.replicate n 0) 0 n v (m + 1) = (B.desc (List.replicate n 0) 0 n v m).set d (y % 256) from by rw [B.desc, HD.out, hy.out]; simp]
          exact this
      case measure => have := HD.out; first | (simp [intOf]; done) | (simp [intOf]; omega)
    · obtain rfl : m = n := by omega
      go_wp2
      go_ret
      exact ⟨_, rfl, hown, hb⟩


theorem bigL_bytes (v : Int) (n : Nat) (hn : n ≤ 8) : Bytes (bigL v n) := by
  unfold bigL
  rw [B.desc_asc _ _ _ _ (by simp)]
  exact B.bytes_asc _ (by intro j; rw [List.getD_eq_getElem?_getD, List.getElem?_replicate]; split <;> simp) 0 n v (by simp) n (Nat.le_refl _)
theorem bigL_get (v : Int) (n j : Nat) (hj : j < n) : (bigL v n)[j]? = some (v / 2 ^ (8 * (n - 1 - j)) % 256) := by
  unfold bigL
  rw [B.desc_get _ 0 n v (by simp) n (Nat.le_refl _), if_pos (by omega), Nat.sub_zero]

theorem rnum_any (b off len cap i n : Nat) (zs : List Int) (w : World) (hl : len ≤ maxLen) (hn1 : 1 ≤ n) (hn2 : n ≤ 8) (hi : i + n ≤ len) (hb : Bytes zs)
    (hc : ∀ j, j < len → w.cell? ⟨b, off + j, none⟩ = some (.int .u8 (zs.getD j 0))) :
    Calls Try.prog 30 #[.slice (some ⟨b, off, none⟩) len cap, .int .i64 i, .int .i64 n] w fun e w' => e = .returned (.int .u64 (B.num zs i n)) ∧ w' = w := by
  have h := B.rget_ok b off len cap i n zs w hl hn1 hn2 hi hb hc
  obtain ⟨x, hx⟩ : ∃ x, x = B.num zs i n := ⟨_, rfl⟩
  rw [← hx] at h ⊢
  clear hx hc
  go_enter Try.func30, Try.ntmps30
  go_wp2_with (go_at_call 37; refine h.mono ?_; rintro e w' ⟨rfl, rfl⟩)
  go_ret
  exact ⟨rfl, rfl⟩

theorem num_cong (Z Y : List Int) (i : Nat) : ∀ n, (∀ k, k < n → Z.getD (i + k) 0 = Y.getD (i + k) 0) → B.num Z i n = B.num Y i n
  | 0, _ => rfl
  | n + 1, h => by
    rw [B.num, B.num, num_cong Z Y i n (fun k hk => h k (by omega)), h n (by omega)]

theorem over_get (zs ds : List Int) (off : Nat) (h : off + ds.length ≤ zs.length) (j : Nat) : (over zs off ds)[j]? = if j < off then zs[j]? else if j < off + ds.length then ds[j - off]? else zs[j]? := by
  unfold over
  have ht : (zs.take off).length = off := by rw [List.length_take]; omega
  by_cases h1 : j < off
  · rw [if_pos h1, List.getElem?_append_left (by omega), List.getElem?_take, if_pos h1]
  · rw [if_neg h1, List.getElem?_append_right (by omega), ht]
    by_cases h2 : j < off + ds.length
    · rw [if_pos h2, List.getElem?_append_left (by omega)]
    · rw [if_neg h2, List.getElem?_append_right (by omega), List.getElem?_drop]
      congr 1
      omega

end Go.Proofs.Ytigfoldobkigeaa

namespace Go.Proofs.Ytigfoldobkigeaa.B

/-- What a byte has that the mask's byte of that place hasn't. -/
def ext (zs ms : List Int) (lenm i : Nat) : Int :=
  if i < lenm then bits .andNot .u8 (zs.getD i 0) (ms.getD i 0) else zs.getD i 0

/-- The first place from i on, of so many, that has something, and its highest bit. -/
def oddFrom (x : Nat → Int) : Nat → Nat → Int × Int
  | 0, _ => (-1, -1)
  | f + 1, i => if x i = 0 then oddFrom x f (i + 1) else ((i : Int), ((x i).toNat.log2 : Int))

theorem oddFrom_skip (x : Nat → Int) (f i : Nat) (h : x i = 0) : oddFrom x (f + 1) i = oddFrom x f (i + 1) := by
  simp [oddFrom, h]

theorem oddFrom_hit (x : Nat → Int) (f i : Nat) (h : ¬ x i = 0) : oddFrom x (f + 1) i = ((i : Int), ((x i).toNat.log2 : Int)) := by
  simp [oddFrom, h]

theorem ext_nat (zs ms : List Int) (hz : Bytes zs) (hm : Bytes ms) (lenm i : Nat) :
    ext zs ms lenm i = (((zs.getD i 0).toNat &&& (255 - (if i < lenm then (ms.getD i 0).toNat else 0)) : Nat) : Int) := by
  have h1 := hz i
  have h2 := hm i
  unfold ext
  by_cases h : i < lenm
  · rw [if_pos h, if_pos h, u8_andNot _ _ (by omega) (by omega) (by omega) (by omega)]
  · rw [if_neg h, if_neg h]
    have e : (zs.getD i 0).toNat &&& (255 - 0) = (zs.getD i 0).toNat % 2 ^ 8 := Nat.and_two_pow_sub_one_eq_mod _ 8
    rw [e]
    omega

theorem ext_bd (zs ms : List Int) (hz : Bytes zs) (hm : Bytes ms) (lenm i : Nat) : 0 ≤ ext zs ms lenm i ∧ ext zs ms lenm i ≤ 255 := by
  rw [ext_nat zs ms hz hm]
  have h1 := hz i
  have : (zs.getD i 0).toNat &&& (255 - (if i < lenm then (ms.getD i 0).toNat else 0)) ≤ (zs.getD i 0).toNat := Nat.and_le_left
  omega

theorem testBit_ext (p m b : Nat) (hm : m < 256) (hb : b < 8) : (p &&& (255 - m)).testBit b = (p.testBit b && !m.testBit b) := by
  rw [Nat.testBit_and]
  have e : 255 - m = 2 ^ 8 - (m + 1) := by omega
  rw [e, Nat.testBit_two_pow_sub_succ (by omega)]
  simp [hb]

theorem and_two_pow_eq (p b : Nat) (h : p.testBit b = false) : p &&& 2 ^ b = 0 := by
  apply Nat.eq_of_testBit_eq
  intro i
  rw [Nat.testBit_and, Nat.testBit_two_pow, Nat.zero_testBit]
  by_cases h2 : b = i
  · subst h2; simp [h]
  · simp [h2]

theorem and_two_pow_ne (p b : Nat) (h : p.testBit b = true) : p &&& 2 ^ b ≠ 0 := by
  intro h0
  have h1 : (p &&& 2 ^ b).testBit b = true := by rw [Nat.testBit_and, Nat.testBit_two_pow]; simp [h]
  rw [h0] at h1
  simp at h1

theorem lt_of_no_bit (e b : Nat) (h : e < 2 ^ (b + 1)) (hb : e.testBit b = false) : e < 2 ^ b := by
  apply Nat.lt_pow_two_of_testBit
  intro i hi
  by_cases h2 : i = b
  · rw [h2]; exact hb
  · exact Nat.testBit_lt_two_pow (Nat.lt_of_lt_of_le h (Nat.pow_le_pow_right (by decide) (by omega)))

theorem log2_of_bit (e b : Nat) (h : e < 2 ^ (b + 1)) (hb : e.testBit b = true) : e.log2 = b := by
  have h2 : 2 ^ b ≤ e := Nat.ge_two_pow_of_testBit hb
  have h3 : e ≠ 0 := by
    have := Nat.two_pow_pos b
    omega
  have h4 := (Nat.log2_lt h3).2 h
  have h5 := (Nat.le_log2 h3).2 h2
  omega

theorem pow8 (d : Nat) (hd : d < 8) : ((2 : Int) ^ d % 256).toNat = 2 ^ d ∧ 0 ≤ (2 : Int) ^ d % 256 ∧ (2 : Int) ^ d % 256 < 256 := by
  have h : d = 0 ∨ d = 1 ∨ d = 2 ∨ d = 3 ∨ d = 4 ∨ d = 5 ∨ d = 6 ∨ d = 7 := by omega
  rcases h with rfl | rfl | rfl | rfl | rfl | rfl | rfl | rfl <;> decide

theorem bit_yes (z : Int) (h0 : 0 ≤ z) (h1 : z ≤ 255) (d : Nat) (hd : d < 8) (h : z.toNat.testBit d = true) :
    (bits BinOp.and IntKind.u8 z (2 ^ d % 256) != 0) = true ∧ (bits BinOp.and IntKind.u8 z (2 ^ d % 256) == 0) = false := by
  have hp := pow8 d hd
  have hn := and_two_pow_ne z.toNat d h
  rw [u8_and _ _ h0 (by omega) hp.2.1 hp.2.2, hp.1]
  simp only [bne_iff_ne, beq_eq_false_iff_ne]
  omega

theorem bit_no (z : Int) (h0 : 0 ≤ z) (h1 : z ≤ 255) (d : Nat) (hd : d < 8) (h : z.toNat.testBit d = false) :
    (bits BinOp.and IntKind.u8 z (2 ^ d % 256) != 0) = false ∧ (bits BinOp.and IntKind.u8 z (2 ^ d % 256) == 0) = true := by
  have hp := pow8 d hd
  have hn := and_two_pow_eq z.toNat d h
  rw [u8_and _ _ h0 (by omega) hp.2.1 hp.2.2, hp.1, hn]
  simp

/-- The bit d of what a byte has that the mask hasn't. -/
theorem ext_bit (zs ms : List Int) (hz : Bytes zs) (hm : Bytes ms) (lenm i d : Nat) (hd : d < 8) :
    (ext zs ms lenm i).toNat.testBit d = ((zs[i]?.getD 0).toNat.testBit d && !(if i < lenm then (ms[i]?.getD 0) else 0).toNat.testBit d) := by
  rw [ext_nat zs ms hz hm]
  have h2 := hm i
  rw [Int.toNat_natCast, testBit_ext _ _ _ (by split <;> omega) hd, List.getD_eq_getElem?_getD, List.getD_eq_getElem?_getD]
  by_cases h : i < lenm
  · simp [h]
  · simp [h]

end Go.Proofs.Ytigfoldobkigeaa.B

namespace Go.Proofs.Ytigfoldobkigeaa.B
open Go.RowKit
set_option linter.unusedVariables false

theorem bitLen_log2 : ∀ n : Fin 256, n.val = 0 ∨ Lib.bitLen n.val = n.val.log2 + 1 := by decide +kernel

theorem len8_wrap (x : Int) (h0 : 0 ≤ x) (h1 : x ≤ 255) : wrap64 (Lib.len8 x) = (Lib.bitLen x.toNat : Int) := by
  rw [← Lib.len8_int x h0 h1]; unfold wrap64; omega

theorem ret_int {k : IntKind} {a b : Int} (h : a = b) : Ending.returned (.int k a) = .returned (.int k b) := by rw [h]

theorem len8_any (x : Int) (w : World) (h0 : 0 ≤ x) (h1 : x ≤ 255) :
    Calls Try.prog 42 #[.int .u8 x] w fun e w' => e = .returned (.int .i64 (Lib.bitLen x.toNat)) ∧ w' = w := by
  go_enter Try.func42, Try.ntmps42
  go_wp2
  go_ret
  exact ⟨ret_int (len8_wrap x h0 h1), rfl⟩

theorem len8_log (x : Int) (w : World) (h0 : 0 < x) (h1 : x ≤ 255) :
    Calls Try.prog 42 #[.int .u8 x] w fun e w' => e = .returned (.int .i64 ((x.toNat.log2 : Int) + 1)) ∧ w' = w := by
  have h := bitLen_log2 ⟨x.toNat, by omega⟩
  simp only at h
  have e : (x.toNat.log2 : Int) + 1 = (Lib.bitLen x.toNat : Int) := by omega
  rw [e]
  exact len8_any x w (by omega) h1

theorem log2_bd (x : Int) (h0 : 0 < x) (h1 : x ≤ 255) : (x.toNat.log2 : Int) < 8 := by
  have h := (Nat.log2_lt (n := x.toNat) (k := 8) (by omega)).2 (by omega)
  omega

theorem ret2_int {k : IntKind} {a b c d : Int} (h : (a, b) = (c, d)) : Ending.returned (.tuple #[.int k a, .int k b]) = .returned (.tuple #[.int k c, .int k d]) := by
  injection h with h1 h2; rw [h1, h2]

set_option maxHeartbeats 1000000 in
theorem odd_any (a am : Option Addr) (len cap lenm capm : Nat) (zs ms : List Int) (w : World) (hl : len ≤ maxLen) (hlm : lenm ≤ maxLen) (hz : Bytes zs) (hm : Bytes ms)
    (hp : RowAt w a len zs) (hq : RowAt w am lenm ms) :
    Calls Try.prog 35 #[.slice a len cap, .slice am lenm capm] w fun e w' => e = .returned (.tuple #[.int .i64 (oddFrom (ext zs ms lenm) len 0).1, .int .i64 (oddFrom (ext zs ms lenm) len 0).2]) ∧ w' = w := by
  unfold maxLen at hl hlm
  go_enter Try.func35, Try.ntmps35
  go_wp2
  go_loop [10] (fun t => ∃ k : Nat, k ≤ len ∧ Hid (oddFrom (ext zs ms lenm) len 0 = oddFrom (ext zs ms lenm) (len - k) k) ∧ t = .int .i64 k) (fun t => len - (intOf t).toNat)
  case atStart => exact ⟨0, by omega, rfl, rfl⟩
  case round =>
    obtain ⟨k, hk, hh, rfl⟩ := hrel
    by_cases hlt : k < len
    · rcases hp with hp | ⟨b, off, rfl, hc⟩
      · omega
      have hlk : len - k = (len - (k + 1)) + 1 := by omega
      by_cases hmk : k < lenm
      · rcases hq with hq | ⟨bm, offm, rfl, hcm⟩
        · omega
        have hcellm := hcm k hmk
        have hex : ext zs ms lenm k = bits .andNot .u8 (zs[k]?.getD 0) (ms[k]?.getD 0) := by unfold ext; rw [if_pos hmk, List.getD_eq_getElem?_getD, List.getD_eq_getElem?_getD]
        have hcell := hc k hlt
        have hx : 0 ≤ bits .andNot .u8 (zs[k]?.getD 0) (ms[k]?.getD 0) ∧ bits .andNot .u8 (zs[k]?.getD 0) (ms[k]?.getD 0) ≤ 255 := by
          have := ext_bd zs ms hz hm lenm k
          rw [hex] at this
          exact this
        have HX : Hid (ext zs ms lenm k = bits .andNot .u8 (zs[k]?.getD 0) (ms[k]?.getD 0)) := hex
        clear hex
        by_cases hx0 : (bits .andNot .u8 (zs[k]?.getD 0) (ms[k]?.getD 0) != 0) = true
        · have hne : ¬ ext zs ms lenm k = 0 := by rw [HX.out]; simpa using hx0
          have hpos : 0 < bits .andNot .u8 (zs[k]?.getD 0) (ms[k]?.getD 0) := by have : ¬ bits .andNot .u8 (zs[k]?.getD 0) (ms[k]?.getD 0) = 0 := (by simpa using hx0); omega
          have hlog := log2_bd _ hpos hx.2
          have HH : Hid (oddFrom (ext zs ms lenm) len 0 = ((k : Int), ((bits .andNot .u8 (zs[k]?.getD 0) (ms[k]?.getD 0)).toNat.log2 : Int))) := by
            unfold Hid; rw [hh.out, hlk, oddFrom_hit _ _ _ hne, HX.out]
          clear hne hh HX hlk
          go_wp2_with (go_at_call 42; refine (len8_log _ _ hpos hx.2).mono ?_; rintro e w' ⟨rfl, rfl⟩)
          go_ret2
          exact ⟨ret2_int (by rw [HH.out]), rfl⟩
        · have hx1 : (bits .andNot .u8 (zs[k]?.getD 0) (ms[k]?.getD 0) != 0) = false := by simpa using hx0
          have hne : ext zs ms lenm k = 0 := by rw [HX.out]; simpa using hx1
          have HH : Hid (oddFrom (ext zs ms lenm) len 0 = oddFrom (ext zs ms lenm) (len - (k + 1)) (k + 1)) := by
            unfold Hid; rw [hh.out, hlk, oddFrom_skip _ _ _ hne]
          clear hne hh HX hlk hx0
          go_wp2
          go_round
          case rel => exact ⟨k + 1, by omega, HH, by go_num⟩
          case measure => simp [intOf]; omega
      · have hex : ext zs ms lenm k = zs[k]?.getD 0 := by unfold ext; rw [if_neg hmk, List.getD_eq_getElem?_getD]
        have hcell := hc k hlt
        have hx : 0 ≤ zs[k]?.getD 0 ∧ zs[k]?.getD 0 ≤ 255 := by
          have := ext_bd zs ms hz hm lenm k
          rw [hex] at this
          exact this
        have HX : Hid (ext zs ms lenm k = zs[k]?.getD 0) := hex
        clear hex
        by_cases hx0 : (zs[k]?.getD 0 != 0) = true
        · have hne : ¬ ext zs ms lenm k = 0 := by rw [HX.out]; simpa using hx0
          have hpos : 0 < zs[k]?.getD 0 := by have : ¬ zs[k]?.getD 0 = 0 := (by simpa using hx0); omega
          have hlog := log2_bd _ hpos hx.2
          have HH : Hid (oddFrom (ext zs ms lenm) len 0 = ((k : Int), ((zs[k]?.getD 0).toNat.log2 : Int))) := by
            unfold Hid; rw [hh.out, hlk, oddFrom_hit _ _ _ hne, HX.out]
          clear hne hh HX hlk
          go_wp2_with (go_at_call 42; refine (len8_log _ _ hpos hx.2).mono ?_; rintro e w' ⟨rfl, rfl⟩)
          go_ret2
          exact ⟨ret2_int (by rw [HH.out]), rfl⟩
        · have hx1 : (zs[k]?.getD 0 != 0) = false := by simpa using hx0
          have hne : ext zs ms lenm k = 0 := by rw [HX.out]; simpa using hx1
          have HH : Hid (oddFrom (ext zs ms lenm) len 0 = oddFrom (ext zs ms lenm) (len - (k + 1)) (k + 1)) := by
            unfold Hid; rw [hh.out, hlk, oddFrom_skip _ _ _ hne]
          clear hne hh HX hlk hx0
          go_wp2
          go_round
          case rel => exact ⟨k + 1, by omega, HH, by go_num⟩
          case measure => simp [intOf]; omega
    · go_wp2
      go_ret2
      exact ⟨ret2_int (by rw [hh.out, show len - k = 0 by omega]; rfl), rfl⟩

end Go.Proofs.Ytigfoldobkigeaa.B
