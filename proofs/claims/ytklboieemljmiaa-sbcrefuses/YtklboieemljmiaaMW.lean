/-
  Rows of bytes: read, owned, grown by noughts, written over. The contract of laid: data laid into an owned row. The state of a world of files, as memory holds it: two maps of owned rows, what waits, what is to fail; who owns which block (tags). Regions that draw their order: an operation that yields one value in every world of a class may be taken first, where every step stays in the class. The contract of apply: a change is done to files. Contracts of named, ready and call. The contract of slices.Clone on bytes. One change more behind those that wait: the list's memory stays, or is new. The contract of do: a change is shown, and waits. The contract of Write. The contracts of Read, Size, Waits. The contract of harden: changes that wait are done to what is durable. The contract of Sync.
-/
import Derived.Test.YtklboieemljmiaaRows
import Derived.OpenShut
import Derived.Laws.CopyOwn
import Derived.Laws.BytesArg
import Derived.Laws.AppendOwnNone
import Derived.Lib.AppendZerosOnto
import Derived.Outline
import Derived.ProofKit
import Derived.WalkKit
import Derived.Below
import Derived.BigQuiet
import Derived.Deep.QuietTactic
import Derived.Deep.RegionWith
import Derived.Deep.RegionLawGrows
import Derived.Deep.Cut
import Derived.Maps.RangeWalk
import Derived.Maps.OwnSet
import Derived.Maps.Ext
namespace Go.Proofs.Ytklboieemljmiaa
open Go.RowKit
set_option linter.unusedVariables false
set_option linter.unusedSimpArgs false

theorem Try.info5 : (Try.prog.info? 5).map (fun i => (i.zero, i.size, i.bytes)) = some (some (.int .u8 0), 1, 1) := by kernel_rfl
theorem Try.size5 : (Try.prog.info? 5).map (·.size) = some 1 := by kernel_rfl

/-- A fact kept from the walk's sight. -/
structure Kpt (p : Prop) : Prop where
  out : p

/-- Bytes as cells. -/
def cels (zs : List Int) : List Value := zs.map (Value.int .u8)
@[simp] theorem cels_length (zs : List Int) : (cels zs).length = zs.length := by simp [cels]
theorem cels_one (zs : List Int) : ∀ v ∈ cels zs, v.oneCell' = true := ints_oneCell _ _
theorem cels_append (a b : List Int) : cels (a ++ b) = cels a ++ cels b := by simp [cels]

/-- A slice of bytes, owned whole. -/
def Row (w : World) (v : Value) (zs : List Int) : Prop := w.ownsRow 0 5 1 v zs.length (cels zs)

/-- A slice of bytes that can be read. -/
def RdAt (w : World) (v : Value) (zs : List Int) : Prop :=
  ∃ a c, v = .slice a zs.length c ∧ (a = none → zs.length = 0 ∧ c = 0) ∧ zs.length ≤ c ∧
    (zs.length = 0 ∨ ∃ b off, a = some ⟨b, off, none⟩ ∧ ∀ j u, (cels zs)[j]? = some u → w.cell? ⟨b, off + j, none⟩ = some u)

theorem Row.kept {w w' : World} {row : Option Nat} {v : Value} {zs : List Int} (h : Row w v zs) (hg : w.grownBy w' row) (hne : v.ownBlock = none ∨ v.ownBlock ≠ row) : Row w' v zs := World.ownsRow.kept h hg hne

theorem Row.of_block {w w' : World} {v : Value} {zs : List Int} (h : Row w v zs) (hb : ∀ g, v.ownBlock = some g → w'.heap[g]? = w.heap[g]?) : Row w' v zs := by
  refine ⟨h.1, ?_⟩
  rcases h.2 with hn | ⟨g, cap, cur, rfl, h0, hgg, rest⟩
  · exact .inl hn
  · exact .inr ⟨g, cap, cur, rfl, h0, (hb g rfl).trans hgg, rest⟩

theorem RdAt.of_block {w w' : World} {v : Value} {zs : List Int} (h : RdAt w v zs) (hb : ∀ g, v.ownBlock = some g → w'.heap[g]? = w.heap[g]?) : RdAt w' v zs := by
  obtain ⟨a, c, rfl, ha, hlc, h⟩ := h
  refine ⟨a, c, rfl, ha, hlc, ?_⟩
  rcases h with h | ⟨b, off, rfl, hc⟩
  · exact .inl h
  · exact .inr ⟨b, off, rfl, fun j u hu => (World.cell?_of_block (a := ⟨b, off + j, none⟩) (hb b rfl)).trans (hc j u hu)⟩

theorem Row.rd {w : World} {v : Value} {zs : List Int} (h : Row w v zs) : RdAt w v zs := by
  rcases h.2 with ⟨rfl, h0⟩ | ⟨g, cap, cur, rfl, _, hg, hc, hm, _, _⟩
  · exact ⟨none, 0, by rw [h0], fun _ => ⟨h0, rfl⟩, by omega, .inl h0⟩
  · refine ⟨some ⟨g, 0, none⟩, cap, rfl, (fun h => by cases h), hc, .inr ⟨g, 0, rfl, fun j u hu => ?_⟩⟩
    have := World.ownsRow.cells h (g := g) rfl j u hu
    rw [Go.WideShapes.add_plain] at this
    exact this

theorem Row.lt {w : World} {v : Value} {zs : List Int} (h : Row w v zs) {g : Nat} (hg : v.ownBlock = some g) : g < w.heap.size := (World.ownsRow.lt h g hg).2

theorem RdAt.lt {w : World} {v : Value} {zs : List Int} (h : RdAt w v zs) (h0 : 0 < zs.length) {g : Nat} (hg : v.ownBlock = some g) : g < w.heap.size := by
  obtain ⟨a, c, rfl, ha, hlc, h⟩ := h
  rcases h with h | ⟨b, off, rfl, hc⟩
  · omega
  · simp [Value.ownBlock] at hg
    subst hg
    exact World.block_lt_of_cell? w ⟨b, off + 0, none⟩ (hc 0 ((cels zs)[0]'(by simpa using h0)) (by rw [List.getElem?_eq_getElem]))

theorem row_nil (w : World) : Row w (.slice none 0 0) [] := World.ownsRow_nil w 0 5 1

theorem rd_nil (w : World) : RdAt w (.slice none 0 0) [] := (row_nil w).rd

theorem zeroCells_u8 (k : Nat) : Builtin.zeroCells (Value.int .u8 0).cells k = (cels (List.replicate k 0)).toArray := by
  apply Array.ext
  · simp [size_zeroCells, Value.cells]
  · intro i h1 h2
    simp [Builtin.zeroCells, Value.cells, cels]
    have : i % 1 = 0 := by omega
    simp [this]

/-- 'append(p, make([]byte, k)...)'. -/
theorem run_append_zeros (w : World) (v : Value) (zs : List Int) (hown : Row w v zs) (k : Nat) (h0 : 0 < k) (hb : zs.length + k ≤ 140737488355328) :
    ∃ v' w', (∀ ty, (Builtin.append_ #[22, 3] ty #[v, .int .i64 (k : Int)]).run Try.prog w = .ok v' w') ∧ Row w' v' (zs ++ List.replicate k 0) ∧ w.grownBy w' v.ownBlock ∧
      (v'.ownBlock = v.ownBlock ∨ ∃ g, v'.ownBlock = some g ∧ w.heap.size ≤ g) := by
  obtain ⟨i, hi, hz, hsize, hby⟩ := info_parts Try.info5
  have hw : IntKind.i64.wrap (k : Int) = k := by rw [IntKind.wrap_i64]; omega
  have mk : ∀ old : Nat, old < zs.length + k → ∀ row, Row (w.drew.alloc (.cells ((cels zs).toArray ++ Builtin.zeroCells (Value.int .u8 0).cells k ++ Builtin.zeroCells (Value.int .u8 0).cells (grownCap w (zs.length + k) old 5 - (zs.length + k))) 5))
      (.slice (some ⟨w.heap.size, 0, none⟩) (zs.length + k) (grownCap w (zs.length + k) old 5)) (zs ++ List.replicate k 0) ∧
      w.grownBy (w.drew.alloc (.cells ((cels zs).toArray ++ Builtin.zeroCells (Value.int .u8 0).cells k ++ Builtin.zeroCells (Value.int .u8 0).cells (grownCap w (zs.length + k) old 5 - (zs.length + k))) 5)) row := by
    intro old ho row
    have hge := grownCap_ge w (zs.length + k) old 5
    have hcm : grownCap w (zs.length + k) old 5 ≤ maxLen := grownCap_le_maxLen w (zs.length + k) old 5 (by unfold maxLen; omega)
    refine ⟨⟨by simp, .inr ⟨w.heap.size, _, _, by simp, Nat.zero_le _, heap_alloc_new w.drew _, by simpa using hge, hcm, ?_, ?_⟩⟩, ⟨rfl, rfl, rfl, by simp, fun j hj _ => heap_alloc_old w.drew _ hj⟩⟩
    · simp [size_zeroCells, Value.cells]; omega
    · rw [zeroCells_u8, zeroCells_u8]
      simp only [Array.toList_append, List.length_append, List.length_replicate, Nat.mul_one, cels_append]
      rw [List.take_append_of_le_length (by simp)]
      rw [List.take_of_length_le (by simp)]
  rcases hown.2 with ⟨rfl, hl0⟩ | ⟨g, cap, cur, rfl, hbg, hg, hnc, hcm, hcs, htake⟩
  · obtain rfl : zs = [] := List.eq_nil_of_length_eq_zero hl0
    have hr := fun ty => Lib.run_append_nil_zeros (P := Try.prog) w 22 3 ty 5 i (.int .u8 0) .i64 .i64 Try.underlying22 Try.underlying3 hi hz k h0 (by omega) (by simp at hb; omega) (by rw [hby]; simp at hb; omega)
    have hm := mk 0 (by simp; omega) (Value.ownBlock (.slice none 0 0))
    simp only [List.length_nil, Nat.zero_add, cels, List.map_nil, Array.empty_append, List.nil_append] at hm ⊢
    exact ⟨_, _, hr, hm.1, hm.2, .inr ⟨_, rfl, Nat.le_refl _⟩⟩
  · by_cases hroom : zs.length + k ≤ cap
    · have hfit : zs.length * 1 + 0 + (cels (List.replicate k 0)).length ≤ cur.size := by simp; omega
      have hst := run_storeCells_at Try.prog g (zs.length * 1) 5 (cels (List.replicate k 0)) 0 cur w hg hfit (cels_one _)
      have hneg : ¬ ((k : Int) < 0) := by omega
      have hk : k ≠ 0 := by omega
      have h48i : ¬ (281474976710656 < (k : Int)) := by omega
      have hrun : ∀ ty, (Builtin.append_ #[22, 3] ty #[.slice (some ⟨g, 0, none⟩) zs.length cap, .int .i64 (k : Int)]).run Try.prog w = .ok (.slice (some ⟨g, 0, none⟩) (zs.length + k) cap) (w.setRow g (cur.toList.take (zs.length * 1 + 0) ++ cels (List.replicate k 0) ++ cur.toList.drop (zs.length * 1 + 0 + (cels (List.replicate k 0)).length)).toArray) := by
        intro ty
        simp [Builtin.append_, run_underlying Try.underlying22, run_underlying Try.underlying3, sizeOf, typeInfo, zeroValue, hi, hz, asInt, asIntOf, hw, hneg, hk, hsize, hby, h48i, hroom, zeroCells_u8, Addr.add_lit] 
        simp at hst
        rw [hst]
        simp
      refine ⟨_, _, hrun, ⟨by simp, .inr ⟨g, cap, _, by simp, hbg, setRow_heap w g cur _ 5 _ hg, by simpa using hroom, hcm, ?_, ?_⟩⟩, ⟨rfl, rfl, rfl, by simp, fun j _ hk => setRow_other w g j _ (fun e => hk (by simp [Value.ownBlock, e]))⟩, .inl rfl⟩
      · simp; omega
      · simp only [List.length_append, List.length_replicate, Nat.mul_one, Nat.add_zero] at htake ⊢
        rw [htake, cels_append, List.take_append_of_le_length (by simp), List.take_of_length_le (by simp)]
    · have holds : ∀ j u, (cels zs)[j]? = some u → w.drew.cell? ((⟨g, 0, none⟩ : Addr).add j) = some u := fun j u hu => World.ownsRow.cells hown (g := g) rfl j u hu
      have hf := run_firstCells_some (P := Try.prog) w.drew i.size zs.length ⟨g, 0, none⟩ zs.length cap (cels zs) (by simp [hsize]) holds
      have hr := fun ty => Lib.run_append_grow_zeros (P := Try.prog) w 22 3 ty 5 i (.int .u8 0) .i64 .i64 Try.underlying22 Try.underlying3 hi hz (some ⟨g, 0, none⟩) zs.length cap (cels zs) hf k h0 (by omega) (by omega) (by omega) (by rw [hby]; omega) (growslice_fits (by omega) (by rw [hby]; omega))
      have hm := mk cap (by omega) (Value.ownBlock (.slice (some ⟨g, 0, none⟩) zs.length cap))
      exact ⟨_, _, hr, hm.1, hm.2, .inr ⟨_, rfl, Nat.le_refl _⟩⟩

/-- Bytes laid over others from a place on (they fit). -/
def over (zs : List Int) (off : Nat) (ds : List Int) : List Int := zs.take off ++ (ds ++ zs.drop (off + ds.length))

/-- A file's bytes with data laid in them from off on, noughts between. -/
def laidL (zs : List Int) (off : Nat) (ds : List Int) : List Int := over (zs ++ List.replicate (off + ds.length - zs.length) 0) off ds

theorem over_length (zs ds : List Int) (off : Nat) (h : off + ds.length ≤ zs.length) : (over zs off ds).length = zs.length := by simp [over]; omega
theorem laidL_length (zs ds : List Int) (off : Nat) : (laidL zs off ds).length = max zs.length (off + ds.length) := by
  unfold laidL; rw [over_length _ _ _ (by simp; omega)]; simp; omega

/-- 'copy(p[off:], data)' on an owned row: the copy's own law. -/
theorem wpList_copy_row {w : World} {ops : Array Oper} {rest : List Oper} {o : Oper} {a : Act} {Q : Exit → Act → World → Prop} (hgd : o.guard = none) (d s : Operand)
    (ho : o.op = .call { callee := .builtin .copy, args := #[d, s], argTypes := #[22, 22] })
    (v : Value) (zs : List Int) (hrow : Row w v zs) (off : Nat) (dp : Option Addr) (dLen dCap : Nat) (hd : a.eval d = .slice dp dLen dCap) (hdl : dLen = zs.length - off)
    (hdp : dp = none ∨ ∃ g cap, v = .slice (some ⟨g, 0, none⟩) zs.length cap ∧ (dp = some ⟨g, 0, none⟩ ∧ cap = off ∨ dp = some ⟨g, off, none⟩)) (hdn : dp = none → zs = [])
    (sv : Value) (ds : List Int) (hs : a.eval s = sv) (hrd : RdAt w sv ds) (hfit : off + ds.length ≤ zs.length)
    (h : ∀ w', Row w' v (over zs off ds) → w.grownBy w' v.ownBlock → wpList Try.prog ops Q rest (a.put o.dst (goInt ds.length)) w') : wpList Try.prog ops Q (o :: rest) a w := by
  obtain ⟨sa, sc, rfl, hsn, hsl, hsr⟩ := hrd
  by_cases h0 : ds.length = 0
  · obtain rfl : ds = [] := List.eq_nil_of_length_eq_zero h0
    refine wpList_copy_nothing hgd d s 22 22 ho 5 Try.underlying22 Try.size5 dp sa dLen dCap 0 sc hd hs (by simp) ?_
    have e : over zs off [] = zs := by simp [over]
    exact h w (by rw [e]; exact hrow) ⟨rfl, rfl, rfl, Nat.le_refl _, fun _ _ _ => rfl⟩
  · rcases hsr with h1 | ⟨b, soff, rfl, hc⟩
    · omega
    · rcases hdp with hn | ⟨g, cap, rfl, hdp⟩
      · have := hdn hn; subst this; simp at hfit; simp [hfit] at h0
      · rcases hrow.2 with ⟨hx, _⟩ | ⟨g', cap', cur, hx, hbg, hg, hnc, hcm, hcs, htake⟩
        · cases hx
        · simp only [Value.slice.injEq, Option.some.injEq, Addr.mk.injEq, and_true, true_and] at hx
          obtain ⟨rfl, rfl⟩ := hx
          have hdp' : dp = some ⟨g, off, none⟩ := by
            rcases hdp with ⟨_, hc0⟩ | h'
            · omega
            · exact h'
          subst hdp'
          refine wpList_copy_own hgd d s 22 22 ho 5 Try.underlying22 Try.size5 g off dLen dCap ⟨b, soff, none⟩ ds.length sc hd hs cur 5 hg (cels ds) ?_ ?_ ?_ (cels_one _) ?_
          · simp only [cels_length]; show ds.length = Nat.min ds.length dLen; exact (Nat.min_eq_left (by omega)).symm
          · intro j u hu
            rw [Go.WideShapes.add_plain]
            exact hc j u hu
          · simp; omega
          · rw [cels_length]
            refine h _ ⟨?_, .inr ⟨g, cap, _, ?_, Nat.zero_le _, setRow_heap w g cur _ 5 _ hg, ?_, hcm, ?_, ?_⟩⟩ ⟨rfl, rfl, rfl, by simp, fun j _ hk => setRow_other w g j _ (fun e => hk (by simp [Value.ownBlock, e]))⟩
            · simp
            · rw [over_length _ _ _ hfit]
            · rw [over_length _ _ _ hfit]; exact hnc
            · simp; omega
            · rw [over_length _ _ _ hfit]
              simp only [Nat.mul_one] at htake ⊢
              obtain ⟨R, hl⟩ : ∃ R, cur.toList = cels zs ++ R := ⟨cur.toList.drop zs.length, by rw [← htake, List.take_append_drop]⟩
              have e1 : (cels zs ++ R).take off = (cels zs).take off := List.take_append_of_le_length (by simp; omega)
              have e2 : (cels zs ++ R).drop (off + ds.length) = (cels zs).drop (off + ds.length) ++ R := List.drop_append_of_le_length (by simp; omega)
              rw [hl, e1, e2]
              simp only [← List.append_assoc]
              rw [List.take_append_of_le_length (by simp; omega), List.take_of_length_le (by simp; omega)]
              simp [over, cels, List.map_take, List.map_drop]
end Go.Proofs.Ytklboieemljmiaa

namespace Go.Proofs.Ytklboieemljmiaa
open Go.RowKit
set_option linter.unusedVariables false
set_option linter.unusedSimpArgs false

theorem row_shape {w : World} {v : Value} {zs : List Int} (h : Row w v zs) : ∃ a cap, v = .slice a zs.length cap ∧ zs.length ≤ cap := by
  rcases h.2 with ⟨rfl, h0⟩ | ⟨g, cap, cur, rfl, _, hg, hc, hm, _, _⟩
  · exact ⟨none, 0, by rw [h0], by omega⟩
  · exact ⟨some ⟨g, 0, none⟩, cap, rfl, hc⟩

/-- The cut 'p[off:]' of an owned row. -/
theorem row_cut {w : World} {a : Option Addr} {cap : Nat} {zs : List Int} (h : Row w (.slice a zs.length cap) zs) (off : Nat) (hoff : off ≤ zs.length) :
    ∃ dp dc, (∀ W : World, (Instr.slice 22 (.slice a zs.length cap) (some (.int .i64 (off : Int))) none none).run Try.prog W = .ok (.slice dp (zs.length - off) dc) W) ∧
      (dp = none ∨ ∃ g cap', Value.slice a zs.length cap = .slice (some ⟨g, 0, none⟩) zs.length cap' ∧ (dp = some ⟨g, 0, none⟩ ∧ cap' = off ∨ dp = some ⟨g, off, none⟩)) ∧ (dp = none → zs = []) := by
  obtain ⟨i, hi, hz, hsize, hby⟩ := info_parts Try.info5
  refine ⟨if cap = off then a else a.map (·.add (off * 1)), cap - off, fun W => ?_, ?_, ?_⟩
  · have hel : Try.prog.underlying 22 = some (.slice (Try.prog.elem 22)) := by rw [show Try.prog.elem 22 = 5 from by kernel_rfl]; exact Try.underlying22
    rw [Go.run_slice_l (P := Try.prog) W 22 a zs.length cap hel .i64 (off : Int) (by omega) (by omega)]
    rw [show Try.prog.elem 22 = 5 from by kernel_rfl]
    simp [sizeOf, typeInfo, hi, hsize, Result.andThen, sliced]
  · rcases h.2 with ⟨hx, h0⟩ | ⟨g, cap', cur, hx, _, hg, hc, hm, _, _⟩
    · simp only [Value.slice.injEq] at hx; obtain ⟨rfl, _, rfl⟩ := hx; left; simp
    · simp only [Value.slice.injEq] at hx
      obtain ⟨rfl, _, rfl⟩ := hx
      right
      refine ⟨g, cap, rfl, ?_⟩
      by_cases hco : cap = off
      · left; simp [hco]
      · right; simp [hco, Go.WideShapes.add_plain]
  · rcases h.2 with ⟨hx, h0⟩ | ⟨g, cap', cur, hx, _, hg, hc, hm, _, _⟩
    · intro _; exact List.eq_nil_of_length_eq_zero h0
    · simp only [Value.slice.injEq] at hx
      obtain ⟨rfl, _, rfl⟩ := hx
      by_cases hco : cap = off <;> simp [hco]

theorem rd_shape {w : World} {v : Value} {zs : List Int} (h : RdAt w v zs) : ∃ a c, v = .slice a zs.length c ∧ (a = none → zs.length = 0 ∧ c = 0) := by
  obtain ⟨a, c, rfl, ha, _⟩ := h
  exact ⟨a, c, rfl, ha⟩

set_option maxRecDepth 100000 in
set_option maxHeartbeats 1000000 in
theorem laid_any (w : World) (v dv : Value) (zs ds : List Int) (off : Nat) (hrow : Row w v zs) (hrd : RdAt w dv ds) (hne : ∀ g, v.ownBlock = some g → dv.ownBlock ≠ some g)
    (hb : zs.length ≤ 1048576) (ho : off + ds.length ≤ 1048576) :
    Calls Try.prog 96 #[v, .int .i64 (off : Int), dv] w fun e w' => ∃ v', e = .returned v' ∧ Row w' v' (laidL zs off ds) ∧ w.grownBy w' v.ownBlock ∧ (v'.ownBlock = v.ownBlock ∨ ∃ g, v'.ownBlock = some g ∧ w.heap.size ≤ g) := by
  obtain ⟨a, cap, rfl, _⟩ := row_shape hrow
  obtain ⟨da, dc, rfl, hdn⟩ := rd_shape hrd
  by_cases hl : zs.length < off + ds.length
  · obtain ⟨k, hk⟩ : ∃ k : Nat, k = off + ds.length - zs.length := ⟨_, rfl⟩
    have H1 : 0 < k := by omega
    have H2 : ((off : Int) + (ds.length : Int) - (zs.length : Int)) = (k : Int) := by omega
    obtain ⟨v', w1, hrun, hrow1, hg1, hblk⟩ := run_append_zeros w (.slice a zs.length cap) zs hrow k (by omega) (by omega)
    have hrd1 : RdAt w1 (.slice da ds.length dc) ds := by
      by_cases h0 : ds.length = 0
      · obtain ⟨a', c', hx, h1, h2, _⟩ := hrd
        exact ⟨a', c', hx, h1, h2, .inl h0⟩
      · exact hrd.of_block (fun g hg => hg1.block g (hrd.lt (by omega) hg) (fun e => hne g e.symm hg))
    obtain ⟨a1, cap1, rfl, _⟩ := row_shape hrow1
    obtain ⟨dp, dcap, hcut, hdp, hdpn⟩ := row_cut hrow1 off (by simp; omega)
    have hlen : off + ds.length ≤ (zs ++ List.replicate k 0).length := by simp; omega
    have hfin : over (zs ++ List.replicate k 0) off ds = laidL zs off ds := by rw [hk]; rfl
    obtain ⟨Z, hZ⟩ : ∃ Z, Z = zs ++ List.replicate k 0 := ⟨_, rfl⟩
    rw [← hZ] at hrun hrow1 hcut hdp hdpn hlen hfin hblk
    obtain ⟨n, hn⟩ : ∃ n, n = Z.length := ⟨_, rfl⟩
    obtain ⟨dl, hdl⟩ : ∃ dl, dl = Z.length - off := ⟨_, rfl⟩
    rw [← hdl] at hcut
    replace hdl := Kpt.mk hdl
    have hdp' : dp = none ∨ ∃ g cap, Value.slice a1 n cap1 = .slice (some ⟨g, 0, none⟩) Z.length cap ∧ (dp = some ⟨g, 0, none⟩ ∧ cap = off ∨ dp = some ⟨g, off, none⟩) := by rw [hn]; exact hdp
    have hrow1' : Row w1 (.slice a1 n cap1) Z := by rw [hn]; exact hrow1
    rw [← hn] at hrun hcut hblk
    clear hdp hrow1 hn hZ hk hrow hrd hne hl
    replace hrun := Kpt.mk hrun
    go_enter Try.func96, Try.ntmps96
    go_wp2_with (first | (at_builtin; refine Lib.wpList_append_run _ rfl (.tmp 17) (.tmp 18) 22 3 rfl (.slice a zs.length cap) (.int .i64 (k : Int)) rfl rfl (.slice a1 n cap1) w1 (hrun.out _) ?_) | (refine wpList_copy_row rfl _ _ rfl (.slice a1 n cap1) Z hrow1' off dp dl dcap rfl hdl.out hdp' hdpn _ ds rfl hrd1 hlen ?_; intro w2 hrow2 hg2))
    go_ret
    refine ⟨_, rfl, hfin ▸ hrow2, ?_, hblk⟩
    exact hg1.andThen hg2 (fun j hj => by
      rcases hblk with hb' | ⟨g, hb', hg⟩
      · right; rw [← hb']; exact hj
      · left; rw [hb'] at hj; cases hj; exact hg)
  · have H1 : ¬ ((0 : Int) < (off : Int) + (ds.length : Int) - (zs.length : Int)) := by omega
    obtain ⟨dp, dcap, hcut, hdp, hdpn⟩ := row_cut hrow off (by omega)
    have hfin : over zs off ds = laidL zs off ds := by unfold laidL; rw [show off + ds.length - zs.length = 0 by omega]; simp
    have hlen : off + ds.length ≤ zs.length := by omega
    go_enter Try.func96, Try.ntmps96
    go_wp2_with (refine wpList_copy_row rfl _ _ rfl (.slice a zs.length cap) zs hrow off dp _ dcap rfl rfl hdp hdpn _ ds rfl hrd hlen ?_; intro w2 hrow2 hg2)
    go_ret
    exact ⟨_, rfl, hfin ▸ hrow2, hg2, .inl rfl⟩
end Go.Proofs.Ytklboieemljmiaa

namespace Go.Proofs.Ytklboieemljmiaa
open Go.RowKit Go.Maps
set_option linter.unusedVariables false
set_option linter.unusedSimpArgs false

/-- The files by name. -/
abbrev FilesF := ByteArray → Option (List Int)

def updF {α : Type} (F : ByteArray → Option α) (s : ByteArray) (x : Option α) : ByteArray → Option α := fun t => if t = s then x else F t
@[simp] theorem updF_same {α : Type} (F : ByteArray → Option α) (s : ByteArray) (x : Option α) : updF F s x s = x := by simp [updF]
theorem updF_other {α : Type} (F : ByteArray → Option α) {s t : ByteArray} (x : Option α) (h : t ≠ s) : updF F s x t = F t := by simp [updF, h]

/-! ### a map from names to values -/
theorem Try.law9 : Keyed Try.prog 9 := string_keyed Try.underlying9
theorem Try.zeroSB (w : World) : (zeroValue 22).run Try.prog w = .ok (.slice none 0 0) w := by kernel_rfl

/-- An element is read as itself. -/
def rawElem : Value → Option (DataW Value × List MemPlace) := fun v => some (.held v, [])

def lit (s : ByteArray) : Lit := .string s.data.toList
theorem lit_ne {s t : ByteArray} (h : t ≠ s) : lit t ≠ lit s := by
  intro e
  apply h
  cases s with | mk s => cases t with | mk t =>
  simp only [lit, Lit.string.injEq] at e
  have : t = s := by cases s; cases t; simpa using e
  rw [this]
theorem lit_key (s : ByteArray) : WideAt.IsKeyLit (lit s) := by simp [lit, WideAt.IsKeyLit]

def MapIs (w : World) (M n : Nat) (f : ByteArray → Option Value) : Prop :=
  ∃ D : DataW Value, w.ownsMap Try.prog 9 rawElem M n D ∧ ∀ (s : ByteArray) (zd : DataW Value), D.atKey (lit s) zd = (match f s with | some v => .held v | none => zd)

theorem MapIs.of_block {w w' : World} {M n : Nat} {f : ByteArray → Option Value} (h : MapIs w M n f) (hb : w'.heap[M]? = w.heap[M]?) : MapIs w' M n f := by
  obtain ⟨D, ⟨es, clock, h1, h2⟩, h3⟩ := h
  exact ⟨D, ⟨es, clock, hb.trans h1, h2⟩, h3⟩

theorem MapIs.lt {w : World} {M n : Nat} {f : ByteArray → Option Value} (h : MapIs w M n f) : M < w.heap.size := by
  obtain ⟨D, h1, _⟩ := h
  exact h1.lt

theorem MapIs.mono {w : World} {M n n' : Nat} {f : ByteArray → Option Value} (h : MapIs w M n f) (hn : n ≤ n') : MapIs w M n' f := by
  obtain ⟨D, h1, h2⟩ := h
  exact ⟨D, h1.mono hn, h2⟩

theorem MapIs.made (w : World) : MapIs (w.alloc (.map #[] 0)) w.heap.size 0 (fun _ => none) :=
  ⟨.map [], World.ownsMap_made w Try.prog 9 rawElem, fun s zd => by simp [DataW.atKey]⟩

theorem key9 {s : ByteArray} (h : s.size ≤ maxLen) : keyOf Try.prog 9 (.string s) = some (lit s) := WideMaps.keyOf_string_mk Try.underlying9 h

theorem raw_held {v : Value} {d : DataW Value} {ps : List MemPlace} (h : rawElem v = some (d, ps)) : d = .held v := by
  simp only [rawElem, Option.some.injEq, Prod.mk.injEq] at h
  exact h.1.symm

theorem MapIs.look_ok {w : World} {M n : Nat} {f : ByteArray → Option Value} (h : MapIs w M n f) {s : ByteArray} (hs : s.size ≤ maxLen) :
    (Instr.lookup 66 (.map (some M)) (.string s) true).run Try.prog w = .ok (.tuple #[(f s).getD (.slice none 0 0), .bool (f s).isSome]) w := by
  obtain ⟨D, h1, h2⟩ := h
  obtain ⟨v, ps, hrun, hv⟩ := h1.look_ok Try.law9 Try.underlying66 (Try.zeroSB w) (zd := .held (.slice none 0 0)) (zp := []) rfl (key9 hs)
  have hd := raw_held hv
  rw [hrun]
  cases hf : f s with
  | none =>
    rw [h2 s, hf] at hd
    have hh : has D (lit s) = false := has_false_of_atKey (fun z => by rw [h2 s, hf])
    rw [hh]
    simp only [DataW.held.injEq] at hd
    simp [hd]
  | some x =>
    rw [h2 s, hf] at hd
    have hh : has D (lit s) = true := has_true_of_atKey (y := .held x) (fun z => by rw [h2 s, hf])
    rw [hh]
    simp only [DataW.held.injEq] at hd
    simp [hd]

theorem MapIs.look {w : World} {M n : Nat} {f : ByteArray → Option Value} (h : MapIs w M n f) {s : ByteArray} (hs : s.size ≤ maxLen) :
    (Instr.lookup 66 (.map (some M)) (.string s) false).run Try.prog w = .ok ((f s).getD (.slice none 0 0)) w := by
  obtain ⟨D, h1, h2⟩ := h
  obtain ⟨v, ps, hrun, hv⟩ := h1.lookup Try.law9 Try.underlying66 (Try.zeroSB w) (zd := .held (.slice none 0 0)) (zp := []) rfl (key9 hs)
  have hd := raw_held hv
  rw [hrun]
  cases hf : f s with
  | none => rw [h2 s, hf] at hd; simp only [DataW.held.injEq] at hd; simp [hd]
  | some x => rw [h2 s, hf] at hd; simp only [DataW.held.injEq] at hd; simp [hd]

theorem MapIs.store {w : World} {M n : Nat} {f : ByteArray → Option Value} (h : MapIs w M n f) {s : ByteArray} (hs : s.size ≤ maxLen) (hn : n < maxLen) (v : Value) :
    ∃ w', (Instr.mapUpdate 66 (.map (some M)) (.string s) v).run Try.prog w = .ok () w' ∧ MapIs w' M (n + 1) (updF f s (some v)) ∧ w.mapTurned w' M := by
  obtain ⟨D, h1, h2⟩ := h
  obtain ⟨w', hrun, hown, ht⟩ := h1.store Try.law9 Try.underlying66 hn (key9 hs) (val := v) (d := .held v) (ps := []) rfl
  refine ⟨w', hrun, ⟨_, hown, fun t zd => ?_⟩, ht⟩
  by_cases e : t = s
  · subst e; rw [atKey_put_same h1.isMap (lit_key t)]; simp
  · rw [atKey_put_other (lit_ne e), h2 t, updF_other _ _ e]

theorem MapIs.drop {w : World} {M n : Nat} {f : ByteArray → Option Value} (h : MapIs w M n f) {s : ByteArray} (hs : s.size ≤ maxLen) :
    ∃ w', (∀ ty, (Builtin.delete_ #[66, 9] ty #[.map (some M), .string s]).run Try.prog w = .ok (.tuple #[]) w') ∧ MapIs w' M n (updF f s none) ∧ w.mapTurned w' M := by
  obtain ⟨D, h1, h2⟩ := h
  obtain ⟨w', hrun, hown, ht⟩ := h1.drop Try.law9 Try.underlying66 (key9 hs) 0
  refine ⟨w', fun ty => ?_, ⟨_, hown, fun t zd => ?_⟩, ht⟩
  · rw [← hrun]; rfl
  · by_cases e : t = s
    · subst e; rw [atKey_del_same]; simp
    · rw [atKey_del_other (lit_ne e), h2 t, updF_other _ _ e]

/-! ### who owns which block -/
structure Tag where
  a : Bool
  b : Bool
  c : Bool
  s : ByteArray

abbrev Tag.wd : Tag := ⟨false, false, false, ⟨#[]⟩⟩
abbrev Tag.m1 : Tag := ⟨false, false, true, ⟨#[]⟩⟩
abbrev Tag.m2 : Tag := ⟨false, true, false, ⟨#[]⟩⟩
abbrev Tag.dt : Tag := ⟨false, true, true, ⟨#[]⟩⟩
abbrev Tag.wt : Tag := ⟨true, false, false, ⟨#[]⟩⟩
abbrev Tag.fl : Tag := ⟨true, false, true, ⟨#[]⟩⟩
abbrev Tag.r1 (s : ByteArray) : Tag := ⟨true, true, false, s⟩
abbrev Tag.r2 (s : ByteArray) : Tag := ⟨true, true, true, s⟩

abbrev Tags := Nat → Option Tag

structure Step (w w' : World) (tag tag' : Tags) (X : Tag → Prop) : Prop where
  os : w'.os = w.os
  tape : w'.tape = w.tape
  output : w'.output = w.output
  size : w.heap.size ≤ w'.heap.size
  block : ∀ i, i < w.heap.size → (∀ t, X t → tag i ≠ some t) → w'.heap[i]? = w.heap[i]?
  other : ∀ i t, ¬ X t → (tag' i = some t ↔ tag i = some t)
  bare : ∀ i, i < w.heap.size → tag i = none → tag' i = none
  lt : (∀ i, tag i ≠ none → i < w.heap.size) → ∀ i, tag' i ≠ none → i < w'.heap.size

theorem Step.refl (w : World) (tag : Tags) (X : Tag → Prop) : Step w w tag tag X :=
  ⟨rfl, rfl, rfl, Nat.le_refl _, fun _ _ _ => rfl, fun _ _ _ => Iff.rfl, fun _ _ h => h, fun h => h⟩

theorem Step.weaken {w w' : World} {tag tag' : Tags} {X Y : Tag → Prop} (h : Step w w' tag tag' X) (hXY : ∀ t, X t → Y t) : Step w w' tag tag' Y :=
  ⟨h.os, h.tape, h.output, h.size, fun i hi hy => h.block i hi (fun t ht => hy t (hXY t ht)), fun i t ht => h.other i t (fun hx => ht (hXY t hx)), h.bare, h.lt⟩

theorem Step.trans {w w1 w2 : World} {tag tag1 tag2 : Tags} {X : Tag → Prop} (h : Step w w1 tag tag1 X) (k : Step w1 w2 tag1 tag2 X) : Step w w2 tag tag2 X where
  os := k.os.trans h.os
  tape := k.tape.trans h.tape
  output := k.output.trans h.output
  size := Nat.le_trans h.size k.size
  block := fun i hi hx => by
    rw [k.block i (Nat.lt_of_lt_of_le hi h.size) ?_, h.block i hi hx]
    intro t ht
    cases hti : tag i with
    | none => rw [h.bare i hi hti]; simp
    | some t0 =>
      have h0 : ¬ X t0 := fun hx0 => hx t0 hx0 hti
      rw [(h.other i t0 h0).2 hti]
      intro e; cases e; exact h0 ht
  other := fun i t ht => (k.other i t ht).trans (h.other i t ht)
  bare := fun i hi hn => k.bare i (Nat.lt_of_lt_of_le hi h.size) (h.bare i hi hn)
  lt := fun hl => k.lt (h.lt hl)

theorem Step.keep {w w' : World} {tag tag' : Tags} {X : Tag → Prop} (h : Step w w' tag tag' X) {i : Nat} {t : Tag} (hi : i < w.heap.size) (ht : tag i = some t) (hX : ¬ X t) : w'.heap[i]? = w.heap[i]? ∧ tag' i = some t :=
  ⟨h.block i hi (fun t' hx e => by rw [ht] at e; cases e; exact hX hx), (h.other i t hX).2 ht⟩

/-- Only untagged memory is laid, nothing that was there has turned. -/
theorem Step.grown {w w' : World} (h : w.grownBy w' none) (tag : Tags) (X : Tag → Prop) : Step w w' tag tag X :=
  ⟨h.os, h.tape, h.output, h.size, fun i hi _ => h.block i hi (by simp), fun _ _ _ => Iff.rfl, fun _ _ hn => hn, fun hl i hi => Nat.lt_of_lt_of_le (hl i hi) h.size⟩

/-- One tagged block has turned. -/
theorem Step.turned {w w' : World} {b : Nat} (h : w.grownBy w' (some b)) (tag : Tags) {t : Tag} (hb : tag b = some t) {X : Tag → Prop} (hX : X t) : Step w w' tag tag X :=
  ⟨h.os, h.tape, h.output, h.size, fun i hi hx => h.block i hi (fun e => by cases e; exact hx t hX hb), fun _ _ _ => Iff.rfl, fun _ _ hn => hn, fun hl i hi => Nat.lt_of_lt_of_le (hl i hi) h.size⟩

/-- New blocks get a tag of X. -/
theorem Step.tagged {w w' : World} {tag : Tags} {X : Tag → Prop} (h : Step w w' tag tag X) (g : Nat) (hg : w.heap.size ≤ g) (hg' : g < w'.heap.size) {t : Tag} (hX : X t) (hl : ∀ i, tag i ≠ none → i < w.heap.size) :
    Step w w' tag (fun i => if i = g then some t else tag i) X where
  os := h.os
  tape := h.tape
  output := h.output
  size := h.size
  block := h.block
  other := fun i t' ht' => by
    by_cases e : i = g
    · subst e
      have h0 : tag i = none := by
        cases hti : tag i with
        | none => rfl
        | some x => have := hl i (by simp [hti]); omega
      simp [h0]
      intro e; rw [← e] at ht'; exact ht' hX
    · simp [e]
  bare := fun i hi hn => by simp [hn]; omega
  lt := fun hl' i hi => by
    by_cases e : i = g
    · omega
    · simp [e] at hi; exact Nat.lt_of_lt_of_le (hl' i hi) h.size

/-! ### files -/
def Files (w : World) (tag : Tags) (T : ByteArray → Tag) (f : ByteArray → Option Value) (F : FilesF) : Prop :=
  ∀ s, match F s with
    | none => f s = none
    | some zs => zs.length ≤ 1048576 ∧ ∃ v, f s = some v ∧ Row w v zs ∧ ∀ g, v.ownBlock = some g → tag g = some (T s)

theorem Files.step {w w' : World} {tag tag' : Tags} {T : ByteArray → Tag} {f : ByteArray → Option Value} {F : FilesF} {X : Tag → Prop} (h : Files w tag T f F) (st : Step w w' tag tag' X) (hX : ∀ s, ¬ X (T s)) : Files w' tag' T f F := by
  intro s
  have := h s
  cases hF : F s with
  | none => rw [hF] at this; exact this
  | some zs =>
    rw [hF] at this
    obtain ⟨hl, v, hf, hr, ht⟩ := this
    exact ⟨hl, v, hf, hr.of_block (fun g hg => (st.keep (hr.lt hg) (ht g hg) (hX s)).1), fun g hg => (st.keep (hr.lt hg) (ht g hg) (hX s)).2⟩

/-! ### changes that wait -/
structure Chg where
  two : Bool
  three : Bool
  s : ByteArray
  t : ByteArray
  off : Nat
  ds : List Int

abbrev Chg.wr (s : ByteArray) (off : Nat) (ds : List Int) : Chg := ⟨false, false, s, ⟨#[]⟩, off, ds⟩
abbrev Chg.rn (a b : ByteArray) : Chg := ⟨true, false, a, b, 0, []⟩
abbrev Chg.rm (a : ByteArray) : Chg := ⟨true, true, a, ⟨#[]⟩, 0, []⟩

/-- What a change does to files. -/
def Chg.run : Chg → FilesF → FilesF
  | ⟨false, _, s, _, off, ds⟩, F => updF F s (some (laidL ((F s).getD []) off ds))
  | ⟨true, false, a, b, _, _⟩, F => updF (updF F a none) b (some ((F a).getD []))
  | ⟨true, true, a, _, _, _⟩, F => updF F a none

def Chg.vals : Chg → Value → Array Value
  | ⟨false, _, s, _, off, _⟩, dv => #[.int .i64 0, .string s, .string ⟨#[]⟩, .int .i64 (off : Int), dv]
  | ⟨true, false, a, b, _, _⟩, dv => #[.int .i64 1, .string a, .string b, .int .i64 0, dv]
  | ⟨true, true, a, _, _, _⟩, dv => #[.int .i64 2, .string a, .string ⟨#[]⟩, .int .i64 0, dv]

theorem Chg.vals_size (c : Chg) (dv : Value) : (c.vals dv).size = 5 := by
  obtain ⟨two, three, s, t, off, ds⟩ := c
  cases two <;> cases three <;> rfl

def Chg.ok (w : World) (tag : Tags) : Chg → Value → Prop
  | ⟨false, _, s, _, off, ds⟩, dv => s.size ≤ 32 ∧ off + ds.length ≤ 1048576 ∧ Row w dv ds ∧ ∀ g, dv.ownBlock = some g → tag g = some .dt
  | ⟨true, false, a, b, _, _⟩, dv => a.size ≤ 32 ∧ b.size ≤ 32 ∧ dv = .slice none 0 0
  | ⟨true, true, a, _, _, _⟩, dv => a.size ≤ 32 ∧ dv = .slice none 0 0

theorem Chg.ok.step {w w' : World} {tag tag' : Tags} {c : Chg} {dv : Value} {X : Tag → Prop} (h : c.ok w tag dv) (st : Step w w' tag tag' X) (hX : ¬ X .dt) : c.ok w' tag' dv := by
  obtain ⟨two, three, s, t, off, ds⟩ := c
  cases two with
  | false =>
    obtain ⟨h1, h2, hr, ht⟩ := h
    exact ⟨h1, h2, hr.of_block (fun g hg => (st.keep (hr.lt hg) (ht g hg) hX).1), fun g hg => (st.keep (hr.lt hg) (ht g hg) hX).2⟩
  | true => cases three <;> exact h

def WaitsIs (w : World) (tag : Tags) (wv : Value) (l : List (Chg × Value)) : Prop :=
  (∀ p ∈ l, p.1.ok w tag p.2) ∧ w.ownsRow 0 155 5 wv l.length (l.flatMap fun p => (p.1.vals p.2).toList) ∧ ∀ g, wv.ownBlock = some g → tag g = some .wt

theorem WaitsIs.step {w w' : World} {tag tag' : Tags} {wv : Value} {l : List (Chg × Value)} {X : Tag → Prop} (h : WaitsIs w tag wv l) (st : Step w w' tag tag' X) (hX : ¬ X .dt) (hX' : ¬ X .wt) : WaitsIs w' tag' wv l := by
  obtain ⟨h1, h2, h3⟩ := h
  refine ⟨fun p hp => (h1 p hp).step st hX, ⟨h2.1, ?_⟩, fun g hg => (st.keep (h2.lt g hg).2 (h3 g hg) hX').2⟩
  rcases h2.2 with hn | ⟨g, cap, cur, rfl, h0, hgg, rest⟩
  · exact .inl hn
  · exact .inr ⟨g, cap, cur, rfl, h0, (st.keep (Array.getElem?_eq_some_iff.1 hgg).1 (h3 g rfl) hX').1.trans hgg, rest⟩

/-! ### what is to fail -/
def FailsIs (w : World) (tag : Tags) (fv : Option Nat) (p : Int → Bool) : Prop :=
  match fv with
  | none => ∀ x, p x = false
  | some b => tag b = some .fl ∧ ∃ n D, w.ownsMap (H := Unit) Try.prog 3 unitElem b n D ∧ ∀ x : Int, (Lit.int .i64 x).wf = true → has D (.int .i64 x) = p x

theorem FailsIs.step {w w' : World} {tag tag' : Tags} {fv : Option Nat} {p : Int → Bool} {X : Tag → Prop} (h : FailsIs w tag fv p) (st : Step w w' tag tag' X) (hX : ¬ X .fl) : FailsIs w' tag' fv p := by
  cases fv with
  | none => exact h
  | some b =>
    obtain ⟨ht, n, D, ho, hp⟩ := h
    have hk := st.keep ho.lt ht hX
    obtain ⟨es, clock, h1, h2⟩ := ho
    exact ⟨hk.2, n, D, ⟨es, clock, hk.1.trans h1, h2⟩, hp⟩

/-! ### the whole -/
structure St where
  seen : FilesF
  dur : FilesF
  waits : List Chg
  fails : Int → Bool
  ops : Int
  cnt : Nat

def wdCells (M1 M2 : Nat) (wv : Value) (fv : Option Nat) (ops : Int) : Array Value := #[.map (some M1), .map (some M2), wv, .map fv, .int .i64 (-1), .int .i64 ops, .bool false]

structure Inv (w : World) (B : Nat) (tag : Tags) (st : St) (M1 M2 : Nat) (wv : Value) (fv : Option Nat) (f1 f2 : ByteArray → Option Value) (l : List (Chg × Value)) (n2 : Nat) : Prop where
  cell : w.heap[B]? = some (.cells (wdCells M1 M2 wv fv st.ops) 69 (0, 0))
  tB : tag B = some .wd
  t1 : tag M1 = some .m1
  t2 : tag M2 = some .m2
  map1 : MapIs w M1 st.cnt f1
  map2 : MapIs w M2 n2 f2
  seen : Files w tag .r1 f1 st.seen
  dur : Files w tag .r2 f2 st.dur
  waits : WaitsIs w tag wv l
  l_eq : l.map Prod.fst = st.waits
  fails : FailsIs w tag fv st.fails
  lt : ∀ i, tag i ≠ none → i < w.heap.size
  opsLo : 0 ≤ st.ops
  opsHi : st.ops ≤ st.cnt
  cnt2 : n2 + l.length ≤ st.cnt

def World' (w : World) (B : Nat) (tag : Tags) (st : St) : Prop := ∃ M1 M2 wv fv f1 f2 l n2, Inv w B tag st M1 M2 wv fv f1 f2 l n2

end Go.Proofs.Ytklboieemljmiaa

namespace Go.Proofs.Ytklboieemljmiaa
open Go
set_option linter.unusedVariables false

section
variable {P : Program} {md : Region.Mode} {ops : Array Oper} {C : World → Prop} {Q : Exit → Act → World → Prop}

def wpAnyC (P : Program) (md : Region.Mode) (ops : Array Oper) (C : World → Prop) (Q : Exit → Act → World → Prop) : Nat → Array Bool → Act → World → Prop
  | 0, listed, a, w => C w ∧ Region.ready md ops listed = [] ∧ Q .normal a w
  | fuel + 1, listed, a, w => C w ∧ (Region.ready md ops listed = [] → Q .normal a w) ∧
    ∀ i ∈ Region.ready md ops listed, wpOp P ops Q i (wpAnyC P md ops C Q fuel (listed.setIfInBounds i true)) a w

theorem wpAnyC.cls : ∀ {fuel : Nat} {listed : Array Bool} {a : Act} {w : World}, wpAnyC P md ops C Q fuel listed a w → C w
  | 0, _, _, _, h => h.1
  | _ + 1, _, _, _, h => h.1

theorem wpAny_of_C : ∀ (fuel : Nat) (listed : Array Bool) (a : Act) (w : World), wpAnyC P md ops C Q fuel listed a w → wpAny P md ops Q fuel listed a w
  | 0, _, _, _, h => h.2
  | fuel + 1, _, _, _, h => ⟨h.2.1, fun i hi => wpOp_mono (fun a' w' h' => wpAny_of_C fuel _ a' w' h') (h.2.2 i hi)⟩

def YieldsC (P : Program) (ops : Array Oper) (C : World → Prop) (o : Oper) (v : Value) (a : Act) : Prop :=
  (Region.wanted o (yielded ops a.tmps) = true ∧ ∀ w, C w → (execOp a.eval o).run P w = .ok (.value v) w) ∨ (Region.wanted o (yielded ops a.tmps) = false ∧ v = undef)

theorem YieldsC.of_same {o : Oper} {v : Value} {a a' : Act} (hy : YieldsC P ops C o v a) (he : execOp a'.eval o = execOp a.eval o)
    (hw : Region.wanted o (yielded ops a'.tmps) = Region.wanted o (yielded ops a.tmps)) : YieldsC P ops C o v a' := by
  unfold YieldsC at *
  rw [he, hw]
  exact hy

theorem YieldsC.wpOp {i : Nat} {o : Oper} {v : Value} {a : Act} {w : World} (hi : ops[i]? = some o) (hy : YieldsC P ops C o v a) (hC : C w) {K : Act → World → Prop} (h : K (a.put o.dst v) w) : wpOp P ops Q i K a w := by
  unfold Go.wpOp
  simp only [hi]
  rcases hy with ⟨hw, hv⟩ | ⟨hw, rfl⟩
  · simp only [hw, if_true, Oper.wp, hv w hC, Oper.upon]; exact .inl h
  · simp only [hw, Bool.false_eq_true, if_false]; exact h

theorem wpOp_putC {j : Nat} {oi oj : Oper} {v : Value} (hj : ops[j]? = some oj) (hap : oi.apart ops oj = true)
    (hsi : ∀ cs b, oi.op ≠ .select cs b) (hsj : ∀ cs b, oj.op ≠ .select cs b)
    (hQ : ∀ c a w, Q (.panic c) (a.put oi.dst v) w → Q (.panic c) a w) {K : Act → World → Prop} {a : Act} {w : World}
    (hy : YieldsC P ops C oi v a) (h : wpOp P ops Q j K (a.put oi.dst v) w) :
    wpOp P ops Q j (fun a' w' => YieldsC P ops C oi v a' ∧ K (a'.put oi.dst v) w') a w := by
  obtain ⟨h1, h2, h3⟩ := Oper.apart_spec hap
  have keep : ∀ (a : Act), YieldsC P ops C oi v a → ∀ u, YieldsC P ops C oi v (a.put oj.dst u) := fun a hy u =>
    hy.of_same (execOp_put oi hsi a oj.dst u h3) (wanted_put oi a oj.dst u h3)
  have keepD : ∀ d, YieldsC P ops C oi v { a with defers := d :: a.defers } := fun d => hy.of_same rfl rfl
  unfold wpOp at *
  simp only [hj] at *
  rw [wanted_put oj a oi.dst v h1] at h
  split
  · rename_i hw
    simp only [hw, if_true] at h
    rcases h with h | ⟨hasks, hlets⟩
    case inr => exact .inr ⟨by unfold Oper.asks at *; rw [execOp_put oj hsj a oi.dst v h1] at hasks; exact hasks, hlets⟩
    refine .inl ?_
    unfold Oper.wp at *
    rw [execOp_put oj hsj a oi.dst v h1] at h
    generalize (execOp a.eval oj).run P w = r at *
    cases r with
    | ok n w' =>
      cases n <;> simp only [Oper.upon] at h ⊢
      case value u => exact ⟨keep a hy u, by rw [← Act.put_comm a v u h2]; exact h⟩
      case skip => exact ⟨keep a hy _, by rw [← Act.put_comm a v undef h2]; exact h⟩
      case defer d =>
        refine ⟨keep _ (keepD d) _, ?_⟩
        rw [← Act.put_comm _ v undef h2, ← Act.put_defers]
        exact h
      case enter f args =>
        refine Calls.mono h fun e w'' he => ?_
        cases e with
        | returned u => exact ⟨keep a hy u, by rw [← Act.put_comm a v u h2]; exact he⟩
        | panicked c => exact hQ _ _ _ he
        | outgrown => exact he
      case row row args => exact Rows.mono h fun u w'' he => ⟨keep a hy u, by rw [← Act.put_comm a v u h2]; exact he⟩
    | halt x w' =>
      cases x <;> simp only [Oper.upon] at h ⊢
      case panic u => exact hQ _ _ _ h
  · rename_i hw
    simp only [hw] at h
    exact ⟨keep a hy _, by rw [← Act.put_comm a v undef h2]; exact h⟩

theorem wpAnyC_first {i : Nat} {oi : Oper} {v : Value} (hi : ops[i]? = some oi) (hsel : ∀ (j : Nat) (o : Oper) cs b, ops[j]? = some o → o.op ≠ .select cs b)
    (hQ : ∀ c a w, Q (.panic c) (a.put oi.dst v) w → Q (.panic c) a w) :
    ∀ (fuel : Nat) (listed : Array Bool) (a : Act) (w : World),
      (∀ j oj, ops[j]? = some oj → j ≠ i → listed.getD j true = false → (∀ e ∈ oj.after, Region.binds md e = true → e.on ≠ i) → oi.apart ops oj = true) →
      i ∈ Region.ready md ops listed → YieldsC P ops C oi v a →
      wpAnyC P md ops C Q fuel (listed.setIfInBounds i true) (a.put oi.dst v) w → wpAnyC P md ops C Q (fuel + 1) listed a w := by
  intro fuel
  induction fuel with
  | zero =>
    intro listed a w _ hr hy H
    refine ⟨H.1, fun h => (by rw [h] at hr; cases hr), fun j hj => ?_⟩
    by_cases hji : j = i
    · subst hji; exact hy.wpOp hi H.1 H
    · have := ready_mono hj hji
      rw [H.2.1] at this
      cases this
  | succ fuel ih =>
    intro listed a w hfree hr hy H
    refine ⟨H.1, fun h => (by rw [h] at hr; cases hr), fun j hj => ?_⟩
    by_cases hji : j = i
    · subst hji; exact hy.wpOp hi H.1 H
    · have h1 := H.2.2 j (ready_mono hj hji)
      obtain ⟨hjun, oj, hoj, hall⟩ := mem_ready.1 hj
      have hnot : ∀ e ∈ oj.after, Region.binds md e = true → e.on ≠ i := fun e he hb heq => by
        have h1 := hall e he hb
        have h0 := (mem_ready.1 hr).1
        rw [heq] at h1
        rcases Nat.lt_or_ge i listed.size with h' | h'
        · simp [h'] at h0 h1; rw [h0] at h1; cases h1
        · simp [Array.getElem?_eq_none h'] at h1
      have h2 := wpOp_putC hoj (hfree j oj hoj hji hjun hnot) (fun cs b => hsel i oi cs b hi) (fun cs b => hsel j oj cs b hoj) hQ hy h1
      have hfree' : ∀ k ok, ops[k]? = some ok → k ≠ i → (listed.setIfInBounds j true).getD k true = false →
          (∀ e ∈ ok.after, Region.binds md e = true → e.on ≠ i) → oi.apart ops ok = true := fun k ok hk hki hun hno => by
        refine hfree k ok hk hki ?_ hno
        by_cases hjk : j = k
        · subst hjk; exact hjun
        · rw [getD_set_ne true hjk] at hun; exact hun
      refine wpOp_mono (fun a' w' h3 => ih (listed.setIfInBounds j true) a' w' hfree' (ready_mono hr (Ne.symm hji)) h3.1 ?_) h2
      rw [Array.setIfInBounds_comm _ _ hji]
      exact h3.2

/-- Take it first. -/
theorem wpAnyC_take (i : Nat) (v : Value) {oi : Oper} {fuel : Nat} {listed : Array Bool} {a : Act} {w : World} (hi : ops[i]? = some oi)
    (hs : Region.noSelect ops = true) (hf : Region.free md ops listed i = true) (hr : (Region.ready md ops listed).contains i = true)
    (hQ : ∀ c a w, Q (.panic c) (a.put oi.dst v) w → Q (.panic c) a w) (hw : Region.wanted oi (yielded ops a.tmps) = true) (hy : ∀ w, C w → (execOp a.eval oi).run P w = .ok (.value v) w)
    (h : wpAnyC P md ops C Q fuel (listed.setIfInBounds i true) (a.put oi.dst v) w) : wpAnyC P md ops C Q (fuel + 1) listed a w :=
  wpAnyC_first hi (Region.noSelect_spec hs) hQ fuel listed a w (Region.free_spec hi hf) (by simpa using hr) (.inl ⟨hw, hy⟩) h

/-- One alone may come up. -/
theorem wpAnyC_one (i : Nat) {oi : Oper} {fuel : Nat} {listed : Array Bool} {a : Act} {w : World} (hC : C w) (hi : ops[i]? = some oi) (hr : Region.ready md ops listed = [i]) (hw : Region.wanted oi (yielded ops a.tmps) = true)
    (h : ∀ K : Act → World → Prop, (∀ a w, wpAnyC P md ops C Q fuel (listed.setIfInBounds i true) a w → K a w) → oi.wp P a w K Q) : wpAnyC P md ops C Q (fuel + 1) listed a w := by
  refine ⟨hC, (fun h0 => by rw [hr] at h0; cases h0), fun j hj => ?_⟩
  rw [hr] at hj
  simp only [List.mem_singleton] at hj
  subst hj
  unfold wpOp
  simp only [hi, hw, if_true]
  exact .inl (h _ (fun _ _ h => h))

/-- Two may come up. -/
theorem wpAnyC_two (i j : Nat) {oi oj : Oper} {fuel : Nat} {listed : Array Bool} {a : Act} {w : World} (hC : C w) (hi : ops[i]? = some oi) (hj : ops[j]? = some oj) (hr : Region.ready md ops listed = [i, j]) (hwi : Region.wanted oi (yielded ops a.tmps) = true) (hwj : Region.wanted oj (yielded ops a.tmps) = true)
    (h : ∀ K : Act → World → Prop, (∀ a w, wpAnyC P md ops C Q fuel (listed.setIfInBounds i true) a w → K a w) → oi.wp P a w K Q)
    (h2 : ∀ K : Act → World → Prop, (∀ a w, wpAnyC P md ops C Q fuel (listed.setIfInBounds j true) a w → K a w) → oj.wp P a w K Q) : wpAnyC P md ops C Q (fuel + 1) listed a w := by
  refine ⟨hC, (fun h0 => by rw [hr] at h0; cases h0), fun x hx => ?_⟩
  rw [hr] at hx
  simp only [List.mem_cons, List.not_mem_nil, or_false] at hx
  unfold wpOp
  rcases hx with rfl | rfl
  · simp only [hi, hwi, if_true]
    exact .inl (h _ (fun _ _ h => h))
  · simp only [hj, hwj, if_true]
    exact .inl (h2 _ (fun _ _ h => h))

theorem wpAnyC_done {fuel : Nat} {listed : Array Bool} {a : Act} {w : World} (hC : C w) (hr : Region.ready md ops listed = []) (h : Q .normal a w) : wpAnyC P md ops C Q fuel listed a w := by
  cases fuel with
  | zero => exact ⟨hC, hr, h⟩
  | succ n => exact ⟨hC, fun _ => h, by rw [hr]; simp⟩
end

end Go.Proofs.Ytklboieemljmiaa

namespace Go.Proofs.Ytklboieemljmiaa
open Go.RowKit Go.Maps
set_option linter.unusedVariables false
set_option linter.unusedSimpArgs false

/-- What a step of apply leaves. -/
structure Applied (w w' : World) (tag tag' : Tags) (T : ByteArray → Tag) (mt : Tag) (M n : Nat) (F' : FilesF) (f' : ByteArray → Option Value) : Prop where
  map : MapIs w' M n f'
  files : Files w' tag' T f' F'
  step : Step w w' tag tag' (fun t => t = mt ∨ ∃ s, t = T s)
  tM : tag' M = some mt
  lt : ∀ i, tag' i ≠ none → i < w'.heap.size

theorem grown_mapTurned {w w' : World} {M : Nat} (h : w.mapTurned w' M) : w.grownBy w' (some M) := h.grown

theorem size32 {s : ByteArray} (h : s.size ≤ 32) : s.size ≤ maxLen := Nat.le_trans h (by unfold maxLen; omega)

/-- The memory behind laid and the store into the map. -/
theorem applied_wr {w0 w1 w2 : World} {tag : Tags} {T : ByteArray → Tag} {mt : Tag} {M n : Nat} {f : ByteArray → Option Value} {F : FilesF} {s : ByteArray} {v v' : Value} {ds : List Int} {off : Nat}
    (hTi : ∀ a b, T a = T b → a = b) (hTm : ∀ a, T a ≠ mt) (ht : tag M = some mt) (hlt : ∀ i, tag i ≠ none → i < w0.heap.size)
    (hfiles : Files w0 tag T f F) (hv : v = (f s).getD (.slice none 0 0)) (ho : off + ds.length ≤ 1048576)
    (hrow : Row w1 v' (laidL ((F s).getD []) off ds)) (hg : w0.grownBy w1 v.ownBlock) (hblk : v'.ownBlock = v.ownBlock ∨ ∃ g, v'.ownBlock = some g ∧ w0.heap.size ≤ g)
    (hmap : MapIs w2 M (n + 1) (updF f s (some v'))) (hturn : w1.mapTurned w2 M) :
    ∃ tag', Applied w0 w2 tag tag' T mt M (n + 1) (updF F s (some (laidL ((F s).getD []) off ds))) (updF f s (some v')) := by
  have hlen : (laidL ((F s).getD []) off ds).length ≤ 1048576 := by
    rw [laidL_length]
    have := hfiles s
    cases hF : F s with
    | none => simp; omega
    | some zs => rw [hF] at this; have := this.1; simp; omega
  have hvt : ∀ g, v.ownBlock = some g → tag g = some (T s) := by
    intro g hg'
    have := hfiles s
    cases hF : F s with
    | none => rw [hF] at this; rw [hv, this] at hg'; simp [Value.ownBlock] at hg'
    | some zs => rw [hF] at this; obtain ⟨_, x, hx, _, hxt⟩ := this; rw [hv, hx] at hg'; exact hxt g hg'
  obtain ⟨tag', htag'⟩ : ∃ tag' : Tags, tag' = fun i => if v'.ownBlock = some i then some (T s) else tag i := ⟨_, rfl⟩
  have hXs : ∀ t, (t = mt ∨ t = T s) → (t = mt ∨ ∃ s, t = T s) := fun t h => h.imp id (fun h => ⟨s, h⟩)
  have s1 : Step w0 w1 tag tag (fun t => t = mt ∨ t = T s) := by
    cases hb : v.ownBlock with
    | none => rw [hb] at hg; exact Step.grown hg _ _
    | some g => rw [hb] at hg; exact Step.turned hg tag (hvt g hb) (.inr rfl)
  have hM1 : w1.heap.size ≤ w2.heap.size := hturn.grown.size
  have s2 : Step w1 w2 tag tag (fun t => t = mt ∨ t = T s) := Step.turned hturn.grown tag ht (.inl rfl)
  have s12 := s1.trans s2
  have hrow2 : Row w2 v' (laidL ((F s).getD []) off ds) := hrow.of_block (fun g hg' => by
    have hne : g ≠ M := by
      intro e; subst e
      rcases hblk with hb | ⟨g', hb, hge⟩
      · rw [hb] at hg'; have h1 := hvt g hg'; rw [ht] at h1; cases h1; exact hTm s rfl
      · rw [hb] at hg'; cases hg'; have := hlt _ (by rw [ht]; simp); omega
    exact hturn.grown.block g (hrow.lt hg') (fun e => hne (by cases e; rfl)))
  have st : Step w0 w2 tag tag' (fun t => t = mt ∨ t = T s) := by
    rcases hblk with hb | ⟨g, hb, hge⟩
    · have : tag' = tag := by
        rw [htag']; funext i
        by_cases e : v'.ownBlock = some i
        · rw [if_pos e]; rw [hb] at e; exact (hvt i e).symm
        · rw [if_neg e]
      rw [this]; exact s12
    · have hgl : g < w2.heap.size := hrow2.lt hb
      have : tag' = fun i => if i = g then some (T s) else tag i := by
        rw [htag']; funext i
        by_cases e : i = g
        · subst e; simp [hb]
        · have e' : ¬ g = i := fun h => e h.symm
          simp [hb, e, e']
      rw [this]
      exact s12.tagged g hge hgl (.inr rfl) hlt
  refine ⟨tag', hmap, ?_, st.weaken hXs, ?_, st.lt hlt⟩
  · intro t
    by_cases e : t = s
    · subst e
      simp only [updF_same]
      exact ⟨hlen, v', rfl, hrow2, fun g hg' => by rw [htag']; simp [hg']⟩
    · rw [updF_other _ _ e, updF_other _ _ e]
      have := hfiles t
      cases hF : F t with
      | none => rw [hF] at this; exact this
      | some zs =>
        rw [hF] at this
        obtain ⟨hl, x, hx, hr, hxt⟩ := this
        have hnX : ¬ (T t = mt ∨ T t = T s) := by
          rintro (h | h)
          · exact hTm t h
          · exact e (hTi t s h)
        exact ⟨hl, x, hx, hr.of_block (fun g hg' => (st.keep (hr.lt hg') (hxt g hg') hnX).1), fun g hg' => (st.keep (hr.lt hg') (hxt g hg') hnX).2⟩
  · rw [htag']
    by_cases e : v'.ownBlock = some M
    · exfalso
      rcases hblk with hb | ⟨g, hb, hge⟩
      · rw [hb] at e; have h1 := hvt M e; rw [ht] at h1; cases h1; exact hTm s rfl
      · rw [hb] at e; cases e; have := hlt _ (by rw [ht]; simp); omega
    · simp [e, ht]

set_option maxRecDepth 100000 in
set_option maxHeartbeats 2000000 in
theorem apply_wr (w : World) (tag : Tags) (T : ByteArray → Tag) (mt : Tag) (M n : Nat) (f : ByteArray → Option Value) (F : FilesF) (s nm : ByteArray) (off : Nat) (ds : List Int) (dv : Value)
    (hTi : ∀ a b, T a = T b → a = b) (hTm : ∀ a, T a ≠ mt) (ht : tag M = some mt) (hlt : ∀ i, tag i ≠ none → i < w.heap.size)
    (hmap : MapIs w M n f) (hfiles : Files w tag T f F) (hn : n < 1099511627776) (hs : s.size ≤ 32) (ho : off + ds.length ≤ 1048576) (hrd : RdAt w dv ds) (hdt : ∀ g, dv.ownBlock = some g → tag g = some .dt ∨ g < w.heap.size ∧ tag g = none) (hTd : ∀ a, T a ≠ .dt) :
    Calls Try.prog 95 #[.agg #[.int .i64 0, .string s, .string nm, .int .i64 (off : Int), dv], .map (some M)] w fun e w' => e = .returned (.tuple #[]) ∧
      ∃ tag' f', Applied w w' tag tag' T mt M (n + 1) (updF F s (some (laidL ((F s).getD []) off ds))) f' := by
  obtain ⟨da, dc, rfl, hdn⟩ := rd_shape hrd
  obtain ⟨v, hv⟩ : ∃ v, v = (f s).getD (.slice none 0 0) := ⟨_, rfl⟩
  have hMlt := hmap.lt
  -- behind the box
  obtain ⟨w0, hw0⟩ : ∃ w0, w0 = w.alloc (.cells #[.int .i64 0, .string s, .string nm, .int .i64 (off : Int), .slice da ds.length dc] 155) := ⟨_, rfl⟩
  have hgr0 : w.grownBy w0 none := by rw [hw0]; exact World.grownBy_alloc w _ none
  have hmap0 : MapIs w0 M n f := hmap.of_block (hgr0.block M hMlt (by simp))
  have hfiles0 : Files w0 tag T f F := hfiles.step (Step.grown hgr0 tag (fun _ => False)) (by simp)
  have hlook : (Instr.lookup 66 (.map (some M)) (.string s) false).run Try.prog w0.drew = .ok v w0.drew := by rw [hv]; exact MapIs.look (w := w0.drew) hmap0 (size32 hs)
  have hsz0 : w.heap.size < w0.heap.size := by rw [hw0]; simp
  obtain ⟨b0, hb0⟩ : ∃ b0, b0 = w.heap.size := ⟨_, rfl⟩
  have hh0 : w0.heap[b0]? = some (.cells #[.int .i64 0, .string s, .string nm, .int .i64 (off : Int), .slice da ds.length dc] 155 (0, 0)) := by rw [hw0, hb0]; exact heap_alloc_new w _
  have c1 : w0.cell? ⟨b0, 1, none⟩ = some (.string s) := by simp [World.cell?, hh0]
  have c3 : w0.cell? ⟨b0, 3, none⟩ = some (.int .i64 (off : Int)) := by simp [World.cell?, hh0]
  have c4 : w0.cell? ⟨b0, 4, none⟩ = some (.slice da ds.length dc) := by simp [World.cell?, hh0]
  have hvrow : Row w0.drew v ((F s).getD []) := by
    have := hfiles0 s
    cases hF : F s with
    | none => rw [hF] at this; rw [hv, this]; exact row_nil _
    | some zs => rw [hF] at this; obtain ⟨_, x, hx, hr, _⟩ := this; rw [hv, hx]; exact hr
  have hvt : ∀ g, v.ownBlock = some g → tag g = some (T s) := by
    intro g hg'
    have := hfiles s
    cases hF : F s with
    | none => rw [hF] at this; rw [hv, this] at hg'; simp [Value.ownBlock] at hg'
    | some zs => rw [hF] at this; obtain ⟨_, x, hx, _, hxt⟩ := this; rw [hv, hx] at hg'; exact hxt g hg'
  have hvl : ((F s).getD []).length ≤ 1048576 := by
    have := hfiles s
    cases hF : F s with
    | none => simp
    | some zs => rw [hF] at this; exact this.1
  have hrd0 : RdAt w0.drew (.slice da ds.length dc) ds := by
    by_cases h0 : ds.length = 0
    · obtain ⟨a', c', hx, h1, h2, _⟩ := hrd
      exact ⟨a', c', hx, h1, h2, .inl h0⟩
    · exact hrd.of_block (fun g hg => hgr0.block g (hrd.lt (by omega) hg) (by simp))
  have hne : ∀ g, v.ownBlock = some g → (Value.slice da ds.length dc).ownBlock ≠ some g := by
    intro g hg hd
    have h1 := hvt g hg
    rcases hdt g hd with h2 | ⟨_, h2⟩
    · rw [h1] at h2; exact hTd s (by simpa using h2)
    · rw [h1] at h2; cases h2
  have hb0n : v.ownBlock ≠ some b0 := by
    intro e; have h1 := hvt b0 e; have := hlt b0 (by rw [h1]; simp); omega
  have hMb : M ≠ b0 := by omega
  replace hne := Kpt.mk hne
  replace hdt := Kpt.mk hdt
  replace hvt := Kpt.mk hvt
  replace hlt := Kpt.mk hlt
  replace hTi := Kpt.mk hTi
  replace hv := Kpt.mk hv
  replace hh0 := Kpt.mk hh0
  have hmapK := Kpt.mk hmap0
  have hw0K := Kpt.mk hw0
  clear hmap hfiles hrd
  go_enter Try.func95, Try.ntmps95
  go_wp2
  rw [← hw0, ← hb0]
  replace hw0 := Kpt.mk hw0
  replace hb0 := Kpt.mk hb0
  refine wp_region_any (by kernel_rfl) ?_
  refine wpAny_of_C (C := fun W => W.cell? ⟨b0, 1, none⟩ = some (.string s) ∧ W.cell? ⟨b0, 3, none⟩ = some (.int .i64 (off : Int)) ∧ W.cell? ⟨b0, 4, none⟩ = some (.slice da ds.length dc)) _ _ _ _ ?_
  refine wpAnyC_take 0 (.map (some M)) rfl (by kernel_rfl) (by kernel_rfl) (by kernel_rfl) (fun _ _ _ h => h) (by rfl) (fun W hW => by go_simp) ?_
  refine wpAnyC_take 1 (.pointer (some ⟨b0, 1, none⟩)) rfl (by kernel_rfl) (by kernel_rfl) (by kernel_rfl) (fun _ _ _ h => h) (by rfl) (fun W hW => by go_simp) ?_
  refine wpAnyC_take 2 (.string s) rfl (by kernel_rfl) (by kernel_rfl) (by kernel_rfl) (fun _ _ _ h => h) (by rfl) (fun W ⟨c1, c3, c4⟩ => by go_simp) ?_
  refine wpAnyC_take 3 (.map (some M)) rfl (by kernel_rfl) (by kernel_rfl) (by kernel_rfl) (fun _ _ _ h => h) (by rfl) (fun W hW => by go_simp) ?_
  refine wpAnyC_take 4 (.pointer (some ⟨b0, 1, none⟩)) rfl (by kernel_rfl) (by kernel_rfl) (by kernel_rfl) (fun _ _ _ h => h) (by rfl) (fun W hW => by go_simp) ?_
  refine wpAnyC_take 5 (.string s) rfl (by kernel_rfl) (by kernel_rfl) (by kernel_rfl) (fun _ _ _ h => h) (by rfl) (fun W ⟨c1, c3, c4⟩ => by go_simp) ?_
  refine wpAnyC_take 7 (.pointer (some ⟨b0, 3, none⟩)) rfl (by kernel_rfl) (by kernel_rfl) (by kernel_rfl) (fun _ _ _ h => h) (by rfl) (fun W hW => by go_simp) ?_
  refine wpAnyC_take 8 (.int .i64 (off : Int)) rfl (by kernel_rfl) (by kernel_rfl) (by kernel_rfl) (fun _ _ _ h => h) (by rfl) (fun W ⟨c1, c3, c4⟩ => by go_simp) ?_
  refine wpAnyC_take 9 (.pointer (some ⟨b0, 4, none⟩)) rfl (by kernel_rfl) (by kernel_rfl) (by kernel_rfl) (fun _ _ _ h => h) (by rfl) (fun W hW => by go_simp) ?_
  refine wpAnyC_take 10 (.slice da ds.length dc) rfl (by kernel_rfl) (by kernel_rfl) (by kernel_rfl) (fun _ _ _ h => h) (by rfl) (fun W ⟨c1, c3, c4⟩ => by go_simp) ?_
  change wpAnyC _ _ _ _ _ _ _ _ w0.drew
  refine wpAnyC_one 6 ⟨c1, c3, c4⟩ rfl (by kernel_rfl) (by rfl) (fun K hK => ?_)
  go_simp
  refine hK _ _ ?_
  clear hK K
  refine wpAnyC_one 11 ⟨c1, c3, c4⟩ rfl (by kernel_rfl) (by rfl) (fun K hK => ?_)
  go_simp
  refine (laid_any _ v (.slice da ds.length dc) ((F s).getD []) ds off hvrow hrd0 hne.out hvl ho).mono ?_
  rintro e w1 ⟨v', rfl, hrow1, hg1, hblk⟩
  have k1 : w1.cell? ⟨b0, 1, none⟩ = some (.string s) := hg1.cell (a := ⟨b0, 1, none⟩) c1 (fun e => hb0n e.symm)
  have k3 : w1.cell? ⟨b0, 3, none⟩ = some (.int .i64 (off : Int)) := hg1.cell (a := ⟨b0, 3, none⟩) c3 (fun e => hb0n e.symm)
  have k4 : w1.cell? ⟨b0, 4, none⟩ = some (.slice da ds.length dc) := hg1.cell (a := ⟨b0, 4, none⟩) c4 (fun e => hb0n e.symm)
  obtain ⟨w2, hst, hmap2, hturn⟩ := MapIs.store (w := w1) (MapIs.of_block (w := w0) hmapK.out (hg1.block M hmapK.out.lt (fun e => by have h1 := hvt.out M e.symm; rw [ht] at h1; exact hTm s (by simpa using h1.symm)))) (size32 hs) (by unfold maxLen; omega) v'
  have m1 : w2.cell? ⟨b0, 1, none⟩ = some (.string s) := hturn.grown.cell (a := ⟨b0, 1, none⟩) k1 (fun e => hMb (by simpa using e.symm))
  have m3 : w2.cell? ⟨b0, 3, none⟩ = some (.int .i64 (off : Int)) := hturn.grown.cell (a := ⟨b0, 3, none⟩) k3 (fun e => hMb (by simpa using e.symm))
  have m4 : w2.cell? ⟨b0, 4, none⟩ = some (.slice da ds.length dc) := hturn.grown.cell (a := ⟨b0, 4, none⟩) k4 (fun e => hMb (by simpa using e.symm))
  have hgK := Kpt.mk hg1
  have hbK := Kpt.mk hblk
  clear hg1 hblk
  dsimp only
  refine hK _ _ ?_
  clear hK K
  refine wpAnyC_one 12 ⟨k1, k3, k4⟩ rfl (by kernel_rfl) (by rfl) (fun K hK => ?_)
  go_simp
  refine hK _ _ ?_
  clear hK K
  refine wpAnyC_done ⟨m1, m3, m4⟩ (by kernel_rfl) ?_
  go_wp2
  refine bodyPost_end (results_none rfl _ _ _) rfl ?_
  refine ⟨rfl, ?_⟩
  have hlt0 : ∀ i, tag i ≠ none → i < w0.heap.size := fun i hi => Nat.lt_trans (hlt.out i hi) hsz0
  obtain ⟨tag', ha⟩ := applied_wr (w0 := w0.drew) hTi.out hTm ht hlt0 hfiles0 hv.out ho hrow1 hgK.out hbK.out hmap2 hturn
  refine ⟨tag', _, ha.map, ha.files, ?_, ha.tM, ha.lt⟩
  have hgr0' : w.grownBy w0.drew none := ⟨hgr0.os, hgr0.tape, hgr0.output, hgr0.size, hgr0.block⟩
  exact (Step.grown hgr0' tag _).trans ha.step
end Go.Proofs.Ytklboieemljmiaa

namespace Go.Proofs.Ytklboieemljmiaa
open Go.RowKit Go.Maps
set_option linter.unusedVariables false
set_option linter.unusedSimpArgs false

theorem named_ok (s : ByteArray) (w : World) (h1 : 1 ≤ s.size) (h2 : s.size ≤ 32) :
    Calls Try.prog 68 #[.string s] w fun e w' => e = .returned (.bool true) ∧ w' = w := by
  have H1 : (1 : Int) ≤ s.size := by omega
  have H2 : (s.size : Int) ≤ 32 := by omega
  go_enter Try.func68, Try.ntmps68
  go_wp2
  go_ret
  exact ⟨rfl, rfl⟩

theorem Try.eqlMap (M : Nat) (w : World) : (binOp .eql 66 (.map (some M)) (.map none)).run Try.prog w = .ok (.bool false) w := by kernel_rfl

set_option maxRecDepth 100000 in
theorem ready_ok (B M : Nat) (w : World) (h : w.cell? ⟨B, 1, none⟩ = some (.map (some M))) :
    Calls Try.prog 85 #[.pointer (some ⟨B, 0, none⟩)] w fun e w' => e = .returned (.tuple #[]) ∧ w' = w := by
  go_enter Try.func85, Try.ntmps85
  have h0 := Try.eqlMap M
  go_wp2
  refine bodyPost_end (results_none rfl _ _ _) rfl ?_
  exact ⟨rfl, rfl⟩

section
variable {w w' : World} {B : Nat} {tag tag' : Tags} {st st' : St} {M1 M2 n2 : Nat} {wv : Value} {fv : Option Nat} {f1 f2 : ByteArray → Option Value} {l : List (Chg × Value)}

theorem Inv.at (h : Inv w B tag st M1 M2 wv fv f1 f2 l n2) :
    w.cell? ⟨B, 0, none⟩ = some (.map (some M1)) ∧ w.cell? ⟨B, 1, none⟩ = some (.map (some M2)) ∧ w.cell? ⟨B, 2, none⟩ = some wv ∧ w.cell? ⟨B, 3, none⟩ = some (.map fv) ∧
    w.cell? ⟨B, 4, none⟩ = some (.int .i64 (-1)) ∧ w.cell? ⟨B, 5, none⟩ = some (.int .i64 st.ops) ∧ w.cell? ⟨B, 6, none⟩ = some (.bool false) := by
  have := h.cell
  refine ⟨?_, ?_, ?_, ?_, ?_, ?_, ?_⟩ <;> simp [World.cell?, this, wdCells]

theorem Inv.frozen (h : Inv w B tag st M1 M2 wv fv f1 f2 l n2) (k : Nat) : w.frozen? ⟨B, k, none⟩ = false := by
  simp [World.frozen?, h.cell]

/-- What stays while blocks of others are written. -/
theorem Inv.step (h : Inv w B tag st M1 M2 wv fv f1 f2 l n2) (s : Step w w' tag tag' (fun _ => False)) : Inv w' B tag' st M1 M2 wv fv f1 f2 l n2 where
  cell := (s.keep (Array.getElem?_eq_some_iff.1 h.cell).1 h.tB id).1.trans h.cell
  tB := (s.keep (Array.getElem?_eq_some_iff.1 h.cell).1 h.tB id).2
  t1 := (s.keep h.map1.lt h.t1 id).2
  t2 := (s.keep h.map2.lt h.t2 id).2
  map1 := h.map1.of_block (s.keep h.map1.lt h.t1 id).1
  map2 := h.map2.of_block (s.keep h.map2.lt h.t2 id).1
  seen := h.seen.step s (fun _ => id)
  dur := h.dur.step s (fun _ => id)
  waits := h.waits.step s id id
  l_eq := h.l_eq
  fails := h.fails.step s id
  lt := s.lt h.lt
  opsLo := h.opsLo
  opsHi := h.opsHi
  cnt2 := h.cnt2

/-- The world's own cells have turned: another number of calls. -/
theorem Inv.tick (h : Inv w B tag st M1 M2 wv fv f1 f2 l n2) (hg : w.grownBy w' (some B)) (hc : w'.heap[B]? = some (.cells (wdCells M1 M2 wv fv (st.ops + 1)) 69 (0, 0))) :
    Inv w' B tag { st with ops := st.ops + 1, cnt := st.cnt + 1 } M1 M2 wv fv f1 f2 l n2 := by
  have s : Step w w' tag tag (fun t => t = .wd) := Step.turned hg tag h.tB rfl
  exact {
    cell := hc
    tB := h.tB
    t1 := h.t1
    t2 := h.t2
    map1 := (h.map1.of_block (s.keep h.map1.lt h.t1 (by simp)).1).mono (Nat.le_succ _)
    map2 := h.map2.of_block (s.keep h.map2.lt h.t2 (by simp)).1
    seen := h.seen.step s (by simp)
    dur := h.dur.step s (by simp)
    waits := h.waits.step s (by simp) (by simp)
    l_eq := h.l_eq
    fails := h.fails.step s (by simp)
    lt := s.lt h.lt
    opsLo := by have := h.opsLo; show 0 ≤ st.ops + 1; omega
    opsHi := by have := h.opsHi; show st.ops + 1 ≤ ((st.cnt + 1 : Nat) : Int); omega
    cnt2 := by have := h.cnt2; show n2 + l.length ≤ st.cnt + 1; omega }
end

theorem Try.law3 : Keyed Try.prog 3 := int_keyed Try.underlying3
theorem Try.zeroUnit (w : World) : (zeroValue 70).run Try.prog w = .ok (.agg #[]) w := by kernel_rfl

theorem fails_look {w : World} {tag : Tags} {fv : Option Nat} {p : Int → Bool} (h : FailsIs w tag fv p) (x : Int) (hx : 0 ≤ x) (hx' : x ≤ 1099511627776) (w' : World) (hw : w'.heap = w.heap ∨ (∀ b, fv = some b → w'.heap[b]? = w.heap[b]?)) :
    (Instr.lookup 64 (.map fv) (.int .i64 x) true).run Try.prog w' = .ok (.tuple #[.agg #[], .bool (p x)]) w' := by
  have hwf : (Lit.int .i64 x).wf = true := WalkArith.wf_i64 (by omega)
  have hkey : keyOf Try.prog 3 (.int .i64 x) = some (.int .i64 x) := keyOf_int_mk Try.underlying3 hwf
  cases fv with
  | none =>
    rw [Maps.look_nil true Try.law3 Try.underlying64 (Try.zeroUnit w') hkey]
    simp [h x]
  | some b =>
    obtain ⟨_, n, D, ho, hp⟩ := h
    have ho' : w'.ownsMap (H := Unit) Try.prog 3 unitElem b n D := by
      obtain ⟨es, clock, h1, h2⟩ := ho
      refine ⟨es, clock, ?_, h2⟩
      rcases hw with hw | hw
      · rw [hw]; exact h1
      · rw [hw b rfl]; exact h1
    obtain ⟨v, ps, hrun, hv⟩ := ho'.look_ok Try.law3 Try.underlying64 (Try.zeroUnit w') unitElem_mk hkey
    obtain ⟨rfl, _⟩ := unitElem_inv hv
    rw [hrun, hp x hwf]

theorem setCell_other (w : World) (a : Addr) (v : Value) {i : Nat} (h : i ≠ a.block) : (w.setCell a v).heap[i]? = w.heap[i]? := by
  simp only [World.setCell, Array.getElem?_modify, if_neg (Ne.symm h)]

theorem setCell_own (w : World) (B k : Nat) (v : Value) (c : Array Value) (t : TypeId) (h : w.heap[B]? = some (.cells c t (0, 0))) : (w.setCell ⟨B, k, none⟩ v).heap[B]? = some (.cells (c.setIfInBounds k v) t (0, 0)) := by
  simp [World.setCell, Array.getElem?_modify, h]

theorem grown_setCell (w : World) (B k : Nat) (v : Value) : w.grownBy (w.setCell ⟨B, k, none⟩ v) (some B) :=
  ⟨rfl, rfl, rfl, by simp [World.setCell], fun i _ hi => setCell_other w _ v (fun e => hi (by rw [e]))⟩

set_option maxRecDepth 100000 in
set_option maxHeartbeats 1000000 in
theorem call_any (w : World) (B : Nat) (tag : Tags) (st : St) (M1 M2 n2 : Nat) (wv : Value) (fv : Option Nat) (f1 f2 : ByteArray → Option Value) (l : List (Chg × Value))
    (h : Inv w B tag st M1 M2 wv fv f1 f2 l n2) (hc : st.cnt < 1099511627776) :
    Calls Try.prog 69 #[.pointer (some ⟨B, 0, none⟩)] w fun e w' => e = .returned (.int .i64 (if st.fails st.ops then 6 else 0)) ∧
      Inv w' B tag { st with ops := st.ops + 1, cnt := st.cnt + 1 } M1 M2 wv fv f1 f2 l n2 ∧ w.grownBy w' (some B) := by
  obtain ⟨c0, c1, c2, c3, c4, c5, c6⟩ := h.at
  have fz := h.frozen 5
  have o1 := h.opsLo
  have o2 := h.opsHi
  have hlook := fails_look (w := w) h.fails st.ops o1 (by omega) (w.setCell ⟨B, 5, none⟩ (.int .i64 (st.ops + 1))) (.inr (fun b hb => by
    have hbB : b ≠ B := by
      intro e
      have hf := h.fails
      rw [hb] at hf
      have := hf.1
      rw [e, h.tB] at this
      cases this
    exact setCell_other w _ _ hbB))
  have hfin : ∀ W, (w.setCell ⟨B, 5, none⟩ (.int .i64 (st.ops + 1))).grownBy W none → Inv W B tag { st with ops := st.ops + 1, cnt := st.cnt + 1 } M1 M2 wv fv f1 f2 l n2 ∧ w.grownBy W (some B) := by
    intro W hW
    have hg : w.grownBy W (some B) := (grown_setCell w B 5 _).andThen hW (by simp)
    refine ⟨h.tick hg ?_, hg⟩
    have hlt : B < (w.setCell ⟨B, 5, none⟩ (.int .i64 (st.ops + 1))).heap.size := by
      have := (Array.getElem?_eq_some_iff.1 h.cell).1
      simpa [World.setCell] using this
    rw [hW.block B hlt (by simp), setCell_own w B 5 _ _ _ h.cell]
    simp [wdCells]
  obtain ⟨x, hx⟩ : ∃ x, x = st.ops := ⟨_, rfl⟩
  obtain ⟨p, hp⟩ : ∃ p, p = st.fails st.ops := ⟨_, rfl⟩
  rw [← hp]
  rw [← hp, ← hx] at hlook
  rw [← hx] at c5 o1 o2
  have hfin' : ∀ W, (w.setCell ⟨B, 5, none⟩ (.int .i64 (x + 1))).grownBy W none → Inv W B tag { st with ops := st.ops + 1, cnt := st.cnt + 1 } M1 M2 wv fv f1 f2 l n2 ∧ w.grownBy W (some B) := by
    rw [hx]; exact hfin
  replace hfin' := Kpt.mk hfin'
  clear hfin hp hx h
  have hne : (x == -1) = false := by simp; omega
  have hN : ¬ x = -1 := by omega
  cases p
  · go_enter Try.func69, Try.ntmps69
    go_wp2_with (go_at_call 85; refine (ready_ok B M2 _ c1).mono ?_; rintro e w' ⟨rfl, hw'⟩; rw [hw'])
    go_ret
    exact ⟨rfl, hfin'.out _ (World.grownBy_alloc _ _ none)⟩
  · go_enter Try.func69, Try.ntmps69
    go_wp2_with (go_at_call 85; refine (ready_ok B M2 _ c1).mono ?_; rintro e w' ⟨rfl, hw'⟩; rw [hw'])
    go_ret
    exact ⟨rfl, hfin'.out _ (World.grownBy_alloc _ _ none)⟩
end Go.Proofs.Ytklboieemljmiaa

namespace Go.Proofs.Ytklboieemljmiaa
open Go.RowKit Go.Maps
set_option linter.unusedVariables false
set_option linter.unusedSimpArgs false

theorem Try.eqlNilSlice (w : World) : (binOp .eql 22 (.slice none 0 0) (.slice none 0 0)).run Try.prog w = .ok (.bool true) w := by kernel_rfl
theorem Try.eqlSlice (a : Addr) (n c : Nat) (w : World) : (binOp .eql 22 (.slice (some a) n c) (.slice none 0 0)).run Try.prog w = .ok (.bool false) w := by kernel_rfl

/-- append(v, p...), v owned. -/
theorem wpList_append_rd {w : World} {ops : Array Oper} {rest : List Oper} {o : Oper} {a : Act} {Q : Exit → Act → World → Prop} (hgd : o.guard = none) (s x : Operand)
    (ho : o.op = .call { callee := .builtin .append, args := #[s, x], argTypes := #[22, 22] })
    (base : Nat) (v : Value) (xs : List Int) (hs : a.eval s = v) (hown : w.ownsRow base 5 1 v xs.length (cels xs))
    (sv : Value) (ds : List Int) (hx : a.eval x = sv) (hrd : RdAt w sv ds) (hroom : xs.length + ds.length ≤ 140737488355328) (hbase : base ≤ w.heap.size)
    (h : ∀ v' w', w'.ownsRow base 5 1 v' (xs ++ ds).length (cels (xs ++ ds)) → w.grownBy w' v.ownBlock → wpList Try.prog ops Q rest (a.put o.dst v') w') :
    wpList Try.prog ops Q (o :: rest) a w := by
  obtain ⟨i0, hi0, hz0, hz1, hz2⟩ := info_parts Try.info5
  obtain ⟨sa, sc, rfl, hsn, hsl, hsr⟩ := hrd
  cases sa with
  | none =>
    obtain ⟨hl, rfl⟩ := hsn rfl
    obtain rfl : ds = [] := List.eq_nil_of_length_eq_zero hl
    refine wpList_append_own_none hgd s x 22 ho base 5 i0 1 Try.underlying22 hi0 v xs.length (cels xs) hs hown hx ?_
    exact h v w (by simpa using hown) ⟨rfl, rfl, rfl, Nat.le_refl _, fun _ _ _ => rfl⟩
  | some ad =>
    have hnews : ∀ (j : Nat) (u : Value), (cels ds)[j]? = some u → w.cell? (ad.add j) = some u := by
      intro j u hj
      rcases hsr with h0 | ⟨b, off, hb, hc⟩
      · obtain rfl : ds = [] := List.eq_nil_of_length_eq_zero h0
        simp [cels] at hj
      · have hb' : ad = ⟨b, off, none⟩ := by simpa using hb
        subst hb'
        rw [Go.WideShapes.add_plain]
        exact hc j u hj
    refine wpList_append_own w hgd s x 22 ho base 5 i0 (.int .u8 0) 1 1 Try.underlying22 hi0 hz0 hz1 hz2 rfl (by decide) v xs.length (cels xs) hs hown ad ds.length sc (cels ds) hx (by simp) hnews
      (cels_one _) (by unfold maxLen; omega) (by omega) hbase ?_
    intro v' w' hown' hg _
    exact h v' w' (by rw [List.length_append, cels_append]; exact hown') hg

/-- A row that may be read, as new memory or none. -/
theorem clone_any (w : World) (dv : Value) (ds : List Int) (hrd : RdAt w dv ds) (hl : ds.length ≤ 140737488355328) :
    Calls Try.prog 94 #[dv] w fun e w' => ∃ v', e = .returned v' ∧ Row w' v' ds ∧ w.grownBy w' none ∧ ∀ g, v'.ownBlock = some g → w.heap.size ≤ g := by
  obtain ⟨sa, sc, rfl, hsn, hsl, hsr⟩ := hrd
  cases sa with
  | none =>
    obtain ⟨hl0, rfl⟩ := hsn rfl
    obtain rfl : ds = [] := List.eq_nil_of_length_eq_zero hl0
    have h0 := Try.eqlNilSlice
    go_enter Try.func94, Try.ntmps94
    go_wp2
    go_ret
    exact ⟨_, rfl, row_nil _, ⟨rfl, rfl, rfl, Nat.le_refl _, fun _ _ _ => rfl⟩, by simp [Value.ownBlock]⟩
  | some ad =>
    have h0 := Try.eqlSlice ad ds.length sc
    have hrd' : ∀ o, RdAt (w.alloc o) (.slice (some ad) ds.length sc) ds := by
      intro o
      refine ⟨some ad, sc, rfl, hsn, hsl, ?_⟩
      rcases hsr with h | ⟨b, off, hb, hc⟩
      · exact .inl h
      · refine .inr ⟨b, off, hb, fun j u hu => ?_⟩
        have := hc j u hu
        exact (World.grownBy_alloc w o none).cell this (by simp)
    have hown0 : (w.alloc (.cells #[] 5)).ownsRow w.heap.size 5 1 (.slice (some ⟨w.heap.size, 0, none⟩) 0 0) ([] : List Int).length (cels []) := World.ownsRow_made w #[] 0 (Nat.le_refl _) (Nat.zero_le _) rfl
    replace hrd' := Kpt.mk hrd'
    replace hown0 := Kpt.mk hown0
    clear hsr hsn
    go_enter Try.func94, Try.ntmps94
    go_wp2_with (at_builtin; refine wpList_append_rd rfl _ _ rfl w.heap.size (.slice (some ⟨w.heap.size, 0, none⟩) 0 0) [] rfl hown0.out _ ds rfl (hrd'.out _) (by simpa using hl) (by simp) ?_; intro v' w' hown' hg')
    go_ret
    rw [List.nil_append] at hown'
    have hgr : w.grownBy w' none := (World.grownBy_alloc w (.cells #[] 5) none).andThen hg' (by simp [Value.ownBlock])
    refine ⟨v', rfl, ⟨hown'.1, ?_⟩, hgr, fun g hg => (hown'.lt g hg).1⟩
    rcases hown'.2 with hn | ⟨g, cap, cur, hv, hb, rest⟩
    · exact .inl hn
    · exact .inr ⟨g, cap, cur, hv, Nat.zero_le _, rest⟩
end Go.Proofs.Ytklboieemljmiaa

namespace Go.Proofs.Ytklboieemljmiaa
open Go.RowKit
set_option linter.unusedVariables false
set_option linter.unusedSimpArgs false

theorem Try.infoCHG : (Try.prog.info? 155).map (fun i => (i.zero, i.size, i.bytes)) = some (some (.agg #[.int .i64 0, .string ⟨#[]⟩, .string ⟨#[]⟩, .int .i64 0, .slice none 0 0]), 5, 72) := by kernel_rfl

theorem run_append_chg (w : World) (v : Value) (n : Nat) (xs : List Value) (hown : w.ownsRow 0 155 5 v n xs) (ad : Addr) (c : Nat) (news : List Value) (hl : news.length = 5)
    (hnews : ∀ j u, news[j]? = some u → w.cell? (ad.add j) = some u) (h1 : ∀ u ∈ news, u.oneCell' = true) (hb : n < 1099511627776) :
    ∃ v' w', (∀ ty, (Builtin.append_ #[67, 67] ty #[v, .slice (some ad) 1 c]).run Try.prog w = .ok v' w') ∧ w'.ownsRow 0 155 5 v' (n + 1) (xs ++ news) ∧ w.grownBy w' v.ownBlock ∧
      (v'.ownBlock = v.ownBlock ∨ ∃ g, v'.ownBlock = some g ∧ w.heap.size ≤ g) ∧ v'.oneCell' = true := by
  obtain ⟨i, hi, hz, hsize, hby⟩ := info_parts Try.infoCHG
  have hlen : (xs ++ news).length = (n + 1) * 5 := by rw [List.length_append, hown.1, hl]; omega
  have mk : ∀ old : Nat, old < n + 1 → ∀ row, (w.drew.alloc (.cells (xs.toArray ++ news.toArray ++ Builtin.zeroCells (Value.agg #[.int .i64 0, .string ⟨#[]⟩, .string ⟨#[]⟩, .int .i64 0, .slice none 0 0]).cells (grownCap w (n + 1) old 155 - (n + 1))) 155)).ownsRow 0 155 5
      (.slice (some ⟨w.heap.size, 0, none⟩) (n + 1) (grownCap w (n + 1) old 155)) (n + 1) (xs ++ news) ∧
      w.grownBy (w.drew.alloc (.cells (xs.toArray ++ news.toArray ++ Builtin.zeroCells (Value.agg #[.int .i64 0, .string ⟨#[]⟩, .string ⟨#[]⟩, .int .i64 0, .slice none 0 0]).cells (grownCap w (n + 1) old 155 - (n + 1))) 155)) row := by
    intro old ho row
    have hge := grownCap_ge w (n + 1) old 155
    have hcm : grownCap w (n + 1) old 155 ≤ maxLen := grownCap_le_maxLen w (n + 1) old 155 (by unfold maxLen; omega)
    refine ⟨⟨hlen, .inr ⟨w.heap.size, _, _, rfl, Nat.zero_le _, heap_alloc_new w.drew _, hge, hcm, ?_, ?_⟩⟩, ⟨rfl, rfl, rfl, by simp, fun j hj _ => heap_alloc_old w.drew _ hj⟩⟩
    · simp only [Array.size_append, List.size_toArray, size_zeroCells, hown.1, hl]
      simp [Value.cells]; omega
    · simp only [Array.toList_append]
      rw [List.take_append_of_le_length (by simp [hown.1, hl]; omega), List.take_of_length_le (by simp [hown.1, hl]; omega)]
  rcases hown.2 with ⟨rfl, rfl⟩ | ⟨g, cap, cur, rfl, hbg, hg, hnc, hcm, hcs, htake⟩
  · have hx : xs = [] := List.eq_nil_of_length_eq_zero (by simpa using hown.1)
    subst hx
    have hr := fun ty => run_append_nil (P := Try.prog) w 67 ty 155 i _ Try.underlying67 hi hz ad 1 c news (by rw [hl, hsize]) hnews (by omega) (by omega) (by rw [hby]; omega)
    have hm := mk 0 (by omega) (Value.ownBlock (.slice none 0 0))
    simp only [Nat.zero_add, List.nil_append, Array.empty_append] at hm ⊢
    exact ⟨_, _, hr, hm.1, hm.2, .inr ⟨_, rfl, Nat.le_refl _⟩, rfl⟩
  · by_cases hroom : n + 1 ≤ cap
    · have hr := fun ty => run_append_room (P := Try.prog) w 67 ty 155 i Try.underlying67 hi g n cap cur hg ad 1 c news (by rw [hl, hsize]) hnews h1 hroom (by rw [hl, hsize, hcs]; omega)
      refine ⟨_, _, hr, ⟨hlen, .inr ⟨g, cap, _, rfl, Nat.zero_le _, setRow_heap w g cur _ 155 _ hg, hroom, hcm, ?_, ?_⟩⟩, ⟨rfl, rfl, rfl, by simp, fun j _ hk => setRow_other w g j _ (fun e => hk (by simp [Value.ownBlock, e]))⟩, .inl rfl, rfl⟩
      · simp only [List.size_toArray, List.length_append, List.length_take, List.length_drop, Array.length_toList, hsize]
        omega
      · simp only [hsize]
        rw [htake, List.take_append_of_le_length (by simp [hown.1, hl]; omega), List.take_of_length_le (by simp [hown.1, hl]; omega)]
    · have holds : ∀ j u, xs[j]? = some u → w.cell? ((⟨g, 0, none⟩ : Addr).add j) = some u := hown.cells (g := g) rfl
      have hr := fun ty => run_append_grow (P := Try.prog) w 67 ty 155 i _ Try.underlying67 hi hz ⟨g, 0, none⟩ n cap xs (by rw [hown.1, hsize]) holds ad 1 c news (by rw [hl, hsize]) hnews (by omega) (by omega) (growslice_fits (by omega) (by rw [hby]; omega))
      have hm := mk cap (by omega) (Value.ownBlock (.slice (some ⟨g, 0, none⟩) n cap))
      exact ⟨_, _, hr, hm.1, hm.2, .inr ⟨_, rfl, Nat.le_refl _⟩, rfl⟩
end Go.Proofs.Ytklboieemljmiaa

namespace Go.Proofs.Ytklboieemljmiaa
open Go.RowKit Go.Maps
set_option linter.unusedVariables false
set_option linter.unusedSimpArgs false

/-! ### more tags -/
def Ext (tag tag' : Tags) : Prop := ∀ i t, tag i = some t → tag' i = some t

theorem Files.ext {w : World} {tag tag' : Tags} {T : ByteArray → Tag} {f : ByteArray → Option Value} {F : FilesF} (h : Files w tag T f F) (e : Ext tag tag') : Files w tag' T f F := by
  intro s
  have := h s
  cases hF : F s with
  | none => rw [hF] at this; exact this
  | some zs => rw [hF] at this; obtain ⟨hl, v, hf, hr, ht⟩ := this; exact ⟨hl, v, hf, hr, fun g hg => e _ _ (ht g hg)⟩

theorem Chg.ok.ext {w : World} {tag tag' : Tags} {c : Chg} {dv : Value} (h : c.ok w tag dv) (e : Ext tag tag') : c.ok w tag' dv := by
  obtain ⟨two, three, s, t, off, ds⟩ := c
  cases two with
  | false => obtain ⟨h1, h2, hr, ht⟩ := h; exact ⟨h1, h2, hr, fun g hg => e _ _ (ht g hg)⟩
  | true => cases three <;> exact h

theorem FailsIs.ext {w : World} {tag tag' : Tags} {fv : Option Nat} {p : Int → Bool} (h : FailsIs w tag fv p) (e : Ext tag tag') : FailsIs w tag' fv p := by
  cases fv with
  | none => exact h
  | some b => exact ⟨e _ _ h.1, h.2⟩

/-- A value whose block is of nobody yet, or that has none. -/
def Fresh (w : World) (tag : Tags) (dv : Value) : Prop := ∀ g, dv.ownBlock = some g → g < w.heap.size ∧ tag g = none

/-- What the data of a change must be ahead of do. -/
def Chg.pre (w : World) (tag : Tags) : Chg → Value → Prop
  | ⟨false, _, s, _, off, ds⟩, dv => s.size ≤ 32 ∧ off + ds.length ≤ 1048576 ∧ Row w dv ds ∧ Fresh w tag dv
  | ⟨true, false, a, b, _, _⟩, dv => a.size ≤ 32 ∧ b.size ≤ 32 ∧ dv = .slice none 0 0
  | ⟨true, true, a, _, _, _⟩, dv => a.size ≤ 32 ∧ dv = .slice none 0 0

/-- apply does it. -/
def Applies (c : Chg) (dv : Value) : Prop := ∀ (w : World) (tag : Tags) (T : ByteArray → Tag) (mt : Tag) (M n : Nat) (f : ByteArray → Option Value) (F : FilesF),
    (∀ a b, T a = T b → a = b) → (∀ a, T a ≠ mt) → (∀ a, T a ≠ .dt) → tag M = some mt → (∀ i, tag i ≠ none → i < w.heap.size) → MapIs w M n f → Files w tag T f F → n < 1099511627776 →
    (c.pre w tag dv ∨ c.ok w tag dv) → 
    Calls Try.prog 95 #[.agg (c.vals dv), .map (some M)] w fun e w' => e = .returned (.tuple #[]) ∧ ∃ tag' f', Applied w w' tag tag' T mt M (n + 1) (c.run F) f'

theorem applies_wr (s : ByteArray) (off : Nat) (ds : List Int) (dv : Value) : Applies (.wr s off ds) dv := by
  intro w tag T mt M n f F hTi hTm hTd ht hlt hmap hfiles hn hok
  rcases hok with ⟨h1, h2, h3, h4⟩ | ⟨h1, h2, h3, h4⟩
  · exact apply_wr w tag T mt M n f F s ⟨#[]⟩ off ds dv hTi hTm ht hlt hmap hfiles hn h1 h2 h3.rd (fun g hg => .inr (h4 g hg)) hTd
  · exact apply_wr w tag T mt M n f F s ⟨#[]⟩ off ds dv hTi hTm ht hlt hmap hfiles hn h1 h2 h3.rd (fun g hg => .inl (h4 g hg)) hTd

/-- The data's block is the change's now. -/
def tagDt (dv : Value) (tag : Tags) : Tags := fun i => if dv.ownBlock = some i then some .dt else tag i

theorem tagDt_none {dv : Value} (h : dv.ownBlock = none) (tag : Tags) : tagDt dv tag = tag := by
  funext i; simp [tagDt, h]

theorem Step.retag {w w' : World} {tag tagA : Tags} {dv : Value} (h : Step w w' tag tagA (fun _ => True)) (hg : ∀ g, dv.ownBlock = some g → w.heap.size ≤ g ∧ g < w'.heap.size) : Step w w' tag (tagDt dv tagA) (fun _ => True) where
  os := h.os
  tape := h.tape
  output := h.output
  size := h.size
  block := h.block
  other := fun i t ht => absurd trivial ht
  bare := fun i hi hn => by
    have : dv.ownBlock ≠ some i := fun e => by have := hg i e; omega
    simp [tagDt, this, h.bare i hi hn]
  lt := fun hl i hi => by
    by_cases e : dv.ownBlock = some i
    · exact (hg i e).2
    · simp [tagDt, e] at hi; exact h.lt hl i hi

theorem do_fin {w w1 w2 w3 : World} {B : Nat} {tag tag1 : Tags} {st : St} {M1 M2 n2 : Nat} {wv wv' : Value} {fv : Option Nat} {f1 f1' f2 : ByteArray → Option Value} {l : List (Chg × Value)} {c : Chg} {k fi na of dv : Value}
    (h : Inv w B tag st M1 M2 wv fv f1 f2 l n2) (hv : c.vals dv = #[k, fi, na, of, dv]) (hpre : c.pre w tag dv)
    (hst : Step w w1 tag tag1 (fun t => t = .m1 ∨ ∃ s, t = .r1 s)) (hmap : MapIs w1 M1 (st.cnt + 1) f1') (hfiles : Files w1 tag1 .r1 f1' (c.run st.seen)) (htM : tag1 M1 = some .m1)
    (hg2 : w1.grownBy w2 none) (hg3 : w2.grownBy w3 wv.ownBlock) (hown : w3.ownsRow 0 155 5 wv' (l.length + 1) ((l.flatMap fun p => (p.1.vals p.2).toList) ++ [k, fi, na, of, dv]))
    (hblk : wv'.ownBlock = wv.ownBlock ∨ ∃ g, wv'.ownBlock = some g ∧ w2.heap.size ≤ g) (hlt1 : ∀ i, tag1 i ≠ none → i < w1.heap.size) :
    ∃ tagA, Inv (w3.setCell ⟨B, 2, none⟩ wv') B (tagDt dv tagA) { st with seen := c.run st.seen, waits := st.waits ++ [c], cnt := st.cnt + 1 } M1 M2 wv' fv f1' f2 (l ++ [(c, dv)]) n2 ∧ Step w (w3.setCell ⟨B, 2, none⟩ wv') tag tagA (fun _ => True) := by
  have hBlt : B < w.heap.size := (Array.getElem?_eq_some_iff.1 h.cell).1
  have kB := hst.keep hBlt h.tB (by simp)
  have k2 := hst.keep h.map2.lt h.t2 (by simp)
  have hW1 := h.waits.step hst (by simp) (by simp)
  have hwt : ∀ g, wv.ownBlock = some g → tag1 g = some .wt := hW1.2.2
  have hBlt1 : B < w1.heap.size := Nat.lt_of_lt_of_le hBlt hst.size
  have s12 : Step w1 w2 tag1 tag1 (fun t => t = .wt ∨ t = .wd) := Step.grown hg2 _ _
  have s23 : Step w2 w3 tag1 tag1 (fun t => t = .wt ∨ t = .wd) := by
    cases hb : wv.ownBlock with
    | none => rw [hb] at hg3; exact Step.grown hg3 _ _
    | some g => rw [hb] at hg3; exact Step.turned hg3 _ (hwt g hb) (.inl rfl)
  have s13 := s12.trans s23
  obtain ⟨tagA, htagA⟩ : ∃ tagA : Tags, tagA = fun i => if wv'.ownBlock = some i then some .wt else tag1 i := ⟨_, rfl⟩
  have s13A : Step w1 w3 tag1 tagA (fun t => t = .wt ∨ t = .wd) := by
    rcases hblk with hb | ⟨g, hb, hge⟩
    · have : tagA = tag1 := by
        rw [htagA]; funext i
        by_cases e : wv'.ownBlock = some i
        · rw [if_pos e]; rw [hb] at e; exact (hwt i e).symm
        · rw [if_neg e]
      rw [this]; exact s13
    · have hgl : g < w3.heap.size := (hown.lt g hb).2
      have : tagA = fun i => if i = g then some .wt else tag1 i := by
        rw [htagA]; funext i
        by_cases e : i = g
        · subst e; simp [hb]
        · have e' : ¬ g = i := fun h => e h.symm
          simp [hb, e, e']
      rw [this]
      exact s13.tagged g (Nat.le_trans hg2.size hge) hgl (.inl rfl) hlt1
  have hne : ∀ i t, tag1 i = some t → t ≠ .wt → wv'.ownBlock ≠ some i := by
    intro i t ht hn e
    rcases hblk with hb | ⟨g, hb, hge⟩
    · rw [hb] at e; have := hwt i e; rw [ht] at this; cases this; exact hn rfl
    · rw [hb] at e; cases e; have := hlt1 _ (by rw [ht]; simp); have := hg2.size; omega
  have hAB : tagA B = some .wd := by
    rw [htagA]; simp [hne B .wd kB.2 (by simp), kB.2]
  have s34 : Step w3 (w3.setCell ⟨B, 2, none⟩ wv') tagA tagA (fun t => t = .wt ∨ t = .wd) := Step.turned (grown_setCell w3 B 2 wv') _ hAB (.inr rfl)
  have sA := s13A.trans s34
  have hdv : ∀ g, dv.ownBlock = some g → g < w.heap.size ∧ tag g = none := by
    obtain ⟨two, three, s, t, off, ds⟩ := c
    cases two with
    | false => exact hpre.2.2.2
    | true =>
      cases three with
      | false => intro g hg; rw [hpre.2.2] at hg; simp [Value.ownBlock] at hg
      | true => intro g hg; rw [hpre.2] at hg; simp [Value.ownBlock] at hg
  have hAn : ∀ g, dv.ownBlock = some g → tagA g = none := by
    intro g hg
    have h1 := hst.bare g (hdv g hg).1 (hdv g hg).2
    exact sA.bare g (Nat.lt_of_lt_of_le (hdv g hg).1 hst.size) h1
  have hext : Ext tagA (tagDt dv tagA) := by
    intro i t ht
    by_cases e : dv.ownBlock = some i
    · rw [hAn i e] at ht; cases ht
    · simp [tagDt, e, ht]
  have hdblk : ∀ g, dv.ownBlock = some g → (w3.setCell ⟨B, 2, none⟩ wv').heap[g]? = w.heap[g]? := by
    intro g hg
    have h1 := hst.bare g (hdv g hg).1 (hdv g hg).2
    rw [sA.block g (Nat.lt_of_lt_of_le (hdv g hg).1 hst.size) (by simp [h1]), hst.block g (hdv g hg).1 (by simp [(hdv g hg).2])]
  have keepA : ∀ i t, i < w1.heap.size → tag1 i = some t → t ≠ .wt → t ≠ .wd → (w3.setCell ⟨B, 2, none⟩ wv').heap[i]? = w1.heap[i]? ∧ tagDt dv tagA i = some t := by
    intro i t hi ht h1 h2
    have := sA.keep hi ht (by simp [h1, h2])
    exact ⟨this.1, hext _ _ this.2⟩
  have hcell3 : w3.heap[B]? = some (.cells (wdCells M1 M2 wv fv st.ops) 69 (0, 0)) := by
    have hb1 : w1.heap[B]? = some (.cells (wdCells M1 M2 wv fv st.ops) 69 (0, 0)) := kB.1.trans h.cell
    have hb2 := (hg2.block B hBlt1 (by simp)).trans hb1
    rw [hg3.block B (Nat.lt_of_lt_of_le hBlt1 hg2.size) (fun e => by have := hwt B e.symm; rw [kB.2] at this; cases this)]
    exact hb2
  have hwl : ∀ p ∈ l, p.1.ok (w3.setCell ⟨B, 2, none⟩ wv') (tagDt dv tagA) p.2 := fun p hp => ((hW1.1 p hp).step sA (by simp)).ext hext
  refine ⟨tagA, ?_, (hst.weaken (fun _ _ => trivial)).trans (sA.weaken (fun _ _ => trivial))⟩
  exact {
    cell := by rw [setCell_own w3 B 2 wv' _ _ hcell3]; simp [wdCells]
    tB := hext _ _ hAB
    t1 := (keepA M1 .m1 (hmap.lt) htM (by simp) (by simp)).2
    t2 := (keepA M2 .m2 (Nat.lt_of_lt_of_le h.map2.lt hst.size) k2.2 (by simp) (by simp)).2
    map1 := hmap.of_block (keepA M1 .m1 (hmap.lt) htM (by simp) (by simp)).1
    map2 := (h.map2.of_block k2.1).of_block (keepA M2 .m2 (Nat.lt_of_lt_of_le h.map2.lt hst.size) k2.2 (by simp) (by simp)).1
    seen := (hfiles.step sA (by simp)).ext hext
    dur := ((h.dur.step hst (by simp)).step sA (by simp)).ext hext
    waits := by
      refine ⟨fun p hp => ?_, ?_, ?_⟩
      · rcases List.mem_append.1 hp with hp | hp
        · exact hwl p hp
        · simp only [List.mem_singleton] at hp
          subst hp
          obtain ⟨two, three, s, t, off, ds⟩ := c
          cases two with
          | false =>
            obtain ⟨h1, h2, hr, hf⟩ := hpre
            exact ⟨h1, h2, hr.of_block hdblk, fun g hg => by simp [tagDt, hg]⟩
          | true => cases three <;> exact hpre
      · have e1 : ((l ++ [(c, dv)]).flatMap fun p => (p.1.vals p.2).toList) = (l.flatMap fun p => (p.1.vals p.2).toList) ++ [k, fi, na, of, dv] := by
          rw [List.flatMap_append]; simp [hv]
        rw [e1]
        have e2 : (l ++ [(c, dv)]).length = l.length + 1 := by simp
        rw [e2]
        have hx := hown
        refine ⟨hx.1, ?_⟩
        rcases hx.2 with hn | ⟨g, cap, cur, hg, h0, hgg, rest⟩
        · exact .inl hn
        · refine .inr ⟨g, cap, cur, hg, h0, ?_, rest⟩
          rw [setCell_other w3 _ _ ?_]
          · exact hgg
          · intro e
            have e' : g = B := e
            exact hne B .wd kB.2 (by simp) (by rw [hg]; simp [Value.ownBlock, e'])
      · intro g hg
        exact hext _ _ (by rw [htagA]; simp [hg])
    l_eq := by rw [List.map_append, h.l_eq]; rfl
    fails := ((h.fails.step hst (by simp)).step sA (by simp)).ext hext
    lt := by
      have hl := sA.lt hlt1
      intro i hi
      by_cases e : dv.ownBlock = some i
      · exact Nat.lt_of_lt_of_le (hdv i e).1 (Nat.le_trans hst.size sA.size)
      · simp [tagDt, e] at hi; exact hl i hi
    opsLo := h.opsLo
    opsHi := by have := h.opsHi; show st.ops ≤ ((st.cnt + 1 : Nat) : Int); omega
    cnt2 := by have := h.cnt2; show n2 + (l ++ [(c, dv)]).length ≤ st.cnt + 1; simp; omega }

set_option maxRecDepth 100000 in
set_option maxHeartbeats 2000000 in
theorem do_any (w : World) (B : Nat) (tag : Tags) (st : St) (M1 M2 n2 : Nat) (wv : Value) (fv : Option Nat) (f1 f2 : ByteArray → Option Value) (l : List (Chg × Value))
    (h : Inv w B tag st M1 M2 wv fv f1 f2 l n2) (hc : st.cnt < 1099511627776) (c : Chg) (k fi na of dv : Value) (hv : c.vals dv = #[k, fi, na, of, dv]) (hap : Applies c dv) (hpre : c.pre w tag dv)
    (hone : ∀ u ∈ [k, fi, na, of, dv], u.oneCell' = true) :
    Calls Try.prog 93 #[.pointer (some ⟨B, 0, none⟩), .agg #[k, fi, na, of, dv]] w fun e w' => e = .returned (.tuple #[]) ∧
      ∃ tagA wv' f1', Inv w' B (tagDt dv tagA) { st with seen := c.run st.seen, waits := st.waits ++ [c], cnt := st.cnt + 1 } M1 M2 wv' fv f1' f2 (l ++ [(c, dv)]) n2 ∧ Step w w' tag tagA (fun _ => True) := by
  obtain ⟨w0, hw0⟩ : ∃ w0, w0 = w.alloc (.cells #[k, fi, na, of, dv] 155) := ⟨_, rfl⟩
  have hgr0 : w.grownBy w0 none := by rw [hw0]; exact World.grownBy_alloc w _ none
  obtain ⟨b0, hb0⟩ : ∃ b0, b0 = w.heap.size := ⟨_, rfl⟩
  have hh0 : w0.heap[b0]? = some (.cells #[k, fi, na, of, dv] 155 (0, 0)) := by rw [hw0, hb0]; exact heap_alloc_new w _
  have hI0 : Inv w0 B tag st M1 M2 wv fv f1 f2 l n2 := h.step (Step.grown hgr0 tag _)
  have hsz0 : w.heap.size < w0.heap.size := by rw [hw0]; simp
  have htb0 : tag b0 = none := by
    cases hh : tag b0 with
    | none => rfl
    | some t => have := h.lt b0 (by rw [hh]; simp); omega
  have one0 : k.oneCell' = true := hone k (by simp)
  have one1 : fi.oneCell' = true := hone fi (by simp)
  have one2 : na.oneCell' = true := hone na (by simp)
  have one3 : of.oneCell' = true := hone of (by simp)
  have one4 : dv.oneCell' = true := hone dv (by simp)
  have q0 : w0.cell? ⟨b0, 0, none⟩ = some k := by simp [World.cell?, hh0]
  have q1 : w0.cell? ⟨b0, 1, none⟩ = some fi := by simp [World.cell?, hh0]
  have q2 : w0.cell? ⟨b0, 2, none⟩ = some na := by simp [World.cell?, hh0]
  have q3 : w0.cell? ⟨b0, 3, none⟩ = some of := by simp [World.cell?, hh0]
  have q4 : w0.cell? ⟨b0, 4, none⟩ = some dv := by simp [World.cell?, hh0]
  obtain ⟨c0, c1, c2, c3, c4, c5, c6⟩ := hI0.at
  go_enter Try.func93, Try.ntmps93
  go_wp2
  rw [← hw0, ← hb0]
  replace hw0 := Kpt.mk hw0
  replace hb0 := Kpt.mk hb0
  refine wp_region_any (by kernel_rfl) ?_
  refine wpAny_of_C (C := fun W => W.cell? ⟨b0, 0, none⟩ = some k ∧ W.cell? ⟨b0, 1, none⟩ = some fi ∧ W.cell? ⟨b0, 2, none⟩ = some na ∧ W.cell? ⟨b0, 3, none⟩ = some of ∧ W.cell? ⟨b0, 4, none⟩ = some dv ∧ W.cell? ⟨B, 0, none⟩ = some (.map (some M1))) _ _ _ _ ?_
  refine wpAnyC_take 0 (.agg #[k, fi, na, of, dv]) rfl (by kernel_rfl) (by kernel_rfl) (by kernel_rfl) (fun _ _ _ h => h) (by rfl) (fun W ⟨p0, p1, p2, p3, p4, p5⟩ => by clear q0 q1 q2 q3 q4 c0 c1 c2 c3 c4 c5 c6; go_simp) ?_
  refine wpAnyC_take 1 (.pointer (some ⟨B, 0, none⟩)) rfl (by kernel_rfl) (by kernel_rfl) (by kernel_rfl) (fun _ _ _ h => h) (by rfl) (fun W _ => by go_simp) ?_
  refine wpAnyC_take 2 (.pointer (some ⟨B, 0, none⟩)) rfl (by kernel_rfl) (by kernel_rfl) (by kernel_rfl) (fun _ _ _ h => h) (by rfl) (fun W ⟨p0, p1, p2, p3, p4, p5⟩ => by clear q0 q1 q2 q3 q4 c0 c1 c2 c3 c4 c5 c6; go_simp) ?_
  refine wpAnyC_take 3 (.pointer (some ⟨B, 0, none⟩)) rfl (by kernel_rfl) (by kernel_rfl) (by kernel_rfl) (fun _ _ _ h => h) (by rfl) (fun W _ => by go_simp) ?_
  refine wpAnyC_take 4 (.map (some M1)) rfl (by kernel_rfl) (by kernel_rfl) (by kernel_rfl) (fun _ _ _ h => h) (by rfl) (fun W ⟨p0, p1, p2, p3, p4, p5⟩ => by clear q0 q1 q2 q3 q4 c0 c1 c2 c3 c4 c5 c6; go_simp) ?_
  change wpAnyC _ _ _ _ _ _ _ _ w0.drew
  refine wpAnyC_one 5 ⟨q0, q1, q2, q3, q4, c0⟩ rfl (by kernel_rfl) (by rfl) (fun K hK => ?_)
  go_simp
  rw [← hv]
  have hpre0 : c.pre w0.drew tag dv := by
    clear hv hap hone
    obtain ⟨two, three, s, t, off, ds⟩ := c
    cases two with
    | false =>
      obtain ⟨h1, h2, hr, hf⟩ := hpre
      exact ⟨h1, h2, hr.of_block (fun g hg => hgr0.block g (hf g hg).1 (by simp)), fun g hg => ⟨Nat.lt_trans (hf g hg).1 hsz0, (hf g hg).2⟩⟩
    | true => cases three <;> exact hpre
  refine (hap w0.drew tag .r1 .m1 M1 st.cnt f1 st.seen (fun a b e => by injection e) (fun a e => by cases e) (fun a e => by cases e) h.t1 (fun i hi => Nat.lt_trans (h.lt i hi) hsz0) hI0.map1 hI0.seen hc (.inl hpre0)).mono ?_
  rintro e w1 ⟨rfl, tag1, f1', ha⟩
  have hsB : w0.heap.size ≤ w1.heap.size := ha.step.size
  have kB := ha.step.keep (t := .wd) (i := B) (show B < w0.drew.heap.size from (Array.getElem?_eq_some_iff.1 hI0.cell).1) h.tB (by simp)
  have kb0 : w1.heap[b0]? = w0.heap[b0]? := ha.step.block b0 (by show b0 < w0.heap.size; have := hb0.out; omega) (by simp [htb0])
  have e0 : w1.cell? ⟨b0, 0, none⟩ = some k := (World.cell?_of_block (a := ⟨b0, 0, none⟩) kb0).trans q0
  have e1 : w1.cell? ⟨b0, 1, none⟩ = some fi := (World.cell?_of_block (a := ⟨b0, 1, none⟩) kb0).trans q1
  have e2 : w1.cell? ⟨b0, 2, none⟩ = some na := (World.cell?_of_block (a := ⟨b0, 2, none⟩) kb0).trans q2
  have e3 : w1.cell? ⟨b0, 3, none⟩ = some of := (World.cell?_of_block (a := ⟨b0, 3, none⟩) kb0).trans q3
  have e4 : w1.cell? ⟨b0, 4, none⟩ = some dv := (World.cell?_of_block (a := ⟨b0, 4, none⟩) kb0).trans q4
  have d0 : w1.cell? ⟨B, 0, none⟩ = some (.map (some M1)) := (World.cell?_of_block (a := ⟨B, 0, none⟩) kB.1).trans c0
  have d2 : w1.cell? ⟨B, 2, none⟩ = some wv := (World.cell?_of_block (a := ⟨B, 2, none⟩) kB.1).trans c2
  have hcellB : w1.heap[B]? = some (.cells (wdCells M1 M2 wv fv st.ops) 69 (0, 0)) := kB.1.trans hI0.cell
  have hbB : b0 ≠ B := fun e => by rw [e, h.tB] at htb0; cases htb0
  replace hcellB := Kpt.mk hcellB
  replace kB := Kpt.mk kB
  replace kb0 := Kpt.mk kb0
  have hv' := Kpt.mk hv
  replace hh0 := Kpt.mk hh0
  dsimp only
  refine hK _ _ ?_
  clear hK K
  refine wpAnyC_done ⟨e0, e1, e2, e3, e4, d0⟩ (by kernel_rfl) ?_
  clear q0 q1 q2 q3 q4 c0 c1 c2 c3 c4 c5 c6 hv
  go_wp2
  refine wp_region_any (by kernel_rfl) ?_
  refine wpAny_of_C (C := fun W => W.cell? ⟨b0, 0, none⟩ = some k ∧ W.cell? ⟨b0, 1, none⟩ = some fi ∧ W.cell? ⟨b0, 2, none⟩ = some na ∧ W.cell? ⟨b0, 3, none⟩ = some of ∧ W.cell? ⟨b0, 4, none⟩ = some dv) _ _ _ _ ?_
  refine wpAnyC_take 0 (.pointer (some ⟨B, 0, none⟩)) rfl (by kernel_rfl) (by kernel_rfl) (by kernel_rfl) (fun _ _ _ h => h) (by rfl) (fun W _ => by go_simp) ?_
  refine wpAnyC_take 1 (.pointer (some ⟨B, 0, none⟩)) rfl (by kernel_rfl) (by kernel_rfl) (by kernel_rfl) (fun _ _ _ h => h) (by rfl) (fun W _ => by go_simp) ?_
  refine wpAnyC_take 2 (.pointer (some ⟨B, 0, none⟩)) rfl (by kernel_rfl) (by kernel_rfl) (by kernel_rfl) (fun _ _ _ h => h) (by rfl) (fun W _ => by go_simp) ?_
  refine wpAnyC_take 3 (.pointer (some ⟨B, 2, none⟩)) rfl (by kernel_rfl) (by kernel_rfl) (by kernel_rfl) (fun _ _ _ h => h) (by rfl) (fun W _ => by go_simp) ?_
  refine wpAnyC_take 5 (.agg #[k, fi, na, of, dv]) rfl (by kernel_rfl) (by kernel_rfl) (by kernel_rfl) (fun _ _ _ h => h) (by rfl) (fun W ⟨p0, p1, p2, p3, p4⟩ => by clear e0 e1 e2 e3 e4 d0 d2; go_simp) ?_
  change wpAnyC _ _ _ _ _ _ _ _ w1.drew
  have hst01 : Step w w1 tag tag1 (fun t => t = .m1 ∨ ∃ s, t = .r1 s) := by
    have hgr0' : w.grownBy w0.drew none := ⟨hgr0.os, hgr0.tape, hgr0.output, hgr0.size, hgr0.block⟩
    exact (Step.grown hgr0' tag _).trans ha.step
  have hW1 := h.waits.step hst01 (by simp) (by simp)
  obtain ⟨w2, hw2⟩ : ∃ w2, w2 = (w1.alloc (.cells #[k, fi, na, of, dv] 155)).drew := ⟨_, rfl⟩
  obtain ⟨b2, hb2⟩ : ∃ b2, b2 = w1.heap.size := ⟨_, rfl⟩
  have hgr2 : w1.grownBy w2 none := by
    rw [hw2]; have := World.grownBy_alloc w1 (.cells #[k, fi, na, of, dv] 155) none; exact ⟨this.os, this.tape, this.output, this.size, this.block⟩
  have hh2 : w2.heap[b2]? = some (.cells #[k, fi, na, of, dv] 155 (0, 0)) := by rw [hw2, hb2]; exact heap_alloc_new w1 _
  have hown2 : w2.ownsRow 0 155 5 wv l.length (l.flatMap fun p => (p.1.vals p.2).toList) := hW1.2.1.kept hgr2 (by cases wv.ownBlock <;> simp)
  obtain ⟨wv', w3, hrun, hown3, hg3, hblk, hone'⟩ := run_append_chg w2 wv l.length _ hown2 ⟨b2, 0, none⟩ 1 [k, fi, na, of, dv] rfl (by
    intro j u hj
    rw [Go.WideShapes.add_plain]
    simp only [World.cell?, hh2, Nat.zero_add]
    simpa using hj) hone (by have := h.cnt2; omega)
  obtain ⟨aw, nw, cw, rfl⟩ : ∃ a n c, wv' = .slice a n c := by
    rcases hown3.2 with ⟨rfl, _⟩ | ⟨g, cap, cur, rfl, _⟩
    · exact ⟨_, _, _, rfl⟩
    · exact ⟨_, _, _, rfl⟩
  have hlt1 := ha.lt
  have hfin := do_fin h hv'.out hpre hst01 ha.map ha.files ha.tM hgr2 hg3 hown3 hblk hlt1
  have hbne : wv.ownBlock ≠ some b0 := fun e => by
    have h1 := h.waits.2.2 b0 e
    rw [htb0] at h1; cases h1
  have hBlt1 : B < w1.heap.size := (Array.getElem?_eq_some_iff.1 hcellB.out).1
  have hwB : wv.ownBlock ≠ some B := fun e => by
    have h1 := h.waits.2.2 B e
    rw [h.tB] at h1; cases h1
  have r0 : w2.cell? ⟨b0, 0, none⟩ = some k := hgr2.cell (a := ⟨b0, 0, none⟩) e0 (by simp)
  have r1 : w2.cell? ⟨b0, 1, none⟩ = some fi := hgr2.cell (a := ⟨b0, 1, none⟩) e1 (by simp)
  have r2 : w2.cell? ⟨b0, 2, none⟩ = some na := hgr2.cell (a := ⟨b0, 2, none⟩) e2 (by simp)
  have r3 : w2.cell? ⟨b0, 3, none⟩ = some of := hgr2.cell (a := ⟨b0, 3, none⟩) e3 (by simp)
  have r4 : w2.cell? ⟨b0, 4, none⟩ = some dv := hgr2.cell (a := ⟨b0, 4, none⟩) e4 (by simp)
  have s0 : w3.cell? ⟨b0, 0, none⟩ = some k := hg3.cell (a := ⟨b0, 0, none⟩) r0 (fun e => hbne e.symm)
  have s1 : w3.cell? ⟨b0, 1, none⟩ = some fi := hg3.cell (a := ⟨b0, 1, none⟩) r1 (fun e => hbne e.symm)
  have s2 : w3.cell? ⟨b0, 2, none⟩ = some na := hg3.cell (a := ⟨b0, 2, none⟩) r2 (fun e => hbne e.symm)
  have s3 : w3.cell? ⟨b0, 3, none⟩ = some of := hg3.cell (a := ⟨b0, 3, none⟩) r3 (fun e => hbne e.symm)
  have s4 : w3.cell? ⟨b0, 4, none⟩ = some dv := hg3.cell (a := ⟨b0, 4, none⟩) r4 (fun e => hbne e.symm)
  have hB3 : w3.heap[B]? = some (.cells (wdCells M1 M2 wv fv st.ops) 69 (0, 0)) := by
    rw [hg3.block B (Nat.lt_of_lt_of_le hBlt1 hgr2.size) (fun e => hwB e.symm), hgr2.block B hBlt1 (by simp)]; exact hcellB.out
  have d2' : w2.cell? ⟨B, 2, none⟩ = some wv := hgr2.cell (a := ⟨B, 2, none⟩) d2 (by simp)
  have t2 : w3.cell? ⟨B, 2, none⟩ = some wv := by simp [World.cell?, hB3, wdCells]
  have tz : w3.frozen? ⟨B, 2, none⟩ = false := by simp [World.frozen?, hB3]
  have kb4 : (w3.setCell ⟨B, 2, none⟩ (.slice aw nw cw)).heap[b0]? = w3.heap[b0]? := setCell_other w3 _ _ hbB
  have u0 := (World.cell?_of_block (a := ⟨b0, 0, none⟩) kb4).trans s0
  have u1 := (World.cell?_of_block (a := ⟨b0, 1, none⟩) kb4).trans s1
  have u2 := (World.cell?_of_block (a := ⟨b0, 2, none⟩) kb4).trans s2
  have u3 := (World.cell?_of_block (a := ⟨b0, 3, none⟩) kb4).trans s3
  have u4 := (World.cell?_of_block (a := ⟨b0, 4, none⟩) kb4).trans s4
  replace hfin := Kpt.mk hfin
  replace hrun := Kpt.mk hrun
  have hC1 : Kpt (w1.drew.cell? ⟨b0, 0, none⟩ = some k ∧ w1.drew.cell? ⟨b0, 1, none⟩ = some fi ∧ w1.drew.cell? ⟨b0, 2, none⟩ = some na ∧ w1.drew.cell? ⟨b0, 3, none⟩ = some of ∧ w1.drew.cell? ⟨b0, 4, none⟩ = some dv) := ⟨e0, e1, e2, e3, e4⟩
  have hC2 : Kpt (w2.cell? ⟨b0, 0, none⟩ = some k ∧ w2.cell? ⟨b0, 1, none⟩ = some fi ∧ w2.cell? ⟨b0, 2, none⟩ = some na ∧ w2.cell? ⟨b0, 3, none⟩ = some of ∧ w2.cell? ⟨b0, 4, none⟩ = some dv) := ⟨r0, r1, r2, r3, r4⟩
  have hC3 : Kpt (w3.cell? ⟨b0, 0, none⟩ = some k ∧ w3.cell? ⟨b0, 1, none⟩ = some fi ∧ w3.cell? ⟨b0, 2, none⟩ = some na ∧ w3.cell? ⟨b0, 3, none⟩ = some of ∧ w3.cell? ⟨b0, 4, none⟩ = some dv) := ⟨s0, s1, s2, s3, s4⟩
  have hC4 : Kpt ((w3.setCell ⟨B, 2, none⟩ (.slice aw nw cw)).cell? ⟨b0, 0, none⟩ = some k ∧ (w3.setCell ⟨B, 2, none⟩ (.slice aw nw cw)).cell? ⟨b0, 1, none⟩ = some fi ∧ (w3.setCell ⟨B, 2, none⟩ (.slice aw nw cw)).cell? ⟨b0, 2, none⟩ = some na ∧ (w3.setCell ⟨B, 2, none⟩ (.slice aw nw cw)).cell? ⟨b0, 3, none⟩ = some of ∧ (w3.setCell ⟨B, 2, none⟩ (.slice aw nw cw)).cell? ⟨b0, 4, none⟩ = some dv) := ⟨u0, u1, u2, u3, u4⟩
  clear e0 e1 e2 e3 e4 r0 r1 r2 r3 r4 s0 s1 s2 s3 s4 u0 u1 u2 u3 u4 hh2 hB3 kb4 hown3 hown2 hW1 hst01 hone' d0
  refine wpAnyC_two 4 6 hC1.out rfl rfl (by kernel_rfl) (by rfl) (by rfl) (fun K hK => ?_) (fun K hK => ?_)
  · go_simp
    refine hK _ _ ?_
    clear hK K
    refine wpAnyC_one 6 hC1.out rfl (by kernel_rfl) (by rfl) (fun K hK => ?_)
    go_simp
    rw [← hw2, ← hb2]
    replace hw2 := Kpt.mk hw2
    replace hb2 := Kpt.mk hb2
    refine hK _ _ ?_
    clear hK K
    refine wpAnyC_one 7 hC2.out rfl (by kernel_rfl) (by rfl) (fun K hK => ?_)
    refine Lib.wp_append_run _ (.tmp 14) (.tmp 16) 67 67 rfl wv (.slice (some ⟨b2, 0, none⟩) 1 1) rfl rfl (.slice aw nw cw) w3 (hrun.out _) ?_
    refine hK _ _ ?_
    clear hK K
    refine wpAnyC_one 8 hC3.out rfl (by kernel_rfl) (by rfl) (fun K hK => ?_)
    go_simp
    refine hK _ _ ?_
    clear hK K
    refine wpAnyC_one 9 hC3.out rfl (by kernel_rfl) (by rfl) (fun K hK => ?_)
    go_simp
    refine hK _ _ ?_
    clear hK K
    refine wpAnyC_one 10 hC3.out rfl (by kernel_rfl) (by rfl) (fun K hK => ?_)
    go_simp
    refine hK _ _ ?_
    clear hK K
    refine wpAnyC_done hC4.out (by kernel_rfl) ?_
    go_wp2
    refine bodyPost_end (results_none rfl _ _ _) rfl ?_
    obtain ⟨tagA, hA1, hA2⟩ := hfin.out
    exact ⟨rfl, tagA, _, _, hA1, hA2⟩
  · go_simp
    rw [← hw2, ← hb2]
    replace hw2 := Kpt.mk hw2
    replace hb2 := Kpt.mk hb2
    refine hK _ _ ?_
    clear hK K
    refine wpAnyC_one 4 hC2.out rfl (by kernel_rfl) (by rfl) (fun K hK => ?_)
    go_simp
    refine hK _ _ ?_
    clear hK K
    refine wpAnyC_one 7 hC2.out rfl (by kernel_rfl) (by rfl) (fun K hK => ?_)
    refine Lib.wp_append_run _ (.tmp 14) (.tmp 16) 67 67 rfl wv (.slice (some ⟨b2, 0, none⟩) 1 1) rfl rfl (.slice aw nw cw) w3 (hrun.out _) ?_
    refine hK _ _ ?_
    clear hK K
    refine wpAnyC_one 8 hC3.out rfl (by kernel_rfl) (by rfl) (fun K hK => ?_)
    go_simp
    refine hK _ _ ?_
    clear hK K
    refine wpAnyC_one 9 hC3.out rfl (by kernel_rfl) (by rfl) (fun K hK => ?_)
    go_simp
    refine hK _ _ ?_
    clear hK K
    refine wpAnyC_one 10 hC3.out rfl (by kernel_rfl) (by rfl) (fun K hK => ?_)
    go_simp
    refine hK _ _ ?_
    clear hK K
    refine wpAnyC_done hC4.out (by kernel_rfl) ?_
    go_wp2
    refine bodyPost_end (results_none rfl _ _ _) rfl ?_
    obtain ⟨tagA, hA1, hA2⟩ := hfin.out
    exact ⟨rfl, tagA, _, _, hA1, hA2⟩
end Go.Proofs.Ytklboieemljmiaa

namespace Go.Proofs.Ytklboieemljmiaa
open Go.RowKit Go.Maps
set_option linter.unusedVariables false
set_option linter.unusedSimpArgs false

/-- A world behind a pointer. -/
def Wd (w : World) (B : Nat) (tag : Tags) (st : St) : Prop := ∃ M1 M2 wv fv f1 f2 l n2, Inv w B tag st M1 M2 wv fv f1 f2 l n2

theorem Wd.step {w w' : World} {B : Nat} {tag tag' : Tags} {st : St} (h : Wd w B tag st) (s : Step w w' tag tag' (fun _ => False)) : Wd w' B tag' st := by
  obtain ⟨M1, M2, wv, fv, f1, f2, l, n2, h⟩ := h
  exact ⟨M1, M2, wv, fv, f1, f2, l, n2, h.step s⟩

theorem Wd.lt {w : World} {B : Nat} {tag : Tags} {st : St} (h : Wd w B tag st) : ∀ i, tag i ≠ none → i < w.heap.size := by
  obtain ⟨M1, M2, wv, fv, f1, f2, l, n2, h⟩ := h
  exact h.lt

set_option maxRecDepth 100000 in
set_option maxHeartbeats 1000000 in
theorem write_any (w : World) (B : Nat) (tag : Tags) (st : St) (h : Wd w B tag st) (hc : st.cnt < 549755813888) (s : ByteArray) (h1 : 1 ≤ s.size) (h2 : s.size ≤ 32) (off : Nat) (dv : Value) (ds : List Int) (hrd : RdAt w dv ds)
    (hdt : ds ≠ [] → ∀ g, dv.ownBlock = some g → tag g = none) (ho : off + ds.length ≤ 1048576) :
    Calls Try.prog 87 #[.pointer (some ⟨B, 0, none⟩), .string s, .int .i64 (off : Int), dv] w fun e w' => e = .returned (.int .i64 (if st.fails st.ops then 6 else 0)) ∧
      ∃ tag', Wd w' B tag' (if st.fails st.ops then { st with ops := st.ops + 1, cnt := st.cnt + 1 } else { st with seen := (Chg.wr s off ds).run st.seen, waits := st.waits ++ [.wr s off ds], ops := st.ops + 1, cnt := st.cnt + 2 }) ∧ Step w w' tag tag' (fun _ => True) := by
  obtain ⟨M1, M2, wv, fv, f1, f2, l, n2, h⟩ := h
  obtain ⟨a, c, rfl, hn⟩ := rd_shape hrd
  have hcl := call_any w B tag st M1 M2 n2 wv fv f1 f2 l h (by omega)
  obtain ⟨p, hp⟩ : ∃ p, p = st.fails st.ops := ⟨_, rfl⟩
  rw [← hp] at hcl ⊢
  have H1 : ¬ ((off : Int) < 0) := by omega
  have H2 : ¬ ((1048576 : Int) - (ds.length : Int) < (off : Int)) := by omega
  have hBt := h.tB
  cases p
  · simp only [Bool.false_eq_true, if_false] at hcl ⊢
    -- the clone is new memory
    have key : ∀ w1, Inv w1 B tag { st with ops := st.ops + 1, cnt := st.cnt + 1 } M1 M2 wv fv f1 f2 l n2 → w.grownBy w1 (some B) → RdAt w1 (.slice a ds.length c) ds := by
      intro w1 hI hg
      by_cases h0 : ds.length = 0
      · obtain ⟨a', c', hx, h1, h2, _⟩ := hrd
        exact ⟨a', c', hx, h1, h2, .inl h0⟩
      · exact hrd.of_block (fun g hg' => hg.block g (hrd.lt (by omega) hg') (fun e => by cases e; have := hdt (fun e => h0 (by rw [e]; rfl)) B hg'; rw [hBt] at this; cases this))
    have key2 : ∀ (w1 w2 : World) (v' : Value), Inv w1 B tag { st with ops := st.ops + 1, cnt := st.cnt + 1 } M1 M2 wv fv f1 f2 l n2 → Row w2 v' ds → w1.grownBy w2 none → (∀ g, v'.ownBlock = some g → w1.heap.size ≤ g) → 
        Inv w2 B tag { st with ops := st.ops + 1, cnt := st.cnt + 1 } M1 M2 wv fv f1 f2 l n2 ∧ (Chg.wr s off ds).pre w2 tag v' ∧ ∀ u ∈ [Value.int .i64 0, .string s, .string ⟨#[]⟩, .int .i64 (off : Int), v'], u.oneCell' = true := by
      intro w1 w2 v' hI hr hg hnew
      refine ⟨hI.step (Step.grown hg _ _), ⟨h2, ho, hr, fun g hg' => ⟨hr.lt hg', ?_⟩⟩, ?_⟩
      · cases hh : tag g with
        | none => rfl
        | some t => have := hI.lt g (by rw [hh]; simp); have := hnew g hg'; omega
      · obtain ⟨a', c', hx, _⟩ := hr.rd
        simp [hx, Value.oneCell']
    replace key := Kpt.mk key
    replace key2 := Kpt.mk key2
    have hI := Kpt.mk h
    replace hrd := Kpt.mk hrd
    replace hdt := Kpt.mk hdt
    clear h hp
    go_enter Try.func87, Try.ntmps87
    go_wp2_with (first
      | (go_at_call 68; refine (named_ok s _ h1 h2).mono ?_; rintro e w' ⟨rfl, hw'⟩; rw [hw'])
      | (go_at_call 69; refine hcl.mono ?_; rintro e w1 ⟨rfl, hI1, hg1⟩)
      | (go_at_call 94; refine (clone_any _ (.slice a ds.length c) ds (key.out _ hI1 hg1) (by omega)).mono ?_; rintro e w2 ⟨v', rfl, hr2, hg2, hnew2⟩; obtain ⟨a', c', rfl, _⟩ := rd_shape hr2.rd)
      | (go_at_call 93; refine (do_any _ B tag _ M1 M2 n2 wv fv f1 f2 l (key2.out _ _ _ hI1 hr2 hg2 hnew2).1 (by show st.cnt + 1 < 1099511627776; omega) (.wr s off ds) (.int .i64 0) (.string s) (.string ⟨#[]⟩) (.int .i64 (off : Int)) (.slice a' ds.length c') rfl (applies_wr s off ds _) (key2.out _ _ _ hI1 hr2 hg2 hnew2).2.1 (key2.out _ _ _ hI1 hr2 hg2 hnew2).2.2).mono ?_; rintro e w3 ⟨rfl, tagA, wv', f1', hI3, hs3⟩))
    go_ret
    refine ⟨rfl, tagDt (.slice a' ds.length c') tagA, ⟨M1, M2, wv', fv, f1', f2, _, n2, hI3⟩, ?_⟩
    have st1 : Step w w1 tag tag (fun _ => True) := Step.turned hg1 tag hBt trivial
    exact ((st1.trans (Step.grown hg2 _ _)).trans hs3).retag (fun g hg => ⟨Nat.le_trans st1.size (hnew2 g hg), Nat.lt_of_lt_of_le (hr2.lt hg) hs3.size⟩)
  · simp only [if_true] at hcl ⊢
    clear h hp
    go_enter Try.func87, Try.ntmps87
    go_wp2_with (first
      | (go_at_call 68; refine (named_ok s _ h1 h2).mono ?_; rintro e w' ⟨rfl, hw'⟩; rw [hw'])
      | (go_at_call 69; refine hcl.mono ?_; rintro e w1 ⟨rfl, hI1, hg1⟩))
    go_ret
    exact ⟨rfl, tag, ⟨M1, M2, wv, fv, f1, f2, l, n2, hI1⟩, Step.turned hg1 tag hBt trivial⟩
end Go.Proofs.Ytklboieemljmiaa

namespace Go.Proofs.Ytklboieemljmiaa
open Go.RowKit Go.Maps
set_option linter.unusedVariables false
set_option linter.unusedSimpArgs false

theorem made_u8 (n : Nat) : (madeCells (Value.int .u8 0).cells (n * 1)).toList = cels (List.replicate n 0) := by
  have : madeCells (Value.int .u8 0).cells (n * 1) = (cels (List.replicate n 0)).toArray := by
    apply Array.ext
    · simp [madeCells]
    · intro i h1 h2
      simp [madeCells, Value.cells, cels]
      have : i % 1 = 0 := by omega
      simp [this]
  rw [this]

/-- A row that was made, filled off a row that is as long, or longer. -/
theorem wpList_copy_fill {w : World} {ops : Array Oper} {rest : List Oper} {o : Oper} {a : Act} {Q : Exit → Act → World → Prop} (hgd : o.guard = none) (d s : Operand)
    (ho : o.op = .call { callee := .builtin .copy, args := #[d, s], argTypes := #[22, 22] })
    (g n : Nat) (hd : a.eval d = .slice (some ⟨g, 0, none⟩) n n) (zs : List Int) (hz : zs.length = n) (hrow : Row w (.slice (some ⟨g, 0, none⟩) n n) zs)
    (sv : Value) (ds : List Int) (hs : a.eval s = sv) (hrd : RdAt w sv ds) (hfit : n ≤ ds.length)
    (h : ∀ w', Row w' (.slice (some ⟨g, 0, none⟩) n n) (ds.take n) → w.grownBy w' (some g) → wpList Try.prog ops Q rest (a.put o.dst (goInt n)) w') : wpList Try.prog ops Q (o :: rest) a w := by
  obtain ⟨sa, sc, rfl, hsn, hsl, hsr⟩ := hrd
  subst hz
  have hl : (ds.take zs.length).length = zs.length := by simp; omega
  by_cases h0 : zs.length = 0
  · refine wpList_copy_nothing hgd d s 22 22 ho 5 Try.underlying22 Try.size5 _ sa _ _ ds.length sc hd hs (by rw [h0]; simp) ?_
    have e : zs = [] := List.eq_nil_of_length_eq_zero h0
    have := h w (by rw [h0]; simp; subst e; exact hrow) ⟨rfl, rfl, rfl, Nat.le_refl _, fun _ _ _ => rfl⟩
    rw [h0] at this
    exact this
  · rcases hsr with h1 | ⟨b, soff, rfl, hc⟩
    · omega
    · rcases hrow.2 with ⟨hx, _⟩ | ⟨g', cap', cur, hx, hbg, hg, hnc, hcm, hcs, htake⟩
      · cases hx
      · simp only [Value.slice.injEq, Option.some.injEq, Addr.mk.injEq, and_true, true_and] at hx
        obtain ⟨rfl, rfl⟩ := hx
        refine wpList_copy_own hgd d s 22 22 ho 5 Try.underlying22 Try.size5 g 0 zs.length zs.length ⟨b, soff, none⟩ ds.length sc hd hs cur 5 hg (cels (ds.take zs.length)) ?_ ?_ ?_ (cels_one _) ?_
        · simp only [cels_length, hl]; show zs.length = Nat.min ds.length zs.length; exact (Nat.min_eq_right hfit).symm
        · intro j u hu
          rw [Go.WideShapes.add_plain]
          refine hc j u ?_
          simp only [cels, List.map_take, List.getElem?_take] at hu
          split at hu
          · exact hu
          · cases hu
        · simp only [cels_length, hl]; omega
        · rw [cels_length, hl]
          refine h _ ⟨?_, .inr ⟨g, zs.length, _, ?_, Nat.zero_le _, setRow_heap w g cur _ 5 _ hg, ?_, hcm, ?_, ?_⟩⟩ ⟨rfl, rfl, rfl, by simp, fun j _ hk => setRow_other w g j _ (fun e => hk (by rw [e]))⟩
          · simp
          · rw [hl]
          · rw [hl]; exact Nat.le_refl _
          · simp [hl]; omega
          · rw [hl]
            simp only [List.take_zero, List.nil_append, Nat.zero_add, Nat.mul_one]
            rw [List.take_append_of_le_length (by simp [hl]), List.take_of_length_le (by simp [hl])]

/-- The cut 'p[off:]' of an owned row can be read. -/
theorem row_cut_rd {w : World} {a : Option Addr} {cap : Nat} {zs : List Int} (h : Row w (.slice a zs.length cap) zs) (off : Nat) (hoff : off ≤ zs.length) :
    ∃ dp dc, (∀ W : World, (Instr.slice 22 (.slice a zs.length cap) (some (.int .i64 (off : Int))) none none).run Try.prog W = .ok (.slice dp (zs.length - off) dc) W) ∧ RdAt w (.slice dp (zs.length - off) dc) (zs.drop off) ∧ (∀ g, (Value.slice dp (zs.length - off) dc).ownBlock = some g → (Value.slice a zs.length cap).ownBlock = some g) := by
  obtain ⟨i, hi, hz, hsize, hby⟩ := info_parts Try.info5
  refine ⟨if cap = off then a else a.map (·.add (off * 1)), cap - off, fun W => ?_, ?_, ?_⟩
  · have hel : Try.prog.underlying 22 = some (.slice (Try.prog.elem 22)) := by rw [show Try.prog.elem 22 = 5 from by kernel_rfl]; exact Try.underlying22
    rw [Go.run_slice_l (P := Try.prog) W 22 a zs.length cap hel .i64 (off : Int) (by omega) (by omega)]
    rw [show Try.prog.elem 22 = 5 from by kernel_rfl]
    simp [sizeOf, typeInfo, hi, hsize, Result.andThen, sliced]
  · rcases h.2 with ⟨hx, h0⟩ | ⟨g, cap', cur, hx, _, hg, hc, hm, _, _⟩
    · simp only [Value.slice.injEq] at hx; obtain ⟨rfl, _, rfl⟩ := hx
      have e : zs = [] := List.eq_nil_of_length_eq_zero h0
      subst e
      exact ⟨none, 0 - off, by simp, fun _ => ⟨by simp, by omega⟩, by simp, .inl (by simp)⟩
    · simp only [Value.slice.injEq] at hx
      obtain ⟨rfl, _, rfl⟩ := hx
      refine ⟨_, _, by rw [List.length_drop], ?_, by simp; omega, ?_⟩
      · by_cases hco : cap = off <;> simp [hco]
      · by_cases hl : zs.length - off = 0
        · left; simp; omega
        · right
          refine ⟨g, off, ?_, fun j u hu => ?_⟩
          · have hco : ¬ cap = off := by omega
            simp [hco, Go.WideShapes.add_plain]
          · have := World.ownsRow.cells h (g := g) rfl (off + j) u (by
              simp only [cels, List.map_drop, List.getElem?_drop] at hu ⊢
              exact hu)
            rw [Go.WideShapes.add_plain] at this
            simpa using this
  · intro g hg
    cases a with
    | none => by_cases hco : cap = off <;> simp [hco, Value.ownBlock] at hg
    | some x =>
      by_cases hco : cap = off
      · simpa [hco, Value.ownBlock] using hg
      · rcases h.2 with ⟨hx, h0⟩ | ⟨g', cap', cur, hx, _⟩
        · cases hx
        · simp only [Value.slice.injEq, Option.some.injEq] at hx
          obtain ⟨rfl, _, rfl⟩ := hx
          simpa [hco, Value.ownBlock, Go.WideShapes.add_plain] using hg

theorem seen_look {w : World} {B : Nat} {tag : Tags} {st : St} {M1 M2 n2 : Nat} {wv : Value} {fv : Option Nat} {f1 f2 : ByteArray → Option Value} {l : List (Chg × Value)} (h : Inv w B tag st M1 M2 wv fv f1 f2 l n2)
    {s : ByteArray} (hs' : s.size ≤ 32) {zs : List Int} (hs : st.seen s = some zs) :
    ∃ a cap, (Instr.lookup 66 (.map (some M1)) (.string s) true).run Try.prog w = .ok (.tuple #[.slice a zs.length cap, .bool true]) w ∧ Row w (.slice a zs.length cap) zs ∧ ∀ g, (Value.slice a zs.length cap).ownBlock = some g → tag g = some (.r1 s) := by
  have := h.seen s
  rw [hs] at this
  obtain ⟨_, v, hf, hr, ht⟩ := this
  obtain ⟨a, cap, rfl, _⟩ := row_shape hr
  refine ⟨a, cap, ?_, hr, ht⟩
  rw [h.map1.look_ok (size32 hs'), hf]
  rfl

theorem seen_none {w : World} {B : Nat} {tag : Tags} {st : St} {M1 M2 n2 : Nat} {wv : Value} {fv : Option Nat} {f1 f2 : ByteArray → Option Value} {l : List (Chg × Value)} (h : Inv w B tag st M1 M2 wv fv f1 f2 l n2)
    {s : ByteArray} (hs' : s.size ≤ 32) (hs : st.seen s = none) :
    (Instr.lookup 66 (.map (some M1)) (.string s) true).run Try.prog w = .ok (.tuple #[.slice none 0 0, .bool false]) w := by
  have := h.seen s
  rw [hs] at this
  rw [h.map1.look_ok (size32 hs'), this]
  rfl

set_option maxRecDepth 100000 in
set_option maxHeartbeats 1000000 in
theorem read_ok (w : World) (B : Nat) (tag : Tags) (st : St) (h : Wd w B tag st) (hc : st.cnt < 549755813888) (hf : st.fails st.ops = false) (s : ByteArray) (h1 : 1 ≤ s.size) (h2 : s.size ≤ 32) (off n : Nat) (hn : n ≤ 1048576) (ho : off ≤ 1099511627776)
    (zs : List Int) (hs : st.seen s = some zs) :
    Calls Try.prog 52 #[.pointer (some ⟨B, 0, none⟩), .string s, .int .i64 (off : Int), .int .i64 (n : Int)] w fun e w' => ∃ v, e = .returned (.tuple #[v, .int .i64 0]) ∧
      Wd w' B tag { st with ops := st.ops + 1, cnt := st.cnt + 1 } ∧ Step w w' tag tag (fun _ => True) ∧ Row w' v ((zs.drop off).take n) ∧ ∀ g, v.ownBlock = some g → w.heap.size ≤ g := by
  obtain ⟨M1, M2, wv, fv, f1, f2, l, n2, h⟩ := h
  have hcl := call_any w B tag st M1 M2 n2 wv fv f1 f2 l h (by omega)
  rw [hf] at hcl
  simp only [Bool.false_eq_true, if_false] at hcl
  obtain ⟨i0, hi0, hz0, hz1, hz2⟩ := info_parts Try.info5
  have hzl : zs.length ≤ 1048576 := by have := h.seen s; rw [hs] at this; exact this.1
  obtain ⟨m, hm⟩ : ∃ m, m = min off zs.length := ⟨_, rfl⟩
  obtain ⟨q, hq⟩ : ∃ q, q = min n (zs.length - m) := ⟨_, rfl⟩
  have hml : m ≤ zs.length := by omega
  have hql : q ≤ 1048576 := by omega
  have H1 : ¬ ((off : Int) < 0) := by omega
  have H2 : ¬ ((n : Int) < 0) := by omega
  have hfin : (zs.drop m).take q = (zs.drop off).take n := by
    by_cases ho' : off ≤ zs.length
    · have : m = off := by omega
      subst this
      rw [hq]
      by_cases hn' : n ≤ zs.length - m
      · rw [Nat.min_eq_left hn']
      · rw [Nat.min_eq_right (by omega), List.take_of_length_le (by simp), List.take_of_length_le (by simp; omega)]
    · have : m = zs.length := by omega
      rw [this, List.drop_eq_nil_of_le (Nat.le_refl _), List.drop_eq_nil_of_le (by omega)]
      simp
  have hBt := h.tB
  obtain ⟨dl, hdl⟩ : ∃ dl, dl = zs.length - m := ⟨_, rfl⟩
  rw [← hdl] at hq
  have hA : (off ≤ zs.length ∧ m = off) ∨ (zs.length < off ∧ m = zs.length) := by omega
  have hB : (n ≤ dl ∧ q = n) ∨ (dl < n ∧ q = dl) := by omega
  have hqd : q ≤ (zs.drop m).length := by simp; omega
  replace hfin := Kpt.mk hfin
  clear hm hq h
  replace hs := Kpt.mk hs
  replace hqd := Kpt.mk hqd
  replace hdl := Kpt.mk hdl
  have hi0K := Kpt.mk hi0
  replace hz0 := Kpt.mk hz0
  replace hz1 := Kpt.mk hz1
  replace hz2 := Kpt.mk hz2
  clear hi0
  rcases hA with ⟨a1, e1⟩ | ⟨a1, e1⟩
  · rcases hB with ⟨b1, e2⟩ | ⟨b1, e2⟩
    · obtain rfl : off = m := e1.symm
      have A1 : (off : Int) ≤ (zs.length : Int) := by omega
      have A2 : ¬ ((zs.length : Int) < (off : Int)) := by omega
      obtain rfl : n = q := e2.symm
      have B1 : (n : Int) ≤ (dl : Int) := by omega
      have B2 : ¬ ((dl : Int) < (n : Int)) := by omega
      go_enter Try.func52, Try.ntmps52
      go_wp2_with (first
        | (go_at_call 68; refine (named_ok s _ h1 h2).mono ?_; rintro e w' ⟨rfl, hw'⟩; rw [hw'])
        | (go_at_call 69; refine hcl.mono ?_; rintro e w1 ⟨rfl, hI1, hg1⟩; have cB := hI1.at.1; obtain ⟨a, cap, hlook, hrow, hrt⟩ := seen_look hI1 h2 hs.out; obtain ⟨dp, dc, hcut, hrdp, hblk⟩ := row_cut_rd hrow off hml; rw [← hdl.out] at hcut hrdp hblk)
        | (at_make; refine wpList_make_full _ rfl _ _ 22 rfl 0 5 i0 (.int .u8 0) 1 Try.underlying22 hi0K.out hz0.out hz1.out .i64 .i64 _ _ n rfl rfl rfl rfl (by rw [hz2.out]; omega) (by unfold maxLen; omega) (Nat.zero_le _) ?_; intro w2 hown2 hg2; rw [made_u8] at hown2; replace hrdp := RdAt.of_block hrdp (fun g hg => hg2.block g (hrow.lt (hblk g hg)) (by simp)))
        | (refine wpList_copy_fill rfl _ _ rfl w1.heap.size n rfl (List.replicate n 0) (by simp) (by unfold Row; rw [List.length_replicate]; exact hown2) _ (zs.drop off) rfl hrdp hqd.out ?_; intro w3 hrow3 hg3))
      go_ret2
      have st1 : Step w w1 tag tag (fun _ => True) := Step.turned hg1 tag hBt trivial
      have hg13 : w1.grownBy w3 none := hg2.andThen hg3 (fun j hj => by cases hj; exact .inl (Nat.le_refl _))
      exact ⟨_, rfl, ⟨M1, M2, wv, fv, f1, f2, l, n2, hI1.step (Step.grown hg13 _ _)⟩, st1.trans (Step.grown hg13 _ _), (by first | exact hrow3 | exact hfin.out ▸ hrow3), fun g hg => by cases hg; exact st1.size⟩
    · obtain rfl : off = m := e1.symm
      have A1 : (off : Int) ≤ (zs.length : Int) := by omega
      have A2 : ¬ ((zs.length : Int) < (off : Int)) := by omega
      obtain rfl : dl = q := e2.symm
      have B1 : ¬ ((n : Int) ≤ (dl : Int)) := by omega
      have B2 : ((dl : Int) < (n : Int)) := by omega
      go_enter Try.func52, Try.ntmps52
      go_wp2_with (first
        | (go_at_call 68; refine (named_ok s _ h1 h2).mono ?_; rintro e w' ⟨rfl, hw'⟩; rw [hw'])
        | (go_at_call 69; refine hcl.mono ?_; rintro e w1 ⟨rfl, hI1, hg1⟩; have cB := hI1.at.1; obtain ⟨a, cap, hlook, hrow, hrt⟩ := seen_look hI1 h2 hs.out; obtain ⟨dp, dc, hcut, hrdp, hblk⟩ := row_cut_rd hrow off hml; rw [← hdl.out] at hcut hrdp hblk)
        | (at_make; refine wpList_make_full _ rfl _ _ 22 rfl 0 5 i0 (.int .u8 0) 1 Try.underlying22 hi0K.out hz0.out hz1.out .i64 .i64 _ _ dl rfl rfl rfl rfl (by rw [hz2.out]; omega) (by unfold maxLen; omega) (Nat.zero_le _) ?_; intro w2 hown2 hg2; rw [made_u8] at hown2; replace hrdp := RdAt.of_block hrdp (fun g hg => hg2.block g (hrow.lt (hblk g hg)) (by simp)))
        | (refine wpList_copy_fill rfl _ _ rfl w1.heap.size dl rfl (List.replicate dl 0) (by simp) (by unfold Row; rw [List.length_replicate]; exact hown2) _ (zs.drop off) rfl hrdp hqd.out ?_; intro w3 hrow3 hg3))
      go_ret2
      have st1 : Step w w1 tag tag (fun _ => True) := Step.turned hg1 tag hBt trivial
      have hg13 : w1.grownBy w3 none := hg2.andThen hg3 (fun j hj => by cases hj; exact .inl (Nat.le_refl _))
      exact ⟨_, rfl, ⟨M1, M2, wv, fv, f1, f2, l, n2, hI1.step (Step.grown hg13 _ _)⟩, st1.trans (Step.grown hg13 _ _), (by first | exact hrow3 | exact hfin.out ▸ hrow3), fun g hg => by cases hg; exact st1.size⟩
  · rcases hB with ⟨b1, e2⟩ | ⟨b1, e2⟩
    · obtain rfl : m = zs.length := e1
      have A1 : ¬ ((off : Int) ≤ (zs.length : Int)) := by omega
      have A2 : ((zs.length : Int) < (off : Int)) := by omega
      obtain rfl : n = q := e2.symm
      have B1 : (n : Int) ≤ (dl : Int) := by omega
      have B2 : ¬ ((dl : Int) < (n : Int)) := by omega
      go_enter Try.func52, Try.ntmps52
      go_wp2_with (first
        | (go_at_call 68; refine (named_ok s _ h1 h2).mono ?_; rintro e w' ⟨rfl, hw'⟩; rw [hw'])
        | (go_at_call 69; refine hcl.mono ?_; rintro e w1 ⟨rfl, hI1, hg1⟩; have cB := hI1.at.1; obtain ⟨a, cap, hlook, hrow, hrt⟩ := seen_look hI1 h2 hs.out; obtain ⟨dp, dc, hcut, hrdp, hblk⟩ := row_cut_rd hrow zs.length hml; rw [← hdl.out] at hcut hrdp hblk)
        | (at_make; refine wpList_make_full _ rfl _ _ 22 rfl 0 5 i0 (.int .u8 0) 1 Try.underlying22 hi0K.out hz0.out hz1.out .i64 .i64 _ _ n rfl rfl rfl rfl (by rw [hz2.out]; omega) (by unfold maxLen; omega) (Nat.zero_le _) ?_; intro w2 hown2 hg2; rw [made_u8] at hown2; replace hrdp := RdAt.of_block hrdp (fun g hg => hg2.block g (hrow.lt (hblk g hg)) (by simp)))
        | (refine wpList_copy_fill rfl _ _ rfl w1.heap.size n rfl (List.replicate n 0) (by simp) (by unfold Row; rw [List.length_replicate]; exact hown2) _ (zs.drop zs.length) rfl hrdp hqd.out ?_; intro w3 hrow3 hg3))
      go_ret2
      have st1 : Step w w1 tag tag (fun _ => True) := Step.turned hg1 tag hBt trivial
      have hg13 : w1.grownBy w3 none := hg2.andThen hg3 (fun j hj => by cases hj; exact .inl (Nat.le_refl _))
      exact ⟨_, rfl, ⟨M1, M2, wv, fv, f1, f2, l, n2, hI1.step (Step.grown hg13 _ _)⟩, st1.trans (Step.grown hg13 _ _), (by first | exact hrow3 | exact hfin.out ▸ hrow3), fun g hg => by cases hg; exact st1.size⟩
    · obtain rfl : m = zs.length := e1
      have A1 : ¬ ((off : Int) ≤ (zs.length : Int)) := by omega
      have A2 : ((zs.length : Int) < (off : Int)) := by omega
      obtain rfl : dl = q := e2.symm
      have B1 : ¬ ((n : Int) ≤ (dl : Int)) := by omega
      have B2 : ((dl : Int) < (n : Int)) := by omega
      go_enter Try.func52, Try.ntmps52
      go_wp2_with (first
        | (go_at_call 68; refine (named_ok s _ h1 h2).mono ?_; rintro e w' ⟨rfl, hw'⟩; rw [hw'])
        | (go_at_call 69; refine hcl.mono ?_; rintro e w1 ⟨rfl, hI1, hg1⟩; have cB := hI1.at.1; obtain ⟨a, cap, hlook, hrow, hrt⟩ := seen_look hI1 h2 hs.out; obtain ⟨dp, dc, hcut, hrdp, hblk⟩ := row_cut_rd hrow zs.length hml; rw [← hdl.out] at hcut hrdp hblk)
        | (at_make; refine wpList_make_full _ rfl _ _ 22 rfl 0 5 i0 (.int .u8 0) 1 Try.underlying22 hi0K.out hz0.out hz1.out .i64 .i64 _ _ dl rfl rfl rfl rfl (by rw [hz2.out]; omega) (by unfold maxLen; omega) (Nat.zero_le _) ?_; intro w2 hown2 hg2; rw [made_u8] at hown2; replace hrdp := RdAt.of_block hrdp (fun g hg => hg2.block g (hrow.lt (hblk g hg)) (by simp)))
        | (refine wpList_copy_fill rfl _ _ rfl w1.heap.size dl rfl (List.replicate dl 0) (by simp) (by unfold Row; rw [List.length_replicate]; exact hown2) _ (zs.drop zs.length) rfl hrdp hqd.out ?_; intro w3 hrow3 hg3))
      go_ret2
      have st1 : Step w w1 tag tag (fun _ => True) := Step.turned hg1 tag hBt trivial
      have hg13 : w1.grownBy w3 none := hg2.andThen hg3 (fun j hj => by cases hj; exact .inl (Nat.le_refl _))
      exact ⟨_, rfl, ⟨M1, M2, wv, fv, f1, f2, l, n2, hI1.step (Step.grown hg13 _ _)⟩, st1.trans (Step.grown hg13 _ _), (by first | exact hrow3 | exact hfin.out ▸ hrow3), fun g hg => by cases hg; exact st1.size⟩

set_option maxRecDepth 100000 in
set_option maxHeartbeats 1000000 in
theorem read_none (w : World) (B : Nat) (tag : Tags) (st : St) (h : Wd w B tag st) (hc : st.cnt < 549755813888) (hf : st.fails st.ops = false) (s : ByteArray) (h1 : 1 ≤ s.size) (h2 : s.size ≤ 32) (off n : Nat)
    (hs : st.seen s = none) :
    Calls Try.prog 52 #[.pointer (some ⟨B, 0, none⟩), .string s, .int .i64 (off : Int), .int .i64 (n : Int)] w fun e w' => e = .returned (.tuple #[.slice none 0 0, .int .i64 8]) ∧
      Wd w' B tag { st with ops := st.ops + 1, cnt := st.cnt + 1 } ∧ Step w w' tag tag (fun _ => True) := by
  obtain ⟨M1, M2, wv, fv, f1, f2, l, n2, h⟩ := h
  have hcl := call_any w B tag st M1 M2 n2 wv fv f1 f2 l h (by omega)
  rw [hf] at hcl
  simp only [Bool.false_eq_true, if_false] at hcl
  have H1 : ¬ ((off : Int) < 0) := by omega
  have H2 : ¬ ((n : Int) < 0) := by omega
  have hBt := h.tB
  replace hs := Kpt.mk hs
  clear h
  go_enter Try.func52, Try.ntmps52
  go_wp2_with (first
      | (go_at_call 68; refine (named_ok s _ h1 h2).mono ?_; rintro e w' ⟨rfl, hw'⟩; rw [hw'])
      | (go_at_call 69; refine hcl.mono ?_; rintro e w1 ⟨rfl, hI1, hg1⟩; have cB := hI1.at.1; have hlook := seen_none hI1 h2 hs.out))
  go_ret2
  exact ⟨rfl, ⟨M1, M2, wv, fv, f1, f2, l, n2, hI1⟩, Step.turned hg1 tag hBt trivial⟩

theorem waits_shape {w : World} {tag : Tags} {wv : Value} {l : List (Chg × Value)} (h : WaitsIs w tag wv l) : ∃ a c, wv = .slice a l.length c := by
  rcases h.2.1.2 with ⟨rfl, h0⟩ | ⟨g, cap, cur, rfl, _⟩
  · exact ⟨none, 0, by rw [h0]⟩
  · exact ⟨_, _, rfl⟩

theorem waits_any (w : World) (B : Nat) (tag : Tags) (st : St) (h : Wd w B tag st) :
    Calls Try.prog 17 #[.pointer (some ⟨B, 0, none⟩)] w fun e w' => e = .returned (.int .i64 (st.waits.length : Int)) ∧ w' = w := by
  obtain ⟨M1, M2, wv, fv, f1, f2, l, n2, h⟩ := h
  have cB := h.at.2.2.1
  obtain ⟨a, c, rfl⟩ := waits_shape h.waits
  have hl : l.length = st.waits.length := by rw [← h.l_eq]; simp
  clear h
  go_enter Try.func17, Try.ntmps17
  go_wp2
  go_ret
  exact ⟨rfl, rfl⟩

/-- The world of New. -/
def st0 : St := { seen := fun _ => none, dur := fun _ => none, waits := [], fails := fun _ => false, ops := 0, cnt := 0 }

theorem new_any (w : World) :
    Calls Try.prog 19 #[] w fun e w' => ∃ B tag, e = .returned (.pointer (some ⟨B, 0, none⟩)) ∧ Wd w' B tag st0 ∧ w.grownBy w' none ∧ (∀ i, i < w.heap.size → tag i = none) := by
  have hmm := @run_makeMap Try.prog
  go_enter Try.func19, Try.ntmps19
  go_wp2
  go_ret
  clear hmm
  obtain ⟨n, hn⟩ : ∃ n, n = w.heap.size := ⟨_, rfl⟩
  obtain ⟨wa, hwa⟩ : ∃ wa, wa = w.alloc (.map #[] 0) := ⟨_, rfl⟩
  obtain ⟨wb, hwb⟩ : ∃ wb, wb = wa.alloc (.map #[] 0) := ⟨_, rfl⟩
  obtain ⟨wc, hwc⟩ : ∃ wc, wc = wb.alloc (.cells (wdCells n (n + 1) (.slice none 0 0) none 0) 69) := ⟨_, rfl⟩
  have sa : wa.heap.size = n + 1 := by rw [hwa, hn]; simp
  have sb : wb.heap.size = n + 2 := by rw [hwb]; simp [sa]
  have sc : wc.heap.size = n + 3 := by rw [hwc]; simp [sb]
  have ga : w.grownBy wa none := by rw [hwa]; exact World.grownBy_alloc _ _ _
  have gb : wa.grownBy wb none := by rw [hwb]; exact World.grownBy_alloc _ _ _
  have gc : wb.grownBy wc none := by rw [hwc]; exact World.grownBy_alloc _ _ _
  have m1 : MapIs wc n 0 (fun _ => none) := by
    have h0 : MapIs wa n 0 (fun _ => none) := by rw [hwa, hn]; exact MapIs.made w
    exact (h0.of_block (gb.block n (by omega) (by simp))).of_block (gc.block n (by omega) (by simp))
  have m2 : MapIs wc (n + 1) 0 (fun _ => none) := by
    have h0 : MapIs wb (n + 1) 0 (fun _ => none) := by rw [hwb, ← sa]; exact MapIs.made wa
    exact h0.of_block (gc.block (n + 1) (by omega) (by simp))
  have hcell : wc.heap[n + 2]? = some (.cells (wdCells n (n + 1) (.slice none 0 0) none 0) 69 (0, 0)) := by rw [hwc, ← sb]; exact heap_alloc_new wb _
  have hfin : Wd wc (n + 2) (fun i => if i = n then some .m1 else if i = n + 1 then some .m2 else if i = n + 2 then some .wd else none) st0 := by
    refine ⟨n, n + 1, .slice none 0 0, none, (fun _ => none), (fun _ => none), [], 0, ?_⟩
    exact {
      cell := hcell
      tB := by simp
      t1 := by simp
      t2 := by simp
      map1 := m1
      map2 := m2
      seen := fun s => by simp [st0]
      dur := fun s => by simp [st0]
      waits := ⟨by simp, World.ownsRow_nil _ _ _ _, by simp [Value.ownBlock]⟩
      l_eq := rfl
      fails := fun x => rfl
      lt := fun i hi => by
        rw [sc]
        by_cases e1 : i = n
        · omega
        · by_cases e2 : i = n + 1
          · omega
          · by_cases e3 : i = n + 2
            · omega
            · simp [e1, e2, e3] at hi
      opsLo := by simp [st0]
      opsHi := by simp [st0]
      cnt2 := by simp [st0] }
  have e : ((w.alloc (.map #[] 0)).alloc (.map #[] 0)).alloc (.cells #[.map (some w.heap.size), .map (some (w.heap.size + 1)), .slice none 0 0, .map none, .int .i64 (-1), .int .i64 0, .bool false] 69) = wc := by
    rw [hwc, hwb, hwa, hn]; rfl
  rw [e]
  refine ⟨n + 2, _, by rw [hn]; rfl, hfin, (ga.andThen gb (by simp)).andThen gc (by simp), ?_⟩
  intro i hi
  rw [← hn] at hi
  have e1 : ¬ i = n := by omega
  have e2 : ¬ i = n + 1 := by omega
  have e3 : ¬ i = n + 2 := by omega
  simp [e1, e2, e3]
end Go.Proofs.Ytklboieemljmiaa

namespace Go.Proofs.Ytklboieemljmiaa
open Go.RowKit Go.Maps
set_option linter.unusedVariables false
set_option linter.unusedSimpArgs false

/-- All are writes. -/
def Wrs (l : List Chg) : Prop := ∀ c ∈ l, ∃ s off ds, c = .wr s off ds

def runs (l : List Chg) (F : FilesF) : FilesF := l.foldl (fun F c => c.run F) F
theorem runs_nil (F : FilesF) : runs [] F = F := rfl
theorem runs_append (a b : List Chg) (F : FilesF) : runs (a ++ b) F = runs b (runs a F) := by simp [runs]
theorem runs_one (c : Chg) (F : FilesF) : runs [c] F = c.run F := rfl
theorem runs_take_succ (l : List Chg) (F : FilesF) (j : Nat) (c : Chg) (h : l[j]? = some c) : runs (l.take (j + 1)) F = c.run (runs (l.take j) F) := by
  have : l.take (j + 1) = l.take j ++ [c] := by rw [List.take_add_one, h]; rfl
  rw [this, runs_append, runs_one]

theorem flat_at (l : List (Chg × Value)) (j i : Nat) (p : Chg × Value) (h : l[j]? = some p) (hi : i < 5) : (l.flatMap fun p => (p.1.vals p.2).toList)[5 * j + i]? = (p.1.vals p.2)[i]? := by
  induction l generalizing j with
  | nil => simp at h
  | cons q r ih =>
    have hq : (q.1.vals q.2).toList.length = 5 := by rw [Array.length_toList]; exact Chg.vals_size _ _
    cases j with
    | zero =>
      simp at h
      subst h
      rw [List.flatMap_cons, List.getElem?_append_left (by omega)]
      simp
    | succ j =>
      simp at h
      rw [List.flatMap_cons, List.getElem?_append_right (by omega), hq]
      have := ih j h
      rw [← this]
      congr 1
      omega

theorem cut_waits (a : Option Addr) (n cap k : Nat) (h0 : ∀ x, a = some x → x.off = 0 ∧ x.spot = none) (hk : k ≤ n) (hn : n ≤ cap) :
    ∀ W : World, (Instr.slice 67 (.slice a n cap) none (some (.int .i64 (k : Int))) none).run Try.prog W = .ok (.slice a k cap) W := by
  intro W
  obtain ⟨i, hi, hz, hsize, hby⟩ := info_parts Try.infoCHG
  have hel : Try.prog.underlying 67 = some (.slice (Try.prog.elem 67)) := by rw [show Try.prog.elem 67 = 155 from by kernel_rfl]; exact Try.underlying67
  rw [Go.run_slice_h (P := Try.prog) W 67 a n cap hel .i64 (k : Int) (by omega) (by omega)]
  rw [show Try.prog.elem 67 = 155 from by kernel_rfl]
  simp [sizeOf, typeInfo, hi, hsize, Result.andThen, sliced]
  cases a with
  | none => simp
  | some x =>
    obtain ⟨h1, h2⟩ := h0 x rfl
    intro _
    cases x with | mk b o s =>
    simp at h1 h2
    subst h1; subst h2
    simp [Go.WideShapes.add_plain]

theorem hard_step {w w0 w1 : World} {B : Nat} {tag tag1 : Tags} {st : St} {M1 M2 n2 : Nat} {wv : Value} {fv : Option Nat} {f1 f2 f2' : ByteArray → Option Value} {l : List (Chg × Value)} {F' : FilesF}
    (h : Inv w B tag st M1 M2 wv fv f1 f2 l n2) (hg : w.grownBy w0 none) (ha : Applied w0 w1 tag tag1 .r2 .m2 M2 (n2 + 1) F' f2') :
    Inv w1 B tag1 { st with dur := F', cnt := st.cnt + 1 } M1 M2 wv fv f1 f2' l (n2 + 1) ∧ Step w w1 tag tag1 (fun t => t = .m2 ∨ ∃ s, t = .r2 s) := by
  have s : Step w w1 tag tag1 (fun t => t = .m2 ∨ ∃ s, t = .r2 s) := (Step.grown hg tag _).trans ha.step
  refine ⟨?_, s⟩
  have kB := s.keep (Array.getElem?_eq_some_iff.1 h.cell).1 h.tB (by simp)
  have k1 := s.keep h.map1.lt h.t1 (by simp)
  exact {
    cell := kB.1.trans h.cell
    tB := kB.2
    t1 := k1.2
    t2 := ha.tM
    map1 := (h.map1.of_block k1.1).mono (Nat.le_succ _)
    map2 := ha.map
    seen := h.seen.step s (by simp)
    dur := ha.files
    waits := h.waits.step s (by simp) (by simp)
    l_eq := h.l_eq
    fails := h.fails.step s (by simp)
    lt := ha.lt
    opsLo := h.opsLo
    opsHi := by have := h.opsHi; show st.ops ≤ ((st.cnt + 1 : Nat) : Int); omega
    cnt2 := by have := h.cnt2; show n2 + 1 + l.length ≤ st.cnt + 1; omega }

set_option maxRecDepth 100000 in
set_option maxHeartbeats 2000000 in
theorem harden_any (w : World) (B : Nat) (tag : Tags) (st : St) (M1 M2 n2 : Nat) (wv : Value) (fv : Option Nat) (f1 f2 : ByteArray → Option Value) (l : List (Chg × Value))
    (h : Inv w B tag st M1 M2 wv fv f1 f2 l n2) (hc : st.cnt < 1099511627776) (hw : Wrs st.waits) (k : Nat) (hk : k ≤ l.length) (hck : st.cnt + k < 1099511627776) :
    Calls Try.prog 91 #[.pointer (some ⟨B, 0, none⟩), .int .i64 (k : Int)] w fun e w' => e = .returned (.tuple #[]) ∧
      ∃ tag' f2', Inv w' B tag' { st with dur := runs (st.waits.take k) st.dur, cnt := st.cnt + k } M1 M2 wv fv f1 f2' l (n2 + k) ∧ Step w w' tag tag' (fun t => t = .m2 ∨ ∃ s, t = .r2 s) := by
  have cB := h.at.2.2.1
  have hown := h.waits.2.1
  obtain ⟨aw, cw, hwv, haw, hcw⟩ : ∃ a c, wv = .slice a l.length c ∧ (∀ x, a = some x → x.off = 0 ∧ x.spot = none) ∧ l.length ≤ c := by
    rcases hown.2 with ⟨rfl, h0⟩ | ⟨g, cap, cur, rfl, _, _, hcc, _⟩
    · exact ⟨none, 0, by rw [h0], by simp, by omega⟩
    · exact ⟨_, _, rfl, by simp, hcc⟩
  subst hwv
  have hcut := cut_waits aw l.length cw k haw hk hcw
  have hkL : (k : Int) ≤ (l.length : Int) := by omega
  replace h := Kpt.mk h
  go_enter Try.func91, Try.ntmps91
  go_wp2
  go_loopw [13] (fun t wr => ∃ j : Nat, j ≤ k ∧ t = .int .i64 j ∧ ∃ tagj f2j, Inv wr B tagj { st with dur := runs (st.waits.take j) st.dur, cnt := st.cnt + j } M1 M2 (.slice aw l.length cw) fv f1 f2j l (n2 + j) ∧ Step w wr tag tagj (fun t => t = .m2 ∨ ∃ s, t = .r2 s)) (fun t _ => k - (intOf t).toNat)
  case atStart => exact ⟨0, by omega, rfl, tag, f2, by simpa [runs] using h.out, Step.refl _ _ _⟩
  case round =>
    obtain ⟨j, hj, rfl, tagj, f2j, hI, hS⟩ := hrel
    by_cases hlt : j < k
    · have hlt' : (j : Int) < (k : Int) := by omega
      obtain ⟨p, hp⟩ : ∃ p, l[j]? = some p := ⟨_, List.getElem?_eq_getElem (by omega)⟩
      have hpl : p ∈ l := List.mem_of_getElem? hp
      have hcs : st.waits[j]? = some p.1 := by rw [← h.out.l_eq, List.getElem?_map, hp]; rfl
      obtain ⟨s, off, ds, hcw'⟩ := hw p.1 (List.mem_of_getElem? hcs)
      obtain ⟨c, dv⟩ := p
      simp only at hcw' hcs
      subst hcw'
      have hok := hI.waits.1 _ hpl
      obtain ⟨da, dc, hdv, _⟩ := rd_shape (hok.2.2.1).rd
      simp only at hdv
      subst hdv
      obtain ⟨g, hg⟩ : ∃ g, aw = some ⟨g, 0, none⟩ := by
        rcases hI.waits.2.1.2 with ⟨_, h0⟩ | ⟨g, cap, cur, hx, _⟩
        · omega
        · simp only [Value.slice.injEq] at hx; exact ⟨g, hx.1⟩
      subst hg
      have cell : ∀ i u, i < 5 → ((Chg.wr s off ds).vals (.slice da ds.length dc))[i]? = some u → wr.cell? ⟨g, 5 * j + i, none⟩ = some u := by
        intro i u hi hu
        have := World.ownsRow.cells hI.waits.2.1 (g := g) rfl (5 * j + i) u (by rw [flat_at l j i _ hp hi]; exact hu)
        rw [Go.WideShapes.add_plain] at this
        simpa using this
      have e0 : wr.cell? ⟨g, j * 5, none⟩ = some (.int .i64 0) := by have := cell 0 _ (by omega) rfl; rwa [Nat.mul_comm] at this
      have e1 : wr.cell? ⟨g, j * 5 + 1, none⟩ = some (.string s) := by have := cell 1 _ (by omega) rfl; rwa [Nat.mul_comm] at this
      have e2 : wr.cell? ⟨g, j * 5 + 2, none⟩ = some (.string ⟨#[]⟩) := by have := cell 2 _ (by omega) rfl; rwa [Nat.mul_comm] at this
      have e3 : wr.cell? ⟨g, j * 5 + 3, none⟩ = some (.int .i64 (off : Int)) := by have := cell 3 _ (by omega) rfl; rwa [Nat.mul_comm] at this
      have e4 : wr.cell? ⟨g, j * 5 + 4, none⟩ = some (.slice da ds.length dc) := by have := cell 4 _ (by omega) rfl; rwa [Nat.mul_comm] at this
      clear cell hown
      obtain ⟨w0, hw0⟩ : ∃ w0, w0 = wr.alloc (.cells #[.int .i64 0, .string s, .string ⟨#[]⟩, .int .i64 (off : Int), .slice da ds.length dc] 155) := ⟨_, rfl⟩
      have hgr0 : wr.grownBy w0 none := by rw [hw0]; exact World.grownBy_alloc wr _ none
      obtain ⟨b0, hb0⟩ : ∃ b0, b0 = wr.heap.size := ⟨_, rfl⟩
      have hh0 : w0.heap[b0]? = some (.cells #[.int .i64 0, .string s, .string ⟨#[]⟩, .int .i64 (off : Int), .slice da ds.length dc] 155 (0, 0)) := by rw [hw0, hb0]; exact heap_alloc_new wr _
      have hsz0 : wr.heap.size < w0.heap.size := by rw [hw0]; simp
      have hI0 := hI.step (Step.grown hgr0 tagj _)
      have q0 : w0.cell? ⟨b0, 0, none⟩ = some (.int .i64 0) := by simp [World.cell?, hh0]
      have q1 : w0.cell? ⟨b0, 1, none⟩ = some (.string s) := by simp [World.cell?, hh0]
      have q2 : w0.cell? ⟨b0, 2, none⟩ = some (.string ⟨#[]⟩) := by simp [World.cell?, hh0]
      have q3 : w0.cell? ⟨b0, 3, none⟩ = some (.int .i64 (off : Int)) := by simp [World.cell?, hh0]
      have q4 : w0.cell? ⟨b0, 4, none⟩ = some (.slice da ds.length dc) := by simp [World.cell?, hh0]
      have c1 := hI0.at.2.1
      have htb0 : tagj b0 = none := by
        cases hh : tagj b0 with
        | none => rfl
        | some t => have := hI.lt b0 (by rw [hh]; simp); omega
      replace hI := Kpt.mk hI
      replace hI0 := Kpt.mk hI0
      replace hh0 := Kpt.mk hh0
      replace hS := Kpt.mk hS
      replace hcs := Kpt.mk hcs
      replace hp := Kpt.mk hp
      replace hok := Kpt.mk hok
      go_wp2
      rw [← hw0, ← hb0]
      replace hw0 := Kpt.mk hw0
      replace hb0 := Kpt.mk hb0
      refine wp_region_any (by kernel_rfl) ?_
      refine wpAny_of_C (C := fun W => W.cell? ⟨b0, 0, none⟩ = some (.int .i64 0) ∧ W.cell? ⟨b0, 1, none⟩ = some (.string s) ∧ W.cell? ⟨b0, 2, none⟩ = some (.string ⟨#[]⟩) ∧ W.cell? ⟨b0, 3, none⟩ = some (.int .i64 (off : Int)) ∧ W.cell? ⟨b0, 4, none⟩ = some (.slice da ds.length dc) ∧ W.cell? ⟨B, 1, none⟩ = some (.map (some M2))) _ _ _ _ ?_
      refine wpAnyC_take 0 (.agg #[.int .i64 0, .string s, .string ⟨#[]⟩, .int .i64 (off : Int), .slice da ds.length dc]) rfl (by kernel_rfl) (by kernel_rfl) (by kernel_rfl) (fun _ _ _ h => h) (by rfl) (fun W ⟨p0, p1, p2, p3, p4, p5⟩ => by clear q0 q1 q2 q3 q4 c1 e0 e1 e2 e3 e4; go_simp) ?_
      refine wpAnyC_take 1 (.pointer (some ⟨B, 0, none⟩)) rfl (by kernel_rfl) (by kernel_rfl) (by kernel_rfl) (fun _ _ _ h => h) (by rfl) (fun W _ => by go_simp) ?_
      refine wpAnyC_take 2 (.pointer (some ⟨B, 0, none⟩)) rfl (by kernel_rfl) (by kernel_rfl) (by kernel_rfl) (fun _ _ _ h => h) (by rfl) (fun W _ => by go_simp) ?_
      refine wpAnyC_take 3 (.pointer (some ⟨B, 1, none⟩)) rfl (by kernel_rfl) (by kernel_rfl) (by kernel_rfl) (fun _ _ _ h => h) (by rfl) (fun W _ => by go_simp) ?_
      refine wpAnyC_take 4 (.map (some M2)) rfl (by kernel_rfl) (by kernel_rfl) (by kernel_rfl) (fun _ _ _ h => h) (by rfl) (fun W ⟨p0, p1, p2, p3, p4, p5⟩ => by clear q0 q1 q2 q3 q4 c1 e0 e1 e2 e3 e4; go_simp) ?_
      change wpAnyC _ _ _ _ _ _ _ _ w0.drew
      refine wpAnyC_one 5 ⟨q0, q1, q2, q3, q4, c1⟩ rfl (by kernel_rfl) (by rfl) (fun K hK => ?_)
      go_simp
      have hok0 : (Chg.wr s off ds).ok w0.drew tagj (.slice da ds.length dc) := Chg.ok.step hok.out (Step.grown (w' := w0.drew) ⟨hgr0.os, hgr0.tape, hgr0.output, hgr0.size, hgr0.block⟩ tagj (fun _ => False)) id
      refine (applies_wr s off ds (.slice da ds.length dc) w0.drew tagj .r2 .m2 M2 (n2 + j) f2j _ (fun a b e => by injection e) (fun a e => by cases e) (fun a e => by cases e) hI0.out.t2 (fun i hi => hI0.out.lt i hi) hI0.out.map2 hI0.out.dur (by have := h.out.cnt2; omega) (.inr hok0)).mono ?_
      rintro e w1 ⟨rfl, tag1, f2', ha⟩
      have hgd : wr.grownBy w0.drew none := ⟨hgr0.os, hgr0.tape, hgr0.output, hgr0.size, hgr0.block⟩
      obtain ⟨hN, hSN⟩ := hard_step hI.out hgd ha
      have kb0 : w1.heap[b0]? = w0.heap[b0]? := ha.step.block b0 (by show b0 < w0.heap.size; have := hb0.out; omega) (by simp [htb0])
      have r0 := (World.cell?_of_block (a := ⟨b0, 0, none⟩) kb0).trans q0
      have r1 := (World.cell?_of_block (a := ⟨b0, 1, none⟩) kb0).trans q1
      have r2 := (World.cell?_of_block (a := ⟨b0, 2, none⟩) kb0).trans q2
      have r3 := (World.cell?_of_block (a := ⟨b0, 3, none⟩) kb0).trans q3
      have r4 := (World.cell?_of_block (a := ⟨b0, 4, none⟩) kb0).trans q4
      have c1' := hN.at.2.1
      dsimp only
      refine hK _ _ ?_
      clear hK K
      refine wpAnyC_done ⟨r0, r1, r2, r3, r4, c1'⟩ (by kernel_rfl) ?_
      have hrel' : ∃ tagj f2j, Inv w1 B tagj { st with dur := runs (st.waits.take (j + 1)) st.dur, cnt := st.cnt + (j + 1) } M1 M2 (.slice (some ⟨g, 0, none⟩) l.length cw) fv f1 f2j l (n2 + (j + 1)) ∧ Step w w1 tag tagj (fun t => t = .m2 ∨ ∃ s, t = .r2 s) := by
        refine ⟨tag1, f2', ?_, hS.out.trans hSN⟩
        rw [runs_take_succ _ _ _ _ hcs.out]
        exact hN
      replace hrel' := Kpt.mk hrel'
      clear hN hSN ha kb0 r0 r1 r2 r3 r4 c1' q0 q1 q2 q3 q4 c1 e0 e1 e2 e3 e4
      go_wp2
      go_roundw
      case rel => exact ⟨j + 1, by omega, by go_num, hrel'.out⟩
      case measure => simp [intOf]; omega
    · obtain rfl : j = k := by omega
      go_wp2
      refine bodyPost_end (results_none rfl _ _ _) rfl ?_
      exact ⟨rfl, tagj, f2j, hI, hS⟩
end Go.Proofs.Ytklboieemljmiaa

namespace Go.Proofs.Ytklboieemljmiaa
open Go.RowKit Go.Maps
set_option linter.unusedVariables false
set_option linter.unusedSimpArgs false

/-- Nothing waits any more. -/
theorem Inv.calm {w : World} {B : Nat} {tag : Tags} {st : St} {M1 M2 n2 : Nat} {wv : Value} {fv : Option Nat} {f1 f2 : ByteArray → Option Value} {l : List (Chg × Value)} (h : Inv w B tag st M1 M2 wv fv f1 f2 l n2) :
    Inv (w.setCell ⟨B, 2, none⟩ (.slice none 0 0)) B tag { st with waits := [] } M1 M2 (.slice none 0 0) fv f1 f2 [] n2 ∧ Step w (w.setCell ⟨B, 2, none⟩ (.slice none 0 0)) tag tag (fun t => t = .wd) := by
  have s : Step w (w.setCell ⟨B, 2, none⟩ (.slice none 0 0)) tag tag (fun t => t = .wd) := Step.turned (grown_setCell w B 2 _) tag h.tB rfl
  refine ⟨?_, s⟩
  exact {
    cell := by rw [setCell_own w B 2 _ _ _ h.cell]; simp [wdCells]
    tB := h.tB
    t1 := h.t1
    t2 := h.t2
    map1 := h.map1.of_block (s.keep h.map1.lt h.t1 (by simp)).1
    map2 := h.map2.of_block (s.keep h.map2.lt h.t2 (by simp)).1
    seen := h.seen.step s (by simp)
    dur := h.dur.step s (by simp)
    waits := ⟨by simp, World.ownsRow_nil _ _ _ _, by simp [Value.ownBlock]⟩
    l_eq := rfl
    fails := h.fails.step s (by simp)
    lt := s.lt h.lt
    opsLo := h.opsLo
    opsHi := h.opsHi
    cnt2 := by have := h.cnt2; show n2 + 0 ≤ st.cnt; omega }

set_option maxRecDepth 100000 in
set_option maxHeartbeats 1000000 in
theorem sync_any (w : World) (B : Nat) (tag : Tags) (st : St) (h : Wd w B tag st) (hc : st.cnt + st.waits.length < 549755813888) (hf : st.fails st.ops = false) (hw : Wrs st.waits) :
    Calls Try.prog 81 #[.pointer (some ⟨B, 0, none⟩)] w fun e w' => e = .returned (.int .i64 0) ∧
      ∃ tag', Wd w' B tag' { st with dur := runs st.waits st.dur, waits := [], ops := st.ops + 1, cnt := st.cnt + 1 + st.waits.length } ∧ Step w w' tag tag' (fun _ => True) := by
  obtain ⟨M1, M2, wv, fv, f1, f2, l, n2, h⟩ := h
  have hcl := call_any w B tag st M1 M2 n2 wv fv f1 f2 l h (by omega)
  rw [hf] at hcl
  simp only [Bool.false_eq_true, if_false] at hcl
  have hBt := h.tB
  have hll : l.length = st.waits.length := by rw [← h.l_eq]; simp
  obtain ⟨aw, cw, rfl⟩ := waits_shape h.waits
  clear h
  obtain ⟨k, hk⟩ : ∃ k, k = l.length := ⟨_, rfl⟩
  have hkl : k ≤ l.length := by omega
  have hkw : st.waits.take k = st.waits := List.take_of_length_le (by omega)
  have hkw2 : k = st.waits.length := by omega
  replace hll := Kpt.mk hll
  replace hkw := Kpt.mk hkw
  replace hkw2 := Kpt.mk hkw2
  rw [← hk] at hcl
  replace hk := Kpt.mk hk
  go_enter Try.func81, Try.ntmps81
  go_wp2_with (first
      | (go_at_call 69; refine hcl.mono ?_; rintro e w1 ⟨rfl, hI1, hg1⟩; have cB := hI1.at.2.2.1)
      | (go_at_call 91; refine (harden_any _ B tag _ M1 M2 n2 _ fv f1 f2 l hI1 (by show st.cnt + 1 < _; omega) hw k hkl (by show st.cnt + 1 + k < _; have := hkw2.out; omega)).mono ?_; rintro e w2 ⟨rfl, tag2, f2', hI2, hs2⟩; have cB2 := hI2.at.2.2.1; have fz2 := hI2.frozen 2))
  go_ret
  obtain ⟨hI3, hs3⟩ := hI2.calm
  have st1 : Step w w1 tag tag (fun _ => True) := Step.turned hg1 tag hBt trivial
  refine ⟨rfl, tag2, ?_, (st1.trans (hs2.weaken (fun _ _ => trivial))).trans (hs3.weaken (fun _ _ => trivial))⟩
  refine ⟨M1, M2, .slice none 0 0, fv, f1, f2', [], n2 + k, ?_⟩
  have e1 := hkw.out
  have e2 := hkw2.out
  simp only [e1] at hI3
  rw [← e2]
  exact hI3
end Go.Proofs.Ytklboieemljmiaa
