/-
  Rows of bytes: read, owned, grown by noughts, written over.
-/
import Derived.Test.YtplifodddfjhdaaGreatDoorRows
import Derived.OpenShut
import Derived.Laws.CopyOwn
import Derived.Laws.BytesArg
import Derived.Laws.AppendOwnNone
import Derived.Lib.AppendZerosOnto
import Derived.Outline
import Derived.ProofKit
import Derived.WalkKit
import Derived.Below
import Derived.BigQuiet
import Derived.Deep.QuietTactic
import Derived.Deep.RegionWith
import Derived.Deep.RegionLawGrows
import Derived.Deep.Cut
import Derived.Maps.RangeWalk
import Derived.Maps.OwnSet
import Derived.Maps.Ext
namespace Go.Proofs.YtplifodddfjhdaaGreatDoor
open Go.RowKit
set_option linter.unusedVariables false
set_option linter.unusedSimpArgs false

theorem Tryz.info5 : (Tryz.prog.info? 5).map (fun i => (i.zero, i.size, i.bytes)) = some (some (.int .u8 0), 1, 1) := by kernel_rfl
theorem Tryz.size5 : (Tryz.prog.info? 5).map (·.size) = some 1 := by kernel_rfl

/-- A fact kept from the walk's sight. -/
structure Kpt (p : Prop) : Prop where
  out : p

/-- Bytes as cells. -/
def cels (zs : List Int) : List Value := zs.map (Value.int .u8)
@[simp] theorem cels_length (zs : List Int) : (cels zs).length = zs.length := by simp [cels]
theorem cels_one (zs : List Int) : ∀ v ∈ cels zs, v.oneCell' = true := ints_oneCell _ _
theorem cels_append (a b : List Int) : cels (a ++ b) = cels a ++ cels b := by simp [cels]

/-- A slice of bytes, owned whole. -/
def Row (w : World) (v : Value) (zs : List Int) : Prop := w.ownsRow 0 5 1 v zs.length (cels zs)

/-- A slice of bytes that can be read. -/
def RdAt (w : World) (v : Value) (zs : List Int) : Prop :=
  ∃ a c, v = .slice a zs.length c ∧ (a = none → zs.length = 0 ∧ c = 0) ∧ zs.length ≤ c ∧
    (zs.length = 0 ∨ ∃ b off, a = some ⟨b, off, none⟩ ∧ ∀ j u, (cels zs)[j]? = some u → w.cell? ⟨b, off + j, none⟩ = some u)

theorem Row.kept {w w' : World} {row : Option Nat} {v : Value} {zs : List Int} (h : Row w v zs) (hg : w.grownBy w' row) (hne : v.ownBlock = none ∨ v.ownBlock ≠ row) : Row w' v zs := World.ownsRow.kept h hg hne

theorem Row.of_block {w w' : World} {v : Value} {zs : List Int} (h : Row w v zs) (hb : ∀ g, v.ownBlock = some g → w'.heap[g]? = w.heap[g]?) : Row w' v zs := by
  refine ⟨h.1, ?_⟩
  rcases h.2 with hn | ⟨g, cap, cur, rfl, h0, hgg, rest⟩
  · exact .inl hn
  · exact .inr ⟨g, cap, cur, rfl, h0, (hb g rfl).trans hgg, rest⟩

theorem RdAt.of_block {w w' : World} {v : Value} {zs : List Int} (h : RdAt w v zs) (hb : ∀ g, v.ownBlock = some g → w'.heap[g]? = w.heap[g]?) : RdAt w' v zs := by
  obtain ⟨a, c, rfl, ha, hlc, h⟩ := h
  refine ⟨a, c, rfl, ha, hlc, ?_⟩
  rcases h with h | ⟨b, off, rfl, hc⟩
  · exact .inl h
  · exact .inr ⟨b, off, rfl, fun j u hu => (World.cell?_of_block (a := ⟨b, off + j, none⟩) (hb b rfl)).trans (hc j u hu)⟩

theorem Row.rd {w : World} {v : Value} {zs : List Int} (h : Row w v zs) : RdAt w v zs := by
  rcases h.2 with ⟨rfl, h0⟩ | ⟨g, cap, cur, rfl, _, hg, hc, hm, _, _⟩
  · exact ⟨none, 0, by rw [h0], fun _ => ⟨h0, rfl⟩, by omega, .inl h0⟩
  · refine ⟨some ⟨g, 0, none⟩, cap, rfl, (fun h => by cases h), hc, .inr ⟨g, 0, rfl, fun j u hu => ?_⟩⟩
    have := World.ownsRow.cells h (g := g) rfl j u hu
    rw [Go.WideShapes.add_plain] at this
    exact this

theorem Row.lt {w : World} {v : Value} {zs : List Int} (h : Row w v zs) {g : Nat} (hg : v.ownBlock = some g) : g < w.heap.size := (World.ownsRow.lt h g hg).2

theorem RdAt.lt {w : World} {v : Value} {zs : List Int} (h : RdAt w v zs) (h0 : 0 < zs.length) {g : Nat} (hg : v.ownBlock = some g) : g < w.heap.size := by
  obtain ⟨a, c, rfl, ha, hlc, h⟩ := h
  rcases h with h | ⟨b, off, rfl, hc⟩
  · omega
  · simp [Value.ownBlock] at hg
    subst hg
    exact World.block_lt_of_cell? w ⟨b, off + 0, none⟩ (hc 0 ((cels zs)[0]'(by simpa using h0)) (by rw [List.getElem?_eq_getElem]))

theorem row_nil (w : World) : Row w (.slice none 0 0) [] := World.ownsRow_nil w 0 5 1

theorem rd_nil (w : World) : RdAt w (.slice none 0 0) [] := (row_nil w).rd

theorem zeroCells_u8 (k : Nat) : Builtin.zeroCells (Value.int .u8 0).cells k = (cels (List.replicate k 0)).toArray := by
  apply Array.ext
  · simp [size_zeroCells, Value.cells]
  · intro i h1 h2
    simp [Builtin.zeroCells, Value.cells, cels]
    have : i % 1 = 0 := by omega
    simp [this]

/-- 'append(p, make([]byte, k)...)'. -/
theorem run_append_zeros (w : World) (v : Value) (zs : List Int) (hown : Row w v zs) (k : Nat) (h0 : 0 < k) (hb : zs.length + k ≤ 140737488355328) :
    ∃ v' w', (∀ ty, (Builtin.append_ #[26, 3] ty #[v, .int .i64 (k : Int)]).run Tryz.prog w = .ok v' w') ∧ Row w' v' (zs ++ List.replicate k 0) ∧ w.grownBy w' v.ownBlock ∧
      (v'.ownBlock = v.ownBlock ∨ ∃ g, v'.ownBlock = some g ∧ w.heap.size ≤ g) := by
  obtain ⟨i, hi, hz, hsize, hby⟩ := info_parts Tryz.info5
  have hw : IntKind.i64.wrap (k : Int) = k := by rw [IntKind.wrap_i64]; omega
  have mk : ∀ old : Nat, old < zs.length + k → ∀ row, Row (w.drew.alloc (.cells ((cels zs).toArray ++ Builtin.zeroCells (Value.int .u8 0).cells k ++ Builtin.zeroCells (Value.int .u8 0).cells (grownCap w (zs.length + k) old 5 - (zs.length + k))) 5))
      (.slice (some ⟨w.heap.size, 0, none⟩) (zs.length + k) (grownCap w (zs.length + k) old 5)) (zs ++ List.replicate k 0) ∧
      w.grownBy (w.drew.alloc (.cells ((cels zs).toArray ++ Builtin.zeroCells (Value.int .u8 0).cells k ++ Builtin.zeroCells (Value.int .u8 0).cells (grownCap w (zs.length + k) old 5 - (zs.length + k))) 5)) row := by
    intro old ho row
    have hge := grownCap_ge w (zs.length + k) old 5
    have hcm : grownCap w (zs.length + k) old 5 ≤ maxLen := grownCap_le_maxLen w (zs.length + k) old 5 (by unfold maxLen; omega)
    refine ⟨⟨by simp, .inr ⟨w.heap.size, _, _, by simp, Nat.zero_le _, heap_alloc_new w.drew _, by simpa using hge, hcm, ?_, ?_⟩⟩, ⟨rfl, rfl, rfl, by simp, fun j hj _ => heap_alloc_old w.drew _ hj⟩⟩
    · simp [size_zeroCells, Value.cells]; omega
    · rw [zeroCells_u8, zeroCells_u8]
      simp only [Array.toList_append, List.length_append, List.length_replicate, Nat.mul_one, cels_append]
      rw [List.take_append_of_le_length (by simp)]
      rw [List.take_of_length_le (by simp)]
  rcases hown.2 with ⟨rfl, hl0⟩ | ⟨g, cap, cur, rfl, hbg, hg, hnc, hcm, hcs, htake⟩
  · obtain rfl : zs = [] := List.eq_nil_of_length_eq_zero hl0
    have hr := fun ty => Lib.run_append_nil_zeros (P := Tryz.prog) w 26 3 ty 5 i (.int .u8 0) .i64 .i64 Tryz.underlying26 Tryz.underlying3 hi hz k h0 (by omega) (by simp at hb; omega) (by rw [hby]; simp at hb; omega)
    have hm := mk 0 (by simp; omega) (Value.ownBlock (.slice none 0 0))
    simp only [List.length_nil, Nat.zero_add, cels, List.map_nil, Array.empty_append, List.nil_append] at hm ⊢
    exact ⟨_, _, hr, hm.1, hm.2, .inr ⟨_, rfl, Nat.le_refl _⟩⟩
  · by_cases hroom : zs.length + k ≤ cap
    · have hfit : zs.length * 1 + 0 + (cels (List.replicate k 0)).length ≤ cur.size := by simp; omega
      have hst := run_storeCells_at Tryz.prog g (zs.length * 1) 5 (cels (List.replicate k 0)) 0 cur w hg hfit (cels_one _)
      have hneg : ¬ ((k : Int) < 0) := by omega
      have hk : k ≠ 0 := by omega
      have h48i : ¬ (281474976710656 < (k : Int)) := by omega
      have hrun : ∀ ty, (Builtin.append_ #[26, 3] ty #[.slice (some ⟨g, 0, none⟩) zs.length cap, .int .i64 (k : Int)]).run Tryz.prog w = .ok (.slice (some ⟨g, 0, none⟩) (zs.length + k) cap) (w.setRow g (cur.toList.take (zs.length * 1 + 0) ++ cels (List.replicate k 0) ++ cur.toList.drop (zs.length * 1 + 0 + (cels (List.replicate k 0)).length)).toArray) := by
        intro ty
        simp [Builtin.append_, run_underlying Tryz.underlying26, run_underlying Tryz.underlying3, sizeOf, typeInfo, zeroValue, hi, hz, asInt, asIntOf, hw, hneg, hk, hsize, hby, h48i, hroom, zeroCells_u8, Addr.add_lit] 
        simp at hst
        rw [hst]
        simp
      refine ⟨_, _, hrun, ⟨by simp, .inr ⟨g, cap, _, by simp, hbg, setRow_heap w g cur _ 5 _ hg, by simpa using hroom, hcm, ?_, ?_⟩⟩, ⟨rfl, rfl, rfl, by simp, fun j _ hk => setRow_other w g j _ (fun e => hk (by simp [Value.ownBlock, e]))⟩, .inl rfl⟩
      · simp; omega
      · simp only [List.length_append, List.length_replicate, Nat.mul_one, Nat.add_zero] at htake ⊢
        rw [htake, cels_append, List.take_append_of_le_length (by simp), List.take_of_length_le (by simp)]
    · have holds : ∀ j u, (cels zs)[j]? = some u → w.drew.cell? ((⟨g, 0, none⟩ : Addr).add j) = some u := fun j u hu => World.ownsRow.cells hown (g := g) rfl j u hu
      have hf := run_firstCells_some (P := Tryz.prog) w.drew i.size zs.length ⟨g, 0, none⟩ zs.length cap (cels zs) (by simp [hsize]) holds
      have hr := fun ty => Lib.run_append_grow_zeros (P := Tryz.prog) w 26 3 ty 5 i (.int .u8 0) .i64 .i64 Tryz.underlying26 Tryz.underlying3 hi hz (some ⟨g, 0, none⟩) zs.length cap (cels zs) hf k h0 (by omega) (by omega) (by omega) (by rw [hby]; omega) (growslice_fits (by omega) (by rw [hby]; omega))
      have hm := mk cap (by omega) (Value.ownBlock (.slice (some ⟨g, 0, none⟩) zs.length cap))
      exact ⟨_, _, hr, hm.1, hm.2, .inr ⟨_, rfl, Nat.le_refl _⟩⟩

/-- Bytes laid over others from a place on (they fit). -/
def over (zs : List Int) (off : Nat) (ds : List Int) : List Int := zs.take off ++ (ds ++ zs.drop (off + ds.length))

/-- A file's bytes with data laid in them from off on, noughts between. -/
def laidL (zs : List Int) (off : Nat) (ds : List Int) : List Int := over (zs ++ List.replicate (off + ds.length - zs.length) 0) off ds

theorem over_length (zs ds : List Int) (off : Nat) (h : off + ds.length ≤ zs.length) : (over zs off ds).length = zs.length := by simp [over]; omega
theorem laidL_length (zs ds : List Int) (off : Nat) : (laidL zs off ds).length = max zs.length (off + ds.length) := by
  unfold laidL; rw [over_length _ _ _ (by simp; omega)]; simp; omega

/-- 'copy(p[off:], data)' on an owned row: the copy's own law. -/
theorem wpList_copy_row {w : World} {ops : Array Oper} {rest : List Oper} {o : Oper} {a : Act} {Q : Exit → Act → World → Prop} (hgd : o.guard = none) (d s : Operand)
    (ho : o.op = .call { callee := .builtin .copy, args := #[d, s], argTypes := #[26, 26] })
    (v : Value) (zs : List Int) (hrow : Row w v zs) (off : Nat) (dp : Option Addr) (dLen dCap : Nat) (hd : a.eval d = .slice dp dLen dCap) (hdl : dLen = zs.length - off)
    (hdp : dp = none ∨ ∃ g cap, v = .slice (some ⟨g, 0, none⟩) zs.length cap ∧ (dp = some ⟨g, 0, none⟩ ∧ cap = off ∨ dp = some ⟨g, off, none⟩)) (hdn : dp = none → zs = [])
    (sv : Value) (ds : List Int) (hs : a.eval s = sv) (hrd : RdAt w sv ds) (hfit : off + ds.length ≤ zs.length)
    (h : ∀ w', Row w' v (over zs off ds) → w.grownBy w' v.ownBlock → wpList Tryz.prog ops Q rest (a.put o.dst (goInt ds.length)) w') : wpList Tryz.prog ops Q (o :: rest) a w := by
  obtain ⟨sa, sc, rfl, hsn, hsl, hsr⟩ := hrd
  by_cases h0 : ds.length = 0
  · obtain rfl : ds = [] := List.eq_nil_of_length_eq_zero h0
    refine wpList_copy_nothing hgd d s 26 26 ho 5 Tryz.underlying26 Tryz.size5 dp sa dLen dCap 0 sc hd hs (by simp) ?_
    have e : over zs off [] = zs := by simp [over]
    exact h w (by rw [e]; exact hrow) ⟨rfl, rfl, rfl, Nat.le_refl _, fun _ _ _ => rfl⟩
  · rcases hsr with h1 | ⟨b, soff, rfl, hc⟩
    · omega
    · rcases hdp with hn | ⟨g, cap, rfl, hdp⟩
      · have := hdn hn; subst this; simp at hfit; simp [hfit] at h0
      · rcases hrow.2 with ⟨hx, _⟩ | ⟨g', cap', cur, hx, hbg, hg, hnc, hcm, hcs, htake⟩
        · cases hx
        · simp only [Value.slice.injEq, Option.some.injEq, Addr.mk.injEq, and_true, true_and] at hx
          obtain ⟨rfl, rfl⟩ := hx
          have hdp' : dp = some ⟨g, off, none⟩ := by
            rcases hdp with ⟨_, hc0⟩ | h'
            · omega
            · exact h'
          subst hdp'
          refine wpList_copy_own hgd d s 26 26 ho 5 Tryz.underlying26 Tryz.size5 g off dLen dCap ⟨b, soff, none⟩ ds.length sc hd hs cur 5 hg (cels ds) ?_ ?_ ?_ (cels_one _) ?_
          · simp only [cels_length]; show ds.length = Nat.min ds.length dLen; exact (Nat.min_eq_left (by omega)).symm
          · intro j u hu
            rw [Go.WideShapes.add_plain]
            exact hc j u hu
          · simp; omega
          · rw [cels_length]
            refine h _ ⟨?_, .inr ⟨g, cap, _, ?_, Nat.zero_le _, setRow_heap w g cur _ 5 _ hg, ?_, hcm, ?_, ?_⟩⟩ ⟨rfl, rfl, rfl, by simp, fun j _ hk => setRow_other w g j _ (fun e => hk (by simp [Value.ownBlock, e]))⟩
            · simp
            · rw [over_length _ _ _ hfit]
            · rw [over_length _ _ _ hfit]; exact hnc
            · simp; omega
            · rw [over_length _ _ _ hfit]
              simp only [Nat.mul_one] at htake ⊢
              obtain ⟨R, hl⟩ : ∃ R, cur.toList = cels zs ++ R := ⟨cur.toList.drop zs.length, by rw [← htake, List.take_append_drop]⟩
              have e1 : (cels zs ++ R).take off = (cels zs).take off := List.take_append_of_le_length (by simp; omega)
              have e2 : (cels zs ++ R).drop (off + ds.length) = (cels zs).drop (off + ds.length) ++ R := List.drop_append_of_le_length (by simp; omega)
              rw [hl, e1, e2]
              simp only [← List.append_assoc]
              rw [List.take_append_of_le_length (by simp; omega), List.take_of_length_le (by simp; omega)]
              simp [over, cels, List.map_take, List.map_drop]
end Go.Proofs.YtplifodddfjhdaaGreatDoor
