/-
  Attentions: ranks, the first by rank, what waits; the contracts of rank, has, Index, Contains.
-/
import Derived.Test.YtodppeldliliaaaRows
import Derived.OpenShut
import Derived.Laws.CopyOwn
import Derived.Laws.AppendOwnNone
import Derived.Outline
import Derived.ProofKit
import Derived.WalkKit
import Derived.Below
import Derived.BigQuiet
import Derived.Deep.QuietTactic
import Derived.Deep.RegionWith
namespace Go.Proofs.Ytodppeldliliaaa
open Go.RowKit
set_option linter.unusedVariables false
set_option linter.unusedSimpArgs false

/-- A fact kept from the walk's sight. -/
structure Kpt (p : Prop) : Prop where
  out : p

def rnk (c : Int) : Int := if c / 256 = 41 then 0 else if c = 12032 then 1 else if c / 256 = 42 ∧ c ≠ 10753 then 2 else 3

theorem ret_int {k : IntKind} {a b : Int} (h : a = b) : Ending.returned (.int k a) = .returned (.int k b) := by rw [h]
theorem ret_bool {a b : Bool} (h : a = b) : Ending.returned (.bool a) = .returned (.bool b) := by rw [h]

theorem rank_any (c : Int) (w : World) (h : 0 ≤ c ∧ c ≤ 65535) : Calls Try.prog 24 #[.int .u16 c] w fun e w' => e = .returned (.int .i64 (rnk c)) ∧ w' = w := by
  by_cases h1 : c / 256 = 41
  · go_enter Try.func24, Try.ntmps24
    go_wp2
    go_ret
    exact ⟨ret_int (by simp [rnk, h1]), rfl⟩
  by_cases h2 : c = 12032
  · subst h2
    clear h1
    go_enter Try.func24, Try.ntmps24
    go_wp2
    go_ret
    exact ⟨rfl, rfl⟩
  by_cases h3 : c / 256 = 42
  · by_cases h4 : c = 10753
    · subst h4
      clear h1 h2 h3
      go_enter Try.func24, Try.ntmps24
      go_wp2
      go_ret
      exact ⟨rfl, rfl⟩
    · go_enter Try.func24, Try.ntmps24
      go_wp2
      go_ret
      exact ⟨ret_int (by simp [rnk, h1, h2, h3, h4]), rfl⟩
  · go_enter Try.func24, Try.ntmps24
    go_wp2
    go_ret
    exact ⟨ret_int (by simp [rnk, h1, h2, h3]), rfl⟩

theorem rrank_any (c : Int) (w : World) (h : 0 ≤ c ∧ c ≤ 65535) : Calls Try.prog 17 #[.int .u16 c] w fun e w' => e = .returned (.int .i64 (rnk c)) ∧ w' = w := by
  have et : IntKind.u16.wrap (c.tdiv 256) = c / 256 := by rw [Int.tdiv_eq_ediv_of_nonneg h.1, IntKind.wrap_u16]; omega
  by_cases h1 : c / 256 = 41
  · go_enter Try.func17, Try.ntmps17
    go_wp2
    go_ret
    exact ⟨ret_int (by simp [rnk, h1]), rfl⟩
  by_cases h2 : c = 12032
  · subst h2
    clear h1 et
    go_enter Try.func17, Try.ntmps17
    go_wp2
    go_ret
    exact ⟨rfl, rfl⟩
  by_cases h3 : c / 256 = 42
  · by_cases h4 : c = 10753
    · subst h4
      clear h1 h2 h3 et
      go_enter Try.func17, Try.ntmps17
      go_wp2
      go_ret
      exact ⟨rfl, rfl⟩
    · go_enter Try.func17, Try.ntmps17
      go_wp2
      go_ret
      exact ⟨ret_int (by simp [rnk, h1, h2, h3, h4]), rfl⟩
  · go_enter Try.func17, Try.ntmps17
    go_wp2
    go_ret
    exact ⟨ret_int (by simp [rnk, h1, h2, h3]), rfl⟩

def hasB (n : Int) : Bool := decide (0 ≤ n ∧ n < 8)

theorem has_any (B : Nat) (n : Int) (w : World) : Calls Try.prog 18 #[.pointer (some ⟨B, 0, none⟩), .int .i64 n] w fun e w' => e = .returned (.bool (hasB n)) ∧ w' = w := by
  by_cases h0 : 0 ≤ n
  · by_cases h1 : n < 8
    · go_enter Try.func18, Try.ntmps18
      go_wp2
      go_ret
      exact ⟨ret_bool (by simp [hasB, h0, h1]), rfl⟩
    · go_enter Try.func18, Try.ntmps18
      go_wp2
      go_ret
      exact ⟨ret_bool (by simp [hasB, h0, h1]), rfl⟩
  · go_enter Try.func18, Try.ntmps18
    go_wp2
    go_ret
    exact ⟨ret_bool (by simp [hasB]; omega), rfl⟩

theorem has_nil (n : Int) (w : World) : Calls Try.prog 18 #[.pointer none, .int .i64 n] w fun e w' => e = .returned (.bool false) ∧ w' = w := by
  go_enter Try.func18, Try.ntmps18
  go_wp2
  go_ret
  exact ⟨rfl, rfl⟩

/-- Codes as cells. -/
def cels (zs : List Int) : List Value := zs.map (Value.int .u16)
@[simp] theorem cels_length (zs : List Int) : (cels zs).length = zs.length := by simp [cels]
theorem cels_one (zs : List Int) : ∀ v ∈ cels zs, v.oneCell' = true := ints_oneCell _ _
theorem cels_append (a b : List Int) : cels (a ++ b) = cels a ++ cels b := by simp [cels]

/-- A slice of codes, owned whole. -/
def Own (base : Nat) (w : World) (v : Value) (zs : List Int) : Prop := w.ownsRow base 31 1 v zs.length (cels zs)

theorem Own.shape {base : Nat} {w : World} {v : Value} {zs : List Int} (h : Own base w v zs) : ∃ a c, v = .slice a zs.length c ∧ (0 < zs.length → ∃ g, a = some ⟨g, 0, none⟩ ∧ base ≤ g ∧ g < w.heap.size ∧ ∀ j, j < zs.length → w.cell? ⟨g, j, none⟩ = some (.int .u16 (zs.getD j 0)) ∧ w.frozen? ⟨g, j, none⟩ = false) := by
  rcases id h.2 with ⟨rfl, h0⟩ | ⟨g, cap, cur, rfl, hb, hg, rest⟩
  · exact ⟨none, 0, by rw [h0], fun h => by omega⟩
  · refine ⟨_, cap, rfl, fun _ => ⟨g, rfl, hb, (World.ownsRow.lt h g rfl).2, fun j hj => ⟨?_, World.ownsRow.frozenAt h j⟩⟩⟩
    rw [World.ownsRow.cellAt h j (by omega)]
    unfold cels
    rw [List.getElem?_map, List.getElem?_eq_getElem hj, List.getD_eq_getElem?_getD, List.getElem?_eq_getElem hj]
    rfl

/-- Where a code stands; the length: nowhere. -/
def idxFrom (c : Int) (zs : List Int) : Nat → Nat → Int
  | 0, _ => -1
  | f + 1, i => if zs.getD i 0 = c then (i : Int) else idxFrom c zs f (i + 1)

set_option maxHeartbeats 1000000 in
theorem index_any (v : Value) (zs : List Int) (c : Int) (base : Nat) (w : World) (h : Own base w v zs) (hl : zs.length ≤ 100) :
    Calls Try.prog 25 #[v, .int .u16 c] w fun e w' => e = .returned (.int .i64 (idxFrom c zs zs.length 0)) ∧ w' = w := by
  obtain ⟨a, cap, rfl, hs⟩ := h.shape
  have hsK := Kpt.mk hs
  clear hs h
  go_enter Try.func25, Try.ntmps25
  go_wp2
  go_loop [8] (fun t => ∃ k : Nat, k ≤ zs.length ∧ t = .int .i64 k ∧ Kpt (idxFrom c zs zs.length 0 = idxFrom c zs (zs.length - k) k)) (fun t => zs.length - (intOf t).toNat)
  case atStart => exact ⟨0, Nat.zero_le _, rfl, ⟨rfl⟩⟩
  case round =>
    obtain ⟨k, hk, rfl, hI⟩ := hrel
    by_cases hlt : k < zs.length
    · obtain ⟨g, rfl, hb, hg, hc⟩ := hsK.out (by omega)
      have hcell := (hc k hlt).1
      have hlk : zs.length - k = (zs.length - (k + 1)) + 1 := by omega
      obtain ⟨x, hx⟩ : ∃ x, x = zs.getD k 0 := ⟨_, rfl⟩
      rw [← hx] at hcell
      by_cases he : x = c
      · have hR : Kpt (idxFrom c zs zs.length 0 = (k : Int)) := ⟨by rw [hI.out, hlk, idxFrom, if_pos (by rw [← hx]; exact he)]⟩
        have he' : c = x := he.symm
        clear hlk hx hI hc he
        subst he'
        go_wp2
        go_ret
        exact ⟨ret_int hR.out.symm, rfl⟩
      · have hR : Kpt (idxFrom c zs zs.length 0 = idxFrom c zs (zs.length - (k + 1)) (k + 1)) := ⟨by rw [hI.out, hlk, idxFrom, if_neg (by rw [← hx]; exact he)]⟩
        have he' : ¬ c = x := fun e => he e.symm
        clear hlk hx hI hc he
        go_wp2
        go_round
        case rel => exact ⟨k + 1, by omega, by go_num, hR⟩
        case measure => simp [intOf]; omega
    · go_wp2
      go_ret
      exact ⟨ret_int (by rw [hI.out, show zs.length - k = 0 by omega]; rfl), rfl⟩

theorem contains_any (v : Value) (zs : List Int) (c : Int) (base : Nat) (w : World) (h : Own base w v zs) (hl : zs.length ≤ 100) :
    Calls Try.prog 23 #[v, .int .u16 c] w fun e w' => e = .returned (.bool (decide (0 ≤ idxFrom c zs zs.length 0))) ∧ w' = w := by
  have H := Kpt.mk (index_any v zs c base w h hl)
  clear h
  generalize idxFrom c zs zs.length 0 = x at *
  go_enter Try.func23, Try.ntmps23
  go_wp2_with (go_at_call 25; refine H.out.mono ?_; rintro e w' ⟨rfl, rfl⟩)
  go_ret
  exact ⟨rfl, rfl⟩
end Go.Proofs.Ytodppeldliliaaa
