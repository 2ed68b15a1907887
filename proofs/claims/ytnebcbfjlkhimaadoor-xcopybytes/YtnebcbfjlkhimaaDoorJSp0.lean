/-
  Parse of any bytes, with its rows; a byte turned.
-/
import Derived.Test.YtnebcbfjlkhimaaDoorJRds
namespace Go.Proofs.YtnebcbfjlkhimaaDoor
open Go.RowKit
set_option linter.unusedVariables false
set_option linter.unusedSimpArgs false
theorem xor_ne (x y : Int) (hx : 0 ≤ x ∧ x ≤ 255) (hy : 0 ≤ y ∧ y ≤ 255) (h0 : y ≠ 0) : bits .xor .u8 x y ≠ x ∧ 0 ≤ bits .xor .u8 x y ∧ bits .xor .u8 x y ≤ 255 := by
  obtain ⟨a, rfl⟩ : ∃ a : Nat, x = a := ⟨x.toNat, by omega⟩
  obtain ⟨b, rfl⟩ : ∃ b : Nat, y = b := ⟨y.toNat, by omega⟩
  rw [u8_xor_nat a b (by omega) (by omega)]
  have hlt : a ^^^ b < 2 ^ 8 := Nat.xor_lt_two_pow (by omega) (by omega)
  refine ⟨fun h => ?_, by omega, by omega⟩
  have h1 : a ^^^ b = a := by omega
  have h2 : a ^^^ (a ^^^ b) = a ^^^ a := by rw [h1]
  rw [← Nat.xor_assoc, Nat.xor_self, Nat.zero_xor] at h2
  omega

theorem ser_bytes {zs : List Int} (hb : Bytes zs) (a : Nat) : Bytes (ser zs a) := by
  refine bytes_mem fun x hx => ?_
  unfold ser trimL serL at hx
  exact bytes_to hb x (List.mem_of_mem_drop (List.mem_of_mem_take (List.mem_of_mem_take hx)))
theorem parse_us {zs : List Int} (hb : Bytes zs) : ∀ s ∈ (parseX zs).us, Bytes s := by
  by_cases h0 : zs.length = 0
  · have e : parseX zs = ⟨[], [], noS, true⟩ := by unfold parseX; rw [if_pos h0]
    rw [e]
    intro s hs; cases hs
  · cases hx : headX zs with
    | some s => rw [parse_hd h0 hx]; intro s hs; cases hs
    | none =>
      unfold parseX
      rw [if_neg h0, hx]
      simp only
      split
      · intro s hs; cases hs
      · split
        · intro s hs; cases hs
        · intro s hs
          simp only [unitsX] at hs
          obtain ⟨j, _, rfl⟩ := List.mem_map.1 hs
          exact ser_bytes hb _
theorem par_rows (a : Option Addr) (n c : Nat) (zs : List Int) (w : World) (hr : RdAt w (.slice a n c) zs) (hb : Bytes zs) (hn : n ≤ 140737488351232) :
    Calls Tryd.prog 7 #[.slice a n c] w fun e w' => ∃ ua un uc sa sn sc, e = .returned (.tuple #[.agg (lsV (.slice ua un uc) (.slice sa sn sc)), .agg (parseX zs).s.vals, .bool (parseX zs).ok]) ∧ Ro 1 w' (.slice ua un uc) (((parseX zs).us.map strOfNums).map sZ) ∧ Ro 5 w' (.slice sa sn sc) ((parseX zs).ss.map Sg.vals) ∧ un ≤ 8 ∧ sn ≤ 8 ∧ (∀ g, (Value.slice ua un uc).ownBlock = some g → w.heap.size ≤ g) ∧ (∀ g, (Value.slice sa sn sc).ownBlock = some g → w.heap.size ≤ g) ∧ Below w.heap.size w w' := by
  obtain ⟨z1, z2⟩ := parse_small hb
  refine (par_any a n c zs w hr hb hn).mono ?_
  rintro e w' ⟨u, s, he, hp⟩
  obtain ⟨ua, uc, rfl, _⟩ := hp.ur.shape
  obtain ⟨sa, sc, rfl, _⟩ := hp.sr.shape
  exact ⟨ua, _, uc, sa, _, sc, he, uZ_s _ ▸ hp.ur.rd.ro, hp.sr.rd.ro, by simpa using z1, by simpa using z2, hp.nu, hp.ns, hp.bel⟩
theorem Ro.of_block {k : Nat} {w w' : World} {v : Value} {zs : List (Array Value)} (h : Ro k w v zs) (hb : ∀ g, v.ownBlock = some g → w'.heap[g]? = w.heap[g]?) (hs : w.heap.size ≤ w'.heap.size) : Ro k w' v zs := by
  obtain ⟨hw, a, c, rfl, hc, h⟩ := h
  refine ⟨hw, a, c, rfl, hc, fun h0 => ?_⟩
  obtain ⟨g, off, rfl, h2, h3, h4⟩ := h h0
  exact ⟨g, off, rfl, Nat.lt_of_lt_of_le h2 hs, h3, fun j z hj => rangeAt_block (h4 j z hj) (hb g rfl)⟩
theorem Ro.lt {k n : Nat} {w : World} {a : Option Addr} {c : Nat} {zs : List (Array Value)} (h : Ro k w (.slice a n c) zs) (h0 : 0 < n) : ∀ g, (Value.slice a n c).ownBlock = some g → g < w.heap.size := by
  obtain ⟨g, off, rfl, h1, _⟩ := h.at h0
  intro g' e
  have e2 : some g = some g' := e
  injection e2 with e2
  omega
theorem bytes_set {zs : List Int} (h : Bytes zs) (i : Nat) (z : Int) (hz : 0 ≤ z ∧ z ≤ 255) : Bytes (zs.set i z) := bytes_mem fun x hx => by
  rcases List.mem_or_eq_of_mem_set hx with hx | rfl
  · exact bytes_to h x hx
  · exact hz
theorem ro_far {k : Nat} {w w' : World} {v u : Value} {zs : List (Array Value)} (h : Ro k w v zs) (hg : w.grownBy w' u.ownBlock) (g3 : Nat) (hu : u.ownBlock = some g3) (hf : ∀ g, v.ownBlock = some g → g3 < g) : Ro k w' v zs := by
  obtain ⟨hw, a, c, rfl, hc, h⟩ := h
  refine ⟨hw, a, c, rfl, hc, fun h0 => ?_⟩
  obtain ⟨g, off, rfl, h2, h3, h4⟩ := h h0
  exact ⟨g, off, rfl, Nat.lt_of_lt_of_le h2 hg.size, h3, fun j z hj => rangeAt_block (h4 j z hj) (hg.block g h2 (fun e => by rw [hu] at e; injection e with e; have := hf g rfl; omega))⟩
theorem strs_back {l : List (List Int)} {us : List ByteArray} (hb : ∀ s ∈ l, Bytes s) (h : l.map strOfNums = us) : l = us.map nums := by
  rw [← h, List.map_map]
  refine (List.map_id l).symm.trans (List.map_congr_left fun s hs => ?_)
  exact (nums_str s (hb s hs)).symm
end Go.Proofs.YtnebcbfjlkhimaaDoor
