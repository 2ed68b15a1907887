/-
  pdu: the document's Encode, first part.
-/
import Derived.Test.YtigfoldobkigeaaULen
namespace Go.Proofs.Ytigfoldobkigeaa
open Go.RowKit
set_option linter.unusedVariables false
set_option linter.unusedSimpArgs false

theorem rsum_any (v : Value) (zs : List Int) (w : World) (hr : RdAt w v zs) (hm : zs.length ≤ maxLen) (hb : Bytes zs) :
    Calls Try.prog 25 #[v] w fun e w' => ∃ g, e = .returned (.slice (some ⟨g, 0, none⟩) 4 4) ∧ w'.ownsRow w.heap.size 5 1 (.slice (some ⟨g, 0, none⟩) 4 4) 4 (cels (bigL (sumL zs) 4)) ∧ Below w.heap.size w w' := by
  have h1 := rc32_rd v zs w hr hm hb
  have hs := sumL_lt zs
  obtain ⟨S, hS⟩ : ∃ S, S = sumL zs := ⟨_, rfl⟩
  rw [← hS] at h1 hs ⊢
  have h2 : Calls Try.prog 24 #[.int .u64 S, .int .i64 4] w fun e w' => ∃ g, e = .returned (.slice (some ⟨g, 0, none⟩) 4 4) ∧ w'.ownsRow w.heap.size 5 1 (.slice (some ⟨g, 0, none⟩) 4 4) 4 (cels (bigL S 4)) ∧ Below w.heap.size w w' := big_any S 4 w (by omega) (by omega) (by decide) (by decide)
  have hw : IntKind.u64.wrap (S : Int) = S := B.wrap64_id _ (by omega) (by omega)
  replace h1 := Kpt.mk h1
  replace h2 := Kpt.mk h2
  clear hS hr
  go_enter Try.func25, Try.ntmps25
  go_wp2_with (first
    | (go_at_call 24; go_must (refine h2.out.mono ?_; rintro e w2 ⟨g, rfl, ho, hbe⟩; replace ho := Kpt.mk ho; replace hbe := Kpt.mk hbe))
    | (go_at_call 33; go_must (refine h1.out.mono ?_; rintro e w ⟨rfl, rfl⟩)))
  go_ret
  exact ⟨g, rfl, ho.out, hbe.out⟩
theorem big4_any (x : Int) (w : World) (h0 : 0 ≤ x) (h1 : x ≤ 4294967295) : Calls Try.prog 24 #[.int .u64 x, .int .i64 4] w fun e w' => ∃ g, e = .returned (.slice (some ⟨g, 0, none⟩) 4 4) ∧ w'.ownsRow w.heap.size 5 1 (.slice (some ⟨g, 0, none⟩) 4 4) 4 (cels (bigL x 4)) ∧ Below w.heap.size w w' := big_any x 4 w h0 (by omega) (by decide) (by decide)
theorem big3_any (x : Int) (w : World) (h0 : 0 ≤ x) (h1 : x ≤ 4294967295) : Calls Try.prog 24 #[.int .u64 x, .int .i64 3] w fun e w' => ∃ g, e = .returned (.slice (some ⟨g, 0, none⟩) 3 3) ∧ w'.ownsRow w.heap.size 5 1 (.slice (some ⟨g, 0, none⟩) 3 3) 3 (cels (bigL x 3)) ∧ Below w.heap.size w w' := big_any x 3 w h0 (by omega) (by decide) (by decide)

/-- The document's row of a head, the first k words laid. -/
def rK (p : Pd) : Nat → List Int
  | 0 => [p.op, p.fl, p.rs, p.st, 0] ++ bigL p.d.length 3 ++ [0, p.lun, 0, 0, 0, 0, 0, 0] ++ bigL p.tag 4
  | k + 1 => rK p k ++ bigL (p.ws.getD k 0) 4
theorem rK_len (p : Pd) : ∀ k, (rK p k).length = 20 + 4 * k
  | 0 => by simp [rK, bigL_len]
  | k + 1 => by rw [rK, List.length_append, rK_len p k, bigL_len]; omega
theorem rK_seven (p : Pd) (h : p.ws.length = 7) : rK p 7 = headL p := by
  obtain ⟨a, b, c, d, e, f, g, hw⟩ := seven h
  unfold headL
  simp [rK, hw]

/-- The document's Encode, between its steps: the box, the bytes laid. -/
structure RE (w W : World) (w0s B : Nat) (V : Array Value) (g n cap : Nat) (zs : List Int) : Prop where
  bel : Below w.heap.size w W
  bx : Bx W B V
  row : W.ownsRow w0s 5 1 (.slice (some ⟨g, 0, none⟩) n cap) n (cels zs)
  lt : B < w0s
  le : w0s ≤ W.heap.size
  ws : w.heap.size ≤ w0s
theorem RE.len {w W : World} {w0s B g n cap : Nat} {V : Array Value} {zs : List Int} (h : RE w W w0s B V g n cap zs) : zs.length = n := by have := h.row.1; simpa using this
theorem RE.below {w W W' : World} {w0s B g n cap : Nat} {V : Array Value} {zs : List Int} (h : RE w W w0s B V g n cap zs) (hb : Below W.heap.size W W') : RE w W' w0s B V g n cap zs :=
  ⟨h.bel.trans (hb.mono h.bel.size), h.bx.below hb h.bx.lt, own_of_block h.row fun g' hg' => hb.block g' (World.ownsRow.lt h.row g' hg').2, h.lt, Nat.le_trans h.le hb.size, h.ws⟩
theorem RE.app {w W W' : World} {w0s B g n cap g' n' cap' : Nat} {V : Array Value} {zs zs' : List Int} (h : RE w W w0s B V g n cap zs) (ho : W'.ownsRow w0s 5 1 (.slice (some ⟨g', 0, none⟩) n' cap') n' (cels zs')) (hg : W.grownBy W' (some g)) : RE w W' w0s B V g' n' cap' zs' :=
  have hgb := (World.ownsRow.lt h.row g rfl).1
  ⟨h.bel.grown hg h.bel.size (fun k e => by cases e; exact Nat.le_trans h.ws hgb), h.bx.grown hg (fun e => by have := Option.some.inj e; have := h.lt; omega), ho, h.lt, Nat.le_trans h.le hg.size, h.ws⟩

theorem RE.other {w W W' : World} {w0s B g n cap b1 : Nat} {V : Array Value} {zs : List Int} {row : Option Nat} (h : RE w W w0s B V g n cap zs) (hg : W.grownBy W' row) (hr : ∀ k, row = some k → b1 ≤ k) (h1 : g < b1) (h2 : w0s ≤ b1) : RE w W' w0s B V g n cap zs :=
  ⟨h.bel.grown hg h.bel.size (fun k e => Nat.le_trans h.ws (Nat.le_trans h2 (hr k e))), h.bx.grown hg (fun e => by have := hr _ e; have := h.lt; omega), own_of_block h.row fun g' hg' => hg.block g' (World.ownsRow.lt h.row g' hg').2 (fun e => by cases hg'; have := hr _ e.symm; simp at this; omega), h.lt, Nat.le_trans h.le hg.size, h.ws⟩
theorem own_len {w : World} {b n : Nat} {v : Value} {zs : List Int} (h : w.ownsRow b 5 1 v n (cels zs)) : ∃ a c, v = .slice a n c := by
  rcases h.2 with ⟨rfl, h0⟩ | ⟨g, cap, cur, rfl, _⟩
  · exact ⟨none, 0, by rw [h0]⟩
  · exact ⟨_, _, rfl⟩
theorem own_rdv {w : World} {b n : Nat} {v : Value} {zs : List Int} (h : w.ownsRow b 5 1 v n (cels zs)) : RdAt w v zs := by
  have hz : zs.length = n := by have := h.1; simpa using this
  refine Row.rd (show w.ownsRow 0 5 1 _ zs.length _ from ⟨by simp, ?_⟩)
  rw [hz]
  rcases h.2 with h1 | ⟨g, cap, cur, e, _, rest⟩
  · exact .inl h1
  · exact .inr ⟨g, cap, cur, e, Nat.zero_le _, rest⟩
def sliceN : Value → Nat
  | .slice _ n _ => n
  | _ => 0
end Go.Proofs.Ytigfoldobkigeaa
