/-
  text: First.
-/
import Derived.Test.YtplifodddfjhdaaGreatDoorXIts
import Derived.RangeFuncWrites
import Derived.Test.YtplifodddfjhdaaGreatDoorXSt
namespace Go.Proofs.YtplifodddfjhdaaGreatDoor
open Go.RowKit Go.Shelf
set_option linter.unusedVariables false
set_option linter.unusedSimpArgs false
attribute [local go_sem] Oper.semAt_some

/-- What a round keeps: every block that lay there, but one. -/
def Kc (n₁ hB : Nat) (W W' : World) : Prop := ∀ j, j < n₁ → j ≠ hB → W'.heap[j]? = W.heap[j]?
theorem Kc.refl (n₁ hB : Nat) (W : World) : Kc n₁ hB W W := fun _ _ _ => rfl
theorem Kc.trans {n₁ hB : Nat} {A B C : World} (h : Kc n₁ hB A B) (k : Kc n₁ hB B C) : Kc n₁ hB A C := fun j h1 h2 => (k j h1 h2).trans (h j h1 h2)
theorem kc_b {n₁ H : Nat} {w : World} (hn : n₁ ≤ w.heap.size) (W : World) (l : Nat) (o o' : Obj) (hl : w.heap.size ≤ l) (h : W.heap[l]? = some o) (_ : o.isCells = false) (_ : o.isWalk = false) : Kc n₁ H W (W.putObj l o') :=
  fun j h1 h2 => World.putObj_heap_other (fun e => by omega)

theorem pieces_in (n : Nat) (S : ByteArray) (w : World) :
    CallsIn Fence.wide n Tryz.prog 54 #[.string S] w fun e w' => e = .returned (.func (.func 65) #[] #[.pointer (some ⟨w.heap.size, 0, none⟩)]) ∧ w' = w.alloc (.cells #[.string S] 9) := by
  refine callsIn_of_wp Tryz.func54 rfl trivial ?_ rfl
  simp only [Tryz.ntmps54, List.size_toArray, List.length_cons, List.length_nil, Nat.reduceAdd, Nat.reduceSub, Array.replicate_succ, Array.replicate_zero, List.push_toArray, List.append_toArray, List.nil_append, List.cons_append]
  gi_wp2
  go_ret
  exact ⟨rfl, rfl⟩
theorem pieces_stops (n : Nat) (hn : 1 ≤ n) (Bs : Nat) (zs : List Int) (hz : Bytes zs) (hl : zs.length ≤ 281474976710656) (w : World) (hlt : Bs < w.heap.size) (Kp : World → World → Prop)
    (hBs : w.cell? ⟨Bs, 0, none⟩ = some (.string (strOfNums zs))) :
    SeqStopsK Fence.wide n Tryz.prog 65 #[.pointer (some ⟨Bs, 0, none⟩)] (fun x : ByteArray => #[.string x]) Kp
      (fun ys => ys = pcsS zs) (fun pre => ∃ r, pcsS zs = pre ++ r) (pcsL zs).length w := fun l J Jx W hW hJ _ hY h0 => by
  have hc1 : W.cell? ⟨Bs, 0, none⟩ = some (.string (strOfNums zs)) := (hW.cell (p := ⟨Bs, 0, none⟩) hlt).trans hBs
  exact pieces1_in n hn l Bs zs hz hl Kp J Jx hY W hc1 hJ h0

/-- What lies between two rounds. -/
structure Fx (w W : World) (own : Value) (os : List ByteArray) (R : ByteArray) : Prop where
  own : W.cell? ⟨w.heap.size, 0, none⟩ = some own
  res : Bx W (w.heap.size + 1) #[.string R]
  bel : Below w.heap.size w W
  hi : w.heap.size + 3 ≤ W.heap.size
theorem Fx.turn {w W W' : World} {own : Value} {os : List ByteArray} {R : ByteArray} (h : Fx w W own os R) {row : Option Nat} (hg : W.grownBy W' row) (hr : ∀ r, row = some r → w.heap.size + 3 ≤ r) : Fx w W' own os R :=
  ⟨by rw [far_cell hg ⟨w.heap.size, 0, none⟩ (by have := h.hi; show w.heap.size < _; omega) (fun e => by have := hr _ e; simp at this; omega)]; exact h.own,
   h.res.grown hg (fun e => by have := hr _ e; omega), h.bel.grown hg h.bel.size (fun k e => by have := hr _ e; omega), Nat.le_trans h.hi hg.size⟩
/-- The first piece that is one of our own. -/
def firstP (os : List ByteArray) : List ByteArray → ByteArray
  | [] => ⟨#[82, 101, 106, 101, 99, 116]⟩
  | x :: r => if Lib.containsS os x = true then x else firstP os r
theorem firstP_none {os : List ByteArray} : ∀ {l : List ByteArray}, (∀ x ∈ l, ¬ Lib.containsS os x = true) → firstP os l = ⟨#[82, 101, 106, 101, 99, 116]⟩
  | [], _ => rfl
  | x :: r, h => by rw [firstP, if_neg (h x (by simp))]; exact firstP_none (fun y hy => h y (by simp [hy]))
theorem firstP_hit {os : List ByteArray} {x : ByteArray} (hx : Lib.containsS os x = true) : ∀ {p r : List ByteArray}, (∀ y ∈ p, ¬ Lib.containsS os y = true) → firstP os (p ++ x :: r) = x
  | [], r, _ => by simp [firstP, hx]
  | y :: p, r, h => by rw [List.cons_append, firstP, if_neg (h y (by simp))]; exact firstP_hit hx (fun z hz => h z (by simp [hz]))

theorem fx_set {w W : World} {own : Value} {os : List ByteArray} {R R' : ByteArray} (h : Fx w W own os R) : Fx w (W.setCell ⟨w.heap.size + 1, 0, none⟩ (.string R')) own os R' := by
  have hg := grown_setCellK W ⟨w.heap.size + 1, 0, none⟩ (.string R')
  refine ⟨?_, bx_set (ds := #[.string R']) h.res rfl, h.bel.grown hg h.bel.size (fun k e => by cases e; show w.heap.size ≤ w.heap.size + 1; omega), Nat.le_trans h.hi hg.size⟩
  rw [far_cell hg ⟨w.heap.size, 0, none⟩ (by have := h.hi; show w.heap.size < _; omega) (fun e => by have e' : w.heap.size + 1 = w.heap.size := (by injection e); omega)]
  exact h.own
set_option maxRecDepth 100000 in
set_option maxHeartbeats 2000000 in
theorem first_any (zs : List Int) (hz : Bytes zs) (hl : zs.length ≤ 281474976710656) (a : Option Addr) (n c : Nat) (os : List ByteArray) (w : World) (h : StAt w (.slice a n c) os) (hn : n ≤ maxLen) :
    Calls Tryz.prog 45 #[.string (strOfNums zs), .slice a n c] w fun e w' => e = .returned (.string (firstP os (pcsS zs))) ∧ Below w.heap.size w w' := by
  refine (callsIn_wide (n := 9)).1 ?_
  refine callsIn_of_wp_marks Tryz.func45 rfl trivial ?_ rfl
  simp only [Tryz.ntmps45, List.size_toArray, List.length_cons, List.length_nil, Nat.reduceAdd, Nat.reduceSub, Array.replicate_succ, Array.replicate_zero, List.push_toArray, List.append_toArray, List.nil_append, List.cons_append]
  replace h := Kpt.mk h
  gi_wp2_with ((refine ⟨trivial, ?_⟩; gi_at_call 54; go_must (refine (pieces_in _ _ _).mono ?_; rintro e w' ⟨rfl, rfl⟩)))
  have hF0 : Fx w (((w.alloc (.cells #[.slice a n c] 22)).alloc (.cells #[.string ⟨#[]⟩] 9)).alloc (.cells #[.string (strOfNums zs)] 9)) (.slice a n c) os ⟨#[]⟩ := by
    have hbel := (((Below.refl _ w).alloc (Nat.le_refl _) (.cells #[.slice a n c] 22)).alloc (by simp) (.cells #[.string ⟨#[]⟩] 9)).alloc (by simp; omega) (.cells #[.string (strOfNums zs)] 9)
    refine ⟨?_, ?_, hbel, by simp⟩
    · have := (((bx_new w #[.slice a n c] 22).alloc (.cells #[.string ⟨#[]⟩] 9)).alloc (.cells #[.string (strOfNums zs)] 9)).cells 0 (by simp)
      exact this
    · have := (bx_new (w.alloc (.cells #[.slice a n c] 22)) #[.string ⟨#[]⟩] 9).alloc (.cells #[.string (strOfNums zs)] 9)
      rw [World.size_alloc] at this
      exact this
  have hZ0 : (((w.alloc (.cells #[.slice a n c] 22)).alloc (.cells #[.string ⟨#[]⟩] 9)).alloc (.cells #[.string (strOfNums zs)] 9)).heap.size = w.heap.size + 3 := by simp
  have hC0 : (((w.alloc (.cells #[.slice a n c] 22)).alloc (.cells #[.string ⟨#[]⟩] 9)).alloc (.cells #[.string (strOfNums zs)] 9)).cell? ⟨w.heap.size + 1 + 1, 0, none⟩ = some (.string (strOfNums zs)) := by
    have := (bx_new ((w.alloc (.cells #[.slice a n c] 22)).alloc (.cells #[.string ⟨#[]⟩] 9)) #[.string (strOfNums zs)] 9).cells 0 (by simp)
    rw [World.size_alloc, World.size_alloc] at this
    exact this
  generalize hW0 : (((w.alloc (.cells #[.slice a n c] 22)).alloc (.cells #[.string ⟨#[]⟩] 9)).alloc (.cells #[.string (strOfNums zs)] 9)) = W0 at hF0 hZ0 hC0 ⊢
  clear hW0
  have hO1 : OwnFrom W0.heap.size (fun (pre : List ByteArray) (W : World) => Fx w W (.slice a n c) os ⟨#[]⟩ ∧ ∀ x ∈ pre, ¬ Lib.containsS os x = true) := by
    rw [hZ0]
    intro s W W' row hs hg hr
    exact ⟨hs.1.turn hg (fun r e => (hr r e).1), hs.2⟩
  have hO2 : ∀ cd, OwnFrom W0.heap.size ((fun (cd : Code) (pre : List ByteArray) (W : World) => cd = .ret ∧ ∃ p x, pre = p ++ [x] ∧ Fx w W (.slice a n c) os x ∧ Lib.containsS os x = true ∧ ∀ y ∈ p, ¬ Lib.containsS os y = true) cd) := by
    rw [hZ0]
    intro cd s W W' row hs hg hr
    obtain ⟨h1, p, x, h2, h3, h4, h5⟩ := hs
    exact ⟨h1, p, x, h2, h3.turn hg (fun r e => (hr r e).1), h4, h5⟩
  refine wpIn_rangeFunc_ownG rfl (by omega) (gf := 65) (lb := #[.pointer (some ⟨w.heap.size + 1 + 1, 0, none⟩)]) rfl trivial (enters_of Tryz.func65 (by kernel_rfl) rfl)
    (pieces_stops 8 (by omega) (w.heap.size + 1 + 1) zs hz hl W0 (by omega) (Kc (w.heap.size + 3) (w.heap.size + 1)) hC0)
    Kc.trans (kc_b (by omega)) (Below.refl _ _) (fun _ => rfl)
    (fun (pre : List ByteArray) (W : World) => Fx w W (.slice a n c) os ⟨#[]⟩ ∧ ∀ x ∈ pre, ¬ Lib.containsS os x = true)
    (fun (cd : Code) (pre : List ByteArray) (W : World) => cd = .ret ∧ ∃ p x, pre = p ++ [x] ∧ Fx w W (.slice a n c) os x ∧ Lib.containsS os x = true ∧ ∀ y ∈ p, ¬ Lib.containsS os y = true)
    hO1 hO2
    ⟨hF0, fun x hx => by cases hx⟩
    ?a0 ?assign ?body ?done ?stop
  case assign =>
    intro l x W K hK
    gi_wp2
    exact hK
  case body =>
    rintro l pre x W ⟨hS, hno⟩ h0
    have hown := hS.own
    have hc0 : W.cell? ⟨w.heap.size + 1, 0, none⟩ = some (.string ⟨#[]⟩) := hS.res.cells 0 (by simp)
    have hf0 := hS.res.free 0
    have hc := Kpt.mk (contains_any a n c os x W (h.out.bel hS.bel) hn)
    replace hS := Kpt.mk hS
    replace hno := Kpt.mk hno
    by_cases hx : Lib.containsS os x = true
    · rw [hx] at hc
      replace hx := Kpt.mk hx
      clear hO1 hO2 hF0 hC0
      gi_wp2_with ((refine ⟨trivial, ?_⟩; gi_at_call 53; go_must (refine (CallsIn.inRound l (callsIn_wide.2 hc.out)).mono ?_; rintro e W1 ⟨rfl, rfl⟩)))
      exact ⟨(KeepsOthers.setCell _ _ _).from _, rfl, pre, x, rfl, fx_set hS.out, hx.out, hno.out⟩
    · have hx' : Lib.containsS os x = false := by simpa using hx
      rw [hx'] at hc
      replace hx := Kpt.mk hx
      clear hO1 hO2 hF0 hC0 hx'
      gi_wp2_with ((refine ⟨trivial, ?_⟩; gi_at_call 53; go_must (refine (CallsIn.inRound l (callsIn_wide.2 hc.out)).mono ?_; rintro e W1 ⟨rfl, rfl⟩)))
      exact ⟨KeepsFrom.refl _ _, Kc.refl _ _ _, hS.out, fun y hy => by
        rcases List.mem_append.1 hy with hy | hy
        · exact hno.out y hy
        · rw [List.mem_singleton.1 hy]; exact hx.out⟩
  case done =>
    rintro D ys W hD rfl ⟨hS, hno⟩ hK
    have hfin := Kpt.mk (firstP_none hno)
    have hc0 : W.cell? ⟨w.heap.size + 1, 0, none⟩ = some (.string ⟨#[]⟩) := hS.res.cells 0 (by simp)
    have hf0 := hS.res.free 0
    have hF1 := Kpt.mk (fx_set (R' := ⟨#[82, 101, 106, 101, 99, 116]⟩) hS)
    have hDlt : Kpt (D < W.heap.size) := ⟨by rcases Nat.lt_or_ge D W.heap.size with h' | h'; exact h'; rw [Array.getElem?_eq_none h'] at hK; cases hK⟩
    replace hK := Kpt.mk hK
    replace hD := Kpt.mk hD
    replace hS := Kpt.mk hS
    clear hO1 hO2 hF0 hC0 hno
    gi_wp2
    have hWD : (W.setCell ⟨w.heap.size + 1, 0, none⟩ (.string ⟨#[82, 101, 106, 101, 99, 116]⟩)).heap[D]? = some (.deferred (some [])) := by
      rw [(grown_setCellK W ⟨w.heap.size + 1, 0, none⟩ _).block D hDlt.out (fun e => by have e' : w.heap.size + 1 = D := (by injection e with e; exact e.symm); have := hD.out; omega)]; exact hK.out
    have hb6 : Below w.heap.size w ((W.setCell ⟨w.heap.size + 1, 0, none⟩ (.string ⟨#[82, 101, 106, 101, 99, 116]⟩)).putObj D (.deferred none)) := hF1.out.bel.grown (grownBy_putObj' _ D (.deferred none)) hF1.out.bel.size (fun q e => by cases e; have := hD.out; omega)
    have hX7 : ((W.setCell ⟨w.heap.size + 1, 0, none⟩ (.string ⟨#[82, 101, 106, 101, 99, 116]⟩)).putObj D (.deferred none)).cell? ⟨w.heap.size + 1, 0, none⟩ = some (.string ⟨#[82, 101, 106, 101, 99, 116]⟩) := (hF1.out.res.grown (grownBy_putObj' _ D (.deferred none)) (by simp; have := hD.out; omega)).cells 0 (by simp)
    refine ⟨by simp [Act.put], .inl ⟨_, _, rfl, run_takeDeferred hWD, ?_⟩⟩
    exact ⟨.string ⟨#[82, 101, 106, 101, 99, 116]⟩, (by simp [results, Tryz.results45, asAddr, Act.put, loadVar, hX7, go_sem]), by rw [hfin.out], hb6⟩
  case stop =>
    rintro D cd pre W hD ⟨r, hr⟩ ⟨rfl, p, x, rfl, hS, hx, hno⟩ hK
    have hfin : firstP os (pcsS zs) = x := by rw [hr, List.append_assoc]; exact firstP_hit hx hno
    clear hO1 hO2 hF0 hC0
    gi_wp2
    have hb6 : Below w.heap.size w (W.putObj D (.deferred none)) := hS.bel.grown (grownBy_putObj' _ D (.deferred none)) hS.bel.size (fun q e => by cases e; have := hD; omega)
    have hX7 : (W.putObj D (.deferred none)).cell? ⟨w.heap.size + 1, 0, none⟩ = some (.string x) := (hS.res.grown (grownBy_putObj' _ D (.deferred none)) (by simp; have := hD; omega)).cells 0 (by simp)
    refine ⟨by simp [Act.put], .inl ⟨_, _, rfl, run_takeDeferred hK, ?_⟩⟩
    exact ⟨.string x, (by simp [results, Tryz.results45, asAddr, Act.put, loadVar, hX7, go_sem]), by rw [hfin], hb6⟩
end Go.Proofs.YtplifodddfjhdaaGreatDoor
