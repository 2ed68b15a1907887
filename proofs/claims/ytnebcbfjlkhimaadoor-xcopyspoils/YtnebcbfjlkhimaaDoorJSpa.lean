/-
  Spoils: the ways that end early.
-/
import Derived.Test.YtnebcbfjlkhimaaDoorJSp0
namespace Go.Proofs.YtnebcbfjlkhimaaDoor
open Go.RowKit
set_option linter.unusedVariables false
set_option linter.unusedSimpArgs false
set_option maxRecDepth 100000 in
set_option maxHeartbeats 4000000 in
theorem spl_zero (ua sa : Option Addr) (un uc sn sc : Nat) (us : List ByteArray) (ss : List Sg) (w : World) (h1 : Ro 1 w (.slice ua un uc) (us.map sZ)) (h2 : Ro 5 w (.slice sa sn sc) (ss.map Sg.vals)) (at' : Nat) :
    Calls Tryd.prog 5 #[.agg (lsV (.slice ua un uc) (.slice sa sn sc)), .int .u16 at', .int .u8 0] w fun e w' => e = .returned (.bool true) ∧ Below w.heap.size w w' := by
  have hAw := Kpt.mk awake_any
  have R1 := Kpt.mk h1
  have R2 := Kpt.mk h2
  clear h1 h2
  have hb := Kpt.mk (Below.refl w.heap.size w)
  go_enter Tryd.func5, Tryd.ntmps5
  go_wp2_with (first
    | (go_at_call 6; have hm := m2; go_must (refine (hAw.out _).mono ?_; rintro e w3 ⟨rfl, h_⟩; replace Oa := Kpt.mk (Oa.out.below h_ Oa.out.lt); replace R1 := Kpt.mk (R1.out.bel h_); replace R2 := Kpt.mk (R2.out.bel h_); replace hb := Kpt.mk (hb.out.trans (h_.mono hb.out.size)); clear h_; clear hm m2; have m3 : Kpt True := ⟨trivial⟩))
    | (go_at_call 6; have hm := m1; go_must (refine (hAw.out _).mono ?_; rintro e w2 ⟨rfl, h_⟩; replace Oa := Kpt.mk (Oa.out.below h_ Oa.out.lt); replace R1 := Kpt.mk (R1.out.bel h_); replace R2 := Kpt.mk (R2.out.bel h_); replace hb := Kpt.mk (hb.out.trans (h_.mono hb.out.size)); clear h_; clear hm m1; have m2 : Kpt True := ⟨trivial⟩))
    | (refine wpList_box rfl 27 _ rfl (lsV (.slice ua un uc) (.slice sa sn sc)) rfl ?_; intro ba w1 hl_ hX_ h_ _; replace R1 := Kpt.mk (R1.out.bel h_); replace R2 := Kpt.mk (R2.out.bel h_); replace hb := Kpt.mk (hb.out.trans (h_.mono hb.out.size)); have Oa := Kpt.mk hX_; clear hl_ hX_ h_; have m1 : Kpt True := ⟨trivial⟩)
    | fail)
  go_ret
  exact ⟨rfl, hb.out⟩
set_option maxRecDepth 100000 in
set_option maxHeartbeats 4000000 in
theorem spl_long (ua sa : Option Addr) (un uc sn sc : Nat) (us : List ByteArray) (ss : List Sg) (w : World) (h1 : Ro 1 w (.slice ua un uc) (us.map sZ)) (h2 : Ro 5 w (.slice sa sn sc) (ss.map Sg.vals)) (at' y : Nat) (hy0 : y ≠ 0) (h : 8 < un ∨ 8 < sn) :
    Calls Tryd.prog 5 #[.agg (lsV (.slice ua un uc) (.slice sa sn sc)), .int .u16 at', .int .u8 y] w fun e w' => e = .returned (.bool true) ∧ Below w.heap.size w w' := by
  have hBy := Kpt.mk (fun W => by_long ua sa un uc sn sc W h)
  have hy' : ((y : Int) == 0) = false := by simp; omega
  have hAw := Kpt.mk awake_any
  have R1 := Kpt.mk h1
  have R2 := Kpt.mk h2
  clear h1 h2
  have hb := Kpt.mk (Below.refl w.heap.size w)
  go_enter Tryd.func5, Tryd.ntmps5
  go_wp2_with (first
    | (go_at_call 10; have hm := m2; go_must (refine (hBy.out _).mono ?_; rintro e w3 ⟨rfl, h_⟩; replace Oa := Kpt.mk (Oa.out.below h_ Oa.out.lt); replace R1 := Kpt.mk (R1.out.bel h_); replace R2 := Kpt.mk (R2.out.bel h_); replace hb := Kpt.mk (hb.out.trans (h_.mono hb.out.size)); clear h_; clear hm m2; have m3 : Kpt True := ⟨trivial⟩))
    | (go_at_call 6; have hm := m1; go_must (refine (hAw.out _).mono ?_; rintro e w2 ⟨rfl, h_⟩; replace Oa := Kpt.mk (Oa.out.below h_ Oa.out.lt); replace R1 := Kpt.mk (R1.out.bel h_); replace R2 := Kpt.mk (R2.out.bel h_); replace hb := Kpt.mk (hb.out.trans (h_.mono hb.out.size)); clear h_; clear hm m1; have m2 : Kpt True := ⟨trivial⟩))
    | (refine wpList_box rfl 27 _ rfl (lsV (.slice ua un uc) (.slice sa sn sc)) rfl ?_; intro ba w1 hl_ hX_ h_ _; replace R1 := Kpt.mk (R1.out.bel h_); replace R2 := Kpt.mk (R2.out.bel h_); replace hb := Kpt.mk (hb.out.trans (h_.mono hb.out.size)); have Oa := Kpt.mk hX_; clear hl_ hX_ h_; have m1 : Kpt True := ⟨trivial⟩)
    | (refine wpList_load_bx rfl 27 _ rfl ba (lsV (.slice ua un uc) (.slice sa sn sc)) rfl Oa.out _ Tryd.underlying27 rfl infoL ?_)
    | fail)
  go_ret
  exact ⟨rfl, hb.out⟩
set_option maxRecDepth 100000 in
set_option maxHeartbeats 4000000 in
theorem spl_form (ua sa : Option Addr) (un uc sn sc : Nat) (us : List ByteArray) (ss : List Sg) (w : World) (h1 : Ro 1 w (.slice ua un uc) (us.map sZ)) (h2 : Ro 5 w (.slice sa sn sc) (ss.map Sg.vals)) (at' y : Nat) (hy0 : y ≠ 0) (hu8 : un ≤ 8) (hs8 : sn ≤ 8) (hf : ¬ ((∀ S ∈ us, Ser (nums S)) ∧ ∀ g ∈ ss, Seg un g)) :
    Calls Tryd.prog 5 #[.agg (lsV (.slice ua un uc) (.slice sa sn sc)), .int .u16 at', .int .u8 y] w fun e w' => e = .returned (.bool true) ∧ Below w.heap.size w w' := by
  have hBy := Kpt.mk (fun W (hb : Below w.heap.size w W) => by_form ua sa un uc sn sc us ss W (h1.bel hb) (h2.bel hb) hu8 hs8 hf)
  have hy' : ((y : Int) == 0) = false := by simp; omega
  have hAw := Kpt.mk awake_any
  have R1 := Kpt.mk h1
  have R2 := Kpt.mk h2
  clear h1 h2
  have hb := Kpt.mk (Below.refl w.heap.size w)
  go_enter Tryd.func5, Tryd.ntmps5
  go_wp2_with (first
    | (go_at_call 10; have hm := m2; go_must (refine (hBy.out _ hb.out).mono ?_; rintro e w3 ⟨rfl, h_⟩; replace Oa := Kpt.mk (Oa.out.below h_ Oa.out.lt); replace R1 := Kpt.mk (R1.out.bel h_); replace R2 := Kpt.mk (R2.out.bel h_); replace hb := Kpt.mk (hb.out.trans (h_.mono hb.out.size)); clear h_; clear hm m2; have m3 : Kpt True := ⟨trivial⟩))
    | (go_at_call 6; have hm := m1; go_must (refine (hAw.out _).mono ?_; rintro e w2 ⟨rfl, h_⟩; replace Oa := Kpt.mk (Oa.out.below h_ Oa.out.lt); replace R1 := Kpt.mk (R1.out.bel h_); replace R2 := Kpt.mk (R2.out.bel h_); replace hb := Kpt.mk (hb.out.trans (h_.mono hb.out.size)); clear h_; clear hm m1; have m2 : Kpt True := ⟨trivial⟩))
    | (refine wpList_box rfl 27 _ rfl (lsV (.slice ua un uc) (.slice sa sn sc)) rfl ?_; intro ba w1 hl_ hX_ h_ _; replace R1 := Kpt.mk (R1.out.bel h_); replace R2 := Kpt.mk (R2.out.bel h_); replace hb := Kpt.mk (hb.out.trans (h_.mono hb.out.size)); have Oa := Kpt.mk hX_; clear hl_ hX_ h_; have m1 : Kpt True := ⟨trivial⟩)
    | (refine wpList_load_bx rfl 27 _ rfl ba (lsV (.slice ua un uc) (.slice sa sn sc)) rfl Oa.out _ Tryd.underlying27 rfl infoL ?_)
    | fail)
  go_ret
  exact ⟨rfl, hb.out⟩
end Go.Proofs.YtnebcbfjlkhimaaDoor
