/-
  The contract of whole.
-/
import Derived.Test.YtcgojpnjaloofaaCBit
import Derived.Lib.SliceRun
import Derived.WalkSpells
namespace Go.Proofs.Ytcgojpnjaloofaa
open Go.RowKit
set_option linter.unusedVariables false
set_option linter.unusedSimpArgs false

theorem eq_nil (W : World) (a : Option Addr) (n c : Nat) : (binOp .eql 22 (.slice a n c) (.slice none 0 0)).run Try.prog W = .ok (.bool a.isNone) W := Lib.run_eql_slice_nil W 22 5 a n c 0 0 Try.underlying22
theorem ne_nil (W : World) (a : Option Addr) (n c : Nat) : (binOp .neq 22 (.slice a n c) (.slice none 0 0)).run Try.prog W = .ok (.bool (!a.isNone)) W := run_neq_slice_nil_any W 22 5 a n c 0 0 Try.underlying22

theorem New.trans {w w1 w2 : World} {v : Value} {zs : List Int} (h : Below w.heap.size w w1) (h2 : New w1 w2 v zs) : New w w2 v zs := by
  obtain ⟨h3, h4⟩ := h2
  refine ⟨⟨h3.1, ?_⟩, h.trans (h4.mono h.size)⟩
  rcases h3.2 with h' | ⟨g, cap, cur, e, hb, rest⟩
  · exact .inl h'
  · exact .inr ⟨g, cap, cur, e, Nat.le_trans h.size hb, rest⟩

set_option maxRecDepth 100000 in
theorem whole_empty (a : Option Addr) (cap : Nat) (w : World) :
    Calls Try.prog 17 #[.slice a 0 cap] w fun e w' => e = .returned (.tuple #[.slice none 0 0, .agg (faultS 0 (-1)).vals, .bool false]) ∧ Below w.heap.size w w' := by
  have H := fun w => Kpt.mk (fault_any 0 (-1) w)
  generalize hR : faultS 0 (-1) = R at *
  clear hR
  go_enter Try.func17, Try.ntmps17
  go_wp2_with (first
    | (go_at_call 14; refine (H _).out.mono ?_; rintro e w1 ⟨rfl, hb⟩; have HB : Kpt (Below w.heap.size w w1) := ⟨((Below.refl _ _).alloc (Nat.le_refl _) _).trans (hb.mono (by simp))⟩; have B0 : Kpt (Bx w1 w.heap.size zeroS) := ⟨(bx_new w zeroS 30).below hb (by simp)⟩; clear hb)
    | (refine wpList_store_bx rfl 30 (.tmp 3) (.tmp 9) rfl w.heap.size zeroS R.vals rfl rfl B0.out rfl infoS (Sn.vals_one _) rfl ?_; intro w2 hB2 hg2; replace hB2 := Kpt.mk hB2; replace hg2 := Kpt.mk hg2))
  refine bodyPost_ret (v := .tuple #[.slice none 0 0, .agg R.vals, .bool false]) (by simp [results, Try.results17, asAddr, run_res hB2.out 30 _ Try.underlying30 rfl infoS]) rfl ⟨rfl, ?_⟩
  exact HB.out.grown hg2.out (by have := B0.out.lt; omega) (fun k h => by cases h; exact Nat.le_refl _)

set_option maxRecDepth 100000 in
theorem whole_none (b off n cap : Nat) (op : Int) (w : World) (hn : 0 < n) (hlt : b < w.heap.size) (c0 : w.cell? ⟨b, off, none⟩ = some (.int .u8 op)) (hm : maskL op = []) :
    Calls Try.prog 17 #[.slice (some ⟨b, off, none⟩) n cap] w fun e w' => e = .returned (.tuple #[.slice none 0 0, .agg noOpS.vals, .bool false]) ∧ Below w.heap.size w w' := by
  have H := fun w => Kpt.mk (noOp_any w)
  have L := fun w => Kpt.mk (looked_nil op w hm)
  have hn' : ¬ (n : Int) = 0 := by omega
  have hn2 : (0 : Int) < n := by omega
  have hnil := eq_nil
  generalize hR : noOpS = R at *
  clear hR hm
  go_enter Try.func17, Try.ntmps17
  go_wp2_with (first
    | (go_at_call 25; refine (L _).out.mono ?_; rintro e w1 ⟨rfl, rfl⟩)
    | (go_at_call 28; refine (H _).out.mono ?_; rintro e w1 ⟨rfl, hb⟩; have HB : Kpt (Below w.heap.size w w1) := ⟨((Below.refl _ _).alloc (Nat.le_refl _) _).trans (hb.mono (by simp))⟩; have B0 : Kpt (Bx w1 w.heap.size zeroS) := ⟨(bx_new w zeroS 30).below hb (by simp)⟩; clear hb)
    | (refine wpList_store_bx rfl 30 (.tmp 3) (.tmp 16) rfl w.heap.size zeroS R.vals rfl rfl B0.out rfl infoS (Sn.vals_one _) rfl ?_; intro w2 hB2 hg2; replace hB2 := Kpt.mk hB2; replace hg2 := Kpt.mk hg2))
  refine bodyPost_ret (v := .tuple #[.slice none 0 0, .agg R.vals, .bool false]) (by simp [results, Try.results17, asAddr, run_res hB2.out 30 _ Try.underlying30 rfl infoS]) rfl ⟨rfl, ?_⟩
  exact HB.out.grown hg2.out (by have := B0.out.lt; omega) (fun k h => by cases h; exact Nat.le_refl _)

set_option maxRecDepth 100000 in
theorem whole_short (b off n cap : Nat) (op : Int) (w : World) (hn : 0 < n) (hlt : b < w.heap.size) (c0 : w.cell? ⟨b, off, none⟩ = some (.int .u8 op)) (hm : maskL op ≠ []) (hs : n < (maskL op).length) (hml : (maskL op).length ≤ 16) :
    Calls Try.prog 17 #[.slice (some ⟨b, off, none⟩) n cap] w fun e w' => e = .returned (.tuple #[.slice none 0 0, .agg (faultS n (-1)).vals, .bool false]) ∧ Below w.heap.size w w' := by
  have H := fun w => Kpt.mk (fault_any n (-1) w)
  have L := fun w => Kpt.mk (looked_any op w hm)
  have hn' : ¬ (n : Int) = 0 := by omega
  have hn2 : (0 : Int) < n := by omega
  have hnil := eq_nil
  generalize hR : faultS n (-1) = R at *
  generalize hM : (maskL op).length = m at *
  obtain ⟨cs, hcs⟩ : ∃ cs, cs = (cels (maskL op)).toArray := ⟨_, rfl⟩
  rw [← hcs] at L
  clear hR hm hM hcs
  have hs' : (n : Int) < m := by omega
  go_enter Try.func17, Try.ntmps17
  go_wp2_with (first
    | (go_at_call 25; refine (L _).out.mono ?_; rintro e w1 ⟨rfl, rfl⟩)
    | (go_at_call 14; refine (H _).out.mono ?_; rintro e w1 ⟨rfl, hb⟩; have HB : Kpt (Below w.heap.size w w1) := ⟨(((Below.refl _ _).alloc (Nat.le_refl _) _).alloc (by simp) _).trans (hb.mono (by simp; omega))⟩; have B0 : Kpt (Bx w1 w.heap.size zeroS) := ⟨((bx_new w zeroS 30).alloc _).below hb (by simp; omega)⟩; clear hb)
    | (refine wpList_store_bx rfl 30 (.tmp 3) (.tmp 24) rfl w.heap.size zeroS R.vals rfl rfl B0.out rfl infoS (Sn.vals_one _) rfl ?_; intro w2 hB2 hg2; replace hB2 := Kpt.mk hB2; replace hg2 := Kpt.mk hg2))
  refine bodyPost_ret (v := .tuple #[.slice none 0 0, .agg R.vals, .bool false]) (by simp [results, Try.results17, asAddr, run_res hB2.out 30 _ Try.underlying30 rfl infoS]) rfl ⟨rfl, ?_⟩
  exact HB.out.grown hg2.out (by have := B0.out.lt; omega) (fun k h => by cases h; exact Nat.le_refl _)

set_option maxRecDepth 100000 in
theorem whole_ok (b off n cap : Nat) (op : Int) (w : World) (hn : 0 < n) (hlt : b < w.heap.size) (c0 : w.cell? ⟨b, off, none⟩ = some (.int .u8 op)) (hm : maskL op ≠ []) (hs : (maskL op).length ≤ n) (hml : (maskL op).length ≤ 16) :
    Calls Try.prog 17 #[.slice (some ⟨b, off, none⟩) n cap] w fun e w' => e = .returned (.tuple #[.slice (some ⟨w.heap.size + 1, 0, none⟩) (maskL op).length (maskL op).length, .agg zeroS, .bool true]) ∧ New w w' (.slice (some ⟨w.heap.size + 1, 0, none⟩) (maskL op).length (maskL op).length) (maskL op) := by
  have L := fun w => Kpt.mk (looked_any op w hm)
  have hn' : ¬ (n : Int) = 0 := by omega
  have hn2 : (0 : Int) < n := by omega
  have hnil := eq_nil
  obtain ⟨R, hR⟩ : ∃ R, R = maskL op := ⟨_, rfl⟩
  rw [← hR] at L hs hml ⊢
  obtain ⟨m, hM⟩ : ∃ m, m = R.length := ⟨_, rfl⟩
  rw [← hM] at L hs hml ⊢
  obtain ⟨cs, hcs⟩ : ∃ cs, cs = (cels R).toArray := ⟨_, rfl⟩
  rw [← hcs] at L
  clear hm hR
  have hs' : ¬ (n : Int) < m := by omega
  have hN : Kpt (∀ W : World, Below w.heap.size w W → W.heap.size = w.heap.size + 1 → New w (W.alloc (.cells cs 5)) (.slice (some ⟨w.heap.size + 1, 0, none⟩) m m) R) := ⟨fun W hb hz => by
    have := New.trans hb (new_alloc W m R hM (by omega))
    rw [hcs, ← hz]; exact this⟩
  clear hM hcs
  go_enter Try.func17, Try.ntmps17
  go_wp2_with (go_at_call 25; refine (L _).out.mono ?_; rintro e w1 ⟨rfl, rfl⟩)
  refine bodyPost_ret (v := .tuple #[.slice (some ⟨w.heap.size + 1, 0, none⟩) m m, .agg zeroS, .bool true]) (by simp [results, Try.results17, go_sem, zeroS]) rfl ⟨rfl, ?_⟩
  exact hN.out _ ((Below.refl _ _).alloc (Nat.le_refl _) _) (by simp)
end Go.Proofs.Ytcgojpnjaloofaa
