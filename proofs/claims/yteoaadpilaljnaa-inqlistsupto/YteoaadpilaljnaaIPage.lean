/-
  The contract of Page; awake; Cut.
-/
import Derived.Test.YteoaadpilaljnaaIVit
namespace Go.Proofs.Yteoaadpilaljnaa
open Go.RowKit
set_option linter.unusedVariables false
set_option linter.unusedSimpArgs false

def pageL (i : In) (p : Int) : List Int := [0, p, 0, ((vitL i p).length : Int)] ++ vitL i p
theorem form_sizes {i : In} (hf : i.form = true) : i.ve.size ≤ 8 ∧ i.pr.size ≤ 16 ∧ i.re.size ≤ 4 ∧ 0 < i.se.size ∧ i.se.size ≤ 20 ∧ i.pt ≤ 3 := by
  unfold In.form plainB at hf
  simp only [Bool.and_eq_true, decide_eq_true_eq] at hf
  obtain ⟨⟨⟨⟨⟨⟨_, h1⟩, _, h2⟩, _, h3⟩, h4⟩, _, h5⟩, h6⟩ := hf
  omega
theorem vitL_len {i : In} {p : Int} (hf : i.form = true) : 1 ≤ (vitL i p).length ∧ (vitL i p).length ≤ 60 := by
  obtain ⟨h1, _, _, h4, h5, _⟩ := form_sizes hf
  have hT : (fillS i.ve 8 ++ i.se).size ≤ 28 := by rw [size_app, fill_size _ _ h1]; omega
  unfold vitL
  split
  · exact ⟨show 1 ≤ 5 by decide, show 5 ≤ 60 by decide⟩
  · split
    · rw [nums_len]; omega
    · split
      · rw [List.length_append, nums_len]; simp; rw [← size_app]; omega
      · split
        · exact ⟨show 1 ≤ 60 by decide, show 60 ≤ 60 by decide⟩
        · exact ⟨show 1 ≤ 4 by decide, show 4 ≤ 60 by decide⟩
theorem eqlSlice (a : Addr) (n c : Nat) (w : World) : (binOp .eql 25 (.slice (some a) n c) (.slice none 0 0)).run Try.prog w = .ok (.bool false) w := by kernel_rfl
theorem eqlNil (w : World) : (binOp .eql 25 (.slice none 0 0) (.slice none 0 0)).run Try.prog w = .ok (.bool true) w := by kernel_rfl

theorem page_bad (i : In) (p : Int) (w : World) (hi : i.wf) (hf : i.form = false) : Calls Try.prog 10 #[.agg i.vals, .int .u8 p] w fun e w' => e = .returned (.tuple #[.slice none 0 0, .bool false]) ∧ Below w.heap.size w w' := by
  have HF := Kpt.mk (fun W => form_any i W hi)
  rw [hf] at HF
  obtain ⟨ve, pr, re, se, pt⟩ := i
  simp only [In.vals] at HF ⊢
  go_enter Try.func10, Try.ntmps10
  go_wp2_with fail
  refine (HF.out _).mono ?_
  rintro e w1 ⟨rfl, hb⟩
  have hbw : Kpt (Below w.heap.size w w1) := ⟨((Below.refl _ _).alloc (Nat.le_refl _) _).trans (hb.mono (by simp))⟩
  clear hb
  go_wp2_with fail
  refine bodyPost_ret (v := .tuple #[.slice none 0 0, .bool false]) (by simp [results, Try.results10, go_sem]) rfl ⟨rfl, hbw.out⟩

set_option maxHeartbeats 1000000 in
theorem page_no (i : In) (p : Int) (w : World) (hi : i.wf) (hf : i.form = true) (hp : ¬ isVit p) : Calls Try.prog 10 #[.agg i.vals, .int .u8 p] w fun e w' => e = .returned (.tuple #[.slice none 0 0, .bool false]) ∧ Below w.heap.size w w' := by
  have HF := Kpt.mk (fun W => form_any i W hi)
  rw [hf] at HF
  have HV := Kpt.mk (fun W => vit_no i p W hp)
  obtain ⟨ve, pr, re, se, pt⟩ := i
  simp only [In.vals] at HF HV ⊢
  go_enter Try.func10, Try.ntmps10
  go_wp2_with fail
  refine (HF.out _).mono ?_
  rintro e w1 ⟨rfl, hb⟩
  have hbw : Kpt (Below w.heap.size w w1) := ⟨((Below.refl _ _).alloc (Nat.le_refl _) _).trans (hb.mono (by simp))⟩
  have z0 : w1.cell? ⟨w.heap.size, 0, none⟩ = some (.string ve) := (hb.cell (p := ⟨w.heap.size, 0, none⟩) (by simp)).trans (by simp)
  have z1 : w1.cell? ⟨w.heap.size, 1, none⟩ = some (.string pr) := (hb.cell (p := ⟨w.heap.size, 1, none⟩) (by simp)).trans (by simp)
  have z2 : w1.cell? ⟨w.heap.size, 2, none⟩ = some (.string re) := (hb.cell (p := ⟨w.heap.size, 2, none⟩) (by simp)).trans (by simp)
  have z3 : w1.cell? ⟨w.heap.size, 3, none⟩ = some (.string se) := (hb.cell (p := ⟨w.heap.size, 3, none⟩) (by simp)).trans (by simp)
  have z4 : w1.cell? ⟨w.heap.size, 4, none⟩ = some (.int .u8 pt) := (hb.cell (p := ⟨w.heap.size, 4, none⟩) (by simp)).trans (by simp)
  clear hb
  go_wp2_with fail
  refine (HV.out _).mono ?_
  rintro e w2 ⟨rfl, hb2⟩
  have hbw2 : Kpt (Below w.heap.size w w2) := ⟨hbw.out.trans (hb2.mono hbw.out.size)⟩
  have hne := eqlNil w2
  clear hb2 z0 z1 z2 z3 z4
  go_wp2_with fail
  refine bodyPost_ret (v := .tuple #[.slice none 0 0, .bool false]) (by simp [results, Try.results10, go_sem]) rfl ⟨rfl, hbw2.out⟩

set_option maxRecDepth 100000 in
set_option maxHeartbeats 1000000 in
theorem page_some (i : In) (p : Int) (w : World) (hi : i.wf) (hf : i.form = true) (hp : isVit p) : Calls Try.prog 10 #[.agg i.vals, .int .u8 p] w fun e w' => ∃ g k, e = .returned (.tuple #[.slice (some ⟨g, 0, none⟩) (pageL i p).length k, .bool true]) ∧ w'.ownsRow w.heap.size 5 1 (.slice (some ⟨g, 0, none⟩) (pageL i p).length k) (pageL i p).length (cels (pageL i p)) ∧ Below w.heap.size w w' := by
  have HF := Kpt.mk (fun W => form_any i W hi)
  rw [hf] at HF
  have HV := Kpt.mk (fun W => vit_some i p W hf hp)
  have hvl := vitL_len (p := p) hf
  unfold pageL
  obtain ⟨Z, hZ⟩ : ∃ Z, Z = vitL i p := ⟨_, rfl⟩
  rw [← hZ] at HV hvl ⊢
  obtain ⟨m, hm⟩ : ∃ m, m = Z.length := ⟨_, rfl⟩
  rw [← hm] at hvl ⊢
  rw [show ([0, p, 0, (m : Int)] ++ Z).length = 4 + m from by rw [List.length_append, ← hm]; rfl]
  have v1 : IntKind.u8.wrap (m : Int) = m := by rw [IntKind.wrap_u8]; omega
  obtain ⟨ve, pr, re, se, pt⟩ := i
  simp only [In.vals] at HF HV ⊢
  replace hm := Kpt.mk hm
  clear hZ
  go_enter Try.func10, Try.ntmps10
  go_wp2_with fail
  refine (HF.out _).mono ?_
  rintro e w1 ⟨rfl, hb⟩
  have hbw : Kpt (Below w.heap.size w w1) := ⟨((Below.refl _ _).alloc (Nat.le_refl _) _).trans (hb.mono (by simp))⟩
  have z0 : w1.cell? ⟨w.heap.size, 0, none⟩ = some (.string ve) := (hb.cell (p := ⟨w.heap.size, 0, none⟩) (by simp)).trans (by simp)
  have z1 : w1.cell? ⟨w.heap.size, 1, none⟩ = some (.string pr) := (hb.cell (p := ⟨w.heap.size, 1, none⟩) (by simp)).trans (by simp)
  have z2 : w1.cell? ⟨w.heap.size, 2, none⟩ = some (.string re) := (hb.cell (p := ⟨w.heap.size, 2, none⟩) (by simp)).trans (by simp)
  have z3 : w1.cell? ⟨w.heap.size, 3, none⟩ = some (.string se) := (hb.cell (p := ⟨w.heap.size, 3, none⟩) (by simp)).trans (by simp)
  have z4 : w1.cell? ⟨w.heap.size, 4, none⟩ = some (.int .u8 pt) := (hb.cell (p := ⟨w.heap.size, 4, none⟩) (by simp)).trans (by simp)
  clear hb
  go_wp2_with fail
  refine (HV.out _).mono ?_
  rintro e w2 ⟨v, rfl, g, k, hv, hg, hgl, hrd, hb2⟩
  rw [← hm.out] at hv
  subst hv
  have hbw2 : Kpt (Below w.heap.size w w2) := ⟨hbw.out.trans (hb2.mono hbw.out.size)⟩
  have hne := eqlSlice ⟨g, 0, none⟩ m k w2
  obtain ⟨w3, hw3⟩ : ∃ w3, w3 = w2.alloc (.cells #[.int .u8 0, .int .u8 p, .int .u8 0, .int .u8 m] 5) := ⟨_, rfl⟩
  have ho3 : Kpt ((w2.alloc (.cells #[.int .u8 0, .int .u8 p, .int .u8 0, .int .u8 m] 5)).ownsRow w.heap.size 5 1 (.slice (some ⟨w2.heap.size, 0, none⟩) 4 4) 4 (cels [0, p, 0, (m : Int)])) := ⟨own_alloc w2 w2.heap.size 4 w.heap.size [0, p, 0, (m : Int)] rfl rfl (by decide) hbw2.out.size⟩
  have hb3 : Kpt (Below w.heap.size w (w2.alloc (.cells #[.int .u8 0, .int .u8 p, .int .u8 0, .int .u8 m] 5))) := ⟨hbw2.out.alloc hbw2.out.size _⟩
  have hrd3 : Kpt (RdAt (w2.alloc (.cells #[.int .u8 0, .int .u8 p, .int .u8 0, .int .u8 m] 5)) (.slice (some ⟨g, 0, none⟩) m k) Z) := ⟨hrd.of_block (fun q hq => by cases hq; exact Below.heap_alloc w2 _ g hgl)⟩
  have hw2l : w.heap.size ≤ w2.heap.size := hbw2.out.size
  clear hb2 z0 z1 z2 z3 z4 hw3 hrd hg
  go_wp2_with (refine wpList_append_new rfl (.tmp 19) (.tmp 20) rfl w.heap.size _ _ [0, p, 0, (m : Int)] Z 4 (4 + m) rfl rfl ho3.out hrd3.out (by rw [← hm.out]; omega) rfl (by rw [← hm.out]) (by omega) hb3.out.size ?_; intro g5 k5 w5 ho5 hl5 hg5)
  refine bodyPost_ret (v := .tuple #[.slice (some ⟨g5, 0, none⟩) (4 + m) k5, .bool true]) (by simp [results, Try.results10, go_sem]) rfl ⟨g5, k5, rfl, ho5.out, hb3.out.grown hg5.out hb3.out.size (fun q hq => by cases hq; exact hw2l)⟩
end Go.Proofs.Yteoaadpilaljnaa
