/-
  The document's Page.
-/
import Derived.Test.YteoaadpilaljnaaIRStd
namespace Go.Proofs.Yteoaadpilaljnaa
open Go.RowKit
set_option linter.unusedVariables false
set_option linter.unusedSimpArgs false

theorem rpage_bad (i : In) (p : Int) (w : World) (hi : i.wf) (hf : i.form = false) : Calls Try.prog 11 #[.agg i.rvals, .int .u8 p] w fun e w' => e = .returned (.tuple #[.string ⟨#[]⟩, .bool false]) ∧ Below w.heap.size w w' := by
  have HF := Kpt.mk (fun W => rform_any i W hi)
  rw [hf] at HF
  obtain ⟨ve, pr, re, se, pt⟩ := i
  simp only [In.rvals] at HF ⊢
  go_enter Try.func11, Try.ntmps11
  go_wp2_with fail
  refine (HF.out _).mono ?_
  rintro e w1 ⟨rfl, hb1⟩
  have hs0 : (w.alloc (.cells #[.string ve, .string pr, .string re, .string se, .int .i64 pt] 31)).heap.size = w.heap.size + 1 := by simp
  have hl1 : w.heap.size < w1.heap.size := by have := hb1.size; omega
  have hB1 : Kpt (Below w.heap.size w w1) := ⟨((Below.refl _ _).alloc (Nat.le_refl _) _).trans (hb1.mono (by omega))⟩
  clear hb1 hs0 HF
  go_wp2_with fail
  refine bodyPost_ret (v := .tuple #[.string ⟨#[]⟩, .bool false]) (by simp [results, Try.results11, go_sem]) rfl ⟨rfl, hB1.out⟩
theorem rpage_no (i : In) (p : Int) (w : World) (hi : i.wf) (hf : i.form = true) (hp : ¬ isVit p) : Calls Try.prog 11 #[.agg i.rvals, .int .u8 p] w fun e w' => e = .returned (.tuple #[.string ⟨#[]⟩, .bool false]) ∧ Below w.heap.size w w' := by
  have HF := Kpt.mk (fun W => rform_any i W hi)
  rw [hf] at HF
  have h1 : ¬ p = 0 := fun e => hp (.inl e)
  have h2 : ¬ p = 128 := fun e => hp (.inr (.inl e))
  have h3 : ¬ p = 131 := fun e => hp (.inr (.inr (.inl e)))
  have h4 : ¬ p = 176 := fun e => hp (.inr (.inr (.inr (.inl e))))
  have h5 : ¬ p = 178 := fun e => hp (.inr (.inr (.inr (.inr e))))
  clear hp
  obtain ⟨ve, pr, re, se, pt⟩ := i
  simp only [In.rvals] at HF ⊢
  go_enter Try.func11, Try.ntmps11
  go_wp2_with fail
  refine (HF.out _).mono ?_
  rintro e w1 ⟨rfl, hb1⟩
  have hs0 : (w.alloc (.cells #[.string ve, .string pr, .string re, .string se, .int .i64 pt] 31)).heap.size = w.heap.size + 1 := by simp
  have hl1 : w.heap.size < w1.heap.size := by have := hb1.size; omega
  have hB1 : Kpt (Below w.heap.size w w1) := ⟨((Below.refl _ _).alloc (Nat.le_refl _) _).trans (hb1.mono (by omega))⟩
  clear hb1 hs0 HF
  go_wp2_with fail
  refine bodyPost_ret (v := .tuple #[.string ⟨#[]⟩, .bool false]) (by simp [results, Try.results11, go_sem]) rfl ⟨rfl, hB1.out⟩
theorem conv_new (W : World) (L : List Int) (n : Nat) (S : ByteArray) (hn : n = L.length) (hm : n ≤ 1000) (hS : S = strOfNums L) : (convert 25 9 (.slice (some ⟨W.heap.size, 0, none⟩) n n)).run Try.prog (W.alloc (.cells (cels L).toArray 5)) = .ok (.string S) (W.alloc (.cells (cels L).toArray 5)) := by
  rw [hS]
  exact conv_rd (own_rd (own_alloc W W.heap.size n W.heap.size L rfl hn hm (Nat.le_refl _)))
theorem page_str (i : In) (p : Int) : strOfNums (pageL i p) = strOfNums [0, p, 0, ((vitL i p).length : Int)] ++ strOfNums (vitL i p) := by unfold pageL; rw [str_append]

set_option maxRecDepth 100000 in
set_option maxHeartbeats 1000000 in
theorem rpage_0 (i : In) (w : World) (hi : i.wf) (hf : i.form = true) : Calls Try.prog 11 #[.agg i.rvals, .int .u8 0] w fun e w' => e = .returned (.tuple #[.string (strOfNums (pageL i 0)), .bool true]) ∧ Below w.heap.size w w' := by
  have HF := Kpt.mk (fun W => rform_any i W hi)
  rw [hf] at HF
  have hps : strOfNums (pageL i 0) = strOfNums [0, 0, 0, 5] ++ strOfNums [0, 128, 131, 176, 178] := page_str i 0
  rw [hps]
  obtain ⟨ve, pr, re, se, pt⟩ := i
  simp only [In.rvals] at HF ⊢
  obtain ⟨BD, hBD⟩ : ∃ S, S = strOfNums [0, 128, 131, 176, 178] := ⟨_, rfl⟩
  obtain ⟨HD, hHD⟩ : ∃ S, S = strOfNums [0, 0, 0, 5] := ⟨_, rfl⟩
  have hz1 : BD.size = 5 := by rw [hBD]; rfl
  have hz2 : HD.size = 4 := by rw [hHD]; rfl
  have hlim : ¬ 9223372036854775807 < HD.size + BD.size := by omega
  rw [← hBD, ← hHD]
  replace hBD := Kpt.mk hBD
  replace hHD := Kpt.mk hHD
  replace hz2 := Kpt.mk hz2
  clear hps
  go_enter Try.func11, Try.ntmps11
  go_wp2_with fail
  refine (HF.out _).mono ?_
  rintro e w1 ⟨rfl, hb1⟩
  have hs0 : (w.alloc (.cells #[.string ve, .string pr, .string re, .string se, .int .i64 pt] 31)).heap.size = w.heap.size + 1 := by simp
  have hl1 : w.heap.size < w1.heap.size := by have := hb1.size; omega
  have hB1 : Kpt (Below w.heap.size w w1) := ⟨((Below.refl _ _).alloc (Nat.le_refl _) _).trans (hb1.mono (by omega))⟩
  clear hb1 hs0 HF
  have hc1 : (convert 25 9 (.slice (some ⟨w1.heap.size, 0, none⟩) 5 5)).run Try.prog (w1.alloc (.cells #[.int .u8 0, .int .u8 128, .int .u8 131, .int .u8 176, .int .u8 178] 5)) = .ok (.string BD) (w1.alloc (.cells #[.int .u8 0, .int .u8 128, .int .u8 131, .int .u8 176, .int .u8 178] 5)) := conv_new w1 [0, 128, 131, 176, 178] 5 BD rfl (by decide) hBD.out
  have hc2 : (convert 25 9 (.slice (some ⟨w1.heap.size + 1, 0, none⟩) 4 4)).run Try.prog ((w1.alloc (.cells #[.int .u8 0, .int .u8 128, .int .u8 131, .int .u8 176, .int .u8 178] 5)).alloc (.cells #[.int .u8 0, .int .u8 0, .int .u8 0, .int .u8 5] 5)) = .ok (.string HD) ((w1.alloc (.cells #[.int .u8 0, .int .u8 128, .int .u8 131, .int .u8 176, .int .u8 178] 5)).alloc (.cells #[.int .u8 0, .int .u8 0, .int .u8 0, .int .u8 5] 5)) := by
    have := conv_new (w1.alloc (.cells #[.int .u8 0, .int .u8 128, .int .u8 131, .int .u8 176, .int .u8 178] 5)) [0, 0, 0, 5] 4 HD rfl (by decide) hHD.out
    rw [show (w1.alloc (.cells #[.int .u8 0, .int .u8 128, .int .u8 131, .int .u8 176, .int .u8 178] 5)).heap.size = w1.heap.size + 1 from by simp] at this
    exact this
  have hl2 : w.heap.size ≤ w1.heap.size := Nat.le_of_lt hl1
  go_wp2_with fail
  refine bodyPost_ret (v := .tuple #[.string (HD ++ BD), .bool true]) (by simp [results, Try.results11, go_sem]) rfl ⟨rfl, (hB1.out.alloc hl2 _).alloc (by simp; omega) _⟩

set_option maxRecDepth 100000 in
set_option maxHeartbeats 1000000 in
theorem rpage_178 (i : In) (w : World) (hi : i.wf) (hf : i.form = true) : Calls Try.prog 11 #[.agg i.rvals, .int .u8 178] w fun e w' => e = .returned (.tuple #[.string (strOfNums (pageL i 178)), .bool true]) ∧ Below w.heap.size w w' := by
  have HF := Kpt.mk (fun W => rform_any i W hi)
  rw [hf] at HF
  have hps : strOfNums (pageL i 178) = strOfNums [0, 178, 0, 4] ++ strOfNums [0, 224, 2, 0] := page_str i 178
  rw [hps]
  obtain ⟨ve, pr, re, se, pt⟩ := i
  simp only [In.rvals] at HF ⊢
  obtain ⟨BD, hBD⟩ : ∃ S, S = strOfNums [0, 224, 2, 0] := ⟨_, rfl⟩
  obtain ⟨HD, hHD⟩ : ∃ S, S = strOfNums [0, 178, 0, 4] := ⟨_, rfl⟩
  have hz1 : BD.size = 4 := by rw [hBD]; rfl
  have hz2 : HD.size = 4 := by rw [hHD]; rfl
  have hlim : ¬ 9223372036854775807 < HD.size + BD.size := by omega
  rw [← hBD, ← hHD]
  replace hBD := Kpt.mk hBD
  replace hHD := Kpt.mk hHD
  replace hz2 := Kpt.mk hz2
  clear hps
  go_enter Try.func11, Try.ntmps11
  go_wp2_with fail
  refine (HF.out _).mono ?_
  rintro e w1 ⟨rfl, hb1⟩
  have hs0 : (w.alloc (.cells #[.string ve, .string pr, .string re, .string se, .int .i64 pt] 31)).heap.size = w.heap.size + 1 := by simp
  have hl1 : w.heap.size < w1.heap.size := by have := hb1.size; omega
  have hB1 : Kpt (Below w.heap.size w w1) := ⟨((Below.refl _ _).alloc (Nat.le_refl _) _).trans (hb1.mono (by omega))⟩
  clear hb1 hs0 HF
  have hc1 : (convert 25 9 (.slice (some ⟨w1.heap.size, 0, none⟩) 4 4)).run Try.prog (w1.alloc (.cells #[.int .u8 0, .int .u8 224, .int .u8 2, .int .u8 0] 5)) = .ok (.string BD) (w1.alloc (.cells #[.int .u8 0, .int .u8 224, .int .u8 2, .int .u8 0] 5)) := conv_new w1 [0, 224, 2, 0] 4 BD rfl (by decide) hBD.out
  have hc2 : (convert 25 9 (.slice (some ⟨w1.heap.size + 1, 0, none⟩) 4 4)).run Try.prog ((w1.alloc (.cells #[.int .u8 0, .int .u8 224, .int .u8 2, .int .u8 0] 5)).alloc (.cells #[.int .u8 0, .int .u8 178, .int .u8 0, .int .u8 4] 5)) = .ok (.string HD) ((w1.alloc (.cells #[.int .u8 0, .int .u8 224, .int .u8 2, .int .u8 0] 5)).alloc (.cells #[.int .u8 0, .int .u8 178, .int .u8 0, .int .u8 4] 5)) := by
    have := conv_new (w1.alloc (.cells #[.int .u8 0, .int .u8 224, .int .u8 2, .int .u8 0] 5)) [0, 178, 0, 4] 4 HD rfl (by decide) hHD.out
    rw [show (w1.alloc (.cells #[.int .u8 0, .int .u8 224, .int .u8 2, .int .u8 0] 5)).heap.size = w1.heap.size + 1 from by simp] at this
    exact this
  have hl2 : w.heap.size ≤ w1.heap.size := Nat.le_of_lt hl1
  go_wp2_with fail
  refine bodyPost_ret (v := .tuple #[.string (HD ++ BD), .bool true]) (by simp [results, Try.results11, go_sem]) rfl ⟨rfl, (hB1.out.alloc hl2 _).alloc (by simp; omega) _⟩

set_option maxRecDepth 100000 in
set_option maxHeartbeats 1000000 in
theorem rpage_128 (i : In) (w : World) (hi : i.wf) (hf : i.form = true) : Calls Try.prog 11 #[.agg i.rvals, .int .u8 128] w fun e w' => e = .returned (.tuple #[.string (strOfNums (pageL i 128)), .bool true]) ∧ Below w.heap.size w w' := by
  have HF := Kpt.mk (fun W => rform_any i W hi)
  rw [hf] at HF
  obtain ⟨_, _, _, _, h5, _⟩ := form_sizes hf
  have hps : strOfNums (pageL i 128) = strOfNums [0, 128, 0, (i.se.size : Int)] ++ i.se := by rw [page_str, show vitL i 128 = nums i.se from rfl, nums_len, str_nums]
  rw [hps]
  obtain ⟨ve, pr, re, se, pt⟩ := i
  simp only [In.rvals] at HF h5 ⊢
  obtain ⟨m, hm⟩ : ∃ m, m = se.size := ⟨_, rfl⟩
  rw [← hm]
  rw [← hm] at h5
  have v1 : IntKind.u8.wrap (m : Int) = m := by rw [IntKind.wrap_u8]; omega
  obtain ⟨HD, hHD⟩ : ∃ S, S = strOfNums [0, 128, 0, (m : Int)] := ⟨_, rfl⟩
  have hz2 : HD.size = 4 := by rw [hHD]; rfl
  have hms : se.size = m := hm.symm
  have hlim : ¬ 9223372036854775807 < HD.size + se.size := by omega
  have hlim' : ¬ 9223372036854775807 < HD.size + m := by omega
  rw [← hHD]
  replace hHD := Kpt.mk hHD
  replace hz2 := Kpt.mk hz2
  clear hps hm
  go_enter Try.func11, Try.ntmps11
  go_wp2_with fail
  refine (HF.out _).mono ?_
  rintro e w1 ⟨rfl, hb1⟩
  have hs0 : (w.alloc (.cells #[.string ve, .string pr, .string re, .string se, .int .i64 pt] 31)).heap.size = w.heap.size + 1 := by simp
  have hl1 : w.heap.size < w1.heap.size := by have := hb1.size; omega
  have zA0 : w1.cell? ⟨w.heap.size, 0, none⟩ = some (.string ve) := (hb1.cell (p := ⟨w.heap.size, 0, none⟩) (by show w.heap.size < _; omega)).trans (by simp)
  have zA1 : w1.cell? ⟨w.heap.size, 1, none⟩ = some (.string pr) := (hb1.cell (p := ⟨w.heap.size, 1, none⟩) (by show w.heap.size < _; omega)).trans (by simp)
  have zA2 : w1.cell? ⟨w.heap.size, 2, none⟩ = some (.string re) := (hb1.cell (p := ⟨w.heap.size, 2, none⟩) (by show w.heap.size < _; omega)).trans (by simp)
  have zA3 : w1.cell? ⟨w.heap.size, 3, none⟩ = some (.string se) := (hb1.cell (p := ⟨w.heap.size, 3, none⟩) (by show w.heap.size < _; omega)).trans (by simp)
  have zA4 : w1.cell? ⟨w.heap.size, 4, none⟩ = some (.int .i64 pt) := (hb1.cell (p := ⟨w.heap.size, 4, none⟩) (by show w.heap.size < _; omega)).trans (by simp)
  have hB1 : Kpt (Below w.heap.size w w1) := ⟨((Below.refl _ _).alloc (Nat.le_refl _) _).trans (hb1.mono (by omega))⟩
  clear hb1 hs0 HF
  have hc2 : (convert 25 9 (.slice (some ⟨w1.heap.size, 0, none⟩) 4 4)).run Try.prog (w1.alloc (.cells #[.int .u8 0, .int .u8 128, .int .u8 0, .int .u8 m] 5)) = .ok (.string HD) (w1.alloc (.cells #[.int .u8 0, .int .u8 128, .int .u8 0, .int .u8 m] 5)) := conv_new w1 [0, 128, 0, (m : Int)] 4 HD rfl (by decide) hHD.out
  have hl2 : w.heap.size ≤ w1.heap.size := Nat.le_of_lt hl1
  go_wp2_with fail
  refine bodyPost_ret (v := .tuple #[.string (HD ++ se), .bool true]) (by simp [results, Try.results11, go_sem]) rfl ⟨rfl, hB1.out.alloc hl2 _⟩
end Go.Proofs.Yteoaadpilaljnaa
