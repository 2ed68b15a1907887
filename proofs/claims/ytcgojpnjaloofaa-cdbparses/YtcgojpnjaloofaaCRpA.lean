/-
  The contract of the document's Parse.
-/
import Derived.Test.YtcgojpnjaloofaaCTd
namespace Go.Proofs.Ytcgojpnjaloofaa
open Go.RowKit
set_option linter.unusedVariables false
set_option linter.unusedSimpArgs false

theorem bx_new3 (w : World) (o1 o2 : Obj) (cs : Array Value) (t : TypeId) : Bx (((w.alloc o1).alloc o2).alloc (.cells cs t)) (w.heap.size + 2) cs := by
  have := bx_new ((w.alloc o1).alloc o2) cs t
  simpa using this
theorem w0_2 (w : World) : Bx (((w.alloc (.cells zeroC 27)).alloc (.cells zeroS 30)).alloc (.cells zeroC 27)) w.heap.size zeroC := ((bx_new w zeroC 27).alloc _).alloc _
theorem w0_3 (w : World) : Bx (((w.alloc (.cells zeroC 27)).alloc (.cells zeroS 30)).alloc (.cells zeroC 27)) (w.heap.size + 1) zeroS := (bx_new2 w _ zeroS 30).alloc _
theorem w0_5 (w : World) : Bx (((w.alloc (.cells zeroC 27)).alloc (.cells zeroS 30)).alloc (.cells zeroC 27)) (w.heap.size + 2) zeroC := bx_new3 w _ _ zeroC 27
theorem w0_b (w : World) : Below w.heap.size w (((w.alloc (.cells zeroC 27)).alloc (.cells zeroS 30)).alloc (.cells zeroC 27)) := (((Below.refl _ _).alloc (Nat.le_refl _) _).alloc (by simp) _).alloc (by simp; omega) _

set_option maxRecDepth 100000 in
set_option maxHeartbeats 2000000 in
theorem rparse_a (a : Option Addr) (cap : Nat) (w : World) :
    Calls Try.prog 11 #[.slice a 0 cap] w fun e w' => e = .returned (.tuple #[.agg zeroC, .agg (faultS 0 (-1)).vals, .bool false]) ∧ Below w.heap.size w w' := by
  have HF := fun w => Kpt.mk (rfault_any (0) (-1) w)
  generalize hR : faultS (0) (-1) = F at *
  clear hR
  go_enter Try.func11, Try.ntmps11
  go_wp2
  refine wp_region_any (by kernel_rfl) ?_
  refine wpAny_of_C (C := fun W => Bx W (w.heap.size + 2) zeroC) _ _ _ _ ?_
  refine wpAnyC_take 0 (.agg zeroC) rfl (by kernel_rfl) (by kernel_rfl) (by kernel_rfl) (fun _ _ _ h => h) (by rfl) (fun W hW => exec_load_bx 27 (.tmp 5) rfl (w.heap.size + 2) zeroC rfl hW _ Try.underlying27 rfl infoC) ?_
  refine wpAnyC_one 1 (w0_5 w).drew rfl (by kernel_rfl) (by rfl) (fun K hK => ?_)
  go_simp
  refine (HF _).out.mono ?_
  rintro e wf ⟨rfl, hbf⟩
  have HBf : Below w.heap.size w wf := (w0_b w).drew.trans (hbf.mono (w0_b w).drew.size)
  have F2 : Bx wf w.heap.size zeroC := (w0_2 w).drew.below hbf (w0_2 w).drew.lt
  have F3 : Bx wf (w.heap.size + 1) zeroS := (w0_3 w).drew.below hbf (w0_3 w).drew.lt
  have F5 : Bx wf (w.heap.size + 2) zeroC := (w0_5 w).drew.below hbf (w0_5 w).drew.lt
  refine hK _ _ ?_
  clear hK K
  refine wpAnyC_one 2 F5 rfl (by kernel_rfl) (by rfl) (fun K hK => ?_)
  refine wp_store_bx 27 (.tmp 2) (.tmp 20) rfl w.heap.size zeroC zeroC rfl rfl F2 rfl infoC (Cm.vals_one noC) ?_
  intro wg E2 hg4
  refine hK _ _ ?_
  clear hK K
  refine wpAnyC_one 3 (F5.grown hg4 (by simp)) rfl (by kernel_rfl) (by rfl) (fun K hK => ?_)
  refine wp_store_bx 30 (.tmp 3) (.tmp 21) rfl (w.heap.size + 1) zeroS F.vals rfl rfl (F3.grown hg4 (by simp)) rfl infoS (Sn.vals_one _) ?_
  intro wh G3 hg5
  have G2 := E2.grown hg5 (by simp)
  have HBh : Below w.heap.size w wh := (HBf.grown hg4 HBf.size (fun k h => by cases h; exact Nat.le_refl _)).grown hg5 (by have := E2.lt; omega) (fun k h => by cases h; omega)
  refine hK _ _ ?_
  clear hK K
  refine wpAnyC_one 4 ((F5.grown hg4 (by simp)).grown hg5 (by simp)) rfl (by kernel_rfl) (by rfl) (fun K hK => ?_)
  go_simp
  refine hK _ _ ?_
  clear hK K
  refine wpAnyC_done ((F5.grown hg4 (by simp)).grown hg5 (by simp)) (by kernel_rfl) ?_
  replace G2 := Kpt.mk G2
  replace G3 := Kpt.mk G3
  replace HBh := Kpt.mk HBh
  clear hg4 hg5 E2 F2 F3 F5 hbf HBf
  go_wp2
  refine bodyPost_ret (v := .tuple #[.agg zeroC, .agg F.vals, .bool false]) (by simp [results, Try.results11, asAddr, run_res G2.out 27 _ Try.underlying27 rfl infoC, run_res G3.out 30 _ Try.underlying30 rfl infoS]) rfl ⟨rfl, HBh.out⟩

set_option maxRecDepth 100000 in
set_option maxHeartbeats 2000000 in
theorem rparse_b (b off cap : Nat) (op : Int) (w : World) (hlt : b < w.heap.size) (c0 : w.cell? ⟨b, off, none⟩ = some (.int .u8 op)) (ht : tellB op = true) :
    Calls Try.prog 11 #[.slice (some ⟨b, off, none⟩) 1 cap] w fun e w' => e = .returned (.tuple #[.agg zeroC, .agg (faultS 1 (-1)).vals, .bool false]) ∧ Below w.heap.size w w' := by
  have HF := fun w => Kpt.mk (rfault_any (1) (-1) w)
  generalize hR : faultS (1) (-1) = F at *
  clear hR
  have hl1 : b < w.heap.size + 1 := by omega
  have hl2 : b < w.heap.size + 1 + 1 := by omega
  go_enter Try.func11, Try.ntmps11
  go_wp2_with (go_at_call 22; refine (tells_any _ _).mono ?_; rintro e w' ⟨rfl, rfl⟩)
  refine wp_region_any (by kernel_rfl) ?_
  refine wpAny_of_C (C := fun W => Bx W (w.heap.size + 2) zeroC) _ _ _ _ ?_
  refine wpAnyC_take 0 (.agg zeroC) rfl (by kernel_rfl) (by kernel_rfl) (by kernel_rfl) (fun _ _ _ h => h) (by rfl) (fun W hW => exec_load_bx 27 (.tmp 5) rfl (w.heap.size + 2) zeroC rfl hW _ Try.underlying27 rfl infoC) ?_
  refine wpAnyC_one 1 (w0_5 w).drew rfl (by kernel_rfl) (by rfl) (fun K hK => ?_)
  go_simp
  refine (HF _).out.mono ?_
  rintro e wf ⟨rfl, hbf⟩
  have HBf : Below w.heap.size w wf := (w0_b w).drew.trans (hbf.mono (w0_b w).drew.size)
  have F2 : Bx wf w.heap.size zeroC := (w0_2 w).drew.below hbf (w0_2 w).drew.lt
  have F3 : Bx wf (w.heap.size + 1) zeroS := (w0_3 w).drew.below hbf (w0_3 w).drew.lt
  have F5 : Bx wf (w.heap.size + 2) zeroC := (w0_5 w).drew.below hbf (w0_5 w).drew.lt
  refine hK _ _ ?_
  clear hK K
  refine wpAnyC_one 2 F5 rfl (by kernel_rfl) (by rfl) (fun K hK => ?_)
  refine wp_store_bx 27 (.tmp 2) (.tmp 30) rfl w.heap.size zeroC zeroC rfl rfl F2 rfl infoC (Cm.vals_one noC) ?_
  intro wg E2 hg4
  refine hK _ _ ?_
  clear hK K
  refine wpAnyC_one 3 (F5.grown hg4 (by simp)) rfl (by kernel_rfl) (by rfl) (fun K hK => ?_)
  refine wp_store_bx 30 (.tmp 3) (.tmp 31) rfl (w.heap.size + 1) zeroS F.vals rfl rfl (F3.grown hg4 (by simp)) rfl infoS (Sn.vals_one _) ?_
  intro wh G3 hg5
  have G2 := E2.grown hg5 (by simp)
  have HBh : Below w.heap.size w wh := (HBf.grown hg4 HBf.size (fun k h => by cases h; exact Nat.le_refl _)).grown hg5 (by have := E2.lt; omega) (fun k h => by cases h; omega)
  refine hK _ _ ?_
  clear hK K
  refine wpAnyC_one 4 ((F5.grown hg4 (by simp)).grown hg5 (by simp)) rfl (by kernel_rfl) (by rfl) (fun K hK => ?_)
  go_simp
  refine hK _ _ ?_
  clear hK K
  refine wpAnyC_done ((F5.grown hg4 (by simp)).grown hg5 (by simp)) (by kernel_rfl) ?_
  replace G2 := Kpt.mk G2
  replace G3 := Kpt.mk G3
  replace HBh := Kpt.mk HBh
  clear hg4 hg5 E2 F2 F3 F5 hbf HBf
  go_wp2
  refine bodyPost_ret (v := .tuple #[.agg zeroC, .agg F.vals, .bool false]) (by simp [results, Try.results11, asAddr, run_res G2.out 27 _ Try.underlying27 rfl infoC, run_res G3.out 30 _ Try.underlying30 rfl infoS]) rfl ⟨rfl, HBh.out⟩

set_option maxRecDepth 100000 in
set_option maxHeartbeats 2000000 in
theorem rparse_c (b off n cap : Nat) (op : Int) (w : World) (hn : 0 < n) (hlt : b < w.heap.size) (c0 : w.cell? ⟨b, off, none⟩ = some (.int .u8 op)) (ht : tellB op = false) (hm : maskL op = []) :
    Calls Try.prog 11 #[.slice (some ⟨b, off, none⟩) n cap] w fun e w' => e = .returned (.tuple #[.agg zeroC, .agg noOpS.vals, .bool false]) ∧ Below w.heap.size w w' := by
  have HU := fun s w => Kpt.mk (rusage_nil op s w hm)
  have hn' : ¬ (n : Int) = 0 := by omega
  have hn2 : (0 : Int) < n := by omega
  have hnil := eq_nil
  clear hm
  have hl1 : b < w.heap.size + 1 := by omega
  have hl2 : b < w.heap.size + 1 + 1 := by omega
  go_enter Try.func11, Try.ntmps11
  go_wp2_with (first
    | (go_at_call 22; refine (tells_any _ _).mono ?_; rintro e w' ⟨rfl, rfl⟩)
    | (go_at_call 13; refine (HU _ _).out.mono ?_; rintro e w' ⟨rfl, rfl⟩))
  refine bodyPost_ret (v := .tuple #[.agg zeroC, .agg noOpS.vals, .bool false]) (by simp [results, Try.results11, go_sem, zeroC, noOpS, Sn.vals]) rfl ⟨rfl, ?_⟩
  exact (((Below.refl _ _).alloc (Nat.le_refl _) _).alloc (by simp) _).alloc (by simp; omega) _

end Go.Proofs.Ytcgojpnjaloofaa
