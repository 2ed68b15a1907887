/-
  text: the document's Dec.
-/
import Derived.Test.YtkojkglaljiilaaDoorXNmK
import Derived.Lib.SlBytesConst
namespace Go.Proofs.YtkojkglaljiilaaDoor
open Go.RowKit
set_option linter.unusedVariables false
set_option linter.unusedSimpArgs false

theorem conv_one (w : World) (g : Nat) (c : Int) (cap : Nat) (hc : w.cell? ⟨g, 0, none⟩ = some (.int .u8 c)) : (convert 39 9 (.slice (some ⟨g, 0, none⟩) 1 cap)).run Tryd.prog w = .ok (.string (strOfNums [c])) w :=
  run_convert_bytes_arg (P := Tryd.prog) w 39 5 Tryd.underlying39 Tryd.underlying5 g 0 1 cap [c] rfl (fun j hj => by
    obtain rfl : j = 0 := by omega
    exact hc) 9 Tryd.underlying9
theorem one_kept {w w1 : World} {v : Value} {t : TypeId} (h : Below (w.alloc (.cells #[v] t)).heap.size (w.alloc (.cells #[v] t)) w1) : w1.cell? ⟨w.heap.size, 0, none⟩ = some v := by
  rw [h.cell (p := ⟨w.heap.size, 0, none⟩) (by simp)]
  simp
theorem below_alloc (w : World) (o : Obj) : Below w.heap.size w (w.alloc o) := (Below.refl _ _).alloc (Nat.le_refl _) _
theorem str_app (a b : List Int) : strOfNums a ++ strOfNums b = strOfNums (a ++ b) := by
  apply ByteArray.ext
  apply Array.ext'
  rw [ByteArray.data_append, Array.toList_append, strOfNums_data, strOfNums_data, strOfNums_data, List.map_append]
set_option maxHeartbeats 1000000 in
theorem dec_small (n : Nat) (w : World) (hn : n < 10) :
    Calls Tryd.prog 18 #[.int .u64 (n : Nat)] w fun e w' => e = .returned (.string (decS n)) ∧ Below w.heap.size w w' := by
  have hI : (n : Int) < 10 := by omega
  have kc := fun (w : World) (g : Nat) (c : Int) (cap : Nat) (hc : w.cell? ⟨g, 0, none⟩ = some (.int .u8 c)) => conv_one w g c cap hc
  go_enter Tryd.func18, Tryd.ntmps18
  go_wp2
  go_ret
  refine ⟨?_, below_alloc _ _⟩
  unfold decS
  rw [decL_small hn]
  rfl
theorem decL_le (n : Nat) : (decL n).length ≤ n + 1 := by
  induction n using Nat.strongRecOn with
  | _ n ih =>
    by_cases h : n < 10
    · rw [decL_small h]; simp
    · have := ih (n / 10) (by omega)
      rw [decL_great (by omega)]
      simp only [List.length_append, List.length_cons, List.length_nil]
      omega
set_option maxHeartbeats 2000000 in
theorem dec_great (n : Nat) (w : World) (hn : 10 ≤ n) (h64 : n < 18446744073709551616)
    (ih : ∀ W : World, Calls Tryd.prog 18 #[.int .u64 ((n / 10 : Nat) : Int)] W fun e w' => e = .returned (.string (decS (n / 10))) ∧ Below W.heap.size W w') :
    Calls Tryd.prog 18 #[.int .u64 (n : Nat)] w fun e w' => e = .returned (.string (decS n)) ∧ Below w.heap.size w w' := by
  have hI : ¬ (n : Int) < 10 := by omega
  have hd : decS (n / 10) ++ strOfNums [48 + ((n : Int) % 10)] = decS n := by
    unfold decS
    rw [str_app, decL_great hn]
    congr 2
  have hsz : ¬ 9223372036854775807 < (decS (n / 10)).size + (strOfNums [48 + ((n : Int) % 10)]).size := by
    have := decL_le (n / 10)
    rw [size_dec, str_size]
    simp only [List.length_cons, List.length_nil]
    omega
  have ihK := Kpt.mk ih
  have kc := fun (w : World) (g : Nat) (c : Int) (cap : Nat) (hc : w.cell? ⟨g, 0, none⟩ = some (.int .u8 c)) => conv_one w g c cap hc
  have h64' := Kpt.mk h64
  have hd' := Kpt.mk hd
  have q1 : (n : Int) / 10 ≤ 18446744073709551615 := by omega
  clear ih h64 hd
  go_enter Tryd.func18, Tryd.ntmps18
  go_wp2_with fail
  refine wp_region_any (by kernel_rfl) ?_
  refine wpAny_of_C (C := fun W => True) _ _ _ _ ?_
  refine wpAnyC_take 0 (.int .u64 n) rfl (by kernel_rfl) (by kernel_rfl) (by kernel_rfl) (fun _ _ _ h => h) (wanted_free rfl _) (fun W hW => by go_simp) ?_
  try simp only [Act.put, List.getElem_toArray, List.getElem_cons_succ, List.getElem_cons_zero, List.setIfInBounds_toArray, List.set_cons_succ, List.set_cons_zero]
  refine wpAnyC_take 1 (.int .u64 ((n / 10 : Nat) : Int)) rfl (by kernel_rfl) (by kernel_rfl) (by kernel_rfl) (fun _ _ _ h => h) (wanted_free rfl _) (fun W hW => by go_simp; exact IntWalk.u64_in _ (by have := h64'.out; omega)) ?_
  try simp only [Act.put, List.getElem_toArray, List.getElem_cons_succ, List.getElem_cons_zero, List.setIfInBounds_toArray, List.set_cons_succ, List.set_cons_zero]
  refine wpAnyC_take 3 (.int .u64 n) rfl (by kernel_rfl) (by kernel_rfl) (by kernel_rfl) (fun _ _ _ h => h) (wanted_free rfl _) (fun W hW => by go_simp) ?_
  try simp only [Act.put, List.getElem_toArray, List.getElem_cons_succ, List.getElem_cons_zero, List.setIfInBounds_toArray, List.set_cons_succ, List.set_cons_zero]
  refine wpAnyC_take 4 (.int .u64 ((n : Int) % 10)) rfl (by kernel_rfl) (by kernel_rfl) (by kernel_rfl) (fun _ _ _ h => h) (wanted_free rfl _) (fun W hW => by go_simp; exact Int.tmod_eq_emod_of_nonneg (by omega)) ?_
  try simp only [Act.put, List.getElem_toArray, List.getElem_cons_succ, List.getElem_cons_zero, List.setIfInBounds_toArray, List.set_cons_succ, List.set_cons_zero]
  refine wpAnyC_take 5 (.int .u64 (48 + (n : Int) % 10)) rfl (by kernel_rfl) (by kernel_rfl) (by kernel_rfl) (fun _ _ _ h => h) (wanted_free rfl _) (fun W hW => by go_simp; exact IntWalk.u64_in _ (by omega)) ?_
  try simp only [Act.put, List.getElem_toArray, List.getElem_cons_succ, List.getElem_cons_zero, List.setIfInBounds_toArray, List.set_cons_succ, List.set_cons_zero]
  refine wpAnyC_take 6 (.int .u8 (48 + (n : Int) % 10)) rfl (by kernel_rfl) (by kernel_rfl) (by kernel_rfl) (fun _ _ _ h => h) (wanted_free rfl _) (fun W hW => by go_simp; exact IntWalk.u8_in _ (by omega)) ?_
  try simp only [Act.put, List.getElem_toArray, List.getElem_cons_succ, List.getElem_cons_zero, List.setIfInBounds_toArray, List.set_cons_succ, List.set_cons_zero]
  refine wpAnyC_two 2 7 trivial rfl rfl (by kernel_rfl) (wanted_free rfl _) (wanted_free rfl _) (fun KA hKA => ?_) (fun KA hKA => ?_)
  · go_simp
    refine (ihK.out _).mono ?_
    rintro e x2 ⟨rfl, hq⟩
    have hb2 : Kpt (Below w.heap.size w x2) := ⟨(below_drew w).trans hq⟩
    clear hq
    refine hKA _ _ ?_
    clear hKA KA
    try simp only [Act.put, List.getElem_toArray, List.getElem_cons_succ, List.getElem_cons_zero, List.setIfInBounds_toArray, List.set_cons_succ, List.set_cons_zero]
    refine wpAnyC_one 7 trivial rfl (by kernel_rfl) (wanted_free rfl _) (fun KA hKA => ?_)
    go_simp
    refine hKA _ _ ?_
    clear hKA KA
    try simp only [Act.put, List.getElem_toArray, List.getElem_cons_succ, List.getElem_cons_zero, List.setIfInBounds_toArray, List.set_cons_succ, List.set_cons_zero]
    refine wpAnyC_one 8 trivial rfl (by kernel_rfl) (wanted_free rfl _) (fun KA hKA => ?_)
    go_simp
    refine hKA _ _ ?_
    clear hKA KA
    try simp only [Act.put, List.getElem_toArray, List.getElem_cons_succ, List.getElem_cons_zero, List.setIfInBounds_toArray, List.set_cons_succ, List.set_cons_zero]
    refine wpAnyC_one 9 trivial rfl (by kernel_rfl) (wanted_free rfl _) (fun KA hKA => ?_)
    go_simp
    refine hKA _ _ ?_
    clear hKA KA
    try simp only [Act.put, List.getElem_toArray, List.getElem_cons_succ, List.getElem_cons_zero, List.setIfInBounds_toArray, List.set_cons_succ, List.set_cons_zero]
    refine wpAnyC_one 10 trivial rfl (by kernel_rfl) (wanted_free rfl _) (fun KA hKA => ?_)
    go_simp
    refine hKA _ _ ?_
    clear hKA KA
    try simp only [Act.put, List.getElem_toArray, List.getElem_cons_succ, List.getElem_cons_zero, List.setIfInBounds_toArray, List.set_cons_succ, List.set_cons_zero]
    refine wpAnyC_done trivial (by kernel_rfl) ?_
    go_wp2
    go_ret
    exact ⟨congrArg (fun s => Ending.returned (.string s)) hd'.out, hb2.out.alloc hb2.out.size _⟩
  · go_simp
    refine hKA _ _ ?_
    clear hKA KA
    try simp only [Act.put, List.getElem_toArray, List.getElem_cons_succ, List.getElem_cons_zero, List.setIfInBounds_toArray, List.set_cons_succ, List.set_cons_zero]
    refine wpAnyC_two 2 8 trivial rfl rfl (by kernel_rfl) (wanted_free rfl _) (wanted_free rfl _) (fun KA hKA => ?_) (fun KA hKA => ?_)
    · go_simp
      refine (ihK.out _).mono ?_
      rintro e x2 ⟨rfl, hq⟩
      have hc1 : x2.cell? ⟨w.heap.size, 0, none⟩ = some (.int .u8 (48 + (n : Int) % 10)) := one_kept (w := w.drew) hq
      have hb2 : Kpt (Below w.heap.size w x2) := ⟨(below_drew w).trans ((below_alloc w.drew _).trans (hq.mono (by simp)))⟩
      clear hq
      refine hKA _ _ ?_
      clear hKA KA
      try simp only [Act.put, List.getElem_toArray, List.getElem_cons_succ, List.getElem_cons_zero, List.setIfInBounds_toArray, List.set_cons_succ, List.set_cons_zero]
      refine wpAnyC_one 8 trivial rfl (by kernel_rfl) (wanted_free rfl _) (fun KA hKA => ?_)
      go_simp
      refine hKA _ _ ?_
      clear hKA KA
      try simp only [Act.put, List.getElem_toArray, List.getElem_cons_succ, List.getElem_cons_zero, List.setIfInBounds_toArray, List.set_cons_succ, List.set_cons_zero]
      refine wpAnyC_one 9 trivial rfl (by kernel_rfl) (wanted_free rfl _) (fun KA hKA => ?_)
      go_simp
      refine hKA _ _ ?_
      clear hKA KA
      try simp only [Act.put, List.getElem_toArray, List.getElem_cons_succ, List.getElem_cons_zero, List.setIfInBounds_toArray, List.set_cons_succ, List.set_cons_zero]
      refine wpAnyC_one 10 trivial rfl (by kernel_rfl) (wanted_free rfl _) (fun KA hKA => ?_)
      go_simp
      refine hKA _ _ ?_
      clear hKA KA
      try simp only [Act.put, List.getElem_toArray, List.getElem_cons_succ, List.getElem_cons_zero, List.setIfInBounds_toArray, List.set_cons_succ, List.set_cons_zero]
      refine wpAnyC_done trivial (by kernel_rfl) ?_
      go_wp2
      go_ret
      exact ⟨congrArg (fun s => Ending.returned (.string s)) hd'.out, hb2.out⟩
    · go_simp
      refine hKA _ _ ?_
      clear hKA KA
      try simp only [Act.put, List.getElem_toArray, List.getElem_cons_succ, List.getElem_cons_zero, List.setIfInBounds_toArray, List.set_cons_succ, List.set_cons_zero]
      refine wpAnyC_one 2 trivial rfl (by kernel_rfl) (wanted_free rfl _) (fun KA hKA => ?_)
      go_simp
      refine (ihK.out _).mono ?_
      rintro e x2 ⟨rfl, hq⟩
      have hb2 : Kpt (Below w.heap.size w x2) := ⟨(below_drew w).trans ((below_alloc w.drew _).trans (hq.mono (by simp)))⟩
      clear hq
      refine hKA _ _ ?_
      clear hKA KA
      try simp only [Act.put, List.getElem_toArray, List.getElem_cons_succ, List.getElem_cons_zero, List.setIfInBounds_toArray, List.set_cons_succ, List.set_cons_zero]
      refine wpAnyC_one 9 trivial rfl (by kernel_rfl) (wanted_free rfl _) (fun KA hKA => ?_)
      go_simp
      refine hKA _ _ ?_
      clear hKA KA
      try simp only [Act.put, List.getElem_toArray, List.getElem_cons_succ, List.getElem_cons_zero, List.setIfInBounds_toArray, List.set_cons_succ, List.set_cons_zero]
      refine wpAnyC_one 10 trivial rfl (by kernel_rfl) (wanted_free rfl _) (fun KA hKA => ?_)
      go_simp
      refine hKA _ _ ?_
      clear hKA KA
      try simp only [Act.put, List.getElem_toArray, List.getElem_cons_succ, List.getElem_cons_zero, List.setIfInBounds_toArray, List.set_cons_succ, List.set_cons_zero]
      refine wpAnyC_done trivial (by kernel_rfl) ?_
      go_wp2
      go_ret
      exact ⟨congrArg (fun s => Ending.returned (.string s)) hd'.out, hb2.out⟩
theorem dec_any (n : Nat) (w : World) (h64 : n < 18446744073709551616) :
    Calls Tryd.prog 18 #[.int .u64 (n : Nat)] w fun e w' => e = .returned (.string (decS n)) ∧ Below w.heap.size w w' := by
  induction n using Nat.strongRecOn generalizing w with
  | _ n ih =>
    by_cases h : n < 10
    · exact dec_small n w h
    · exact dec_great n w (by omega) h64 (fun W => ih (n / 10) (by omega) W (by omega))
end Go.Proofs.YtkojkglaljiilaaDoor
