/-
  text: hasTwice.
-/
import Derived.Test.YtdplndlmdhpfaaaXFind
namespace Go.Proofs.Ytdplndlmdhpfaaa
open Go.RowKit
set_option linter.unusedVariables false
set_option linter.unusedSimpArgs false

/-- A key stands at k that stood ahead of it. -/
def twAt (ps : List (ByteArray × ByteArray)) (k : Nat) : Bool := match ps[k]? with
  | none => false
  | some p => (findP (ps.take k) p.1).isSome
def twP (ps : List (ByteArray × ByteArray)) : Bool := (List.range ps.length).any (twAt ps)
theorem twP_yes {ps : List (ByteArray × ByteArray)} {k : Nat} (hk : k < ps.length) (h : twAt ps k = true) : twP ps = true := by
  unfold twP
  rw [List.any_eq_true]
  exact ⟨k, List.mem_range.2 hk, h⟩
theorem twP_no {ps : List (ByteArray × ByteArray)} (h : ∀ j, j < ps.length → twAt ps j = false) : twP ps = false := by
  unfold twP
  rw [List.any_eq_false]
  intro j hj
  rw [h j (List.mem_range.1 hj)]
  simp
theorem ret_bool' {a b : Bool} (h : a = b) : Ending.returned (.bool a) = .returned (.bool b) := by rw [h]

set_option maxRecDepth 100000 in
set_option maxHeartbeats 2000000 in
theorem twice_any (a : Option Addr) (n c : Nat) (ps : List (ByteArray × ByteArray)) (w : World) (hr : PsAt w (.slice a n c) ps) (hn : n ≤ maxLen) (hc : c ≤ maxLen) :
    Calls Try.prog 77 #[.slice a n c] w fun e w' => e = .returned (.bool (twP ps)) ∧ Below w.heap.size w w' := by
  have hl : ps.length = n := by obtain ⟨a', c', hv, _⟩ := hr; simp only [Value.slice.injEq] at hv; exact hv.2.1.symm
  have hcn : n ≤ c := by obtain ⟨a', c', hv, h1, h2, h3⟩ := hr; simp only [Value.slice.injEq] at hv; omega
  have hrB : Kpt (∀ W, Below w.heap.size w W → PsAt W (.slice a n c) ps) := ⟨fun W h => hr.bel h⟩
  have hF : Kpt (∀ W k x, Below w.heap.size w W → k ≤ n → Calls Try.prog 88 #[.slice a k c, .string x] W fun e w' => e = .returned (.tuple #[.string (findV (findP (ps.take k) x)), .bool (findP (ps.take k) x).isSome]) ∧ Below W.heap.size W w') := ⟨fun W k x h hk => find_any a k c (ps.take k) x W ((hr.bel h).take k hk) (by omega)⟩
  unfold maxLen at hn hc
  have hl' := Kpt.mk hl
  clear hr hl
  go_enter Try.func77, Try.ntmps77
  go_wp2
  go_loopw [9] (fun t wr => ∃ k : Nat, k ≤ n ∧ t = .int .i64 k ∧ Kpt (Below w.heap.size w wr) ∧ Kpt (∀ j, j < k → twAt ps j = false)) (fun t _ => n - (intOf t).toNat)
  case atStart => exact ⟨0, by omega, rfl, ⟨Below.refl _ _⟩, ⟨fun j hj => by omega⟩⟩
  case round =>
    obtain ⟨k, hk, rfl, hbk, hno⟩ := hrel
    by_cases hlt : k < n
    · have hltI : (k : Int) < n := by omega
      obtain ⟨p, hp⟩ : ∃ p, ps[k]? = some p := ⟨_, List.getElem?_eq_getElem (by rw [hl'.out]; exact hlt)⟩
      obtain ⟨b, off, rfl, hcell⟩ : ∃ b off, a = some ⟨b, off, none⟩ ∧ Kpt (wr.rangeAt b (off + k * 2) (pcs p)) := by
        obtain ⟨a', c', hv, h1, h2, h3⟩ := hrB.out wr hbk.out
        simp only [Value.slice.injEq] at hv
        obtain ⟨rfl, -, -⟩ := hv
        rcases h3 with h3 | ⟨b, off, rfl, -, hc⟩
        · have := hl'.out; omega
        · exact ⟨b, off, rfl, ⟨hc k p hp⟩⟩
      have hp' := Kpt.mk hp
      clear hp
      obtain ⟨K, V⟩ := p
      have htw : Kpt (twAt ps k = (findP (ps.take k) K).isSome) := ⟨by unfold twAt; rw [hp'.out]⟩
      obtain ⟨fo, hfo⟩ : ∃ o, o = findP (ps.take k) K := ⟨_, rfl⟩
      have hFk := Kpt.mk (fun W hW => hF.out W k K hW (by omega))
      rw [← hfo] at hFk htw
      clear hfo
      have kc : ¬ c < k := by omega
      have kc2 : ¬ (c : Int) < (k : Int) := by omega
      go_wp2_with (first
        | (refine (?_ : wpList _ _ _ (Oper.mk none (Op.store _ _ _) _ _ _ _ :: _) _ _); go_must (refine wpList_store_bx rfl 105 (.tmp 4) (.tmp 13) rfl B1 #[.string ⟨#[]⟩, .string ⟨#[]⟩] #[.string K, .string V] rfl rfl hX1.out rfl sizePr (pr_one K V) rfl ?_; intro w2 hX2 hg2; have hb2 : Kpt (Below w.heap.size w w2) := ⟨hb1.out.grown hg2 hb1.out.size (fun k h => by cases h; exact hB1.out)⟩; replace hX2 := Kpt.mk hX2; clear hg2))
        | (refine wpList_var rfl 105 rfl #[.string ⟨#[]⟩, .string ⟨#[]⟩] zeroPr ?_; intro B1 w1 hB1 hX1 hbe1; have hb1 : Kpt (Below w.heap.size w w1) := ⟨hbk.out.trans (hbe1.mono hbk.out.size)⟩; replace hB1 : Kpt (w.heap.size ≤ B1) := ⟨Nat.le_trans hbk.out.size hB1⟩; replace hX1 := Kpt.mk hX1; clear hbe1)
        | (refine wpList_load_mid rfl 105 (.tmp 12) rfl b (off + k * 2) rfl [.string K, .string V] _ hcell.out Try.underlying105 rfl sizePr ?_))
      refine wp_region_any (by kernel_rfl) ?_
      refine wpAny_of_C (C := fun W => W.cell? ⟨B1, 0, none⟩ = some (.string K)) _ _ _ _ ?_
      refine wpAnyC_take 0 (.slice (some ⟨b, off, none⟩) n c) rfl (by kernel_rfl) (by kernel_rfl) (by kernel_rfl) (fun _ _ _ h => h) (wanted_free rfl _) (fun W hW => by go_simp) ?_
      try simp only [Act.put, List.getElem_toArray, List.getElem_cons_succ, List.getElem_cons_zero, List.setIfInBounds_toArray, List.set_cons_succ, List.set_cons_zero]
      refine wpAnyC_take 1 (.int .i64 k) rfl (by kernel_rfl) (by kernel_rfl) (by kernel_rfl) (fun _ _ _ h => h) (wanted_free rfl _) (fun W hW => by go_simp) ?_
      try simp only [Act.put, List.getElem_toArray, List.getElem_cons_succ, List.getElem_cons_zero, List.setIfInBounds_toArray, List.set_cons_succ, List.set_cons_zero]
      refine wpAnyC_take 2 (.slice (some ⟨b, off, none⟩) k c) rfl (by kernel_rfl) (by kernel_rfl) (by kernel_rfl) (fun _ _ _ h => h) (wanted_free rfl _) (fun W hW => by go_simp) ?_
      try simp only [Act.put, List.getElem_toArray, List.getElem_cons_succ, List.getElem_cons_zero, List.setIfInBounds_toArray, List.set_cons_succ, List.set_cons_zero]
      refine wpAnyC_take 3 (.pointer (some ⟨B1, 0, none⟩)) rfl (by kernel_rfl) (by kernel_rfl) (by kernel_rfl) (fun _ _ _ h => h) (wanted_free rfl _) (fun W hW => by go_simp) ?_
      try simp only [Act.put, List.getElem_toArray, List.getElem_cons_succ, List.getElem_cons_zero, List.setIfInBounds_toArray, List.set_cons_succ, List.set_cons_zero]
      refine wpAnyC_take 4 (.string K) rfl (by kernel_rfl) (by kernel_rfl) (by kernel_rfl) (fun _ _ _ h => h) (wanted_free rfl _) (fun W hW => by go_simp) ?_
      try simp only [Act.put, List.getElem_toArray, List.getElem_cons_succ, List.getElem_cons_zero, List.setIfInBounds_toArray, List.set_cons_succ, List.set_cons_zero]
      refine wpAnyC_one 5 ((bx_two hX2.out.drew).1) rfl (by kernel_rfl) (wanted_free rfl _) (fun KA hKA => ?_)
      go_simp
      refine (hFk.out _ hb2.out.drew).mono ?_
      rintro e w3 ⟨rfl, hbe3⟩
      replace hbe3 := below_undrew hbe3
      have hb3 : Kpt (Below w.heap.size w w3) := ⟨hb2.out.trans (hbe3.mono hb2.out.size)⟩
      have hc3 : Kpt (w3.cell? ⟨B1, 0, none⟩ = some (.string K)) := ⟨(bx_two (hX2.out.below hbe3 hX2.out.lt)).1⟩
      clear hbe3
      refine hKA _ _ ?_
      clear hKA KA
      try simp only [Act.put, List.getElem_toArray, List.getElem_cons_succ, List.getElem_cons_zero, List.setIfInBounds_toArray, List.set_cons_succ, List.set_cons_zero]
      refine wpAnyC_take 6 (.tuple #[.string (findV fo), .bool fo.isSome]) rfl (by kernel_rfl) (by kernel_rfl) (by kernel_rfl) (fun _ _ _ h => h) (wanted_free rfl _) (fun W hW => by go_simp) ?_
      try simp only [Act.put, List.getElem_toArray, List.getElem_cons_succ, List.getElem_cons_zero, List.setIfInBounds_toArray, List.set_cons_succ, List.set_cons_zero]
      refine wpAnyC_take 7 (.string (findV fo)) rfl (by kernel_rfl) (by kernel_rfl) (by kernel_rfl) (fun _ _ _ h => h) (wanted_free rfl _) (fun W hW => by go_simp) ?_
      try simp only [Act.put, List.getElem_toArray, List.getElem_cons_succ, List.getElem_cons_zero, List.setIfInBounds_toArray, List.set_cons_succ, List.set_cons_zero]
      refine wpAnyC_take 8 (.bool fo.isSome) rfl (by kernel_rfl) (by kernel_rfl) (by kernel_rfl) (fun _ _ _ h => h) (wanted_free rfl _) (fun W hW => by go_simp) ?_
      try simp only [Act.put, List.getElem_toArray, List.getElem_cons_succ, List.getElem_cons_zero, List.setIfInBounds_toArray, List.set_cons_succ, List.set_cons_zero]
      refine wpAnyC_take 9 (.string (findV fo)) rfl (by kernel_rfl) (by kernel_rfl) (by kernel_rfl) (fun _ _ _ h => h) (wanted_free rfl _) (fun W hW => by go_simp) ?_
      try simp only [Act.put, List.getElem_toArray, List.getElem_cons_succ, List.getElem_cons_zero, List.setIfInBounds_toArray, List.set_cons_succ, List.set_cons_zero]
      refine wpAnyC_take 10 (.bool fo.isSome) rfl (by kernel_rfl) (by kernel_rfl) (by kernel_rfl) (fun _ _ _ h => h) (wanted_free rfl _) (fun W hW => by go_simp) ?_
      try simp only [Act.put, List.getElem_toArray, List.getElem_cons_succ, List.getElem_cons_zero, List.setIfInBounds_toArray, List.set_cons_succ, List.set_cons_zero]
      refine wpAnyC_done (hc3.out) (by kernel_rfl) ?_
      cases hfs : fo.isSome with
      | true =>
        rw [hfs] at htw
        have hy := Kpt.mk (twP_yes (by rw [hl'.out]; exact hlt) htw.out)
        go_wp2
        go_ret
        exact ⟨ret_bool' hy.out.symm, hb3.out⟩
      | false =>
        rw [hfs] at htw
        have hno2 : Kpt (∀ j, j < k + 1 → twAt ps j = false) := ⟨fun j hj => by
          by_cases hjk : j < k
          · exact hno.out j hjk
          · obtain rfl : j = k := by omega
            exact htw.out⟩
        go_wp2
        go_roundw
        case rel => exact ⟨k + 1, by omega, by go_num, hb3, hno2⟩
        case measure => simp [intOf]; omega
    · have hltI : ¬ (k : Int) < n := by omega
      have hf := Kpt.mk (twP_no (ps := ps) (fun j hj => hno.out j (by have := hl'.out; omega)))
      go_wp2
      go_ret
      exact ⟨ret_bool' hf.out.symm, hbk.out⟩
end Go.Proofs.Ytdplndlmdhpfaaa
