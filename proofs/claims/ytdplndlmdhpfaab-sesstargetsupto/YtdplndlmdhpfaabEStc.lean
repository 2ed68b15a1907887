/-
  sess: slices.Clone of texts; New with targets.
-/
import Derived.Test.YtdplndlmdhpfaabESt
import Derived.Test.YtdplndlmdhpfaabENop
import Derived.Laws.AppendOwnNone
namespace Go.Proofs.Ytdplndlmdhpfaab
open Go.RowKit
set_option linter.unusedVariables false
set_option linter.unusedSimpArgs false

theorem own_str {w : World} {base n : Nat} {v : Value} {os : List ByteArray} (hn : os.length = n) (h : w.ownsRow base 9 1 v n (os.map Value.string)) : ∃ a c, v = .slice a n c ∧ StAt w (.slice a n c) os ∧ c ≤ maxLen ∧ ∀ x, a = some x → base ≤ x.block ∧ x.block < w.heap.size := by
  subst hn
  rcases h.2 with ⟨rfl, h0⟩ | ⟨g, cap, cur, rfl, hb, hg, hnc, hcm, hcs, htk⟩
  · have h1 := h0
    refine ⟨none, 0, by rw [h1], ?_, Nat.zero_le _, fun x e => by cases e⟩
    exact ⟨none, 0, by rw [h1], by omega, .inl h1⟩
  · refine ⟨some ⟨g, 0, none⟩, cap, rfl, ⟨some ⟨g, 0, none⟩, cap, rfl, hnc, ?_⟩, hcm, fun x e => by cases e; exact ⟨hb, (Array.getElem?_eq_some_iff.1 hg).1⟩⟩
    by_cases h0 : os.length = 0
    · exact .inl h0
    · refine .inr ⟨g, 0, rfl, (Array.getElem?_eq_some_iff.1 hg).1, fun j hj => ?_⟩
      rw [Nat.zero_add, h.cellAt j (by simpa using hj), List.getElem?_map, List.getElem?_eq_getElem hj, List.getD_eq_getElem?_getD, List.getElem?_eq_getElem hj]
      rfl
theorem infoStr : (Try.prog.info? 9).map (fun i => (i.zero, i.size, i.bytes)) = some (some (.string ⟨#[]⟩), 1, 16) := by kernel_rfl
theorem strs_one (os : List ByteArray) : ∀ v ∈ os.map Value.string, v.oneCell' = true := fun v hv => by
  obtain ⟨s, _, rfl⟩ := List.mem_map.1 hv
  rfl
theorem eqlNilStr (w : World) : (binOp .eql 22 (.slice none 0 0) (.slice none 0 0)).run Try.prog w = .ok (.bool true) w := by kernel_rfl
theorem eqlStr (a : Addr) (n c : Nat) (w : World) : (binOp .eql 22 (.slice (some a) n c) (.slice none 0 0)).run Try.prog w = .ok (.bool false) w := by kernel_rfl

set_option maxRecDepth 100000 in
theorem cloneS_any (a : Option Addr) (n c : Nat) (os : List ByteArray) (w : World) (h : StAt w (.slice a n c) os) (hc : a = none → c = 0) (hn : n ≤ 1048576) :
    Calls Try.prog 16 #[.slice a n c] w fun e w' => (∃ a' c', e = .returned (.slice a' n c') ∧ StAt w' (.slice a' n c') os ∧ (∀ x, a' = some x → w.heap.size ≤ x.block ∧ x.block < w'.heap.size) ∧ c' ≤ maxLen) ∧ Below w.heap.size w w' := by
  obtain ⟨a0, c0, hv, h1, h2⟩ := h
  simp only [Value.slice.injEq] at hv
  obtain ⟨rfl, rfl, rfl⟩ := hv
  cases a with
  | none =>
    obtain rfl := hc rfl
    have hz : os.length = 0 := by omega
    rw [hz]
    have h0 := eqlNilStr
    clear h1 h2 hn
    go_enter Try.func16, Try.ntmps16
    go_wp2
    go_ret
    exact ⟨⟨none, 0, rfl, ⟨none, 0, by rw [hz], by omega, .inl hz⟩, (fun x e => by cases e), Nat.zero_le _⟩, Below.refl _ _⟩
  | some ad =>
    have h0 := eqlStr ad os.length c
    have hcell : Kpt (∀ (o : Obj) (j : Nat) (u : Value), (os.map Value.string)[j]? = some u → (w.alloc o).cell? (ad.add j) = some u) := ⟨fun o j u hj => by
      have hjl : j < os.length := by have := (List.getElem?_eq_some_iff.1 hj).1; simpa using this
      rcases h2 with h2 | ⟨b, off, hb, hlt, hcc⟩
      · omega
      · have hb' : ad = ⟨b, off, none⟩ := by simpa using hb
        subst hb'
        rw [Go.WideShapes.add_plain]
        refine (World.grownBy_alloc w o none).cell ?_ (by simp)
        rw [hcc j hjl, ← hj, List.getElem?_map, List.getD_eq_getElem?_getD, List.getElem?_eq_getElem hjl]
        rfl⟩
    have hown0 : Kpt ((w.alloc (.cells #[] 9)).ownsRow w.heap.size 9 1 (.slice (some ⟨w.heap.size, 0, none⟩) 0 0) 0 []) := ⟨World.ownsRow_made w #[] 0 (Nat.le_refl _) (Nat.zero_le _) rfl⟩
    obtain ⟨i0, hi0, hz0, hz1, hz2⟩ := info_parts infoStr
    have hI := Kpt.mk hi0
    have hI0 := Kpt.mk hz0
    have hI1 := Kpt.mk hz1
    have hI2 := Kpt.mk hz2
    clear h2 hi0 hz0 hz1 hz2
    go_enter Try.func16, Try.ntmps16
    go_wp2_with (at_builtin; refine wpList_append_own _ rfl _ _ 22 rfl w.heap.size 9 i0 (.string ⟨#[]⟩) 1 16 Try.underlying22 hI.out hI0.out hI1.out hI2.out rfl (by decide) (.slice (some ⟨w.heap.size, 0, none⟩) 0 0) 0 [] rfl hown0.out ad os.length c (os.map Value.string) rfl (by simp) (hcell.out _) (strs_one os) (by unfold maxLen; omega) (by omega) (by simp) ?_; intro v' w' hown' hg' _)
    go_ret
    rw [List.nil_append, Nat.zero_add] at hown'
    have hgr : w.grownBy w' none := (World.grownBy_alloc w (.cells #[] 9) none).andThen hg' (by simp [Value.ownBlock])
    obtain ⟨a', c', rfl, k1, k2, k3⟩ := own_str rfl hown'
    exact ⟨⟨a', c', rfl, k1, k3, k2⟩, below_none hgr⟩

/-- A session that is new, with targets. -/
def Se.newT (s : Se) (first : Int) (tg : Value) : Se := { (s.new first) with tg := tg }
set_option maxRecDepth 100000 in
set_option maxHeartbeats 4000000 in
theorem new_str (s : Se) (first : Int) (a : Option Addr) (n c : Nat) (os : List ByteArray) (w : World) (h : StAt w (.slice a n c) os) (hc : a = none → c = 0) (hn : n ≤ 1048576) :
    Calls Try.prog 8 #[.agg s.prm, .slice a n c, .int .u32 first] w fun e w' => (∃ S a' c', e = .returned (.pointer (some ⟨S, 0, none⟩)) ∧ w.heap.size ≤ S ∧ Ss w' S (s.newT first (.slice a' n c')) [] [] [] ∧ StAt w' (.slice a' n c') os ∧ c' ≤ maxLen ∧ ∀ x, a' = some x → x.block ≠ S ∧ x.block < w'.heap.size) ∧ Below w.heap.size w w' := by
  have fC : Kpt (∀ W : World, Below w.heap.size w W → Calls Try.prog 16 #[.slice a n c] W fun e w' => (∃ a' c', e = .returned (.slice a' n c') ∧ StAt w' (.slice a' n c') os ∧ (∀ x, a' = some x → W.heap.size ≤ x.block ∧ x.block < w'.heap.size) ∧ c' ≤ maxLen) ∧ Below W.heap.size W w') := ⟨fun W hb => cloneS_any a n c os W (h.bel hb) hc hn⟩
  clear h hc hn
  go_enter Try.func8, Try.ntmps8
  go_wp2_with (refine (?_ : wpList _ _ _ (Oper.mk _ (Op.box 25 _) _ _ _ _ :: _) _ _); go_must (refine wpList_box rfl 25 _ rfl s.prm rfl ?_; intro R w1 hR hBq hbe _; have hb1 := Kpt.mk hbe; have hX1 := Kpt.mk hBq; replace hR := Kpt.mk hR; clear hBq hbe))
  refine wp_region_any (by kernel_rfl) ?_
  refine wpAny_of_C (C := fun W => Bx W R s.prm) _ _ _ _ ?_
  refine wpAnyC_take 0 (.agg s.prm) rfl (by kernel_rfl) (by kernel_rfl) (by kernel_rfl) (fun _ _ _ h => h) (wanted_free rfl _) (fun W hW => exec_load_bx 25 (.tmp 3) rfl R s.prm rfl hW _ Try.underlying25 rfl szPrm) ?_
  try simp only [Act.put, List.getElem_toArray, List.getElem_cons_succ, List.getElem_cons_zero, List.setIfInBounds_toArray, List.set_cons_succ, List.set_cons_zero]
  refine wpAnyC_take 1 (.slice a n c) rfl (by kernel_rfl) (by kernel_rfl) (by kernel_rfl) (fun _ _ _ h => h) (wanted_free rfl _) (fun W hW => by go_simp) ?_
  try simp only [Act.put, List.getElem_toArray, List.getElem_cons_succ, List.getElem_cons_zero, List.setIfInBounds_toArray, List.set_cons_succ, List.set_cons_zero]
  refine wpAnyC_take 3 (.int .u32 first) rfl (by kernel_rfl) (by kernel_rfl) (by kernel_rfl) (fun _ _ _ h => h) (wanted_free rfl _) (fun W hW => by go_simp) ?_
  try simp only [Act.put, List.getElem_toArray, List.getElem_cons_succ, List.getElem_cons_zero, List.setIfInBounds_toArray, List.set_cons_succ, List.set_cons_zero]
  refine wpAnyC_one 2 (hX1.out.drew) rfl (by kernel_rfl) (wanted_free rfl _) (fun KA hKA => ?_)
  go_simp
  refine (fC.out _ (hb1.out.trans ((below_drew w1).mono hb1.out.size))).mono ?_
  rintro e w2 ⟨⟨a', c', rfl, hst, hnw, hcm⟩, hb2⟩
  have hR2 := hX1.out.lt
  have hX2 := Kpt.mk (hX1.out.drew.below hb2 hX1.out.lt)
  have hb3 : Kpt (Below w.heap.size w w2) := ⟨(hb1.out.trans ((below_drew w1).mono hb1.out.size)).trans (hb2.mono (Nat.le_trans hb1.out.size (Nat.le_refl _)))⟩
  replace hst := Kpt.mk hst
  replace hnw := Kpt.mk hnw
  replace hcm := Kpt.mk hcm
  clear hb2
  refine hKA _ _ ?_
  clear hKA KA
  try simp only [Act.put, List.getElem_toArray, List.getElem_cons_succ, List.getElem_cons_zero, List.setIfInBounds_toArray, List.set_cons_succ, List.set_cons_zero]
  refine wpAnyC_take 4 (.agg (s.newT first (.slice a' n c')).v) rfl (by kernel_rfl) (by kernel_rfl) (by kernel_rfl) (fun _ _ _ h => h) (wanted_free rfl _) (fun W hW => by unfold Se.newT Se.new Se.v Se.prm; go_simp) ?_
  try simp only [Act.put, List.getElem_toArray, List.getElem_cons_succ, List.getElem_cons_zero, List.setIfInBounds_toArray, List.set_cons_succ, List.set_cons_zero]
  refine wpAnyC_one 5 (hX2.out) rfl (by kernel_rfl) (wanted_free rfl _) (fun KA hKA => ?_)
  go_simp
  refine hKA _ _ ?_
  clear hKA KA
  try simp only [Act.put, List.getElem_toArray, List.getElem_cons_succ, List.getElem_cons_zero, List.setIfInBounds_toArray, List.set_cons_succ, List.set_cons_zero]
  refine wpAnyC_one 6 (hX2.out.alloc _) rfl (by kernel_rfl) (wanted_free rfl _) (fun KA hKA => ?_)
  go_simp
  refine hKA _ _ ?_
  clear hKA KA
  try simp only [Act.put, List.getElem_toArray, List.getElem_cons_succ, List.getElem_cons_zero, List.setIfInBounds_toArray, List.set_cons_succ, List.set_cons_zero]
  refine wpAnyC_done (hX2.out.alloc _) (by kernel_rfl) ?_
  go_wp2
  go_ret
  refine ⟨⟨w2.heap.size, a', c', rfl, hb3.out.size, ?_, hst.out.bel ((Below.refl _ _).alloc (Nat.le_refl _) _), hcm.out, fun x e => ?_⟩, hb3.out.alloc hb3.out.size _⟩
  · exact ⟨bx_new w2 _ 65, OwnR.nil _ _ _, OwnR.nil _ _ _, OwnR.nil _ _ _, by simp [Se.newT, Se.new, Value.ownBlock], by simp [Se.newT, Se.new, Value.ownBlock], by simp [Se.newT, Se.new, Value.ownBlock], fun b h => by simp [Se.newT, Se.new, Value.ownBlock] at h, fun b h => by simp [Se.newT, Se.new, Value.ownBlock] at h, fun b h => by simp [Se.newT, Se.new, Value.ownBlock] at h⟩
  · have := (hnw.out x e).2
    exact ⟨by omega, by simp; omega⟩
end Go.Proofs.Ytdplndlmdhpfaab
