/-
  sess: In, of commands in any order.
-/
import Derived.Test.YtdplndlmdhpfaaaEOhl
import Derived.Test.YtdplndlmdhpfaaaEWin
import Derived.Deep.DeepCutAuto
namespace Go.Proofs.Ytdplndlmdhpfaaa
open Go.RowKit
set_option linter.unusedVariables false
set_option linter.unusedSimpArgs false

theorem hds_map (first : Int) (ks : List Nat) : hds first ks = (ks.map (opd first)).map Pd.v := by simp [hds, List.map_map]
theorem hds_any {first : Int} {ks : List Nat} {k : Nat} (hk : k < 16) (hle : ∀ j ∈ ks, j < 16) : (((ks.map (opd first)).map Pd.v).any (isN ((first + k) % 4294967296))) = decide (k ∈ ks) := by
  rw [Bool.eq_iff_iff]
  simp only [List.any_eq_true, decide_eq_true_eq]
  constructor
  · rintro ⟨z, hz, he⟩
    obtain ⟨p, hp, rfl⟩ := List.mem_map.1 hz
    obtain ⟨j, hj, rfl⟩ := List.mem_map.1 hp
    have h1 := hle j hj
    have h2 : (first + (j : Int)) % 4294967296 = (first + (k : Int)) % 4294967296 := of_decide_eq_true he
    have : j = k := by omega
    rw [← this]; exact hj
  · intro h
    exact ⟨(opd first k).v, List.mem_map.2 ⟨opd first k, List.mem_map.2 ⟨k, h, rfl⟩, rfl⟩, by simp [isN, numOf_v, opd, rdP]⟩
theorem eqlB (w : World) : (binOp .eql 23 (.slice none 0 0) (.slice none 0 0)).run Try.prog w = .ok (.bool true) w := by kernel_rfl
set_option maxRecDepth 100000 in
theorem cloneB_nil (w : World) : Calls Try.prog 26 #[.slice none 0 0] w fun e w' => e = .returned (.slice none 0 0) ∧ w' = w := by
  have h0 := eqlB
  go_enter Try.func26, Try.ntmps26
  go_wp2
  go_ret
  exact ⟨rfl, rfl⟩

set_option maxRecDepth 100000 in
set_option maxHeartbeats 4000000 in
theorem in_dup (S : Nat) (s : Se) (first : Int) (nx : Nat) (ks : List Nat) (k : Nat) (w : World) (h : Oh w w S s s first nx ks) (hk : k < 16) (hle16 : ∀ j ∈ ks, j < 16) (hlk : ks.length ≤ 99) (hkn : nx ≤ k) (hin : k ∈ ks) :
    Calls Try.prog 11 #[.pointer (some ⟨S, 0, none⟩), .agg (opd first k).v] w fun e w' => e = .returned (.tuple #[.slice none 0 0, .slice none 0 0]) ∧ Below w.heap.size w w' := by
  have k0 := Kpt.mk (Lo.start h.lo.ss)
  have hO : Kpt (∀ W : World, Calls Try.prog 20 #[.agg (opd first k).v] W fun e w' => e = .returned (.int .u8 1) ∧ Below W.heap.size W w') := ⟨fun W => operation_any (opd first k) W (.inr (.inl rfl))⟩
  have hI : Kpt (∀ W : World, Calls Try.prog 22 #[.int .u8 1] W fun e w' => e = .returned (.bool true) ∧ w' = W) := ⟨fun W => isKnown_any 1 W (by simp)⟩
  obtain ⟨A, hA⟩ : ∃ A, A = (first + (k : Int)) % 4294967296 := ⟨_, rfl⟩
  obtain ⟨B, hB⟩ : ∃ B, B = (first + (nx : Int)) % 4294967296 := ⟨_, rfl⟩
  have hH : Kpt (∀ W, Ss W S s (hds first ks) ((ocs nx).map Cm.v) [] → Calls Try.prog 25 #[.pointer (some ⟨S, 0, none⟩), .int .u32 A] W fun e w' => e = .returned (.bool true) ∧ Below W.heap.size W w') := ⟨fun W h => by
    rw [hds_map] at h
    have := holds_any S s (ks.map (opd first)) ((ocs nx).map Cm.v) [] A W h (by simp; omega)
    rw [hA, hds_any hk hle16, show decide (k ∈ ks) = true from by simp [hin]] at this
    rw [hA]
    exact this⟩
  have hwr : IntKind.u32.wrap (A - B) = (A - B) % 4294967296 := IntKind.wrap_u32 _
  have hlo : ¬ 16 ≤ (A - B) % 4294967296 := by rw [hA, hB]; omega
  have hlod : decide (16 ≤ (A - B) % 4294967296) = false := by simp; omega
  have hnB : Kpt (s.next = B) := ⟨by rw [hB]; exact h.next⟩
  have hw7 : Kpt ((opd first k).w1 = A) := ⟨by rw [hA]; rfl⟩
  have hov := Kpt.mk h.over
  clear h hA hB
  go_enter Try.func11, Try.ntmps11
  go_wp2_with (first
    | (go_at_call 20; go_must (refine (hO.out _).mono ?_; rintro e w2 ⟨rfl, hb2⟩; have k2 := Kpt.mk (k1.out.below hb2); have c0 : w2.cell? ⟨P, 0, none⟩ = some (.int .u8 1) := k2.out.b0.cells 0 (by simp [Pd.v]); have c7 : w2.cell? ⟨P, 7, none⟩ = some (.int .u32 A) := (k2.out.b0.cells 7 (by simp [Pd.v])).trans (by rw [← hw7.out]; rfl); have c11 := (k2.out.ss.cell 11 (by omega)).1; simp only [Se.v, List.getElem?_toArray, List.getElem?_cons_succ, List.getElem?_cons_zero] at c11; rw [hnB.out] at c11; have hbw2 := Kpt.mk (hbw1.out.trans (hb2.mono hbw1.out.size)); clear hb2))
    | (go_at_call 22; go_must (refine (hI.out _).mono ?_; rintro e wx ⟨rfl, hwx⟩; rw [hwx]; clear hwx))
    | (go_at_call 25; go_must (refine (hH.out _ k2.out.ss).mono ?_; rintro e w3 ⟨rfl, hb3⟩; have k3 := Kpt.mk (k2.out.below hb3); have hbw3 := Kpt.mk (hbw2.out.trans (hb3.mono hbw2.out.size)); have c13 : w3.cell? ⟨P, 13, none⟩ = some (.slice none 0 0) := k3.out.b0.cells 13 (by simp [Pd.v]); have f13 := k3.out.b0.free 13; clear hb3))
    | (refine (?_ : wpList _ _ _ (Oper.mk _ (Op.load 37 _) _ _ _ _ :: _) _ _); go_must (refine wpList_load_bx rfl 37 _ rfl P (opd first k).v rfl k1.out.b0 _ Try.underlying37 rfl szPdu ?_; have hm := hov))
    | (refine (?_ : wpList _ _ _ (Oper.mk _ (Op.box 37 _) _ _ _ _ :: _) _ _); go_must (refine wpList_box rfl 37 _ rfl (opd first k).v rfl ?_; intro P w1 hP hB hb _; have k1 := Kpt.mk (k0.out.add hb hP hB); have hbw1 := Kpt.mk hb; have c17 := (k1.out.ss.cell 17 (by omega)).1; simp only [Se.v, List.getElem?_toArray, List.getElem?_cons_succ, List.getElem?_cons_zero] at c17; rw [hov.out] at c17; clear hb hP hB)))
  go_ret2
  exact ⟨rfl, hbw3.out⟩

set_option maxRecDepth 100000 in
set_option maxHeartbeats 8000000 in
theorem in_new (S : Nat) (s : Se) (first : Int) (nx : Nat) (ks : List Nat) (k : Nat) (w : World) (h : Oh w w S s s first nx ks) (hk : k < 16) (hle16 : ∀ j ∈ ks, j < 16) (hlk : ks.length ≤ 99) (hkn : nx ≤ k) (hin : k ∉ ks) (hnd : ks.Nodup) (hlt : ∀ j ∈ ks, nx ≤ j) :
    Calls Try.prog 11 #[.pointer (some ⟨S, 0, none⟩), .agg (opd first k).v] w fun e w' => ∃ tv nx' ks' s3 zs, e = .returned (.tuple #[.slice none 0 0, tv]) ∧ Oh w w' S s s3 first nx' ks' ∧ Tr w w' S s3 nx nx' tv zs ∧ (∀ j, nx ≤ j → j < nx' → j ∈ ks ++ [k]) ∧ (∀ j, j ∈ ks' ↔ j ∈ ks ++ [k] ∧ nx' ≤ j) ∧ ks'.Nodup ∧ nx' ∉ ks ++ [k] ∧ nx ≤ nx' ∧ ks'.length ≤ ks.length + 1 := by
  have k0 := Kpt.mk (Lo.start h.lo.ss)
  have hO : Kpt (∀ W : World, Calls Try.prog 20 #[.agg (opd first k).v] W fun e w' => e = .returned (.int .u8 1) ∧ Below W.heap.size W w') := ⟨fun W => operation_any (opd first k) W (.inr (.inl rfl))⟩
  have hI : Kpt (∀ W : World, Calls Try.prog 22 #[.int .u8 1] W fun e w' => e = .returned (.bool true) ∧ w' = W) := ⟨fun W => isKnown_any 1 W (by simp)⟩
  obtain ⟨A, hA⟩ : ∃ A, A = (first + (k : Int)) % 4294967296 := ⟨_, rfl⟩
  obtain ⟨B, hB⟩ : ∃ B, B = (first + (nx : Int)) % 4294967296 := ⟨_, rfl⟩
  have hH : Kpt (∀ W, Ss W S s (hds first ks) ((ocs nx).map Cm.v) [] → Calls Try.prog 25 #[.pointer (some ⟨S, 0, none⟩), .int .u32 A] W fun e w' => e = .returned (.bool false) ∧ Below W.heap.size W w') := ⟨fun W h => by
    rw [hds_map] at h
    have := holds_any S s (ks.map (opd first)) ((ocs nx).map Cm.v) [] A W h (by simp; omega)
    rw [hA, hds_any hk hle16, show decide (k ∈ ks) = false from by simp [hin]] at this
    rw [hA]
    exact this⟩
  have hwr : IntKind.u32.wrap (A - B) = (A - B) % 4294967296 := IntKind.wrap_u32 _
  have hlo : ¬ 16 ≤ (A - B) % 4294967296 := by rw [hA, hB]; omega
  have hlod : decide (16 ≤ (A - B) % 4294967296) = false := by simp; omega
  have hnB : Kpt (s.next = B) := ⟨by rw [hB]; exact h.next⟩
  have hw7 : Kpt ((opd first k).w1 = A) := ⟨by rw [hA]; rfl⟩
  have hov := Kpt.mk h.over
  have hC : Kpt (∀ W : World, Calls Try.prog 26 #[.slice none 0 0] W fun e w' => e = .returned (.slice none 0 0) ∧ w' = W) := ⟨cloneB_nil⟩
  have hF : Kpt (∀ W (v1 : Value), Ss W S { s with held := v1 } (hds first (ks ++ [k])) ((ocs nx).map Cm.v) [] → Calls Try.prog 27 #[.pointer (some ⟨S, 0, none⟩)] W fun e w' => ∃ tv nx' ks' s3 zs, e = .returned (.tuple #[.slice none 0 0, tv]) ∧ Oh W w' S { s with held := v1 } s3 first nx' ks' ∧ Tr W w' S s3 nx nx' tv zs ∧ (∀ j, nx ≤ j → j < nx' → j ∈ ks ++ [k]) ∧ (∀ j, j ∈ ks' ↔ j ∈ ks ++ [k] ∧ nx' ≤ j) ∧ ks'.Nodup ∧ nx' ∉ ks ++ [k] ∧ nx ≤ nx' ∧ ks'.length ≤ (ks ++ [k]).length) := ⟨fun W v1 hs => doHeld_ord S { s with held := v1 } first nx (ks ++ [k]) W ⟨Lo.start hs, h.next, h.over, h.dis⟩ (List.nodup_append.2 ⟨hnd, by simp, fun a ha b hb e => by simp at hb; subst hb; subst e; exact hin ha⟩) (fun j hj => by rcases List.mem_append.1 hj with hj | hj; exact ⟨hlt j hj, hle16 j hj⟩; simp at hj; subst hj; exact ⟨hkn, hk⟩) (by simp; omega) (by omega)⟩
  have hq1 : Kpt ((opd first k).v.size = 14 ∧ (opd first k).v.all (·.oneCell') = true) := ⟨Pd.one rfl⟩
  have hhl : Kpt ((hds first ks).length ≤ 100) := ⟨by rw [hds_len]; omega⟩
  clear h hA hB hnd hlt hin hle16
  go_enter Try.func11, Try.ntmps11
  go_upto_region 14 with (first
    | (go_at_call 26; go_must (refine (hC.out _).mono ?_; rintro e wy ⟨rfl, hwy⟩; rw [hwy]; clear hwy; have k5 : Kpt (Lo w (w3.setCell ⟨P, 13, none⟩ (.slice none 0 0)) S s s (hds first ks) ((ocs nx).map Cm.v) [] [(P, (opd first k).v)]) := ⟨k3.out.put0 (by have := bx_setC (.slice none 0 0) k3.out.b0 (j := 13) (by simp [Pd.v]); rw [show (opd first k).v.setIfInBounds 13 (.slice none 0 0) = (opd first k).v from rfl] at this; exact this) (grown_setCellK _ _ _)⟩))
    | (go_at_call 20; go_must (refine (hO.out _).mono ?_; rintro e w2 ⟨rfl, hb2⟩; have k2 := Kpt.mk (k1.out.below hb2); have c0 : w2.cell? ⟨P, 0, none⟩ = some (.int .u8 1) := k2.out.b0.cells 0 (by simp [Pd.v]); have c7 : w2.cell? ⟨P, 7, none⟩ = some (.int .u32 A) := (k2.out.b0.cells 7 (by simp [Pd.v])).trans (by rw [← hw7.out]; rfl); have c11 := (k2.out.ss.cell 11 (by omega)).1; simp only [Se.v, List.getElem?_toArray, List.getElem?_cons_succ, List.getElem?_cons_zero] at c11; rw [hnB.out] at c11; have hbw2 := Kpt.mk (hbw1.out.trans (hb2.mono hbw1.out.size)); clear hb2))
    | (go_at_call 22; go_must (refine (hI.out _).mono ?_; rintro e wx ⟨rfl, hwx⟩; rw [hwx]; clear hwx))
    | (go_at_call 25; go_must (refine (hH.out _ k2.out.ss).mono ?_; rintro e w3 ⟨rfl, hb3⟩; have k3 := Kpt.mk (k2.out.below hb3); have hbw3 := Kpt.mk (hbw2.out.trans (hb3.mono hbw2.out.size)); have c13 : w3.cell? ⟨P, 13, none⟩ = some (.slice none 0 0) := k3.out.b0.cells 13 (by simp [Pd.v]); have f13 := k3.out.b0.free 13; clear hb3))
    | (refine (?_ : wpList _ _ _ (Oper.mk _ (Op.load 37 _) _ _ _ _ :: _) _ _); go_must (refine wpList_load_bx rfl 37 _ rfl P (opd first k).v rfl k1.out.b0 _ Try.underlying37 rfl szPdu ?_; have hm := hov))
    | (refine (?_ : wpList _ _ _ (Oper.mk _ (Op.box 37 _) _ _ _ _ :: _) _ _); go_must (refine wpList_box rfl 37 _ rfl (opd first k).v rfl ?_; intro P w1 hP hB hb _; have k1 := Kpt.mk (k0.out.add hb hP hB); have hbw1 := Kpt.mk hb; have c17 := (k1.out.ss.cell 17 (by omega)).1; simp only [Se.v, List.getElem?_toArray, List.getElem?_cons_succ, List.getElem?_cons_zero] at c17; rw [hov.out] at c17; clear hb hP hB)))
  obtain ⟨w5, hw5⟩ : ∃ x, x = w3.setCell ⟨P, 13, none⟩ (.slice none 0 0) := ⟨_, rfl⟩
  rw [← hw5] at k5 ⊢
  clear hw5 k1 k2 k3 c0 c7 c11 c17 c13 f13 hO hI hH hC hbw1 hbw2 hbw3
  obtain ⟨q, hq⟩ : ∃ q, q = (opd first k).v := ⟨_, rfl⟩
  rw [← hq] at k5 hq1
  have hqh : Kpt (hds first (ks ++ [k]) = hds first ks ++ [q]) := ⟨by rw [hq]; simp [hds]⟩
  clear hq
  go_cut [3] from 68 to 77 (fun t3 wc => ∃ v1 : Value, t3 = .pointer (some ⟨P, 0, none⟩) ∧ Kpt (Lo w wc S s { s with held := v1 } (hds first ks ++ [q]) ((ocs nx).map Cm.v) [] [(P, q)]))
  case first =>
    refine wp_region_any (by kernel_rfl) ?_
    refine wpAny_of_C (C := fun W => Bx W P q) _ _ _ _ ?_
    refine wpAnyC_take 0 (.pointer (some ⟨S, 0, none⟩)) rfl (by kernel_rfl) (by kernel_rfl) (by kernel_rfl) (fun _ _ _ h => h) (wanted_free rfl _) (fun W hW => by go_simp) ?_
    try simp only [Act.put, List.getElem_toArray, List.getElem_cons_succ, List.getElem_cons_zero, List.setIfInBounds_toArray, List.set_cons_succ, List.set_cons_zero]
    refine wpAnyC_take 1 (.pointer (some ⟨S, 0, none⟩)) rfl (by kernel_rfl) (by kernel_rfl) (by kernel_rfl) (fun _ _ _ h => h) (wanted_free rfl _) (fun W hW => by go_simp) ?_
    try simp only [Act.put, List.getElem_toArray, List.getElem_cons_succ, List.getElem_cons_zero, List.setIfInBounds_toArray, List.set_cons_succ, List.set_cons_zero]
    refine wpAnyC_take 2 (.pointer (some ⟨S, 0, none⟩)) rfl (by kernel_rfl) (by kernel_rfl) (by kernel_rfl) (fun _ _ _ h => h) (wanted_free rfl _) (fun W hW => by go_simp) ?_
    try simp only [Act.put, List.getElem_toArray, List.getElem_cons_succ, List.getElem_cons_zero, List.setIfInBounds_toArray, List.set_cons_succ, List.set_cons_zero]
    refine wpAnyC_take 3 (.pointer (some ⟨S, 14, none⟩)) rfl (by kernel_rfl) (by kernel_rfl) (by kernel_rfl) (fun _ _ _ h => h) (wanted_free rfl _) (fun W hW => by go_simp) ?_
    try simp only [Act.put, List.getElem_toArray, List.getElem_cons_succ, List.getElem_cons_zero, List.setIfInBounds_toArray, List.set_cons_succ, List.set_cons_zero]
    refine wpAnyC_take 5 (.agg q) rfl (by kernel_rfl) (by kernel_rfl) (by kernel_rfl) (fun _ _ _ h => h) (wanted_free rfl _) (fun W hW => exec_load_bx 37 (.tmp 3) rfl P _ rfl hW _ Try.underlying37 rfl (by rw [hq1.out.1]; exact szPdu)) ?_
    try simp only [Act.put, List.getElem_toArray, List.getElem_cons_succ, List.getElem_cons_zero, List.setIfInBounds_toArray, List.set_cons_succ, List.set_cons_zero]
    have K0 := Kpt.mk k5.out.drew
    obtain ⟨W0, hW0⟩ : ∃ W, W = w5.drew := ⟨_, rfl⟩
    rw [← hW0] at K0
    refine wpAnyC_world hW0 ?_
    clear hW0
    obtain ⟨fa, fc, hfv, _⟩ := K0.out.ss.held.shape
    obtain ⟨fn, hfn⟩ : ∃ n, n = (hds first ks).length := ⟨_, rfl⟩
    rw [← hfn] at hfv
    have cF := (K0.out.ss.cell 14 (by omega)).1
    simp only [Se.v, List.getElem?_toArray, List.getElem?_cons_succ, List.getElem?_cons_zero] at cF
    rw [hfv] at cF
    replace hfv := Kpt.mk hfv
    clear hfn
    refine wpAnyC_two 4 6 (K0.out.b0) rfl rfl (by kernel_rfl) (wanted_free rfl _) (wanted_free rfl _) (fun KA hKA => ?_) (fun KA hKA => ?_)
    · go_simp
      refine hKA _ _ ?_
      clear hKA KA
      try simp only [Act.put, List.getElem_toArray, List.getElem_cons_succ, List.getElem_cons_zero, List.setIfInBounds_toArray, List.set_cons_succ, List.set_cons_zero]
      refine wpAnyC_one 6 (K0.out.b0) rfl (by kernel_rfl) (wanted_free rfl _) (fun KA hKA => ?_)
      unfold Oper.wp
      rw [exec_build1 31 37 14 64 _ Try.underlying31 infoPdu (by decide) (by decide) (.tmp 73) rfl q hq1.out.1 rfl]
      refine hKA _ (W0.alloc (.cells q 37)) ?_
      clear hKA KA
      have hb1 : Below W0.heap.size W0 (W0.alloc (.cells q 37)) := (Below.refl _ _).alloc (Nat.le_refl _) _
      have K1 := Kpt.mk (K0.out.below hb1)
      have hN : Kpt (Bx (W0.alloc (.cells q 37)) W0.heap.size q) := ⟨bx_new _ _ _⟩
      obtain ⟨N, hNN⟩ : ∃ N, N = W0.heap.size := ⟨_, rfl⟩
      rw [← hNN] at hN ⊢
      obtain ⟨W1, hW1⟩ : ∃ W1, W1 = W0.alloc (.cells q 37) := ⟨_, rfl⟩
      rw [← hW1] at K1 hN ⊢
      clear hNN hW1 hb1
      try simp only [Act.put, List.getElem_toArray, List.getElem_cons_succ, List.getElem_cons_zero, List.setIfInBounds_toArray, List.set_cons_succ, List.set_cons_zero]
      refine wpAnyC_one 7 (K1.out.b0) rfl (by kernel_rfl) (wanted_free rfl _) (fun KA hKA => ?_)
      refine wp_append_row 31 37 14 64 _ Try.underlying31 infoPdu rfl (by decide) (by decide) _ _ rfl (.slice fa fn fc) (.slice (some ⟨N, 0, none⟩) 1 1) (hds first ks) [q] rfl rfl (by rw [← hfv.out]; exact K1.out.ss.held) (hN.out.one hq1.out) (by simp) (by have := hhl.out; simp; omega) ?_
      intro v5 W5 ho5 hg5 hor
      rw [← hfv.out] at hg5 hor
      obtain ⟨q1, q2, q3, q4⟩ := K1.out.ss.setHeld hg5 ho5 (fun b hb => by rcases hor with e | e; exact .inl (e ▸ hb); rw [e] at hb; injection hb with hb; exact .inr (Nat.le_of_eq hb))
      rw [hfv.out] at q3
      obtain ⟨va, vc, hv5, _⟩ := ho5.shape
      obtain ⟨vn, hvn⟩ : ∃ n, n = (hds first ks ++ [q]).length := ⟨_, rfl⟩
      rw [← hvn] at hv5
      subst hv5
      clear hvn
      have hF5 : Kpt (Fr (s.X S) W1 W5) := ⟨Fr.of_grown hg5 (fun b e => .inr (.inl e))⟩
      replace q1 := Kpt.mk q1
      replace q2 := Kpt.mk q2
      have q2' := Kpt.mk ((Fr.of_grown (X := s.X S) (grown_setCellK W5 ⟨S, 14, none⟩ (.slice va vn vc)) (fun b e => .inl (by injection e with e; exact e.symm))))
      clear ho5 hg5 hor
      refine hKA _ _ ?_
      clear hKA KA
      try simp only [Act.put, List.getElem_toArray, List.getElem_cons_succ, List.getElem_cons_zero, List.setIfInBounds_toArray, List.set_cons_succ, List.set_cons_zero]
      refine wpAnyC_take 8 (.pointer (some ⟨S, 0, none⟩)) rfl (by kernel_rfl) (by kernel_rfl) (by kernel_rfl) (fun _ _ _ h => h) (wanted_free rfl _) (fun W hW => by go_simp) ?_
      try simp only [Act.put, List.getElem_toArray, List.getElem_cons_succ, List.getElem_cons_zero, List.setIfInBounds_toArray, List.set_cons_succ, List.set_cons_zero]
      refine wpAnyC_take 9 (.pointer (some ⟨S, 14, none⟩)) rfl (by kernel_rfl) (by kernel_rfl) (by kernel_rfl) (fun _ _ _ h => h) (wanted_free rfl _) (fun W hW => by go_simp) ?_
      try simp only [Act.put, List.getElem_toArray, List.getElem_cons_succ, List.getElem_cons_zero, List.setIfInBounds_toArray, List.set_cons_succ, List.set_cons_zero]
      refine wpAnyC_one 10 (K1.out.b0.of_block (Nat.lt_of_lt_of_le K1.out.b0.lt hF5.out.size) (hF5.out.block _ K1.out.b0.lt (K1.out.bx (P, q) (by simp)).2.1)) rfl (by kernel_rfl) (wanted_free rfl _) (fun KA hKA => ?_)
      go_simp
      have K6 := Kpt.mk (K1.out.turn q1.out q2.out)
      obtain ⟨W6, hW6⟩ : ∃ W6, W6 = W5.setCell ⟨S, 14, none⟩ (.slice va vn vc) := ⟨_, rfl⟩
      refine hKA _ (W5.setCell ⟨S, 14, none⟩ (.slice va vn vc)) ?_
      rw [← hW6] at K6 ⊢
      clear hKA KA hW6
      try simp only [Act.put, List.getElem_toArray, List.getElem_cons_succ, List.getElem_cons_zero, List.setIfInBounds_toArray, List.set_cons_succ, List.set_cons_zero]
      refine wpAnyC_done (K6.out.b0) (by kernel_rfl) ?_
      go_wp2_with fail
      go_meet
      exact ⟨_, rfl, K6⟩
    · unfold Oper.wp
      rw [exec_build1 31 37 14 64 _ Try.underlying31 infoPdu (by decide) (by decide) (.tmp 73) rfl q hq1.out.1 rfl]
      refine hKA _ (W0.alloc (.cells q 37)) ?_
      clear hKA KA
      have hb1 : Below W0.heap.size W0 (W0.alloc (.cells q 37)) := (Below.refl _ _).alloc (Nat.le_refl _) _
      have K1 := Kpt.mk (K0.out.below hb1)
      have hN : Kpt (Bx (W0.alloc (.cells q 37)) W0.heap.size q) := ⟨bx_new _ _ _⟩
      obtain ⟨N, hNN⟩ : ∃ N, N = W0.heap.size := ⟨_, rfl⟩
      rw [← hNN] at hN ⊢
      obtain ⟨W1, hW1⟩ : ∃ W1, W1 = W0.alloc (.cells q 37) := ⟨_, rfl⟩
      rw [← hW1] at K1 hN ⊢
      clear hNN hW1 hb1
      try simp only [Act.put, List.getElem_toArray, List.getElem_cons_succ, List.getElem_cons_zero, List.setIfInBounds_toArray, List.set_cons_succ, List.set_cons_zero]
      have cF1 := (K1.out.ss.cell 14 (by omega)).1
      simp only [Se.v, List.getElem?_toArray, List.getElem?_cons_succ, List.getElem?_cons_zero] at cF1
      rw [hfv.out] at cF1
      refine wpAnyC_one 4 (K1.out.b0) rfl (by kernel_rfl) (wanted_free rfl _) (fun KA hKA => ?_)
      go_simp
      refine hKA _ _ ?_
      clear hKA KA
      try simp only [Act.put, List.getElem_toArray, List.getElem_cons_succ, List.getElem_cons_zero, List.setIfInBounds_toArray, List.set_cons_succ, List.set_cons_zero]
      refine wpAnyC_one 7 (K1.out.b0) rfl (by kernel_rfl) (wanted_free rfl _) (fun KA hKA => ?_)
      refine wp_append_row 31 37 14 64 _ Try.underlying31 infoPdu rfl (by decide) (by decide) _ _ rfl (.slice fa fn fc) (.slice (some ⟨N, 0, none⟩) 1 1) (hds first ks) [q] rfl rfl (by rw [← hfv.out]; exact K1.out.ss.held) (hN.out.one hq1.out) (by simp) (by have := hhl.out; simp; omega) ?_
      intro v5 W5 ho5 hg5 hor
      rw [← hfv.out] at hg5 hor
      obtain ⟨q1, q2, q3, q4⟩ := K1.out.ss.setHeld hg5 ho5 (fun b hb => by rcases hor with e | e; exact .inl (e ▸ hb); rw [e] at hb; injection hb with hb; exact .inr (Nat.le_of_eq hb))
      rw [hfv.out] at q3
      obtain ⟨va, vc, hv5, _⟩ := ho5.shape
      obtain ⟨vn, hvn⟩ : ∃ n, n = (hds first ks ++ [q]).length := ⟨_, rfl⟩
      rw [← hvn] at hv5
      subst hv5
      clear hvn
      have hF5 : Kpt (Fr (s.X S) W1 W5) := ⟨Fr.of_grown hg5 (fun b e => .inr (.inl e))⟩
      replace q1 := Kpt.mk q1
      replace q2 := Kpt.mk q2
      have q2' := Kpt.mk ((Fr.of_grown (X := s.X S) (grown_setCellK W5 ⟨S, 14, none⟩ (.slice va vn vc)) (fun b e => .inl (by injection e with e; exact e.symm))))
      clear ho5 hg5 hor
      refine hKA _ _ ?_
      clear hKA KA
      try simp only [Act.put, List.getElem_toArray, List.getElem_cons_succ, List.getElem_cons_zero, List.setIfInBounds_toArray, List.set_cons_succ, List.set_cons_zero]
      refine wpAnyC_take 8 (.pointer (some ⟨S, 0, none⟩)) rfl (by kernel_rfl) (by kernel_rfl) (by kernel_rfl) (fun _ _ _ h => h) (wanted_free rfl _) (fun W hW => by go_simp) ?_
      try simp only [Act.put, List.getElem_toArray, List.getElem_cons_succ, List.getElem_cons_zero, List.setIfInBounds_toArray, List.set_cons_succ, List.set_cons_zero]
      refine wpAnyC_take 9 (.pointer (some ⟨S, 14, none⟩)) rfl (by kernel_rfl) (by kernel_rfl) (by kernel_rfl) (fun _ _ _ h => h) (wanted_free rfl _) (fun W hW => by go_simp) ?_
      try simp only [Act.put, List.getElem_toArray, List.getElem_cons_succ, List.getElem_cons_zero, List.setIfInBounds_toArray, List.set_cons_succ, List.set_cons_zero]
      refine wpAnyC_one 10 (K1.out.b0.of_block (Nat.lt_of_lt_of_le K1.out.b0.lt hF5.out.size) (hF5.out.block _ K1.out.b0.lt (K1.out.bx (P, q) (by simp)).2.1)) rfl (by kernel_rfl) (wanted_free rfl _) (fun KA hKA => ?_)
      go_simp
      have K6 := Kpt.mk (K1.out.turn q1.out q2.out)
      obtain ⟨W6, hW6⟩ : ∃ W6, W6 = W5.setCell ⟨S, 14, none⟩ (.slice va vn vc) := ⟨_, rfl⟩
      refine hKA _ (W5.setCell ⟨S, 14, none⟩ (.slice va vn vc)) ?_
      rw [← hW6] at K6 ⊢
      clear hKA KA hW6
      try simp only [Act.put, List.getElem_toArray, List.getElem_cons_succ, List.getElem_cons_zero, List.setIfInBounds_toArray, List.set_cons_succ, List.set_cons_zero]
      refine wpAnyC_done (K6.out.b0) (by kernel_rfl) ?_
      go_wp2_with fail
      go_meet
      exact ⟨_, rfl, K6⟩
  case rest =>
    obtain ⟨v1, rfl, k6⟩ := hcut
    rw [← hqh.out] at k6
    clear k5 hqh
    go_wp2_with (go_at_call 27; go_must (refine (hF.out _ _ k6.out.ss).mono ?_; rintro e w7 ⟨tv, nx', ks', s3, zs, rfl, hO7, hT7, h1, h2, h3, h4, h5, h6⟩; have hsz := k6.out.st.fr.size; have hst := Kpt.mk (k6.out.st.trans hO7.lo.st); replace hO7 := Kpt.mk hO7; replace hT7 := Kpt.mk hT7; replace h1 := Kpt.mk h1; replace h2 := Kpt.mk h2; replace h3 := Kpt.mk h3; replace h4 := Kpt.mk h4))
    go_ret2
    exact ⟨tv, nx', ks', s3, zs, rfl, ⟨⟨hO7.out.lo.ss, hst.out, fun x hx => by simp at hx, List.nodup_nil⟩, hO7.out.next, hO7.out.over, hO7.out.dis⟩, ⟨hT7.out.own, hT7.out.len, hT7.out.tags, fun b hb => ⟨(hT7.out.off b hb).1, Nat.le_trans hsz (hT7.out.off b hb).2⟩⟩, h1.out, h2.out, h3.out, h4.out, h5, by simpa using h6⟩
end Go.Proofs.Ytdplndlmdhpfaaa
