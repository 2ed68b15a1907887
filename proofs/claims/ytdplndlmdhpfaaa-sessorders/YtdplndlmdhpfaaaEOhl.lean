/-
  sess: doHeld, of commands in any order.
-/
import Derived.Test.YtdplndlmdhpfaaaEOrd0
namespace Go.Proofs.Ytdplndlmdhpfaaa
open Go.RowKit
set_option linter.unusedVariables false
set_option linter.unusedSimpArgs false

/-- A session between commands that came in any order. -/
structure Oh (w W : World) (S : Nat) (s0 s : Se) (first : Int) (nx : Nat) (ks : List Nat) : Prop where
  lo : Lo w W S s0 s (hds first ks) ((ocs nx).map Cm.v) [] []
  next : s.next = (first + nx) % 4294967296
  over : s.over = false
  dis : s.dis = false
theorem Oh.below {w W W' : World} {S : Nat} {s0 s : Se} {first : Int} {nx : Nat} {ks : List Nat} (h : Oh w W S s0 s first nx ks) (hb : Below W.heap.size W W') : Oh w W' S s0 s first nx ks := ⟨h.lo.below hb, h.next, h.over, h.dis⟩
theorem St.setBeside {w w' : World} {S : Nat} {s : Se} {r : Option Nat} (hg : w.grownBy w' r) (m : Nat) (h : ∀ b, r = some b → m ≤ b) : Below m w w' ∨ True := .inr trivial

theorem held_get {S : Nat} {s : Se} {first : Int} {ks : List Nat} {O T : List (Array Value)} {W : World} (h : Ss W S s (hds first ks) O T) (i k : Nat) (hk : ks[i]? = some k) : ∃ g c, s.held = .slice (some ⟨g, 0, none⟩) ks.length c ∧ ks.length ≤ c ∧ c ≤ 9223372036854775807 ∧ g < W.heap.size ∧ W.cell? ⟨g, i * 14 + 7, none⟩ = some (.int .u32 ((first + k) % 4294967296)) := by
  obtain ⟨a, c, hv, hs⟩ := h.held.shape
  rw [hds_len] at hv hs
  have hi : i < ks.length := (List.getElem?_eq_some_iff.1 hk).1
  rcases hs with ⟨_, _, hx⟩ | ⟨g, rfl, hg, hc, hm, _, hr⟩
  · omega
  · exact ⟨g, c, hv, hc, by unfold maxLen at hm; omega, hg, hr i _ (hds_get hk) 7 _ rfl⟩

set_option maxRecDepth 100000 in
set_option maxHeartbeats 8000000 in
theorem doHeld_ord (S : Nat) (s : Se) (first : Int) (nx0 : Nat) (ks0 : List Nat) (w : World) (h : Oh w w S s s first nx0 ks0) (hnd : ks0.Nodup) (hle : ∀ k ∈ ks0, nx0 ≤ k ∧ k < 16) (hl : ks0.length ≤ 100) (hnx : nx0 ≤ 16) :
    Calls Try.prog 27 #[.pointer (some ⟨S, 0, none⟩)] w fun e w' => ∃ tv nx ks s3 zs, e = .returned (.tuple #[.slice none 0 0, tv]) ∧ Oh w w' S s s3 first nx ks ∧ Tr w w' S s3 nx0 nx tv zs ∧ (∀ j, nx0 ≤ j → j < nx → j ∈ ks0) ∧ (∀ j, j ∈ ks ↔ j ∈ ks0 ∧ nx ≤ j) ∧ ks.Nodup ∧ nx ∉ ks0 ∧ nx0 ≤ nx ∧ ks.length ≤ ks0.length := by
  obtain ⟨i0, hi0, -, -, -⟩ := info_parts infoPdu
  replace h := Kpt.mk h
  replace hle := Kpt.mk hle
  replace hnd := Kpt.mk hnd
  go_enter Try.func27, Try.ntmps27
  go_wp2
  go_step3
  go_wp2
  go_step3
  go_wp2
  go_loopg [4, 5] (ks0.length) (fun i r4 r5 wr => ∃ (nx : Nat) (ks : List Nat) (s3 : Se) (zs : List (Array Value)), r4 = .slice none 0 0 ∧ Kpt (Oh w wr S s s3 first nx ks ∧ Tr w wr S s3 nx0 nx r5 zs ∧ (∀ j, nx0 ≤ j → j < nx → j ∈ ks0) ∧ (∀ j, j ∈ ks ↔ j ∈ ks0 ∧ nx ≤ j) ∧ ks.Nodup ∧ nx0 ≤ nx ∧ ks.length = i ∧ i ≤ 100 ∧ nx + i = nx0 + ks0.length))
  case atStart => exact ⟨nx0, ks0, s, [], rfl, ⟨⟨h.out, ⟨OwnR.nil _ _ _, by simp, fun j z hz => by simp at hz, fun b hb => by simp [Value.ownBlock] at hb⟩, fun j h1 h2 => by omega, fun j => ⟨fun hj => ⟨hj, (hle.out j hj).1⟩, fun hj => hj.1⟩, hnd.out, Nat.le_refl _, rfl, hl, rfl⟩⟩⟩
  case round =>
    obtain ⟨nx, ks, s3, zs, rfl, hrel⟩ := hrel
    obtain ⟨wo, hwo⟩ : ∃ x, x = wr := ⟨_, rfl⟩
    subst hwo
    obtain ⟨hO, hT, hd, hm, hnk, hge, hlen, hi16, hsum⟩ := hrel.out
    obtain ⟨ta, tc, htv, _⟩ := hT.own.shape
    obtain ⟨tn, htn⟩ : ∃ n, n = zs.length := ⟨_, rfl⟩
    rw [← htn] at htv
    subst htv
    obtain ⟨ha, hc, hhv, _⟩ := hO.lo.ss.held.shape
    rw [hds_len] at hhv
    have c17 := (hO.lo.ss.cell 17 (by omega)).1
    have c14 := (hO.lo.ss.cell 14 (by omega)).1
    simp only [Se.v, List.getElem?_toArray, List.getElem?_cons_succ, List.getElem?_cons_zero] at c17 c14
    rw [hO.over] at c17
    rw [hhv] at c14
    obtain ⟨L, hL⟩ : ∃ L, L = ks.length := ⟨_, rfl⟩
    rw [← hL] at c14 hhv
    replace hL := Kpt.mk hL
    replace hhv := Kpt.mk hhv
    replace htn := Kpt.mk htn
    have hlenK := Kpt.mk hlen
    clear hO hT hd hm hnk hge hlen hsum
    go_wp2_with fail
    go_loopg [4, 5, 20] L (fun i r4 r5 t wx => ∃ at_ : Nat, r4 = .slice none 0 0 ∧ r5 = .slice ta tn tc ∧ t = .int .i64 at_ ∧ at_ + i = L ∧ Kpt (∀ q, q < at_ → ks[q]? ≠ some nx) ∧ Kpt (Sm wo wx))
    case atStart => exact ⟨0, rfl, rfl, rfl, by omega, ⟨fun q hq => by omega⟩, ⟨Sm.refl _⟩⟩
    case round =>
      obtain ⟨at_, rfl, rfl, rfl, hat, hno, hsm⟩ := hrel
      by_cases hlt : at_ < L
      · obtain ⟨k, hk⟩ : ∃ k, ks[at_]? = some k := ⟨_, List.getElem?_eq_getElem (by rw [← hL.out]; exact hlt)⟩
        have hkK := Kpt.mk hk
        obtain ⟨hO, hT, hd, hm, hnk, hge, hlen, _, hsum⟩ := hrel.out
        have hk0 := (hm k).1 (List.mem_of_getElem? hk)
        have hk16 := (hle.out k hk0.1).2
        have hnxl : nx ≤ 200 := by omega
        have hOd := Kpt.mk (hO.below (hsm.out.bel.trans ((below_drew wr).mono hsm.out.bel.size)))
        obtain ⟨wd, hwd⟩ : ∃ x, x = wr.drew := ⟨_, rfl⟩
        have hsmd : Kpt (Sm wo wd) := ⟨hsm.out.trans ⟨by rw [hwd]; rfl, by rw [hwd]; exact below_drew wr⟩⟩
        rw [← hwd] at hOd
        obtain ⟨g, c, hgv, hgc1, hgc2, hgl, hg7⟩ := held_get hOd.out.lo.ss at_ k hk
        rw [hhv.out] at hgv
        simp only [Value.slice.injEq] at hgv
        obtain ⟨rfl, -, rfl⟩ := hgv
        have d14 := (hOd.out.lo.ss.cell 14 (by omega)).1
        have d11 := (hOd.out.lo.ss.cell 11 (by omega)).1
        simp only [Se.v, List.getElem?_toArray, List.getElem?_cons_succ, List.getElem?_cons_zero] at d14 d11
        rw [hhv.out] at d14
        rw [hO.next] at d11
        have e1 : (at_ : Int) < L := by omega
        have e2 : (L : Int) ≤ hc := by rw [hL.out]; omega
        have e3 : at_ < L := hlt
        have hLc := Kpt.mk hgc1
        clear hO hT hd hm hnk hge hlen hk hk0 hgc1
        obtain ⟨A, hA⟩ : ∃ A, A = (first + (k : Int)) % 4294967296 := ⟨_, rfl⟩
        obtain ⟨B, hB⟩ : ∃ B, B = (first + (nx : Int)) % 4294967296 := ⟨_, rfl⟩
        rw [← hA] at hg7
        rw [← hB] at d11
        replace hA := Kpt.mk hA
        replace hB := Kpt.mk hB
        by_cases hkn : k = nx
        · have hAB : A = B := by rw [hA.out, hB.out, hkn]
          have hABb : (A != B) = false := by rw [hAB]; simp
          have hkn' : Kpt (k = nx) := ⟨hkn⟩
          clear hkn hAB
          go_upto_region 7 with fail
          refine wp_region_any (by kernel_rfl) ?_
          refine wpAny_of_C (C := fun W => W.cell? ⟨S, 14, none⟩ = some (.slice (some ⟨g, 0, none⟩) L hc) ∧ W.cell? ⟨S, 11, none⟩ = some (.int .u32 B) ∧ W.cell? ⟨g, at_ * 14 + 7, none⟩ = some (.int .u32 A)) _ _ _ _ ?_
          refine wpAnyC_take 0 (.pointer (some ⟨S, 0, none⟩)) rfl (by kernel_rfl) (by kernel_rfl) (by kernel_rfl) (fun _ _ _ h => h) (wanted_free rfl _) (fun W hW => by go_simp) ?_
          try simp only [Act.put, List.getElem_toArray, List.getElem_cons_succ, List.getElem_cons_zero, List.setIfInBounds_toArray, List.set_cons_succ, List.set_cons_zero]
          refine wpAnyC_take 1 (.pointer (some ⟨S, 0, none⟩)) rfl (by kernel_rfl) (by kernel_rfl) (by kernel_rfl) (fun _ _ _ h => h) (wanted_free rfl _) (fun W hW => by go_simp) ?_
          try simp only [Act.put, List.getElem_toArray, List.getElem_cons_succ, List.getElem_cons_zero, List.setIfInBounds_toArray, List.set_cons_succ, List.set_cons_zero]
          refine wpAnyC_take 2 (.pointer (some ⟨S, 14, none⟩)) rfl (by kernel_rfl) (by kernel_rfl) (by kernel_rfl) (fun _ _ _ h => h) (wanted_free rfl _) (fun W hW => by go_simp) ?_
          try simp only [Act.put, List.getElem_toArray, List.getElem_cons_succ, List.getElem_cons_zero, List.setIfInBounds_toArray, List.set_cons_succ, List.set_cons_zero]
          refine wpAnyC_take 3 (.slice (some ⟨g, 0, none⟩) L hc) rfl (by kernel_rfl) (by kernel_rfl) (by kernel_rfl) (fun _ _ _ h => h) (wanted_free rfl _) (fun W hW => by obtain ⟨q1, q2, q3⟩ := hW; go_simp) ?_
          try simp only [Act.put, List.getElem_toArray, List.getElem_cons_succ, List.getElem_cons_zero, List.setIfInBounds_toArray, List.set_cons_succ, List.set_cons_zero]
          refine wpAnyC_take 4 (.int .i64 at_) rfl (by kernel_rfl) (by kernel_rfl) (by kernel_rfl) (fun _ _ _ h => h) (wanted_free rfl _) (fun W hW => by go_simp) ?_
          try simp only [Act.put, List.getElem_toArray, List.getElem_cons_succ, List.getElem_cons_zero, List.setIfInBounds_toArray, List.set_cons_succ, List.set_cons_zero]
          refine wpAnyC_take 5 (.pointer (some ⟨g, at_ * 14, none⟩)) rfl (by kernel_rfl) (by kernel_rfl) (by kernel_rfl) (fun _ _ _ h => h) (wanted_free rfl _) (fun W hW => by go_simp) ?_
          try simp only [Act.put, List.getElem_toArray, List.getElem_cons_succ, List.getElem_cons_zero, List.setIfInBounds_toArray, List.set_cons_succ, List.set_cons_zero]
          refine wpAnyC_take 6 (.pointer (some ⟨g, at_ * 14 + 6, none⟩)) rfl (by kernel_rfl) (by kernel_rfl) (by kernel_rfl) (fun _ _ _ h => h) (wanted_free rfl _) (fun W hW => by go_simp) ?_
          try simp only [Act.put, List.getElem_toArray, List.getElem_cons_succ, List.getElem_cons_zero, List.setIfInBounds_toArray, List.set_cons_succ, List.set_cons_zero]
          refine wpAnyC_take 7 (.pointer (some ⟨g, at_ * 14 + 7, none⟩)) rfl (by kernel_rfl) (by kernel_rfl) (by kernel_rfl) (fun _ _ _ h => h) (wanted_free rfl _) (fun W hW => by go_simp) ?_
          try simp only [Act.put, List.getElem_toArray, List.getElem_cons_succ, List.getElem_cons_zero, List.setIfInBounds_toArray, List.set_cons_succ, List.set_cons_zero]
          refine wpAnyC_take 8 (.int .u32 A) rfl (by kernel_rfl) (by kernel_rfl) (by kernel_rfl) (fun _ _ _ h => h) (wanted_free rfl _) (fun W hW => by obtain ⟨q1, q2, q3⟩ := hW; go_simp) ?_
          try simp only [Act.put, List.getElem_toArray, List.getElem_cons_succ, List.getElem_cons_zero, List.setIfInBounds_toArray, List.set_cons_succ, List.set_cons_zero]
          refine wpAnyC_take 9 (.pointer (some ⟨S, 0, none⟩)) rfl (by kernel_rfl) (by kernel_rfl) (by kernel_rfl) (fun _ _ _ h => h) (wanted_free rfl _) (fun W hW => by go_simp) ?_
          try simp only [Act.put, List.getElem_toArray, List.getElem_cons_succ, List.getElem_cons_zero, List.setIfInBounds_toArray, List.set_cons_succ, List.set_cons_zero]
          refine wpAnyC_take 10 (.pointer (some ⟨S, 0, none⟩)) rfl (by kernel_rfl) (by kernel_rfl) (by kernel_rfl) (fun _ _ _ h => h) (wanted_free rfl _) (fun W hW => by go_simp) ?_
          try simp only [Act.put, List.getElem_toArray, List.getElem_cons_succ, List.getElem_cons_zero, List.setIfInBounds_toArray, List.set_cons_succ, List.set_cons_zero]
          refine wpAnyC_take 11 (.pointer (some ⟨S, 11, none⟩)) rfl (by kernel_rfl) (by kernel_rfl) (by kernel_rfl) (fun _ _ _ h => h) (wanted_free rfl _) (fun W hW => by go_simp) ?_
          try simp only [Act.put, List.getElem_toArray, List.getElem_cons_succ, List.getElem_cons_zero, List.setIfInBounds_toArray, List.set_cons_succ, List.set_cons_zero]
          refine wpAnyC_take 12 (.int .u32 B) rfl (by kernel_rfl) (by kernel_rfl) (by kernel_rfl) (fun _ _ _ h => h) (wanted_free rfl _) (fun W hW => by obtain ⟨q1, q2, q3⟩ := hW; go_simp) ?_
          try simp only [Act.put, List.getElem_toArray, List.getElem_cons_succ, List.getElem_cons_zero, List.setIfInBounds_toArray, List.set_cons_succ, List.set_cons_zero]
          refine wpAnyC_take 13 (.bool false) rfl (by kernel_rfl) (by kernel_rfl) (by kernel_rfl) (fun _ _ _ h => h) (wanted_free rfl _) (fun W hW => by go_simp) ?_
          try simp only [Act.put, List.getElem_toArray, List.getElem_cons_succ, List.getElem_cons_zero, List.setIfInBounds_toArray, List.set_cons_succ, List.set_cons_zero]
          refine wpAnyC_world hwd ?_
          clear hwd
          refine wpAnyC_done (⟨d14, d11, hg7⟩) (by kernel_rfl) ?_
          obtain ⟨L1, hL1⟩ : ∃ x, x = L - 1 := ⟨_, rfl⟩
          obtain ⟨ks1, hks1⟩ : ∃ x, x = ks.eraseIdx at_ := ⟨_, rfl⟩
          have hone : Kpt ((opd first nx).v.all (·.oneCell') = true) := ⟨(Pd.one (p := opd first nx) rfl).2⟩
          replace hL1 := Kpt.mk hL1
          replace hks1 := Kpt.mk hks1
          have l2 := Kpt.mk (Lo.start hOd.out.lo.ss)
          have hTk : Kpt (∀ W Lx, Lo wd W S s3 s3 (hds first ks) ((ocs nx).map Cm.v) [] Lx → Calls Try.prog 46 #[.slice (some ⟨g, 0, none⟩) L hc, .int .i64 at_] W fun e w' => e = .returned (.tuple #[.agg (opd first nx).v, .slice (some ⟨g, 0, none⟩) L1 hc]) ∧ OwnR 37 14 w' (.slice (some ⟨g, 0, none⟩) L1 hc) (hds first ks1) ∧ W.grownBy w' (some g)) := ⟨fun W Lx k => by
            have := takeP_any g hc at_ L (hds first ks) (opd first nx).v W (by have := k.ss.held; rw [hhv.out] at this; exact this) (by rw [hds_len, hL.out]) (hds_get (by rw [hkK.out, hkn'.out])) (by have := hL.out; have := hlenK.out; omega) (by rw [hL.out]; exact hLc.out) hgc2
            rw [hds_erase, ← hL1.out, ← hks1.out] at this
            exact this⟩
          have hfr : Kpt (∀ (W W4 W5 : World) (P : Nat), W.grownBy W4 (some g) → W4.grownBy W5 (some P) → Fr (fun b => s3.held.ownBlock = some b ∨ b = P) W W5) := ⟨fun W W4 W5 P h1 h2 => ⟨h2.os.trans h1.os, h2.tape.trans h1.tape, h2.output.trans h1.output, Nat.le_trans h1.size h2.size, fun b hb hx => (h2.block b (Nat.lt_of_lt_of_le hb h1.size) (fun e => hx (.inr (by injection e)))).trans (h1.block b hb (fun e => hx (.inl (by rw [hhv.out]; exact e.symm))))⟩⟩
          have hown5 : Kpt (∀ (W4 W5 : World) (P : Nat), OwnR 37 14 W4 (.slice (some ⟨g, 0, none⟩) L1 hc) (hds first ks1) → W4.grownBy W5 (some P) → ¬ s3.X S P → OwnR 37 14 W5 (.slice (some ⟨g, 0, none⟩) L1 hc) (hds first ks1)) := ⟨fun W4 W5 P h1 h2 h3 => h1.of_block (fun q hq => h2.block q (h1.lt hq) (fun e => h3 (by injection e with e; subst e; exact .inr (.inl (by rw [hhv.out]; exact hq)))))⟩
          have hDo : Kpt (∀ W, Ss W S (s3.step (.slice (some ⟨g, 0, none⟩) L1 hc)) (hds first ks1) ((ocs nx).map Cm.v) [] → Calls Try.prog 24 #[.pointer (some ⟨S, 0, none⟩), .agg (opd first nx).v] W fun e w' => ∃ (u v2 : Value) (z : Array Value), e = .returned (.tuple #[.slice none 0 0, u]) ∧ Ss w' S { (s3.step (.slice (some ⟨g, 0, none⟩) L1 hc)) with opn := v2 } (hds first ks1) ((ocs (nx + 1)).map Cm.v) [] ∧ St S W w' (s3.step (.slice (some ⟨g, 0, none⟩) L1 hc)) { (s3.step (.slice (some ⟨g, 0, none⟩) L1 hc)) with opn := v2 } ∧ Got w' S { (s3.step (.slice (some ⟨g, 0, none⟩) L1 hc)) with opn := v2 } 41 8 u [z] ∧ (∃ b, u = .slice (some ⟨b, 0, none⟩) 1 1 ∧ W.heap.size ≤ b) ∧ z[0]? = some (Value.int .u32 (100 + nx))) := ⟨fun W h => do_ord S _ (hds first ks1) first nx W h hOd.out.dis (by omega)⟩
          have hwn : IntKind.u32.wrap (B + 1) = (B + 1) % 4294967296 := IntKind.wrap_u32 _
          have hBn : Kpt (s3.next = B) := ⟨by rw [hB.out]; exact hOd.out.next⟩
          have hzl : Kpt (zs.length ≤ 100) := ⟨by have := hrel.out.2.1.len; omega⟩
          have hTd : Kpt (Tr w wd S s3 nx0 nx (.slice ta tn tc) zs) := ⟨hrel.out.2.1.below hsmd.out.bel⟩
          clear d14 d11 hg7 hgc2 hABb e1 e2 e3
          go_wp2_with (first
            | (go_at_call 46; go_must (refine (hTk.out _ _ l3.out).mono ?_; rintro e w4 ⟨rfl, ho4, hg4⟩; have hP4 := Kpt.mk (l3.out.b0.grown hg4 (fun e => (l3.out.bx (P, zP.v) (by simp)).2.1 (.inr (.inl (by rw [hhv.out]; injection e with e; rw [e]; rfl))))); replace ho4 := Kpt.mk ho4; replace hg4 := Kpt.mk hg4))
            | (go_at_call 24; go_must (refine (hDo.out _ l7.out.ss).mono ?_; rintro e w8 ⟨u, v2, z, rfl, hs8, ht8, hG8, ⟨b, hub, hbl⟩, hz0⟩; have l8 := Kpt.mk (l7.out.turn hs8 ht8); have hT8 := Kpt.mk (hTd.out.turn l8.out.st); have hR8 : Kpt (RdR 8 w8 u [z]) := ⟨by rcases hG8 with ⟨_, hx⟩ | ⟨z', b', hz', _, hr', _⟩; (simp at hx); (injection hz' with hz'; rw [hz']; exact hr')⟩; replace hz0 := Kpt.mk hz0; replace hub := Kpt.mk hub; clear hs8 ht8 hG8))
            | (refine (?_ : wpList _ _ _ (Oper.mk _ (Op.alloc 37) _ _ _ _ :: _) _ _); go_must (refine wpList_var rfl 37 rfl _ zPdu ?_; intro P w3 hP hB3 hb3; have l3 := Kpt.mk (l2.out.add hb3 hP hB3); obtain ⟨c14b, f14⟩ := l3.out.ss.cell 14 (by omega); simp only [Se.v, List.getElem?_toArray, List.getElem?_cons_succ, List.getElem?_cons_zero] at c14b; rw [hhv.out] at c14b; clear hP hB3 hb3))
            | (refine (?_ : wpList _ _ _ (Oper.mk _ (Op.store 37 _ _) _ _ _ _ :: _) _ _); go_must (refine wpList_store_bx rfl 37 _ _ rfl P zP.v (opd first nx).v rfl rfl hP4.out rfl szPdu hone.out rfl ?_; intro w5 hB5 hg5; obtain ⟨l6, c5, f5⟩ := l3.out.setHeldP (W1 := w5) (v' := .slice (some ⟨g, 0, none⟩) L1 hc) (H' := hds first ks1) (hfr.out _ _ _ P hg4.out hg5) hB5 (hown5.out _ _ P ho4.out hg5 (l3.out.bx (P, zP.v) (by simp)).2.1) (by rw [hhv.out]; rfl); rw [hhv.out] at c5; replace l6 := Kpt.mk l6; obtain ⟨c11, f11⟩ := l6.out.ss.cell 11 (by omega); simp only [Se.v, List.getElem?_toArray, List.getElem?_cons_succ, List.getElem?_cons_zero] at c11; rw [hBn.out] at c11; have l7 : Kpt (Lo wd ((w5.setCell ⟨S, 14, none⟩ (.slice (some ⟨g, 0, none⟩) L1 hc)).setCell ⟨S, 11, none⟩ (.int .u32 ((B + 1) % 4294967296))) S s3 (s3.step (.slice (some ⟨g, 0, none⟩) L1 hc)) (hds first ks1) ((ocs nx).map Cm.v) [] [(P, (opd first nx).v)]) := ⟨l6.out.set 11 _ (by omega) (by simp [Se.v, Se.step, hBn.out]) rfl rfl rfl⟩; clear hB5 hg5))
            | (refine (?_ : wpList _ _ _ (Oper.mk _ (Op.load 37 _) _ _ _ _ :: _) _ _); go_must (refine wpList_load_bx rfl 37 _ rfl P (opd first nx).v rfl l7.out.b0 _ Try.underlying37 rfl szPdu ?_; have hm9 := hone))
            | (refine (?_ : wpList _ _ _ (Oper.mk (some 64) _ _ _ _ _ :: _) _ _); go_must (refine wpList_append_own_none rfl _ _ 31 rfl 0 37 i0 14 Try.underlying31 hi0 (.slice none 0 0) 0 [] rfl (World.ownsRow_nil _ _ _ _) rfl ?_; have hm10 := hone))
            | (refine (?_ : wpList _ _ _ (Oper.mk (some 67) _ _ _ _ _ :: _) _ _); go_must (refine wpList_append_row rfl 32 41 8 72 _ Try.underlying32 infoTask rfl (by decide) (by decide) _ _ rfl (.slice ta tn tc) u zs [z] rfl rfl hT8.out.own hR8.out (by simp) (by have := hzl.out; simp; omega) ?_; intro tv' w10 ho10 hg10 hor10)))
          obtain ⟨hO, hT, hd, hm, hnk, hge, hlen, hi16', hsum⟩ := hrel.out
          have hst := hOd.out.lo.st.trans l8.out.st
          have hmem := fun j => erase_mem hnk (show ks[at_]? = some nx by rw [hkK.out, hkn'.out]) j
          have hnin : nx ∈ ks := List.mem_of_getElem? (show ks[at_]? = some nx by rw [hkK.out, hkn'.out])
          have hTl := hT.len
          go_roundg (L - 1)
          case measure => have := hlenK.out; have := hL.out; omega
          case rel =>
            refine ⟨nx + 1, ks1, _, zs ++ [z], rfl, ⟨⟨⟨⟨l8.out.ss.frame (Y := fun b => (Value.slice ta tn tc).ownBlock = some b) (Fr.of_grown hg10.out (fun b e => e)) (fun b hb e => (hT8.out.off b e).1 hb), ⟨hst.fr.trans (Fr.of_grown (X := fun b => (Value.slice ta tn tc).ownBlock = some b) hg10.out (fun b e => e)) (fun b e => .inr (hT8.out.off b e).2), hst.new⟩, fun x hx => by simp at hx, List.nodup_nil⟩, ?_, hOd.out.over, hOd.out.dis⟩, ⟨ho10.out, ?_, ?_, ?_⟩, ?_, ?_, ?_, by omega, ?_, by have := hL.out; have := hlenK.out; omega, ?_⟩⟩⟩
            · show (s3.next + 1) % 4294967296 = (first + ((nx + 1 : Nat) : Int)) % 4294967296
              rw [hOd.out.next]
              omega
            · rw [List.length_append]; simp; omega
            · intro j z' hz'
              by_cases hj : j < zs.length
              · rw [List.getElem?_append_left hj] at hz'
                exact hT8.out.tags j z' hz'
              · have hj2 : j = zs.length := by have := (List.getElem?_eq_some_iff.1 hz').1; simp at this; omega
                subst hj2
                rw [List.getElem?_append_right (Nat.le_refl _)] at hz'
                simp at hz'
                subst hz'
                rw [hz0.out]
                congr 2
                omega
            · intro b hb
              rcases hor10.out with e | e
              · rw [e] at hb; exact hT8.out.off b hb
              · rw [e] at hb
                injection hb with hb
                subst hb
                exact ⟨fun e => by have := l8.out.ss.lt _ e; omega, hst.fr.size⟩
            · intro j h1 h2
              by_cases hj : j = nx
              · rw [hj]; exact ((hm nx).1 hnin).1
              · exact hd j h1 (by omega)
            · intro j
              rw [hks1.out, hmem j, hm j]
              constructor
              · rintro ⟨⟨h1, h2⟩, h3⟩; exact ⟨h1, by omega⟩
              · rintro ⟨h1, h2⟩; exact ⟨⟨h1, by omega⟩, by omega⟩
            · rw [hks1.out]; exact hnk.sublist (List.eraseIdx_sublist _ _)
            · rw [hks1.out, List.length_eraseIdx, if_pos (by rw [← hL.out]; exact hlt), ← hL.out]
            · have := hL.out; have := hlenK.out; omega
        · have hAB : ¬ A = B := by have := hA.out; have := hB.out; omega
          have hABb : (A != B) = true := by simp [hAB]
          go_upto_region 7 with fail
          refine wp_region_any (by kernel_rfl) ?_
          refine wpAny_of_C (C := fun W => W.cell? ⟨S, 14, none⟩ = some (.slice (some ⟨g, 0, none⟩) L hc) ∧ W.cell? ⟨S, 11, none⟩ = some (.int .u32 B) ∧ W.cell? ⟨g, at_ * 14 + 7, none⟩ = some (.int .u32 A)) _ _ _ _ ?_
          refine wpAnyC_take 0 (.pointer (some ⟨S, 0, none⟩)) rfl (by kernel_rfl) (by kernel_rfl) (by kernel_rfl) (fun _ _ _ h => h) (wanted_free rfl _) (fun W hW => by go_simp) ?_
          try simp only [Act.put, List.getElem_toArray, List.getElem_cons_succ, List.getElem_cons_zero, List.setIfInBounds_toArray, List.set_cons_succ, List.set_cons_zero]
          refine wpAnyC_take 1 (.pointer (some ⟨S, 0, none⟩)) rfl (by kernel_rfl) (by kernel_rfl) (by kernel_rfl) (fun _ _ _ h => h) (wanted_free rfl _) (fun W hW => by go_simp) ?_
          try simp only [Act.put, List.getElem_toArray, List.getElem_cons_succ, List.getElem_cons_zero, List.setIfInBounds_toArray, List.set_cons_succ, List.set_cons_zero]
          refine wpAnyC_take 2 (.pointer (some ⟨S, 14, none⟩)) rfl (by kernel_rfl) (by kernel_rfl) (by kernel_rfl) (fun _ _ _ h => h) (wanted_free rfl _) (fun W hW => by go_simp) ?_
          try simp only [Act.put, List.getElem_toArray, List.getElem_cons_succ, List.getElem_cons_zero, List.setIfInBounds_toArray, List.set_cons_succ, List.set_cons_zero]
          refine wpAnyC_take 3 (.slice (some ⟨g, 0, none⟩) L hc) rfl (by kernel_rfl) (by kernel_rfl) (by kernel_rfl) (fun _ _ _ h => h) (wanted_free rfl _) (fun W hW => by obtain ⟨q1, q2, q3⟩ := hW; go_simp) ?_
          try simp only [Act.put, List.getElem_toArray, List.getElem_cons_succ, List.getElem_cons_zero, List.setIfInBounds_toArray, List.set_cons_succ, List.set_cons_zero]
          refine wpAnyC_take 4 (.int .i64 at_) rfl (by kernel_rfl) (by kernel_rfl) (by kernel_rfl) (fun _ _ _ h => h) (wanted_free rfl _) (fun W hW => by go_simp) ?_
          try simp only [Act.put, List.getElem_toArray, List.getElem_cons_succ, List.getElem_cons_zero, List.setIfInBounds_toArray, List.set_cons_succ, List.set_cons_zero]
          refine wpAnyC_take 5 (.pointer (some ⟨g, at_ * 14, none⟩)) rfl (by kernel_rfl) (by kernel_rfl) (by kernel_rfl) (fun _ _ _ h => h) (wanted_free rfl _) (fun W hW => by go_simp) ?_
          try simp only [Act.put, List.getElem_toArray, List.getElem_cons_succ, List.getElem_cons_zero, List.setIfInBounds_toArray, List.set_cons_succ, List.set_cons_zero]
          refine wpAnyC_take 6 (.pointer (some ⟨g, at_ * 14 + 6, none⟩)) rfl (by kernel_rfl) (by kernel_rfl) (by kernel_rfl) (fun _ _ _ h => h) (wanted_free rfl _) (fun W hW => by go_simp) ?_
          try simp only [Act.put, List.getElem_toArray, List.getElem_cons_succ, List.getElem_cons_zero, List.setIfInBounds_toArray, List.set_cons_succ, List.set_cons_zero]
          refine wpAnyC_take 7 (.pointer (some ⟨g, at_ * 14 + 7, none⟩)) rfl (by kernel_rfl) (by kernel_rfl) (by kernel_rfl) (fun _ _ _ h => h) (wanted_free rfl _) (fun W hW => by go_simp) ?_
          try simp only [Act.put, List.getElem_toArray, List.getElem_cons_succ, List.getElem_cons_zero, List.setIfInBounds_toArray, List.set_cons_succ, List.set_cons_zero]
          refine wpAnyC_take 8 (.int .u32 A) rfl (by kernel_rfl) (by kernel_rfl) (by kernel_rfl) (fun _ _ _ h => h) (wanted_free rfl _) (fun W hW => by obtain ⟨q1, q2, q3⟩ := hW; go_simp) ?_
          try simp only [Act.put, List.getElem_toArray, List.getElem_cons_succ, List.getElem_cons_zero, List.setIfInBounds_toArray, List.set_cons_succ, List.set_cons_zero]
          refine wpAnyC_take 9 (.pointer (some ⟨S, 0, none⟩)) rfl (by kernel_rfl) (by kernel_rfl) (by kernel_rfl) (fun _ _ _ h => h) (wanted_free rfl _) (fun W hW => by go_simp) ?_
          try simp only [Act.put, List.getElem_toArray, List.getElem_cons_succ, List.getElem_cons_zero, List.setIfInBounds_toArray, List.set_cons_succ, List.set_cons_zero]
          refine wpAnyC_take 10 (.pointer (some ⟨S, 0, none⟩)) rfl (by kernel_rfl) (by kernel_rfl) (by kernel_rfl) (fun _ _ _ h => h) (wanted_free rfl _) (fun W hW => by go_simp) ?_
          try simp only [Act.put, List.getElem_toArray, List.getElem_cons_succ, List.getElem_cons_zero, List.setIfInBounds_toArray, List.set_cons_succ, List.set_cons_zero]
          refine wpAnyC_take 11 (.pointer (some ⟨S, 11, none⟩)) rfl (by kernel_rfl) (by kernel_rfl) (by kernel_rfl) (fun _ _ _ h => h) (wanted_free rfl _) (fun W hW => by go_simp) ?_
          try simp only [Act.put, List.getElem_toArray, List.getElem_cons_succ, List.getElem_cons_zero, List.setIfInBounds_toArray, List.set_cons_succ, List.set_cons_zero]
          refine wpAnyC_take 12 (.int .u32 B) rfl (by kernel_rfl) (by kernel_rfl) (by kernel_rfl) (fun _ _ _ h => h) (wanted_free rfl _) (fun W hW => by obtain ⟨q1, q2, q3⟩ := hW; go_simp) ?_
          try simp only [Act.put, List.getElem_toArray, List.getElem_cons_succ, List.getElem_cons_zero, List.setIfInBounds_toArray, List.set_cons_succ, List.set_cons_zero]
          refine wpAnyC_take 13 (.bool true) rfl (by kernel_rfl) (by kernel_rfl) (by kernel_rfl) (fun _ _ _ h => h) (wanted_free rfl _) (fun W hW => by go_simp) ?_
          try simp only [Act.put, List.getElem_toArray, List.getElem_cons_succ, List.getElem_cons_zero, List.setIfInBounds_toArray, List.set_cons_succ, List.set_cons_zero]
          refine wpAnyC_world hwd ?_
          clear hwd
          refine wpAnyC_done (⟨d14, d11, hg7⟩) (by kernel_rfl) ?_
          go_wp2_with fail
          go_roundg (L - at_ - 1)
          case measure => omega
          case rel => exact ⟨at_ + 1, rfl, rfl, by go_num, by omega, ⟨fun q hq => by
            by_cases hqa : q = at_
            · rw [hqa, hkK.out]; intro e; injection e with e; exact hkn e
            · exact hno.out q (by omega)⟩, hsmd⟩
      · have e1 : ¬ (at_ : Int) < L := by omega
        go_wp2_with fail
        try rw [Exit.noGoto_ret]
        go_ret2
        obtain ⟨hO, hT, hd, hm, hnk, hge, hlen, _, hsum⟩ := hrel.out
        have hnn : nx ∉ ks := fun hx => by
          obtain ⟨q, hq⟩ := List.mem_iff_getElem?.1 hx
          exact hno.out q (by have := (List.getElem?_eq_some_iff.1 hq).1; have := hL.out; omega) hq
        exact ⟨_, nx, ks, s3, zs, rfl, hO.below hsm.out.bel, hT.below hsm.out.bel, hd, hm, hnk, fun hx => hnn ((hm nx).2 ⟨hx, Nat.le_refl _⟩), hge, by omega⟩
end Go.Proofs.Ytdplndlmdhpfaaa
