/-
  login: what is handed in, keys of a user, the document's Find.
-/
import Derived.Test.YtplifodddfjhdaaGreatDoorXLaC
import Derived.Test.YtplifodddfjhdaaGreatDoorXLnN
import Derived.Test.YtplifodddfjhdaaGreatDoorXLnG
import Derived.Test.YtplifodddfjhdaaGreatDoorXLnM
namespace Go.Proofs.YtplifodddfjhdaaGreatDoor
open Go.RowKit
set_option linter.unusedVariables false
set_option linter.unusedSimpArgs false

theorem ps_cells {w : World} {a : Option Addr} {n c : Nat} {ps : List (ByteArray × ByteArray)} (h : PsAt w (.slice a n c) ps) (k : Nat) (hk : k < n) (p : ByteArray × ByteArray) (hp : ps[k]? = some p) :
    ∃ b off, a = some ⟨b, off, none⟩ ∧ w.cell? ⟨b, off + k * 2, none⟩ = some (.string p.1) ∧ w.cell? ⟨b, off + k * 2 + 1, none⟩ = some (.string p.2) := by
  obtain ⟨a', c', hv, h1, h2, h3⟩ := h
  simp only [Value.slice.injEq] at hv
  obtain ⟨rfl, rfl, -⟩ := hv
  rcases h3 with h3 | ⟨b, off, rfl, -, hc⟩
  · omega
  · exact ⟨b, off, rfl, hc k p hp 0 _ rfl, hc k p hp 1 _ rfl⟩

set_option maxRecDepth 100000 in
set_option maxHeartbeats 1000000 in
theorem rfind_any (a : Option Addr) (n c : Nat) (ps : List (ByteArray × ByteArray)) (x : ByteArray) (w : World) (hr : PsAt w (.slice a n c) ps) (hn : n ≤ maxLen) :
    Calls Tryz.prog 21 #[.slice a n c, .string x] w fun e w' => e = .returned (.tuple #[.string (findV (findP ps x)), .bool (findP ps x).isSome]) ∧ w' = w := by
  have hl : ps.length = n := by obtain ⟨a', c', hv, _⟩ := hr; simp only [Value.slice.injEq] at hv; exact hv.2.1.symm
  have hc1 : Kpt (∀ k, k < n → ∀ p, ps[k]? = some p → ∃ b off, a = some ⟨b, off, none⟩ ∧ w.cell? ⟨b, off + k * 2, none⟩ = some (.string p.1) ∧ w.cell? ⟨b, off + k * 2 + 1, none⟩ = some (.string p.2)) := ⟨fun k hk p hp => ps_cells hr k hk p hp⟩
  unfold maxLen at hn
  have hl' := Kpt.mk hl
  clear hr hl
  go_enter Tryz.func21, Tryz.ntmps21
  go_wp2
  go_loop [6] (fun t => ∃ k : Nat, k ≤ n ∧ t = .int .i64 k ∧ Kpt (∀ j p, j < k → ps[j]? = some p → ¬ p.1 = x)) (fun t => n - (intOf t).toNat)
  case atStart => exact ⟨0, by omega, rfl, ⟨fun j p hj => by omega⟩⟩
  case round =>
    obtain ⟨k, hk, rfl, hno⟩ := hrel
    by_cases hlt : k < n
    · have hltI : (k : Int) < n := by omega
      obtain ⟨p, hp⟩ : ∃ p, ps[k]? = some p := ⟨_, List.getElem?_eq_getElem (by rw [hl'.out]; exact hlt)⟩
      obtain ⟨b, off, rfl, k1, k2⟩ := hc1.out k hlt p hp
      have hp' := Kpt.mk hp
      clear hp
      obtain ⟨K, V⟩ := p
      simp only at k1 k2
      by_cases hKx : K = x
      · subst hKx
        have hf := Kpt.mk (findP_hit K ps k (K, V) hp'.out rfl hno.out)
        go_wp2
        go_ret2
        exact ⟨by rw [hf.out]; rfl, rfl⟩
      · have hne := toList_ne hKx
        have hno2 : Kpt (∀ j p, j < k + 1 → ps[j]? = some p → ¬ p.1 = x) := ⟨fun j p hj hpj => by
          by_cases hjk : j < k
          · exact hno.out j p hjk hpj
          · obtain rfl : j = k := by omega
            rw [hp'.out] at hpj
            cases hpj
            exact hKx⟩
        clear hKx
        go_wp2
        go_round
        case rel => exact ⟨k + 1, by omega, by go_num, hno2⟩
        case measure => simp [intOf]; omega
    · have hltI : ¬ (k : Int) < n := by omega
      have hf := Kpt.mk (findP_none x ps (fun j q hj => hno.out j q (by have := hl'.out; omega)))
      go_wp2
      go_ret2
      exact ⟨by rw [hf.out]; rfl, rfl⟩

set_option maxRecDepth 100000 in
theorem over_none (w : World) : Calls Tryz.prog 15 #[.pointer none] w fun e w' => e = .returned (.bool false) ∧ w' = w := by
  go_enter Tryz.func15, Tryz.ntmps15
  go_wp2
  go_ret
  exact ⟨rfl, rfl⟩
set_option maxRecDepth 100000 in
theorem done_none (w : World) : Calls Tryz.prog 14 #[.pointer none] w fun e w' => e = .returned (.bool false) ∧ w' = w := by
  go_enter Tryz.func14, Tryz.ntmps14
  go_wp2
  go_ret
  exact ⟨rfl, rfl⟩
set_option maxRecDepth 100000 in
theorem params_none (w : World) : Calls Tryz.prog 17 #[.pointer none] w fun e w' => e = .returned (.agg prmZ) ∧ Below w.heap.size w w' := by
  go_enter Tryz.func17, Tryz.ntmps17
  go_wp2_with (first
    | (refine (?_ : wpList _ _ _ (Oper.mk none (Op.store 62 _ _) _ _ _ _ :: _) _ _); go_must (refine wpList_store_bx rfl 62 (.tmp 2) (.tmp 5) rfl A prmZ prmZ rfl rfl hAx.out rfl szPrm (by simp [prmZ, Value.oneCell']) rfl ?_; intro w3 hA3 hg3; have hb3 : Kpt (Below w.heap.size w w3) := ⟨hb.out.grown hg3 hb.out.size (fun q e => by injection e with e; subst e; exact hA.out)⟩; replace hA3 := Kpt.mk hA3; clear hg3))
    | (refine wpList_var rfl 62 rfl prmZ zPrm ?_; intro A w1 hA hAx hb; replace hA := Kpt.mk hA; replace hAx := Kpt.mk hAx; replace hb := Kpt.mk hb))
  refine bodyPost_ret (v := .agg prmZ) (by simp [results, Tryz.results17, asAddr, Act.put, run_res hA3.out 62 _ Tryz.underlying62 rfl szPrm]) rfl ⟨rfl, hb3.out⟩
set_option maxRecDepth 100000 in
theorem hello_any (a : Option Addr) (n c : Nat) (l : Prs) (w : World) (hq : PsAt w (.slice a n c) l) (hn : n ≤ 1000000000) :
    Calls Tryz.prog 20 #[.slice a n c] w fun e w' => ∃ ga gc, e = .returned (.slice ga (2 + n) gc) ∧ w'.ownsRow w.heap.size 41 2 (.slice ga (2 + n) gc) (2 + n) (cellsB ((kIni, vI) :: (kTgt, vT) :: l)) ∧ Below w.heap.size w w' := by
  have ho := Kpt.mk (own_two w w.heap.size (Nat.le_refl _) (kIni, vI) (kTgt, vT))
  have hq1 : Kpt (∀ X : Obj, PsAt (w.alloc X) (.slice a n c) l) := ⟨fun X => hq.bel ((Below.refl _ _).alloc (Nat.le_refl _) X)⟩
  have hb1 : Kpt (∀ X : Obj, Below w.heap.size w (w.alloc X)) := ⟨fun X => (Below.refl _ _).alloc (Nat.le_refl _) X⟩
  clear hq
  go_enter Tryz.func20, Tryz.ntmps20
  go_wp2_with (refine (?_ : wpList _ _ _ (Oper.mk (some 9) _ _ _ _ _ :: _) _ _); go_must (refine wpList_append_prL rfl (.tmp 7) (.tmp 8) rfl w.heap.size (.slice (some ⟨w.heap.size, 0, none⟩) 2 2) [(kIni, vI), (kTgt, vT)] l 2 a n c rfl rfl ho.out (hq1.out _) (by omega) (by simp) ?_; intro v' w' ho' hg'))
  go_ret
  obtain ⟨va, vc, rfl⟩ := own_sl2 ho'.out
  exact ⟨va, vc, rfl, ho'.out, (hb1.out _).grown hg'.out (by simp) (fun q e => by simp [Value.ownBlock] at e; omega)⟩
theorem ps_bx {w : World} {g : Nat} {ps : Prs} (h : Bx w g (cellsB ps).toArray) : PsAt w (.slice (some ⟨g, 0, none⟩) ps.length ps.length) ps := by
  refine ⟨some ⟨g, 0, none⟩, ps.length, rfl, (fun h => by cases h), Nat.le_refl _, .inr ⟨g, 0, rfl, h.lt, fun j p hp i u hu => ?_⟩⟩
  have hj := (List.getElem?_eq_some_iff.1 hp).1
  obtain ⟨h1, h2⟩ := cellsB_at ps j p hp
  have hl := cellsB_len ps
  rw [Nat.zero_add]
  rcases i with _ | _ | i
  · simp [pcs] at hu
    rw [Nat.add_zero, h.cells (j * 2) (by simp; omega), List.getElem?_toArray, h1, hu]
  · simp [pcs] at hu
    rw [h.cells (j * 2 + 1) (by simp; omega), List.getElem?_toArray, h2, hu]
  · simp [pcs] at hu

/-- What keys come to where there are users or none: those that are looked for, and the two ahead of a proof. -/
def uF (u : Bool) (I : ByteArray) (zs : List Int) (s : Lg) (p : ByteArray × ByteArray) : Prs × Bool × Lg :=
  if p.1 = kAut then ([(kAut, autV u p.2)], !isRej (autV u p.2), { s with meth := autV u p.2 })
  else if p.1 = kCA then ([(kCA, v5), (kCI, I), (kCC, hexS zs)], (s.meth.toList == [67, 72, 65, 80]) && sumW p.2, { s with told := (s.meth.toList == [67, 72, 65, 80]) && sumW p.2 })
  else ([], true, s)
theorem ign_ne {K : ByteArray} (h : ign K) : ¬ K = kAut ∧ ¬ K = kCA := by
  rcases h with rfl | rfl | rfl <;> exact ⟨by decide +kernel, by decide +kernel⟩
theorem uF_okG (ua : Option Addr) (un uc : Nat) (I : ByteArray) (zs : List Int) (id : Int) (tg : Value) (ca : Option Addr) (cn cc : Nat) (L : Nat) (rs : ByteArray) (w : World) (ps : Prs) (hL : L < w.heap.size)
    (hps : ∀ p ∈ ps, (ign p.1 ∨ p.1 = kAut ∨ p.1 = kCA) ∧ p.2.size ≤ 281474976710656) (hid : 0 ≤ id ∧ id ≤ 255) (hI : ∀ W, w.grownBy W (some L) → Calls Tryz.prog 55 #[.int .i64 id] W fun e w' => e = .returned (.string I) ∧ Below W.heap.size W w')
    (hr : RdAt w (.slice ca cn cc) zs) (hcl : ∀ x, ca = some x → x.block < w.heap.size) (hof : Off ca L) (hz : Bytes zs) (hcn : cn ≤ 50000000000000) :
    AkOk (uF (decide (0 < un)) I zs) (fun t => t.us = .slice ua un uc ∧ t.id = id ∧ t.ch = .slice ca cn cc ∧ t.tg = tg) L rs w ps := by
  intro W t p hp hJ hgr hX
  obtain ⟨hk, hsz⟩ := hps p hp
  obtain ⟨hus, hti, htc, htt⟩ := hJ
  have hch : ∀ W', w.grownBy W' (some L) → RdAt W' (.slice ca cn cc) zs := fun W' h => rd_grown hr hcl hof h
  have hChl : ∀ (b : Bool) (W' : World), w.grownBy W' (some L) → Chl L { t with told := b } I zs W' := fun b W' h => ⟨by rw [hti]; exact hid, fun W2 h2 => by rw [hti]; exact hI W2 (grown_tr h (grown_of_below h2 _)), ⟨ca, cn, cc, htc, hch W' h, hcn⟩, hz⟩
  obtain ⟨K, V⟩ := p
  simp only at hk hsz ⊢
  by_cases h1 : K = kAut
  · subst h1
    have e : uF (decide (0 < un)) I zs t (kAut, V) = ([(kAut, autV (decide (0 < un)) V)], !isRej (autV (decide (0 < un)) V), { t with meth := autV (decide (0 < un)) V }) := by unfold uF; rw [if_pos rfl]
    rw [e]
    refine (akey_aut L t V rs ua un uc hus W hX hsz).mono ?_
    rintro e w' ⟨g, rfl, h2, h3, h4, h5⟩
    exact ⟨_, 1, 1, rfl, ps_bx (ps := [(kAut, autV (decide (0 < un)) V)]) h3, by omega, h4, ⟨hus, hti, htc, htt⟩, h5⟩
  · by_cases h2 : K = kCA
    · subst h2
      have e : uF (decide (0 < un)) I zs t (kCA, V) = ([(kCA, v5), (kCI, I), (kCC, hexS zs)], (t.meth.toList == [67, 72, 65, 80]) && sumW V, { t with told := (t.meth.toList == [67, 72, 65, 80]) && sumW V }) := by unfold uF; rw [if_neg h1, if_pos rfl]
      rw [e]
      have hgx : ∀ (W' : World) (v : Value), Below W.heap.size W W' → w.grownBy (W'.setCell ⟨L, 8, none⟩ v) (some L) := fun W' v h => grown_tr (grown_tr hgr (grown_of_below h _)) (grown_setCellK W' ⟨L, 8, none⟩ v)
      cases hm : (t.meth.toList == [67, 72, 65, 80])
      · refine (akey_caF L t V rs I zs W hX hsz hm (fun W' h => hChl _ W' (grown_tr hgr (grown_of_below h _))) (fun W' v h => hChl _ _ (hgx W' v h))).mono ?_
        rintro e w' ⟨g, rfl, h2, h3, h4, h5⟩
        exact ⟨_, 3, 3, rfl, ps_bx (ps := [(kCA, v5), (kCI, I), (kCC, hexS zs)]) h3, by omega, h4, ⟨hus, hti, htc, htt⟩, h5⟩
      · refine (akey_caT L t V rs I zs W hX hsz hm (fun W' h => hChl _ W' (grown_tr hgr (grown_of_below h _))) (fun W' v h => hChl _ _ (hgx W' v h))).mono ?_
        rintro e w' ⟨g, rfl, h2, h3, h4, h5⟩
        exact ⟨_, 3, 3, by rw [Bool.true_and], ps_bx (ps := [(kCA, v5), (kCI, I), (kCC, hexS zs)]) h3, by omega, by rw [Bool.true_and]; exact h4, ⟨hus, hti, htc, htt⟩, h5⟩
    · have e : uF (decide (0 < un)) I zs t (K, V) = ([], true, t) := by unfold uF; rw [if_neg h1, if_neg h2]
      rw [e]
      have hig : ign K := hk.elim (fun h => h) (fun h => h.elim (fun h => absurd h h1) (fun h => absurd h h2))
      refine (akey_ign L K V rs hig W).mono ?_
      rintro e w' ⟨rfl, hb⟩
      exact ⟨none, 0, 0, rfl, ps_nil w', by omega, hX.below hb hX.lt, ⟨hus, hti, htc, htt⟩, grown_of_below hb _⟩
theorem uF_ok (ua : Option Addr) (un uc : Nat) (I : ByteArray) (zs : List Int) (id : Int) (tg : Value) (ca : Option Addr) (cn cc : Nat) (L : Nat) (rs : ByteArray) (w : World) (ps : Prs) (hL : L < w.heap.size)
    (hps : ∀ p ∈ ps, (ign p.1 ∨ p.1 = kAut ∨ p.1 = kCA) ∧ p.2.size ≤ 281474976710656) (hid : 0 ≤ id ∧ id ≤ 255) (hI : ∀ W, Calls Tryz.prog 55 #[.int .i64 id] W fun e w' => e = .returned (.string I) ∧ Below W.heap.size W w')
    (hr : RdAt w (.slice ca cn cc) zs) (hcl : ∀ x, ca = some x → x.block < w.heap.size) (hof : Off ca L) (hz : Bytes zs) (hcn : cn ≤ 50000000000000) :
    AkOk (uF (decide (0 < un)) I zs) (fun t => t.us = .slice ua un uc ∧ t.id = id ∧ t.ch = .slice ca cn cc ∧ t.tg = tg) L rs w ps :=
  uF_okG ua un uc I zs id tg ca cn cc L rs w ps hL hps hid (fun W _ => hI W) hr hcl hof hz hcn
end Go.Proofs.YtplifodddfjhdaaGreatDoor
