/-
  login: no login; what is handed in may be written over.
-/
import Derived.Test.YtplifodddfjhdaaDoorXLnU
import Derived.Test.YtplifodddfjhdaaDoorQRhn
import Derived.Test.YtplifodddfjhdaaDoorXLgA
namespace Go.Proofs.YtplifodddfjhdaaDoor
open Go.RowKit
set_option linter.unusedVariables false
set_option linter.unusedSimpArgs false

def keysN : Prs := [(kIni, vI), (kTgt, vT), (kAut, vCh), (kCA, v5)]
theorem kn_f1 : findP keysN kIni = some vI := by decide +kernel
theorem kn_f2 : findP keysN kSes = none := by decide +kernel
theorem kn_f3 : findP keysN kTgt = some vT := by decide +kernel
theorem kn_beg (h : Hd) (hp : h.ps = keysN) (ho : h.os = [vT]) : begO h = true := by
  have e1 : h.ini = vI := by unfold Hd.ini; rw [hp, kn_f1]; rfl
  have e2 : h.ses = ⟨#[]⟩ := by unfold Hd.ses; rw [hp, kn_f2]; rfl
  have e3 : h.fnd = false := by unfold Hd.fnd; rw [hp, kn_f2]; rfl
  have e4 : h.tgt = vT := by unfold Hd.tgt; rw [hp, kn_f3]; rfl
  unfold begO
  rw [e1, e2, e3, e4, ho, if_neg (by decide +kernel), if_neg (fun k => by cases k.1), if_neg (by decide +kernel)]
  unfold choO
  rw [(Lib.containsS_iff [vT] vT).2 (by simp)]
  decide +kernel
theorem kn_ok : ∀ p ∈ keysN, (ign p.1 ∨ p.1 = kAut ∨ p.1 = kCA) ∧ p.2.size ≤ 281474976710656 := fun p hp => by
  simp only [keysN, List.mem_cons, List.not_mem_nil, or_false] at hp
  rcases hp with rfl | rfl | rfl | rfl
  · exact ⟨.inl (.inl rfl), by decide⟩
  · exact ⟨.inl (.inr (.inr rfl)), by decide⟩
  · exact ⟨.inr (.inl rfl), by decide⟩
  · exact ⟨.inr (.inr rfl), by decide⟩
def ansQ (zs : List Int) : Prs := [(kAut, vCh), (kCA, v5), (kCI, ⟨#[51]⟩), (kCC, hexS zs)]
theorem kn_v1 : autV true vCh = vCh := by decide +kernel
theorem kn_v2 : sumW v5 = true := by decide +kernel
theorem kn_v3 : isRej vCh = false := by decide +kernel
theorem kn_v4 : (vCh.toList == [67, 72, 65, 80]) = true := by decide +kernel
theorem kn_akF (zs : List Int) (s : Lg) : akF (uF true ⟨#[51]⟩ zs) s keysN = (ansQ zs, true, { s with meth := vCh, told := true }) := by
  have e1 : ∀ t : Lg, uF true ⟨#[51]⟩ zs t (kIni, vI) = ([], true, t) := fun t => by unfold uF; rw [if_neg (by decide +kernel), if_neg (by decide +kernel)]
  have e2 : ∀ t : Lg, uF true ⟨#[51]⟩ zs t (kTgt, vT) = ([], true, t) := fun t => by unfold uF; rw [if_neg (by decide +kernel), if_neg (by decide +kernel)]
  have e3 : ∀ t : Lg, uF true ⟨#[51]⟩ zs t (kAut, vCh) = ([(kAut, vCh)], true, { t with meth := vCh }) := fun t => by unfold uF; rw [if_pos rfl, kn_v1, kn_v3]; rfl
  have e4 : ∀ t : Lg, uF true ⟨#[51]⟩ zs { t with meth := vCh } (kCA, v5) = ([(kCA, v5), (kCI, ⟨#[51]⟩), (kCC, hexS zs)], true, { t with meth := vCh, told := true }) := fun t => by unfold uF; rw [if_neg (by decide +kernel), if_pos rfl]; simp only [kn_v4, kn_v2, Bool.true_and]
  simp only [keysN, akF, e1, e2, e3, e4, if_true, List.nil_append]
  rfl
theorem kn_find (zs : List Int) : findP (ansQ zs) kCC = some (hexS zs) := by
  unfold ansQ
  rw [findP, if_neg (by decide +kernel), findP, if_neg (by decide +kernel), findP, if_neg (by decide +kernel), findP, if_pos rfl]
theorem entZ_keep (h : Hd) (s : Lg) : (entZ h s).us = s.us ∧ (entZ h s).id = s.id ∧ (entZ h s).ch = s.ch ∧ (entZ h s).tg = s.tg := by unfold entZ begS; split <;> exact ⟨rfl, rfl, rfl, rfl⟩

/-- A login between calls: what is its own lies behind what was handed in. -/
structure Nl (c : Nat) (W : World) (L : Nat) (s : Lg) (ta : Option Addr) (tc : Nat) (ca : Option Addr) (cn cc : Nat) (zs : List Int) : Prop where
  lg : Bx W L s.v
  st : StAt W (.slice ta 1 tc) [vT]
  rd : RdAt W (.slice ca cn cc) zs
  lc : c ≤ L
  nt : Newer ta c
  nc : Newer ca c
  ot : Off ta L
  oc : Off ca L
  lt : ∀ x, ca = some x → x.block < W.heap.size
theorem Nl.grown {c : Nat} {W W' : World} {L : Nat} {s : Lg} {ta : Option Addr} {tc : Nat} {ca : Option Addr} {cn cc : Nat} {zs : List Int} (k : Nl c W L s ta tc ca cn cc zs) {B : Nat} (hg : W.grownBy W' (some B)) (hB : B < c) : Nl c W' L s ta tc ca cn cc zs :=
  ⟨k.lg.grown hg (fun e => by have := Option.some.inj e; have := k.lc; omega), k.st.grown (Off.of_newer k.nt hB) hg, rd_grown k.rd k.lt (Off.of_newer k.nc hB) hg, k.lc, k.nt, k.nc, k.ot, k.oc, fun x e => Nat.lt_of_lt_of_le (k.lt x e) hg.size⟩
theorem Nl.below {c : Nat} {W W' : World} {L : Nat} {s : Lg} {ta : Option Addr} {tc : Nat} {ca : Option Addr} {cn cc : Nat} {zs : List Int} (k : Nl c W L s ta tc ca cn cc zs) (hb : Below W.heap.size W W') : Nl c W' L s ta tc ca cn cc zs :=
  ⟨k.lg.below hb k.lg.lt, k.st.bel hb, k.rd.bel hb, k.lc, k.nt, k.nc, k.ot, k.oc, fun x e => Nat.lt_of_lt_of_le (k.lt x e) hb.size⟩
/-- The step of a login with a user, at the four keys. -/
theorem step_nil (c : Nat) (W : World) (L : Nat) (us : Option Addr) (uc : Nat) (ta : Option Addr) (tc : Nat) (ca : Option Addr) (cn cc : Nat) (zs : List Int) (k : Nl c W L (lgU 3 (.slice ta 1 tc) (.slice us 1 uc) (.slice ca cn cc)) ta tc ca cn cc zs) (ha : Option Addr) (hc : Nat) (hp : PsAt W (.slice ha 4 hc) keysN) (ho : Off ha L) (hz : Bytes zs) (hcn : cn ≤ 50000000000000) :
    Calls Tryd.prog 8 #[.pointer (some ⟨L, 0, none⟩), .agg #[.int .u8 0, .int .u8 0, .bool false, .slice ha 4 hc]] W fun e w' => (∃ va vn vc, e = .returned (.tuple #[.agg (ansT 0 (.slice va vn vc)), .int .i64 0]) ∧ PsAt w' (.slice va vn vc) (ansQ zs) ∧ vc ≤ maxLen) ∧ W.grownBy w' (some L) := by
  obtain ⟨h, hh⟩ : ∃ h : Hd, h = ⟨ha, 4, hc, keysN, ta, 1, tc, [vT]⟩ := ⟨_, rfl⟩
  obtain ⟨s, hs⟩ : ∃ s, s = lgU 3 (.slice ta 1 tc) (.slice us 1 uc) (.slice ca cn cc) := ⟨_, rfl⟩
  have hok : h.ok W L := by subst hh; exact ⟨hp, (show 4 ≤ maxLen by unfold maxLen; omega), ho, k.st, (show 1 ≤ maxLen by unfold maxLen; omega), k.ot⟩
  have hB : begO h = true := kn_beg h (by rw [hh]) (by rw [hh])
  have htg : s.tg = .slice h.at' h.nt h.ct := by subst hs; subst hh; rfl
  have hX : Bx W L s.v := by rw [hs]; exact k.lg
  obtain ⟨k1, k2, k3, k4⟩ := entZ_keep h s
  have hF := kn_akF zs (entZ h s)
  have hA := uF_ok us 1 uc ⟨#[51]⟩ zs 3 s.tg ca cn cc L (findV (findP h.ps kRsp)) W keysN k.lg.lt kn_ok (by omega) (fun W => (itoa_3 W).mono fun e w' ⟨h1, h2⟩ => ⟨h1, by rw [h2]; exact Below.refl _ _⟩) k.rd k.lt k.oc hz hcn
  rw [show decide (0 < 1) = true from rfl] at hA
  have := step_ok 0 h L s (entZ h s) { entZ h s with meth := vCh, told := true } (ansQ zs) W hX hok htg (by rw [hs]; rfl) k4 rfl
    (fun W' h1 h2 h3 => (enter_z h L s W' h1 h2 htg (by rw [hs]; rfl)).mono fun e w' ⟨h4, h5, h6⟩ => ⟨by rw [h4, hB]; rfl, h5, h6⟩)
    (fun W' h1 h2 h3 => by
      have h2p := h2.ps
      have hps : h.ps = keysN := by rw [hh]
      rw [hps] at h2p
      have h2n : h.n ≤ 1000000000 := by rw [hh]; show 4 ≤ 1000000000; omega
      have := akeys_any (uF true ⟨#[51]⟩ zs) (fun t => t.us = .slice us 1 uc ∧ t.id = 3 ∧ t.ch = .slice ca cn cc ∧ t.tg = s.tg) L (entZ h s) h.a h.n h.c keysN W' h1 h2p h2.off h2n ⟨by rw [k1, hs]; rfl, by rw [k2, hs]; rfl, by rw [k3, hs]; rfl, k4⟩
        (fun W2 t p hp hJ hgr hX2 => by have := hA W2 t p hp hJ (grown_tr h3 hgr) hX2; rw [hps] at this; exact this)
      rw [hF] at this
      refine this.mono ?_
      rintro e w' ⟨va, vn, vc, rfl, h5, h6, _, h7⟩
      exact ⟨va, vn, vc, rfl, h5 rfl, h6, h7⟩)
  subst hh
  refine this.mono ?_
  rintro e w' ⟨va, vn, vc, rfl, h5, h6, h7, h8⟩
  exact ⟨⟨va, vn, vc, rfl, h5, h6⟩, h8⟩
end Go.Proofs.YtplifodddfjhdaaDoor
