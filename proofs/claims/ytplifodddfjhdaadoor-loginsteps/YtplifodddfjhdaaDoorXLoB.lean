/-
  login: the steps of a login without users.
-/
import Derived.Test.YtplifodddfjhdaaDoorXLoP
namespace Go.Proofs.YtplifodddfjhdaaDoor
open Go.RowKit
set_option linter.unusedVariables false
set_option linter.unusedSimpArgs false

def i1 : ByteArray := ⟨#[49]⟩
/-- A login between calls, and its targets. -/
structure Ns (W : World) (L : Nat) (s : Lg) (ta : Option Addr) (tc : Nat) : Prop where
  lg : Bx W L s.v
  st : StAt W (.slice ta 1 tc) [vT]
  ot : Off ta L
  tl : ∀ x, ta = some x → x.block < W.heap.size
  tg : s.tg = .slice ta 1 tc
theorem Ns.below {W W' : World} {L : Nat} {s : Lg} {ta : Option Addr} {tc : Nat} (k : Ns W L s ta tc) (hb : Below W.heap.size W W') : Ns W' L s ta tc :=
  ⟨k.lg.below hb k.lg.lt, k.st.bel hb, k.ot, fun x e => Nat.lt_of_lt_of_le (k.tl x e) hb.size, k.tg⟩
theorem Ns.grown {W W' : World} {L B : Nat} {s : Lg} {ta : Option Addr} {tc : Nat} (k : Ns W L s ta tc) (hg : W.grownBy W' (some B)) (hn : L ≠ B) (ho : Off ta B) : Ns W' L s ta tc :=
  ⟨k.lg.grown hg (fun e => hn (Option.some.inj e).symm), k.st.grown ho hg, k.ot, fun x e => Nat.lt_of_lt_of_le (k.tl x e) hg.size, k.tg⟩
theorem Ns.turn {W W' : World} {L : Nat} {s s' : Lg} {ta : Option Addr} {tc : Nat} (k : Ns W L s ta tc) (hX : Bx W' L s'.v) (hg : W.grownBy W' (some L)) (ht : s'.tg = s.tg) : Ns W' L s' ta tc :=
  ⟨hX, k.st.grown k.ot hg, k.ot, fun x e => Nat.lt_of_lt_of_le (k.tl x e) hg.size, ht.trans k.tg⟩
theorem sF_keepJ (I : ByteArray) (b : Bool) (tg : Value) (t : Lg) (p : ByteArray × ByteArray) (h : sJ b tg t) : sJ b tg (sF I t p).2.2 := by
  obtain ⟨a1, a2, a3, a4, a5, a6, a7⟩ := h
  obtain ⟨K, V⟩ := p
  unfold sF
  simp only
  by_cases h0 : K = kIni
  · simp only [if_pos h0]; exact ⟨a1, a2, a3, a4, a5, a6, a7⟩
  by_cases h1 : K = kAl
  · simp only [if_neg h0, if_pos h1]; exact ⟨a1, a2, a3, a4, a5, a6, a7⟩
  by_cases h2 : K = kSes
  · simp only [if_neg h0, if_neg h1, if_pos h2]; exact ⟨a1, a2, a3, a4, a5, a6, a7⟩
  by_cases h3 : K = kTgt
  · simp only [if_neg h0, if_neg h1, if_neg h2, if_pos h3]; exact ⟨a1, a2, a3, a4, a5, a6, a7⟩
  by_cases h4 : K = kRsp
  · simp only [if_neg h0, if_neg h1, if_neg h2, if_neg h3, if_pos h4]; exact ⟨a1, a2, a3, a4, a5, a6, a7⟩
  by_cases h5 : K = kAut
  · simp only [if_neg h0, if_neg h1, if_neg h2, if_neg h3, if_neg h4, if_pos h5]; exact ⟨a1, a2, a3, a4, a5, autV_no V, a7⟩
  by_cases h6 : K = kCA
  · simp only [if_neg h0, if_neg h1, if_neg h2, if_neg h3, if_neg h4, if_neg h5, if_pos h6]; exact ⟨a1, a2, a3, a4, a5, a6, rfl⟩
  by_cases h7 : K = kCN
  · simp only [if_neg h0, if_neg h1, if_neg h2, if_neg h3, if_neg h4, if_neg h5, if_neg h6, if_pos h7]; exact ⟨a1, a2, a3, a4, a5, a6, rfl⟩
  simp only [if_neg h0, if_neg h1, if_neg h2, if_neg h3, if_neg h4, if_neg h5, if_neg h6, if_neg h7]
  obtain ⟨b1, b2, b3, b4, b5, b6, b7⟩ := agV_keep t K V
  exact ⟨b1.trans a1, b2.trans a2, b3.trans a3, b4.trans a4, b5.trans a5, by rw [b6]; exact a6, b7.trans a7⟩
theorem akF_keepJ (I : ByteArray) (b : Bool) (tg : Value) : ∀ (l : Prs) (t : Lg), sJ b tg t → sJ b tg (akF (sF I) t l).2.2
  | [], t, h => h
  | p :: l, t, h => by
    by_cases hp : (sF I t p).2.1 = true
    · rw [akF, if_pos hp]; exact akF_keepJ I b tg l _ (sF_keepJ I b tg t p h)
    · rw [akF, if_neg hp]; exact sF_keepJ I b tg t p h
theorem hd_ok {W : World} {L : Nat} {s : Lg} {ta : Option Addr} {tc : Nat} (k : Ns W L s ta tc) {ha : Option Addr} {hn hc : Nat} {l : Prs} (hp : PsAt W (.slice ha hn hc) l) (ho : Off ha L) (hl : hn ≤ 1000000000) : (⟨ha, hn, hc, l, ta, 1, tc, [vT]⟩ : Hd).ok W L :=
  ⟨hp, (show hn ≤ maxLen by unfold maxLen; omega), ho, k.st, (show 1 ≤ maxLen by unfold maxLen; omega), k.ot⟩
theorem stp_ok (b : Bool) (W : World) (L : Nat) (s s1 : Lg) (ta : Option Addr) (tc : Nat) (k : Ns W L s ta tc) (ha : Option Addr) (hn hc : Nat) (l : Prs) (hp : PsAt W (.slice ha hn hc) l) (ho : Off ha L) (hl : hn ≤ 1000000000) (hsz : ∀ p ∈ l, p.2.size ≤ 281474976710656) (hov : s.over = false) (hs1 : s1.tg = s.tg) (hJ : sJ b (.slice ta 1 tc) s1)
    (hG : ∀ W', W.grownBy W' (some L) → Gl W')
    (hE : ∀ W', Bx W' L s.v → (⟨ha, hn, hc, l, ta, 1, tc, [vT]⟩ : Hd).ok W' L → Calls Tryd.prog 19 #[.pointer (some ⟨L, 0, none⟩), .agg (rqn ⟨ha, hn, hc, l, ta, 1, tc, [vT]⟩)] W' fun e w' => e = .returned (.tuple #[.int .u8 0, .bool true]) ∧ Bx w' L s1.v ∧ W'.grownBy w' (some L))
    (hF : (akF (sF i1) s1 l).2.1 = true) :
    Calls Tryd.prog 8 #[.pointer (some ⟨L, 0, none⟩), .agg #[.int .u8 1, .int .u8 0, .bool false, .slice ha hn hc]] W fun e w' => (∃ va vn vc, e = .returned (.tuple #[.agg (ansT 1 (.slice va vn vc)), .int .i64 0]) ∧ PsAt w' (.slice va vn vc) (akF (sF i1) s1 l).1 ∧ vc ≤ maxLen ∧ Newer va W.heap.size) ∧ Ns w' L (akF (sF i1) s1 l).2.2 ta tc ∧ W.grownBy w' (some L) := by
  have hJ2 := akF_keepJ i1 b (.slice ta 1 tc) l s1 hJ
  refine (step_okN 1 ⟨ha, hn, hc, l, ta, 1, tc, [vT]⟩ L s s1 (akF (sF i1) s1 l).2.2 (akF (sF i1) s1 l).1 W k.lg (hd_ok k hp ho hl) k.tg hov hs1 (hJ2.2.2.2.1.trans hJ.2.2.2.1.symm) (fun W' h1 h2 h3 => hE W' h1 h2) (fun W' h1 h2 h3 => ?_)).mono ?_
  · have hA := sF_ok i1 b (.slice ta 1 tc) L (findV (findP l kRsp)) W' l h1.lt hsz (fun W2 => (itoa_1 W2).mono fun e w' ⟨q1, q2⟩ => ⟨q1, by rw [q2]; exact Below.refl _ _⟩) (fun W2 h => hG W2 (grown_tr h3 h))
    have := akeys_any (sF i1) (sJ b (.slice ta 1 tc)) L s1 ha hn hc l W' h1 h2.ps h2.off hl hJ hA
    rw [hF] at this
    refine this.mono ?_
    rintro e w' ⟨va, vn, vc, rfl, h5, h6, _, h7⟩
    exact ⟨va, vn, vc, rfl, h5 rfl, h6, h7⟩
  · rintro e w' ⟨va, vn, vc, rfl, h5, h6, h7, h8, h9⟩
    exact ⟨⟨va, vn, vc, rfl, h5, h6, h9⟩, k.turn h7 h8 ((hJ2.2.2.2.1.trans hJ.2.2.2.1.symm).trans hs1), h8⟩
theorem stp_no (b : Bool) (W : World) (L : Nat) (s s1 : Lg) (ta : Option Addr) (tc : Nat) (k : Ns W L s ta tc) (ha : Option Addr) (hn hc : Nat) (l : Prs) (hp : PsAt W (.slice ha hn hc) l) (ho : Off ha L) (hl : hn ≤ 1000000000) (hsz : ∀ p ∈ l, p.2.size ≤ 281474976710656) (hov : s.over = false) (hs1 : s1.tg = s.tg) (hJ : sJ b (.slice ta 1 tc) s1)
    (hG : ∀ W', W.grownBy W' (some L) → Gl W')
    (hE : ∀ W', Bx W' L s.v → (⟨ha, hn, hc, l, ta, 1, tc, [vT]⟩ : Hd).ok W' L → Calls Tryd.prog 19 #[.pointer (some ⟨L, 0, none⟩), .agg (rqn ⟨ha, hn, hc, l, ta, 1, tc, [vT]⟩)] W' fun e w' => e = .returned (.tuple #[.int .u8 0, .bool true]) ∧ Bx w' L s1.v ∧ W'.grownBy w' (some L))
    (hF : (akF (sF i1) s1 l).2.1 = false) :
    Calls Tryd.prog 8 #[.pointer (some ⟨L, 0, none⟩), .agg #[.int .u8 1, .int .u8 0, .bool false, .slice ha hn hc]] W fun e w' => e = .returned (.tuple #[.agg (ansF 1), .int .i64 0]) ∧ Ns w' L { (akF (sF i1) s1 l).2.2 with over := true } ta tc ∧ W.grownBy w' (some L) := by
  have hJ2 := akF_keepJ i1 b (.slice ta 1 tc) l s1 hJ
  refine (step_no 1 ⟨ha, hn, hc, l, ta, 1, tc, [vT]⟩ L s s1 (akF (sF i1) s1 l).2.2 W k.lg (hd_ok k hp ho hl) k.tg hov hs1 (hJ2.2.2.2.1.trans hJ.2.2.2.1.symm) (fun W' h1 h2 h3 => hE W' h1 h2) (fun W' h1 h2 h3 => ?_)).mono ?_
  · have hA := sF_ok i1 b (.slice ta 1 tc) L (findV (findP l kRsp)) W' l h1.lt hsz (fun W2 => (itoa_1 W2).mono fun e w' ⟨q1, q2⟩ => ⟨q1, by rw [q2]; exact Below.refl _ _⟩) (fun W2 h => hG W2 (grown_tr h3 h))
    have := akeys_any (sF i1) (sJ b (.slice ta 1 tc)) L s1 ha hn hc l W' h1 h2.ps h2.off hl hJ hA
    rw [hF] at this
    refine this.mono ?_
    rintro e w' ⟨va, vn, vc, rfl, h5, h6, _, h7⟩
    exact ⟨va, vn, vc, rfl, h6, h7⟩
  · rintro e w' ⟨rfl, h7, h8⟩
    exact ⟨rfl, k.turn h7 h8 ((hJ2.2.2.2.1.trans hJ.2.2.2.1.symm).trans hs1), h8⟩
/-- A login behind its first step. -/
def s0 (b : Bool) (tg : Value) : Lg := { lgS b tg with begun := true, stage := 1, ini := vI, tgt := vT }
theorem s0_J (b : Bool) (tg : Value) : sJ b tg (s0 b tg) := ⟨rfl, rfl, rfl, rfl, rfl, (by show ((⟨#[]⟩ : ByteArray).toList == [67, 72, 65, 80]) = false; decide +kernel), rfl⟩
theorem s0_I (b : Bool) (tg : Value) : sI (s0 b tg) := ⟨rfl, rfl, rfl, rfl⟩
theorem fd_ini (l : Prs) : findP ((kIni, vI) :: (kTgt, vT) :: l) kIni = some vI := by rw [findP, if_pos rfl]
theorem fd_tgt (l : Prs) : findP ((kIni, vI) :: (kTgt, vT) :: l) kTgt = some vT := by rw [findP, if_neg (by decide +kernel), findP, if_pos rfl]
theorem fd_ses (l : Prs) (h : ∀ p ∈ l, ¬ p.1 = kSes) : findP ((kIni, vI) :: (kTgt, vT) :: l) kSes = none := by
  rw [findP, if_neg (by decide +kernel), findP, if_neg (by decide +kernel)]
  exact findP_none kSes l (fun j q _ hq => h q (List.mem_of_getElem? hq))
theorem ent_first (h : Hd) (l : Prs) (hl : h.ps = (kIni, vI) :: (kTgt, vT) :: l) (hs : ∀ p ∈ l, ¬ p.1 = kSes) (ho : h.os = [vT]) (b : Bool) (tg : Value) : entS h (lgS b tg) = s0 b tg ∧ begO h = true := by
  have e1 : h.ini = vI := by unfold Hd.ini; rw [hl, fd_ini]; rfl
  have e2 : h.ses = ⟨#[]⟩ := by unfold Hd.ses; rw [hl, fd_ses l hs]; rfl
  have e3 : h.fnd = false := by unfold Hd.fnd; rw [hl, fd_ses l hs]; rfl
  have e4 : h.tgt = vT := by unfold Hd.tgt; rw [hl, fd_tgt]; rfl
  constructor
  · unfold entS begS
    rw [e1, e2, e3, e4, if_neg (fun k => k.elim (fun k => absurd k (by decide +kernel)) (fun k => k.elim (fun k => by cases k.1) (fun k => absurd k (by decide +kernel))))]
    rw [decide_eq_false (by decide +kernel)]
    rfl
  · unfold begO
    rw [e1, e2, e3, e4, ho, if_neg (by decide +kernel), if_neg (fun k => by cases k.1), if_neg (by decide +kernel)]
    unfold choO
    rw [(Lib.containsS_iff [vT] vT).2 (by simp)]
    decide +kernel
/-- enter at a first step and at a later one. -/
theorem enter_1 (b : Bool) (L : Nat) (ta : Option Addr) (tc : Nat) (ha : Option Addr) (hn hc : Nat) (l : Prs) (hs : ∀ p ∈ l, ¬ p.1 = kSes) (W' : World) (hX : Bx W' L (lgS b (.slice ta 1 tc)).v) (hh : (⟨ha, hn, hc, (kIni, vI) :: (kTgt, vT) :: l, ta, 1, tc, [vT]⟩ : Hd).ok W' L) :
    Calls Tryd.prog 19 #[.pointer (some ⟨L, 0, none⟩), .agg (rqn ⟨ha, hn, hc, (kIni, vI) :: (kTgt, vT) :: l, ta, 1, tc, [vT]⟩)] W' fun e w' => e = .returned (.tuple #[.int .u8 0, .bool true]) ∧ Bx w' L (s0 b (.slice ta 1 tc)).v ∧ W'.grownBy w' (some L) := by
  obtain ⟨h1, h2⟩ := ent_first ⟨ha, hn, hc, (kIni, vI) :: (kTgt, vT) :: l, ta, 1, tc, [vT]⟩ l rfl hs rfl b (.slice ta 1 tc)
  have := enter_n ⟨ha, hn, hc, (kIni, vI) :: (kTgt, vT) :: l, ta, 1, tc, [vT]⟩ L (lgS b (.slice ta 1 tc)) W' hX hh rfl rfl rfl
  rw [h1, h2] at this
  exact this
end Go.Proofs.YtplifodddfjhdaaDoor
