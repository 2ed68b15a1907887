/-
  login: a first step and a later one, where there are no users.
-/
import Derived.Test.YtplifodddfjhdaaDoorXLoB
import Derived.Test.YtplifodddfjhdaaDoorXGls
namespace Go.Proofs.YtplifodddfjhdaaDoor
open Go.RowKit
set_option linter.unusedVariables false
set_option linter.unusedSimpArgs false

abbrev nilv : Value := .slice none 0 0
/-- What a first step's further keys come to. -/
def rsl (b : Bool) (l : Prs) : Prs × Bool × Lg := akF (sF i1) (s0 b nilv) l
theorem rsl_hello (b : Bool) (tg : Value) (l : Prs) : akF (sF i1) (s0 b tg) ((kIni, vI) :: (kTgt, vT) :: l) = ((rsl b l).1, (rsl b l).2.1, { (rsl b l).2.2 with tg := tg }) := by
  rw [sF_hello]
  exact akF_tg i1 tg l (s0 b nilv)
theorem sz_hello {l : Prs} (h : ∀ p ∈ l, p.2.size ≤ 281474976710656) : ∀ p ∈ (kIni, vI) :: (kTgt, vT) :: l, p.2.size ≤ 281474976710656 := fun p hp => by
  simp only [List.mem_cons] at hp
  rcases hp with rfl | rfl | hp
  · decide
  · decide
  · exact h p hp
theorem fa_ok (b : Bool) (W : World) (L : Nat) (ta : Option Addr) (tc : Nat) (k : Ns W L (lgS b (.slice ta 1 tc)) ta tc) (ha : Option Addr) (hn hc : Nat) (l : Prs) (hp : PsAt W (.slice ha hn hc) ((kIni, vI) :: (kTgt, vT) :: l)) (ho : Off ha L) (hl : hn ≤ 1000000000) (hsz : ∀ p ∈ l, p.2.size ≤ 281474976710656) (hs : ∀ p ∈ l, ¬ p.1 = kSes)
    (hG : ∀ W', W.grownBy W' (some L) → Gl W') (hF : (rsl b l).2.1 = true) :
    Calls Tryd.prog 8 #[.pointer (some ⟨L, 0, none⟩), .agg #[.int .u8 1, .int .u8 0, .bool false, .slice ha hn hc]] W fun e w' => (∃ va vn vc, e = .returned (.tuple #[.agg (ansT 1 (.slice va vn vc)), .int .i64 0]) ∧ PsAt w' (.slice va vn vc) (rsl b l).1 ∧ vc ≤ maxLen ∧ Newer va W.heap.size) ∧ Ns w' L { (rsl b l).2.2 with tg := .slice ta 1 tc } ta tc ∧ W.grownBy w' (some L) := by
  have he := rsl_hello b (.slice ta 1 tc) l
  have := stp_ok b W L (lgS b (.slice ta 1 tc)) (s0 b (.slice ta 1 tc)) ta tc k ha hn hc _ hp ho hl (sz_hello hsz) rfl rfl (s0_J b _) hG (fun W' h1 h2 => enter_1 b L ta tc ha hn hc l hs W' h1 h2) (by rw [he]; exact hF)
  rw [he] at this
  exact this
theorem fa_no (b : Bool) (W : World) (L : Nat) (ta : Option Addr) (tc : Nat) (k : Ns W L (lgS b (.slice ta 1 tc)) ta tc) (ha : Option Addr) (hn hc : Nat) (l : Prs) (hp : PsAt W (.slice ha hn hc) ((kIni, vI) :: (kTgt, vT) :: l)) (ho : Off ha L) (hl : hn ≤ 1000000000) (hsz : ∀ p ∈ l, p.2.size ≤ 281474976710656) (hs : ∀ p ∈ l, ¬ p.1 = kSes)
    (hG : ∀ W', W.grownBy W' (some L) → Gl W') (hF : (rsl b l).2.1 = false) :
    Calls Tryd.prog 8 #[.pointer (some ⟨L, 0, none⟩), .agg #[.int .u8 1, .int .u8 0, .bool false, .slice ha hn hc]] W fun e w' => e = .returned (.tuple #[.agg (ansF 1), .int .i64 0]) ∧ Ns w' L { (rsl b l).2.2 with tg := .slice ta 1 tc, over := true } ta tc ∧ W.grownBy w' (some L) := by
  have he := rsl_hello b (.slice ta 1 tc) l
  have := stp_no b W L (lgS b (.slice ta 1 tc)) (s0 b (.slice ta 1 tc)) ta tc k ha hn hc _ hp ho hl (sz_hello hsz) rfl rfl (s0_J b _) hG (fun W' h1 h2 => enter_1 b L ta tc ha hn hc l hs W' h1 h2) (by rw [he]; exact hF)
  rw [he] at this
  exact this
theorem one_key (sk : Lg) (tg : Value) (p : ByteArray × ByteArray) : akF (sF i1) { sk with tg := tg } [p] = (if (sF i1 sk p).2.1 = true then ((sF i1 sk p).1, true, { (sF i1 sk p).2.2 with tg := tg }) else ([], false, { (sF i1 sk p).2.2 with tg := tg })) := by
  rw [akF_tg]
  by_cases h : (sF i1 sk p).2.1 = true
  · rw [akF, if_pos h, if_pos h]; simp [akF]
  · rw [akF, if_neg h, if_neg h]
theorem J_tg {b : Bool} {tg tg' : Value} {t : Lg} (h : sJ b tg t) : sJ b tg' { t with tg := tg' } := ⟨h.1, h.2.1, h.2.2.1, rfl, h.2.2.2.2.1, h.2.2.2.2.2.1, h.2.2.2.2.2.2⟩
theorem fb_ok (b : Bool) (W : World) (L : Nat) (ta : Option Addr) (tc : Nat) (sk : Lg) (hI : sI sk) (hJ : sJ b nilv sk) (k : Ns W L { sk with tg := .slice ta 1 tc } ta tc) (ha : Option Addr) (hc : Nat) (p : ByteArray × ByteArray) (hp : PsAt W (.slice ha 1 hc) [p]) (ho : Off ha L) (hsz : p.2.size ≤ 281474976710656)
    (hG : ∀ W', W.grownBy W' (some L) → Gl W') (hF : (sF i1 sk p).2.1 = true) :
    Calls Tryd.prog 8 #[.pointer (some ⟨L, 0, none⟩), .agg #[.int .u8 1, .int .u8 0, .bool false, .slice ha 1 hc]] W fun e w' => (∃ va vn vc, e = .returned (.tuple #[.agg (ansT 1 (.slice va vn vc)), .int .i64 0]) ∧ PsAt w' (.slice va vn vc) (sF i1 sk p).1 ∧ vc ≤ maxLen ∧ Newer va W.heap.size) ∧ Ns w' L { (sF i1 sk p).2.2 with tg := .slice ta 1 tc } ta tc ∧ W.grownBy w' (some L) := by
  have he := one_key sk (.slice ta 1 tc) p
  rw [if_pos hF] at he
  have hI' : sI { sk with tg := .slice ta 1 tc } := hI
  have := stp_ok b W L { sk with tg := .slice ta 1 tc } { sk with tg := .slice ta 1 tc } ta tc k ha 1 hc [p] hp ho (by omega) (fun q hq => by simp at hq; rw [hq]; exact hsz) hI.2.2.1 rfl (J_tg hJ) hG (fun W' h1 h2 => enter_l _ L _ W' h1 hI') (by rw [he])
  rw [he] at this
  exact this
theorem fb_no (b : Bool) (W : World) (L : Nat) (ta : Option Addr) (tc : Nat) (sk : Lg) (hI : sI sk) (hJ : sJ b nilv sk) (k : Ns W L { sk with tg := .slice ta 1 tc } ta tc) (ha : Option Addr) (hc : Nat) (p : ByteArray × ByteArray) (hp : PsAt W (.slice ha 1 hc) [p]) (ho : Off ha L) (hsz : p.2.size ≤ 281474976710656)
    (hG : ∀ W', W.grownBy W' (some L) → Gl W') (hF : (sF i1 sk p).2.1 = false) :
    Calls Tryd.prog 8 #[.pointer (some ⟨L, 0, none⟩), .agg #[.int .u8 1, .int .u8 0, .bool false, .slice ha 1 hc]] W fun e w' => e = .returned (.tuple #[.agg (ansF 1), .int .i64 0]) ∧ W.grownBy w' (some L) := by
  have he := one_key sk (.slice ta 1 tc) p
  rw [if_neg (by rw [hF]; decide)] at he
  have hI' : sI { sk with tg := .slice ta 1 tc } := hI
  refine (stp_no b W L { sk with tg := .slice ta 1 tc } { sk with tg := .slice ta 1 tc } ta tc k ha 1 hc [p] hp ho (by omega) (fun q hq => by simp at hq; rw [hq]; exact hsz) hI.2.2.1 rfl (J_tg hJ) hG (fun W' h1 h2 => enter_l _ L _ W' h1 hI') (by rw [he])).mono ?_
  rintro e w' ⟨h1, _, h2⟩
  exact ⟨h1, h2⟩
theorem st_lt {W : World} {a : Option Addr} {c : Nat} (h : StAt W (.slice a 1 c) [vT]) : ∀ x, a = some x → x.block < W.heap.size := fun x e => by
  obtain ⟨a', c', e2, _, h3⟩ := h
  simp only [Value.slice.injEq] at e2
  rcases h3 with h3 | ⟨b, off, e3, h4, _⟩
  · simp at h3
  · rw [← e2.1, e] at e3
    cases e3
    exact h4
/-- New of one target. -/
theorem new_ns (b : Bool) (W : World) (a : Option Addr) (c : Nat) (h : StAt W (.slice a 1 c) [vT]) :
    Calls Tryd.prog 7 #[.agg #[.slice a 1 c, .slice none 0 0, .bool b], .int .u8 1, .slice none 0 0] W fun e w' => (∃ L ta tc, e = .returned (.pointer (some ⟨L, 0, none⟩)) ∧ W.heap.size ≤ L ∧ Ns w' L (lgS b (.slice ta 1 tc)) ta tc ∧ Newer ta W.heap.size) ∧ Below W.heap.size W w' := by
  refine (new_s b a 1 c [vT] W h (by omega)).mono ?_
  rintro e w' ⟨⟨L, ta, tc, rfl, h1, h2, h3, h4, h5⟩, hb⟩
  exact ⟨⟨L, ta, tc, rfl, h1, ⟨h2, h3, h4, st_lt h3, rfl⟩, h5⟩, hb⟩
/-- A key alone. -/
theorem ps_one {W : World} {a : Option Addr} {n c : Nat} {ps : Prs} (h : PsAt W (.slice a n c) ps) (k : Nat) (hk : k < n) (p : ByteArray × ByteArray) (hp : ps[k]? = some p) : ∃ b off, a = some ⟨b, off, none⟩ ∧ b < W.heap.size ∧ n ≤ c ∧ PsAt W (.slice (some ⟨b, off + k * 2, none⟩) 1 (c - k)) [p] := by
  obtain ⟨a', c', hv, h1, h2, h3⟩ := h
  simp only [Value.slice.injEq] at hv
  obtain ⟨rfl, rfl, rfl⟩ := hv
  rcases h3 with h3 | ⟨b, off, rfl, hlt, hc⟩
  · omega
  · refine ⟨b, off, rfl, hlt, h2, ⟨_, c - k, rfl, (fun h => by cases h), by simp; omega, .inr ⟨b, off + k * 2, rfl, hlt, fun j q hq i u hu => ?_⟩⟩⟩
    rcases j with _ | j
    · simp at hq
      subst hq
      rw [Nat.zero_mul, Nat.add_zero]
      exact hc k p hp i u hu
    · simp at hq
end Go.Proofs.YtplifodddfjhdaaDoor
