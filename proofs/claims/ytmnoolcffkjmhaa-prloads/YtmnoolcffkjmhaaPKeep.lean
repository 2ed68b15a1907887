/-
  PrKeeps.
-/
import Derived.Test.YtmnoolcffkjmhaaPPlay
import Derived.Test.YtmnoolcffkjmhaaPSave
import Derived.Test.YtmnoolcffkjmhaaBSame
namespace Go.Proofs.Ytmnoolcffkjmhaa
open Go.ChangeShapes Go.WideShapes Go.ChangeAt Go.RowKit Go.Joins Go.Deep
set_option linter.unusedVariables false
set_option linter.unusedSimpArgs false

theorem array7 {α : Type} {cs : Array α} (h : cs.size = 7) : ∃ c0 c1 c2 c3 c4 c5 c6, cs = #[c0, c1, c2, c3, c4, c5, c6] := by
  obtain ⟨l⟩ := cs
  match l, h with
  | [c0, c1, c2, c3, c4, c5, c6], _ => exact ⟨c0, c1, c2, c3, c4, c5, c6, rfl⟩
set_option maxRecDepth 100000 in
theorem open_act {H : Type} {enc : TypeId × Value → H} {W : World} {base b0 : Nat} {spare : Nat → Bool} {held : Bool} {r : Reach} {v : Value} {d : DataW H} {p : List MemPlace}
    (hv : Value.okWide Try.prog W r b0 35 v) (h : DataW.Trod enc Try.prog W base spare held 35 v d p) : ∃ N o A, v = .agg (actV N o A).toArray ∧ o.wf := by
  obtain ⟨cs, rfl, hsz⟩ := okWide_struct Try.underlying35 hv
  obtain ⟨c0, c1, c2, c3, c4, c5, c6, rfl⟩ := array7 (hsz.trans (by kernel_rfl))
  obtain ⟨fuel, hf⟩ := h
  simp only [Value.cells] at hf
  obtain ⟨N, o, A, e, ho, _⟩ := act_of hf
  refine ⟨N, o, A, ?_, ho⟩
  rw [← e]

theorem Acts.later {w w1 : World} {a : Option Addr} {len : Nat} (h : Acts w a len) (hb : Below w.heap.size w w1) : Acts w1 a len :=
  ⟨h.1, fun W hW j hj => by
    obtain ⟨b, off, h1, h2, h3⟩ := h.2 W (hb.trans (hW.mono hb.size)) j hj
    exact ⟨b, off, h1, Nat.lt_of_lt_of_le h2 hb.size, h3⟩⟩
/-- What is saved: nothing, where the table does not last. -/
def Tb.saved (t : Tb) : List Int := if t.la = true then t.save else []
theorem save_none (B : Nat) (t : Tb) (w : World) (h : Tab w B t) (hla : t.la = false) :
    Calls Try.prog 12 #[.pointer (some ⟨B, 0, none⟩)] w fun e w' => e = .returned (.slice none 0 0) ∧ w' = w := by
  have HLa := Kpt.mk (lasts_any B t w h)
  rw [hla] at HLa
  clear h hla
  go_enter Try.func12, Try.ntmps12
  go_wp2_with (go_at_call 29; go_must (refine HLa.out.mono ?_; rintro e w ⟨rfl, rfl⟩))
  go_ret
  exact ⟨rfl, rfl⟩
theorem save_any (B : Nat) (t : Tb) (w : World) (h : Tab w B t) (hg : t.good) :
    Calls Try.prog 12 #[.pointer (some ⟨B, 0, none⟩)] w fun e w' => ∃ a len c, e = .returned (.slice a len c) ∧ t.saved.length = len ∧ Go.Proofs.Ytmnoolcffkjmhaa.B.RowAt w' a len t.saved ∧ Below w.heap.size w w' ∧ len ≤ 1000 ∧ (len ≤ c ∧ c ≤ maxLen) ∧ (t.la = true → ∃ g, a = some ⟨g, 0, none⟩ ∧ w.heap.size ≤ g) := by
  cases hla : t.la with
  | false =>
    have : t.saved = [] := by unfold Tb.saved; rw [hla]; rfl
    rw [this]
    exact (save_none B t w h hla).mono fun e w' ⟨h1, h2⟩ => ⟨none, 0, 0, h1, rfl, .inl rfl, by rw [h2]; exact Below.refl _ _, by omega, by unfold maxLen; omega, fun h => by cases h⟩
  | true =>
    have : t.saved = t.save := by unfold Tb.saved; rw [hla]; rfl
    rw [this]
    refine (save_last B t w h hg hla).mono fun e w' ⟨v, h1, h2, h3⟩ => ?_
    have hlen : t.save.length ≤ 1000 := by
      unfold Tb.save
      rw [List.length_append, bodyB_len]
      have := regs_len t
      simp [headB]; omega
    have hpos : 0 < t.save.length := by unfold Tb.save headB; simp
    rcases id h2.2 with ⟨rfl, h0⟩ | ⟨g, cap, cur, rfl, hb, hgg, hc1, hc2, rest⟩
    · omega
    · exact ⟨some ⟨g, 0, none⟩, t.save.length, cap, h1, rfl, Go.Proofs.Ytmnoolcffkjmhaa.B.rowAt_own h2, h3, hlen, ⟨hc1, hc2⟩, fun _ => ⟨g, rfl, hb⟩⟩
end Go.Proofs.Ytmnoolcffkjmhaa

namespace Go.Proofs.Ytmnoolcffkjmhaa.prKeeps
open Go.Proofs.Ytmnoolcffkjmhaa
open Go.RowKit
set_option linter.unusedVariables false
set_option linter.unusedSimpArgs false

/-- A service is done, or refused. -/
theorem done_or (t : Tb) (n : Int) (o : Ou) : t.doR n o = (0, 0) ∨ ((t.doR n o = (2, 9216) ∨ t.doR n o = (24, 0) ∨ t.doR n o = (2, 9728)) ∧ t.doT n o = t ∧ t.doE n o = []) := by
  unfold Tb.doR Tb.doT Tb.doE
  split
  · exact .inr ⟨.inl rfl, rfl, rfl⟩
  split
  · exact .inr ⟨.inr (.inl rfl), rfl, rfl⟩
  split
  · unfold Tb.reserveR Tb.reserve
    cases hty : isTy o.ty with
    | false => exact .inr ⟨.inl rfl, by simp, rfl⟩
    | true =>
      by_cases h0 : t.kd = 0
      · exact .inl (by simp [h0])
      · by_cases hh : t.holds n = true ∧ t.kd = o.ty
        · exact .inl (by simp [h0, hh])
        · exact .inr ⟨.inr (.inl (by simp [h0, hh])), by simp [h0], rfl⟩
  split
  · unfold Tb.releaseR Tb.release Tb.releaseE
    by_cases hh : t.holds n = true ∧ t.kd ≠ o.ty
    · exact .inr ⟨.inl (by simp [hh]), by simp [hh], by simp [hh]⟩
    · exact .inl (by rw [if_neg hh])
  split
  · exact .inl rfl
  split
  · by_cases h0 : (t.preemptR o).1 = 0
    · refine .inl ?_
      unfold Tb.preemptR at h0 ⊢
      split at h0
      · simp at h0
      split at h0
      · simp at h0
      split at h0
      · simp at h0
      · rename_i h1 h2 h3
        rw [if_neg h1, if_neg h2, if_neg h3]
    · refine .inr ⟨?_, by unfold Tb.preempt; rw [if_pos h0], by unfold Tb.preemptE; rw [if_pos h0]⟩
      unfold Tb.preemptR at h0 ⊢
      split
      · exact .inr (.inr rfl)
      split
      · exact .inl rfl
      split
      · exact .inr (.inl rfl)
      · rename_i h1 h2 h3
        rw [if_neg h1, if_neg h2, if_neg h3] at h0
        simp at h0
  · exact .inl rfl

set_option maxRecDepth 100000 in
set_option maxHeartbeats 8000000 in
theorem keep_walk (a0 : Option Addr) (l0 c0 : Nat) (N : Int) (o : Ou) (A : Bool) (w : World) (hA : Acts w a0 l0) (ho : o.wf) :
    Calls Try.prog 5 #[.slice a0 l0 c0, .agg (actV N o A).toArray] w fun e w' => e = .returned (.bool true) ∧ Below w.heap.size w w' := by
  replace hA := Kpt.mk hA
  have hac := Kpt.mk ho.ac
  have hdo := Kpt.mk (fun t : Tb => done_or t N o)
  have hSD : Kpt (∀ W0 W B t, Ss W0 W B t → Calls Try.prog 15 #[.pointer (some ⟨B, 0, none⟩), .int .i64 N, .agg o.vals] W fun e w' => ∃ v, e = .returned (.tuple #[.int .u8 (t.doR N o).1, .int .u16 (t.doR N o).2, v]) ∧ Own .u16 55 W.heap.size w' v (t.doE N o) ∧ Ss W0 w' B (t.doT N o) ∧ W.grownBy w' (some B)) := ⟨fun W0 W B t hW => ss_do hW N o hac.out⟩
  generalize hdr : (fun t : Tb => t.doR N o) = DR at *
  generalize hdt : (fun t : Tb => t.doT N o) = DT at *
  generalize hde : (fun t : Tb => t.doE N o) = DE at *
  have hdr' : ∀ t : Tb, t.doR N o = DR t := fun t => congrFun hdr t
  have hdt' : ∀ t : Tb, t.doT N o = DT t := fun t => congrFun hdt t
  have hde' : ∀ t : Tb, t.doE N o = DE t := fun t => congrFun hde t
  simp only [hdr', hdt', hde'] at hdo hSD
  obtain ⟨sv, ty, ky, ac, ap⟩ := o
  simp only [Ou.vals] at hSD
  clear hdr hdt hde hdr' hdt' hde' ho hac
  obtain ⟨wA, hwA⟩ : ∃ wA, wA = w.alloc (.cells #[.int .i64 N, .int .u8 sv, .int .u8 ty, .int .u64 ky, .int .u64 ac, .bool ap, .bool A] 35) := ⟨_, rfl⟩
  have hbA : Kpt (Below w.heap.size w wA) := ⟨by rw [hwA]; exact (Below.refl _ _).alloc (Nat.le_refl _) _⟩
  have hrA : Kpt (wA.rangeAt w.heap.size 0 (actV N ⟨sv, ty, ky, ac, ap⟩ A)) := ⟨fun j v hv => by
    rw [hwA]
    have : (w.alloc (.cells #[.int .i64 N, .int .u8 sv, .int .u8 ty, .int .u64 ky, .int .u64 ac, .bool ap, .bool A] 35)).cell? ⟨w.heap.size, 0 + j, none⟩ = (actV N ⟨sv, ty, ky, ac, ap⟩ A).toArray[0 + j]? := by simp
    rw [this, ← hv, Nat.zero_add]
    simp⟩
  have hsA : wA.heap.size = w.heap.size + 1 := by rw [hwA]; simp
  replace hwA := Kpt.mk hwA
  replace hsA := Kpt.mk hsA
  go_enter Try.func5, Try.ntmps5
  go_wp2_with fail
  rw [← hwA.out]
  refine (awake_any _).mono ?_
  rintro e w1 ⟨rfl, hb1⟩
  have hB1 : Kpt (Below w.heap.size w w1) := ⟨hbA.out.trans (hb1.mono hbA.out.size)⟩
  have hR1 : Kpt (∀ W, Below w1.heap.size w1 W → W.rangeAt w.heap.size 0 (actV N ⟨sv, ty, ky, ac, ap⟩ A)) := ⟨fun W hW => rangeAt_of_block hrA.out ((hW.block w.heap.size (Nat.lt_of_lt_of_le (by rw [hsA.out]; omega) hb1.size)).trans (hb1.block w.heap.size (by rw [hsA.out]; omega)))⟩
  have hlt1 : w.heap.size < w1.heap.size := Nat.lt_of_lt_of_le (by rw [hsA.out]; omega) hb1.size
  clear hb1
  go_wp2_with fail
  refine (play_any a0 l0 c0 w1 w1 (hA.out.later hB1.out) (Below.refl _ _)).mono ?_
  rintro e w2 ⟨B, t, rfl, hS⟩
  replace hS := Kpt.mk hS
  clear hA hrA hbA hwA hsA
  have hBlt := hS.out.tab.lt
  go_wp2_with fail
  refine (regs_any B t w2 hS.out.tab).mono ?_
  rintro e w3 ⟨v3, rfl, hO3, hb3⟩
  have hS3 := Kpt.mk (hS.out.below hb3)
  obtain ⟨a3, c3, hv3, hs3⟩ := hO3.shape
  subst hv3
  replace hs3 := Kpt.mk hs3
  clear hS hb3 hO3
  have hl8 := regs_len t
  obtain ⟨m, hm⟩ : ∃ m, m = t.regs.length := ⟨_, rfl⟩
  rw [← hm] at hs3 hl8 ⊢
  replace hm := Kpt.mk hm
  go_wp2_with fail
  refine (reserved_any B t w3 hS3.out.tab).mono ?_
  rintro e w4 ⟨rfl, q, hq⟩
  have hS4 : Kpt (Ss w1 w4 B t) := ⟨by rw [hq]; exact hS3.out.drewN q⟩
  have hb4 : Kpt (Below w3.heap.size w3 w4) := ⟨by rw [hq]; exact below_drewN (Below.refl _ _) q⟩
  clear hS3 hq
  dsimp only
  go_wp2_with fail
  refine (gen_any B t w4 hS4.out.tab).mono ?_
  rintro e w4 ⟨rfl, rfl⟩
  go_wp2_with fail
  refine (save_any B t w4 hS4.out.tab hS4.out.good).mono ?_
  rintro e w5 ⟨a5, n5, c5, rfl, hn5, hR5, hb5, hn5b, _, _⟩
  have hS5 := Kpt.mk (hS4.out.below hb5)
  have hb35 : Kpt (Below w3.heap.size w3 w5) := ⟨hb4.out.trans (hb5.mono hb4.out.size)⟩
  have hcv : (convert 39 9 (.slice a5 n5 c5)).run Try.prog w5 = .ok (.string (strOfNums t.saved)) w5 := Go.Proofs.Ytmnoolcffkjmhaa.B.conv_any w5 a5 n5 c5 t.saved hn5 hR5
  obtain ⟨k0, k1, k2, k3, k4, k5, k6⟩ := range7 (hR1.out w5 hS5.out.bel)
  simp only [Nat.zero_add] at k0 k1 k2 k3 k4 k5 k6
  have hlt5 : w.heap.size < w5.heap.size := Nat.lt_of_lt_of_le hlt1 hS5.out.bel.size
  clear hS4 hb4 hb5 hR5
  go_wp2_with fail
  refine (hSD.out w1 w5 B t hS5.out).mono ?_
  rintro e w6 ⟨v6, rfl, hO6, hS6, hg6⟩
  clear k0 k1 k2 k3 k4 k5 k6 hcv
  have hR6 : Kpt (∀ W, Below w6.heap.size w6 W → ((a3 = none ∧ c3 = 0 ∧ m = 0) ∨ ∃ g, a3 = some ⟨g, 0, none⟩ ∧ g < W.heap.size ∧ m ≤ c3 ∧ c3 ≤ maxLen ∧ ∀ j r, t.regs[j]? = some r → W.rangeAt g (j * 2) (pv .u64 r).toList)) := ⟨fun W hW => by
    rcases hs3.out with h | ⟨g, h1, hg0, h2, h3, h4, h5⟩
    · exact .inl h
    · have hgB : g ≠ B := by intro e; omega
      refine .inr ⟨g, h1, ?_, h3, h4, fun j r hj => rangeAt_of_block (h5 j r hj) ?_⟩
      · exact Nat.lt_of_lt_of_le (Nat.lt_of_lt_of_le h2 hb35.out.size) (Nat.le_trans hg6.size hW.size)
      · have hg5 : g < w5.heap.size := Nat.lt_of_lt_of_le h2 hb35.out.size
        exact (hW.block g (Nat.lt_of_lt_of_le hg5 hg6.size)).trans ((hg6.block g hg5 (fun e => hgB (by simpa using e))).trans (hb35.out.block g h2))⟩
  rcases hdo.out t with e0 | ⟨ec, eT, eE⟩
  · rw [e0]
    replace hS6 := Kpt.mk hS6
    clear hdo hSD hR6 hs3 hO6 hg6
    generalize DT t = T6 at *
    dsimp only
    go_wp2
    go_ret
    exact ⟨rfl, hB1.out.trans (hS6.out.bel.mono hB1.out.size)⟩
  · rw [eE] at hO6
    rw [eT] at hS6
    obtain ⟨a6, c6, hv6⟩ := own_len hO6
    subst hv6
    replace hS6 := Kpt.mk hS6
    clear hdo hSD hs3 hO6 hg6 eT eE hS5 hb35
    generalize DR t = R6 at *
    have hc2 : Kpt (R6.1 ≠ 0 ∧ (R6.1 == 2) = (R6.2 != 0)) := ⟨by rcases ec with rfl | rfl | rfl <;> decide⟩
    obtain ⟨s1, s2⟩ := R6
    obtain ⟨hs0, hs1⟩ := hc2.out
    simp only at hs0 hs1
    have hsb : ((s1 : Int) == 0) = false := by simp [hs0]
    clear hc2 ec
    dsimp only [List.length_nil]
    go_wp2_with fail
    refine (regs_any B t w6 hS6.out.tab).mono ?_
    rintro e w7 ⟨v7, rfl, hO7, hb7⟩
    have hS7 := Kpt.mk (hS6.out.below hb7)
    obtain ⟨a7, c7, hv7, hs7⟩ := hO7.shape
    subst hv7
    rw [← hm.out] at hs7 ⊢
    have hs7 := Kpt.mk hs7
    have hb67 := Kpt.mk hb7
    clear hO7 hb7
    go_wp2_with fail
    refine (reserved_any B t w7 hS7.out.tab).mono ?_
    rintro e w8 ⟨rfl, q8, hq8⟩
    have hS8 : Kpt (Ss w1 w8 B t) := ⟨by rw [hq8]; exact hS7.out.drewN q8⟩
    have hb8 : Kpt (Below w7.heap.size w7 w8) := ⟨by rw [hq8]; exact below_drewN (Below.refl _ _) q8⟩
    clear hq8 hS7
    dsimp only
    go_wp2_with fail
    refine (gen_any B t w8 hS8.out.tab).mono ?_
    rintro e w8 ⟨rfl, rfl⟩
    go_wp2_with fail
    refine (save_any B t w8 hS8.out.tab hS8.out.good).mono ?_
    rintro e w9 ⟨a9, n9, c9, rfl, hn9, hR9, hb9, _, _, _⟩
    have hS9 := Kpt.mk (hS8.out.below hb9)
    have hcv : (convert 39 9 (.slice a9 n9 c9)).run Try.prog w9 = .ok (.string (strOfNums t.saved)) w9 := Go.Proofs.Ytmnoolcffkjmhaa.B.conv_any w9 a9 n9 c9 t.saved hn9 hR9
    have hb79 : Kpt (Below w7.heap.size w7 w9) := ⟨hb8.out.trans (hb9.mono hb8.out.size)⟩
    have hb69 : Kpt (Below w6.heap.size w6 w9) := ⟨hb67.out.trans (hb79.out.mono hb67.out.size)⟩
    clear hS8 hb8 hb9 hR9
    generalize strOfNums t.saved = STR at *
    go_wp2_with fail
    have hU := Kpt.mk (hR6.out w9 hb69.out)
    have hV : Kpt ((a7 = none ∧ c7 = 0 ∧ m = 0) ∨ ∃ g, a7 = some ⟨g, 0, none⟩ ∧ g < w9.heap.size ∧ m ≤ c7 ∧ c7 ≤ maxLen ∧ ∀ j r, t.regs[j]? = some r → w9.rangeAt g (j * 2) (pv .u64 r).toList) := ⟨by
      rcases hs7.out with h | ⟨g, h1, _, h2, h3, h4, h5⟩
      · exact .inl h
      · exact .inr ⟨g, h1, Nat.lt_of_lt_of_le h2 hb79.out.size, h3, h4, fun j r hj => rangeAt_of_block (h5 j r hj) (hb79.out.block g h2)⟩⟩
    have hbel : Kpt (Below w.heap.size w w9) := ⟨hB1.out.trans (hS9.out.bel.mono hB1.out.size)⟩
    clear hs7 hR6 hS9 hb79 hb69 hS6 hR1 hB1 hb67 hBlt
    go_loopw [17] (fun r wq => ∃ i : Nat, i ≤ m ∧ r = .int .i64 i ∧ Kpt (∃ q, wq = w9.drewN q)) (fun r _ => m - (intOf r).toNat)
    case atStart => exact ⟨0, by omega, rfl, ⟨0, rfl⟩⟩
    case round =>
      obtain ⟨i, hi, rfl, hq⟩ := hrel
      by_cases hlt : i < m
      · have e6 : (i : Int) < m := by omega
        have hiz : i < t.regs.length := by rw [← hm.out]; exact hlt
        obtain ⟨r, hr⟩ : ∃ r, t.regs[i]? = some r := ⟨_, List.getElem?_eq_getElem hiz⟩
        obtain ⟨q, hq'⟩ := hq.out
        rcases hU.out with ⟨_, _, hz⟩ | ⟨g, rfl, hg, hc1, hc1', hr1⟩
        · omega
        rcases hV.out with ⟨_, _, hz⟩ | ⟨g2, rfl, hg2, hc2, hc2', hr2⟩
        · omega
        obtain ⟨x1, x2⟩ := r
        obtain ⟨p0, p1⟩ := range2 (κ := .u64) (t := (x1, x2)) (fun j v hv => (by rw [hq']; exact hr1 i _ hr j v hv : wr.cell? ⟨g, i * 2 + j, none⟩ = some v))
        obtain ⟨z0, z1⟩ := range2 (κ := .u64) (t := (x1, x2)) (fun j v hv => (by rw [hq']; exact hr2 i _ hr j v hv : wr.cell? ⟨g2, i * 2 + j, none⟩ = some v))
        have hgl : g < wr.heap.size := by rw [hq']; exact hg
        have hgl2 : g2 < wr.heap.size := by rw [hq']; exact hg2
        simp only at p0 p1 z0 z1
        clear hr1 hr2 hr hq' hU hV hg hg2
        go_wp2_with fail
        go_quiet (fail)
        go_wp2
        go_roundw
        case rel => exact ⟨i + 1, by omega, by go_num, ⟨by obtain ⟨q, hq⟩ := hq.out; exact ⟨_, by rw [hq, World.drewN_drewN]⟩⟩⟩
        case measure => simp [intOf]; omega
      · have e6 : ¬ (i : Int) < m := by omega
        clear hU hV
        go_wp2
        go_ret
        exact ⟨rfl, by obtain ⟨q, hq⟩ := hq.out; rw [hq]; exact below_drewN hbel.out _⟩
end Go.Proofs.Ytmnoolcffkjmhaa.prKeeps
