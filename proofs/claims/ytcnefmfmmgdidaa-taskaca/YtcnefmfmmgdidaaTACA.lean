/-
  TaskACA.
-/
import Derived.Test.YtcnefmfmmgdidaaTNil
import Derived.Test.YtcnefmfmmgdidaaTAbP
namespace Go.Proofs.Ytcnefmfmmgdidaa.taskACA
open Go.Proofs.Ytcnefmfmmgdidaa
open Go.RowKit
set_option linter.unusedVariables false
set_option linter.unusedSimpArgs false

/-- The tasks that came: none is for an allegiance, the tags are small. -/
def Small (ts : List Tk) (k : Nat) : Prop := ts.length ≤ k ∧ ∀ t ∈ ts, ¬ t.ar = 3 ∧ t.tg < 10
theorem small_ent {ts : List Tk} {k : Nat} {t : Tk} (h : Small ts k) (h3 : ¬ t.ar = 3) (hg : t.tg < 10) : Small (entL ts (-1) t) (k + 1) := by
  unfold entL
  split
  · refine ⟨by rw [List.length_append]; have := h.1; simp; omega, fun u hu => ?_⟩
    rw [List.mem_append] at hu
    rcases hu with hu | hu
    · exact h.2 u hu
    · simp at hu; subst hu; exact ⟨h3, hg⟩
  · exact ⟨Nat.le_succ_of_le h.1, h.2⟩

theorem may_held (ts : List Tk) (n : Int) (k : Nat) (t : Tk) (hn : ¬ n = -1) : mayT ts n k t = (!t.st && decide (t.ar = 3)) := by
  unfold mayT
  cases t.st <;> simp [hn]
theorem rdy_none (ts us : List Tk) (n : Int) (hn : ¬ n = -1) : ∀ k, (∀ j t, j < k → us[j]? = some t → ¬ t.ar = 3) → rdyL us n k = []
  | 0, _ => rfl
  | k + 1, h => by
    unfold rdyL
    rw [rdy_none ts us n hn k (fun j t hj => h j t (by omega)), List.nil_append]
    cases e : us[k]? with
    | none => rfl
    | some t => simp only; rw [may_held us n k t hn]; simp [h k t (by omega) e]
theorem rdy_last (ts : List Tk) (n : Int) (hn : ¬ n = -1) (h : ∀ t ∈ ts, ¬ t.ar = 3) (u : Tk) (hu : u.ar = 3) (hs : u.st = false) : rdyL (ts ++ [u]) n (ts ++ [u]).length = [u] := by
  rw [List.length_append]
  show rdyL (ts ++ [u]) n (ts.length + 1) = [u]
  unfold rdyL
  rw [rdy_none ts (ts ++ [u]) n hn ts.length (fun j t hj e => by rw [List.getElem?_append_left hj] at e; exact h t (List.mem_of_getElem? e)), List.nil_append]
  rw [List.getElem?_append_right (Nat.le_refl _)]
  simp only [Nat.sub_self, List.getElem?_cons_zero]
  rw [may_held _ n _ u hn]
  simp [hu, hs]

theorem ent_off (ts : List Tk) (n nx g ar : Int) (h : Small ts 10) (hn : 0 ≤ nx ∧ nx < 8) (ha : ar = 0 ∨ ar = 3 ∧ nx ≠ n) (hg : 10 ≤ g) (h1 : ¬ n = -1) : entR ts n ⟨nx, g, ar, false⟩ = (48, 0) ∧ entL ts n ⟨nx, g, ar, false⟩ = ts := by
  have e : entR ts n ⟨nx, g, ar, false⟩ = (48, 0) := by
    unfold entR
    rw [if_neg (by simp only; rcases ha with h | h <;> omega), if_neg, if_pos]
    · unfold kOff; rw [if_neg h1]; simp only; rcases ha with h | h
      · simp [h]
      · simp [h.1, h.2]
    · rw [taskAborts.fidx_none _ ts 0 (fun t ht => by have := (h.2 t ht).2; simp [isT]; intro _; omega)]; decide
  exact ⟨e, by unfold entL; rw [e, if_neg (by decide)]⟩
theorem ent_on (ts : List Tk) (n : Int) (h : Small ts 10) (hn : 0 ≤ n ∧ n < 8) : entR ts n ⟨n, 102, 3, false⟩ = (0, 0) ∧ entL ts n ⟨n, 102, 3, false⟩ = ts ++ [⟨n, 102, 3, false⟩] := by
  have e : entR ts n ⟨n, 102, 3, false⟩ = (0, 0) := by
    unfold entR
    rw [if_neg (by simp only; omega), if_neg, if_neg, if_neg (by have := h.1; omega)]
    · unfold kOff; rw [if_neg (by omega)]; simp
    · rw [taskAborts.fidx_none _ ts 0 (fun t ht => by have := (h.2 t ht).2; simp [isT]; intro _; omega)]; decide
  exact ⟨e, by unfold entL; rw [e, if_pos rfl]⟩
theorem rel_gone (ts : List Tk) (u : Tk) (h : ∀ t ∈ ts, ¬ t.ar = 3) (hu : u.ar = 3) : (ts ++ [u]).filter (fun t => decide (t.ar = 3)) = [u] ∧ (ts ++ [u]).filter (fun t => !decide (t.ar = 3)) = ts := by
  constructor
  · rw [List.filter_append, List.filter_eq_nil_iff.2 (fun t ht => by simp [h t ht])]; simp [hu]
  · rw [List.filter_append, List.filter_eq_self.2 (fun t ht => by simp [h t ht])]; simp [hu]

section
variable {w0 W : World} {B : Nat} {ts : List Tk} {st : Int} {x : Value} {us : List Tk}
theorem ss_ready2 (h : Ss w0 W B ts st x us) : Calls Try.prog 15 #[.pointer (some ⟨B, 0, none⟩)] W fun e w' => ∃ y, e = .returned y ∧ Ss w0 w' B ts st y (rdyL ts st ts.length) ∧ Own W.heap.size w' y (rdyL ts st ts.length) := by
  obtain ⟨v, h1, h2, h3⟩ := h
  refine (ready_any _ B ts st v W h1).mono ?_
  rintro e w' ⟨y, he, ho, hb⟩
  exact ⟨y, he, ⟨v, h1.below hb, h2.trans (hb.mono h2.size), taskAborts.rowB_new (b1 := 0) h1 ho⟩, ho⟩
theorem ss_est (n : Int) (h : Ss w0 W B ts (-1) x us) (hn : 0 ≤ n ∧ n < 8) : Calls Try.prog 21 #[.pointer (some ⟨B, 0, none⟩), .int .i64 n] W fun e w' => e = .returned (.int .i64 0) ∧ Ss w0 w' B ts n x us := by
  obtain ⟨v, h1, h2, h3⟩ := h
  refine (establish_ok _ B ts v n W h1 hn).mono ?_
  rintro e w' ⟨he, g1, g2, g3⟩
  exact ⟨he, v, g1, h2.trans g3, h3.keep g2⟩
theorem ss_est2 (n : Int) (h : Ss w0 W B ts st x us) (hn : 0 ≤ n ∧ n < 8) (hs : ¬ st = -1) : Calls Try.prog 21 #[.pointer (some ⟨B, 0, none⟩), .int .i64 n] W fun e w' => e = .returned (.int .i64 12) ∧ w' = W := by
  obtain ⟨v, h1, h2, h3⟩ := h
  exact establish_twice _ B ts st v n W h1 hn hs
theorem ss_stands (h : Ss w0 W B ts st x us) : Calls Try.prog 17 #[.pointer (some ⟨B, 0, none⟩)] W fun e w' => e = .returned (.int .i64 st) ∧ w' = W := by
  obtain ⟨v, h1, h2, h3⟩ := h
  exact stands_any _ B ts st v W h1
theorem ss_relieve (h : Ss w0 W B ts st x us) : Calls Try.prog 22 #[.pointer (some ⟨B, 0, none⟩)] W fun e w' => ∃ y, e = .returned y ∧ Own W.heap.size w' y (ts.filter (fun t => decide (t.ar = 3))) ∧ Ss w0 w' B (ts.filter (fun t => !decide (t.ar = 3))) (-1) x us := by
  obtain ⟨v, h1, h2, h3⟩ := h
  refine (relieve_any _ B ts st v W h1).mono ?_
  rintro e w' ⟨y, v', he, ho, g1, g2, g3, _⟩
  exact ⟨y, he, ho, v', g1, h2.trans g3, h3.keep g2⟩
end

set_option maxRecDepth 100000 in
set_option maxHeartbeats 2000000 in
theorem aca_walk (a0 : Option Addr) (l0 c0 : Nat) (z0 : List Int) (a : Int) (w : World) (h0 : Came w a0 l0 z0) (ha : 0 ≤ a ∧ a ≤ 255) :
    Calls Try.prog 6 #[.slice a0 l0 c0, .int .u8 a] w fun e w' => e = .returned (.bool true) ∧ Below w.heap.size w w' := by
  have hm0 := h0.1
  unfold maxLen at hm0
  replace h0 := Kpt.mk h0.2
  have HW := Kpt.mk (awake_any w)
  obtain ⟨n, hn⟩ : ∃ n : Int, n = a % 8 := ⟨_, rfl⟩
  have hn8 : 0 ≤ n ∧ n < 8 := by omega
  have en : a % 8 = n := hn.symm
  clear hn
  go_enter Try.func6, Try.ntmps6
  go_wp2_with (first
    | (go_at_call 9; refine HW.out.mono ?_; rintro e wB ⟨rfl, hbB⟩; have HN := Kpt.mk (new_any wB); replace hbB := Kpt.mk hbB)
    | (go_at_call 10; refine HN.out.mono ?_; rintro e w1 ⟨rfl, rfl⟩))
  have hq0 : Kpt (Ss w (newS wB) wB.heap.size [] (-1) (.slice none 0 0) []) := ⟨ss_new w wB hbB.out⟩
  obtain ⟨B, hB⟩ : ∃ B, B = wB.heap.size := ⟨_, rfl⟩
  obtain ⟨wq, hwq⟩ : ∃ wq, wq = newS wB := ⟨_, rfl⟩
  rw [← hwq, ← hB] at hq0
  rw [← hwq, ← hB]
  try rw [en]
  clear hwq HN hB HW en
  go_loopw [7] (fun t wr => ∃ (k : Nat) (ts : List Tk), k ≤ l0 ∧ k ≤ 10 ∧ t = .int .i64 k ∧ Kpt (Ss w wr B ts (-1) (.slice none 0 0) []) ∧ Kpt (Small ts k)) (fun t _ => 10 - (intOf t).toNat)
  case atStart => exact ⟨0, [], Nat.zero_le _, Nat.zero_le _, rfl, hq0, ⟨by simp [Small]⟩⟩
  case round =>
    obtain ⟨k, ts, hk, hk10, rfl, hQ, hG⟩ := hrel
    clear hq0
    by_cases hlt : k < l0 ∧ k < 10
    · obtain ⟨b, off, rfl, hbl, hc, hr⟩ := h0.out wr hQ.out.below k hlt.1
      have e1 : (k : Int) < l0 := by omega
      have e2 : (k : Int) < 10 := by omega
      obtain ⟨x, hx⟩ : ∃ x, x = z0.getD k 0 := ⟨_, rfl⟩
      rw [← hx] at hc hr
      clear hx hlt
      have HE := Kpt.mk (ss_enter ⟨(k : Int) % 8, k, x % 3, false⟩ hQ.out)
      have hG2 : Kpt (Small (entL ts (-1) ⟨(k : Int) % 8, k, x % 3, false⟩) (k + 1)) := ⟨small_ent hG.out (by simp only; omega) (by simp only; omega)⟩
      go_wp2_with (go_at_call 18; go_must (refine HE.out.mono ?_; rintro e w2 ⟨rfl, hq2⟩; replace hq2 := Kpt.mk hq2))
      go_roundw
      case rel => exact ⟨k + 1, _, by omega, by omega, by go_num, hq2, hG2⟩
      case measure => simp [intOf]; omega
    · have hor : ¬ (k : Int) < l0 ∨ ((k : Int) < l0 ∧ ¬ (k : Int) < 10) := by omega
      have hsm : Kpt (Small ts 10) := ⟨⟨Nat.le_trans hG.out.1 hk10, hG.out.2⟩⟩
      clear hlt hG
      rcases hor with e2 | ⟨e2, e3⟩
      all_goals
        have hn1 : ¬ n = -1 := by omega
        have hno : ∀ t ∈ ts, ¬ t.ar = 3 := fun t ht => (hsm.out.2 t ht).1
        replace hno := Kpt.mk hno
        go_wp2_with fail
        refine (ss_ready2 hQ.out).mono ?_
        rintro e w2 ⟨yb, rfl, hs2, hob⟩
        obtain ⟨xb, db, hyb, _⟩ := hob.shape
        have hrl := rdy_len ts (-1) ts.length
        have hl10 := hsm.out.1
        obtain ⟨rb, hrb⟩ : ∃ rb, rb = rdyL ts (-1) ts.length := ⟨_, rfl⟩
        rw [← hrb] at hyb hs2 hrl hob
        subst hyb
        replace hs2 := Kpt.mk hs2
        obtain ⟨mb, hmb⟩ : ∃ mb, mb = rb.length := ⟨_, rfl⟩
        rw [← hmb] at hs2 hrl ⊢
        replace hmb := Kpt.mk hmb
        replace hrb := Kpt.mk hrb
        clear hob hQ
        go_wp2_with fail
        refine (ss_tasks hs2.out).mono ?_
        rintro e w3 ⟨yw, rfl, how, _, hs3⟩
        obtain ⟨xw, dw, hyw, _⟩ := how.shape
        subst hyw
        obtain ⟨m, hm⟩ : ∃ m, m = ts.length := ⟨_, rfl⟩
        rw [← hm] at hrl hl10 ⊢
        replace hm := Kpt.mk hm
        replace hs3 := Kpt.mk hs3
        clear how hs2
        go_wp2_with fail
        refine (ss_est n hs3.out hn8).mono ?_
        rintro e w4 ⟨rfl, hs4⟩
        replace hs4 := Kpt.mk hs4
        clear hs3
        go_wp2_with fail
        refine (ss_est2 n hs4.out hn8 hn1).mono ?_
        rintro e w5 ⟨rfl, rfl⟩
        go_wp2_with fail
        refine (ss_stands hs4.out).mono ?_
        rintro e w6 ⟨rfl, rfl⟩
        go_wp2_with fail
        refine (ss_ready hs4.out).mono ?_
        rintro e w7 ⟨y7, rfl, ho7, hs7, _⟩
        rw [rdy_none ts ts n hn1 ts.length (fun j t _ ht => hno.out t (List.mem_of_getElem? ht))] at ho7
        obtain ⟨x7, d7, hy7, _⟩ := ho7.shape
        simp only [List.length_nil] at hy7
        subst hy7
        replace hs7 := Kpt.mk hs7
        clear ho7 hs4
        go_wp2_with fail
        obtain ⟨q1, q2⟩ := ent_off ts n n 100 0 hsm.out hn8 (.inl rfl) (by decide) hn1
        have HE1 := Kpt.mk (ss_enter ⟨n, 100, 0, false⟩ hs7.out)
        rw [q1, q2] at HE1
        refine HE1.out.mono ?_
        rintro e w8 ⟨rfl, hs8⟩
        replace hs8 := Kpt.mk hs8
        clear hs7 HE1 q1 q2
        have hk1 : 0 ≤ (n + 1) % 8 ∧ (n + 1) % 8 < 8 := by omega
        have hk2 : (n + 1) % 8 ≠ n := by omega
        go_wp2_with fail
        obtain ⟨q1, q2⟩ := ent_off ts n ((n + 1) % 8) 101 3 hsm.out hk1 (.inr ⟨rfl, hk2⟩) (by decide) hn1
        have HE2 := Kpt.mk (ss_enter ⟨(n + 1) % 8, 101, 3, false⟩ hs8.out)
        rw [q1, q2] at HE2
        refine HE2.out.mono ?_
        rintro e w9 ⟨rfl, hs9⟩
        replace hs9 := Kpt.mk hs9
        clear hs8 HE2 q1 q2 hk1 hk2
        go_wp2_with fail
        obtain ⟨q1, q2⟩ := ent_on ts n hsm.out hn8
        have HE3 := Kpt.mk (ss_enter ⟨n, 102, 3, false⟩ hs9.out)
        rw [q1, q2] at HE3
        refine HE3.out.mono ?_
        rintro e w10 ⟨rfl, hs10⟩
        replace hs10 := Kpt.mk hs10
        clear hs9 HE3 q1 q2
        go_wp2_with fail
        refine (ss_ready hs10.out).mono ?_
        rintro e w11 ⟨y11, rfl, ho11, hs11, _⟩
        rw [rdy_last ts n hn1 hno.out ⟨n, 102, 3, false⟩ rfl rfl] at ho11
        obtain ⟨x11, d11, hy11, hr11⟩ := ho11.shape
        simp only [List.length_cons, List.length_nil, Nat.zero_add] at hy11 hr11
        rcases hr11 with ⟨_, _, hz⟩ | ⟨g11, rfl, _, hg11, hd1, hd2, _, hrg11⟩
        · omega
        obtain ⟨z0', z1', z2', z3'⟩ := range4 (hrg11 0 _ rfl)
        simp only [Nat.zero_mul, Nat.zero_add] at z0' z1' z2' z3'
        subst hy11
        replace hs11 := Kpt.mk hs11
        clear ho11 hs10 hrg11
        go_wp2_with fail
        have HR := Kpt.mk (ss_relieve hs11.out)
        rw [(rel_gone ts ⟨n, 102, 3, false⟩ hno.out rfl).1, (rel_gone ts ⟨n, 102, 3, false⟩ hno.out rfl).2] at HR
        refine HR.out.mono ?_
        rintro e w12 ⟨y12, rfl, ho12, hs12⟩
        obtain ⟨x12, d12, hy12, hr12⟩ := ho12.shape
        simp only [List.length_cons, List.length_nil, Nat.zero_add] at hy12 hr12
        rcases hr12 with ⟨_, _, hz⟩ | ⟨g12, rfl, _, hg12, hd3, hd4, _, hrg12⟩
        · omega
        have hrg12' := Kpt.mk (hrg12 0 _ rfl)
        subst hy12
        replace hs12 := Kpt.mk hs12
        clear ho12 hs11 HR hrg12 z0' z1' z2' z3'
        go_wp2_with fail
        refine (ss_ready hs12.out).mono ?_
        rintro e w13 ⟨y13, rfl, ho13, hs13, hb13⟩
        rw [← hrb.out] at ho13
        obtain ⟨x13, d13, hy13, _⟩ := ho13.shape
        rw [← hmb.out] at hy13
        subst hy13
        replace hs13 := Kpt.mk hs13
        replace ho13 := Kpt.mk ho13
        have hrg13 := Kpt.mk (rangeAt_of_block hrg12'.out (hb13.block g12 hg12))
        have hg13 : g12 < w13.heap.size := Nat.lt_of_lt_of_le hg12 hb13.size
        clear hs12 hrg12' hb13
        go_wp2_with fail
        have HT2 := Kpt.mk (by obtain ⟨v, h1, _, _⟩ := hs13.out; exact tasks_any _ B ts (-1) v w13 h1)
        refine HT2.out.mono ?_
        rintro e w14 ⟨y14, rfl, ho14, hb14⟩
        obtain ⟨x14, d14, hy14, _⟩ := ho14.shape
        rw [← hm.out] at hy14
        subst hy14
        have hs14 := Kpt.mk (hs13.out.grow hb14)
        have ho13' := Kpt.mk (ho13.out.of_block (fun g hg => hb14.block g (ho13.out.lt hg).2))
        obtain ⟨z0', z1', z2', z3'⟩ := range4 (t := ⟨n, 102, 3, false⟩) (rangeAt_of_block hrg13.out (hb14.block g12 hg13))
        simp only [Nat.zero_mul, Nat.zero_add] at z0' z1' z2' z3'
        clear ho14 HT2 hs13 ho13 hrg13 hb14
        go_wp2_with fail
        refine (ss_stands hs14.out).mono ?_
        rintro e w15 ⟨rfl, rfl⟩
        clear z0' z1' z2' z3'
        go_wp2_with fail
        have hbe : Kpt (Below w.heap.size w w15) := ⟨hs14.out.below⟩
        have hsA := Kpt.mk ho13'.out.shape
        have hsB : Kpt (∃ base, Own base w15 (.slice xb mb db) rb) := ⟨by obtain ⟨v, _, _, hR⟩ := hs14.out; exact hR.1⟩
        clear hs14 ho13'
        have hmb16 : mb ≤ 16 := by omega
        clear hsm hno hl10 hrl
        go_loopw [20] (fun r wq => ∃ (k : Nat), k ≤ mb ∧ r = .int .i64 k ∧ Kpt (∃ q, wq = w15.drewN q)) (fun r _ => mb - (intOf r).toNat)
        case atStart => exact ⟨0, Nat.zero_le _, rfl, ⟨0, rfl⟩⟩
        case round =>
          obtain ⟨k, hk, rfl, hq⟩ := hrel
          by_cases hlt : k < mb
          · have e5 : (k : Int) < mb := by omega
            have hkz : k < rb.length := by rw [← hmb.out]; exact hlt
            obtain ⟨u, hu⟩ : ∃ u, rb[k]? = some u := ⟨_, List.getElem?_eq_getElem hkz⟩
            obtain ⟨q, hq'⟩ := hq.out
            obtain ⟨aA, cA, hvA, hcA⟩ := hsA.out
            obtain ⟨bB, hoB⟩ := hsB.out
            obtain ⟨aB, cB, hvB, hcB⟩ := hoB.shape
            simp only [Value.slice.injEq] at hvA hvB
            obtain ⟨rfl, _, rfl⟩ := hvA
            obtain ⟨rfl, _, rfl⟩ := hvB
            rcases hcA with ⟨_, _, hz⟩ | ⟨gA, rfl, _, _, _, _, _, hrA⟩
            · omega
            rcases hcB with ⟨_, _, hz⟩ | ⟨gB, rfl, _, _, _, _, _, hrB⟩
            · omega
            obtain ⟨r0, r1, r2, r3⟩ := range4 (t := u) (fun j v hv => (by rw [hq']; exact hrA k u hu j v hv : wr.cell? ⟨gA, k * 4 + j, none⟩ = some v))
            obtain ⟨s0, s1, s2, s3⟩ := range4 (t := u) (fun j v hv => (by rw [hq']; exact hrB k u hu j v hv : wr.cell? ⟨gB, k * 4 + j, none⟩ = some v))
            clear hrA hrB hu hq' hsA hsB hoB
            go_wp2_with fail
            go_quiet (fail)
            go_wp2
            go_roundw
            case rel => exact ⟨k + 1, by omega, by go_num, ⟨by obtain ⟨q, hq⟩ := hq.out; exact ⟨_, by rw [hq, World.drewN_drewN]⟩⟩⟩
            case measure => simp [intOf]; omega
          · have e5 : ¬ (k : Int) < mb := by omega
            have hb0 : Kpt (Below w.heap.size w wr) := ⟨by obtain ⟨q, hq⟩ := hq.out; rw [hq]; exact below_drewN hbe.out _⟩
            clear hsA hsB hq
            go_wp2_with fail
            refine (nil_enter ⟨-1, 0, 0, false⟩ wr).mono ?_
            rintro e v1 ⟨rfl, hc1⟩
            have hb1 := Kpt.mk (hb0.out.trans (hc1.mono hb0.out.size))
            clear hc1
            go_wp2_with fail
            refine (nil_start 0 0 v1).mono ?_
            rintro e v2 ⟨rfl, hc2⟩
            have hb2 := Kpt.mk (hb1.out.trans (hc2.mono hb1.out.size))
            clear hc2
            go_wp2_with fail
            refine (nil_end 0 0 v2).mono ?_
            rintro e v3 ⟨rfl, hc3⟩
            have hb3 := Kpt.mk (hb2.out.trans (hc3.mono hb2.out.size))
            clear hc3
            go_wp2_with fail
            refine (nil_ready v3).mono ?_
            rintro e v4 ⟨rfl, rfl⟩
            go_wp2_with fail
            refine (nil_tasks v4).mono ?_
            rintro e v5 ⟨rfl, rfl⟩
            go_wp2_with fail
            refine (nil_clear v5).mono ?_
            rintro e v6 ⟨rfl, rfl⟩
            go_wp2_with fail
            refine (nil_stands v6).mono ?_
            rintro e v7 ⟨rfl, rfl⟩
            go_wp2_with fail
            refine (nil_establish (-1) v7).mono ?_
            rintro e v8 ⟨rfl, rfl⟩
            go_wp2
            go_ret
            exact ⟨rfl, hb3.out⟩
end Go.Proofs.Ytcnefmfmmgdidaa.taskACA
