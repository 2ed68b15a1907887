/-
  sess: the first text by cases.
-/
import Derived.Test.YtdplndlmdhpfaabETgP
namespace Go.Proofs.Ytdplndlmdhpfaab
open Go.RowKit
set_option linter.unusedVariables false
set_option linter.unusedSimpArgs false

theorem newT_X {d : Bool} {tg : Value} {S b : Nat} (h : ((plD d).newT 1 tg).X S b) : b = S := by
  rcases h with h | h | h | h
  · exact h
  all_goals simp [Se.newT, Se.new, Value.ownBlock] at h
theorem st_tg {d : Bool} {S n tc : Nat} {ta : Option Addr} {os : List ByteArray} {w W : World} {s3 : Se} (hst : StAt w (.slice ta n tc) os) (hoff : ∀ x, ta = some x → x.block ≠ S) (t : St S w W ((plD d).newT 1 (.slice ta n tc)) s3) : StAt W (.slice ta n tc) os :=
  hst.of_block t.fr.size (fun b hb hlt => t.fr.block b hlt (fun e => by
    have e2 := newT_X e
    cases ta with
    | none => simp [Value.ownBlock] at hb
    | some x => simp [Value.ownBlock] at hb; exact hoff x rfl (by rw [hb, e2])))
theorem tellL_len (d : Bool) (os : List ByteArray) (n : Nat) (hn : os.length = n) (h : (os.map ByteArray.size).sum + n ≤ 1048576) : (tellL d os).length ≤ 14000000 := by
  have h1 := rowsL_le (tellB d) os
  unfold tellL
  rw [hn] at h1
  omega
theorem st_len {w : World} {a : Option Addr} {n c : Nat} {os : List ByteArray} (h : StAt w (.slice a n c) os) : os.length = n := by
  obtain ⟨_, _, hv, _⟩ := h
  simp only [Value.slice.injEq] at hv
  exact hv.2.1.symm

theorem in_all_d (S : Nat) (ta : Option Addr) (tn tc : Nat) (os : List ByteArray) (a : Option Addr) (n c : Nat) (w : World) (h : Ss w S ((plD true).newT 1 (.slice ta tn tc)) [] [] []) (hD : Dt (((plD true).newT 1 (.slice ta tn tc)).X S) w (.slice a n c) (rowL (stB, ⟨#[65, 108, 108]⟩)))
    (hst : StAt w (.slice ta tn tc) os) (hoff : ∀ x, ta = some x → x.block ≠ S) (htc : tc ≤ maxLen) (hsum : (os.map ByteArray.size).sum + tn ≤ 1048576) :
    Calls Try.prog 10 #[.pointer (some ⟨S, 0, none⟩), .agg (tgP (.slice a n c)).v] w fun e w' => ∃ gv tv, e = .returned (.tuple #[gv, tv]) ∧ TgA S true (tellL true os) ((plD true).newT 1 (.slice ta tn tc)) w w' gv := by
  refine in_tg S true (.slice ta tn tc) a n c (rowL (stB, ⟨#[65, 108, 108]⟩)) (tellL true os) w h hD (by decide) (fun W v1 a' c' _ h1 h2 h3 hc => ?_) (by have := tellL_len true os tn (st_len hst) hsum; omega)
  exact keys_all_d S _ [] [] [] ta tn tc os a' n c' W h2 h3 hc rfl rfl rfl (st_tg hst hoff h1) htc hsum

theorem in_all_n (S : Nat) (ta : Option Addr) (tn tc : Nat) (os : List ByteArray) (a : Option Addr) (n c : Nat) (w : World) (h : Ss w S ((plD false).newT 1 (.slice ta tn tc)) [] [] []) (hD : Dt (((plD false).newT 1 (.slice ta tn tc)).X S) w (.slice a n c) (rowL (stB, ⟨#[]⟩)))
    (hst : StAt w (.slice ta tn tc) os) (hoff : ∀ x, ta = some x → x.block ≠ S) (htc : tc ≤ maxLen) (hsum : (os.map ByteArray.size).sum + tn ≤ 1048576) :
    Calls Try.prog 10 #[.pointer (some ⟨S, 0, none⟩), .agg (tgP (.slice a n c)).v] w fun e w' => ∃ gv tv, e = .returned (.tuple #[gv, tv]) ∧ TgA S false (tellL false os) ((plD false).newT 1 (.slice ta tn tc)) w w' gv := by
  refine in_tg S false (.slice ta tn tc) a n c (rowL (stB, ⟨#[]⟩)) (tellL false os) w h hD (by decide) (fun W v1 a' c' _ h1 h2 h3 hc => ?_) (by have := tellL_len false os tn (st_len hst) hsum; omega)
  exact keys_all_n S _ [] [] [] ta tn tc os a' n c' W h2 h3 hc rfl rfl rfl (st_tg hst hoff h1) htc hsum

theorem in_rej_d (S : Nat) (ta : Option Addr) (tn tc : Nat) (os : List ByteArray) (ask : ByteArray) (a : Option Addr) (n c : Nat) (w : World) (h : Ss w S ((plD true).newT 1 (.slice ta tn tc)) [] [] []) (hD : Dt (((plD true).newT 1 (.slice ta tn tc)).X S) w (.slice a n c) (rowL (stB, ask)))
    (hst : StAt w (.slice ta tn tc) os) (hoff : ∀ x, ta = some x → x.block ≠ S) (htc : tc ≤ maxLen) (hsum : (os.map ByteArray.size).sum + tn ≤ 1048576) (hE : wrE [(stB, ask)] = 0) (hne : ask ≠ ⟨#[65, 108, 108]⟩) :
    Calls Try.prog 10 #[.pointer (some ⟨S, 0, none⟩), .agg (tgP (.slice a n c)).v] w fun e w' => ∃ gv tv, e = .returned (.tuple #[gv, tv]) ∧ TgA S true (rowL (stB, rjB)) ((plD true).newT 1 (.slice ta tn tc)) w w' gv := by
  refine in_tg S true (.slice ta tn tc) a n c (rowL (stB, ask)) (rowL (stB, rjB)) w h hD (by have := (ok_len ((all_ok hE).1 _ (List.mem_singleton.2 rfl))).2.2; omega) (fun W v1 a' c' _ h1 h2 h3 hc => ?_) (by decide)
  exact (keys_rej_d S _ [] [] [] ask a' n c' W h2 hE h3 hc rfl hne).mono fun e w' ⟨v, h4, h5, h6⟩ => ⟨v, 19, h4, h5, h6⟩

theorem in_rej_n (S : Nat) (ta : Option Addr) (tn tc : Nat) (os : List ByteArray) (ask : ByteArray) (a : Option Addr) (n c : Nat) (w : World) (h : Ss w S ((plD false).newT 1 (.slice ta tn tc)) [] [] []) (hD : Dt (((plD false).newT 1 (.slice ta tn tc)).X S) w (.slice a n c) (rowL (stB, ask)))
    (hst : StAt w (.slice ta tn tc) os) (hoff : ∀ x, ta = some x → x.block ≠ S) (htc : tc ≤ maxLen) (hsum : (os.map ByteArray.size).sum + tn ≤ 1048576) (hE : wrE [(stB, ask)] = 0) (hne : ask ≠ ⟨#[]⟩) :
    Calls Try.prog 10 #[.pointer (some ⟨S, 0, none⟩), .agg (tgP (.slice a n c)).v] w fun e w' => ∃ gv tv, e = .returned (.tuple #[gv, tv]) ∧ TgA S false (rowL (stB, rjB)) ((plD false).newT 1 (.slice ta tn tc)) w w' gv := by
  refine in_tg S false (.slice ta tn tc) a n c (rowL (stB, ask)) (rowL (stB, rjB)) w h hD (by have := (ok_len ((all_ok hE).1 _ (List.mem_singleton.2 rfl))).2.2; omega) (fun W v1 a' c' _ h1 h2 h3 hc => ?_) (by decide)
  exact (keys_rej_n S _ [] [] [] ask a' n c' W h2 hE h3 hc rfl hne).mono fun e w' ⟨v, h4, h5, h6⟩ => ⟨v, 19, h4, h5, h6⟩

/-- A text of one pair is written. -/
theorem infoPr : (Try.prog.info? 34).map (fun i => (i.zero, i.size, i.bytes)) = some (some (.agg #[.string ⟨#[]⟩, .string ⟨#[]⟩]), 2, 32) := by kernel_rfl
theorem ps_one {W : World} {b : Nat} {K V : ByteArray} (h : Bx W b #[.string K, .string V]) : PsAt W (.slice (some ⟨b, 0, none⟩) 1 1) [(K, V)] := by
  refine ⟨some ⟨b, 0, none⟩, 1, rfl, (fun e => by cases e), Nat.le_refl _, .inr ⟨b, 0, rfl, h.lt, fun j p hp i u hu => ?_⟩⟩
  rcases j with _ | j
  · simp at hp
    subst hp
    have h0 := h.cells 0 (by simp)
    have h1 := h.cells 1 (by simp)
    rcases i with _ | _ | i
    · simp [pcs] at hu; subst hu; simpa using h0
    · simp [pcs] at hu; subst hu; simpa using h1
    · simp [pcs] at hu
  · simp at hp
theorem write_one (ask : ByteArray) (hk : ask.size ≤ maxLen) (b : Nat) (W : World) (h : Bx W b #[.string stB, .string ask]) (hE : wrE [(stB, ask)] = 0) (N : Nat) (hN : (rowL (stB, ask)).length = N) :
    Calls Try.prog 9 #[.slice (some ⟨b, 0, none⟩) 1 1] W fun e w' => ∃ va vc, e = .returned (.tuple #[.slice va N vc, .int .i64 0]) ∧ RdAt w' (.slice va N vc) (rowL (stB, ask)) ∧ (∀ g, (Value.slice va N vc).ownBlock = some g → W.heap.size ≤ g ∧ g < w'.heap.size) ∧ Below W.heap.size W w' := by
  refine (rwrite_any _ 1 1 [(stB, ask)] W (ps_one h) (by omega) (by unfold maxLen; omega) (by simp; exact ⟨by decide, hk⟩)).mono ?_
  rintro e w' ⟨v, rfl, ho, hb⟩
  have hO : wrO [(stB, ask)] = rowL (stB, ask) := by unfold wrO; rw [if_pos hE]; simp [rowsL]
  rw [hO, hN] at ho
  obtain ⟨⟨va, vc, rfl⟩⟩ := own_slice ho
  exact ⟨va, vc, by rw [hE], own_row ho hN, fun g hg => World.ownsRow.lt ho g hg, hb⟩
theorem write_bad (ask : ByteArray) (hk : ask.size ≤ maxLen) (b : Nat) (W : World) (h : Bx W b #[.string stB, .string ask]) :
    Calls Try.prog 9 #[.slice (some ⟨b, 0, none⟩) 1 1] W fun e w' => ∃ va n vc, e = .returned (.tuple #[.slice va n vc, .int .i64 (wrE [(stB, ask)])]) ∧ Below W.heap.size W w' := by
  refine (rwrite_any _ 1 1 [(stB, ask)] W (ps_one h) (by omega) (by unfold maxLen; omega) (by simp; exact ⟨by decide, hk⟩)).mono ?_
  rintro e w' ⟨v, rfl, ho, hb⟩
  obtain ⟨⟨va, vc, rfl⟩⟩ := own_slice ho
  exact ⟨va, _, vc, rfl, hb⟩
end Go.Proofs.Ytdplndlmdhpfaab
