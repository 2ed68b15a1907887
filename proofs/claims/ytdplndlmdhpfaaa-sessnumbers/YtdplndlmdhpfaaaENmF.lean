/-
  sess: a session between answers that count.
-/
import Derived.Test.YtdplndlmdhpfaaaENmE
namespace Go.Proofs.Ytdplndlmdhpfaaa
open Go.RowKit
set_option linter.unusedVariables false
set_option linter.unusedSimpArgs false

/-- A session that has answered k times. -/
structure NmSt (base : Nat) (W : World) (S : Nat) (s : Se) (k : Nat) : Prop where
  ss : Ss W S s [] [] []
  ov : s.over = false
  ds : s.dis = false
  sg : s.seg = 8192
  st : s.stat = (k : Int) + 1
  nx : 0 ≤ s.next ∧ s.next < 4294967296
  bs : ∀ b, s.X S b → base ≤ b
theorem NmSt.below {base : Nat} {W W' : World} {S : Nat} {s : Se} {k : Nat} (h : NmSt base W S s k) (hb : Below W.heap.size W W') : NmSt base W' S s k := ⟨h.ss.below hb, h.ov, h.ds, h.sg, h.st, h.nx, h.bs⟩
/-- The answer that went out. -/
structure NmOut (W : World) (k : Nat) (s' : Se) (gv : Value) : Prop where
  ex : ∃ b c q, gv = .slice (some ⟨b, 0, none⟩) 1 c ∧ 1 ≤ c ∧ c ≤ 9223372036854775807 ∧ Bx W b (Pd.v q) ∧ q.w1 = (k : Int) + 1 ∧ q.w2 = s'.next ∧ q.w3 = (s'.next + 15) % 4294967296
theorem NmOne.next {base S k : Nat} {s : Se} {w w' : World} {gv tv : Value} (h : NmSt base w S s k) (hbw : base ≤ w.heap.size) (hk : k ≤ 1000) (o : NmOne S s s.one w w' gv tv) : NmSt base w' S s.one (k + 1) ∧ NmOut w' k s.one gv ∧ Below base w w' := by
  obtain ⟨b, q, h1, h2, h3, h4, h5⟩ := o.gv
  refine ⟨⟨o.ss, h.ov, h.ds, h.sg, ?_, h.nx, fun x hx => ?_⟩, ⟨b, 1, q, h1, Nat.le_refl _, by decide, h2, by rw [h3, h.st], h4, h5⟩, o.st.fr.below hbw (fun x hx => h.bs x hx)⟩
  · show (s.stat + 1) % 4294967296 = ((k + 1 : Nat) : Int) + 1
    rw [h.st]
    omega
  · rcases o.st.new x hx with e | e
    · exact h.bs x e
    · omega

/-- A session that has one command open. -/
structure NmMid (base : Nat) (W : World) (S : Nat) (s : Se) (k : Nat) (t : Int) : Prop where
  ss : Ss W S s [] [Cm.v ⟨t, 0, true, 0⟩] []
  ov : s.over = false
  ds : s.dis = false
  sg : s.seg = 8192
  st : s.stat = (k : Int) + 1
  nx : 0 ≤ s.next ∧ s.next < 4294967296
  bs : ∀ b, s.X S b → base ≤ b
theorem in_n3 (base S k : Nat) (s : Se) (t : Int) (w : World) (h : NmSt base w S s k) (hbw : base ≤ w.heap.size) (ht : 0 ≤ t ∧ t < 4294967295) :
    Calls Try.prog 11 #[.pointer (some ⟨S, 0, none⟩), .agg (rdP t s.next 0).v] w fun e w' => ∃ ga gc b c s', e = .returned (.tuple #[.slice ga 0 gc, .slice (some ⟨b, 0, none⟩) 1 c]) ∧ 1 ≤ c ∧ c ≤ 9223372036854775807 ∧ w'.cell? ⟨b, 0, none⟩ = some (.int .u32 t) ∧ NmMid base w' S s' k t ∧ s'.next = (s.next + 1) % 4294967296 ∧ Below base w w' ∧ OwnR 37 14 w' (.slice ga 0 gc) [] ∧ (∀ x, (Value.slice ga 0 gc).ownBlock = some x → ¬ s'.X S x ∧ base ≤ x) := by
  refine (in_rd S s [] [] (rdP t s.next 0) w h.ss (by simp) rfl rfl h.ov rfl h.ds rfl rfl (by intro x hx; simp [rdP, zP] at hx; have := h.nx; omega)).mono ?_
  rintro e w' ⟨gv, tv, gs, ts, s3, rfl, ⟨rfl, v1, v2, cv, ov, rfl, hS, rfl, hD1, hD2⟩, hst, hG, hT⟩
  obtain ⟨ga, gc, hgv⟩ := hG.own.none
  subst hgv
  obtain ⟨b, c, rfl, _, hc1, hc2⟩ := ownR_oneS hT.own
  have hB := ownR_bx hT.own
  have c0 := hB.cells 0 (by simp [Tk.v])
  simp [Tk.v, Pd.tk, rdP, zP] at c0
  refine ⟨ga, gc, b, c, s.rd v1 v2, rfl, hc1, hc2, c0, ⟨by simpa [Pd.cm, rdP, zP] using hS, h.ov, h.ds, h.sg, h.st, (show 0 ≤ (s.next + 1) % 4294967296 ∧ (s.next + 1) % 4294967296 < 4294967296 from ⟨Int.emod_nonneg _ (by decide), Int.emod_lt_of_pos _ (by decide)⟩), fun x hx => ?_⟩, rfl, hst.fr.below hbw (fun x hx => h.bs x hx), hG.own, fun x hx => ⟨(hG.off x hx).1, Nat.le_trans hbw (hG.off x hx).2⟩⟩
  rcases hst.new x hx with e | e
  · exact h.bs x e
  · omega
theorem end_n3 (base S k : Nat) (s : Se) (t : Int) (w : World) (h : NmMid base w S s k t) (hbw : base ≤ w.heap.size) (hk : k ≤ 1000) :
    Calls Try.prog 15 #[.pointer (some ⟨S, 0, none⟩), .int .u32 t, .agg (rsv (.slice none 0 0)), .bool false] w fun e w' => ∃ v s' q, e = .returned v ∧ NmSt base w' S s' (k + 1) ∧ s'.next = s.next ∧ Below base w w' ∧ OwnR 37 14 w' v [Pd.v q] ∧ q.w1 = (k : Int) + 1 ∧ q.w2 = s.next ∧ q.w3 = (s.next + 15) % 4294967296 ∧ St S w w' s s' := by
  refine (end_nm S s [] ⟨t, 0, true, 0⟩ 8192 0 false w h.ss h.ov rfl rfl (by omega) h.sg (by omega) h.nx).mono ?_
  rintro e w' ⟨v, zs, k', s', p, rfl, h1, h2, ⟨v1, v2, hs'⟩, h4, rfl, h6, h7, h8, h9⟩
  have hk0 : k' = 0 := by omega
  subst hk0
  have hz : zs = [] := List.eq_nil_of_length_eq_zero h6
  subst hz
  refine ⟨v, s', _, rfl, ⟨h1, by rw [hs']; exact h.ov, by rw [hs']; exact h.ds, by rw [hs']; exact h.sg, ?_, by rw [hs']; exact h.nx, fun x hx => ?_⟩, by rw [hs'], h2.fr.below hbw (fun x hx => h.bs x hx), h4, ?_, rfl, rfl, h2⟩
  · rw [hs']
    show (s.stat + 1) % 4294967296 = ((k + 1 : Nat) : Int) + 1
    rw [h.st]
    omega
  · rcases h2.new x hx with e | e
    · exact h.bs x e
    · omega
  · show s.stat = _
    exact h.st
end Go.Proofs.Ytdplndlmdhpfaaa
