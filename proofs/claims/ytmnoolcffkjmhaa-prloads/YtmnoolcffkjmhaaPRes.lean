/-
  PrReserves: what its services make.
-/
import Derived.Test.YtmnoolcffkjmhaaPGood
namespace Go.Proofs.Ytmnoolcffkjmhaa
open Go.RowKit
set_option linter.unusedVariables false
set_option linter.unusedSimpArgs false

theorem new_from {w0 w : World} (h : Below w0.heap.size w0 w) : Calls Try.prog 10 #[] w fun e w' => ∃ B, e = .returned (.pointer (some ⟨B, 0, none⟩)) ∧ Ss w0 w' B zeroT ∧ w.heap.size ≤ B ∧ Below w.heap.size w w' :=
  (new_any w).mono fun e w' ⟨he, hw⟩ => ⟨_, he, by rw [hw]; exact ss_from h, Nat.le_refl _, by rw [hw]; exact (Below.refl _ _).alloc (Nat.le_refl _) _⟩

theorem reg_R (T : Tb) (n : Nat) (x : Int) (hn : n < 8) (h : T.ks n = 0) : T.doR n ⟨0, 0, 0, x, false⟩ = (0, 0) := by
  have hb : ¬ T.bad n ⟨0, 0, 0, x, false⟩ = true := by simp [Tb.bad]; omega
  unfold Tb.doR
  rw [if_neg hb]
  simp [Tb.allows, h]
theorem reg_T (T : Tb) (n : Nat) (x : Int) (hn : n < 8) (h : T.ks n = 0) (hx : x ≠ 0) : T.doT n ⟨0, 0, 0, x, false⟩ = { T with ks := upd T.ks n x, gn := (T.gn + 1) % 4294967296, la := false } := by
  have hb : ¬ T.bad n ⟨0, 0, 0, x, false⟩ = true := by simp [Tb.bad]; omega
  unfold Tb.doT
  rw [if_neg hb]
  simp [Tb.allows, h, Tb.register, hx, Tb.put]
theorem ign_R (T : Tb) (n : Nat) (x : Int) (p : Bool) (hn : n < 8) : T.doR n ⟨6, 0, 0, x, p⟩ = (0, 0) := by
  have hb : ¬ T.bad n ⟨6, 0, 0, x, p⟩ = true := by simp [Tb.bad]; omega
  unfold Tb.doR
  rw [if_neg hb]
  simp [Tb.allows]
theorem ign_T (T : Tb) (n : Nat) (x : Int) (p : Bool) (hn : n < 8) (hx : x ≠ 0) : T.doT n ⟨6, 0, 0, x, p⟩ = { T with ks := upd T.ks n x, gn := (T.gn + 1) % 4294967296, la := p } := by
  have hb : ¬ T.bad n ⟨6, 0, 0, x, p⟩ = true := by simp [Tb.bad]; omega
  unfold Tb.doT
  rw [if_neg hb]
  simp [Tb.allows, Tb.register, hx, Tb.put]
theorem rsv_R (T : Tb) (n : Nat) (x k : Int) (hn : n < 8) (h : T.ks n = x) (hx : x ≠ 0) (hk : isTy k = true) (h0 : T.kd = 0) : T.doR n ⟨1, k, x, 0, false⟩ = (0, 0) := by
  have hb : ¬ T.bad n ⟨1, k, x, 0, false⟩ = true := by simp [Tb.bad]; omega
  unfold Tb.doR
  rw [if_neg hb]
  simp [Tb.allows, h, hx, Tb.reserveR, hk, h0]
theorem rsv_T (T : Tb) (n : Nat) (x k : Int) (hn : n < 8) (h : T.ks n = x) (hx : x ≠ 0) (hk : isTy k = true) (h0 : T.kd = 0) : T.doT n ⟨1, k, x, 0, false⟩ = { T with kd := k, ho := n } := by
  have hb : ¬ T.bad n ⟨1, k, x, 0, false⟩ = true := by simp [Tb.bad]; omega
  unfold Tb.doT
  rw [if_neg hb]
  simp [Tb.allows, h, hx, Tb.reserve, hk, h0]
theorem rel_R (T : Tb) (n : Nat) (x k : Int) (hn : n < 8) (h : T.ks n = x) (hx : x ≠ 0) (hk : T.kd = k) : T.doR n ⟨2, k, x, 0, false⟩ = (0, 0) := by
  have hb : ¬ T.bad n ⟨2, k, x, 0, false⟩ = true := by simp [Tb.bad]; omega
  unfold Tb.doR
  rw [if_neg hb]
  simp [Tb.allows, h, hx, Tb.releaseR, hk]
theorem rel_T (T : Tb) (n : Nat) (x k : Int) (hn : n < 8) (h : T.ks n = x) (hx : x ≠ 0) (hk : T.kd = k) (hh : T.holds n = true) : T.doT n ⟨2, k, x, 0, false⟩ = { T with kd := 0 } := by
  have hb : ¬ T.bad n ⟨2, k, x, 0, false⟩ = true := by simp [Tb.bad]; omega
  unfold Tb.doT
  rw [if_neg hb]
  simp [Tb.allows, h, hx, Tb.release, hk, hh]
theorem rel_E (T : Tb) (n : Nat) (x k : Int) (hn : n < 8) (h : T.ks n = x) (hx : x ≠ 0) (hk : T.kd = k) (hh : T.holds n = true) : T.doE n ⟨2, k, x, 0, false⟩ = T.endE n := by
  have hb : ¬ T.bad n ⟨2, k, x, 0, false⟩ = true := by simp [Tb.bad]; omega
  unfold Tb.doE
  rw [if_neg hb]
  simp [Tb.allows, h, hx, Tb.releaseE, hk, hh]

/-- Nobody else, or nexus 1, is registered. -/
def keysO (x : Int) (o : Bool) : Nat → Int := if o = true then upd (upd (fun _ => 0) 0 x) 1 x else upd (fun _ => 0) 0 x
theorem keysO_regs (x : Int) (hx : x ≠ 0) (o : Bool) : regsTo (keysO x o) 8 = if o = true then [(0, x), (1, x)] else [(0, x)] := by
  cases o <;> simp [keysO, regsTo, upd, hx]
theorem own_len {κ : IntKind} {ty : TypeId} {base : Nat} {w : World} {v : Value} {ts : List (Int × Int)} (h : Own κ ty base w v ts) : ∃ a c, v = .slice a ts.length c := by
  obtain ⟨a, c, hv, _⟩ := h.shape
  exact ⟨a, c, hv⟩
end Go.Proofs.Ytmnoolcffkjmhaa
