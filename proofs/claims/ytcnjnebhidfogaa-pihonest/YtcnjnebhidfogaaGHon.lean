/-
  PiHonest: the walk, whole.
-/
import Derived.Test.YtcnjnebhidfogaaGHonA
import Derived.Test.YtcnjnebhidfogaaGHonB
import Derived.Test.YtcnjnebhidfogaaGHonC
import Derived.Test.YtcnjnebhidfogaaGHonD
namespace Go.Proofs.Ytcnjnebhidfogaa
open Go.RowKit
set_option linter.unusedVariables false
set_option linter.unusedSimpArgs false

/-- A bit turned. -/
theorem turned (x b : Int) (hx : 0 ≤ x ∧ x ≤ 255) : ∃ m : Nat, m < 256 ∧ m ≠ 0 ∧ bits BinOp.xor IntKind.u8 x (2 ^ (b % 8).toNat % 256) = ((x.toNat ^^^ m : Nat) : Int) ∧ x.toNat ^^^ m < 256 ∧ x.toNat ≠ x.toNat ^^^ m := by
  have h8 : (b % 8).toNat < 8 := by omega
  obtain ⟨X, rfl⟩ := Int.eq_ofNat_of_zero_le hx.1
  generalize (b % 8).toNat = j at *
  have hj : j = 0 ∨ j = 1 ∨ j = 2 ∨ j = 3 ∨ j = 4 ∨ j = 5 ∨ j = 6 ∨ j = 7 := by omega
  have key : ∀ m : Nat, m < 256 → m ≠ 0 → ((2 : Int) ^ j % 256 = (m : Int)) → ∃ m : Nat, m < 256 ∧ m ≠ 0 ∧ bits BinOp.xor IntKind.u8 (X : Int) (2 ^ j % 256) = (((X : Int).toNat ^^^ m : Nat) : Int) ∧ (X : Int).toNat ^^^ m < 256 ∧ (X : Int).toNat ≠ (X : Int).toNat ^^^ m := fun m h1 h2 h3 => by
    refine ⟨m, h1, h2, ?_, ?_, ?_⟩
    · rw [h3]; exact u8_xor_nat X m (by omega) h1
    · have : X ^^^ m < 2 ^ 8 := Nat.xor_lt_two_pow (by omega) (by omega)
      simpa using this
    · intro e
      have h4 := xor_move X X m (by simpa using e.symm)
      rw [Nat.xor_self] at h4; exact h2 h4
  rcases hj with rfl | rfl | rfl | rfl | rfl | rfl | rfl | rfl
  · exact key 1 (by decide) (by decide) (by decide)
  · exact key 2 (by decide) (by decide) (by decide)
  · exact key 4 (by decide) (by decide) (by decide)
  · exact key 8 (by decide) (by decide) (by decide)
  · exact key 16 (by decide) (by decide) (by decide)
  · exact key 32 (by decide) (by decide) (by decide)
  · exact key 64 (by decide) (by decide) (by decide)
  · exact key 128 (by decide) (by decide) (by decide)

theorem c_same (K P lba a : Int) (d : List Int) (hK : 1 ≤ K ∧ K ≤ 3) (hP : 0 ≤ P ∧ P ≤ 4) (ha : a ≠ 65535) : checkC K P lba ⟨d, (reg16 0 d : Int), a, refV K lba⟩ = 0 := by
  have hp : ¬ passB K a (refV K lba) = true := by simp [passB, ha]
  unfold checkC
  split
  · rfl
  · rw [if_neg (by simp), if_neg]
    rintro ⟨_, h2, h3⟩
    exact h3 (by simp [refV, h2])
theorem c_turn (K P lba a G r : Int) (d : List Int) (hK : 1 ≤ K ∧ K ≤ 3) (hP : 0 ≤ P ∧ P ≤ 4) (ha : a ≠ 65535) (hr : r = refV K lba) (hG : G ≠ (reg16 0 d : Int)) :
    checkC K P lba ⟨d, G, a, r⟩ = if P = 2 ∨ P = 3 then 0 else 4097 := by
  subst hr
  have hp : ¬ passB K a (refV K lba) = true := by simp [passB, ha]
  unfold checkC
  by_cases h3 : P = 3
  · rw [if_pos (show K < 1 ∨ 3 < K ∨ P = 3 ∨ 4 < P by omega), if_pos (show P = 2 ∨ P = 3 by omega)]
  · rw [if_neg (show ¬ (K < 1 ∨ 3 < K ∨ P = 3 ∨ 4 < P) by omega), if_neg hp]
    by_cases h2 : P = 2
    · rw [if_pos (show P = 2 ∨ P = 3 by omega), if_neg (by simp [h2]), if_neg]
      rintro ⟨_, h4, h5⟩
      exact h5 (by simp [refV, h4])
    · rw [if_pos ⟨h2, hG⟩, if_neg (show ¬ (P = 2 ∨ P = 3) by omega)]
theorem c_far (K P lba L a : Int) (d : List Int) (hK : 1 ≤ K ∧ K ≤ 3) (hP : 0 ≤ P ∧ P ≤ 4) (ha : a ≠ 65535) (hl : 0 ≤ lba ∧ lba ≤ 18446744073709551615) (hL : L = (lba + 1) % 18446744073709551616) :
    checkC K P L ⟨d, (reg16 0 d : Int), a, refV K lba⟩ = if P = 3 ∨ P = 4 ∨ K = 3 then 0 else 4099 := by
  have hp : ¬ passB K a (refV K lba) = true := by simp [passB, ha]
  unfold checkC
  by_cases h3 : P = 3
  · rw [if_pos (show K < 1 ∨ 3 < K ∨ P = 3 ∨ 4 < P by omega), if_pos (show P = 3 ∨ P = 4 ∨ K = 3 by omega)]
  · rw [if_neg (show ¬ (K < 1 ∨ 3 < K ∨ P = 3 ∨ 4 < P) by omega), if_neg hp, if_neg (by simp)]
    by_cases h4 : P = 4
    · rw [if_pos (show P = 3 ∨ P = 4 ∨ K = 3 by omega), if_neg (by simp [h4])]
    · by_cases hk : K = 3
      · have : hasB K = false := by subst hk; rfl
        rw [if_pos (show P = 3 ∨ P = 4 ∨ K = 3 by omega), if_neg (by simp [this])]
      · have hh : hasB K = true := by unfold hasB; rw [decide_eq_true (by omega)]
        have h9 : refV K lba ≠ L % 4294967296 := by simp only [refV, hh, if_true]; omega
        rw [if_neg (show ¬ (P = 3 ∨ P = 4 ∨ K = 3) by omega), if_pos ⟨h4, hh, h9⟩]

theorem honest_go (kind prot lba app at' bit : Int) (d : List Int) (w : World) (hd : d.length = 16) (hb : ∀ x ∈ d, 0 ≤ x ∧ x ≤ 255)
    (q0 : 0 ≤ kind ∧ kind ≤ 255) (q1 : 0 ≤ prot ∧ prot ≤ 255) (q2 : 0 ≤ lba ∧ lba ≤ 18446744073709551615) (q4 : 0 ≤ app ∧ app ≤ 65535) (q5 : 0 ≤ at' ∧ at' ≤ 255) (q6 : 0 ≤ bit ∧ bit ≤ 255) :
    Calls Try.prog 6 #[.int .u8 kind, .int .u8 prot, .int .u64 lba, .agg (cels d).toArray, .int .u16 app, .int .u8 at', .int .u8 bit] w fun e w' => e = .returned (.bool true) ∧ Below w.heap.size w w' := by
  obtain ⟨i, hi⟩ : ∃ i : Nat, at' % 16 = (i : Int) := ⟨(at' % 16).toNat, by omega⟩
  obtain ⟨K, hK⟩ : ∃ K, 1 + kind % 3 = K := ⟨_, rfl⟩
  obtain ⟨P, hP⟩ : ∃ P, prot % 5 = P := ⟨_, rfl⟩
  obtain ⟨L2, hL2⟩ : ∃ L, (lba + 1) % 18446744073709551616 = L := ⟨_, rfl⟩
  have hKb : 1 ≤ K ∧ K ≤ 3 := by omega
  have hPb : 0 ≤ P ∧ P ≤ 4 := by omega
  have hi16 : i < 16 := by omega
  have hxb : 0 ≤ d.getD i 0 ∧ d.getD i 0 ≤ 255 := bytes_of d hb i
  obtain ⟨m, hm1, hm2, hyx, hy1, hne⟩ := turned (d.getD i 0) bit hxb
  have htell := tells16 d hb i (by omega) _ hy1 hne 0 (by decide)
  have hGne : (reg16 0 d : Int) ≠ (reg16 0 (d.set i (((d.getD i 0).toNat ^^^ m : Nat) : Int)) : Int) := by omega
  generalize hy : (((d.getD i 0).toNat ^^^ m : Nat) : Int) = y at *
  have hyb : 0 ≤ y ∧ y ≤ 255 := by omega
  have s1 := fun a ha => c_same K P lba a d hKb hPb ha
  have s2 := fun a ha => c_turn K P lba a (reg16 0 d : Int) (refV K lba) (d.set i y) hKb hPb ha rfl hGne
  have s3 := fun a ha => c_far K P lba L2 a d hKb hPb ha q2 hL2.symm
  by_cases ha : app = 65535
  · have fa : (app == 65535) = true := by simpa using ha
    have n0 : (0 : Int) ≠ 65535 := by decide
    have t1 := s1 0 n0
    have t2 := s2 0 n0
    have t3 := s3 0 n0
    by_cases c3 : P = 3
    · rw [if_pos (by omega)] at t2 t3
      exact hon_E0 kind prot lba app at' bit K P y L2 i d w hd hb hyb q0 q1 q2 q4 q5 q6 hK hP hi hyx hL2 fa (by subst c3; rfl) (by simpa using c3) t1 t2 t3
    have f3 : (P == 3) = false := by simpa using c3
    by_cases c4 : P = 4
    · rw [if_neg (by omega)] at t2
      rw [if_pos (by omega)] at t3
      exact hon_F0 kind prot lba app at' bit K P y L2 i d w hd hb hyb q0 q1 q2 q4 q5 q6 hK hP hi hyx hL2 fa (by subst c4; rfl) f3 (by simpa using c4) t1 t2 t3
    have f4 : (P == 4) = false := by simpa using c4
    by_cases ck : K = 3
    · have fk : (K == 3) = true := by simpa using ck
      rw [if_pos (by omega)] at t3
      by_cases c2 : P = 2
      · rw [if_pos (by omega)] at t2
        exact hon_D0 kind prot lba app at' bit K P y L2 i d w hd hb hyb q0 q1 q2 q4 q5 q6 hK hP hi hyx hL2 fa (by simpa using c2) f3 f4 fk t1 t2 t3
      · rw [if_neg (by omega)] at t2
        exact hon_B0 kind prot lba app at' bit K P y L2 i d w hd hb hyb q0 q1 q2 q4 q5 q6 hK hP hi hyx hL2 fa (by simpa using c2) f3 f4 fk t1 t2 t3
    · have fk : (K == 3) = false := by simpa using ck
      rw [if_neg (by omega)] at t3
      by_cases c2 : P = 2
      · rw [if_pos (by omega)] at t2
        exact hon_C0 kind prot lba app at' bit K P y L2 i d w hd hb hyb q0 q1 q2 q4 q5 q6 hK hP hi hyx hL2 fa (by simpa using c2) f3 f4 fk t1 t2 t3
      · rw [if_neg (by omega)] at t2
        exact hon_A0 kind prot lba app at' bit K P y L2 i d w hd hb hyb q0 q1 q2 q4 q5 q6 hK hP hi hyx hL2 fa (by simpa using c2) f3 f4 fk t1 t2 t3
  · have fa : (app == 65535) = false := by simpa using ha
    have t1 := s1 app ha
    have t2 := s2 app ha
    have t3 := s3 app ha
    by_cases c3 : P = 3
    · rw [if_pos (by omega)] at t2 t3
      exact hon_E1 kind prot lba app at' bit K P y L2 i d w hd hb hyb q0 q1 q2 q4 q5 q6 hK hP hi hyx hL2 fa (by subst c3; rfl) (by simpa using c3) t1 t2 t3
    have f3 : (P == 3) = false := by simpa using c3
    by_cases c4 : P = 4
    · rw [if_neg (by omega)] at t2
      rw [if_pos (by omega)] at t3
      exact hon_F1 kind prot lba app at' bit K P y L2 i d w hd hb hyb q0 q1 q2 q4 q5 q6 hK hP hi hyx hL2 fa (by subst c4; rfl) f3 (by simpa using c4) t1 t2 t3
    have f4 : (P == 4) = false := by simpa using c4
    by_cases ck : K = 3
    · have fk : (K == 3) = true := by simpa using ck
      rw [if_pos (by omega)] at t3
      by_cases c2 : P = 2
      · rw [if_pos (by omega)] at t2
        exact hon_D1 kind prot lba app at' bit K P y L2 i d w hd hb hyb q0 q1 q2 q4 q5 q6 hK hP hi hyx hL2 fa (by simpa using c2) f3 f4 fk t1 t2 t3
      · rw [if_neg (by omega)] at t2
        exact hon_B1 kind prot lba app at' bit K P y L2 i d w hd hb hyb q0 q1 q2 q4 q5 q6 hK hP hi hyx hL2 fa (by simpa using c2) f3 f4 fk t1 t2 t3
    · have fk : (K == 3) = false := by simpa using ck
      rw [if_neg (by omega)] at t3
      by_cases c2 : P = 2
      · rw [if_pos (by omega)] at t2
        exact hon_C1 kind prot lba app at' bit K P y L2 i d w hd hb hyb q0 q1 q2 q4 q5 q6 hK hP hi hyx hL2 fa (by simpa using c2) f3 f4 fk t1 t2 t3
      · rw [if_neg (by omega)] at t2
        exact hon_A1 kind prot lba app at' bit K P y L2 i d w hd hb hyb q0 q1 q2 q4 q5 q6 hK hP hi hyx hL2 fa (by simpa using c2) f3 f4 fk t1 t2 t3
end Go.Proofs.Ytcnjnebhidfogaa
