/-
  pdu: what a stream says, however much of it has come.
-/
import Derived.Test.YtigfoldobkigeaaUEncP
namespace Go.Proofs.Ytigfoldobkigeaa
open Go.RowKit
set_option linter.unusedVariables false
set_option linter.unusedSimpArgs false

theorem take_app {zs q : List Int} {n : Nat} (h : n ≤ zs.length) : (zs ++ q).take n = zs.take n := List.take_append_of_le_length h
theorem drop_app {zs q : List Int} {n : Nat} (h : n ≤ zs.length) : (zs ++ q).drop n = zs.drop n ++ q := List.drop_append_of_le_length h
/-- What is whole says the same, whatever comes behind it; and so does what is wrong. -/
theorem dec_more (zs q : List Int) (h d : Bool) (h8 : decE zs h d ≠ 8) :
    decE (zs ++ q) h d = decE zs h d ∧ (decE zs h d = 0 → decN (zs ++ q) h d = decN zs h d ∧ decP (zs ++ q) h = decP zs h ∧ decN zs h d ≤ zs.length) := by
  unfold decE at h8
  by_cases c1 : zs.length < 48 + sz h
  · rw [if_pos c1] at h8; exact absurd rfl h8
  rw [if_neg c1] at h8
  have hl : 48 + sz h ≤ zs.length := by omega
  have t48 : (zs ++ q).take 48 = zs.take 48 := take_app (by omega)
  have hdr : (zs ++ q).drop (48 + sz h) = zs.drop (48 + sz h) ++ q := drop_app hl
  have hM : bodyM (zs ++ q) = bodyM zs := by unfold bodyM; rw [t48]
  have n1 : h = true → B.num (zs ++ q) 48 4 = B.num zs 48 4 := fun e => num_front zs q 48 4 (by rw [e] at hl; simp [sz] at hl; omega)
  have hc1 : ¬ (zs ++ q).length < 48 + sz h := by rw [List.length_append]; omega
  obtain ⟨M, hMe⟩ : ∃ M, M = bodyM zs := ⟨_, rfl⟩
  have hMl : lenD (zs.take 48) ≤ M := by rw [hMe]; unfold bodyM; omega
  have key : decE (zs ++ q) h d = decE zs h d ∧ (decE zs h d = 0 → M + sz (s2B d M) ≤ zs.length - (48 + sz h)) := by
    unfold decE
    rw [if_neg c1, if_neg hc1, t48, hM, hdr, ← hMe]
    rw [← hMe] at h8
    by_cases c2 : h = true ∧ ¬ B.num zs 48 4 = (sumL (zs.take 48) : Int)
    · rw [if_pos c2, if_pos ⟨c2.1, by rw [n1 c2.1]; exact c2.2⟩]
      exact ⟨rfl, fun e => by cases e⟩
    rw [if_neg c2] at h8 ⊢
    rw [if_neg (fun e => c2 ⟨e.1, by rw [← n1 e.1]; exact e.2⟩)]
    by_cases c3 : formB (zs.take 48) = false
    · rw [if_pos c3, if_pos c3]
      exact ⟨rfl, fun e => by cases e⟩
    rw [if_neg c3] at h8 ⊢
    rw [if_neg c3]
    by_cases c4 : zs.length - (48 + sz h) < M + sz (s2B d M)
    · rw [if_pos c4] at h8; exact absurd rfl h8
    rw [if_neg c4] at h8 ⊢
    have hMd : M + sz (s2B d M) ≤ (zs.drop (48 + sz h)).length := by rw [List.length_drop]; omega
    rw [if_neg (by rw [List.length_append]; omega), take_app (by omega : M ≤ (zs.drop (48 + sz h)).length)]
    have n2 : s2B d M = true → B.num (zs.drop (48 + sz h) ++ q) M 4 = B.num (zs.drop (48 + sz h)) M 4 := fun e => num_front _ q M 4 (by rw [e] at hMd; simpa [sz] using hMd)
    by_cases c5 : s2B d M = true ∧ ¬ B.num (zs.drop (48 + sz h)) M 4 = (sumL ((zs.drop (48 + sz h)).take M) : Int)
    · rw [if_pos c5, if_pos ⟨c5.1, by rw [n2 c5.1]; exact c5.2⟩]
      exact ⟨rfl, fun e => by cases e⟩
    rw [if_neg c5, if_neg (fun e => c5 ⟨e.1, by rw [← n2 e.1]; exact e.2⟩)]
    exact ⟨rfl, fun _ => by omega⟩
  refine ⟨key.1, fun e => ⟨by unfold decN; rw [hM], ?_, ?_⟩⟩
  · have hle := key.2 e
    unfold decP
    rw [t48, hdr, take_app (by rw [List.length_drop]; omega)]
  · have hle := key.2 e
    unfold decN
    rw [← hMe]
    omega

/-- Where the PDU number k begins. -/
def posL (A : List Int) (h d : Bool) : Nat → Nat
  | 0 => 0
  | k + 1 => posL A h d k + decN (A.drop (posL A h d k)) h d
/-- The stream A holds K PDUs, and then no more. -/
structure Strm (A : List Int) (h d : Bool) (K : Nat) : Prop where
  ok : ∀ j, j < K → decE (A.drop (posL A h d j)) h d = 0
  last : decE (A.drop (posL A h d K)) h d ≠ 0
theorem dec_len (zs : List Int) (h d : Bool) (e : decE zs h d = 0) : decN zs h d ≤ zs.length ∧ 48 ≤ decN zs h d :=
  ⟨((dec_more zs [] h d (by rw [e]; decide)).2 e).2.2, by unfold decN; omega⟩
theorem pos_le {A : List Int} {h d : Bool} : ∀ (k : Nat), (∀ j, j < k → decE (A.drop (posL A h d j)) h d = 0) → posL A h d k ≤ A.length ∧ 48 * k ≤ posL A h d k
  | 0, _ => ⟨Nat.zero_le _, Nat.zero_le _⟩
  | k + 1, hk => by
    have ih := pos_le k (fun j hj => hk j (by omega))
    have h1 := dec_len _ h d (hk k (by omega))
    rw [List.length_drop] at h1
    show posL A h d k + _ ≤ _ ∧ _ ≤ posL A h d k + _
    omega
theorem strm_ex (A : List Int) (h d : Bool) : ∀ f k, A.length < f * 48 + posL A h d k → (∀ j, j < k → decE (A.drop (posL A h d j)) h d = 0) → ∃ K, Strm A h d K
  | 0, k, hf, hk => by have := (pos_le k hk).1; omega
  | f + 1, k, hf, hk => by
    by_cases e : decE (A.drop (posL A h d k)) h d = 0
    · have hk' : ∀ j, j < k + 1 → decE (A.drop (posL A h d j)) h d = 0 := fun j hj => by
        rcases Nat.lt_succ_iff_lt_or_eq.1 hj with h1 | rfl
        · exact hk j h1
        · exact e
      refine strm_ex A h d f (k + 1) ?_ hk'
      have h1 := dec_len _ h d e
      show _ < _ + (posL A h d k + _)
      omega
    · exact ⟨k, hk, e⟩
theorem strm (A : List Int) (h d : Bool) : ∃ K, Strm A h d K := strm_ex A h d (A.length + 1) 0 (by omega) (fun j hj => by omega)
/-- What a reader holds when the first at bytes have come and k PDUs were told. -/
structure Rst (A : List Int) (h d : Bool) (K at' k : Nat) (F : Int) (Wt : List Int) : Prop where
  kK : k ≤ K
  alt : (F = 0 ∧ posL A h d k ≤ at' ∧ Wt = (A.take at').drop (posL A h d k)) ∨ (F ≠ 0 ∧ F ≠ 8 ∧ k = K ∧ F = decE (A.drop (posL A h d K)) h d ∧ Wt = [])
theorem wt_app {A : List Int} {p at' : Nat} (hp : p ≤ at') (ha : at' ≤ A.length) : A.drop p = (A.take at').drop p ++ A.drop at' := by
  conv => lhs; rw [← List.take_append_drop at' A]
  exact drop_app (by rw [List.length_take]; omega)
/-- One PDU more is told. -/
theorem Rst.more {A : List Int} {h d : Bool} {K at' k : Nat} {Wt : List Int} (S : Strm A h d K) (r : Rst A h d K at' k 0 Wt) (ha : at' ≤ A.length) (e : decE Wt h d = 0) :
    k < K ∧ decP Wt h = decP (A.drop (posL A h d k)) h ∧ Rst A h d K at' (k + 1) 0 (Wt.drop (decN Wt h d)) ∧ decN Wt h d ≤ Wt.length := by
  rcases r.alt with ⟨_, hp, hW⟩ | ⟨h0, _⟩
  · have hA := wt_app hp ha
    rw [← hW] at hA
    have hm := dec_more Wt (A.drop at') h d (by rw [e]; decide)
    rw [← hA] at hm
    obtain ⟨e1, e2⟩ := hm
    obtain ⟨n1, p1, l1⟩ := e2 e
    rw [e] at e1
    have hk : k < K := by
      rcases Nat.lt_or_ge k K with h1 | h1
      · exact h1
      · have : k = K := by have := r.kK; omega
        subst this
        exact absurd e1 S.last
    have hWl : Wt.length = at' - posL A h d k := by rw [hW, List.length_drop, List.length_take]; omega
    have hp2 : posL A h d (k + 1) = posL A h d k + decN Wt h d := by show _ + _ = _; rw [n1]
    refine ⟨hk, p1.symm, ⟨hk, .inl ⟨rfl, by rw [hp2]; omega, by rw [hp2, hW, List.drop_drop]⟩⟩, l1⟩
  · exact absurd rfl h0
/-- What waits is wrong. -/
theorem Rst.bad {A : List Int} {h d : Bool} {K at' k : Nat} {Wt : List Int} (S : Strm A h d K) (r : Rst A h d K at' k 0 Wt) (ha : at' ≤ A.length) (e0 : decE Wt h d ≠ 0) (e8 : decE Wt h d ≠ 8) :
    Rst A h d K at' k (decE Wt h d) [] := by
  rcases r.alt with ⟨_, hp, hW⟩ | ⟨h0, _⟩
  · have hA := wt_app hp ha
    rw [← hW] at hA
    have e1 := (dec_more Wt (A.drop at') h d e8).1
    rw [← hA] at e1
    have hk : k = K := by
      rcases Nat.lt_or_ge k K with h1 | h1
      · rw [S.ok k h1] at e1; exact absurd e1.symm e0
      · have := r.kK; omega
    exact ⟨r.kK, .inr ⟨e0, e8, hk, by rw [← hk, e1], rfl⟩⟩
  · exact absurd rfl h0
/-- More has come. -/
theorem Rst.feed {A : List Int} {h d : Bool} {K at' k m : Nat} {F : Int} {Wt : List Int} (r : Rst A h d K at' k F Wt) (ha : at' + m ≤ A.length) :
    Rst A h d K (at' + m) k F (if F = 0 then Wt ++ (A.drop at').take m else Wt) := by
  rcases r.alt with ⟨h0, hp, hW⟩ | ⟨h0, h8, hk, hF, hW⟩
  · rw [if_pos h0]
    refine ⟨r.kK, .inl ⟨h0, by omega, ?_⟩⟩
    rw [hW, ← drop_app (by rw [List.length_take]; omega)]
    congr 1
    rw [List.take_add]
  · rw [if_neg h0]
    exact ⟨r.kK, .inr ⟨h0, h8, hk, hF, hW⟩⟩
/-- All has come, and nothing more is told. -/
theorem Rst.fin {A : List Int} {h d : Bool} {K k : Nat} {F : Int} {Wt : List Int} (S : Strm A h d K) (r : Rst A h d K A.length k F Wt) (e : F = 0 → decE Wt h d = 8) :
    k = K ∧ (if F = 0 then 8 else F) = decE (A.drop (posL A h d K)) h d := by
  rcases r.alt with ⟨h0, hp, hW⟩ | ⟨h0, h8, hk, hF, hW⟩
  · rw [List.take_length] at hW
    have e1 := e h0
    rw [hW] at e1
    have hk : k = K := by
      rcases Nat.lt_or_ge k K with h1 | h1
      · rw [S.ok k h1] at e1; cases e1
      · have := r.kK; omega
    rw [if_pos h0, ← hk, e1]
    exact ⟨rfl, rfl⟩
  · rw [if_neg h0]
    exact ⟨hk, hF⟩
theorem Rst.start (A : List Int) (h d : Bool) (K : Nat) : Rst A h d K 0 0 0 [] := ⟨Nat.zero_le _, .inl ⟨rfl, Nat.le_refl _, by simp [posL]⟩⟩
end Go.Proofs.Ytigfoldobkigeaa
