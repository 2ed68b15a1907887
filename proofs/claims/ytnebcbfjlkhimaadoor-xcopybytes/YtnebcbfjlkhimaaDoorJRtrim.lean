/-
  The document's trim; a unit's descriptor.
-/
import Derived.Test.YtnebcbfjlkhimaaDoorJTrim
import Derived.Test.YtnebcbfjlkhimaaDoorJHd
namespace Go.Proofs.YtnebcbfjlkhimaaDoor
open Go.RowKit
set_option linter.unusedVariables false
set_option linter.unusedSimpArgs false
theorem cs_rd {w : World} {b off n c : Nat} {zs : List Int} (h : Cs w b off n zs) (k m : Nat) (hk : k + m ≤ n) (hn : n ≤ c) (hz : zs.length = n) : RdAt w (.slice (some ⟨b, off + k, none⟩) m (c - k)) ((zs.drop k).take m) := by
  have hl : ((zs.drop k).take m).length = m := by rw [List.length_take, List.length_drop]; omega
  refine ⟨some ⟨b, off + k, none⟩, c - k, by rw [hl], (fun e => by cases e), by omega, .inr ⟨b, off + k, rfl, fun j u hu => ?_⟩⟩
  unfold cels at hu
  rw [List.getElem?_map] at hu
  have hj : j < m := by
    rcases Nat.lt_or_ge j m with h1 | h1
    · exact h1
    · rw [List.getElem?_eq_none (by omega)] at hu; cases hu
  rw [List.getElem?_take_of_lt hj, List.getElem?_drop, List.getElem?_eq_getElem (by omega)] at hu
  simp only [Option.map_some, Option.some.injEq] at hu
  subst hu
  rw [Nat.add_assoc, h.2 (k + j) (by omega), List.getD_eq_getElem?_getD, List.getElem?_eq_getElem (by omega)]
  rfl
theorem bytes_dt {zs : List Int} (h : Bytes zs) (k m : Nat) : Bytes ((zs.drop k).take m) := (h.drop k).take m
theorem lf_true {a b : Bool} (h : a = b) : b = a := h.symm
set_option maxRecDepth 100000 in
set_option maxHeartbeats 1000000 in
theorem rtrim_any (b off n cap : Nat) (zs : List Int) (w : World) (hn : n ≤ 1000) (hcap : n ≤ cap) (hz : zs.length = n) (hc : Cs w b off n zs) :
    Calls Tryd.prog 20 #[.slice (some ⟨b, off, none⟩) n cap] w fun e w' => e = .returned (.string (strOfNums (trimL zs))) ∧ w' = w := by
  have hcs := Kpt.mk hc.2
  have hr : Kpt (∀ m, m ≤ n → RdAt w (.slice (some ⟨b, off, none⟩) m cap) (zs.take m)) := ⟨fun m hm => by have := cs_rd hc 0 m (by omega) hcap hz; simpa using this⟩
  have hzK := Kpt.mk hz
  clear hc hz
  go_enter Tryd.func20, Tryd.ntmps20
  go_wp2
  go_loop [3] (fun t => ∃ k : Nat, k ≤ n ∧ t = .int .i64 k ∧ Kpt (trimN zs k = trimN zs n)) (fun t => (intOf t).toNat)
  case atStart => exact ⟨n, Nat.le_refl _, rfl, ⟨rfl⟩⟩
  case round =>
    obtain ⟨k, hk, rfl, ht⟩ := hrel
    by_cases hlast : k = 0 ∨ zs.getD (k - 1) 0 ≠ 32
    · have he : Kpt (zs.take k = trimL zs) := ⟨by
        unfold trimL
        rw [hzK.out, ← ht.out]
        congr 1
        rcases hlast with h | h
        · subst h; rfl
        · cases k with
          | zero => rfl
          | succ m => rw [trimN, if_neg (by simpa using h)]⟩
      have hcv := conv_rd (hr.out k hk)
      rw [he.out] at hcv
      rcases hlast with h | h
      · subst h
        clear ht
        go_wp2
        go_ret
        exact ⟨rfl, rfl⟩
      · cases k with
        | zero =>
          clear ht h
          go_wp2
          go_ret
          exact ⟨rfl, rfl⟩
        | succ m =>
          have hx := hcs.out m (by omega)
          obtain ⟨x, hxx⟩ : ∃ x, x = zs.getD m 0 := ⟨_, rfl⟩
          rw [Nat.add_sub_cancel, ← hxx] at h
          rw [← hxx] at hx
          have h2 : (x == 32) = false := beq_eq_false_iff_ne.mpr h
          clear ht hxx
          go_wp2
          go_ret
          exact ⟨rfl, rfl⟩
    · cases k with
      | zero => exact absurd (.inl rfl) hlast
      | succ m =>
        have h1 : zs.getD m 0 = 32 := by
          have := (not_or.1 hlast).2
          rw [Nat.add_sub_cancel] at this
          exact Decidable.not_not.1 this
        have ht' : Kpt (trimN zs m = trimN zs n) := ⟨by rw [← ht.out, trimN, if_pos h1]⟩
        have hx := hcs.out m (by omega)
        rw [h1] at hx
        clear ht h1 hlast
        go_wp2
        go_round
        case rel => exact ⟨m, by omega, rfl, ht'⟩
        case measure => simp [intOf]
end Go.Proofs.YtnebcbfjlkhimaaDoor
