/-
  pdu: the document's Decode: plain facts.
-/
import Derived.Test.YtigfoldobkigeaaURE
import Derived.Test.YtigfoldobkigeaaUSplP
namespace Go.Proofs.Ytigfoldobkigeaa
open Go.RowKit
set_option linter.unusedVariables false
set_option linter.unusedSimpArgs false

theorem num_zero (zs : List Int) (hb : Bytes zs) (i : Nat) : ∀ k, B.num zs i k = 0 ↔ ∀ j, j < k → zs.getD (i + j) 0 = 0
  | 0 => ⟨fun _ j hj => absurd hj (by omega), fun _ => rfl⟩
  | k + 1 => by
    have h1 := (B.num_bd zs i hb k).1
    have h2 := hb (i + k)
    rw [B.num]
    constructor
    · intro h j hj
      have e1 : B.num zs i k = 0 := by omega
      by_cases hjk : j = k
      · subst hjk; omega
      · exact (num_zero zs hb i k).1 e1 j (by omega)
    · intro h
      rw [(num_zero zs hb i k).2 (fun j hj => h j (by omega)), h k (by omega)]
      rfl
theorem take_getD (zs : List Int) (m j : Nat) (h : j < m) : (zs.take m).getD j 0 = zs.getD j 0 := by
  rw [List.getD_eq_getElem?_getD, List.getElem?_take_of_lt h, ← List.getD_eq_getElem?_getD]
theorem drop_getD (zs : List Int) (m j : Nat) : (zs.drop m).getD j 0 = zs.getD (m + j) 0 := by
  rw [List.getD_eq_getElem?_getD, List.getElem?_drop, ← List.getD_eq_getElem?_getD]
theorem num_take (zs : List Int) (m i k : Nat) (h : i + k ≤ m) : B.num (zs.take m) i k = B.num zs i k := num_cong _ _ i k (fun q hq => take_getD zs m _ (by omega))
theorem num_drop (zs : List Int) (m i k : Nat) : B.num (zs.drop m) i k = B.num zs (m + i) k := by
  induction k with
  | zero => rfl
  | succ k ih => rw [B.num, B.num, ih, drop_getD, Nat.add_assoc]
theorem form_plain (zs : List Int) (hb : Bytes zs) (hl : 48 ≤ zs.length) : formB (zs.take 48) = true ↔ B.num zs 5 3 ≤ 8192 ∧ zs.getD 4 0 = 0 ∧ zs.getD 8 0 = 0 ∧ B.num zs 10 6 = 0 := by
  unfold formB
  rw [num_take zs 48 5 3 (by omega), take_getD zs 48 4 (by omega), take_getD zs 48 8 (by omega)]
  simp only [Bool.and_eq_true, decide_eq_true_eq, beq_iff_eq, and_assoc]
  rw [zeroB_iff, num_zero zs hb 10 6]
  have hlen : (((zs.take 48).drop 10).take 6).length = 6 := by simp; omega
  have hg : ∀ j, j < 6 → (((zs.take 48).drop 10).take 6).getD j 0 = zs.getD (10 + j) 0 := fun j hj => by rw [take_getD _ 6 j hj, drop_getD, take_getD _ 48 _ (by omega)]
  constructor
  · rintro ⟨h1, h2, h3, h4⟩
    exact ⟨h1, h2, h3, fun j hj => by rw [← hg j hj]; exact h4 j (by omega)⟩
  · rintro ⟨h1, h2, h3, h4⟩
    exact ⟨h1, h2, h3, fun j hj => by rw [hg j (by omega)]; exact h4 j (by omega)⟩
/-- Four bytes are a number's. -/
theorem four_bytes (zs : List Int) (hb : Bytes zs) (i : Nat) (hi : i + 4 ≤ zs.length) (S : Nat) (hS : S < 4294967296) : (zs.drop i).take 4 = bigL S 4 ↔ B.num zs i 4 = (S : Int) := by
  have hl : ((zs.drop i).take 4).length = 4 := by simp; omega
  have e1 : B.num ((zs.drop i).take 4) 0 4 = B.num zs i 4 := by rw [num_take _ 4 0 4 (by omega), num_drop]; rfl
  constructor
  · intro h
    rw [← e1, h, num_big S 4 (by omega) (by simp; omega)]
  · intro h
    have h2 : B.num ((zs.drop i).take 4) 0 4 = B.num (bigL S 4) 0 4 := by rw [e1, h, num_big S 4 (by omega) (by simp; omega)]
    have h3 := num_inj _ _ (Bytes.take (Bytes.drop hb i) 4) (bigL_bytes S 4 (by decide)) 0 4 h2
    refine List.ext_getElem? (fun j => ?_)
    by_cases hj : j < 4
    · have := h3 j hj
      rw [Nat.zero_add, List.getD_eq_getElem?_getD, List.getD_eq_getElem?_getD, List.getElem?_eq_getElem (by omega), List.getElem?_eq_getElem (by rw [bigL_len]; omega)] at this
      rw [List.getElem?_eq_getElem (by omega), List.getElem?_eq_getElem (by rw [bigL_len]; omega)]
      simpa using this
    · rw [List.getElem?_eq_none (by omega), List.getElem?_eq_none (by rw [bigL_len]; omega)]
theorem str_four (zs : List Int) (hb : Bytes zs) (i : Nat) (hi : i + 4 ≤ zs.length) (S : Nat) (hS : S < 4294967296) : (strOfNums ((zs.drop i).take 4) = strOfNums (bigL S 4)) ↔ B.num zs i 4 = (S : Int) := by
  rw [← four_bytes zs hb i hi S hS]
  exact ⟨str_inj (Bytes.take (Bytes.drop hb i) 4) (bigL_bytes S 4 (by decide)), fun h => by rw [h]⟩
theorem rd_cut {w : World} {b off n c : Nat} {zs : List Int} (h : RdAt w (.slice (some ⟨b, off, none⟩) n c) zs) (i k : Nat) (hik : i + k ≤ n) (hc : ¬ c = i) : RdAt w (.slice (some ⟨b, off + i, none⟩) k (c - i)) ((zs.drop i).take k) := by
  have hl := (rd_row h).1
  have := rd_drop h i (by omega)
  rw [show offK c off i = off + i by simp only [offK]; rw [if_neg hc]] at this
  exact rd_take this k (by rw [List.length_drop]; omega)
theorem wp_append_rdS {w : World} {o : Oper} {a : Act} {K : Act → World → Prop} {Q : Exit → Act → World → Prop} (d s : Operand)
    (ho : o.op = .call { callee := .builtin .append, args := #[d, s], argTypes := #[24, 24] })
    (base : Nat) (v : Value) (xs : List Int) (hd : a.eval d = v) (hown : w.ownsRow base 5 1 v xs.length (cels xs)) (ad : Addr) (sc k : Nat) (ds : List Int) (hs : a.eval s = .slice (some ad) k sc) (hrd : RdAt w (.slice (some ad) k sc) ds) (hlen : xs.length + ds.length ≤ 140737488355328) (hb : base ≤ w.heap.size)
    (h : ∀ v' w', w'.ownsRow base 5 1 v' (xs ++ ds).length (cels (xs ++ ds)) → w.grownBy w' v.ownBlock → K (a.put o.dst v') w') : o.wp Try.prog a w K Q := by
  obtain ⟨i0, hi0, hz0, hz1, hz2⟩ := info_parts Try.info5
  obtain ⟨sa, sc', hv, hsn, hsl, hsr⟩ := hrd
  simp only [Value.slice.injEq] at hv
  obtain ⟨rfl, rfl, rfl⟩ := hv
  have hnews : ∀ (j : Nat) (u : Value), (cels ds)[j]? = some u → w.cell? (ad.add j) = some u := by
    intro j u hj
    rcases hsr with h0 | ⟨b, off, hb, hc⟩
    · obtain rfl : ds = [] := List.eq_nil_of_length_eq_zero h0
      simp [cels] at hj
    · have hb' : ad = ⟨b, off, none⟩ := by simpa using hb
      subst hb'
      rw [Go.WideShapes.add_plain]
      exact hc j u hj
  obtain ⟨v', w', hr, h2, h3, h4, h5⟩ := run_append_own_at (P := Try.prog) w base 24 o.type 5 i0 (.int .u8 0) 1 1 Try.underlying24 hi0 hz0 hz1 hz2 rfl (by decide) v xs.length (cels xs) hown ad ds.length sc (cels ds) (by simp) hnews (cels_one _) (by unfold maxLen; omega) (by omega) hb
  unfold Oper.wp execOp
  simp only [ho, resolve, invoke, builtin, Sem.run_bind, Sem.run_pure, Result.andThen_ok, List.map_toArray, List.map_cons, List.map_nil, hd, hs, hr]
  exact h v' w' (by rw [List.length_append, cels_append]; exact h2) h3
end Go.Proofs.Ytigfoldobkigeaa
