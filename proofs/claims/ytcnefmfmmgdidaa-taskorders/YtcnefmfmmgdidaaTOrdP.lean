/-
  TaskOrders: the lists.
-/
import Derived.Test.YtcnefmfmmgdidaaTEnds
namespace Go.Proofs.Ytcnefmfmmgdidaa.taskOrders
open Go.Proofs.Ytcnefmfmmgdidaa
open Go.RowKit
set_option linter.unusedVariables false
set_option linter.unusedSimpArgs false

/-- The tags rise in the order of the tasks. -/
def Ord (ts : List Tk) (nxt : Nat) : Prop := (∀ t ∈ ts, t.nx = t.tg % 8 ∧ 0 ≤ t.tg ∧ t.tg < nxt ∧ 0 ≤ t.ar ∧ t.ar ≤ 2) ∧ (ts.map Tk.tg).Pairwise (· < ·)
theorem Ord.nodup {ts : List Tk} {n : Nat} (h : Ord ts n) : (ts.map Tk.tg).Nodup := by
  show List.Pairwise _ _
  exact List.pairwise_iff_getElem.2 (fun i j hi hj hij e => by have := List.pairwise_iff_getElem.1 h.2 i j hi hj hij; omega)
theorem Ord.lt {ts : List Tk} {n : Nat} (h : Ord ts n) {j k : Nat} {u t : Tk} (hj : ts[j]? = some u) (hk : ts[k]? = some t) (e : u.tg < t.tg) : j < k := by
  rcases Nat.lt_trichotomy j k with h1 | h1 | h1
  · exact h1
  · subst h1; rw [hj] at hk; cases hk; omega
  · have hj' : j < (ts.map Tk.tg).length := by rw [List.length_map]; exact (List.getElem?_eq_some_iff.1 hj).1
    have hk' : k < (ts.map Tk.tg).length := by rw [List.length_map]; exact (List.getElem?_eq_some_iff.1 hk).1
    have := List.pairwise_iff_getElem.1 h.2 k j hk' hj' h1
    rw [List.getElem_map, List.getElem_map] at this
    have hjl := (List.getElem?_eq_some_iff.1 hj).1
    have hkl := (List.getElem?_eq_some_iff.1 hk).1
    have ej : ts[j] = u := by rw [List.getElem?_eq_getElem hjl] at hj; exact Option.some.inj hj
    have ek : ts[k] = t := by rw [List.getElem?_eq_getElem hkl] at hk; exact Option.some.inj hk
    rw [ej, ek] at this
    omega

theorem ent_ord {ts : List Tk} {n : Nat} (x : Int) (hx : 0 ≤ x ∧ x ≤ 255) (h : Ord ts n) : (entR ts (-1) ⟨(n : Int) % 8, n, x % 3, false⟩ = (0, 0) ∨ entR ts (-1) ⟨(n : Int) % 8, n, x % 3, false⟩ = (40, 0)) ∧ Ord (entL ts (-1) ⟨(n : Int) % 8, n, x % 3, false⟩) (n + 1) := by
  have hf : fidx (isT ((n : Int) % 8) (n : Int)) ts 0 = -1 := taskAborts.fidx_none _ ts 0 (fun t ht => by have := (h.1 t ht).2.2.1; simp [isT]; intro _; omega)
  have e : entR ts (-1) ⟨(n : Int) % 8, n, x % 3, false⟩ = if 16 ≤ ts.length then (40, 0) else (0, 0) := by
    unfold entR
    rw [if_neg (by simp only; omega), if_neg (by rw [hf]; decide), if_neg (by simp [kOff]; omega)]
  have hO : Ord ts (n + 1) := ⟨fun t ht => by have := h.1 t ht; omega, h.2⟩
  unfold entL
  rw [e]
  by_cases hl : 16 ≤ ts.length
  · rw [if_pos hl, if_neg (by simp)]; exact ⟨.inr rfl, hO⟩
  · rw [if_neg hl, if_pos rfl]
    refine ⟨.inl rfl, fun t ht => ?_, ?_⟩
    · rw [List.mem_append] at ht
      rcases ht with ht | ht
      · exact hO.1 t ht
      · simp at ht; subst ht; exact ⟨rfl, by simp only; omega, by simp only; omega, by simp only; omega, by simp only; omega⟩
    · rw [List.map_append, List.pairwise_append]
      refine ⟨h.2, by simp, fun a ha b hb => ?_⟩
      rw [List.mem_map] at ha
      obtain ⟨t, ht, rfl⟩ := ha
      simp at hb
      have := (h.1 t ht).2.2.1
      omega

theorem fidx_tag {ts : List Tk} (h : (ts.map Tk.tg).Nodup) {k : Nat} {u : Tk} (hk : ts[k]? = some u) : fidx (isT u.nx u.tg) ts 0 = (k : Int) := by
  have hp : 0 ≤ fidx (isT u.nx u.tg) ts 0 := by
    have := fidx_any (isT u.nx u.tg) ts 0
    have h2 : ts.any (isT u.nx u.tg) = true := List.any_eq_true.2 ⟨u, List.mem_of_getElem? hk, by simp [isT]⟩
    rw [h2] at this
    simpa using this
  obtain ⟨j, v, e1, e2, e3⟩ := fidx_some _ ts 0 hp
  rw [Nat.zero_add] at e1
  rw [e1]
  simp [isT] at e3
  rw [taskEnds.tag_one h hk e2 e3.2.symm]

theorem start_ord {ts : List Tk} {n k : Nat} {u : Tk} (h : Ord ts n) (hk : ts[k]? = some u) (hm : mayT ts (-1) k u = true) : startR ts (-1) u.nx u.tg = 0 ∧ Ord (startL ts (-1) u.nx u.tg) n := by
  have f1 := fidx_tag h.nodup hk
  have a1 : startR ts (-1) u.nx u.tg = 0 := by unfold startR; rw [if_neg (by rw [f1]; omega), f1, Int.toNat_natCast, hk]; simp [hm]
  refine ⟨a1, ?_⟩
  have e : startL ts (-1) u.nx u.tg = ts.set k { u with st := true } := by unfold startL; rw [if_pos a1, f1, Int.toNat_natCast, hk]
  rw [e]
  refine ⟨fun t ht => ?_, by rw [taskEnds.set_tags hk]; exact h.2⟩
  rcases List.mem_or_eq_of_mem_set ht with ht | ht
  · exact h.1 t ht
  · subst ht; exact h.1 u (List.mem_of_getElem? hk)
theorem end_ord {ts : List Tk} {n k : Nat} {u : Tk} (h : Ord ts n) (hk : ts[k]? = some u) (hs : u.st = true) : endR ts u.nx u.tg = 0 ∧ Ord (endL ts u.nx u.tg) n := by
  have f1 := fidx_tag h.nodup hk
  have a1 : endR ts u.nx u.tg = 0 := by unfold endR; rw [if_neg (by rw [f1]; omega), f1, Int.toNat_natCast, hk]; simp [hs]
  refine ⟨a1, ?_⟩
  have e : endL ts u.nx u.tg = ts.eraseIdx k := by unfold endL; rw [if_pos a1, f1, Int.toNat_natCast]
  rw [e]
  exact ⟨fun t ht => h.1 t (List.mem_of_mem_eraseIdx ht), h.2.sublist (List.Sublist.map _ (List.eraseIdx_sublist _ _))⟩

/-- What the law asks of who starts and who is there. -/
theorem order_ok {ts : List Tk} {n k j : Nat} {t u : Tk} (h : Ord ts n) (hk : ts[k]? = some t) (hm : mayT ts (-1) k t = true) (hj : ts[j]? = some u) :
    (t.ar = 1 → ¬ u.tg < t.tg) ∧ (¬ t.ar = 2 → ¬ u.ar = 2 ∧ (u.tg < t.tg → ¬ u.ar = 1)) := by
  unfold mayT at hm
  by_cases hs : t.st = true
  · rw [if_pos hs] at hm; cases hm
  rw [if_neg hs, if_neg (by simp)] at hm
  by_cases h2 : t.ar = 2
  · exact ⟨fun e => by omega, fun e => absurd h2 e⟩
  rw [if_neg h2] at hm
  by_cases hh : hasA ts 2 = true
  · rw [if_pos hh] at hm; cases hm
  rw [if_neg hh] at hm
  have hu2 : ¬ u.ar = 2 := fun e => hh (by unfold hasA; rw [List.any_eq_true]; exact ⟨u, List.mem_of_getElem? hj, by simp [e]⟩)
  by_cases h1 : t.ar = 1
  · rw [if_pos h1] at hm
    have k0 : k = 0 := by simpa using hm
    have hlt : ¬ u.tg < t.tg := fun e => by have := h.lt hj hk e; omega
    exact ⟨fun _ => hlt, fun _ => ⟨hu2, fun e => absurd e hlt⟩⟩
  · rw [if_neg h1] at hm
    refine ⟨fun e => absurd e h1, fun _ => ⟨hu2, fun e e1 => ?_⟩⟩
    have hjk := h.lt hj hk e
    have : hasA (ts.take k) 1 = true := by
      unfold hasA
      rw [List.any_eq_true]
      refine ⟨u, ?_, by simp [e1]⟩
      exact List.mem_of_getElem? (i := j) (by rw [List.getElem?_take, if_pos hjk]; exact hj)
    rw [this] at hm
    cases hm
end Go.Proofs.Ytcnefmfmmgdidaa.taskOrders
