/-
  TaskEnds.
-/
import Derived.Test.YtcnefmfmmgdidaaTEnd
import Derived.Test.YtcnefmfmmgdidaaTAbP
namespace Go.Proofs.Ytcnefmfmmgdidaa.taskEnds
open Go.Proofs.Ytcnefmfmmgdidaa
open Go.RowKit
set_option linter.unusedVariables false
set_option linter.unusedSimpArgs false

theorem mem_rdy (ts : List Tk) (st : Int) (u : Tk) : ∀ m, u ∈ rdyL ts st m ↔ ∃ k, k < m ∧ ts[k]? = some u ∧ mayT ts st k u = true
  | 0 => by simp [rdyL]
  | m + 1 => by
    unfold rdyL
    rw [List.mem_append, mem_rdy ts st u m]
    constructor
    · rintro (⟨k, h1, h2⟩ | h)
      · exact ⟨k, by omega, h2⟩
      · cases e : ts[m]? with
        | none => rw [e] at h; simp at h
        | some t =>
          rw [e] at h
          simp only at h
          split at h
          · rename_i hm
            simp at h
            subst h
            exact ⟨m, by omega, e, hm⟩
          · simp at h
    · rintro ⟨k, h1, h2, h3⟩
      by_cases e : k = m
      · subst e
        right
        rw [h2]
        simp [h3]
      · exact .inl ⟨k, by omega, h2, h3⟩

theorem may_one (ts : List Tk) (h0 : 0 < ts.length) (hs : ∀ t ∈ ts, t.st = false) : ∃ k u, k < ts.length ∧ ts[k]? = some u ∧ mayT ts (-1) k u = true := by
  by_cases h2 : hasA ts 2 = true
  · have h2' := h2
    unfold hasA at h2'
    rw [List.any_eq_true] at h2'
    obtain ⟨u, hu, ha⟩ := h2'
    obtain ⟨k, hk, rfl⟩ := List.mem_iff_getElem.1 hu
    refine ⟨k, ts[k], hk, List.getElem?_eq_getElem hk, ?_⟩
    unfold mayT
    simp at ha
    simp [hs _ hu, ha]
  · refine ⟨0, ts[0], h0, List.getElem?_eq_getElem h0, ?_⟩
    have hu : ts[0] ∈ ts := List.getElem_mem h0
    have hne : ¬ ts[0].ar = 2 := fun e => h2 (by unfold hasA; rw [List.any_eq_true]; exact ⟨_, hu, by simp [e]⟩)
    unfold mayT
    have h2f : hasA ts 2 = false := by simpa using h2
    have h1f : hasA (ts.take 0) 1 = false := rfl
    rw [h2f, h1f]
    simp only [hs _ hu]
    simp [hne]

/-- All of nexus 0, none started, no tag twice. -/
def Ok (ts : List Tk) : Prop := (∀ t ∈ ts, t.nx = 0 ∧ t.st = false) ∧ (ts.map Tk.tg).Nodup
theorem tag_one {ts : List Tk} (h : (ts.map Tk.tg).Nodup) {k j : Nat} {u v : Tk} (hk : ts[k]? = some u) (hj : ts[j]? = some v) (e : u.tg = v.tg) : k = j := by
  have hk' : k < (ts.map Tk.tg).length := by rw [List.length_map]; exact (List.getElem?_eq_some_iff.1 hk).1
  refine (List.getElem?_inj hk' h).1 ?_
  rw [List.getElem?_map, List.getElem?_map, hk, hj]
  simp [e]
theorem fidx_at {ts : List Tk} (h : (ts.map Tk.tg).Nodup) {k : Nat} {u : Tk} (hk : ts[k]? = some u) (h0 : u.nx = 0) : fidx (isT 0 u.tg) ts 0 = (k : Int) := by
  have hp : 0 ≤ fidx (isT 0 u.tg) ts 0 := by
    have := fidx_any (isT 0 u.tg) ts 0
    have h2 : ts.any (isT 0 u.tg) = true := List.any_eq_true.2 ⟨u, List.mem_of_getElem? hk, by simp [isT, h0]⟩
    rw [h2] at this
    simpa using this
  obtain ⟨j, v, e1, e2, e3⟩ := fidx_some _ ts 0 hp
  rw [Nat.zero_add] at e1
  rw [e1]
  simp [isT] at e3
  rw [tag_one h hk e2 e3.2.symm]
theorem set_tags {ts : List Tk} {k : Nat} {u : Tk} (hk : ts[k]? = some u) (b : Bool) : (ts.set k { u with st := b }).map Tk.tg = ts.map Tk.tg := by
  rw [List.map_set]
  refine List.ext_getElem? (fun j => ?_)
  rw [List.getElem?_set]
  split
  · rename_i e
    subst e
    have hk' := (List.getElem?_eq_some_iff.1 hk).1
    rw [if_pos (by rw [List.length_map]; exact hk'), List.getElem?_map, hk]
    rfl
  · rfl

theorem round_facts {ts : List Tk} (h : Ok ts) {k : Nat} {u : Tk} (hk : ts[k]? = some u) (hm : mayT ts (-1) k u = true) :
    startR ts (-1) 0 u.tg = 0 ∧ startL ts (-1) 0 u.tg = ts.set k { u with st := true } ∧ startR (ts.set k { u with st := true }) (-1) 0 u.tg = 12 ∧ startL (ts.set k { u with st := true }) (-1) 0 u.tg = ts.set k { u with st := true } ∧
    endR (ts.set k { u with st := true }) 0 u.tg = 0 ∧ endL (ts.set k { u with st := true }) 0 u.tg = ts.eraseIdx k ∧ Ok (ts.eraseIdx k) ∧ (ts.eraseIdx k).length + 1 = ts.length := by
  have hu := h.1 u (List.mem_of_getElem? hk)
  have hkl := (List.getElem?_eq_some_iff.1 hk).1
  have f1 := fidx_at h.2 hk hu.1
  have hk2 : (ts.set k { u with st := true })[k]? = some { u with st := true } := by rw [List.getElem?_set]; simp [hkl]
  have f2 : fidx (isT 0 u.tg) (ts.set k { u with st := true }) 0 = (k : Int) := fidx_at (u := { u with st := true }) (by rw [set_tags hk]; exact h.2) hk2 hu.1
  have a1 : startR ts (-1) 0 u.tg = 0 := by unfold startR; rw [if_neg (by rw [f1]; omega), f1, Int.toNat_natCast, hk]; simp [hm]
  have a3 : startR (ts.set k { u with st := true }) (-1) 0 u.tg = 12 := by
    unfold startR
    rw [if_neg (by rw [f2]; omega), f2, Int.toNat_natCast, hk2]
    simp [mayT]
  have a5 : endR (ts.set k { u with st := true }) 0 u.tg = 0 := by unfold endR; rw [if_neg (by rw [f2]; omega), f2, Int.toNat_natCast, hk2]; simp
  refine ⟨a1, ?_, a3, ?_, a5, ?_, ⟨fun t ht => h.1 t (List.mem_of_mem_eraseIdx ht), ?_⟩, ?_⟩
  · unfold startL; rw [if_pos a1, f1, Int.toNat_natCast, hk]
  · unfold startL; rw [a3, if_neg (by decide)]
  · unfold endL; rw [if_pos a5, f2, Int.toNat_natCast, List.eraseIdx_set_eq]
  · exact h.2.sublist (List.Sublist.map _ (List.eraseIdx_sublist _ _))
  · rw [List.length_eraseIdx_of_lt hkl]; omega

/-- The tasks behind k that came. -/
def Came1 (ts : List Tk) (k : Nat) : Prop := ts.length = min k 16 ∧ Ok ts ∧ ∀ t ∈ ts, t.tg < ts.length
theorem ent_first {ts : List Tk} {k : Nat} (x : Int) (hx : 0 ≤ x ∧ x ≤ 255) (h : Came1 ts k) : entR ts (-1) ⟨0, k, x % 3, false⟩ = (if k < 16 then 0 else 40, 0) ∧ Came1 (entL ts (-1) ⟨0, k, x % 3, false⟩) (k + 1) ∧ (entL ts (-1) ⟨0, k, x % 3, false⟩).length = if k < 16 then ts.length + 1 else ts.length := by
  obtain ⟨h1, h2, h3⟩ := h
  have hf : fidx (isT 0 (k : Int)) ts 0 = -1 := taskAborts.fidx_none _ ts 0 (fun t ht => by have := h3 t ht; simp [isT]; intro _; omega)
  have e : entR ts (-1) ⟨0, k, x % 3, false⟩ = (if k < 16 then 0 else 40, 0) := by
    unfold entR
    rw [if_neg (by simp only; omega), if_neg (by rw [hf]; decide), if_neg (by simp [kOff]; omega)]
    by_cases hk : k < 16
    · rw [if_neg (by omega), if_pos hk]
    · rw [if_pos (by omega), if_neg hk]
  refine ⟨e, ?_⟩
  unfold entL
  rw [e]
  by_cases hk : k < 16
  · rw [if_pos hk, if_pos hk, if_pos rfl]
    have hl : ts.length = k := by omega
    refine ⟨⟨by rw [List.length_append]; simp; omega, ⟨fun t ht => ?_, ?_⟩, fun t ht => ?_⟩, by simp⟩
    · rw [List.mem_append] at ht
      rcases ht with ht | ht
      · exact h2.1 t ht
      · simp at ht; subst ht; exact ⟨rfl, rfl⟩
    · rw [List.map_append, List.nodup_append]
      refine ⟨h2.2, by simp, fun a ha b hb => ?_⟩
      rw [List.mem_map] at ha
      obtain ⟨t, ht, rfl⟩ := ha
      simp at hb
      have := h3 t ht
      omega
    · rw [List.mem_append] at ht
      rw [List.length_append]
      rcases ht with ht | ht
      · have := h3 t ht; simp; omega
      · simp at ht; subst ht; simp; omega
  · rw [if_neg hk, if_neg hk, if_neg (by simp)]
    exact ⟨⟨by omega, h2, h3⟩, rfl⟩

section
variable {w0 W : World} {B : Nat} {ts : List Tk} {st : Int} {x : Value} {us : List Tk}
theorem ss_ready2 (h : Ss w0 W B ts st x us) : Calls Try.prog 15 #[.pointer (some ⟨B, 0, none⟩)] W fun e w' => ∃ y, e = .returned y ∧ Ss w0 w' B ts st y (rdyL ts st ts.length) := by
  obtain ⟨v, h1, h2, h3⟩ := h
  refine (ready_any _ B ts st v W h1).mono ?_
  rintro e w' ⟨y, he, ho, hb⟩
  exact ⟨y, he, ⟨v, h1.below hb, h2.trans (hb.mono h2.size), taskAborts.rowB_new (b1 := 0) h1 ho⟩⟩
theorem ss_start (n g : Int) (h : Ss w0 W B ts st x us) : Calls Try.prog 19 #[.pointer (some ⟨B, 0, none⟩), .int .i64 n, .int .u32 g] W fun e w' => e = .returned (.int .i64 (startR ts st n g)) ∧ Ss w0 w' B (startL ts st n g) st x us := by
  obtain ⟨v, h1, h2, h3⟩ := h
  refine (start_any _ B ts st v n g W h1).mono ?_
  rintro e w' ⟨he, g1, g2, g3⟩
  exact ⟨he, v, g1, h2.trans g3, h3.keep g2⟩
theorem ss_end (n g : Int) (h : Ss w0 W B ts st x us) : Calls Try.prog 20 #[.pointer (some ⟨B, 0, none⟩), .int .i64 n, .int .u32 g] W fun e w' => e = .returned (.int .i64 (endR ts n g)) ∧ Ss w0 w' B (endL ts n g) st x us := by
  obtain ⟨v, h1, h2, h3⟩ := h
  refine (end_any _ B ts st v n g W h1).mono ?_
  rintro e w' ⟨he, v', g1, g2, g3⟩
  exact ⟨he, v', g1, h2.trans g3, h3.keep g2⟩
/-- The first of the row beside. -/
theorem ss_first {g c m : Nat} {u : Tk} {r : List Tk} (h : Ss w0 W B ts st (.slice (some ⟨g, 0, none⟩) m c) (u :: r)) : W.cell? ⟨g, 1, none⟩ = some (.int .u32 u.tg) ∧ g < W.heap.size := by
  obtain ⟨v, _, _, ⟨b, ho⟩, _⟩ := h
  obtain ⟨a, c', hv, hs⟩ := ho.shape
  simp only [Value.slice.injEq] at hv
  obtain ⟨rfl, rfl, rfl⟩ := hv
  rcases hs with ⟨_, _, hz⟩ | ⟨g', e, _, hg, _, _, _, hr⟩
  · simp at hz
  · have e2 : (⟨g, 0, none⟩ : Addr) = ⟨g', 0, none⟩ := Option.some.inj e
    injection e2 with e3
    subst e3
    have := (range4 (hr 0 u rfl)).2.1
    simpa using ⟨this, hg⟩
end
end Go.Proofs.Ytcnefmfmmgdidaa.taskEnds
