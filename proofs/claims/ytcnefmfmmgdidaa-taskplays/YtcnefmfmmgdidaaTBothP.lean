/-
  A set and the document's side by side: the calls.
-/
import Derived.Test.YtcnefmfmmgdidaaTPair
namespace Go.Proofs.Ytcnefmfmmgdidaa
open Go.RowKit
set_option linter.unusedVariables false
set_option linter.unusedSimpArgs false

/-- What holds of the tasks between the calls. -/
def Inv (ts : List Tk) (st : Int) : Prop := (st = -1 ∨ 0 ≤ st ∧ st ≤ 7) ∧ (∀ t ∈ ts, 0 ≤ t.ar ∧ t.ar ≤ 3 ∧ (st = -1 → ¬ t.ar = 3)) ∧ Once ts
theorem Inv.st0 {ts : List Tk} {st : Int} (h : Inv ts st) : st = -1 ∨ 0 ≤ st := by rcases h.1 with h | h; exact .inl h; exact .inr h.1
theorem inv_new : Inv [] (-1) := ⟨.inl rfl, fun t ht => by simp at ht, List.Pairwise.nil⟩
theorem Inv.sub {ts us : List Tk} {st : Int} (h : Inv ts st) (hs : us.Sublist ts) : Inv us st := ⟨h.1, fun t ht => h.2.1 t (hs.subset ht), h.2.2.sublist hs⟩
theorem inv_relieve {ts : List Tk} {st : Int} (h : Inv ts st) : Inv (ts.filter (fun t => !decide (t.ar = 3))) (-1) := by
  refine ⟨.inl rfl, fun t ht => ?_, h.2.2.sublist List.filter_sublist⟩
  rw [List.mem_filter] at ht
  have := h.2.1 t ht.1
  exact ⟨this.1, this.2.1, fun _ => by simpa using ht.2⟩
theorem inv_est {ts : List Tk} {n : Int} (h : Inv ts (-1)) (hn : 0 ≤ n ∧ n < 8) : Inv ts n := ⟨.inr (by omega), fun t ht => ⟨(h.2.1 t ht).1, (h.2.1 t ht).2.1, fun e => by omega⟩, h.2.2⟩
theorem fidx_neg (p : Tk → Bool) (ts : List Tk) (h : ¬ 0 ≤ fidx p ts 0) : ∀ t ∈ ts, p t = false := by
  have h1 := fidx_any p ts 0
  rw [decide_eq_false h] at h1
  intro t ht
  have := List.any_eq_false.1 h1.symm t ht
  simpa using this
theorem inv_ent {ts : List Tk} {st : Int} {t : Tk} (h : Inv ts st) (h0 : 0 ≤ t.ar) : Inv (entL ts st t) st := by
  unfold entL
  split
  · rename_i he
    unfold entR at he
    split at he
    · simp at he
    · rename_i h1
      split at he
      · simp at he
      · rename_i h2
        split at he
        · simp at he
        · rename_i h3
          refine ⟨h.1, fun u hu => ?_, ?_⟩
          · rw [List.mem_append] at hu
            rcases hu with hu | hu
            · exact h.2.1 u hu
            · simp at hu
              subst hu
              refine ⟨h0, by simp only; omega, fun e => ?_⟩
              subst e
              simp [kOff] at h3
              exact h3
          · unfold Once
            rw [List.pairwise_append]
            refine ⟨h.2.2, by simp, fun a ha b hb => ?_⟩
            simp at hb
            subst hb
            have := fidx_neg _ ts h2 a ha
            simpa [isT] using this
  · exact h
theorem inv_start {ts : List Tk} {st : Int} {n g : Int} (h : Inv ts st) : Inv (startL ts st n g) st := by
  unfold startL
  split
  · split
    · rename_i t ht
      have htm := List.mem_of_getElem? ht
      refine ⟨h.1, fun u hu => ?_, ?_⟩
      · rcases List.mem_or_eq_of_mem_set hu with hu | hu
        · exact h.2.1 u hu
        · subst hu; exact h.2.1 t htm
      · have ho := h.2.2
        unfold Once at ho ⊢
        have hm : (ts.set (fidx (isT n g) ts 0).toNat { t with st := true }).map (fun x => (x.nx, x.tg)) = ts.map (fun x => (x.nx, x.tg)) := by
          rw [List.map_set]
          refine List.ext_getElem? (fun j => ?_)
          rw [List.getElem?_set]
          split
          · rename_i e
            have hk := (List.getElem?_eq_some_iff.1 ht).1
            rw [if_pos (by rw [List.length_map]; exact hk), ← e, List.getElem?_map, ht]
            rfl
          · rfl
        have p1 : (ts.map (fun x => (x.nx, x.tg))).Pairwise (fun a b => ¬ (a.1 = b.1 ∧ a.2 = b.2)) := by rw [List.pairwise_map]; exact ho
        rw [← hm, List.pairwise_map] at p1
        exact p1
    · exact h
  · exact h
theorem inv_end {ts : List Tk} {st : Int} {n g : Int} (h : Inv ts st) : Inv (endL ts n g) st := by
  unfold endL
  split
  · exact h.sub (List.eraseIdx_sublist _ _)
  · exact h
theorem ent_vals (ts : List Tk) (st : Int) (t : Tk) : entR ts st t = (0, 1) ∨ entR ts st t = (0, 9) ∨ entR ts st t = (48, 0) ∨ entR ts st t = (40, 0) ∨ entR ts st t = (0, 0) := by
  unfold entR
  repeat' split
  all_goals simp
theorem drop_isT (n g : Int) : dropP 0 n g = isT n g := by funext t; simp [dropP, isT]
theorem drop_nx (n g : Int) : dropP 1 n g = (fun t => decide (t.nx = n)) := by funext t; simp [dropP]
theorem drop_all (n g : Int) : dropP 2 n g = (fun _ => true) := by funext t; simp [dropP]
theorem drop_aca (n g : Int) : dropP 3 n g = (fun t => decide (t.ar = 3)) := by funext t; simp [dropP]

/-- A row that came out of the set, beside the document's. -/
def RowC (W : World) (C : Nat) (u y : Value) (gs : List Tk) : Prop := (∃ base, Own base W y gs) ∧ ∀ g, y.ownBlock = some g → g ≠ C ∧ u.ownBlock ≠ some g

section
variable {w0 W W' : World} {B C T : Nat} {av : List Value} {ts us ts' us' : List Tk} {st su st' su' : Int} {v u v' u' : Value}
theorem Pt.row (h : Pt w0 W B C T av ts st v us su u) {y : Value} {gs : List Tk} {W' : World} (ho : Own W.heap.size W' y gs) : RowC W' C u y gs :=
  ⟨⟨_, ho⟩, fun g hg => ⟨fun e => by have a1 := (ho.lt hg).1; have a2 := h.b.lt; omega, fun e => by have a1 := (ho.lt hg).1; have a2 := (h.b.own.lt e).2; omega⟩⟩

theorem pt_enter (t : Tk) (h : Pt w0 W B C T av ts st v us su u) : Calls Try.prog 18 #[.pointer (some ⟨B, 0, none⟩), .agg t.vals] W fun e w' => e = .returned (.tuple #[.int .u8 (entR ts st t).1, .int .i64 (entR ts st t).2]) ∧ ∃ v', Pt w0 w' B C T av (entL ts st t) st v' us su u := by
  refine (enter_any _ B ts st v t W h.a).mono ?_
  rintro e w' ⟨he, v', g1, g2, g3⟩
  exact ⟨he, v', h.left g1 g2 g3⟩
theorem pt_renter (t : Tk) (h : Pt w0 W B C T av ts st v us su u) (hs : su = -1 ∨ 0 ≤ su) : Calls Try.prog 26 #[.pointer (some ⟨C, 0, none⟩), .agg t.valsR] W fun e w' => e = .returned (.tuple #[.int .i64 (entR us su t).1, .int .i64 (entR us su t).2]) ∧ ∃ u', Pt w0 w' B C T av ts st v (entL us su t) su u' := by
  refine (renter_any _ C us su u t W h.b hs).mono ?_
  rintro e w' ⟨he, v', g1, g2, g3⟩
  exact ⟨he, v', h.right g1 g2 g3⟩
theorem pt_start (n g : Int) (h : Pt w0 W B C T av ts st v us su u) : Calls Try.prog 19 #[.pointer (some ⟨B, 0, none⟩), .int .i64 n, .int .u32 g] W fun e w' => e = .returned (.int .i64 (startR ts st n g)) ∧ Pt w0 w' B C T av (startL ts st n g) st v us su u := by
  refine (start_any _ B ts st v n g W h.a).mono ?_
  rintro e w' ⟨he, g1, g2, g3⟩
  exact ⟨he, h.left g1 g2 g3⟩
theorem pt_rstart (n g : Int) (h : Pt w0 W B C T av ts st v us su u) (hs : su = -1 ∨ 0 ≤ su) : Calls Try.prog 27 #[.pointer (some ⟨C, 0, none⟩), .int .i64 n, .int .u32 g] W fun e w' => e = .returned (.int .i64 (startR us su n g)) ∧ Pt w0 w' B C T av ts st v (startL us su n g) su u := by
  refine (rstart_any _ C us su u n g W h.b hs).mono ?_
  rintro e w' ⟨he, g1, g2, g3⟩
  exact ⟨he, h.right g1 g2 g3⟩
theorem pt_end (n g : Int) (h : Pt w0 W B C T av ts st v us su u) : Calls Try.prog 20 #[.pointer (some ⟨B, 0, none⟩), .int .i64 n, .int .u32 g] W fun e w' => e = .returned (.int .i64 (endR ts n g)) ∧ ∃ v', Pt w0 w' B C T av (endL ts n g) st v' us su u := by
  refine (end_any _ B ts st v n g W h.a).mono ?_
  rintro e w' ⟨he, v', g1, g2, g3⟩
  exact ⟨he, v', h.left g1 g2 g3⟩
theorem pt_rend (n g : Int) (h : Pt w0 W B C T av ts st v us su u) (ho : Once us) : Calls Try.prog 28 #[.pointer (some ⟨C, 0, none⟩), .int .i64 n, .int .u32 g] W fun e w' => e = .returned (.int .i64 (endR us n g)) ∧ ∃ u', Pt w0 w' B C T av ts st v (endL us n g) su u' := by
  refine (rend_any _ C us su u n g W h.b ho).mono ?_
  rintro e w' ⟨he, v', g1, g2, g3⟩
  exact ⟨he, v', h.right g1 g2 g3⟩
theorem pt_abort (n g : Int) (h : Pt w0 W B C T av ts st v us su u) : Calls Try.prog 29 #[.pointer (some ⟨B, 0, none⟩), .int .i64 n, .int .u32 g] W fun e w' => ∃ y v', e = .returned y ∧ RowC w' C u y (ts.filter (isT n g)) ∧ Pt w0 w' B C T av (ts.filter (fun t => !isT n g t)) st v' us su u := by
  refine (abort_any _ B ts st v n g W h.a).mono ?_
  rintro e w' ⟨y, v', he, ho, g1, g2, g3, _⟩
  exact ⟨y, v', he, h.row ho, h.left g1 g2 g3⟩
theorem pt_abortAll (n : Int) (h : Pt w0 W B C T av ts st v us su u) : Calls Try.prog 25 #[.pointer (some ⟨B, 0, none⟩), .int .i64 n] W fun e w' => ∃ y v', e = .returned y ∧ RowC w' C u y (ts.filter (fun t => decide (t.nx = n))) ∧ Pt w0 w' B C T av (ts.filter (fun t => !decide (t.nx = n))) st v' us su u := by
  refine (abortAll_any _ B ts st v n W h.a).mono ?_
  rintro e w' ⟨y, v', he, ho, g1, g2, g3, _⟩
  exact ⟨y, v', he, h.row ho, h.left g1 g2 g3⟩
theorem pt_clear (h : Pt w0 W B C T av ts st v us su u) : Calls Try.prog 23 #[.pointer (some ⟨B, 0, none⟩)] W fun e w' => ∃ y v', e = .returned y ∧ RowC w' C u y ts ∧ Pt w0 w' B C T av [] (-1) v' us su u := by
  refine (clear_any _ B ts st v W h.a).mono ?_
  rintro e w' ⟨y, v', he, ho, g1, g2, g3, _⟩
  exact ⟨y, v', he, h.row ho, h.left g1 g2 g3⟩
theorem pt_relieve (h : Pt w0 W B C T av ts st v us su u) : Calls Try.prog 22 #[.pointer (some ⟨B, 0, none⟩)] W fun e w' => ∃ y v', e = .returned y ∧ RowC w' C u y (ts.filter (fun t => decide (t.ar = 3))) ∧ Pt w0 w' B C T av (ts.filter (fun t => !decide (t.ar = 3))) (-1) v' us su u := by
  refine (relieve_any _ B ts st v W h.a).mono ?_
  rintro e w' ⟨y, v', he, ho, g1, g2, g3, _⟩
  exact ⟨y, v', he, h.row ho, h.left g1 g2 g3⟩
theorem pt_rdrop {y : Value} {gs : List Tk} (kind n g : Int) (h : Pt w0 W B C T av ts st v us su u) (hr : RowC W C u y gs) (hk : 0 ≤ kind ∧ kind ≤ 3) :
    Calls Try.prog 30 #[.pointer (some ⟨C, 0, none⟩), .int .i64 kind, .int .i64 n, .int .u32 g] W fun e w' => ∃ y2 u', e = .returned y2 ∧ Rd w' y gs ∧ RdR w' y2 (us.filter (dropP kind n g)) ∧ Pt w0 w' B C T av ts st v (us.filter (fun t => !dropP kind n g t)) su u' := by
  refine (rdrop_any kind n g _ C us su u W h.b hk).mono ?_
  rintro e w' ⟨y2, u', he, ho, g1, g2, g3⟩
  obtain ⟨⟨b, h1⟩, h2⟩ := hr
  exact ⟨y2, u', he, (h1.of_block (fun g hg => g2.block g (h1.lt hg).2 (h2 g hg).1 (h2 g hg).2)).rd, ho.rd, h.right g1 g2 g3⟩
theorem pt_same {x y : Value} {gs : List Tk} (h : Pt w0 W B C T av ts st v us su u) (hx : Rd W x gs) (hy : RdR W y gs) (hl : gs.length ≤ 100) (hA : ∀ t ∈ gs, 0 ≤ t.ar ∧ t.ar ≤ 3) :
    Calls Try.prog 13 #[x, y] W fun e w' => e = .returned (.bool true) ∧ Pt w0 w' B C T av ts st v us su u ∧ Below W.heap.size W w' := by
  refine (alike_any x y gs W hx hy hl hA).mono ?_
  rintro e w' ⟨he, hb⟩
  exact ⟨he, h.grow hb, hb⟩
/-- The document's allegiance is another one. -/
theorem Pt.aca (n : Int) (h : Pt w0 W B C T av ts st v us su u) : Pt w0 (W.setCell ⟨C, 1, none⟩ (.int .i64 n)) B C T av ts st v us n u := by
  obtain ⟨g1, g2, g3⟩ := h.b.stand n
  exact h.right g1 g2 g3
end
end Go.Proofs.Ytcnefmfmmgdidaa
