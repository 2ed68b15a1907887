/-
  ModeKeeps: any parameters.
-/
import Derived.Test.YtdojhgapdocngaaMKeep
namespace Go.Proofs.Ytdojhgapdocngaa
open Go.RowKit
set_option linter.unusedVariables false
set_option linter.unusedSimpArgs false

theorem headE_key {lg : Bool} {p : List Int} {s : Sn} (h : headE lg p = some s) : s.key = 5 := by
  unfold headE at h
  split at h
  · cases h; rfl
  · cases hh : hbad p (hfr lg) (hsz lg) 0 with
    | none => rw [hh] at h; cases h
    | some i => rw [hh] at h; cases h; rfl
theorem pageE_key {r : List Int} {k : Int} {s : Sn} (h : pageE r k = some s) : s.key = 5 := by
  unfold pageE at h
  split at h
  · cases h; rfl
  · split at h
    · cases h; rfl
    · split at h
      · cases h; rfl
      · split at h
        · cases h; rfl
        · cases hh : pbad r (layB (r.getD 0 0) allV) ((layB (r.getD 0 0) allV).length - 2) 2 with
          | none => rw [hh] at h; cases h
          | some i => rw [hh] at h; cases h; rfl
theorem rdL_key {p : List Int} {s : Sn} : ∀ {f : Nat} {v : Vs} {k : Nat}, (rdL f v p k).2 = some s → s.key = 5
  | 0, v, k, h => by simp [rdL] at h
  | f + 1, v, k, h => by
    rw [rdL] at h
    split at h
    · cases h
    · split at h
      · rename_i s' hs'; cases h; exact pageE_key hs'
      · exact rdL_key h
theorem readL_key {v : Vs} {lg : Bool} {p : List Int} {s : Sn} (h : (readL v lg p).2 = some s) : s.key = 5 := by
  unfold readL at h
  split at h
  · rename_i s' hs'; cases h; exact headE_key hs'
  · exact rdL_key h

theorem row_of {w : World} {a : Option Addr} {len cap : Nat} {zs : List Int}
    (h : (a = none ∧ len = 0 ∧ cap = 0 ∧ zs = []) ∨
      ∃ x, a = some x ∧ len ≤ cap ∧ cap ≤ maxLen ∧ zs.length = cap ∧ (∀ i, i < zs.length → w.cell? (x.add i) = some (.int .u8 (zs.getD i 0))) ∧ ∀ n ∈ zs, (Lit.int .u8 n).wf = true) :
    (len = 0 ∧ RdAt w (.slice a 0 cap) []) ∨ ∃ b off p, a = some ⟨b, off, none⟩ ∧ Cl w b off p ∧ p.length = len ∧ 1 ≤ len ∧ len ≤ cap ∧ cap ≤ maxLen ∧ b < w.heap.size ∧ ∀ j, 0 ≤ p.getD j 0 ∧ p.getD j 0 ≤ 255 := by
  rcases h with ⟨rfl, rfl, rfl, _⟩ | ⟨x, rfl, hlc, hm, hz, hcell, hwz⟩
  · exact .inl ⟨rfl, rd_nil w⟩
  · by_cases h0 : len = 0
    · exact .inl ⟨h0, some x, cap, rfl, (fun h => by cases h), Nat.zero_le _, .inl rfl⟩
    · obtain ⟨b, off, rfl, hc⟩ := ints_at hcell (by omega)
      refine .inr ⟨b, off, zs.take len, rfl, fun j hj => ?_, by rw [List.length_take]; omega, by omega, hlc, hm, World.block_lt_of_cell? w ⟨b, off + 0, none⟩ (hc 0 (by omega)), fun j => ?_⟩
      · rw [List.length_take] at hj
        rw [hc j (by omega)]
        simp [List.getD_eq_getElem?_getD, show j < len by omega]
      · by_cases hj : j < len
        · have : (zs.take len).getD j 0 = zs.getD j 0 := by simp [List.getD_eq_getElem?_getD, hj]
          rw [this]
          have := range_u8 hwz j
          rw [List.getD_eq_getElem?_getD]
          constructor <;> omega
        · rw [List.getD_eq_getElem?_getD, List.getElem?_eq_none (by rw [List.length_take]; omega)]; simp

/-- Select of parameters that can be read. -/
theorem select_any (B : Nat) (n s : Vs) (c : Cm) (b off k : Nat) (p : List Int) (w : World) (hP : Pg w B n s) (hp : Cl w b off p) (h1 : 1 ≤ p.length) (hnc : p.length ≤ k) (hmx : k ≤ maxLen) (hb : b < w.heap.size) (hby : ∀ j, 0 ≤ p.getD j 0 ∧ p.getD j 0 ≤ 255) (v' : Vs) (hE : readL n c.lg p = (v', none)) :
    Calls Try.prog 12 #[.pointer (some ⟨B, 0, none⟩), .agg c.vals, .slice (some ⟨b, off, none⟩) p.length k] w fun e w' => e = .returned (.tuple #[.bool (neV v' n), .agg noS.vals, .bool true]) ∧ Pg w' B v' (if c.sv then v' else s) ∧ w.grownBy w' (some B) := by
  cases hsv : c.sv
  · exact select_keep B n s c b off k p w hP hp h1 hnc hmx hb hby v' hE hsv
  · exact select_save B n s c b off k p w hP hp h1 hnc hmx hb hby v' hE hsv

theorem keeps_any (v : Vs) (c : Cm) (a : Option Addr) (len cap : Nat) (zs : List Int) (w : World)
    (h : (a = none ∧ len = 0 ∧ cap = 0 ∧ zs = []) ∨
      ∃ x, a = some x ∧ len ≤ cap ∧ cap ≤ maxLen ∧ zs.length = cap ∧ (∀ i, i < zs.length → w.cell? (x.add i) = some (.int .u8 (zs.getD i 0))) ∧ ∀ n ∈ zs, (Lit.int .u8 n).wf = true) :
    Calls Try.prog 5 #[.agg v.vals, .agg c.vals, .slice a len cap] w fun e w' => e = .returned (.bool true) ∧ Below w.heap.size w w' := by
  rcases row_of h with ⟨rfl, hr⟩ | ⟨b, off, p, rfl, hcl, hl, h1, hlc, hmx, hb, hby⟩
  · refine keeps_go v c (.slice a 0 cap) [] w hr v v false true noS (fun W B hW hB hP => (select_none B c a cap W).mono (fun e w' ⟨h1, h2⟩ => ⟨h1, hP.below' h2, grown_of_below h2⟩)) (.inr ⟨rfl, rfl, (neV_eq.2 rfl).symm⟩)
  · subst hl
    have hcW : ∀ W, Below w.heap.size w W → Cl W b off p := fun W hW => hcl.below hW hb
    cases hE : (readL v c.lg p).2 with
    | some s =>
      refine keeps_go v c _ p w (cl_rd hcl rfl hlc) v v false false s (fun W B hW hB hP => (select_bad B v v c b off cap p W hP (hcW W hW) h1 hlc hmx (Nat.lt_of_lt_of_le hb hW.size) hby s hE).mono (fun e w' ⟨h1, h2⟩ => ⟨h1, hP.below' h2, grown_of_below h2⟩)) (.inl ⟨rfl, rfl, readL_key hE, rfl, rfl⟩)
    | none =>
      have hE' : readL v c.lg p = ((readL v c.lg p).1, none) := by rw [← hE]
      exact keeps_go v c _ p w (cl_rd hcl rfl hlc) (readL v c.lg p).1 _ (neV (readL v c.lg p).1 v) true noS (fun W B hW hB hP => select_any B v v c b off cap p W hP (hcW W hW) h1 hlc hmx (Nat.lt_of_lt_of_le hb hW.size) hby _ hE') (.inr ⟨rfl, rfl, rfl⟩)
end Go.Proofs.Ytdojhgapdocngaa
