/-
  take, verify, sync and unmap, weakly: what they come to, whatever bytes came.
-/
import Derived.Test.YtklboieemljmiaaVDw
import Derived.Test.YtklboieemljmiaaVCw
namespace Go.Proofs.Ytklboieemljmiaa
open Go.RowKit
set_option linter.unusedVariables false
set_option linter.unusedSimpArgs false

theorem leastP (P : Nat → Prop) : ∀ n, P n → ∃ m, m ≤ n ∧ P m ∧ ∀ k, k < m → ¬ P k := fun n => by
  induction n using Nat.strongRecOn with
  | ind n ih =>
    intro hn
    by_cases h : ∃ k, k < n ∧ P k
    · obtain ⟨k, hk, hp⟩ := h
      obtain ⟨m, h1, h2, h3⟩ := ih k hk hp
      exact ⟨m, by omega, h2, h3⟩
    · exact ⟨n, Nat.le_refl _, hn, fun k hk hp => h ⟨k, hk, hp⟩⟩
/-- Two rows of blocks are alike, or differ first somewhere. -/
theorem same_or_dif (n : Nat) (xs bs : List Bk) (h1 : xs.length = n) (h2 : bs.length = n) (o1 : ∀ b ∈ xs, b.ok) (o2 : ∀ b ∈ bs, b.ok) :
    (∀ j x y, j < n → xs[j]? = some x → bs[j]? = some y → x.d = y.d) ∨ ∃ pl, pl < n * 16 ∧ Dif xs bs pl := by
  by_cases h : ∃ (j : Nat) (x y : Bk), xs[j]? = some x ∧ bs[j]? = some y ∧ x.d ≠ y.d
  · obtain ⟨j, hj⟩ := h
    obtain ⟨i, _, ⟨x, y, hx, hy, hne⟩, hmin⟩ := leastP (fun j => ∃ (x y : Bk), xs[j]? = some x ∧ bs[j]? = some y ∧ x.d ≠ y.d) j hj
    have hin : i < n := by have := (List.getElem?_eq_some_iff.1 hx).1; omega
    have l1 := (o1 x (List.mem_of_getElem? hx)).len
    have l2 := (o2 y (List.mem_of_getElem? hy)).len
    have hq : ∃ q, q < 16 ∧ x.d.getD q 0 ≠ y.d.getD q 0 := by
      apply Classical.byContradiction
      intro hc
      apply hne
      refine List.ext_getElem (by omega) (fun q hq1 hq2 => ?_)
      have : x.d.getD q 0 = y.d.getD q 0 := Classical.byContradiction (fun h => hc ⟨q, by omega, h⟩)
      rw [List.getD_eq_getElem?_getD, List.getD_eq_getElem?_getD, List.getElem?_eq_getElem hq1, List.getElem?_eq_getElem hq2] at this
      exact this
    obtain ⟨q0, hq0⟩ := hq
    obtain ⟨q, _, ⟨hq16, hqn⟩, hqm⟩ := leastP (fun q => q < 16 ∧ x.d.getD q 0 ≠ y.d.getD q 0) q0 hq0
    refine .inr ⟨i * 16 + q, by omega, i, q, x, y, rfl, hx, hy, hq16, hqn, fun r hr => ?_, fun r x' y' hr hx' hy' => ?_⟩
    · exact Classical.byContradiction (fun h => hqm r hr ⟨by omega, h⟩)
    · exact Classical.byContradiction (fun h => hmin r hr ⟨x', y', hx', hy', h⟩)
  · exact .inl (fun j x y _ hx hy => Classical.byContradiction (fun hne => h ⟨j, x, y, hx, hy, hne⟩))
theorem look_or (k p : Int) : ∀ (l : Nat) (bs : List Bk), lookS k p l bs = noS ∨ ((lookS k p l bs).key = 11)
  | _, [] => .inl rfl
  | l, b :: r => by
    unfold lookS
    split
    · exact look_or k p (l + 1) r
    · exact .inr rfl
theorem Dv.aft {w w' : World} {B : Nat} {tag : Tags} {st : St} {f : ByteArray} {S D N : Nat} {k : Int} {ca : Bool} (h : Dv w B tag st f S D N k ca) (hb : Below w.heap.size w w') : Aft w w' B tag st := ⟨tag, (h.below hb).wd, step_below hb tag _⟩
theorem knownB_pos {k p : Int} (h : knownB k p = true) (hp : p ≠ 0) (h0 : 0 ≤ k) (p0 : 0 ≤ p) : 1 ≤ k := by
  unfold knownB at h
  have := of_decide_eq_true h
  omega

/-- What act and its parts come to. -/
abbrev Pw (w : World) (B : Nat) (tag : Tags) (st : St) (e : Ending) (w' : World) : Prop := ∃ s st2, e = .returned (.agg (Sn.vals s)) ∧ Aft w w' B tag st2 ∧ (s.key = 5 → st2 = st)

theorem take_w (w : World) (B : Nat) (tag : Tags) (st : St) (f : ByteArray) (S D N : Nat) (k : Int) (M l m n cp : Nat) (a : Option Addr) (zs : List Int) (fua : Bool) (c : Cm) (h : Dv w B tag st f S D N k true) (hf1 : 1 ≤ f.size) (hf2 : f.size ≤ 32) (hN : N ≤ 4096) (hF : Fine M st f) (hM : M ≤ 1000) (h0 : 0 ≤ k) (h3 : k ≤ 3) (p0 : 0 ≤ c.pr) (p4 : c.pr ≤ 4) (hkn : knownB k c.pr = true)
    (hl : c.lba = (l : Nat)) (hbl : c.bl = (m : Nat)) (hin : l + m ≤ N) (hr : RdAt w (.slice a n cp) zs) (hlz : zs.length = n) (hby : Bytes zs) (hn : n ≤ 140737488355328) :
    Calls Try.prog 43 #[.pointer (some ⟨D, 0, none⟩), .agg c.vals, .slice a n cp, .bool fua] w (Pw w B tag st) := by
  have hc := hF.cnt
  have hcw := hF.wl
  by_cases hm : n = m * sz (c.pr != 0)
  · by_cases hp : c.pr = 0
    · rw [hp] at hm
      refine (take_0 w B tag st f S D N k true l m n cp a zs fua c h hf1 hf2 hN (by omega) (by omega) hF.fails hF.wrs h0 (by omega) hl hbl hin hr hlz hby hm hp).mono ?_
      rintro e w' ⟨he, hA⟩
      exact ⟨noS, _, he, hA, fun e => absurd e (by decide)⟩
    · have hm' : n = m * 24 := by rw [hm, show (c.pr != 0) = true from by simpa using hp]; rfl
      have hk1 := knownB_pos hkn hp h0 p0
      rcases look_or k c.pr l (unBs true zs m) with hlk | hlk
      · refine (take_t w B tag st f S D N k true l m n cp a zs fua c h hf1 hf2 hN (by omega) (by omega) hF.fails hF.wrs h0 (by omega) hl hbl hin hr hlz hby hm' p0 (by omega) hp hlk).mono ?_
        rintro e w' ⟨he, hA⟩
        exact ⟨noS, _, he, hA, fun e => absurd e (by decide)⟩
      · refine (take_bad w B tag st f S D N k true l m n cp a zs fua c h hf1 hf2 hN (by omega) (by omega) hF.fails hF.wrs h0 (by omega) hl hbl hin hr hlz hby hm' p0 (by omega) hp (by rw [hlk]; decide)).mono ?_
        rintro e w' ⟨he, hA⟩
        exact ⟨_, _, he, hA, fun e => absurd (hlk.symm.trans e) (by decide)⟩
  · refine (take_no w B tag st f S D N k true l m n cp a zs fua c h hbl hr hlz hby hn (by omega) hm).mono ?_
    rintro e w' ⟨he, hb⟩
    exact ⟨_, st, he, h.aft hb, fun _ => rfl⟩
theorem verify_w (w : World) (B : Nat) (tag : Tags) (st : St) (f : ByteArray) (S D N : Nat) (k : Int) (M l m n cp : Nat) (a : Option Addr) (zs : List Int) (c : Cm) (h : Dv w B tag st f S D N k true) (hf1 : 1 ≤ f.size) (hf2 : f.size ≤ 32) (hN : N ≤ 4096) (hF : Fine M st f) (hM : M ≤ 1000) (h0 : 0 ≤ k) (h3 : k ≤ 3) (p0 : 0 ≤ c.pr) (p4 : c.pr ≤ 4)
    (hl : c.lba = (l : Nat)) (hbl : c.bl = (m : Nat)) (hin : l + m ≤ N) (hlk : lookS k c.pr l (rdL (st.seen f) l m) = noS) (hr : RdAt w (.slice a n cp) zs) (hlz : zs.length = n) (hby : Bytes zs) (hn : n ≤ 140737488355328) :
    Calls Try.prog 44 #[.pointer (some ⟨D, 0, none⟩), .agg c.vals, .slice a n cp] w (Pw w B tag st) := by
  have hc := hF.cnt
  by_cases hbs : c.bs = true
  · by_cases hm : n = m * sz (c.pr != 0)
    · rcases same_or_dif m (rdL (st.seen f) l m) (unBs (c.pr != 0) zs m) (rdL_len _ _ _) (unBs_len _ _ _) (rdL_ok hF.good l m) (unBs_ok _ zs m hby (by rw [hlz]; exact hm)) with hd | ⟨pl, hpl, hd⟩
      · refine (verify_same w B tag st f S D N k true l m n cp a zs c h hf1 hf2 hN (by omega) hF.fails hF.good h0 (by omega) p0 (by omega) hl hbl hin hlk hbs hr hlz hby hm hd).mono ?_
        rintro e w' ⟨he, hA⟩
        exact ⟨noS, _, he, hA, fun e => absurd e (by decide)⟩
      · refine (verify_dif w B tag st f S D N k true l m n cp a zs c h hf1 hf2 hN (by omega) hF.fails hF.good h0 (by omega) p0 (by omega) hl hbl hin hlk hbs hr hlz hby hm pl (by omega) hd).mono ?_
        rintro e w' ⟨he, hA⟩
        exact ⟨_, _, he, hA, fun e => absurd e (show ¬ (14 : Int) = 5 by decide)⟩
    · refine (verify_no w B tag st f S D N k true l m n cp a zs c h hbl hbs hr hlz hby hn (by omega) hm).mono ?_
      rintro e w' ⟨he, hb⟩
      exact ⟨_, st, he, h.aft hb, fun _ => rfl⟩
  · refine (verify_plain w B tag st f S D N k true l m c _ h hf1 hf2 hN (by omega) hF.fails hF.good h0 (by omega) p0 (by omega) hl hbl hin hlk (by simpa using hbs)).mono ?_
    rintro e w' ⟨he, hA⟩
    exact ⟨noS, _, he, hA, fun e => absurd e (by decide)⟩
theorem sync_w (w : World) (B : Nat) (tag : Tags) (st : St) (f : ByteArray) (S D N : Nat) (k : Int) (M : Nat) (h : Dv w B tag st f S D N k true) (hf1 : 1 ≤ f.size) (hf2 : f.size ≤ 32) (hN : N ≤ 4096) (hF : Fine M st f) (hM : M ≤ 1000) :
    Calls Try.prog 45 #[.pointer (some ⟨D, 0, none⟩)] w (Pw w B tag st) := by
  have hc := hF.cnt
  have hcw := hF.wl
  refine (dsync_ok w B tag st f S D N k true h hf1 hf2 hN (by omega) (by omega) hF.fails hF.wrs).mono ?_
  rintro e w' ⟨he, hA⟩
  exact ⟨noS, _, he, hA, fun e => absurd e (by decide)⟩
theorem unmap_w (w : World) (WB : Nat) (tag : Tags) (st : St) (f : ByteArray) (S D N : Nat) (k : Int) (M n cp : Nat) (a : Option Addr) (zs : List Int) (h : Dv w WB tag st f S D N k true) (hf1 : 1 ≤ f.size) (hf2 : f.size ≤ 32) (hN : N ≤ 4096) (hF : Fine M st f) (hM : M ≤ 1000)
    (hr : RdAt w (.slice a n cp) zs) (hlz : zs.length = n) (hby : Bytes zs) (hn : n ≤ 140737488355328) :
    Calls Try.prog 47 #[.pointer (some ⟨D, 0, none⟩), .slice a n cp] w (Pw w WB tag st) := by
  by_cases hn0 : n = 0
  · subst hn0
    refine (unmap_nil w WB tag st f S D N k true h a cp).mono ?_
    rintro e w' ⟨he, hb⟩
    exact ⟨noS, st, he, h.aft hb, fun _ => rfl⟩
  by_cases hn8 : n < 8
  · refine (unmap_wrong w WB tag st f S D N k true h a n cp (by omega) (fun W _ => framed_short a n cp W hn8)).mono ?_
    rintro e w' ⟨he, hb⟩
    exact ⟨_, st, he, h.aft hb, fun _ => rfl⟩
  obtain ⟨a', c', hv, _, _, hcell⟩ := hr
  simp only [Value.slice.injEq] at hv
  obtain ⟨rfl, _, rfl⟩ := hv
  rcases hcell with h0 | ⟨b, off, rfl, hcell⟩
  · omega
  have hc : ∀ j, j < n → w.cell? ⟨b, off + j, none⟩ = some (.int .u8 (zs.getD j 0)) := fun j hj => hcell j _ (by
    unfold cels
    rw [List.getElem?_map, List.getElem?_eq_getElem (by omega), List.getD_eq_getElem?_getD, List.getElem?_eq_getElem (by omega)]
    rfl)
  have hbl : b < w.heap.size := World.block_lt_of_cell? w _ (hc 0 (by omega))
  have hcb : ∀ W, Below w.heap.size w W → ∀ j, j < n → W.cell? ⟨b, off + j, none⟩ = some (.int .u8 (zs.getD j 0)) := fun W hW j hj => (World.cell?_of_block (w := w) (w' := W) (a := ⟨b, off + j, none⟩) (hW.block b hbl)).trans (hc j hj)
  by_cases hfr : frmB zs n = true
  · have hd := of_decide_eq_true (show decide _ = true from hfr)
    have b2 := B.num_bd zs 2 hby 2
    obtain ⟨m, hm⟩ : ∃ m, n = 8 + 16 * m := ⟨(n - 8) / 16, by omega⟩
    have hm9 : m ≤ 9000 := by
      have : B.num zs 2 2 < 65536 := b2.2
      omega
    refine (unmap_many w WB tag st f S D N k M _ n _ h hf1 hf2 hN hF hM (by omega) (fun W hW => ?_) (fun W hW => ?_)).mono fun e w' hp => hp
    · have := framed_any b off n cp zs W (by omega) (by unfold maxLen; omega) hby (hcb W hW)
      rw [hfr] at this
      exact this
    · refine (parts_any W WB tag st f S D N k true (h.below hW) hN b off cp n m zs hby hm hm9 (Nat.lt_of_lt_of_le hbl hW.size) (hcb W hW)).mono ?_
      rintro e w' ⟨hb, ⟨s, he, hk⟩ | ⟨va, vc, ps, he, ho, hv, hin, hs, hL⟩⟩
      · exact ⟨none, 0, 0, s, [], he, hb, by omega, (fun h => by simp at h), (fun p hp => by cases hp), by simp [sumP], by simp, .inl hk⟩
      · exact ⟨va, ps.length, vc, noS, ps, he, hb, ho.sl, (fun h0 => by
          obtain ⟨gv, e1, e2, e3, _, e5⟩ := pr_new (tag := fun _ => none) ho h0 (fun g hg => ⟨hv g hg, rfl⟩)
          exact ⟨gv, e1, e2, e3, e5⟩), hin, hs, by omega, .inr ⟨rfl, rfl⟩⟩
  · refine (unmap_wrong w WB tag st f S D N k true h _ n _ (by omega) (fun W hW => ?_)).mono ?_
    · have := framed_any b off n cp zs W (by omega) (by unfold maxLen; omega) hby (hcb W hW)
      rw [show frmB zs n = false from by simpa using hfr] at this
      exact this
    · rintro e w' ⟨he, hb⟩
      exact ⟨_, st, he, h.aft hb, fun _ => rfl⟩
end Go.Proofs.Ytklboieemljmiaa
