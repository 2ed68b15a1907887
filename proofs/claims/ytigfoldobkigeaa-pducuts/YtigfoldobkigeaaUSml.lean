/-
  Small functions of pdu: read, zero, Pad, number, the sum of bytes, appendPart.
-/
import Derived.Test.YtigfoldobkigeaaUMA
import Derived.Deep.DeepMust
namespace Go.Proofs.Ytigfoldobkigeaa
open Go.RowKit
set_option linter.unusedVariables false
set_option linter.unusedSimpArgs false

def sumL (zs : List Int) : Nat := 4294967295 - reg32 4294967295 zs
theorem sumL_lt (zs : List Int) : sumL zs < 4294967296 := by unfold sumL; omega
def padN (n : Nat) : Nat := (4 - n % 4) % 4
def zeroB (zs : List Int) : Bool := zs.all (fun z => z == 0)

theorem rd_row {w : World} {a : Option Addr} {n c : Nat} {zs : List Int} (h : RdAt w (.slice a n c) zs) : zs.length = n ∧ RowAt w a n zs := by
  obtain ⟨a', c', hv, h1, h2, h3⟩ := id h
  simp only [Value.slice.injEq] at hv
  obtain ⟨rfl, rfl, rfl⟩ := hv
  refine ⟨rfl, ?_⟩
  rcases h3 with h3 | ⟨b, off, rfl, hc⟩
  · exact .inl h3
  · exact .inr ⟨b, off, rfl, (rd_cells h).2⟩

theorem c32_rd (v : Value) (zs : List Int) (w : World) (hr : RdAt w v zs) (hm : zs.length ≤ maxLen) (hb : Bytes zs) :
    Calls Try.prog 32 #[v] w fun e w' => e = .returned (.int .u32 (sumL zs : Int)) ∧ w' = w := by
  obtain ⟨a, c, rfl⟩ := rd_len hr
  exact c32_any a zs.length c zs w rfl hm hb (rd_row hr).2
theorem rc32_rd (v : Value) (zs : List Int) (w : World) (hr : RdAt w v zs) (hm : zs.length ≤ maxLen) (hb : Bytes zs) :
    Calls Try.prog 33 #[v] w fun e w' => e = .returned (.int .u32 (sumL zs : Int)) ∧ w' = w := by
  obtain ⟨a, c, rfl⟩ := rd_len hr
  exact rc32_any a zs.length c zs w rfl hm hb (rd_row hr).2

theorem num4 (zs : List Int) (hb : B.Bytes zs) (i k : Nat) (hk : k ≤ 4) : 0 ≤ B.num zs i k ∧ B.num zs i k < 4294967296 := by
  have h := B.num_bd zs i hb k
  have h2 := B.pow_le k (4 - k)
  rw [show k + (4 - k) = 4 by omega] at h2
  exact ⟨h.1, by omega⟩

theorem read_any (v : Value) (zs : List Int) (i k : Nat) (w : World) (hr : RdAt w v zs) (hm : zs.length ≤ maxLen) (hb : B.Bytes zs) (hk1 : 1 ≤ k) (hk2 : k ≤ 4) (hi : i + k ≤ zs.length) :
    Calls Try.prog 34 #[v, .int .i64 i, .int .i64 k] w fun e w' => e = .returned (.int .u32 (B.num zs i k)) ∧ w' = w := by
  obtain ⟨a, c, rfl⟩ := rd_len hr
  have hg := get_in a zs.length c zs i k w hr rfl hm hb hk1 (by omega) hi
  obtain ⟨h0, h1⟩ := num4 zs hb i k hk2
  obtain ⟨n, hn⟩ : ∃ n, n = zs.length := ⟨_, rfl⟩
  obtain ⟨x, hx⟩ : ∃ x, x = B.num zs i k := ⟨_, rfl⟩
  rw [← hx] at hg h0 h1 ⊢
  rw [← hn] at hg ⊢
  have hw : IntKind.u32.wrap x = x := by simp only [IntKind.wrap, IntKind.bits, IntKind.signed]; simp; omega
  clear hx hn hr
  go_enter Try.func34, Try.ntmps34
  go_wp2_with (go_at_call 41; refine hg.mono ?_; rintro e w' ⟨rfl, rfl⟩)
  go_ret
  exact ⟨rfl, rfl⟩

theorem read4 (v : Value) (zs : List Int) (i : Nat) (w : World) (hr : RdAt w v zs) (hm : zs.length ≤ maxLen) (hb : B.Bytes zs) (hi : i + 4 ≤ zs.length) :
    Calls Try.prog 34 #[v, .int .i64 i, .int .i64 4] w fun e w' => e = .returned (.int .u32 (B.num zs i 4)) ∧ w' = w :=
  read_any v zs i 4 w hr hm hb (by decide) (by decide) hi

theorem odd_zero (zs : List Int) : ∀ f i, i + f = zs.length → ((B.oddFrom (B.ext zs [] 0) f i).1 < 0 ↔ ∀ j, i ≤ j → j < zs.length → zs.getD j 0 = 0)
  | 0, i, h => by
    simp only [B.oddFrom]
    exact ⟨fun _ j h1 h2 => absurd h2 (by omega), fun _ => by decide⟩
  | f + 1, i, h => by
    have e : B.ext zs [] 0 i = zs.getD i 0 := by simp [B.ext]
    by_cases h0 : zs.getD i 0 = 0
    · rw [B.oddFrom_skip _ _ _ (by rw [e]; exact h0), odd_zero zs f (i + 1) (by omega)]
      constructor
      · intro H j h1 h2
        by_cases hj : j = i
        · rw [hj]; exact h0
        · exact H j (by omega) h2
      · exact fun H j h1 h2 => H j (by omega) h2
    · rw [B.oddFrom_hit _ _ _ (by rw [e]; exact h0)]
      constructor
      · intro H; exact absurd H (by simp)
      · intro H; exact absurd (H i (Nat.le_refl _) (by omega)) h0

theorem zeroB_iff (zs : List Int) : zeroB zs = true ↔ ∀ j, j < zs.length → zs.getD j 0 = 0 := by
  unfold zeroB
  rw [List.all_eq_true]
  constructor
  · intro h j hj
    have := h zs[j] (List.getElem_mem hj)
    rw [List.getD_eq_getElem?_getD, List.getElem?_eq_getElem hj]
    simpa using this
  · intro h z hz
    obtain ⟨j, hj, rfl⟩ := List.getElem_of_mem hz
    have := h j hj
    rw [List.getD_eq_getElem?_getD, List.getElem?_eq_getElem hj] at this
    simpa using this

theorem zero_any (v : Value) (zs : List Int) (w : World) (hr : RdAt w v zs) (hm : zs.length ≤ maxLen) (hb : B.Bytes zs) :
    Calls Try.prog 28 #[v] w fun e w' => e = .returned (.bool (zeroB zs)) ∧ w' = w := by
  obtain ⟨a, c, rfl⟩ := rd_len hr
  have h := B.odd_any a none zs.length c 0 0 zs [] w hm (Nat.zero_le _) hb (fun j => by simp) (rd_row hr).2 (.inl rfl)
  have hz : zeroB zs = decide ((B.oddFrom (B.ext zs [] 0) zs.length 0).1 < 0) := by
    have h1 := odd_zero zs zs.length 0 (by omega)
    have h2 := zeroB_iff zs
    by_cases h3 : zeroB zs = true
    · rw [h3]; symm; rw [decide_eq_true_eq, h1]; exact fun j _ hj => h2.1 h3 j hj
    · have h4 : ¬ (B.oddFrom (B.ext zs [] 0) zs.length 0).1 < 0 := fun h5 => h3 (h2.2 (fun j hj => h1.1 h5 j (Nat.zero_le _) hj))
      simp [h3, h4]
  obtain ⟨x, hx⟩ : ∃ x, x = (B.oddFrom (B.ext zs [] 0) zs.length 0).1 := ⟨_, rfl⟩
  obtain ⟨y, hy⟩ : ∃ y, y = (B.oddFrom (B.ext zs [] 0) zs.length 0).2 := ⟨_, rfl⟩
  rw [← hx] at h hz
  rw [← hy] at h
  rw [hz]
  obtain ⟨n, hn⟩ : ∃ n, n = zs.length := ⟨_, rfl⟩
  rw [← hn] at h ⊢
  clear hx hy hz hn hr hm
  by_cases hlt : x < 0
  · go_enter Try.func28, Try.ntmps28
    go_wp2_with (go_at_call 35; refine h.mono ?_; rintro e w' ⟨rfl, rfl⟩)
    go_ret
    exact ⟨by simp [hlt], rfl⟩
  · go_enter Try.func28, Try.ntmps28
    go_wp2_with (go_at_call 35; refine h.mono ?_; rintro e w' ⟨rfl, rfl⟩)
    go_ret
    exact ⟨by simp [hlt], rfl⟩

theorem pad_any (n : Nat) (w : World) (hn : n ≤ 140737488355328) :
    Calls Try.prog 21 #[.int .i64 n] w fun e w' => e = .returned (.int .i64 (padN n)) ∧ w' = w := by
  have h0 : ¬ (n : Int) < 0 := by omega
  have e1 : ((n : Int).tmod 4) = ((n % 4 : Nat) : Int) := by rw [Int.tmod_eq_emod_of_nonneg (by omega)]; omega
  have e2 : (4 - ((n % 4 : Nat) : Int)).tmod 4 = (padN n : Int) := by unfold padN; rw [Int.tmod_eq_emod_of_nonneg (by omega)]; omega
  go_enter Try.func21, Try.ntmps21
  go_wp2
  go_ret
  refine ⟨B.ret_int ?_, rfl⟩
  unfold padN
  omega

theorem bigL_asc (v : Int) (n : Nat) : B.asc (List.replicate n 0) 0 n v n = bigL v n := by
  unfold bigL
  rw [B.desc_asc _ _ _ _ (by simp)]

set_option maxHeartbeats 1000000 in
theorem number_any (x : Int) (n : Nat) (w : World) (hn1 : 1 ≤ n) (hn2 : n ≤ 8) (hx : 0 ≤ x) (hx2 : x < 2 ^ (8 * n)) :
    Calls Try.prog 31 #[.int .u64 x, .int .i64 n] w fun e w' => ∃ g, e = .returned (.slice (some ⟨g, 0, none⟩) n n) ∧
      w'.ownsRow w.heap.size 5 1 (.slice (some ⟨g, 0, none⟩) n n) n (cels (bigL x n)) ∧ Below w.heap.size w w' := by
  obtain ⟨i0, hi0, hz0, hz1, hz2⟩ := info_parts Try.info5
  have hnm : n ≤ maxLen := by unfold maxLen; omega
  have hP := fun W (h : Kpt (W.ownsRow w.heap.size 5 1 (.slice (some ⟨w.heap.size, 0, none⟩) n n) n (cels (List.replicate n 0)))) => put_row w.heap.size w.heap.size 0 n n (List.replicate n 0) x W (by simp) (by omega) h.out hn1 hn2 (by omega) hx hx2
  replace hP := Kpt.mk hP
  clear hx hx2
  go_enter Try.func31, Try.ntmps31
  go_wp2_with (first
    | (go_at_call 38; go_must (have hm := m1; refine (hP.out _ hown1).mono ?_; rintro e w2 ⟨g, rfl, ho2, hb2⟩; rw [bigL_asc] at ho2; replace ho2 := Kpt.mk ho2; replace hb2 := Kpt.mk hb2))
    | (at_make; go_must (refine wpList_make_full _ rfl _ _ 24 rfl w.heap.size 5 i0 (.int .u8 0) 1 Try.underlying24 hi0 hz0 hz1 .i64 .i64 _ _ n rfl rfl rfl rfl (by rw [hz2]; omega) hnm (Nat.le_refl _) ?_; intro w1 hown1 hgr1; have hb1 : Kpt (Below w.heap.size w w1) := ⟨(Below.refl _ _).grown hgr1 (Nat.le_refl _) (fun k h => by cases h)⟩; rw [made_u8] at hown1; replace hown1 := Kpt.mk hown1; clear hgr1; have m1 : Kpt True := ⟨trivial⟩)))
  go_ret
  exact ⟨g, rfl, own_base ho2.out hb1.out.size, hb1.out.trans (hb2.out.mono hb1.out.size)⟩

/-- A head or a body, and its sum or not, behind what was laid. -/
def partL (zs : List Int) (s : Bool) : List Int := zs ++ (if s then bigL (sumL zs) 4 else [])
theorem partL_len (zs : List Int) (s : Bool) : (partL zs s).length = zs.length + (if s then 4 else 0) := by unfold partL; cases s <;> simp [bigL_len]

set_option maxHeartbeats 1000000 in
theorem part_any (base : Nat) (v pv : Value) (xs zs : List Int) (s : Bool) (w : World) (hown : w.ownsRow base 5 1 v xs.length (cels xs)) (hrd : RdAt w pv zs) (hx : xs.length ≤ 100000) (hz : zs.length ≤ 100000) (hb : Bytes zs) (hbase : base ≤ w.heap.size)
    (hap : ∀ g, v.ownBlock = some g → zs ≠ [] → pv.ownBlock ≠ some g) :
    Calls Try.prog 22 #[v, pv, .bool s] w fun e w' => ∃ v', e = .returned v' ∧ w'.ownsRow base 5 1 v' (xs ++ partL zs s).length (cels (xs ++ partL zs s)) ∧ Below base w w' := by
  have hlt := fun g (h : v.ownBlock = some g) => (World.ownsRow.lt hown g h).1
  have hzm : zs.length ≤ maxLen := by unfold maxLen; omega
  have hrd2 : Kpt (∀ W, w.grownBy W v.ownBlock → RdAt W pv zs) := ⟨fun W hg => by
    by_cases h0 : zs = []
    · subst h0
      obtain ⟨a, c, rfl, h1, h2, h3⟩ := hrd
      exact ⟨a, c, rfl, h1, h2, .inl rfl⟩
    · refine hrd.of_block fun g hg' => hg.block g (hrd.lt (List.length_pos_iff.2 h0) hg') (fun h => hap g h.symm h0 hg')⟩
  have hsl := sumL_lt zs
  have hS := fun W (h : RdAt W pv zs) => c32_rd pv zs W h hzm hb
  have hN := fun W => number_any (sumL zs) 4 W (by decide) (by decide) (by omega) (by simp; omega)
  have hwr : IntKind.u64.wrap (sumL zs : Int) = sumL zs := B.wrap64_id _ (by omega) (by omega)
  cases s with
  | false =>
    have e : xs ++ partL zs false = xs ++ zs := by simp [partL]
    rw [e]
    replace hown := Kpt.mk hown
    replace hrd := Kpt.mk hrd
    clear hS hN
    go_enter Try.func22, Try.ntmps22
    go_wp2_with (at_builtin; go_must (refine wpList_append_rd rfl _ _ rfl base v xs rfl hown.out pv zs rfl hrd.out (by omega) hbase ?_; intro v1 w1 ho1 hg1; replace ho1 := Kpt.mk ho1; replace hg1 := Kpt.mk hg1))
    go_ret
    exact ⟨v1, rfl, ho1.out, (Below.refl _ _).grown hg1.out hbase (fun k h => hlt k h)⟩
  | true =>
    have e : xs ++ partL zs true = (xs ++ zs) ++ bigL (sumL zs) 4 := by simp [partL]
    rw [e]
    obtain ⟨S, hSe⟩ : ∃ S, S = sumL zs := ⟨_, rfl⟩
    rw [← hSe] at hS hN hwr ⊢
    replace hS := Kpt.mk hS
    replace hN := Kpt.mk hN
    replace hown := Kpt.mk hown
    replace hrd := Kpt.mk hrd
    replace hlt := Kpt.mk hlt
    clear hSe hsl hap
    go_enter Try.func22, Try.ntmps22
    go_wp2_with (first
      | (at_builtin; have hm := m3; go_must (refine wpList_append_rd rfl _ _ rfl base v1 (xs ++ zs) rfl ho2.out (.slice (some ⟨g3, 0, none⟩) 4 4) (bigL S 4) rfl (own_rd ho3.out) (by rw [List.length_append, bigL_len]; omega) hs3.out ?_; intro v4 w4 ho4 hg4; replace ho4 := Kpt.mk ho4; replace hg4 := Kpt.mk hg4))
      | (go_at_call 31; have hm := m2; go_must (refine (hN.out _).mono ?_; rintro e w3 ⟨g3, rfl, ho3, hb3⟩; have ho2 : Kpt (w3.ownsRow base 5 1 v1 (xs ++ zs).length (cels (xs ++ zs))) := ⟨own_of_block ho1.out fun g hg => hb3.block g (World.ownsRow.lt ho1.out g hg).2⟩; have hs3 : Kpt (base ≤ w3.heap.size) := ⟨Nat.le_trans hs1.out hb3.size⟩; replace ho3 := Kpt.mk ho3; have hbe3 : Kpt (Below base w w3) := ⟨hbe1.out.trans (hb3.mono hs1.out)⟩; clear hb3; have m3 : Kpt True := ⟨trivial⟩))
      | (go_at_call 32; have hm := m1; go_must (refine (hS.out _ (hrd2.out _ hg1.out)).mono ?_; rintro e w2 ⟨rfl, rfl⟩; have m2 : Kpt True := ⟨trivial⟩))
      | (at_builtin; go_must (refine wpList_append_rd rfl _ _ rfl base v xs rfl hown.out pv zs rfl hrd.out (by omega) hbase ?_; intro v1 w1 ho1 hg1; replace ho1 := Kpt.mk ho1; replace hg1 := Kpt.mk hg1; have hs1 : Kpt (base ≤ w1.heap.size) := ⟨Nat.le_trans hbase hg1.out.size⟩; have hbe1 : Kpt (Below base w w1) := ⟨(Below.refl _ _).grown hg1.out hbase (fun k h => hlt.out k h)⟩; have m1 : Kpt True := ⟨trivial⟩)))
    go_ret
    exact ⟨v4, rfl, ho4.out, hbe3.out.grown hg4.out hs3.out (fun k h => (World.ownsRow.lt ho2.out k h).1)⟩
end Go.Proofs.Ytigfoldobkigeaa
