/-
  The contracts of the small functions of commands.
-/
import Derived.Test.YtcgojpnjaloofaaCBox
namespace Go.Proofs.Ytcgojpnjaloofaa
open Go.RowKit
set_option linter.unusedVariables false
set_option linter.unusedSimpArgs false

/-- A fresh row of bytes. -/
def New (w w' : World) (v : Value) (zs : List Int) : Prop := w'.ownsRow w.heap.size 5 1 v zs.length (cels zs) ∧ Below w.heap.size w w'

theorem own_alloc (W : World) (b n base : Nat) (zs : List Int) (hb : b = W.heap.size) (hn : n = zs.length) (hm : n ≤ 1000) (hbase : base ≤ b) :
    (W.alloc (.cells (cels zs).toArray 5)).ownsRow base 5 1 (.slice (some ⟨b, 0, none⟩) n n) n (cels zs) := by
  subst hb hn
  refine ⟨by simp, .inr ⟨W.heap.size, zs.length, (cels zs).toArray, rfl, hbase, (MapKept.heap_alloc W _).1, Nat.le_refl _, by unfold maxLen; omega, by simp, List.take_of_length_le (by simp)⟩⟩

theorem new_alloc (w : World) (n : Nat) (zs : List Int) (hn : n = zs.length) (hm : n ≤ 1000) : New w (w.alloc (.cells (cels zs).toArray 5)) (.slice (some ⟨w.heap.size, 0, none⟩) n n) zs := by
  subst hn
  exact ⟨own_alloc w _ _ _ zs rfl rfl hm (Nat.le_refl _), (Below.refl _ _).alloc (Nat.le_refl _) _⟩

theorem fault_any (f b : Int) (w : World) : Calls Try.prog 14 #[.int .i64 f, .int .i64 b] w fun e w' => e = .returned (.agg (faultS f b).vals) ∧ Below w.heap.size w w' := by
  go_enter Try.func14, Try.ntmps14
  go_wp2
  refine bodyPost_ret (v := .agg (faultS f b).vals) (by simp [results, Try.results14, go_sem, faultS, Sn.vals]) rfl ⟨rfl, ?_⟩
  exact (Below.refl _ _).alloc (Nat.le_refl _) _

theorem rfault_any (f b : Int) (w : World) : Calls Try.prog 15 #[.int .i64 f, .int .i64 b] w fun e w' => e = .returned (.agg (faultS f b).vals) ∧ Below w.heap.size w w' := by
  go_enter Try.func15, Try.ntmps15
  go_wp2
  refine bodyPost_ret (v := .agg (faultS f b).vals) (by simp [results, Try.results15, go_sem, faultS, Sn.vals]) rfl ⟨rfl, ?_⟩
  exact (Below.refl _ _).alloc (Nat.le_refl _) _

set_option maxRecDepth 100000 in
theorem noOp_any (w : World) : Calls Try.prog 28 #[] w fun e w' => e = .returned (.agg noOpS.vals) ∧ Below w.heap.size w w' := by
  have H := fun w => Kpt.mk (fault_any 0 7 w)
  simp only [faultS, Sn.vals] at H
  go_enter Try.func28, Try.ntmps28
  go_wp2_with (first
    | (go_at_call 14; refine (H _).out.mono ?_; rintro e w1 ⟨rfl, hb⟩; have HB : Kpt (Below w.heap.size w w1) := ⟨((Below.refl _ _).alloc (Nat.le_refl _) _).trans (hb.mono (by simp))⟩; have B0 : Kpt (Bx w1 w.heap.size zeroS) := ⟨(bx_new w zeroS 30).below hb (by simp)⟩; clear hb)
    | (refine wpList_store_bx rfl 30 (.tmp 0) (.tmp 4) rfl w.heap.size zeroS noOpS.vals rfl rfl (B0.out.alloc _) rfl infoS (Sn.vals_one _) rfl ?_; intro w2 hB2 hg2; replace hB2 := Kpt.mk hB2; replace hg2 := Kpt.mk hg2))
  refine bodyPost_ret (v := .agg noOpS.vals) (by simp [results, Try.results28, asAddr, run_res hB2.out 30 _ Try.underlying30 rfl infoS]) rfl ⟨rfl, ?_⟩
  exact (HB.out.alloc (Nat.le_of_lt B0.out.lt) _).grown hg2.out (by have := B0.out.lt; simp; omega) (fun k h => by cases h; exact Nat.le_refl _)

theorem serves_any (op s : Int) (w : World) : Calls Try.prog 19 #[.int .u8 op, .int .u8 s] w fun e w' => e = .returned (.bool (servB op s)) ∧ w' = w := by
  by_cases h1 : op = 94
  · subst h1
    go_enter Try.func19, Try.ntmps19
    go_wp2
    go_ret
    exact ⟨B.ret_bool (by simp [servB]), rfl⟩
  by_cases h2 : op = 95
  · subst h2
    clear h1
    go_enter Try.func19, Try.ntmps19
    go_wp2
    go_ret
    exact ⟨B.ret_bool (by simp [servB]), rfl⟩
  by_cases h3 : op = 131
  · subst h3
    clear h1 h2
    go_enter Try.func19, Try.ntmps19
    go_wp2
    go_ret
    exact ⟨B.ret_bool (by simp only [servB]; simp; try (by_cases h : s = 0 <;> simp [h])), rfl⟩
  by_cases h4 : op = 158
  · subst h4
    clear h1 h2 h3
    go_enter Try.func19, Try.ntmps19
    go_wp2
    go_ret
    exact ⟨B.ret_bool (by simp only [servB]; simp; try (by_cases h : s = 16 <;> simp [h])), rfl⟩
  go_enter Try.func19, Try.ntmps19
  go_wp2
  go_ret
  exact ⟨B.ret_bool (by simp [servB, h1, h2, h3, h4]), rfl⟩

theorem rserves_any (op s : Int) (w : World) : Calls Try.prog 27 #[.int .u8 op, .int .u8 s] w fun e w' => e = .returned (.bool (servB op s)) ∧ w' = w := by
  by_cases h1 : op = 94
  · subst h1
    go_enter Try.func27, Try.ntmps27
    go_wp2
    go_ret
    exact ⟨B.ret_bool (by simp [servB]), rfl⟩
  by_cases h2 : op = 95
  · subst h2
    clear h1
    go_enter Try.func27, Try.ntmps27
    go_wp2
    go_ret
    exact ⟨B.ret_bool (by simp [servB]), rfl⟩
  by_cases h3 : op = 131
  · subst h3
    clear h1 h2
    go_enter Try.func27, Try.ntmps27
    go_wp2
    go_ret
    exact ⟨B.ret_bool (by simp only [servB]; simp; try (by_cases h : s = 0 <;> simp [h])), rfl⟩
  by_cases h4 : op = 158
  · subst h4
    clear h1 h2 h3
    go_enter Try.func27, Try.ntmps27
    go_wp2
    go_ret
    exact ⟨B.ret_bool (by simp only [servB]; simp; try (by_cases h : s = 16 <;> simp [h])), rfl⟩
  go_enter Try.func27, Try.ntmps27
  go_wp2
  go_ret
  exact ⟨B.ret_bool (by simp [servB, h1, h2, h3, h4]), rfl⟩

theorem number_any (b off n cap i k : Nat) (zs : List Int) (w : World) (hl : n ≤ 1000) (hk1 : 1 ≤ k) (hk2 : k ≤ 8) (hi : i + k ≤ n) (hb : B.Bytes zs)
    (hc : ∀ j, j < n → w.cell? ⟨b, off + j, none⟩ = some (.int .u8 (zs.getD j 0))) :
    Calls Try.prog 43 #[.slice (some ⟨b, off, none⟩) n cap, .int .i64 i, .int .i64 k] w fun e w' => e = .returned (.int .u64 (B.num zs i k)) ∧ w' = w := by
  have H := Kpt.mk (B.get_ok b off n cap i k zs w (by unfold maxLen; omega) hk1 hk2 hi hb hc)
  clear hc
  go_enter Try.func43, Try.ntmps43
  go_wp2_with (go_at_call 46; refine H.out.mono ?_; rintro e w' ⟨rfl, rfl⟩)
  go_ret
  exact ⟨rfl, rfl⟩

theorem num_bd4 (zs : List Int) (hb : B.Bytes zs) (i k : Nat) (hk : k ≤ 4) : 0 ≤ B.num zs i k ∧ B.num zs i k < 4294967296 := by
  have h := B.num_bd zs i hb k
  have h2 := B.pow_le k (4 - k)
  have e : (256 : Int) ^ (k + (4 - k)) = 4294967296 := by
    rw [show k + (4 - k) = 4 by omega]; decide
  omega

theorem num_bd8 (zs : List Int) (hb : B.Bytes zs) (i k : Nat) (hk : k ≤ 8) : 0 ≤ B.num zs i k ∧ B.num zs i k < 18446744073709551616 := by
  have h := B.num_bd zs i hb k
  have h2 := B.pow_le k (8 - k)
  have e : (256 : Int) ^ (k + (8 - k)) = 18446744073709551616 := by
    rw [show k + (8 - k) = 8 by omega]; decide
  omega

theorem count_any (b off n cap i k : Nat) (zs : List Int) (w : World) (hl : n ≤ 1000) (hk1 : 1 ≤ k) (hk2 : k ≤ 4) (hi : i + k ≤ n) (hb : B.Bytes zs)
    (hc : ∀ j, j < n → w.cell? ⟨b, off + j, none⟩ = some (.int .u8 (zs.getD j 0))) :
    Calls Try.prog 31 #[.slice (some ⟨b, off, none⟩) n cap, .int .i64 i, .int .i64 k] w fun e w' => e = .returned (.int .i64 (B.num zs i k)) ∧ w' = w := by
  have H := Kpt.mk (number_any b off n cap i k zs w hl hk1 (by omega) hi hb hc)
  have hx := num_bd4 zs hb i k hk2
  obtain ⟨x, e⟩ : ∃ x, x = B.num zs i k := ⟨_, rfl⟩
  rw [← e] at hx H ⊢
  clear hc e
  go_enter Try.func31, Try.ntmps31
  go_wp2_with (go_at_call 43; refine H.out.mono ?_; rintro e w' ⟨rfl, rfl⟩)
  go_ret
  exact ⟨by first | rfl | (congr 2; unfold wrap64; omega), rfl⟩

theorem lbaSize_10 (a : Option Addr) (cap : Nat) (w : World) : Calls Try.prog 44 #[.slice a 10 cap] w fun e w' => e = .returned (.int .i64 4) ∧ w' = w := by
  go_enter Try.func44, Try.ntmps44
  go_wp2
  go_ret
  exact ⟨rfl, rfl⟩
theorem lbaSize_16 (a : Option Addr) (cap : Nat) (w : World) : Calls Try.prog 44 #[.slice a 16 cap] w fun e w' => e = .returned (.int .i64 8) ∧ w' = w := by
  go_enter Try.func44, Try.ntmps44
  go_wp2
  go_ret
  exact ⟨rfl, rfl⟩
theorem place_10 (a : Option Addr) (cap : Nat) (w : World) : Calls Try.prog 34 #[.slice a 10 cap] w fun e w' => e = .returned (.tuple #[.int .i64 7, .int .i64 2]) ∧ w' = w := by
  go_enter Try.func34, Try.ntmps34
  go_wp2
  go_ret2
  exact ⟨rfl, rfl⟩
theorem place_16 (a : Option Addr) (cap : Nat) (w : World) : Calls Try.prog 34 #[.slice a 16 cap] w fun e w' => e = .returned (.tuple #[.int .i64 10, .int .i64 4]) ∧ w' = w := by
  go_enter Try.func34, Try.ntmps34
  go_wp2
  go_ret2
  exact ⟨rfl, rfl⟩
theorem place_6 (a : Option Addr) (cap : Nat) (w : World) : Calls Try.prog 34 #[.slice a 6 cap] w fun e w' => e = .returned (.tuple #[.int .i64 10, .int .i64 4]) ∧ w' = w := by
  go_enter Try.func34, Try.ntmps34
  go_wp2
  go_ret2
  exact ⟨rfl, rfl⟩
end Go.Proofs.Ytcgojpnjaloofaa
