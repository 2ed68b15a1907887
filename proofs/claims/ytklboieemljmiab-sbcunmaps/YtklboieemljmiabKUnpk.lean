/-
  The contracts of empty and unpack.
-/
import Derived.Test.YtklboieemljmiabKPack
namespace Go.Proofs.Ytklboieemljmiab
open Go.RowKit
set_option linter.unusedVariables false
set_option linter.unusedSimpArgs false

def emptyB : Bk := ⟨List.replicate 16 0, 65535, 65535, 4294967295⟩
def zeroB : Array Value := #[.int .u8 0, .int .u8 0, .int .u8 0, .int .u8 0, .int .u8 0, .int .u8 0, .int .u8 0, .int .u8 0, .int .u8 0, .int .u8 0, .int .u8 0, .int .u8 0, .int .u8 0, .int .u8 0, .int .u8 0, .int .u8 0, .int .u16 0, .int .u16 0, .int .u32 0]
theorem empty_ok : emptyB.ok := ⟨rfl, fun x hx => by simp [emptyB] at hx; omega, by decide, by decide, by decide⟩

set_option maxRecDepth 100000 in
set_option maxHeartbeats 1000000 in
theorem kempty_any (w : World) : Calls Try.prog 56 #[] w fun e w' => e = .returned (.agg emptyB.vals) ∧ Below w.heap.size w w' := by
  have hB0 := bx_new w zeroB 81
  have hv : emptyB.vals = #[.int .u8 0, .int .u8 0, .int .u8 0, .int .u8 0, .int .u8 0, .int .u8 0, .int .u8 0, .int .u8 0, .int .u8 0, .int .u8 0, .int .u8 0, .int .u8 0, .int .u8 0, .int .u8 0, .int .u8 0, .int .u8 0, .int .u16 65535, .int .u16 65535, .int .u32 4294967295] := rfl
  unfold zeroB at hB0
  replace hB0 := Kpt.mk hB0
  replace hv := Kpt.mk hv
  go_enter Try.func56, Try.ntmps56
  go_wp2_with (refine wpList_store_bx rfl 81 (.tmp 0) (.tmp 2) rfl w.heap.size _ emptyB.vals rfl (by rw [hv.out]; rfl) hB0.out rfl infoB emptyB.one rfl ?_; intro w2 hB2 hg2; have hb2 : Kpt (Below w.heap.size w w2) := ⟨((Below.refl _ _).alloc (Nat.le_refl _) _).grown hg2 (by simp) (fun k hk => by cases hk; exact Nat.le_refl _)⟩; replace hB2 := Kpt.mk hB2; clear hg2)
  refine bodyPost_ret (v := .agg emptyB.vals) (by simp [results, Try.results56, asAddr, run_res hB2.out 81 _ Try.underlying81 rfl infoB]) rfl ⟨rfl, hb2.out⟩

/-- The block of bytes that are told. -/
def upB (zs : List Int) : Bk := if zs.length < 25 ∨ zs.getD 0 0 ≠ 1 then emptyB else ⟨(zs.drop 1).take 16, B.num zs 17 2, B.num zs 19 2, B.num zs 21 4⟩

set_option maxRecDepth 100000 in
set_option maxHeartbeats 1000000 in
theorem unpack_empty (a : Option Addr) (n c : Nat) (x0 : Int) (w : World) (h : n < 25 ∨ (25 ≤ n ∧ ¬ x0 = 1 ∧ ∃ b off, a = some ⟨b, off, none⟩ ∧ b < w.heap.size ∧ w.cell? ⟨b, off, none⟩ = some (.int .u8 x0))) :
    Calls Try.prog 40 #[.slice a n c] w fun e w' => e = .returned (.agg emptyB.vals) ∧ Below w.heap.size w w' := by
  have hB0 := bx_new w zeroB 81
  unfold zeroB at hB0
  replace hB0 := Kpt.mk hB0
  have HE := fun W => Kpt.mk (kempty_any W)
  obtain ⟨V, hV⟩ : ∃ V, V = emptyB.vals := ⟨_, rfl⟩
  have hone := emptyB.one
  have hsz := Bk.size empty_ok
  rw [← hV] at HE hone hsz ⊢
  clear hV
  replace hone := Kpt.mk hone
  replace hsz := Kpt.mk hsz
  rcases h with h | ⟨h25, hx, b, off, rfl, hbl, hc⟩
  · have e1 : (n : Int) < 25 := by omega
    go_enter Try.func40, Try.ntmps40
    go_wp2_with (first
      | (go_at_call 56; refine (HE _).out.mono ?_; rintro e w1 ⟨rfl, hb1⟩; have hB1 : Kpt (Bx w1 w.heap.size _) := ⟨hB0.out.below hb1 (by simp)⟩; have hbe1 : Kpt (Below w.heap.size w w1) := ⟨((Below.refl _ _).alloc (Nat.le_refl _) _).trans (hb1.mono (by simp))⟩; clear hb1)
      | (refine wpList_store_bx rfl 81 (.tmp 2) (.tmp 19) rfl w.heap.size _ V rfl rfl hB1.out (by rw [hsz.out]; rfl) (by rw [hsz.out]; exact infoB) hone.out rfl ?_; intro w2 hB2 hg2; have hb2 : Kpt (Below w.heap.size w w2) := ⟨hbe1.out.grown hg2 hbe1.out.size (fun k hk => by cases hk; exact Nat.le_refl _)⟩; replace hB2 := Kpt.mk hB2; clear hg2))
    refine bodyPost_ret (v := .agg V) (by simp [results, Try.results40, asAddr, run_res hB2.out 81 _ Try.underlying81 rfl (by rw [hsz.out]; exact infoB)]) rfl ⟨rfl, hb2.out⟩
  · have e1 : ¬ (n : Int) < 25 := by omega
    have e0 : (0 : Int) < n := by omega
    have hx' : (x0 != 1) = true := by simp [hx]
    go_enter Try.func40, Try.ntmps40
    go_wp2_with (first
      | (go_at_call 56; refine (HE _).out.mono ?_; rintro e w1 ⟨rfl, hb1⟩; have hB1 : Kpt (Bx w1 w.heap.size _) := ⟨hB0.out.below hb1 (by simp)⟩; have hbe1 : Kpt (Below w.heap.size w w1) := ⟨((Below.refl _ _).alloc (Nat.le_refl _) _).trans (hb1.mono (by simp))⟩; clear hb1)
      | (refine wpList_store_bx rfl 81 (.tmp 2) (.tmp 19) rfl w.heap.size _ V rfl rfl hB1.out (by rw [hsz.out]; rfl) (by rw [hsz.out]; exact infoB) hone.out rfl ?_; intro w2 hB2 hg2; have hb2 : Kpt (Below w.heap.size w w2) := ⟨hbe1.out.grown hg2 hbe1.out.size (fun k hk => by cases hk; exact Nat.le_refl _)⟩; replace hB2 := Kpt.mk hB2; clear hg2))
    refine bodyPost_ret (v := .agg V) (by simp [results, Try.results40, asAddr, run_res hB2.out 81 _ Try.underlying81 rfl (by rw [hsz.out]; exact infoB)]) rfl ⟨rfl, hb2.out⟩
end Go.Proofs.Ytklboieemljmiab
