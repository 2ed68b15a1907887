/-
  The contract of awake.
-/
import Derived.Test.YtmjpomkofgfbbaaKRead
namespace Go.Proofs.Ytmjpomkofgfbbaa
open Go.RowKit
set_option linter.unusedVariables false
set_option linter.unusedSimpArgs false

abbrev nmF : ByteArray := ⟨#[102]⟩
def b7 : Bk := ⟨List.replicate 16 0, 0, 7, 0⟩
theorem b7_ok : b7.ok := ⟨rfl, fun x hx => by simp [b7] at hx; omega, by decide, by decide, by decide⟩
theorem bytes_mem {zs : List Int} (h : ∀ x ∈ zs, 0 ≤ x ∧ x ≤ 255) : B.Bytes zs := by
  intro j
  rw [List.getD_eq_getElem?_getD]
  cases hj : zs[j]? with
  | none => simp
  | some x => exact h x (List.mem_of_getElem? hj)
theorem st0_fails (i : Int) : st0.fails i = false := rfl
theorem a7_seen : (wrSt st0 nmF 1 [b7] 1).seen nmF = some (laidL [] 25 (pkB b7)) := by
  simp [wrSt, Chg.run, st0, updF]
theorem a7_list : laidL [] 25 (pkB b7) = List.replicate 25 0 ++ pkB b7 := by decide
theorem a7_block : (upB (bytesAt ((wrSt st0 nmF 1 [b7] 1).seen nmF) 1)) = b7 := by
  rw [a7_seen]
  have : (upB ((List.drop (1 * 25) (laidL [] 25 (pkB b7))).take 25)) = b7 := by rfl
  exact this
theorem a7_bytes : ∀ zs, (wrSt st0 nmF 1 [b7] 1).seen nmF = some zs → Byts zs := by
  intro zs h
  rw [a7_seen] at h
  simp only [Option.some.injEq] at h
  subst h
  exact bytes_mem (by decide)

theorem Step.below {w w' : World} {tag tag' : Tags} (s : Step w w' tag tag' (fun _ => True)) {n : Nat} (hn : n ≤ w.heap.size) (ht : ∀ i, i < n → tag i = none) : Below n w w' ∧ ∀ i, i < n → tag' i = none :=
  ⟨⟨s.os, s.tape, s.output, s.size, fun i hi => s.block i (by omega) (by simp [ht i hi])⟩, fun i hi => s.bare i (by omega) (ht i hi)⟩

theorem wd_none {w : World} {B : Nat} {tag : Tags} {st : St} (h : Wd w B tag st) {i : Nat} (hi : w.heap.size ≤ i) : tag i = none := by
  cases ht : tag i with
  | none => rfl
  | some t => have := h.lt i (by rw [ht]; simp); omega

set_option maxRecDepth 100000 in
set_option maxHeartbeats 2000000 in
theorem awake_any (w : World) : Calls Try.prog 9 #[] w fun e w' => e = .returned (.bool true) ∧ Below w.heap.size w w' := by
  have HN := Kpt.mk (new_any w)
  go_enter Try.func9, Try.ntmps9
  go_wp2_with fail
  refine HN.out.mono ?_
  rintro e w1 ⟨B, tag, rfl, hW1, hg1, ht1⟩
  have hb1 : Kpt (Below w.heap.size w w1) := ⟨(Below.refl _ _).grown hg1 (Nat.le_refl _) (fun k hk => by cases hk)⟩
  have HO := Kpt.mk (kopen_any w1 B 4 nmF true (by decide) (by decide) (by decide) (by decide))
  replace hW1 := Kpt.mk hW1
  replace ht1 := Kpt.mk ht1
  clear HN hg1
  go_wp2_with fail
  refine HO.out.mono ?_
  rintro e w2 ⟨rfl, hw2⟩
  have hS2 : Kpt (Sto w2 tag w1.heap.size B nmF 4 true) := ⟨by rw [hw2]; exact sto_new w1 tag B 4 nmF true (wd_none hW1.out (Nat.le_refl _))⟩
  have hbe2 : Below w1.heap.size w1 w2 := by rw [hw2]; exact (Below.refl _ _).alloc (Nat.le_refl _) _
  have hW2 := Kpt.mk (hW1.out.step (step_below hbe2 tag (fun _ => False)))
  have hb2 : Kpt (Below w.heap.size w w2) := ⟨hb1.out.trans (hbe2.mono hb1.out.size)⟩
  have hS2c := hS2.out.lt
  clear HO hw2 hb1 hbe2 hW1
  obtain ⟨S, hS⟩ : ∃ S, S = w1.heap.size := ⟨_, rfl⟩
  rw [← hS] at hS2 hS2c ⊢
  clear hS
  go_wp2_with fail
  obtain ⟨w3, hw3⟩ : ∃ w3, w3 = w2.alloc (.cells #[.int .u8 0, .int .u8 0, .int .u8 0, .int .u8 0, .int .u8 0, .int .u8 0, .int .u8 0, .int .u8 0, .int .u8 0, .int .u8 0, .int .u8 0, .int .u8 0, .int .u8 0, .int .u8 0, .int .u8 0, .int .u8 0, .int .u16 0, .int .u16 7, .int .u32 0] 66) := ⟨_, rfl⟩
  rw [← hw3]
  have hbx : Bx w3 w2.heap.size b7.vals := by rw [hw3]; exact bx_new w2 b7.vals 66
  have hbe3 : Below w2.heap.size w2 w3 := by rw [hw3]; exact (Below.refl _ _).alloc (Nat.le_refl _) _
  have hW3 := hW2.out.step (step_below hbe3 tag (fun _ => False))
  have hS3 := hS2.out.below hbe3
  have hv : Bks w3 (.slice (some ⟨w2.heap.size, 0, none⟩) 1 1) [b7] := ⟨_, 1, rfl, by decide, fun j b hj => by
    have hj0 : j = 0 := by have := (List.getElem?_eq_some_iff.1 hj).1; simp at this; omega
    subst hj0
    simp at hj
    subst hj
    exact ⟨b7_ok, w2.heap.size, 0, rfl, hbx.lt, by have := hbx.range; simpa [Bk.vals] using this⟩⟩
  have HWr : Calls Try.prog 16 #[.pointer (some ⟨S, 0, none⟩), .int .i64 1, .slice (some ⟨w2.heap.size, 0, none⟩) 1 1, .bool false] w3 fun e w' => e = .returned (.tuple #[.int .i64 1, .int .i64 0]) ∧ ∃ tag', Wd w' B tag' (wrSt st0 nmF 1 [b7] 1) ∧ Step w3 w' tag tag' (fun _ => True) :=
    kwrite_any w3 B tag st0 S 4 1 nmF true false (.slice (some ⟨w2.heap.size, 0, none⟩) 1 1) [b7] hW3 hS3 (by decide) (by decide) (by decide) (by decide) (by decide) st0_fails (fun c hc => by cases hc) hv (fun g hg => by simp [Value.ownBlock] at hg; rw [← hg]; exact wd_none hW2.out (Nat.le_refl _)) (by decide)
  have hb3 : Kpt (Below w.heap.size w w3) := ⟨hb2.out.trans (hbe3.mono hb2.out.size)⟩
  replace hS3 := Kpt.mk hS3
  replace HWr := Kpt.mk HWr
  clear hw3 hbx hbe3 hv hW3
  refine HWr.out.mono ?_
  rintro e w4 ⟨rfl, tag4, hW4, hSt4⟩
  have hS4 := hS3.out.step hSt4
  have HR : Calls Try.prog 13 #[.pointer (some ⟨S, 0, none⟩), .int .i64 1, .int .i64 1] w4 fun e w' => ∃ g, e = .returned (.tuple #[.slice (some ⟨g, 0, none⟩) 1 1, .int .i64 1, .int .i64 0]) ∧ Wd w' B tag4 (rdSt (wrSt st0 nmF 1 [b7] 1) 1) ∧ Step w4 w' tag4 tag4 (fun _ => True) ∧ Rw w' tag4 g 1 1 (fun j => upB (bytesAt ((wrSt st0 nmF 1 [b7] 1).seen nmF) (1 + j))) :=
    (kread_any w4 B tag4 (wrSt st0 nmF 1 [b7] 1) S 4 1 1 nmF true hW4 hS4 (by decide) (by decide) (by decide) (by decide) (fun i => by rw [(wr_ops st0 nmF 1 [b7] 1 (by decide)).2.2.1]; rfl) a7_bytes (by decide)).mono (fun e w' ⟨g, q1, q2, q3, q4, _⟩ => ⟨g, q1, q2, q3, q4⟩)
  replace HR := Kpt.mk HR
  have hT4 : Kpt (Below w.heap.size w w4 ∧ ∀ i, i < w.heap.size → tag4 i = none) := ⟨by
    obtain ⟨k1, k2⟩ := hSt4.below (n := w.heap.size) hb3.out.size ht1.out
    exact ⟨hb3.out.trans k1, k2⟩⟩
  clear HWr hS4 hW4 hSt4 hS3 hW2 hS2 hb2
  go_wp2_with fail
  refine HR.out.mono ?_
  rintro e w5 ⟨g5, rfl, _, hSt5, hR5⟩
  have hb5 : Kpt (Below w.heap.size w w5) := ⟨by
    obtain ⟨k1, k2⟩ := hSt5.below (n := w.heap.size) hT4.out.1.size hT4.out.2
    exact hT4.out.1.trans k1⟩
  have c17 : w5.cell? ⟨g5, 17, none⟩ = some (.int .u16 7) := by
    have := hR5.done 0 (by decide)
    simp only [Nat.add_zero] at this
    rw [a7_block] at this
    have := this 17 (.int .u16 7) rfl
    simpa using this
  have hlt5 := hR5.lt
  clear HR hT4 hSt5 hR5
  go_wp2
  go_ret
  exact ⟨rfl, hb5.out⟩
end Go.Proofs.Ytmjpomkofgfbbaa
