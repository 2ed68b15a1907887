/-
  StoreRefuses: the walk.
-/
import Derived.Test.YtmjpomkofgfbbaaKGen
namespace Go.Proofs.Ytmjpomkofgfbbaa.storeRefuses
open Go.Proofs.Ytmjpomkofgfbbaa
open Go.RowKit
set_option linter.unusedVariables false
set_option linter.unusedSimpArgs false

set_option maxRecDepth 100000 in
set_option maxHeartbeats 4000000 in
theorem refuses_walk (lba n : Int) (a : Option Addr) (l c : Nat) (bs : List Bk) (w : World) (hlba : -9223372036854775808 ≤ lba ∧ lba < 9223372036854775808) (hn : -9223372036854775808 ≤ n ∧ n < 9223372036854775808) (hv : Bks w (.slice a l c) bs) (hlc : l ≤ c) (hl : l ≤ maxLen) (hvl : ∀ g, (Value.slice a l c).ownBlock = some g → g < w.heap.size) :
    Calls Try.prog 6 #[.int .i64 lba, .int .i64 n, .slice a l c] w fun e w' => e = .returned (.bool true) ∧ Below w.heap.size w w' := by
  have HA := Kpt.mk (awake_any w)
  replace hv := Kpt.mk hv
  replace hvl := Kpt.mk hvl
  unfold maxLen at hl
  go_enter Try.func6, Try.ntmps6
  go_wp2_with fail
  refine HA.out.mono ?_
  rintro e w1 ⟨rfl, hb1⟩
  have HN := Kpt.mk (new_any w1)
  replace hb1 := Kpt.mk hb1
  clear HA
  go_wp2_with fail
  refine HN.out.mono ?_
  rintro e w2 ⟨B, tag, rfl, hW2, hg2, ht2⟩
  have hb2 : Kpt (Below w.heap.size w w2) := ⟨hb1.out.trans (((Below.refl _ _).grown hg2 (Nat.le_refl _) (fun k hk => by cases hk)).mono hb1.out.size)⟩
  have HO := Kpt.mk (kopen_any w2 B 16 nmF false (by decide) (by decide) (by decide) (by decide))
  replace hW2 := Kpt.mk hW2
  replace ht2 := Kpt.mk ht2
  clear HN hg2
  go_wp2_with fail
  refine HO.out.mono ?_
  rintro e w3 ⟨rfl, hw3⟩
  have hS3 : Kpt (Sto w3 tag w2.heap.size B nmF 16 false) := ⟨by rw [hw3]; exact sto_new w2 tag B 16 nmF false (wd_none hW2.out (Nat.le_refl _))⟩
  have hbe3 : Below w2.heap.size w2 w3 := by rw [hw3]; exact (Below.refl _ _).alloc (Nat.le_refl _) _
  have hW3 := Kpt.mk (hW2.out.step (step_below hbe3 tag (fun _ => False)))
  have hb3 : Kpt (Below w.heap.size w w3) := ⟨hb2.out.trans (hbe3.mono hb2.out.size)⟩
  have ht3 : Kpt (∀ i, i < w.heap.size → tag i = none) := ⟨fun i hi => ht2.out i (Nat.lt_of_lt_of_le hi hb1.out.size)⟩
  obtain ⟨S, hS⟩ : ∃ S, S = w2.heap.size := ⟨_, rfl⟩
  rw [← hS] at hS3 ⊢
  clear HO hw3 hbe3 hW2 hb2 ht2 hb1 hS
  by_cases h1 : lba < 0
  · have f1 : ¬ 0 ≤ lba := by omega
    have hx : rErr 16 lba n = 4 := by unfold rErr; rw [if_neg (by omega)]
    go_wp2_with fail
    refine (kread_gen w3 B tag st0 S 16 lba n nmF false hW3.out hS3.out (by decide) (by decide) (by decide) (by decide) st0_fails (fun zs hz => by cases hz) hlba hn).mono ?_
    rintro e w4 ⟨v4, k4, rfl, ⟨st4, hW4, s1, s2, s3, s4⟩, hSt4⟩
    rw [hx]
    have hS4 := hS3.out.step hSt4
    have hb4 : Kpt (Below w.heap.size w w4) := ⟨hb3.out.trans (hSt4.below (n := w.heap.size) hb3.out.size ht3.out).1⟩
    have HW4 := Kpt.mk (kwrite_no w4 B tag S 16 lba nmF false true a l c hS4 (by decide) hlba (by omega) (by omega))
    have HZ := Kpt.mk (size_none w4 B tag st4 hW4 nmF (by decide) (by rw [s1]; rfl))
    clear hW4 hSt4 hS4 s1 s2 s3 s4 hx
    go_wp2_with (first
      | (go_at_call 13; refine (kread_nil _ _ _).mono ?_; rintro e w6 ⟨rfl, hw6⟩; subst hw6)
      | (go_at_call 20; refine (ksync_nil _).mono ?_; rintro e w6 ⟨rfl, hw6⟩; subst hw6)
      | (go_at_call 28; refine (kblocks_nil _).mono ?_; rintro e w6 ⟨rfl, hw6⟩; subst hw6)
      | (go_at_call 27; refine (kcache_nil _).mono ?_; rintro e w6 ⟨rfl, hw6⟩; subst hw6)
      | (go_at_call 16; refine HW4.out.mono ?_; rintro e w6 ⟨rfl, hw6⟩; subst hw6)
      | (go_at_call 31; refine HZ.out.mono ?_; rintro e w6 ⟨rfl, hw6⟩; subst hw6)
      | fail)
    go_ret
    exact ⟨rfl, hb4.out⟩
  · by_cases h2 : 16 < lba
    · have f1 : 0 ≤ lba := by omega
      have f2 : ¬ lba ≤ 16 := by omega
      have hx : rErr 16 lba n = 4 := by unfold rErr; rw [if_neg (by omega)]
      go_wp2_with fail
      refine (kread_gen w3 B tag st0 S 16 lba n nmF false hW3.out hS3.out (by decide) (by decide) (by decide) (by decide) st0_fails (fun zs hz => by cases hz) hlba hn).mono ?_
      rintro e w4 ⟨v4, k4, rfl, ⟨st4, hW4, s1, s2, s3, s4⟩, hSt4⟩
      rw [hx]
      have hS4 := hS3.out.step hSt4
      have hb4 : Kpt (Below w.heap.size w w4) := ⟨hb3.out.trans (hSt4.below (n := w.heap.size) hb3.out.size ht3.out).1⟩
      have HW4 := Kpt.mk (kwrite_no w4 B tag S 16 lba nmF false true a l c hS4 (by decide) hlba (by omega) (by omega))
      have HZ := Kpt.mk (size_none w4 B tag st4 hW4 nmF (by decide) (by rw [s1]; rfl))
      clear hW4 hSt4 hS4 s1 s2 s3 s4 hx
      go_wp2_with (first
        | (go_at_call 13; refine (kread_nil _ _ _).mono ?_; rintro e w6 ⟨rfl, hw6⟩; subst hw6)
        | (go_at_call 20; refine (ksync_nil _).mono ?_; rintro e w6 ⟨rfl, hw6⟩; subst hw6)
        | (go_at_call 28; refine (kblocks_nil _).mono ?_; rintro e w6 ⟨rfl, hw6⟩; subst hw6)
        | (go_at_call 27; refine (kcache_nil _).mono ?_; rintro e w6 ⟨rfl, hw6⟩; subst hw6)
        | (go_at_call 16; refine HW4.out.mono ?_; rintro e w6 ⟨rfl, hw6⟩; subst hw6)
        | (go_at_call 31; refine HZ.out.mono ?_; rintro e w6 ⟨rfl, hw6⟩; subst hw6)
        | fail)
      go_ret
      exact ⟨rfl, hb4.out⟩
    · have f1 : 0 ≤ lba := by omega
      have f2 : lba ≤ 16 := by omega
      have f0 : IntKind.i64.wrap (16 - lba) = 16 - lba := by rw [IntKind.wrap_i64]; omega
      by_cases h3 : (l : Int) ≤ 16 - lba
      · by_cases h4 : n < 0
        · have f3 : ¬ 0 ≤ n := by omega
          have hx : rErr 16 lba n = 4 := by unfold rErr; rw [if_neg (by omega)]
          have HWk : Kpt (∀ w4 st4, Wd w4 B tag st4 → Sto w4 tag S B nmF 16 false → Below w.heap.size w w4 → st4.waits = [] → st4.cnt < 10000 → (∀ i, st4.fails i = false) → Calls Try.prog 16 #[.pointer (some ⟨S, 0, none⟩), .int .i64 lba, .slice a l c, .bool true] w4 fun e w' => e = .returned (.tuple #[.int .i64 l, .int .i64 0]) ∧ ∃ tag', Step w4 w' tag tag' (fun _ => True)) := ⟨fun w4 st4 h1 h2 h3 h4 h5 h6 => by
            obtain ⟨hcut, hcl⟩ := hv.out.cut h3 l (Nat.le_refl _)
            have e1 : ((lba.toNat : Nat) : Int) = lba := Int.toNat_of_nonneg (by omega)
            have := kwrite_any w4 B tag st4 S 16 lba.toNat nmF false true (.slice a l c) (bs.take l) h1 h2 (by decide) (by decide) (by decide) (by omega) (by rw [h4]; decide) h6 (fun c hc => by rw [h4] at hc; cases hc) hcut (fun g hg => ht3.out g (hvl.out g hg)) (by omega)
            rw [e1, hcl] at this
            refine this.mono ?_
            rintro e w' ⟨he, tag', _, hs⟩
            exact ⟨he, tag', hs⟩⟩
          go_wp2_with fail
          refine (kread_gen w3 B tag st0 S 16 lba n nmF false hW3.out hS3.out (by decide) (by decide) (by decide) (by decide) st0_fails (fun zs hz => by cases hz) hlba hn).mono ?_
          rintro e w4 ⟨v4, k4, rfl, ⟨st4, hW4, s1, s2, s3, s4⟩, hSt4⟩
          rw [hx]
          have hS4 := hS3.out.step hSt4
          have hb4 : Kpt (Below w.heap.size w w4) := ⟨hb3.out.trans (hSt4.below (n := w.heap.size) hb3.out.size ht3.out).1⟩
          have HW4 := Kpt.mk (HWk.out w4 st4 hW4 hS4 hb4.out s2 (by simp [st0] at s4; omega) (fun i => by rw [s3]; rfl))
          clear hW4 hSt4 hS4 s1 s2 s3 s4 HWk hx
          go_wp2_with fail
          refine HW4.out.mono ?_
          rintro e w5 ⟨rfl, tag5, hSt5⟩
          have hb5 : Kpt (Below w.heap.size w w5) := ⟨hb4.out.trans (hSt5.below (n := w.heap.size) hb4.out.size ht3.out).1⟩
          clear HW4 hSt5 hb4
          go_wp2_with (first
            | (go_at_call 13; refine (kread_nil _ _ _).mono ?_; rintro e w6 ⟨rfl, hw6⟩; subst hw6)
            | (go_at_call 20; refine (ksync_nil _).mono ?_; rintro e w6 ⟨rfl, hw6⟩; subst hw6)
            | (go_at_call 28; refine (kblocks_nil _).mono ?_; rintro e w6 ⟨rfl, hw6⟩; subst hw6)
            | (go_at_call 27; refine (kcache_nil _).mono ?_; rintro e w6 ⟨rfl, hw6⟩; subst hw6)
            | fail)
          go_ret
          exact ⟨rfl, hb5.out⟩
        · have f3 : 0 ≤ n := by omega
          by_cases h5 : n ≤ 16 - lba
          · skip
            have hx : rErr 16 lba n = 0 := by unfold rErr; rw [if_pos (by omega)]
            have HWk : Kpt (∀ w4 st4, Wd w4 B tag st4 → Sto w4 tag S B nmF 16 false → Below w.heap.size w w4 → st4.waits = [] → st4.cnt < 10000 → (∀ i, st4.fails i = false) → Calls Try.prog 16 #[.pointer (some ⟨S, 0, none⟩), .int .i64 lba, .slice a l c, .bool true] w4 fun e w' => e = .returned (.tuple #[.int .i64 l, .int .i64 0]) ∧ ∃ tag', Step w4 w' tag tag' (fun _ => True)) := ⟨fun w4 st4 h1 h2 h3 h4 h5 h6 => by
              obtain ⟨hcut, hcl⟩ := hv.out.cut h3 l (Nat.le_refl _)
              have e1 : ((lba.toNat : Nat) : Int) = lba := Int.toNat_of_nonneg (by omega)
              have := kwrite_any w4 B tag st4 S 16 lba.toNat nmF false true (.slice a l c) (bs.take l) h1 h2 (by decide) (by decide) (by decide) (by omega) (by rw [h4]; decide) h6 (fun c hc => by rw [h4] at hc; cases hc) hcut (fun g hg => ht3.out g (hvl.out g hg)) (by omega)
              rw [e1, hcl] at this
              refine this.mono ?_
              rintro e w' ⟨he, tag', _, hs⟩
              exact ⟨he, tag', hs⟩⟩
            go_wp2_with fail
            refine (kread_gen w3 B tag st0 S 16 lba n nmF false hW3.out hS3.out (by decide) (by decide) (by decide) (by decide) st0_fails (fun zs hz => by cases hz) hlba hn).mono ?_
            rintro e w4 ⟨v4, k4, rfl, ⟨st4, hW4, s1, s2, s3, s4⟩, hSt4⟩
            rw [hx]
            have hS4 := hS3.out.step hSt4
            have hb4 : Kpt (Below w.heap.size w w4) := ⟨hb3.out.trans (hSt4.below (n := w.heap.size) hb3.out.size ht3.out).1⟩
            have HW4 := Kpt.mk (HWk.out w4 st4 hW4 hS4 hb4.out s2 (by simp [st0] at s4; omega) (fun i => by rw [s3]; rfl))
            clear hW4 hSt4 hS4 s1 s2 s3 s4 HWk hx
            go_wp2_with fail
            refine HW4.out.mono ?_
            rintro e w5 ⟨rfl, tag5, hSt5⟩
            have hb5 : Kpt (Below w.heap.size w w5) := ⟨hb4.out.trans (hSt5.below (n := w.heap.size) hb4.out.size ht3.out).1⟩
            clear HW4 hSt5 hb4
            go_wp2_with (first
              | (go_at_call 13; refine (kread_nil _ _ _).mono ?_; rintro e w6 ⟨rfl, hw6⟩; subst hw6)
              | (go_at_call 20; refine (ksync_nil _).mono ?_; rintro e w6 ⟨rfl, hw6⟩; subst hw6)
              | (go_at_call 28; refine (kblocks_nil _).mono ?_; rintro e w6 ⟨rfl, hw6⟩; subst hw6)
              | (go_at_call 27; refine (kcache_nil _).mono ?_; rintro e w6 ⟨rfl, hw6⟩; subst hw6)
              | fail)
            go_ret
            exact ⟨rfl, hb5.out⟩
          · skip
            have hx : rErr 16 lba n = 4 := by unfold rErr; rw [if_neg (by omega)]
            have HWk : Kpt (∀ w4 st4, Wd w4 B tag st4 → Sto w4 tag S B nmF 16 false → Below w.heap.size w w4 → st4.waits = [] → st4.cnt < 10000 → (∀ i, st4.fails i = false) → Calls Try.prog 16 #[.pointer (some ⟨S, 0, none⟩), .int .i64 lba, .slice a l c, .bool true] w4 fun e w' => e = .returned (.tuple #[.int .i64 l, .int .i64 0]) ∧ ∃ tag', Step w4 w' tag tag' (fun _ => True)) := ⟨fun w4 st4 h1 h2 h3 h4 h5 h6 => by
              obtain ⟨hcut, hcl⟩ := hv.out.cut h3 l (Nat.le_refl _)
              have e1 : ((lba.toNat : Nat) : Int) = lba := Int.toNat_of_nonneg (by omega)
              have := kwrite_any w4 B tag st4 S 16 lba.toNat nmF false true (.slice a l c) (bs.take l) h1 h2 (by decide) (by decide) (by decide) (by omega) (by rw [h4]; decide) h6 (fun c hc => by rw [h4] at hc; cases hc) hcut (fun g hg => ht3.out g (hvl.out g hg)) (by omega)
              rw [e1, hcl] at this
              refine this.mono ?_
              rintro e w' ⟨he, tag', _, hs⟩
              exact ⟨he, tag', hs⟩⟩
            go_wp2_with fail
            refine (kread_gen w3 B tag st0 S 16 lba n nmF false hW3.out hS3.out (by decide) (by decide) (by decide) (by decide) st0_fails (fun zs hz => by cases hz) hlba hn).mono ?_
            rintro e w4 ⟨v4, k4, rfl, ⟨st4, hW4, s1, s2, s3, s4⟩, hSt4⟩
            rw [hx]
            have hS4 := hS3.out.step hSt4
            have hb4 : Kpt (Below w.heap.size w w4) := ⟨hb3.out.trans (hSt4.below (n := w.heap.size) hb3.out.size ht3.out).1⟩
            have HW4 := Kpt.mk (HWk.out w4 st4 hW4 hS4 hb4.out s2 (by simp [st0] at s4; omega) (fun i => by rw [s3]; rfl))
            clear hW4 hSt4 hS4 s1 s2 s3 s4 HWk hx
            go_wp2_with fail
            refine HW4.out.mono ?_
            rintro e w5 ⟨rfl, tag5, hSt5⟩
            have hb5 : Kpt (Below w.heap.size w w5) := ⟨hb4.out.trans (hSt5.below (n := w.heap.size) hb4.out.size ht3.out).1⟩
            clear HW4 hSt5 hb4
            go_wp2_with (first
              | (go_at_call 13; refine (kread_nil _ _ _).mono ?_; rintro e w6 ⟨rfl, hw6⟩; subst hw6)
              | (go_at_call 20; refine (ksync_nil _).mono ?_; rintro e w6 ⟨rfl, hw6⟩; subst hw6)
              | (go_at_call 28; refine (kblocks_nil _).mono ?_; rintro e w6 ⟨rfl, hw6⟩; subst hw6)
              | (go_at_call 27; refine (kcache_nil _).mono ?_; rintro e w6 ⟨rfl, hw6⟩; subst hw6)
              | fail)
            go_ret
            exact ⟨rfl, hb5.out⟩
      · by_cases h4 : n < 0
        · have f3 : ¬ 0 ≤ n := by omega
          have hx : rErr 16 lba n = 4 := by unfold rErr; rw [if_neg (by omega)]
          go_wp2_with fail
          refine (kread_gen w3 B tag st0 S 16 lba n nmF false hW3.out hS3.out (by decide) (by decide) (by decide) (by decide) st0_fails (fun zs hz => by cases hz) hlba hn).mono ?_
          rintro e w4 ⟨v4, k4, rfl, ⟨st4, hW4, s1, s2, s3, s4⟩, hSt4⟩
          rw [hx]
          have hS4 := hS3.out.step hSt4
          have hb4 : Kpt (Below w.heap.size w w4) := ⟨hb3.out.trans (hSt4.below (n := w.heap.size) hb3.out.size ht3.out).1⟩
          have HW4 := Kpt.mk (kwrite_no w4 B tag S 16 lba nmF false true a l c hS4 (by decide) hlba (by omega) (by omega))
          have HZ := Kpt.mk (size_none w4 B tag st4 hW4 nmF (by decide) (by rw [s1]; rfl))
          clear hW4 hSt4 hS4 s1 s2 s3 s4 hx
          go_wp2_with (first
            | (go_at_call 13; refine (kread_nil _ _ _).mono ?_; rintro e w6 ⟨rfl, hw6⟩; subst hw6)
            | (go_at_call 20; refine (ksync_nil _).mono ?_; rintro e w6 ⟨rfl, hw6⟩; subst hw6)
            | (go_at_call 28; refine (kblocks_nil _).mono ?_; rintro e w6 ⟨rfl, hw6⟩; subst hw6)
            | (go_at_call 27; refine (kcache_nil _).mono ?_; rintro e w6 ⟨rfl, hw6⟩; subst hw6)
            | (go_at_call 16; refine HW4.out.mono ?_; rintro e w6 ⟨rfl, hw6⟩; subst hw6)
            | (go_at_call 31; refine HZ.out.mono ?_; rintro e w6 ⟨rfl, hw6⟩; subst hw6)
            | fail)
          go_ret
          exact ⟨rfl, hb4.out⟩
        · have f3 : 0 ≤ n := by omega
          by_cases h5 : n ≤ 16 - lba
          · skip
            have hx : rErr 16 lba n = 0 := by unfold rErr; rw [if_pos (by omega)]
            go_wp2_with fail
            refine (kread_gen w3 B tag st0 S 16 lba n nmF false hW3.out hS3.out (by decide) (by decide) (by decide) (by decide) st0_fails (fun zs hz => by cases hz) hlba hn).mono ?_
            rintro e w4 ⟨v4, k4, rfl, ⟨st4, hW4, s1, s2, s3, s4⟩, hSt4⟩
            rw [hx]
            have hS4 := hS3.out.step hSt4
            have hb4 : Kpt (Below w.heap.size w w4) := ⟨hb3.out.trans (hSt4.below (n := w.heap.size) hb3.out.size ht3.out).1⟩
            have HW4 := Kpt.mk (kwrite_no w4 B tag S 16 lba nmF false true a l c hS4 (by decide) hlba (by omega) (by omega))
            have HZ := Kpt.mk (size_none w4 B tag st4 hW4 nmF (by decide) (by rw [s1]; rfl))
            clear hW4 hSt4 hS4 s1 s2 s3 s4 hx
            go_wp2_with (first
              | (go_at_call 13; refine (kread_nil _ _ _).mono ?_; rintro e w6 ⟨rfl, hw6⟩; subst hw6)
              | (go_at_call 20; refine (ksync_nil _).mono ?_; rintro e w6 ⟨rfl, hw6⟩; subst hw6)
              | (go_at_call 28; refine (kblocks_nil _).mono ?_; rintro e w6 ⟨rfl, hw6⟩; subst hw6)
              | (go_at_call 27; refine (kcache_nil _).mono ?_; rintro e w6 ⟨rfl, hw6⟩; subst hw6)
              | (go_at_call 16; refine HW4.out.mono ?_; rintro e w6 ⟨rfl, hw6⟩; subst hw6)
              | (go_at_call 31; refine HZ.out.mono ?_; rintro e w6 ⟨rfl, hw6⟩; subst hw6)
              | fail)
            go_ret
            exact ⟨rfl, hb4.out⟩
          · skip
            have hx : rErr 16 lba n = 4 := by unfold rErr; rw [if_neg (by omega)]
            go_wp2_with fail
            refine (kread_gen w3 B tag st0 S 16 lba n nmF false hW3.out hS3.out (by decide) (by decide) (by decide) (by decide) st0_fails (fun zs hz => by cases hz) hlba hn).mono ?_
            rintro e w4 ⟨v4, k4, rfl, ⟨st4, hW4, s1, s2, s3, s4⟩, hSt4⟩
            rw [hx]
            have hS4 := hS3.out.step hSt4
            have hb4 : Kpt (Below w.heap.size w w4) := ⟨hb3.out.trans (hSt4.below (n := w.heap.size) hb3.out.size ht3.out).1⟩
            have HW4 := Kpt.mk (kwrite_no w4 B tag S 16 lba nmF false true a l c hS4 (by decide) hlba (by omega) (by omega))
            have HZ := Kpt.mk (size_none w4 B tag st4 hW4 nmF (by decide) (by rw [s1]; rfl))
            clear hW4 hSt4 hS4 s1 s2 s3 s4 hx
            go_wp2_with (first
              | (go_at_call 13; refine (kread_nil _ _ _).mono ?_; rintro e w6 ⟨rfl, hw6⟩; subst hw6)
              | (go_at_call 20; refine (ksync_nil _).mono ?_; rintro e w6 ⟨rfl, hw6⟩; subst hw6)
              | (go_at_call 28; refine (kblocks_nil _).mono ?_; rintro e w6 ⟨rfl, hw6⟩; subst hw6)
              | (go_at_call 27; refine (kcache_nil _).mono ?_; rintro e w6 ⟨rfl, hw6⟩; subst hw6)
              | (go_at_call 16; refine HW4.out.mono ?_; rintro e w6 ⟨rfl, hw6⟩; subst hw6)
              | (go_at_call 31; refine HZ.out.mono ?_; rintro e w6 ⟨rfl, hw6⟩; subst hw6)
              | fail)
            go_ret
            exact ⟨rfl, hb4.out⟩
end Go.Proofs.Ytmjpomkofgfbbaa.storeRefuses
