/-
  Slots: Decode.
-/
import Derived.Test.YtndlpmnidpandaaLEq
import Derived.Deep.DeepMust
import Derived.Lib.SlBytesConst
namespace Go.Proofs.Ytndlpmnidpandaa
open Go.RowKit
set_option linter.unusedVariables false
set_option linter.unusedSimpArgs false

theorem rd_mark (w : World) : RdAt (w.alloc (.cells #[.int .u8 83, .int .u8 76, .int .u8 79, .int .u8 84] 5 (4, 5))) (.slice (some ⟨w.heap.size, 0, none⟩) 4 4) [83, 76, 79, 84] := by
  refine ⟨_, _, rfl, by simp, by simp, .inr ⟨_, _, rfl, fun j u hu => ?_⟩⟩
  have hh := heap_alloc_new w (.cells #[.int .u8 83, .int .u8 76, .int .u8 79, .int .u8 84] 5 (4, 5))
  simp only [World.cell?, hh]
  simpa [cels] using hu

theorem rd_some {w : World} {a : Option Addr} {n c : Nat} {zs : List Int} (h : RdAt w (.slice a n c) zs) (hn : 0 < n) : n ≤ c ∧ ∃ b off, a = some ⟨b, off, none⟩ := by
  obtain ⟨a', c', hv, h1, h2, h3⟩ := h
  simp only [Value.slice.injEq] at hv
  obtain ⟨rfl, hl, rfl⟩ := hv
  refine ⟨by omega, ?_⟩
  rcases h3 with h3 | ⟨b, off, rfl, _⟩
  · omega
  · exact ⟨b, off, rfl⟩

theorem rd_mid {w : World} {b off n c : Nat} {zs : List Int} (h : RdAt w (.slice (some ⟨b, off, none⟩) n c) zs) (i k : Nat) (hk : i + k ≤ zs.length) : RdAt w (.slice (some ⟨b, off + i, none⟩) k (c - i)) ((zs.drop i).take k) := by
  have hl : ((zs.drop i).take k).length = k := by simp; omega
  obtain ⟨hc0, hc⟩ := rd_cells h
  have hcc : n ≤ c := by obtain ⟨a', c', hv, h1, h2, h3⟩ := h; simp only [Value.slice.injEq] at hv; omega
  refine ⟨_, _, by rw [hl], by simp, by omega, .inr ⟨_, _, rfl, fun j u hu => ?_⟩⟩
  have hj : j < k := by have := (List.getElem?_eq_some_iff.1 hu).1; rw [cels_length, hl] at this; exact this
  have := hc (i + j) (by omega)
  rw [← Nat.add_assoc] at this
  rw [this, ← hu]
  unfold cels
  rw [List.getElem?_map, List.getElem?_take, if_pos hj, List.getElem?_drop, List.getD_eq_getElem?_getD, List.getElem?_eq_getElem (by omega)]
  rfl

set_option maxRecDepth 100000 in
set_option maxHeartbeats 1000000 in
theorem dec_short (a : Option Addr) (n c : Nat) (w : World) (hm : n ≤ maxLen) (hn : n < 16) :
    Calls Try.prog 9 #[.slice a n c] w fun e w' => e = .returned (.tuple #[.int .u64 0, .slice none 0 0, .int .i64 3]) ∧ Below w.heap.size w w' := by
  have hg : Kpt (∀ W, Calls Try.prog 26 #[.slice a n c, .int .i64 12, .int .i64 4] W fun e w' => e = .returned (.tuple #[.int .u64 0, .int .i64 4]) ∧ w' = W) := ⟨fun W => get_out a n c 12 4 W hm (by decide) (by decide) (by omega)⟩
  go_enter Try.func9, Try.ntmps9
  go_wp2_with (go_at_call 26; refine (hg.out _).mono ?_; rintro e w' ⟨rfl, rfl⟩)
  refine bodyPost_ret (v := .tuple #[.int .u64 0, .slice none 0 0, .int .i64 3]) (by simp [results, Try.results9, go_sem]) rfl ⟨rfl, Below.refl _ _⟩

set_option maxRecDepth 100000 in
set_option maxHeartbeats 1000000 in
theorem dec_long (a : Option Addr) (n c : Nat) (zs : List Int) (w : World) (hr : RdAt w (.slice a n c) zs) (hl : zs.length = n) (hm : n ≤ maxLen) (hb : B.Bytes zs) (hn : 16 ≤ n) (k : Nat) (hk : B.num zs 12 4 = (k : Int)) (hk2 : 4096 < k) :
    Calls Try.prog 9 #[.slice a n c] w fun e w' => e = .returned (.tuple #[.int .u64 0, .slice none 0 0, .int .i64 3]) ∧ Below w.heap.size w w' := by
  obtain ⟨hnc, b, off, rfl⟩ := rd_some hr (by omega)
  have hmx := hm
  unfold maxLen at hm
  have hg : Kpt (∀ W, Below w.heap.size w W → Calls Try.prog 26 #[.slice (some ⟨b, off, none⟩) n c, .int .i64 12, .int .i64 4] W fun e w' => e = .returned (.tuple #[.int .u64 k, .int .i64 0]) ∧ w' = W) := ⟨fun W hW => by rw [← hk]; exact get_in _ n c zs 12 4 W (hr.bel hW) hl hmx hb (by decide) (by decide) (by omega)⟩
  have hkl : (4096 : Int) < k := by omega
  clear hr hl hb hk
  go_enter Try.func9, Try.ntmps9
  go_wp2_with (go_at_call 26; refine (hg.out _ (Below.refl _ _)).mono ?_; rintro e w1 ⟨rfl, h1⟩; have h2 := h1.symm; subst h2)
  refine bodyPost_ret (v := .tuple #[.int .u64 0, .slice none 0 0, .int .i64 3]) (by simp [results, Try.results9, go_sem]) rfl ⟨rfl, Below.refl _ _⟩

set_option maxRecDepth 100000 in
set_option maxHeartbeats 1000000 in
theorem dec_mark (a : Option Addr) (n c : Nat) (zs : List Int) (w : World) (hr : RdAt w (.slice a n c) zs) (hl : zs.length = n) (hm : n ≤ maxLen) (hb : B.Bytes zs) (hn : 16 ≤ n) (k : Nat) (hk : B.num zs 12 4 = (k : Int)) (hk2 : k ≤ 4096) (hmk : ¬ zs.take 4 = [83, 76, 79, 84]) :
    Calls Try.prog 9 #[.slice a n c] w fun e w' => e = .returned (.tuple #[.int .u64 0, .slice none 0 0, .int .i64 3]) ∧ Below w.heap.size w w' := by
  obtain ⟨hnc, b, off, rfl⟩ := rd_some hr (by omega)
  have hmx := hm
  unfold maxLen at hm
  have hg : Kpt (∀ W, Below w.heap.size w W → Calls Try.prog 26 #[.slice (some ⟨b, off, none⟩) n c, .int .i64 12, .int .i64 4] W fun e w' => e = .returned (.tuple #[.int .u64 k, .int .i64 0]) ∧ w' = W) := ⟨fun W hW => by rw [← hk]; exact get_in _ n c zs 12 4 W (hr.bel hW) hl hmx hb (by decide) (by decide) (by omega)⟩
  have hkl : ¬ (4096 : Int) < k := by omega
  have kc := fun (w : World) (C : Array Value) (n c : Nat) => Lib.run_convert_bytes_const (P := Try.prog) w 23 5 C n c Try.underlying23 Try.underlying5
  have hH : Kpt (∀ W g, Below w.heap.size w W → RdAt W (.slice (some ⟨g, 0, none⟩) 4 4) [83, 76, 79, 84] → Calls Try.prog 27 #[.slice (some ⟨b, off, none⟩) n c, .slice (some ⟨g, 0, none⟩) 4 4] W fun e w' => e = .returned (.bool false) ∧ w' = W) := ⟨fun W g hW h => by
    have := has_any _ n c zs W (hr.bel hW) hl hmx hb (by omega) g h
    rw [decide_eq_false hmk] at this
    exact this⟩
  replace hr := Kpt.mk hr
  replace hl := Kpt.mk hl
  replace hb := Kpt.mk hb
  replace hk := Kpt.mk hk
  replace hmk := Kpt.mk hmk
  go_enter Try.func9, Try.ntmps9
  go_wp2_with (go_at_call 26; refine (hg.out _ (Below.refl _ _)).mono ?_; rintro e w1 ⟨rfl, h1⟩; have h2 := h1.symm; subst h2; clear hg)
  have hb1 : Below w.heap.size w (w.alloc (.cells #[.int .u8 83, .int .u8 76, .int .u8 79, .int .u8 84] 5 (4, 5))) := (Below.refl _ _).alloc (Nat.le_refl _) _
  refine (hH.out _ _ hb1 (rd_mark w)).mono ?_
  obtain ⟨w1, hw1⟩ : ∃ x, x = w.alloc (.cells #[.int .u8 83, .int .u8 76, .int .u8 79, .int .u8 84] 5 (4, 5)) := ⟨_, rfl⟩
  rw [← hw1] at hb1 ⊢
  replace hb1 := Kpt.mk hb1
  clear hw1 hH kc
  rintro e w2 ⟨rfl, rfl⟩
  go_wp2
  refine bodyPost_ret (v := .tuple #[.int .u64 0, .slice none 0 0, .int .i64 3]) (by simp [results, Try.results9, go_sem]) rfl ⟨rfl, hb1.out⟩

set_option maxRecDepth 100000 in
set_option maxHeartbeats 1000000 in
theorem dec_cut (a : Option Addr) (n c : Nat) (zs : List Int) (w : World) (hr : RdAt w (.slice a n c) zs) (hl : zs.length = n) (hm : n ≤ maxLen) (hb : B.Bytes zs) (hn : 16 ≤ n) (k : Nat) (hk : B.num zs 12 4 = (k : Int)) (hk2 : k ≤ 4096) (hmk : zs.take 4 = [83, 76, 79, 84]) (hct : n < 20 + k) :
    Calls Try.prog 9 #[.slice a n c] w fun e w' => e = .returned (.tuple #[.int .u64 0, .slice none 0 0, .int .i64 3]) ∧ Below w.heap.size w w' := by
  obtain ⟨hnc, b, off, rfl⟩ := rd_some hr (by omega)
  have hmx := hm
  unfold maxLen at hm
  have hg : Kpt (∀ W, Below w.heap.size w W → Calls Try.prog 26 #[.slice (some ⟨b, off, none⟩) n c, .int .i64 12, .int .i64 4] W fun e w' => e = .returned (.tuple #[.int .u64 k, .int .i64 0]) ∧ w' = W) := ⟨fun W hW => by rw [← hk]; exact get_in _ n c zs 12 4 W (hr.bel hW) hl hmx hb (by decide) (by decide) (by omega)⟩
  have hkl : ¬ (4096 : Int) < k := by omega
  have kc := fun (w : World) (C : Array Value) (n c : Nat) => Lib.run_convert_bytes_const (P := Try.prog) w 23 5 C n c Try.underlying23 Try.underlying5
  have hH : Kpt (∀ W g, Below w.heap.size w W → RdAt W (.slice (some ⟨g, 0, none⟩) 4 4) [83, 76, 79, 84] → Calls Try.prog 27 #[.slice (some ⟨b, off, none⟩) n c, .slice (some ⟨g, 0, none⟩) 4 4] W fun e w' => e = .returned (.bool true) ∧ w' = W) := ⟨fun W g hW h => by
    have := has_any _ n c zs W (hr.bel hW) hl hmx hb (by omega) g h
    rw [decide_eq_true hmk] at this
    exact this⟩
  obtain ⟨E, hE⟩ : ∃ E, E = 16 + k := ⟨_, rfl⟩
  have wk : IntKind.i64.wrap (k : Int) = k := by simp [IntKind.wrap, IntKind.bits, IntKind.signed]; omega
  have e1 : (16 : Int) + k = (E : Int) := by omega
  have hg2 : Kpt (∀ W, Calls Try.prog 26 #[.slice (some ⟨b, off, none⟩) n c, .int .i64 E, .int .i64 4] W fun e w' => e = .returned (.tuple #[.int .u64 0, .int .i64 4]) ∧ w' = W) := ⟨fun W => get_out _ n c E 4 W hmx (by decide) (by decide) (by omega)⟩
  replace hr := Kpt.mk hr
  replace hl := Kpt.mk hl
  replace hb := Kpt.mk hb
  replace hk := Kpt.mk hk
  replace hmk := Kpt.mk hmk
  replace hE := Kpt.mk hE
  go_enter Try.func9, Try.ntmps9
  go_wp2_with (go_at_call 26; refine (hg.out _ (Below.refl _ _)).mono ?_; rintro e w1 ⟨rfl, h1⟩; have h2 := h1.symm; subst h2; clear hg)
  have hb1 : Below w.heap.size w (w.alloc (.cells #[.int .u8 83, .int .u8 76, .int .u8 79, .int .u8 84] 5 (4, 5))) := (Below.refl _ _).alloc (Nat.le_refl _) _
  refine (hH.out _ _ hb1 (rd_mark w)).mono ?_
  obtain ⟨w1, hw1⟩ : ∃ x, x = w.alloc (.cells #[.int .u8 83, .int .u8 76, .int .u8 79, .int .u8 84] 5 (4, 5)) := ⟨_, rfl⟩
  rw [← hw1] at hb1 ⊢
  replace hb1 := Kpt.mk hb1
  clear hw1 hH kc
  rintro e w2 ⟨rfl, rfl⟩
  go_wp2_with (go_at_call 26; refine (hg2.out _).mono ?_; rintro e w3 ⟨rfl, h1⟩; have h2 := h1.symm; subst h2; clear hg2)
  refine bodyPost_ret (v := .tuple #[.int .u64 0, .slice none 0 0, .int .i64 3]) (by simp [results, Try.results9, go_sem]) rfl ⟨rfl, hb1.out⟩

set_option maxRecDepth 100000 in
set_option maxHeartbeats 1000000 in
theorem dec_sum (a : Option Addr) (n c : Nat) (zs : List Int) (w : World) (hr : RdAt w (.slice a n c) zs) (hl : zs.length = n) (hm : n ≤ maxLen) (hb : B.Bytes zs) (hn : 16 ≤ n) (k : Nat) (hk : B.num zs 12 4 = (k : Int)) (hk2 : k ≤ 4096) (hmk : zs.take 4 = [83, 76, 79, 84]) (hct : 20 + k ≤ n) (hsm : ¬ B.num zs (16 + k) 4 = (sumL (zs.take (16 + k)) : Int)) :
    Calls Try.prog 9 #[.slice a n c] w fun e w' => e = .returned (.tuple #[.int .u64 0, .slice none 0 0, .int .i64 5]) ∧ Below w.heap.size w w' := by
  obtain ⟨hnc, b, off, rfl⟩ := rd_some hr (by omega)
  have hmx := hm
  unfold maxLen at hm
  have hg : Kpt (∀ W, Below w.heap.size w W → Calls Try.prog 26 #[.slice (some ⟨b, off, none⟩) n c, .int .i64 12, .int .i64 4] W fun e w' => e = .returned (.tuple #[.int .u64 k, .int .i64 0]) ∧ w' = W) := ⟨fun W hW => by rw [← hk]; exact get_in _ n c zs 12 4 W (hr.bel hW) hl hmx hb (by decide) (by decide) (by omega)⟩
  have hkl : ¬ (4096 : Int) < k := by omega
  have kc := fun (w : World) (C : Array Value) (n c : Nat) => Lib.run_convert_bytes_const (P := Try.prog) w 23 5 C n c Try.underlying23 Try.underlying5
  have hH : Kpt (∀ W g, Below w.heap.size w W → RdAt W (.slice (some ⟨g, 0, none⟩) 4 4) [83, 76, 79, 84] → Calls Try.prog 27 #[.slice (some ⟨b, off, none⟩) n c, .slice (some ⟨g, 0, none⟩) 4 4] W fun e w' => e = .returned (.bool true) ∧ w' = W) := ⟨fun W g hW h => by
    have := has_any _ n c zs W (hr.bel hW) hl hmx hb (by omega) g h
    rw [decide_eq_true hmk] at this
    exact this⟩
  obtain ⟨E, hE⟩ : ∃ E, E = 16 + k := ⟨_, rfl⟩
  have wk : IntKind.i64.wrap (k : Int) = k := by simp [IntKind.wrap, IntKind.bits, IntKind.signed]; omega
  have e1 : (16 : Int) + k = (E : Int) := by omega
  have hEn : E + 4 ≤ n := by omega
  have hEi : (E : Int) ≤ c := by omega
  have hE0 : (0 : Int) ≤ E := by omega
  obtain ⟨U, hU⟩ : ∃ U, U = B.num zs E 4 := ⟨_, rfl⟩
  have hUb := B.num_bd zs E hb 4
  rw [← hU] at hUb
  have hg2 : Kpt (∀ W, Below w.heap.size w W → Calls Try.prog 26 #[.slice (some ⟨b, off, none⟩) n c, .int .i64 E, .int .i64 4] W fun e w' => e = .returned (.tuple #[.int .u64 U, .int .i64 0]) ∧ w' = W) := ⟨fun W hW => by rw [hU]; exact get_in _ n c zs E 4 W (hr.bel hW) hl hmx hb (by decide) (by decide) (by omega)⟩
  obtain ⟨S, hS⟩ : ∃ S, S = sumL (zs.take E) := ⟨_, rfl⟩
  have hSl : S < 4294967296 := by rw [hS]; exact sumL_lt _
  have wS : IntKind.u64.wrap (S : Int) = S := B.wrap64_id _ (by omega) (by omega)
  have hC : Kpt (∀ W, Below w.heap.size w W → Calls Try.prog 25 #[.slice (some ⟨b, off, none⟩) E c] W fun e w' => e = .returned (.int .u32 (S : Int)) ∧ w' = W) := ⟨fun W hW => by
    rw [hS]
    exact c32_any (some ⟨b, off, none⟩) E c (zs.take E) W (by rw [List.length_take]; omega) (by unfold maxLen; omega) (Bytes.take hb E) (.inr ⟨b, off, rfl, fun j hj => by
      rw [(rd_cells (hr.bel hW)).2 j (by omega)]
      simp [List.getD_eq_getElem?_getD, hj]⟩)⟩
  have hUS : ¬ U = (S : Int) := by rw [hS, hE, hU, hE]; exact hsm
  replace hr := Kpt.mk hr
  replace hl := Kpt.mk hl
  replace hb := Kpt.mk hb
  replace hk := Kpt.mk hk
  replace hmk := Kpt.mk hmk
  replace hE := Kpt.mk hE
  replace hU := Kpt.mk hU
  replace hS := Kpt.mk hS
  replace hsm := Kpt.mk hsm
  go_enter Try.func9, Try.ntmps9
  go_wp2_with (go_at_call 26; refine (hg.out _ (Below.refl _ _)).mono ?_; rintro e w1 ⟨rfl, h1⟩; have h2 := h1.symm; subst h2; clear hg)
  have hb1 : Below w.heap.size w (w.alloc (.cells #[.int .u8 83, .int .u8 76, .int .u8 79, .int .u8 84] 5 (4, 5))) := (Below.refl _ _).alloc (Nat.le_refl _) _
  refine (hH.out _ _ hb1 (rd_mark w)).mono ?_
  obtain ⟨w1, hw1⟩ : ∃ x, x = w.alloc (.cells #[.int .u8 83, .int .u8 76, .int .u8 79, .int .u8 84] 5 (4, 5)) := ⟨_, rfl⟩
  rw [← hw1] at hb1 ⊢
  replace hb1 := Kpt.mk hb1
  clear hw1 hH kc
  rintro e w2 ⟨rfl, rfl⟩
  go_wp2_with (first | (go_at_call 26; refine (hg2.out _ hb1.out).mono ?_; rintro e w3 ⟨rfl, h1⟩; have h2 := h1.symm; subst h2; clear hg2) | (go_at_call 25; refine (hC.out _ hb1.out).mono ?_; rintro e w4 ⟨rfl, h1⟩; have h2 := h1.symm; subst h2; clear hC))
  refine bodyPost_ret (v := .tuple #[.int .u64 0, .slice none 0 0, .int .i64 5]) (by simp [results, Try.results9, go_sem]) rfl ⟨rfl, hb1.out⟩

set_option maxRecDepth 100000 in
set_option maxHeartbeats 1000000 in
theorem dec_ok (a : Option Addr) (n c : Nat) (zs : List Int) (w : World) (hr : RdAt w (.slice a n c) zs) (hl : zs.length = n) (hm : n ≤ maxLen) (hb : B.Bytes zs) (hn : 16 ≤ n) (k : Nat) (hk : B.num zs 12 4 = (k : Int)) (hk2 : k ≤ 4096) (hmk : zs.take 4 = [83, 76, 79, 84]) (hct : 20 + k ≤ n) (hsm : B.num zs (16 + k) 4 = (sumL (zs.take (16 + k)) : Int)) :
    Calls Try.prog 9 #[.slice a n c] w fun e w' => ∃ v, e = .returned (.tuple #[.int .u64 (B.num zs 4 8), v, .int .i64 0]) ∧ Row w' v ((zs.drop 16).take k) ∧ (∀ g, v.ownBlock = some g → w.heap.size ≤ g) ∧ Below w.heap.size w w' := by
  obtain ⟨hnc, b, off, rfl⟩ := rd_some hr (by omega)
  have hmx := hm
  unfold maxLen at hm
  have hg : Kpt (∀ W, Below w.heap.size w W → Calls Try.prog 26 #[.slice (some ⟨b, off, none⟩) n c, .int .i64 12, .int .i64 4] W fun e w' => e = .returned (.tuple #[.int .u64 k, .int .i64 0]) ∧ w' = W) := ⟨fun W hW => by rw [← hk]; exact get_in _ n c zs 12 4 W (hr.bel hW) hl hmx hb (by decide) (by decide) (by omega)⟩
  have hkl : ¬ (4096 : Int) < k := by omega
  have kc := fun (w : World) (C : Array Value) (n c : Nat) => Lib.run_convert_bytes_const (P := Try.prog) w 23 5 C n c Try.underlying23 Try.underlying5
  have hH : Kpt (∀ W g, Below w.heap.size w W → RdAt W (.slice (some ⟨g, 0, none⟩) 4 4) [83, 76, 79, 84] → Calls Try.prog 27 #[.slice (some ⟨b, off, none⟩) n c, .slice (some ⟨g, 0, none⟩) 4 4] W fun e w' => e = .returned (.bool true) ∧ w' = W) := ⟨fun W g hW h => by
    have := has_any _ n c zs W (hr.bel hW) hl hmx hb (by omega) g h
    rw [decide_eq_true hmk] at this
    exact this⟩
  obtain ⟨E, hE⟩ : ∃ E, E = 16 + k := ⟨_, rfl⟩
  have wk : IntKind.i64.wrap (k : Int) = k := by simp [IntKind.wrap, IntKind.bits, IntKind.signed]; omega
  have e1 : (16 : Int) + k = (E : Int) := by omega
  have hEn : E + 4 ≤ n := by omega
  have hEi : (E : Int) ≤ c := by omega
  have hE0 : (0 : Int) ≤ E := by omega
  obtain ⟨U, hU⟩ : ∃ U, U = B.num zs E 4 := ⟨_, rfl⟩
  have hUb := B.num_bd zs E hb 4
  rw [← hU] at hUb
  have hg2 : Kpt (∀ W, Below w.heap.size w W → Calls Try.prog 26 #[.slice (some ⟨b, off, none⟩) n c, .int .i64 E, .int .i64 4] W fun e w' => e = .returned (.tuple #[.int .u64 U, .int .i64 0]) ∧ w' = W) := ⟨fun W hW => by rw [hU]; exact get_in _ n c zs E 4 W (hr.bel hW) hl hmx hb (by decide) (by decide) (by omega)⟩
  obtain ⟨S, hS⟩ : ∃ S, S = sumL (zs.take E) := ⟨_, rfl⟩
  have hSl : S < 4294967296 := by rw [hS]; exact sumL_lt _
  have wS : IntKind.u64.wrap (S : Int) = S := B.wrap64_id _ (by omega) (by omega)
  have hC : Kpt (∀ W, Below w.heap.size w W → Calls Try.prog 25 #[.slice (some ⟨b, off, none⟩) E c] W fun e w' => e = .returned (.int .u32 (S : Int)) ∧ w' = W) := ⟨fun W hW => by
    rw [hS]
    exact c32_any (some ⟨b, off, none⟩) E c (zs.take E) W (by rw [List.length_take]; omega) (by unfold maxLen; omega) (Bytes.take hb E) (.inr ⟨b, off, rfl, fun j hj => by
      rw [(rd_cells (hr.bel hW)).2 j (by omega)]
      simp [List.getD_eq_getElem?_getD, hj]⟩)⟩
  have hUS : U = (S : Int) := by rw [hS, hE, hU, hE]; exact hsm
  have hg3 : Kpt (∀ W, Below w.heap.size w W → Calls Try.prog 26 #[.slice (some ⟨b, off, none⟩) n c, .int .i64 4, .int .i64 8] W fun e w' => e = .returned (.tuple #[.int .u64 (B.num zs 4 8), .int .i64 0]) ∧ w' = W) := ⟨fun W hW => get_in _ n c zs 4 8 W (hr.bel hW) hl hmx hb (by decide) (by decide) (by omega)⟩
  have c16 : ¬ c = 16 := by omega
  have e3 : (E : Int) - 16 = k := by omega
  have e4 : (c : Int) - 16 = ((c - 16 : Nat) : Int) := by omega
  have e5 : (16 : Int) ≤ E := by omega
  replace hr := Kpt.mk hr
  replace hl := Kpt.mk hl
  replace hb := Kpt.mk hb
  replace hk := Kpt.mk hk
  replace hmk := Kpt.mk hmk
  replace hE := Kpt.mk hE
  replace hU := Kpt.mk hU
  replace hS := Kpt.mk hS
  replace hsm := Kpt.mk hsm
  go_enter Try.func9, Try.ntmps9
  go_wp2_with (go_at_call 26; refine (hg.out _ (Below.refl _ _)).mono ?_; rintro e w1 ⟨rfl, h1⟩; have h2 := h1.symm; subst h2; clear hg)
  have hb1 : Below w.heap.size w (w.alloc (.cells #[.int .u8 83, .int .u8 76, .int .u8 79, .int .u8 84] 5 (4, 5))) := (Below.refl _ _).alloc (Nat.le_refl _) _
  refine (hH.out _ _ hb1 (rd_mark w)).mono ?_
  obtain ⟨w1, hw1⟩ : ∃ x, x = w.alloc (.cells #[.int .u8 83, .int .u8 76, .int .u8 79, .int .u8 84] 5 (4, 5)) := ⟨_, rfl⟩
  rw [← hw1] at hb1 ⊢
  replace hb1 := Kpt.mk hb1
  clear hw1 hH kc
  rintro e w2 ⟨rfl, rfl⟩
  go_wp2_with (first | (go_at_call 26; refine (hg2.out _ hb1.out).mono ?_; rintro e w3 ⟨rfl, h1⟩; have h2 := h1.symm; subst h2; clear hg2) | (go_at_call 25; refine (hC.out _ hb1.out).mono ?_; rintro e w4 ⟨rfl, h1⟩; have h2 := h1.symm; subst h2; clear hC) | (go_at_call 26; refine (hg3.out _ hb1.out).mono ?_; rintro e w5 ⟨rfl, h1⟩; have h2 := h1.symm; subst h2; clear hg3))
  have e6 : E - 16 = k := by have := hE.out; omega
  have hmid := rd_mid (hr.out.bel hb1.out) 16 k (by have := hl.out; omega)
  rw [e6]
  refine (clone_any _ _ _ hmid (by simp; omega)).mono ?_
  rintro e w6 ⟨v6, rfl, hrow6, hgr6, hfr6⟩
  have hz : Kpt (Row w6 v6 ((zs.drop 16).take k) ∧ (∀ g, v6.ownBlock = some g → w.heap.size ≤ g) ∧ Below w.heap.size w w6) := ⟨hrow6, fun g hg => Nat.le_trans hb1.out.size (hfr6 g hg), hb1.out.grown hgr6 hb1.out.size (fun q hq => by cases hq)⟩
  clear hmid hrow6 hgr6 hfr6
  go_wp2
  refine bodyPost_ret (v := .tuple #[.int .u64 (B.num zs 4 8), v6, .int .i64 0]) (by simp [results, Try.results9, go_sem]) rfl ⟨v6, rfl, hz.out⟩
end Go.Proofs.Ytndlpmnidpandaa
