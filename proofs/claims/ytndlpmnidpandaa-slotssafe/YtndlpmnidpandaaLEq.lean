/-
  Slots: bytes.Equal, bytes.HasPrefix, Get of what can be read.
-/
import Derived.Test.YtndlpmnidpandaaLRec
import Derived.Test.YtndlpmnidpandaaBSame
import Derived.Lib.Bytes
namespace Go.Proofs.Ytndlpmnidpandaa
open Go.RowKit
set_option linter.unusedVariables false
set_option linter.unusedSimpArgs false

theorem rd_len {w : World} {v : Value} {zs : List Int} (h : RdAt w v zs) : ∃ a c, v = .slice a zs.length c := by
  obtain ⟨a, c, rfl, _⟩ := h
  exact ⟨a, c, rfl⟩

theorem rd_cells {w : World} {b off len c : Nat} {zs : List Int} (h : RdAt w (.slice (some ⟨b, off, none⟩) len c) zs) : zs.length = len ∧ ∀ j, j < len → w.cell? ⟨b, off + j, none⟩ = some (.int .u8 (zs.getD j 0)) := by
  obtain ⟨a, c', hv, _, _, h⟩ := h
  simp only [Value.slice.injEq] at hv
  obtain ⟨ha, hl, _⟩ := hv
  refine ⟨hl.symm, fun j hj => ?_⟩
  rcases h with h | ⟨b', off', hb, hc⟩
  · omega
  · rw [← ha] at hb
    simp only [Option.some.injEq, Addr.mk.injEq, and_true] at hb
    obtain ⟨rfl, rfl⟩ := hb
    refine hc j _ ?_
    unfold cels
    rw [List.getElem?_map, List.getElem?_eq_getElem (by omega), List.getD_eq_getElem?_getD, List.getElem?_eq_getElem (by omega)]
    rfl

theorem conv_rd (w : World) (v : Value) (zs : List Int) (h : RdAt w v zs) : (convert 23 9 v).run Try.prog w = .ok (.string (strOfNums zs)) w := by
  obtain ⟨a, c, rfl, ha, hlc, h⟩ := id h
  refine B.conv_any w a zs.length c zs rfl ?_
  rcases h with h0 | ⟨b, off, rfl, hc⟩
  · exact .inl h0
  · exact .inr ⟨b, off, rfl, (rd_cells (by assumption)).2⟩

theorem str_inj {A C : List Int} (hA : B.Bytes A) (hC : B.Bytes C) (h : strOfNums A = strOfNums C) : A = C := by
  have h1 := congrArg (fun s => s.data.toList) h
  simp only [strOfNums_data] at h1
  have hl : A.length = C.length := by have := congrArg List.length h1; simpa using this
  refine List.ext_getElem hl (fun i h2 h3 => ?_)
  have h4 := congrArg (fun l => l[i]?) h1
  simp [h2, h3] at h4
  have a := hA i
  have c := hC i
  rw [List.getD_eq_getElem?_getD, List.getElem?_eq_getElem h2] at a
  rw [List.getD_eq_getElem?_getD, List.getElem?_eq_getElem h3] at c
  simp at a c
  have h5 := congrArg UInt8.toNat h4
  simp at h5
  omega

theorem equal_any (u v : Value) (A C : List Int) (w : World) (ha : RdAt w u A) (hc : RdAt w v C) (hA : B.Bytes A) (hC : B.Bytes C) :
    Calls Try.prog 46 #[u, v] w fun e w' => e = .returned (.bool (decide (A = C))) ∧ w' = w := by
  have h1 := conv_rd w u A ha
  have h2 := conv_rd w v C hc
  obtain ⟨a, ca, rfl⟩ := rd_len ha
  obtain ⟨b, cb, rfl⟩ := rd_len hc
  have hR : Kpt (((strOfNums A).toList == (strOfNums C).toList) = decide (A = C)) := ⟨by
    by_cases h : A = C
    · subst h; simp
    · rw [decide_eq_false h, beq_eq_false_iff_ne]
      intro e
      rw [Go.Lib.strOfNums_toList, Go.Lib.strOfNums_toList] at e
      exact h (str_inj hA hC (by unfold strOfNums; exact congrArg (fun l => ByteArray.mk l.toArray) e))⟩
  clear ha hc
  obtain ⟨n, hn⟩ : ∃ n, n = A.length := ⟨_, rfl⟩
  obtain ⟨m, hm⟩ : ∃ n, n = C.length := ⟨_, rfl⟩
  obtain ⟨S, hS⟩ : ∃ S, S = strOfNums A := ⟨_, rfl⟩
  obtain ⟨T, hT⟩ : ∃ T, T = strOfNums C := ⟨_, rfl⟩
  rw [← hn, ← hS] at h1
  rw [← hm, ← hT] at h2
  rw [← hS, ← hT] at hR
  rw [← hn, ← hm]
  clear hn hm hS hT
  obtain ⟨d, hd⟩ : ∃ d, d = decide (A = C) := ⟨_, rfl⟩
  rw [← hd] at hR ⊢
  clear hd
  go_enter Try.func46, Try.ntmps46
  go_wp2
  go_ret
  exact ⟨B.ret_bool hR.out, rfl⟩


theorem get_in (a : Option Addr) (n c : Nat) (zs : List Int) (i k : Nat) (w : World) (hr : RdAt w (.slice a n c) zs) (hl : zs.length = n) (hm : n ≤ maxLen) (hb : B.Bytes zs) (hk1 : 1 ≤ k) (hk2 : k ≤ 8) (hi : i + k ≤ n) :
    Calls Try.prog 26 #[.slice a n c, .int .i64 i, .int .i64 k] w fun e w' => e = .returned (.tuple #[.int .u64 (B.num zs i k), .int .i64 0]) ∧ w' = w := by
  obtain ⟨a', c', hv, h1, h2, h3⟩ := id hr
  simp only [Value.slice.injEq] at hv
  obtain ⟨rfl, -, rfl⟩ := hv
  rcases h3 with h3 | ⟨b, off, rfl, hc⟩
  · omega
  · exact B.get_ok b off n c i k zs w hm hk1 hk2 hi hb (rd_cells hr).2

theorem get_out (a : Option Addr) (n c i k : Nat) (w : World) (hm : n ≤ maxLen) (hk1 : 1 ≤ k) (hk2 : k ≤ 8) (hi : n < i + k) :
    Calls Try.prog 26 #[.slice a n c, .int .i64 i, .int .i64 k] w fun e w' => e = .returned (.tuple #[.int .u64 0, .int .i64 4]) ∧ w' = w :=
  B.get_range a n c i k w hm (by simp [B.widB]; omega) (by simp [B.insB]; omega)

theorem rd_take {w : World} {a : Option Addr} {n c : Nat} {zs : List Int} (h : RdAt w (.slice a n c) zs) (m : Nat) (hm : m ≤ zs.length) : RdAt w (.slice a m c) (zs.take m) := by
  obtain ⟨a', c', hv, h1, h2, h3⟩ := h
  simp only [Value.slice.injEq] at hv
  obtain ⟨rfl, rfl, rfl⟩ := hv
  have hl : (zs.take m).length = m := by rw [List.length_take]; omega
  refine ⟨a, c, by rw [hl], fun e => ?_, by rw [hl]; omega, ?_⟩
  · have := h1 e; rw [hl]; omega
  · rcases h3 with h3 | ⟨b, off, rfl, hc⟩
    · exact .inl (by rw [hl]; omega)
    · refine .inr ⟨b, off, rfl, fun j u hu => hc j u ?_⟩
      unfold cels at hu ⊢
      rw [List.map_take, List.getElem?_take] at hu
      split at hu
      · exact hu
      · cases hu

set_option maxHeartbeats 1000000 in
theorem has_any (a : Option Addr) (n c : Nat) (zs : List Int) (w : World) (hr : RdAt w (.slice a n c) zs) (hl : zs.length = n) (hm : n ≤ maxLen) (hb : B.Bytes zs) (h4 : 4 ≤ n) (g : Nat) (hp : RdAt w (.slice (some ⟨g, 0, none⟩) 4 4) [83, 76, 79, 84]) :
    Calls Try.prog 27 #[.slice a n c, .slice (some ⟨g, 0, none⟩) 4 4] w fun e w' => e = .returned (.bool (decide (zs.take 4 = [83, 76, 79, 84]))) ∧ w' = w := by
  have e4 : (4 : Int) ≤ n := by omega
  have h4c : 4 ≤ c := by obtain ⟨a', c', hv, h1, h2, h3⟩ := hr; simp only [Value.slice.injEq] at hv; omega
  have h4c' : (4 : Int) ≤ c := by omega
  have hq : ∀ W, Below w.heap.size w W → Calls Try.prog 46 #[.slice a 4 c, .slice (some ⟨g, 0, none⟩) 4 4] W fun e w' => e = .returned (.bool (decide (zs.take 4 = [83, 76, 79, 84]))) ∧ w' = W := fun W hW =>
    equal_any _ _ (zs.take 4) [83, 76, 79, 84] W ((rd_take hr 4 (by omega)).bel hW) (hp.bel hW) (Bytes.take hb 4) (by intro j; rcases j with _ | _ | _ | _ | j <;> simp)
  obtain ⟨d, hd⟩ : ∃ d, d = decide (zs.take 4 = [83, 76, 79, 84]) := ⟨_, rfl⟩
  rw [← hd] at hq ⊢
  replace hq := Kpt.mk hq
  have hm2 := hm
  unfold maxLen at hm2
  clear hd hr hp hl hb
  go_enter Try.func27, Try.ntmps27
  go_wp2_with (go_at_call 46; refine (hq.out _ (Below.refl _ _)).mono ?_; rintro e w' ⟨rfl, rfl⟩)
  go_ret
  exact ⟨rfl, rfl⟩
end Go.Proofs.Ytndlpmnidpandaa
