/-
  sess: IndexFunc, ContainsFunc; holds and findOpen.
-/
import Derived.Test.YtdplndlmdhpfaabENew
namespace Go.Proofs.Ytdplndlmdhpfaab
open Go.RowKit
set_option linter.unusedVariables false
set_option linter.unusedSimpArgs false

/-- The first struct of which p holds; -1: none. -/
def fidx (p : Array Value → Bool) : List (Array Value) → Nat → Int
  | [], _ => -1
  | t :: r, i => if p t = true then (i : Int) else fidx p r (i + 1)
theorem fidx_any (p : Array Value → Bool) : ∀ (ts : List (Array Value)) (i : Nat), decide (0 ≤ fidx p ts i) = ts.any p
  | [], i => by simp [fidx]
  | t :: r, i => by
    unfold fidx
    rw [List.any_cons]
    by_cases h : p t = true
    · rw [if_pos h, h]; simp
    · rw [if_neg h, fidx_any p r (i + 1)]
      simp at h
      rw [h]; simp
theorem szCmd : (Try.prog.info? 74).map (·.size) = some 4 := by kernel_rfl
theorem szWrt : (Try.prog.info? 83).map (·.size) = some 11 := by kernel_rfl
theorem szTask : (Try.prog.info? 60).map (·.size) = some 8 := by kernel_rfl
theorem hmf : ∀ (fn : Fn) (first cap : Array Value) (w : World), (Instr.makeFunc fn first cap).run Try.prog w = .ok (.func fn first cap) w := fun _ _ _ _ => rfl

set_option maxHeartbeats 1000000 in
theorem idxP_any (f : FuncId) (cap : Array Value) (p : Array Value → Bool) (v : Value) (ts : List (Array Value)) (w : World) (h : RdR 14 w v ts) (hl : ts.length ≤ 10000) (hcf : ∀ (args : Array Value) (W : World), (callFunc f args).run Try.prog W = .ok (Next.enter f args) W)
    (HF : ∀ W, Below w.heap.size w W → ∀ t ∈ ts, Calls Try.prog f (#[.agg t] ++ cap) W fun e w' => e = .returned (.bool (p t)) ∧ Below W.heap.size W w') :
    Calls Try.prog 62 #[v, .func (.func f) #[] cap] w fun e w' => e = .returned (.int .i64 (fidx p ts 0)) ∧ Below w.heap.size w w' := by
  obtain ⟨hw, a, c, rfl, hc, hs⟩ := h
  have hsK := Kpt.mk hs
  replace HF := Kpt.mk HF
  replace hw := Kpt.mk hw
  obtain ⟨m, hm⟩ : ∃ m, m = ts.length := ⟨_, rfl⟩
  rw [← hm] at hsK hl hc ⊢
  replace hm := Kpt.mk hm
  clear hs
  go_enter Try.func62, Try.ntmps62
  go_wp2
  go_loopw [8] (fun t wr => ∃ k : Nat, k ≤ m ∧ t = .int .i64 k ∧ Kpt (fidx p ts 0 = fidx p (ts.drop k) k) ∧ Kpt (Below w.heap.size w wr)) (fun t _ => m - (intOf t).toNat)
  case atStart => exact ⟨0, Nat.zero_le _, rfl, ⟨rfl⟩, ⟨Below.refl _ _⟩⟩
  case round =>
    obtain ⟨k, hk, rfl, hI, hB⟩ := hrel
    by_cases hlt : k < m
    · obtain ⟨g, rfl, hg, hc2, hr⟩ := hsK.out (by omega)
      have hkz : k < ts.length := by rw [← hm.out]; exact hlt
      have hd : ts.drop k = ts[k] :: ts.drop (k + 1) := List.drop_eq_getElem_cons hkz
      have hrk : wr.rangeAt g (k * 14) ts[k].toList := rangeAt_block (hr k _ (List.getElem?_eq_getElem hkz)) (hB.out.block g hg)
      have hzk := hw.out ts[k] (List.getElem_mem hkz)
      have HFk := Kpt.mk (HF.out wr hB.out ts[k] (List.getElem_mem hkz))
      rw [hd] at hI
      obtain ⟨t, ht⟩ : ∃ t, t = ts[k] := ⟨_, rfl⟩
      rw [← ht] at hrk HFk hI hzk
      replace hrk := Kpt.mk hrk
      replace hzk := Kpt.mk hzk
      clear ht hr hd
      have e1 : (k : Int) < m := by omega
      have hcm : (m : Int) ≤ c := by omega
      go_wp2_with (refine (?_ : wpList _ _ _ (Oper.mk _ (Op.load 42 _) _ _ _ _ :: _) _ _); go_must (refine wpList_load_mid rfl 42 _ rfl g (k * 14) rfl t.toList _ hrk.out Try.underlying42 rfl (by rw [Array.length_toList, hzk.out.1]; exact szPdu) ?_; have hld := hm))
      refine HFk.out.mono ?_
      rintro e w2 ⟨rfl, hb2⟩
      have hB2 : Kpt (Below w.heap.size w w2) := ⟨hB.out.trans (hb2.mono hB.out.size)⟩
      have hI2 : Kpt (fidx p ts 0 = if p t = true then (k : Int) else fidx p (ts.drop (k + 1)) (k + 1)) := ⟨hI.out⟩
      clear hI hb2 HFk
      obtain ⟨pt, hpt⟩ : ∃ pt, pt = p t := ⟨_, rfl⟩
      rw [← hpt] at hI2 ⊢
      clear hpt
      cases pt with
      | true =>
        go_wp2
        go_ret
        exact ⟨ret_int (by rw [hI2.out]; simp), hB2.out⟩
      | false =>
        go_wp2
        go_roundw
        case rel => exact ⟨k + 1, by omega, by go_num, ⟨by rw [hI2.out]; simp⟩, hB2⟩
        case measure => simp [intOf]; omega
    · go_wp2
      go_ret
      exact ⟨ret_int (by rw [hI.out, List.drop_of_length_le (by rw [← hm.out]; omega)]; rfl), hB.out⟩

set_option maxHeartbeats 1000000 in
theorem idxC_any (f : FuncId) (cap : Array Value) (p : Array Value → Bool) (v : Value) (ts : List (Array Value)) (w : World) (h : RdR 4 w v ts) (hl : ts.length ≤ 10000) (hcf : ∀ (args : Array Value) (W : World), (callFunc f args).run Try.prog W = .ok (Next.enter f args) W)
    (HF : ∀ W, Below w.heap.size w W → ∀ t ∈ ts, Calls Try.prog f (#[.agg t] ++ cap) W fun e w' => e = .returned (.bool (p t)) ∧ Below W.heap.size W w') :
    Calls Try.prog 64 #[v, .func (.func f) #[] cap] w fun e w' => e = .returned (.int .i64 (fidx p ts 0)) ∧ Below w.heap.size w w' := by
  obtain ⟨hw, a, c, rfl, hc, hs⟩ := h
  have hsK := Kpt.mk hs
  replace HF := Kpt.mk HF
  replace hw := Kpt.mk hw
  obtain ⟨m, hm⟩ : ∃ m, m = ts.length := ⟨_, rfl⟩
  rw [← hm] at hsK hl hc ⊢
  replace hm := Kpt.mk hm
  clear hs
  go_enter Try.func64, Try.ntmps64
  go_wp2
  go_loopw [8] (fun t wr => ∃ k : Nat, k ≤ m ∧ t = .int .i64 k ∧ Kpt (fidx p ts 0 = fidx p (ts.drop k) k) ∧ Kpt (Below w.heap.size w wr)) (fun t _ => m - (intOf t).toNat)
  case atStart => exact ⟨0, Nat.zero_le _, rfl, ⟨rfl⟩, ⟨Below.refl _ _⟩⟩
  case round =>
    obtain ⟨k, hk, rfl, hI, hB⟩ := hrel
    by_cases hlt : k < m
    · obtain ⟨g, rfl, hg, hc2, hr⟩ := hsK.out (by omega)
      have hkz : k < ts.length := by rw [← hm.out]; exact hlt
      have hd : ts.drop k = ts[k] :: ts.drop (k + 1) := List.drop_eq_getElem_cons hkz
      have hrk : wr.rangeAt g (k * 4) ts[k].toList := rangeAt_block (hr k _ (List.getElem?_eq_getElem hkz)) (hB.out.block g hg)
      have hzk := hw.out ts[k] (List.getElem_mem hkz)
      have HFk := Kpt.mk (HF.out wr hB.out ts[k] (List.getElem_mem hkz))
      rw [hd] at hI
      obtain ⟨t, ht⟩ : ∃ t, t = ts[k] := ⟨_, rfl⟩
      rw [← ht] at hrk HFk hI hzk
      replace hrk := Kpt.mk hrk
      replace hzk := Kpt.mk hzk
      clear ht hr hd
      have e1 : (k : Int) < m := by omega
      have hcm : (m : Int) ≤ c := by omega
      go_wp2_with (refine (?_ : wpList _ _ _ (Oper.mk _ (Op.load 74 _) _ _ _ _ :: _) _ _); go_must (refine wpList_load_mid rfl 74 _ rfl g (k * 4) rfl t.toList _ hrk.out Try.underlying74 rfl (by rw [Array.length_toList, hzk.out.1]; exact szCmd) ?_; have hld := hm))
      refine HFk.out.mono ?_
      rintro e w2 ⟨rfl, hb2⟩
      have hB2 : Kpt (Below w.heap.size w w2) := ⟨hB.out.trans (hb2.mono hB.out.size)⟩
      have hI2 : Kpt (fidx p ts 0 = if p t = true then (k : Int) else fidx p (ts.drop (k + 1)) (k + 1)) := ⟨hI.out⟩
      clear hI hb2 HFk
      obtain ⟨pt, hpt⟩ : ∃ pt, pt = p t := ⟨_, rfl⟩
      rw [← hpt] at hI2 ⊢
      clear hpt
      cases pt with
      | true =>
        go_wp2
        go_ret
        exact ⟨ret_int (by rw [hI2.out]; simp), hB2.out⟩
      | false =>
        go_wp2
        go_roundw
        case rel => exact ⟨k + 1, by omega, by go_num, ⟨by rw [hI2.out]; simp⟩, hB2⟩
        case measure => simp [intOf]; omega
    · go_wp2
      go_ret
      exact ⟨ret_int (by rw [hI.out, List.drop_of_length_le (by rw [← hm.out]; omega)]; rfl), hB.out⟩

set_option maxHeartbeats 1000000 in
theorem idxW_any (f : FuncId) (cap : Array Value) (p : Array Value → Bool) (v : Value) (ts : List (Array Value)) (w : World) (h : RdR 11 w v ts) (hl : ts.length ≤ 10000) (hcf : ∀ (args : Array Value) (W : World), (callFunc f args).run Try.prog W = .ok (Next.enter f args) W)
    (HF : ∀ W, Below w.heap.size w W → ∀ t ∈ ts, Calls Try.prog f (#[.agg t] ++ cap) W fun e w' => e = .returned (.bool (p t)) ∧ Below W.heap.size W w') :
    Calls Try.prog 33 #[v, .func (.func f) #[] cap] w fun e w' => e = .returned (.int .i64 (fidx p ts 0)) ∧ Below w.heap.size w w' := by
  obtain ⟨hw, a, c, rfl, hc, hs⟩ := h
  have hsK := Kpt.mk hs
  replace HF := Kpt.mk HF
  replace hw := Kpt.mk hw
  obtain ⟨m, hm⟩ : ∃ m, m = ts.length := ⟨_, rfl⟩
  rw [← hm] at hsK hl hc ⊢
  replace hm := Kpt.mk hm
  clear hs
  go_enter Try.func33, Try.ntmps33
  go_wp2
  go_loopw [8] (fun t wr => ∃ k : Nat, k ≤ m ∧ t = .int .i64 k ∧ Kpt (fidx p ts 0 = fidx p (ts.drop k) k) ∧ Kpt (Below w.heap.size w wr)) (fun t _ => m - (intOf t).toNat)
  case atStart => exact ⟨0, Nat.zero_le _, rfl, ⟨rfl⟩, ⟨Below.refl _ _⟩⟩
  case round =>
    obtain ⟨k, hk, rfl, hI, hB⟩ := hrel
    by_cases hlt : k < m
    · obtain ⟨g, rfl, hg, hc2, hr⟩ := hsK.out (by omega)
      have hkz : k < ts.length := by rw [← hm.out]; exact hlt
      have hd : ts.drop k = ts[k] :: ts.drop (k + 1) := List.drop_eq_getElem_cons hkz
      have hrk : wr.rangeAt g (k * 11) ts[k].toList := rangeAt_block (hr k _ (List.getElem?_eq_getElem hkz)) (hB.out.block g hg)
      have hzk := hw.out ts[k] (List.getElem_mem hkz)
      have HFk := Kpt.mk (HF.out wr hB.out ts[k] (List.getElem_mem hkz))
      rw [hd] at hI
      obtain ⟨t, ht⟩ : ∃ t, t = ts[k] := ⟨_, rfl⟩
      rw [← ht] at hrk HFk hI hzk
      replace hrk := Kpt.mk hrk
      replace hzk := Kpt.mk hzk
      clear ht hr hd
      have e1 : (k : Int) < m := by omega
      have hcm : (m : Int) ≤ c := by omega
      go_wp2_with (refine (?_ : wpList _ _ _ (Oper.mk _ (Op.load 83 _) _ _ _ _ :: _) _ _); go_must (refine wpList_load_mid rfl 83 _ rfl g (k * 11) rfl t.toList _ hrk.out Try.underlying83 rfl (by rw [Array.length_toList, hzk.out.1]; exact szWrt) ?_; have hld := hm))
      refine HFk.out.mono ?_
      rintro e w2 ⟨rfl, hb2⟩
      have hB2 : Kpt (Below w.heap.size w w2) := ⟨hB.out.trans (hb2.mono hB.out.size)⟩
      have hI2 : Kpt (fidx p ts 0 = if p t = true then (k : Int) else fidx p (ts.drop (k + 1)) (k + 1)) := ⟨hI.out⟩
      clear hI hb2 HFk
      obtain ⟨pt, hpt⟩ : ∃ pt, pt = p t := ⟨_, rfl⟩
      rw [← hpt] at hI2 ⊢
      clear hpt
      cases pt with
      | true =>
        go_wp2
        go_ret
        exact ⟨ret_int (by rw [hI2.out]; simp), hB2.out⟩
      | false =>
        go_wp2
        go_roundw
        case rel => exact ⟨k + 1, by omega, by go_num, ⟨by rw [hI2.out]; simp⟩, hB2⟩
        case measure => simp [intOf]; omega
    · go_wp2
      go_ret
      exact ⟨ret_int (by rw [hI.out, List.drop_of_length_le (by rw [← hm.out]; omega)]; rfl), hB.out⟩
end Go.Proofs.Ytdplndlmdhpfaab
