/-
  The contracts of IndexFunc, ContainsFunc, hasAny, find, isNexus.
-/
import Derived.Test.YtcnefmfmmgdidaaTQ
import Derived.Conc.MuLone
namespace Go.Proofs.Ytcnefmfmmgdidaa
open Go.RowKit
set_option linter.unusedVariables false
set_option linter.unusedSimpArgs false

theorem Try.size48 : (Try.prog.info? 48).map (·.size) = some 4 := by kernel_rfl

set_option maxHeartbeats 1000000 in
theorem index_any (f : FuncId) (cap : Array Value) (p : Tk → Bool) (v : Value) (ts : List Tk) (w : World) (h : Rd w v ts) (hl : ts.length ≤ 100) (hcf : ∀ (args : Array Value) (W : World), (callFunc f args).run Try.prog W = .ok (Next.enter f args) W)
    (HF : ∀ W, Below w.heap.size w W → ∀ t ∈ ts, Calls Try.prog f (#[.agg t.vals] ++ cap) W fun e w' => e = .returned (.bool (p t)) ∧ Below W.heap.size W w') :
    Calls Try.prog 44 #[v, .func (.func f) #[] cap] w fun e w' => e = .returned (.int .i64 (fidx p ts 0)) ∧ Below w.heap.size w w' := by
  obtain ⟨a, c, rfl, hs⟩ := h
  have hsK := Kpt.mk hs
  replace HF := Kpt.mk HF
  obtain ⟨m, hm⟩ : ∃ m, m = ts.length := ⟨_, rfl⟩
  rw [← hm] at hsK hl ⊢
  replace hm := Kpt.mk hm
  clear hs
  go_enter Try.func44, Try.ntmps44
  go_wp2
  go_loopw [8] (fun t wr => ∃ k : Nat, k ≤ m ∧ t = .int .i64 k ∧ Kpt (fidx p ts 0 = fidx p (ts.drop k) k) ∧ Kpt (Below w.heap.size w wr)) (fun t _ => m - (intOf t).toNat)
  case atStart => exact ⟨0, Nat.zero_le _, rfl, ⟨rfl⟩, ⟨Below.refl _ _⟩⟩
  case round =>
    obtain ⟨k, hk, rfl, hI, hB⟩ := hrel
    by_cases hlt : k < m
    · obtain ⟨g, rfl, hg, hc1, hc2, hr⟩ := hsK.out (by omega)
      have hkz : k < ts.length := by rw [← hm.out]; exact hlt
      have hd : ts.drop k = ts[k] :: ts.drop (k + 1) := List.drop_eq_getElem_cons hkz
      have hrk : wr.rangeAt g (k * 4) ts[k].vals.toList := rangeAt_of_block (hr k _ (List.getElem?_eq_getElem hkz)) (hB.out.block g hg)
      have HFk := Kpt.mk (HF.out wr hB.out ts[k] (List.getElem_mem hkz))
      rw [hd] at hI
      obtain ⟨t, ht⟩ : ∃ t, t = ts[k] := ⟨_, rfl⟩
      rw [← ht] at hrk HFk hI
      obtain ⟨r0, r1, r2, r3⟩ := range4 hrk
      clear ht hr hd hrk
      have e1 : (k : Int) < m := by omega
      have hcm : (m : Int) ≤ c := by omega
      go_wp2_with fail
      refine HFk.out.mono ?_
      rintro e w2 ⟨rfl, hb2⟩
      have hB2 : Kpt (Below w.heap.size w w2) := ⟨hB.out.trans (hb2.mono hB.out.size)⟩
      have hI2 : Kpt (fidx p ts 0 = if p t = true then (k : Int) else fidx p (ts.drop (k + 1)) (k + 1)) := ⟨hI.out⟩
      clear hI hb2 HFk
      obtain ⟨pt, hpt⟩ : ∃ pt, pt = p t := ⟨_, rfl⟩
      rw [← hpt] at hI2 ⊢
      clear hpt
      cases pt with
      | true =>
        go_wp2
        go_ret
        exact ⟨ret_int (by rw [hI2.out]; simp), hB2.out⟩
      | false =>
        go_wp2
        go_roundw
        case rel => exact ⟨k + 1, by omega, by go_num, ⟨by rw [hI2.out]; simp⟩, hB2⟩
        case measure => simp [intOf]; omega
    · go_wp2
      go_ret
      exact ⟨ret_int (by rw [hI.out, List.drop_of_length_le (by rw [← hm.out]; omega)]; rfl), hB.out⟩

theorem contains_any (f : FuncId) (cap : Array Value) (p : Tk → Bool) (v : Value) (ts : List Tk) (w : World) (h : Rd w v ts) (hl : ts.length ≤ 100) (hcf : ∀ (args : Array Value) (W : World), (callFunc f args).run Try.prog W = .ok (Next.enter f args) W)
    (HF : ∀ W, Below w.heap.size w W → ∀ t ∈ ts, Calls Try.prog f (#[.agg t.vals] ++ cap) W fun e w' => e = .returned (.bool (p t)) ∧ Below W.heap.size W w') :
    Calls Try.prog 46 #[v, .func (.func f) #[] cap] w fun e w' => e = .returned (.bool (decide (0 ≤ fidx p ts 0))) ∧ Below w.heap.size w w' := by
  have H := Kpt.mk (index_any f cap p v ts w h hl hcf HF)
  clear h HF hcf
  generalize fidx p ts 0 = x at *
  go_enter Try.func46, Try.ntmps46
  go_wp2_with (go_at_call 44; refine H.out.mono ?_; rintro e w' ⟨rfl, hb⟩; replace hb := Kpt.mk hb)
  go_ret
  exact ⟨rfl, hb.out⟩

theorem fidx_any (p : Tk → Bool) : ∀ (ts : List Tk) (i : Nat), decide (0 ≤ fidx p ts i) = ts.any p
  | [], i => by simp [fidx]
  | t :: r, i => by
    unfold fidx
    rw [List.any_cons]
    by_cases h : p t = true
    · rw [if_pos h, h]; simp
    · rw [if_neg h, fidx_any p r (i + 1)]
      simp at h
      rw [h]; simp

theorem hcf47 : ∀ (args : Array Value) (W : World), (callFunc 47 args).run Try.prog W = .ok (Next.enter 47 args) W := fun args W => Go.MuLone.run_callFunc_enter (P := Try.prog) Try.func47 (by kernel_rfl) rfl args W
theorem hcf45 : ∀ (args : Array Value) (W : World), (callFunc 45 args).run Try.prog W = .ok (Next.enter 45 args) W := fun args W => Go.MuLone.run_callFunc_enter (P := Try.prog) Try.func45 (by kernel_rfl) rfl args W

/-- One of the tasks has the attribute. -/
def hasA (ts : List Tk) (a : Int) : Bool := ts.any (fun t => decide (t.ar = a))
theorem hasAny_any (v : Value) (ts : List Tk) (a : Int) (w : World) (h : Rd w v ts) (hl : ts.length ≤ 100) :
    Calls Try.prog 43 #[v, .int .u8 a] w fun e w' => e = .returned (.bool (hasA ts a)) ∧ Below w.heap.size w w' := by
  have hb0 : Below w.heap.size w (w.alloc (.cells #[.int .u8 a] 30)) := (Below.refl _ _).alloc (Nat.le_refl _) _
  have H := Kpt.mk (contains_any 47 #[.pointer (some ⟨w.heap.size, 0, none⟩)] (fun t => decide (t.ar = a)) v ts (w.alloc (.cells #[.int .u8 a] 30)) (h.below (Nat.le_refl _) hb0) hl hcf47 (fun W hW t _ =>
    attr_any t w.heap.size a W ((hW.cell (p := ⟨w.heap.size, 0, none⟩) (by simp)).trans (by simp)) (Nat.lt_of_lt_of_le (by simp) hW.size)))
  rw [fidx_any] at H
  have hb0K := Kpt.mk hb0
  clear h hb0
  go_enter Try.func43, Try.ntmps43
  have hm := hmf
  go_wp2_with (go_at_call 46; go_must (refine H.out.mono ?_; rintro e w' ⟨rfl, hb⟩; replace hb := Kpt.mk hb))
  go_ret
  exact ⟨rfl, hb0K.out.trans (hb.out.mono hb0K.out.size)⟩
theorem isNexus_any (n : Int) (w : World) : Calls Try.prog 33 #[.int .i64 n] w fun e w' => e = .returned (.bool (decide (0 ≤ n ∧ n < 8))) ∧ w' = w := by
  by_cases h0 : 0 ≤ n
  · by_cases h1 : n < 8
    · go_enter Try.func33, Try.ntmps33
      go_wp2
      go_ret
      exact ⟨ret_bool (by simp [h0, h1]), rfl⟩
    · go_enter Try.func33, Try.ntmps33
      go_wp2
      go_ret
      exact ⟨ret_bool (by simp [h0, h1]), rfl⟩
  · go_enter Try.func33, Try.ntmps33
    go_wp2
    go_ret
    exact ⟨ret_bool (by simp; omega), rfl⟩
end Go.Proofs.Ytcnefmfmmgdidaa
