/-
  sess: holds and findOpen.
-/
import Derived.Test.YtdplndlmdhpfaabEIdx
namespace Go.Proofs.Ytdplndlmdhpfaab
open Go.RowKit
set_option linter.unusedVariables false
set_option linter.unusedSimpArgs false

def numOf (t : Array Value) : Int := intOf (t[7]?.getD undef)
def tagOf (t : Array Value) : Int := intOf (t[0]?.getD undef)
def isN (n : Int) (t : Array Value) : Bool := decide (numOf t = n)
def isC (n : Int) (t : Array Value) : Bool := decide (tagOf t = n)
/-- An open command. -/
structure Cm where
  (tg lu : Int) (rd : Bool) (wn : Int)
def Cm.v (c : Cm) : Array Value := #[.int .u32 c.tg, .int .u8 c.lu, .bool c.rd, .int .i64 c.wn]
theorem Cm.one (c : Cm) : c.v.size = 4 ∧ c.v.all (·.oneCell') = true := ⟨rfl, by simp [Cm.v, Value.oneCell']⟩
theorem numOf_v (p : Pd) : numOf p.v = p.w1 := rfl
theorem tagOf_v (c : Cm) : tagOf c.v = c.tg := rfl

theorem decide_eq_beq_int (a b : Int) : decide (a = b) = (a == b) := by
  by_cases h : a = b <;> simp [h]
theorem holds1_any (p : Pd) (q : Nat) (n : Int) (w : World) (hq : w.cell? ⟨q, 0, none⟩ = some (.int .u32 n)) (hql : q < w.heap.size) :
    Calls Try.prog 45 #[.agg p.v, .pointer (some ⟨q, 0, none⟩)] w fun e w' => e = .returned (.bool (isN n p.v)) ∧ Below w.heap.size w w' := by
  have hI : Kpt (isN n p.v = (p.w1 == n)) := ⟨by simp only [isN, numOf_v]; exact decide_eq_beq_int _ _⟩
  go_enter Try.func45, Try.ntmps45
  go_wp2_with (refine (?_ : wpList _ _ _ (Oper.mk _ (Op.box 42 _) _ _ _ _ :: _) _ _); go_must (refine wpList_box rfl 42 _ rfl p.v rfl ?_; intro P w1 hP hB hb _; have q7 := hB.cells 7 (by simp [Pd.v]); simp [Pd.v] at q7; have hq1 := (hb.cell (p := ⟨q, 0, none⟩) hql).trans hq; replace hb := Kpt.mk hb; clear hB hP))
  go_ret
  exact ⟨by rw [hI.out]; rfl, hb.out⟩
theorem findOpen1_any (c : Cm) (q : Nat) (n : Int) (w : World) (hq : w.cell? ⟨q, 0, none⟩ = some (.int .u32 n)) (hql : q < w.heap.size) :
    Calls Try.prog 65 #[.agg c.v, .pointer (some ⟨q, 0, none⟩)] w fun e w' => e = .returned (.bool (isC n c.v)) ∧ Below w.heap.size w w' := by
  have hI : Kpt (isC n c.v = (c.tg == n)) := ⟨by simp only [isC, tagOf_v]; exact decide_eq_beq_int _ _⟩
  go_enter Try.func65, Try.ntmps65
  go_wp2_with (refine (?_ : wpList _ _ _ (Oper.mk _ (Op.box 74 _) _ _ _ _ :: _) _ _); go_must (refine wpList_box rfl 74 _ rfl c.v rfl ?_; intro P w1 hP hB hb _; have q7 := hB.cells 0 (by simp [Cm.v]); simp [Cm.v] at q7; have hq1 := (hb.cell (p := ⟨q, 0, none⟩) hql).trans hq; replace hb := Kpt.mk hb; clear hB hP))
  go_ret
  exact ⟨by rw [hI.out]; rfl, hb.out⟩
theorem contP_any (f : FuncId) (cap : Array Value) (p : Array Value → Bool) (v : Value) (ts : List (Array Value)) (w : World) (h : RdR 14 w v ts) (hl : ts.length ≤ 10000) (hcf : ∀ (args : Array Value) (W : World), (callFunc f args).run Try.prog W = .ok (Next.enter f args) W)
    (HF : ∀ W, Below w.heap.size w W → ∀ t ∈ ts, Calls Try.prog f (#[.agg t] ++ cap) W fun e w' => e = .returned (.bool (p t)) ∧ Below W.heap.size W w') :
    Calls Try.prog 44 #[v, .func (.func f) #[] cap] w fun e w' => e = .returned (.bool (decide (0 ≤ fidx p ts 0))) ∧ Below w.heap.size w w' := by
  have H := Kpt.mk (idxP_any f cap p v ts w h hl hcf HF)
  clear h HF hcf
  generalize fidx p ts 0 = x at *
  go_enter Try.func44, Try.ntmps44
  go_wp2_with (go_at_call 62; refine H.out.mono ?_; rintro e w' ⟨rfl, hb⟩; replace hb := Kpt.mk hb)
  go_ret
  exact ⟨rfl, hb.out⟩

theorem hcfH : ∀ (args : Array Value) (W : World), (callFunc 45 args).run Try.prog W = .ok (Next.enter 45 args) W := fun args W => Go.MuLone.run_callFunc_enter (P := Try.prog) Try.func45 (by kernel_rfl) rfl args W
theorem hcfO : ∀ (args : Array Value) (W : World), (callFunc 65 args).run Try.prog W = .ok (Next.enter 65 args) W := fun args W => Go.MuLone.run_callFunc_enter (P := Try.prog) Try.func65 (by kernel_rfl) rfl args W

theorem holds_any (S : Nat) (s : Se) (H : List Pd) (O T : List (Array Value)) (n : Int) (w : World) (h : Ss w S s (H.map Pd.v) O T) (hl : H.length ≤ 10000) :
    Calls Try.prog 25 #[.pointer (some ⟨S, 0, none⟩), .int .u32 n] w fun e w' => e = .returned (.bool ((H.map Pd.v).any (isN n))) ∧ Below w.heap.size w w' := by
  have hb0 : Below w.heap.size w (w.alloc (.cells #[.int .u32 n] 29)) := (Below.refl _ _).alloc (Nat.le_refl _) _
  have H0 := Kpt.mk (contP_any 45 #[.pointer (some ⟨w.heap.size, 0, none⟩)] (isN n) s.held (H.map Pd.v) (w.alloc (.cells #[.int .u32 n] 29)) (h.held.rd.below hb0) (by simpa using hl) hcfH (fun W hW t ht => by
    obtain ⟨p, _, rfl⟩ := List.mem_map.1 ht
    exact holds1_any p w.heap.size n W ((hW.cell (p := ⟨w.heap.size, 0, none⟩) (by simp)).trans (by simp)) (Nat.lt_of_lt_of_le (by simp) hW.size)))
  rw [fidx_any] at H0
  have hb0K := Kpt.mk hb0
  obtain ⟨c14, -⟩ := (h.below hb0).cell 14 (by omega)
  simp only [Se.v, List.getElem?_toArray, List.getElem?_cons_succ, List.getElem?_cons_zero] at c14
  have hS := h.bx.lt
  clear h hb0
  generalize (H.map Pd.v).any (isN n) = x at *
  go_enter Try.func25, Try.ntmps25
  have hm := hmf
  go_wp2_with (go_at_call 44; go_must (refine H0.out.mono ?_; rintro e w' ⟨rfl, hb⟩; replace hb := Kpt.mk hb))
  go_ret
  exact ⟨rfl, hb0K.out.trans (hb.out.mono hb0K.out.size)⟩

theorem findOpen_any (S : Nat) (s : Se) (H : List (Array Value)) (O : List Cm) (T : List (Array Value)) (n : Int) (w : World) (h : Ss w S s H (O.map Cm.v) T) (hl : O.length ≤ 10000) :
    Calls Try.prog 47 #[.pointer (some ⟨S, 0, none⟩), .int .u32 n] w fun e w' => e = .returned (.int .i64 (fidx (isC n) (O.map Cm.v) 0)) ∧ Below w.heap.size w w' := by
  have hb0 : Below w.heap.size w (w.alloc (.cells #[.int .u32 n] 29)) := (Below.refl _ _).alloc (Nat.le_refl _) _
  have H0 := Kpt.mk (idxC_any 65 #[.pointer (some ⟨w.heap.size, 0, none⟩)] (isC n) s.opn (O.map Cm.v) (w.alloc (.cells #[.int .u32 n] 29)) (h.opn.rd.below hb0) (by simpa using hl) hcfO (fun W hW t ht => by
    obtain ⟨p, _, rfl⟩ := List.mem_map.1 ht
    exact findOpen1_any p w.heap.size n W ((hW.cell (p := ⟨w.heap.size, 0, none⟩) (by simp)).trans (by simp)) (Nat.lt_of_lt_of_le (by simp) hW.size)))
  have hb0K := Kpt.mk hb0
  obtain ⟨c14, -⟩ := (h.below hb0).cell 15 (by omega)
  simp only [Se.v, List.getElem?_toArray, List.getElem?_cons_succ, List.getElem?_cons_zero] at c14
  have hS := h.bx.lt
  clear h hb0
  generalize fidx (isC n) (O.map Cm.v) 0 = x at *
  go_enter Try.func47, Try.ntmps47
  have hm := hmf
  go_wp2_with (go_at_call 64; go_must (refine H0.out.mono ?_; rintro e w' ⟨rfl, hb⟩; replace hb := Kpt.mk hb))
  go_ret
  exact ⟨rfl, hb0K.out.trans (hb.out.mono hb0K.out.size)⟩
end Go.Proofs.Ytdplndlmdhpfaab
