/-
  login: how it is proved who it is: the methods, the challenge.
-/
import Derived.Test.YtplifodddfjhdaaGreatDoorXLaK
import Derived.Test.YtplifodddfjhdaaGreatDoorXFsts
import Derived.Test.YtplifodddfjhdaaGreatDoorQHex
import Derived.Great.BuildSlice
namespace Go.Proofs.YtplifodddfjhdaaGreatDoor
open Go.RowKit
set_option linter.unusedVariables false
set_option linter.unusedSimpArgs false

def vCh : ByteArray := ⟨#[67, 72, 65, 80]⟩
def vNo : ByteArray := ⟨#[78, 111, 110, 101]⟩
def v5 : ByteArray := ⟨#[53]⟩
def kAut : ByteArray := ⟨#[65, 117, 116, 104, 77, 101, 116, 104, 111, 100]⟩
def kCA : ByteArray := ⟨#[67, 72, 65, 80, 95, 65]⟩
def kCI : ByteArray := ⟨#[67, 72, 65, 80, 95, 73]⟩
def kCC : ByteArray := ⟨#[67, 72, 65, 80, 95, 67]⟩
def methS (u : Bool) : ByteArray := if u = true then vCh else vNo

theorem first_S (S : ByteArray) (hl : S.size ≤ 281474976710656) (a : Option Addr) (n c : Nat) (os : List ByteArray) (w : World) (h : StAt w (.slice a n c) os) (hn : n ≤ maxLen) :
    Calls Tryz.prog 45 #[.string S, .slice a n c] w fun e w' => e = .returned (.string (firstP os (pcsS (nums S)))) ∧ Below w.heap.size w w' := by
  have := first_any (nums S) (nums_byte S) (by rw [nums_len]; exact hl) a n c os w h hn
  rw [str_nums] at this
  exact this
theorem st_one (W : World) (b : Nat) (x : ByteArray) (h : Bx W b #[.string x]) : StAt W (.slice (some ⟨b, 0, none⟩) 1 1) [x] := by
  refine ⟨some ⟨b, 0, none⟩, 1, rfl, by simp, .inr ⟨b, 0, rfl, h.lt, fun j hj => ?_⟩⟩
  obtain rfl : j = 0 := by simpa using hj
  simpa using h.cells 0 (by simp)
/-- What a pair's row is. -/
theorem exec_build1 {o : Oper} {a : Act} {w : World} (sl ty k by' : Nat) (Z : Value) (hu : Tryz.prog.underlying sl = some (.slice ty)) (hinf : (Tryz.prog.info? ty).map (fun i => (i.zero, i.size, i.bytes)) = some (some Z, k, by')) (hk0 : 0 < k) (hk : k ≤ 1000)
    (x : Operand) (ho : o.op = .buildSlice sl 1 #[(0, x)]) (z : Array Value) (hz : z.size = k) (hx : a.eval x = .agg z) :
    (execOp a.eval o).run Tryz.prog w = .ok (.value (.slice (some ⟨w.heap.size, 0, none⟩) 1 1)) (w.alloc (.cells z ty)) := by
  obtain ⟨i0, hi0, hz0, hz1, hz2⟩ := info_parts hinf
  have hf := Great.fill_whole hk0 [.agg z] ((Array.range (1 * i0.size)).map (Z.cells[· % Z.cells.size]!)) (by intro v hv; simp at hv; subst hv; exact hz) (by simp [hz1])
  have he : ([Value.agg z].flatMap fun v => v.cells.toList).toArray = z := by simp [Value.cells]
  rw [he, show (([Value.agg z].zipIdx 0).map fun x => (x.2, x.1)) = [(0, .agg z)] from rfl] at hf
  have := run_buildSlice (P := Tryz.prog) w sl ty 1 #[(0, .agg z)] z i0 _ hu hi0 hz0 (by rw [hz1]; omega) (by rw [hz1]; omega) (by rw [hz1] at hf ⊢; exact hf)
  unfold execOp
  simp only [ho]
  simp [hx, this]
theorem exec_pair {o : Oper} {a : Act} {w : World} (x : Operand) (ho : o.op = .buildSlice 37 1 #[(0, x)]) (K V : ByteArray) (hx : a.eval x = .agg #[.string K, .string V]) :
    (execOp a.eval o).run Tryz.prog w = .ok (.value (.slice (some ⟨w.heap.size, 0, none⟩) 1 1)) (w.alloc (.cells #[.string K, .string V] 41)) :=
  exec_build1 37 41 2 32 _ Tryz.underlying37 infoP (by decide) (by decide) x ho #[.string K, .string V] rfl hx
theorem exec_pair3 {o : Oper} {a : Act} {w : World} (x y z : Operand) (ho : o.op = .buildSlice 37 3 #[(0, x), (1, y), (2, z)]) (K1 V1 K2 V2 K3 V3 : ByteArray) (hx : a.eval x = .agg #[.string K1, .string V1]) (hy : a.eval y = .agg #[.string K2, .string V2]) (hz : a.eval z = .agg #[.string K3, .string V3]) :
    (execOp a.eval o).run Tryz.prog w = .ok (.value (.slice (some ⟨w.heap.size, 0, none⟩) 3 3)) (w.alloc (.cells #[.string K1, .string V1, .string K2, .string V2, .string K3, .string V3] 41)) := by
  obtain ⟨i0, hi0, hz0, hz1, hz2⟩ := info_parts infoP
  have hf := Great.fill_whole (show 0 < 2 by omega) [.agg #[.string K1, .string V1], .agg #[.string K2, .string V2], .agg #[.string K3, .string V3]] ((Array.range (3 * i0.size)).map ((Value.agg #[.string ⟨#[]⟩, .string ⟨#[]⟩]).cells[· % (Value.agg #[.string ⟨#[]⟩, .string ⟨#[]⟩]).cells.size]!)) (by intro v hv; simp at hv; rcases hv with rfl | rfl | rfl <;> rfl) (by simp [hz1])
  have := run_buildSlice (P := Tryz.prog) w 37 41 3 #[(0, .agg #[.string K1, .string V1]), (1, .agg #[.string K2, .string V2]), (2, .agg #[.string K3, .string V3])] #[.string K1, .string V1, .string K2, .string V2, .string K3, .string V3] i0 _ Tryz.underlying37 hi0 hz0 (by rw [hz1]; omega) (by rw [hz1]; omega) (by rw [hz1] at hf ⊢; exact hf)
  unfold execOp
  simp only [ho]
  simp [hx, hy, hz, this]

set_option maxRecDepth 100000 in
theorem methods_any (L : Nat) (s : Lg) (ua : Option Addr) (un uc : Nat) (hus : s.us = .slice ua un uc) (w : World) (hX : Bx w L s.v) :
    Calls Tryz.prog 46 #[.pointer (some ⟨L, 0, none⟩)] w fun e w' => e = .returned (.slice (some ⟨w.heap.size, 0, none⟩) 1 1) ∧ w' = w.alloc (.cells #[.string (methS (decide (0 < un)))] 9) := by
  have c := hX.cells 1 (by simp [Lg.v])
  simp [Lg.v, hus] at c
  clear hX hus
  by_cases h : 0 < un
  · have hI : (0 : Int) < un := by omega
    have hm : methS (decide (0 < un)) = ⟨#[67, 72, 65, 80]⟩ := by simp [methS, h, vCh]
    rw [hm]
    clear hm
    go_enter Tryz.func46, Tryz.ntmps46
    go_wp2
    go_ret
    exact ⟨rfl, rfl⟩
  · obtain rfl : un = 0 := by omega
    have hm : methS (decide (0 < 0)) = ⟨#[78, 111, 110, 101]⟩ := by simp [methS, vNo]
    rw [hm]
    clear hm h
    go_enter Tryz.func46, Tryz.ntmps46
    go_wp2
    go_ret
    exact ⟨rfl, rfl⟩

/-- What the method comes to. -/
def autV (u : Bool) (V : ByteArray) : ByteArray := firstP [methS u] (pcsS (nums V))
def isRej (x : ByteArray) : Bool := x.toList == [82, 101, 106, 101, 99, 116]
set_option maxRecDepth 100000 in
set_option maxHeartbeats 8000000 in
theorem akey_aut (L : Nat) (s : Lg) (V rs : ByteArray) (ua : Option Addr) (un uc : Nat) (hus : s.us = .slice ua un uc) (w : World) (hX : Bx w L s.v) (hl : V.size ≤ 281474976710656) :
    Calls Tryz.prog 40 #[.pointer (some ⟨L, 0, none⟩), .agg #[.string kAut, .string V], .string rs] w fun e w' => ∃ g, e = .returned (.tuple #[.slice (some ⟨g, 0, none⟩) 1 1, .bool (!isRej (autV (decide (0 < un)) V))]) ∧ w.heap.size ≤ g ∧ Bx w' g #[.string kAut, .string (autV (decide (0 < un)) V)] ∧ Bx w' L { s with meth := autV (decide (0 < un)) V }.v ∧ w.grownBy w' (some L) := by
  have hM : Kpt (∀ W, Bx W L s.v → Calls Tryz.prog 46 #[.pointer (some ⟨L, 0, none⟩)] W fun e w' => e = .returned (.slice (some ⟨W.heap.size, 0, none⟩) 1 1) ∧ w' = W.alloc (.cells #[.string (methS (decide (0 < un)))] 9)) := ⟨fun W h => methods_any L s ua un uc hus W h⟩
  have hF : Kpt (∀ (W : World) (b : Nat), Bx W b #[.string (methS (decide (0 < un)))] → Calls Tryz.prog 45 #[.string V, .slice (some ⟨b, 0, none⟩) 1 1] W fun e w' => e = .returned (.string (autV (decide (0 < un)) V)) ∧ Below W.heap.size W w') := ⟨fun W b h => first_S V hl _ 1 1 [methS (decide (0 < un))] W (st_one _ _ _ h) (by unfold maxLen; omega)⟩
  obtain ⟨x, hx⟩ : ∃ x, x = autV (decide (0 < un)) V := ⟨_, rfl⟩
  obtain ⟨m, hm⟩ : ∃ m, m = methS (decide (0 < un)) := ⟨_, rfl⟩
  rw [← hx, ← hm] at hF
  rw [← hm] at hM
  rw [← hx]
  obtain ⟨q, hq⟩ : ∃ q, q = isRej x := ⟨_, rfl⟩
  rw [← hq]
  unfold isRej at hq
  replace hq := hq.symm
  have hlt := Kpt.mk hX.lt
  replace hX := Kpt.mk hX
  clear hus hl hx hm
  unfold kAut
  go_enter Tryz.func40, Tryz.ntmps40
  go_wp2_with (refine (?_ : wpList _ _ _ (Oper.mk _ (Op.box 41 _) _ _ _ _ :: _) _ _); go_must (refine wpList_box rfl 41 (.tmp 1) rfl #[.string ⟨#[65, 117, 116, 104, 77, 101, 116, 104, 111, 100]⟩, .string V] rfl ?_; intro B w1 hBl hBq hbe _; have hB := Kpt.mk hBq; have hb1 := Kpt.mk hbe; have hX1 := Kpt.mk (hX.out.below hbe hlt.out); have hBL : Kpt (L < B) := ⟨Nat.lt_of_lt_of_le hlt.out hBl⟩; have k0 := hBq.cells 0 (by simp); have k1 := hBq.cells 1 (by simp); simp only [List.getElem?_toArray, List.getElem?_cons_succ, List.getElem?_cons_zero] at k0 k1; clear hBl hBq hbe))
  refine wp_region_any (by kernel_rfl) ?_
  refine wpAny_of_C (C := fun W => Bx W B #[.string ⟨#[65, 117, 116, 104, 77, 101, 116, 104, 111, 100]⟩, .string V]) _ _ _ _ ?_
  refine wpAnyC_take 0 (.pointer (some ⟨L, 0, none⟩)) rfl (by kernel_rfl) (by kernel_rfl) (by kernel_rfl) (fun _ _ _ h => h) (wanted_free rfl _) (fun W hW => by go_simp) ?_
  try simp only [Act.put, List.getElem_toArray, List.getElem_cons_succ, List.getElem_cons_zero, List.setIfInBounds_toArray, List.set_cons_succ, List.set_cons_zero]
  refine wpAnyC_take 1 (.pointer (some ⟨B, 1, none⟩)) rfl (by kernel_rfl) (by kernel_rfl) (by kernel_rfl) (fun _ _ _ h => h) (wanted_free rfl _) (fun W hW => by go_simp) ?_
  try simp only [Act.put, List.getElem_toArray, List.getElem_cons_succ, List.getElem_cons_zero, List.setIfInBounds_toArray, List.set_cons_succ, List.set_cons_zero]
  refine wpAnyC_take 2 (.string V) rfl (by kernel_rfl) (by kernel_rfl) (by kernel_rfl) (fun _ _ _ h => h) (wanted_free rfl _) (fun W hW => by have h1 := hW.cells 1 (by simp); simp at h1; go_simp) ?_
  try simp only [Act.put, List.getElem_toArray, List.getElem_cons_succ, List.getElem_cons_zero, List.setIfInBounds_toArray, List.set_cons_succ, List.set_cons_zero]
  refine wpAnyC_take 3 (.pointer (some ⟨L, 0, none⟩)) rfl (by kernel_rfl) (by kernel_rfl) (by kernel_rfl) (fun _ _ _ h => h) (wanted_free rfl _) (fun W hW => by go_simp) ?_
  try simp only [Act.put, List.getElem_toArray, List.getElem_cons_succ, List.getElem_cons_zero, List.setIfInBounds_toArray, List.set_cons_succ, List.set_cons_zero]
  refine wpAnyC_one 4 (hB.out.drew) rfl (by kernel_rfl) (wanted_free rfl _) (fun KA hKA => ?_)
  go_simp
  refine (hM.out _ hX1.out.drew).mono ?_
  rintro e wx ⟨rfl, rfl⟩
  refine hKA _ _ ?_
  clear hKA KA
  try simp only [Act.put, List.getElem_toArray, List.getElem_cons_succ, List.getElem_cons_zero, List.setIfInBounds_toArray, List.set_cons_succ, List.set_cons_zero]
  refine wpAnyC_one 5 (hB.out.drew.alloc _) rfl (by kernel_rfl) (wanted_free rfl _) (fun KA hKA => ?_)
  go_simp
  refine (hF.out _ _ (bx_new w1 _ 9).drew).mono ?_
  rintro e w3 ⟨rfl, hb3⟩
  have hbq : Kpt (Below w1.heap.size w1 w3) := ⟨(((Below.refl w1.heap.size w1).alloc (Nat.le_refl _) (.cells #[.string m] 9)).trans ((below_drew _).mono (by simp))).trans (hb3.mono (by simp))⟩
  have hB3 := Kpt.mk (hB.out.below hbq.out hB.out.lt)
  have hX3 := Kpt.mk (hX1.out.below hbq.out hX1.out.lt)
  have hb4 : Kpt (Below w.heap.size w w3) := ⟨hb1.out.trans (hbq.out.mono hb1.out.size)⟩
  have c5 := hX3.out.cells 7 (by simp [Lg.v])
  have f5 := hX3.out.free 7
  simp only [Lg.v, List.getElem?_toArray, List.getElem?_cons_succ, List.getElem?_cons_zero] at c5
  clear hb3 hbq k0 k1
  refine hKA _ _ ?_
  clear hKA KA
  try simp only [Act.put, List.getElem_toArray, List.getElem_cons_succ, List.getElem_cons_zero, List.setIfInBounds_toArray, List.set_cons_succ, List.set_cons_zero]
  refine wpAnyC_take 6 (.pointer (some ⟨L, 0, none⟩)) rfl (by kernel_rfl) (by kernel_rfl) (by kernel_rfl) (fun _ _ _ h => h) (wanted_free rfl _) (fun W hW => by go_simp) ?_
  try simp only [Act.put, List.getElem_toArray, List.getElem_cons_succ, List.getElem_cons_zero, List.setIfInBounds_toArray, List.set_cons_succ, List.set_cons_zero]
  refine wpAnyC_take 7 (.pointer (some ⟨L, 7, none⟩)) rfl (by kernel_rfl) (by kernel_rfl) (by kernel_rfl) (fun _ _ _ h => h) (wanted_free rfl _) (fun W hW => by go_simp) ?_
  try simp only [Act.put, List.getElem_toArray, List.getElem_cons_succ, List.getElem_cons_zero, List.setIfInBounds_toArray, List.set_cons_succ, List.set_cons_zero]
  refine wpAnyC_one 8 (hB3.out) rfl (by kernel_rfl) (wanted_free rfl _) (fun KA hKA => ?_)
  go_simp
  refine hKA _ _ ?_
  clear hKA KA
  try simp only [Act.put, List.getElem_toArray, List.getElem_cons_succ, List.getElem_cons_zero, List.setIfInBounds_toArray, List.set_cons_succ, List.set_cons_zero]
  have hg5 := grown_setCellK w3 ⟨L, 7, none⟩ (.string x)
  have hB5 := Kpt.mk (hB3.out.grown hg5 (fun e => by injection e with e; have := hBL.out; simp at e; omega))
  have hX5 : Kpt (Bx (w3.setCell ⟨L, 7, none⟩ (.string x)) L { s with meth := x }.v) := ⟨by have := bx_setC (.string x) hX3.out (j := 7) (by simp [Lg.v]); simpa [Lg.v] using this⟩
  have hgw := Kpt.mk (grown_tr (grown_of_below hb4.out (some L)) hg5)
  obtain ⟨w5, hw5⟩ : ∃ W, W = w3.setCell ⟨L, 7, none⟩ (.string x) := ⟨_, rfl⟩
  rw [← hw5] at hB5 hX5 hgw ⊢
  clear hw5 hg5 hb4 hX3 hB3 c5 f5 hX1 hB hb1 hM hF
  refine wpAnyC_done (hB5.out) (by kernel_rfl) ?_
  go_wp2
  refine wp_region_any (by kernel_rfl) ?_
  refine wpAny_of_C (C := fun W => Bx W B #[.string ⟨#[65, 117, 116, 104, 77, 101, 116, 104, 111, 100]⟩, .string V] ∧ Bx W L { s with meth := x }.v) _ _ _ _ ?_
  refine wpAnyC_take 0 (.pointer (some ⟨B, 0, none⟩)) rfl (by kernel_rfl) (by kernel_rfl) (by kernel_rfl) (fun _ _ _ h => h) (wanted_free rfl _) (fun W hW => by go_simp) ?_
  try simp only [Act.put, List.getElem_toArray, List.getElem_cons_succ, List.getElem_cons_zero, List.setIfInBounds_toArray, List.set_cons_succ, List.set_cons_zero]
  refine wpAnyC_take 1 (.string ⟨#[65, 117, 116, 104, 77, 101, 116, 104, 111, 100]⟩) rfl (by kernel_rfl) (by kernel_rfl) (by kernel_rfl) (fun _ _ _ h => h) (wanted_free rfl _) (fun W hW => by have h1 := hW.1.cells 0 (by simp); simp at h1; go_simp) ?_
  try simp only [Act.put, List.getElem_toArray, List.getElem_cons_succ, List.getElem_cons_zero, List.setIfInBounds_toArray, List.set_cons_succ, List.set_cons_zero]
  refine wpAnyC_take 2 (.pointer (some ⟨L, 0, none⟩)) rfl (by kernel_rfl) (by kernel_rfl) (by kernel_rfl) (fun _ _ _ h => h) (wanted_free rfl _) (fun W hW => by go_simp) ?_
  try simp only [Act.put, List.getElem_toArray, List.getElem_cons_succ, List.getElem_cons_zero, List.setIfInBounds_toArray, List.set_cons_succ, List.set_cons_zero]
  refine wpAnyC_take 3 (.pointer (some ⟨L, 0, none⟩)) rfl (by kernel_rfl) (by kernel_rfl) (by kernel_rfl) (fun _ _ _ h => h) (wanted_free rfl _) (fun W hW => by go_simp) ?_
  try simp only [Act.put, List.getElem_toArray, List.getElem_cons_succ, List.getElem_cons_zero, List.setIfInBounds_toArray, List.set_cons_succ, List.set_cons_zero]
  refine wpAnyC_take 4 (.pointer (some ⟨L, 7, none⟩)) rfl (by kernel_rfl) (by kernel_rfl) (by kernel_rfl) (fun _ _ _ h => h) (wanted_free rfl _) (fun W hW => by go_simp) ?_
  try simp only [Act.put, List.getElem_toArray, List.getElem_cons_succ, List.getElem_cons_zero, List.setIfInBounds_toArray, List.set_cons_succ, List.set_cons_zero]
  refine wpAnyC_take 5 (.string x) rfl (by kernel_rfl) (by kernel_rfl) (by kernel_rfl) (fun _ _ _ h => h) (wanted_free rfl _) (fun W hW => by have h1 := hW.2.cells 7 (by simp [Lg.v]); simp only [Lg.v, List.getElem?_toArray, List.getElem?_cons_succ, List.getElem?_cons_zero] at h1; go_simp) ?_
  try simp only [Act.put, List.getElem_toArray, List.getElem_cons_succ, List.getElem_cons_zero, List.setIfInBounds_toArray, List.set_cons_succ, List.set_cons_zero]
  refine wpAnyC_take 6 (.agg #[.string ⟨#[65, 117, 116, 104, 77, 101, 116, 104, 111, 100]⟩, .string x]) rfl (by kernel_rfl) (by kernel_rfl) (by kernel_rfl) (fun _ _ _ h => h) (wanted_free rfl _) (fun W hW => by go_simp) ?_
  try simp only [Act.put, List.getElem_toArray, List.getElem_cons_succ, List.getElem_cons_zero, List.setIfInBounds_toArray, List.set_cons_succ, List.set_cons_zero]
  refine wpAnyC_take 8 (.pointer (some ⟨L, 0, none⟩)) rfl (by kernel_rfl) (by kernel_rfl) (by kernel_rfl) (fun _ _ _ h => h) (wanted_free rfl _) (fun W hW => by go_simp) ?_
  try simp only [Act.put, List.getElem_toArray, List.getElem_cons_succ, List.getElem_cons_zero, List.setIfInBounds_toArray, List.set_cons_succ, List.set_cons_zero]
  refine wpAnyC_take 9 (.pointer (some ⟨L, 0, none⟩)) rfl (by kernel_rfl) (by kernel_rfl) (by kernel_rfl) (fun _ _ _ h => h) (wanted_free rfl _) (fun W hW => by go_simp) ?_
  try simp only [Act.put, List.getElem_toArray, List.getElem_cons_succ, List.getElem_cons_zero, List.setIfInBounds_toArray, List.set_cons_succ, List.set_cons_zero]
  refine wpAnyC_take 10 (.pointer (some ⟨L, 7, none⟩)) rfl (by kernel_rfl) (by kernel_rfl) (by kernel_rfl) (fun _ _ _ h => h) (wanted_free rfl _) (fun W hW => by go_simp) ?_
  try simp only [Act.put, List.getElem_toArray, List.getElem_cons_succ, List.getElem_cons_zero, List.setIfInBounds_toArray, List.set_cons_succ, List.set_cons_zero]
  refine wpAnyC_take 11 (.string x) rfl (by kernel_rfl) (by kernel_rfl) (by kernel_rfl) (fun _ _ _ h => h) (wanted_free rfl _) (fun W hW => by have h1 := hW.2.cells 7 (by simp [Lg.v]); simp only [Lg.v, List.getElem?_toArray, List.getElem?_cons_succ, List.getElem?_cons_zero] at h1; go_simp) ?_
  try simp only [Act.put, List.getElem_toArray, List.getElem_cons_succ, List.getElem_cons_zero, List.setIfInBounds_toArray, List.set_cons_succ, List.set_cons_zero]
  refine wpAnyC_take 12 (.bool (!q)) rfl (by kernel_rfl) (by kernel_rfl) (by kernel_rfl) (fun _ _ _ h => h) (wanted_free rfl _) (fun W hW => by go_simp; try simp [hq]) ?_
  try simp only [Act.put, List.getElem_toArray, List.getElem_cons_succ, List.getElem_cons_zero, List.setIfInBounds_toArray, List.set_cons_succ, List.set_cons_zero]
  refine wpAnyC_one 7 (⟨hB5.out.drew, hX5.out.drew⟩) rfl (by kernel_rfl) (wanted_free rfl _) (fun KA hKA => ?_)
  unfold Oper.wp
  rw [exec_pair (.tmp 33) rfl ⟨#[65, 117, 116, 104, 77, 101, 116, 104, 111, 100]⟩ x rfl]
  refine hKA _ _ ?_
  clear hKA KA
  try simp only [Act.put, List.getElem_toArray, List.getElem_cons_succ, List.getElem_cons_zero, List.setIfInBounds_toArray, List.set_cons_succ, List.set_cons_zero]
  refine wpAnyC_take 13 (.slice (some ⟨w5.drew.heap.size, 0, none⟩) 1 1) rfl (by kernel_rfl) (by kernel_rfl) (by kernel_rfl) (fun _ _ _ h => h) (wanted_free rfl _) (fun W hW => by go_simp) ?_
  try simp only [Act.put, List.getElem_toArray, List.getElem_cons_succ, List.getElem_cons_zero, List.setIfInBounds_toArray, List.set_cons_succ, List.set_cons_zero]
  refine wpAnyC_take 14 (.bool (!q)) rfl (by kernel_rfl) (by kernel_rfl) (by kernel_rfl) (fun _ _ _ h => h) (wanted_free rfl _) (fun W hW => by go_simp) ?_
  try simp only [Act.put, List.getElem_toArray, List.getElem_cons_succ, List.getElem_cons_zero, List.setIfInBounds_toArray, List.set_cons_succ, List.set_cons_zero]
  refine wpAnyC_done (⟨hB5.out.drew.alloc _, hX5.out.drew.alloc _⟩) (by kernel_rfl) ?_
  go_wp2
  go_ret2
  exact ⟨w5.drew.heap.size, rfl, hgw.out.size, bx_new w5.drew _ 41, hX5.out.drew.alloc _, grown_tr hgw.out (grown_of_below ((below_drew w5).alloc (Nat.le_refl _) _) _)⟩
end Go.Proofs.YtplifodddfjhdaaGreatDoor
