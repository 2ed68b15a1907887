/-
  The walk of the statement on texts of bytes.
-/
import Derived.Test.YtaedkofljmonjaaDoorQRun
import Derived.Test.YtaedkofljmonjaaDoorQRhx
import Derived.Test.YtaedkofljmonjaaDoorQMil
namespace Go.Proofs.YtaedkofljmonjaaDoor
open Go.RowKit
set_option linter.unusedVariables false
set_option linter.unusedSimpArgs false

def unE (o : Option (List Int)) : Int := match o with
  | none => 13
  | some _ => 0
theorem UnO.rd {w w' : World} {o : Option (List Int)} {v : Value} {e : Int} (h : UnO w w' o v e) : RdAt w' v (o.getD []) ∧ e = unE o := by
  cases o with
  | none => obtain ⟨rfl, rfl⟩ := h; exact ⟨rd_nil w', rfl⟩
  | some l => obtain ⟨h1, rfl⟩ := h; exact ⟨own_row h1 rfl, rfl⟩
theorem unhex_s (T : ByteArray) (w : World) (hm : T.size ≤ 140737488355328) :
    Calls Tryd.prog 10 #[.string T] w fun e w' => ∃ v, e = .returned (.tuple #[v, .int .i64 (unE (unx (nums T)))]) ∧ RdAt w' v ((unx (nums T)).getD []) ∧ Below w.heap.size w w' := by
  have h := unhex_any (nums T) w (nums_byte T) (by rw [nums_len]; exact hm)
  rw [str_nums] at h
  exact h.mono fun e w' ⟨v, er, h1, h2, h3⟩ => by
    obtain ⟨r1, rfl⟩ := h2.rd
    exact ⟨v, h1, r1, h3⟩
theorem runhex_s (T : ByteArray) (w : World) (hm : T.size ≤ 140737488355328) :
    Calls Tryd.prog 11 #[.string T] w fun e w' => ∃ v, e = .returned (.tuple #[v, .int .i64 (unE (unx (nums T)))]) ∧ RdAt w' v ((unx (nums T)).getD []) ∧ Below w.heap.size w w' := by
  have h := runhex_any (nums T) w (nums_byte T) (by rw [nums_len]; exact hm)
  rw [str_nums] at h
  exact h.mono fun e w' ⟨v, er, h1, h2, h3⟩ => by
    obtain ⟨r1, rfl⟩ := h2.rd
    exact ⟨v, h1, r1, h3⟩
theorem dig_hex : ∀ d : Fin 16, digI (hexD d.val) = (d.val : Int) := by decide +kernel
theorem digI_hex (d : Nat) (h : d < 16) : digI (hexD d) = (d : Int) := dig_hex ⟨d, h⟩
theorem unL_hex (zs : List Int) (hb : Bytes zs) : unL (hexL zs) = some zs := by
  induction zs with
  | nil => rfl
  | cons z r ih =>
    have hz := hb 0
    simp only [List.getD_cons_zero] at hz
    have h1 := digI_hex (z.toNat / 16) (by omega)
    have h2 := digI_hex (z.toNat % 16) (by omega)
    rw [hexL, unL, if_neg (by omega), ih (fun j => by simpa using hb (j + 1)), h1, h2]
    simp only [Option.map_some, Option.some.injEq, List.cons.injEq, and_true]
    omega
theorem unx_hex (zs : List Int) (hb : Bytes zs) : unx (48 :: 120 :: hexL zs) = some zs := by
  unfold unx
  rw [if_pos ⟨by simp, rfl, .inl rfl, by simp [hexL_length]; omega⟩]
  exact unL_hex zs hb
theorem hex_bytes (zs : List Int) (hb : Bytes zs) : Bytes (48 :: 120 :: hexL zs) := Bytes.cons (by decide) (Bytes.cons (by decide) (hexL_bytes zs hb))

set_option maxRecDepth 100000 in
set_option maxHeartbeats 1000000 in
theorem texts_walk (a : Option Addr) (n c : Nat) (zs : List Int) (T : ByteArray) (w : World) (hr : RdAt w (.slice a n c) zs) (hb : Bytes zs) (hm : n ≤ 1048576) (hT : T.size ≤ 1048576) (hG : Gl w) :
    Calls Tryd.prog 4 #[.slice a n c, .string T] w fun e w' => e = .returned (.bool true) ∧ Below w.heap.size w w' := by
  have hlen : n = zs.length := by obtain ⟨a', c', e, _⟩ := hr; simp only [Value.slice.injEq] at e; exact e.2.1
  replace hr := Kpt.mk hr
  have hu := Kpt.mk (fun w => unhex_s T w (by omega))
  have hv := Kpt.mk (fun w => runhex_s T w (by omega))
  have hx := Kpt.mk (fun w h => hex_any a n c zs w h hb (by omega))
  have hy := Kpt.mk (fun w h => rhex_any a n c zs w h hb (by omega))
  have hz : Kpt (∀ w, Calls Tryd.prog 10 #[.string (strOfNums (48 :: 120 :: hexL zs))] w fun e w' => ∃ v, e = .returned (.tuple #[v, .int .i64 0]) ∧ RdAt w' v zs ∧ Below w.heap.size w w') := ⟨fun w => by
    have h := unhex_s (strOfNums (48 :: 120 :: hexL zs)) w (by rw [str_size]; simp [hexL_length]; omega)
    rw [nums_str _ (hex_bytes zs hb), unx_hex zs hb] at h
    exact h⟩
  generalize strOfNums (48 :: 120 :: hexL zs) = X at hx hy hz
  generalize unE (unx (nums T)) = E at hu hv
  generalize (unx (nums T)).getD [] = U at hu hv
  replace hG := Kpt.mk hG
  clear hb hlen
  go_enter Tryd.func4, Tryd.ntmps4
  go_wp2_with (first
    | (go_at_call 13; have hmm := m5; go_must (refine (hy.out _ (hr.out.bel hb5.out)).mono ?_; rintro e w6 ⟨rfl, hb56⟩; have hb6 : Kpt (Below w.heap.size w w6) := ⟨hb5.out.trans (hb56.mono hb5.out.size)⟩; have hcv3 := conv_rd (hr5.out.bel hb56); have hcv4 := conv_rd (hr.out.bel hb6.out); clear hb56 hmm m5))
    | (go_at_call 10; have hmm := m4; go_must (refine (hz.out _).mono ?_; rintro e w5 ⟨v5, rfl, hr5, hb45⟩; have hb5 : Kpt (Below w.heap.size w w5) := ⟨hb4.out.trans (hb45.mono hb4.out.size)⟩; have hcv1 := conv_rd (hr2d.out.bel hb45); have hcv2 := conv_rd (hr3d.out.bel hb45); replace hr5 := Kpt.mk hr5; clear hb45 hmm m4; have m5 : Kpt True := ⟨trivial⟩))
    | (go_at_call 12; have hmm := m3; go_must (refine (hx.out _ (hr.out.bel hb3.out)).mono ?_; rintro e w4 ⟨rfl, hb34⟩; have hb4 : Kpt (Below w.heap.size w w4) := ⟨hb3.out.trans (hb34.mono hb3.out.size)⟩; have hr2d := Kpt.mk (hr2c.out.bel hb34); have hr3d := Kpt.mk (hr3.out.bel hb34); clear hb34 hmm m3; have m4 : Kpt True := ⟨trivial⟩))
    | (go_at_call 11; have hmm := m2; go_must (refine (hv.out _).mono ?_; rintro e w3 ⟨v3, rfl, hr3, hb23⟩; have hb3 : Kpt (Below w.heap.size w w3) := ⟨hb2.out.trans (hb23.mono hb2.out.size)⟩; have hr2c := Kpt.mk (hr2.out.bel hb23); replace hr3 := Kpt.mk hr3; clear hb23 hmm m2; have m3 : Kpt True := ⟨trivial⟩))
    | (go_at_call 10; have hmm := m1; go_must (refine (hu.out _).mono ?_; rintro e w2 ⟨v2, rfl, hr2, hb12⟩; have hb2 : Kpt (Below w.heap.size w w2) := ⟨hb1.out.trans (hb12.mono hb1.out.size)⟩; replace hr2 := Kpt.mk hr2; clear hb12 hmm m1; have m2 : Kpt True := ⟨trivial⟩))
    | (go_at_call 7; go_must (refine (awake_any _ hG.out).mono ?_; rintro e w1 ⟨rfl, hb1⟩; replace hb1 := Kpt.mk hb1; have m1 : Kpt True := ⟨trivial⟩)))
  go_ret
  exact ⟨by simp, hb6.out⟩

end Go.Proofs.YtaedkofljmonjaaDoor
