/-
  text: FormatUint to the base 10.
-/
import Derived.Test.YtplifodddfjhdaaGreatDoorShelf
import Derived.Test.YtplifodddfjhdaaGreatDoorXNmKs
import Derived.Lib.AppendIntMem
import Derived.Lib.ItoaMem
namespace Go.Proofs.YtplifodddfjhdaaGreatDoor
open Go.RowKit Go.Sort
set_option linter.unusedVariables false
set_option linter.unusedSimpArgs false

/-- The table of the powers of ten lies as the program lays it; the two errors lie. -/
structure Gl (w : World) : Prop where
  tab : Lib.TabIs Tryz.prog w "internal/strconv.uint64pow10" .u64 Lib.pow10Tab
  err : ∀ g, g = 4 ∨ g = 5 → ∃ ev, w.cell? ⟨g, 0, none⟩ = some ev ∧ (ev = .nilIface ∨ ∃ te pe, ev = .iface te pe)
theorem gPow : Tryz.prog.globalNamed "internal/strconv.uint64pow10" = some 1 := by kernel_rfl
theorem var_below {w w' : World} {n : String} {cs : Array Value} (h : w.var? Tryz.prog n = some cs) (hb : Below w.heap.size w w') : w'.var? Tryz.prog n = some cs := by
  unfold World.var? at h ⊢
  cases hg : Tryz.prog.globalNamed n with
  | none => simp [hg] at h
  | some g =>
    simp only [hg, Option.bind_some] at h ⊢
    have hlt : g < w.heap.size := by
      rcases Nat.lt_or_ge g w.heap.size with h' | h'
      · exact h'
      · simp [Array.getElem?_eq_none h'] at h
    rw [hb.block g hlt]
    exact h
theorem Gl.below {w w' : World} (h : Gl w) (hb : Below w.heap.size w w') : Gl w' := ⟨var_below h.tab hb, fun g hg => by
  obtain ⟨ev, h1, h2⟩ := h.err g hg
  exact ⟨ev, by rw [hb.cell (p := ⟨g, 0, none⟩) (World.block_lt_of_cell? w ⟨g, 0, none⟩ h1)]; exact h1, h2⟩⟩
theorem dig_eq (n : Nat) : (Lib.decDigits n).map (fun b => ((b.toNat : Nat) : Int)) = decL n := by
  induction n using Nat.strongRecOn with
  | _ n ih =>
    by_cases h : n < 10
    · rw [Lib.decDigits_one h, decL_small h]
      simp
      omega
    · rw [Lib.decDigits, dif_neg h, decL_great (by omega), List.map_append, ih (n / 10) (by omega)]
      simp
      omega
theorem decS_eq (n : Nat) : (⟨(Lib.decDigits n).toArray⟩ : ByteArray) = decS n := by
  apply nums_inj
  rw [nums_dec, ← dig_eq]
  rfl

set_option maxHeartbeats 1000000 in
theorem ifmt_small (n : Nat) (w : World) (h : n < 100) :
    Calls Tryz.prog 81 #[.int .u64 (n : Nat), .int .i64 10] w fun e w' => e = .returned (.string (decS n)) ∧ Below w.heap.size w w' := by
  have hI : (n : Int) < 100 := by omega
  have hc := Kpt.mk (Tryz.internal_strconv_small n h w)
  rw [decS_eq] at hc
  go_enter Tryz.func81, Tryz.ntmps81
  go_wp2_with (go_at_call 83; go_must (refine hc.out.mono ?_; rintro e w1 ⟨rfl, rfl⟩))
  go_ret
  exact ⟨rfl, Below.refl _ _⟩
theorem al70 : Tryz.prog.arrayLen 139 = 24 := by kernel_rfl
theorem put_below (w : World) (o : Obj) (dk : Array UInt8) (k off : Nat) : Below w.heap.size w ((putRow (fun (b : UInt8) => Value.int .u8 (b.toNat : Int)) (w.alloc o) w.heap.size off dk).drewN k) :=
  ⟨rfl, rfl, rfl, by simp, fun j hj => by
    have h1 : w.heap.size ≠ j := by omega
    simp [putRow, mapBlock, World.drewN, World.alloc, -World.alloc_eq, Array.getElem?_modify, Array.getElem?_push, h1, Ne.symm h1]⟩
set_option maxHeartbeats 1000000 in
theorem ifmt_great (u : Nat) (w : World) (h : 100 ≤ u) (hu64 : u < 18446744073709551616) (hG : Gl w) :
    Calls Tryz.prog 81 #[.int .u64 (u : Nat), .int .i64 10] w fun e w' => e = .returned (.string (decS u)) ∧ Below w.heap.size w w' := by
  have hI : ¬ (u : Int) < 100 := by omega
  have hu1 : 1 ≤ u := by omega
  have hnd20 : Lib.nDigits u ≤ 20 := by have := Lib.numDigits_eq u hu1 hu64; split at this <;> omega
  have hnd := Kpt.mk (Tryz.internal_strconv_numDigits u hu1 hu64 (w.alloc (.cells Lib.zeros24 139)) (Lib.tabIs_alloc hG.tab _))
  have hH0 := Lib.holds_zero0 w 139 (Lib.nDigits u) (by omega)
  have hsl : ∀ W, (Instr.sliceAt 139 (.pointer (some ⟨w.heap.size, 0, none⟩)) none (some (.int .i64 (Lib.nDigits u : Int))) none).run Tryz.prog W = .ok (.slice (some ⟨w.heap.size, 0, none⟩) (Lib.nDigits u) 24) W := fun W => by
    rw [run_sliceAt_array_h W 139 ⟨w.heap.size, 0, none⟩ (by simp [Program.arrayLen, Program.elem, Tryz.underlying139]) .i64 (Lib.nDigits u : Int) (by omega) (by rw [al70]; omega)]
    go_simp
  have hfmt := Tryz.internal_strconv_formatBase10 w.heap.size 0 24 u (Array.replicate (Lib.nDigits u) 0) (w.alloc (.cells Lib.zeros24 139)) hH0 (by rw [Array.size_replicate]; exact Lib.lt_pow_nDigits u) hu64 (by rw [Array.size_replicate]; omega)
  rw [Array.size_replicate] at hfmt
  have hcv : Kpt (∀ (k v' : Nat) (dk : Array UInt8), Lib.FmtInv (Lib.nDigits u) u 0 v' dk → (convert 26 9 (.slice (some ⟨w.heap.size, 0, none⟩) (Lib.nDigits u) 24)).run Tryz.prog ((putRow (fun (b : UInt8) => Value.int .u8 (b.toNat : Int)) (w.alloc (.cells Lib.zeros24 139)) w.heap.size 0 dk).drewN k) = .ok (.string (decS u)) ((putRow (fun (b : UInt8) => Value.int .u8 (b.toNat : Int)) (w.alloc (.cells Lib.zeros24 139)) w.heap.size 0 dk).drewN k)) := ⟨fun k v' dk hF => by
    have hr := run_convert_bytes_back (P := Tryz.prog) ((putRow (fun (b : UInt8) => Value.int .u8 (b.toNat : Int)) (w.alloc (.cells Lib.zeros24 139)) w.heap.size 0 dk).drewN k) 26 9 5 ⟨w.heap.size, 0, none⟩ 24 (Lib.decDigits u) Tryz.underlying26 Tryz.underlying5 Tryz.underlying9 (fun j hj => by
      rw [Lib.add_plain, Lib.row_is_numeral hF j hj, World.cell?_drewN]
      exact cell?_putRow (fun (b : UInt8) => Value.int .u8 (b.toNat : Int)) _ w.heap.size 0 _ dk hH0 (by rw [hF.size, Array.size_replicate]) j (by rw [hF.size]; rw [Lib.decDigits_length] at hj; exact hj))
    rw [Lib.decDigits_length, decS_eq] at hr
    exact hr⟩
  replace hfmt := Kpt.mk hfmt
  have hu64' := Kpt.mk hu64
  have hpb := Kpt.mk (put_below w (.cells Lib.zeros24 139))
  clear hH0 hG hu64
  go_enter Tryz.func81, Tryz.ntmps81
  go_wp2_with (first
    | (go_at_call 85; go_must (refine hfmt.out.mono ?_; rintro e w1 ⟨rfl, k, v', dk, rfl, hF⟩; have hcv2 := hcv.out k v' dk hF; have hb2 := Kpt.mk (hpb.out dk k 0); clear hF))
    | (go_at_call 84; go_must (refine hnd.out.mono ?_; rintro e w1 ⟨rfl, rfl⟩)))
  go_ret
  exact ⟨rfl, hb2.out⟩
end Go.Proofs.YtplifodddfjhdaaGreatDoor
