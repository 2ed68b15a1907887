/-
  login: texts that came in.
-/
import Derived.Test.YtplifodddfjhdaaDoorXLgWa
import Derived.Test.YtplifodddfjhdaaDoorXLgWb
import Derived.Test.YtplifodddfjhdaaDoorXLgWc
import Derived.Test.YtplifodddfjhdaaDoorXLgWd
import Derived.Test.YtplifodddfjhdaaDoorXLgWe3
import Derived.Test.YtplifodddfjhdaaDoorXLgWe7
import Derived.Test.YtplifodddfjhdaaDoorXLgWeg
import Derived.Test.YtplifodddfjhdaaDoorXLgWf3
import Derived.Test.YtplifodddfjhdaaDoorXLgWf7
import Derived.Test.YtplifodddfjhdaaDoorXLgWfg
import Derived.SizedLaws
import Derived.Deep.Slices
import Derived.ChangeSame
import Derived.Lib.SmallJoins
import Derived.OpenShut
namespace Go.Proofs.YtplifodddfjhdaaDoor
open Go.ChangeShapes Go.WideShapes Go.ChangeAt Go.RowKit Go.Joins Go.Deep
set_option linter.unusedVariables false
set_option linter.unusedSimpArgs false

theorem Tryd.cellsS9 : Tryd.prog.cellsOf 9 = 1 := by kernel_rfl
theorem bytes9 : Tryd.prog.bytesOf 9 = 16 := by kernel_rfl
theorem strs_of {H : Type} {enc : TypeId × Value → H} {w : World} {sp : Nat → Bool} {hd : Bool} {a : Option Addr} {len cap : Nat} {d : DataW H} {p : List MemPlace}
    (h : DataW.Trod enc Tryd.prog w 0 sp hd 26 (.slice a len cap) d p) : ∃ os : List ByteArray, os.length = len ∧ StAt w (.slice a len cap) os ∧ cap ≤ maxLen ∧ (len = 0 ∨ ∃ el sp, d = .slice el sp ∧ len ≤ el.length + sp.length) := by
  obtain ⟨fuel, hf⟩ := h
  rcases open_slice Tryd.underlying26 hf with ⟨hcs, _⟩ | ⟨x, l, c, m, n, D, Pl, hcs, _, hl, hm, hmm, hxd, hx⟩
  · simp [Value.cells] at hcs
    obtain ⟨rfl, rfl, rfl⟩ := hcs
    exact ⟨[], rfl, ⟨none, 0, rfl, Nat.le_refl _, .inl rfl⟩, Nat.zero_le _, .inl rfl⟩
  · simp [Value.cells] at hcs
    obtain ⟨rfl, rfl, rfl⟩ := hcs
    have hlm : len ≤ m := by rw [hmm]; split <;> omega
    rw [Tryd.cellsS9] at hx
    by_cases h0 : len = 0
    · subst h0
      exact ⟨[], rfl, ⟨some x, cap, rfl, Nat.zero_le _, .inl rfl⟩, hm, .inl rfl⟩
    obtain ⟨b, off, spot⟩ := x
    have hspot : spot = none := by
      obtain ⟨cs, h1, _⟩ := hx 0 (by omega)
      obtain ⟨_, hlen, hcell⟩ := World.cells?_some h1
      have e0 := hcell 0 (by omega)
      rw [List.getElem?_eq_getElem (by omega)] at e0
      have e1 : w.cell? (((⟨b, off, spot⟩ : Addr).add (0 * 1)).add 0) = some cs[0] := e0
      simpa [Addr.add] using World.cell?_spot e1
    subst hspot
    have key : ∀ j, j < len → ∃ s : ByteArray, w.cell? ⟨b, off + j, none⟩ = some (.string s) ∧ b < w.heap.size := fun j hj => by
      obtain ⟨cs, h1, h2⟩ := hx j (by omega)
      obtain ⟨_, hlen, hcell⟩ := World.cells?_some h1
      obtain ⟨s, q0, _, _⟩ := DataW.trod_string Tryd.underlying9 h2
      subst q0
      have e := hcell 0 (by omega)
      rw [Go.WideShapes.add_plain, Go.WideShapes.add_plain, Nat.mul_one, Nat.add_zero] at e
      exact ⟨s, e, World.block_lt_of_cell? w _ e⟩
    have hcho := fun (j : Fin len) => key j.val j.isLt
    refine ⟨List.ofFn (fun j : Fin len => (hcho j).choose), by simp, ⟨some ⟨b, off, none⟩, cap, by simp, by simpa using hl, .inr ⟨b, off, rfl, ?_, fun j hj => ?_⟩⟩, hm, .inr ⟨_, _, congrArg Prod.fst hxd, by simp⟩⟩
    · exact (key 0 (by omega)).choose_spec.2
    · have hjl : j < len := by simpa using hj
      rw [List.getD_eq_getElem?_getD, List.getElem?_ofFn, dif_pos hjl]
      exact (hcho ⟨j, hjl⟩).choose_spec.1

theorem names_any (I T S : ByteArray) (F : Bool) (a : Option Addr) (n c : Nat) (os : List ByteArray) (w : World) (hos : StAt w (.slice a n c) os) (hn : n * 16 ≤ 140737488355328) :
    Calls Tryd.prog 5 #[.string I, .string T, .string S, .bool F, .slice a n c] w fun e w' => e = .returned (.bool true) ∧ Below w.heap.size w w' := by
  cases hI : (I.toList == []) with
  | true =>
    cases F with
    | false => exact nm_a I T S a n c os w hos hn hI
    | true => exact nm_b I T S a n c os w hos hn hI
  | false =>
    cases F with
    | false =>
      cases hT : (T.toList == []) with
      | true => exact nm_e7 I T S a n c os w hos hn hI hT
      | false =>
        cases hh : Lib.containsS os T with
        | false => exact nm_e3 I T S a n c os w hos hn hI hT hh
        | true => exact nm_eg I T S a n c os w hos hn hI hT hh
    | true =>
      cases hSd : (S.toList == [68, 105, 115, 99, 111, 118, 101, 114, 121]) with
      | true =>
        have hSn : (S.toList == [78, 111, 114, 109, 97, 108]) = false := by
          rw [eq_of_beq hSd]; decide +kernel
        exact nm_d I T S a n c os w hos hn hI hSd hSn
      | false =>
        cases hSn : (S.toList == [78, 111, 114, 109, 97, 108]) with
        | false => exact nm_c I T S a n c os w hos hn hI hSd hSn
        | true =>
          cases hT : (T.toList == []) with
          | true => exact nm_f7 I T S a n c os w hos hn hI hSd hSn hT
          | false =>
            cases hh : Lib.containsS os T with
            | false => exact nm_f3 I T S a n c os w hos hn hI hSd hSn hT hh
            | true => exact nm_fg I T S a n c os w hos hn hI hSd hSn hT hh
end Go.Proofs.YtplifodddfjhdaaDoor
