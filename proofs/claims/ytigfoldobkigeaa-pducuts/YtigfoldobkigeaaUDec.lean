/-
  pdu: Decode, by ways.
-/
import Derived.Test.YtigfoldobkigeaaUApt
namespace Go.Proofs.Ytigfoldobkigeaa
open Go.RowKit
set_option linter.unusedVariables false
set_option linter.unusedSimpArgs false

def sz (s : Bool) : Nat := if s then 4 else 0
theorem sz_le (s : Bool) : sz s ≤ 4 := by cases s <;> simp [sz]

theorem part_ok (b off n c k : Nat) (s : Bool) (zs : List Int) (w : World) (hr : RdAt w (.slice (some ⟨b, off, none⟩) n c) zs) (hn : n ≤ maxLen) (hc : c ≤ maxLen) (hb : Bytes zs) (hk : k ≤ 100000) (h : k + sz s ≤ n) (hq : s = true → B.num zs k 4 = (sumL (zs.take k) : Int)) :
    Calls Try.prog 26 #[.slice (some ⟨b, off, none⟩) n c, .int .i64 k, .bool s] w fun e w' => e = .returned (.tuple #[.slice (some ⟨b, off, none⟩) k c, .slice (some ⟨b, offK c off (k + sz s), none⟩) (n - (k + sz s)) (c - (k + sz s)), .int .i64 0]) ∧ Sm w w' := by
  cases s with
  | false => exact part_plain b off n c k zs w hr hn hc hk h
  | true => exact part_sum b off n c k zs w hr hn hc hb hk h (hq rfl)

theorem Bytes.drop {zs : List Int} (h : Bytes zs) (n : Nat) : Bytes (zs.drop n) := by
  intro j
  rw [List.getD_eq_getElem?_getD, List.getElem?_drop, ← List.getD_eq_getElem?_getD]
  exact h _

/-- How many bytes the data have, by the head. -/
def lenD (zs : List Int) : Nat := (B.num zs 5 3).toNat
theorem lenD_eq (zs : List Int) (hb : Bytes zs) : B.num zs 5 3 = (lenD zs : Int) := by
  have := (num4 zs hb 5 3 (by decide)).1
  unfold lenD
  omega
theorem lenD_le {zs : List Int} (hb : Bytes zs) (h : formB zs = true) : lenD zs ≤ 8192 := by
  have h1 := lenD_eq zs hb
  simp only [formB, Bool.and_eq_true, decide_eq_true_eq] at h
  omega
def sz2 (d : Bool) (m : Nat) : Nat := if d && decide (0 < m) then 4 else 0

set_option maxRecDepth 100000 in
set_option maxHeartbeats 1000000 in
theorem dec_none (a : Option Addr) (n c : Nat) (h d : Bool) (w : World) (hn : n ≤ 140737488355328) (hs : n < 48 + sz h) :
    Calls Try.prog 12 #[.slice a n c, .bool h, .bool d] w fun e w' => e = .returned (.tuple #[.agg (noP.vals (.slice none 0 0)), .int .i64 0, .int .i64 8]) ∧ Below w.heap.size w w' := by
  have hP := Kpt.mk (fun W => part_none a n c 48 h W (by unfold maxLen; omega) (by decide) hs)
  clear hs
  go_enter Try.func12, Try.ntmps12
  go_wp2_with (first
    | (refine (?_ : wpList _ _ _ (Oper.mk none (Op.store _ _ _) _ _ _ _ :: _) _ _); go_must (refine wpList_store_bx rfl 26 (.tmp 6) (.tmp 25) rfl B0 (noP.vals (.slice none 0 0)) (noP.vals (.slice none 0 0)) rfl rfl hX0.out rfl sizeP (Pd.one noP none 0 0) rfl ?_; intro wz hXz hgz; have hbz : Kpt (Below w.heap.size w wz) := ⟨hb0.out.grown hgz hb0.out.size (fun k h => by cases h; exact hB0.out)⟩; replace hXz := Kpt.mk hXz; clear hgz))
    | (go_at_call 26; refine (hP.out _).mono ?_; rintro e w1 ⟨rfl, rfl⟩)
    | (refine (?_ : wpList _ _ _ (Oper.mk (some 25) (Op.build _ _) _ _ _ _ :: _) _ _); refine wpList_of_exec rfl (by kernel_rfl : _ = Result.ok (.value (.agg (noP.vals (.slice none 0 0)))) _) ?_)
    | (refine wpList_var rfl 26 rfl (noP.vals (.slice none 0 0)) zeroPi ?_; intro B0 w0 hB0 hX0 hb0; replace hX0 := Kpt.mk hX0; replace hB0 := Kpt.mk hB0; replace hb0 := Kpt.mk hb0))
  refine bodyPost_ret (v := .tuple #[.agg (noP.vals (.slice none 0 0)), .int .i64 0, .int .i64 8]) (by simp [results, Try.results12, asAddr, Act.put, run_res hXz.out 26 _ Try.underlying26 rfl sizeP]) rfl ⟨rfl, hbz.out⟩

set_option maxRecDepth 100000 in
set_option maxHeartbeats 1000000 in
theorem dec_sum (b off n c : Nat) (d : Bool) (zs : List Int) (w : World) (hr : RdAt w (.slice (some ⟨b, off, none⟩) n c) zs) (hn : n ≤ 140737488355328) (hc : c ≤ maxLen) (hb : Bytes zs) (hs : 52 ≤ n) (hq : ¬ B.num zs 48 4 = (sumL (zs.take 48) : Int)) :
    Calls Try.prog 12 #[.slice (some ⟨b, off, none⟩) n c, .bool true, .bool d] w fun e w' => e = .returned (.tuple #[.agg (noP.vals (.slice none 0 0)), .int .i64 0, .int .i64 5]) ∧ Below w.heap.size w w' := by
  have hP := Kpt.mk (fun W (h' : RdAt W (.slice (some ⟨b, off, none⟩) n c) zs) => part_bad b off n c 48 zs W h' (by unfold maxLen; omega) hc hb (by decide) hs hq)
  have hrB : Kpt (∀ W, Below w.heap.size w W → RdAt W (.slice (some ⟨b, off, none⟩) n c) zs) := ⟨fun W h => hr.bel h⟩
  clear hs hr hb hq
  go_enter Try.func12, Try.ntmps12
  go_wp2_with (first
    | (have hm := m1; (refine (?_ : wpList _ _ _ (Oper.mk none (Op.store _ _ _) _ _ _ _ :: _) _ _); go_must (refine wpList_store_bx rfl 26 (.tmp 6) (.tmp 25) rfl B0 (noP.vals (.slice none 0 0)) (noP.vals (.slice none 0 0)) rfl rfl hX1.out rfl sizeP (Pd.one noP none 0 0) rfl ?_; intro wz hXz hgz; have hbz : Kpt (Below w.heap.size w wz) := ⟨hb1.out.grown hgz hb1.out.size (fun k h => by cases h; exact hB0.out)⟩; replace hXz := Kpt.mk hXz; clear hgz)))
    | (go_at_call 26; refine (hP.out _ (hrB.out _ hb0.out)).mono ?_; rintro e w1 ⟨rfl, hs1⟩; have hX1 : Kpt (Bx w1 B0 (noP.vals (.slice none 0 0))) := ⟨hX0.out.below hs1.bel hX0.out.lt⟩; have hb1 : Kpt (Below w.heap.size w w1) := ⟨hb0.out.trans (hs1.bel.mono hb0.out.size)⟩; clear hs1; have m1 : Kpt True := ⟨trivial⟩)
    | (refine (?_ : wpList _ _ _ (Oper.mk (some 25) (Op.build _ _) _ _ _ _ :: _) _ _); refine wpList_of_exec rfl (by kernel_rfl : _ = Result.ok (.value (.agg (noP.vals (.slice none 0 0)))) _) ?_)
    | (refine wpList_var rfl 26 rfl (noP.vals (.slice none 0 0)) zeroPi ?_; intro B0 w0 hB0 hX0 hb0; replace hX0 := Kpt.mk hX0; replace hB0 := Kpt.mk hB0; replace hb0 := Kpt.mk hb0))
  refine bodyPost_ret (v := .tuple #[.agg (noP.vals (.slice none 0 0)), .int .i64 0, .int .i64 5]) (by simp [results, Try.results12, asAddr, Act.put, run_res hXz.out 26 _ Try.underlying26 rfl sizeP]) rfl ⟨rfl, hbz.out⟩

set_option maxRecDepth 100000 in
set_option maxHeartbeats 1000000 in
theorem dec_form (b off n c : Nat) (h d : Bool) (zs : List Int) (w : World) (hr : RdAt w (.slice (some ⟨b, off, none⟩) n c) zs) (hn : n ≤ 140737488355328) (hc : c ≤ maxLen) (hb : Bytes zs) (hs : 48 + sz h ≤ n) (hq : h = true → B.num zs 48 4 = (sumL (zs.take 48) : Int)) (hf : formB (zs.take 48) = false) :
    Calls Try.prog 12 #[.slice (some ⟨b, off, none⟩) n c, .bool h, .bool d] w fun e w' => e = .returned (.tuple #[.agg (noP.vals (.slice none 0 0)), .int .i64 0, .int .i64 3]) ∧ Below w.heap.size w w' := by
  have hzl := (rd_row hr).1
  have hcn : n ≤ c := by obtain ⟨a', c', hv, h1, h2, h3⟩ := hr; simp only [Value.slice.injEq] at hv; omega
  obtain ⟨E1, hE1⟩ : ∃ E, E = 48 + sz h := ⟨_, rfl⟩
  have hszh := sz_le h
  have hHr : ∀ W, Below w.heap.size w W → RdAt W (.slice (some ⟨b, off, none⟩) 48 c) (zs.take 48) := fun W h' => rd_take (hr.bel h') 48 (by omega)
  have hP1 : Kpt (∀ W, Below w.heap.size w W → Calls Try.prog 26 #[.slice (some ⟨b, off, none⟩) n c, .int .i64 48, .bool h] W fun e w' => e = .returned (.tuple #[.slice (some ⟨b, off, none⟩) 48 c, .slice (some ⟨b, offK c off E1, none⟩) (n - E1) (c - E1), .int .i64 0]) ∧ Sm W w') := ⟨fun W h' => by rw [hE1]; exact part_ok b off n c 48 h zs W (hr.bel h') (by unfold maxLen; omega) hc hb (by decide) hs hq⟩
  have hHb : Bytes (zs.take 48) := Bytes.take hb 48
  have hD : Kpt (∀ W, Below w.heap.size w W → Calls Try.prog 27 #[.slice (some ⟨b, off, none⟩) 48 c] W fun e w' => e = .returned (.tuple #[.int .i64 (lenD (zs.take 48) : Int), .bool (formB (zs.take 48))]) ∧ w' = W) := ⟨fun W h' => by rw [← lenD_eq _ hHb]; exact data_any b off c _ W (hHr W h') hc hHb⟩
  rw [hf] at hD
  obtain ⟨L, hL⟩ : ∃ L, L = lenD (zs.take 48) := ⟨_, rfl⟩
  rw [← hL] at hD
  clear hL hf hHr hr hs hq hE1 hzl hszh hHb hb
  go_enter Try.func12, Try.ntmps12
  go_wp2_with (first
    | (have hm := m2; (refine (?_ : wpList _ _ _ (Oper.mk none (Op.store _ _ _) _ _ _ _ :: _) _ _); go_must (refine wpList_store_bx rfl 26 (.tmp 6) (.tmp 34) rfl B0 (noP.vals (.slice none 0 0)) (noP.vals (.slice none 0 0)) rfl rfl hX1.out rfl sizeP (Pd.one noP none 0 0) rfl ?_; intro wz hXz hgz; have hbz : Kpt (Below w.heap.size w wz) := ⟨hb1.out.grown hgz hb1.out.size (fun k h => by cases h; exact hB0.out)⟩; replace hXz := Kpt.mk hXz; clear hgz)))
    | (go_at_call 27; have hm := m1; refine (hD.out _ hb1.out).mono ?_; rintro e w1 ⟨rfl, rfl⟩; have m2 : Kpt True := ⟨trivial⟩)
    | (go_at_call 26; refine (hP1.out _ hb0.out).mono ?_; rintro e w1 ⟨rfl, hs1⟩; have hX1 : Kpt (Bx w1 B0 (noP.vals (.slice none 0 0))) := ⟨hX0.out.below hs1.bel hX0.out.lt⟩; have hb1 : Kpt (Below w.heap.size w w1) := ⟨hb0.out.trans (hs1.bel.mono hb0.out.size)⟩; clear hs1; have m1 : Kpt True := ⟨trivial⟩)
    | (refine (?_ : wpList _ _ _ (Oper.mk (some 34) (Op.build _ _) _ _ _ _ :: _) _ _); refine wpList_of_exec rfl (by kernel_rfl : _ = Result.ok (.value (.agg (noP.vals (.slice none 0 0)))) _) ?_)
    | (refine wpList_var rfl 26 rfl (noP.vals (.slice none 0 0)) zeroPi ?_; intro B0 w0 hB0 hX0 hb0; replace hX0 := Kpt.mk hX0; replace hB0 := Kpt.mk hB0; replace hb0 := Kpt.mk hb0))
  refine bodyPost_ret (v := .tuple #[.agg (noP.vals (.slice none 0 0)), .int .i64 0, .int .i64 3]) (by simp [results, Try.results12, asAddr, Act.put, run_res hXz.out 26 _ Try.underlying26 rfl sizeP]) rfl ⟨rfl, hbz.out⟩
end Go.Proofs.Ytigfoldobkigeaa
