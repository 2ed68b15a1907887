/-
  pdu: Decode, the body.
-/
import Derived.Test.YtigfoldobkigeaaUDec
namespace Go.Proofs.Ytigfoldobkigeaa
open Go.RowKit
set_option linter.unusedVariables false
set_option linter.unusedSimpArgs false

set_option maxRecDepth 100000 in
set_option maxHeartbeats 1000000 in
theorem dec_cutF (b off n c : Nat) (h : Bool) (zs : List Int) (w : World) (hr : RdAt w (.slice (some ⟨b, off, none⟩) n c) zs) (hn : n ≤ 140737488355328) (hc : c ≤ maxLen) (hb : Bytes zs) (hs : 48 + sz h ≤ n) (hq : h = true → B.num zs 48 4 = (sumL (zs.take 48) : Int))
    (E1 L M : Nat) (R : List Int) (hE1 : E1 = 48 + sz h) (hL : L = lenD (zs.take 48)) (hM : M = L + padN L) (hR : R = zs.drop E1) (hf : formB (zs.take 48) = true) (hbo : n - E1 < M + sz false) :
    Calls Try.prog 12 #[.slice (some ⟨b, off, none⟩) n c, .bool h, .bool false] w fun e w' => e = .returned (.tuple #[.agg (noP.vals (.slice none 0 0)), .int .i64 0, .int .i64 8]) ∧ Below w.heap.size w w' := by
  have hzl := (rd_row hr).1
  have hcn : n ≤ c := by obtain ⟨a', c', hv, h1, h2, h3⟩ := hr; simp only [Value.slice.injEq] at hv; omega
  have hszh := sz_le h
  have hHr : ∀ W, Below w.heap.size w W → RdAt W (.slice (some ⟨b, off, none⟩) 48 c) (zs.take 48) := fun W h' => rd_take (hr.bel h') 48 (by omega)
  have hP1 : Kpt (∀ W, Below w.heap.size w W → Calls Try.prog 26 #[.slice (some ⟨b, off, none⟩) n c, .int .i64 48, .bool h] W fun e w' => e = .returned (.tuple #[.slice (some ⟨b, off, none⟩) 48 c, .slice (some ⟨b, offK c off E1, none⟩) (n - E1) (c - E1), .int .i64 0]) ∧ Sm W w') := ⟨fun W h' => by rw [hE1]; exact part_ok b off n c 48 h zs W (hr.bel h') (by unfold maxLen; omega) hc hb (by decide) hs hq⟩
  have hHb : Bytes (zs.take 48) := Bytes.take hb 48
  have hD : Kpt (∀ W, Below w.heap.size w W → Calls Try.prog 27 #[.slice (some ⟨b, off, none⟩) 48 c] W fun e w' => e = .returned (.tuple #[.int .i64 (lenD (zs.take 48) : Int), .bool (formB (zs.take 48))]) ∧ w' = W) := ⟨fun W h' => by rw [← lenD_eq _ hHb]; exact data_any b off c _ W (hHr W h') hc hHb⟩
  have hL8 : lenD (zs.take 48) ≤ 8192 := lenD_le hHb hf
  rw [hf] at hD
  rw [← hL] at hD hL8
  obtain ⟨P, hP⟩ : ∃ P, P = padN L := ⟨_, rfl⟩
  have hPd : Kpt (∀ W, Calls Try.prog 21 #[.int .i64 L] W fun e w' => e = .returned (.int .i64 P) ∧ w' = W) := ⟨fun W => by rw [hP]; exact pad_any L W (by omega)⟩
  have hP3 : P ≤ 3 := by rw [hP]; unfold padN; omega
  rw [← hP] at hM
  have hMe : (L : Int) + (P : Int) = (M : Int) := by omega
  have hM8 : M ≤ 8195 := by omega
  have hLM : L ≤ M := by omega
  have hRr : ∀ W, Below w.heap.size w W → RdAt W (.slice (some ⟨b, offK c off E1, none⟩) (n - E1) (c - E1)) R := fun W h' => by rw [hR]; exact rd_drop (hr.bel h') E1 (by omega)
  have hRb : Bytes R := by rw [hR]; exact Bytes.drop hb E1
  obtain ⟨o2, ho2⟩ : ∃ x, x = offK c off E1 := ⟨_, rfl⟩
  obtain ⟨n2, hn2⟩ : ∃ x, x = n - E1 := ⟨_, rfl⟩
  obtain ⟨c2, hc2⟩ : ∃ x, x = c - E1 := ⟨_, rfl⟩
  rw [← ho2, ← hn2, ← hc2] at hRr hP1
  have hm2 : n2 ≤ maxLen := by unfold maxLen; omega
  have hcm2 : c2 ≤ maxLen := by omega
  rw [← hn2] at hbo
  have hP2 := Kpt.mk (fun W => part_none (some ⟨b, o2, none⟩) n2 c2 M false W hm2 (by omega) hbo)
  clear hL hf hHr hr hs hq hE1 hzl hszh hHb hb hM hP hR ho2 hn2 hc2 hbo hRr hRb 
  go_enter Try.func12, Try.ntmps12
  go_wp2_with (first
    | (have hm := m4; (refine (?_ : wpList _ _ _ (Oper.mk none (Op.store _ _ _) _ _ _ _ :: _) _ _); go_must (refine wpList_store_bx rfl 26 (.tmp 6) (.tmp 53) rfl B0 (noP.vals (.slice none 0 0)) (noP.vals (.slice none 0 0)) rfl rfl hX1.out rfl sizeP (Pd.one noP none 0 0) rfl ?_; intro wz hXz hgz; have hbz : Kpt (Below w.heap.size w wz) := ⟨hb1.out.grown hgz hb1.out.size (fun k h => by cases h; exact hB0.out)⟩; replace hXz := Kpt.mk hXz; clear hgz)))
    | (go_at_call 26; have hm := m3; refine (hP2.out _).mono ?_; rintro e w1 ⟨rfl, rfl⟩; have m4 : Kpt True := ⟨trivial⟩)
    | (go_at_call 21; have hm := m2; refine (hPd.out _).mono ?_; rintro e w1 ⟨rfl, rfl⟩; have m3 : Kpt True := ⟨trivial⟩)
    | (go_at_call 27; have hm := m1; refine (hD.out _ hb1.out).mono ?_; rintro e w1 ⟨rfl, rfl⟩; have m2 : Kpt True := ⟨trivial⟩)
    | (go_at_call 26; refine (hP1.out _ hb0.out).mono ?_; rintro e w1 ⟨rfl, hs1⟩; have hX1 : Kpt (Bx w1 B0 (noP.vals (.slice none 0 0))) := ⟨hX0.out.below hs1.bel hX0.out.lt⟩; have hb1 : Kpt (Below w.heap.size w w1) := ⟨hb0.out.trans (hs1.bel.mono hb0.out.size)⟩; clear hs1; have m1 : Kpt True := ⟨trivial⟩)
    | (refine (?_ : wpList _ _ _ (Oper.mk (some 53) (Op.build _ _) _ _ _ _ :: _) _ _); refine wpList_of_exec rfl (by kernel_rfl : _ = Result.ok (.value (.agg (noP.vals (.slice none 0 0)))) _) ?_)
    | (refine wpList_var rfl 26 rfl (noP.vals (.slice none 0 0)) zeroPi ?_; intro B0 w0 hB0 hX0 hb0; replace hX0 := Kpt.mk hX0; replace hB0 := Kpt.mk hB0; replace hb0 := Kpt.mk hb0))
  refine bodyPost_ret (v := .tuple #[.agg (noP.vals (.slice none 0 0)), .int .i64 0, .int .i64 8]) (by simp [results, Try.results12, asAddr, Act.put, run_res hXz.out 26 _ Try.underlying26 rfl sizeP]) rfl ⟨rfl, hbz.out⟩

set_option maxRecDepth 100000 in
set_option maxHeartbeats 1000000 in
theorem dec_cutT (b off n c : Nat) (h : Bool) (zs : List Int) (w : World) (hr : RdAt w (.slice (some ⟨b, off, none⟩) n c) zs) (hn : n ≤ 140737488355328) (hc : c ≤ maxLen) (hb : Bytes zs) (hs : 48 + sz h ≤ n) (hq : h = true → B.num zs 48 4 = (sumL (zs.take 48) : Int))
    (E1 L M : Nat) (R : List Int) (hE1 : E1 = 48 + sz h) (hL : L = lenD (zs.take 48)) (hM : M = L + padN L) (hR : R = zs.drop E1) (hf : formB (zs.take 48) = true) (hbo : n - E1 < M + sz (decide (0 < M))) :
    Calls Try.prog 12 #[.slice (some ⟨b, off, none⟩) n c, .bool h, .bool true] w fun e w' => e = .returned (.tuple #[.agg (noP.vals (.slice none 0 0)), .int .i64 0, .int .i64 8]) ∧ Below w.heap.size w w' := by
  have hzl := (rd_row hr).1
  have hcn : n ≤ c := by obtain ⟨a', c', hv, h1, h2, h3⟩ := hr; simp only [Value.slice.injEq] at hv; omega
  have hszh := sz_le h
  have hHr : ∀ W, Below w.heap.size w W → RdAt W (.slice (some ⟨b, off, none⟩) 48 c) (zs.take 48) := fun W h' => rd_take (hr.bel h') 48 (by omega)
  have hP1 : Kpt (∀ W, Below w.heap.size w W → Calls Try.prog 26 #[.slice (some ⟨b, off, none⟩) n c, .int .i64 48, .bool h] W fun e w' => e = .returned (.tuple #[.slice (some ⟨b, off, none⟩) 48 c, .slice (some ⟨b, offK c off E1, none⟩) (n - E1) (c - E1), .int .i64 0]) ∧ Sm W w') := ⟨fun W h' => by rw [hE1]; exact part_ok b off n c 48 h zs W (hr.bel h') (by unfold maxLen; omega) hc hb (by decide) hs hq⟩
  have hHb : Bytes (zs.take 48) := Bytes.take hb 48
  have hD : Kpt (∀ W, Below w.heap.size w W → Calls Try.prog 27 #[.slice (some ⟨b, off, none⟩) 48 c] W fun e w' => e = .returned (.tuple #[.int .i64 (lenD (zs.take 48) : Int), .bool (formB (zs.take 48))]) ∧ w' = W) := ⟨fun W h' => by rw [← lenD_eq _ hHb]; exact data_any b off c _ W (hHr W h') hc hHb⟩
  have hL8 : lenD (zs.take 48) ≤ 8192 := lenD_le hHb hf
  rw [hf] at hD
  rw [← hL] at hD hL8
  obtain ⟨P, hP⟩ : ∃ P, P = padN L := ⟨_, rfl⟩
  have hPd : Kpt (∀ W, Calls Try.prog 21 #[.int .i64 L] W fun e w' => e = .returned (.int .i64 P) ∧ w' = W) := ⟨fun W => by rw [hP]; exact pad_any L W (by omega)⟩
  have hP3 : P ≤ 3 := by rw [hP]; unfold padN; omega
  rw [← hP] at hM
  have hMe : (L : Int) + (P : Int) = (M : Int) := by omega
  have hM8 : M ≤ 8195 := by omega
  have hLM : L ≤ M := by omega
  have hRr : ∀ W, Below w.heap.size w W → RdAt W (.slice (some ⟨b, offK c off E1, none⟩) (n - E1) (c - E1)) R := fun W h' => by rw [hR]; exact rd_drop (hr.bel h') E1 (by omega)
  have hRb : Bytes R := by rw [hR]; exact Bytes.drop hb E1
  obtain ⟨o2, ho2⟩ : ∃ x, x = offK c off E1 := ⟨_, rfl⟩
  obtain ⟨n2, hn2⟩ : ∃ x, x = n - E1 := ⟨_, rfl⟩
  obtain ⟨c2, hc2⟩ : ∃ x, x = c - E1 := ⟨_, rfl⟩
  rw [← ho2, ← hn2, ← hc2] at hRr hP1
  have hm2 : n2 ≤ maxLen := by unfold maxLen; omega
  have hcm2 : c2 ≤ maxLen := by omega
  rw [← hn2] at hbo
  have hP2 := Kpt.mk (fun W => part_none (some ⟨b, o2, none⟩) n2 c2 M (decide (0 < M)) W hm2 (by omega) hbo)
  clear hL hf hHr hr hs hq hE1 hzl hszh hHb hb hM hP hR ho2 hn2 hc2 hbo hRr hRb 
  go_enter Try.func12, Try.ntmps12
  go_wp2_with (first
    | (have hm := m4; (refine (?_ : wpList _ _ _ (Oper.mk none (Op.store _ _ _) _ _ _ _ :: _) _ _); go_must (refine wpList_store_bx rfl 26 (.tmp 6) (.tmp 53) rfl B0 (noP.vals (.slice none 0 0)) (noP.vals (.slice none 0 0)) rfl rfl hX1.out rfl sizeP (Pd.one noP none 0 0) rfl ?_; intro wz hXz hgz; have hbz : Kpt (Below w.heap.size w wz) := ⟨hb1.out.grown hgz hb1.out.size (fun k h => by cases h; exact hB0.out)⟩; replace hXz := Kpt.mk hXz; clear hgz)))
    | (go_at_call 26; have hm := m3; refine (hP2.out _).mono ?_; rintro e w1 ⟨rfl, rfl⟩; have m4 : Kpt True := ⟨trivial⟩)
    | (go_at_call 21; have hm := m2; refine (hPd.out _).mono ?_; rintro e w1 ⟨rfl, rfl⟩; have m3 : Kpt True := ⟨trivial⟩)
    | (go_at_call 27; have hm := m1; refine (hD.out _ hb1.out).mono ?_; rintro e w1 ⟨rfl, rfl⟩; have m2 : Kpt True := ⟨trivial⟩)
    | (go_at_call 26; refine (hP1.out _ hb0.out).mono ?_; rintro e w1 ⟨rfl, hs1⟩; have hX1 : Kpt (Bx w1 B0 (noP.vals (.slice none 0 0))) := ⟨hX0.out.below hs1.bel hX0.out.lt⟩; have hb1 : Kpt (Below w.heap.size w w1) := ⟨hb0.out.trans (hs1.bel.mono hb0.out.size)⟩; clear hs1; have m1 : Kpt True := ⟨trivial⟩)
    | (refine (?_ : wpList _ _ _ (Oper.mk (some 53) (Op.build _ _) _ _ _ _ :: _) _ _); refine wpList_of_exec rfl (by kernel_rfl : _ = Result.ok (.value (.agg (noP.vals (.slice none 0 0)))) _) ?_)
    | (refine wpList_var rfl 26 rfl (noP.vals (.slice none 0 0)) zeroPi ?_; intro B0 w0 hB0 hX0 hb0; replace hX0 := Kpt.mk hX0; replace hB0 := Kpt.mk hB0; replace hb0 := Kpt.mk hb0))
  refine bodyPost_ret (v := .tuple #[.agg (noP.vals (.slice none 0 0)), .int .i64 0, .int .i64 8]) (by simp [results, Try.results12, asAddr, Act.put, run_res hXz.out 26 _ Try.underlying26 rfl sizeP]) rfl ⟨rfl, hbz.out⟩

set_option maxRecDepth 100000 in
set_option maxHeartbeats 1000000 in
theorem dec_sum2 (b off n c : Nat) (h : Bool) (zs : List Int) (w : World) (hr : RdAt w (.slice (some ⟨b, off, none⟩) n c) zs) (hn : n ≤ 140737488355328) (hc : c ≤ maxLen) (hb : Bytes zs) (hs : 48 + sz h ≤ n) (hq : h = true → B.num zs 48 4 = (sumL (zs.take 48) : Int))
    (E1 L M : Nat) (R : List Int) (hE1 : E1 = 48 + sz h) (hL : L = lenD (zs.take 48)) (hM : M = L + padN L) (hR : R = zs.drop E1) (hf : formB (zs.take 48) = true) (h0 : 0 < M) (hbo : M + 4 ≤ n - E1) (hq2 : ¬ B.num R M 4 = (sumL (R.take M) : Int)) :
    Calls Try.prog 12 #[.slice (some ⟨b, off, none⟩) n c, .bool h, .bool true] w fun e w' => e = .returned (.tuple #[.agg (noP.vals (.slice none 0 0)), .int .i64 0, .int .i64 5]) ∧ Below w.heap.size w w' := by
  have hzl := (rd_row hr).1
  have hcn : n ≤ c := by obtain ⟨a', c', hv, h1, h2, h3⟩ := hr; simp only [Value.slice.injEq] at hv; omega
  have hszh := sz_le h
  have hHr : ∀ W, Below w.heap.size w W → RdAt W (.slice (some ⟨b, off, none⟩) 48 c) (zs.take 48) := fun W h' => rd_take (hr.bel h') 48 (by omega)
  have hP1 : Kpt (∀ W, Below w.heap.size w W → Calls Try.prog 26 #[.slice (some ⟨b, off, none⟩) n c, .int .i64 48, .bool h] W fun e w' => e = .returned (.tuple #[.slice (some ⟨b, off, none⟩) 48 c, .slice (some ⟨b, offK c off E1, none⟩) (n - E1) (c - E1), .int .i64 0]) ∧ Sm W w') := ⟨fun W h' => by rw [hE1]; exact part_ok b off n c 48 h zs W (hr.bel h') (by unfold maxLen; omega) hc hb (by decide) hs hq⟩
  have hHb : Bytes (zs.take 48) := Bytes.take hb 48
  have hD : Kpt (∀ W, Below w.heap.size w W → Calls Try.prog 27 #[.slice (some ⟨b, off, none⟩) 48 c] W fun e w' => e = .returned (.tuple #[.int .i64 (lenD (zs.take 48) : Int), .bool (formB (zs.take 48))]) ∧ w' = W) := ⟨fun W h' => by rw [← lenD_eq _ hHb]; exact data_any b off c _ W (hHr W h') hc hHb⟩
  have hL8 : lenD (zs.take 48) ≤ 8192 := lenD_le hHb hf
  rw [hf] at hD
  rw [← hL] at hD hL8
  obtain ⟨P, hP⟩ : ∃ P, P = padN L := ⟨_, rfl⟩
  have hPd : Kpt (∀ W, Calls Try.prog 21 #[.int .i64 L] W fun e w' => e = .returned (.int .i64 P) ∧ w' = W) := ⟨fun W => by rw [hP]; exact pad_any L W (by omega)⟩
  have hP3 : P ≤ 3 := by rw [hP]; unfold padN; omega
  rw [← hP] at hM
  have hMe : (L : Int) + (P : Int) = (M : Int) := by omega
  have hM8 : M ≤ 8195 := by omega
  have hLM : L ≤ M := by omega
  have hRr : ∀ W, Below w.heap.size w W → RdAt W (.slice (some ⟨b, offK c off E1, none⟩) (n - E1) (c - E1)) R := fun W h' => by rw [hR]; exact rd_drop (hr.bel h') E1 (by omega)
  have hRb : Bytes R := by rw [hR]; exact Bytes.drop hb E1
  obtain ⟨o2, ho2⟩ : ∃ x, x = offK c off E1 := ⟨_, rfl⟩
  obtain ⟨n2, hn2⟩ : ∃ x, x = n - E1 := ⟨_, rfl⟩
  obtain ⟨c2, hc2⟩ : ∃ x, x = c - E1 := ⟨_, rfl⟩
  rw [← ho2, ← hn2, ← hc2] at hRr hP1
  have hm2 : n2 ≤ maxLen := by unfold maxLen; omega
  have hcm2 : c2 ≤ maxLen := by omega
  rw [← hn2] at hbo
  have hP2 : Kpt (∀ W, Below w.heap.size w W → Calls Try.prog 26 #[.slice (some ⟨b, o2, none⟩) n2 c2, .int .i64 M, .bool (decide (0 < M))] W fun e w' => e = .returned (.tuple #[.slice none 0 0, .slice none 0 0, .int .i64 5]) ∧ Sm W w') := ⟨fun W hW => by rw [show decide (0 < M) = true by simpa using h0]; exact part_bad b o2 n2 c2 M R W (hRr W hW) hm2 hcm2 hRb (by omega) hbo hq2⟩
  clear hL hf hHr hr hs hq hE1 hzl hszh hHb hb hM hP hR ho2 hn2 hc2 hbo hRr hRb h0 hq2
  go_enter Try.func12, Try.ntmps12
  go_wp2_with (first
    | (have hm := m4; (refine (?_ : wpList _ _ _ (Oper.mk none (Op.store _ _ _) _ _ _ _ :: _) _ _); go_must (refine wpList_store_bx rfl 26 (.tmp 6) (.tmp 53) rfl B0 (noP.vals (.slice none 0 0)) (noP.vals (.slice none 0 0)) rfl rfl hX2.out rfl sizeP (Pd.one noP none 0 0) rfl ?_; intro wz hXz hgz; have hbz : Kpt (Below w.heap.size w wz) := ⟨hb2.out.grown hgz hb2.out.size (fun k h => by cases h; exact hB0.out)⟩; replace hXz := Kpt.mk hXz; clear hgz)))
    | (go_at_call 26; have hm := m3; refine (hP2.out _ hb1.out).mono ?_; rintro e w2 ⟨rfl, hs2⟩; have hX2 : Kpt (Bx w2 B0 (noP.vals (.slice none 0 0))) := ⟨hX1.out.below hs2.bel hX1.out.lt⟩; have hb2 : Kpt (Below w.heap.size w w2) := ⟨hb1.out.trans (hs2.bel.mono hb1.out.size)⟩; clear hs2; have m4 : Kpt True := ⟨trivial⟩)
    | (go_at_call 21; have hm := m2; refine (hPd.out _).mono ?_; rintro e w1 ⟨rfl, rfl⟩; have m3 : Kpt True := ⟨trivial⟩)
    | (go_at_call 27; have hm := m1; refine (hD.out _ hb1.out).mono ?_; rintro e w1 ⟨rfl, rfl⟩; have m2 : Kpt True := ⟨trivial⟩)
    | (go_at_call 26; refine (hP1.out _ hb0.out).mono ?_; rintro e w1 ⟨rfl, hs1⟩; have hX1 : Kpt (Bx w1 B0 (noP.vals (.slice none 0 0))) := ⟨hX0.out.below hs1.bel hX0.out.lt⟩; have hb1 : Kpt (Below w.heap.size w w1) := ⟨hb0.out.trans (hs1.bel.mono hb0.out.size)⟩; clear hs1; have m1 : Kpt True := ⟨trivial⟩)
    | (refine (?_ : wpList _ _ _ (Oper.mk (some 53) (Op.build _ _) _ _ _ _ :: _) _ _); refine wpList_of_exec rfl (by kernel_rfl : _ = Result.ok (.value (.agg (noP.vals (.slice none 0 0)))) _) ?_)
    | (refine wpList_var rfl 26 rfl (noP.vals (.slice none 0 0)) zeroPi ?_; intro B0 w0 hB0 hX0 hb0; replace hX0 := Kpt.mk hX0; replace hB0 := Kpt.mk hB0; replace hb0 := Kpt.mk hb0))
  refine bodyPost_ret (v := .tuple #[.agg (noP.vals (.slice none 0 0)), .int .i64 0, .int .i64 5]) (by simp [results, Try.results12, asAddr, Act.put, run_res hXz.out 26 _ Try.underlying26 rfl sizeP]) rfl ⟨rfl, hbz.out⟩
end Go.Proofs.Ytigfoldobkigeaa
