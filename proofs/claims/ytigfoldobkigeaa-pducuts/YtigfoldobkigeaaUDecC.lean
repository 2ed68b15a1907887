/-
  pdu: Decode, a whole body.
-/
import Derived.Test.YtigfoldobkigeaaUDecB
namespace Go.Proofs.Ytigfoldobkigeaa
open Go.RowKit
set_option linter.unusedVariables false
set_option linter.unusedSimpArgs false

set_option maxRecDepth 100000 in
set_option maxHeartbeats 1000000 in
theorem dec_padFe (b off n c : Nat) (h : Bool) (zs : List Int) (w : World) (hr : RdAt w (.slice (some ⟨b, off, none⟩) n c) zs) (hn : n ≤ 140737488355328) (hc : c ≤ maxLen) (hb : Bytes zs) (hs : 48 + sz h ≤ n) (hq : h = true → B.num zs 48 4 = (sumL (zs.take 48) : Int))
    (E1 L M : Nat) (R : List Int) (hE1 : E1 = 48 + sz h) (hL : L = lenD (zs.take 48)) (hM : M = L + padN L) (hR : R = zs.drop E1) (hf : formB (zs.take 48) = true) (hbo : M + sz false ≤ n - E1) (hq2 : false = true → B.num R M 4 = (sumL (R.take M) : Int)) (hz : zeroB ((R.take M).drop L) = false) (hcl : c - E1 = L) :
    Calls Try.prog 12 #[.slice (some ⟨b, off, none⟩) n c, .bool h, .bool false] w fun e w' => e = .returned (.tuple #[.agg (noP.vals (.slice none 0 0)), .int .i64 0, .int .i64 3]) ∧ Below w.heap.size w w' := by
  have hzl := (rd_row hr).1
  have hcn : n ≤ c := by obtain ⟨a', c', hv, h1, h2, h3⟩ := hr; simp only [Value.slice.injEq] at hv; omega
  have hszh := sz_le h
  have hHr : ∀ W, Below w.heap.size w W → RdAt W (.slice (some ⟨b, off, none⟩) 48 c) (zs.take 48) := fun W h' => rd_take (hr.bel h') 48 (by omega)
  have hP1 : Kpt (∀ W, Below w.heap.size w W → Calls Try.prog 26 #[.slice (some ⟨b, off, none⟩) n c, .int .i64 48, .bool h] W fun e w' => e = .returned (.tuple #[.slice (some ⟨b, off, none⟩) 48 c, .slice (some ⟨b, offK c off E1, none⟩) (n - E1) (c - E1), .int .i64 0]) ∧ Sm W w') := ⟨fun W h' => by rw [hE1]; exact part_ok b off n c 48 h zs W (hr.bel h') (by unfold maxLen; omega) hc hb (by decide) hs hq⟩
  have hHb : Bytes (zs.take 48) := Bytes.take hb 48
  have hD : Kpt (∀ W, Below w.heap.size w W → Calls Try.prog 27 #[.slice (some ⟨b, off, none⟩) 48 c] W fun e w' => e = .returned (.tuple #[.int .i64 (lenD (zs.take 48) : Int), .bool (formB (zs.take 48))]) ∧ w' = W) := ⟨fun W h' => by rw [← lenD_eq _ hHb]; exact data_any b off c _ W (hHr W h') hc hHb⟩
  have hL8 : lenD (zs.take 48) ≤ 8192 := lenD_le hHb hf
  rw [hf] at hD
  rw [← hL] at hD hL8
  obtain ⟨P, hP⟩ : ∃ P, P = padN L := ⟨_, rfl⟩
  have hPd : Kpt (∀ W, Calls Try.prog 21 #[.int .i64 L] W fun e w' => e = .returned (.int .i64 P) ∧ w' = W) := ⟨fun W => by rw [hP]; exact pad_any L W (by omega)⟩
  have hP3 : P ≤ 3 := by rw [hP]; unfold padN; omega
  rw [← hP] at hM
  have hMe : (L : Int) + (P : Int) = (M : Int) := by omega
  have hM8 : M ≤ 8195 := by omega
  have hLM : L ≤ M := by omega
  have hRr : ∀ W, Below w.heap.size w W → RdAt W (.slice (some ⟨b, offK c off E1, none⟩) (n - E1) (c - E1)) R := fun W h' => by rw [hR]; exact rd_drop (hr.bel h') E1 (by omega)
  have hRb : Bytes R := by rw [hR]; exact Bytes.drop hb E1
  obtain ⟨o2, ho2⟩ : ∃ x, x = offK c off E1 := ⟨_, rfl⟩
  obtain ⟨n2, hn2⟩ : ∃ x, x = n - E1 := ⟨_, rfl⟩
  obtain ⟨c2, hc2⟩ : ∃ x, x = c - E1 := ⟨_, rfl⟩
  rw [← ho2, ← hn2, ← hc2] at hRr hP1
  have hm2 : n2 ≤ maxLen := by unfold maxLen; omega
  have hcm2 : c2 ≤ maxLen := by omega
  rw [← hn2] at hbo
  have hP2 : Kpt (∀ W, Below w.heap.size w W → Calls Try.prog 26 #[.slice (some ⟨b, o2, none⟩) n2 c2, .int .i64 M, .bool false] W fun e w' => e = .returned (.tuple #[.slice (some ⟨b, o2, none⟩) M c2, .slice (some ⟨b, offK c2 o2 (M + sz false), none⟩) (n2 - (M + sz false)) (c2 - (M + sz false)), .int .i64 0]) ∧ Sm W w') := ⟨fun W hW => part_ok b o2 n2 c2 M false R W (hRr W hW) hm2 hcm2 hRb (by omega) hbo hq2⟩
  have hRl : R.length = n2 := (rd_row (hRr w (Below.refl _ _))).1
  have hBr : ∀ W, Below w.heap.size w W → RdAt W (.slice (some ⟨b, o2, none⟩) M c2) (R.take M) := fun W h' => rd_take (hRr W h') M (by omega)
  have hcn2 : M ≤ c2 := by have hsz2 := sz_le false; omega
  have hZ0 : Kpt (∀ W o k, Below w.heap.size w W → o = offK c2 o2 L → k = c2 - L → Calls Try.prog 28 #[.slice (some ⟨b, o, none⟩) (M - L) k] W fun e w' => e = .returned (.bool (zeroB ((R.take M).drop L))) ∧ w' = W) := ⟨fun W o k hW ho hk => ho ▸ hk ▸ zero_any _ _ W (rd_drop (hBr W hW) L hLM) (by simp; unfold maxLen; omega) (Bytes.drop (Bytes.take hRb M) L)⟩
  obtain ⟨o3, ho3⟩ : ∃ x, x = offK c2 o2 (M + sz false) := ⟨_, rfl⟩
  obtain ⟨n3, hn3⟩ : ∃ x, x = n2 - (M + sz false) := ⟨_, rfl⟩
  obtain ⟨c3, hc3⟩ : ∃ x, x = c2 - (M + sz false) := ⟨_, rfl⟩
  rw [← ho3, ← hn3, ← hc3] at hP2
  unfold maxLen at hcm2
  exfalso
  rw [List.drop_eq_nil_of_le (by rw [List.length_take]; omega)] at hz
  cases hz

set_option maxRecDepth 100000 in
set_option maxHeartbeats 1000000 in
theorem dec_padFn (b off n c : Nat) (h : Bool) (zs : List Int) (w : World) (hr : RdAt w (.slice (some ⟨b, off, none⟩) n c) zs) (hn : n ≤ 140737488355328) (hc : c ≤ maxLen) (hb : Bytes zs) (hs : 48 + sz h ≤ n) (hq : h = true → B.num zs 48 4 = (sumL (zs.take 48) : Int))
    (E1 L M : Nat) (R : List Int) (hE1 : E1 = 48 + sz h) (hL : L = lenD (zs.take 48)) (hM : M = L + padN L) (hR : R = zs.drop E1) (hf : formB (zs.take 48) = true) (hbo : M + sz false ≤ n - E1) (hq2 : false = true → B.num R M 4 = (sumL (R.take M) : Int)) (hz : zeroB ((R.take M).drop L) = false) (hcl : ¬ c - E1 = L) :
    Calls Try.prog 12 #[.slice (some ⟨b, off, none⟩) n c, .bool h, .bool false] w fun e w' => e = .returned (.tuple #[.agg (noP.vals (.slice none 0 0)), .int .i64 0, .int .i64 3]) ∧ Below w.heap.size w w' := by
  have hzl := (rd_row hr).1
  have hcn : n ≤ c := by obtain ⟨a', c', hv, h1, h2, h3⟩ := hr; simp only [Value.slice.injEq] at hv; omega
  have hszh := sz_le h
  have hHr : ∀ W, Below w.heap.size w W → RdAt W (.slice (some ⟨b, off, none⟩) 48 c) (zs.take 48) := fun W h' => rd_take (hr.bel h') 48 (by omega)
  have hP1 : Kpt (∀ W, Below w.heap.size w W → Calls Try.prog 26 #[.slice (some ⟨b, off, none⟩) n c, .int .i64 48, .bool h] W fun e w' => e = .returned (.tuple #[.slice (some ⟨b, off, none⟩) 48 c, .slice (some ⟨b, offK c off E1, none⟩) (n - E1) (c - E1), .int .i64 0]) ∧ Sm W w') := ⟨fun W h' => by rw [hE1]; exact part_ok b off n c 48 h zs W (hr.bel h') (by unfold maxLen; omega) hc hb (by decide) hs hq⟩
  have hHb : Bytes (zs.take 48) := Bytes.take hb 48
  have hD : Kpt (∀ W, Below w.heap.size w W → Calls Try.prog 27 #[.slice (some ⟨b, off, none⟩) 48 c] W fun e w' => e = .returned (.tuple #[.int .i64 (lenD (zs.take 48) : Int), .bool (formB (zs.take 48))]) ∧ w' = W) := ⟨fun W h' => by rw [← lenD_eq _ hHb]; exact data_any b off c _ W (hHr W h') hc hHb⟩
  have hL8 : lenD (zs.take 48) ≤ 8192 := lenD_le hHb hf
  rw [hf] at hD
  rw [← hL] at hD hL8
  obtain ⟨P, hP⟩ : ∃ P, P = padN L := ⟨_, rfl⟩
  have hPd : Kpt (∀ W, Calls Try.prog 21 #[.int .i64 L] W fun e w' => e = .returned (.int .i64 P) ∧ w' = W) := ⟨fun W => by rw [hP]; exact pad_any L W (by omega)⟩
  have hP3 : P ≤ 3 := by rw [hP]; unfold padN; omega
  rw [← hP] at hM
  have hMe : (L : Int) + (P : Int) = (M : Int) := by omega
  have hM8 : M ≤ 8195 := by omega
  have hLM : L ≤ M := by omega
  have hRr : ∀ W, Below w.heap.size w W → RdAt W (.slice (some ⟨b, offK c off E1, none⟩) (n - E1) (c - E1)) R := fun W h' => by rw [hR]; exact rd_drop (hr.bel h') E1 (by omega)
  have hRb : Bytes R := by rw [hR]; exact Bytes.drop hb E1
  obtain ⟨o2, ho2⟩ : ∃ x, x = offK c off E1 := ⟨_, rfl⟩
  obtain ⟨n2, hn2⟩ : ∃ x, x = n - E1 := ⟨_, rfl⟩
  obtain ⟨c2, hc2⟩ : ∃ x, x = c - E1 := ⟨_, rfl⟩
  rw [← ho2, ← hn2, ← hc2] at hRr hP1
  have hm2 : n2 ≤ maxLen := by unfold maxLen; omega
  have hcm2 : c2 ≤ maxLen := by omega
  rw [← hn2] at hbo
  have hP2 : Kpt (∀ W, Below w.heap.size w W → Calls Try.prog 26 #[.slice (some ⟨b, o2, none⟩) n2 c2, .int .i64 M, .bool false] W fun e w' => e = .returned (.tuple #[.slice (some ⟨b, o2, none⟩) M c2, .slice (some ⟨b, offK c2 o2 (M + sz false), none⟩) (n2 - (M + sz false)) (c2 - (M + sz false)), .int .i64 0]) ∧ Sm W w') := ⟨fun W hW => part_ok b o2 n2 c2 M false R W (hRr W hW) hm2 hcm2 hRb (by omega) hbo hq2⟩
  have hRl : R.length = n2 := (rd_row (hRr w (Below.refl _ _))).1
  have hBr : ∀ W, Below w.heap.size w W → RdAt W (.slice (some ⟨b, o2, none⟩) M c2) (R.take M) := fun W h' => rd_take (hRr W h') M (by omega)
  have hcn2 : M ≤ c2 := by have hsz2 := sz_le false; omega
  have hZ0 : Kpt (∀ W o k, Below w.heap.size w W → o = offK c2 o2 L → k = c2 - L → Calls Try.prog 28 #[.slice (some ⟨b, o, none⟩) (M - L) k] W fun e w' => e = .returned (.bool (zeroB ((R.take M).drop L))) ∧ w' = W) := ⟨fun W o k hW ho hk => ho ▸ hk ▸ zero_any _ _ W (rd_drop (hBr W hW) L hLM) (by simp; unfold maxLen; omega) (Bytes.drop (Bytes.take hRb M) L)⟩
  obtain ⟨o3, ho3⟩ : ∃ x, x = offK c2 o2 (M + sz false) := ⟨_, rfl⟩
  obtain ⟨n3, hn3⟩ : ∃ x, x = n2 - (M + sz false) := ⟨_, rfl⟩
  obtain ⟨c3, hc3⟩ : ∃ x, x = c2 - (M + sz false) := ⟨_, rfl⟩
  rw [← ho3, ← hn3, ← hc3] at hP2
  unfold maxLen at hcm2
  rw [hz] at hZ0
  rw [← hc2] at hcl
  have hZ : Kpt (∀ W, Below w.heap.size w W → Calls Try.prog 28 #[.slice (some ⟨b, o2 + L, none⟩) (M - L) (c2 - L)] W fun e w' => e = .returned (.bool (false)) ∧ w' = W) := ⟨fun W hW => hZ0.out W _ _ hW (by simp only [offK, if_neg hcl]) rfl⟩
  clear hL hf hHr hr hs hq hE1 hzl hszh hHb hb hM hP hR ho2 hn2 hc2 hbo hRr hRb hq2 hz hRl hBr ho3 hn3 hc3 hZ0
  go_enter Try.func12, Try.ntmps12
  go_wp2_with (first
    | (have hm := m5; (refine (?_ : wpList _ _ _ (Oper.mk none (Op.store _ _ _) _ _ _ _ :: _) _ _); go_must (refine wpList_store_bx rfl 26 (.tmp 6) (.tmp 60) rfl B0 (noP.vals (.slice none 0 0)) (noP.vals (.slice none 0 0)) rfl rfl hX2.out rfl sizeP (Pd.one noP none 0 0) rfl ?_; intro wz hXz hgz; have hbz : Kpt (Below w.heap.size w wz) := ⟨hb2.out.grown hgz hb2.out.size (fun k h => by cases h; exact hB0.out)⟩; replace hXz := Kpt.mk hXz; clear hgz)))
    | (go_at_call 28; have hm := m4; go_must (refine (hZ.out _ hb2.out).mono ?_; rintro e w2 ⟨rfl, rfl⟩; have m5 : Kpt True := ⟨trivial⟩))
    | (go_at_call 26; have hm := m3; refine (hP2.out _ hb1.out).mono ?_; rintro e w2 ⟨rfl, hs2⟩; have hX2 : Kpt (Bx w2 B0 (noP.vals (.slice none 0 0))) := ⟨hX1.out.below hs2.bel hX1.out.lt⟩; have hb2 : Kpt (Below w.heap.size w w2) := ⟨hb1.out.trans (hs2.bel.mono hb1.out.size)⟩; clear hs2; have m4 : Kpt True := ⟨trivial⟩)
    | (go_at_call 21; have hm := m2; refine (hPd.out _).mono ?_; rintro e w1 ⟨rfl, rfl⟩; have m3 : Kpt True := ⟨trivial⟩)
    | (go_at_call 27; have hm := m1; refine (hD.out _ hb1.out).mono ?_; rintro e w1 ⟨rfl, rfl⟩; have m2 : Kpt True := ⟨trivial⟩)
    | (go_at_call 26; refine (hP1.out _ hb0.out).mono ?_; rintro e w1 ⟨rfl, hs1⟩; have hX1 : Kpt (Bx w1 B0 (noP.vals (.slice none 0 0))) := ⟨hX0.out.below hs1.bel hX0.out.lt⟩; have hb1 : Kpt (Below w.heap.size w w1) := ⟨hb0.out.trans (hs1.bel.mono hb0.out.size)⟩; clear hs1; have m1 : Kpt True := ⟨trivial⟩)
    | (refine (?_ : wpList _ _ _ (Oper.mk (some 60) (Op.build _ _) _ _ _ _ :: _) _ _); refine wpList_of_exec rfl (by kernel_rfl : _ = Result.ok (.value (.agg (noP.vals (.slice none 0 0)))) _) ?_)
    | (refine wpList_var rfl 26 rfl (noP.vals (.slice none 0 0)) zeroPi ?_; intro B0 w0 hB0 hX0 hb0; replace hX0 := Kpt.mk hX0; replace hB0 := Kpt.mk hB0; replace hb0 := Kpt.mk hb0))
  refine bodyPost_ret (v := .tuple #[.agg (noP.vals (.slice none 0 0)), .int .i64 0, .int .i64 3]) (by simp [results, Try.results12, asAddr, Act.put, run_res hXz.out 26 _ Try.underlying26 rfl sizeP]) rfl ⟨rfl, hbz.out⟩

set_option maxRecDepth 100000 in
set_option maxHeartbeats 1000000 in
theorem dec_padTe (b off n c : Nat) (h : Bool) (zs : List Int) (w : World) (hr : RdAt w (.slice (some ⟨b, off, none⟩) n c) zs) (hn : n ≤ 140737488355328) (hc : c ≤ maxLen) (hb : Bytes zs) (hs : 48 + sz h ≤ n) (hq : h = true → B.num zs 48 4 = (sumL (zs.take 48) : Int))
    (E1 L M : Nat) (R : List Int) (hE1 : E1 = 48 + sz h) (hL : L = lenD (zs.take 48)) (hM : M = L + padN L) (hR : R = zs.drop E1) (hf : formB (zs.take 48) = true) (hbo : M + sz (decide (0 < M)) ≤ n - E1) (hq2 : (decide (0 < M)) = true → B.num R M 4 = (sumL (R.take M) : Int)) (hz : zeroB ((R.take M).drop L) = false) (hcl : c - E1 = L) :
    Calls Try.prog 12 #[.slice (some ⟨b, off, none⟩) n c, .bool h, .bool true] w fun e w' => e = .returned (.tuple #[.agg (noP.vals (.slice none 0 0)), .int .i64 0, .int .i64 3]) ∧ Below w.heap.size w w' := by
  have hzl := (rd_row hr).1
  have hcn : n ≤ c := by obtain ⟨a', c', hv, h1, h2, h3⟩ := hr; simp only [Value.slice.injEq] at hv; omega
  have hszh := sz_le h
  have hHr : ∀ W, Below w.heap.size w W → RdAt W (.slice (some ⟨b, off, none⟩) 48 c) (zs.take 48) := fun W h' => rd_take (hr.bel h') 48 (by omega)
  have hP1 : Kpt (∀ W, Below w.heap.size w W → Calls Try.prog 26 #[.slice (some ⟨b, off, none⟩) n c, .int .i64 48, .bool h] W fun e w' => e = .returned (.tuple #[.slice (some ⟨b, off, none⟩) 48 c, .slice (some ⟨b, offK c off E1, none⟩) (n - E1) (c - E1), .int .i64 0]) ∧ Sm W w') := ⟨fun W h' => by rw [hE1]; exact part_ok b off n c 48 h zs W (hr.bel h') (by unfold maxLen; omega) hc hb (by decide) hs hq⟩
  have hHb : Bytes (zs.take 48) := Bytes.take hb 48
  have hD : Kpt (∀ W, Below w.heap.size w W → Calls Try.prog 27 #[.slice (some ⟨b, off, none⟩) 48 c] W fun e w' => e = .returned (.tuple #[.int .i64 (lenD (zs.take 48) : Int), .bool (formB (zs.take 48))]) ∧ w' = W) := ⟨fun W h' => by rw [← lenD_eq _ hHb]; exact data_any b off c _ W (hHr W h') hc hHb⟩
  have hL8 : lenD (zs.take 48) ≤ 8192 := lenD_le hHb hf
  rw [hf] at hD
  rw [← hL] at hD hL8
  obtain ⟨P, hP⟩ : ∃ P, P = padN L := ⟨_, rfl⟩
  have hPd : Kpt (∀ W, Calls Try.prog 21 #[.int .i64 L] W fun e w' => e = .returned (.int .i64 P) ∧ w' = W) := ⟨fun W => by rw [hP]; exact pad_any L W (by omega)⟩
  have hP3 : P ≤ 3 := by rw [hP]; unfold padN; omega
  rw [← hP] at hM
  have hMe : (L : Int) + (P : Int) = (M : Int) := by omega
  have hM8 : M ≤ 8195 := by omega
  have hLM : L ≤ M := by omega
  have hRr : ∀ W, Below w.heap.size w W → RdAt W (.slice (some ⟨b, offK c off E1, none⟩) (n - E1) (c - E1)) R := fun W h' => by rw [hR]; exact rd_drop (hr.bel h') E1 (by omega)
  have hRb : Bytes R := by rw [hR]; exact Bytes.drop hb E1
  obtain ⟨o2, ho2⟩ : ∃ x, x = offK c off E1 := ⟨_, rfl⟩
  obtain ⟨n2, hn2⟩ : ∃ x, x = n - E1 := ⟨_, rfl⟩
  obtain ⟨c2, hc2⟩ : ∃ x, x = c - E1 := ⟨_, rfl⟩
  rw [← ho2, ← hn2, ← hc2] at hRr hP1
  have hm2 : n2 ≤ maxLen := by unfold maxLen; omega
  have hcm2 : c2 ≤ maxLen := by omega
  rw [← hn2] at hbo
  have hP2 : Kpt (∀ W, Below w.heap.size w W → Calls Try.prog 26 #[.slice (some ⟨b, o2, none⟩) n2 c2, .int .i64 M, .bool (decide (0 < M))] W fun e w' => e = .returned (.tuple #[.slice (some ⟨b, o2, none⟩) M c2, .slice (some ⟨b, offK c2 o2 (M + sz (decide (0 < M))), none⟩) (n2 - (M + sz (decide (0 < M)))) (c2 - (M + sz (decide (0 < M)))), .int .i64 0]) ∧ Sm W w') := ⟨fun W hW => part_ok b o2 n2 c2 M (decide (0 < M)) R W (hRr W hW) hm2 hcm2 hRb (by omega) hbo hq2⟩
  have hRl : R.length = n2 := (rd_row (hRr w (Below.refl _ _))).1
  have hBr : ∀ W, Below w.heap.size w W → RdAt W (.slice (some ⟨b, o2, none⟩) M c2) (R.take M) := fun W h' => rd_take (hRr W h') M (by omega)
  have hcn2 : M ≤ c2 := by have hsz2 := sz_le (decide (0 < M)); omega
  have hZ0 : Kpt (∀ W o k, Below w.heap.size w W → o = offK c2 o2 L → k = c2 - L → Calls Try.prog 28 #[.slice (some ⟨b, o, none⟩) (M - L) k] W fun e w' => e = .returned (.bool (zeroB ((R.take M).drop L))) ∧ w' = W) := ⟨fun W o k hW ho hk => ho ▸ hk ▸ zero_any _ _ W (rd_drop (hBr W hW) L hLM) (by simp; unfold maxLen; omega) (Bytes.drop (Bytes.take hRb M) L)⟩
  obtain ⟨o3, ho3⟩ : ∃ x, x = offK c2 o2 (M + sz (decide (0 < M))) := ⟨_, rfl⟩
  obtain ⟨n3, hn3⟩ : ∃ x, x = n2 - (M + sz (decide (0 < M))) := ⟨_, rfl⟩
  obtain ⟨c3, hc3⟩ : ∃ x, x = c2 - (M + sz (decide (0 < M))) := ⟨_, rfl⟩
  rw [← ho3, ← hn3, ← hc3] at hP2
  unfold maxLen at hcm2
  exfalso
  rw [List.drop_eq_nil_of_le (by rw [List.length_take]; omega)] at hz
  cases hz

set_option maxRecDepth 100000 in
set_option maxHeartbeats 1000000 in
theorem dec_padTn (b off n c : Nat) (h : Bool) (zs : List Int) (w : World) (hr : RdAt w (.slice (some ⟨b, off, none⟩) n c) zs) (hn : n ≤ 140737488355328) (hc : c ≤ maxLen) (hb : Bytes zs) (hs : 48 + sz h ≤ n) (hq : h = true → B.num zs 48 4 = (sumL (zs.take 48) : Int))
    (E1 L M : Nat) (R : List Int) (hE1 : E1 = 48 + sz h) (hL : L = lenD (zs.take 48)) (hM : M = L + padN L) (hR : R = zs.drop E1) (hf : formB (zs.take 48) = true) (hbo : M + sz (decide (0 < M)) ≤ n - E1) (hq2 : (decide (0 < M)) = true → B.num R M 4 = (sumL (R.take M) : Int)) (hz : zeroB ((R.take M).drop L) = false) (hcl : ¬ c - E1 = L) :
    Calls Try.prog 12 #[.slice (some ⟨b, off, none⟩) n c, .bool h, .bool true] w fun e w' => e = .returned (.tuple #[.agg (noP.vals (.slice none 0 0)), .int .i64 0, .int .i64 3]) ∧ Below w.heap.size w w' := by
  have hzl := (rd_row hr).1
  have hcn : n ≤ c := by obtain ⟨a', c', hv, h1, h2, h3⟩ := hr; simp only [Value.slice.injEq] at hv; omega
  have hszh := sz_le h
  have hHr : ∀ W, Below w.heap.size w W → RdAt W (.slice (some ⟨b, off, none⟩) 48 c) (zs.take 48) := fun W h' => rd_take (hr.bel h') 48 (by omega)
  have hP1 : Kpt (∀ W, Below w.heap.size w W → Calls Try.prog 26 #[.slice (some ⟨b, off, none⟩) n c, .int .i64 48, .bool h] W fun e w' => e = .returned (.tuple #[.slice (some ⟨b, off, none⟩) 48 c, .slice (some ⟨b, offK c off E1, none⟩) (n - E1) (c - E1), .int .i64 0]) ∧ Sm W w') := ⟨fun W h' => by rw [hE1]; exact part_ok b off n c 48 h zs W (hr.bel h') (by unfold maxLen; omega) hc hb (by decide) hs hq⟩
  have hHb : Bytes (zs.take 48) := Bytes.take hb 48
  have hD : Kpt (∀ W, Below w.heap.size w W → Calls Try.prog 27 #[.slice (some ⟨b, off, none⟩) 48 c] W fun e w' => e = .returned (.tuple #[.int .i64 (lenD (zs.take 48) : Int), .bool (formB (zs.take 48))]) ∧ w' = W) := ⟨fun W h' => by rw [← lenD_eq _ hHb]; exact data_any b off c _ W (hHr W h') hc hHb⟩
  have hL8 : lenD (zs.take 48) ≤ 8192 := lenD_le hHb hf
  rw [hf] at hD
  rw [← hL] at hD hL8
  obtain ⟨P, hP⟩ : ∃ P, P = padN L := ⟨_, rfl⟩
  have hPd : Kpt (∀ W, Calls Try.prog 21 #[.int .i64 L] W fun e w' => e = .returned (.int .i64 P) ∧ w' = W) := ⟨fun W => by rw [hP]; exact pad_any L W (by omega)⟩
  have hP3 : P ≤ 3 := by rw [hP]; unfold padN; omega
  rw [← hP] at hM
  have hMe : (L : Int) + (P : Int) = (M : Int) := by omega
  have hM8 : M ≤ 8195 := by omega
  have hLM : L ≤ M := by omega
  have hRr : ∀ W, Below w.heap.size w W → RdAt W (.slice (some ⟨b, offK c off E1, none⟩) (n - E1) (c - E1)) R := fun W h' => by rw [hR]; exact rd_drop (hr.bel h') E1 (by omega)
  have hRb : Bytes R := by rw [hR]; exact Bytes.drop hb E1
  obtain ⟨o2, ho2⟩ : ∃ x, x = offK c off E1 := ⟨_, rfl⟩
  obtain ⟨n2, hn2⟩ : ∃ x, x = n - E1 := ⟨_, rfl⟩
  obtain ⟨c2, hc2⟩ : ∃ x, x = c - E1 := ⟨_, rfl⟩
  rw [← ho2, ← hn2, ← hc2] at hRr hP1
  have hm2 : n2 ≤ maxLen := by unfold maxLen; omega
  have hcm2 : c2 ≤ maxLen := by omega
  rw [← hn2] at hbo
  have hP2 : Kpt (∀ W, Below w.heap.size w W → Calls Try.prog 26 #[.slice (some ⟨b, o2, none⟩) n2 c2, .int .i64 M, .bool (decide (0 < M))] W fun e w' => e = .returned (.tuple #[.slice (some ⟨b, o2, none⟩) M c2, .slice (some ⟨b, offK c2 o2 (M + sz (decide (0 < M))), none⟩) (n2 - (M + sz (decide (0 < M)))) (c2 - (M + sz (decide (0 < M)))), .int .i64 0]) ∧ Sm W w') := ⟨fun W hW => part_ok b o2 n2 c2 M (decide (0 < M)) R W (hRr W hW) hm2 hcm2 hRb (by omega) hbo hq2⟩
  have hRl : R.length = n2 := (rd_row (hRr w (Below.refl _ _))).1
  have hBr : ∀ W, Below w.heap.size w W → RdAt W (.slice (some ⟨b, o2, none⟩) M c2) (R.take M) := fun W h' => rd_take (hRr W h') M (by omega)
  have hcn2 : M ≤ c2 := by have hsz2 := sz_le (decide (0 < M)); omega
  have hZ0 : Kpt (∀ W o k, Below w.heap.size w W → o = offK c2 o2 L → k = c2 - L → Calls Try.prog 28 #[.slice (some ⟨b, o, none⟩) (M - L) k] W fun e w' => e = .returned (.bool (zeroB ((R.take M).drop L))) ∧ w' = W) := ⟨fun W o k hW ho hk => ho ▸ hk ▸ zero_any _ _ W (rd_drop (hBr W hW) L hLM) (by simp; unfold maxLen; omega) (Bytes.drop (Bytes.take hRb M) L)⟩
  obtain ⟨o3, ho3⟩ : ∃ x, x = offK c2 o2 (M + sz (decide (0 < M))) := ⟨_, rfl⟩
  obtain ⟨n3, hn3⟩ : ∃ x, x = n2 - (M + sz (decide (0 < M))) := ⟨_, rfl⟩
  obtain ⟨c3, hc3⟩ : ∃ x, x = c2 - (M + sz (decide (0 < M))) := ⟨_, rfl⟩
  rw [← ho3, ← hn3, ← hc3] at hP2
  unfold maxLen at hcm2
  rw [hz] at hZ0
  rw [← hc2] at hcl
  have hZ : Kpt (∀ W, Below w.heap.size w W → Calls Try.prog 28 #[.slice (some ⟨b, o2 + L, none⟩) (M - L) (c2 - L)] W fun e w' => e = .returned (.bool (false)) ∧ w' = W) := ⟨fun W hW => hZ0.out W _ _ hW (by simp only [offK, if_neg hcl]) rfl⟩
  clear hL hf hHr hr hs hq hE1 hzl hszh hHb hb hM hP hR ho2 hn2 hc2 hbo hRr hRb hq2 hz hRl hBr ho3 hn3 hc3 hZ0
  go_enter Try.func12, Try.ntmps12
  go_wp2_with (first
    | (have hm := m5; (refine (?_ : wpList _ _ _ (Oper.mk none (Op.store _ _ _) _ _ _ _ :: _) _ _); go_must (refine wpList_store_bx rfl 26 (.tmp 6) (.tmp 60) rfl B0 (noP.vals (.slice none 0 0)) (noP.vals (.slice none 0 0)) rfl rfl hX2.out rfl sizeP (Pd.one noP none 0 0) rfl ?_; intro wz hXz hgz; have hbz : Kpt (Below w.heap.size w wz) := ⟨hb2.out.grown hgz hb2.out.size (fun k h => by cases h; exact hB0.out)⟩; replace hXz := Kpt.mk hXz; clear hgz)))
    | (go_at_call 28; have hm := m4; go_must (refine (hZ.out _ hb2.out).mono ?_; rintro e w2 ⟨rfl, rfl⟩; have m5 : Kpt True := ⟨trivial⟩))
    | (go_at_call 26; have hm := m3; refine (hP2.out _ hb1.out).mono ?_; rintro e w2 ⟨rfl, hs2⟩; have hX2 : Kpt (Bx w2 B0 (noP.vals (.slice none 0 0))) := ⟨hX1.out.below hs2.bel hX1.out.lt⟩; have hb2 : Kpt (Below w.heap.size w w2) := ⟨hb1.out.trans (hs2.bel.mono hb1.out.size)⟩; clear hs2; have m4 : Kpt True := ⟨trivial⟩)
    | (go_at_call 21; have hm := m2; refine (hPd.out _).mono ?_; rintro e w1 ⟨rfl, rfl⟩; have m3 : Kpt True := ⟨trivial⟩)
    | (go_at_call 27; have hm := m1; refine (hD.out _ hb1.out).mono ?_; rintro e w1 ⟨rfl, rfl⟩; have m2 : Kpt True := ⟨trivial⟩)
    | (go_at_call 26; refine (hP1.out _ hb0.out).mono ?_; rintro e w1 ⟨rfl, hs1⟩; have hX1 : Kpt (Bx w1 B0 (noP.vals (.slice none 0 0))) := ⟨hX0.out.below hs1.bel hX0.out.lt⟩; have hb1 : Kpt (Below w.heap.size w w1) := ⟨hb0.out.trans (hs1.bel.mono hb0.out.size)⟩; clear hs1; have m1 : Kpt True := ⟨trivial⟩)
    | (refine (?_ : wpList _ _ _ (Oper.mk (some 60) (Op.build _ _) _ _ _ _ :: _) _ _); refine wpList_of_exec rfl (by kernel_rfl : _ = Result.ok (.value (.agg (noP.vals (.slice none 0 0)))) _) ?_)
    | (refine wpList_var rfl 26 rfl (noP.vals (.slice none 0 0)) zeroPi ?_; intro B0 w0 hB0 hX0 hb0; replace hX0 := Kpt.mk hX0; replace hB0 := Kpt.mk hB0; replace hb0 := Kpt.mk hb0))
  refine bodyPost_ret (v := .tuple #[.agg (noP.vals (.slice none 0 0)), .int .i64 0, .int .i64 3]) (by simp [results, Try.results12, asAddr, Act.put, run_res hXz.out 26 _ Try.underlying26 rfl sizeP]) rfl ⟨rfl, hbz.out⟩

set_option maxRecDepth 100000 in
set_option maxHeartbeats 1000000 in
theorem dec_okFe (b off n c : Nat) (h : Bool) (zs : List Int) (w : World) (hr : RdAt w (.slice (some ⟨b, off, none⟩) n c) zs) (hn : n ≤ 140737488355328) (hc : c ≤ maxLen) (hb : Bytes zs) (hs : 48 + sz h ≤ n) (hq : h = true → B.num zs 48 4 = (sumL (zs.take 48) : Int))
    (E1 L M : Nat) (R : List Int) (hE1 : E1 = 48 + sz h) (hL : L = lenD (zs.take 48)) (hM : M = L + padN L) (hR : R = zs.drop E1) (hf : formB (zs.take 48) = true) (hbo : M + sz false ≤ n - E1) (hq2 : false = true → B.num R M 4 = (sumL (R.take M) : Int)) (hz : zeroB ((R.take M).drop L) = true) (hcl : c - E1 = L) :
    Calls Try.prog 12 #[.slice (some ⟨b, off, none⟩) n c, .bool h, .bool false] w fun e w' => ∃ v, e = .returned (.tuple #[.agg ((headK (zs.take 48) (R.take L) 7).vals v), .int .i64 ((E1 + M + sz false : Nat) : Int), .int .i64 0]) ∧ Row w' v (R.take L) ∧ (∀ g, v.ownBlock = some g → w.heap.size ≤ g) ∧ Below w.heap.size w w' := by
  have hzl := (rd_row hr).1
  have hcn : n ≤ c := by obtain ⟨a', c', hv, h1, h2, h3⟩ := hr; simp only [Value.slice.injEq] at hv; omega
  have hszh := sz_le h
  have hHr : ∀ W, Below w.heap.size w W → RdAt W (.slice (some ⟨b, off, none⟩) 48 c) (zs.take 48) := fun W h' => rd_take (hr.bel h') 48 (by omega)
  have hP1 : Kpt (∀ W, Below w.heap.size w W → Calls Try.prog 26 #[.slice (some ⟨b, off, none⟩) n c, .int .i64 48, .bool h] W fun e w' => e = .returned (.tuple #[.slice (some ⟨b, off, none⟩) 48 c, .slice (some ⟨b, offK c off E1, none⟩) (n - E1) (c - E1), .int .i64 0]) ∧ Sm W w') := ⟨fun W h' => by rw [hE1]; exact part_ok b off n c 48 h zs W (hr.bel h') (by unfold maxLen; omega) hc hb (by decide) hs hq⟩
  have hHb : Bytes (zs.take 48) := Bytes.take hb 48
  have hD : Kpt (∀ W, Below w.heap.size w W → Calls Try.prog 27 #[.slice (some ⟨b, off, none⟩) 48 c] W fun e w' => e = .returned (.tuple #[.int .i64 (lenD (zs.take 48) : Int), .bool (formB (zs.take 48))]) ∧ w' = W) := ⟨fun W h' => by rw [← lenD_eq _ hHb]; exact data_any b off c _ W (hHr W h') hc hHb⟩
  have hL8 : lenD (zs.take 48) ≤ 8192 := lenD_le hHb hf
  rw [hf] at hD
  rw [← hL] at hD hL8
  obtain ⟨P, hP⟩ : ∃ P, P = padN L := ⟨_, rfl⟩
  have hPd : Kpt (∀ W, Calls Try.prog 21 #[.int .i64 L] W fun e w' => e = .returned (.int .i64 P) ∧ w' = W) := ⟨fun W => by rw [hP]; exact pad_any L W (by omega)⟩
  have hP3 : P ≤ 3 := by rw [hP]; unfold padN; omega
  rw [← hP] at hM
  have hMe : (L : Int) + (P : Int) = (M : Int) := by omega
  have hM8 : M ≤ 8195 := by omega
  have hLM : L ≤ M := by omega
  have hRr : ∀ W, Below w.heap.size w W → RdAt W (.slice (some ⟨b, offK c off E1, none⟩) (n - E1) (c - E1)) R := fun W h' => by rw [hR]; exact rd_drop (hr.bel h') E1 (by omega)
  have hRb : Bytes R := by rw [hR]; exact Bytes.drop hb E1
  obtain ⟨o2, ho2⟩ : ∃ x, x = offK c off E1 := ⟨_, rfl⟩
  obtain ⟨n2, hn2⟩ : ∃ x, x = n - E1 := ⟨_, rfl⟩
  obtain ⟨c2, hc2⟩ : ∃ x, x = c - E1 := ⟨_, rfl⟩
  rw [← ho2, ← hn2, ← hc2] at hRr hP1
  have hm2 : n2 ≤ maxLen := by unfold maxLen; omega
  have hcm2 : c2 ≤ maxLen := by omega
  rw [← hn2] at hbo
  have hP2 : Kpt (∀ W, Below w.heap.size w W → Calls Try.prog 26 #[.slice (some ⟨b, o2, none⟩) n2 c2, .int .i64 M, .bool false] W fun e w' => e = .returned (.tuple #[.slice (some ⟨b, o2, none⟩) M c2, .slice (some ⟨b, offK c2 o2 (M + sz false), none⟩) (n2 - (M + sz false)) (c2 - (M + sz false)), .int .i64 0]) ∧ Sm W w') := ⟨fun W hW => part_ok b o2 n2 c2 M false R W (hRr W hW) hm2 hcm2 hRb (by omega) hbo hq2⟩
  have hRl : R.length = n2 := (rd_row (hRr w (Below.refl _ _))).1
  have hBr : ∀ W, Below w.heap.size w W → RdAt W (.slice (some ⟨b, o2, none⟩) M c2) (R.take M) := fun W h' => rd_take (hRr W h') M (by omega)
  have hcn2 : M ≤ c2 := by have hsz2 := sz_le false; omega
  have hZ0 : Kpt (∀ W o k, Below w.heap.size w W → o = offK c2 o2 L → k = c2 - L → Calls Try.prog 28 #[.slice (some ⟨b, o, none⟩) (M - L) k] W fun e w' => e = .returned (.bool (zeroB ((R.take M).drop L))) ∧ w' = W) := ⟨fun W o k hW ho hk => ho ▸ hk ▸ zero_any _ _ W (rd_drop (hBr W hW) L hLM) (by simp; unfold maxLen; omega) (Bytes.drop (Bytes.take hRb M) L)⟩
  obtain ⟨o3, ho3⟩ : ∃ x, x = offK c2 o2 (M + sz false) := ⟨_, rfl⟩
  obtain ⟨n3, hn3⟩ : ∃ x, x = n2 - (M + sz false) := ⟨_, rfl⟩
  obtain ⟨c3, hc3⟩ : ∃ x, x = c2 - (M + sz false) := ⟨_, rfl⟩
  rw [← ho3, ← hn3, ← hc3] at hP2
  unfold maxLen at hcm2
  have hA : Kpt (∀ W, Below w.heap.size w W → Calls Try.prog 29 #[.slice (some ⟨b, off, none⟩) 48 c, .slice (some ⟨b, o2, none⟩) L c2] W fun e w' => ∃ v, e = .returned (.agg ((headK (zs.take 48) (R.take L) 7).vals v)) ∧ Row w' v (R.take L) ∧ (∀ g, v.ownBlock = some g → W.heap.size ≤ g) ∧ Below W.heap.size W w') := ⟨fun W hW => apart_any b off c _ _ _ W (hHr W hW) (rd_take (hRr W hW) L (by omega)) hc hHb (by rw [List.length_take]; omega)⟩
  obtain ⟨N, hN⟩ : ∃ N, N = E1 + M + sz false := ⟨_, rfl⟩
  have hNe : (n : Int) - (n3 : Int) = (N : Int) := by omega
  have hLc : ¬ c2 < L := by omega
  rw [← hN]
  rw [hz] at hZ0
  have hs7 := Kpt.mk (fun v => Pd.size (headK_len (zs.take 48) (R.take L) 7) v)
  rw [← hc2] at hcl
  have hZ : Kpt (∀ W, Below w.heap.size w W → Calls Try.prog 28 #[.slice (some ⟨b, o2, none⟩) 0 0] W fun e w' => e = .returned (.bool (true)) ∧ w' = W) := ⟨fun W hW => by
    have h0 := hZ0.out W o2 0 hW (by simp only [offK, if_pos hcl]) (by omega)
    rw [show M - L = 0 by omega] at h0
    exact h0⟩
  have hcl' := hcl.symm
  clear hcl
  subst hcl'
  clear hL hf hHr hr hs hq hE1 hzl hszh hHb hb hM hP hR ho2 hn2 hc2 hbo hRr hRb hq2 hz hRl hBr ho3 hn3 hc3 hN hZ0
  go_enter Try.func12, Try.ntmps12
  go_wp2_with (first
    | (have hm := m6; refine (?_ : wpList _ _ _ (Oper.mk none (Op.store _ _ _) _ _ _ _ :: _) _ _); go_must (refine wpList_store_bx rfl 26 (.tmp 6) (.tmp 65) rfl B0 (noP.vals (.slice none 0 0)) ((headK (zs.take 48) (R.take L) 7).vals (.slice va vn vc)) rfl rfl hX3.out (by rw [hs7.out]; rfl) (by rw [hs7.out]; exact sizeP) (Pd.one _ _ _ _) rfl ?_; intro wz hXz hgz; have hbz : Kpt (Below w.heap.size w wz) := ⟨hb3.out.grown hgz hb3.out.size (fun k h => by cases h; exact hB0.out)⟩; have hrz : Kpt (Row wz (.slice va vn vc) (R.take L)) := ⟨hr3.out.of_block fun g hg => hgz.block g (Row.lt hr3.out hg) (fun e => (hv3.out g hg).2 (Option.some.inj e).symm)⟩; replace hXz := Kpt.mk hXz; clear hgz))
    | (go_at_call 29; have hm := m5; go_must (refine (hA.out _ hb2.out).mono ?_; rintro e w3 ⟨v, rfl, hr3, hv3, hbe3⟩; obtain ⟨va, vn, vc, rfl⟩ := row_sl hr3; have hX3 : Kpt (Bx w3 B0 (noP.vals (.slice none 0 0))) := ⟨hX2.out.below hbe3 hX2.out.lt⟩; have hb3 : Kpt (Below w.heap.size w w3) := ⟨hb2.out.trans (hbe3.mono hb2.out.size)⟩; replace hv3 : Kpt (∀ g, (Value.slice va vn vc).ownBlock = some g → w.heap.size ≤ g ∧ B0 ≠ g) := ⟨fun g hg => ⟨Nat.le_trans hb2.out.size (hv3 g hg), Nat.ne_of_lt (Nat.lt_of_lt_of_le hX2.out.lt (hv3 g hg))⟩⟩; replace hr3 := Kpt.mk hr3; clear hbe3; have m6 : Kpt True := ⟨trivial⟩))
    | (go_at_call 28; have hm := m4; go_must (refine (hZ.out _ hb2.out).mono ?_; rintro e w2 ⟨rfl, rfl⟩; have m5 : Kpt True := ⟨trivial⟩))
    | (go_at_call 26; have hm := m3; refine (hP2.out _ hb1.out).mono ?_; rintro e w2 ⟨rfl, hs2⟩; have hX2 : Kpt (Bx w2 B0 (noP.vals (.slice none 0 0))) := ⟨hX1.out.below hs2.bel hX1.out.lt⟩; have hb2 : Kpt (Below w.heap.size w w2) := ⟨hb1.out.trans (hs2.bel.mono hb1.out.size)⟩; clear hs2; have m4 : Kpt True := ⟨trivial⟩)
    | (go_at_call 21; have hm := m2; refine (hPd.out _).mono ?_; rintro e w1 ⟨rfl, rfl⟩; have m3 : Kpt True := ⟨trivial⟩)
    | (go_at_call 27; have hm := m1; refine (hD.out _ hb1.out).mono ?_; rintro e w1 ⟨rfl, rfl⟩; have m2 : Kpt True := ⟨trivial⟩)
    | (go_at_call 26; refine (hP1.out _ hb0.out).mono ?_; rintro e w1 ⟨rfl, hs1⟩; have hX1 : Kpt (Bx w1 B0 (noP.vals (.slice none 0 0))) := ⟨hX0.out.below hs1.bel hX0.out.lt⟩; have hb1 : Kpt (Below w.heap.size w w1) := ⟨hb0.out.trans (hs1.bel.mono hb0.out.size)⟩; clear hs1; have m1 : Kpt True := ⟨trivial⟩)
    | (refine wpList_var rfl 26 rfl (noP.vals (.slice none 0 0)) zeroPi ?_; intro B0 w0 hB0 hX0 hb0; replace hX0 := Kpt.mk hX0; replace hB0 := Kpt.mk hB0; replace hb0 := Kpt.mk hb0))
  refine bodyPost_ret (v := .tuple #[.agg ((headK (zs.take 48) (R.take L) 7).vals (.slice va vn vc)), .int .i64 N, .int .i64 0]) (by simp [results, Try.results12, asAddr, Act.put, run_res hXz.out 26 _ Try.underlying26 rfl (by rw [hs7.out]; exact sizeP)]) rfl ⟨_, rfl, hrz.out, fun g hg => (hv3.out g hg).1, hbz.out⟩

set_option maxRecDepth 100000 in
set_option maxHeartbeats 1000000 in
theorem dec_okFn (b off n c : Nat) (h : Bool) (zs : List Int) (w : World) (hr : RdAt w (.slice (some ⟨b, off, none⟩) n c) zs) (hn : n ≤ 140737488355328) (hc : c ≤ maxLen) (hb : Bytes zs) (hs : 48 + sz h ≤ n) (hq : h = true → B.num zs 48 4 = (sumL (zs.take 48) : Int))
    (E1 L M : Nat) (R : List Int) (hE1 : E1 = 48 + sz h) (hL : L = lenD (zs.take 48)) (hM : M = L + padN L) (hR : R = zs.drop E1) (hf : formB (zs.take 48) = true) (hbo : M + sz false ≤ n - E1) (hq2 : false = true → B.num R M 4 = (sumL (R.take M) : Int)) (hz : zeroB ((R.take M).drop L) = true) (hcl : ¬ c - E1 = L) :
    Calls Try.prog 12 #[.slice (some ⟨b, off, none⟩) n c, .bool h, .bool false] w fun e w' => ∃ v, e = .returned (.tuple #[.agg ((headK (zs.take 48) (R.take L) 7).vals v), .int .i64 ((E1 + M + sz false : Nat) : Int), .int .i64 0]) ∧ Row w' v (R.take L) ∧ (∀ g, v.ownBlock = some g → w.heap.size ≤ g) ∧ Below w.heap.size w w' := by
  have hzl := (rd_row hr).1
  have hcn : n ≤ c := by obtain ⟨a', c', hv, h1, h2, h3⟩ := hr; simp only [Value.slice.injEq] at hv; omega
  have hszh := sz_le h
  have hHr : ∀ W, Below w.heap.size w W → RdAt W (.slice (some ⟨b, off, none⟩) 48 c) (zs.take 48) := fun W h' => rd_take (hr.bel h') 48 (by omega)
  have hP1 : Kpt (∀ W, Below w.heap.size w W → Calls Try.prog 26 #[.slice (some ⟨b, off, none⟩) n c, .int .i64 48, .bool h] W fun e w' => e = .returned (.tuple #[.slice (some ⟨b, off, none⟩) 48 c, .slice (some ⟨b, offK c off E1, none⟩) (n - E1) (c - E1), .int .i64 0]) ∧ Sm W w') := ⟨fun W h' => by rw [hE1]; exact part_ok b off n c 48 h zs W (hr.bel h') (by unfold maxLen; omega) hc hb (by decide) hs hq⟩
  have hHb : Bytes (zs.take 48) := Bytes.take hb 48
  have hD : Kpt (∀ W, Below w.heap.size w W → Calls Try.prog 27 #[.slice (some ⟨b, off, none⟩) 48 c] W fun e w' => e = .returned (.tuple #[.int .i64 (lenD (zs.take 48) : Int), .bool (formB (zs.take 48))]) ∧ w' = W) := ⟨fun W h' => by rw [← lenD_eq _ hHb]; exact data_any b off c _ W (hHr W h') hc hHb⟩
  have hL8 : lenD (zs.take 48) ≤ 8192 := lenD_le hHb hf
  rw [hf] at hD
  rw [← hL] at hD hL8
  obtain ⟨P, hP⟩ : ∃ P, P = padN L := ⟨_, rfl⟩
  have hPd : Kpt (∀ W, Calls Try.prog 21 #[.int .i64 L] W fun e w' => e = .returned (.int .i64 P) ∧ w' = W) := ⟨fun W => by rw [hP]; exact pad_any L W (by omega)⟩
  have hP3 : P ≤ 3 := by rw [hP]; unfold padN; omega
  rw [← hP] at hM
  have hMe : (L : Int) + (P : Int) = (M : Int) := by omega
  have hM8 : M ≤ 8195 := by omega
  have hLM : L ≤ M := by omega
  have hRr : ∀ W, Below w.heap.size w W → RdAt W (.slice (some ⟨b, offK c off E1, none⟩) (n - E1) (c - E1)) R := fun W h' => by rw [hR]; exact rd_drop (hr.bel h') E1 (by omega)
  have hRb : Bytes R := by rw [hR]; exact Bytes.drop hb E1
  obtain ⟨o2, ho2⟩ : ∃ x, x = offK c off E1 := ⟨_, rfl⟩
  obtain ⟨n2, hn2⟩ : ∃ x, x = n - E1 := ⟨_, rfl⟩
  obtain ⟨c2, hc2⟩ : ∃ x, x = c - E1 := ⟨_, rfl⟩
  rw [← ho2, ← hn2, ← hc2] at hRr hP1
  have hm2 : n2 ≤ maxLen := by unfold maxLen; omega
  have hcm2 : c2 ≤ maxLen := by omega
  rw [← hn2] at hbo
  have hP2 : Kpt (∀ W, Below w.heap.size w W → Calls Try.prog 26 #[.slice (some ⟨b, o2, none⟩) n2 c2, .int .i64 M, .bool false] W fun e w' => e = .returned (.tuple #[.slice (some ⟨b, o2, none⟩) M c2, .slice (some ⟨b, offK c2 o2 (M + sz false), none⟩) (n2 - (M + sz false)) (c2 - (M + sz false)), .int .i64 0]) ∧ Sm W w') := ⟨fun W hW => part_ok b o2 n2 c2 M false R W (hRr W hW) hm2 hcm2 hRb (by omega) hbo hq2⟩
  have hRl : R.length = n2 := (rd_row (hRr w (Below.refl _ _))).1
  have hBr : ∀ W, Below w.heap.size w W → RdAt W (.slice (some ⟨b, o2, none⟩) M c2) (R.take M) := fun W h' => rd_take (hRr W h') M (by omega)
  have hcn2 : M ≤ c2 := by have hsz2 := sz_le false; omega
  have hZ0 : Kpt (∀ W o k, Below w.heap.size w W → o = offK c2 o2 L → k = c2 - L → Calls Try.prog 28 #[.slice (some ⟨b, o, none⟩) (M - L) k] W fun e w' => e = .returned (.bool (zeroB ((R.take M).drop L))) ∧ w' = W) := ⟨fun W o k hW ho hk => ho ▸ hk ▸ zero_any _ _ W (rd_drop (hBr W hW) L hLM) (by simp; unfold maxLen; omega) (Bytes.drop (Bytes.take hRb M) L)⟩
  obtain ⟨o3, ho3⟩ : ∃ x, x = offK c2 o2 (M + sz false) := ⟨_, rfl⟩
  obtain ⟨n3, hn3⟩ : ∃ x, x = n2 - (M + sz false) := ⟨_, rfl⟩
  obtain ⟨c3, hc3⟩ : ∃ x, x = c2 - (M + sz false) := ⟨_, rfl⟩
  rw [← ho3, ← hn3, ← hc3] at hP2
  unfold maxLen at hcm2
  have hA : Kpt (∀ W, Below w.heap.size w W → Calls Try.prog 29 #[.slice (some ⟨b, off, none⟩) 48 c, .slice (some ⟨b, o2, none⟩) L c2] W fun e w' => ∃ v, e = .returned (.agg ((headK (zs.take 48) (R.take L) 7).vals v)) ∧ Row w' v (R.take L) ∧ (∀ g, v.ownBlock = some g → W.heap.size ≤ g) ∧ Below W.heap.size W w') := ⟨fun W hW => apart_any b off c _ _ _ W (hHr W hW) (rd_take (hRr W hW) L (by omega)) hc hHb (by rw [List.length_take]; omega)⟩
  obtain ⟨N, hN⟩ : ∃ N, N = E1 + M + sz false := ⟨_, rfl⟩
  have hNe : (n : Int) - (n3 : Int) = (N : Int) := by omega
  have hLc : ¬ c2 < L := by omega
  rw [← hN]
  rw [hz] at hZ0
  have hs7 := Kpt.mk (fun v => Pd.size (headK_len (zs.take 48) (R.take L) 7) v)
  rw [← hc2] at hcl
  have hZ : Kpt (∀ W, Below w.heap.size w W → Calls Try.prog 28 #[.slice (some ⟨b, o2 + L, none⟩) (M - L) (c2 - L)] W fun e w' => e = .returned (.bool (true)) ∧ w' = W) := ⟨fun W hW => hZ0.out W _ _ hW (by simp only [offK, if_neg hcl]) rfl⟩
  clear hL hf hHr hr hs hq hE1 hzl hszh hHb hb hM hP hR ho2 hn2 hc2 hbo hRr hRb hq2 hz hRl hBr ho3 hn3 hc3 hN hZ0
  go_enter Try.func12, Try.ntmps12
  go_wp2_with (first
    | (have hm := m6; refine (?_ : wpList _ _ _ (Oper.mk none (Op.store _ _ _) _ _ _ _ :: _) _ _); go_must (refine wpList_store_bx rfl 26 (.tmp 6) (.tmp 65) rfl B0 (noP.vals (.slice none 0 0)) ((headK (zs.take 48) (R.take L) 7).vals (.slice va vn vc)) rfl rfl hX3.out (by rw [hs7.out]; rfl) (by rw [hs7.out]; exact sizeP) (Pd.one _ _ _ _) rfl ?_; intro wz hXz hgz; have hbz : Kpt (Below w.heap.size w wz) := ⟨hb3.out.grown hgz hb3.out.size (fun k h => by cases h; exact hB0.out)⟩; have hrz : Kpt (Row wz (.slice va vn vc) (R.take L)) := ⟨hr3.out.of_block fun g hg => hgz.block g (Row.lt hr3.out hg) (fun e => (hv3.out g hg).2 (Option.some.inj e).symm)⟩; replace hXz := Kpt.mk hXz; clear hgz))
    | (go_at_call 29; have hm := m5; go_must (refine (hA.out _ hb2.out).mono ?_; rintro e w3 ⟨v, rfl, hr3, hv3, hbe3⟩; obtain ⟨va, vn, vc, rfl⟩ := row_sl hr3; have hX3 : Kpt (Bx w3 B0 (noP.vals (.slice none 0 0))) := ⟨hX2.out.below hbe3 hX2.out.lt⟩; have hb3 : Kpt (Below w.heap.size w w3) := ⟨hb2.out.trans (hbe3.mono hb2.out.size)⟩; replace hv3 : Kpt (∀ g, (Value.slice va vn vc).ownBlock = some g → w.heap.size ≤ g ∧ B0 ≠ g) := ⟨fun g hg => ⟨Nat.le_trans hb2.out.size (hv3 g hg), Nat.ne_of_lt (Nat.lt_of_lt_of_le hX2.out.lt (hv3 g hg))⟩⟩; replace hr3 := Kpt.mk hr3; clear hbe3; have m6 : Kpt True := ⟨trivial⟩))
    | (go_at_call 28; have hm := m4; go_must (refine (hZ.out _ hb2.out).mono ?_; rintro e w2 ⟨rfl, rfl⟩; have m5 : Kpt True := ⟨trivial⟩))
    | (go_at_call 26; have hm := m3; refine (hP2.out _ hb1.out).mono ?_; rintro e w2 ⟨rfl, hs2⟩; have hX2 : Kpt (Bx w2 B0 (noP.vals (.slice none 0 0))) := ⟨hX1.out.below hs2.bel hX1.out.lt⟩; have hb2 : Kpt (Below w.heap.size w w2) := ⟨hb1.out.trans (hs2.bel.mono hb1.out.size)⟩; clear hs2; have m4 : Kpt True := ⟨trivial⟩)
    | (go_at_call 21; have hm := m2; refine (hPd.out _).mono ?_; rintro e w1 ⟨rfl, rfl⟩; have m3 : Kpt True := ⟨trivial⟩)
    | (go_at_call 27; have hm := m1; refine (hD.out _ hb1.out).mono ?_; rintro e w1 ⟨rfl, rfl⟩; have m2 : Kpt True := ⟨trivial⟩)
    | (go_at_call 26; refine (hP1.out _ hb0.out).mono ?_; rintro e w1 ⟨rfl, hs1⟩; have hX1 : Kpt (Bx w1 B0 (noP.vals (.slice none 0 0))) := ⟨hX0.out.below hs1.bel hX0.out.lt⟩; have hb1 : Kpt (Below w.heap.size w w1) := ⟨hb0.out.trans (hs1.bel.mono hb0.out.size)⟩; clear hs1; have m1 : Kpt True := ⟨trivial⟩)
    | (refine wpList_var rfl 26 rfl (noP.vals (.slice none 0 0)) zeroPi ?_; intro B0 w0 hB0 hX0 hb0; replace hX0 := Kpt.mk hX0; replace hB0 := Kpt.mk hB0; replace hb0 := Kpt.mk hb0))
  refine bodyPost_ret (v := .tuple #[.agg ((headK (zs.take 48) (R.take L) 7).vals (.slice va vn vc)), .int .i64 N, .int .i64 0]) (by simp [results, Try.results12, asAddr, Act.put, run_res hXz.out 26 _ Try.underlying26 rfl (by rw [hs7.out]; exact sizeP)]) rfl ⟨_, rfl, hrz.out, fun g hg => (hv3.out g hg).1, hbz.out⟩

set_option maxRecDepth 100000 in
set_option maxHeartbeats 1000000 in
theorem dec_okTe (b off n c : Nat) (h : Bool) (zs : List Int) (w : World) (hr : RdAt w (.slice (some ⟨b, off, none⟩) n c) zs) (hn : n ≤ 140737488355328) (hc : c ≤ maxLen) (hb : Bytes zs) (hs : 48 + sz h ≤ n) (hq : h = true → B.num zs 48 4 = (sumL (zs.take 48) : Int))
    (E1 L M : Nat) (R : List Int) (hE1 : E1 = 48 + sz h) (hL : L = lenD (zs.take 48)) (hM : M = L + padN L) (hR : R = zs.drop E1) (hf : formB (zs.take 48) = true) (hbo : M + sz (decide (0 < M)) ≤ n - E1) (hq2 : (decide (0 < M)) = true → B.num R M 4 = (sumL (R.take M) : Int)) (hz : zeroB ((R.take M).drop L) = true) (hcl : c - E1 = L) :
    Calls Try.prog 12 #[.slice (some ⟨b, off, none⟩) n c, .bool h, .bool true] w fun e w' => ∃ v, e = .returned (.tuple #[.agg ((headK (zs.take 48) (R.take L) 7).vals v), .int .i64 ((E1 + M + sz (decide (0 < M)) : Nat) : Int), .int .i64 0]) ∧ Row w' v (R.take L) ∧ (∀ g, v.ownBlock = some g → w.heap.size ≤ g) ∧ Below w.heap.size w w' := by
  have hzl := (rd_row hr).1
  have hcn : n ≤ c := by obtain ⟨a', c', hv, h1, h2, h3⟩ := hr; simp only [Value.slice.injEq] at hv; omega
  have hszh := sz_le h
  have hHr : ∀ W, Below w.heap.size w W → RdAt W (.slice (some ⟨b, off, none⟩) 48 c) (zs.take 48) := fun W h' => rd_take (hr.bel h') 48 (by omega)
  have hP1 : Kpt (∀ W, Below w.heap.size w W → Calls Try.prog 26 #[.slice (some ⟨b, off, none⟩) n c, .int .i64 48, .bool h] W fun e w' => e = .returned (.tuple #[.slice (some ⟨b, off, none⟩) 48 c, .slice (some ⟨b, offK c off E1, none⟩) (n - E1) (c - E1), .int .i64 0]) ∧ Sm W w') := ⟨fun W h' => by rw [hE1]; exact part_ok b off n c 48 h zs W (hr.bel h') (by unfold maxLen; omega) hc hb (by decide) hs hq⟩
  have hHb : Bytes (zs.take 48) := Bytes.take hb 48
  have hD : Kpt (∀ W, Below w.heap.size w W → Calls Try.prog 27 #[.slice (some ⟨b, off, none⟩) 48 c] W fun e w' => e = .returned (.tuple #[.int .i64 (lenD (zs.take 48) : Int), .bool (formB (zs.take 48))]) ∧ w' = W) := ⟨fun W h' => by rw [← lenD_eq _ hHb]; exact data_any b off c _ W (hHr W h') hc hHb⟩
  have hL8 : lenD (zs.take 48) ≤ 8192 := lenD_le hHb hf
  rw [hf] at hD
  rw [← hL] at hD hL8
  obtain ⟨P, hP⟩ : ∃ P, P = padN L := ⟨_, rfl⟩
  have hPd : Kpt (∀ W, Calls Try.prog 21 #[.int .i64 L] W fun e w' => e = .returned (.int .i64 P) ∧ w' = W) := ⟨fun W => by rw [hP]; exact pad_any L W (by omega)⟩
  have hP3 : P ≤ 3 := by rw [hP]; unfold padN; omega
  rw [← hP] at hM
  have hMe : (L : Int) + (P : Int) = (M : Int) := by omega
  have hM8 : M ≤ 8195 := by omega
  have hLM : L ≤ M := by omega
  have hRr : ∀ W, Below w.heap.size w W → RdAt W (.slice (some ⟨b, offK c off E1, none⟩) (n - E1) (c - E1)) R := fun W h' => by rw [hR]; exact rd_drop (hr.bel h') E1 (by omega)
  have hRb : Bytes R := by rw [hR]; exact Bytes.drop hb E1
  obtain ⟨o2, ho2⟩ : ∃ x, x = offK c off E1 := ⟨_, rfl⟩
  obtain ⟨n2, hn2⟩ : ∃ x, x = n - E1 := ⟨_, rfl⟩
  obtain ⟨c2, hc2⟩ : ∃ x, x = c - E1 := ⟨_, rfl⟩
  rw [← ho2, ← hn2, ← hc2] at hRr hP1
  have hm2 : n2 ≤ maxLen := by unfold maxLen; omega
  have hcm2 : c2 ≤ maxLen := by omega
  rw [← hn2] at hbo
  have hP2 : Kpt (∀ W, Below w.heap.size w W → Calls Try.prog 26 #[.slice (some ⟨b, o2, none⟩) n2 c2, .int .i64 M, .bool (decide (0 < M))] W fun e w' => e = .returned (.tuple #[.slice (some ⟨b, o2, none⟩) M c2, .slice (some ⟨b, offK c2 o2 (M + sz (decide (0 < M))), none⟩) (n2 - (M + sz (decide (0 < M)))) (c2 - (M + sz (decide (0 < M)))), .int .i64 0]) ∧ Sm W w') := ⟨fun W hW => part_ok b o2 n2 c2 M (decide (0 < M)) R W (hRr W hW) hm2 hcm2 hRb (by omega) hbo hq2⟩
  have hRl : R.length = n2 := (rd_row (hRr w (Below.refl _ _))).1
  have hBr : ∀ W, Below w.heap.size w W → RdAt W (.slice (some ⟨b, o2, none⟩) M c2) (R.take M) := fun W h' => rd_take (hRr W h') M (by omega)
  have hcn2 : M ≤ c2 := by have hsz2 := sz_le (decide (0 < M)); omega
  have hZ0 : Kpt (∀ W o k, Below w.heap.size w W → o = offK c2 o2 L → k = c2 - L → Calls Try.prog 28 #[.slice (some ⟨b, o, none⟩) (M - L) k] W fun e w' => e = .returned (.bool (zeroB ((R.take M).drop L))) ∧ w' = W) := ⟨fun W o k hW ho hk => ho ▸ hk ▸ zero_any _ _ W (rd_drop (hBr W hW) L hLM) (by simp; unfold maxLen; omega) (Bytes.drop (Bytes.take hRb M) L)⟩
  obtain ⟨o3, ho3⟩ : ∃ x, x = offK c2 o2 (M + sz (decide (0 < M))) := ⟨_, rfl⟩
  obtain ⟨n3, hn3⟩ : ∃ x, x = n2 - (M + sz (decide (0 < M))) := ⟨_, rfl⟩
  obtain ⟨c3, hc3⟩ : ∃ x, x = c2 - (M + sz (decide (0 < M))) := ⟨_, rfl⟩
  rw [← ho3, ← hn3, ← hc3] at hP2
  unfold maxLen at hcm2
  have hA : Kpt (∀ W, Below w.heap.size w W → Calls Try.prog 29 #[.slice (some ⟨b, off, none⟩) 48 c, .slice (some ⟨b, o2, none⟩) L c2] W fun e w' => ∃ v, e = .returned (.agg ((headK (zs.take 48) (R.take L) 7).vals v)) ∧ Row w' v (R.take L) ∧ (∀ g, v.ownBlock = some g → W.heap.size ≤ g) ∧ Below W.heap.size W w') := ⟨fun W hW => apart_any b off c _ _ _ W (hHr W hW) (rd_take (hRr W hW) L (by omega)) hc hHb (by rw [List.length_take]; omega)⟩
  obtain ⟨N, hN⟩ : ∃ N, N = E1 + M + sz (decide (0 < M)) := ⟨_, rfl⟩
  have hNe : (n : Int) - (n3 : Int) = (N : Int) := by omega
  have hLc : ¬ c2 < L := by omega
  rw [← hN]
  rw [hz] at hZ0
  have hs7 := Kpt.mk (fun v => Pd.size (headK_len (zs.take 48) (R.take L) 7) v)
  rw [← hc2] at hcl
  have hZ : Kpt (∀ W, Below w.heap.size w W → Calls Try.prog 28 #[.slice (some ⟨b, o2, none⟩) 0 0] W fun e w' => e = .returned (.bool (true)) ∧ w' = W) := ⟨fun W hW => by
    have h0 := hZ0.out W o2 0 hW (by simp only [offK, if_pos hcl]) (by omega)
    rw [show M - L = 0 by omega] at h0
    exact h0⟩
  have hcl' := hcl.symm
  clear hcl
  subst hcl'
  clear hL hf hHr hr hs hq hE1 hzl hszh hHb hb hM hP hR ho2 hn2 hc2 hbo hRr hRb hq2 hz hRl hBr ho3 hn3 hc3 hN hZ0
  go_enter Try.func12, Try.ntmps12
  go_wp2_with (first
    | (have hm := m6; refine (?_ : wpList _ _ _ (Oper.mk none (Op.store _ _ _) _ _ _ _ :: _) _ _); go_must (refine wpList_store_bx rfl 26 (.tmp 6) (.tmp 65) rfl B0 (noP.vals (.slice none 0 0)) ((headK (zs.take 48) (R.take L) 7).vals (.slice va vn vc)) rfl rfl hX3.out (by rw [hs7.out]; rfl) (by rw [hs7.out]; exact sizeP) (Pd.one _ _ _ _) rfl ?_; intro wz hXz hgz; have hbz : Kpt (Below w.heap.size w wz) := ⟨hb3.out.grown hgz hb3.out.size (fun k h => by cases h; exact hB0.out)⟩; have hrz : Kpt (Row wz (.slice va vn vc) (R.take L)) := ⟨hr3.out.of_block fun g hg => hgz.block g (Row.lt hr3.out hg) (fun e => (hv3.out g hg).2 (Option.some.inj e).symm)⟩; replace hXz := Kpt.mk hXz; clear hgz))
    | (go_at_call 29; have hm := m5; go_must (refine (hA.out _ hb2.out).mono ?_; rintro e w3 ⟨v, rfl, hr3, hv3, hbe3⟩; obtain ⟨va, vn, vc, rfl⟩ := row_sl hr3; have hX3 : Kpt (Bx w3 B0 (noP.vals (.slice none 0 0))) := ⟨hX2.out.below hbe3 hX2.out.lt⟩; have hb3 : Kpt (Below w.heap.size w w3) := ⟨hb2.out.trans (hbe3.mono hb2.out.size)⟩; replace hv3 : Kpt (∀ g, (Value.slice va vn vc).ownBlock = some g → w.heap.size ≤ g ∧ B0 ≠ g) := ⟨fun g hg => ⟨Nat.le_trans hb2.out.size (hv3 g hg), Nat.ne_of_lt (Nat.lt_of_lt_of_le hX2.out.lt (hv3 g hg))⟩⟩; replace hr3 := Kpt.mk hr3; clear hbe3; have m6 : Kpt True := ⟨trivial⟩))
    | (go_at_call 28; have hm := m4; go_must (refine (hZ.out _ hb2.out).mono ?_; rintro e w2 ⟨rfl, rfl⟩; have m5 : Kpt True := ⟨trivial⟩))
    | (go_at_call 26; have hm := m3; refine (hP2.out _ hb1.out).mono ?_; rintro e w2 ⟨rfl, hs2⟩; have hX2 : Kpt (Bx w2 B0 (noP.vals (.slice none 0 0))) := ⟨hX1.out.below hs2.bel hX1.out.lt⟩; have hb2 : Kpt (Below w.heap.size w w2) := ⟨hb1.out.trans (hs2.bel.mono hb1.out.size)⟩; clear hs2; have m4 : Kpt True := ⟨trivial⟩)
    | (go_at_call 21; have hm := m2; refine (hPd.out _).mono ?_; rintro e w1 ⟨rfl, rfl⟩; have m3 : Kpt True := ⟨trivial⟩)
    | (go_at_call 27; have hm := m1; refine (hD.out _ hb1.out).mono ?_; rintro e w1 ⟨rfl, rfl⟩; have m2 : Kpt True := ⟨trivial⟩)
    | (go_at_call 26; refine (hP1.out _ hb0.out).mono ?_; rintro e w1 ⟨rfl, hs1⟩; have hX1 : Kpt (Bx w1 B0 (noP.vals (.slice none 0 0))) := ⟨hX0.out.below hs1.bel hX0.out.lt⟩; have hb1 : Kpt (Below w.heap.size w w1) := ⟨hb0.out.trans (hs1.bel.mono hb0.out.size)⟩; clear hs1; have m1 : Kpt True := ⟨trivial⟩)
    | (refine wpList_var rfl 26 rfl (noP.vals (.slice none 0 0)) zeroPi ?_; intro B0 w0 hB0 hX0 hb0; replace hX0 := Kpt.mk hX0; replace hB0 := Kpt.mk hB0; replace hb0 := Kpt.mk hb0))
  refine bodyPost_ret (v := .tuple #[.agg ((headK (zs.take 48) (R.take L) 7).vals (.slice va vn vc)), .int .i64 N, .int .i64 0]) (by simp [results, Try.results12, asAddr, Act.put, run_res hXz.out 26 _ Try.underlying26 rfl (by rw [hs7.out]; exact sizeP)]) rfl ⟨_, rfl, hrz.out, fun g hg => (hv3.out g hg).1, hbz.out⟩

set_option maxRecDepth 100000 in
set_option maxHeartbeats 1000000 in
theorem dec_okTn (b off n c : Nat) (h : Bool) (zs : List Int) (w : World) (hr : RdAt w (.slice (some ⟨b, off, none⟩) n c) zs) (hn : n ≤ 140737488355328) (hc : c ≤ maxLen) (hb : Bytes zs) (hs : 48 + sz h ≤ n) (hq : h = true → B.num zs 48 4 = (sumL (zs.take 48) : Int))
    (E1 L M : Nat) (R : List Int) (hE1 : E1 = 48 + sz h) (hL : L = lenD (zs.take 48)) (hM : M = L + padN L) (hR : R = zs.drop E1) (hf : formB (zs.take 48) = true) (hbo : M + sz (decide (0 < M)) ≤ n - E1) (hq2 : (decide (0 < M)) = true → B.num R M 4 = (sumL (R.take M) : Int)) (hz : zeroB ((R.take M).drop L) = true) (hcl : ¬ c - E1 = L) :
    Calls Try.prog 12 #[.slice (some ⟨b, off, none⟩) n c, .bool h, .bool true] w fun e w' => ∃ v, e = .returned (.tuple #[.agg ((headK (zs.take 48) (R.take L) 7).vals v), .int .i64 ((E1 + M + sz (decide (0 < M)) : Nat) : Int), .int .i64 0]) ∧ Row w' v (R.take L) ∧ (∀ g, v.ownBlock = some g → w.heap.size ≤ g) ∧ Below w.heap.size w w' := by
  have hzl := (rd_row hr).1
  have hcn : n ≤ c := by obtain ⟨a', c', hv, h1, h2, h3⟩ := hr; simp only [Value.slice.injEq] at hv; omega
  have hszh := sz_le h
  have hHr : ∀ W, Below w.heap.size w W → RdAt W (.slice (some ⟨b, off, none⟩) 48 c) (zs.take 48) := fun W h' => rd_take (hr.bel h') 48 (by omega)
  have hP1 : Kpt (∀ W, Below w.heap.size w W → Calls Try.prog 26 #[.slice (some ⟨b, off, none⟩) n c, .int .i64 48, .bool h] W fun e w' => e = .returned (.tuple #[.slice (some ⟨b, off, none⟩) 48 c, .slice (some ⟨b, offK c off E1, none⟩) (n - E1) (c - E1), .int .i64 0]) ∧ Sm W w') := ⟨fun W h' => by rw [hE1]; exact part_ok b off n c 48 h zs W (hr.bel h') (by unfold maxLen; omega) hc hb (by decide) hs hq⟩
  have hHb : Bytes (zs.take 48) := Bytes.take hb 48
  have hD : Kpt (∀ W, Below w.heap.size w W → Calls Try.prog 27 #[.slice (some ⟨b, off, none⟩) 48 c] W fun e w' => e = .returned (.tuple #[.int .i64 (lenD (zs.take 48) : Int), .bool (formB (zs.take 48))]) ∧ w' = W) := ⟨fun W h' => by rw [← lenD_eq _ hHb]; exact data_any b off c _ W (hHr W h') hc hHb⟩
  have hL8 : lenD (zs.take 48) ≤ 8192 := lenD_le hHb hf
  rw [hf] at hD
  rw [← hL] at hD hL8
  obtain ⟨P, hP⟩ : ∃ P, P = padN L := ⟨_, rfl⟩
  have hPd : Kpt (∀ W, Calls Try.prog 21 #[.int .i64 L] W fun e w' => e = .returned (.int .i64 P) ∧ w' = W) := ⟨fun W => by rw [hP]; exact pad_any L W (by omega)⟩
  have hP3 : P ≤ 3 := by rw [hP]; unfold padN; omega
  rw [← hP] at hM
  have hMe : (L : Int) + (P : Int) = (M : Int) := by omega
  have hM8 : M ≤ 8195 := by omega
  have hLM : L ≤ M := by omega
  have hRr : ∀ W, Below w.heap.size w W → RdAt W (.slice (some ⟨b, offK c off E1, none⟩) (n - E1) (c - E1)) R := fun W h' => by rw [hR]; exact rd_drop (hr.bel h') E1 (by omega)
  have hRb : Bytes R := by rw [hR]; exact Bytes.drop hb E1
  obtain ⟨o2, ho2⟩ : ∃ x, x = offK c off E1 := ⟨_, rfl⟩
  obtain ⟨n2, hn2⟩ : ∃ x, x = n - E1 := ⟨_, rfl⟩
  obtain ⟨c2, hc2⟩ : ∃ x, x = c - E1 := ⟨_, rfl⟩
  rw [← ho2, ← hn2, ← hc2] at hRr hP1
  have hm2 : n2 ≤ maxLen := by unfold maxLen; omega
  have hcm2 : c2 ≤ maxLen := by omega
  rw [← hn2] at hbo
  have hP2 : Kpt (∀ W, Below w.heap.size w W → Calls Try.prog 26 #[.slice (some ⟨b, o2, none⟩) n2 c2, .int .i64 M, .bool (decide (0 < M))] W fun e w' => e = .returned (.tuple #[.slice (some ⟨b, o2, none⟩) M c2, .slice (some ⟨b, offK c2 o2 (M + sz (decide (0 < M))), none⟩) (n2 - (M + sz (decide (0 < M)))) (c2 - (M + sz (decide (0 < M)))), .int .i64 0]) ∧ Sm W w') := ⟨fun W hW => part_ok b o2 n2 c2 M (decide (0 < M)) R W (hRr W hW) hm2 hcm2 hRb (by omega) hbo hq2⟩
  have hRl : R.length = n2 := (rd_row (hRr w (Below.refl _ _))).1
  have hBr : ∀ W, Below w.heap.size w W → RdAt W (.slice (some ⟨b, o2, none⟩) M c2) (R.take M) := fun W h' => rd_take (hRr W h') M (by omega)
  have hcn2 : M ≤ c2 := by have hsz2 := sz_le (decide (0 < M)); omega
  have hZ0 : Kpt (∀ W o k, Below w.heap.size w W → o = offK c2 o2 L → k = c2 - L → Calls Try.prog 28 #[.slice (some ⟨b, o, none⟩) (M - L) k] W fun e w' => e = .returned (.bool (zeroB ((R.take M).drop L))) ∧ w' = W) := ⟨fun W o k hW ho hk => ho ▸ hk ▸ zero_any _ _ W (rd_drop (hBr W hW) L hLM) (by simp; unfold maxLen; omega) (Bytes.drop (Bytes.take hRb M) L)⟩
  obtain ⟨o3, ho3⟩ : ∃ x, x = offK c2 o2 (M + sz (decide (0 < M))) := ⟨_, rfl⟩
  obtain ⟨n3, hn3⟩ : ∃ x, x = n2 - (M + sz (decide (0 < M))) := ⟨_, rfl⟩
  obtain ⟨c3, hc3⟩ : ∃ x, x = c2 - (M + sz (decide (0 < M))) := ⟨_, rfl⟩
  rw [← ho3, ← hn3, ← hc3] at hP2
  unfold maxLen at hcm2
  have hA : Kpt (∀ W, Below w.heap.size w W → Calls Try.prog 29 #[.slice (some ⟨b, off, none⟩) 48 c, .slice (some ⟨b, o2, none⟩) L c2] W fun e w' => ∃ v, e = .returned (.agg ((headK (zs.take 48) (R.take L) 7).vals v)) ∧ Row w' v (R.take L) ∧ (∀ g, v.ownBlock = some g → W.heap.size ≤ g) ∧ Below W.heap.size W w') := ⟨fun W hW => apart_any b off c _ _ _ W (hHr W hW) (rd_take (hRr W hW) L (by omega)) hc hHb (by rw [List.length_take]; omega)⟩
  obtain ⟨N, hN⟩ : ∃ N, N = E1 + M + sz (decide (0 < M)) := ⟨_, rfl⟩
  have hNe : (n : Int) - (n3 : Int) = (N : Int) := by omega
  have hLc : ¬ c2 < L := by omega
  rw [← hN]
  rw [hz] at hZ0
  have hs7 := Kpt.mk (fun v => Pd.size (headK_len (zs.take 48) (R.take L) 7) v)
  rw [← hc2] at hcl
  have hZ : Kpt (∀ W, Below w.heap.size w W → Calls Try.prog 28 #[.slice (some ⟨b, o2 + L, none⟩) (M - L) (c2 - L)] W fun e w' => e = .returned (.bool (true)) ∧ w' = W) := ⟨fun W hW => hZ0.out W _ _ hW (by simp only [offK, if_neg hcl]) rfl⟩
  clear hL hf hHr hr hs hq hE1 hzl hszh hHb hb hM hP hR ho2 hn2 hc2 hbo hRr hRb hq2 hz hRl hBr ho3 hn3 hc3 hN hZ0
  go_enter Try.func12, Try.ntmps12
  go_wp2_with (first
    | (have hm := m6; refine (?_ : wpList _ _ _ (Oper.mk none (Op.store _ _ _) _ _ _ _ :: _) _ _); go_must (refine wpList_store_bx rfl 26 (.tmp 6) (.tmp 65) rfl B0 (noP.vals (.slice none 0 0)) ((headK (zs.take 48) (R.take L) 7).vals (.slice va vn vc)) rfl rfl hX3.out (by rw [hs7.out]; rfl) (by rw [hs7.out]; exact sizeP) (Pd.one _ _ _ _) rfl ?_; intro wz hXz hgz; have hbz : Kpt (Below w.heap.size w wz) := ⟨hb3.out.grown hgz hb3.out.size (fun k h => by cases h; exact hB0.out)⟩; have hrz : Kpt (Row wz (.slice va vn vc) (R.take L)) := ⟨hr3.out.of_block fun g hg => hgz.block g (Row.lt hr3.out hg) (fun e => (hv3.out g hg).2 (Option.some.inj e).symm)⟩; replace hXz := Kpt.mk hXz; clear hgz))
    | (go_at_call 29; have hm := m5; go_must (refine (hA.out _ hb2.out).mono ?_; rintro e w3 ⟨v, rfl, hr3, hv3, hbe3⟩; obtain ⟨va, vn, vc, rfl⟩ := row_sl hr3; have hX3 : Kpt (Bx w3 B0 (noP.vals (.slice none 0 0))) := ⟨hX2.out.below hbe3 hX2.out.lt⟩; have hb3 : Kpt (Below w.heap.size w w3) := ⟨hb2.out.trans (hbe3.mono hb2.out.size)⟩; replace hv3 : Kpt (∀ g, (Value.slice va vn vc).ownBlock = some g → w.heap.size ≤ g ∧ B0 ≠ g) := ⟨fun g hg => ⟨Nat.le_trans hb2.out.size (hv3 g hg), Nat.ne_of_lt (Nat.lt_of_lt_of_le hX2.out.lt (hv3 g hg))⟩⟩; replace hr3 := Kpt.mk hr3; clear hbe3; have m6 : Kpt True := ⟨trivial⟩))
    | (go_at_call 28; have hm := m4; go_must (refine (hZ.out _ hb2.out).mono ?_; rintro e w2 ⟨rfl, rfl⟩; have m5 : Kpt True := ⟨trivial⟩))
    | (go_at_call 26; have hm := m3; refine (hP2.out _ hb1.out).mono ?_; rintro e w2 ⟨rfl, hs2⟩; have hX2 : Kpt (Bx w2 B0 (noP.vals (.slice none 0 0))) := ⟨hX1.out.below hs2.bel hX1.out.lt⟩; have hb2 : Kpt (Below w.heap.size w w2) := ⟨hb1.out.trans (hs2.bel.mono hb1.out.size)⟩; clear hs2; have m4 : Kpt True := ⟨trivial⟩)
    | (go_at_call 21; have hm := m2; refine (hPd.out _).mono ?_; rintro e w1 ⟨rfl, rfl⟩; have m3 : Kpt True := ⟨trivial⟩)
    | (go_at_call 27; have hm := m1; refine (hD.out _ hb1.out).mono ?_; rintro e w1 ⟨rfl, rfl⟩; have m2 : Kpt True := ⟨trivial⟩)
    | (go_at_call 26; refine (hP1.out _ hb0.out).mono ?_; rintro e w1 ⟨rfl, hs1⟩; have hX1 : Kpt (Bx w1 B0 (noP.vals (.slice none 0 0))) := ⟨hX0.out.below hs1.bel hX0.out.lt⟩; have hb1 : Kpt (Below w.heap.size w w1) := ⟨hb0.out.trans (hs1.bel.mono hb0.out.size)⟩; clear hs1; have m1 : Kpt True := ⟨trivial⟩)
    | (refine wpList_var rfl 26 rfl (noP.vals (.slice none 0 0)) zeroPi ?_; intro B0 w0 hB0 hX0 hb0; replace hX0 := Kpt.mk hX0; replace hB0 := Kpt.mk hB0; replace hb0 := Kpt.mk hb0))
  refine bodyPost_ret (v := .tuple #[.agg ((headK (zs.take 48) (R.take L) 7).vals (.slice va vn vc)), .int .i64 N, .int .i64 0]) (by simp [results, Try.results12, asAddr, Act.put, run_res hXz.out 26 _ Try.underlying26 rfl (by rw [hs7.out]; exact sizeP)]) rfl ⟨_, rfl, hrz.out, fun g hg => (hv3.out g hg).1, hbz.out⟩
end Go.Proofs.Ytigfoldobkigeaa
