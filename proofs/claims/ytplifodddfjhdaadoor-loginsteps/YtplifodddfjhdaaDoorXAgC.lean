/-
  login: any key, where there are no users.
-/
import Derived.Test.YtplifodddfjhdaaDoorXAgB
namespace Go.Proofs.YtplifodddfjhdaaDoor
open Go.RowKit
set_option linter.unusedVariables false
set_option linter.unusedSimpArgs false

def kAl : ByteArray := ⟨#[73, 110, 105, 116, 105, 97, 116, 111, 114, 65, 108, 105, 97, 115]⟩
def kCN : ByteArray := ⟨#[67, 72, 65, 80, 95, 78]⟩
theorem ne_lit {K T : ByteArray} {l : List UInt8} (hT : T.toList = l) (h : ¬ K = T) : (K.toList == l) = false := by
  cases hb : (K.toList == l)
  · rfl
  · exact absurd ((lit_iff K T l hT).2 hb) h
theorem tl_kIni : kIni.toList = [73, 110, 105, 116, 105, 97, 116, 111, 114, 78, 97, 109, 101] := by rw [kIni, ByteArray.toList_eq]
theorem tl_kAl : kAl.toList = [73, 110, 105, 116, 105, 97, 116, 111, 114, 65, 108, 105, 97, 115] := by rw [kAl, ByteArray.toList_eq]
theorem tl_kSes : kSes.toList = [83, 101, 115, 115, 105, 111, 110, 84, 121, 112, 101] := by rw [kSes, ByteArray.toList_eq]
theorem tl_kTgt : kTgt.toList = [84, 97, 114, 103, 101, 116, 78, 97, 109, 101] := by rw [kTgt, ByteArray.toList_eq]
theorem tl_kRsp : kRsp.toList = [67, 72, 65, 80, 95, 82] := by rw [kRsp, ByteArray.toList_eq]
theorem tl_kAut : kAut.toList = [65, 117, 116, 104, 77, 101, 116, 104, 111, 100] := by rw [kAut, ByteArray.toList_eq]
theorem tl_kCA : kCA.toList = [67, 72, 65, 80, 95, 65] := by rw [kCA, ByteArray.toList_eq]
theorem tl_kCN : kCN.toList = [67, 72, 65, 80, 95, 78] := by rw [kCN, ByteArray.toList_eq]
theorem tl_hdB : hdB.toList = [72, 101, 97, 100, 101, 114, 68, 105, 103, 101, 115, 116] := by rw [hdB, ByteArray.toList_eq]
theorem tl_ddB : ddB.toList = [68, 97, 116, 97, 68, 105, 103, 101, 115, 116] := by rw [ddB, ByteArray.toList_eq]
theorem tl_kSeg : kSeg.toList = [77, 97, 120, 82, 101, 99, 118, 68, 97, 116, 97, 83, 101, 103, 109, 101, 110, 116, 76, 101, 110, 103, 116, 104] := by rw [kSeg, ByteArray.toList_eq]
theorem tl_kBu : kBu.toList = [77, 97, 120, 66, 117, 114, 115, 116, 76, 101, 110, 103, 116, 104] := by rw [kBu, ByteArray.toList_eq]
theorem tl_kFi : kFi.toList = [70, 105, 114, 115, 116, 66, 117, 114, 115, 116, 76, 101, 110, 103, 116, 104] := by rw [kFi, ByteArray.toList_eq]
theorem tl_kR2 : kR2.toList = [73, 110, 105, 116, 105, 97, 108, 82, 50, 84] := by rw [kR2, ByteArray.toList_eq]
theorem tl_kIm : kIm.toList = [73, 109, 109, 101, 100, 105, 97, 116, 101, 68, 97, 116, 97] := by rw [kIm, ByteArray.toList_eq]
theorem tl_kMo : kMo.toList = [77, 97, 120, 79, 117, 116, 115, 116, 97, 110, 100, 105, 110, 103, 82, 50, 84] := by rw [kMo, ByteArray.toList_eq]
theorem tl_kMc : kMc.toList = [77, 97, 120, 67, 111, 110, 110, 101, 99, 116, 105, 111, 110, 115] := by rw [kMc, ByteArray.toList_eq]
theorem tl_kEr : kEr.toList = [69, 114, 114, 111, 114, 82, 101, 99, 111, 118, 101, 114, 121, 76, 101, 118, 101, 108] := by rw [kEr, ByteArray.toList_eq]
theorem tl_kPo : kPo.toList = [68, 97, 116, 97, 80, 68, 85, 73, 110, 79, 114, 100, 101, 114] := by rw [kPo, ByteArray.toList_eq]
theorem tl_kSo : kSo.toList = [68, 97, 116, 97, 83, 101, 113, 117, 101, 110, 99, 101, 73, 110, 79, 114, 100, 101, 114] := by rw [kSo, ByteArray.toList_eq]
/-- Keys that are looked for, beside having no answer. -/
def ign5 (K : ByteArray) : Prop := K = kIni ∨ K = kAl ∨ K = kSes ∨ K = kTgt ∨ K = kRsp
set_option maxRecDepth 100000 in
set_option maxHeartbeats 4000000 in
theorem akey_ig5 (L : Nat) (K V rs : ByteArray) (hK : ign5 K) (w : World) :
    Calls Tryd.prog 26 #[.pointer (some ⟨L, 0, none⟩), .agg #[.string K, .string V], .string rs] w fun e w' => e = .returned (.tuple #[.slice none 0 0, .bool true]) ∧ Below w.heap.size w w' := by
  rcases hK with rfl | rfl | rfl | rfl | rfl
  · exact akey_ign L kIni V rs (.inl rfl) w
  · unfold kAl
    go_enter Tryd.func26, Tryd.ntmps26
    go_wp2
    go_ret2
    exact ⟨rfl, (Below.refl _ _).alloc (Nat.le_refl _) _⟩
  · exact akey_ign L kSes V rs (.inr (.inl rfl)) w
  · exact akey_ign L kTgt V rs (.inr (.inr rfl)) w
  · unfold kRsp
    go_enter Tryd.func26, Tryd.ntmps26
    go_wp2
    go_ret2
    exact ⟨rfl, (Below.refl _ _).alloc (Nat.le_refl _) _⟩

set_option maxRecDepth 100000 in
set_option maxHeartbeats 4000000 in
/-- A key that is agreed on. -/
theorem akey_ag (L : Nat) (s s2 : Lg) (K V x rs : ByteArray) (w : World) (hX : Bx w L s.v)
    (m0 : (K.toList == [73, 110, 105, 116, 105, 97, 116, 111, 114, 78, 97, 109, 101]) = false)
    (m1 : (K.toList == [73, 110, 105, 116, 105, 97, 116, 111, 114, 65, 108, 105, 97, 115]) = false)
    (m2 : (K.toList == [83, 101, 115, 115, 105, 111, 110, 84, 121, 112, 101]) = false)
    (m3 : (K.toList == [84, 97, 114, 103, 101, 116, 78, 97, 109, 101]) = false)
    (m4 : (K.toList == [67, 72, 65, 80, 95, 82]) = false)
    (m5 : (K.toList == [65, 117, 116, 104, 77, 101, 116, 104, 111, 100]) = false)
    (m6 : (K.toList == [67, 72, 65, 80, 95, 65]) = false)
    (m7 : (K.toList == [67, 72, 65, 80, 95, 78]) = false)
    (hA : ∀ W, Below w.heap.size w W → Calls Tryd.prog 32 #[.pointer (some ⟨L, 0, none⟩), .string K, .string V] W fun e w' => e = .returned (.string x) ∧ Bx w' L s2.v ∧ W.grownBy w' (some L)) :
    Calls Tryd.prog 26 #[.pointer (some ⟨L, 0, none⟩), .agg #[.string K, .string V], .string rs] w fun e w' => ∃ ga gn gc, e = .returned (.tuple #[.slice ga gn gc, .bool true]) ∧ PsAt w' (.slice ga gn gc) (if x = ⟨#[]⟩ then [] else [(K, x)]) ∧ gn ≤ 3 ∧ Bx w' L s2.v ∧ w.grownBy w' (some L) := by
  have hlt := hX.lt
  replace hA := Kpt.mk hA
  clear hX
  by_cases hx : x = ⟨#[]⟩
  · subst hx
    rw [if_pos rfl]
    go_enter Tryd.func26, Tryd.ntmps26
    go_wp2_with (first
      | (go_at_call 32; go_must (refine (hA.out _ hb1.out).mono ?_; rintro e w2 ⟨rfl, hX2, hg2⟩; replace hX2 := Kpt.mk hX2; have hgw : Kpt (w.grownBy w2 (some L)) := ⟨grown_tr (grown_of_below hb1.out _) hg2⟩; clear hg2 k0 k1))
      | (refine (?_ : wpList _ _ _ (Oper.mk _ (Op.box 25 _) _ _ _ _ :: _) _ _); go_must (refine wpList_box rfl 25 (.tmp 1) rfl #[.string K, .string V] rfl ?_; intro B w1 hBl hBq hbe _; have hB := Kpt.mk hBq; have hb1 := Kpt.mk hbe; have k0 := hBq.cells 0 (by simp); have k1 := hBq.cells 1 (by simp); simp only [List.getElem?_toArray, List.getElem?_cons_succ, List.getElem?_cons_zero] at k0 k1;  clear hBq hbe)))
    go_ret2
    exact ⟨none, 0, 0, rfl, ps_nil w2, by omega, hX2.out, hgw.out⟩
  · rw [if_neg hx]
    have n1 := toList_ne hx
    rw [show (⟨#[]⟩ : ByteArray).toList = [] from by rw [ByteArray.toList_eq]] at n1
    have n2 : x.toList.isEmpty = false := by have := beq_eq_false_iff_ne.1 n1; simpa using this
    clear hx
    go_enter Tryd.func26, Tryd.ntmps26
    go_wp2_with (first
      | (refine (?_ : wpList _ _ _ (Oper.mk (some 98) _ _ _ _ _ :: _) _ _); go_must (refine wpList_of_exec rfl (exec_pair (.tmp 97) rfl K x rfl) ?_))
      | (go_at_call 32; go_must (refine (hA.out _ hb1.out).mono ?_; rintro e w2 ⟨rfl, hX2, hg2⟩; have hB2 := hB.out.grown hg2 (fun e => by injection e with e; omega); have k0 := hB2.cells 0 (by simp); have k1 := hB2.cells 1 (by simp); simp only [List.getElem?_toArray, List.getElem?_cons_succ, List.getElem?_cons_zero] at k0 k1; replace hX2 := Kpt.mk hX2; have hgw : Kpt (w.grownBy w2 (some L)) := ⟨grown_tr (grown_of_below hb1.out _) hg2⟩; clear hB2 hg2))
      | (refine (?_ : wpList _ _ _ (Oper.mk _ (Op.box 25 _) _ _ _ _ :: _) _ _); go_must (refine wpList_box rfl 25 (.tmp 1) rfl #[.string K, .string V] rfl ?_; intro B w1 hBl hBq hbe _; have hB := Kpt.mk hBq; have hb1 := Kpt.mk hbe; have k0 := hBq.cells 0 (by simp); have k1 := hBq.cells 1 (by simp); simp only [List.getElem?_toArray, List.getElem?_cons_succ, List.getElem?_cons_zero] at k0 k1;  clear hBq hbe)))
    go_ret2
    exact ⟨_, 1, 1, rfl, ps_bx (ps := [(K, x)]) (bx_new w2 _ 25), by omega, hX2.out.alloc _, grown_tr hgw.out (grown_of_below ((Below.refl _ _).alloc (Nat.le_refl _) _) _)⟩
set_option maxRecDepth 100000 in
set_option maxHeartbeats 4000000 in
/-- A name that nobody was asked for. -/
theorem akey_cn (L : Nat) (s : Lg) (V rs : ByteArray) (w : World) (hX : Bx w L s.v) (ht : s.told = false) :
    Calls Tryd.prog 26 #[.pointer (some ⟨L, 0, none⟩), .agg #[.string kCN, .string V], .string rs] w fun e w' => e = .returned (.tuple #[.slice none 0 0, .bool false]) ∧ Bx w' L { s with proved := false, told := false }.v ∧ w.grownBy w' (some L) := by
  have hlt := hX.lt
  have hK : Kpt (∀ w1, Below w.heap.size w w1 → w1.cell? ⟨L, 8, none⟩ = some (.bool false) ∧ w1.cell? ⟨L, 9, none⟩ = some (.bool s.proved) ∧ w1.frozen? ⟨L, 9, none⟩ = false ∧ (w1.setCell ⟨L, 9, none⟩ (.bool false)).cell? ⟨L, 8, none⟩ = some (.bool false) ∧ (w1.setCell ⟨L, 9, none⟩ (.bool false)).frozen? ⟨L, 8, none⟩ = false ∧ Kpt (Bx ((w1.setCell ⟨L, 9, none⟩ (.bool false)).setCell ⟨L, 8, none⟩ (.bool false)) L { s with proved := false, told := false }.v) ∧ Kpt (w.grownBy ((w1.setCell ⟨L, 9, none⟩ (.bool false)).setCell ⟨L, 8, none⟩ (.bool false)) (some L))) := ⟨fun w1 h => by
    have h1 := hX.below h hX.lt
    have h2 := bx_setC (.bool false) h1 (j := 9) (by simp [Lg.v])
    have e2 : s.v.setIfInBounds 9 (.bool false) = { s with proved := false }.v := by simp [Lg.v]
    rw [e2] at h2
    have h3 := bx_setC (.bool false) h2 (j := 8) (by simp [Lg.v])
    have e3 : ({ s with proved := false } : Lg).v.setIfInBounds 8 (.bool false) = { s with proved := false, told := false }.v := by simp [Lg.v]
    rw [e3] at h3
    have c1 := h1.cells 8 (by simp [Lg.v])
    have c2 := h1.cells 9 (by simp [Lg.v])
    have c3 := h2.cells 8 (by simp [Lg.v])
    simp [Lg.v, ht] at c1 c2 c3
    exact ⟨c1, c2, h1.free 9, c3, h2.free 8, ⟨h3⟩, ⟨grown_tr (grown_tr (grown_of_below h _) (grown_setCellK w1 ⟨L, 9, none⟩ (.bool false))) (grown_setCellK _ ⟨L, 8, none⟩ (.bool false))⟩⟩⟩
  clear hX ht
  unfold kCN
  go_enter Tryd.func26, Tryd.ntmps26
  go_wp2_with (first
    | (refine (?_ : wpList _ _ _ (Oper.mk _ (Op.box 25 _) _ _ _ _ :: _) _ _); go_must (refine wpList_box rfl 25 (.tmp 1) rfl #[.string ⟨#[67, 72, 65, 80, 95, 78]⟩, .string V] rfl ?_; intro B w1 hBl hBq hbe _; have hB := Kpt.mk hBq; have hb1 := Kpt.mk hbe; have k0 := hBq.cells 0 (by simp); have k1 := hBq.cells 1 (by simp); simp only [List.getElem?_toArray, List.getElem?_cons_succ, List.getElem?_cons_zero] at k0 k1; obtain ⟨r1, r2, r3, r4, r5, r6, r7⟩ := hK.out w1 hb1.out; clear hBq hbe)))
  obtain ⟨w3, hw3⟩ : ∃ W, W = (w1.setCell ⟨L, 9, none⟩ (.bool false)).setCell ⟨L, 8, none⟩ (.bool false) := ⟨_, rfl⟩
  rw [← hw3] at r6 r7 ⊢
  clear hw3 r1 r2 r3 r4 r5 k0 k1
  have r8 : ∀ m, (w3.drewN m).cell? ⟨L, 9, none⟩ = some (.bool false) := fun m => by have := r6.out.cells 9 (by simp [Lg.v]); simp [Lg.v] at this; exact this
  go_quiet (fail)
  go_wp2
  go_ret2
  exact ⟨rfl, bx_drewN r6.out _, grown_tr r7.out (grown_drewN _ _ _)⟩
/-- What is agreed on with a key: what is answered, and the login behind. -/
def agV (s : Lg) (K V : ByteArray) : ByteArray × Lg :=
  if K = hdB then (fstV s.sums V, { s with hd := isCrc (fstV s.sums V) })
  else if K = ddB then (fstV s.sums V, { s with dt := isCrc (fstV s.sums V) })
  else if K = kSeg then (if isRej (lenV 8192 V) = true then rejS else ⟨#[]⟩, { s with seg := lenN 8192 V s.seg })
  else if K = kBu then (lenV 65536 V, { s with bu := lenN 65536 V s.bu })
  else if K = kFi then (lenV 65536 V, { s with fi := lenN 65536 V s.fi })
  else if K = kR2 then (eitherS V false, { s with rdy := if isRej (eitherS V false) = true then s.rdy else isYes (eitherS V false) })
  else if K = kIm then (bothS V true, { s with imm := if isRej (bothS V true) = true then s.imm else isYes (bothS V true) })
  else if K = kMo then (leastS (numS (nums V)) 1 1 65535, s)
  else if K = kMc then (leastS (numS (nums V)) 1 1 65535, s)
  else if K = kEr then (leastS (numS (nums V)) 0 0 2, s)
  else if K = kPo then (eitherS V true, s)
  else if K = kSo then (eitherS V true, s)
  else (notU, s)
theorem agV_keep (s : Lg) (K V : ByteArray) : (agV s K V).2.us = s.us ∧ (agV s K V).2.id = s.id ∧ (agV s K V).2.ch = s.ch ∧ (agV s K V).2.tg = s.tg ∧ (agV s K V).2.sums = s.sums ∧ (agV s K V).2.meth = s.meth ∧ (agV s K V).2.told = s.told := by
  unfold agV
  by_cases h0 : K = hdB
  · rw [if_pos h0]; exact ⟨rfl, rfl, rfl, rfl, rfl, rfl, rfl⟩
  by_cases h1 : K = ddB
  · rw [if_neg h0, if_pos h1]; exact ⟨rfl, rfl, rfl, rfl, rfl, rfl, rfl⟩
  by_cases h2 : K = kSeg
  · rw [if_neg h0, if_neg h1, if_pos h2]; exact ⟨rfl, rfl, rfl, rfl, rfl, rfl, rfl⟩
  by_cases h3 : K = kBu
  · rw [if_neg h0, if_neg h1, if_neg h2, if_pos h3]; exact ⟨rfl, rfl, rfl, rfl, rfl, rfl, rfl⟩
  by_cases h4 : K = kFi
  · rw [if_neg h0, if_neg h1, if_neg h2, if_neg h3, if_pos h4]; exact ⟨rfl, rfl, rfl, rfl, rfl, rfl, rfl⟩
  by_cases h5 : K = kR2
  · rw [if_neg h0, if_neg h1, if_neg h2, if_neg h3, if_neg h4, if_pos h5]; exact ⟨rfl, rfl, rfl, rfl, rfl, rfl, rfl⟩
  by_cases h6 : K = kIm
  · rw [if_neg h0, if_neg h1, if_neg h2, if_neg h3, if_neg h4, if_neg h5, if_pos h6]; exact ⟨rfl, rfl, rfl, rfl, rfl, rfl, rfl⟩
  by_cases h7 : K = kMo
  · rw [if_neg h0, if_neg h1, if_neg h2, if_neg h3, if_neg h4, if_neg h5, if_neg h6, if_pos h7]; exact ⟨rfl, rfl, rfl, rfl, rfl, rfl, rfl⟩
  by_cases h8 : K = kMc
  · rw [if_neg h0, if_neg h1, if_neg h2, if_neg h3, if_neg h4, if_neg h5, if_neg h6, if_neg h7, if_pos h8]; exact ⟨rfl, rfl, rfl, rfl, rfl, rfl, rfl⟩
  by_cases h9 : K = kEr
  · rw [if_neg h0, if_neg h1, if_neg h2, if_neg h3, if_neg h4, if_neg h5, if_neg h6, if_neg h7, if_neg h8, if_pos h9]; exact ⟨rfl, rfl, rfl, rfl, rfl, rfl, rfl⟩
  by_cases h10 : K = kPo
  · rw [if_neg h0, if_neg h1, if_neg h2, if_neg h3, if_neg h4, if_neg h5, if_neg h6, if_neg h7, if_neg h8, if_neg h9, if_pos h10]; exact ⟨rfl, rfl, rfl, rfl, rfl, rfl, rfl⟩
  by_cases h11 : K = kSo
  · rw [if_neg h0, if_neg h1, if_neg h2, if_neg h3, if_neg h4, if_neg h5, if_neg h6, if_neg h7, if_neg h8, if_neg h9, if_neg h10, if_pos h11]; exact ⟨rfl, rfl, rfl, rfl, rfl, rfl, rfl⟩
  rw [if_neg h0, if_neg h1, if_neg h2, if_neg h3, if_neg h4, if_neg h5, if_neg h6, if_neg h7, if_neg h8, if_neg h9, if_neg h10, if_neg h11]; exact ⟨rfl, rfl, rfl, rfl, rfl, rfl, rfl⟩
theorem agree_any (L : Nat) (s : Lg) (K V : ByteArray) (w : World) (hX : Bx w L s.v) (hl : V.size ≤ 281474976710656) (hG : ∀ W, Below w.heap.size w W → Gl W) :
    Calls Tryd.prog 32 #[.pointer (some ⟨L, 0, none⟩), .string K, .string V] w fun e w' => e = .returned (.string (agV s K V).1) ∧ Bx w' L (agV s K V).2.v ∧ w.grownBy w' (some L) := by
  unfold agV
  by_cases h0 : K = hdB
  · subst h0
    rw [if_pos rfl]
    exact agree_hd L s V w hX hl hG
  by_cases h1 : K = ddB
  · subst h1
    rw [if_neg h0, if_pos rfl]
    exact agree_dd L s V w hX hl hG
  by_cases h2 : K = kSeg
  · subst h2
    rw [if_neg h0, if_neg h1, if_pos rfl]
    exact agree_seg L s V w hX hl hG
  by_cases h3 : K = kBu
  · subst h3
    rw [if_neg h0, if_neg h1, if_neg h2, if_pos rfl]
    exact agree_bu L s V w hX hl hG
  by_cases h4 : K = kFi
  · subst h4
    rw [if_neg h0, if_neg h1, if_neg h2, if_neg h3, if_pos rfl]
    exact agree_fi L s V w hX hl hG
  by_cases h5 : K = kR2
  · subst h5
    rw [if_neg h0, if_neg h1, if_neg h2, if_neg h3, if_neg h4, if_pos rfl]
    exact agree_r2 L s V w hX hl hG
  by_cases h6 : K = kIm
  · subst h6
    rw [if_neg h0, if_neg h1, if_neg h2, if_neg h3, if_neg h4, if_neg h5, if_pos rfl]
    exact agree_im L s V w hX hl hG
  by_cases h7 : K = kMo
  · subst h7
    rw [if_neg h0, if_neg h1, if_neg h2, if_neg h3, if_neg h4, if_neg h5, if_neg h6, if_pos rfl]
    exact agree_mo L s V w hX hl hG
  by_cases h8 : K = kMc
  · subst h8
    rw [if_neg h0, if_neg h1, if_neg h2, if_neg h3, if_neg h4, if_neg h5, if_neg h6, if_neg h7, if_pos rfl]
    exact agree_mc L s V w hX hl hG
  by_cases h9 : K = kEr
  · subst h9
    rw [if_neg h0, if_neg h1, if_neg h2, if_neg h3, if_neg h4, if_neg h5, if_neg h6, if_neg h7, if_neg h8, if_pos rfl]
    exact agree_er L s V w hX hl hG
  by_cases h10 : K = kPo
  · subst h10
    rw [if_neg h0, if_neg h1, if_neg h2, if_neg h3, if_neg h4, if_neg h5, if_neg h6, if_neg h7, if_neg h8, if_neg h9, if_pos rfl]
    exact agree_po L s V w hX hl hG
  by_cases h11 : K = kSo
  · subst h11
    rw [if_neg h0, if_neg h1, if_neg h2, if_neg h3, if_neg h4, if_neg h5, if_neg h6, if_neg h7, if_neg h8, if_neg h9, if_neg h10, if_pos rfl]
    exact agree_so L s V w hX hl hG
  rw [if_neg h0, if_neg h1, if_neg h2, if_neg h3, if_neg h4, if_neg h5, if_neg h6, if_neg h7, if_neg h8, if_neg h9, if_neg h10, if_neg h11]
  exact agree_else L s K V w hX (ne_lit tl_hdB h0) (ne_lit tl_ddB h1) (ne_lit tl_kSeg h2) (ne_lit tl_kBu h3) (ne_lit tl_kFi h4) (ne_lit tl_kR2 h5) (ne_lit tl_kIm h6) (ne_lit tl_kMo h7) (ne_lit tl_kMc h8) (ne_lit tl_kEr h9) (ne_lit tl_kPo h10) (ne_lit tl_kSo h11)
/-- What keys come to where there are no users. -/
def sF (I : ByteArray) (s : Lg) (p : ByteArray × ByteArray) : Prs × Bool × Lg :=
  if p.1 = kIni then ([], true, s)
  else if p.1 = kAl then ([], true, s)
  else if p.1 = kSes then ([], true, s)
  else if p.1 = kTgt then ([], true, s)
  else if p.1 = kRsp then ([], true, s)
  else if p.1 = kAut then ([(kAut, autV false p.2)], !isRej (autV false p.2), { s with meth := autV false p.2 })
  else if p.1 = kCA then ([(kCA, v5), (kCI, I), (kCC, hexS [])], false, { s with told := false })
  else if p.1 = kCN then ([], false, { s with proved := false, told := false })
  else (if (agV s p.1 p.2).1 = ⟨#[]⟩ then [] else [(p.1, (agV s p.1 p.2).1)], true, (agV s p.1 p.2).2)
/-- What holds of a login without users. -/
def sJ (b : Bool) (tg : Value) (t : Lg) : Prop := t.us = .slice none 0 0 ∧ t.id = 1 ∧ t.ch = .slice none 0 0 ∧ t.tg = tg ∧ t.sums = b ∧ (t.meth.toList == [67, 72, 65, 80]) = false ∧ t.told = false
theorem autV_no (V : ByteArray) : ((autV false V).toList == [67, 72, 65, 80]) = false := by
  have h : ∀ l : List ByteArray, firstP [vNo] l = ⟨#[82, 101, 106, 101, 99, 116]⟩ ∨ firstP [vNo] l = vNo := fun l => by
    rcases firstP_of [vNo] l with h | h
    · exact .inl h
    · exact .inr (by simpa using h)
  unfold autV methS
  rw [if_neg (by decide)]
  rcases h (pcsS (nums V)) with e | e <;> rw [e] <;> decide +kernel
theorem sF_ok (I : ByteArray) (b : Bool) (tg : Value) (L : Nat) (rs : ByteArray) (w : World) (ps : Prs) (hL : L < w.heap.size) (hps : ∀ p ∈ ps, p.2.size ≤ 281474976710656)
    (hI : ∀ W, Calls Tryd.prog 35 #[.int .i64 1] W fun e w' => e = .returned (.string I) ∧ Below W.heap.size W w') (hG : ∀ W, w.grownBy W (some L) → Gl W) : AkOk (sF I) (sJ b tg) L rs w ps := by
  intro W t p hp hJ hgr hX
  have hsz := hps p hp
  have hJ' := hJ
  obtain ⟨hus, hti, htc, htt, htb, htm, hto⟩ := hJ
  have hGW : ∀ W', Below W.heap.size W W' → Gl W' := fun W' h => hG W' (grown_tr hgr (grown_of_below h _))
  have hChl : ∀ (W' : World), Chl L { t with told := false } I [] W' := fun W' => ⟨by rw [hti]; omega, fun W2 _ => by rw [hti]; exact hI W2, ⟨none, 0, 0, htc, rd_nil W', by omega⟩, Bytes.nil⟩
  obtain ⟨K, V⟩ := p
  simp only at hsz ⊢
  by_cases h0 : K = kIni
  · have e : sF I t (K, V) = ([], true, t) := by unfold sF; rw [if_pos h0]
    rw [e]
    refine (akey_ig5 L K V rs (.inl h0) W).mono ?_
    rintro e w' ⟨rfl, hb⟩
    exact ⟨none, 0, 0, rfl, ps_nil w', by omega, hX.below hb hX.lt, hJ', grown_of_below hb _⟩
  by_cases h1 : K = kAl
  · have e : sF I t (K, V) = ([], true, t) := by unfold sF; rw [if_neg h0, if_pos h1]
    rw [e]
    refine (akey_ig5 L K V rs (.inr (.inl h1)) W).mono ?_
    rintro e w' ⟨rfl, hb⟩
    exact ⟨none, 0, 0, rfl, ps_nil w', by omega, hX.below hb hX.lt, hJ', grown_of_below hb _⟩
  by_cases h2 : K = kSes
  · have e : sF I t (K, V) = ([], true, t) := by unfold sF; rw [if_neg h0, if_neg h1, if_pos h2]
    rw [e]
    refine (akey_ig5 L K V rs (.inr (.inr (.inl h2))) W).mono ?_
    rintro e w' ⟨rfl, hb⟩
    exact ⟨none, 0, 0, rfl, ps_nil w', by omega, hX.below hb hX.lt, hJ', grown_of_below hb _⟩
  by_cases h3 : K = kTgt
  · have e : sF I t (K, V) = ([], true, t) := by unfold sF; rw [if_neg h0, if_neg h1, if_neg h2, if_pos h3]
    rw [e]
    refine (akey_ig5 L K V rs (.inr (.inr (.inr (.inl h3)))) W).mono ?_
    rintro e w' ⟨rfl, hb⟩
    exact ⟨none, 0, 0, rfl, ps_nil w', by omega, hX.below hb hX.lt, hJ', grown_of_below hb _⟩
  by_cases h4 : K = kRsp
  · have e : sF I t (K, V) = ([], true, t) := by unfold sF; rw [if_neg h0, if_neg h1, if_neg h2, if_neg h3, if_pos h4]
    rw [e]
    refine (akey_ig5 L K V rs (.inr (.inr (.inr (.inr (h4))))) W).mono ?_
    rintro e w' ⟨rfl, hb⟩
    exact ⟨none, 0, 0, rfl, ps_nil w', by omega, hX.below hb hX.lt, hJ', grown_of_below hb _⟩
  by_cases h5 : K = kAut
  · have e : sF I t (K, V) = ([(kAut, autV false V)], !isRej (autV false V), { t with meth := autV false V }) := by unfold sF; rw [if_neg h0, if_neg h1, if_neg h2, if_neg h3, if_neg h4, if_pos h5]
    rw [e]
    subst h5
    refine (akey_aut L t V rs none 0 0 hus W hX hsz).mono ?_
    rw [show decide (0 < 0) = false from rfl]
    rintro e w' ⟨g, rfl, q2, q3, q4, q5⟩
    exact ⟨_, 1, 1, rfl, ps_bx (ps := [(kAut, autV false V)]) q3, by omega, q4, ⟨hus, hti, htc, htt, htb, autV_no V, hto⟩, q5⟩
  by_cases h6 : K = kCA
  · have e : sF I t (K, V) = ([(kCA, v5), (kCI, I), (kCC, hexS [])], false, { t with told := false }) := by unfold sF; rw [if_neg h0, if_neg h1, if_neg h2, if_neg h3, if_neg h4, if_neg h5, if_pos h6]
    rw [e]
    subst h6
    refine (akey_caF L t V rs I [] W hX hsz htm (fun W' _ => hChl W') (fun W' v _ => hChl _)).mono ?_
    rintro e w' ⟨g, rfl, q2, q3, q4, q5⟩
    exact ⟨_, 3, 3, rfl, ps_bx (ps := [(kCA, v5), (kCI, I), (kCC, hexS [])]) q3, by omega, q4, ⟨hus, hti, htc, htt, htb, htm, rfl⟩, q5⟩
  by_cases h7 : K = kCN
  · have e : sF I t (K, V) = ([], false, { t with proved := false, told := false }) := by unfold sF; rw [if_neg h0, if_neg h1, if_neg h2, if_neg h3, if_neg h4, if_neg h5, if_neg h6, if_pos h7]
    rw [e]
    subst h7
    refine (akey_cn L t V rs W hX hto).mono ?_
    rintro e w' ⟨rfl, q4, q5⟩
    exact ⟨none, 0, 0, rfl, ps_nil w', by omega, q4, ⟨hus, hti, htc, htt, htb, htm, rfl⟩, q5⟩
  have e : sF I t (K, V) = (if (agV t K V).1 = ⟨#[]⟩ then [] else [(K, (agV t K V).1)], true, (agV t K V).2) := by unfold sF; rw [if_neg h0, if_neg h1, if_neg h2, if_neg h3, if_neg h4, if_neg h5, if_neg h6, if_neg h7]
  rw [e]
  obtain ⟨a1, a2, a3, a4, a5, a6, a7⟩ := agV_keep t K V
  refine (akey_ag L t (agV t K V).2 K V (agV t K V).1 rs W hX (ne_lit tl_kIni h0) (ne_lit tl_kAl h1) (ne_lit tl_kSes h2) (ne_lit tl_kTgt h3) (ne_lit tl_kRsp h4) (ne_lit tl_kAut h5) (ne_lit tl_kCA h6) (ne_lit tl_kCN h7) (fun W' hb => agree_any L t K V W' (hX.below hb hX.lt) hsz (fun W2 h2 => hGW W2 (hb.trans (h2.mono hb.size))))).mono ?_
  rintro e w' ⟨ga, gn, gc, rfl, q1, q2, q3, q4⟩
  exact ⟨ga, gn, gc, rfl, q1, q2, q3, ⟨a1.trans hus, a2.trans hti, a3.trans htc, a4.trans htt, a5.trans htb, by rw [a6]; exact htm, a7.trans hto⟩, q4⟩
end Go.Proofs.YtplifodddfjhdaaDoor
