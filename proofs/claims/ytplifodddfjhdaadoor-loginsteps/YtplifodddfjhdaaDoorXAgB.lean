/-
  login: agree, a key a theorem.
-/
import Derived.Test.YtplifodddfjhdaaDoorXAgA
namespace Go.Proofs.YtplifodddfjhdaaDoor
open Go.RowKit
set_option linter.unusedVariables false
set_option linter.unusedSimpArgs false

def kSeg : ByteArray := ⟨#[77, 97, 120, 82, 101, 99, 118, 68, 97, 116, 97, 83, 101, 103, 109, 101, 110, 116, 76, 101, 110, 103, 116, 104]⟩
def kBu : ByteArray := ⟨#[77, 97, 120, 66, 117, 114, 115, 116, 76, 101, 110, 103, 116, 104]⟩
def kFi : ByteArray := ⟨#[70, 105, 114, 115, 116, 66, 117, 114, 115, 116, 76, 101, 110, 103, 116, 104]⟩
def kR2 : ByteArray := ⟨#[73, 110, 105, 116, 105, 97, 108, 82, 50, 84]⟩
def kIm : ByteArray := ⟨#[73, 109, 109, 101, 100, 105, 97, 116, 101, 68, 97, 116, 97]⟩
def kMo : ByteArray := ⟨#[77, 97, 120, 79, 117, 116, 115, 116, 97, 110, 100, 105, 110, 103, 82, 50, 84]⟩
def kMc : ByteArray := ⟨#[77, 97, 120, 67, 111, 110, 110, 101, 99, 116, 105, 111, 110, 115]⟩
def kEr : ByteArray := ⟨#[69, 114, 114, 111, 114, 82, 101, 99, 111, 118, 101, 114, 121, 76, 101, 118, 101, 108]⟩
def kPo : ByteArray := ⟨#[68, 97, 116, 97, 80, 68, 85, 73, 110, 79, 114, 100, 101, 114]⟩
def kSo : ByteArray := ⟨#[68, 97, 116, 97, 83, 101, 113, 117, 101, 110, 99, 101, 73, 110, 79, 114, 100, 101, 114]⟩
def notU : ByteArray := ⟨#[78, 111, 116, 85, 110, 100, 101, 114, 115, 116, 111, 111, 100]⟩
set_option maxRecDepth 100000 in
set_option maxHeartbeats 4000000 in
theorem agree_hd (L : Nat) (s : Lg) (V : ByteArray) (w : World) (hX : Bx w L s.v) (hl : V.size ≤ 281474976710656) (hG : ∀ W, Below w.heap.size w W → Gl W) :
    Calls Tryd.prog 32 #[.pointer (some ⟨L, 0, none⟩), .string hdB, .string V] w fun e w' => e = .returned (.string (fstV s.sums V)) ∧ Bx w' L ({ s with hd := isCrc (fstV s.sums V) } : Lg).v ∧ w.grownBy w' (some L) := by
  have hA := Kpt.mk (show Calls Tryd.prog 38 #[.pointer (some ⟨L, 0, none⟩), .string V, .pointer (some ⟨L, 15, none⟩)] w fun e w' => e = .returned (.string (fstV s.sums V)) ∧ Bx w' L ({ s with hd := isCrc (fstV s.sums V) } : Lg).v ∧ w.grownBy w' (some L) from (agreeSums_any L 15 (by omega) s V w hX hl).mono fun e w' ⟨h1, h2, h3⟩ => ⟨h1, by simpa [Lg.v] using h2, h3⟩)
  obtain ⟨x, hx⟩ : ∃ x, x = fstV s.sums V := ⟨_, rfl⟩
  obtain ⟨s2, hs2⟩ : ∃ s2, s2 = { s with hd := isCrc (fstV s.sums V) } := ⟨_, rfl⟩
  rw [← hs2, ← hx] at hA
  rw [← hs2, ← hx]
  clear hX hl hG hx hs2
  unfold hdB
  go_enter Tryd.func32, Tryd.ntmps32
  go_wp2_with (go_at_call 38; go_must (refine hA.out.mono ?_; rintro e w2 ⟨rfl, hX2, hg2⟩; replace hX2 := Kpt.mk hX2; replace hg2 := Kpt.mk hg2))
  go_ret
  exact ⟨rfl, hX2.out, hg2.out⟩
set_option maxRecDepth 100000 in
set_option maxHeartbeats 4000000 in
theorem agree_dd (L : Nat) (s : Lg) (V : ByteArray) (w : World) (hX : Bx w L s.v) (hl : V.size ≤ 281474976710656) (hG : ∀ W, Below w.heap.size w W → Gl W) :
    Calls Tryd.prog 32 #[.pointer (some ⟨L, 0, none⟩), .string ddB, .string V] w fun e w' => e = .returned (.string (fstV s.sums V)) ∧ Bx w' L ({ s with dt := isCrc (fstV s.sums V) } : Lg).v ∧ w.grownBy w' (some L) := by
  have hA := Kpt.mk (show Calls Tryd.prog 38 #[.pointer (some ⟨L, 0, none⟩), .string V, .pointer (some ⟨L, 16, none⟩)] w fun e w' => e = .returned (.string (fstV s.sums V)) ∧ Bx w' L ({ s with dt := isCrc (fstV s.sums V) } : Lg).v ∧ w.grownBy w' (some L) from (agreeSums_any L 16 (by omega) s V w hX hl).mono fun e w' ⟨h1, h2, h3⟩ => ⟨h1, by simpa [Lg.v] using h2, h3⟩)
  obtain ⟨x, hx⟩ : ∃ x, x = fstV s.sums V := ⟨_, rfl⟩
  obtain ⟨s2, hs2⟩ : ∃ s2, s2 = { s with dt := isCrc (fstV s.sums V) } := ⟨_, rfl⟩
  rw [← hs2, ← hx] at hA
  rw [← hs2, ← hx]
  clear hX hl hG hx hs2
  unfold ddB
  go_enter Tryd.func32, Tryd.ntmps32
  go_wp2_with (go_at_call 38; go_must (refine hA.out.mono ?_; rintro e w2 ⟨rfl, hX2, hg2⟩; replace hX2 := Kpt.mk hX2; replace hg2 := Kpt.mk hg2))
  go_ret
  exact ⟨rfl, hX2.out, hg2.out⟩
set_option maxRecDepth 100000 in
set_option maxHeartbeats 4000000 in
theorem agree_bu (L : Nat) (s : Lg) (V : ByteArray) (w : World) (hX : Bx w L s.v) (hl : V.size ≤ 281474976710656) (hG : ∀ W, Below w.heap.size w W → Gl W) :
    Calls Tryd.prog 32 #[.pointer (some ⟨L, 0, none⟩), .string kBu, .string V] w fun e w' => e = .returned (.string (lenV 65536 V)) ∧ Bx w' L ({ s with bu := lenN 65536 V s.bu } : Lg).v ∧ w.grownBy w' (some L) := by
  have hA := Kpt.mk (len_bu L s 65536 V w hX hl (by omega) hG)
  obtain ⟨x, hx⟩ : ∃ x, x = lenV 65536 V := ⟨_, rfl⟩
  obtain ⟨s2, hs2⟩ : ∃ s2, s2 = { s with bu := lenN 65536 V s.bu } := ⟨_, rfl⟩
  rw [← hs2, ← hx] at hA
  rw [← hs2, ← hx]
  clear hX hl hG hx hs2
  unfold kBu
  go_enter Tryd.func32, Tryd.ntmps32
  go_wp2_with (go_at_call 39; go_must (refine hA.out.mono ?_; rintro e w2 ⟨rfl, hX2, hg2⟩; replace hX2 := Kpt.mk hX2; replace hg2 := Kpt.mk hg2))
  go_ret
  exact ⟨rfl, hX2.out, hg2.out⟩
set_option maxRecDepth 100000 in
set_option maxHeartbeats 4000000 in
theorem agree_fi (L : Nat) (s : Lg) (V : ByteArray) (w : World) (hX : Bx w L s.v) (hl : V.size ≤ 281474976710656) (hG : ∀ W, Below w.heap.size w W → Gl W) :
    Calls Tryd.prog 32 #[.pointer (some ⟨L, 0, none⟩), .string kFi, .string V] w fun e w' => e = .returned (.string (lenV 65536 V)) ∧ Bx w' L ({ s with fi := lenN 65536 V s.fi } : Lg).v ∧ w.grownBy w' (some L) := by
  have hA := Kpt.mk (len_fi L s 65536 V w hX hl (by omega) hG)
  obtain ⟨x, hx⟩ : ∃ x, x = lenV 65536 V := ⟨_, rfl⟩
  obtain ⟨s2, hs2⟩ : ∃ s2, s2 = { s with fi := lenN 65536 V s.fi } := ⟨_, rfl⟩
  rw [← hs2, ← hx] at hA
  rw [← hs2, ← hx]
  clear hX hl hG hx hs2
  unfold kFi
  go_enter Tryd.func32, Tryd.ntmps32
  go_wp2_with (go_at_call 39; go_must (refine hA.out.mono ?_; rintro e w2 ⟨rfl, hX2, hg2⟩; replace hX2 := Kpt.mk hX2; replace hg2 := Kpt.mk hg2))
  go_ret
  exact ⟨rfl, hX2.out, hg2.out⟩
set_option maxRecDepth 100000 in
set_option maxHeartbeats 4000000 in
theorem agree_mo (L : Nat) (s : Lg) (V : ByteArray) (w : World) (hX : Bx w L s.v) (hl : V.size ≤ 281474976710656) (hG : ∀ W, Below w.heap.size w W → Gl W) :
    Calls Tryd.prog 32 #[.pointer (some ⟨L, 0, none⟩), .string kMo, .string V] w fun e w' => e = .returned (.string (leastS (numS (nums V)) 1 1 65535)) ∧ Bx w' L (s : Lg).v ∧ w.grownBy w' (some L) := by
  have hA : Kpt (Calls Tryd.prog 43 #[.string V, .int .u64 1, .int .u64 1, .int .u64 65535] w fun e w' => e = .returned (.string (leastS (numS (nums V)) 1 1 65535)) ∧ Bx w' L s.v ∧ w.grownBy w' (some L)) := ⟨(least_any V 1 1 65535 w hl (hG w (Below.refl _ _)) (by omega) (by omega) (by omega)).mono fun e w' ⟨h1, h2⟩ => ⟨h1, hX.below h2 hX.lt, grown_of_below h2 _⟩⟩
  obtain ⟨x, hx⟩ : ∃ x, x = leastS (numS (nums V)) 1 1 65535 := ⟨_, rfl⟩
  rw [← hx] at hA
  rw [← hx]
  clear hX hl hG hx
  unfold kMo
  go_enter Tryd.func32, Tryd.ntmps32
  go_wp2_with (go_at_call 43; go_must (refine hA.out.mono ?_; rintro e w2 ⟨rfl, hX2, hg2⟩; replace hX2 := Kpt.mk hX2; replace hg2 := Kpt.mk hg2))
  go_ret
  exact ⟨rfl, hX2.out, hg2.out⟩
set_option maxRecDepth 100000 in
set_option maxHeartbeats 4000000 in
theorem agree_mc (L : Nat) (s : Lg) (V : ByteArray) (w : World) (hX : Bx w L s.v) (hl : V.size ≤ 281474976710656) (hG : ∀ W, Below w.heap.size w W → Gl W) :
    Calls Tryd.prog 32 #[.pointer (some ⟨L, 0, none⟩), .string kMc, .string V] w fun e w' => e = .returned (.string (leastS (numS (nums V)) 1 1 65535)) ∧ Bx w' L (s : Lg).v ∧ w.grownBy w' (some L) := by
  have hA : Kpt (Calls Tryd.prog 43 #[.string V, .int .u64 1, .int .u64 1, .int .u64 65535] w fun e w' => e = .returned (.string (leastS (numS (nums V)) 1 1 65535)) ∧ Bx w' L s.v ∧ w.grownBy w' (some L)) := ⟨(least_any V 1 1 65535 w hl (hG w (Below.refl _ _)) (by omega) (by omega) (by omega)).mono fun e w' ⟨h1, h2⟩ => ⟨h1, hX.below h2 hX.lt, grown_of_below h2 _⟩⟩
  obtain ⟨x, hx⟩ : ∃ x, x = leastS (numS (nums V)) 1 1 65535 := ⟨_, rfl⟩
  rw [← hx] at hA
  rw [← hx]
  clear hX hl hG hx
  unfold kMc
  go_enter Tryd.func32, Tryd.ntmps32
  go_wp2_with (go_at_call 43; go_must (refine hA.out.mono ?_; rintro e w2 ⟨rfl, hX2, hg2⟩; replace hX2 := Kpt.mk hX2; replace hg2 := Kpt.mk hg2))
  go_ret
  exact ⟨rfl, hX2.out, hg2.out⟩
set_option maxRecDepth 100000 in
set_option maxHeartbeats 4000000 in
theorem agree_er (L : Nat) (s : Lg) (V : ByteArray) (w : World) (hX : Bx w L s.v) (hl : V.size ≤ 281474976710656) (hG : ∀ W, Below w.heap.size w W → Gl W) :
    Calls Tryd.prog 32 #[.pointer (some ⟨L, 0, none⟩), .string kEr, .string V] w fun e w' => e = .returned (.string (leastS (numS (nums V)) 0 0 2)) ∧ Bx w' L (s : Lg).v ∧ w.grownBy w' (some L) := by
  have hA : Kpt (Calls Tryd.prog 43 #[.string V, .int .u64 0, .int .u64 0, .int .u64 2] w fun e w' => e = .returned (.string (leastS (numS (nums V)) 0 0 2)) ∧ Bx w' L s.v ∧ w.grownBy w' (some L)) := ⟨(least_any V 0 0 2 w hl (hG w (Below.refl _ _)) (by omega) (by omega) (by omega)).mono fun e w' ⟨h1, h2⟩ => ⟨h1, hX.below h2 hX.lt, grown_of_below h2 _⟩⟩
  obtain ⟨x, hx⟩ : ∃ x, x = leastS (numS (nums V)) 0 0 2 := ⟨_, rfl⟩
  rw [← hx] at hA
  rw [← hx]
  clear hX hl hG hx
  unfold kEr
  go_enter Tryd.func32, Tryd.ntmps32
  go_wp2_with (go_at_call 43; go_must (refine hA.out.mono ?_; rintro e w2 ⟨rfl, hX2, hg2⟩; replace hX2 := Kpt.mk hX2; replace hg2 := Kpt.mk hg2))
  go_ret
  exact ⟨rfl, hX2.out, hg2.out⟩
set_option maxRecDepth 100000 in
set_option maxHeartbeats 4000000 in
theorem agree_po (L : Nat) (s : Lg) (V : ByteArray) (w : World) (hX : Bx w L s.v) (hl : V.size ≤ 281474976710656) (hG : ∀ W, Below w.heap.size w W → Gl W) :
    Calls Tryd.prog 32 #[.pointer (some ⟨L, 0, none⟩), .string kPo, .string V] w fun e w' => e = .returned (.string (eitherS V true)) ∧ Bx w' L (s : Lg).v ∧ w.grownBy w' (some L) := by
  have hA : Kpt (Calls Tryd.prog 41 #[.string V, .bool true] w fun e w' => e = .returned (.string (eitherS V true)) ∧ Bx w' L s.v ∧ w.grownBy w' (some L)) := ⟨(either_any V true w).mono fun e w' ⟨h1, h2⟩ => ⟨h1, by rw [h2]; exact hX, by rw [h2]; exact grown_of_below (Below.refl _ _) _⟩⟩
  obtain ⟨x, hx⟩ : ∃ x, x = eitherS V true := ⟨_, rfl⟩
  rw [← hx] at hA
  rw [← hx]
  clear hX hl hG hx
  unfold kPo
  go_enter Tryd.func32, Tryd.ntmps32
  go_wp2_with (go_at_call 41; go_must (refine hA.out.mono ?_; rintro e w2 ⟨rfl, hX2, hg2⟩; replace hX2 := Kpt.mk hX2; replace hg2 := Kpt.mk hg2))
  go_ret
  exact ⟨rfl, hX2.out, hg2.out⟩
set_option maxRecDepth 100000 in
set_option maxHeartbeats 4000000 in
theorem agree_so (L : Nat) (s : Lg) (V : ByteArray) (w : World) (hX : Bx w L s.v) (hl : V.size ≤ 281474976710656) (hG : ∀ W, Below w.heap.size w W → Gl W) :
    Calls Tryd.prog 32 #[.pointer (some ⟨L, 0, none⟩), .string kSo, .string V] w fun e w' => e = .returned (.string (eitherS V true)) ∧ Bx w' L (s : Lg).v ∧ w.grownBy w' (some L) := by
  have hA : Kpt (Calls Tryd.prog 41 #[.string V, .bool true] w fun e w' => e = .returned (.string (eitherS V true)) ∧ Bx w' L s.v ∧ w.grownBy w' (some L)) := ⟨(either_any V true w).mono fun e w' ⟨h1, h2⟩ => ⟨h1, by rw [h2]; exact hX, by rw [h2]; exact grown_of_below (Below.refl _ _) _⟩⟩
  obtain ⟨x, hx⟩ : ∃ x, x = eitherS V true := ⟨_, rfl⟩
  rw [← hx] at hA
  rw [← hx]
  clear hX hl hG hx
  unfold kSo
  go_enter Tryd.func32, Tryd.ntmps32
  go_wp2_with (go_at_call 41; go_must (refine hA.out.mono ?_; rintro e w2 ⟨rfl, hX2, hg2⟩; replace hX2 := Kpt.mk hX2; replace hg2 := Kpt.mk hg2))
  go_ret
  exact ⟨rfl, hX2.out, hg2.out⟩
set_option maxRecDepth 100000 in
set_option maxHeartbeats 4000000 in
theorem agree_seg (L : Nat) (s : Lg) (V : ByteArray) (w : World) (hX : Bx w L s.v) (hl : V.size ≤ 281474976710656) (hG : ∀ W, Below w.heap.size w W → Gl W) :
    Calls Tryd.prog 32 #[.pointer (some ⟨L, 0, none⟩), .string kSeg, .string V] w fun e w' => e = .returned (.string (if isRej (lenV 8192 V) = true then rejS else ⟨#[]⟩)) ∧ Bx w' L ({ s with seg := lenN 8192 V s.seg } : Lg).v ∧ w.grownBy w' (some L) := by
  have hA := Kpt.mk (len_seg L s 8192 V w hX hl (by omega) hG)
  obtain ⟨x, hx⟩ : ∃ x, x = lenV 8192 V := ⟨_, rfl⟩
  obtain ⟨s2, hs2⟩ : ∃ s2 : Lg, s2 = { s with seg := lenN 8192 V s.seg } := ⟨_, rfl⟩
  rw [← hx, ← hs2] at hA
  rw [← hx, ← hs2]
  obtain ⟨q, hq⟩ : ∃ q, q = isRej x := ⟨_, rfl⟩
  rw [← hq]
  unfold isRej at hq
  replace hq := hq.symm
  clear hX hl hG hx hs2
  unfold kSeg rejS
  cases q
  all_goals
    go_enter Tryd.func32, Tryd.ntmps32
    go_wp2_with (go_at_call 39; go_must (refine hA.out.mono ?_; rintro e w2 ⟨rfl, hX2, hg2⟩; replace hX2 := Kpt.mk hX2; replace hg2 := Kpt.mk hg2))
    go_ret
    exact ⟨rfl, hX2.out, hg2.out⟩
set_option maxRecDepth 100000 in
set_option maxHeartbeats 4000000 in
theorem agree_r2 (L : Nat) (s : Lg) (V : ByteArray) (w : World) (hX : Bx w L s.v) (hl : V.size ≤ 281474976710656) (hG : ∀ W, Below w.heap.size w W → Gl W) :
    Calls Tryd.prog 32 #[.pointer (some ⟨L, 0, none⟩), .string kR2, .string V] w fun e w' => e = .returned (.string (eitherS V false)) ∧ Bx w' L ({ s with rdy := if isRej (eitherS V false) = true then s.rdy else isYes (eitherS V false) } : Lg).v ∧ w.grownBy w' (some L) := by
  have hE : Kpt (∀ W : World, Calls Tryd.prog 41 #[.string V, .bool false] W fun e w' => e = .returned (.string (eitherS V false)) ∧ w' = W) := ⟨either_any V false⟩
  have hA : Kpt (∀ W : World, Below w.heap.size w W → Calls Tryd.prog 40 #[.string (eitherS V false), .pointer (some ⟨L, 21, none⟩)] W fun e w' => e = .returned (.string (eitherS V false)) ∧ Bx w' L ({ s with rdy := if isRej (eitherS V false) = true then s.rdy else isYes (eitherS V false) } : Lg).v ∧ w.grownBy w' (some L)) := ⟨fun W h => (agreed_rdy L s _ W (hX.below h hX.lt)).mono fun e w' ⟨h1, h2, h3⟩ => ⟨h1, h2, grown_tr (grown_of_below h _) h3⟩⟩
  obtain ⟨x, hx⟩ : ∃ x, x = eitherS V false := ⟨_, rfl⟩
  rw [← hx] at hA hE ⊢
  obtain ⟨s2, hs2⟩ : ∃ s2 : Lg, s2 = { s with rdy := if isRej x = true then s.rdy else isYes x } := ⟨_, rfl⟩
  rw [← hs2] at hA ⊢
  have hbd := Kpt.mk (below_drew w)
  clear hX hl hG hx hs2
  unfold kR2
  go_enter Tryd.func32, Tryd.ntmps32
  go_wp2
  refine wp_region_any (by kernel_rfl) ?_
  refine wpAny_of_C (C := fun W => True) _ _ _ _ ?_
  refine wpAnyC_take 0 (.string V) rfl (by kernel_rfl) (by kernel_rfl) (by kernel_rfl) (fun _ _ _ h => h) (wanted_free rfl _) (fun W hW => by go_simp) ?_
  try simp only [Act.put, List.getElem_toArray, List.getElem_cons_succ, List.getElem_cons_zero, List.setIfInBounds_toArray, List.set_cons_succ, List.set_cons_zero]
  refine wpAnyC_take 2 (.pointer (some ⟨L, 12, none⟩)) rfl (by kernel_rfl) (by kernel_rfl) (by kernel_rfl) (fun _ _ _ h => h) (wanted_free rfl _) (fun W hW => by go_simp) ?_
  try simp only [Act.put, List.getElem_toArray, List.getElem_cons_succ, List.getElem_cons_zero, List.setIfInBounds_toArray, List.set_cons_succ, List.set_cons_zero]
  refine wpAnyC_take 3 (.pointer (some ⟨L, 12, none⟩)) rfl (by kernel_rfl) (by kernel_rfl) (by kernel_rfl) (fun _ _ _ h => h) (wanted_free rfl _) (fun W hW => by go_simp) ?_
  try simp only [Act.put, List.getElem_toArray, List.getElem_cons_succ, List.getElem_cons_zero, List.setIfInBounds_toArray, List.set_cons_succ, List.set_cons_zero]
  refine wpAnyC_take 4 (.pointer (some ⟨L, 21, none⟩)) rfl (by kernel_rfl) (by kernel_rfl) (by kernel_rfl) (fun _ _ _ h => h) (wanted_free rfl _) (fun W hW => by go_simp) ?_
  try simp only [Act.put, List.getElem_toArray, List.getElem_cons_succ, List.getElem_cons_zero, List.setIfInBounds_toArray, List.set_cons_succ, List.set_cons_zero]
  refine wpAnyC_one 1 (trivial) rfl (by kernel_rfl) (wanted_free rfl _) (fun KA hKA => ?_)
  go_simp
  refine (hE.out _).mono ?_
  rintro e wx ⟨rfl, rfl⟩
  refine hKA _ _ ?_
  clear hKA KA
  try simp only [Act.put, List.getElem_toArray, List.getElem_cons_succ, List.getElem_cons_zero, List.setIfInBounds_toArray, List.set_cons_succ, List.set_cons_zero]
  refine wpAnyC_one 5 (trivial) rfl (by kernel_rfl) (wanted_free rfl _) (fun KA hKA => ?_)
  go_simp
  refine (hA.out _ (by first | exact hbd.out | exact (hbd.out.trans ((below_drew _).mono hbd.out.size)) | exact Below.refl _ _)).mono ?_
  rintro e w2 ⟨rfl, hX2, hg2⟩
  replace hX2 := Kpt.mk hX2
  replace hg2 := Kpt.mk hg2
  refine hKA _ _ ?_
  clear hKA KA
  try simp only [Act.put, List.getElem_toArray, List.getElem_cons_succ, List.getElem_cons_zero, List.setIfInBounds_toArray, List.set_cons_succ, List.set_cons_zero]
  refine wpAnyC_take 6 (.string x) rfl (by kernel_rfl) (by kernel_rfl) (by kernel_rfl) (fun _ _ _ h => h) (wanted_free rfl _) (fun W hW => by go_simp) ?_
  try simp only [Act.put, List.getElem_toArray, List.getElem_cons_succ, List.getElem_cons_zero, List.setIfInBounds_toArray, List.set_cons_succ, List.set_cons_zero]
  refine wpAnyC_done trivial (by kernel_rfl) ?_
  go_wp2
  go_ret
  exact ⟨rfl, hX2.out, hg2.out⟩
set_option maxRecDepth 100000 in
set_option maxHeartbeats 4000000 in
theorem agree_im (L : Nat) (s : Lg) (V : ByteArray) (w : World) (hX : Bx w L s.v) (hl : V.size ≤ 281474976710656) (hG : ∀ W, Below w.heap.size w W → Gl W) :
    Calls Tryd.prog 32 #[.pointer (some ⟨L, 0, none⟩), .string kIm, .string V] w fun e w' => e = .returned (.string (bothS V true)) ∧ Bx w' L ({ s with imm := if isRej (bothS V true) = true then s.imm else isYes (bothS V true) } : Lg).v ∧ w.grownBy w' (some L) := by
  have hE : Kpt (∀ W : World, Calls Tryd.prog 42 #[.string V, .bool true] W fun e w' => e = .returned (.string (bothS V true)) ∧ w' = W) := ⟨both_any V true⟩
  have hA : Kpt (∀ W : World, Below w.heap.size w W → Calls Tryd.prog 40 #[.string (bothS V true), .pointer (some ⟨L, 20, none⟩)] W fun e w' => e = .returned (.string (bothS V true)) ∧ Bx w' L ({ s with imm := if isRej (bothS V true) = true then s.imm else isYes (bothS V true) } : Lg).v ∧ w.grownBy w' (some L)) := ⟨fun W h => (agreed_imm L s _ W (hX.below h hX.lt)).mono fun e w' ⟨h1, h2, h3⟩ => ⟨h1, h2, grown_tr (grown_of_below h _) h3⟩⟩
  obtain ⟨x, hx⟩ : ∃ x, x = bothS V true := ⟨_, rfl⟩
  rw [← hx] at hA hE ⊢
  obtain ⟨s2, hs2⟩ : ∃ s2 : Lg, s2 = { s with imm := if isRej x = true then s.imm else isYes x } := ⟨_, rfl⟩
  rw [← hs2] at hA ⊢
  have hbd := Kpt.mk (below_drew w)
  clear hX hl hG hx hs2
  unfold kIm
  go_enter Tryd.func32, Tryd.ntmps32
  go_wp2
  refine wp_region_any (by kernel_rfl) ?_
  refine wpAny_of_C (C := fun W => True) _ _ _ _ ?_
  refine wpAnyC_take 0 (.string V) rfl (by kernel_rfl) (by kernel_rfl) (by kernel_rfl) (fun _ _ _ h => h) (wanted_free rfl _) (fun W hW => by go_simp) ?_
  try simp only [Act.put, List.getElem_toArray, List.getElem_cons_succ, List.getElem_cons_zero, List.setIfInBounds_toArray, List.set_cons_succ, List.set_cons_zero]
  refine wpAnyC_take 2 (.pointer (some ⟨L, 12, none⟩)) rfl (by kernel_rfl) (by kernel_rfl) (by kernel_rfl) (fun _ _ _ h => h) (wanted_free rfl _) (fun W hW => by go_simp) ?_
  try simp only [Act.put, List.getElem_toArray, List.getElem_cons_succ, List.getElem_cons_zero, List.setIfInBounds_toArray, List.set_cons_succ, List.set_cons_zero]
  refine wpAnyC_take 3 (.pointer (some ⟨L, 12, none⟩)) rfl (by kernel_rfl) (by kernel_rfl) (by kernel_rfl) (fun _ _ _ h => h) (wanted_free rfl _) (fun W hW => by go_simp) ?_
  try simp only [Act.put, List.getElem_toArray, List.getElem_cons_succ, List.getElem_cons_zero, List.setIfInBounds_toArray, List.set_cons_succ, List.set_cons_zero]
  refine wpAnyC_take 4 (.pointer (some ⟨L, 20, none⟩)) rfl (by kernel_rfl) (by kernel_rfl) (by kernel_rfl) (fun _ _ _ h => h) (wanted_free rfl _) (fun W hW => by go_simp) ?_
  try simp only [Act.put, List.getElem_toArray, List.getElem_cons_succ, List.getElem_cons_zero, List.setIfInBounds_toArray, List.set_cons_succ, List.set_cons_zero]
  refine wpAnyC_one 1 (trivial) rfl (by kernel_rfl) (wanted_free rfl _) (fun KA hKA => ?_)
  go_simp
  refine (hE.out _).mono ?_
  rintro e wx ⟨rfl, rfl⟩
  refine hKA _ _ ?_
  clear hKA KA
  try simp only [Act.put, List.getElem_toArray, List.getElem_cons_succ, List.getElem_cons_zero, List.setIfInBounds_toArray, List.set_cons_succ, List.set_cons_zero]
  refine wpAnyC_one 5 (trivial) rfl (by kernel_rfl) (wanted_free rfl _) (fun KA hKA => ?_)
  go_simp
  refine (hA.out _ (by first | exact hbd.out | exact (hbd.out.trans ((below_drew _).mono hbd.out.size)) | exact Below.refl _ _)).mono ?_
  rintro e w2 ⟨rfl, hX2, hg2⟩
  replace hX2 := Kpt.mk hX2
  replace hg2 := Kpt.mk hg2
  refine hKA _ _ ?_
  clear hKA KA
  try simp only [Act.put, List.getElem_toArray, List.getElem_cons_succ, List.getElem_cons_zero, List.setIfInBounds_toArray, List.set_cons_succ, List.set_cons_zero]
  refine wpAnyC_take 6 (.string x) rfl (by kernel_rfl) (by kernel_rfl) (by kernel_rfl) (fun _ _ _ h => h) (wanted_free rfl _) (fun W hW => by go_simp) ?_
  try simp only [Act.put, List.getElem_toArray, List.getElem_cons_succ, List.getElem_cons_zero, List.setIfInBounds_toArray, List.set_cons_succ, List.set_cons_zero]
  refine wpAnyC_done trivial (by kernel_rfl) ?_
  go_wp2
  go_ret
  exact ⟨rfl, hX2.out, hg2.out⟩
set_option maxRecDepth 100000 in
set_option maxHeartbeats 4000000 in
theorem agree_else (L : Nat) (s : Lg) (K V : ByteArray) (w : World) (hX : Bx w L s.v)
    (n0 : (K.toList == [72, 101, 97, 100, 101, 114, 68, 105, 103, 101, 115, 116]) = false)
    (n1 : (K.toList == [68, 97, 116, 97, 68, 105, 103, 101, 115, 116]) = false)
    (n2 : (K.toList == [77, 97, 120, 82, 101, 99, 118, 68, 97, 116, 97, 83, 101, 103, 109, 101, 110, 116, 76, 101, 110, 103, 116, 104]) = false)
    (n3 : (K.toList == [77, 97, 120, 66, 117, 114, 115, 116, 76, 101, 110, 103, 116, 104]) = false)
    (n4 : (K.toList == [70, 105, 114, 115, 116, 66, 117, 114, 115, 116, 76, 101, 110, 103, 116, 104]) = false)
    (n5 : (K.toList == [73, 110, 105, 116, 105, 97, 108, 82, 50, 84]) = false)
    (n6 : (K.toList == [73, 109, 109, 101, 100, 105, 97, 116, 101, 68, 97, 116, 97]) = false)
    (n7 : (K.toList == [77, 97, 120, 79, 117, 116, 115, 116, 97, 110, 100, 105, 110, 103, 82, 50, 84]) = false)
    (n8 : (K.toList == [77, 97, 120, 67, 111, 110, 110, 101, 99, 116, 105, 111, 110, 115]) = false)
    (n9 : (K.toList == [69, 114, 114, 111, 114, 82, 101, 99, 111, 118, 101, 114, 121, 76, 101, 118, 101, 108]) = false)
    (n10 : (K.toList == [68, 97, 116, 97, 80, 68, 85, 73, 110, 79, 114, 100, 101, 114]) = false)
    (n11 : (K.toList == [68, 97, 116, 97, 83, 101, 113, 117, 101, 110, 99, 101, 73, 110, 79, 114, 100, 101, 114]) = false) :
    Calls Tryd.prog 32 #[.pointer (some ⟨L, 0, none⟩), .string K, .string V] w fun e w' => e = .returned (.string notU) ∧ Bx w' L s.v ∧ w.grownBy w' (some L) := by
  replace hX := Kpt.mk hX
  unfold notU
  go_enter Tryd.func32, Tryd.ntmps32
  go_wp2
  go_ret
  exact ⟨rfl, hX.out, grown_of_below (Below.refl _ _) _⟩
end Go.Proofs.YtplifodddfjhdaaDoor
