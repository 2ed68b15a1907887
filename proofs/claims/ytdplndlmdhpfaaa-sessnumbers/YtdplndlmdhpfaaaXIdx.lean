/-
  text: IndexByte, Index of one byte, Cut at one byte.
-/
import Derived.Test.YtdplndlmdhpfaaaXBox
import Derived.Lib.IndexBytes
import Derived.Lib.BytesEntry
import Derived.Deep.DeepMust
namespace Go.Proofs.Ytdplndlmdhpfaaa
open Go.RowKit
set_option linter.unusedVariables false
set_option linter.unusedSimpArgs false

/-- Where a byte stands first. -/
def idxL : List Int → Int → Option Nat
  | [], _ => none
  | z :: l, c => if z = c then some 0 else (idxL l c).map (· + 1)
def idxI (zs : List Int) (c : Int) : Int := match idxL zs c with
  | none => -1
  | some i => (i : Int)
theorem idxL_lt : ∀ (zs : List Int) (c : Int) (i : Nat), idxL zs c = some i → i < zs.length
  | [], _, _, h => by cases h
  | z :: l, c, i, h => by
    unfold idxL at h
    by_cases hz : z = c
    · rw [if_pos hz] at h; cases h; simp
    · rw [if_neg hz] at h
      cases hl : idxL l c with
      | none => rw [hl] at h; cases h
      | some j =>
        rw [hl] at h
        simp only [Option.map_some, Option.some.injEq] at h
        have := idxL_lt l c j hl
        simp only [List.length_cons]
        omega
theorem idxL_none : ∀ (zs : List Int) (c : Int), idxL zs c = none → ∀ z ∈ zs, z ≠ c
  | [], _, _, z, hz => by cases hz
  | y :: l, c, h, z, hz => by
    unfold idxL at h
    by_cases hy : y = c
    · rw [if_pos hy] at h; cases h
    · rw [if_neg hy] at h
      cases hl : idxL l c with
      | some j => rw [hl] at h; cases h
      | none =>
        rcases List.mem_cons.1 hz with rfl | hz
        · exact hy
        · exact idxL_none l c hl z hz
theorem u8_of {z : Int} (h : 0 ≤ z ∧ z ≤ 255) : (UInt8.ofNat z.toNat).toNat = z.toNat := by
  simp
  omega
theorem idxI_cons (z : Int) (l : List Int) (c : Int) : idxI (z :: l) c = if z = c then 0 else if idxI l c = -1 then -1 else idxI l c + 1 := by
  unfold idxI
  rw [idxL]
  by_cases hz : z = c
  · rw [if_pos hz, if_pos hz]; rfl
  · rw [if_neg hz, if_neg hz]
    cases hl : idxL l c with
    | none => simp
    | some j =>
      simp only [Option.map_some]
      rw [if_neg (by omega)]
      omega
theorem idx_lib : ∀ (zs : List Int) (c : Int), (∀ z ∈ zs, 0 ≤ z ∧ z ≤ 255) → 0 ≤ c → c ≤ 255 → Lib.indexByte (Lib.bytesOf zs) c.toNat.toUInt8 = idxI zs c
  | [], c, _, _, _ => rfl
  | z :: l, c, hb, h0, h1 => by
    have ih := idx_lib l c (fun y hy => hb y (List.mem_cons_of_mem _ hy)) h0 h1
    have hz := hb z (by simp)
    have e : Lib.bytesOf (z :: l) = UInt8.ofNat z.toNat :: Lib.bytesOf l := rfl
    rw [e, Lib.indexByte, ih]
    have hc : c.toNat.toUInt8 = UInt8.ofNat c.toNat := rfl
    rw [idxI_cons]
    by_cases hzc : z = c
    · subst hzc
      rw [if_pos (by simp [hc]), if_pos rfl]
    · have hne : ¬ (UInt8.ofNat z.toNat == c.toNat.toUInt8) = true := by
        intro hq
        have hq' : UInt8.ofNat z.toNat = c.toNat.toUInt8 := by simpa using hq
        have := congrArg UInt8.toNat hq'
        rw [hc, u8_of hz, u8_of ⟨h0, h1⟩] at this
        omega
      rw [if_neg hne, if_neg hzc]
      simp
theorem str_bytes (zs : List Int) : (strOfNums zs).data.toList = Lib.bytesOf zs := by
  have := Lib.strOfNums_toList zs
  rw [ByteArray.toList_eq] at this
  exact this

set_option maxRecDepth 100000 in
theorem ibs_any (zs : List Int) (c : Int) (w : World) (hb : Bytes zs) (h0 : 0 ≤ c) (h1 : c ≤ 255) :
    Calls Try.prog 103 #[.string (strOfNums zs), .int .u8 c] w fun e w' => e = .returned (.int .i64 (idxI zs c)) ∧ w' = w := by
  have hi := idx_lib zs c hb.mem h0 h1
  rw [← str_bytes] at hi
  obtain ⟨s, hs⟩ : ∃ s, s = strOfNums zs := ⟨_, rfl⟩
  rw [← hs] at hi ⊢
  clear hs
  go_enter Try.func103, Try.ntmps103
  go_wp2
  rw [run_callFunc_extern Try.func106 (by kernel_rfl) (by kernel_rfl) (by kernel_rfl) (e := Extern.BytealgIndexByte.indexByte) (by kernel_rfl), Lib.run_indexByteString, hi]
  simp only [Result.andThen]
  rw [Oper.upon_value]
  go_wp2
  go_ret
  exact ⟨rfl, rfl⟩

set_option maxRecDepth 100000 in
theorem ibb_any (b off n c : Nat) (zs : List Int) (x : Int) (w : World) (hr : RdAt w (.slice (some ⟨b, off, none⟩) n c) zs) (hb : Bytes zs) (h0 : 0 ≤ x) (h1 : x ≤ 255) :
    Calls Try.prog 91 #[.slice (some ⟨b, off, none⟩) n c, .int .u8 x] w fun e w' => e = .returned (.int .i64 (idxI zs x)) ∧ w' = w := by
  have hi := idx_lib zs x hb.mem h0 h1
  obtain ⟨hl, hc⟩ := rd_cells hr
  go_enter Try.func91, Try.ntmps91
  go_wp2
  rw [run_callFunc_extern Try.func101 (by kernel_rfl) (by kernel_rfl) (by kernel_rfl) (e := Extern.BytealgIndexByte.indexByte) (by kernel_rfl), Lib.run_indexByteSlice w b off n c zs hl hc x, hi]
  simp only [Result.andThen]
  rw [Oper.upon_value]
  go_wp2
  go_ret
  exact ⟨rfl, rfl⟩

set_option maxRecDepth 100000 in
set_option maxHeartbeats 1000000 in
theorem bindex_any (b off n c g : Nat) (zs : List Int) (w : World) (hr : RdAt w (.slice (some ⟨b, off, none⟩) n c) zs) (hb : Bytes zs) (hg : w.cell? ⟨g, 0, none⟩ = some (.int .u8 0)) :
    Calls Try.prog 85 #[.slice (some ⟨b, off, none⟩) n c, .slice (some ⟨g, 0, none⟩) 1 1] w fun e w' => e = .returned (.int .i64 (idxI zs 0)) ∧ w' = w := by
  have h := ibb_any b off n c zs 0 w hr hb (by decide) (by decide)
  obtain ⟨x, hx⟩ : ∃ x, x = idxI zs 0 := ⟨_, rfl⟩
  rw [← hx] at h ⊢
  replace h := Kpt.mk h
  clear hx hr hb
  go_enter Try.func85, Try.ntmps85
  go_wp2_with (go_at_call 91; go_must (refine h.out.mono ?_; rintro e w ⟨rfl, rfl⟩))
  go_ret
  exact ⟨rfl, rfl⟩

set_option maxRecDepth 100000 in
set_option maxHeartbeats 1000000 in
theorem sindex_any (zs : List Int) (w : World) (hb : Bytes zs) (hl : zs.length ≤ 100000) :
    Calls Try.prog 96 #[.string (strOfNums zs), .string ⟨#[61]⟩] w fun e w' => e = .returned (.int .i64 (idxI zs 61)) ∧ w' = w := by
  have h := ibs_any zs 61 w hb (by decide) (by decide)
  by_cases h1 : zs = [61]
  · subst h1
    have e1 : idxI [61] 61 = 0 := rfl
    have e2 : strOfNums [61] = ⟨#[61]⟩ := rfl
    rw [e1, e2]
    clear h
    go_enter Try.func96, Try.ntmps96
    go_wp2
    go_ret
    exact ⟨rfl, rfl⟩
  · have hne : ¬ strOfNums zs = ⟨#[61]⟩ := fun e => h1 (str_inj hb (Bytes.cons (by decide) Bytes.nil) (e.trans rfl))
    obtain ⟨x, hx⟩ : ∃ x, x = idxI zs 61 := ⟨_, rfl⟩
    obtain ⟨s, hs⟩ : ∃ s, s = strOfNums zs := ⟨_, rfl⟩
    rw [← hs, ← hx] at h
    rw [← hs] at hne
    rw [← hs, ← hx]
    have hne2 : (([61] : List UInt8) == s.toList) = false := beq_eq_false_iff_ne.2 fun e => hne (by
      rw [ByteArray.toList_eq] at e
      obtain ⟨d⟩ := s
      congr
      exact Array.toList_inj.1 e.symm)
    replace h := Kpt.mk h
    clear hx hs hb h1
    go_enter Try.func96, Try.ntmps96
    go_wp2_with (go_at_call 103; go_must (refine h.out.mono ?_; rintro e w ⟨rfl, rfl⟩))
    go_ret
    exact ⟨rfl, rfl⟩

/-- What lies ahead of a byte and behind it. -/
def cutA (zs : List Int) (c : Int) : List Int := match idxL zs c with
  | none => zs
  | some i => zs.take i
def cutB (zs : List Int) (c : Int) : List Int := match idxL zs c with
  | none => []
  | some i => zs.drop (i + 1)
def cutF (zs : List Int) (c : Int) : Bool := (idxL zs c).isSome

set_option maxRecDepth 100000 in
set_option maxHeartbeats 1000000 in
theorem slcut_no (zs : List Int) (w : World) (hb : Bytes zs) (hl : zs.length ≤ 100000) (hi : idxL zs 61 = none) :
    Calls Try.prog 86 #[.string (strOfNums zs), .string ⟨#[61]⟩] w fun e w' => e = .returned (.tuple #[.string (strOfNums zs), .string ⟨#[]⟩, .bool false]) ∧ Sm w w' := by
  have h := sindex_any zs w hb hl
  rw [show idxI zs 61 = -1 by unfold idxI; rw [hi]] at h
  obtain ⟨s, hs⟩ : ∃ s, s = strOfNums zs := ⟨_, rfl⟩
  rw [← hs] at h ⊢
  replace h := Kpt.mk h
  clear hs hi hb
  go_enter Try.func86, Try.ntmps86
  go_wp2_with (go_at_call 96; go_must (refine h.out.mono ?_; rintro e w ⟨rfl, rfl⟩))
  go_ret3
  exact ⟨rfl, ⟨rfl, ⟨rfl, rfl, rfl, Nat.le_refl _, fun _ _ => rfl⟩⟩⟩

theorem str_extract (zs : List Int) (i j : Nat) : (strOfNums zs).extract i j = strOfNums ((zs.take j).drop i) := by
  apply ByteArray.ext
  apply Array.ext'
  simp [ByteArray.data_extract, strOfNums_data, List.map_take, List.map_drop, List.extract, List.take_drop]
  by_cases h : i ≤ j
  · rw [show i + (j - i) = j by omega]
  · rw [List.drop_of_length_le (by simp; omega), List.drop_of_length_le (by simp; omega)]
theorem str_size (zs : List Int) : (strOfNums zs).size = zs.length := by
  show (strOfNums zs).data.size = zs.length
  rw [← Array.length_toList, strOfNums_data, List.length_map]

set_option maxRecDepth 100000 in
set_option maxHeartbeats 1000000 in
theorem slcut_yes (zs : List Int) (w : World) (hb : Bytes zs) (hl : zs.length ≤ 100000) (i : Nat) (hi : idxL zs 61 = some i) :
    Calls Try.prog 86 #[.string (strOfNums zs), .string ⟨#[61]⟩] w fun e w' => e = .returned (.tuple #[.string (strOfNums (zs.take i)), .string (strOfNums (zs.drop (i + 1))), .bool true]) ∧ Sm w w' := by
  have h := sindex_any zs w hb hl
  rw [show idxI zs 61 = (i : Int) by unfold idxI; rw [hi]] at h
  have hlt := idxL_lt zs 61 i hi
  have e1 : (strOfNums zs).extract 0 i = strOfNums (zs.take i) := by rw [str_extract, List.drop_zero]
  have e2 : (strOfNums zs).extract (i + 1) zs.length = strOfNums (zs.drop (i + 1)) := by rw [str_extract, List.take_length]
  have hsz := str_size zs
  obtain ⟨s, hs⟩ : ∃ s, s = strOfNums zs := ⟨_, rfl⟩
  obtain ⟨s1, hs1⟩ : ∃ s, s = strOfNums (zs.take i) := ⟨_, rfl⟩
  obtain ⟨s2, hs2⟩ : ∃ s, s = strOfNums (zs.drop (i + 1)) := ⟨_, rfl⟩
  obtain ⟨n, hn⟩ : ∃ n, n = zs.length := ⟨_, rfl⟩
  rw [← hs] at h e1 e2 hsz
  rw [← hs1] at e1
  rw [← hs2, ← hn] at e2
  rw [← hs, ← hs1, ← hs2]
  rw [← hn] at hsz hlt hl
  replace h := Kpt.mk h
  have hin : (i : Int) < n := by omega
  clear hs hs1 hs2 hn hi hb
  go_enter Try.func86, Try.ntmps86
  go_wp2_with (go_at_call 96; go_must (refine h.out.mono ?_; rintro e w ⟨rfl, rfl⟩))
  go_region
  go_wp2
  go_ret3
  exact ⟨rfl, ⟨rfl, ⟨rfl, rfl, rfl, Nat.le_refl _, fun _ _ => rfl⟩⟩⟩
end Go.Proofs.Ytdplndlmdhpfaaa
