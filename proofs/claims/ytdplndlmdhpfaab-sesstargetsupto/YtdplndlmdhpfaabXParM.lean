/-
  text: Parse, in one text.
-/
import Derived.Test.YtdplndlmdhpfaabXBox
import Derived.Lib.IndexBytes
import Derived.Lib.BytesEntry
import Derived.Deep.DeepMust
namespace Go.Proofs.Ytdplndlmdhpfaab
open Go.RowKit
set_option linter.unusedVariables false
set_option linter.unusedSimpArgs false

/-- Where a byte stands first. -/
def idxL : List Int → Int → Option Nat
  | [], _ => none
  | z :: l, c => if z = c then some 0 else (idxL l c).map (· + 1)
def idxI (zs : List Int) (c : Int) : Int := match idxL zs c with
  | none => -1
  | some i => (i : Int)
theorem idxL_lt : ∀ (zs : List Int) (c : Int) (i : Nat), idxL zs c = some i → i < zs.length
  | [], _, _, h => by cases h
  | z :: l, c, i, h => by
    unfold idxL at h
    by_cases hz : z = c
    · rw [if_pos hz] at h; cases h; simp
    · rw [if_neg hz] at h
      cases hl : idxL l c with
      | none => rw [hl] at h; cases h
      | some j =>
        rw [hl] at h
        simp only [Option.map_some, Option.some.injEq] at h
        have := idxL_lt l c j hl
        simp only [List.length_cons]
        omega
theorem idxL_none : ∀ (zs : List Int) (c : Int), idxL zs c = none → ∀ z ∈ zs, z ≠ c
  | [], _, _, z, hz => by cases hz
  | y :: l, c, h, z, hz => by
    unfold idxL at h
    by_cases hy : y = c
    · rw [if_pos hy] at h; cases h
    · rw [if_neg hy] at h
      cases hl : idxL l c with
      | some j => rw [hl] at h; cases h
      | none =>
        rcases List.mem_cons.1 hz with rfl | hz
        · exact hy
        · exact idxL_none l c hl z hz
theorem u8_of {z : Int} (h : 0 ≤ z ∧ z ≤ 255) : (UInt8.ofNat z.toNat).toNat = z.toNat := by
  simp
  omega
theorem idxI_cons (z : Int) (l : List Int) (c : Int) : idxI (z :: l) c = if z = c then 0 else if idxI l c = -1 then -1 else idxI l c + 1 := by
  unfold idxI
  rw [idxL]
  by_cases hz : z = c
  · rw [if_pos hz, if_pos hz]; rfl
  · rw [if_neg hz, if_neg hz]
    cases hl : idxL l c with
    | none => simp
    | some j =>
      simp only [Option.map_some]
      rw [if_neg (by omega)]
      omega
theorem idx_lib : ∀ (zs : List Int) (c : Int), (∀ z ∈ zs, 0 ≤ z ∧ z ≤ 255) → 0 ≤ c → c ≤ 255 → Lib.indexByte (Lib.bytesOf zs) c.toNat.toUInt8 = idxI zs c
  | [], c, _, _, _ => rfl
  | z :: l, c, hb, h0, h1 => by
    have ih := idx_lib l c (fun y hy => hb y (List.mem_cons_of_mem _ hy)) h0 h1
    have hz := hb z (by simp)
    have e : Lib.bytesOf (z :: l) = UInt8.ofNat z.toNat :: Lib.bytesOf l := rfl
    rw [e, Lib.indexByte, ih]
    have hc : c.toNat.toUInt8 = UInt8.ofNat c.toNat := rfl
    rw [idxI_cons]
    by_cases hzc : z = c
    · subst hzc
      rw [if_pos (by simp [hc]), if_pos rfl]
    · have hne : ¬ (UInt8.ofNat z.toNat == c.toNat.toUInt8) = true := by
        intro hq
        have hq' : UInt8.ofNat z.toNat = c.toNat.toUInt8 := by simpa using hq
        have := congrArg UInt8.toNat hq'
        rw [hc, u8_of hz, u8_of ⟨h0, h1⟩] at this
        omega
      rw [if_neg hne, if_neg hzc]
      simp
theorem str_bytes (zs : List Int) : (strOfNums zs).data.toList = Lib.bytesOf zs := by
  have := Lib.strOfNums_toList zs
  rw [ByteArray.toList_eq] at this
  exact this

set_option maxRecDepth 100000 in
theorem ibs_any (zs : List Int) (c : Int) (w : World) (hb : Bytes zs) (h0 : 0 ≤ c) (h1 : c ≤ 255) :
    Calls Try.prog 103 #[.string (strOfNums zs), .int .u8 c] w fun e w' => e = .returned (.int .i64 (idxI zs c)) ∧ w' = w := by
  have hi := idx_lib zs c hb.mem h0 h1
  rw [← str_bytes] at hi
  obtain ⟨s, hs⟩ : ∃ s, s = strOfNums zs := ⟨_, rfl⟩
  rw [← hs] at hi ⊢
  clear hs
  go_enter Try.func103, Try.ntmps103
  go_wp2
  rw [run_callFunc_extern Try.func106 (by kernel_rfl) (by kernel_rfl) (by kernel_rfl) (e := Extern.BytealgIndexByte.indexByte) (by kernel_rfl), Lib.run_indexByteString, hi]
  simp only [Result.andThen]
  rw [Oper.upon_value]
  go_wp2
  go_ret
  exact ⟨rfl, rfl⟩

set_option maxRecDepth 100000 in
theorem ibb_any (b off n c : Nat) (zs : List Int) (x : Int) (w : World) (hr : RdAt w (.slice (some ⟨b, off, none⟩) n c) zs) (hb : Bytes zs) (h0 : 0 ≤ x) (h1 : x ≤ 255) :
    Calls Try.prog 91 #[.slice (some ⟨b, off, none⟩) n c, .int .u8 x] w fun e w' => e = .returned (.int .i64 (idxI zs x)) ∧ w' = w := by
  have hi := idx_lib zs x hb.mem h0 h1
  obtain ⟨hl, hc⟩ := rd_cells hr
  go_enter Try.func91, Try.ntmps91
  go_wp2
  rw [run_callFunc_extern Try.func101 (by kernel_rfl) (by kernel_rfl) (by kernel_rfl) (e := Extern.BytealgIndexByte.indexByte) (by kernel_rfl), Lib.run_indexByteSlice w b off n c zs hl hc x, hi]
  simp only [Result.andThen]
  rw [Oper.upon_value]
  go_wp2
  go_ret
  exact ⟨rfl, rfl⟩

set_option maxRecDepth 100000 in
set_option maxHeartbeats 1000000 in
theorem bindex_any (b off n c g : Nat) (zs : List Int) (w : World) (hr : RdAt w (.slice (some ⟨b, off, none⟩) n c) zs) (hb : Bytes zs) (hg : w.cell? ⟨g, 0, none⟩ = some (.int .u8 0)) :
    Calls Try.prog 85 #[.slice (some ⟨b, off, none⟩) n c, .slice (some ⟨g, 0, none⟩) 1 1] w fun e w' => e = .returned (.int .i64 (idxI zs 0)) ∧ w' = w := by
  have h := ibb_any b off n c zs 0 w hr hb (by decide) (by decide)
  obtain ⟨x, hx⟩ : ∃ x, x = idxI zs 0 := ⟨_, rfl⟩
  rw [← hx] at h ⊢
  replace h := Kpt.mk h
  clear hx hr hb
  go_enter Try.func85, Try.ntmps85
  go_wp2_with (go_at_call 91; go_must (refine h.out.mono ?_; rintro e w ⟨rfl, rfl⟩))
  go_ret
  exact ⟨rfl, rfl⟩

set_option maxRecDepth 100000 in
set_option maxHeartbeats 1000000 in
theorem sindex_any (zs : List Int) (w : World) (hb : Bytes zs) (hl : zs.length ≤ 100000) :
    Calls Try.prog 96 #[.string (strOfNums zs), .string ⟨#[61]⟩] w fun e w' => e = .returned (.int .i64 (idxI zs 61)) ∧ w' = w := by
  have h := ibs_any zs 61 w hb (by decide) (by decide)
  by_cases h1 : zs = [61]
  · subst h1
    have e1 : idxI [61] 61 = 0 := rfl
    have e2 : strOfNums [61] = ⟨#[61]⟩ := rfl
    rw [e1, e2]
    clear h
    go_enter Try.func96, Try.ntmps96
    go_wp2
    go_ret
    exact ⟨rfl, rfl⟩
  · have hne : ¬ strOfNums zs = ⟨#[61]⟩ := fun e => h1 (str_inj hb (Bytes.cons (by decide) Bytes.nil) (e.trans rfl))
    obtain ⟨x, hx⟩ : ∃ x, x = idxI zs 61 := ⟨_, rfl⟩
    obtain ⟨s, hs⟩ : ∃ s, s = strOfNums zs := ⟨_, rfl⟩
    rw [← hs, ← hx] at h
    rw [← hs] at hne
    rw [← hs, ← hx]
    have hne2 : (([61] : List UInt8) == s.toList) = false := beq_eq_false_iff_ne.2 fun e => hne (by
      rw [ByteArray.toList_eq] at e
      obtain ⟨d⟩ := s
      congr
      exact Array.toList_inj.1 e.symm)
    replace h := Kpt.mk h
    clear hx hs hb h1
    go_enter Try.func96, Try.ntmps96
    go_wp2_with (go_at_call 103; go_must (refine h.out.mono ?_; rintro e w ⟨rfl, rfl⟩))
    go_ret
    exact ⟨rfl, rfl⟩

/-- What lies ahead of a byte and behind it. -/
def cutA (zs : List Int) (c : Int) : List Int := match idxL zs c with
  | none => zs
  | some i => zs.take i
def cutB (zs : List Int) (c : Int) : List Int := match idxL zs c with
  | none => []
  | some i => zs.drop (i + 1)
def cutF (zs : List Int) (c : Int) : Bool := (idxL zs c).isSome

set_option maxRecDepth 100000 in
set_option maxHeartbeats 1000000 in
theorem slcut_no (zs : List Int) (w : World) (hb : Bytes zs) (hl : zs.length ≤ 100000) (hi : idxL zs 61 = none) :
    Calls Try.prog 86 #[.string (strOfNums zs), .string ⟨#[61]⟩] w fun e w' => e = .returned (.tuple #[.string (strOfNums zs), .string ⟨#[]⟩, .bool false]) ∧ Sm w w' := by
  have h := sindex_any zs w hb hl
  rw [show idxI zs 61 = -1 by unfold idxI; rw [hi]] at h
  obtain ⟨s, hs⟩ : ∃ s, s = strOfNums zs := ⟨_, rfl⟩
  rw [← hs] at h ⊢
  replace h := Kpt.mk h
  clear hs hi hb
  go_enter Try.func86, Try.ntmps86
  go_wp2_with (go_at_call 96; go_must (refine h.out.mono ?_; rintro e w ⟨rfl, rfl⟩))
  go_ret3
  exact ⟨rfl, ⟨rfl, ⟨rfl, rfl, rfl, Nat.le_refl _, fun _ _ => rfl⟩⟩⟩

theorem str_extract (zs : List Int) (i j : Nat) : (strOfNums zs).extract i j = strOfNums ((zs.take j).drop i) := by
  apply ByteArray.ext
  apply Array.ext'
  simp [ByteArray.data_extract, strOfNums_data, List.map_take, List.map_drop, List.extract, List.take_drop]
  by_cases h : i ≤ j
  · rw [show i + (j - i) = j by omega]
  · rw [List.drop_of_length_le (by simp; omega), List.drop_of_length_le (by simp; omega)]
theorem str_size (zs : List Int) : (strOfNums zs).size = zs.length := by
  show (strOfNums zs).data.size = zs.length
  rw [← Array.length_toList, strOfNums_data, List.length_map]

set_option maxRecDepth 100000 in
set_option maxHeartbeats 1000000 in
theorem slcut_yes (zs : List Int) (w : World) (hb : Bytes zs) (hl : zs.length ≤ 100000) (i : Nat) (hi : idxL zs 61 = some i) :
    Calls Try.prog 86 #[.string (strOfNums zs), .string ⟨#[61]⟩] w fun e w' => e = .returned (.tuple #[.string (strOfNums (zs.take i)), .string (strOfNums (zs.drop (i + 1))), .bool true]) ∧ Sm w w' := by
  have h := sindex_any zs w hb hl
  rw [show idxI zs 61 = (i : Int) by unfold idxI; rw [hi]] at h
  have hlt := idxL_lt zs 61 i hi
  have e1 : (strOfNums zs).extract 0 i = strOfNums (zs.take i) := by rw [str_extract, List.drop_zero]
  have e2 : (strOfNums zs).extract (i + 1) zs.length = strOfNums (zs.drop (i + 1)) := by rw [str_extract, List.take_length]
  have hsz := str_size zs
  obtain ⟨s, hs⟩ : ∃ s, s = strOfNums zs := ⟨_, rfl⟩
  obtain ⟨s1, hs1⟩ : ∃ s, s = strOfNums (zs.take i) := ⟨_, rfl⟩
  obtain ⟨s2, hs2⟩ : ∃ s, s = strOfNums (zs.drop (i + 1)) := ⟨_, rfl⟩
  obtain ⟨n, hn⟩ : ∃ n, n = zs.length := ⟨_, rfl⟩
  rw [← hs] at h e1 e2 hsz
  rw [← hs1] at e1
  rw [← hs2, ← hn] at e2
  rw [← hs, ← hs1, ← hs2]
  rw [← hn] at hsz hlt hl
  replace h := Kpt.mk h
  have hin : (i : Int) < n := by omega
  clear hs hs1 hs2 hn hi hb
  go_enter Try.func86, Try.ntmps86
  go_wp2_with (go_at_call 96; go_must (refine h.out.mono ?_; rintro e w ⟨rfl, rfl⟩))
  go_region
  go_wp2
  go_ret3
  exact ⟨rfl, ⟨rfl, ⟨rfl, rfl, rfl, Nat.le_refl _, fun _ _ => rfl⟩⟩⟩
end Go.Proofs.Ytdplndlmdhpfaab
namespace Go.Proofs.Ytdplndlmdhpfaab
open Go.RowKit
set_option linter.unusedVariables false
set_option linter.unusedSimpArgs false

theorem scut_any (zs : List Int) (w : World) (hb : Bytes zs) (hl : zs.length ≤ 100000) :
    Calls Try.prog 74 #[.string (strOfNums zs), .string ⟨#[61]⟩] w fun e w' => e = .returned (.tuple #[.string (strOfNums (cutA zs 61)), .string (strOfNums (cutB zs 61)), .bool (cutF zs 61)]) ∧ Sm w w' := by
  have h : Calls Try.prog 86 #[.string (strOfNums zs), .string ⟨#[61]⟩] w fun e w' => e = .returned (.tuple #[.string (strOfNums (cutA zs 61)), .string (strOfNums (cutB zs 61)), .bool (cutF zs 61)]) ∧ Sm w w' := by
    cases hi : idxL zs 61 with
    | none =>
      have := slcut_no zs w hb hl hi
      unfold cutA cutB cutF
      rw [hi]
      exact this
    | some i =>
      have := slcut_yes zs w hb hl i hi
      unfold cutA cutB cutF
      rw [hi]
      exact this
  obtain ⟨s, hs⟩ : ∃ s, s = strOfNums zs := ⟨_, rfl⟩
  obtain ⟨s1, hs1⟩ : ∃ s, s = strOfNums (cutA zs 61) := ⟨_, rfl⟩
  obtain ⟨s2, hs2⟩ : ∃ s, s = strOfNums (cutB zs 61) := ⟨_, rfl⟩
  obtain ⟨f, hf⟩ : ∃ s, s = cutF zs 61 := ⟨_, rfl⟩
  rw [← hs, ← hs1, ← hs2, ← hf] at h
  rw [← hs, ← hs1, ← hs2, ← hf]
  replace h := Kpt.mk h
  clear hs hs1 hs2 hf hb
  go_enter Try.func74, Try.ntmps74
  go_wp2_with (go_at_call 86; go_must (refine h.out.mono ?_; rintro e w1 ⟨rfl, hs1⟩; replace hs1 := Kpt.mk hs1))
  go_ret3
  exact ⟨rfl, hs1.out⟩

set_option maxRecDepth 100000 in
set_option maxHeartbeats 1000000 in
theorem bcut_no (b off n c g : Nat) (zs : List Int) (w : World) (hr : RdAt w (.slice (some ⟨b, off, none⟩) n c) zs) (hb : Bytes zs) (hg : w.cell? ⟨g, 0, none⟩ = some (.int .u8 0)) (hi : idxL zs 0 = none) :
    Calls Try.prog 73 #[.slice (some ⟨b, off, none⟩) n c, .slice (some ⟨g, 0, none⟩) 1 1] w fun e w' => e = .returned (.tuple #[.slice (some ⟨b, off, none⟩) n c, .slice none 0 0, .bool false]) ∧ Sm w w' := by
  have h := bindex_any b off n c g zs w hr hb hg
  rw [show idxI zs 0 = -1 by unfold idxI; rw [hi]] at h
  replace h := Kpt.mk h
  clear hr hi hb hg
  go_enter Try.func73, Try.ntmps73
  go_wp2_with (go_at_call 85; go_must (refine h.out.mono ?_; rintro e w ⟨rfl, rfl⟩))
  go_ret3
  exact ⟨rfl, Sm.refl _⟩

set_option maxRecDepth 100000 in
set_option maxHeartbeats 1000000 in
theorem bcut_yes (b off n c g : Nat) (zs : List Int) (w : World) (hr : RdAt w (.slice (some ⟨b, off, none⟩) n c) zs) (hb : Bytes zs) (hn : n ≤ 100000) (hc : c ≤ maxLen) (hg : w.cell? ⟨g, 0, none⟩ = some (.int .u8 0)) (i : Nat) (hi : idxL zs 0 = some i) :
    Calls Try.prog 73 #[.slice (some ⟨b, off, none⟩) n c, .slice (some ⟨g, 0, none⟩) 1 1] w fun e w' => e = .returned (.tuple #[.slice (some ⟨b, off, none⟩) i c, .slice (some ⟨b, offK c off (i + 1), none⟩) (n - (i + 1)) (c - (i + 1)), .bool true]) ∧ Sm w w' := by
  have h := bindex_any b off n c g zs w hr hb hg
  rw [show idxI zs 0 = (i : Int) by unfold idxI; rw [hi]] at h
  have hcn : n ≤ c ∧ zs.length = n := by obtain ⟨a', c', hv, h1, h2, h3⟩ := hr; simp only [Value.slice.injEq] at hv; omega
  have hlt := idxL_lt zs 0 i hi
  have hin : i + 1 ≤ n := by omega
  have k1 : ¬ c < i := by omega
  have k2 : ¬ (c : Int) < (i : Int) := by omega
  have k3 : ¬ (n : Int) < (i : Int) + 1 := by omega
  have e1 : ((i + 1 : Nat) : Int) = (i : Int) + 1 := by omega
  unfold maxLen at hc
  replace h := Kpt.mk h
  clear hr hi hb hg hlt
  go_enter Try.func73, Try.ntmps73
  go_wp2_with (go_at_call 85; go_must (refine h.out.mono ?_; rintro e w ⟨rfl, rfl⟩))
  go_region
  go_wp2
  all_goals (go_ret3; exact ⟨(by simp only [offK]; split <;> simp_all), ⟨rfl, ⟨rfl, rfl, rfl, Nat.le_refl _, fun _ _ => rfl⟩⟩⟩)

/-- A character of a key. -/
def keyC (c : Int) : Bool := decide (65 ≤ c ∧ c ≤ 90) || decide (97 ≤ c ∧ c ≤ 122) || decide (48 ≤ c ∧ c ≤ 57) || decide (c = 46 ∨ c = 45 ∨ c = 43 ∨ c = 95)
def keyB (zs : List Int) : Bool := zs.all keyC && decide (1 ≤ zs.length ∧ zs.length ≤ 63)
def valB (zs : List Int) : Bool := zs.all (fun c => decide (32 ≤ c ∧ c ≤ 126)) && decide (zs.length ≤ 255)
end Go.Proofs.Ytdplndlmdhpfaab
namespace Go.Proofs.Ytdplndlmdhpfaab
open Go.RowKit
set_option linter.unusedVariables false
set_option linter.unusedSimpArgs false

theorem ret_bool {a b : Bool} (h : a = b) : Ending.returned (.bool a) = .returned (.bool b) := by rw [h]
/-- The bytes of a text, as numbers. -/
def nums (S : ByteArray) : List Int := S.data.toList.map (fun b => (b.toNat : Int))

theorem nums_len (S : ByteArray) : (nums S).length = S.size := by unfold nums; rw [List.length_map, Array.length_toList]; rfl
theorem nums_at (S : ByteArray) (k : Nat) (h : k < S.size) : (nums S).getD k 0 = (S[k].toNat : Int) := by
  rw [List.getD_eq_getElem?_getD, List.getElem?_eq_getElem (by rw [nums_len]; exact h)]
  simp [nums]
  rfl

theorem nums_byte (S : ByteArray) : Bytes (nums S) := by
  intro j
  rw [List.getD_eq_getElem?_getD]
  cases h : (nums S)[j]? with
  | none => simp
  | some x =>
    obtain ⟨b, -, rfl⟩ := List.mem_map.1 (List.mem_of_getElem? h)
    have := b.toNat_lt
    simp only [Option.getD_some]
    omega
theorem nums_str (zs : List Int) (hb : Bytes zs) : nums (strOfNums zs) = zs := by
  unfold nums
  rw [strOfNums_data, List.map_map]
  refine List.ext_getElem (by simp) (fun i h1 h2 => ?_)
  have := hb i
  rw [List.getD_eq_getElem?_getD, List.getElem?_eq_getElem h2] at this
  simp only [Option.getD_some] at this
  simp
  omega
theorem all_no (l : List Int) (f : Int → Bool) (k : Nat) (hk : k < l.length) (h : f (l.getD k 0) = false) : l.all f = false := by
  rw [List.all_eq_false]
  refine ⟨l.getD k 0, ?_, by rw [h]; simp⟩
  rw [List.getD_eq_getElem?_getD, List.getElem?_eq_getElem hk]
  exact List.getElem_mem _
theorem all_yes (l : List Int) (f : Int → Bool) (h : ∀ j, j < l.length → f (l.getD j 0) = true) : l.all f = true := by
  rw [List.all_eq_true]
  intro x hx
  obtain ⟨j, hj, rfl⟩ := List.getElem_of_mem hx
  have := h j hj
  rw [List.getD_eq_getElem?_getD, List.getElem?_eq_getElem hj] at this
  exact this

theorem sib_any (zs : List Int) (c : Int) (w : World) (hb : Bytes zs) (h0 : 0 ≤ c) (h1 : c ≤ 255) :
    Calls Try.prog 97 #[.string (strOfNums zs), .int .u8 c] w fun e w' => e = .returned (.int .i64 (idxI zs c)) ∧ w' = w := by
  have h := Kpt.mk (ibs_any zs c w hb h0 h1)
  go_enter Try.func97, Try.ntmps97
  go_wp2_with (go_at_call 103; go_must (refine h.out.mono ?_; rintro e w ⟨rfl, rfl⟩))
  go_ret
  exact ⟨rfl, rfl⟩
theorem sib4 (c : Int) (w : World) (h0 : 0 ≤ c) (h1 : c ≤ 255) :
    Calls Try.prog 97 #[.string ⟨#[46, 45, 43, 95]⟩, .int .u8 c] w fun e w' => e = .returned (.int .i64 (idxI [46, 45, 43, 95] c)) ∧ w' = w :=
  sib_any [46, 45, 43, 95] c w (Bytes.cons (by decide) (Bytes.cons (by decide) (Bytes.cons (by decide) (Bytes.cons (by decide) Bytes.nil)))) h0 h1
theorem idx4 (c : Int) : decide (0 ≤ idxI [46, 45, 43, 95] c) = decide (c = 46 ∨ c = 45 ∨ c = 43 ∨ c = 95) := by
  unfold idxI idxL idxL idxL idxL idxL
  by_cases h1 : (46 : Int) = c
  · subst h1; rfl
  · rw [if_neg h1]
    by_cases h2 : (45 : Int) = c
    · subst h2; rfl
    · rw [if_neg h2]
      by_cases h3 : (43 : Int) = c
      · subst h3; rfl
      · rw [if_neg h3]
        by_cases h4 : (95 : Int) = c
        · subst h4; rfl
        · rw [if_neg h4]
          simp
          omega

set_option maxHeartbeats 1000000 in
theorem keyc_any (c : Int) (w : World) (h0 : 0 ≤ c) (h1 : c ≤ 255) :
    Calls Try.prog 87 #[.int .u8 c] w fun e w' => e = .returned (.bool (keyC c)) ∧ w' = w := by
  have h := Kpt.mk (sib4 c w h0 h1)
  have hx := idx4 c
  obtain ⟨x, hxe⟩ : ∃ x, x = idxI [46, 45, 43, 95] c := ⟨_, rfl⟩
  rw [← hxe] at h hx
  clear hxe
  have hs : (c < 48) ∨ (48 ≤ c ∧ c ≤ 57) ∨ (58 ≤ c ∧ c ≤ 64) ∨ (65 ≤ c ∧ c ≤ 90) ∨ (91 ≤ c ∧ c ≤ 96) ∨ (97 ≤ c ∧ c ≤ 122) ∨ (123 ≤ c) := by omega
  rcases hs with hs | hs | hs | hs | hs | hs | hs
  · have k0 : ¬ 65 ≤ c := by omega
    have k1 : ¬ 97 ≤ c := by omega
    have k2 : ¬ 48 ≤ c := by omega
    have hk : keyC c = decide (0 ≤ x) := by simp only [keyC]; rw [decide_eq_false (by omega), decide_eq_false (by omega), decide_eq_false (by omega), ← hx]; simp
    rw [hk]
    clear hk hx hs
    go_enter Try.func87, Try.ntmps87
    go_wp2_with (go_at_call 97; go_must (refine h.out.mono ?_; rintro e w ⟨rfl, rfl⟩))
    go_ret
    exact ⟨rfl, rfl⟩
  · have k0 : ¬ 65 ≤ c := by omega
    have k1 : ¬ 97 ≤ c := by omega
    have k2 : 48 ≤ c := by omega
    have k3 : c ≤ 57 := by omega
    have hk : keyC c = true := by simp [keyC]; omega
    rw [hk]
    clear hk hx hs
    go_enter Try.func87, Try.ntmps87
    go_wp2
    go_ret
    exact ⟨rfl, rfl⟩
  · have k0 : ¬ 65 ≤ c := by omega
    have k1 : ¬ 97 ≤ c := by omega
    have k2 : 48 ≤ c := by omega
    have k3 : ¬ c ≤ 57 := by omega
    have hk : keyC c = decide (0 ≤ x) := by simp only [keyC]; rw [decide_eq_false (by omega), decide_eq_false (by omega), decide_eq_false (by omega), ← hx]; simp
    rw [hk]
    clear hk hx hs
    go_enter Try.func87, Try.ntmps87
    go_wp2_with (go_at_call 97; go_must (refine h.out.mono ?_; rintro e w ⟨rfl, rfl⟩))
    go_ret
    exact ⟨rfl, rfl⟩
  · have k0 : 65 ≤ c := by omega
    have k1 : c ≤ 90 := by omega
    have hk : keyC c = true := by simp [keyC]; omega
    rw [hk]
    clear hk hx hs
    go_enter Try.func87, Try.ntmps87
    go_wp2
    go_ret
    exact ⟨rfl, rfl⟩
  · have k0 : 65 ≤ c := by omega
    have k1 : ¬ c ≤ 90 := by omega
    have k2 : ¬ 97 ≤ c := by omega
    have k3 : 48 ≤ c := by omega
    have k4 : ¬ c ≤ 57 := by omega
    have hk : keyC c = decide (0 ≤ x) := by simp only [keyC]; rw [decide_eq_false (by omega), decide_eq_false (by omega), decide_eq_false (by omega), ← hx]; simp
    rw [hk]
    clear hk hx hs
    go_enter Try.func87, Try.ntmps87
    go_wp2_with (go_at_call 97; go_must (refine h.out.mono ?_; rintro e w ⟨rfl, rfl⟩))
    go_ret
    exact ⟨rfl, rfl⟩
  · have k0 : 65 ≤ c := by omega
    have k1 : ¬ c ≤ 90 := by omega
    have k2 : 97 ≤ c := by omega
    have k3 : c ≤ 122 := by omega
    have hk : keyC c = true := by simp [keyC]; omega
    rw [hk]
    clear hk hx hs
    go_enter Try.func87, Try.ntmps87
    go_wp2
    go_ret
    exact ⟨rfl, rfl⟩
  · have k0 : 65 ≤ c := by omega
    have k1 : ¬ c ≤ 90 := by omega
    have k2 : 97 ≤ c := by omega
    have k3 : ¬ c ≤ 122 := by omega
    have k4 : 48 ≤ c := by omega
    have k5 : ¬ c ≤ 57 := by omega
    have hk : keyC c = decide (0 ≤ x) := by simp only [keyC]; rw [decide_eq_false (by omega), decide_eq_false (by omega), decide_eq_false (by omega), ← hx]; simp
    rw [hk]
    clear hk hx hs
    go_enter Try.func87, Try.ntmps87
    go_wp2_with (go_at_call 97; go_must (refine h.out.mono ?_; rintro e w ⟨rfl, rfl⟩))
    go_ret
    exact ⟨rfl, rfl⟩

set_option maxHeartbeats 1000000 in
theorem iskey_any (S : ByteArray) (w : World) (hS : S.size ≤ maxLen) :
    Calls Try.prog 75 #[.string S] w fun e w' => e = .returned (.bool (keyB (nums S))) ∧ w' = w := by
  unfold maxLen at hS
  have hnl := nums_len S
  go_enter Try.func75, Try.ntmps75
  go_wp2
  go_loop [6] (fun t => ∃ k : Nat, k ≤ S.size ∧ t = .int .i64 k ∧ Kpt (∀ j, j < k → keyC ((nums S).getD j 0) = true)) (fun t => S.size - (intOf t).toNat)
  case atStart => exact ⟨0, by omega, rfl, ⟨fun j hj => by omega⟩⟩
  case round =>
    obtain ⟨k, hk, rfl, hh⟩ := hrel
    by_cases hlt : k < S.size
    · have e1 : (k : Int) < S.size := by omega
      have hx := nums_at S k hlt
      have hbx := S[k].toNat_lt
      obtain ⟨x, hxx⟩ : ∃ x : Int, x = (S[k].toNat : Int) := ⟨_, rfl⟩
      rw [← hxx] at hx
      by_cases h1 : keyC x = true
      · have hnext : Kpt (∀ j, j < k + 1 → keyC ((nums S).getD j 0) = true) := ⟨fun j hj => by
          by_cases hjk : j < k
          · exact hh.out j hjk
          · obtain rfl : j = k := by omega
            rw [hx]; exact h1⟩
        replace hx := Kpt.mk hx
        have hc := Kpt.mk (keyc_any x w (by omega) (by omega))
        rw [h1, hxx] at hc
        clear h1 hxx hbx
        go_wp2_with (go_at_call 87; go_must (refine hc.out.mono ?_; rintro e w ⟨rfl, rfl⟩))
        go_round
        case rel => exact ⟨k + 1, by omega, by go_num, hnext⟩
        case measure => simp [intOf]; omega
      · have h1' : keyC x = false := by simpa using h1
        have hno : keyB (nums S) = false := by
          have := all_no (nums S) keyC k (by omega) (by rw [hx]; exact h1')
          unfold keyB
          rw [this]
          rfl
        replace hno := Kpt.mk hno
        replace hx := Kpt.mk hx
        clear h1
        have hc := Kpt.mk (keyc_any x w (by omega) (by omega))
        rw [h1', hxx] at hc
        clear h1' hxx hbx
        go_wp2_with (go_at_call 87; go_must (refine hc.out.mono ?_; rintro e w ⟨rfl, rfl⟩))
        go_ret
        exact ⟨ret_bool hno.out.symm, rfl⟩
    · have e1 : ¬ (k : Int) < S.size := by omega
      obtain rfl : k = S.size := by omega
      have hall : (nums S).all keyC = true := all_yes _ _ (fun j hj => hh.out j (by omega))
      have hp : keyB (nums S) = decide (1 ≤ S.size ∧ S.size ≤ 63) := by unfold keyB; rw [hall, hnl]; simp
      replace hp := Kpt.mk hp
      clear hall hnl
      by_cases hs1 : 1 ≤ S.size
      · have hs2 : (1 : Int) ≤ S.size := by omega
        go_wp2
        go_ret
        exact ⟨ret_bool (by rw [hp.out]; first | (simp [hs1]; done) | (simp [hs1]; omega) | (simp; omega)), rfl⟩
      · have hs2 : ¬ (1 : Int) ≤ S.size := by omega
        go_wp2
        go_ret
        exact ⟨ret_bool (by rw [hp.out]; first | (simp [hs1]; done) | (simp [hs1]; omega) | (simp; omega)), rfl⟩
def valC (c : Int) : Bool := decide (32 ≤ c ∧ c ≤ 126)
theorem valB_eq (zs : List Int) : valB zs = (zs.all valC && decide (zs.length ≤ 255)) := rfl

set_option maxHeartbeats 1000000 in
theorem isval_any (S : ByteArray) (w : World) (hS : S.size ≤ maxLen) :
    Calls Try.prog 76 #[.string S] w fun e w' => e = .returned (.bool (valB (nums S))) ∧ w' = w := by
  unfold maxLen at hS
  have hnl := nums_len S
  go_enter Try.func76, Try.ntmps76
  go_wp2
  go_loop [6] (fun t => ∃ k : Nat, k ≤ S.size ∧ t = .int .i64 k ∧ Kpt (∀ j, j < k → valC ((nums S).getD j 0) = true)) (fun t => S.size - (intOf t).toNat)
  case atStart => exact ⟨0, by omega, rfl, ⟨fun j hj => by omega⟩⟩
  case round =>
    obtain ⟨k, hk, rfl, hh⟩ := hrel
    by_cases hlt : k < S.size
    · have e1 : (k : Int) < S.size := by omega
      have hx := nums_at S k hlt
      have hbx := S[k].toNat_lt
      obtain ⟨x, hxx⟩ : ∃ x : Int, x = (S[k].toNat : Int) := ⟨_, rfl⟩
      rw [← hxx] at hx
      by_cases h1 : valC x = true
      · have hnext : Kpt (∀ j, j < k + 1 → valC ((nums S).getD j 0) = true) := ⟨fun j hj => by
          by_cases hjk : j < k
          · exact hh.out j hjk
          · obtain rfl : j = k := by omega
            rw [hx]; exact h1⟩
        replace hx := Kpt.mk hx
        have hx1 : 32 ≤ x ∧ x ≤ 126 := by simpa [valC] using h1
        have k1 : ¬ (S[k].toNat : Int) < 32 := by omega
        have k2 : ¬ (126 : Int) < (S[k].toNat : Int) := by omega
        clear h1 hxx hbx hx1
        go_wp2
        go_round
        case rel => exact ⟨k + 1, by omega, by go_num, hnext⟩
        case measure => simp [intOf]; omega
      · have h1' : valC x = false := by simpa using h1
        have hno : valB (nums S) = false := by
          have := all_no (nums S) valC k (by omega) (by rw [hx]; exact h1')
          rw [valB_eq, this]
          rfl
        replace hno := Kpt.mk hno
        replace hx := Kpt.mk hx
        clear h1
        have hx1 : ¬ (32 ≤ x ∧ x ≤ 126) := by simpa [valC] using h1'
        by_cases k1 : (S[k].toNat : Int) < 32
        · clear h1' hxx hbx hx1
          go_wp2
          go_ret
          exact ⟨ret_bool hno.out.symm, rfl⟩
        · have k2 : (126 : Int) < (S[k].toNat : Int) := by omega
          have k1' : (32 : Int) ≤ (S[k].toNat : Int) := by omega
          clear h1' hxx hbx hx1 k1
          go_wp2
          go_ret
          exact ⟨ret_bool hno.out.symm, rfl⟩
    · have e1 : ¬ (k : Int) < S.size := by omega
      obtain rfl : k = S.size := by omega
      have hall : (nums S).all valC = true := all_yes _ _ (fun j hj => hh.out j (by omega))
      have hp : valB (nums S) = decide (S.size ≤ 255) := by rw [valB_eq, hall, hnl]; simp
      replace hp := Kpt.mk hp
      clear hall hnl
      by_cases hs1 : 1 ≤ S.size
      · have hs2 : (1 : Int) ≤ S.size := by omega
        go_wp2
        go_ret
        exact ⟨ret_bool (by rw [hp.out]; first | rfl | (simp; done) | (simp; omega)), rfl⟩
      · have hs2 : ¬ (1 : Int) ≤ S.size := by omega
        go_wp2
        go_ret
        exact ⟨ret_bool (by rw [hp.out]; first | rfl | (simp; done) | (simp; omega)), rfl⟩
end Go.Proofs.Ytdplndlmdhpfaab
namespace Go.Proofs.Ytdplndlmdhpfaab
open Go.RowKit
set_option linter.unusedVariables false
set_option linter.unusedSimpArgs false

/-- A pair's cells. -/
def pcs (p : ByteArray × ByteArray) : List Value := [.string p.1, .string p.2]
/-- Pairs that can be read. -/
def PsAt (w : World) (v : Value) (ps : List (ByteArray × ByteArray)) : Prop :=
  ∃ a c, v = .slice a ps.length c ∧ (a = none → ps.length = 0 ∧ c = 0) ∧ ps.length ≤ c ∧ (ps.length = 0 ∨ ∃ b off, a = some ⟨b, off, none⟩ ∧ b < w.heap.size ∧ ∀ j p, ps[j]? = some p → w.rangeAt b (off + j * 2) (pcs p))
theorem PsAt.bel {w w' : World} {v : Value} {ps : List (ByteArray × ByteArray)} (h : PsAt w v ps) (hb : Below w.heap.size w w') : PsAt w' v ps := by
  obtain ⟨a, c, rfl, h1, h2, h3⟩ := h
  refine ⟨a, c, rfl, h1, h2, ?_⟩
  rcases h3 with h3 | ⟨b, off, rfl, hlt, hc⟩
  · exact .inl h3
  · refine .inr ⟨b, off, rfl, Nat.lt_of_lt_of_le hlt hb.size, fun j p hp i u hu => ?_⟩
    rw [hb.cell (p := ⟨b, off + j * 2 + i, none⟩) hlt]
    exact hc j p hp i u hu
theorem ps_nil (w : World) : PsAt w (.slice none 0 0) [] := ⟨none, 0, rfl, fun _ => ⟨rfl, rfl⟩, Nat.le_refl _, .inl rfl⟩
theorem PsAt.take {w : World} {a : Option Addr} {n c : Nat} {ps : List (ByteArray × ByteArray)} (h : PsAt w (.slice a n c) ps) (k : Nat) (hk : k ≤ n) : PsAt w (.slice a k c) (ps.take k) := by
  obtain ⟨a', c', hv, h1, h2, h3⟩ := h
  simp only [Value.slice.injEq] at hv
  obtain ⟨rfl, rfl, rfl⟩ := hv
  have hl : (ps.take k).length = k := by rw [List.length_take]; omega
  refine ⟨a, c, by rw [hl], (fun h => ⟨by have := (h1 h).1; omega, (h1 h).2⟩), by omega, ?_⟩
  rcases h3 with h3 | ⟨b, off, rfl, hlt, hc⟩
  · exact .inl (by omega)
  · refine .inr ⟨b, off, rfl, hlt, fun j p hp => hc j p ?_⟩
    rw [List.getElem?_take] at hp
    by_cases hj : j < k
    · rw [if_pos hj] at hp; exact hp
    · rw [if_neg hj] at hp; cases hp
theorem sizePr : (Try.prog.info? 34).map (·.size) = some 2 := by kernel_rfl
theorem zeroPr : (Try.prog.info? 34).map (fun i => i.zero) = some (some (.agg #[.string ⟨#[]⟩, .string ⟨#[]⟩])) := by kernel_rfl
theorem bx_two {w : World} {b : Nat} {x y : Value} (h : Bx w b #[x, y]) : w.cell? ⟨b, 0, none⟩ = some x ∧ w.cell? ⟨b, 1, none⟩ = some y := ⟨h.cells 0 (by simp), h.cells 1 (by simp)⟩
theorem toList_ne {a b : ByteArray} (h : ¬ a = b) : (a.toList == b.toList) = false := beq_eq_false_iff_ne.2 fun e => h (by
  rw [ByteArray.toList_eq, ByteArray.toList_eq] at e
  obtain ⟨d1⟩ := a
  obtain ⟨d2⟩ := b
  congr
  exact Array.toList_inj.1 e)

theorem pr_one (K V : ByteArray) : (#[Value.string K, Value.string V].all (·.oneCell')) = true := by simp [Value.oneCell']

/-- The value of the first pair with a key. -/
def findP : List (ByteArray × ByteArray) → ByteArray → Option ByteArray
  | [], _ => none
  | p :: l, x => if p.1 = x then some p.2 else findP l x
theorem findP_skip (x : ByteArray) : ∀ (ps : List (ByteArray × ByteArray)) (k : Nat), (∀ j p, j < k → ps[j]? = some p → ¬ p.1 = x) → findP ps x = findP (ps.drop k) x
  | ps, 0, _ => by simp
  | [], k + 1, _ => by simp
  | p :: l, k + 1, h => by
    rw [findP, if_neg (h 0 p (by omega) rfl), List.drop_succ_cons]
    exact findP_skip x l k (fun j q hj hq => h (j + 1) q (by omega) hq)
theorem findP_hit (x : ByteArray) (ps : List (ByteArray × ByteArray)) (k : Nat) (p : ByteArray × ByteArray) (hk : ps[k]? = some p) (hx : p.1 = x) (h : ∀ j q, j < k → ps[j]? = some q → ¬ q.1 = x) : findP ps x = some p.2 := by
  rw [findP_skip x ps k h]
  obtain ⟨hlt, rfl⟩ := List.getElem?_eq_some_iff.1 hk
  rw [List.drop_eq_getElem_cons hlt, findP, if_pos hx]
theorem findP_none (x : ByteArray) (ps : List (ByteArray × ByteArray)) (h : ∀ j q, j < ps.length → ps[j]? = some q → ¬ q.1 = x) : findP ps x = none := by
  rw [findP_skip x ps ps.length h, List.drop_length]
  rfl
def findV (o : Option ByteArray) : ByteArray := o.getD ⟨#[]⟩

set_option maxRecDepth 100000 in
set_option maxHeartbeats 1000000 in
theorem find_any (a : Option Addr) (n c : Nat) (ps : List (ByteArray × ByteArray)) (x : ByteArray) (w : World) (hr : PsAt w (.slice a n c) ps) (hn : n ≤ maxLen) :
    Calls Try.prog 88 #[.slice a n c, .string x] w fun e w' => e = .returned (.tuple #[.string (findV (findP ps x)), .bool (findP ps x).isSome]) ∧ Below w.heap.size w w' := by
  have hl : ps.length = n := by obtain ⟨a', c', hv, _⟩ := hr; simp only [Value.slice.injEq] at hv; exact hv.2.1.symm
  have hrB : Kpt (∀ W, Below w.heap.size w W → PsAt W (.slice a n c) ps) := ⟨fun W h => hr.bel h⟩
  unfold maxLen at hn
  have hl' := Kpt.mk hl
  clear hr hl
  go_enter Try.func88, Try.ntmps88
  go_wp2
  go_loopw [10] (fun t wr => ∃ k : Nat, k ≤ n ∧ t = .int .i64 k ∧ Kpt (Below w.heap.size w wr) ∧ Kpt (∀ j p, j < k → ps[j]? = some p → ¬ p.1 = x)) (fun t _ => n - (intOf t).toNat)
  case atStart => exact ⟨0, by omega, rfl, ⟨Below.refl _ _⟩, ⟨fun j p hj => by omega⟩⟩
  case round =>
    obtain ⟨k, hk, rfl, hbk, hno⟩ := hrel
    by_cases hlt : k < n
    · have hltI : (k : Int) < n := by omega
      obtain ⟨p, hp⟩ : ∃ p, ps[k]? = some p := ⟨_, List.getElem?_eq_getElem (by rw [hl'.out]; exact hlt)⟩
      obtain ⟨b, off, rfl, hcell⟩ : ∃ b off, a = some ⟨b, off, none⟩ ∧ Kpt (wr.rangeAt b (off + k * 2) (pcs p)) := by
        obtain ⟨a', c', hv, h1, h2, h3⟩ := hrB.out wr hbk.out
        simp only [Value.slice.injEq] at hv
        obtain ⟨rfl, -, -⟩ := hv
        rcases h3 with h3 | ⟨b, off, rfl, -, hc⟩
        · have := hl'.out; omega
        · exact ⟨b, off, rfl, ⟨hc k p hp⟩⟩
      have hp' := Kpt.mk hp
      clear hp
      obtain ⟨K, V⟩ := p
      by_cases hKx : K = x
      · subst hKx
        have hf := Kpt.mk (findP_hit K ps k (K, V) hp'.out rfl hno.out)
        go_wp2_with (first
          | (refine (?_ : wpList _ _ _ (Oper.mk none (Op.store _ _ _) _ _ _ _ :: _) _ _); go_must (refine wpList_store_bx rfl 34 (.tmp 7) (.tmp 13) rfl B1 #[.string ⟨#[]⟩, .string ⟨#[]⟩] #[.string K, .string V] rfl rfl hX1.out rfl sizePr (pr_one K V) rfl ?_; intro w2 hX2 hg2; have hb2 : Kpt (Below w.heap.size w w2) := ⟨hb1.out.grown hg2 hb1.out.size (fun k h => by cases h; exact hB1.out)⟩; have hcc := bx_two hX2; clear hX2 hg2))
          | (refine wpList_var rfl 34 rfl #[.string ⟨#[]⟩, .string ⟨#[]⟩] zeroPr ?_; intro B1 w1 hB1 hX1 hbe1; have hb1 : Kpt (Below w.heap.size w w1) := ⟨hbk.out.trans (hbe1.mono hbk.out.size)⟩; replace hB1 : Kpt (w.heap.size ≤ B1) := ⟨Nat.le_trans hbk.out.size hB1⟩; replace hX1 := Kpt.mk hX1; clear hbe1)
          | (refine wpList_load_mid rfl 34 (.tmp 12) rfl b (off + k * 2) rfl [.string K, .string V] _ hcell.out Try.underlying34 rfl sizePr ?_))
        go_ret2
        exact ⟨by rw [hf.out]; rfl, hb2.out⟩
      · have hne := toList_ne hKx
        have hno2 : Kpt (∀ j p, j < k + 1 → ps[j]? = some p → ¬ p.1 = x) := ⟨fun j p hj hpj => by
          by_cases hjk : j < k
          · exact hno.out j p hjk hpj
          · obtain rfl : j = k := by omega
            rw [hp'.out] at hpj
            cases hpj
            exact hKx⟩
        clear hKx
        go_wp2_with (first
          | (refine (?_ : wpList _ _ _ (Oper.mk none (Op.store _ _ _) _ _ _ _ :: _) _ _); go_must (refine wpList_store_bx rfl 34 (.tmp 7) (.tmp 13) rfl B1 #[.string ⟨#[]⟩, .string ⟨#[]⟩] #[.string K, .string V] rfl rfl hX1.out rfl sizePr (pr_one K V) rfl ?_; intro w2 hX2 hg2; have hb2 : Kpt (Below w.heap.size w w2) := ⟨hb1.out.grown hg2 hb1.out.size (fun k h => by cases h; exact hB1.out)⟩; have hcc := bx_two hX2; clear hX2 hg2))
          | (refine wpList_var rfl 34 rfl #[.string ⟨#[]⟩, .string ⟨#[]⟩] zeroPr ?_; intro B1 w1 hB1 hX1 hbe1; have hb1 : Kpt (Below w.heap.size w w1) := ⟨hbk.out.trans (hbe1.mono hbk.out.size)⟩; replace hB1 : Kpt (w.heap.size ≤ B1) := ⟨Nat.le_trans hbk.out.size hB1⟩; replace hX1 := Kpt.mk hX1; clear hbe1)
          | (refine wpList_load_mid rfl 34 (.tmp 12) rfl b (off + k * 2) rfl [.string K, .string V] _ hcell.out Try.underlying34 rfl sizePr ?_))
        go_roundw
        case rel => exact ⟨k + 1, by omega, by go_num, hb2, hno2⟩
        case measure => simp [intOf]; omega
    · have hltI : ¬ (k : Int) < n := by omega
      have hf := Kpt.mk (findP_none x ps (fun j q hj => hno.out j q (by have := hl'.out; omega)))
      go_wp2
      go_ret2
      exact ⟨by rw [hf.out]; rfl, hbk.out⟩
end Go.Proofs.Ytdplndlmdhpfaab
namespace Go.Proofs.Ytdplndlmdhpfaab
open Go.RowKit
set_option linter.unusedVariables false
set_option linter.unusedSimpArgs false

/-- A key stands at k that stood ahead of it. -/
def twAt (ps : List (ByteArray × ByteArray)) (k : Nat) : Bool := match ps[k]? with
  | none => false
  | some p => (findP (ps.take k) p.1).isSome
def twP (ps : List (ByteArray × ByteArray)) : Bool := (List.range ps.length).any (twAt ps)
theorem twP_yes {ps : List (ByteArray × ByteArray)} {k : Nat} (hk : k < ps.length) (h : twAt ps k = true) : twP ps = true := by
  unfold twP
  rw [List.any_eq_true]
  exact ⟨k, List.mem_range.2 hk, h⟩
theorem twP_no {ps : List (ByteArray × ByteArray)} (h : ∀ j, j < ps.length → twAt ps j = false) : twP ps = false := by
  unfold twP
  rw [List.any_eq_false]
  intro j hj
  rw [h j (List.mem_range.1 hj)]
  simp
theorem ret_bool' {a b : Bool} (h : a = b) : Ending.returned (.bool a) = .returned (.bool b) := by rw [h]

set_option maxRecDepth 100000 in
set_option maxHeartbeats 2000000 in
theorem twice_any (a : Option Addr) (n c : Nat) (ps : List (ByteArray × ByteArray)) (w : World) (hr : PsAt w (.slice a n c) ps) (hn : n ≤ maxLen) (hc : c ≤ maxLen) :
    Calls Try.prog 77 #[.slice a n c] w fun e w' => e = .returned (.bool (twP ps)) ∧ Below w.heap.size w w' := by
  have hl : ps.length = n := by obtain ⟨a', c', hv, _⟩ := hr; simp only [Value.slice.injEq] at hv; exact hv.2.1.symm
  have hcn : n ≤ c := by obtain ⟨a', c', hv, h1, h2, h3⟩ := hr; simp only [Value.slice.injEq] at hv; omega
  have hrB : Kpt (∀ W, Below w.heap.size w W → PsAt W (.slice a n c) ps) := ⟨fun W h => hr.bel h⟩
  have hF : Kpt (∀ W k x, Below w.heap.size w W → k ≤ n → Calls Try.prog 88 #[.slice a k c, .string x] W fun e w' => e = .returned (.tuple #[.string (findV (findP (ps.take k) x)), .bool (findP (ps.take k) x).isSome]) ∧ Below W.heap.size W w') := ⟨fun W k x h hk => find_any a k c (ps.take k) x W ((hr.bel h).take k hk) (by omega)⟩
  unfold maxLen at hn hc
  have hl' := Kpt.mk hl
  clear hr hl
  go_enter Try.func77, Try.ntmps77
  go_wp2
  go_loopw [9] (fun t wr => ∃ k : Nat, k ≤ n ∧ t = .int .i64 k ∧ Kpt (Below w.heap.size w wr) ∧ Kpt (∀ j, j < k → twAt ps j = false)) (fun t _ => n - (intOf t).toNat)
  case atStart => exact ⟨0, by omega, rfl, ⟨Below.refl _ _⟩, ⟨fun j hj => by omega⟩⟩
  case round =>
    obtain ⟨k, hk, rfl, hbk, hno⟩ := hrel
    by_cases hlt : k < n
    · have hltI : (k : Int) < n := by omega
      obtain ⟨p, hp⟩ : ∃ p, ps[k]? = some p := ⟨_, List.getElem?_eq_getElem (by rw [hl'.out]; exact hlt)⟩
      obtain ⟨b, off, rfl, hcell⟩ : ∃ b off, a = some ⟨b, off, none⟩ ∧ Kpt (wr.rangeAt b (off + k * 2) (pcs p)) := by
        obtain ⟨a', c', hv, h1, h2, h3⟩ := hrB.out wr hbk.out
        simp only [Value.slice.injEq] at hv
        obtain ⟨rfl, -, -⟩ := hv
        rcases h3 with h3 | ⟨b, off, rfl, -, hc⟩
        · have := hl'.out; omega
        · exact ⟨b, off, rfl, ⟨hc k p hp⟩⟩
      have hp' := Kpt.mk hp
      clear hp
      obtain ⟨K, V⟩ := p
      have htw : Kpt (twAt ps k = (findP (ps.take k) K).isSome) := ⟨by unfold twAt; rw [hp'.out]⟩
      obtain ⟨fo, hfo⟩ : ∃ o, o = findP (ps.take k) K := ⟨_, rfl⟩
      have hFk := Kpt.mk (fun W hW => hF.out W k K hW (by omega))
      rw [← hfo] at hFk htw
      clear hfo
      have kc : ¬ c < k := by omega
      have kc2 : ¬ (c : Int) < (k : Int) := by omega
      go_wp2_with (first
        | (refine (?_ : wpList _ _ _ (Oper.mk none (Op.store _ _ _) _ _ _ _ :: _) _ _); go_must (refine wpList_store_bx rfl 34 (.tmp 4) (.tmp 13) rfl B1 #[.string ⟨#[]⟩, .string ⟨#[]⟩] #[.string K, .string V] rfl rfl hX1.out rfl sizePr (pr_one K V) rfl ?_; intro w2 hX2 hg2; have hb2 : Kpt (Below w.heap.size w w2) := ⟨hb1.out.grown hg2 hb1.out.size (fun k h => by cases h; exact hB1.out)⟩; replace hX2 := Kpt.mk hX2; clear hg2))
        | (refine wpList_var rfl 34 rfl #[.string ⟨#[]⟩, .string ⟨#[]⟩] zeroPr ?_; intro B1 w1 hB1 hX1 hbe1; have hb1 : Kpt (Below w.heap.size w w1) := ⟨hbk.out.trans (hbe1.mono hbk.out.size)⟩; replace hB1 : Kpt (w.heap.size ≤ B1) := ⟨Nat.le_trans hbk.out.size hB1⟩; replace hX1 := Kpt.mk hX1; clear hbe1)
        | (refine wpList_load_mid rfl 34 (.tmp 12) rfl b (off + k * 2) rfl [.string K, .string V] _ hcell.out Try.underlying34 rfl sizePr ?_))
      refine wp_region_any (by kernel_rfl) ?_
      refine wpAny_of_C (C := fun W => W.cell? ⟨B1, 0, none⟩ = some (.string K)) _ _ _ _ ?_
      refine wpAnyC_take 0 (.slice (some ⟨b, off, none⟩) n c) rfl (by kernel_rfl) (by kernel_rfl) (by kernel_rfl) (fun _ _ _ h => h) (wanted_free rfl _) (fun W hW => by go_simp) ?_
      try simp only [Act.put, List.getElem_toArray, List.getElem_cons_succ, List.getElem_cons_zero, List.setIfInBounds_toArray, List.set_cons_succ, List.set_cons_zero]
      refine wpAnyC_take 1 (.int .i64 k) rfl (by kernel_rfl) (by kernel_rfl) (by kernel_rfl) (fun _ _ _ h => h) (wanted_free rfl _) (fun W hW => by go_simp) ?_
      try simp only [Act.put, List.getElem_toArray, List.getElem_cons_succ, List.getElem_cons_zero, List.setIfInBounds_toArray, List.set_cons_succ, List.set_cons_zero]
      refine wpAnyC_take 2 (.slice (some ⟨b, off, none⟩) k c) rfl (by kernel_rfl) (by kernel_rfl) (by kernel_rfl) (fun _ _ _ h => h) (wanted_free rfl _) (fun W hW => by go_simp) ?_
      try simp only [Act.put, List.getElem_toArray, List.getElem_cons_succ, List.getElem_cons_zero, List.setIfInBounds_toArray, List.set_cons_succ, List.set_cons_zero]
      refine wpAnyC_take 3 (.pointer (some ⟨B1, 0, none⟩)) rfl (by kernel_rfl) (by kernel_rfl) (by kernel_rfl) (fun _ _ _ h => h) (wanted_free rfl _) (fun W hW => by go_simp) ?_
      try simp only [Act.put, List.getElem_toArray, List.getElem_cons_succ, List.getElem_cons_zero, List.setIfInBounds_toArray, List.set_cons_succ, List.set_cons_zero]
      refine wpAnyC_take 4 (.string K) rfl (by kernel_rfl) (by kernel_rfl) (by kernel_rfl) (fun _ _ _ h => h) (wanted_free rfl _) (fun W hW => by go_simp) ?_
      try simp only [Act.put, List.getElem_toArray, List.getElem_cons_succ, List.getElem_cons_zero, List.setIfInBounds_toArray, List.set_cons_succ, List.set_cons_zero]
      refine wpAnyC_one 5 ((bx_two hX2.out.drew).1) rfl (by kernel_rfl) (wanted_free rfl _) (fun KA hKA => ?_)
      go_simp
      refine (hFk.out _ hb2.out.drew).mono ?_
      rintro e w3 ⟨rfl, hbe3⟩
      replace hbe3 := below_undrew hbe3
      have hb3 : Kpt (Below w.heap.size w w3) := ⟨hb2.out.trans (hbe3.mono hb2.out.size)⟩
      have hc3 : Kpt (w3.cell? ⟨B1, 0, none⟩ = some (.string K)) := ⟨(bx_two (hX2.out.below hbe3 hX2.out.lt)).1⟩
      clear hbe3
      refine hKA _ _ ?_
      clear hKA KA
      try simp only [Act.put, List.getElem_toArray, List.getElem_cons_succ, List.getElem_cons_zero, List.setIfInBounds_toArray, List.set_cons_succ, List.set_cons_zero]
      refine wpAnyC_take 6 (.tuple #[.string (findV fo), .bool fo.isSome]) rfl (by kernel_rfl) (by kernel_rfl) (by kernel_rfl) (fun _ _ _ h => h) (wanted_free rfl _) (fun W hW => by go_simp) ?_
      try simp only [Act.put, List.getElem_toArray, List.getElem_cons_succ, List.getElem_cons_zero, List.setIfInBounds_toArray, List.set_cons_succ, List.set_cons_zero]
      refine wpAnyC_take 7 (.string (findV fo)) rfl (by kernel_rfl) (by kernel_rfl) (by kernel_rfl) (fun _ _ _ h => h) (wanted_free rfl _) (fun W hW => by go_simp) ?_
      try simp only [Act.put, List.getElem_toArray, List.getElem_cons_succ, List.getElem_cons_zero, List.setIfInBounds_toArray, List.set_cons_succ, List.set_cons_zero]
      refine wpAnyC_take 8 (.bool fo.isSome) rfl (by kernel_rfl) (by kernel_rfl) (by kernel_rfl) (fun _ _ _ h => h) (wanted_free rfl _) (fun W hW => by go_simp) ?_
      try simp only [Act.put, List.getElem_toArray, List.getElem_cons_succ, List.getElem_cons_zero, List.setIfInBounds_toArray, List.set_cons_succ, List.set_cons_zero]
      refine wpAnyC_take 9 (.string (findV fo)) rfl (by kernel_rfl) (by kernel_rfl) (by kernel_rfl) (fun _ _ _ h => h) (wanted_free rfl _) (fun W hW => by go_simp) ?_
      try simp only [Act.put, List.getElem_toArray, List.getElem_cons_succ, List.getElem_cons_zero, List.setIfInBounds_toArray, List.set_cons_succ, List.set_cons_zero]
      refine wpAnyC_take 10 (.bool fo.isSome) rfl (by kernel_rfl) (by kernel_rfl) (by kernel_rfl) (fun _ _ _ h => h) (wanted_free rfl _) (fun W hW => by go_simp) ?_
      try simp only [Act.put, List.getElem_toArray, List.getElem_cons_succ, List.getElem_cons_zero, List.setIfInBounds_toArray, List.set_cons_succ, List.set_cons_zero]
      refine wpAnyC_done (hc3.out) (by kernel_rfl) ?_
      cases hfs : fo.isSome with
      | true =>
        rw [hfs] at htw
        have hy := Kpt.mk (twP_yes (by rw [hl'.out]; exact hlt) htw.out)
        go_wp2
        go_ret
        exact ⟨ret_bool' hy.out.symm, hb3.out⟩
      | false =>
        rw [hfs] at htw
        have hno2 : Kpt (∀ j, j < k + 1 → twAt ps j = false) := ⟨fun j hj => by
          by_cases hjk : j < k
          · exact hno.out j hjk
          · obtain rfl : j = k := by omega
            exact htw.out⟩
        go_wp2
        go_roundw
        case rel => exact ⟨k + 1, by omega, by go_num, hb3, hno2⟩
        case measure => simp [intOf]; omega
    · have hltI : ¬ (k : Int) < n := by omega
      have hf := Kpt.mk (twP_no (ps := ps) (fun j hj => hno.out j (by have := hl'.out; omega)))
      go_wp2
      go_ret
      exact ⟨ret_bool' hf.out.symm, hbk.out⟩
end Go.Proofs.Ytdplndlmdhpfaab
namespace Go.Proofs.Ytdplndlmdhpfaab
open Go.RowKit
set_option linter.unusedVariables false
set_option linter.unusedSimpArgs false

/-- What a text says, pair by pair (none: it is no text). -/
def parF : Nat → List Int → Option (List (List Int × List Int))
  | 0, _ => some []
  | _ + 1, [] => some []
  | f + 1, z :: l => match idxL (z :: l) 0 with
    | none => none
    | some i => if cutF ((z :: l).take i) 61 && keyB (cutA ((z :: l).take i) 61) && valB (cutB ((z :: l).take i) 61) then (parF f ((z :: l).drop (i + 1))).map ((cutA ((z :: l).take i) 61, cutB ((z :: l).take i) 61) :: ·) else none
def par (zs : List Int) : Option (List (List Int × List Int)) := parF zs.length zs
theorem parF_more : ∀ f g zs, zs.length ≤ f → zs.length ≤ g → parF f zs = parF g zs
  | 0, 0, _, _, _ => rfl
  | 0, g + 1, [], _, _ => rfl
  | 0, g + 1, z :: l, h, _ => by simp at h
  | f + 1, 0, [], _, _ => rfl
  | f + 1, 0, z :: l, _, h => by simp at h
  | f + 1, g + 1, [], _, _ => rfl
  | f + 1, g + 1, z :: l, h1, h2 => by
    unfold parF
    cases hi : idxL (z :: l) 0 with
    | none => rfl
    | some i =>
      have : ((z :: l).drop (i + 1)).length ≤ f ∧ ((z :: l).drop (i + 1)).length ≤ g := by
        simp only [List.length_drop, List.length_cons] at h1 h2 ⊢
        omega
      simp only
      rw [parF_more f g _ this.1 this.2]
theorem par_nil : par [] = some [] := rfl
theorem par_cons (zs : List Int) (h : zs ≠ []) : par zs = match idxL zs 0 with
    | none => none
    | some i => if cutF (zs.take i) 61 && keyB (cutA (zs.take i) 61) && valB (cutB (zs.take i) 61) then (par (zs.drop (i + 1))).map ((cutA (zs.take i) 61, cutB (zs.take i) 61) :: ·) else none := by
  cases zs with
  | nil => exact absurd rfl h
  | cons z l =>
    unfold par
    rw [List.length_cons, parF]
    cases hi : idxL (z :: l) 0 with
    | none => rfl
    | some i =>
      simp only
      rw [parF_more l.length _ _ (by simp) (Nat.le_refl _)]

def prS (p : List Int × List Int) : ByteArray × ByteArray := (strOfNums p.1, strOfNums p.2)
def cellsP : List (List Int × List Int) → List Value
  | [] => []
  | p :: l => .string (strOfNums p.1) :: .string (strOfNums p.2) :: cellsP l
theorem cellsP_app (a b : List (List Int × List Int)) : cellsP (a ++ b) = cellsP a ++ cellsP b := by
  induction a with
  | nil => rfl
  | cons p l ih => simp [cellsP, ih]
theorem cellsP_len (a : List (List Int × List Int)) : (cellsP a).length = a.length * 2 := by
  induction a with
  | nil => rfl
  | cons p l ih => simp [cellsP, ih]; omega
theorem cellsP_at : ∀ (a : List (List Int × List Int)) (j : Nat) (p : List Int × List Int), a[j]? = some p → (cellsP a)[j * 2]? = some (.string (strOfNums p.1)) ∧ (cellsP a)[j * 2 + 1]? = some (.string (strOfNums p.2))
  | [], j, p, h => by simp at h
  | q :: l, 0, p, h => by simp at h; subst h; simp [cellsP]
  | q :: l, j + 1, p, h => by
    have ih := cellsP_at l j p (by simpa using h)
    rw [show (j + 1) * 2 = j * 2 + 1 + 1 by omega]
    simpa [cellsP] using ih
theorem prs_of {w : World} {base n : Nat} {v : Value} {acc : List (List Int × List Int)} (h : w.ownsRow base 34 2 v n (cellsP acc)) : PsAt w v (acc.map prS) ∧ ∃ a c, v = .slice a n c ∧ c ≤ maxLen ∧ acc.length = n := by
  have hl : acc.length = n := by have := h.1; rw [cellsP_len] at this; omega
  rcases id h.2 with ⟨rfl, h0⟩ | ⟨g, cap, cur, rfl, hb, hg, hnc, hcm, hcs, htake⟩
  · subst h0
    obtain rfl : acc = [] := List.eq_nil_of_length_eq_zero hl
    exact ⟨ps_nil w, none, 0, rfl, Nat.zero_le _, rfl⟩
  · refine ⟨⟨some ⟨g, 0, none⟩, cap, by rw [List.length_map, hl], (fun h => by cases h), by rw [List.length_map]; omega, ?_⟩, _, cap, rfl, hcm, hl⟩
    refine .inr ⟨g, 0, rfl, (World.ownsRow.lt h g rfl).2, fun j p hp i u hu => ?_⟩
    rw [List.getElem?_map] at hp
    cases hq : acc[j]? with
    | none => rw [hq] at hp; cases hp
    | some q =>
      rw [hq] at hp
      simp only [Option.map_some, Option.some.injEq] at hp
      subst hp
      have hjl : j < acc.length := (List.getElem?_eq_some_iff.1 hq).1
      obtain ⟨h1, h2⟩ := cellsP_at acc j q hq
      rw [Nat.zero_add]
      rcases i with _ | _ | i
      · simp [pcs, prS] at hu
        rw [h.cellAt (j * 2 + 0) (by omega), Nat.add_zero, h1, hu]
      · simp [pcs, prS] at hu
        rw [h.cellAt (j * 2 + 1) (by omega), h2, hu]
      · simp [pcs] at hu
theorem info40 : (Try.prog.info? 34).map (fun i => (i.zero, i.size, i.bytes)) = some (some (.agg #[.string ⟨#[]⟩, .string ⟨#[]⟩]), 2, 32) := by kernel_rfl
theorem wpList_append_pr {w : World} {ops : Array Oper} {rest : List Oper} {o : Oper} {a : Act} {Q : Exit → Act → World → Prop} (hgd : o.guard = none) (d s : Operand)
    (ho : o.op = .call { callee := .builtin .append, args := #[d, s], argTypes := #[35, 35] })
    (base : Nat) (v : Value) (acc : List (List Int × List Int)) (p : List Int × List Int) (n : Nat) (hd : a.eval d = v) (hown : w.ownsRow base 34 2 v n (cellsP acc)) (g : Nat) (hs : a.eval s = .slice (some ⟨g, 0, none⟩) 1 1)
    (hc0 : w.cell? ⟨g, 0, none⟩ = some (.string (strOfNums p.1))) (hc1 : w.cell? ⟨g, 1, none⟩ = some (.string (strOfNums p.2))) (hn : n ≤ 100000) (hb : base ≤ w.heap.size)
    (h : ∀ v' w', w'.ownsRow base 34 2 v' (n + 1) (cellsP (acc ++ [p])) → w.grownBy w' v.ownBlock → wpList Try.prog ops Q rest (a.put o.dst v') w') : wpList Try.prog ops Q (o :: rest) a w := by
  obtain ⟨i0, hi0, hz0, hz1, hz2⟩ := info_parts info40
  refine wpList_append_own _ hgd d s 35 ho base 34 i0 (.agg #[.string ⟨#[]⟩, .string ⟨#[]⟩]) 2 32 Try.underlying35 hi0 hz0 hz1 hz2 rfl (by decide) v n (cellsP acc) hd hown ⟨g, 0, none⟩ 1 1 [.string (strOfNums p.1), .string (strOfNums p.2)] hs rfl ?_ ?_ (by unfold maxLen; omega) (by omega) hb ?_
  · intro j u hu
    rw [Go.WideShapes.add_plain]
    rcases j with _ | _ | j
    · simp at hu; rw [← hu]; exact hc0
    · simp at hu; rw [← hu]; exact hc1
    · simp at hu
  · intro u hu
    simp only [List.mem_cons, List.not_mem_nil, or_false] at hu
    rcases hu with rfl | rfl <;> rfl
  · intro v' w' ho' hg _
    refine h v' w' ?_ hg
    rw [cellsP_app]
    exact ho'
end Go.Proofs.Ytdplndlmdhpfaab
namespace Go.Proofs.Ytdplndlmdhpfaab
open Go.RowKit
set_option linter.unusedVariables false
set_option linter.unusedSimpArgs false

def parE (zs : List Int) : Int := match par zs with
  | none => 13
  | some l => if 64 < l.length then 2 else if twP (l.map prS) = true then 9 else 0
def parO (zs : List Int) : List (List Int × List Int) := match par zs with
  | none => []
  | some l => if 64 < l.length then [] else if twP (l.map prS) = true then [] else l
def sliceN : Value → Nat
  | .slice _ n _ => n
  | _ => 0
theorem own_ofb {w w' : World} {b n e s : Nat} {v : Value} {xs : List Value} (h : w.ownsRow b e s v n xs) (hb : ∀ g, v.ownBlock = some g → w'.heap[g]? = w.heap[g]?) : w'.ownsRow b e s v n xs := by
  obtain ⟨h0, h1⟩ := h
  refine ⟨h0, ?_⟩
  rcases h1 with h1 | ⟨g, cap, cur, rfl, h2, h3, rest⟩
  · exact .inl h1
  · exact .inr ⟨g, cap, cur, rfl, h2, by rw [hb g rfl]; exact h3, rest⟩
/-- Parse between its steps. -/
structure PI (w W : World) (b o m c1 : Nat) (cur : List Int) (v : Value) (k : Nat) (acc : List (List Int × List Int)) : Prop where
  bel : Below w.heap.size w W
  rd : RdAt W (.slice (some ⟨b, o, none⟩) m c1) cur
  own : W.ownsRow w.heap.size 34 2 v k (cellsP acc)
theorem PI.below {w W W' : World} {b o m c1 k : Nat} {cur : List Int} {v : Value} {acc : List (List Int × List Int)} (h : PI w W b o m c1 cur v k acc) (hb : Below W.heap.size W W') : PI w W' b o m c1 cur v k acc :=
  ⟨h.bel.trans (hb.mono h.bel.size), h.rd.bel hb, own_ofb h.own fun g hg => hb.block g (World.ownsRow.lt h.own g hg).2⟩
theorem wpList_built_pr {w : World} {ops : Array Oper} {rest : List Oper} {o : Oper} {a : Act} {Q : Exit → Act → World → Prop} (hgd : o.guard = none) (K V : ByteArray)
    (he : (execOp a.eval o).run Try.prog w = .ok (.value (.slice (some ⟨w.heap.size, 0, none⟩) 1 1)) (w.alloc (.cells #[.string K, .string V] 34)))
    (h : ∀ g w', (w'.cell? ⟨g, 0, none⟩ = some (.string K) ∧ w'.cell? ⟨g, 1, none⟩ = some (.string V)) → Below w.heap.size w w' → wpList Try.prog ops Q rest (a.put o.dst (.slice (some ⟨g, 0, none⟩) 1 1)) w') : wpList Try.prog ops Q (o :: rest) a w :=
  wpList_of_exec hgd he (h _ _ (bx_two (bx_new w #[.string K, .string V] 34)) ((Below.refl _ _).alloc (Nat.le_refl _) _))
theorem cut_len (zs : List Int) (c : Int) : (cutA zs c).length ≤ zs.length ∧ (cutB zs c).length ≤ zs.length := by
  unfold cutA cutB
  cases idxL zs c with
  | none => simp
  | some i => simp; omega
theorem cut_bytes {zs : List Int} (h : Bytes zs) (c : Int) : Bytes (cutA zs c) ∧ Bytes (cutB zs c) := by
  unfold cutA cutB
  cases idxL zs c with
  | none => exact ⟨h, Bytes.nil⟩
  | some i => exact ⟨h.take _, h.drop _⟩

set_option maxRecDepth 100000 in
theorem parse_long (a : Option Addr) (n c : Nat) (w : World) (hn : 4096 < n) (hm : n ≤ maxLen) :
    Calls Try.prog 55 #[.slice a n c] w fun e w' => e = .returned (.tuple #[.slice none 0 0, .int .i64 2]) ∧ w' = w := by
  have h1 : (4096 : Int) < n := by omega
  unfold maxLen at hm
  go_enter Try.func55, Try.ntmps55
  go_wp2
  go_ret2
  exact ⟨rfl, rfl⟩

set_option maxRecDepth 100000 in
set_option maxHeartbeats 4000000 in
theorem parse_any (a : Option Addr) (n c : Nat) (zs : List Int) (w : World) (hr : RdAt w (.slice a n c) zs) (hn : n ≤ 4096) (hc : c ≤ maxLen) (hb : Bytes zs) :
    Calls Try.prog 55 #[.slice a n c] w fun e w' => ∃ v, e = .returned (.tuple #[v, .int .i64 (parE zs)]) ∧ w'.ownsRow w.heap.size 34 2 v (parO zs).length (cellsP (parO zs)) ∧ Below w.heap.size w w' := by
  have hlt0 : ∀ g, a.map (·.block) = some g → zs ≠ [] → g < w.heap.size := fun g hg hz => by
    obtain ⟨a', c', hv, h1, h2, h3⟩ := id hr
    simp only [Value.slice.injEq] at hv
    obtain ⟨rfl, -, -⟩ := hv
    rcases h3 with h3 | ⟨b, off, rfl, -⟩
    · exact absurd (List.eq_nil_of_length_eq_zero h3) hz
    · simp at hg
      subst hg
      exact hr.lt (List.length_pos_iff.2 hz) rfl
  have hin : Kpt (RdAt w (.slice a n c) zs ∧ Bytes zs ∧ (∀ g, a.map (·.block) = some g → zs ≠ [] → g < w.heap.size)) := ⟨hr, hb, hlt0⟩
  have hcm := Kpt.mk hc
  have h1 : ¬ (4096 : Int) < n := by omega
  have hpz : Kpt (par zs = (par zs).map ([] ++ ·)) := ⟨by cases par zs <;> simp⟩
  clear hr hb hlt0 hc
  go_enter Try.func55, Try.ntmps55
  go_wp2
  go_loopw [0, 4] (fun t0 t4 wr => ∃ (a1 : Option Addr) (m c1 : Nat) (cur : List Int) (k : Nat) (acc : List (List Int × List Int)), t0 = .slice a1 m c1 ∧ m ≤ 4096 ∧ m + k ≤ n ∧ Kpt (c1 ≤ maxLen) ∧ Kpt (RdAt wr (.slice a1 m c1) cur ∧ Bytes cur ∧ (∀ g, a1.map (·.block) = some g → cur ≠ [] → g < w.heap.size)) ∧ Kpt (wr.ownsRow w.heap.size 34 2 t4 k (cellsP acc)) ∧ Kpt (par zs = (par cur).map (acc ++ ·)) ∧ Kpt (Below w.heap.size w wr)) (fun t0 _ _ => sliceN t0)
  case atStart => exact ⟨a, n, c, zs, 0, [], rfl, hn, by omega, hcm, hin, ⟨World.ownsRow_nil _ _ 34 2⟩, hpz, ⟨Below.refl _ _⟩⟩
  case round =>
    obtain ⟨a1, m, c1, cur, k, acc, rfl, hm, hmk, hc1, hcu, hown, hpar, hbe⟩ := hrel
    obtain ⟨⟨va, vc, rfl⟩⟩ : Nonempty (∃ va vc, u4 = .slice va k vc) := by
      obtain ⟨_, a', c', e, _⟩ := prs_of hown.out
      exact ⟨⟨a', c', e⟩⟩
    clear hin hcm hpz
    by_cases h0 : 0 < m
    · have h0I : (0 : Int) < m := by omega
      have hcl : Kpt (cur.length = m) := ⟨by obtain ⟨a', c', hv, _⟩ := hcu.out.1; simp only [Value.slice.injEq] at hv; exact hv.2.1.symm⟩
      have hcne : Kpt (cur ≠ []) := ⟨fun e => by have := hcl.out; rw [e] at this; simp at this; omega⟩
      obtain ⟨b, o, rfl⟩ : ∃ b o, a1 = some ⟨b, o, none⟩ := by
        obtain ⟨a', c', hv, h1, h2, h3⟩ := hcu.out.1
        simp only [Value.slice.injEq] at hv
        obtain ⟨rfl, -, -⟩ := hv
        rcases h3 with h3 | ⟨b, off, rfl, -⟩
        · have := hcl.out; omega
        · exact ⟨b, off, rfl⟩
      have hbb : Kpt (Bytes cur ∧ b < w.heap.size) := ⟨hcu.out.2.1, hcu.out.2.2 b rfl hcne.out⟩
      have R : Kpt (PI w wr b o m c1 cur (.slice va k vc) k acc) := ⟨hbe.out, hcu.out.1, hown.out⟩
      have hpc := Kpt.mk (par_cons cur hcne.out)
      clear hcu hbe hown
      have hcm1 : Kpt (m ≤ c1) := ⟨by obtain ⟨a', c', hv, h1, h2, h3⟩ := R.out.rd; simp only [Value.slice.injEq] at hv; omega⟩
      cases hi : idxL cur 0 with
      | none =>
        have hno : Kpt (parE zs = 13 ∧ parO zs = []) := ⟨by
          have e1 : par zs = none := by rw [hpar.out, hpc.out, hi]; rfl
          unfold parE parO; rw [e1]; exact ⟨rfl, rfl⟩⟩
        replace hi := Kpt.mk hi
        go_wp2_with (first
          | (go_at_call 74; go_must (refine (scut_any cur _ hbb.out.1 (by have := hcl.out; omega)).mono ?_; rintro e w3 ⟨rfl, hs3⟩; replace R : Kpt (PI w w3 b o m c1 cur (.slice va k vc) k acc) := ⟨R.out.below hs3.bel⟩; clear hs3 hcv))
          | (go_at_call 73; go_must (refine (bcut_no b o m c1 g cur _ R.out.rd hbb.out.1 hgc.out hi.out).mono ?_; rintro e w2 ⟨rfl, hs2⟩; replace R : Kpt (PI w w2 b o m c1 cur (.slice va k vc) k acc) := ⟨R.out.below (hs2.bel)⟩; have hcv := conv_rd R.out.rd; clear hs2))
          | (refine (?_ : wpList _ _ _ (Oper.mk (some 19) _ _ _ _ _ :: _) _ _); go_must (refine wpList_built rfl 1 [0] (by kernel_rfl) rfl (by decide) ?_; intro g w1 hg1 ho1 hbe1; replace R : Kpt (PI w w1 b o m c1 cur (.slice va k vc) k acc) := ⟨R.out.below hbe1⟩; have hgc : Kpt (w1.cell? ⟨g, 0, none⟩ = some (.int .u8 0)) := ⟨own_facts ho1 0 (by decide)⟩; clear hbe1 hg1 ho1)))
        go_ret2
        exact ⟨.slice none 0 0, by rw [hno.out.1]; rfl, by rw [hno.out.2]; exact World.ownsRow_nil _ _ 34 2, R.out.bel⟩
      | some i =>
        have him := Kpt.mk (idxL_lt cur 0 i hi)
        obtain ⟨line, hline⟩ : ∃ l, l = cur.take i := ⟨_, rfl⟩
        have hll : Kpt (line.length = i) := ⟨by rw [hline, List.length_take]; have := him.out; omega⟩
        have hlb : Kpt (Bytes line) := ⟨by rw [hline]; exact hbb.out.1.take i⟩
        have hlr : Kpt (∀ W, RdAt W (.slice (some ⟨b, o, none⟩) m c1) cur → RdAt W (.slice (some ⟨b, o, none⟩) i c1) line) := ⟨fun W h => by rw [hline]; exact rd_take h i (by have := him.out; omega)⟩
        have hpc2 : Kpt (par cur = if cutF line 61 && keyB (cutA line 61) && valB (cutB line 61) then (par (cur.drop (i + 1))).map ((cutA line 61, cutB line 61) :: ·) else none) := ⟨by rw [hpc.out, hi, hline]⟩
        have hKb := Kpt.mk (cut_bytes hlb.out 61)
        have hKl := Kpt.mk (cut_len line 61)
        obtain ⟨K, hK⟩ : ∃ K, K = cutA line 61 := ⟨_, rfl⟩
        obtain ⟨V, hV⟩ : ∃ K, K = cutB line 61 := ⟨_, rfl⟩
        have hik : Kpt (∀ W, Calls Try.prog 75 #[.string (strOfNums K)] W fun e w' => e = .returned (.bool (keyB K)) ∧ w' = W) := ⟨fun W => by
          have := iskey_any (strOfNums K) W (by rw [str_size, hK]; have := hKl.out.1; have := hll.out; have := him.out; have := hcl.out; unfold maxLen; omega)
          rw [nums_str K (by rw [hK]; exact hKb.out.1)] at this
          exact this⟩
        have hiv : Kpt (∀ W, Calls Try.prog 76 #[.string (strOfNums V)] W fun e w' => e = .returned (.bool (valB V)) ∧ w' = W) := ⟨fun W => by
          have := isval_any (strOfNums V) W (by rw [str_size, hV]; have := hKl.out.2; have := hll.out; have := him.out; have := hcl.out; unfold maxLen; omega)
          rw [nums_str V (by rw [hV]; exact hKb.out.2)] at this
          exact this⟩
        have hsc : Kpt (∀ W, Calls Try.prog 74 #[.string (strOfNums line), .string ⟨#[61]⟩] W fun e w' => e = .returned (.tuple #[.string (strOfNums K), .string (strOfNums V), .bool (cutF line 61)]) ∧ Sm W w') := ⟨fun W => by rw [hK, hV]; exact scut_any line W hlb.out (by have := hll.out; have := him.out; have := hcl.out; omega)⟩
        rw [← hK, ← hV] at hpc2
        obtain ⟨sL, hsL⟩ : ∃ s, s = strOfNums line := ⟨_, rfl⟩
        obtain ⟨sK, hsK⟩ : ∃ s, s = strOfNums K := ⟨_, rfl⟩
        obtain ⟨sV, hsV⟩ : ∃ s, s = strOfNums V := ⟨_, rfl⟩
        rw [← hsL, ← hsK, ← hsV] at hsc
        rw [← hsK] at hik
        rw [← hsV] at hiv
        replace hsL := Kpt.mk hsL
        replace hsK := Kpt.mk hsK
        replace hsV := Kpt.mk hsV
        replace hi := Kpt.mk hi
        clear hline hK hV hpc
        obtain ⟨o2, ho2⟩ : ∃ x, x = offK c1 o (i + 1) := ⟨_, rfl⟩
        obtain ⟨m2, hm2⟩ : ∃ x, x = m - (i + 1) := ⟨_, rfl⟩
        obtain ⟨c2, hc2⟩ : ∃ x, x = c1 - (i + 1) := ⟨_, rfl⟩
        have hbc : Kpt (∀ W g, RdAt W (.slice (some ⟨b, o, none⟩) m c1) cur → W.cell? ⟨g, 0, none⟩ = some (.int .u8 0) → Calls Try.prog 73 #[.slice (some ⟨b, o, none⟩) m c1, .slice (some ⟨g, 0, none⟩) 1 1] W fun e w' => e = .returned (.tuple #[.slice (some ⟨b, o, none⟩) i c1, .slice (some ⟨b, o2, none⟩) m2 c2, .bool true]) ∧ Sm W w') := ⟨fun W g h hg => by rw [ho2, hm2, hc2]; exact bcut_yes b o m c1 g cur W h hbb.out.1 (by omega) hc1.out hg i hi.out⟩
        have hrest : Kpt (∀ W, RdAt W (.slice (some ⟨b, o, none⟩) m c1) cur → RdAt W (.slice (some ⟨b, o2, none⟩) m2 c2) (cur.drop (i + 1))) := ⟨fun W h => by rw [ho2, hm2, hc2]; exact rd_drop h (i + 1) (by have := him.out; have := hcl.out; omega)⟩
        have hm2' : Kpt (m2 + 1 ≤ m ∧ m2 + (k + 1) ≤ n ∧ c2 ≤ maxLen) := ⟨by have := him.out; have := hcl.out; have := hc1.out; omega⟩
        clear ho2 hm2 hc2
        obtain ⟨f1, hf1⟩ : ∃ f, f = cutF line 61 := ⟨_, rfl⟩
        obtain ⟨f2, hf2⟩ : ∃ f, f = keyB K := ⟨_, rfl⟩
        obtain ⟨f3, hf3⟩ : ∃ f, f = valB V := ⟨_, rfl⟩
        rw [← hf1] at hsc hpc2
        rw [← hf2] at hik hpc2
        rw [← hf3] at hiv hpc2
        clear hf1 hf2 hf3
        by_cases hall : (f1 && f2 && f3) = true
        · simp only [Bool.and_eq_true] at hall
          obtain ⟨⟨rfl, rfl⟩, rfl⟩ := hall
          have hnext : Kpt (par zs = (par (cur.drop (i + 1))).map ((acc ++ [(K, V)]) ++ ·)) := ⟨by
            rw [hpar.out, hpc2.out]
            cases par (cur.drop (i + 1)) <;> simp⟩
          go_wp2_with (first
            | (refine (?_ : wpList _ _ _ (Oper.mk (some 52) _ _ _ _ _ :: _) _ _); go_must (refine wpList_append_pr rfl (.tmp 47) (.tmp 51) rfl w.heap.size _ acc (K, V) k rfl R.out.own g5 rfl hcp.out.1 hcp.out.2 (by omega) R.out.bel.size ?_; intro v6 w6 ho6 hg6; obtain ⟨_, va6, vc6, rfl, _, _⟩ := prs_of ho6; have hb6 : Kpt (Below w.heap.size w w6) := ⟨R.out.bel.grown hg6 R.out.bel.size (fun k h => (World.ownsRow.lt R.out.own k h).1)⟩; have hr6 : Kpt (RdAt w6 (.slice (some ⟨b, o, none⟩) m c1) cur) := ⟨R.out.rd.of_block fun g' hg' => hg6.block g' (R.out.rd.lt (by have := hcl.out; omega) hg') (fun e => by have h9 := (World.ownsRow.lt R.out.own g' e.symm).1; have h8 := hbb.out.2; simp [Value.ownBlock] at hg'; omega)⟩; replace ho6 := Kpt.mk ho6; clear hg6))
            | (refine (?_ : wpList _ _ _ (Oper.mk (some 51) _ _ _ _ _ :: _) _ _); go_must (refine wpList_built_pr rfl sK sV (by kernel_rfl) ?_; intro g5 w5 hcell5 hbe5; replace R : Kpt (PI w w5 b o m c1 cur (.slice va k vc) k acc) := ⟨R.out.below hbe5⟩; have hcp : Kpt (w5.cell? ⟨g5, 0, none⟩ = some (.string (strOfNums K)) ∧ w5.cell? ⟨g5, 1, none⟩ = some (.string (strOfNums V))) := ⟨by rw [← hsK.out, ← hsV.out]; exact hcell5⟩; clear hbe5 hcell5))
            | (go_at_call 76; go_must (refine (hiv.out _).mono ?_; rintro e w4 ⟨rfl, rfl⟩))
            | (go_at_call 75; go_must (refine (hik.out _).mono ?_; rintro e w4 ⟨rfl, rfl⟩))
            | (go_at_call 74; go_must (refine (hsc.out _).mono ?_; rintro e w3 ⟨rfl, hs3⟩; replace R : Kpt (PI w w3 b o m c1 cur (.slice va k vc) k acc) := ⟨R.out.below hs3.bel⟩; clear hs3 hcv))
            | (go_at_call 73; go_must (refine (hbc.out _ g R.out.rd hgc.out).mono ?_; rintro e w2 ⟨rfl, hs2⟩; replace R : Kpt (PI w w2 b o m c1 cur (.slice va k vc) k acc) := ⟨R.out.below (hs2.bel)⟩; have hcv := conv_rd (hlr.out _ R.out.rd); rw [← hsL.out] at hcv; clear hs2))
            | (refine (?_ : wpList _ _ _ (Oper.mk (some 19) _ _ _ _ _ :: _) _ _); go_must (refine wpList_built rfl 1 [0] (by kernel_rfl) rfl (by decide) ?_; intro g w1 hg1 ho1 hbe1; replace R : Kpt (PI w w1 b o m c1 cur (.slice va k vc) k acc) := ⟨R.out.below hbe1⟩; have hgc : Kpt (w1.cell? ⟨g, 0, none⟩ = some (.int .u8 0)) := ⟨own_facts ho1 0 (by decide)⟩; clear hbe1 hg1 ho1)))
          go_roundw
          case rel => exact ⟨some ⟨b, o2, none⟩, m2, c2, cur.drop (i + 1), k + 1, acc ++ [(K, V)], rfl, by have := hm2'.out.1; omega, hm2'.out.2.1, ⟨hm2'.out.2.2⟩, ⟨hrest.out _ hr6.out, hbb.out.1.drop _, fun g hg _ => by simp at hg; subst hg; exact hbb.out.2⟩, ho6, hnext, hb6⟩
          case measure => simp [sliceN]; have := hm2'.out.1; omega
        · have hno : Kpt (parE zs = 13 ∧ parO zs = []) := ⟨by
            have e1 : par zs = none := by rw [hpar.out, hpc2.out, if_neg hall]; rfl
            unfold parE parO; rw [e1]; exact ⟨rfl, rfl⟩⟩
          cases f1 with
          | false =>
            go_wp2_with (first
            | (go_at_call 76; go_must (refine (hiv.out _).mono ?_; rintro e w4 ⟨rfl, rfl⟩))
            | (go_at_call 75; go_must (refine (hik.out _).mono ?_; rintro e w4 ⟨rfl, rfl⟩))
            | (go_at_call 74; go_must (refine (hsc.out _).mono ?_; rintro e w3 ⟨rfl, hs3⟩; replace R : Kpt (PI w w3 b o m c1 cur (.slice va k vc) k acc) := ⟨R.out.below hs3.bel⟩; clear hs3 hcv))
            | (go_at_call 73; go_must (refine (hbc.out _ g R.out.rd hgc.out).mono ?_; rintro e w2 ⟨rfl, hs2⟩; replace R : Kpt (PI w w2 b o m c1 cur (.slice va k vc) k acc) := ⟨R.out.below (hs2.bel)⟩; have hcv := conv_rd (hlr.out _ R.out.rd); rw [← hsL.out] at hcv; clear hs2))
            | (refine (?_ : wpList _ _ _ (Oper.mk (some 19) _ _ _ _ _ :: _) _ _); go_must (refine wpList_built rfl 1 [0] (by kernel_rfl) rfl (by decide) ?_; intro g w1 hg1 ho1 hbe1; replace R : Kpt (PI w w1 b o m c1 cur (.slice va k vc) k acc) := ⟨R.out.below hbe1⟩; have hgc : Kpt (w1.cell? ⟨g, 0, none⟩ = some (.int .u8 0)) := ⟨own_facts ho1 0 (by decide)⟩; clear hbe1 hg1 ho1)))
            go_ret2
            exact ⟨.slice none 0 0, by rw [hno.out.1]; rfl, by rw [hno.out.2]; exact World.ownsRow_nil _ _ 34 2, R.out.bel⟩
          | true =>
            cases f2 with
            | false =>
              go_wp2_with (first
            | (go_at_call 76; go_must (refine (hiv.out _).mono ?_; rintro e w4 ⟨rfl, rfl⟩))
            | (go_at_call 75; go_must (refine (hik.out _).mono ?_; rintro e w4 ⟨rfl, rfl⟩))
            | (go_at_call 74; go_must (refine (hsc.out _).mono ?_; rintro e w3 ⟨rfl, hs3⟩; replace R : Kpt (PI w w3 b o m c1 cur (.slice va k vc) k acc) := ⟨R.out.below hs3.bel⟩; clear hs3 hcv))
            | (go_at_call 73; go_must (refine (hbc.out _ g R.out.rd hgc.out).mono ?_; rintro e w2 ⟨rfl, hs2⟩; replace R : Kpt (PI w w2 b o m c1 cur (.slice va k vc) k acc) := ⟨R.out.below (hs2.bel)⟩; have hcv := conv_rd (hlr.out _ R.out.rd); rw [← hsL.out] at hcv; clear hs2))
            | (refine (?_ : wpList _ _ _ (Oper.mk (some 19) _ _ _ _ _ :: _) _ _); go_must (refine wpList_built rfl 1 [0] (by kernel_rfl) rfl (by decide) ?_; intro g w1 hg1 ho1 hbe1; replace R : Kpt (PI w w1 b o m c1 cur (.slice va k vc) k acc) := ⟨R.out.below hbe1⟩; have hgc : Kpt (w1.cell? ⟨g, 0, none⟩ = some (.int .u8 0)) := ⟨own_facts ho1 0 (by decide)⟩; clear hbe1 hg1 ho1)))
              go_ret2
              exact ⟨.slice none 0 0, by rw [hno.out.1]; rfl, by rw [hno.out.2]; exact World.ownsRow_nil _ _ 34 2, R.out.bel⟩
            | true =>
              cases f3 with
              | true => exact absurd rfl hall
              | false =>
                go_wp2_with (first
            | (go_at_call 76; go_must (refine (hiv.out _).mono ?_; rintro e w4 ⟨rfl, rfl⟩))
            | (go_at_call 75; go_must (refine (hik.out _).mono ?_; rintro e w4 ⟨rfl, rfl⟩))
            | (go_at_call 74; go_must (refine (hsc.out _).mono ?_; rintro e w3 ⟨rfl, hs3⟩; replace R : Kpt (PI w w3 b o m c1 cur (.slice va k vc) k acc) := ⟨R.out.below hs3.bel⟩; clear hs3 hcv))
            | (go_at_call 73; go_must (refine (hbc.out _ g R.out.rd hgc.out).mono ?_; rintro e w2 ⟨rfl, hs2⟩; replace R : Kpt (PI w w2 b o m c1 cur (.slice va k vc) k acc) := ⟨R.out.below (hs2.bel)⟩; have hcv := conv_rd (hlr.out _ R.out.rd); rw [← hsL.out] at hcv; clear hs2))
            | (refine (?_ : wpList _ _ _ (Oper.mk (some 19) _ _ _ _ _ :: _) _ _); go_must (refine wpList_built rfl 1 [0] (by kernel_rfl) rfl (by decide) ?_; intro g w1 hg1 ho1 hbe1; replace R : Kpt (PI w w1 b o m c1 cur (.slice va k vc) k acc) := ⟨R.out.below hbe1⟩; have hgc : Kpt (w1.cell? ⟨g, 0, none⟩ = some (.int .u8 0)) := ⟨own_facts ho1 0 (by decide)⟩; clear hbe1 hg1 ho1)))
                go_ret2
                exact ⟨.slice none 0 0, by rw [hno.out.1]; rfl, by rw [hno.out.2]; exact World.ownsRow_nil _ _ 34 2, R.out.bel⟩
    · have h0I : ¬ (0 : Int) < m := by omega
      obtain rfl : m = 0 := by omega
      have hce : cur = [] := by obtain ⟨a', c', hv, _⟩ := hcu.out.1; simp only [Value.slice.injEq] at hv; exact List.eq_nil_of_length_eq_zero hv.2.1.symm
      have hps : par zs = some acc := by rw [hpar.out, hce, par_nil]; simp
      obtain ⟨hpa, a', c', hv, hcx, hal⟩ := prs_of hown.out
      simp only [Value.slice.injEq] at hv
      obtain ⟨rfl, -, rfl⟩ := hv
      have htw := Kpt.mk (fun W (h : PsAt W (.slice va k vc) (acc.map prS)) => twice_any va k vc (acc.map prS) W h (by unfold maxLen; omega) hcx)
      have hpa' := Kpt.mk hpa
      have hal' := Kpt.mk hal
      clear hcu hpar hpa hal hcx hce
      by_cases h64 : 64 < k
      · have hE : Kpt (parE zs = 2 ∧ parO zs = []) := ⟨by unfold parE parO; rw [hps]; have := hal'.out; exact ⟨if_pos (by omega), if_pos (by omega)⟩⟩
        have h64I : (64 : Int) < k := by omega
        clear hps
        go_wp2
        go_ret2
        exact ⟨.slice none 0 0, by rw [hE.out.1]; rfl, by rw [hE.out.2]; exact World.ownsRow_nil _ _ 34 2, hbe.out⟩
      · have h64I : ¬ (64 : Int) < k := by omega
        cases htv : twP (acc.map prS) with
        | true =>
          have hE : Kpt (parE zs = 9 ∧ parO zs = []) := ⟨by unfold parE parO; rw [hps]; have h64' : ¬ 64 < acc.length := (by have := hal'.out; omega); simp only; rw [if_neg h64', if_neg h64', if_pos htv, if_pos htv]; exact ⟨rfl, rfl⟩⟩
          rw [htv] at htw
          clear hps htv
          go_wp2_with (go_at_call 77; go_must (refine (htw.out _ hpa'.out).mono ?_; rintro e w2 ⟨rfl, hbe2⟩; replace hbe : Kpt (Below w.heap.size w w2) := ⟨hbe.out.trans (hbe2.mono hbe.out.size)⟩; clear hbe2))
          go_ret2
          exact ⟨.slice none 0 0, by rw [hE.out.1]; rfl, by rw [hE.out.2]; exact World.ownsRow_nil _ _ 34 2, hbe.out⟩
        | false =>
          have hE : Kpt (parE zs = 0 ∧ parO zs = acc) := ⟨by unfold parE parO; rw [hps]; have h64' : ¬ 64 < acc.length := (by have := hal'.out; omega); have h65 : ¬ twP (acc.map prS) = true := (by rw [htv]; simp); simp only; rw [if_neg h64', if_neg h64', if_neg h65, if_neg h65]; exact ⟨rfl, rfl⟩⟩
          rw [htv] at htw
          clear hps htv
          go_wp2_with (go_at_call 77; go_must (refine (htw.out _ hpa'.out).mono ?_; rintro e w2 ⟨rfl, hbe2⟩; replace hown : Kpt (w2.ownsRow w.heap.size 34 2 (.slice va k vc) k (cellsP acc)) := ⟨own_ofb hown.out fun g hg => hbe2.block g (World.ownsRow.lt hown.out g hg).2⟩; replace hbe : Kpt (Below w.heap.size w w2) := ⟨hbe.out.trans (hbe2.mono hbe.out.size)⟩; clear hbe2))
          go_ret2
          exact ⟨.slice va k vc, by rw [hE.out.1]; rfl, by rw [hE.out.2, hal'.out]; exact hown.out, hbe.out⟩
end Go.Proofs.Ytdplndlmdhpfaab
