/-
  text: keys and values of any text, by the program and by the document.
-/
import Derived.Test.YtdplndlmdhpfaaaXCut
namespace Go.Proofs.Ytdplndlmdhpfaaa
open Go.RowKit
set_option linter.unusedVariables false
set_option linter.unusedSimpArgs false

theorem ret_bool {a b : Bool} (h : a = b) : Ending.returned (.bool a) = .returned (.bool b) := by rw [h]
/-- The bytes of a text, as numbers. -/
def nums (S : ByteArray) : List Int := S.data.toList.map (fun b => (b.toNat : Int))

theorem nums_len (S : ByteArray) : (nums S).length = S.size := by unfold nums; rw [List.length_map, Array.length_toList]; rfl
theorem nums_at (S : ByteArray) (k : Nat) (h : k < S.size) : (nums S).getD k 0 = (S[k].toNat : Int) := by
  rw [List.getD_eq_getElem?_getD, List.getElem?_eq_getElem (by rw [nums_len]; exact h)]
  simp [nums]
  rfl

theorem nums_byte (S : ByteArray) : Bytes (nums S) := by
  intro j
  rw [List.getD_eq_getElem?_getD]
  cases h : (nums S)[j]? with
  | none => simp
  | some x =>
    obtain ⟨b, -, rfl⟩ := List.mem_map.1 (List.mem_of_getElem? h)
    have := b.toNat_lt
    simp only [Option.getD_some]
    omega
theorem nums_str (zs : List Int) (hb : Bytes zs) : nums (strOfNums zs) = zs := by
  unfold nums
  rw [strOfNums_data, List.map_map]
  refine List.ext_getElem (by simp) (fun i h1 h2 => ?_)
  have := hb i
  rw [List.getD_eq_getElem?_getD, List.getElem?_eq_getElem h2] at this
  simp only [Option.getD_some] at this
  simp
  omega
theorem all_no (l : List Int) (f : Int → Bool) (k : Nat) (hk : k < l.length) (h : f (l.getD k 0) = false) : l.all f = false := by
  rw [List.all_eq_false]
  refine ⟨l.getD k 0, ?_, by rw [h]; simp⟩
  rw [List.getD_eq_getElem?_getD, List.getElem?_eq_getElem hk]
  exact List.getElem_mem _
theorem all_yes (l : List Int) (f : Int → Bool) (h : ∀ j, j < l.length → f (l.getD j 0) = true) : l.all f = true := by
  rw [List.all_eq_true]
  intro x hx
  obtain ⟨j, hj, rfl⟩ := List.getElem_of_mem hx
  have := h j hj
  rw [List.getD_eq_getElem?_getD, List.getElem?_eq_getElem hj] at this
  exact this

theorem sib_any (zs : List Int) (c : Int) (w : World) (hb : Bytes zs) (h0 : 0 ≤ c) (h1 : c ≤ 255) :
    Calls Try.prog 97 #[.string (strOfNums zs), .int .u8 c] w fun e w' => e = .returned (.int .i64 (idxI zs c)) ∧ w' = w := by
  have h := Kpt.mk (ibs_any zs c w hb h0 h1)
  go_enter Try.func97, Try.ntmps97
  go_wp2_with (go_at_call 103; go_must (refine h.out.mono ?_; rintro e w ⟨rfl, rfl⟩))
  go_ret
  exact ⟨rfl, rfl⟩
theorem sib4 (c : Int) (w : World) (h0 : 0 ≤ c) (h1 : c ≤ 255) :
    Calls Try.prog 97 #[.string ⟨#[46, 45, 43, 95]⟩, .int .u8 c] w fun e w' => e = .returned (.int .i64 (idxI [46, 45, 43, 95] c)) ∧ w' = w :=
  sib_any [46, 45, 43, 95] c w (Bytes.cons (by decide) (Bytes.cons (by decide) (Bytes.cons (by decide) (Bytes.cons (by decide) Bytes.nil)))) h0 h1
theorem idx4 (c : Int) : decide (0 ≤ idxI [46, 45, 43, 95] c) = decide (c = 46 ∨ c = 45 ∨ c = 43 ∨ c = 95) := by
  unfold idxI idxL idxL idxL idxL idxL
  by_cases h1 : (46 : Int) = c
  · subst h1; rfl
  · rw [if_neg h1]
    by_cases h2 : (45 : Int) = c
    · subst h2; rfl
    · rw [if_neg h2]
      by_cases h3 : (43 : Int) = c
      · subst h3; rfl
      · rw [if_neg h3]
        by_cases h4 : (95 : Int) = c
        · subst h4; rfl
        · rw [if_neg h4]
          simp
          omega

set_option maxHeartbeats 1000000 in
theorem keyc_any (c : Int) (w : World) (h0 : 0 ≤ c) (h1 : c ≤ 255) :
    Calls Try.prog 87 #[.int .u8 c] w fun e w' => e = .returned (.bool (keyC c)) ∧ w' = w := by
  have h := Kpt.mk (sib4 c w h0 h1)
  have hx := idx4 c
  obtain ⟨x, hxe⟩ : ∃ x, x = idxI [46, 45, 43, 95] c := ⟨_, rfl⟩
  rw [← hxe] at h hx
  clear hxe
  have hs : (c < 48) ∨ (48 ≤ c ∧ c ≤ 57) ∨ (58 ≤ c ∧ c ≤ 64) ∨ (65 ≤ c ∧ c ≤ 90) ∨ (91 ≤ c ∧ c ≤ 96) ∨ (97 ≤ c ∧ c ≤ 122) ∨ (123 ≤ c) := by omega
  rcases hs with hs | hs | hs | hs | hs | hs | hs
  · have k0 : ¬ 65 ≤ c := by omega
    have k1 : ¬ 97 ≤ c := by omega
    have k2 : ¬ 48 ≤ c := by omega
    have hk : keyC c = decide (0 ≤ x) := by simp only [keyC]; rw [decide_eq_false (by omega), decide_eq_false (by omega), decide_eq_false (by omega), ← hx]; simp
    rw [hk]
    clear hk hx hs
    go_enter Try.func87, Try.ntmps87
    go_wp2_with (go_at_call 97; go_must (refine h.out.mono ?_; rintro e w ⟨rfl, rfl⟩))
    go_ret
    exact ⟨rfl, rfl⟩
  · have k0 : ¬ 65 ≤ c := by omega
    have k1 : ¬ 97 ≤ c := by omega
    have k2 : 48 ≤ c := by omega
    have k3 : c ≤ 57 := by omega
    have hk : keyC c = true := by simp [keyC]; omega
    rw [hk]
    clear hk hx hs
    go_enter Try.func87, Try.ntmps87
    go_wp2
    go_ret
    exact ⟨rfl, rfl⟩
  · have k0 : ¬ 65 ≤ c := by omega
    have k1 : ¬ 97 ≤ c := by omega
    have k2 : 48 ≤ c := by omega
    have k3 : ¬ c ≤ 57 := by omega
    have hk : keyC c = decide (0 ≤ x) := by simp only [keyC]; rw [decide_eq_false (by omega), decide_eq_false (by omega), decide_eq_false (by omega), ← hx]; simp
    rw [hk]
    clear hk hx hs
    go_enter Try.func87, Try.ntmps87
    go_wp2_with (go_at_call 97; go_must (refine h.out.mono ?_; rintro e w ⟨rfl, rfl⟩))
    go_ret
    exact ⟨rfl, rfl⟩
  · have k0 : 65 ≤ c := by omega
    have k1 : c ≤ 90 := by omega
    have hk : keyC c = true := by simp [keyC]; omega
    rw [hk]
    clear hk hx hs
    go_enter Try.func87, Try.ntmps87
    go_wp2
    go_ret
    exact ⟨rfl, rfl⟩
  · have k0 : 65 ≤ c := by omega
    have k1 : ¬ c ≤ 90 := by omega
    have k2 : ¬ 97 ≤ c := by omega
    have k3 : 48 ≤ c := by omega
    have k4 : ¬ c ≤ 57 := by omega
    have hk : keyC c = decide (0 ≤ x) := by simp only [keyC]; rw [decide_eq_false (by omega), decide_eq_false (by omega), decide_eq_false (by omega), ← hx]; simp
    rw [hk]
    clear hk hx hs
    go_enter Try.func87, Try.ntmps87
    go_wp2_with (go_at_call 97; go_must (refine h.out.mono ?_; rintro e w ⟨rfl, rfl⟩))
    go_ret
    exact ⟨rfl, rfl⟩
  · have k0 : 65 ≤ c := by omega
    have k1 : ¬ c ≤ 90 := by omega
    have k2 : 97 ≤ c := by omega
    have k3 : c ≤ 122 := by omega
    have hk : keyC c = true := by simp [keyC]; omega
    rw [hk]
    clear hk hx hs
    go_enter Try.func87, Try.ntmps87
    go_wp2
    go_ret
    exact ⟨rfl, rfl⟩
  · have k0 : 65 ≤ c := by omega
    have k1 : ¬ c ≤ 90 := by omega
    have k2 : 97 ≤ c := by omega
    have k3 : ¬ c ≤ 122 := by omega
    have k4 : 48 ≤ c := by omega
    have k5 : ¬ c ≤ 57 := by omega
    have hk : keyC c = decide (0 ≤ x) := by simp only [keyC]; rw [decide_eq_false (by omega), decide_eq_false (by omega), decide_eq_false (by omega), ← hx]; simp
    rw [hk]
    clear hk hx hs
    go_enter Try.func87, Try.ntmps87
    go_wp2_with (go_at_call 97; go_must (refine h.out.mono ?_; rintro e w ⟨rfl, rfl⟩))
    go_ret
    exact ⟨rfl, rfl⟩

set_option maxHeartbeats 1000000 in
theorem iskey_any (S : ByteArray) (w : World) (hS : S.size ≤ maxLen) :
    Calls Try.prog 75 #[.string S] w fun e w' => e = .returned (.bool (keyB (nums S))) ∧ w' = w := by
  unfold maxLen at hS
  have hnl := nums_len S
  go_enter Try.func75, Try.ntmps75
  go_wp2
  go_loop [6] (fun t => ∃ k : Nat, k ≤ S.size ∧ t = .int .i64 k ∧ Kpt (∀ j, j < k → keyC ((nums S).getD j 0) = true)) (fun t => S.size - (intOf t).toNat)
  case atStart => exact ⟨0, by omega, rfl, ⟨fun j hj => by omega⟩⟩
  case round =>
    obtain ⟨k, hk, rfl, hh⟩ := hrel
    by_cases hlt : k < S.size
    · have e1 : (k : Int) < S.size := by omega
      have hx := nums_at S k hlt
      have hbx := S[k].toNat_lt
      obtain ⟨x, hxx⟩ : ∃ x : Int, x = (S[k].toNat : Int) := ⟨_, rfl⟩
      rw [← hxx] at hx
      by_cases h1 : keyC x = true
      · have hnext : Kpt (∀ j, j < k + 1 → keyC ((nums S).getD j 0) = true) := ⟨fun j hj => by
          by_cases hjk : j < k
          · exact hh.out j hjk
          · obtain rfl : j = k := by omega
            rw [hx]; exact h1⟩
        replace hx := Kpt.mk hx
        have hc := Kpt.mk (keyc_any x w (by omega) (by omega))
        rw [h1, hxx] at hc
        clear h1 hxx hbx
        go_wp2_with (go_at_call 87; go_must (refine hc.out.mono ?_; rintro e w ⟨rfl, rfl⟩))
        go_round
        case rel => exact ⟨k + 1, by omega, by go_num, hnext⟩
        case measure => simp [intOf]; omega
      · have h1' : keyC x = false := by simpa using h1
        have hno : keyB (nums S) = false := by
          have := all_no (nums S) keyC k (by omega) (by rw [hx]; exact h1')
          unfold keyB
          rw [this]
          rfl
        replace hno := Kpt.mk hno
        replace hx := Kpt.mk hx
        clear h1
        have hc := Kpt.mk (keyc_any x w (by omega) (by omega))
        rw [h1', hxx] at hc
        clear h1' hxx hbx
        go_wp2_with (go_at_call 87; go_must (refine hc.out.mono ?_; rintro e w ⟨rfl, rfl⟩))
        go_ret
        exact ⟨ret_bool hno.out.symm, rfl⟩
    · have e1 : ¬ (k : Int) < S.size := by omega
      obtain rfl : k = S.size := by omega
      have hall : (nums S).all keyC = true := all_yes _ _ (fun j hj => hh.out j (by omega))
      have hp : keyB (nums S) = decide (1 ≤ S.size ∧ S.size ≤ 63) := by unfold keyB; rw [hall, hnl]; simp
      replace hp := Kpt.mk hp
      clear hall hnl
      by_cases hs1 : 1 ≤ S.size
      · have hs2 : (1 : Int) ≤ S.size := by omega
        go_wp2
        go_ret
        exact ⟨ret_bool (by rw [hp.out]; first | (simp [hs1]; done) | (simp [hs1]; omega) | (simp; omega)), rfl⟩
      · have hs2 : ¬ (1 : Int) ≤ S.size := by omega
        go_wp2
        go_ret
        exact ⟨ret_bool (by rw [hp.out]; first | (simp [hs1]; done) | (simp [hs1]; omega) | (simp; omega)), rfl⟩
def valC (c : Int) : Bool := decide (32 ≤ c ∧ c ≤ 126)
theorem valB_eq (zs : List Int) : valB zs = (zs.all valC && decide (zs.length ≤ 255)) := rfl

set_option maxHeartbeats 1000000 in
theorem isval_any (S : ByteArray) (w : World) (hS : S.size ≤ maxLen) :
    Calls Try.prog 76 #[.string S] w fun e w' => e = .returned (.bool (valB (nums S))) ∧ w' = w := by
  unfold maxLen at hS
  have hnl := nums_len S
  go_enter Try.func76, Try.ntmps76
  go_wp2
  go_loop [6] (fun t => ∃ k : Nat, k ≤ S.size ∧ t = .int .i64 k ∧ Kpt (∀ j, j < k → valC ((nums S).getD j 0) = true)) (fun t => S.size - (intOf t).toNat)
  case atStart => exact ⟨0, by omega, rfl, ⟨fun j hj => by omega⟩⟩
  case round =>
    obtain ⟨k, hk, rfl, hh⟩ := hrel
    by_cases hlt : k < S.size
    · have e1 : (k : Int) < S.size := by omega
      have hx := nums_at S k hlt
      have hbx := S[k].toNat_lt
      obtain ⟨x, hxx⟩ : ∃ x : Int, x = (S[k].toNat : Int) := ⟨_, rfl⟩
      rw [← hxx] at hx
      by_cases h1 : valC x = true
      · have hnext : Kpt (∀ j, j < k + 1 → valC ((nums S).getD j 0) = true) := ⟨fun j hj => by
          by_cases hjk : j < k
          · exact hh.out j hjk
          · obtain rfl : j = k := by omega
            rw [hx]; exact h1⟩
        replace hx := Kpt.mk hx
        have hx1 : 32 ≤ x ∧ x ≤ 126 := by simpa [valC] using h1
        have k1 : ¬ (S[k].toNat : Int) < 32 := by omega
        have k2 : ¬ (126 : Int) < (S[k].toNat : Int) := by omega
        clear h1 hxx hbx hx1
        go_wp2
        go_round
        case rel => exact ⟨k + 1, by omega, by go_num, hnext⟩
        case measure => simp [intOf]; omega
      · have h1' : valC x = false := by simpa using h1
        have hno : valB (nums S) = false := by
          have := all_no (nums S) valC k (by omega) (by rw [hx]; exact h1')
          rw [valB_eq, this]
          rfl
        replace hno := Kpt.mk hno
        replace hx := Kpt.mk hx
        clear h1
        have hx1 : ¬ (32 ≤ x ∧ x ≤ 126) := by simpa [valC] using h1'
        by_cases k1 : (S[k].toNat : Int) < 32
        · clear h1' hxx hbx hx1
          go_wp2
          go_ret
          exact ⟨ret_bool hno.out.symm, rfl⟩
        · have k2 : (126 : Int) < (S[k].toNat : Int) := by omega
          have k1' : (32 : Int) ≤ (S[k].toNat : Int) := by omega
          clear h1' hxx hbx hx1 k1
          go_wp2
          go_ret
          exact ⟨ret_bool hno.out.symm, rfl⟩
    · have e1 : ¬ (k : Int) < S.size := by omega
      obtain rfl : k = S.size := by omega
      have hall : (nums S).all valC = true := all_yes _ _ (fun j hj => hh.out j (by omega))
      have hp : valB (nums S) = decide (S.size ≤ 255) := by rw [valB_eq, hall, hnl]; simp
      replace hp := Kpt.mk hp
      clear hall hnl
      by_cases hs1 : 1 ≤ S.size
      · have hs2 : (1 : Int) ≤ S.size := by omega
        go_wp2
        go_ret
        exact ⟨ret_bool (by rw [hp.out]; first | rfl | (simp; done) | (simp; omega)), rfl⟩
      · have hs2 : ¬ (1 : Int) ≤ S.size := by omega
        go_wp2
        go_ret
        exact ⟨ret_bool (by rw [hp.out]; first | rfl | (simp; done) | (simp; omega)), rfl⟩
end Go.Proofs.Ytdplndlmdhpfaaa
