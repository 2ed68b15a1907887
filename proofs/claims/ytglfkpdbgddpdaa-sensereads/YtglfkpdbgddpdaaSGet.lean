/-
  The contracts of get, withField.
-/
import Derived.Test.YtglfkpdbgddpdaaSFixd2
namespace Go.Proofs.Ytglfkpdbgddpdaa
open Go.RowKit
set_option linter.unusedVariables false
set_option linter.unusedSimpArgs false

def getN (zs : List Int) (i n : Nat) : Int := if i + n ≤ zs.length then B.num zs i n else 0

theorem rd_len {w : World} {v : Value} {zs : List Int} (h : RdAt w v zs) : ∃ a c, v = .slice a zs.length c := by
  obtain ⟨a, c, rfl, _⟩ := h
  exact ⟨a, c, rfl⟩

theorem get_any (v : Value) (zs : List Int) (i n : Nat) (w : World) (hr : RdAt w v zs) (hb : B.Bytes zs) (hl : zs.length ≤ maxLen) (hn1 : 1 ≤ n) (hn2 : n ≤ 8) (hi : i ≤ 1000) :
    Calls Try.prog 31 #[v, .int .i64 i, .int .i64 n] w fun e w' => e = .returned (.int .u64 (getN zs i n)) ∧ w' = w := by
  have H : ∃ r, Calls Try.prog 35 #[v, .int .i64 i, .int .i64 n] w fun e w' => e = .returned (.tuple #[.int .u64 (getN zs i n), .int .i64 r]) ∧ w' = w := by
    obtain ⟨a, c, rfl, ha, hlc, h⟩ := id hr
    by_cases hin : i + n ≤ zs.length
    · obtain ⟨b, off, rfl⟩ : ∃ b off, a = some ⟨b, off, none⟩ := by
        rcases h with h | ⟨b, off, h, _⟩
        · omega
        · exact ⟨b, off, h⟩
      obtain ⟨_, hc⟩ := rd_cells hr
      refine ⟨0, ?_⟩
      have := B.get_ok b off zs.length c i n zs w hl hn1 hn2 hin hb hc
      rw [getN, if_pos hin]
      exact this
    · refine ⟨4, ?_⟩
      rw [getN, if_neg hin]
      exact B.get_range a zs.length c i n w hl (by simp [B.widB]; omega) (by simp [B.insB]; omega)
  obtain ⟨r, H⟩ := H
  replace H := Kpt.mk H
  obtain ⟨a, c, rfl⟩ := rd_len hr
  clear hr hb
  obtain ⟨x, hx⟩ : ∃ x, x = getN zs i n := ⟨_, rfl⟩
  rw [← hx] at H ⊢
  clear hx
  go_enter Try.func31, Try.ntmps31
  go_wp2_with (go_at_call 35; refine H.out.mono ?_; rintro e w' ⟨rfl, rfl⟩)
  go_ret
  exact ⟨rfl, rfl⟩

theorem getN_bd (zs : List Int) (hb : B.Bytes zs) (i n : Nat) : 0 ≤ getN zs i n ∧ getN zs i n < 256 ^ n := by
  unfold getN
  split
  · exact B.num_bd zs i hb n
  · exact ⟨by omega, B.pow_pos256 n⟩

/-- What withField tells. -/
def Sn.withF (s : Sn) (zs : List Int) (i : Nat) : Sn :=
  if bits .and .u8 (getN zs i 1) 128 = 0 then s
  else { s with hf := true, ic := decide (bits .and .u8 (getN zs i 1) 64 ≠ 0), bit := if bits .and .u8 (getN zs i 1) 8 ≠ 0 then getN zs i 1 % 8 else -1, field := getN zs (i + 1) 2 }

set_option maxRecDepth 100000 in
set_option maxHeartbeats 1000000 in
theorem withField_any (s : Sn) (v : Value) (zs : List Int) (i : Nat) (w : World) (hr : RdAt w v zs) (hb : B.Bytes zs) (hl : zs.length ≤ maxLen) (hi : i ≤ 100) (hvl : ∀ g, v.ownBlock = some g → g < w.heap.size) :
    Calls Try.prog 32 #[.agg s.vals, v, .int .i64 i] w fun e w' => e = .returned (.agg (s.withF zs i).vals) ∧ Below w.heap.size w w' := by
  have H1 : Kpt (∀ W, Below w.heap.size w W → Calls Try.prog 31 #[v, .int .i64 i, .int .i64 1] W fun e w' => e = .returned (.int .u64 (getN zs i 1)) ∧ w' = W) := ⟨fun W hW => get_any v zs i 1 W (hr.of_block (fun g hg => hW.block _ (hvl g hg))) hb hl (by decide) (by decide) (by omega)⟩
  have H2 : Kpt (∀ W, Below w.heap.size w W → Calls Try.prog 31 #[v, .int .i64 ((i : Int) + 1), .int .i64 2] W fun e w' => e = .returned (.int .u64 (getN zs (i + 1) 2)) ∧ w' = W) := ⟨fun W hW => get_any v zs (i + 1) 2 W (hr.of_block (fun g hg => hW.block _ (hvl g hg))) hb hl (by decide) (by decide) (by omega)⟩
  have b1 := getN_bd zs hb i 1
  have b2 := getN_bd zs hb (i + 1) 2
  obtain ⟨F, hF⟩ : ∃ F, F = getN zs i 1 := ⟨_, rfl⟩
  obtain ⟨G, hG⟩ : ∃ G, G = getN zs (i + 1) 2 := ⟨_, rfl⟩
  have hres : Kpt (s.withF zs i = if bits .and .u8 F 128 = 0 then s else { s with hf := true, ic := decide (bits .and .u8 F 64 ≠ 0), bit := if bits .and .u8 F 8 ≠ 0 then F % 8 else -1, field := G }) := ⟨by rw [hF, hG]; rfl⟩
  rw [← hF] at H1 b1
  rw [← hG] at H2 b2
  obtain ⟨f0, f1⟩ := b1
  obtain ⟨g0, g1⟩ := b2
  simp at f1 g1
  obtain ⟨a, c, rfl⟩ := rd_len hr
  obtain ⟨n, hn⟩ : ∃ n, n = zs.length := ⟨_, rfl⟩
  rw [← hn] at H1 H2 hl ⊢
  clear hF hG hr hb hn hvl
  obtain ⟨R, hR⟩ : ∃ R, R = s.withF zs i := ⟨_, rfl⟩
  rw [← hR] at hres ⊢
  clear hR
  obtain ⟨key, code, info, hi, field, bit, hf, ic⟩ := s
  obtain ⟨rv, hrv⟩ : ∃ rv, rv = R.vals := ⟨_, rfl⟩
  rw [← hrv]
  replace hrv := Kpt.mk hrv
  simp only [Sn.vals]
  by_cases h1 : bits .and .u8 F 128 = 0
  · have hV : Kpt (rv = #[.int .u8 key, .int .u16 code, .int .u64 info, .bool hi, .int .i64 field, .int .i64 bit, .bool hf, .bool ic]) := ⟨by rw [hrv.out, hres.out, if_pos h1]; rfl⟩
    clear hrv hres
    go_enter Try.func32, Try.ntmps32
    go_wp2_with (first | (go_at_call 31; refine (H1.out _ (((Below.refl _ _).alloc (Nat.le_refl _) _).alloc (by simp) _)).mono ?_; rintro e w' ⟨rfl, rfl⟩; have hmark : Kpt True := ⟨trivial⟩))
    refine bodyPost_ret (v := .agg (#[.int .u8 key, .int .u16 code, .int .u64 info, .bool hi, .int .i64 field, .int .i64 bit, .bool hf, .bool ic])) (by simp [results, Try.results32, go_sem]) rfl ⟨by rw [hV.out], ?_⟩
    repeat (first | exact Below.refl _ _ | refine Below.setCell ?_ (by simp) _ | refine Below.alloc ?_ (by simp) _)
  · by_cases h2 : bits .and .u8 F 64 = 0
    · by_cases h3 : bits .and .u8 F 8 = 0
      · have hV : Kpt (rv = #[.int .u8 key, .int .u16 code, .int .u64 info, .bool hi, .int .i64 G, .int .i64 (-1), .bool true, .bool false]) := ⟨by rw [hrv.out, hres.out, if_neg h1, decide_eq_false (show ¬ (bits BinOp.and IntKind.u8 F 64 ≠ 0) from fun h => h h2), if_neg (fun h => h h3)]; rfl⟩
        clear hrv hres
        go_enter Try.func32, Try.ntmps32
        go_wp2_with (first | (go_at_call 31; have hm := hmark; refine (H2.out _ (by repeat (first | exact Below.refl _ _ | refine Below.setCell ?_ (by simp) _ | refine Below.alloc ?_ (by simp) _))).mono ?_; rintro e w' ⟨rfl, rfl⟩) | (go_at_call 31; refine (H1.out _ (((Below.refl _ _).alloc (Nat.le_refl _) _).alloc (by simp) _)).mono ?_; rintro e w' ⟨rfl, rfl⟩; have hmark : Kpt True := ⟨trivial⟩))
        refine bodyPost_ret (v := .agg (#[.int .u8 key, .int .u16 code, .int .u64 info, .bool hi, .int .i64 G, .int .i64 (-1), .bool true, .bool false])) (by simp [results, Try.results32, go_sem, h2]) rfl ⟨by rw [hV.out], ?_⟩
        repeat (first | exact Below.refl _ _ | refine Below.setCell ?_ (by simp) _ | refine Below.alloc ?_ (by simp) _)
      · have hV : Kpt (rv = #[.int .u8 key, .int .u16 code, .int .u64 info, .bool hi, .int .i64 G, .int .i64 (F % 8), .bool true, .bool false]) := ⟨by rw [hrv.out, hres.out, if_neg h1, decide_eq_false (show ¬ (bits BinOp.and IntKind.u8 F 64 ≠ 0) from fun h => h h2), if_pos h3]; rfl⟩
        clear hrv hres
        go_enter Try.func32, Try.ntmps32
        go_wp2_with (first | (go_at_call 31; have hm := hmark; refine (H2.out _ (by repeat (first | exact Below.refl _ _ | refine Below.setCell ?_ (by simp) _ | refine Below.alloc ?_ (by simp) _))).mono ?_; rintro e w' ⟨rfl, rfl⟩) | (go_at_call 31; refine (H1.out _ (((Below.refl _ _).alloc (Nat.le_refl _) _).alloc (by simp) _)).mono ?_; rintro e w' ⟨rfl, rfl⟩; have hmark : Kpt True := ⟨trivial⟩))
        refine bodyPost_ret (v := .agg (#[.int .u8 key, .int .u16 code, .int .u64 info, .bool hi, .int .i64 G, .int .i64 (F % 8), .bool true, .bool false])) (by simp [results, Try.results32, go_sem, h2]) rfl ⟨by rw [hV.out], ?_⟩
        repeat (first | exact Below.refl _ _ | refine Below.setCell ?_ (by simp) _ | refine Below.alloc ?_ (by simp) _)
    · by_cases h3 : bits .and .u8 F 8 = 0
      · have hV : Kpt (rv = #[.int .u8 key, .int .u16 code, .int .u64 info, .bool hi, .int .i64 G, .int .i64 (-1), .bool true, .bool true]) := ⟨by rw [hrv.out, hres.out, if_neg h1, decide_eq_true (show bits BinOp.and IntKind.u8 F 64 ≠ 0 from h2), if_neg (fun h => h h3)]; rfl⟩
        clear hrv hres
        go_enter Try.func32, Try.ntmps32
        go_wp2_with (first | (go_at_call 31; have hm := hmark; refine (H2.out _ (by repeat (first | exact Below.refl _ _ | refine Below.setCell ?_ (by simp) _ | refine Below.alloc ?_ (by simp) _))).mono ?_; rintro e w' ⟨rfl, rfl⟩) | (go_at_call 31; refine (H1.out _ (((Below.refl _ _).alloc (Nat.le_refl _) _).alloc (by simp) _)).mono ?_; rintro e w' ⟨rfl, rfl⟩; have hmark : Kpt True := ⟨trivial⟩))
        refine bodyPost_ret (v := .agg (#[.int .u8 key, .int .u16 code, .int .u64 info, .bool hi, .int .i64 G, .int .i64 (-1), .bool true, .bool true])) (by simp [results, Try.results32, go_sem, h2]) rfl ⟨by rw [hV.out], ?_⟩
        repeat (first | exact Below.refl _ _ | refine Below.setCell ?_ (by simp) _ | refine Below.alloc ?_ (by simp) _)
      · have hV : Kpt (rv = #[.int .u8 key, .int .u16 code, .int .u64 info, .bool hi, .int .i64 G, .int .i64 (F % 8), .bool true, .bool true]) := ⟨by rw [hrv.out, hres.out, if_neg h1, decide_eq_true (show bits BinOp.and IntKind.u8 F 64 ≠ 0 from h2), if_pos h3]; rfl⟩
        clear hrv hres
        go_enter Try.func32, Try.ntmps32
        go_wp2_with (first | (go_at_call 31; have hm := hmark; refine (H2.out _ (by repeat (first | exact Below.refl _ _ | refine Below.setCell ?_ (by simp) _ | refine Below.alloc ?_ (by simp) _))).mono ?_; rintro e w' ⟨rfl, rfl⟩) | (go_at_call 31; refine (H1.out _ (((Below.refl _ _).alloc (Nat.le_refl _) _).alloc (by simp) _)).mono ?_; rintro e w' ⟨rfl, rfl⟩; have hmark : Kpt True := ⟨trivial⟩))
        refine bodyPost_ret (v := .agg (#[.int .u8 key, .int .u16 code, .int .u64 info, .bool hi, .int .i64 G, .int .i64 (F % 8), .bool true, .bool true])) (by simp [results, Try.results32, go_sem, h2]) rfl ⟨by rw [hV.out], ?_⟩
        repeat (first | exact Below.refl _ _ | refine Below.setCell ?_ (by simp) _ | refine Below.alloc ?_ (by simp) _)
end Go.Proofs.Ytglfkpdbgddpdaa
