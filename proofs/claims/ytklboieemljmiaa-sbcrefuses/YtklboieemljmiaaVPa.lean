/-
  The contract of parts, of any whole descriptors.
-/
import Derived.Test.YtklboieemljmiaaVUmp
namespace Go.Proofs.Ytklboieemljmiaa
open Go.RowKit
set_option linter.unusedVariables false
set_option linter.unusedSimpArgs false

def partV (p : Nat × Nat) : Array Value := #[.int .u64 (p.1 : Int), .int .u64 (p.2 : Int)]
def sumP : List (Nat × Nat) → Nat
  | [] => 0
  | p :: ps => p.2 + sumP ps
theorem sumP_app (ps : List (Nat × Nat)) (p : Nat × Nat) : sumP (ps ++ [p]) = sumP ps + p.2 := by
  induction ps with
  | nil => simp [sumP]
  | cons q ps ih => simp only [List.cons_append, sumP, ih]; omega

set_option maxRecDepth 100000 in
set_option maxHeartbeats 2000000 in
theorem parts_any (w : World) (WB : Nat) (tag : Tags) (st : St) (f : ByteArray) (S D N : Nat) (k : Int) (ca : Bool) (h : Dv w WB tag st f S D N k ca) (hN : N ≤ 4096) (b off cp n m : Nat) (zs : List Int) (hb : Bytes zs) (hnm : n = 8 + 16 * m) (hm : m ≤ 9000) (hbl : b < w.heap.size)
    (hc : ∀ j, j < n → w.cell? ⟨b, off + j, none⟩ = some (.int .u8 (zs.getD j 0))) :
    Calls Try.prog 66 #[.pointer (some ⟨D, 0, none⟩), .slice (some ⟨b, off, none⟩) n cp] w fun e w' => Below w.heap.size w w' ∧ ((∃ s : Sn, e = .returned (.tuple #[.slice none 0 0, .agg s.vals]) ∧ s.key = 5) ∨ ∃ va vc ps, e = .returned (.tuple #[.slice va ps.length vc, .agg noS.vals]) ∧ OwnR 124 2 w' (.slice va ps.length vc) (ps.map partV) ∧ (∀ g, (Value.slice va ps.length vc).ownBlock = some g → w.heap.size ≤ g) ∧ (∀ p ∈ ps, p.1 + p.2 ≤ N) ∧ sumP ps ≤ 256 ∧ ps.length ≤ m) := by
  have H1 := Kpt.mk (fun W (hW : Below w.heap.size w W) (A q : Nat) (h1 : 1 ≤ q) (h8 : q ≤ 8) (hA : A + q ≤ n) => B.get_ok b off n cp A q zs W (by unfold maxLen; omega) h1 h8 hA hb (fun j hj => (World.cell?_of_block (w := w) (w' := W) (a := ⟨b, off + j, none⟩) (hW.block b hbl)).trans (hc j hj)))
  have HH := Kpt.mk (fun W (hW : Below w.heap.size w W) x y hx hy => dhas_all W WB tag st f S D N k ca x y (h.below hW) hN hx hy)
  have HNu := Kpt.mk (fun W x => numbered_any 5 8448 x W)
  have HPi := Kpt.mk (fun W x => inPar_any x W)
  have hbd8 := Kpt.mk (fun A => B.num_bd zs A hb 8)
  have hbd4 := Kpt.mk (fun A => B.num_bd zs A hb 4)
  replace hnm := Kpt.mk hnm
  clear h hc
  go_enter Try.func66, Try.ntmps66
  go_wp2_with (first
    | (refine wpList_var rfl 32 rfl zeroS zeroSi ?_; intro br w1 hl_ hX_ h_; have Or := Kpt.mk hX_; have hb1 := Kpt.mk h_; have hr1 := Kpt.mk hl_; clear hl_ hX_ h_)
    | fail)
  go_loopg [6, 7, 8, 9, 10, 11, 12] m (fun i r6 r7 r8 r9 r10 r11 r12 wv => ∃ (j A : Nat) (T : Nat) (va : Option Addr) (vc : Nat) (ps : List (Nat × Nat)), r6 = .slice va ps.length vc ∧ r7 = .int .u64 (T : Int) ∧ r8 = .int .i64 (A : Int) ∧ A = 8 + 16 * j ∧ j + i = m ∧ Kpt (T = sumP ps ∧ T ≤ 256 ∧ ps.length = j ∧ ∀ p ∈ ps, p.1 + p.2 ≤ N) ∧ Kpt (OwnR 124 2 wv (.slice va ps.length vc) (ps.map partV) ∧ ∀ q, (Value.slice va ps.length vc).ownBlock = some q → w.heap.size ≤ q ∧ q ≠ br) ∧ Kpt (Bx wv br zeroS) ∧ Kpt (Below w.heap.size w wv))
  case atStart => exact ⟨0, 8, 0, none, 0, [], rfl, rfl, rfl, rfl, by omega, ⟨rfl, by decide, rfl, fun p hp => by cases hp⟩, ⟨OwnR.nil _ _ _, fun q e => by cases e⟩, Or, hb1⟩
  case round =>
    clear Or hb1
    obtain ⟨j, A, T, va, vc, ps, rfl, rfl, rfl, hA, hji, hT, ho, Or, hb1⟩ := hrel
    by_cases hjm : j < m
    · have e1 : (A : Int) < n := by have := hnm.out; omega
      have hAn : A + 16 ≤ n := by have := hnm.out; omega
      have hAb : (A : Int) ≤ 200000 := by omega
      have hA0 : (0 : Int) ≤ A := by omega
      replace hA := Kpt.mk hA
      obtain ⟨A8, hA8⟩ : ∃ x : Nat, x = A + 8 := ⟨_, rfl⟩
      have eA8 : (A : Int) + 8 = A8 := by omega
      obtain ⟨x, hx⟩ : ∃ x, x = B.num zs A 8 := ⟨_, rfl⟩
      obtain ⟨y, hy⟩ : ∃ y, y = B.num zs A8 4 := ⟨_, rfl⟩
      have bx := hbd8.out A
      have by4 := hbd4.out A8
      have G1 := Kpt.mk (H1.out wr hb1.out A 8 (by omega) (by omega) (by omega))
      have G2 := Kpt.mk (H1.out wr hb1.out A8 4 (by omega) (by omega) (by omega))
      rw [← hx] at G1 bx
      rw [← hy] at G2 by4
      replace bx : 0 ≤ x ∧ x < 18446744073709551616 := bx
      replace by4 : 0 ≤ y ∧ y < 4294967296 := by4
      have G3 := Kpt.mk (HH.out wr hb1.out x y bx ⟨by4.1, by omega⟩)
      replace hji := Kpt.mk hji
      clear hx hy hA8
      by_cases hxy : x + y ≤ N
      · rw [decide_eq_true hxy] at G3
        obtain ⟨X, hX⟩ : ∃ X : Nat, x = X := ⟨x.toNat, by omega⟩
        obtain ⟨Y, hY⟩ : ∃ Y : Nat, y = Y := ⟨y.toNat, by omega⟩
        subst hX hY
        by_cases ht : T + Y ≤ 256
        · have e2 : (T : Int) + Y ≤ 256 := by omega
          obtain ⟨T2, hT2⟩ : ∃ x : Nat, x = T + Y := ⟨_, rfl⟩
          have e4 : (T : Int) + Y = T2 := by omega
          have e5 : ¬ (256 : Int) < T2 := by omega
          have e3 : IntKind.u64.wrap (T2 : Int) = T2 := by rw [IntKind.wrap_u64]; omega
          replace hT2 := Kpt.mk hT2
          go_wp2_with (first
            | (refine (?_ : wpList _ _ _ (Oper.mk (some 52) _ _ _ _ _ :: _) _ _); go_must (refine wpList_append_row rfl 120 124 2 16 _ Try.underlying120 infoPrt rfl (by decide) (by decide) (.tmp 47) (.tmp 51) rfl (.slice va ps.length vc) _ (ps.map partV) [partV (X, Y)] rfl rfl ho6.out hR.out Nat.one_pos (by rw [List.length_map]; have := hT.out.2.2.1; simp; omega) ?_; intro v7 w7 ho7 hg hn; have hO7 : Kpt (Bx w7 br zeroS) := ⟨hO6.out.grown hg.out (fun e => (ho.out.2 br e).2 rfl)⟩; have hb7 : Kpt (Below w.heap.size w w7) := ⟨hb6.out.grown hg.out hb6.out.size (fun q e => (ho.out.2 q e).1)⟩; have hv7 : Kpt (∀ q, v7.ownBlock = some q → w.heap.size ≤ q ∧ q ≠ br) := ⟨fun q e => hn.out.elim (fun h => by rw [h] at e; exact ho.out.2 q e) (fun h => by rw [h] at e; have := Option.some.inj e; have := hb6.out.size; have := hO6.out.lt; omega)⟩; obtain ⟨g, c, hv, -⟩ := ho7.out.shape; rw [show ps.map partV ++ [partV (X, Y)] = (ps ++ [(X, Y)]).map partV from (by rw [List.map_append]; rfl)] at ho7 hv; rw [List.length_map] at hv; subst hv; clear hn hg hO6 hb6 hR ho6))
            | (refine (?_ : wpList _ _ _ (Oper.mk (some 51) _ _ _ _ _ :: _) _ _); go_must (refine wpList_build1 rfl 120 124 2 16 _ Try.underlying120 infoPrt (by decide) (by decide) (.tmp 50) rfl (partV (X, Y)) rfl rfl ?_; intro q w6 hq hX hbe hcell; have hR := Kpt.mk (Bx.one (k := 2) hX ⟨rfl, by simp [partV, Value.oneCell']⟩); have hO6 : Kpt (Bx w6 br zeroS) := ⟨Or.out.below hbe Or.out.lt⟩; have hb6 : Kpt (Below w.heap.size w w6) := ⟨hb1.out.trans (hbe.mono hb1.out.size)⟩; have ho6 : Kpt (OwnR 124 2 w6 (.slice va ps.length vc) (ps.map partV)) := ⟨ho.out.1.of_block (fun q hq => hbe.block q (ho.out.1.lt hq))⟩; clear hq hX hbe hcell))
            | (go_at_call 71; have hm := m1; go_must (refine G2.out.mono ?_; rintro e w3 ⟨rfl, rfl⟩; clear hm m1))
            | (go_at_call 71; go_must (refine G1.out.mono ?_; rintro e w2 ⟨rfl, rfl⟩; have m1 : Kpt True := ⟨trivial⟩))
            | (go_at_call 34; go_must (refine G3.out.mono ?_; rintro e w4 ⟨rfl, rfl⟩))
            | fail)
          go_roundg (m - (j + 1))
          case measure => have := hji.out; omega
          case rel => exact ⟨j + 1, A + 16, T2, g, c, ps ++ [(X, Y)], by rw [List.length_append]; rfl, rfl, by go_num, by have := hA.out; omega, by have := hji.out; omega, ⟨by rw [sumP_app, hT2.out, hT.out.1], by have := hT2.out; omega, by rw [List.length_append, hT.out.2.2.1]; rfl, fun p hp => by
            rcases List.mem_append.1 hp with h | h
            · exact hT.out.2.2.2 p h
            · rw [List.mem_singleton.1 h]; show X + Y ≤ N; omega⟩, ⟨ho7.out, hv7.out⟩, hO7, hb7⟩
        · have e2 : ¬ (T : Int) + Y ≤ 256 := by omega
          obtain ⟨T2, hT2⟩ : ∃ x : Nat, x = T + Y := ⟨_, rfl⟩
          have hTb := hT.out.2.1
          have e4 : (T : Int) + Y = T2 := by omega
          have e5 : (256 : Int) < T2 := by omega
          have e3 : IntKind.u64.wrap (T2 : Int) = T2 := by rw [IntKind.wrap_u64]; omega
          replace hT2 := Kpt.mk hT2
          clear e2
          go_wp2_with (first
            | (refine (?_ : wpList _ _ _ (Oper.mk none (Op.store 32 _ _) _ _ _ _ :: _) _ _); go_must (refine wpList_store_bx rfl 32 _ _ rfl br _ (paS (A8 : Int)).vals rfl rfl Or5.out rfl infoS (Sn.vals_one _) rfl ?_; intro w9 hX9 hg9; have hO9 := Kpt.mk hX9; have hb9 : Kpt (Below w.heap.size w w9) := ⟨hb5.out.grown hg9 hb5.out.size (fun q e => by rw [← Option.some.inj e]; exact hr1.out)⟩; clear hX9 hg9))
            | (go_at_call 83; go_must (refine (HPi.out _ _).mono ?_; rintro e w5 ⟨rfl, h5⟩; have Or5 := Kpt.mk (Or.out.below h5 Or.out.lt); have hb5 : Kpt (Below w.heap.size w w5) := ⟨hb1.out.trans (h5.mono hb1.out.size)⟩; clear h5))
            | (go_at_call 71; have hm := m1; go_must (refine G2.out.mono ?_; rintro e w3 ⟨rfl, rfl⟩; clear hm m1))
            | (go_at_call 71; go_must (refine G1.out.mono ?_; rintro e w2 ⟨rfl, rfl⟩; have m1 : Kpt True := ⟨trivial⟩))
            | (go_at_call 34; go_must (refine G3.out.mono ?_; rintro e w4 ⟨rfl, rfl⟩))
            | fail)
          refine bodyPost_ret (v := .tuple #[.slice none 0 0, .agg (paS (A8 : Int)).vals]) (by simp [results, Try.results66, asAddr, Act.put, res_run hO9.out]) rfl ⟨hb9.out, .inl ⟨_, rfl, rfl⟩⟩
      · rw [decide_eq_false hxy] at G3
        go_wp2_with (first
            | (refine (?_ : wpList _ _ _ (Oper.mk none (Op.store 32 _ _) _ _ _ _ :: _) _ _); go_must (refine wpList_store_bx rfl 32 _ _ rfl br _ (nuS 5 8448 x).vals rfl rfl Or5.out rfl infoS (Sn.vals_one _) rfl ?_; intro w9 hX9 hg9; have hO9 := Kpt.mk hX9; have hb9 : Kpt (Below w.heap.size w w9) := ⟨hb5.out.grown hg9 hb5.out.size (fun q e => by rw [← Option.some.inj e]; exact hr1.out)⟩; clear hX9 hg9))
            | (go_at_call 35; go_must (refine (HNu.out _ _).mono ?_; rintro e w5 ⟨rfl, h5⟩; have Or5 := Kpt.mk (Or.out.below h5 Or.out.lt); have hb5 : Kpt (Below w.heap.size w w5) := ⟨hb1.out.trans (h5.mono hb1.out.size)⟩; clear h5))
            | (go_at_call 71; have hm := m1; go_must (refine G2.out.mono ?_; rintro e w3 ⟨rfl, rfl⟩; clear hm m1))
            | (go_at_call 71; go_must (refine G1.out.mono ?_; rintro e w2 ⟨rfl, rfl⟩; have m1 : Kpt True := ⟨trivial⟩))
            | (go_at_call 34; go_must (refine G3.out.mono ?_; rintro e w4 ⟨rfl, rfl⟩))
            | fail)
        refine bodyPost_ret (v := .tuple #[.slice none 0 0, .agg (nuS 5 8448 x).vals]) (by simp [results, Try.results66, asAddr, Act.put, res_run hO9.out]) rfl ⟨hb9.out, .inl ⟨_, rfl, rfl⟩⟩
    · have e1 : ¬ (A : Int) < n := by have := hnm.out; omega
      have hjm2 : j = m := by have := hji; omega
      have hlm : ps.length ≤ m := by have := hT.out.2.2.1; omega
      have hs := Kpt.mk hT.out
      replace hA := Kpt.mk hA
      clear hjm2 hjm hji
      go_wp2_with (first
        | (refine (?_ : wpList _ _ _ (Oper.mk none (Op.store 32 _ _) _ _ _ _ :: _) _ _); go_must (refine wpList_store_bx rfl 32 _ _ rfl br _ (noS).vals rfl rfl Or.out rfl infoS (Sn.vals_one _) rfl ?_; intro w9 hX9 hg9; have hO9 := Kpt.mk hX9; have hb9 : Kpt (Below w.heap.size w w9) := ⟨hb1.out.grown hg9 hb1.out.size (fun q e => by rw [← Option.some.inj e]; exact hr1.out)⟩; have ho9 : Kpt (OwnR 124 2 w9 (.slice va ps.length vc) (ps.map partV)) := ⟨ho.out.1.of_block (fun q e => hg9.block q (ho.out.1.lt e) (fun e2 => (ho.out.2 q e).2 (Option.some.inj e2)))⟩; clear hX9 hg9))
        | fail)
      refine bodyPost_ret (v := .tuple #[.slice va ps.length vc, .agg (noS).vals]) (by simp [results, Try.results66, asAddr, Act.put, res_run hO9.out]) rfl ⟨hb9.out, .inr ⟨_, _, ps, rfl, ho9.out, (fun q e => (ho.out.2 q e).1), (fun a b hab => hs.out.2.2.2 (a, b) hab), by have h1 := hs.out.1; have h2 := hs.out.2.1; omega, hlm⟩⟩
end Go.Proofs.Ytklboieemljmiaa
