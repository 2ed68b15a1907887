/-
  Slots: the document's Record, Num and Decode.
-/
import Derived.Test.YtndlpmnidpandaaLDoc
import Derived.Test.YtndlpmnidpandaaLRef
namespace Go.Proofs.Ytndlpmnidpandaa
open Go.RowKit
set_option linter.unusedVariables false
set_option linter.unusedSimpArgs false

theorem rnum_any (b off len cap i n : Nat) (zs : List Int) (w : World) (hl : len ≤ maxLen) (hn1 : 1 ≤ n) (hn2 : n ≤ 8) (hi : i + n ≤ len) (hb : Bytes zs)
    (hc : ∀ j, j < len → w.cell? ⟨b, off + j, none⟩ = some (.int .u8 (zs.getD j 0))) :
    Calls Try.prog 29 #[.slice (some ⟨b, off, none⟩) len cap, .int .i64 i, .int .i64 n] w fun e w' => e = .returned (.int .u64 (B.num zs i n)) ∧ w' = w := by
  have h := B.rget_ok b off len cap i n zs w hl hn1 hn2 hi hb hc
  obtain ⟨x, hx⟩ : ∃ x, x = B.num zs i n := ⟨_, rfl⟩
  rw [← hx] at h ⊢
  clear hx hc
  go_enter Try.func29, Try.ntmps29
  go_wp2_with (go_at_call 47; refine h.mono ?_; rintro e w' ⟨rfl, rfl⟩)
  go_ret
  exact ⟨rfl, rfl⟩

set_option maxRecDepth 100000 in
set_option maxHeartbeats 2000000 in
theorem rrec_any (gen : Int) (a : Option Addr) (n c : Nat) (zs : List Int) (w : World) (hg0 : 0 ≤ gen) (hg1 : gen < 18446744073709551616) (hrd : RdAt w (.slice a n c) zs) (hl : zs.length = n) (hn : n ≤ 4096) (hb : Bytes zs) :
    Calls Try.prog 11 #[.int .u64 gen, .slice a n c] w fun e w' => ∃ g cap, e = .returned (.slice (some ⟨g, 0, none⟩) (20 + n) cap) ∧
      w'.ownsRow w.heap.size 5 1 (.slice (some ⟨g, 0, none⟩) (20 + n) cap) (20 + n) (cels (recL gen zs)) ∧ Below w.heap.size w w' := by
  have hrd' : Kpt (∀ W, Below w.heap.size w W → RdAt W (.slice a n c) zs) := ⟨fun W hW => hrd.bel hW⟩
  have K1 := Kpt.mk (fun W => big_any gen 8 W hg0 hg1 (by decide) (by decide))
  have K2 := Kpt.mk (fun W => big_any n 4 W (by omega) (by omega) (by decide) (by decide))
  have hwn : IntKind.u64.wrap (n : Int) = n := B.wrap64_id _ (by omega) (by omega)
  have hwh := Kpt.mk (rec_whole gen zs)
  rw [hl] at hwh
  obtain ⟨A, hA⟩ : ∃ A : List Int, A = [83, 76, 79, 84] ++ bigL gen 8 ++ bigL n 4 ++ zs := ⟨_, rfl⟩
  have hAl : Kpt (A.length = 16 + n) := ⟨by rw [hA]; simp [bigL_len, hl]; omega⟩
  have hAb : Kpt (Bytes A) := ⟨by
    rw [hA]
    refine bytes_mem (fun x hx => ?_)
    have m1 := (bigL_bytes gen 8 (by decide)).mem
    have m2 := (bigL_bytes n 4 (by decide)).mem
    have m3 := hb.mem
    simp only [List.mem_append, List.mem_cons, List.not_mem_nil, or_false] at hx
    rcases hx with ((hx | hx) | hx) | hx
    · rcases hx with rfl | rfl | rfl | rfl <;> omega
    · have := m1 x hx; omega
    · have := m2 x hx; omega
    · have := m3 x hx; omega⟩
  have hSl := sumL_lt A
  obtain ⟨S, hS⟩ : ∃ S, S = sumL A := ⟨_, rfl⟩
  have HC : Kpt (∀ W g k, W.ownsRow w.heap.size 5 1 (.slice (some ⟨g, 0, none⟩) (16 + n) k) (16 + n) (cels A) → Calls Try.prog 30 #[.slice (some ⟨g, 0, none⟩) (16 + n) k] W fun e w' => e = .returned (.int .u32 (S : Int)) ∧ w' = W) := ⟨fun W g k ho => by
    rw [hS]
    exact rc32_any (some ⟨g, 0, none⟩) (16 + n) k A W hAl.out (by unfold maxLen; omega) hAb.out (.inr ⟨g, 0, rfl, fun j hj => by rw [Nat.zero_add]; exact own_facts ho j hj⟩)⟩
  rw [← hA, ← hS] at hwh
  rw [← hS] at hSl
  have K3 := Kpt.mk (fun W => big_any S 4 W (by omega) (by omega) (by decide) (by decide))
  have hws : IntKind.u64.wrap (S : Int) = S := B.wrap64_id _ (by omega) (by omega)
  replace hA := Kpt.mk hA
  replace hl := Kpt.mk hl
  have hnn : (n : Int) ≤ 4096 := by omega
  clear hrd hb hS
  go_enter Try.func11, Try.ntmps11
  go_wp2_with (first
    | (at_builtin; have hmm := p5; go_must (refine wpList_append_rdd rfl (.tmp 21) (.tmp 25) rfl w.heap.size _ _ A (bigL S 4) (16 + n) (20 + n) rfl rfl hq5.out (own_rd hb5.out) (by omega) hAl.out (by rw [bigL_len]; omega) (by omega) hz5.out.size ?_; intro g6 k6 y6 ho6 hl6 hg6; have hy6 : Kpt (Below w.heap.size w y6) := ⟨hz5.out.grown hg6.out hz5.out.size (fun q hq => by cases hq; exact hl5.out.1)⟩; clear hg6 hq5 p5 hmm))
    | (go_at_call 31; have hmm := n5; go_must (refine (K3.out _).mono ?_; rintro e z5 ⟨f5, rfl, hb5, hu5⟩; have hz5 : Kpt (Below w.heap.size w z5) := ⟨hy5.out.trans (hu5.mono hy5.out.size)⟩; have hq5 : Kpt (z5.ownsRow w.heap.size 5 1 (.slice (some ⟨g5, 0, none⟩) (16 + n) k5) (16 + n) (cels A)) := ⟨own_of_block ho5.out (fun q hq => hu5.block q (World.ownsRow.lt ho5.out q hq).2)⟩; replace hb5 := Kpt.mk hb5; clear hu5 n5 hmm ho5 hy5; have p5 : Kpt True := ⟨trivial⟩))
    | (go_at_call 30; have hmm := n4; go_must (refine (HC.out _ g5 k5 ho5.out).mono ?_; rintro e z4 ⟨rfl, h4⟩; have h4' := h4.symm; subst h4'; clear h4 hmm n4 HC; have n5 : Kpt True := ⟨trivial⟩))
    | (at_builtin; have hmm := p3; go_must (refine wpList_append_rdd rfl (.tmp 18) (.tmp 19) rfl w.heap.size _ _ ([83, 76, 79, 84] ++ bigL gen 8 ++ bigL n 4) zs 16 (16 + n) rfl rfl ho3.out (hrd'.out _ hy3.out) (by omega) (by simp [bigL_len]) (by rw [hl.out]) (by omega) hy3.out.size ?_; intro g5 k5 y5 ho5 hl5 hg5; have hy5 : Kpt (Below w.heap.size w y5) := ⟨hy3.out.grown hg5.out hy3.out.size (fun q hq => by cases hq; exact hl3.out.1)⟩; rw [← hA.out] at ho5; clear hg5 ho3 p3 hmm hy3; have n4 : Kpt True := ⟨trivial⟩))
    | (at_builtin; have hmm := p2; go_must (refine wpList_append_rdd rfl (.tmp 12) (.tmp 16) rfl w.heap.size _ _ ([83, 76, 79, 84] ++ bigL gen 8) (bigL n 4) 12 16 rfl rfl hq2.out (own_rd hb2.out) (by omega) (by simp [bigL_len]) (by rw [bigL_len]) (by omega) hz2.out.size ?_; intro g3 k3 y3 ho3 hl3 hg3; have hy3 : Kpt (Below w.heap.size w y3) := ⟨hz2.out.grown hg3.out hz2.out.size (fun q hq => by cases hq; exact hl2.out.1)⟩; clear hg3 hq2 p2 hmm hz2 hb2; have p3 : Kpt True := ⟨trivial⟩))
    | (go_at_call 31; have hmm := n2; go_must (refine (K2.out _).mono ?_; rintro e z2 ⟨f2, rfl, hb2, hu2⟩; have hz2 : Kpt (Below w.heap.size w z2) := ⟨hy2.out.trans (hu2.mono hy2.out.size)⟩; have hq2 : Kpt (z2.ownsRow w.heap.size 5 1 (.slice (some ⟨g2, 0, none⟩) 12 k2) 12 (cels ([83, 76, 79, 84] ++ bigL gen 8))) := ⟨own_of_block ho2.out (fun q hq => hu2.block q (World.ownsRow.lt ho2.out q hq).2)⟩; replace hb2 := Kpt.mk hb2; clear hu2 n2 hmm ho2 hy2; have p2 : Kpt True := ⟨trivial⟩))
    | (at_builtin; have hmm := p1; go_must (refine wpList_append_rdd rfl (.tmp 8) (.tmp 10) rfl w.heap.size _ _ [83, 76, 79, 84] (bigL gen 8) 4 12 rfl rfl hq1.out (own_rd hb1.out) (by omega) rfl (by rw [bigL_len]) (by omega) hz1.out.size ?_; intro g2 k2 y2 ho2 hl2 hg2; have hy2 : Kpt (Below w.heap.size w y2) := ⟨hz1.out.grown hg2.out hz1.out.size (fun q hq => by cases hq; exact hl1.out.1)⟩; clear hg2 hq1 p1 hmm hz1 hb1; have n2 : Kpt True := ⟨trivial⟩))
    | (go_at_call 31; have hmm := n1; go_must (refine (K1.out _).mono ?_; rintro e z1 ⟨f1, rfl, hb1, hu1⟩; have hz1 : Kpt (Below w.heap.size w z1) := ⟨hy1.out.trans (hu1.mono hy1.out.size)⟩; have hq1 : Kpt (z1.ownsRow w.heap.size 5 1 (.slice (some ⟨g1, 0, none⟩) 4 k1) 4 (cels [83, 76, 79, 84])) := ⟨own_of_block ho1.out (fun q hq => hu1.block q (World.ownsRow.lt ho1.out q hq).2)⟩; replace hb1 := Kpt.mk hb1; clear hu1 n1 hmm ho1 hy1; have p1 : Kpt True := ⟨trivial⟩))
    | (refine (?_ : wpList _ _ _ (Oper.mk (some 7) _ _ _ _ _ :: _) _ _); go_must (refine wpList_append_mark rfl (.tmp 6) _ rfl rfl rfl ?_; intro g1 k1 y1 ho1 hl1 hg1; have hy1 : Kpt (Below w.heap.size w y1) := ⟨(Below.refl _ _).grown hg1.out (Nat.le_refl _) (fun q hq => by cases hq)⟩; clear hg1; have n1 : Kpt True := ⟨trivial⟩)))
  go_ret
  exact ⟨g6, k6, rfl, by rw [← hwh.out]; exact ho6.out, hy6.out⟩
end Go.Proofs.Ytndlpmnidpandaa
