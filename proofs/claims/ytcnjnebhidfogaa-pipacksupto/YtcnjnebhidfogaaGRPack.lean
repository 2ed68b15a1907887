/-
  The document's Pack.
-/
import Derived.Test.YtcnjnebhidfogaaGBig
import Derived.Test.YtcnjnebhidfogaaGBackQ
namespace Go.Proofs.Ytcnjnebhidfogaa
open Go.RowKit
set_option linter.unusedVariables false
set_option linter.unusedSimpArgs false

set_option maxRecDepth 100000 in
set_option maxHeartbeats 4000000 in
theorem rpack_true (a : Option Addr) (n cp : Nat) (bs : List Bk) (w : World) (hbs : Bks w (.slice a n cp) bs) (hl : bs.length = n) (hn : n * 24 ≤ 140737488355328) :
    Calls Try.prog 19 #[.slice a n cp, .bool true] w fun e w' => ∃ v, e = .returned v ∧ w'.ownsRow w.heap.size 5 1 v (n * 24) (cels (packL true bs)) ∧ Below w.heap.size w w' := by
  have hR := Kpt.mk (rows_of_bks hbs hl)
  have hall : Kpt (∀ b ∈ bs, b.ok) := ⟨fun b hb => by
    obtain ⟨j, hj, rfl⟩ := List.getElem_of_mem hb
    have := rows_of_bks hbs hl j (by omega)
    rw [← Option.some.inj ((List.getElem?_eq_getElem hj).symm.trans (blk_at bs j hj))] at this
    exact this.1⟩
  replace hl := Kpt.mk hl
  clear hbs
  go_enter Try.func19, Try.ntmps19
  go_wp2_with fail
  go_loopw [5, 6] (fun s t wr => ∃ (k : Nat) (v : Value), k ≤ n ∧ v = s ∧ t = .int .i64 k ∧ Kpt (wr.ownsRow w.heap.size 5 1 v (k * 24) (cels (packL true (bs.take k)))) ∧ Kpt (Below w.heap.size w wr)) (fun _ t _ => n - (intOf t).toNat)
  case atStart => exact ⟨0, _, Nat.zero_le _, rfl, rfl, ⟨by rw [Nat.zero_mul]; exact World.ownsRow_nil _ _ 5 1⟩, ⟨Below.refl _ _⟩⟩
  case round =>
    obtain ⟨k, v, hk, rfl, rfl, ho, hB⟩ := hrel
    by_cases hlt : k < n
    · have e1 : (k : Int) < n := by omega
      obtain ⟨hok, g1, o1, rfl, hg1, hr1⟩ := hR.out k hlt
      have hbe : bs[k]? = some (blk bs k) := blk_at bs k (by rw [hl.out]; exact hlt)
      obtain ⟨b, hb⟩ : ∃ b, b = blk bs k := ⟨_, rfl⟩
      rw [← hb] at hok hr1 hbe
      have hr : Kpt (wr.rangeAt g1 (o1 + k * 19) b.cs) := ⟨rangeAt_keep hr1 (hB.out.block g1 hg1)⟩
      have hin1 := Kpt.mk (show (Try.prog.info? 33).map (·.size) = some b.cs.length by rw [cs_len b hok]; exact infoB)
      have hnext : Kpt (packL true (bs.take (k + 1)) = packL true (bs.take k) ++ b.d ++ bigL b.g 2 ++ bigL b.a 2 ++ bigL b.r 4) := ⟨by rw [packL_snoc true bs k b hbe]; simp [pkL, tupL, big2 b.g hok.g, big2 b.a hok.a, big4 b.r hok.r]⟩
      have hlk : Kpt ((packL true (bs.take k)).length = k * 24) := ⟨by rw [packL_len true _ (fun x hx => hall.out x (List.mem_of_mem_take hx))]; simp [sz, hl.out]; omega⟩
      have KB := Kpt.mk (fun W => rbytes_any b hok W)
      have bg := hok.g
      have ba := hok.a
      have br := hok.r
      have hdl := Kpt.mk hok.len
      have K1 := Kpt.mk (fun W => big_any b.g 2 W bg.1 (by omega) (by decide) (by decide))
      have K2 := Kpt.mk (fun W => big_any b.a 2 W ba.1 (by omega) (by decide) (by decide))
      have K3 := Kpt.mk (fun W => big_any b.r 4 W br.1 (by omega) (by decide) (by decide))
      have hct : Kpt (∀ W, Below w.heap.size w W → W.cell? ⟨g1, o1 + k * 19 + 16, none⟩ = some (.int .u16 b.g) ∧ W.cell? ⟨g1, o1 + k * 19 + 17, none⟩ = some (.int .u16 b.a) ∧ W.cell? ⟨g1, o1 + k * 19 + 18, none⟩ = some (.int .u32 b.r)) := ⟨fun W hW => by
        have ht := range_tup (rangeAt_keep hr1 (hW.block g1 hg1)) hok
        exact ⟨ht 0 _ rfl, ht 1 _ rfl, ht 2 _ rfl⟩⟩
      have v1 : IntKind.u64.wrap b.g = b.g := by rw [IntKind.wrap_u64]; omega
      have v2 : IntKind.u64.wrap b.a = b.a := by rw [IntKind.wrap_u64]; omega
      have v3 : IntKind.u64.wrap b.r = b.r := by rw [IntKind.wrap_u64]; omega
      obtain ⟨V, hV⟩ : ∃ V, V = b.vals := ⟨_, rfl⟩
      rw [← hV] at KB
      have hVc : b.cs.toArray = V := hV.symm
      obtain ⟨Q, hQ⟩ : ∃ Q, Q = packL true (bs.take k) := ⟨_, rfl⟩
      rw [← hQ] at hlk hnext ho
      have hM : k * 24 + 24 = (k + 1) * 24 := by omega
      have hMb : k * 24 + 24 ≤ 140737488355328 := by omega
      have hlo : Kpt (∀ q, v.ownBlock = some q → w.heap.size ≤ q) := ⟨fun q hq => (World.ownsRow.lt ho.out q hq).1⟩
      obtain ⟨M, hMe⟩ : ∃ M, M = k * 24 := ⟨_, rfl⟩
      rw [← hMe] at hlk ho hM hMb
      replace hM := Kpt.mk hM
      have m0 : Kpt True := ⟨trivial⟩
      clear hV hQ hMe hr1 hbe hok hb
      go_wp2_with (first | (at_builtin; have hmm := p3; go_must (refine wpList_append_new rfl (.tmp 41) (.tmp 49) rfl w.heap.size _ _ (Q ++ b.d ++ bigL b.g 2 ++ bigL b.a 2) (bigL b.r 4) (M + 16 + 2 + 2) (M + 16 + 2 + 2 + 4) rfl rfl hq3.out (own_rd hb3.out) (by rw [bigL_len]; decide) (by rw [List.length_append, List.length_append, List.length_append, hlk.out, hdl.out, bigL_len, bigL_len]) (by rw [bigL_len]) (by omega) hz3.out.size ?_; intro g4 k4 y4 ho4 hl4 hg4; have hy4 : Kpt (Below w.heap.size w y4) := ⟨hz3.out.grown hg4.out hz3.out.size (fun q hq => by cases hq; exact hl3.out.1)⟩; clear hg4 hq3 p3 hmm; have n4 : Kpt True := ⟨trivial⟩)) | (go_at_call 29; have hmm := n3; go_must (refine (K3.out _).mono ?_; rintro e z3 ⟨f3, rfl, hb3, hu3⟩; have hz3 : Kpt (Below w.heap.size w z3) := ⟨hy3.out.trans (hu3.mono hy3.out.size)⟩; have hq3 : Kpt (z3.ownsRow w.heap.size 5 1 (.slice (some ⟨g3, 0, none⟩) (M + 16 + 2 + 2) k3) (M + 16 + 2 + 2) (cels (Q ++ b.d ++ bigL b.g 2 ++ bigL b.a 2))) := ⟨own_of_block ho3.out (fun q hq => hu3.block q (World.ownsRow.lt ho3.out q hq).2)⟩; replace hb3 := Kpt.mk hb3; clear hu3 n3 hmm ho3 hy3; have p3 : Kpt True := ⟨trivial⟩)) | (at_builtin; have hmm := p2; go_must (refine wpList_append_new rfl (.tmp 31) (.tmp 39) rfl w.heap.size _ _ (Q ++ b.d ++ bigL b.g 2) (bigL b.a 2) (M + 16 + 2) (M + 16 + 2 + 2) rfl rfl hq2.out (own_rd hb2.out) (by rw [bigL_len]; decide) (by rw [List.length_append, List.length_append, hlk.out, hdl.out, bigL_len]) (by rw [bigL_len]) (by omega) hz2.out.size ?_; intro g3 k3 y3 ho3 hl3 hg3; have hy3 : Kpt (Below w.heap.size w y3) := ⟨hz2.out.grown hg3.out hz2.out.size (fun q hq => by cases hq; exact hl2.out.1)⟩; clear hg3 hq2 p2 hmm; have c18 := (hct.out _ hy3.out).2.2; have n3 : Kpt True := ⟨trivial⟩)) | (go_at_call 29; have hmm := n2; go_must (refine (K2.out _).mono ?_; rintro e z2 ⟨f2, rfl, hb2, hu2⟩; have hz2 : Kpt (Below w.heap.size w z2) := ⟨hy2.out.trans (hu2.mono hy2.out.size)⟩; have hq2 : Kpt (z2.ownsRow w.heap.size 5 1 (.slice (some ⟨g2, 0, none⟩) (M + 16 + 2) k2) (M + 16 + 2) (cels (Q ++ b.d ++ bigL b.g 2))) := ⟨own_of_block ho2.out (fun q hq => hu2.block q (World.ownsRow.lt ho2.out q hq).2)⟩; replace hb2 := Kpt.mk hb2; clear hu2 n2 hmm ho2 hy2 c17; have p2 : Kpt True := ⟨trivial⟩)) | (at_builtin; have hmm := p1; go_must (refine wpList_append_new rfl (.tmp 21) (.tmp 29) rfl w.heap.size _ _ (Q ++ b.d) (bigL b.g 2) (M + 16) (M + 16 + 2) rfl rfl hq1.out (own_rd hb1.out) (by rw [bigL_len]; decide) (by rw [List.length_append, hlk.out, hdl.out]) (by rw [bigL_len]) (by omega) hz1.out.size ?_; intro g2 k2 y2 ho2 hl2 hg2; have hy2 : Kpt (Below w.heap.size w y2) := ⟨hz1.out.grown hg2.out hz1.out.size (fun q hq => by cases hq; exact hl1.out.1)⟩; clear hg2 hq1 p1 hmm; have c17 := (hct.out _ hy2.out).2.1; have n2 : Kpt True := ⟨trivial⟩)) | (go_at_call 29; have hmm := n1; go_must (refine (K1.out _).mono ?_; rintro e z1 ⟨f1, rfl, hb1, hu1⟩; have hz1 : Kpt (Below w.heap.size w z1) := ⟨hy1.out.trans (hu1.mono hy1.out.size)⟩; have hq1 : Kpt (z1.ownsRow w.heap.size 5 1 (.slice (some ⟨g9, 0, none⟩) (M + 16) k9) (M + 16) (cels (Q ++ b.d))) := ⟨own_of_block ho1.out (fun q hq => hu1.block q (World.ownsRow.lt ho1.out q hq).2)⟩; replace hb1 := Kpt.mk hb1; clear hu1 n1 hmm ho1 hy1 c16; have p1 : Kpt True := ⟨trivial⟩)) | (at_builtin; have hmm := p0; go_must (refine wpList_append_new rfl (.tmp 13) (.tmp 18) rfl w.heap.size _ _ Q b.d M (M + 16) rfl rfl hq0.out (own_rd hb0.out) (by rw [hdl.out]; decide) hlk.out (by rw [hdl.out]) (by omega) hz0.out.size ?_; intro g9 k9 y1 ho1 hl1 hg9; have hy1 : Kpt (Below w.heap.size w y1) := ⟨hz0.out.grown hg9.out hz0.out.size (fun q hq => hlo.out q hq)⟩; have c16 := (hct.out _ hy1.out).1; clear hg9 hq0 p0 hmm; have n1 : Kpt True := ⟨trivial⟩)) | (go_at_call 24; have hmm := m0; go_must (refine (KB.out _).mono ?_; rintro e z0 ⟨f0, fc0, rfl, hb0, hu0⟩; have hz0 : Kpt (Below w.heap.size w z0) := ⟨hB.out.trans (hu0.mono hB.out.size)⟩; have hq0 : Kpt (z0.ownsRow w.heap.size 5 1 v M (cels Q)) := ⟨own_of_block ho.out (fun q hq => hu0.block q (World.ownsRow.lt ho.out q hq).2)⟩; replace hb0 := Kpt.mk hb0; clear hu0 m0 hmm ho hB hr; have p0 : Kpt True := ⟨trivial⟩)) | (refine (?_ : wpList _ _ _ (Oper.mk (some 17) (Op.load 33 (.tmp 16)) _ _ _ _ :: _) _ _); go_must (refine wpList_load_mid rfl 33 (.tmp 16) rfl g1 (o1 + k * 19) rfl b.cs _ hr.out Try.underlying33 rfl hin1.out ?_)))
      go_roundw
      case rel => exact ⟨k + 1, _, by omega, rfl, by go_num, ⟨by rw [← hM.out, hnext.out]; exact ho4.out⟩, hy4⟩
      case measure => simp [intOf]; omega
    · have e1 : ¬ (k : Int) < n := by omega
      obtain rfl : k = n := by omega
      go_wp2
      go_ret
      exact ⟨v, rfl, by have := ho.out; rw [List.take_of_length_le (by rw [hl.out]; exact Nat.le_refl _)] at this; exact this, hB.out⟩

set_option maxRecDepth 100000 in
set_option maxHeartbeats 4000000 in
theorem rpack_false (a : Option Addr) (n cp : Nat) (bs : List Bk) (w : World) (hbs : Bks w (.slice a n cp) bs) (hl : bs.length = n) (hn : n * 24 ≤ 140737488355328) :
    Calls Try.prog 19 #[.slice a n cp, .bool false] w fun e w' => ∃ v, e = .returned v ∧ w'.ownsRow w.heap.size 5 1 v (n * 16) (cels (packL false bs)) ∧ Below w.heap.size w w' := by
  have hR := Kpt.mk (rows_of_bks hbs hl)
  have hall : Kpt (∀ b ∈ bs, b.ok) := ⟨fun b hb => by
    obtain ⟨j, hj, rfl⟩ := List.getElem_of_mem hb
    have := rows_of_bks hbs hl j (by omega)
    rw [← Option.some.inj ((List.getElem?_eq_getElem hj).symm.trans (blk_at bs j hj))] at this
    exact this.1⟩
  replace hl := Kpt.mk hl
  clear hbs
  go_enter Try.func19, Try.ntmps19
  go_wp2_with fail
  go_loopw [5, 6] (fun s t wr => ∃ (k : Nat) (v : Value), k ≤ n ∧ v = s ∧ t = .int .i64 k ∧ Kpt (wr.ownsRow w.heap.size 5 1 v (k * 16) (cels (packL false (bs.take k)))) ∧ Kpt (Below w.heap.size w wr)) (fun _ t _ => n - (intOf t).toNat)
  case atStart => exact ⟨0, _, Nat.zero_le _, rfl, rfl, ⟨by rw [Nat.zero_mul]; exact World.ownsRow_nil _ _ 5 1⟩, ⟨Below.refl _ _⟩⟩
  case round =>
    obtain ⟨k, v, hk, rfl, rfl, ho, hB⟩ := hrel
    by_cases hlt : k < n
    · have e1 : (k : Int) < n := by omega
      obtain ⟨hok, g1, o1, rfl, hg1, hr1⟩ := hR.out k hlt
      have hbe : bs[k]? = some (blk bs k) := blk_at bs k (by rw [hl.out]; exact hlt)
      obtain ⟨b, hb⟩ : ∃ b, b = blk bs k := ⟨_, rfl⟩
      rw [← hb] at hok hr1 hbe
      have hr : Kpt (wr.rangeAt g1 (o1 + k * 19) b.cs) := ⟨rangeAt_keep hr1 (hB.out.block g1 hg1)⟩
      have hin1 := Kpt.mk (show (Try.prog.info? 33).map (·.size) = some b.cs.length by rw [cs_len b hok]; exact infoB)
      have hnext : Kpt (packL false (bs.take (k + 1)) = packL false (bs.take k) ++ b.d) := ⟨by rw [packL_snoc false bs k b hbe]; simp [pkL, tupL, big2 b.g hok.g, big2 b.a hok.a, big4 b.r hok.r]⟩
      have hlk : Kpt ((packL false (bs.take k)).length = k * 16) := ⟨by rw [packL_len false _ (fun x hx => hall.out x (List.mem_of_mem_take hx))]; simp [sz, hl.out]; omega⟩
      have KB := Kpt.mk (fun W => rbytes_any b hok W)
      have bg := hok.g
      have ba := hok.a
      have br := hok.r
      have hdl := Kpt.mk hok.len
      obtain ⟨V, hV⟩ : ∃ V, V = b.vals := ⟨_, rfl⟩
      rw [← hV] at KB
      have hVc : b.cs.toArray = V := hV.symm
      obtain ⟨Q, hQ⟩ : ∃ Q, Q = packL false (bs.take k) := ⟨_, rfl⟩
      rw [← hQ] at hlk hnext ho
      have hM : k * 16 + 16 = (k + 1) * 16 := by omega
      have hMb : k * 16 + 24 ≤ 140737488355328 := by omega
      have hlo : Kpt (∀ q, v.ownBlock = some q → w.heap.size ≤ q) := ⟨fun q hq => (World.ownsRow.lt ho.out q hq).1⟩
      obtain ⟨M, hMe⟩ : ∃ M, M = k * 16 := ⟨_, rfl⟩
      rw [← hMe] at hlk ho hM hMb
      replace hM := Kpt.mk hM
      have m0 : Kpt True := ⟨trivial⟩
      clear hV hQ hMe hr1 hbe hok hb
      go_wp2_with (first | (at_builtin; have hmm := p0; go_must (refine wpList_append_new rfl (.tmp 13) (.tmp 18) rfl w.heap.size _ _ Q b.d M (M + 16) rfl rfl hq0.out (own_rd hb0.out) (by rw [hdl.out]; decide) hlk.out (by rw [hdl.out]) (by omega) hz0.out.size ?_; intro g9 k9 y1 ho1 hl1 hg9; have hy1 : Kpt (Below w.heap.size w y1) := ⟨hz0.out.grown hg9.out hz0.out.size (fun q hq => hlo.out q hq)⟩; clear hg9 hq0 p0 hmm; have n1 : Kpt True := ⟨trivial⟩)) | (go_at_call 24; have hmm := m0; go_must (refine (KB.out _).mono ?_; rintro e z0 ⟨f0, fc0, rfl, hb0, hu0⟩; have hz0 : Kpt (Below w.heap.size w z0) := ⟨hB.out.trans (hu0.mono hB.out.size)⟩; have hq0 : Kpt (z0.ownsRow w.heap.size 5 1 v M (cels Q)) := ⟨own_of_block ho.out (fun q hq => hu0.block q (World.ownsRow.lt ho.out q hq).2)⟩; replace hb0 := Kpt.mk hb0; clear hu0 m0 hmm ho hB hr; have p0 : Kpt True := ⟨trivial⟩)) | (refine (?_ : wpList _ _ _ (Oper.mk (some 17) (Op.load 33 (.tmp 16)) _ _ _ _ :: _) _ _); go_must (refine wpList_load_mid rfl 33 (.tmp 16) rfl g1 (o1 + k * 19) rfl b.cs _ hr.out Try.underlying33 rfl hin1.out ?_)))
      go_roundw
      case rel => exact ⟨k + 1, _, by omega, rfl, by go_num, ⟨by rw [← hM.out, hnext.out]; exact ho1.out⟩, hy1⟩
      case measure => simp [intOf]; omega
    · have e1 : ¬ (k : Int) < n := by omega
      obtain rfl : k = n := by omega
      go_wp2
      go_ret
      exact ⟨v, rfl, by have := ho.out; rw [List.take_of_length_le (by rw [hl.out]; exact Nat.le_refl _)] at this; exact this, hB.out⟩
end Go.Proofs.Ytcnjnebhidfogaa
