/-
  PiBack: the walk.
-/
import Derived.Test.YtcnjnebhidfogaaGBackQ
namespace Go.Proofs.Ytcnjnebhidfogaa
open Go.RowKit
set_option linter.unusedVariables false
set_option linter.unusedSimpArgs false

set_option maxRecDepth 100000 in
set_option maxHeartbeats 4000000 in
theorem back_go (a : Option Addr) (n cp : Nat) (bs : List Bk) (more : Int) (w : World) (hbs : Bks w (.slice a n cp) bs) (hl : bs.length = n) (hn : n * 24 + 4096 ≤ 140737488355328) (hm : 0 ≤ more ∧ more ≤ 255) :
    Calls Try.prog 7 #[.slice a n cp, .int .u8 more] w fun e w' => e = .returned (.bool true) ∧ Below w.heap.size w w' := by
  have HA := Kpt.mk awake_any
  have hall : Kpt (∀ b ∈ bs, b.ok) := ⟨fun b hb => by
    obtain ⟨j, hj, rfl⟩ := List.getElem_of_mem hb
    have := rows_of_bks hbs hl j (by omega)
    rw [← Option.some.inj ((List.getElem?_eq_getElem hj).symm.trans (blk_at bs j hj))] at this
    exact this.1⟩
  have hby := Kpt.mk (fun c => packL_bytes c bs hall.out)
  have hpl1 : Kpt ((packL true bs).length = n * 24) := ⟨by rw [packL_len true bs hall.out, hl]; rfl⟩
  have hpl2 : Kpt ((packL false bs).length = n * 16) := ⟨by rw [packL_len false bs hall.out, hl]; rfl⟩
  have hun1 : Kpt (∀ j, j < n → unB true (packL true bs) j = blk bs j) := ⟨fun j hj => un_pack bs j _ hall.out (blk_at bs j (by omega))⟩
  have hun2 : Kpt (∀ j, j < n → unB false (packL false bs) j = ⟨(blk bs j).d, 0, 0, 0⟩) := ⟨fun j hj => un_bare bs j _ hall.out (blk_at bs j (by omega))⟩
  replace hbs := Kpt.mk hbs
  replace hl := Kpt.mk hl
  have hn0 : n * 24 ≤ 140737488355328 := by omega
  have m0 : Kpt True := ⟨trivial⟩
  go_enter Try.func7, Try.ntmps7
  go_wp2_with (first | (go_at_call 20; go_must (have hB5 := hx5; refine (same_any _ (some ⟨g3, 0, none⟩) a n n cp (blk bs) (by omega) hR3.out (rows_of_bks (hbs.out.below hx5.out) hl.out)).mono ?_; rintro e x6 ⟨rfl, hz⟩; have hx6 : Kpt (Below w.heap.size w x6) := ⟨hx5.out.trans (hz.mono hx5.out.size)⟩; have hP6 : Kpt (x6.ownsRow w.heap.size 5 1 (.slice (some ⟨g2, 0, none⟩) (n * 24) k2) (n * 24) (cels (packL true bs))) := ⟨own_of_block hP5.out (fun q hq => hz.block q (World.ownsRow.lt hP5.out q hq).2)⟩; have hR6 : Kpt (Rows x6 (some ⟨g5, 0, none⟩) n (fun j => ⟨(blk bs j).d, 0, 0, 0⟩)) := ⟨hR5.out.below hz⟩; clear hz hP5 hR5 hR3 hx5 hB5)) | (go_at_call 17; have hm4 := m4; go_must (refine (unpack_false (some ⟨g4, 0, none⟩) (n * 16) k4 n (packL false bs) _ (own_rd ho4.out) hpl2.out rfl (hby.out false) (by omega)).mono ?_; rintro e x5 ⟨g5, rfl, hh5, hg5, hz⟩; have hx5 : Kpt (Below w.heap.size w x5) := ⟨hx4.out.trans (hz.mono hx4.out.size)⟩; have hP5 : Kpt (x5.ownsRow w.heap.size 5 1 (.slice (some ⟨g2, 0, none⟩) (n * 24) k2) (n * 24) (cels (packL true bs))) := ⟨own_of_block hP4.out (fun q hq => hz.block q (World.ownsRow.lt hP4.out q hq).2)⟩; have hR5 : Kpt (Rows x5 (some ⟨g5, 0, none⟩) n (fun j => ⟨(blk bs j).d, 0, 0, 0⟩)) := ⟨rows_of_heap (hby.out false) (hpl2.out.trans rfl) hh5 hun2.out⟩; have hR3 : Kpt (Rows x5 (some ⟨g3, 0, none⟩) n (blk bs)) := ⟨hR4.out.below hz⟩; clear hz hh5 hg5 hP4 ho4 hx4 hR4 m4 hm4)) | (go_at_call 16; have hm3 := m3; go_must (refine (pack_false a n cp bs _ (hbs.out.below hx3.out) hl.out hn0).mono ?_; rintro e x4 ⟨g4, k4, rfl, ho4, hz⟩; have hx4 : Kpt (Below w.heap.size w x4) := ⟨hx3.out.trans (hz.mono hx3.out.size)⟩; have hP4 : Kpt (x4.ownsRow w.heap.size 5 1 (.slice (some ⟨g2, 0, none⟩) (n * 24) k2) (n * 24) (cels (packL true bs))) := ⟨own_of_block hP3.out (fun q hq => hz.block q (World.ownsRow.lt hP3.out q hq).2)⟩; have hR4 : Kpt (Rows x4 (some ⟨g3, 0, none⟩) n (blk bs)) := ⟨hR3.out.below hz⟩; replace ho4 := Kpt.mk ho4; clear hz hP3 hR3 hx3 m3 hm3; have m4 : Kpt True := ⟨trivial⟩)) | (go_at_call 17; have hm2 := m2; go_must (refine (unpack_true (some ⟨g2, 0, none⟩) (n * 24) k2 n (packL true bs) _ (own_rd hP2.out) hpl1.out rfl (hby.out true) (by omega)).mono ?_; rintro e x3 ⟨g3, rfl, hh3, hg3, hz⟩; have hx3 : Kpt (Below w.heap.size w x3) := ⟨hx2.out.trans (hz.mono hx2.out.size)⟩; have hP3 : Kpt (x3.ownsRow w.heap.size 5 1 (.slice (some ⟨g2, 0, none⟩) (n * 24) k2) (n * 24) (cels (packL true bs))) := ⟨own_of_block hP2.out (fun q hq => hz.block q (World.ownsRow.lt hP2.out q hq).2)⟩; have hR3 : Kpt (Rows x3 (some ⟨g3, 0, none⟩) n (blk bs)) := ⟨rows_of_heap (hby.out true) (hpl1.out.trans rfl) hh3 hun1.out⟩; clear hz hh3 hg3 hP2 hx2 m2 hm2; have m3 : Kpt True := ⟨trivial⟩)) | (go_at_call 16; have hm1 := m1; go_must (refine (pack_true a n cp bs _ (hbs.out.below hx1.out) hl.out hn0).mono ?_; rintro e x2 ⟨g2, k2, rfl, ho2, hz⟩; have hx2 : Kpt (Below w.heap.size w x2) := ⟨hx1.out.trans (hz.mono hx1.out.size)⟩; have hP2 : Kpt (x2.ownsRow w.heap.size 5 1 (.slice (some ⟨g2, 0, none⟩) (n * 24) k2) (n * 24) (cels (packL true bs))) := ⟨own_base ho2 hx1.out.size⟩; clear hz ho2 hx1 m1 hm1; have m2 : Kpt True := ⟨trivial⟩)) | (go_at_call 8; have hm0 := m0; go_must (refine (HA.out _).mono ?_; rintro e x1 ⟨rfl, hz⟩; have hx1 := Kpt.mk hz; clear hz m0 hm0; have m1 : Kpt True := ⟨trivial⟩)))
  have hRl : Kpt (Rows x6 a n (blk bs)) := ⟨rows_of_bks (hbs.out.below hx6.out) hl.out⟩
  clear hbs hun1 hun2 hpl2 HA hl
  go_loopw [10] (fun t wr => ∃ k : Nat, k ≤ n ∧ t = .int .i64 k ∧ Kpt (Below x6.heap.size x6 wr)) (fun t _ => n - (intOf t).toNat)
  case atStart => exact ⟨0, Nat.zero_le _, rfl, ⟨Below.refl _ _⟩⟩
  case round =>
    obtain ⟨k, hk, rfl, hB⟩ := hrel
    by_cases hlt : k < n
    · have el : (k : Int) < n := by omega
      obtain ⟨hok, gl, ol, rfl, hgl, hrl⟩ := hRl.out k hlt
      obtain ⟨hok5, g5', o5, e5, hg5, hr5⟩ := hR6.out k hlt
      simp only [Option.some.injEq, Addr.mk.injEq, and_true] at e5
      obtain ⟨rfl, rfl⟩ := e5
      rw [Nat.zero_add] at hr5
      have hC : Kpt (wr.drew.rangeAt g5 (k * 19) (Bk.cs ⟨(blk bs k).d, 0, 0, 0⟩) ∧ wr.drew.rangeAt gl (ol + k * 19) (blk bs k).cs) := ⟨rangeAt_keep hr5 (hB.out.block g5 hg5), rangeAt_keep hrl (hB.out.block gl hgl)⟩
      obtain ⟨D, hD⟩ : ∃ D, D = (cels (blk bs k).d).toArray := ⟨_, rfl⟩
      have hlen := hok.len
      have infoA : Kpt ((Try.prog.info? 23).map (·.size) = some (cels (blk bs k).d).length) := ⟨by rw [cels_length, hlen]; kernel_rfl⟩
      replace hD := Kpt.mk hD
      replace hlen := Kpt.mk hlen
      replace hok := Kpt.mk hok
      replace hok5 := Kpt.mk hok5
      clear hgl hg5 hrl hr5
      go_wp2_with fail
      refine wp_region_any (by kernel_rfl) ?_
      refine wpAny_of_C (C := fun W => W.rangeAt g5 (k * 19) (Bk.cs ⟨(blk bs k).d, 0, 0, 0⟩) ∧ W.rangeAt gl (ol + k * 19) (blk bs k).cs) _ _ _ _ ?_
      refine wpAnyC_take 0 (.slice (some ⟨g5, 0, none⟩) n n) rfl (by kernel_rfl) (by kernel_rfl) (by kernel_rfl) (fun _ _ _ h => h) (wanted_free rfl _) (fun W hW => by go_simp) ?_
      try simp only [Act.put, List.getElem_toArray, List.getElem_cons_succ, List.getElem_cons_zero, List.setIfInBounds_toArray, List.set_cons_succ, List.set_cons_zero]
      refine wpAnyC_take 1 (.int .i64 k) rfl (by kernel_rfl) (by kernel_rfl) (by kernel_rfl) (fun _ _ _ h => h) (wanted_free rfl _) (fun W hW => by go_simp) ?_
      try simp only [Act.put, List.getElem_toArray, List.getElem_cons_succ, List.getElem_cons_zero, List.setIfInBounds_toArray, List.set_cons_succ, List.set_cons_zero]
      refine wpAnyC_take 2 (.pointer (some ⟨g5, k * 19, none⟩)) rfl (by kernel_rfl) (by kernel_rfl) (by kernel_rfl) (fun _ _ _ h => h) (wanted_free rfl _) (fun W hW => by go_simp) ?_
      try simp only [Act.put, List.getElem_toArray, List.getElem_cons_succ, List.getElem_cons_zero, List.setIfInBounds_toArray, List.set_cons_succ, List.set_cons_zero]
      refine wpAnyC_take 3 (.pointer (some ⟨g5, k * 19, none⟩)) rfl (by kernel_rfl) (by kernel_rfl) (by kernel_rfl) (fun _ _ _ h => h) (wanted_free rfl _) (fun W hW => by go_simp) ?_
      try simp only [Act.put, List.getElem_toArray, List.getElem_cons_succ, List.getElem_cons_zero, List.setIfInBounds_toArray, List.set_cons_succ, List.set_cons_zero]
      refine wpAnyC_take 4 (.agg D) rfl (by kernel_rfl) (by kernel_rfl) (by kernel_rfl) (fun _ _ _ h => h) (wanted_free rfl _) (fun W hW => exec_load_mid 23 (.tmp 57) rfl g5 (k * 19) (cels (blk bs k).d) D hD.out rfl (range_data (b := ⟨(blk bs k).d, 0, 0, 0⟩) hW.1) _ Try.underlying23 rfl infoA.out) ?_
      try simp only [Act.put, List.getElem_toArray, List.getElem_cons_succ, List.getElem_cons_zero, List.setIfInBounds_toArray, List.set_cons_succ, List.set_cons_zero]
      refine wpAnyC_take 5 (.slice (some ⟨gl, ol, none⟩) n cp) rfl (by kernel_rfl) (by kernel_rfl) (by kernel_rfl) (fun _ _ _ h => h) (wanted_free rfl _) (fun W hW => by go_simp) ?_
      try simp only [Act.put, List.getElem_toArray, List.getElem_cons_succ, List.getElem_cons_zero, List.setIfInBounds_toArray, List.set_cons_succ, List.set_cons_zero]
      refine wpAnyC_take 6 (.int .i64 k) rfl (by kernel_rfl) (by kernel_rfl) (by kernel_rfl) (fun _ _ _ h => h) (wanted_free rfl _) (fun W hW => by go_simp) ?_
      try simp only [Act.put, List.getElem_toArray, List.getElem_cons_succ, List.getElem_cons_zero, List.setIfInBounds_toArray, List.set_cons_succ, List.set_cons_zero]
      refine wpAnyC_take 7 (.pointer (some ⟨gl, ol + k * 19, none⟩)) rfl (by kernel_rfl) (by kernel_rfl) (by kernel_rfl) (fun _ _ _ h => h) (wanted_free rfl _) (fun W hW => by go_simp) ?_
      try simp only [Act.put, List.getElem_toArray, List.getElem_cons_succ, List.getElem_cons_zero, List.setIfInBounds_toArray, List.set_cons_succ, List.set_cons_zero]
      refine wpAnyC_take 8 (.pointer (some ⟨gl, ol + k * 19, none⟩)) rfl (by kernel_rfl) (by kernel_rfl) (by kernel_rfl) (fun _ _ _ h => h) (wanted_free rfl _) (fun W hW => by go_simp) ?_
      try simp only [Act.put, List.getElem_toArray, List.getElem_cons_succ, List.getElem_cons_zero, List.setIfInBounds_toArray, List.set_cons_succ, List.set_cons_zero]
      refine wpAnyC_take 9 (.agg D) rfl (by kernel_rfl) (by kernel_rfl) (by kernel_rfl) (fun _ _ _ h => h) (wanted_free rfl _) (fun W hW => exec_load_mid 23 (.tmp 62) rfl gl (ol + k * 19) (cels (blk bs k).d) D hD.out rfl (range_data hW.2) _ Try.underlying23 rfl infoA.out) ?_
      try simp only [Act.put, List.getElem_toArray, List.getElem_cons_succ, List.getElem_cons_zero, List.setIfInBounds_toArray, List.set_cons_succ, List.set_cons_zero]
      refine wpAnyC_take 10 (.bool false) rfl (by kernel_rfl) (by kernel_rfl) (by kernel_rfl) (fun _ _ _ h => h) (wanted_free rfl _) (fun W hW => exec_neq_arr (.tmp 58) (.tmp 63) rfl (blk bs k).d D hD.out hlen.out rfl rfl) ?_
      try simp only [Act.put, List.getElem_toArray, List.getElem_cons_succ, List.getElem_cons_zero, List.setIfInBounds_toArray, List.set_cons_succ, List.set_cons_zero]
      refine wpAnyC_take 11 (.bool false) rfl (by kernel_rfl) (by kernel_rfl) (by kernel_rfl) (fun _ _ _ h => h) (wanted_free rfl _) (fun W hW => by go_simp) ?_
      try simp only [Act.put, List.getElem_toArray, List.getElem_cons_succ, List.getElem_cons_zero, List.setIfInBounds_toArray, List.set_cons_succ, List.set_cons_zero]
      refine wpAnyC_take 12 (.slice (some ⟨g5, 0, none⟩) n n) rfl (by kernel_rfl) (by kernel_rfl) (by kernel_rfl) (fun _ _ _ h => h) (wanted_at false rfl rfl rfl rfl) (fun W hW => by go_simp) ?_
      try simp only [Act.put, List.getElem_toArray, List.getElem_cons_succ, List.getElem_cons_zero, List.setIfInBounds_toArray, List.set_cons_succ, List.set_cons_zero]
      refine wpAnyC_take 13 (.int .i64 k) rfl (by kernel_rfl) (by kernel_rfl) (by kernel_rfl) (fun _ _ _ h => h) (wanted_at false rfl rfl rfl rfl) (fun W hW => by go_simp) ?_
      try simp only [Act.put, List.getElem_toArray, List.getElem_cons_succ, List.getElem_cons_zero, List.setIfInBounds_toArray, List.set_cons_succ, List.set_cons_zero]
      refine wpAnyC_take 14 (.pointer (some ⟨g5, k * 19, none⟩)) rfl (by kernel_rfl) (by kernel_rfl) (by kernel_rfl) (fun _ _ _ h => h) (wanted_at false rfl rfl rfl rfl) (fun W hW => by go_simp) ?_
      try simp only [Act.put, List.getElem_toArray, List.getElem_cons_succ, List.getElem_cons_zero, List.setIfInBounds_toArray, List.set_cons_succ, List.set_cons_zero]
      refine wpAnyC_take 15 (.pointer (some ⟨g5, k * 19 + 16, none⟩)) rfl (by kernel_rfl) (by kernel_rfl) (by kernel_rfl) (fun _ _ _ h => h) (wanted_at false rfl rfl rfl rfl) (fun W hW => by go_simp) ?_
      try simp only [Act.put, List.getElem_toArray, List.getElem_cons_succ, List.getElem_cons_zero, List.setIfInBounds_toArray, List.set_cons_succ, List.set_cons_zero]
      refine wpAnyC_take 16 (.agg #[.int .u16 0, .int .u16 0, .int .u32 0]) rfl (by kernel_rfl) (by kernel_rfl) (by kernel_rfl) (fun _ _ _ h => h) (wanted_at false rfl rfl rfl rfl) (fun W hW => exec_load_mid 28 (.tmp 69) rfl g5 (k * 19 + 16) [.int .u16 0, .int .u16 0, .int .u32 0] _ rfl rfl (range_tup hW.1 hok5.out) _ Try.underlying28 rfl infoT) ?_
      try simp only [Act.put, List.getElem_toArray, List.getElem_cons_succ, List.getElem_cons_zero, List.setIfInBounds_toArray, List.set_cons_succ, List.set_cons_zero]
      refine wpAnyC_take 17 (.agg #[.int .u16 0, .int .u16 0, .int .u32 0]) rfl (by kernel_rfl) (by kernel_rfl) (by kernel_rfl) (fun _ _ _ h => h) (wanted_at false rfl rfl rfl rfl) (fun W hW => by go_simp) ?_
      try simp only [Act.put, List.getElem_toArray, List.getElem_cons_succ, List.getElem_cons_zero, List.setIfInBounds_toArray, List.set_cons_succ, List.set_cons_zero]
      refine wpAnyC_take 18 (.bool false) rfl (by kernel_rfl) (by kernel_rfl) (by kernel_rfl) (fun _ _ _ h => h) (wanted_at false rfl rfl rfl rfl) (fun W hW => by go_simp) ?_
      try simp only [Act.put, List.getElem_toArray, List.getElem_cons_succ, List.getElem_cons_zero, List.setIfInBounds_toArray, List.set_cons_succ, List.set_cons_zero]
      refine wpAnyC_take 19 (.bool false) rfl (by kernel_rfl) (by kernel_rfl) (by kernel_rfl) (fun _ _ _ h => h) (wanted_free rfl _) (fun W hW => by go_simp) ?_
      try simp only [Act.put, List.getElem_toArray, List.getElem_cons_succ, List.getElem_cons_zero, List.setIfInBounds_toArray, List.set_cons_succ, List.set_cons_zero]
      refine wpAnyC_done (hC.out) (by kernel_rfl) ?_
      have hB' : Kpt (Below x6.heap.size x6 wr.drew) := ⟨below_drewN hB.out 1⟩
      go_wp2
      go_roundw
      case rel => exact ⟨k + 1, by omega, by go_num, hB'⟩
      case measure => simp [intOf]; omega
    · have el : ¬ (k : Int) < n := by omega
      obtain rfl : k = n := by omega
      have hx7 : Kpt (Below w.heap.size w wr) := ⟨hx6.out.trans (hB.out.mono hx6.out.size)⟩
      have hP7 : Kpt (wr.ownsRow w.heap.size 5 1 (.slice (some ⟨g2, 0, none⟩) (k * 24) k2) (k * 24) (cels (packL true bs))) := ⟨own_of_block hP6.out (fun q hq => hB.out.block q (World.ownsRow.lt hP6.out q hq).2)⟩
      clear hP6 hR6 hRl hB hx6
      obtain ⟨J, hJ⟩ : ∃ J : Nat, 1 + more % 23 = (J : Int) := ⟨(1 + more % 23).toNat, by omega⟩
      have hJ1 : 1 ≤ J ∧ J ≤ 23 := by omega
      have vmore : IntKind.i64.wrap more = more := by rw [IntKind.wrap_i64]; omega
      obtain ⟨N, hN⟩ : ∃ N, N = k * 24 := ⟨_, rfl⟩
      have hNm : N % 24 = 0 := by omega
      have hNb : N + 4096 ≤ 140737488355328 := by omega
      rw [← hN] at hP7 hpl1 ⊢
      clear hN hn hn0 hk
      have el2 : ¬ k < k := by omega
      go_wp2_with fail
      go_loopw [5, 11] (fun s t wq => ∃ j g c : Nat, j ≤ J ∧ s = .slice (some ⟨g, 0, none⟩) (N + j) c ∧ t = .int .i64 j ∧ Kpt (wq.ownsRow w.heap.size 5 1 (.slice (some ⟨g, 0, none⟩) (N + j) c) (N + j) (cels (packL true bs ++ List.replicate j 0))) ∧ Kpt (Below w.heap.size w wq)) (fun _ t _ => J - (intOf t).toNat)
      case atStart => exact ⟨0, g2, k2, Nat.zero_le _, rfl, rfl, ⟨by rw [List.replicate_zero, List.append_nil]; exact hP7.out⟩, hx7⟩
      case round =>
        obtain ⟨j, g, c, hj, rfl, rfl, ho, hB⟩ := hrel
        clear hP7 hx7
        by_cases hjl : j < J
        · have el3 : (j : Int) < J := by omega
          have hgl := World.ownsRow.lt ho.out g rfl
          have ho2 : Kpt ((wr.alloc (.cells #[.int .u8 0] 5)).ownsRow w.heap.size 5 1 (.slice (some ⟨g, 0, none⟩) (N + j) c) (N + j) (cels (packL true bs ++ List.replicate j 0))) := ⟨own_of_block ho.out (fun q hq => by cases hq; exact Below.heap_alloc _ _ _ hgl.2)⟩
          have hrC : Kpt (RdAt (wr.alloc (.cells #[.int .u8 0] 5)) (.slice (some ⟨wr.heap.size, 0, none⟩) 1 1) [0]) := ⟨own_rd (own_alloc wr wr.heap.size 1 0 [0] rfl rfl (by decide) (Nat.zero_le _))⟩
          have hBC : Kpt (Below w.heap.size w (wr.alloc (.cells #[.int .u8 0] 5))) := ⟨hB.out.alloc hB.out.size _⟩
          have hlk : Kpt ((packL true bs ++ List.replicate j 0).length = N + j) := ⟨by rw [List.length_append, hpl1.out, List.length_replicate]⟩
          have hnext : Kpt (packL true bs ++ List.replicate j 0 ++ [0] = packL true bs ++ List.replicate (j + 1) 0) := ⟨by rw [List.append_assoc, List.replicate_succ']⟩
          obtain ⟨Q, hQ⟩ : ∃ Q, Q = packL true bs ++ List.replicate j 0 := ⟨_, rfl⟩
          rw [← hQ] at ho2 hlk hnext
          obtain ⟨M, hM⟩ : ∃ M, M = N + j := ⟨_, rfl⟩
          have hM1 : Kpt (N + (j + 1) = M + 1) := ⟨by omega⟩
          have hMb : M + 1 ≤ 140737488355328 := by omega
          rw [← hM] at ho2 hlk ⊢
          clear ho hB hQ hM
          go_wp2_with (at_builtin; go_must (refine wpList_append_new rfl (.tmp 82) (.tmp 83) rfl w.heap.size _ _ Q [0] M (M + 1) rfl rfl ho2.out hrC.out (by decide) hlk.out rfl hMb hBC.out.size ?_; intro g4 k4 w4 ho4 hl4 hg4))
          go_roundw
          case rel => exact ⟨j + 1, g4, k4, by omega, by rw [hM1.out], by go_num, ⟨by rw [hM1.out, ← hnext.out]; exact ho4.out⟩, ⟨hBC.out.grown hg4.out hBC.out.size (fun q hq => by cases hq; exact hgl.1)⟩⟩
          case measure => simp [intOf]; omega
        · have el3 : ¬ (j : Int) < J := by omega
          obtain rfl : j = J := by omega
          obtain ⟨M, hM⟩ : ∃ M, M = N + j := ⟨_, rfl⟩
          have hMM : M ≤ maxLen := by unfold maxLen; omega
          have hMd : M % 24 ≠ 0 := by omega
          rw [← hM] at ho ⊢
          clear hM
          have HU := Kpt.mk (fun W => unpack_no_true (some ⟨g, 0, none⟩) M c W hMM hMd)
          clear hMM
          go_wp2_with (go_at_call 17; go_must (refine (HU.out _).mono ?_; rintro e x9 ⟨rfl, rfl⟩))
          go_ret
          exact ⟨rfl, hB.out⟩
end Go.Proofs.Ytcnjnebhidfogaa
