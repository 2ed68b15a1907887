/-
  The contracts of has, refuse. The contracts of act, answer, Do, in general. The contract of Do: commands that act, and reads. The contract of Do for reads. The contracts of device and bytes; Do of a write and of a read, whole. The contract of awake. The contract of differ. The contracts of compare, verify. The contracts of the document's Ends, At, Same. Bytes that came in; what blocks of bytes are; Verify and CompareWrite, whole. Blocks of bytes, packed again.
-/
import Derived.Test.YtklboieemljmiaaMV
import Derived.DeepKeys
namespace Go.Proofs.Ytklboieemljmiaa
open Go.RowKit
set_option linter.unusedVariables false
set_option linter.unusedSimpArgs false
theorem kblocks_any (w : World) (tag : Tags) (S B N : Nat) (f : ByteArray) (ca : Bool) (h : Sto w tag S B f N ca) : Calls Try.prog 40 #[.pointer (some ⟨S, 0, none⟩)] w fun e w' => e = .returned (.int .i64 N) ∧ w' = w := by
  have c2 := h.c2
  have hlt := h.lt
  clear h
  go_enter Try.func40, Try.ntmps40
  go_wp2
  go_ret
  exact ⟨rfl, rfl⟩
set_option maxHeartbeats 1000000 in
theorem dhas_any (w : World) (B : Nat) (tag : Tags) (st : St) (f : ByteArray) (S D N : Nat) (k : Int) (ca : Bool) (a b : Int) (h : Dv w B tag st f S D N k ca) (hN : N ≤ 4096) (ha : 0 ≤ a ∧ a < 9223372036854775808) (hb : 0 ≤ b ∧ b < 9223372036854775808) :
    Calls Try.prog 34 #[.pointer (some ⟨D, 0, none⟩), .int .u64 a, .int .u64 b] w fun e w' => e = .returned (.bool (decide (a + b ≤ N))) ∧ w' = w := by
  obtain ⟨d0, d1, dlt⟩ := dev_at h.bx
  have HB := Kpt.mk (kblocks_any w tag S B N f ca h.sto)
  have HW := Kpt.mk (within_any a b N w ha hb (by omega))
  have eN : IntKind.u64.wrap (N : Int) = N := by rw [IntKind.wrap_u64]; omega
  clear h
  go_enter Try.func34, Try.ntmps34
  go_wp2_with (first
      | (go_at_call 40; go_must (go_must (refine HB.out.mono ?_; rintro e w2 ⟨rfl, rfl⟩)))
      | (go_at_call 50; go_must (go_must (refine HW.out.mono ?_; rintro e w2 ⟨rfl, rfl⟩)))
      | fail)
  go_ret
  exact ⟨rfl, rfl⟩

set_option maxRecDepth 100000 in
set_option maxHeartbeats 1000000 in
theorem refuse_in (w : World) (B : Nat) (tag : Tags) (st : St) (f : ByteArray) (S D N : Nat) (k : Int) (ca : Bool) (l n : Nat) (c : Cm) (h : Dv w B tag st f S D N k ca) (hN : N ≤ 4096) (h0 : 0 ≤ k) (p0 : 0 ≤ c.pr) (hk : knownB k c.pr = true) (n13 : ¬ c.kd = 13) (n6 : ¬ c.kd = 6) (hl : c.lba = (l : Nat)) (hbl : c.bl = (n : Nat)) (hin : l + n ≤ N) :
    Calls Try.prog 24 #[.pointer (some ⟨D, 0, none⟩), .agg c.vals] w fun e w' => e = .returned (.agg noS.vals) ∧ Below w.heap.size w w' := by
  have hcm0 : ∀ (W : World) (b : Nat), Bx W b c.vals → W.cell? ⟨b, 0, none⟩ = some (.int .u8 c.kd) := fun W b h => (cm_at h).1
  have hcm2 : ∀ (W : World) (b : Nat), Bx W b c.vals → W.cell? ⟨b, 2, none⟩ = some (.int .u64 c.lba) := fun W b h => (cm_at h).2.2.1
  have hcm3 : ∀ (W : World) (b : Nat), Bx W b c.vals → W.cell? ⟨b, 3, none⟩ = some (.int .u64 c.bl) := fun W b h => (cm_at h).2.2.2.1
  have hcm6 : ∀ (W : World) (b : Nat), Bx W b c.vals → W.cell? ⟨b, 6, none⟩ = some (.int .u8 c.pr) := fun W b h => (cm_at h).2.2.2.2.2.2.1
  rw [hl] at hcm2
  rw [hbl] at hcm3
  have HKn := fun W => known_any k c.pr W h0 p0
  simp only [hk] at HKn
  have HH := fun W (h : Dv W B tag st f S D N k ca) => dhas_any W B tag st f S D N k ca l n h hN (by omega) (by omega)
  simp only [decide_eq_true (show (l : Int) + n ≤ N by omega)] at HH
  obtain ⟨kd, hkd⟩ : ∃ kd, kd = c.kd := ⟨_, rfl⟩
  obtain ⟨pr, hpr⟩ : ∃ pr, pr = c.pr := ⟨_, rfl⟩
  rw [← hkd] at hcm0 n13 n6
  rw [← hpr] at hcm6 HKn p0
  have b13 : (kd == 13) = false := by simpa using n13
  have b6 : (kd == 6) = false := by simpa using n6
  have hCs : c.vals.size = 15 := rfl
  obtain ⟨CV, hCV⟩ : ∃ CV, CV = c.vals := ⟨_, rfl⟩
  rw [← hCV] at hCs hcm0 hcm2 hcm3 hcm6  ⊢
  replace hcm0 := Kpt.mk hcm0
  replace hcm2 := Kpt.mk hcm2
  replace hcm3 := Kpt.mk hcm3
  replace hcm6 := Kpt.mk hcm6
  replace hCs := Kpt.mk hCs
  clear hCV
  have hSl := h.sto.lt
  have hDl := h.bx.lt
  have F := Kpt.mk h.fx
  have hb := Kpt.mk (Below.refl w.heap.size w)
  replace HKn := Kpt.mk HKn
  replace HH := Kpt.mk HH
  replace h := Kpt.mk h
  have dd := dev_at F.out.dv.bx
  clear hk hl hbl hkd hpr
  go_enter Try.func24, Try.ntmps24
  go_wp2_with (first
      | (have hm := m1; refine wpList_var rfl 32 rfl zeroS zeroSi ?_; intro br w_r hl_ hX_ h_; have q_c_r : bc < br := Nat.lt_of_lt_of_le Oc.out.bx.lt hl_; have Or := Kpt.mk (F.out.new hl_ hX_); replace Oc := Kpt.mk (Oc.out.below h_); replace F := Kpt.mk (F.out.below h_); replace x0 := hcm0.out _ _ Oc.out.bx; replace x2 := hcm2.out _ _ Oc.out.bx; replace x3 := hcm3.out _ _ Oc.out.bx; replace x6 := hcm6.out _ _ Oc.out.bx; replace dd := dev_at F.out.dv.bx; obtain ⟨d0, d1, dlt⟩ := dd; have dd := dev_at F.out.dv.bx; replace hb := Kpt.mk (hb.out.trans (h_.mono hb.out.size)); clear hl_ hX_ h_; clear hm m1; have m2 : Kpt True := ⟨trivial⟩)
      | (refine wpList_box rfl 38 _ rfl CV rfl ?_; intro bc w_c hl_ hX_ h_ _; have Oc := Kpt.mk (F.out.new hl_ hX_); replace F := Kpt.mk (F.out.below h_); replace dd := dev_at F.out.dv.bx; obtain ⟨d0, d1, dlt⟩ := dd; have dd := dev_at F.out.dv.bx; replace hb := Kpt.mk (hb.out.trans (h_.mono hb.out.size)); have x0 := hcm0.out _ _ Oc.out.bx; have x2 := hcm2.out _ _ Oc.out.bx; have x3 := hcm3.out _ _ Oc.out.bx; have x6 := hcm6.out _ _ Oc.out.bx; clear hl_ hX_ h_; have m1 : Kpt True := ⟨trivial⟩)
      | (refine wpList_load_bx rfl 38 _ rfl bc CV rfl Oc.out.bx _ Try.underlying38 rfl (by rw [hCs.out]; exact infoC) ?_)
      | fail)
  clear dd
  refine wp_region_any (by kernel_rfl) ?_
  refine wpAny_of_C (C := fun W => W.cell? ⟨D, 1, none⟩ = some (.int .u8 k) ∧ W.cell? ⟨bc, 6, none⟩ = some (.int .u8 pr) ∧ D < W.heap.size) _ _ _ _ ?_
  refine wpAnyC_take 0 (.pointer (some ⟨D, 0, none⟩)) rfl (by kernel_rfl) (by kernel_rfl) (by kernel_rfl) (fun _ _ _ h => h) (wanted_free rfl _) (fun W hW => by obtain ⟨q1, q2, q4⟩ := hW; go_simp) ?_
  try simp only [Act.put, List.getElem_toArray, List.getElem_cons_succ, List.getElem_cons_zero, List.setIfInBounds_toArray, List.set_cons_succ, List.set_cons_zero]
  refine wpAnyC_take 1 (.pointer (some ⟨D, 0, none⟩)) rfl (by kernel_rfl) (by kernel_rfl) (by kernel_rfl) (fun _ _ _ h => h) (wanted_free rfl _) (fun W hW => by obtain ⟨q1, q2, q4⟩ := hW; go_simp) ?_
  try simp only [Act.put, List.getElem_toArray, List.getElem_cons_succ, List.getElem_cons_zero, List.setIfInBounds_toArray, List.set_cons_succ, List.set_cons_zero]
  refine wpAnyC_take 2 (.pointer (some ⟨D, 1, none⟩)) rfl (by kernel_rfl) (by kernel_rfl) (by kernel_rfl) (fun _ _ _ h => h) (wanted_free rfl _) (fun W hW => by obtain ⟨q1, q2, q4⟩ := hW; go_simp) ?_
  try simp only [Act.put, List.getElem_toArray, List.getElem_cons_succ, List.getElem_cons_zero, List.setIfInBounds_toArray, List.set_cons_succ, List.set_cons_zero]
  refine wpAnyC_take 3 (.int .u8 k) rfl (by kernel_rfl) (by kernel_rfl) (by kernel_rfl) (fun _ _ _ h => h) (wanted_free rfl _) (fun W hW => by obtain ⟨q1, q2, q4⟩ := hW; go_simp) ?_
  try simp only [Act.put, List.getElem_toArray, List.getElem_cons_succ, List.getElem_cons_zero, List.setIfInBounds_toArray, List.set_cons_succ, List.set_cons_zero]
  refine wpAnyC_take 4 (.pointer (some ⟨bc, 6, none⟩)) rfl (by kernel_rfl) (by kernel_rfl) (by kernel_rfl) (fun _ _ _ h => h) (wanted_free rfl _) (fun W hW => by obtain ⟨q1, q2, q4⟩ := hW; go_simp) ?_
  try simp only [Act.put, List.getElem_toArray, List.getElem_cons_succ, List.getElem_cons_zero, List.setIfInBounds_toArray, List.set_cons_succ, List.set_cons_zero]
  refine wpAnyC_take 5 (.int .u8 pr) rfl (by kernel_rfl) (by kernel_rfl) (by kernel_rfl) (fun _ _ _ h => h) (wanted_free rfl _) (fun W hW => by obtain ⟨q1, q2, q4⟩ := hW; go_simp) ?_
  try simp only [Act.put, List.getElem_toArray, List.getElem_cons_succ, List.getElem_cons_zero, List.setIfInBounds_toArray, List.set_cons_succ, List.set_cons_zero]
  refine wpAnyC_one 6 (⟨d1, x6, dlt⟩) rfl (by kernel_rfl) (wanted_free rfl _) (fun KA hKA => ?_)
  go_simp
  refine (HKn.out _).mono ?_
  rintro e w3 ⟨rfl, h3⟩
  have h_ : Below w_r.heap.size w_r w3 := by rw [h3]; exact below_drew _
  clear h3
  refine hKA _ _ ?_
  clear hKA KA
  try simp only [Act.put, List.getElem_toArray, List.getElem_cons_succ, List.getElem_cons_zero, List.setIfInBounds_toArray, List.set_cons_succ, List.set_cons_zero]
  refine wpAnyC_take 7 (.bool false) rfl (by kernel_rfl) (by kernel_rfl) (by kernel_rfl) (fun _ _ _ h => h) (wanted_free rfl _) (fun W hW => by go_simp) ?_
  try simp only [Act.put, List.getElem_toArray, List.getElem_cons_succ, List.getElem_cons_zero, List.setIfInBounds_toArray, List.set_cons_succ, List.set_cons_zero]
  refine wpAnyC_take 8 (.bool false) rfl (by kernel_rfl) (by kernel_rfl) (by kernel_rfl) (fun _ _ _ h => h) (wanted_free rfl _) (fun W hW => by go_simp) ?_
  try simp only [Act.put, List.getElem_toArray, List.getElem_cons_succ, List.getElem_cons_zero, List.setIfInBounds_toArray, List.set_cons_succ, List.set_cons_zero]
  replace Oc := Kpt.mk (Oc.out.below h_)
  replace Or := Kpt.mk (Or.out.below h_)
  replace F := Kpt.mk (F.out.below h_)
  replace hb := Kpt.mk (hb.out.trans (h_.mono hb.out.size))
  refine wpAnyC_done (⟨(dev_at F.out.dv.bx).2.1, hcm6.out _ _ Oc.out.bx, (dev_at F.out.dv.bx).2.2⟩) (by kernel_rfl) ?_
  obtain ⟨d0', d1', dlt'⟩ := dev_at F.out.dv.bx
  replace x0 := hcm0.out _ _ Oc.out.bx
  replace x2 := hcm2.out _ _ Oc.out.bx
  replace x3 := hcm3.out _ _ Oc.out.bx
  clear h_ d0 d1 dlt x6
  go_wp2_with (first
      | (have hm := m3; refine wpList_store_bx rfl 32 _ _ rfl br _ (noS).vals rfl rfl Or.out.bx rfl infoS (Sn.vals_one _) rfl ?_; intro w4 hX_ hg_; replace hb := Kpt.mk (hb.out.trans (Below.ofGrown hg_ hb.out.size Or.out.lo)); replace Oc := Kpt.mk (Oc.out.other hg_ (by omega)); replace F := Kpt.mk (F.out.own Or.out hg_ hSl hDl); replace Or := Kpt.mk (Or.out.set hX_); clear hX_ hg_; clear hm m3; have m4 : Kpt True := ⟨trivial⟩)
      | (go_at_call 34; have hm := m2; go_must (refine (HH.out _ F.out.dv).mono ?_; rintro e w6 ⟨rfl, rfl⟩; clear hm m2; have m3 : Kpt True := ⟨trivial⟩))
      | (refine wpList_load_bx rfl 38 _ rfl bc CV rfl Oc.out.bx _ Try.underlying38 rfl (by rw [hCs.out]; exact infoC) ?_)
      | fail)
  refine bodyPost_ret (v := .agg (noS).vals) (by simp [results, Try.results24, asAddr, Act.put, res_run Or.out.bx]) rfl ⟨rfl, hb.out⟩

end Go.Proofs.Ytklboieemljmiaa

namespace Go.Proofs.Ytklboieemljmiaa
open Go.RowKit
set_option linter.unusedVariables false
set_option linter.unusedSimpArgs false
/-- What a call leaves of the world. -/
def Aft (w w' : World) (B : Nat) (tag : Tags) (st2 : St) : Prop := ∃ tag', Wd w' B tag' st2 ∧ Step w w' tag tag' (fun _ => True)
theorem Aft.pre {w W w' : World} {B : Nat} {tag : Tags} {st2 : St} (h : Aft W w' B tag st2) (hb : Below w.heap.size w W) : Aft w w' B tag st2 := by
  obtain ⟨t, h1, h2⟩ := h
  exact ⟨t, h1, (step_below hb tag _).trans h2⟩
def zeroR : Array Value := #[.int .u8 0, .int .u8 0, .int .u16 0, .int .u64 0, .bool false, .int .i64 0, .int .i64 0, .bool false, .bool false, .slice none 0 0]
def resV (q : Int) (s : Sn) (v : Value) : Array Value := #[.int .u8 q, .int .u8 s.key, .int .u16 s.code, .int .u64 s.info, .bool s.hi, .int .i64 s.field, .int .i64 s.bit, .bool s.hf, .bool s.ic, v]
theorem zeroRi : (Try.prog.info? 34).map (fun i => i.zero) = some (some (.agg zeroR)) := by kernel_rfl
theorem infoR : (Try.prog.info? 34).map (·.size) = some 10 := by kernel_rfl
theorem resV_one (q : Int) (s : Sn) (a : Option Addr) (n c : Nat) : (resV q s (.slice a n c)).all (·.oneCell') = true := by simp [resV, Value.oneCell']
theorem resR_run {w : World} {b : Nat} {q : Int} {s : Sn} {v : Value} (hB : Bx w b (resV q s v)) : (loadVar 34 ⟨b, 0, none⟩).run Try.prog w = .ok (.agg (resV q s v)) w := run_res hB 34 _ Try.underlying34 rfl infoR

set_option maxRecDepth 100000 in
set_option maxHeartbeats 1000000 in
theorem act_8 (w : World) (B : Nat) (tag : Tags) (st : St) (f : ByteArray) (S D N : Nat) (k : Int) (ca : Bool) (c : Cm) (p : Value) (s : Sn) (st2 : St) (h : Dv w B tag st f S D N k ca) (hkd : c.kd = 8)
    (H : ∀ W, Below w.heap.size w W → Calls Try.prog 43 #[.pointer (some ⟨D, 0, none⟩), .agg c.vals, p, .bool c.fua] W fun e w' => e = .returned (.agg s.vals) ∧ Aft W w' B tag st2) :
    Calls Try.prog 29 #[.pointer (some ⟨D, 0, none⟩), .agg c.vals, p] w fun e w' => e = .returned (.agg s.vals) ∧ Aft w w' B tag st2 := by
  have hcm0 : ∀ (W : World) (b : Nat), Bx W b c.vals → W.cell? ⟨b, 0, none⟩ = some (.int .u8 c.kd) := fun W b h => (cm_at h).1
  have hcm5 : ∀ (W : World) (b : Nat), Bx W b c.vals → W.cell? ⟨b, 5, none⟩ = some (.bool c.fua) := fun W b h => (cm_at h).2.2.2.2.2.1
  rw [hkd] at hcm0
  obtain ⟨fua, hfua⟩ : ∃ fua, fua = c.fua := ⟨_, rfl⟩
  rw [← hfua] at hcm5 H
  have hCs : c.vals.size = 15 := rfl
  obtain ⟨CV, hCV⟩ : ∃ CV, CV = c.vals := ⟨_, rfl⟩
  rw [← hCV] at hCs hcm0 hcm5 H ⊢
  replace hcm0 := Kpt.mk hcm0
  replace hcm5 := Kpt.mk hcm5
  replace hCs := Kpt.mk hCs
  clear hCV
  have hSl := h.sto.lt
  have hDl := h.bx.lt
  have F := Kpt.mk h.fx
  have hb := Kpt.mk (Below.refl w.heap.size w)
  replace H := Kpt.mk H
  replace h := Kpt.mk h
  clear hkd hfua
  go_enter Try.func29, Try.ntmps29
  go_wp2_with (first
      | (have hm := m3; refine wpList_store_bx rfl 32 _ _ rfl br _ (s).vals rfl rfl Or.out.bx rfl infoS (Sn.vals_one _) rfl ?_; intro w4 hX_ hg_; replace Oc := Kpt.mk (Oc.out.other hg_ (by omega)); replace F := Kpt.mk (F.out.own Or.out hg_ hSl hDl); replace Or := Kpt.mk (Or.out.set hX_); replace x0 := hcm0.out _ _ Oc.out.bx; replace x5 := hcm5.out _ _ Oc.out.bx; clear hX_ hg_; clear hm m3; have m4 : Kpt True := ⟨trivial⟩)
      | (go_at_call 43; have hm := m2; go_must (refine (H.out _ hb.out).mono ?_; rintro e w5 ⟨rfl, tag5, hW_, s_⟩; replace Oc := Kpt.mk (Oc.out.call s_); replace Or := Kpt.mk (Or.out.call s_); replace F := Kpt.mk (F.out.call hW_ s_); replace x0 := hcm0.out _ _ Oc.out.bx; replace x5 := hcm5.out _ _ Oc.out.bx; clear hW_ s_; clear hm m2; have m3 : Kpt True := ⟨trivial⟩))
      | (have hm := m1; refine wpList_var rfl 32 rfl zeroS zeroSi ?_; intro br w_r hl_ hX_ h_; have q_c_r : bc < br := Nat.lt_of_lt_of_le Oc.out.bx.lt hl_; have Or := Kpt.mk (F.out.new hl_ hX_); replace Oc := Kpt.mk (Oc.out.below h_); replace F := Kpt.mk (F.out.below h_); replace x0 := hcm0.out _ _ Oc.out.bx; replace x5 := hcm5.out _ _ Oc.out.bx; replace hb := Kpt.mk (hb.out.trans (h_.mono hb.out.size)); clear hl_ hX_ h_; clear hm m1; have m2 : Kpt True := ⟨trivial⟩)
      | (refine wpList_box rfl 38 _ rfl CV rfl ?_; intro bc w_c hl_ hX_ h_ _; have Oc := Kpt.mk (F.out.new hl_ hX_); replace F := Kpt.mk (F.out.below h_); replace hb := Kpt.mk (hb.out.trans (h_.mono hb.out.size)); have x0 := hcm0.out _ _ Oc.out.bx; have x5 := hcm5.out _ _ Oc.out.bx; clear hl_ hX_ h_; have m1 : Kpt True := ⟨trivial⟩)
      | (refine wpList_load_bx rfl 38 _ rfl bc CV rfl Oc.out.bx _ Try.underlying38 rfl (by rw [hCs.out]; exact infoC) ?_)
      | fail)
  refine bodyPost_ret (v := .agg (s).vals) (by simp [results, Try.results29, asAddr, Act.put, res_run Or.out.bx]) rfl ⟨rfl, _, F.out.dv.wd, F.out.st⟩

set_option maxRecDepth 100000 in
set_option maxHeartbeats 1000000 in
theorem act_9 (w : World) (B : Nat) (tag : Tags) (st : St) (f : ByteArray) (S D N : Nat) (k : Int) (ca : Bool) (c : Cm) (p : Value) (s : Sn) (st2 : St) (h : Dv w B tag st f S D N k ca) (hkd : c.kd = 9)
    (H : ∀ W, Below w.heap.size w W → Calls Try.prog 43 #[.pointer (some ⟨D, 0, none⟩), .agg c.vals, p, .bool true] W fun e w' => e = .returned (.agg s.vals) ∧ Aft W w' B tag st2) :
    Calls Try.prog 29 #[.pointer (some ⟨D, 0, none⟩), .agg c.vals, p] w fun e w' => e = .returned (.agg s.vals) ∧ Aft w w' B tag st2 := by
  have hcm0 : ∀ (W : World) (b : Nat), Bx W b c.vals → W.cell? ⟨b, 0, none⟩ = some (.int .u8 c.kd) := fun W b h => (cm_at h).1
  have hcm5 : ∀ (W : World) (b : Nat), Bx W b c.vals → W.cell? ⟨b, 5, none⟩ = some (.bool c.fua) := fun W b h => (cm_at h).2.2.2.2.2.1
  rw [hkd] at hcm0
  obtain ⟨fua, hfua⟩ : ∃ fua, fua = c.fua := ⟨_, rfl⟩
  rw [← hfua] at hcm5 
  have hCs : c.vals.size = 15 := rfl
  obtain ⟨CV, hCV⟩ : ∃ CV, CV = c.vals := ⟨_, rfl⟩
  rw [← hCV] at hCs hcm0 hcm5 H ⊢
  replace hcm0 := Kpt.mk hcm0
  replace hcm5 := Kpt.mk hcm5
  replace hCs := Kpt.mk hCs
  clear hCV
  have hSl := h.sto.lt
  have hDl := h.bx.lt
  have F := Kpt.mk h.fx
  have hb := Kpt.mk (Below.refl w.heap.size w)
  replace H := Kpt.mk H
  replace h := Kpt.mk h
  clear hkd hfua
  go_enter Try.func29, Try.ntmps29
  go_wp2_with (first
      | (have hm := m3; refine wpList_store_bx rfl 32 _ _ rfl br _ (s).vals rfl rfl Or.out.bx rfl infoS (Sn.vals_one _) rfl ?_; intro w4 hX_ hg_; replace Oc := Kpt.mk (Oc.out.other hg_ (by omega)); replace F := Kpt.mk (F.out.own Or.out hg_ hSl hDl); replace Or := Kpt.mk (Or.out.set hX_); replace x0 := hcm0.out _ _ Oc.out.bx; replace x5 := hcm5.out _ _ Oc.out.bx; clear hX_ hg_; clear hm m3; have m4 : Kpt True := ⟨trivial⟩)
      | (go_at_call 43; have hm := m2; go_must (refine (H.out _ hb.out).mono ?_; rintro e w5 ⟨rfl, tag5, hW_, s_⟩; replace Oc := Kpt.mk (Oc.out.call s_); replace Or := Kpt.mk (Or.out.call s_); replace F := Kpt.mk (F.out.call hW_ s_); replace x0 := hcm0.out _ _ Oc.out.bx; replace x5 := hcm5.out _ _ Oc.out.bx; clear hW_ s_; clear hm m2; have m3 : Kpt True := ⟨trivial⟩))
      | (have hm := m1; refine wpList_var rfl 32 rfl zeroS zeroSi ?_; intro br w_r hl_ hX_ h_; have q_c_r : bc < br := Nat.lt_of_lt_of_le Oc.out.bx.lt hl_; have Or := Kpt.mk (F.out.new hl_ hX_); replace Oc := Kpt.mk (Oc.out.below h_); replace F := Kpt.mk (F.out.below h_); replace x0 := hcm0.out _ _ Oc.out.bx; replace x5 := hcm5.out _ _ Oc.out.bx; replace hb := Kpt.mk (hb.out.trans (h_.mono hb.out.size)); clear hl_ hX_ h_; clear hm m1; have m2 : Kpt True := ⟨trivial⟩)
      | (refine wpList_box rfl 38 _ rfl CV rfl ?_; intro bc w_c hl_ hX_ h_ _; have Oc := Kpt.mk (F.out.new hl_ hX_); replace F := Kpt.mk (F.out.below h_); replace hb := Kpt.mk (hb.out.trans (h_.mono hb.out.size)); have x0 := hcm0.out _ _ Oc.out.bx; have x5 := hcm5.out _ _ Oc.out.bx; clear hl_ hX_ h_; have m1 : Kpt True := ⟨trivial⟩)
      | (refine wpList_load_bx rfl 38 _ rfl bc CV rfl Oc.out.bx _ Try.underlying38 rfl (by rw [hCs.out]; exact infoC) ?_)
      | fail)
  refine bodyPost_ret (v := .agg (s).vals) (by simp [results, Try.results29, asAddr, Act.put, res_run Or.out.bx]) rfl ⟨rfl, _, F.out.dv.wd, F.out.st⟩

set_option maxRecDepth 100000 in
set_option maxHeartbeats 1000000 in
theorem act_10 (w : World) (B : Nat) (tag : Tags) (st : St) (f : ByteArray) (S D N : Nat) (k : Int) (ca : Bool) (c : Cm) (p : Value) (s : Sn) (st2 : St) (h : Dv w B tag st f S D N k ca) (hkd : c.kd = 10)
    (H : ∀ W, Below w.heap.size w W → Calls Try.prog 44 #[.pointer (some ⟨D, 0, none⟩), .agg c.vals, p] W fun e w' => e = .returned (.agg s.vals) ∧ Aft W w' B tag st2) :
    Calls Try.prog 29 #[.pointer (some ⟨D, 0, none⟩), .agg c.vals, p] w fun e w' => e = .returned (.agg s.vals) ∧ Aft w w' B tag st2 := by
  have hcm0 : ∀ (W : World) (b : Nat), Bx W b c.vals → W.cell? ⟨b, 0, none⟩ = some (.int .u8 c.kd) := fun W b h => (cm_at h).1
  have hcm5 : ∀ (W : World) (b : Nat), Bx W b c.vals → W.cell? ⟨b, 5, none⟩ = some (.bool c.fua) := fun W b h => (cm_at h).2.2.2.2.2.1
  rw [hkd] at hcm0
  obtain ⟨fua, hfua⟩ : ∃ fua, fua = c.fua := ⟨_, rfl⟩
  rw [← hfua] at hcm5 
  have hCs : c.vals.size = 15 := rfl
  obtain ⟨CV, hCV⟩ : ∃ CV, CV = c.vals := ⟨_, rfl⟩
  rw [← hCV] at hCs hcm0 hcm5 H ⊢
  replace hcm0 := Kpt.mk hcm0
  replace hcm5 := Kpt.mk hcm5
  replace hCs := Kpt.mk hCs
  clear hCV
  have hSl := h.sto.lt
  have hDl := h.bx.lt
  have F := Kpt.mk h.fx
  have hb := Kpt.mk (Below.refl w.heap.size w)
  replace H := Kpt.mk H
  replace h := Kpt.mk h
  clear hkd hfua
  go_enter Try.func29, Try.ntmps29
  go_wp2_with (first
      | (have hm := m3; refine wpList_store_bx rfl 32 _ _ rfl br _ (s).vals rfl rfl Or.out.bx rfl infoS (Sn.vals_one _) rfl ?_; intro w4 hX_ hg_; replace Oc := Kpt.mk (Oc.out.other hg_ (by omega)); replace F := Kpt.mk (F.out.own Or.out hg_ hSl hDl); replace Or := Kpt.mk (Or.out.set hX_); replace x0 := hcm0.out _ _ Oc.out.bx; replace x5 := hcm5.out _ _ Oc.out.bx; clear hX_ hg_; clear hm m3; have m4 : Kpt True := ⟨trivial⟩)
      | (go_at_call 44; have hm := m2; go_must (refine (H.out _ hb.out).mono ?_; rintro e w5 ⟨rfl, tag5, hW_, s_⟩; replace Oc := Kpt.mk (Oc.out.call s_); replace Or := Kpt.mk (Or.out.call s_); replace F := Kpt.mk (F.out.call hW_ s_); replace x0 := hcm0.out _ _ Oc.out.bx; replace x5 := hcm5.out _ _ Oc.out.bx; clear hW_ s_; clear hm m2; have m3 : Kpt True := ⟨trivial⟩))
      | (have hm := m1; refine wpList_var rfl 32 rfl zeroS zeroSi ?_; intro br w_r hl_ hX_ h_; have q_c_r : bc < br := Nat.lt_of_lt_of_le Oc.out.bx.lt hl_; have Or := Kpt.mk (F.out.new hl_ hX_); replace Oc := Kpt.mk (Oc.out.below h_); replace F := Kpt.mk (F.out.below h_); replace x0 := hcm0.out _ _ Oc.out.bx; replace x5 := hcm5.out _ _ Oc.out.bx; replace hb := Kpt.mk (hb.out.trans (h_.mono hb.out.size)); clear hl_ hX_ h_; clear hm m1; have m2 : Kpt True := ⟨trivial⟩)
      | (refine wpList_box rfl 38 _ rfl CV rfl ?_; intro bc w_c hl_ hX_ h_ _; have Oc := Kpt.mk (F.out.new hl_ hX_); replace F := Kpt.mk (F.out.below h_); replace hb := Kpt.mk (hb.out.trans (h_.mono hb.out.size)); have x0 := hcm0.out _ _ Oc.out.bx; have x5 := hcm5.out _ _ Oc.out.bx; clear hl_ hX_ h_; have m1 : Kpt True := ⟨trivial⟩)
      | (refine wpList_load_bx rfl 38 _ rfl bc CV rfl Oc.out.bx _ Try.underlying38 rfl (by rw [hCs.out]; exact infoC) ?_)
      | fail)
  refine bodyPost_ret (v := .agg (s).vals) (by simp [results, Try.results29, asAddr, Act.put, res_run Or.out.bx]) rfl ⟨rfl, _, F.out.dv.wd, F.out.st⟩

set_option maxRecDepth 100000 in
set_option maxHeartbeats 1000000 in
theorem act_12 (w : World) (B : Nat) (tag : Tags) (st : St) (f : ByteArray) (S D N : Nat) (k : Int) (ca : Bool) (c : Cm) (p : Value) (s : Sn) (st2 : St) (h : Dv w B tag st f S D N k ca) (hkd : c.kd = 12)
    (H : ∀ W, Below w.heap.size w W → Calls Try.prog 46 #[.pointer (some ⟨D, 0, none⟩), .agg c.vals, p] W fun e w' => e = .returned (.agg s.vals) ∧ Aft W w' B tag st2) :
    Calls Try.prog 29 #[.pointer (some ⟨D, 0, none⟩), .agg c.vals, p] w fun e w' => e = .returned (.agg s.vals) ∧ Aft w w' B tag st2 := by
  have hcm0 : ∀ (W : World) (b : Nat), Bx W b c.vals → W.cell? ⟨b, 0, none⟩ = some (.int .u8 c.kd) := fun W b h => (cm_at h).1
  have hcm5 : ∀ (W : World) (b : Nat), Bx W b c.vals → W.cell? ⟨b, 5, none⟩ = some (.bool c.fua) := fun W b h => (cm_at h).2.2.2.2.2.1
  rw [hkd] at hcm0
  obtain ⟨fua, hfua⟩ : ∃ fua, fua = c.fua := ⟨_, rfl⟩
  rw [← hfua] at hcm5 
  have hCs : c.vals.size = 15 := rfl
  obtain ⟨CV, hCV⟩ : ∃ CV, CV = c.vals := ⟨_, rfl⟩
  rw [← hCV] at hCs hcm0 hcm5 H ⊢
  replace hcm0 := Kpt.mk hcm0
  replace hcm5 := Kpt.mk hcm5
  replace hCs := Kpt.mk hCs
  clear hCV
  have hSl := h.sto.lt
  have hDl := h.bx.lt
  have F := Kpt.mk h.fx
  have hb := Kpt.mk (Below.refl w.heap.size w)
  replace H := Kpt.mk H
  replace h := Kpt.mk h
  clear hkd hfua
  go_enter Try.func29, Try.ntmps29
  go_wp2_with (first
      | (have hm := m3; refine wpList_store_bx rfl 32 _ _ rfl br _ (s).vals rfl rfl Or.out.bx rfl infoS (Sn.vals_one _) rfl ?_; intro w4 hX_ hg_; replace Oc := Kpt.mk (Oc.out.other hg_ (by omega)); replace F := Kpt.mk (F.out.own Or.out hg_ hSl hDl); replace Or := Kpt.mk (Or.out.set hX_); replace x0 := hcm0.out _ _ Oc.out.bx; replace x5 := hcm5.out _ _ Oc.out.bx; clear hX_ hg_; clear hm m3; have m4 : Kpt True := ⟨trivial⟩)
      | (go_at_call 46; have hm := m2; go_must (refine (H.out _ hb.out).mono ?_; rintro e w5 ⟨rfl, tag5, hW_, s_⟩; replace Oc := Kpt.mk (Oc.out.call s_); replace Or := Kpt.mk (Or.out.call s_); replace F := Kpt.mk (F.out.call hW_ s_); replace x0 := hcm0.out _ _ Oc.out.bx; replace x5 := hcm5.out _ _ Oc.out.bx; clear hW_ s_; clear hm m2; have m3 : Kpt True := ⟨trivial⟩))
      | (have hm := m1; refine wpList_var rfl 32 rfl zeroS zeroSi ?_; intro br w_r hl_ hX_ h_; have q_c_r : bc < br := Nat.lt_of_lt_of_le Oc.out.bx.lt hl_; have Or := Kpt.mk (F.out.new hl_ hX_); replace Oc := Kpt.mk (Oc.out.below h_); replace F := Kpt.mk (F.out.below h_); replace x0 := hcm0.out _ _ Oc.out.bx; replace x5 := hcm5.out _ _ Oc.out.bx; replace hb := Kpt.mk (hb.out.trans (h_.mono hb.out.size)); clear hl_ hX_ h_; clear hm m1; have m2 : Kpt True := ⟨trivial⟩)
      | (refine wpList_box rfl 38 _ rfl CV rfl ?_; intro bc w_c hl_ hX_ h_ _; have Oc := Kpt.mk (F.out.new hl_ hX_); replace F := Kpt.mk (F.out.below h_); replace hb := Kpt.mk (hb.out.trans (h_.mono hb.out.size)); have x0 := hcm0.out _ _ Oc.out.bx; have x5 := hcm5.out _ _ Oc.out.bx; clear hl_ hX_ h_; have m1 : Kpt True := ⟨trivial⟩)
      | (refine wpList_load_bx rfl 38 _ rfl bc CV rfl Oc.out.bx _ Try.underlying38 rfl (by rw [hCs.out]; exact infoC) ?_)
      | fail)
  refine bodyPost_ret (v := .agg (s).vals) (by simp [results, Try.results29, asAddr, Act.put, res_run Or.out.bx]) rfl ⟨rfl, _, F.out.dv.wd, F.out.st⟩

set_option maxRecDepth 100000 in
set_option maxHeartbeats 1000000 in
theorem act_14 (w : World) (B : Nat) (tag : Tags) (st : St) (f : ByteArray) (S D N : Nat) (k : Int) (ca : Bool) (c : Cm) (p : Value) (s : Sn) (st2 : St) (h : Dv w B tag st f S D N k ca) (hkd : c.kd = 14)
    (H : ∀ W, Below w.heap.size w W → Calls Try.prog 48 #[.pointer (some ⟨D, 0, none⟩), .agg c.vals, p] W fun e w' => e = .returned (.agg s.vals) ∧ Aft W w' B tag st2) :
    Calls Try.prog 29 #[.pointer (some ⟨D, 0, none⟩), .agg c.vals, p] w fun e w' => e = .returned (.agg s.vals) ∧ Aft w w' B tag st2 := by
  have hcm0 : ∀ (W : World) (b : Nat), Bx W b c.vals → W.cell? ⟨b, 0, none⟩ = some (.int .u8 c.kd) := fun W b h => (cm_at h).1
  have hcm5 : ∀ (W : World) (b : Nat), Bx W b c.vals → W.cell? ⟨b, 5, none⟩ = some (.bool c.fua) := fun W b h => (cm_at h).2.2.2.2.2.1
  rw [hkd] at hcm0
  obtain ⟨fua, hfua⟩ : ∃ fua, fua = c.fua := ⟨_, rfl⟩
  rw [← hfua] at hcm5 
  have hCs : c.vals.size = 15 := rfl
  obtain ⟨CV, hCV⟩ : ∃ CV, CV = c.vals := ⟨_, rfl⟩
  rw [← hCV] at hCs hcm0 hcm5 H ⊢
  replace hcm0 := Kpt.mk hcm0
  replace hcm5 := Kpt.mk hcm5
  replace hCs := Kpt.mk hCs
  clear hCV
  have hSl := h.sto.lt
  have hDl := h.bx.lt
  have F := Kpt.mk h.fx
  have hb := Kpt.mk (Below.refl w.heap.size w)
  replace H := Kpt.mk H
  replace h := Kpt.mk h
  clear hkd hfua
  go_enter Try.func29, Try.ntmps29
  go_wp2_with (first
      | (have hm := m3; refine wpList_store_bx rfl 32 _ _ rfl br _ (s).vals rfl rfl Or.out.bx rfl infoS (Sn.vals_one _) rfl ?_; intro w4 hX_ hg_; replace Oc := Kpt.mk (Oc.out.other hg_ (by omega)); replace F := Kpt.mk (F.out.own Or.out hg_ hSl hDl); replace Or := Kpt.mk (Or.out.set hX_); replace x0 := hcm0.out _ _ Oc.out.bx; replace x5 := hcm5.out _ _ Oc.out.bx; clear hX_ hg_; clear hm m3; have m4 : Kpt True := ⟨trivial⟩)
      | (go_at_call 48; have hm := m2; go_must (refine (H.out _ hb.out).mono ?_; rintro e w5 ⟨rfl, tag5, hW_, s_⟩; replace Oc := Kpt.mk (Oc.out.call s_); replace Or := Kpt.mk (Or.out.call s_); replace F := Kpt.mk (F.out.call hW_ s_); replace x0 := hcm0.out _ _ Oc.out.bx; replace x5 := hcm5.out _ _ Oc.out.bx; clear hW_ s_; clear hm m2; have m3 : Kpt True := ⟨trivial⟩))
      | (have hm := m1; refine wpList_var rfl 32 rfl zeroS zeroSi ?_; intro br w_r hl_ hX_ h_; have q_c_r : bc < br := Nat.lt_of_lt_of_le Oc.out.bx.lt hl_; have Or := Kpt.mk (F.out.new hl_ hX_); replace Oc := Kpt.mk (Oc.out.below h_); replace F := Kpt.mk (F.out.below h_); replace x0 := hcm0.out _ _ Oc.out.bx; replace x5 := hcm5.out _ _ Oc.out.bx; replace hb := Kpt.mk (hb.out.trans (h_.mono hb.out.size)); clear hl_ hX_ h_; clear hm m1; have m2 : Kpt True := ⟨trivial⟩)
      | (refine wpList_box rfl 38 _ rfl CV rfl ?_; intro bc w_c hl_ hX_ h_ _; have Oc := Kpt.mk (F.out.new hl_ hX_); replace F := Kpt.mk (F.out.below h_); replace hb := Kpt.mk (hb.out.trans (h_.mono hb.out.size)); have x0 := hcm0.out _ _ Oc.out.bx; have x5 := hcm5.out _ _ Oc.out.bx; clear hl_ hX_ h_; have m1 : Kpt True := ⟨trivial⟩)
      | (refine wpList_load_bx rfl 38 _ rfl bc CV rfl Oc.out.bx _ Try.underlying38 rfl (by rw [hCs.out]; exact infoC) ?_)
      | fail)
  refine bodyPost_ret (v := .agg (s).vals) (by simp [results, Try.results29, asAddr, Act.put, res_run Or.out.bx]) rfl ⟨rfl, _, F.out.dv.wd, F.out.st⟩

set_option maxRecDepth 100000 in
set_option maxHeartbeats 1000000 in
theorem answer_act (w : World) (B : Nat) (tag : Tags) (st : St) (f : ByteArray) (S D N : Nat) (k : Int) (ca : Bool) (c : Cm) (p : Value) (s : Sn) (st2 : St) (h : Dv w B tag st f S D N k ca) (n7 : ¬ c.kd = 7) (n6 : ¬ c.kd = 6)
    (HR : ∀ W, Below w.heap.size w W → Calls Try.prog 24 #[.pointer (some ⟨D, 0, none⟩), .agg c.vals] W fun e w' => e = .returned (.agg noS.vals) ∧ Below W.heap.size W w')
    (H : ∀ W, Below w.heap.size w W → Calls Try.prog 29 #[.pointer (some ⟨D, 0, none⟩), .agg c.vals, p] W fun e w' => e = .returned (.agg s.vals) ∧ Aft W w' B tag st2) :
    Calls Try.prog 21 #[.pointer (some ⟨D, 0, none⟩), .agg c.vals, p] w fun e w' => e = .returned (.tuple #[.slice none 0 0, .agg s.vals]) ∧ Aft w w' B tag st2 := by
  have hcm0 : ∀ (W : World) (b : Nat), Bx W b c.vals → W.cell? ⟨b, 0, none⟩ = some (.int .u8 c.kd) := fun W b h => (cm_at h).1
  obtain ⟨kd, hkd⟩ : ∃ kd, kd = c.kd := ⟨_, rfl⟩
  rw [← hkd] at hcm0 n7 n6
  have HE := fun W => ended_any noS W
  simp only [show (noS.key != 0) = false from rfl] at HE
  have hCs : c.vals.size = 15 := rfl
  obtain ⟨CV, hCV⟩ : ∃ CV, CV = c.vals := ⟨_, rfl⟩
  rw [← hCV] at hCs hcm0 HR H ⊢
  replace hcm0 := Kpt.mk hcm0
  replace hCs := Kpt.mk hCs
  clear hCV
  have hSl := h.sto.lt
  have hDl := h.bx.lt
  have F := Kpt.mk h.fx
  have hb := Kpt.mk (Below.refl w.heap.size w)
  replace H := Kpt.mk H
  replace HR := Kpt.mk HR
  replace HE := Kpt.mk HE
  replace h := Kpt.mk h
  clear hkd
  go_enter Try.func21, Try.ntmps21
  go_wp2_with (first
      | (have hm := m7; refine wpList_store_bx rfl 32 _ _ rfl br _ (s).vals rfl rfl Or.out.bx rfl infoS (Sn.vals_one _) rfl ?_; intro w8 hX_ hg_; replace Oc := Kpt.mk (Oc.out.other hg_ (by omega)); replace Ov := Kpt.mk (Ov.out.other hg_ (by omega)); replace F := Kpt.mk (F.out.own Or.out hg_ hSl hDl); replace Or := Kpt.mk (Or.out.set hX_); replace x0 := hcm0.out _ _ Oc.out.bx; clear hX_ hg_; clear hm m7; have m8 : Kpt True := ⟨trivial⟩)
      | (go_at_call 29; have hm := m6; go_must (refine (H.out _ hb.out).mono ?_; rintro e w5 ⟨rfl, tag5, hW_, s_⟩; replace Oc := Kpt.mk (Oc.out.call s_); replace Or := Kpt.mk (Or.out.call s_); replace Ov := Kpt.mk (Ov.out.call s_); replace F := Kpt.mk (F.out.call hW_ s_); replace x0 := hcm0.out _ _ Oc.out.bx; clear hW_ s_; clear hm m6; have m7 : Kpt True := ⟨trivial⟩))
      | (go_at_call 22; have hm := m5; go_must (refine (HE.out _).mono ?_; rintro e w4 ⟨rfl, h_⟩; replace Oc := Kpt.mk (Oc.out.below h_); replace Or := Kpt.mk (Or.out.below h_); replace Ov := Kpt.mk (Ov.out.below h_); replace F := Kpt.mk (F.out.below h_); replace x0 := hcm0.out _ _ Oc.out.bx; replace hb := Kpt.mk (hb.out.trans (h_.mono hb.out.size)); clear h_; clear hm m5; have m6 : Kpt True := ⟨trivial⟩))
      | (have hm := m4; refine wpList_store_bx rfl 32 _ _ rfl bv _ (noS).vals rfl rfl Ov.out.bx rfl infoS (Sn.vals_one _) rfl ?_; intro w5 hX_ hg_; replace hb := Kpt.mk (hb.out.trans (Below.ofGrown hg_ hb.out.size Ov.out.lo)); replace Oc := Kpt.mk (Oc.out.other hg_ (by omega)); replace Or := Kpt.mk (Or.out.other hg_ (by omega)); replace F := Kpt.mk (F.out.own Ov.out hg_ hSl hDl); replace Ov := Kpt.mk (Ov.out.set hX_); replace x0 := hcm0.out _ _ Oc.out.bx; clear hX_ hg_; clear hm m4; have m5 : Kpt True := ⟨trivial⟩)
      | (have hm := m3; refine wpList_var rfl 32 rfl zeroS zeroSi ?_; intro bv w_v hl_ hX_ h_; have q_c_v : bc < bv := Nat.lt_of_lt_of_le Oc.out.bx.lt hl_; have q_r_v : br < bv := Nat.lt_of_lt_of_le Or.out.bx.lt hl_; have Ov := Kpt.mk (F.out.new hl_ hX_); replace Oc := Kpt.mk (Oc.out.below h_); replace Or := Kpt.mk (Or.out.below h_); replace F := Kpt.mk (F.out.below h_); replace x0 := hcm0.out _ _ Oc.out.bx; replace hb := Kpt.mk (hb.out.trans (h_.mono hb.out.size)); clear hl_ hX_ h_; clear hm m3; have m4 : Kpt True := ⟨trivial⟩)
      | (go_at_call 24; have hm := m2; go_must (refine (HR.out _ hb.out).mono ?_; rintro e w3 ⟨rfl, h_⟩; replace Oc := Kpt.mk (Oc.out.below h_); replace Or := Kpt.mk (Or.out.below h_); replace F := Kpt.mk (F.out.below h_); replace x0 := hcm0.out _ _ Oc.out.bx; replace hb := Kpt.mk (hb.out.trans (h_.mono hb.out.size)); clear h_; clear hm m2; have m3 : Kpt True := ⟨trivial⟩))
      | (have hm := m1; refine wpList_var rfl 32 rfl zeroS zeroSi ?_; intro br w_r hl_ hX_ h_; have q_c_r : bc < br := Nat.lt_of_lt_of_le Oc.out.bx.lt hl_; have Or := Kpt.mk (F.out.new hl_ hX_); replace Oc := Kpt.mk (Oc.out.below h_); replace F := Kpt.mk (F.out.below h_); replace x0 := hcm0.out _ _ Oc.out.bx; replace hb := Kpt.mk (hb.out.trans (h_.mono hb.out.size)); clear hl_ hX_ h_; clear hm m1; have m2 : Kpt True := ⟨trivial⟩)
      | (refine wpList_box rfl 38 _ rfl CV rfl ?_; intro bc w_c hl_ hX_ h_ _; have Oc := Kpt.mk (F.out.new hl_ hX_); replace F := Kpt.mk (F.out.below h_); replace hb := Kpt.mk (hb.out.trans (h_.mono hb.out.size)); have x0 := hcm0.out _ _ Oc.out.bx; clear hl_ hX_ h_; have m1 : Kpt True := ⟨trivial⟩)
      | (refine wpList_load_bx rfl 38 _ rfl bc CV rfl Oc.out.bx _ Try.underlying38 rfl (by rw [hCs.out]; exact infoC) ?_)
      | (refine wpList_load_bx rfl 32 _ rfl bv (noS).vals rfl Ov.out.bx _ Try.underlying32 rfl infoS ?_)
      | fail)
  refine bodyPost_ret (v := .tuple #[.slice none 0 0, .agg s.vals]) (by simp [results, Try.results21, asAddr, Act.put, res_run Or.out.bx]) rfl ⟨rfl, _, F.out.dv.wd, F.out.st⟩

end Go.Proofs.Ytklboieemljmiaa

namespace Go.Proofs.Ytklboieemljmiaa
open Go.RowKit
set_option linter.unusedVariables false
set_option linter.unusedSimpArgs false
set_option maxRecDepth 100000 in
set_option maxHeartbeats 1000000 in
theorem do_0 (w : World) (B : Nat) (tag : Tags) (st : St) (f : ByteArray) (S D N : Nat) (k : Int) (ca : Bool) (c : Cm) (p : Value)  (st2 : St) (h : Dv w B tag st f S D N k ca)
    (H : ∀ W, Below w.heap.size w W → Calls Try.prog 21 #[.pointer (some ⟨D, 0, none⟩), .agg c.vals, p] W fun e w' => e = .returned (.tuple #[.slice none 0 0, .agg (noS).vals]) ∧ Aft W w' B tag st2) :
    Calls Try.prog 11 #[.pointer (some ⟨D, 0, none⟩), .agg c.vals, p] w fun e w' => e = .returned (.agg (resV 0 noS (.slice none 0 0))) ∧ Aft w w' B tag st2 := by
  have HE := fun W => ended_any noS W
  simp only [show (noS.key != 0) = false from rfl] at HE
  have hCs : c.vals.size = 15 := rfl
  obtain ⟨CV, hCV⟩ : ∃ CV, CV = c.vals := ⟨_, rfl⟩
  rw [← hCV] at hCs  H ⊢
  replace hCs := Kpt.mk hCs
  clear hCV
  have hSl := h.sto.lt
  have hDl := h.bx.lt
  have F := Kpt.mk h.fx
  have hb := Kpt.mk (Below.refl w.heap.size w)
  replace H := Kpt.mk H
  replace HE := Kpt.mk HE
  replace h := Kpt.mk h
  have hsv : Kpt (noS.vals = #[.int .u8 noS.key, .int .u16 noS.code, .int .u64 noS.info, .bool noS.hi, .int .i64 noS.field, .int .i64 noS.bit, .bool noS.hf, .bool noS.ic]) := ⟨rfl⟩
  go_enter Try.func11, Try.ntmps11
  go_wp2_with (first
      | (have hm := m6; refine wpList_store_bx rfl 34 _ _ rfl br _ (resV 0 noS (.slice none 0 0)) rfl rfl Or.out.bx rfl infoR (resV_one _ _ _ _ _) rfl ?_; intro w9 hX_ hg_; replace Oc := Kpt.mk (Oc.out.other hg_ (by omega)); replace Ov := Kpt.mk (Ov.out.other hg_ (by omega)); replace F := Kpt.mk (F.out.own Or.out hg_ hSl hDl); replace Or := Kpt.mk (Or.out.set hX_); clear hX_ hg_; clear hm m6; have m7 : Kpt True := ⟨trivial⟩)
      | (go_at_call 22; have hm := m5; go_must (refine (HE.out _).mono ?_; rintro e w6 ⟨rfl, h_⟩; replace Oc := Kpt.mk (Oc.out.below h_); replace Or := Kpt.mk (Or.out.below h_); replace Ov := Kpt.mk (Ov.out.below h_); replace F := Kpt.mk (F.out.below h_); clear h_; clear hm m5; have m6 : Kpt True := ⟨trivial⟩))
      | (have hm := m4; refine wpList_store_bx rfl 32 _ _ rfl bv _ (noS).vals rfl rfl Ov.out.bx rfl infoS (Sn.vals_one _) rfl ?_; intro w5 hX_ hg_; replace Oc := Kpt.mk (Oc.out.other hg_ (by omega)); replace Or := Kpt.mk (Or.out.other hg_ (by omega)); replace F := Kpt.mk (F.out.own Ov.out hg_ hSl hDl); replace Ov := Kpt.mk (Ov.out.set hX_); clear hX_ hg_; clear hm m4; have m5 : Kpt True := ⟨trivial⟩)
      | (have hm := m3; refine wpList_var rfl 32 rfl zeroS zeroSi ?_; intro bv w_v hl_ hX_ h_; have q_c_v : bc < bv := Nat.lt_of_lt_of_le Oc.out.bx.lt hl_; have q_r_v : br < bv := Nat.lt_of_lt_of_le Or.out.bx.lt hl_; have Ov := Kpt.mk (F.out.new hl_ hX_); replace Oc := Kpt.mk (Oc.out.below h_); replace Or := Kpt.mk (Or.out.below h_); replace F := Kpt.mk (F.out.below h_); clear hl_ hX_ h_; clear hm m3; have m4 : Kpt True := ⟨trivial⟩)
      | (go_at_call 21; have hm := m2; go_must (refine (H.out _ hb.out).mono ?_; rintro e w5 ⟨rfl, tag5, hW_, s_⟩; replace Oc := Kpt.mk (Oc.out.call s_); replace Or := Kpt.mk (Or.out.call s_); replace F := Kpt.mk (F.out.call hW_ s_); clear hW_ s_; clear hm m2; have m3 : Kpt True := ⟨trivial⟩))
      | (have hm := m1; refine wpList_var rfl 34 rfl zeroR zeroRi ?_; intro br w_r hl_ hX_ h_; have q_c_r : bc < br := Nat.lt_of_lt_of_le Oc.out.bx.lt hl_; have Or := Kpt.mk (F.out.new hl_ hX_); replace Oc := Kpt.mk (Oc.out.below h_); replace F := Kpt.mk (F.out.below h_); replace hb := Kpt.mk (hb.out.trans (h_.mono hb.out.size)); clear hl_ hX_ h_; clear hm m1; have m2 : Kpt True := ⟨trivial⟩)
      | (refine wpList_box rfl 38 _ rfl CV rfl ?_; intro bc w_c hl_ hX_ h_ _; have Oc := Kpt.mk (F.out.new hl_ hX_); replace F := Kpt.mk (F.out.below h_); replace hb := Kpt.mk (hb.out.trans (h_.mono hb.out.size)); clear hl_ hX_ h_; have m1 : Kpt True := ⟨trivial⟩)
      | (refine wpList_load_bx rfl 38 _ rfl bc CV rfl Oc.out.bx _ Try.underlying38 rfl (by rw [hCs.out]; exact infoC) ?_)
      | (refine wpList_load_bx rfl 32 _ rfl bv (noS).vals rfl Ov.out.bx _ Try.underlying32 rfl infoS ?_)
      | fail)
  refine bodyPost_ret (v := .agg (resV 0 noS (.slice none 0 0))) (by simp [results, Try.results11, asAddr, Act.put, resR_run Or.out.bx]) rfl ⟨rfl, _, F.out.dv.wd, F.out.st⟩

set_option maxRecDepth 100000 in
set_option maxHeartbeats 1000000 in
theorem do_s (w : World) (B : Nat) (tag : Tags) (st : St) (f : ByteArray) (S D N : Nat) (k : Int) (ca : Bool) (c : Cm) (p : Value) (s : Sn) (hs : s.key ≠ 0) (st2 : St) (h : Dv w B tag st f S D N k ca)
    (H : ∀ W, Below w.heap.size w W → Calls Try.prog 21 #[.pointer (some ⟨D, 0, none⟩), .agg c.vals, p] W fun e w' => e = .returned (.tuple #[.slice none 0 0, .agg (s).vals]) ∧ Aft W w' B tag st2) :
    Calls Try.prog 11 #[.pointer (some ⟨D, 0, none⟩), .agg c.vals, p] w fun e w' => e = .returned (.agg (resV 2 s (.slice none 0 0))) ∧ Aft w w' B tag st2 := by
  have HE := fun W => ended_any s W
  simp only [show (s.key != 0) = true from by simpa using hs] at HE
  have hCs : c.vals.size = 15 := rfl
  obtain ⟨CV, hCV⟩ : ∃ CV, CV = c.vals := ⟨_, rfl⟩
  rw [← hCV] at hCs  H ⊢
  replace hCs := Kpt.mk hCs
  clear hCV
  have hSl := h.sto.lt
  have hDl := h.bx.lt
  have F := Kpt.mk h.fx
  have hb := Kpt.mk (Below.refl w.heap.size w)
  replace H := Kpt.mk H
  replace HE := Kpt.mk HE
  replace h := Kpt.mk h
  have hsv : Kpt (s.vals = #[.int .u8 s.key, .int .u16 s.code, .int .u64 s.info, .bool s.hi, .int .i64 s.field, .int .i64 s.bit, .bool s.hf, .bool s.ic]) := ⟨rfl⟩
  go_enter Try.func11, Try.ntmps11
  go_wp2_with (first
      | (have hm := m6; refine wpList_store_bx rfl 34 _ _ rfl br _ (resV 2 s (.slice none 0 0)) rfl rfl Or.out.bx rfl infoR (resV_one _ _ _ _ _) rfl ?_; intro w9 hX_ hg_; replace Oc := Kpt.mk (Oc.out.other hg_ (by omega)); replace Ov := Kpt.mk (Ov.out.other hg_ (by omega)); replace F := Kpt.mk (F.out.own Or.out hg_ hSl hDl); replace Or := Kpt.mk (Or.out.set hX_); clear hX_ hg_; clear hm m6; have m7 : Kpt True := ⟨trivial⟩)
      | (go_at_call 22; have hm := m5; go_must (refine (HE.out _).mono ?_; rintro e w6 ⟨rfl, h_⟩; replace Oc := Kpt.mk (Oc.out.below h_); replace Or := Kpt.mk (Or.out.below h_); replace Ov := Kpt.mk (Ov.out.below h_); replace F := Kpt.mk (F.out.below h_); clear h_; clear hm m5; have m6 : Kpt True := ⟨trivial⟩))
      | (have hm := m4; refine wpList_store_bx rfl 32 _ _ rfl bv _ (s).vals rfl rfl Ov.out.bx rfl infoS (Sn.vals_one _) rfl ?_; intro w5 hX_ hg_; replace Oc := Kpt.mk (Oc.out.other hg_ (by omega)); replace Or := Kpt.mk (Or.out.other hg_ (by omega)); replace F := Kpt.mk (F.out.own Ov.out hg_ hSl hDl); replace Ov := Kpt.mk (Ov.out.set hX_); clear hX_ hg_; clear hm m4; have m5 : Kpt True := ⟨trivial⟩)
      | (have hm := m3; refine wpList_var rfl 32 rfl zeroS zeroSi ?_; intro bv w_v hl_ hX_ h_; have q_c_v : bc < bv := Nat.lt_of_lt_of_le Oc.out.bx.lt hl_; have q_r_v : br < bv := Nat.lt_of_lt_of_le Or.out.bx.lt hl_; have Ov := Kpt.mk (F.out.new hl_ hX_); replace Oc := Kpt.mk (Oc.out.below h_); replace Or := Kpt.mk (Or.out.below h_); replace F := Kpt.mk (F.out.below h_); clear hl_ hX_ h_; clear hm m3; have m4 : Kpt True := ⟨trivial⟩)
      | (go_at_call 21; have hm := m2; go_must (refine (H.out _ hb.out).mono ?_; rintro e w5 ⟨rfl, tag5, hW_, s_⟩; replace Oc := Kpt.mk (Oc.out.call s_); replace Or := Kpt.mk (Or.out.call s_); replace F := Kpt.mk (F.out.call hW_ s_); clear hW_ s_; clear hm m2; have m3 : Kpt True := ⟨trivial⟩))
      | (have hm := m1; refine wpList_var rfl 34 rfl zeroR zeroRi ?_; intro br w_r hl_ hX_ h_; have q_c_r : bc < br := Nat.lt_of_lt_of_le Oc.out.bx.lt hl_; have Or := Kpt.mk (F.out.new hl_ hX_); replace Oc := Kpt.mk (Oc.out.below h_); replace F := Kpt.mk (F.out.below h_); replace hb := Kpt.mk (hb.out.trans (h_.mono hb.out.size)); clear hl_ hX_ h_; clear hm m1; have m2 : Kpt True := ⟨trivial⟩)
      | (refine wpList_box rfl 38 _ rfl CV rfl ?_; intro bc w_c hl_ hX_ h_ _; have Oc := Kpt.mk (F.out.new hl_ hX_); replace F := Kpt.mk (F.out.below h_); replace hb := Kpt.mk (hb.out.trans (h_.mono hb.out.size)); clear hl_ hX_ h_; have m1 : Kpt True := ⟨trivial⟩)
      | (refine wpList_load_bx rfl 38 _ rfl bc CV rfl Oc.out.bx _ Try.underlying38 rfl (by rw [hCs.out]; exact infoC) ?_)
      | (refine wpList_load_bx rfl 32 _ rfl bv (s).vals rfl Ov.out.bx _ Try.underlying32 rfl infoS ?_; first | (have hm := m6; rw [hsv.out]) | skip)
      | fail)
  refine bodyPost_ret (v := .agg (resV 2 s (.slice none 0 0))) (by simp [results, Try.results11, asAddr, Act.put, resR_run Or.out.bx]) rfl ⟨rfl, _, F.out.dv.wd, F.out.st⟩

/-- What a read leaves: bytes in a row of their own. -/
def Got (w w' : World) (B : Nat) (tag : Tags) (st2 : St) (g n cap : Nat) (zs : List Int) : Prop := ∃ tag', Wd w' B tag' st2 ∧ Step w w' tag tag' (fun _ => True) ∧ w'.ownsRow w.heap.size 5 1 (.slice (some ⟨g, 0, none⟩) n cap) n (cels zs) ∧ tag' g = none
theorem own_step {W W' : World} {tag' tag2 : Tags} {X : Tag → Prop} {b g n cap : Nat} {zs : List Value} (h : W.ownsRow b 5 1 (.slice (some ⟨g, 0, none⟩) n cap) n zs) (hb : W'.heap[g]? = W.heap[g]?) : W'.ownsRow b 5 1 (.slice (some ⟨g, 0, none⟩) n cap) n zs :=
  own_of_block h (fun q hq => by simp [Value.ownBlock] at hq; subst hq; exact hb)
theorem pack_tb (tb : Bool) (a : Option Addr) (n cp : Nat) (bs : List Bk) (w : World) (hbs : Bks w (.slice a n cp) bs) (hl : bs.length = n) (hn : n * 24 ≤ 140737488355328) :
    Calls Try.prog 26 #[.slice a n cp, .bool tb] w fun e w' => ∃ g cap, e = .returned (.slice (some ⟨g, 0, none⟩) (n * sz tb) cap) ∧ w'.ownsRow w.heap.size 5 1 (.slice (some ⟨g, 0, none⟩) (n * sz tb) cap) (n * sz tb) (cels (packL tb bs)) ∧ Below w.heap.size w w' := by
  cases tb
  · exact pack_false a n cp bs w hbs hl hn
  · exact pack_true a n cp bs w hbs hl hn
theorem own_lo {W : World} {b g n cap : Nat} {zs : List Value} (h : W.ownsRow b 5 1 (.slice (some ⟨g, 0, none⟩) n cap) n zs) : b ≤ g ∧ g < W.heap.size := by
  have := World.ownsRow.lt h g rfl
  exact this

theorem bks_grown {w w' : World} {g n cp b : Nat} {bs : List Bk} (h : Bks w (.slice (some ⟨g, 0, none⟩) n cp) bs) (hg : w.grownBy w' (some b)) (hne : g ≠ b) : Bks w' (.slice (some ⟨g, 0, none⟩) n cp) bs :=
  h.step (tag := fun i => if i = b then some Tag.wd else none) (tag' := fun i => if i = b then some Tag.wd else none) (X := fun _ => True) (Step.turned hg _ (if_pos rfl) trivial) (fun g' o e => by cases e; exact if_neg hne)
set_option maxRecDepth 100000 in
set_option maxHeartbeats 1000000 in
theorem answer_read (w : World) (B : Nat) (tag : Tags) (st : St) (f : ByteArray) (S D N : Nat) (k : Int) (ca : Bool) (l n : Nat) (c : Cm) (p : Value) (h : Dv w B tag st f S D N k ca) (hf1 : 1 ≤ f.size) (hf2 : f.size ≤ 32) (hN : N ≤ 4096) (hc : st.cnt < 500000000000) (hf : ∀ i, st.fails i = false) (hG : Good (st.seen f)) (h0 : 0 ≤ k) (h1 : k ≤ 255) (p0 : 0 ≤ c.pr) (p1 : c.pr ≤ 255) (hk : knownB k c.pr = true) (hkd : c.kd = 7) (hl : c.lba = (l : Nat)) (hbl : c.bl = (n : Nat)) (hin : l + n ≤ N) (hlk : lookS k c.pr l (rdL (st.seen f) l n) = noS) :
    Calls Try.prog 21 #[.pointer (some ⟨D, 0, none⟩), .agg c.vals, p] w fun e w' => ∃ g cap, e = .returned (.tuple #[.slice (some ⟨g, 0, none⟩) (n * sz (c.pr != 0)) cap, .agg noS.vals]) ∧ Got w w' B tag (rdSt st n) g (n * sz (c.pr != 0)) cap (packL (c.pr != 0) (rdL (st.seen f) l n)) := by
  have hcm0 : ∀ (W : World) (b : Nat), Bx W b c.vals → W.cell? ⟨b, 0, none⟩ = some (.int .u8 c.kd) := fun W b h => (cm_at h).1
  rw [hkd] at hcm0
  have HR := fun W (h : Dv W B tag st f S D N k ca) => refuse_in W B tag st f S D N k ca l n c h hN h0 p0 hk (by omega) (by omega) hl hbl hin
  have HD := fun W (h : Dv W B tag st f S D N k ca) => dread_ok W B tag st f S D N l n k ca c h hf1 hf2 hN hc hf hG h0 h1 p0 p1 hl hbl hin hlk
  have HT := withT_any c
  obtain ⟨tb, htb⟩ : ∃ tb, tb = (c.pr != 0) := ⟨_, rfl⟩
  rw [← htb] at HT ⊢
  obtain ⟨bs, hbs⟩ : ∃ bs, bs = rdL (st.seen f) l n := ⟨_, rfl⟩
  have hbn : bs.length = n := by rw [hbs]; exact rdL_len _ _ _
  rw [← hbs] at HD ⊢
  have HP := fun W g (hv : Bks W (.slice (some ⟨g, 0, none⟩) n n) bs) => pack_tb tb (some ⟨g, 0, none⟩) n n bs W hv hbn (by omega)
  have HE := fun W => ended_any noS W
  simp only [show (noS.key != 0) = false from rfl] at HE
  obtain ⟨sn, hsn⟩ : ∃ sn, sn = n * sz tb := ⟨_, rfl⟩
  rw [← hsn] at HP ⊢
  have hCs : c.vals.size = 15 := rfl
  obtain ⟨CV, hCV⟩ : ∃ CV, CV = c.vals := ⟨_, rfl⟩
  rw [← hCV] at hCs hcm0 HR HD HT ⊢
  replace hcm0 := Kpt.mk hcm0
  replace hCs := Kpt.mk hCs
  clear hCV
  have hSl := h.sto.lt
  have hDl := h.bx.lt
  have F := Kpt.mk h.fx
  have hb := Kpt.mk (Below.refl w.heap.size w)
  replace HR := Kpt.mk HR
  replace HD := Kpt.mk HD
  replace HT := Kpt.mk HT
  replace HP := Kpt.mk HP
  replace HE := Kpt.mk HE
  replace h := Kpt.mk h
  clear hk hkd hl hbl hlk hf hG hbn htb hbs hsn
  go_enter Try.func21, Try.ntmps21
  go_wp2_with (first
      | (have hm := m8; refine wpList_store_bx rfl 32 _ _ rfl bz _ (noS).vals rfl rfl Oz.out.bx rfl infoS (Sn.vals_one _) rfl ?_; intro w9 hX_ hg_; replace Oc := Kpt.mk (Oc.out.other hg_ (by omega)); replace Or := Kpt.mk (Or.out.other hg_ (by omega)); replace Ov := Kpt.mk (Ov.out.other hg_ (by omega)); replace F := Kpt.mk (F.out.own Oz.out hg_ hSl hDl); replace Oz := Kpt.mk (Oz.out.set hX_); replace hv5 := Kpt.mk (bks_grown hv5.out hg_ (by omega)); clear hX_ hg_; clear hm m8; have m9 : Kpt True := ⟨trivial⟩)
      | (have hm := m7; refine wpList_var rfl 32 rfl zeroS zeroSi ?_; intro bz w_z hl_ hX_ h_; have q_c_z : bc < bz := Nat.lt_of_lt_of_le Oc.out.bx.lt hl_; have q_r_z : br < bz := Nat.lt_of_lt_of_le Or.out.bx.lt hl_; have q_v_z : bv < bz := Nat.lt_of_lt_of_le Ov.out.bx.lt hl_; have Oz := Kpt.mk (F.out.new hl_ hX_); replace Oc := Kpt.mk (Oc.out.below h_); replace Or := Kpt.mk (Or.out.below h_); replace Ov := Kpt.mk (Ov.out.below h_); replace F := Kpt.mk (F.out.below h_); replace hv5 := Kpt.mk (hv5.out.below h_); have q_gd_z : gd < bz := Nat.lt_of_lt_of_le (hgdl5) hl_; clear hl_ hX_ h_; clear hm m7; have m8 : Kpt True := ⟨trivial⟩)
      | (go_at_call 25; have hm := m6; go_must (refine (HD.out _ F.out.dv).mono ?_; rintro e w5 ⟨gd, rfl, hW_, s_, hv5, hgd5, hgdlt⟩; have hgdn : tag gd = none := wd_none F.out.dv.wd hgd5; have q_r_gd : br < gd := Nat.lt_of_lt_of_le Or.out.bx.lt hgd5; have hgd6_ : gd < w5.heap.size := hgdlt; replace hv5 := Kpt.mk hv5; replace Oc := Kpt.mk (Oc.out.call s_); replace Or := Kpt.mk (Or.out.call s_); replace Ov := Kpt.mk (Ov.out.call s_); replace F := Kpt.mk (F.out.call hW_ s_); replace x0 := hcm0.out _ _ Oc.out.bx; have hgdl5 := hgd6_; clear hW_ s_; clear hm m6; have m7 : Kpt True := ⟨trivial⟩))
      | (go_at_call 22; have hm := m5; go_must (refine (HE.out _).mono ?_; rintro e w4 ⟨rfl, h_⟩; replace Oc := Kpt.mk (Oc.out.below h_); replace Or := Kpt.mk (Or.out.below h_); replace Ov := Kpt.mk (Ov.out.below h_); replace F := Kpt.mk (F.out.below h_); replace x0 := hcm0.out _ _ Oc.out.bx; replace hb := Kpt.mk (hb.out.trans (h_.mono hb.out.size)); clear h_; clear hm m5; have m6 : Kpt True := ⟨trivial⟩))
      | (have hm := m4; refine wpList_store_bx rfl 32 _ _ rfl bv _ (noS).vals rfl rfl Ov.out.bx rfl infoS (Sn.vals_one _) rfl ?_; intro w5 hX_ hg_; replace hb := Kpt.mk (hb.out.trans (Below.ofGrown hg_ hb.out.size Ov.out.lo)); replace Oc := Kpt.mk (Oc.out.other hg_ (by omega)); replace Or := Kpt.mk (Or.out.other hg_ (by omega)); replace F := Kpt.mk (F.out.own Ov.out hg_ hSl hDl); replace Ov := Kpt.mk (Ov.out.set hX_); replace x0 := hcm0.out _ _ Oc.out.bx; clear hX_ hg_; clear hm m4; have m5 : Kpt True := ⟨trivial⟩)
      | (have hm := m3; refine wpList_var rfl 32 rfl zeroS zeroSi ?_; intro bv w_v hl_ hX_ h_; have q_c_v : bc < bv := Nat.lt_of_lt_of_le Oc.out.bx.lt hl_; have q_r_v : br < bv := Nat.lt_of_lt_of_le Or.out.bx.lt hl_; have Ov := Kpt.mk (F.out.new hl_ hX_); replace Oc := Kpt.mk (Oc.out.below h_); replace Or := Kpt.mk (Or.out.below h_); replace F := Kpt.mk (F.out.below h_); replace x0 := hcm0.out _ _ Oc.out.bx; replace hb := Kpt.mk (hb.out.trans (h_.mono hb.out.size)); clear hl_ hX_ h_; clear hm m3; have m4 : Kpt True := ⟨trivial⟩)
      | (go_at_call 24; have hm := m2; go_must (refine (HR.out _ F.out.dv).mono ?_; rintro e w3 ⟨rfl, h_⟩; replace Oc := Kpt.mk (Oc.out.below h_); replace Or := Kpt.mk (Or.out.below h_); replace F := Kpt.mk (F.out.below h_); replace x0 := hcm0.out _ _ Oc.out.bx; replace hb := Kpt.mk (hb.out.trans (h_.mono hb.out.size)); clear h_; clear hm m2; have m3 : Kpt True := ⟨trivial⟩))
      | (have hm := m1; refine wpList_var rfl 32 rfl zeroS zeroSi ?_; intro br w_r hl_ hX_ h_; have q_c_r : bc < br := Nat.lt_of_lt_of_le Oc.out.bx.lt hl_; have Or := Kpt.mk (F.out.new hl_ hX_); replace Oc := Kpt.mk (Oc.out.below h_); replace F := Kpt.mk (F.out.below h_); replace x0 := hcm0.out _ _ Oc.out.bx; replace hb := Kpt.mk (hb.out.trans (h_.mono hb.out.size)); clear hl_ hX_ h_; clear hm m1; have m2 : Kpt True := ⟨trivial⟩)
      | (refine wpList_box rfl 38 _ rfl CV rfl ?_; intro bc w_c hl_ hX_ h_ _; have Oc := Kpt.mk (F.out.new hl_ hX_); replace F := Kpt.mk (F.out.below h_); replace hb := Kpt.mk (hb.out.trans (h_.mono hb.out.size)); have x0 := hcm0.out _ _ Oc.out.bx; clear hl_ hX_ h_; have m1 : Kpt True := ⟨trivial⟩)
      | (refine wpList_load_bx rfl 38 _ rfl bc CV rfl Oc.out.bx _ Try.underlying38 rfl (by rw [hCs.out]; exact infoC) ?_)
      | (refine wpList_load_bx rfl 32 _ rfl bv (noS).vals rfl Ov.out.bx _ Try.underlying32 rfl infoS ?_)
      | (refine wpList_load_bx rfl 32 _ rfl bz (noS).vals rfl Oz.out.bx _ Try.underlying32 rfl infoS ?_)
      | fail)
  refine wp_region_any (by kernel_rfl) ?_
  refine wpAny_of_C (C := fun W => Bx W bc CV ∧ Bx W bz noS.vals) _ _ _ _ ?_
  refine wpAnyC_take 0 (.slice (some ⟨gd, 0, none⟩) n n) rfl (by kernel_rfl) (by kernel_rfl) (by kernel_rfl) (fun _ _ _ h => h) (wanted_free rfl _) (fun W hW => by go_simp) ?_
  try simp only [Act.put, List.getElem_toArray, List.getElem_cons_succ, List.getElem_cons_zero, List.setIfInBounds_toArray, List.set_cons_succ, List.set_cons_zero]
  refine wpAnyC_take 1 (.agg CV) rfl (by kernel_rfl) (by kernel_rfl) (by kernel_rfl) (fun _ _ _ h => h) (wanted_free rfl _) (fun W hW => exec_load_bxG 38 _ rfl bc CV rfl hW.1 _ Try.underlying38 rfl (by rw [hCs.out]; exact infoC)) ?_
  try simp only [Act.put, List.getElem_toArray, List.getElem_cons_succ, List.getElem_cons_zero, List.setIfInBounds_toArray, List.set_cons_succ, List.set_cons_zero]
  refine wpAnyC_take 4 (.agg noS.vals) rfl (by kernel_rfl) (by kernel_rfl) (by kernel_rfl) (fun _ _ _ h => h) (wanted_free rfl _) (fun W hW => exec_load_bxG 32 _ rfl bz noS.vals rfl hW.2 _ Try.underlying32 rfl infoS) ?_
  try simp only [Act.put, List.getElem_toArray, List.getElem_cons_succ, List.getElem_cons_zero, List.setIfInBounds_toArray, List.set_cons_succ, List.set_cons_zero]
  refine wpAnyC_one 2 (⟨Oc.out.bx.drew, Oz.out.bx.drew⟩) rfl (by kernel_rfl) (wanted_free rfl _) (fun KA hKA => ?_)
  go_simp
  refine (HT.out _).mono ?_
  rintro e w7 ⟨rfl, h7⟩
  have h_ := below_undrew h7
  replace Oc := Kpt.mk (Oc.out.below h_)
  replace Or := Kpt.mk (Or.out.below h_)
  replace Ov := Kpt.mk (Ov.out.below h_)
  replace Oz := Kpt.mk (Oz.out.below h_)
  replace F := Kpt.mk (F.out.below h_)
  replace hv5 := Kpt.mk (hv5.out.below h_)
  clear h_ h7
  refine hKA _ _ ?_
  clear hKA KA
  try simp only [Act.put, List.getElem_toArray, List.getElem_cons_succ, List.getElem_cons_zero, List.setIfInBounds_toArray, List.set_cons_succ, List.set_cons_zero]
  refine wpAnyC_one 3 (⟨Oc.out.bx, Oz.out.bx⟩) rfl (by kernel_rfl) (wanted_free rfl _) (fun KA hKA => ?_)
  go_simp
  refine (HP.out _ _ hv5.out).mono ?_
  rintro e w8 ⟨gp, cap, rfl, hrow, h8⟩
  have h_ := h8
  have hlo := own_lo hrow
  have hgpn : tag gp = none := wd_none F.out.dv.wd hlo.1
  have q_r_gp : br < gp := Nat.lt_of_lt_of_le Or.out.bx.lt hlo.1
  have hsz7 := F.out.st.size
  replace Oc := Kpt.mk (Oc.out.below h_)
  replace Or := Kpt.mk (Or.out.below h_)
  replace Ov := Kpt.mk (Ov.out.below h_)
  replace Oz := Kpt.mk (Oz.out.below h_)
  replace F := Kpt.mk (F.out.below h_)
  clear h_ h8
  refine hKA _ _ ?_
  clear hKA KA
  try simp only [Act.put, List.getElem_toArray, List.getElem_cons_succ, List.getElem_cons_zero, List.setIfInBounds_toArray, List.set_cons_succ, List.set_cons_zero]
  refine wpAnyC_take 5 (.slice (some ⟨gp, 0, none⟩) sn cap) rfl (by kernel_rfl) (by kernel_rfl) (by kernel_rfl) (fun _ _ _ h => h) (wanted_free rfl _) (fun W hW => by go_simp) ?_
  try simp only [Act.put, List.getElem_toArray, List.getElem_cons_succ, List.getElem_cons_zero, List.setIfInBounds_toArray, List.set_cons_succ, List.set_cons_zero]
  refine wpAnyC_one 6 ⟨Oc.out.bx, Oz.out.bx⟩ rfl (by kernel_rfl) (wanted_free rfl _) (fun KA hKA => ?_)
  refine wp_store_bx 32 _ _ rfl br zeroS noS.vals rfl rfl Or.out.bx rfl infoS (Sn.vals_one _) ?_
  intro w9 hX_ hg9
  have hg_ : w8.grownBy w9 (some br) := hg9
  refine hKA _ _ ?_
  clear hKA KA
  try simp only [Act.put, List.getElem_toArray, List.getElem_cons_succ, List.getElem_cons_zero, List.setIfInBounds_toArray, List.set_cons_succ, List.set_cons_zero]
  replace Oc := Kpt.mk (Oc.out.other hg_ (by omega))
  replace Ov := Kpt.mk (Ov.out.other hg_ (by omega))
  replace Oz := Kpt.mk (Oz.out.other hg_ (by omega))
  replace F := Kpt.mk (F.out.own Or.out hg_ hSl hDl)
  replace Or := Kpt.mk (Or.out.set hX_)
  have hrow9 : w9.ownsRow w.heap.size 5 1 (.slice (some ⟨gp, 0, none⟩) sn cap) sn (cels (packL tb bs)) := own_base (own_of_block hrow (fun q hq => by simp [Value.ownBlock] at hq; subst hq; exact hg_.block _ hlo.2 (by simp; omega))) hsz7
  refine wpAnyC_done (⟨Oc.out.bx, Oz.out.bx⟩) (by kernel_rfl) ?_
  clear hg9 hg_ hX_ hrow
  replace hrow9 := Kpt.mk hrow9
  go_wp2
  refine bodyPost_ret (v := .tuple #[.slice (some ⟨gp, 0, none⟩) sn cap, .agg noS.vals]) (by simp [results, Try.results21, asAddr, Act.put, res_run Or.out.bx]) rfl ⟨gp, cap, rfl, _, F.out.dv.wd, F.out.st, hrow9.out, hgpn⟩

end Go.Proofs.Ytklboieemljmiaa

namespace Go.Proofs.Ytklboieemljmiaa
open Go.RowKit
set_option linter.unusedVariables false
set_option linter.unusedSimpArgs false
/-- Bytes in a row of their own. -/
structure Ob (w W : World) (tag' : Tags) (g n cap : Nat) (zs : List Int) : Prop where
  own : W.ownsRow w.heap.size 5 1 (.slice (some ⟨g, 0, none⟩) n cap) n (cels zs)
  bare : tag' g = none
variable {w W W' : World} {tag' tag2 : Tags} {g n cap b2 : Nat} {zs : List Int}
theorem Ob.lt (o : Ob w W tag' g n cap zs) : g < W.heap.size := (own_lo o.own).2
theorem Ob.lo (o : Ob w W tag' g n cap zs) : w.heap.size ≤ g := (own_lo o.own).1
theorem Ob.keep (o : Ob w W tag' g n cap zs) (hb : W'.heap[g]? = W.heap[g]?) (ht : tag2 g = none) : Ob w W' tag2 g n cap zs :=
  ⟨own_of_block o.own (fun q hq => by simp [Value.ownBlock] at hq; subst hq; exact hb), ht⟩
theorem Ob.below (o : Ob w W tag' g n cap zs) (hb : Below W.heap.size W W') : Ob w W' tag' g n cap zs := o.keep (hb.block g o.lt) o.bare
theorem Ob.call (o : Ob w W tag' g n cap zs) {X : Tag → Prop} (s : Step W W' tag' tag2 X) : Ob w W' tag2 g n cap zs := o.keep (s.block g o.lt (fun t _ e => by rw [o.bare] at e; cases e)) (s.bare g o.lt o.bare)
theorem Ob.other (o : Ob w W tag' g n cap zs) (hg : W.grownBy W' (some b2)) (hne : b2 ≠ g) : Ob w W' tag' g n cap zs := o.keep (hg.block g o.lt (by simpa using fun e => hne e.symm)) o.bare

set_option maxRecDepth 100000 in
set_option maxHeartbeats 1000000 in
theorem do_read (w : World) (B : Nat) (tag : Tags) (st : St) (f : ByteArray) (S D N : Nat) (k : Int) (ca : Bool) (c : Cm) (p : Value) (sn : Nat) (Z : List Int) (st2 : St) (h : Dv w B tag st f S D N k ca)
    (H : ∀ W, Below w.heap.size w W → Calls Try.prog 21 #[.pointer (some ⟨D, 0, none⟩), .agg c.vals, p] W fun e w' => ∃ g cap, e = .returned (.tuple #[.slice (some ⟨g, 0, none⟩) sn cap, .agg noS.vals]) ∧ Got W w' B tag st2 g sn cap Z) :
    Calls Try.prog 11 #[.pointer (some ⟨D, 0, none⟩), .agg c.vals, p] w fun e w' => ∃ g cap, e = .returned (.agg (resV 0 noS (.slice (some ⟨g, 0, none⟩) sn cap))) ∧ Got w w' B tag st2 g sn cap Z := by
  have HE := fun W => ended_any noS W
  simp only [show (noS.key != 0) = false from rfl] at HE
  have hCs : c.vals.size = 15 := rfl
  obtain ⟨CV, hCV⟩ : ∃ CV, CV = c.vals := ⟨_, rfl⟩
  rw [← hCV] at hCs  H ⊢
  replace hCs := Kpt.mk hCs
  clear hCV
  have hSl := h.sto.lt
  have hDl := h.bx.lt
  have F := Kpt.mk h.fx
  have hb := Kpt.mk (Below.refl w.heap.size w)
  replace H := Kpt.mk H
  replace HE := Kpt.mk HE
  replace h := Kpt.mk h
  go_enter Try.func11, Try.ntmps11
  go_wp2_with (first
      | (have hm := m6; refine wpList_store_bx rfl 34 _ _ rfl br _ (resV 0 noS (.slice (some ⟨gd, 0, none⟩) sn cap)) rfl rfl Or.out.bx rfl infoR (resV_one _ _ _ _ _) rfl ?_; intro w9 hX_ hg_; replace Oc := Kpt.mk (Oc.out.other hg_ (by omega)); replace Ov := Kpt.mk (Ov.out.other hg_ (by omega)); replace Rd := Kpt.mk (Rd.out.other hg_ (by omega)); replace F := Kpt.mk (F.out.own Or.out hg_ hSl hDl); replace Or := Kpt.mk (Or.out.set hX_); clear hX_ hg_; clear hm m6; have m7 : Kpt True := ⟨trivial⟩)
      | (go_at_call 22; have hm := m5; go_must (refine (HE.out _).mono ?_; rintro e w6 ⟨rfl, h_⟩; replace Oc := Kpt.mk (Oc.out.below h_); replace Or := Kpt.mk (Or.out.below h_); replace Ov := Kpt.mk (Ov.out.below h_); replace Rd := Kpt.mk (Rd.out.below h_); replace F := Kpt.mk (F.out.below h_); clear h_; clear hm m5; have m6 : Kpt True := ⟨trivial⟩))
      | (have hm := m4; refine wpList_store_bx rfl 32 _ _ rfl bv _ (noS).vals rfl rfl Ov.out.bx rfl infoS (Sn.vals_one _) rfl ?_; intro w5 hX_ hg_; replace Oc := Kpt.mk (Oc.out.other hg_ (by omega)); replace Or := Kpt.mk (Or.out.other hg_ (by omega)); replace Rd := Kpt.mk (Rd.out.other hg_ (by omega)); replace F := Kpt.mk (F.out.own Ov.out hg_ hSl hDl); replace Ov := Kpt.mk (Ov.out.set hX_); clear hX_ hg_; clear hm m4; have m5 : Kpt True := ⟨trivial⟩)
      | (have hm := m3; refine wpList_var rfl 32 rfl zeroS zeroSi ?_; intro bv w_v hl_ hX_ h_; have q_c_v : bc < bv := Nat.lt_of_lt_of_le Oc.out.bx.lt hl_; have q_r_v : br < bv := Nat.lt_of_lt_of_le Or.out.bx.lt hl_; have q_d_v : gd < bv := Nat.lt_of_lt_of_le Rd.out.lt hl_; have Ov := Kpt.mk (F.out.new hl_ hX_); replace Oc := Kpt.mk (Oc.out.below h_); replace Or := Kpt.mk (Or.out.below h_); replace Rd := Kpt.mk (Rd.out.below h_); replace F := Kpt.mk (F.out.below h_); clear hl_ hX_ h_; clear hm m3; have m4 : Kpt True := ⟨trivial⟩)
      | (go_at_call 21; have hm := m2; go_must (refine (H.out _ hb.out).mono ?_; rintro e w5 ⟨gd, cap, rfl, tag5, hW_, s_, hrow, hgn⟩; have q_r_d : br < gd := Nat.lt_of_lt_of_le Or.out.bx.lt (own_lo hrow).1; have Rd : Kpt (Ob w w5 tag5 gd sn cap Z) := ⟨⟨own_base hrow hb.out.size, hgn⟩⟩; clear hrow hgn; replace Oc := Kpt.mk (Oc.out.call s_); replace Or := Kpt.mk (Or.out.call s_); replace F := Kpt.mk (F.out.call hW_ s_); clear hW_ s_; clear hm m2; have m3 : Kpt True := ⟨trivial⟩))
      | (have hm := m1; refine wpList_var rfl 34 rfl zeroR zeroRi ?_; intro br w_r hl_ hX_ h_; have q_c_r : bc < br := Nat.lt_of_lt_of_le Oc.out.bx.lt hl_; have Or := Kpt.mk (F.out.new hl_ hX_); replace Oc := Kpt.mk (Oc.out.below h_); replace F := Kpt.mk (F.out.below h_); replace hb := Kpt.mk (hb.out.trans (h_.mono hb.out.size)); clear hl_ hX_ h_; clear hm m1; have m2 : Kpt True := ⟨trivial⟩)
      | (refine wpList_box rfl 38 _ rfl CV rfl ?_; intro bc w_c hl_ hX_ h_ _; have Oc := Kpt.mk (F.out.new hl_ hX_); replace F := Kpt.mk (F.out.below h_); replace hb := Kpt.mk (hb.out.trans (h_.mono hb.out.size)); clear hl_ hX_ h_; have m1 : Kpt True := ⟨trivial⟩)
      | (refine wpList_load_bx rfl 38 _ rfl bc CV rfl Oc.out.bx _ Try.underlying38 rfl (by rw [hCs.out]; exact infoC) ?_)
      | (refine wpList_load_bx rfl 32 _ rfl bv (noS).vals rfl Ov.out.bx _ Try.underlying32 rfl infoS ?_)
      | fail)
  refine bodyPost_ret (v := .agg (resV 0 noS (.slice (some ⟨gd, 0, none⟩) sn cap))) (by simp [results, Try.results11, asAddr, Act.put, resR_run Or.out.bx]) rfl ⟨gd, cap, rfl, _, F.out.dv.wd, F.out.st, Rd.out.own, Rd.out.bare⟩

end Go.Proofs.Ytklboieemljmiaa

namespace Go.Proofs.Ytklboieemljmiaa
open Go.RowKit
set_option linter.unusedVariables false
set_option linter.unusedSimpArgs false
abbrev nmF : ByteArray := ⟨#[102]⟩
set_option maxRecDepth 100000 in
set_option maxHeartbeats 1000000 in
theorem device_any (N : Nat) (k : Int) (ca : Bool) (w : World) (h1 : 1 ≤ N) (h2 : N ≤ 4096) : Calls Try.prog 10 #[.int .i64 N, .int .u8 k, .bool ca] w fun e w' => ∃ D B S tag, e = .returned (.tuple #[.pointer (some ⟨D, 0, none⟩), .pointer (some ⟨B, 0, none⟩)]) ∧ Dv w' B tag st0 nmF S D N k ca ∧ Below w.heap.size w w' ∧ (∀ i, i < w.heap.size → tag i = none) := by
  have HN := Kpt.mk (new_any w)
  go_enter Try.func10, Try.ntmps10
  go_wp2_with fail
  refine HN.out.mono ?_
  rintro e w1 ⟨B, tag, rfl, hW1, hg1, ht1⟩
  have hb1 : Kpt (Below w.heap.size w w1) := ⟨(Below.refl _ _).grown hg1 (Nat.le_refl _) (fun k hk => by cases hk)⟩
  have HO := Kpt.mk (kopen_any w1 B N nmF ca (by decide) (by decide) h1 h2)
  replace hW1 := Kpt.mk hW1
  replace ht1 := Kpt.mk ht1
  clear HN hg1
  go_wp2_with fail
  refine HO.out.mono ?_
  rintro e w2 ⟨rfl, hw2⟩
  have hS2 : Kpt (Sto w2 tag w1.heap.size B nmF N ca) := ⟨by rw [hw2]; exact sto_new w1 tag B N nmF ca (wd_none hW1.out (Nat.le_refl _))⟩
  have hbe2 : Below w1.heap.size w1 w2 := by rw [hw2]; exact (Below.refl _ _).alloc (Nat.le_refl _) _
  have hW2 := Kpt.mk (hW1.out.step (step_below hbe2 tag (fun _ => False)))
  have hb2 : Kpt (Below w.heap.size w w2) := ⟨hb1.out.trans (hbe2.mono hb1.out.size)⟩
  clear HO hw2 hb1 hbe2 hW1
  obtain ⟨S, hS⟩ : ∃ S, S = w1.heap.size := ⟨_, rfl⟩
  rw [← hS] at hS2 ⊢
  clear hS
  go_wp2_with (first | (refine wpList_box rfl 60 _ rfl (devV S k) rfl ?_; intro D w3 hl3 hX3 h3 _; have hD : Kpt (Dv w3 B tag st0 nmF S D N k ca) := ⟨hW2.out.step (step_below h3 tag (fun _ => False)), hS2.out.below h3, hX3, wd_none hW2.out hl3⟩; have hb3 := Kpt.mk (hb2.out.trans (h3.mono hb2.out.size)); clear hl3 hX3 h3) | fail)
  go_ret2
  exact ⟨D, B, S, tag, rfl, hD.out, hb3.out, ht1.out⟩

def fil (n : Nat) (b : Int) (k : Nat) : List Int := List.replicate k b ++ List.replicate (n - k) 0
theorem fil_len (n : Nat) (b : Int) (k : Nat) (h : k ≤ n) : (fil n b k).length = n := by simp [fil]; omega
theorem fil_set (n : Nat) (b : Int) (k : Nat) (h : k < n) : (fil n b k).set k b = fil n b (k + 1) := by
  unfold fil
  rw [List.set_append, if_neg (by simp), List.length_replicate, Nat.sub_self, show n - k = (n - (k + 1)) + 1 by omega, List.replicate_succ, List.set_cons_zero, List.replicate_succ' (n := k)]
  simp
set_option maxHeartbeats 1000000 in
theorem bytes_any (n : Nat) (b : Int) (w : World) (hn : n ≤ 1000) : Calls Try.prog 14 #[.int .i64 n, .int .u8 b] w fun e w' => ∃ g, e = .returned (.slice (some ⟨g, 0, none⟩) n n) ∧ w'.ownsRow w.heap.size 5 1 (.slice (some ⟨g, 0, none⟩) n n) n (cels (List.replicate n b)) ∧ Below w.heap.size w w' := by
  obtain ⟨i0, hi0, hz0, hz1, hz2⟩ := info_parts Try.info5
  replace hz2 := Kpt.mk hz2
  go_enter Try.func14, Try.ntmps14
  go_wp2_with (first | (at_make; refine wpList_make_full _ rfl _ _ 22 rfl w.heap.size 5 i0 (.int .u8 0) 1 Try.underlying22 hi0 hz0 hz1 .i64 .i64 _ _ n rfl rfl rfl rfl (by rw [hz2.out]; omega) (by unfold maxLen; omega) (Nat.le_refl _) ?_; intro w1 hown1 hg1; rw [made_u8] at hown1; have hb1 : Kpt (Below w.heap.size w w1) := ⟨(Below.refl _ _).grown hg1 (Nat.le_refl _) (fun k h => by cases h)⟩; replace hown1 := Kpt.mk hown1; clear hg1) | fail)
  obtain ⟨g, hg⟩ : ∃ g, g = w.heap.size := ⟨_, rfl⟩
  rw [← hg] at hown1 ⊢
  have hown1' : Kpt (w1.ownsRow w.heap.size 5 1 (.slice (some ⟨g, 0, none⟩) n n) n (cels (fil n b 0))) := ⟨by have := hown1.out; rw [hg] at this ⊢; simpa [fil] using this⟩
  have hgle : w.heap.size ≤ g := by omega
  clear hown1
  replace hg := Kpt.mk hg
  go_loopw [6] (fun t wr => ∃ k : Nat, k ≤ n ∧ t = .int .i64 k ∧ Kpt (wr.ownsRow w.heap.size 5 1 (.slice (some ⟨g, 0, none⟩) n n) n (cels (fil n b k))) ∧ Kpt (Below w.heap.size w wr)) (fun t _ => n - (intOf t).toNat)
  case atStart => exact ⟨0, Nat.zero_le _, rfl, hown1', hb1⟩
  case round =>
    obtain ⟨k, hk, rfl, hown, hb⟩ := hrel
    by_cases hlt : k < n
    · have e1 : (k : Int) < n := by omega
      have hc0 := own_facts hown.out k hlt
      have hfr := hown.out.frozenAt k
      go_wp2
      go_roundw
      case rel => exact ⟨k + 1, by omega, by go_num, ⟨by rw [← fil_set n b k hlt]; exact own_set hown.out k b⟩, ⟨hb.out.setCell hgle _⟩⟩
      case measure => simp [intOf]; omega
    · have e1 : ¬ (k : Int) < n := by omega
      have ek : k = n := by omega
      subst ek
      go_wp2
      go_ret
      exact ⟨g, rfl, by have := hown.out; simpa [fil] using this, hb.out⟩

theorem doWrite_8 (w : World) (B : Nat) (tag : Tags) (st : St) (f : ByteArray) (S D N : Nat) (k : Int) (ca : Bool) (l m n cp : Nat) (a : Option Addr) (zs : List Int) (c : Cm) (h : Dv w B tag st f S D N k ca) (hf1 : 1 ≤ f.size) (hf2 : f.size ≤ 32) (hN : N ≤ 4096) (hc : st.cnt < 500000000000) (hcw : st.waits.length < 1000000) (hf : ∀ i, st.fails i = false) (hw : Wrs st.waits) (h0 : 0 ≤ k) (h1 : k ≤ 3) (hkd : c.kd = 8) (hl : c.lba = (l : Nat)) (hbl : c.bl = (m : Nat)) (hin : l + m ≤ N) (hr : RdAt w (.slice a n cp) zs) (hlz : zs.length = n) (hby : Bytes zs) (hm : n = m * 16) (hpr : c.pr = 0) :
    Calls Try.prog 11 #[.pointer (some ⟨D, 0, none⟩), .agg c.vals, .slice a n cp] w fun e w' => e = .returned (.agg (resV 0 noS (.slice none 0 0))) ∧ Aft w w' B tag (wrF st f l (prL k l (unBs false zs m)) ca c.fua) :=
  do_0 w B tag st f S D N k ca c _ _ h (fun W hb => answer_act W B tag st f S D N k ca c _ noS _ (h.below hb) (by omega) (by omega)
    (fun W2 hb2 => refuse_in W2 B tag st f S D N k ca l m c ((h.below hb).below hb2) hN h0 (by omega) (by rw [hpr]; unfold knownB; exact decide_eq_true (by omega)) (by omega) (by omega) hl hbl hin)
    (fun W2 hb2 => act_8 W2 B tag st f S D N k ca c _ noS _ ((h.below hb).below hb2) hkd (fun W3 hb3 =>
      take_0 W3 B tag st f S D N k ca l m n cp a zs c.fua c (((h.below hb).below hb2).below hb3) hf1 hf2 hN hc hcw hf hw h0 (by omega) hl hbl hin (rd_below (rd_below (rd_below hr hb) hb2) hb3) hlz hby hm hpr)))
theorem doWrite_9 (w : World) (B : Nat) (tag : Tags) (st : St) (f : ByteArray) (S D N : Nat) (k : Int) (ca : Bool) (l m n cp : Nat) (a : Option Addr) (zs : List Int) (c : Cm) (h : Dv w B tag st f S D N k ca) (hf1 : 1 ≤ f.size) (hf2 : f.size ≤ 32) (hN : N ≤ 4096) (hc : st.cnt < 500000000000) (hcw : st.waits.length < 1000000) (hf : ∀ i, st.fails i = false) (hw : Wrs st.waits) (h0 : 0 ≤ k) (h1 : k ≤ 3) (hkd : c.kd = 9) (hl : c.lba = (l : Nat)) (hbl : c.bl = (m : Nat)) (hin : l + m ≤ N) (hr : RdAt w (.slice a n cp) zs) (hlz : zs.length = n) (hby : Bytes zs) (hm : n = m * 16) (hpr : c.pr = 0) :
    Calls Try.prog 11 #[.pointer (some ⟨D, 0, none⟩), .agg c.vals, .slice a n cp] w fun e w' => e = .returned (.agg (resV 0 noS (.slice none 0 0))) ∧ Aft w w' B tag (wrF st f l (prL k l (unBs false zs m)) ca true) :=
  do_0 w B tag st f S D N k ca c _ _ h (fun W hb => answer_act W B tag st f S D N k ca c _ noS _ (h.below hb) (by omega) (by omega)
    (fun W2 hb2 => refuse_in W2 B tag st f S D N k ca l m c ((h.below hb).below hb2) hN h0 (by omega) (by rw [hpr]; unfold knownB; exact decide_eq_true (by omega)) (by omega) (by omega) hl hbl hin)
    (fun W2 hb2 => act_9 W2 B tag st f S D N k ca c _ noS _ ((h.below hb).below hb2) hkd (fun W3 hb3 =>
      take_0 W3 B tag st f S D N k ca l m n cp a zs true c (((h.below hb).below hb2).below hb3) hf1 hf2 hN hc hcw hf hw h0 (by omega) hl hbl hin (rd_below (rd_below (rd_below hr hb) hb2) hb3) hlz hby hm hpr)))
theorem doWrite_t (w : World) (B : Nat) (tag : Tags) (st : St) (f : ByteArray) (S D N : Nat) (k : Int) (ca : Bool) (l m n cp : Nat) (a : Option Addr) (zs : List Int) (c : Cm) (h : Dv w B tag st f S D N k ca) (hf1 : 1 ≤ f.size) (hf2 : f.size ≤ 32) (hN : N ≤ 4096) (hc : st.cnt < 500000000000) (hcw : st.waits.length < 1000000) (hf : ∀ i, st.fails i = false) (hw : Wrs st.waits) (h0 : 1 ≤ k) (h1 : k ≤ 3) (hkd : c.kd = 8) (hl : c.lba = (l : Nat)) (hbl : c.bl = (m : Nat)) (hin : l + m ≤ N) (hr : RdAt w (.slice a n cp) zs) (hlz : zs.length = n) (hby : Bytes zs) (hm : n = m * 24) (p0 : 1 ≤ c.pr) (p1 : c.pr ≤ 4) (hlk : lookS k c.pr l (unBs true zs m) = noS) :
    Calls Try.prog 11 #[.pointer (some ⟨D, 0, none⟩), .agg c.vals, .slice a n cp] w fun e w' => e = .returned (.agg (resV 0 noS (.slice none 0 0))) ∧ Aft w w' B tag (wrF st f l (unBs true zs m) ca c.fua) :=
  do_0 w B tag st f S D N k ca c _ _ h (fun W hb => answer_act W B tag st f S D N k ca c _ noS _ (h.below hb) (by omega) (by omega)
    (fun W2 hb2 => refuse_in W2 B tag st f S D N k ca l m c ((h.below hb).below hb2) hN (by omega) (by omega) (by unfold knownB; exact decide_eq_true (by omega)) (by omega) (by omega) hl hbl hin)
    (fun W2 hb2 => act_8 W2 B tag st f S D N k ca c _ noS _ ((h.below hb).below hb2) hkd (fun W3 hb3 =>
      take_t W3 B tag st f S D N k ca l m n cp a zs c.fua c (((h.below hb).below hb2).below hb3) hf1 hf2 hN hc hcw hf hw (by omega) (by omega) hl hbl hin (rd_below (rd_below (rd_below hr hb) hb2) hb3) hlz hby hm (by omega) (by omega) (by omega) hlk)))
theorem doWrite_bad (w : World) (B : Nat) (tag : Tags) (st : St) (f : ByteArray) (S D N : Nat) (k : Int) (ca : Bool) (l m n cp : Nat) (a : Option Addr) (zs : List Int) (c : Cm) (h : Dv w B tag st f S D N k ca) (hf1 : 1 ≤ f.size) (hf2 : f.size ≤ 32) (hN : N ≤ 4096) (hc : st.cnt < 500000000000) (hcw : st.waits.length < 1000000) (hf : ∀ i, st.fails i = false) (hw : Wrs st.waits) (h0 : 1 ≤ k) (h1 : k ≤ 3) (hkd : c.kd = 8) (hl : c.lba = (l : Nat)) (hbl : c.bl = (m : Nat)) (hin : l + m ≤ N) (hr : RdAt w (.slice a n cp) zs) (hlz : zs.length = n) (hby : Bytes zs) (hm : n = m * 24) (p0 : 1 ≤ c.pr) (p1 : c.pr ≤ 4) (hlk : (lookS k c.pr l (unBs true zs m)).key ≠ 0) :
    Calls Try.prog 11 #[.pointer (some ⟨D, 0, none⟩), .agg c.vals, .slice a n cp] w fun e w' => e = .returned (.agg (resV 2 (lookS k c.pr l (unBs true zs m)) (.slice none 0 0))) ∧ Aft w w' B tag st :=
  do_s w B tag st f S D N k ca c _ _ hlk _ h (fun W hb => answer_act W B tag st f S D N k ca c _ _ _ (h.below hb) (by omega) (by omega)
    (fun W2 hb2 => refuse_in W2 B tag st f S D N k ca l m c ((h.below hb).below hb2) hN (by omega) (by omega) (by unfold knownB; exact decide_eq_true (by omega)) (by omega) (by omega) hl hbl hin)
    (fun W2 hb2 => act_8 W2 B tag st f S D N k ca c _ _ _ ((h.below hb).below hb2) hkd (fun W3 hb3 =>
      take_bad W3 B tag st f S D N k ca l m n cp a zs c.fua c (((h.below hb).below hb2).below hb3) hf1 hf2 hN hc hcw hf hw (by omega) (by omega) hl hbl hin (rd_below (rd_below (rd_below hr hb) hb2) hb3) hlz hby hm (by omega) (by omega) (by omega) hlk)))
theorem doRead (w : World) (B : Nat) (tag : Tags) (st : St) (f : ByteArray) (S D N : Nat) (k : Int) (ca : Bool) (l n : Nat) (c : Cm) (p : Value) (h : Dv w B tag st f S D N k ca) (hf1 : 1 ≤ f.size) (hf2 : f.size ≤ 32) (hN : N ≤ 4096) (hc : st.cnt < 500000000000) (hf : ∀ i, st.fails i = false) (hG : Good (st.seen f)) (h0 : 0 ≤ k) (h1 : k ≤ 3) (p0 : 0 ≤ c.pr) (p1 : c.pr ≤ 4) (hk : knownB k c.pr = true) (hkd : c.kd = 7) (hl : c.lba = (l : Nat)) (hbl : c.bl = (n : Nat)) (hin : l + n ≤ N) (hlk : lookS k c.pr l (rdL (st.seen f) l n) = noS) :
    Calls Try.prog 11 #[.pointer (some ⟨D, 0, none⟩), .agg c.vals, p] w fun e w' => ∃ g cap, e = .returned (.agg (resV 0 noS (.slice (some ⟨g, 0, none⟩) (n * sz (c.pr != 0)) cap))) ∧ Got w w' B tag (rdSt st n) g (n * sz (c.pr != 0)) cap (packL (c.pr != 0) (rdL (st.seen f) l n)) :=
  do_read w B tag st f S D N k ca c p _ _ _ h (fun W hb => answer_read W B tag st f S D N k ca l n c p (h.below hb) hf1 hf2 hN hc hf hG h0 (by omega) p0 (by omega) hk hkd hl hbl hin hlk)

theorem check_empty (k p lba : Int) : checkC k p lba emptyB = 0 := by
  unfold checkC
  split
  · rfl
  · rw [if_pos (by simp [passB, emptyB])]
theorem check_pr (k p : Int) (i : Nat) (b : Bk) : checkC k p i (prB k i b) = 0 := by
  unfold checkC
  split
  · rfl
  · have e1 : passB k (prB k i b).a (prB k i b).r = false := by simp [passB, prB]
    rw [e1, if_neg (by simp), if_neg (by simp [prB])]
    by_cases hh : hasB k = true
    · rw [if_neg (by simp [prB, refV, hh])]
    · rw [if_neg (by simp [hh])]
/-- A state that all goes well in. -/
structure Fine (m : Nat) (st : St) (f : ByteArray) : Prop where
  cnt : st.cnt ≤ m
  wl : st.waits.length ≤ m
  fails : ∀ i, st.fails i = false
  wrs : Wrs st.waits
  good : Good (st.seen f)
theorem fine0 (f : ByteArray) : Fine 0 st0 f := ⟨by decide, by decide, fun _ => rfl, fun c hc => (by cases hc), good_none⟩
theorem Fine.read {m : Nat} {st : St} {f : ByteArray} (h : Fine m st f) (n : Nat) : Fine (m + n) (rdSt st n) f := ⟨by have := h.cnt; simp only [rdSt]; omega, by have := h.wl; simp only [rdSt]; omega, h.fails, h.wrs, h.good⟩
theorem sync_seen (q : Bool) (s : St) : (if q then s else syncSt s).seen = s.seen := by cases q <;> rfl
theorem Fine.write {m : Nat} {st : St} {f : ByteArray} (h : Fine m st f) (l : Nat) (bs : List Bk) (hok : ∀ b ∈ bs, b.ok) (ca fua : Bool) : Fine (2 * m + 4 * bs.length + 1) (wrF st f l bs ca fua) f := by
  obtain ⟨h1, h2, h3, h4⟩ := wr_ops st f l bs bs.length (Nat.le_refl _)
  have hv := (wr_view st f l bs h.good hok bs.length (Nat.le_refl _)).1
  have hwr := wr_wrs st f l bs h.wrs bs.length
  have hc := h.cnt
  have hl := h.wl
  unfold wrF
  split
  · exact ⟨by omega, by omega, by rw [h3]; exact h.fails, hwr, hv⟩
  · exact ⟨by simp only [syncSt]; omega, by simp [syncSt], by simp only [syncSt]; rw [h3]; exact h.fails, fun c hc => by simp [syncSt] at hc, hv⟩
theorem wrF_view {st : St} {f : ByteArray} (hG : Good (st.seen f)) (l : Nat) (bs : List Bk) (hok : ∀ b ∈ bs, b.ok) (ca fua : Bool) (i : Nat) : blkAt ((wrF st f l bs ca fua).seen f) i = if l ≤ i ∧ i < l + bs.length then bs.getD (i - l) emptyB else blkAt (st.seen f) i := by
  unfold wrF
  rw [sync_seen]
  exact (wr_view st f l bs hG hok bs.length (Nat.le_refl _)).2 i
end Go.Proofs.Ytklboieemljmiaa

namespace Go.Proofs.Ytklboieemljmiaa
open Go.RowKit
set_option linter.unusedVariables false
set_option linter.unusedSimpArgs false
theorem Fx.obs {w W W' : World} {B : Nat} {tag tag' : Tags} {st : St} {f : ByteArray} {S D N : Nat} {k : Int} {ca : Bool} {g n cap : Nat} {zs : List Int} (h : Fx w W B tag tag' st f S D N k ca) (hr : W'.ownsRow W.heap.size 5 1 (.slice (some ⟨g, 0, none⟩) n cap) n (cels zs)) : Ob w W' tag' g n cap zs :=
  ⟨own_base hr h.st.size, wd_none h.dv.wd (own_lo hr).1⟩
theorem Step.belowT {w w' : World} {tag tag' : Tags} (s : Step w w' tag tag' (fun _ => True)) {n : Nat} (hn : n ≤ w.heap.size) (ht : ∀ i, i < n → tag i = none) : Below n w w' ∧ ∀ i, i < n → tag' i = none :=
  ⟨⟨s.os, s.tape, s.output, s.size, fun i hi => s.block i (by omega) (by simp [ht i hi])⟩, fun i hi => s.bare i (by omega) (ht i hi)⟩
theorem resV_at {w : World} {b : Nat} {q : Int} {s : Sn} {v : Value} (h : Bx w b (resV q s v)) : w.cell? ⟨b, 0, none⟩ = some (.int .u8 q) ∧ w.cell? ⟨b, 9, none⟩ = some v ∧ b < w.heap.size :=
  ⟨h.cells 0 (show 0 < 10 by decide), h.cells 9 (show 9 < 10 by decide), h.lt⟩
theorem exec_conv {W : World} {o : Oper} {a : Act} (x : Operand) (ho : o.op = .convert 22 9 x) (v : Value) (zs : List Int) (hx : a.eval x = v) (hr : RdAt W v zs) : (execOp a.eval o).run Try.prog W = .ok (.value (.string (strOfNums zs))) W := by
  have := conv_rd hr
  unfold execOp
  simp only [ho, hx]
  simp [this]
def zA : List Int := List.replicate 16 170
theorem zA_bytes : Bytes zA := fun j => by
  unfold zA
  rw [List.getD_eq_getElem?_getD, List.getElem?_replicate]
  split <;> simp
def stA : St := wrF st0 nmF 1 (prL 0 1 (unBs false zA 1)) true false
theorem fineA : Fine 5 stA nmF := by
  have := (fine0 nmF).write 1 (prL 0 1 (unBs false zA 1)) (prL_ok 0 1 _ (unBs_ok false zA 1 zA_bytes rfl)) true false
  rw [prL_len, unBs_len] at this
  exact this
theorem blkA : blkAt (stA.seen nmF) 1 = prB 0 1 ⟨zA, 0, 0, 0⟩ := by
  have := wrF_view (f := nmF) (st := st0) good_none 1 (prL 0 1 (unBs false zA 1)) (prL_ok 0 1 _ (unBs_ok false zA 1 zA_bytes rfl)) true false 1
  unfold stA
  rw [this, if_pos (by decide)]
  rfl
theorem packA : packL false (rdL (stA.seen nmF) 1 1) = zA := by
  simp only [rdL, List.range_one, List.map_cons, List.map_nil, packL, pkL, List.flatten_cons, List.flatten_nil]
  rw [show (1 + 0 : Nat) = 1 from rfl, blkA]
  rfl
theorem lookA : lookS 0 0 1 (rdL (stA.seen nmF) 1 1) = noS := look_all 0 0 1 _ (fun i b _ _ => by unfold checkC; rw [if_pos (by decide)])

set_option maxRecDepth 100000 in
set_option maxHeartbeats 1000000 in
theorem awake_any (w : World) : Calls Try.prog 9 #[] w fun e w' => e = .returned (.bool true) ∧ Below w.heap.size w w' := by
  have HD := Kpt.mk (device_any 4 0 true w (by decide) (by decide))
  have HBy := Kpt.mk (fun W => bytes_any 16 170 W (by decide))
  have HW : Kpt (∀ W B tag S D g cp, Dv W B tag st0 nmF S D 4 0 true → RdAt W (.slice (some ⟨g, 0, none⟩) 16 cp) zA → Calls Try.prog 11 #[.pointer (some ⟨D, 0, none⟩), .agg (Cm.vals ⟨8, false, 1, 1, 0, false, 0, false, false, 0, 0, false, 0, 0, false⟩), .slice (some ⟨g, 0, none⟩) 16 cp] W fun e w' => e = .returned (.agg (resV 0 noS (.slice none 0 0))) ∧ Aft W w' B tag stA) :=
    ⟨fun W B tag S D g cp h hr => doWrite_8 W B tag st0 nmF S D 4 0 true 1 1 16 cp (some ⟨g, 0, none⟩) zA ⟨8, false, 1, 1, 0, false, 0, false, false, 0, 0, false, 0, 0, false⟩ h (by decide) (by decide) (by decide) (by decide) (by decide) (fun _ => rfl) (fun c hc => by cases hc) (by decide) (by decide) rfl rfl rfl (by decide) hr rfl zA_bytes rfl rfl⟩
  have HR : Kpt (∀ W B tag S D, Dv W B tag stA nmF S D 4 0 true → Calls Try.prog 11 #[.pointer (some ⟨D, 0, none⟩), .agg (Cm.vals ⟨7, false, 1, 1, 0, false, 0, false, false, 0, 0, false, 0, 0, false⟩), .slice none 0 0] W fun e w' => ∃ g cap, e = .returned (.agg (resV 0 noS (.slice (some ⟨g, 0, none⟩) 16 cap))) ∧ Got W w' B tag (rdSt stA 1) g 16 cap zA) :=
    ⟨fun W B tag S D h => by
      have := doRead W B tag stA nmF S D 4 0 true 1 1 ⟨7, false, 1, 1, 0, false, 0, false, false, 0, 0, false, 0, 0, false⟩ (.slice none 0 0) h (by decide) (by decide) (by decide) (by have := fineA.cnt; omega) fineA.fails fineA.good (by decide) (by decide) (by decide) (by decide) (by decide) rfl rfl rfl (by decide) lookA
      rw [show packL ((Cm.pr ⟨7, false, 1, 1, 0, false, 0, false, false, 0, 0, false, 0, 0, false⟩) != 0) (rdL (stA.seen nmF) 1 1) = zA from packA] at this
      exact this⟩
  obtain ⟨z, hz⟩ : ∃ z, z = zA := ⟨_, rfl⟩
  rw [← hz] at HW HR
  rw [show List.replicate 16 (170 : Int) = z from hz.symm] at HBy
  obtain ⟨sA, hsA⟩ : ∃ sA, sA = stA := ⟨_, rfl⟩
  rw [← hsA] at HW HR
  clear hz hsA
  simp only [Cm.vals] at HW HR
  go_enter Try.func9, Try.ntmps9
  go_wp2_with fail
  refine HD.out.mono ?_
  rintro e w1 ⟨D, B, S, tag, rfl, hdv, hb1, ht1⟩
  have F := Kpt.mk hdv.fx
  have hSl := hdv.sto.lt
  have hDl := hdv.bx.lt
  have hbT := Kpt.mk (And.intro hb1 ht1)
  clear HD hdv hb1 ht1
  go_wp2_with (first
      | (have hm := m6; refine wpList_store_bx rfl 34 _ _ rfl bv _ (resV 0 noS (.slice (some ⟨gd, 0, none⟩) 16 cd)) rfl rfl Ov.out.bx rfl infoR (resV_one _ _ _ _ _) rfl ?_; intro w7 hX_ hg_; replace Oa := Kpt.mk (Oa.out.other hg_ (by omega)); replace Rp := Kpt.mk (Rp.out.other hg_ (by omega)); replace Rd := Kpt.mk (Rd.out.other hg_ (by omega)); replace F := Kpt.mk (F.out.own Ov.out hg_ hSl hDl); replace Ov := Kpt.mk (Ov.out.set hX_); clear hX_ hg_; clear hm m6; have m7 : Kpt True := ⟨trivial⟩)
      | (have hm := m5; refine wpList_var rfl 34 rfl zeroR zeroRi ?_; intro bv w_v hl_ hX_ h_; have q_a_v : ba < bv := Nat.lt_of_lt_of_le Oa.out.bx.lt hl_; have q_p_v : gp < bv := Nat.lt_of_lt_of_le Rp.out.lt hl_; have q_d_v : gd < bv := Nat.lt_of_lt_of_le Rd.out.lt hl_; have Ov := Kpt.mk (F.out.new hl_ hX_); replace Oa := Kpt.mk (Oa.out.below h_); replace Rp := Kpt.mk (Rp.out.below h_); replace Rd := Kpt.mk (Rd.out.below h_); replace F := Kpt.mk (F.out.below h_); clear hl_ hX_ h_; clear hm m5; have m6 : Kpt True := ⟨trivial⟩)
      | (go_at_call 11; have hm := m4; go_must (refine (HR.out _ _ _ _ _ F.out.dv).mono ?_; rintro e w5 ⟨gd, cd, rfl, tag4, hW_, s_, hrow_, hgn_⟩; have q_a_d : ba < gd := Nat.lt_of_lt_of_le Oa.out.bx.lt (own_lo hrow_).1; have q_p_d : gp < gd := Nat.lt_of_lt_of_le Rp.out.lt (own_lo hrow_).1; have Rd_ := Kpt.mk (Ob.mk (w := w1) (tag' := tag4) (own_base hrow_ F.out.st.size) hgn_); replace Oa := Kpt.mk (Oa.out.call s_); replace Rp := Kpt.mk (Rp.out.call s_); replace F := Kpt.mk (F.out.call hW_ s_); have Rd := Rd_; clear Rd_; clear hW_ s_ hrow_ hgn_; clear hm m4; have m5 : Kpt True := ⟨trivial⟩))
      | (have hm := m3; refine wpList_store_bx rfl 34 _ _ rfl ba _ (resV 0 noS (.slice none 0 0)) rfl rfl Oa.out.bx rfl infoR (resV_one _ _ _ _ _) rfl ?_; intro w4 hX_ hg_; replace Rp := Kpt.mk (Rp.out.other hg_ (by omega)); replace F := Kpt.mk (F.out.own Oa.out hg_ hSl hDl); replace Oa := Kpt.mk (Oa.out.set hX_); clear hX_ hg_; clear hm m3; have m4 : Kpt True := ⟨trivial⟩)
      | (have hm := m2; refine wpList_var rfl 34 rfl zeroR zeroRi ?_; intro ba w_a hl_ hX_ h_; have q_p_a : gp < ba := Nat.lt_of_lt_of_le Rp.out.lt hl_; have Oa := Kpt.mk (F.out.new hl_ hX_); replace Rp := Kpt.mk (Rp.out.below h_); replace F := Kpt.mk (F.out.below h_); clear hl_ hX_ h_; clear hm m2; have m3 : Kpt True := ⟨trivial⟩)
      | (go_at_call 11; have hm := m1; go_must (refine (HW.out _ _ _ _ _ _ _ F.out.dv (own_rd Rp.out.own)).mono ?_; rintro e w3 ⟨rfl, tag3, hW_, s_⟩; replace Rp := Kpt.mk (Rp.out.call s_); replace F := Kpt.mk (F.out.call hW_ s_); clear hW_ s_; clear hm m1; have m2 : Kpt True := ⟨trivial⟩))
      | (go_at_call 14; go_must (refine (HBy.out _).mono ?_; rintro e w2 ⟨gp, rfl, hrow_, h_⟩; have Rp := Kpt.mk (F.out.obs hrow_); replace F := Kpt.mk (F.out.below h_); clear h_ hrow_; have m1 : Kpt True := ⟨trivial⟩))
      | fail)
  obtain ⟨a0, a9, al⟩ := resV_at Oa.out.bx
  obtain ⟨v0, v9, vl⟩ := resV_at Ov.out.bx
  have hrd := own_rd Rd.out.own
  refine wp_region_any (by kernel_rfl) ?_
  refine wpAny_of_C (C := fun W => W.cell? ⟨ba, 0, none⟩ = some (.int .u8 0) ∧ W.cell? ⟨bv, 0, none⟩ = some (.int .u8 0) ∧ W.cell? ⟨bv, 9, none⟩ = some (.slice (some ⟨gd, 0, none⟩) 16 cd) ∧ RdAt W (.slice (some ⟨gd, 0, none⟩) 16 cd) z) _ _ _ _ ?_
  refine wpAnyC_take 0 (.pointer (some ⟨ba, 0, none⟩)) rfl (by kernel_rfl) (by kernel_rfl) (by kernel_rfl) (fun _ _ _ h => h) (wanted_free rfl _) (fun W hW => by obtain ⟨q1, q2, q3, q4⟩ := hW; go_simp) ?_
  try simp only [Act.put, List.getElem_toArray, List.getElem_cons_succ, List.getElem_cons_zero, List.setIfInBounds_toArray, List.set_cons_succ, List.set_cons_zero]
  refine wpAnyC_take 1 (.int .u8 0) rfl (by kernel_rfl) (by kernel_rfl) (by kernel_rfl) (fun _ _ _ h => h) (wanted_free rfl _) (fun W hW => by obtain ⟨q1, q2, q3, q4⟩ := hW; go_simp) ?_
  try simp only [Act.put, List.getElem_toArray, List.getElem_cons_succ, List.getElem_cons_zero, List.setIfInBounds_toArray, List.set_cons_succ, List.set_cons_zero]
  refine wpAnyC_take 2 (.bool true) rfl (by kernel_rfl) (by kernel_rfl) (by kernel_rfl) (fun _ _ _ h => h) (wanted_free rfl _) (fun W hW => by obtain ⟨q1, q2, q3, q4⟩ := hW; go_simp) ?_
  try simp only [Act.put, List.getElem_toArray, List.getElem_cons_succ, List.getElem_cons_zero, List.setIfInBounds_toArray, List.set_cons_succ, List.set_cons_zero]
  refine wpAnyC_take 3 (.bool true) rfl (by kernel_rfl) (by kernel_rfl) (by kernel_rfl) (fun _ _ _ h => h) (wanted_free rfl _) (fun W hW => by obtain ⟨q1, q2, q3, q4⟩ := hW; go_simp) ?_
  try simp only [Act.put, List.getElem_toArray, List.getElem_cons_succ, List.getElem_cons_zero, List.setIfInBounds_toArray, List.set_cons_succ, List.set_cons_zero]
  refine wpAnyC_take 4 (.pointer (some ⟨bv, 0, none⟩)) rfl (by kernel_rfl) (by kernel_rfl) (by kernel_rfl) (fun _ _ _ h => h) (wanted_at true rfl rfl rfl rfl) (fun W hW => by obtain ⟨q1, q2, q3, q4⟩ := hW; go_simp) ?_
  try simp only [Act.put, List.getElem_toArray, List.getElem_cons_succ, List.getElem_cons_zero, List.setIfInBounds_toArray, List.set_cons_succ, List.set_cons_zero]
  refine wpAnyC_take 5 (.int .u8 0) rfl (by kernel_rfl) (by kernel_rfl) (by kernel_rfl) (fun _ _ _ h => h) (wanted_at true rfl rfl rfl rfl) (fun W hW => by obtain ⟨q1, q2, q3, q4⟩ := hW; go_simp) ?_
  try simp only [Act.put, List.getElem_toArray, List.getElem_cons_succ, List.getElem_cons_zero, List.setIfInBounds_toArray, List.set_cons_succ, List.set_cons_zero]
  refine wpAnyC_take 6 (.bool true) rfl (by kernel_rfl) (by kernel_rfl) (by kernel_rfl) (fun _ _ _ h => h) (wanted_at true rfl rfl rfl rfl) (fun W hW => by obtain ⟨q1, q2, q3, q4⟩ := hW; go_simp) ?_
  try simp only [Act.put, List.getElem_toArray, List.getElem_cons_succ, List.getElem_cons_zero, List.setIfInBounds_toArray, List.set_cons_succ, List.set_cons_zero]
  refine wpAnyC_take 7 (.bool true) rfl (by kernel_rfl) (by kernel_rfl) (by kernel_rfl) (fun _ _ _ h => h) (wanted_free rfl _) (fun W hW => by obtain ⟨q1, q2, q3, q4⟩ := hW; go_simp) ?_
  try simp only [Act.put, List.getElem_toArray, List.getElem_cons_succ, List.getElem_cons_zero, List.setIfInBounds_toArray, List.set_cons_succ, List.set_cons_zero]
  refine wpAnyC_take 8 (.bool true) rfl (by kernel_rfl) (by kernel_rfl) (by kernel_rfl) (fun _ _ _ h => h) (wanted_free rfl _) (fun W hW => by obtain ⟨q1, q2, q3, q4⟩ := hW; go_simp) ?_
  try simp only [Act.put, List.getElem_toArray, List.getElem_cons_succ, List.getElem_cons_zero, List.setIfInBounds_toArray, List.set_cons_succ, List.set_cons_zero]
  refine wpAnyC_take 9 (.pointer (some ⟨bv, 9, none⟩)) rfl (by kernel_rfl) (by kernel_rfl) (by kernel_rfl) (fun _ _ _ h => h) (wanted_at true rfl rfl rfl rfl) (fun W hW => by obtain ⟨q1, q2, q3, q4⟩ := hW; go_simp) ?_
  try simp only [Act.put, List.getElem_toArray, List.getElem_cons_succ, List.getElem_cons_zero, List.setIfInBounds_toArray, List.set_cons_succ, List.set_cons_zero]
  refine wpAnyC_take 10 (.slice (some ⟨gd, 0, none⟩) 16 cd) rfl (by kernel_rfl) (by kernel_rfl) (by kernel_rfl) (fun _ _ _ h => h) (wanted_at true rfl rfl rfl rfl) (fun W hW => by obtain ⟨q1, q2, q3, q4⟩ := hW; go_simp) ?_
  try simp only [Act.put, List.getElem_toArray, List.getElem_cons_succ, List.getElem_cons_zero, List.setIfInBounds_toArray, List.set_cons_succ, List.set_cons_zero]
  refine wpAnyC_take 11 (.string (strOfNums z)) rfl (by kernel_rfl) (by kernel_rfl) (by kernel_rfl) (fun _ _ _ h => h) (wanted_at true rfl rfl rfl rfl) (fun W hW => exec_conv (.tmp 28) rfl (.slice (some ⟨gd, 0, none⟩) 16 cd) z rfl hW.2.2.2) ?_
  try simp only [Act.put, List.getElem_toArray, List.getElem_cons_succ, List.getElem_cons_zero, List.setIfInBounds_toArray, List.set_cons_succ, List.set_cons_zero]
  refine wpAnyC_one 12 (⟨a0, v0, v9, hrd⟩) rfl (by kernel_rfl) (wanted_at true rfl rfl rfl rfl) (fun KA hKA => ?_)
  go_simp
  refine (HBy.out _).mono ?_
  rintro e w9 ⟨g9, rfl, hrow9, h9⟩
  have h_ := below_undrew h9
  replace Oa := Kpt.mk (Oa.out.below h_)
  replace Ov := Kpt.mk (Ov.out.below h_)
  replace Rp := Kpt.mk (Rp.out.below h_)
  replace Rd := Kpt.mk (Rd.out.below h_)
  replace F := Kpt.mk (F.out.below h_)
  have hr9 := own_rd hrow9
  refine hKA _ _ ?_
  clear hKA KA
  try simp only [Act.put, List.getElem_toArray, List.getElem_cons_succ, List.getElem_cons_zero, List.setIfInBounds_toArray, List.set_cons_succ, List.set_cons_zero]
  refine wpAnyC_mono (C' := fun W => (W.cell? ⟨ba, 0, none⟩ = some (.int .u8 0) ∧ W.cell? ⟨bv, 0, none⟩ = some (.int .u8 0) ∧ W.cell? ⟨bv, 9, none⟩ = some (.slice (some ⟨gd, 0, none⟩) 16 cd) ∧ RdAt W (.slice (some ⟨gd, 0, none⟩) 16 cd) z) ∧ RdAt W (.slice (some ⟨g9, 0, none⟩) 16 16) z) (fun W h => h.1) _ _ _ _ ?_
  refine wpAnyC_take 13 (.string (strOfNums z)) rfl (by kernel_rfl) (by kernel_rfl) (by kernel_rfl) (fun _ _ _ h => h) (wanted_at true rfl rfl rfl rfl) (fun W hW => exec_conv (.tmp 30) rfl (.slice (some ⟨g9, 0, none⟩) 16 16) z rfl hW.2) ?_
  try simp only [Act.put, List.getElem_toArray, List.getElem_cons_succ, List.getElem_cons_zero, List.setIfInBounds_toArray, List.set_cons_succ, List.set_cons_zero]
  refine wpAnyC_take 14 (.bool true) rfl (by kernel_rfl) (by kernel_rfl) (by kernel_rfl) (fun _ _ _ h => h) (wanted_at true rfl rfl rfl rfl) (fun W hW => by go_simp) ?_
  try simp only [Act.put, List.getElem_toArray, List.getElem_cons_succ, List.getElem_cons_zero, List.setIfInBounds_toArray, List.set_cons_succ, List.set_cons_zero]
  refine wpAnyC_take 15 (.bool true) rfl (by kernel_rfl) (by kernel_rfl) (by kernel_rfl) (fun _ _ _ h => h) (wanted_free rfl _) (fun W hW => by go_simp) ?_
  try simp only [Act.put, List.getElem_toArray, List.getElem_cons_succ, List.getElem_cons_zero, List.setIfInBounds_toArray, List.set_cons_succ, List.set_cons_zero]
  refine wpAnyC_take 16 (.bool true) rfl (by kernel_rfl) (by kernel_rfl) (by kernel_rfl) (fun _ _ _ h => h) (wanted_free rfl _) (fun W hW => by go_simp) ?_
  try simp only [Act.put, List.getElem_toArray, List.getElem_cons_succ, List.getElem_cons_zero, List.setIfInBounds_toArray, List.set_cons_succ, List.set_cons_zero]
  refine wpAnyC_done (⟨⟨(resV_at Oa.out.bx).1, (resV_at Ov.out.bx).1, (resV_at Ov.out.bx).2.1, own_rd Rd.out.own⟩, hr9⟩) (by kernel_rfl) ?_
  clear a0 a9 v0 v9 hrd hr9 hrow9 h9 h_
  go_wp2
  go_ret
  exact ⟨rfl, hbT.out.1.trans (F.out.st.belowT hbT.out.1.size hbT.out.2).1⟩
end Go.Proofs.Ytklboieemljmiaa

namespace Go.Proofs.Ytklboieemljmiaa
open Go.RowKit
set_option linter.unusedVariables false
set_option linter.unusedSimpArgs false
theorem items_any (w : World) (d : Nat) (xs ys : Array Value) (x y : Nat → Int) : ∀ is : List Nat, (∀ i ∈ is, xs[i]? = some (.int .u8 (x i)) ∧ ys[i]? = some (.int .u8 (y i))) → (Op.eqItems (d + 1) 5 1 xs ys is).run Try.prog w = .ok (is.all (fun i => x i == y i)) w
  | [], _ => by simp [Op.eqItems]
  | i :: is, h => by
    obtain ⟨h1, h2⟩ := h i (by simp)
    have hp := run_part_plain (P := Try.prog) w (e := 5) (off := i * 1) (xs := xs) (v := .int .u8 (x i)) (by kernel_rfl) (by rw [Nat.mul_one]; exact h1)
    have hq := run_part_plain (P := Try.prog) w (e := 5) (off := i * 1) (xs := ys) (v := .int .u8 (y i)) (by kernel_rfl) (by rw [Nat.mul_one]; exact h2)
    have he := run_equalIn_int (P := Try.prog) w d 5 .u8 .u8 (x i) (y i) Try.underlying5
    have ih := items_any w d xs ys x y is (fun j hj => h j (by simp [hj]))
    simp only [Op.eqItems, Sem.run_bind, hp, hq, he, Result.andThen_ok]
    by_cases e : x i = y i
    · simp [e, ih]
    · have e' : (x i == y i) = false := by simpa using e
      simp [e, e']
theorem cels_at (d : List Int) (hd : d.length = 16) (j : Nat) (hj : j < 16) : (cels d).toArray[j]? = some (.int .u8 (d.getD j 0)) := by
  simp only [List.getElem?_toArray]
  unfold cels
  rw [List.getElem?_map, List.getElem?_eq_getElem (by omega), List.getD_eq_getElem?_getD, List.getElem?_eq_getElem (by omega)]
  rfl
theorem list_same (x y : List Int) (hx : x.length = 16) (hy : y.length = 16) : (List.range 16).all (fun i => x.getD i 0 == y.getD i 0) = decide (x = y) := by
  by_cases e : x = y
  · subst e; simp
  · rw [decide_eq_false e, List.all_eq_false]
    apply Classical.byContradiction
    intro hn
    apply e
    refine List.ext_getElem (by omega) (fun i h1 h2 => ?_)
    apply Classical.byContradiction
    intro hne
    apply hn
    refine ⟨i, by rw [List.mem_range]; omega, ?_⟩
    simp only [List.getD_eq_getElem?_getD]
    rw [List.getElem?_eq_getElem h1, List.getElem?_eq_getElem h2]
    simpa using hne
theorem arr_eq (x y : List Int) (hx : x.length = 16) (hy : y.length = 16) (w : World) : (Op.equalIn 10000 71 (.agg (cels x).toArray) (.agg (cels y).toArray)).run Try.prog w = .ok (decide (x = y)) w := by
  obtain ⟨i, hi⟩ := info_of_underlying Try.underlying5
  rw [run_equalIn_array w 9999 _ _ Try.underlying71 hi, show Try.prog.cellsOf 5 = 1 from by kernel_rfl, ← list_same x y hx hy]
  exact items_any w 9998 (cels x).toArray (cels y).toArray (fun i => x.getD i 0) (fun i => y.getD i 0) (List.range 16) (fun j hj => ⟨cels_at x hx j (by simpa using hj), cels_at y hy j (by simpa using hj)⟩)
theorem exec_eql_arr {W : World} {o : Oper} {a : Act} (x y : Operand) (ho : o.op = .binOp .eql 71 x y 71) (V U : Array Value) (r : Bool) (h : ∀ w : World, (Op.equalIn 10000 71 (.agg V) (.agg U)).run Try.prog w = .ok r w) (hx : a.eval x = .agg V) (hy : a.eval y = .agg U) :
    (execOp a.eval o).run Try.prog W = .ok (.value (.bool r)) W := by
  unfold execOp
  simp only [ho, hx, hy]
  simp [run_eqGuard_agg (P := Try.prog) W .eql 71 x y V U (by kernel_rfl), run_eql_struct, h]
/-- Blocks of both rows at a place. -/
theorem bks_get {w : World} {a : Option Addr} {n cp : Nat} {bs : List Bk} (h : Bks w (.slice a n cp) bs) (hn : bs.length = n) (j : Nat) (hj : j < n) : ∃ b, bs[j]? = some b ∧ b.ok ∧ ∃ g o, a = some ⟨g, o, none⟩ ∧ g < w.heap.size ∧ w.rangeAt g (o + j * 19) b.cs := by
  obtain ⟨a', c', e, _, h⟩ := h
  have hb : bs[j]? = some bs[j] := List.getElem?_eq_getElem (by omega)
  obtain ⟨h1, g, o, h2, h3, h4⟩ := h j bs[j] hb
  simp only [Value.slice.injEq] at e
  exact ⟨bs[j], hb, h1, g, o, by rw [e.1]; exact h2, h3, h4⟩
theorem range_data {w : World} {g o : Nat} {b : Bk} (h : w.rangeAt g o b.cs) : w.rangeAt g o (cels b.d) := fun j u hu => by
  refine h j u ?_
  unfold Bk.cs
  rw [List.getElem?_append_left (List.getElem?_eq_some_iff.1 hu).1]
  exact hu
theorem range_byte {w : World} {g o : Nat} {d : List Int} (h : w.rangeAt g o (cels d)) (hd : d.length = 16) (j : Nat) (hj : j < 16) : w.cell? ⟨g, o + j, none⟩ = some (.int .u8 (d.getD j 0)) := h j _ (by
  unfold cels
  rw [List.getElem?_map, List.getElem?_eq_getElem (by omega), List.getD_eq_getElem?_getD, List.getElem?_eq_getElem (by omega)]
  rfl)
/-- The first place in which data are unlike. -/
def Dif (xs bs : List Bk) (k : Nat) : Prop := ∃ i j a b, k = i * 16 + j ∧ xs[i]? = some a ∧ bs[i]? = some b ∧ j < 16 ∧ a.d.getD j 0 ≠ b.d.getD j 0 ∧ (∀ q, q < j → a.d.getD q 0 = b.d.getD q 0) ∧ ∀ q x y, q < i → xs[q]? = some x → bs[q]? = some y → x.d = y.d

set_option maxRecDepth 100000 in
set_option maxHeartbeats 2000000 in
theorem differ_none (a1 a2 : Option Addr) (n c1 c2 : Nat) (xs bs : List Bk) (w : World) (h1 : Bks w (.slice a1 n c1) xs) (hn1 : xs.length = n) (h2 : Bks w (.slice a2 n c2) bs) (hn2 : bs.length = n) (hn : n ≤ 4096) (hd : ∀ j x y, j < n → xs[j]? = some x → bs[j]? = some y → x.d = y.d) :
    Calls Try.prog 80 #[.slice a1 n c1, .slice a2 n c2] w fun e w' => e = .returned (.tuple #[.int .i64 0, .bool false]) ∧ Below w.heap.size w w' := by
  have g1 := Kpt.mk (fun j hj => bks_get h1 hn1 j hj)
  have g2 := Kpt.mk (fun j hj => bks_get h2 hn2 j hj)
  replace hd := Kpt.mk hd
  clear h1 h2 hn1 hn2
  go_enter Try.func80, Try.ntmps80
  go_wp2_with fail
  go_loopw [10] (fun t wr => ∃ i : Nat, i ≤ n ∧ t = .int .i64 i ∧ Kpt (Below w.heap.size w wr)) (fun t _ => n - (intOf t).toNat)
  case atStart => exact ⟨0, Nat.zero_le _, rfl, ⟨Below.refl _ _⟩⟩
  case round =>
    obtain ⟨i, hi, rfl, hbe⟩ := hrel
    by_cases hlt : i < n
    · have e1 : (i : Int) < n := by omega
      obtain ⟨x, hx, hxok, gx, ox, rfl, hgx, hrx⟩ := g1.out i hlt
      obtain ⟨y, hy, hyok, gy, oy, rfl, hgy, hry⟩ := g2.out i hlt
      have rx := range_data (rangeAt_keep hrx (hbe.out.block gx hgx))
      have ry := range_data (rangeAt_keep hry (hbe.out.block gy hgy))
      have HQ := arr_eq x.d y.d hxok.len hyok.len
      have hbx := fun (W : World) (h : W.rangeAt gx (ox + i * 19) (cels x.d)) j hj => range_byte h hxok.len j hj
      have hby := fun (W : World) (h : W.rangeAt gy (oy + i * 19) (cels y.d)) j hj => range_byte h hyok.len j hj
      have lx := hxok.len
      have ly := hyok.len
      obtain ⟨LX, hLX⟩ : ∃ L, L = cels x.d := ⟨_, rfl⟩
      obtain ⟨LY, hLY⟩ : ∃ L, L = cels y.d := ⟨_, rfl⟩
      rw [← hLX] at rx HQ hbx
      rw [← hLY] at ry HQ hby
      have llx : LX.length = 16 := by rw [hLX]; simp [lx]
      have lly : LY.length = 16 := by rw [hLY]; simp [ly]
      obtain ⟨VX, hVX⟩ : ∃ V, V = LX.toArray := ⟨_, rfl⟩
      obtain ⟨VY, hVY⟩ : ∃ V, V = LY.toArray := ⟨_, rfl⟩
      rw [← hVX, ← hVY] at HQ
      replace HQ := Kpt.mk HQ
      replace rx := Kpt.mk rx
      replace ry := Kpt.mk ry
      replace hbx := Kpt.mk hbx
      replace hby := Kpt.mk hby
      replace llx := Kpt.mk llx
      replace lly := Kpt.mk lly
      replace hVX := Kpt.mk hVX
      replace hVY := Kpt.mk hVY
      replace hx := Kpt.mk hx
      replace hy := Kpt.mk hy
      clear hLX hLY lx ly hrx hry hxok hyok
      go_wp2_with fail
      have he : x.d = y.d := hd.out i x y hlt hx.out hy.out
      refine wp_region_any (by kernel_rfl) ?_
      refine wpAny_of_C (C := fun W => W.rangeAt gx (ox + i * 19) LX ∧ W.rangeAt gy (oy + i * 19) LY) _ _ _ _ ?_
      refine wpAnyC_take 0 (.slice (some ⟨gx, ox, none⟩) n c1) rfl (by kernel_rfl) (by kernel_rfl) (by kernel_rfl) (fun _ _ _ h => h) (wanted_free rfl _) (fun W hW => by go_simp) ?_
      try simp only [Act.put, List.getElem_toArray, List.getElem_cons_succ, List.getElem_cons_zero, List.setIfInBounds_toArray, List.set_cons_succ, List.set_cons_zero]
      refine wpAnyC_take 1 (.int .i64 i) rfl (by kernel_rfl) (by kernel_rfl) (by kernel_rfl) (fun _ _ _ h => h) (wanted_free rfl _) (fun W hW => by go_simp) ?_
      try simp only [Act.put, List.getElem_toArray, List.getElem_cons_succ, List.getElem_cons_zero, List.setIfInBounds_toArray, List.set_cons_succ, List.set_cons_zero]
      refine wpAnyC_take 2 (.pointer (some ⟨gx, ox + i * 19, none⟩)) rfl (by kernel_rfl) (by kernel_rfl) (by kernel_rfl) (fun _ _ _ h => h) (wanted_free rfl _) (fun W hW => by go_simp) ?_
      try simp only [Act.put, List.getElem_toArray, List.getElem_cons_succ, List.getElem_cons_zero, List.setIfInBounds_toArray, List.set_cons_succ, List.set_cons_zero]
      refine wpAnyC_take 3 (.pointer (some ⟨gx, ox + i * 19, none⟩)) rfl (by kernel_rfl) (by kernel_rfl) (by kernel_rfl) (fun _ _ _ h => h) (wanted_free rfl _) (fun W hW => by go_simp) ?_
      try simp only [Act.put, List.getElem_toArray, List.getElem_cons_succ, List.getElem_cons_zero, List.setIfInBounds_toArray, List.set_cons_succ, List.set_cons_zero]
      refine wpAnyC_take 4 (.agg VX) rfl (by kernel_rfl) (by kernel_rfl) (by kernel_rfl) (fun _ _ _ h => h) (wanted_free rfl _) (fun W hW => by rw [hVX.out]; exact exec_load_rg 71 (.tmp 16) rfl gx (ox + i * 19) LX rfl hW.1 _ Try.underlying71 rfl (by rw [llx.out]; exact infoA)) ?_
      try simp only [Act.put, List.getElem_toArray, List.getElem_cons_succ, List.getElem_cons_zero, List.setIfInBounds_toArray, List.set_cons_succ, List.set_cons_zero]
      refine wpAnyC_take 5 (.slice (some ⟨gy, oy, none⟩) n c2) rfl (by kernel_rfl) (by kernel_rfl) (by kernel_rfl) (fun _ _ _ h => h) (wanted_free rfl _) (fun W hW => by go_simp) ?_
      try simp only [Act.put, List.getElem_toArray, List.getElem_cons_succ, List.getElem_cons_zero, List.setIfInBounds_toArray, List.set_cons_succ, List.set_cons_zero]
      refine wpAnyC_take 6 (.int .i64 i) rfl (by kernel_rfl) (by kernel_rfl) (by kernel_rfl) (fun _ _ _ h => h) (wanted_free rfl _) (fun W hW => by go_simp) ?_
      try simp only [Act.put, List.getElem_toArray, List.getElem_cons_succ, List.getElem_cons_zero, List.setIfInBounds_toArray, List.set_cons_succ, List.set_cons_zero]
      refine wpAnyC_take 7 (.pointer (some ⟨gy, oy + i * 19, none⟩)) rfl (by kernel_rfl) (by kernel_rfl) (by kernel_rfl) (fun _ _ _ h => h) (wanted_free rfl _) (fun W hW => by go_simp) ?_
      try simp only [Act.put, List.getElem_toArray, List.getElem_cons_succ, List.getElem_cons_zero, List.setIfInBounds_toArray, List.set_cons_succ, List.set_cons_zero]
      refine wpAnyC_take 8 (.pointer (some ⟨gy, oy + i * 19, none⟩)) rfl (by kernel_rfl) (by kernel_rfl) (by kernel_rfl) (fun _ _ _ h => h) (wanted_free rfl _) (fun W hW => by go_simp) ?_
      try simp only [Act.put, List.getElem_toArray, List.getElem_cons_succ, List.getElem_cons_zero, List.setIfInBounds_toArray, List.set_cons_succ, List.set_cons_zero]
      refine wpAnyC_take 9 (.agg VY) rfl (by kernel_rfl) (by kernel_rfl) (by kernel_rfl) (fun _ _ _ h => h) (wanted_free rfl _) (fun W hW => by rw [hVY.out]; exact exec_load_rg 71 (.tmp 21) rfl gy (oy + i * 19) LY rfl hW.2 _ Try.underlying71 rfl (by rw [lly.out]; exact infoA)) ?_
      try simp only [Act.put, List.getElem_toArray, List.getElem_cons_succ, List.getElem_cons_zero, List.setIfInBounds_toArray, List.set_cons_succ, List.set_cons_zero]
      refine wpAnyC_take 10 (.bool true) rfl (by kernel_rfl) (by kernel_rfl) (by kernel_rfl) (fun _ _ _ h => h) (wanted_free rfl _) (fun W hW => exec_eql_arr (.tmp 17) (.tmp 22) rfl VX VY true (fun w => by have := HQ.out w; rw [decide_eq_true he] at this; exact this) rfl rfl) ?_
      try simp only [Act.put, List.getElem_toArray, List.getElem_cons_succ, List.getElem_cons_zero, List.setIfInBounds_toArray, List.set_cons_succ, List.set_cons_zero]
      refine wpAnyC_done (⟨rx.out, ry.out⟩) (by kernel_rfl) ?_
      go_wp2
      go_roundw
      case rel => exact ⟨i + 1, by omega, by go_num, ⟨hbe.out.trans (below_drewN (Below.refl _ _) 1 |>.mono hbe.out.size)⟩⟩
      case measure => simp [intOf]; omega
    · have e1 : ¬ (i : Int) < n := by omega
      go_wp2
      go_ret2
      exact ⟨rfl, hbe.out⟩

set_option maxRecDepth 100000 in
set_option maxHeartbeats 2000000 in
theorem differ_at (a1 a2 : Option Addr) (n c1 c2 : Nat) (xs bs : List Bk) (w : World) (h1 : Bks w (.slice a1 n c1) xs) (hn1 : xs.length = n) (h2 : Bks w (.slice a2 n c2) bs) (hn2 : bs.length = n) (hn : n ≤ 4096) (pl : Nat) (hd : Dif xs bs pl) :
    Calls Try.prog 80 #[.slice a1 n c1, .slice a2 n c2] w fun e w' => e = .returned (.tuple #[.int .i64 pl, .bool true]) ∧ Below w.heap.size w w' := by
  have g1 := Kpt.mk (fun j hj => bks_get h1 hn1 j hj)
  have g2 := Kpt.mk (fun j hj => bks_get h2 hn2 j hj)
  obtain ⟨pi, pj, A, B, hpl, hA, hB, hpj, hne, heq, hall⟩ := hd
  have hpi : pi < n := by rw [← hn1]; exact (List.getElem?_eq_some_iff.1 hA).1
  have hne := Kpt.mk hne
  have heq := Kpt.mk heq
  have hall := Kpt.mk hall
  have hA := Kpt.mk hA
  have hB := Kpt.mk hB
  replace hpl := Kpt.mk hpl
  clear h1 h2 hn1 hn2
  go_enter Try.func80, Try.ntmps80
  go_wp2_with fail
  go_loopw [10] (fun t wr => ∃ i : Nat, i ≤ pi ∧ t = .int .i64 i ∧ Kpt (Below w.heap.size w wr)) (fun t _ => n - (intOf t).toNat)
  case atStart => exact ⟨0, Nat.zero_le _, rfl, ⟨Below.refl _ _⟩⟩
  case round =>
    obtain ⟨i, hi, rfl, hbe⟩ := hrel
    · have hlt : i < n := by omega
      have e1 : (i : Int) < n := by omega
      obtain ⟨x, hx, hxok, gx, ox, rfl, hgx, hrx⟩ := g1.out i hlt
      obtain ⟨y, hy, hyok, gy, oy, rfl, hgy, hry⟩ := g2.out i hlt
      have rx := range_data (rangeAt_keep hrx (hbe.out.block gx hgx))
      have ry := range_data (rangeAt_keep hry (hbe.out.block gy hgy))
      have HQ := arr_eq x.d y.d hxok.len hyok.len
      have hbx := fun (W : World) (h : W.rangeAt gx (ox + i * 19) (cels x.d)) j hj => range_byte h hxok.len j hj
      have hby := fun (W : World) (h : W.rangeAt gy (oy + i * 19) (cels y.d)) j hj => range_byte h hyok.len j hj
      have lx := hxok.len
      have ly := hyok.len
      obtain ⟨LX, hLX⟩ : ∃ L, L = cels x.d := ⟨_, rfl⟩
      obtain ⟨LY, hLY⟩ : ∃ L, L = cels y.d := ⟨_, rfl⟩
      rw [← hLX] at rx HQ hbx
      rw [← hLY] at ry HQ hby
      have llx : LX.length = 16 := by rw [hLX]; simp [lx]
      have lly : LY.length = 16 := by rw [hLY]; simp [ly]
      obtain ⟨VX, hVX⟩ : ∃ V, V = LX.toArray := ⟨_, rfl⟩
      obtain ⟨VY, hVY⟩ : ∃ V, V = LY.toArray := ⟨_, rfl⟩
      rw [← hVX, ← hVY] at HQ
      replace HQ := Kpt.mk HQ
      replace rx := Kpt.mk rx
      replace ry := Kpt.mk ry
      replace hbx := Kpt.mk hbx
      replace hby := Kpt.mk hby
      replace llx := Kpt.mk llx
      replace lly := Kpt.mk lly
      replace hVX := Kpt.mk hVX
      replace hVY := Kpt.mk hVY
      replace hx := Kpt.mk hx
      replace hy := Kpt.mk hy
      clear hLX hLY lx ly hrx hry hxok hyok
      go_wp2_with fail
      by_cases hip : i < pi
      · have he : x.d = y.d := hall.out i x y hip hx.out hy.out
        refine wp_region_any (by kernel_rfl) ?_
        refine wpAny_of_C (C := fun W => W.rangeAt gx (ox + i * 19) LX ∧ W.rangeAt gy (oy + i * 19) LY) _ _ _ _ ?_
        refine wpAnyC_take 0 (.slice (some ⟨gx, ox, none⟩) n c1) rfl (by kernel_rfl) (by kernel_rfl) (by kernel_rfl) (fun _ _ _ h => h) (wanted_free rfl _) (fun W hW => by go_simp) ?_
        try simp only [Act.put, List.getElem_toArray, List.getElem_cons_succ, List.getElem_cons_zero, List.setIfInBounds_toArray, List.set_cons_succ, List.set_cons_zero]
        refine wpAnyC_take 1 (.int .i64 i) rfl (by kernel_rfl) (by kernel_rfl) (by kernel_rfl) (fun _ _ _ h => h) (wanted_free rfl _) (fun W hW => by go_simp) ?_
        try simp only [Act.put, List.getElem_toArray, List.getElem_cons_succ, List.getElem_cons_zero, List.setIfInBounds_toArray, List.set_cons_succ, List.set_cons_zero]
        refine wpAnyC_take 2 (.pointer (some ⟨gx, ox + i * 19, none⟩)) rfl (by kernel_rfl) (by kernel_rfl) (by kernel_rfl) (fun _ _ _ h => h) (wanted_free rfl _) (fun W hW => by go_simp) ?_
        try simp only [Act.put, List.getElem_toArray, List.getElem_cons_succ, List.getElem_cons_zero, List.setIfInBounds_toArray, List.set_cons_succ, List.set_cons_zero]
        refine wpAnyC_take 3 (.pointer (some ⟨gx, ox + i * 19, none⟩)) rfl (by kernel_rfl) (by kernel_rfl) (by kernel_rfl) (fun _ _ _ h => h) (wanted_free rfl _) (fun W hW => by go_simp) ?_
        try simp only [Act.put, List.getElem_toArray, List.getElem_cons_succ, List.getElem_cons_zero, List.setIfInBounds_toArray, List.set_cons_succ, List.set_cons_zero]
        refine wpAnyC_take 4 (.agg VX) rfl (by kernel_rfl) (by kernel_rfl) (by kernel_rfl) (fun _ _ _ h => h) (wanted_free rfl _) (fun W hW => by rw [hVX.out]; exact exec_load_rg 71 (.tmp 16) rfl gx (ox + i * 19) LX rfl hW.1 _ Try.underlying71 rfl (by rw [llx.out]; exact infoA)) ?_
        try simp only [Act.put, List.getElem_toArray, List.getElem_cons_succ, List.getElem_cons_zero, List.setIfInBounds_toArray, List.set_cons_succ, List.set_cons_zero]
        refine wpAnyC_take 5 (.slice (some ⟨gy, oy, none⟩) n c2) rfl (by kernel_rfl) (by kernel_rfl) (by kernel_rfl) (fun _ _ _ h => h) (wanted_free rfl _) (fun W hW => by go_simp) ?_
        try simp only [Act.put, List.getElem_toArray, List.getElem_cons_succ, List.getElem_cons_zero, List.setIfInBounds_toArray, List.set_cons_succ, List.set_cons_zero]
        refine wpAnyC_take 6 (.int .i64 i) rfl (by kernel_rfl) (by kernel_rfl) (by kernel_rfl) (fun _ _ _ h => h) (wanted_free rfl _) (fun W hW => by go_simp) ?_
        try simp only [Act.put, List.getElem_toArray, List.getElem_cons_succ, List.getElem_cons_zero, List.setIfInBounds_toArray, List.set_cons_succ, List.set_cons_zero]
        refine wpAnyC_take 7 (.pointer (some ⟨gy, oy + i * 19, none⟩)) rfl (by kernel_rfl) (by kernel_rfl) (by kernel_rfl) (fun _ _ _ h => h) (wanted_free rfl _) (fun W hW => by go_simp) ?_
        try simp only [Act.put, List.getElem_toArray, List.getElem_cons_succ, List.getElem_cons_zero, List.setIfInBounds_toArray, List.set_cons_succ, List.set_cons_zero]
        refine wpAnyC_take 8 (.pointer (some ⟨gy, oy + i * 19, none⟩)) rfl (by kernel_rfl) (by kernel_rfl) (by kernel_rfl) (fun _ _ _ h => h) (wanted_free rfl _) (fun W hW => by go_simp) ?_
        try simp only [Act.put, List.getElem_toArray, List.getElem_cons_succ, List.getElem_cons_zero, List.setIfInBounds_toArray, List.set_cons_succ, List.set_cons_zero]
        refine wpAnyC_take 9 (.agg VY) rfl (by kernel_rfl) (by kernel_rfl) (by kernel_rfl) (fun _ _ _ h => h) (wanted_free rfl _) (fun W hW => by rw [hVY.out]; exact exec_load_rg 71 (.tmp 21) rfl gy (oy + i * 19) LY rfl hW.2 _ Try.underlying71 rfl (by rw [lly.out]; exact infoA)) ?_
        try simp only [Act.put, List.getElem_toArray, List.getElem_cons_succ, List.getElem_cons_zero, List.setIfInBounds_toArray, List.set_cons_succ, List.set_cons_zero]
        refine wpAnyC_take 10 (.bool true) rfl (by kernel_rfl) (by kernel_rfl) (by kernel_rfl) (fun _ _ _ h => h) (wanted_free rfl _) (fun W hW => exec_eql_arr (.tmp 17) (.tmp 22) rfl VX VY true (fun w => by have := HQ.out w; rw [decide_eq_true he] at this; exact this) rfl rfl) ?_
        try simp only [Act.put, List.getElem_toArray, List.getElem_cons_succ, List.getElem_cons_zero, List.setIfInBounds_toArray, List.set_cons_succ, List.set_cons_zero]
        refine wpAnyC_done (⟨rx.out, ry.out⟩) (by kernel_rfl) ?_
        go_wp2
        go_roundw
        case rel => exact ⟨i + 1, by omega, by go_num, ⟨hbe.out.trans (below_drewN (Below.refl _ _) 1 |>.mono hbe.out.size)⟩⟩
        case measure => simp [intOf]; omega
      · have ei : i = pi := by omega
        subst ei
        have exA : x = A := by have := hx.out.symm.trans hA.out; simpa using this
        have eyB : y = B := by have := hy.out.symm.trans hB.out; simpa using this
        subst exA eyB
        have he : ¬ x.d = y.d := fun h => hne.out (by rw [h])
        refine wp_region_any (by kernel_rfl) ?_
        refine wpAny_of_C (C := fun W => W.rangeAt gx (ox + i * 19) LX ∧ W.rangeAt gy (oy + i * 19) LY) _ _ _ _ ?_
        refine wpAnyC_take 0 (.slice (some ⟨gx, ox, none⟩) n c1) rfl (by kernel_rfl) (by kernel_rfl) (by kernel_rfl) (fun _ _ _ h => h) (wanted_free rfl _) (fun W hW => by go_simp) ?_
        try simp only [Act.put, List.getElem_toArray, List.getElem_cons_succ, List.getElem_cons_zero, List.setIfInBounds_toArray, List.set_cons_succ, List.set_cons_zero]
        refine wpAnyC_take 1 (.int .i64 i) rfl (by kernel_rfl) (by kernel_rfl) (by kernel_rfl) (fun _ _ _ h => h) (wanted_free rfl _) (fun W hW => by go_simp) ?_
        try simp only [Act.put, List.getElem_toArray, List.getElem_cons_succ, List.getElem_cons_zero, List.setIfInBounds_toArray, List.set_cons_succ, List.set_cons_zero]
        refine wpAnyC_take 2 (.pointer (some ⟨gx, ox + i * 19, none⟩)) rfl (by kernel_rfl) (by kernel_rfl) (by kernel_rfl) (fun _ _ _ h => h) (wanted_free rfl _) (fun W hW => by go_simp) ?_
        try simp only [Act.put, List.getElem_toArray, List.getElem_cons_succ, List.getElem_cons_zero, List.setIfInBounds_toArray, List.set_cons_succ, List.set_cons_zero]
        refine wpAnyC_take 3 (.pointer (some ⟨gx, ox + i * 19, none⟩)) rfl (by kernel_rfl) (by kernel_rfl) (by kernel_rfl) (fun _ _ _ h => h) (wanted_free rfl _) (fun W hW => by go_simp) ?_
        try simp only [Act.put, List.getElem_toArray, List.getElem_cons_succ, List.getElem_cons_zero, List.setIfInBounds_toArray, List.set_cons_succ, List.set_cons_zero]
        refine wpAnyC_take 4 (.agg VX) rfl (by kernel_rfl) (by kernel_rfl) (by kernel_rfl) (fun _ _ _ h => h) (wanted_free rfl _) (fun W hW => by rw [hVX.out]; exact exec_load_rg 71 (.tmp 16) rfl gx (ox + i * 19) LX rfl hW.1 _ Try.underlying71 rfl (by rw [llx.out]; exact infoA)) ?_
        try simp only [Act.put, List.getElem_toArray, List.getElem_cons_succ, List.getElem_cons_zero, List.setIfInBounds_toArray, List.set_cons_succ, List.set_cons_zero]
        refine wpAnyC_take 5 (.slice (some ⟨gy, oy, none⟩) n c2) rfl (by kernel_rfl) (by kernel_rfl) (by kernel_rfl) (fun _ _ _ h => h) (wanted_free rfl _) (fun W hW => by go_simp) ?_
        try simp only [Act.put, List.getElem_toArray, List.getElem_cons_succ, List.getElem_cons_zero, List.setIfInBounds_toArray, List.set_cons_succ, List.set_cons_zero]
        refine wpAnyC_take 6 (.int .i64 i) rfl (by kernel_rfl) (by kernel_rfl) (by kernel_rfl) (fun _ _ _ h => h) (wanted_free rfl _) (fun W hW => by go_simp) ?_
        try simp only [Act.put, List.getElem_toArray, List.getElem_cons_succ, List.getElem_cons_zero, List.setIfInBounds_toArray, List.set_cons_succ, List.set_cons_zero]
        refine wpAnyC_take 7 (.pointer (some ⟨gy, oy + i * 19, none⟩)) rfl (by kernel_rfl) (by kernel_rfl) (by kernel_rfl) (fun _ _ _ h => h) (wanted_free rfl _) (fun W hW => by go_simp) ?_
        try simp only [Act.put, List.getElem_toArray, List.getElem_cons_succ, List.getElem_cons_zero, List.setIfInBounds_toArray, List.set_cons_succ, List.set_cons_zero]
        refine wpAnyC_take 8 (.pointer (some ⟨gy, oy + i * 19, none⟩)) rfl (by kernel_rfl) (by kernel_rfl) (by kernel_rfl) (fun _ _ _ h => h) (wanted_free rfl _) (fun W hW => by go_simp) ?_
        try simp only [Act.put, List.getElem_toArray, List.getElem_cons_succ, List.getElem_cons_zero, List.setIfInBounds_toArray, List.set_cons_succ, List.set_cons_zero]
        refine wpAnyC_take 9 (.agg VY) rfl (by kernel_rfl) (by kernel_rfl) (by kernel_rfl) (fun _ _ _ h => h) (wanted_free rfl _) (fun W hW => by rw [hVY.out]; exact exec_load_rg 71 (.tmp 21) rfl gy (oy + i * 19) LY rfl hW.2 _ Try.underlying71 rfl (by rw [lly.out]; exact infoA)) ?_
        try simp only [Act.put, List.getElem_toArray, List.getElem_cons_succ, List.getElem_cons_zero, List.setIfInBounds_toArray, List.set_cons_succ, List.set_cons_zero]
        refine wpAnyC_take 10 (.bool false) rfl (by kernel_rfl) (by kernel_rfl) (by kernel_rfl) (fun _ _ _ h => h) (wanted_free rfl _) (fun W hW => exec_eql_arr (.tmp 17) (.tmp 22) rfl VX VY false (fun w => by have := HQ.out w; rw [decide_eq_false he] at this; exact this) rfl rfl) ?_
        try simp only [Act.put, List.getElem_toArray, List.getElem_cons_succ, List.getElem_cons_zero, List.setIfInBounds_toArray, List.set_cons_succ, List.set_cons_zero]
        refine wpAnyC_done (⟨rx.out, ry.out⟩) (by kernel_rfl) ?_
        have hgx' : gx < wr.heap.size := Nat.lt_of_lt_of_le hgx hbe.out.size
        have hgy' : gy < wr.heap.size := Nat.lt_of_lt_of_le hgy hbe.out.size
        clear he HQ
        go_wp2_with fail
        go_loopw [24] (fun t w8 => ∃ j : Nat, j ≤ pj ∧ t = .int .i64 j ∧ Kpt (Below wr.heap.size wr w8)) (fun t _ => 16 - (intOf t).toNat)
        case atStart => exact ⟨0, Nat.zero_le _, rfl, ⟨below_drewN (Below.refl _ _) 1⟩⟩
        case round =>
          obtain ⟨j, hj, rfl, hb8⟩ := hrel
          have hj16 : j < 16 := by omega
          have e2 : (j : Int) < 16 := by omega
          have r8x := Kpt.mk (rangeAt_keep rx.out (hb8.out.block gx hgx'))
          have r8y := Kpt.mk (rangeAt_keep ry.out (hb8.out.block gy hgy'))
          obtain ⟨vx, hvx⟩ : ∃ v, v = x.d.getD j 0 := ⟨_, rfl⟩
          obtain ⟨vy, hvy⟩ : ∃ v, v = y.d.getD j 0 := ⟨_, rfl⟩
          have hcx := fun W h => hbx.out W h j hj16
          have hcy := fun W h => hby.out W h j hj16
          rw [← hvx] at hcx
          rw [← hvy] at hcy
          replace hcx := Kpt.mk hcx
          replace hcy := Kpt.mk hcy
          replace hvx := Kpt.mk hvx
          replace hvy := Kpt.mk hvy
          by_cases hjp : j < pj
          · have hv : vx = vy := by rw [hvx.out, hvy.out]; exact heq.out j hjp
            subst hv
            clear hvx hvy
            go_wp2_with fail
            refine wp_region_any (by kernel_rfl) ?_
            refine wpAny_of_C (C := fun W => W.rangeAt gx (ox + i * 19) LX ∧ W.rangeAt gy (oy + i * 19) LY) _ _ _ _ ?_
            refine wpAnyC_take 0 (.slice (some ⟨gx, ox, none⟩) n c1) rfl (by kernel_rfl) (by kernel_rfl) (by kernel_rfl) (fun _ _ _ h => h) (wanted_free rfl _) (fun W hW => by go_simp) ?_
            try simp only [Act.put, List.getElem_toArray, List.getElem_cons_succ, List.getElem_cons_zero, List.setIfInBounds_toArray, List.set_cons_succ, List.set_cons_zero]
            refine wpAnyC_take 1 (.int .i64 i) rfl (by kernel_rfl) (by kernel_rfl) (by kernel_rfl) (fun _ _ _ h => h) (wanted_free rfl _) (fun W hW => by go_simp) ?_
            try simp only [Act.put, List.getElem_toArray, List.getElem_cons_succ, List.getElem_cons_zero, List.setIfInBounds_toArray, List.set_cons_succ, List.set_cons_zero]
            refine wpAnyC_take 2 (.int .i64 j) rfl (by kernel_rfl) (by kernel_rfl) (by kernel_rfl) (fun _ _ _ h => h) (wanted_free rfl _) (fun W hW => by go_simp) ?_
            try simp only [Act.put, List.getElem_toArray, List.getElem_cons_succ, List.getElem_cons_zero, List.setIfInBounds_toArray, List.set_cons_succ, List.set_cons_zero]
            refine wpAnyC_take 3 (.pointer (some ⟨gx, ox + i * 19, none⟩)) rfl (by kernel_rfl) (by kernel_rfl) (by kernel_rfl) (fun _ _ _ h => h) (wanted_free rfl _) (fun W hW => by go_simp) ?_
            try simp only [Act.put, List.getElem_toArray, List.getElem_cons_succ, List.getElem_cons_zero, List.setIfInBounds_toArray, List.set_cons_succ, List.set_cons_zero]
            refine wpAnyC_take 4 (.pointer (some ⟨gx, ox + i * 19, none⟩)) rfl (by kernel_rfl) (by kernel_rfl) (by kernel_rfl) (fun _ _ _ h => h) (wanted_free rfl _) (fun W hW => by go_simp) ?_
            try simp only [Act.put, List.getElem_toArray, List.getElem_cons_succ, List.getElem_cons_zero, List.setIfInBounds_toArray, List.set_cons_succ, List.set_cons_zero]
            refine wpAnyC_take 5 (.pointer (some ⟨gx, ox + i * 19 + j, none⟩)) rfl (by kernel_rfl) (by kernel_rfl) (by kernel_rfl) (fun _ _ _ h => h) (wanted_free rfl _) (fun W hW => by go_simp) ?_
            try simp only [Act.put, List.getElem_toArray, List.getElem_cons_succ, List.getElem_cons_zero, List.setIfInBounds_toArray, List.set_cons_succ, List.set_cons_zero]
            refine wpAnyC_take 6 (.int .u8 vx) rfl (by kernel_rfl) (by kernel_rfl) (by kernel_rfl) (fun _ _ _ h => h) (wanted_free rfl _) (fun W hW => by have hh := hcx.out W hW.1; go_simp) ?_
            try simp only [Act.put, List.getElem_toArray, List.getElem_cons_succ, List.getElem_cons_zero, List.setIfInBounds_toArray, List.set_cons_succ, List.set_cons_zero]
            refine wpAnyC_take 7 (.slice (some ⟨gy, oy, none⟩) n c2) rfl (by kernel_rfl) (by kernel_rfl) (by kernel_rfl) (fun _ _ _ h => h) (wanted_free rfl _) (fun W hW => by go_simp) ?_
            try simp only [Act.put, List.getElem_toArray, List.getElem_cons_succ, List.getElem_cons_zero, List.setIfInBounds_toArray, List.set_cons_succ, List.set_cons_zero]
            refine wpAnyC_take 8 (.int .i64 i) rfl (by kernel_rfl) (by kernel_rfl) (by kernel_rfl) (fun _ _ _ h => h) (wanted_free rfl _) (fun W hW => by go_simp) ?_
            try simp only [Act.put, List.getElem_toArray, List.getElem_cons_succ, List.getElem_cons_zero, List.setIfInBounds_toArray, List.set_cons_succ, List.set_cons_zero]
            refine wpAnyC_take 9 (.int .i64 j) rfl (by kernel_rfl) (by kernel_rfl) (by kernel_rfl) (fun _ _ _ h => h) (wanted_free rfl _) (fun W hW => by go_simp) ?_
            try simp only [Act.put, List.getElem_toArray, List.getElem_cons_succ, List.getElem_cons_zero, List.setIfInBounds_toArray, List.set_cons_succ, List.set_cons_zero]
            refine wpAnyC_take 10 (.pointer (some ⟨gy, oy + i * 19, none⟩)) rfl (by kernel_rfl) (by kernel_rfl) (by kernel_rfl) (fun _ _ _ h => h) (wanted_free rfl _) (fun W hW => by go_simp) ?_
            try simp only [Act.put, List.getElem_toArray, List.getElem_cons_succ, List.getElem_cons_zero, List.setIfInBounds_toArray, List.set_cons_succ, List.set_cons_zero]
            refine wpAnyC_take 11 (.pointer (some ⟨gy, oy + i * 19, none⟩)) rfl (by kernel_rfl) (by kernel_rfl) (by kernel_rfl) (fun _ _ _ h => h) (wanted_free rfl _) (fun W hW => by go_simp) ?_
            try simp only [Act.put, List.getElem_toArray, List.getElem_cons_succ, List.getElem_cons_zero, List.setIfInBounds_toArray, List.set_cons_succ, List.set_cons_zero]
            refine wpAnyC_take 12 (.pointer (some ⟨gy, oy + i * 19 + j, none⟩)) rfl (by kernel_rfl) (by kernel_rfl) (by kernel_rfl) (fun _ _ _ h => h) (wanted_free rfl _) (fun W hW => by go_simp) ?_
            try simp only [Act.put, List.getElem_toArray, List.getElem_cons_succ, List.getElem_cons_zero, List.setIfInBounds_toArray, List.set_cons_succ, List.set_cons_zero]
            refine wpAnyC_take 13 (.int .u8 vx) rfl (by kernel_rfl) (by kernel_rfl) (by kernel_rfl) (fun _ _ _ h => h) (wanted_free rfl _) (fun W hW => by have hh := hcy.out W hW.2; go_simp) ?_
            try simp only [Act.put, List.getElem_toArray, List.getElem_cons_succ, List.getElem_cons_zero, List.setIfInBounds_toArray, List.set_cons_succ, List.set_cons_zero]
            refine wpAnyC_take 14 (.bool false) rfl (by kernel_rfl) (by kernel_rfl) (by kernel_rfl) (fun _ _ _ h => h) (wanted_free rfl _) (fun W hW => by go_simp) ?_
            try simp only [Act.put, List.getElem_toArray, List.getElem_cons_succ, List.getElem_cons_zero, List.setIfInBounds_toArray, List.set_cons_succ, List.set_cons_zero]
            refine wpAnyC_done (⟨r8x.out, r8y.out⟩) (by kernel_rfl) ?_
            go_wp2
            go_roundw
            case rel => exact ⟨j + 1, by omega, by go_num, ⟨hb8.out.trans (below_drewN (Below.refl _ _) 1 |>.mono hb8.out.size)⟩⟩
            case measure => simp [intOf]; omega
          · have ej : j = pj := by omega
            subst ej
            have hv : ¬ vx = vy := by rw [hvx.out, hvy.out]; exact hne.out
            have hv2 : (vx != vy) = true := by simpa using hv
            have ep : IntKind.i64.wrap ((i : Int) * 16 + j) = (pl : Int) := by rw [IntKind.wrap_i64, hpl.out]; omega
            clear hvx hvy
            go_wp2_with fail
            refine wp_region_any (by kernel_rfl) ?_
            refine wpAny_of_C (C := fun W => W.rangeAt gx (ox + i * 19) LX ∧ W.rangeAt gy (oy + i * 19) LY) _ _ _ _ ?_
            refine wpAnyC_take 0 (.slice (some ⟨gx, ox, none⟩) n c1) rfl (by kernel_rfl) (by kernel_rfl) (by kernel_rfl) (fun _ _ _ h => h) (wanted_free rfl _) (fun W hW => by go_simp) ?_
            try simp only [Act.put, List.getElem_toArray, List.getElem_cons_succ, List.getElem_cons_zero, List.setIfInBounds_toArray, List.set_cons_succ, List.set_cons_zero]
            refine wpAnyC_take 1 (.int .i64 i) rfl (by kernel_rfl) (by kernel_rfl) (by kernel_rfl) (fun _ _ _ h => h) (wanted_free rfl _) (fun W hW => by go_simp) ?_
            try simp only [Act.put, List.getElem_toArray, List.getElem_cons_succ, List.getElem_cons_zero, List.setIfInBounds_toArray, List.set_cons_succ, List.set_cons_zero]
            refine wpAnyC_take 2 (.int .i64 j) rfl (by kernel_rfl) (by kernel_rfl) (by kernel_rfl) (fun _ _ _ h => h) (wanted_free rfl _) (fun W hW => by go_simp) ?_
            try simp only [Act.put, List.getElem_toArray, List.getElem_cons_succ, List.getElem_cons_zero, List.setIfInBounds_toArray, List.set_cons_succ, List.set_cons_zero]
            refine wpAnyC_take 3 (.pointer (some ⟨gx, ox + i * 19, none⟩)) rfl (by kernel_rfl) (by kernel_rfl) (by kernel_rfl) (fun _ _ _ h => h) (wanted_free rfl _) (fun W hW => by go_simp) ?_
            try simp only [Act.put, List.getElem_toArray, List.getElem_cons_succ, List.getElem_cons_zero, List.setIfInBounds_toArray, List.set_cons_succ, List.set_cons_zero]
            refine wpAnyC_take 4 (.pointer (some ⟨gx, ox + i * 19, none⟩)) rfl (by kernel_rfl) (by kernel_rfl) (by kernel_rfl) (fun _ _ _ h => h) (wanted_free rfl _) (fun W hW => by go_simp) ?_
            try simp only [Act.put, List.getElem_toArray, List.getElem_cons_succ, List.getElem_cons_zero, List.setIfInBounds_toArray, List.set_cons_succ, List.set_cons_zero]
            refine wpAnyC_take 5 (.pointer (some ⟨gx, ox + i * 19 + j, none⟩)) rfl (by kernel_rfl) (by kernel_rfl) (by kernel_rfl) (fun _ _ _ h => h) (wanted_free rfl _) (fun W hW => by go_simp) ?_
            try simp only [Act.put, List.getElem_toArray, List.getElem_cons_succ, List.getElem_cons_zero, List.setIfInBounds_toArray, List.set_cons_succ, List.set_cons_zero]
            refine wpAnyC_take 6 (.int .u8 vx) rfl (by kernel_rfl) (by kernel_rfl) (by kernel_rfl) (fun _ _ _ h => h) (wanted_free rfl _) (fun W hW => by have hh := hcx.out W hW.1; go_simp) ?_
            try simp only [Act.put, List.getElem_toArray, List.getElem_cons_succ, List.getElem_cons_zero, List.setIfInBounds_toArray, List.set_cons_succ, List.set_cons_zero]
            refine wpAnyC_take 7 (.slice (some ⟨gy, oy, none⟩) n c2) rfl (by kernel_rfl) (by kernel_rfl) (by kernel_rfl) (fun _ _ _ h => h) (wanted_free rfl _) (fun W hW => by go_simp) ?_
            try simp only [Act.put, List.getElem_toArray, List.getElem_cons_succ, List.getElem_cons_zero, List.setIfInBounds_toArray, List.set_cons_succ, List.set_cons_zero]
            refine wpAnyC_take 8 (.int .i64 i) rfl (by kernel_rfl) (by kernel_rfl) (by kernel_rfl) (fun _ _ _ h => h) (wanted_free rfl _) (fun W hW => by go_simp) ?_
            try simp only [Act.put, List.getElem_toArray, List.getElem_cons_succ, List.getElem_cons_zero, List.setIfInBounds_toArray, List.set_cons_succ, List.set_cons_zero]
            refine wpAnyC_take 9 (.int .i64 j) rfl (by kernel_rfl) (by kernel_rfl) (by kernel_rfl) (fun _ _ _ h => h) (wanted_free rfl _) (fun W hW => by go_simp) ?_
            try simp only [Act.put, List.getElem_toArray, List.getElem_cons_succ, List.getElem_cons_zero, List.setIfInBounds_toArray, List.set_cons_succ, List.set_cons_zero]
            refine wpAnyC_take 10 (.pointer (some ⟨gy, oy + i * 19, none⟩)) rfl (by kernel_rfl) (by kernel_rfl) (by kernel_rfl) (fun _ _ _ h => h) (wanted_free rfl _) (fun W hW => by go_simp) ?_
            try simp only [Act.put, List.getElem_toArray, List.getElem_cons_succ, List.getElem_cons_zero, List.setIfInBounds_toArray, List.set_cons_succ, List.set_cons_zero]
            refine wpAnyC_take 11 (.pointer (some ⟨gy, oy + i * 19, none⟩)) rfl (by kernel_rfl) (by kernel_rfl) (by kernel_rfl) (fun _ _ _ h => h) (wanted_free rfl _) (fun W hW => by go_simp) ?_
            try simp only [Act.put, List.getElem_toArray, List.getElem_cons_succ, List.getElem_cons_zero, List.setIfInBounds_toArray, List.set_cons_succ, List.set_cons_zero]
            refine wpAnyC_take 12 (.pointer (some ⟨gy, oy + i * 19 + j, none⟩)) rfl (by kernel_rfl) (by kernel_rfl) (by kernel_rfl) (fun _ _ _ h => h) (wanted_free rfl _) (fun W hW => by go_simp) ?_
            try simp only [Act.put, List.getElem_toArray, List.getElem_cons_succ, List.getElem_cons_zero, List.setIfInBounds_toArray, List.set_cons_succ, List.set_cons_zero]
            refine wpAnyC_take 13 (.int .u8 vy) rfl (by kernel_rfl) (by kernel_rfl) (by kernel_rfl) (fun _ _ _ h => h) (wanted_free rfl _) (fun W hW => by have hh := hcy.out W hW.2; go_simp) ?_
            try simp only [Act.put, List.getElem_toArray, List.getElem_cons_succ, List.getElem_cons_zero, List.setIfInBounds_toArray, List.set_cons_succ, List.set_cons_zero]
            refine wpAnyC_take 14 (.bool true) rfl (by kernel_rfl) (by kernel_rfl) (by kernel_rfl) (fun _ _ _ h => h) (wanted_free rfl _) (fun W hW => by go_simp) ?_
            try simp only [Act.put, List.getElem_toArray, List.getElem_cons_succ, List.getElem_cons_zero, List.setIfInBounds_toArray, List.set_cons_succ, List.set_cons_zero]
            refine wpAnyC_done (⟨r8x.out, r8y.out⟩) (by kernel_rfl) ?_
            go_wp2
            go_ret2
            exact ⟨by first | rfl | (rw [hpl.out]; simp), hbe.out.trans ((hb8.out.trans (below_drewN (Below.refl _ _) 1 |>.mono hb8.out.size)).mono hbe.out.size)⟩

end Go.Proofs.Ytklboieemljmiaa

namespace Go.Proofs.Ytklboieemljmiaa
open Go.RowKit
set_option linter.unusedVariables false
set_option linter.unusedSimpArgs false
/-- Blocks in a row of their own, to be read. -/
structure Br (w W : World) (tag' : Tags) (g n : Nat) (bs : List Bk) : Prop where
  bks : Bks W (.slice (some ⟨g, 0, none⟩) n n) bs
  lt : g < W.heap.size
  bare : tag' g = none
/-- Blocks that came in, to be read. -/
structure Bi (w W : World) (tag' : Tags) (a : Option Addr) (n cp : Nat) (bs : List Bk) : Prop where
  bks : Bks W (.slice a n cp) bs
  lo : ∀ g o, a = some ⟨g, o, none⟩ → g < w.heap.size ∧ tag' g = none
  sz : w.heap.size ≤ W.heap.size
/-- Bytes that came in, to be read. -/
structure Yi (w W : World) (tag' : Tags) (a : Option Addr) (n cp : Nat) (zs : List Int) : Prop where
  rd : RdAt W (.slice a n cp) zs
  lo : ∀ g o, a = some ⟨g, o, none⟩ → g < w.heap.size ∧ tag' g = none
  sz : w.heap.size ≤ W.heap.size
section
variable {w W W' : World} {tag' tag2 : Tags} {g n cap b2 cp : Nat} {bs : List Bk} {a : Option Addr} {zs : List Int}
theorem Br.below (o : Br w W tag' g n bs) (hb : Below W.heap.size W W') : Br w W' tag' g n bs := ⟨o.bks.below hb, Nat.lt_of_lt_of_le o.lt hb.size, o.bare⟩
theorem Br.call (o : Br w W tag' g n bs) {X : Tag → Prop} (s : Step W W' tag' tag2 X) : Br w W' tag2 g n bs := ⟨o.bks.step s (fun g' o' e => by cases e; exact o.bare), Nat.lt_of_lt_of_le o.lt s.size, s.bare g o.lt o.bare⟩
theorem Br.other (o : Br w W tag' g n bs) (hg : W.grownBy W' (some b2)) (hne : b2 ≠ g) : Br w W' tag' g n bs := ⟨bks_grown o.bks hg (fun e => hne e.symm), Nat.lt_of_lt_of_le o.lt hg.size, o.bare⟩
theorem Bi.below (o : Bi w W tag' a n cp bs) (hb : Below W.heap.size W W') : Bi w W' tag' a n cp bs := ⟨o.bks.below hb, o.lo, Nat.le_trans o.sz hb.size⟩
theorem Bi.call (o : Bi w W tag' a n cp bs) {X : Tag → Prop} (s : Step W W' tag' tag2 X) : Bi w W' tag2 a n cp bs := ⟨o.bks.step s (fun g' o' e => (o.lo g' o' e).2), fun g' o' e => ⟨(o.lo g' o' e).1, s.bare g' (Nat.lt_of_lt_of_le (o.lo g' o' e).1 o.sz) (o.lo g' o' e).2⟩, Nat.le_trans o.sz s.size⟩
theorem Bi.other (o : Bi w W tag' a n cp bs) (hg : W.grownBy W' (some b2)) (hl : w.heap.size ≤ b2) : Bi w W' tag' a n cp bs :=
  ⟨o.bks.step (tag := fun i => if i = b2 then some Tag.wd else none) (tag' := fun i => if i = b2 then some Tag.wd else none) (X := fun _ => True) (Step.turned hg _ (if_pos rfl) trivial) (fun g' o' e => if_neg (by have := (o.lo g' o' e).1; omega)), o.lo, Nat.le_trans o.sz hg.size⟩
theorem yi_keep (h : RdAt W (.slice a n cp) zs) (hb : ∀ g o, a = some ⟨g, o, none⟩ → W'.heap[g]? = W.heap[g]?) : RdAt W' (.slice a n cp) zs := by
  obtain ⟨sa, sc, e, h1, h2, h3⟩ := h
  refine ⟨sa, sc, e, h1, h2, ?_⟩
  simp only [Value.slice.injEq] at e
  rcases h3 with h3 | ⟨b, off, ha, hc⟩
  · exact .inl h3
  · refine .inr ⟨b, off, ha, fun j u hu => ?_⟩
    exact (World.cell?_of_block (w := W) (a := ⟨b, off + j, none⟩) (hb b off (by rw [e.1]; exact ha))).trans (hc j u hu)
theorem Yi.below (o : Yi w W tag' a n cp zs) (hb : Below W.heap.size W W') : Yi w W' tag' a n cp zs := ⟨rd_below o.rd hb, o.lo, Nat.le_trans o.sz hb.size⟩
theorem Yi.call (o : Yi w W tag' a n cp zs) {X : Tag → Prop} (s : Step W W' tag' tag2 X) : Yi w W' tag2 a n cp zs := ⟨yi_keep o.rd (fun g' o' e => s.block g' (Nat.lt_of_lt_of_le (o.lo g' o' e).1 o.sz) (fun t _ e2 => by rw [(o.lo g' o' e).2] at e2; cases e2)), fun g' o' e => ⟨(o.lo g' o' e).1, s.bare g' (Nat.lt_of_lt_of_le (o.lo g' o' e).1 o.sz) (o.lo g' o' e).2⟩, Nat.le_trans o.sz s.size⟩
theorem Yi.other (o : Yi w W tag' a n cp zs) (hg : W.grownBy W' (some b2)) (hl : w.heap.size ≤ b2) : Yi w W' tag' a n cp zs :=
  ⟨yi_keep o.rd (fun g' o' e => hg.block g' (Nat.lt_of_lt_of_le (o.lo g' o' e).1 o.sz) (by have := (o.lo g' o' e).1; simp; omega)), o.lo, Nat.le_trans o.sz hg.size⟩
end

set_option maxRecDepth 100000 in
set_option maxHeartbeats 1000000 in
theorem compare_same (w : World) (B : Nat) (tag : Tags) (st : St) (f : ByteArray) (S D N : Nat) (k : Int) (ca : Bool) (l n cp : Nat) (a : Option Addr) (c : Cm) (bs : List Bk) (h : Dv w B tag st f S D N k ca) (hf1 : 1 ≤ f.size) (hf2 : f.size ≤ 32) (hN : N ≤ 4096) (hc : st.cnt < 500000000000) (hf : ∀ i, st.fails i = false) (hG : Good (st.seen f)) (h0 : 0 ≤ k) (h1 : k ≤ 255) (p0 : 0 ≤ c.pr) (p1 : c.pr ≤ 255) (hl : c.lba = (l : Nat)) (hbl : c.bl = (n : Nat)) (hin : l + n ≤ N) (hlk : lookS k c.pr l (rdL (st.seen f) l n) = noS) (hv : Bi w w tag a n cp bs) (hn : bs.length = n) (hd : ∀ j x y, j < n → (rdL (st.seen f) l n)[j]? = some x → bs[j]? = some y → x.d = y.d) :
    Calls Try.prog 60 #[.pointer (some ⟨D, 0, none⟩), .agg c.vals, .slice a n cp] w fun e w' => e = .returned (.agg (noS).vals) ∧ Aft w w' B tag (rdSt st n) := by
  have HD := fun W (h : Dv W B tag st f S D N k ca) => dread_ok W B tag st f S D N l n k ca c h hf1 hf2 hN hc hf hG h0 h1 p0 p1 hl hbl hin hlk
  have HE := fun W => ended_any noS W
  simp only [show (noS.key != 0) = false from rfl] at HE
  obtain ⟨rs, hrs⟩ : ∃ rs, rs = rdL (st.seen f) l n := ⟨_, rfl⟩
  have hrn : rs.length = n := by rw [hrs]; exact rdL_len _ _ _
  rw [← hrs] at HD hd
  have HF := fun W g (h1 : Bks W (.slice (some ⟨g, 0, none⟩) n n) rs) (h2 : Bks W (.slice a n cp) bs) => differ_none (some ⟨g, 0, none⟩) a n n cp rs bs W h1 hrn h2 hn (by omega) hd
  have hCs : c.vals.size = 15 := rfl
  obtain ⟨CV, hCV⟩ : ∃ CV, CV = c.vals := ⟨_, rfl⟩
  rw [← hCV] at hCs  HD ⊢
  replace hCs := Kpt.mk hCs
  clear hCV
  have hSl := h.sto.lt
  have hDl := h.bx.lt
  have F := Kpt.mk h.fx
  have hb := Kpt.mk (Below.refl w.heap.size w)
  replace HD := Kpt.mk HD
  replace HE := Kpt.mk HE
  replace HF := Kpt.mk HF
  have IV := Kpt.mk hv
  replace h := Kpt.mk h
  clear hv hrn hn hrs hlk hd hf hG hl hbl
  go_enter Try.func60, Try.ntmps60
  go_wp2_with (first
      | (have hm := m7; refine wpList_store_bx rfl 32 _ _ rfl br _ (noS).vals rfl rfl Or.out.bx rfl infoS (Sn.vals_one _) rfl ?_; intro w8 hX_ hg_; replace Oc := Kpt.mk (Oc.out.other hg_ (by omega)); replace Ov := Kpt.mk (Ov.out.other hg_ (by omega)); replace Rd := Kpt.mk (Rd.out.other hg_ (by omega)); replace IV := Kpt.mk (IV.out.other hg_ Or.out.lo); replace F := Kpt.mk (F.out.own Or.out hg_ hSl hDl); replace Or := Kpt.mk (Or.out.set hX_); clear hX_ hg_; clear hm m7; have m8 : Kpt True := ⟨trivial⟩)
      | (go_at_call 80; have hm := m6; go_must (refine (HF.out _ _ Rd.out.bks IV.out.bks).mono ?_; rintro e w7 ⟨rfl, h_⟩; replace Oc := Kpt.mk (Oc.out.below h_); replace Or := Kpt.mk (Or.out.below h_); replace Ov := Kpt.mk (Ov.out.below h_); replace Rd := Kpt.mk (Rd.out.below h_); replace IV := Kpt.mk (IV.out.below h_); replace F := Kpt.mk (F.out.below h_); clear h_; clear hm m6; have m7 : Kpt True := ⟨trivial⟩))
      | (go_at_call 22; have hm := m5; go_must (refine (HE.out _).mono ?_; rintro e w6 ⟨rfl, h_⟩; replace Oc := Kpt.mk (Oc.out.below h_); replace Or := Kpt.mk (Or.out.below h_); replace Ov := Kpt.mk (Ov.out.below h_); replace Rd := Kpt.mk (Rd.out.below h_); replace IV := Kpt.mk (IV.out.below h_); replace F := Kpt.mk (F.out.below h_); clear h_; clear hm m5; have m6 : Kpt True := ⟨trivial⟩))
      | (have hm := m4; refine wpList_store_bx rfl 32 _ _ rfl bv _ (noS).vals rfl rfl Ov.out.bx rfl infoS (Sn.vals_one _) rfl ?_; intro w5 hX_ hg_; replace Oc := Kpt.mk (Oc.out.other hg_ (by omega)); replace Or := Kpt.mk (Or.out.other hg_ (by omega)); replace Rd := Kpt.mk (Rd.out.other hg_ (by omega)); replace IV := Kpt.mk (IV.out.other hg_ Ov.out.lo); replace F := Kpt.mk (F.out.own Ov.out hg_ hSl hDl); replace Ov := Kpt.mk (Ov.out.set hX_); clear hX_ hg_; clear hm m4; have m5 : Kpt True := ⟨trivial⟩)
      | (have hm := m3; refine wpList_var rfl 32 rfl zeroS zeroSi ?_; intro bv w_v hl_ hX_ h_; have q_c_v : bc < bv := Nat.lt_of_lt_of_le Oc.out.bx.lt hl_; have q_r_v : br < bv := Nat.lt_of_lt_of_le Or.out.bx.lt hl_; have q_d_v : gd < bv := Nat.lt_of_lt_of_le Rd.out.lt hl_; have Ov := Kpt.mk (F.out.new hl_ hX_); replace Oc := Kpt.mk (Oc.out.below h_); replace Or := Kpt.mk (Or.out.below h_); replace Rd := Kpt.mk (Rd.out.below h_); replace IV := Kpt.mk (IV.out.below h_); replace F := Kpt.mk (F.out.below h_); clear hl_ hX_ h_; clear hm m3; have m4 : Kpt True := ⟨trivial⟩)
      | (go_at_call 25; have hm := m2; go_must (refine (HD.out _ F.out.dv).mono ?_; rintro e w5 ⟨gd, rfl, hW_, s_, hv_, hgd_, hgl_⟩; have q_c_d : bc < gd := Nat.lt_of_lt_of_le Oc.out.bx.lt hgd_; have q_r_d : br < gd := Nat.lt_of_lt_of_le Or.out.bx.lt hgd_; have Rd_ := Kpt.mk (Br.mk (w := w) hv_ hgl_ (wd_none F.out.dv.wd hgd_) ); replace Oc := Kpt.mk (Oc.out.call s_); replace Or := Kpt.mk (Or.out.call s_); replace IV := Kpt.mk (IV.out.call s_); replace F := Kpt.mk (F.out.call hW_ s_); have Rd := Rd_; clear Rd_; clear hW_ s_ hv_ hgd_ hgl_; clear hm m2; have m3 : Kpt True := ⟨trivial⟩))
      | (have hm := m1; refine wpList_var rfl 32 rfl zeroS zeroSi ?_; intro br w_r hl_ hX_ h_; have q_c_r : bc < br := Nat.lt_of_lt_of_le Oc.out.bx.lt hl_; have Or := Kpt.mk (F.out.new hl_ hX_); replace Oc := Kpt.mk (Oc.out.below h_); replace IV := Kpt.mk (IV.out.below h_); replace F := Kpt.mk (F.out.below h_); replace hb := Kpt.mk (hb.out.trans (h_.mono hb.out.size)); clear hl_ hX_ h_; clear hm m1; have m2 : Kpt True := ⟨trivial⟩)
      | (refine wpList_box rfl 38 _ rfl CV rfl ?_; intro bc w_c hl_ hX_ h_ _; have Oc := Kpt.mk (F.out.new hl_ hX_); replace IV := Kpt.mk (IV.out.below h_); replace F := Kpt.mk (F.out.below h_); replace hb := Kpt.mk (hb.out.trans (h_.mono hb.out.size)); clear hl_ hX_ h_; have m1 : Kpt True := ⟨trivial⟩)
      | (refine wpList_load_bx rfl 38 _ rfl bc CV rfl Oc.out.bx _ Try.underlying38 rfl (by rw [hCs.out]; exact infoC) ?_)
      | (refine wpList_load_bx rfl 32 _ rfl bv (noS).vals rfl Ov.out.bx _ Try.underlying32 rfl infoS ?_)
      | fail)
  refine bodyPost_ret (v := .agg (noS).vals) (by simp [results, Try.results60, asAddr, Act.put, res_run Or.out.bx]) rfl ⟨rfl, _, F.out.dv.wd, F.out.st⟩

set_option maxRecDepth 100000 in
set_option maxHeartbeats 1000000 in
theorem compare_dif (w : World) (B : Nat) (tag : Tags) (st : St) (f : ByteArray) (S D N : Nat) (k : Int) (ca : Bool) (l n cp : Nat) (a : Option Addr) (c : Cm) (bs : List Bk) (h : Dv w B tag st f S D N k ca) (hf1 : 1 ≤ f.size) (hf2 : f.size ≤ 32) (hN : N ≤ 4096) (hc : st.cnt < 500000000000) (hf : ∀ i, st.fails i = false) (hG : Good (st.seen f)) (h0 : 0 ≤ k) (h1 : k ≤ 255) (p0 : 0 ≤ c.pr) (p1 : c.pr ≤ 255) (hl : c.lba = (l : Nat)) (hbl : c.bl = (n : Nat)) (hin : l + n ≤ N) (hlk : lookS k c.pr l (rdL (st.seen f) l n) = noS) (hv : Bi w w tag a n cp bs) (hn : bs.length = n) (pl : Nat) (hpl : pl < 1000000) (hd : Dif (rdL (st.seen f) l n) bs pl) :
    Calls Try.prog 60 #[.pointer (some ⟨D, 0, none⟩), .agg c.vals, .slice a n cp] w fun e w' => e = .returned (.agg (nuS 14 7424 pl).vals) ∧ Aft w w' B tag (rdSt st n) := by
  have HD := fun W (h : Dv W B tag st f S D N k ca) => dread_ok W B tag st f S D N l n k ca c h hf1 hf2 hN hc hf hG h0 h1 p0 p1 hl hbl hin hlk
  have HE := fun W => ended_any noS W
  simp only [show (noS.key != 0) = false from rfl] at HE
  obtain ⟨rs, hrs⟩ : ∃ rs, rs = rdL (st.seen f) l n := ⟨_, rfl⟩
  have hrn : rs.length = n := by rw [hrs]; exact rdL_len _ _ _
  rw [← hrs] at HD hd
  have HF := fun W g (h1 : Bks W (.slice (some ⟨g, 0, none⟩) n n) rs) (h2 : Bks W (.slice a n cp) bs) => differ_at (some ⟨g, 0, none⟩) a n n cp rs bs W h1 hrn h2 hn (by omega) pl hd
  have HNu := Kpt.mk (fun W => numbered_any 14 7424 pl W)
  have ep : IntKind.u64.wrap (pl : Int) = pl := by rw [IntKind.wrap_u64]; omega
  have hCs : c.vals.size = 15 := rfl
  obtain ⟨CV, hCV⟩ : ∃ CV, CV = c.vals := ⟨_, rfl⟩
  rw [← hCV] at hCs  HD ⊢
  replace hCs := Kpt.mk hCs
  clear hCV
  have hSl := h.sto.lt
  have hDl := h.bx.lt
  have F := Kpt.mk h.fx
  have hb := Kpt.mk (Below.refl w.heap.size w)
  replace HD := Kpt.mk HD
  replace HE := Kpt.mk HE
  replace HF := Kpt.mk HF
  have IV := Kpt.mk hv
  replace h := Kpt.mk h
  clear hv hrn hn hrs hlk hd hf hG hl hbl
  go_enter Try.func60, Try.ntmps60
  go_wp2_with (first
      | (have hm := m8; refine wpList_store_bx rfl 32 _ _ rfl br _ (nuS 14 7424 pl).vals rfl rfl Or.out.bx rfl infoS (Sn.vals_one _) rfl ?_; intro w9 hX_ hg_; replace Oc := Kpt.mk (Oc.out.other hg_ (by omega)); replace Ov := Kpt.mk (Ov.out.other hg_ (by omega)); replace Rd := Kpt.mk (Rd.out.other hg_ (by omega)); replace IV := Kpt.mk (IV.out.other hg_ Or.out.lo); replace F := Kpt.mk (F.out.own Or.out hg_ hSl hDl); replace Or := Kpt.mk (Or.out.set hX_); clear hX_ hg_; clear hm m8; have m9 : Kpt True := ⟨trivial⟩)
      | (go_at_call 35; have hm := m7; go_must (refine (HNu.out _).mono ?_; rintro e w8 ⟨rfl, h_⟩; replace Oc := Kpt.mk (Oc.out.below h_); replace Or := Kpt.mk (Or.out.below h_); replace Ov := Kpt.mk (Ov.out.below h_); replace Rd := Kpt.mk (Rd.out.below h_); replace IV := Kpt.mk (IV.out.below h_); replace F := Kpt.mk (F.out.below h_); clear h_; clear hm m7; have m8 : Kpt True := ⟨trivial⟩))
      | (go_at_call 80; have hm := m6; go_must (refine (HF.out _ _ Rd.out.bks IV.out.bks).mono ?_; rintro e w7 ⟨rfl, h_⟩; replace Oc := Kpt.mk (Oc.out.below h_); replace Or := Kpt.mk (Or.out.below h_); replace Ov := Kpt.mk (Ov.out.below h_); replace Rd := Kpt.mk (Rd.out.below h_); replace IV := Kpt.mk (IV.out.below h_); replace F := Kpt.mk (F.out.below h_); clear h_; clear hm m6; have m7 : Kpt True := ⟨trivial⟩))
      | (go_at_call 22; have hm := m5; go_must (refine (HE.out _).mono ?_; rintro e w6 ⟨rfl, h_⟩; replace Oc := Kpt.mk (Oc.out.below h_); replace Or := Kpt.mk (Or.out.below h_); replace Ov := Kpt.mk (Ov.out.below h_); replace Rd := Kpt.mk (Rd.out.below h_); replace IV := Kpt.mk (IV.out.below h_); replace F := Kpt.mk (F.out.below h_); clear h_; clear hm m5; have m6 : Kpt True := ⟨trivial⟩))
      | (have hm := m4; refine wpList_store_bx rfl 32 _ _ rfl bv _ (noS).vals rfl rfl Ov.out.bx rfl infoS (Sn.vals_one _) rfl ?_; intro w5 hX_ hg_; replace Oc := Kpt.mk (Oc.out.other hg_ (by omega)); replace Or := Kpt.mk (Or.out.other hg_ (by omega)); replace Rd := Kpt.mk (Rd.out.other hg_ (by omega)); replace IV := Kpt.mk (IV.out.other hg_ Ov.out.lo); replace F := Kpt.mk (F.out.own Ov.out hg_ hSl hDl); replace Ov := Kpt.mk (Ov.out.set hX_); clear hX_ hg_; clear hm m4; have m5 : Kpt True := ⟨trivial⟩)
      | (have hm := m3; refine wpList_var rfl 32 rfl zeroS zeroSi ?_; intro bv w_v hl_ hX_ h_; have q_c_v : bc < bv := Nat.lt_of_lt_of_le Oc.out.bx.lt hl_; have q_r_v : br < bv := Nat.lt_of_lt_of_le Or.out.bx.lt hl_; have q_d_v : gd < bv := Nat.lt_of_lt_of_le Rd.out.lt hl_; have Ov := Kpt.mk (F.out.new hl_ hX_); replace Oc := Kpt.mk (Oc.out.below h_); replace Or := Kpt.mk (Or.out.below h_); replace Rd := Kpt.mk (Rd.out.below h_); replace IV := Kpt.mk (IV.out.below h_); replace F := Kpt.mk (F.out.below h_); clear hl_ hX_ h_; clear hm m3; have m4 : Kpt True := ⟨trivial⟩)
      | (go_at_call 25; have hm := m2; go_must (refine (HD.out _ F.out.dv).mono ?_; rintro e w5 ⟨gd, rfl, hW_, s_, hv_, hgd_, hgl_⟩; have q_c_d : bc < gd := Nat.lt_of_lt_of_le Oc.out.bx.lt hgd_; have q_r_d : br < gd := Nat.lt_of_lt_of_le Or.out.bx.lt hgd_; have Rd_ := Kpt.mk (Br.mk (w := w) hv_ hgl_ (wd_none F.out.dv.wd hgd_) ); replace Oc := Kpt.mk (Oc.out.call s_); replace Or := Kpt.mk (Or.out.call s_); replace IV := Kpt.mk (IV.out.call s_); replace F := Kpt.mk (F.out.call hW_ s_); have Rd := Rd_; clear Rd_; clear hW_ s_ hv_ hgd_ hgl_; clear hm m2; have m3 : Kpt True := ⟨trivial⟩))
      | (have hm := m1; refine wpList_var rfl 32 rfl zeroS zeroSi ?_; intro br w_r hl_ hX_ h_; have q_c_r : bc < br := Nat.lt_of_lt_of_le Oc.out.bx.lt hl_; have Or := Kpt.mk (F.out.new hl_ hX_); replace Oc := Kpt.mk (Oc.out.below h_); replace IV := Kpt.mk (IV.out.below h_); replace F := Kpt.mk (F.out.below h_); replace hb := Kpt.mk (hb.out.trans (h_.mono hb.out.size)); clear hl_ hX_ h_; clear hm m1; have m2 : Kpt True := ⟨trivial⟩)
      | (refine wpList_box rfl 38 _ rfl CV rfl ?_; intro bc w_c hl_ hX_ h_ _; have Oc := Kpt.mk (F.out.new hl_ hX_); replace IV := Kpt.mk (IV.out.below h_); replace F := Kpt.mk (F.out.below h_); replace hb := Kpt.mk (hb.out.trans (h_.mono hb.out.size)); clear hl_ hX_ h_; have m1 : Kpt True := ⟨trivial⟩)
      | (refine wpList_load_bx rfl 38 _ rfl bc CV rfl Oc.out.bx _ Try.underlying38 rfl (by rw [hCs.out]; exact infoC) ?_)
      | (refine wpList_load_bx rfl 32 _ rfl bv (noS).vals rfl Ov.out.bx _ Try.underlying32 rfl infoS ?_)
      | fail)
  refine bodyPost_ret (v := .agg (nuS 14 7424 pl).vals) (by simp [results, Try.results60, asAddr, Act.put, res_run Or.out.bx]) rfl ⟨rfl, _, F.out.dv.wd, F.out.st⟩

set_option maxRecDepth 100000 in
set_option maxHeartbeats 1000000 in
theorem verify_plain (w : World) (B : Nat) (tag : Tags) (st : St) (f : ByteArray) (S D N : Nat) (k : Int) (ca : Bool) (l n : Nat) (c : Cm) (p : Value) (h : Dv w B tag st f S D N k ca) (hf1 : 1 ≤ f.size) (hf2 : f.size ≤ 32) (hN : N ≤ 4096) (hc : st.cnt < 500000000000) (hf : ∀ i, st.fails i = false) (hG : Good (st.seen f)) (h0 : 0 ≤ k) (h1 : k ≤ 255) (p0 : 0 ≤ c.pr) (p1 : c.pr ≤ 255) (hl : c.lba = (l : Nat)) (hbl : c.bl = (n : Nat)) (hin : l + n ≤ N) (hlk : lookS k c.pr l (rdL (st.seen f) l n) = noS) (hbs : c.bs = false) :
    Calls Try.prog 44 #[.pointer (some ⟨D, 0, none⟩), .agg c.vals, p] w fun e w' => e = .returned (.agg noS.vals) ∧ Aft w w' B tag (rdSt st n) := by
  have HD := fun W (h : Dv W B tag st f S D N k ca) => dread_ok W B tag st f S D N l n k ca c h hf1 hf2 hN hc hf hG h0 h1 p0 p1 hl hbl hin hlk
  have hcm14 : ∀ (W : World) (b : Nat), Bx W b c.vals → W.cell? ⟨b, 14, none⟩ = some (.bool c.bs) := fun W b h => (cm_at h).2.2.2.2.2.2.2.2
  rw [hbs] at hcm14
  have hCs : c.vals.size = 15 := rfl
  obtain ⟨CV, hCV⟩ : ∃ CV, CV = c.vals := ⟨_, rfl⟩
  rw [← hCV] at hCs hcm14 HD ⊢
  replace hcm14 := Kpt.mk hcm14
  replace hCs := Kpt.mk hCs
  clear hCV
  have hSl := h.sto.lt
  have hDl := h.bx.lt
  have F := Kpt.mk h.fx
  have hb := Kpt.mk (Below.refl w.heap.size w)
  replace HD := Kpt.mk HD
  replace h := Kpt.mk h
  clear hlk hf hG hl hbl hbs
  go_enter Try.func44, Try.ntmps44
  go_wp2_with (first
      | (have hm := m5; refine wpList_store_bx rfl 32 _ _ rfl br _ (noS).vals rfl rfl Or.out.bx rfl infoS (Sn.vals_one _) rfl ?_; intro w6 hX_ hg_; replace Oc := Kpt.mk (Oc.out.other hg_ (by omega)); replace Ov := Kpt.mk (Ov.out.other hg_ (by omega)); replace Rd := Kpt.mk (Rd.out.other hg_ (by omega)); replace F := Kpt.mk (F.out.own Or.out hg_ hSl hDl); replace Or := Kpt.mk (Or.out.set hX_); replace x14 := hcm14.out _ _ Oc.out.bx; clear hX_ hg_; clear hm m5; have m6 : Kpt True := ⟨trivial⟩)
      | (have hm := m4; refine wpList_store_bx rfl 32 _ _ rfl bv _ (noS).vals rfl rfl Ov.out.bx rfl infoS (Sn.vals_one _) rfl ?_; intro w5 hX_ hg_; replace Oc := Kpt.mk (Oc.out.other hg_ (by omega)); replace Or := Kpt.mk (Or.out.other hg_ (by omega)); replace Rd := Kpt.mk (Rd.out.other hg_ (by omega)); replace F := Kpt.mk (F.out.own Ov.out hg_ hSl hDl); replace Ov := Kpt.mk (Ov.out.set hX_); replace x14 := hcm14.out _ _ Oc.out.bx; clear hX_ hg_; clear hm m4; have m5 : Kpt True := ⟨trivial⟩)
      | (have hm := m3; refine wpList_var rfl 32 rfl zeroS zeroSi ?_; intro bv w_v hl_ hX_ h_; have q_c_v : bc < bv := Nat.lt_of_lt_of_le Oc.out.bx.lt hl_; have q_r_v : br < bv := Nat.lt_of_lt_of_le Or.out.bx.lt hl_; have q_d_v : gd < bv := Nat.lt_of_lt_of_le Rd.out.lt hl_; have Ov := Kpt.mk (F.out.new hl_ hX_); replace Oc := Kpt.mk (Oc.out.below h_); replace Or := Kpt.mk (Or.out.below h_); replace Rd := Kpt.mk (Rd.out.below h_); replace F := Kpt.mk (F.out.below h_); replace x14 := hcm14.out _ _ Oc.out.bx; clear hl_ hX_ h_; clear hm m3; have m4 : Kpt True := ⟨trivial⟩)
      | (go_at_call 25; have hm := m2; go_must (refine (HD.out _ F.out.dv).mono ?_; rintro e w5 ⟨gd, rfl, hW_, s_, hv_, hgd_, hgl_⟩; have q_c_d : bc < gd := Nat.lt_of_lt_of_le Oc.out.bx.lt hgd_; have q_r_d : br < gd := Nat.lt_of_lt_of_le Or.out.bx.lt hgd_; have Rd_ := Kpt.mk (Br.mk (w := w) hv_ hgl_ (wd_none F.out.dv.wd hgd_) ); replace Oc := Kpt.mk (Oc.out.call s_); replace Or := Kpt.mk (Or.out.call s_); replace F := Kpt.mk (F.out.call hW_ s_); replace x14 := hcm14.out _ _ Oc.out.bx; have Rd := Rd_; clear Rd_; clear hW_ s_ hv_ hgd_ hgl_; clear hm m2; have m3 : Kpt True := ⟨trivial⟩))
      | (have hm := m1; refine wpList_var rfl 32 rfl zeroS zeroSi ?_; intro br w_r hl_ hX_ h_; have q_c_r : bc < br := Nat.lt_of_lt_of_le Oc.out.bx.lt hl_; have Or := Kpt.mk (F.out.new hl_ hX_); replace Oc := Kpt.mk (Oc.out.below h_); replace F := Kpt.mk (F.out.below h_); replace x14 := hcm14.out _ _ Oc.out.bx; replace hb := Kpt.mk (hb.out.trans (h_.mono hb.out.size)); clear hl_ hX_ h_; clear hm m1; have m2 : Kpt True := ⟨trivial⟩)
      | (refine wpList_box rfl 38 _ rfl CV rfl ?_; intro bc w_c hl_ hX_ h_ _; have Oc := Kpt.mk (F.out.new hl_ hX_); replace F := Kpt.mk (F.out.below h_); replace hb := Kpt.mk (hb.out.trans (h_.mono hb.out.size)); have x14 := hcm14.out _ _ Oc.out.bx; clear hl_ hX_ h_; have m1 : Kpt True := ⟨trivial⟩)
      | (refine wpList_load_bx rfl 38 _ rfl bc CV rfl Oc.out.bx _ Try.underlying38 rfl (by rw [hCs.out]; exact infoC) ?_)
      | (refine wpList_load_bx rfl 32 _ rfl bv (noS).vals rfl Ov.out.bx _ Try.underlying32 rfl infoS ?_)
      | fail)
  refine bodyPost_ret (v := .agg (noS).vals) (by simp [results, Try.results44, asAddr, Act.put, res_run Or.out.bx]) rfl ⟨rfl, _, F.out.dv.wd, F.out.st⟩

set_option maxRecDepth 100000 in
set_option maxHeartbeats 1000000 in
theorem verify_same (w : World) (B : Nat) (tag : Tags) (st : St) (f : ByteArray) (S D N : Nat) (k : Int) (ca : Bool) (l n m cp : Nat) (a : Option Addr) (zs : List Int) (c : Cm) (h : Dv w B tag st f S D N k ca) (hf1 : 1 ≤ f.size) (hf2 : f.size ≤ 32) (hN : N ≤ 4096) (hc : st.cnt < 500000000000) (hf : ∀ i, st.fails i = false) (hG : Good (st.seen f)) (h0 : 0 ≤ k) (h1 : k ≤ 255) (p0 : 0 ≤ c.pr) (p1 : c.pr ≤ 255) (hl : c.lba = (l : Nat)) (hbl : c.bl = (n : Nat)) (hin : l + n ≤ N) (hlk : lookS k c.pr l (rdL (st.seen f) l n) = noS) (hbs : c.bs = true) (hr : RdAt w (.slice a m cp) zs) (hlz : zs.length = m) (hby : Bytes zs) (hm : m = n * sz (c.pr != 0)) (hd : ∀ j x y, j < n → (rdL (st.seen f) l n)[j]? = some x → (unBs (c.pr != 0) zs n)[j]? = some y → x.d = y.d) :
    Calls Try.prog 44 #[.pointer (some ⟨D, 0, none⟩), .agg c.vals, .slice a m cp] w fun e w' => e = .returned (.agg (noS).vals) ∧ Aft w w' B tag (rdSt st n) := by
  have hcm3 : ∀ (W : World) (b : Nat), Bx W b c.vals → W.cell? ⟨b, 3, none⟩ = some (.int .u64 c.bl) := fun W b h => (cm_at h).2.2.2.1
  have hcm14 : ∀ (W : World) (b : Nat), Bx W b c.vals → W.cell? ⟨b, 14, none⟩ = some (.bool c.bs) := fun W b h => (cm_at h).2.2.2.2.2.2.2.2
  rw [hbs] at hcm14
  rw [hbl] at hcm3
  have hszb : sz (c.pr != 0) ≤ 24 := by cases (c.pr != 0) <;> decide
  have HU := fun W (h : Below w.heap.size w W) => dunpack_yes c a m cp n zs W (rd_below hr h) hlz hby (by rw [hm]; have : n * sz (c.pr != 0) ≤ n * 24 := Nat.mul_le_mul_left _ hszb; omega) (by omega) hm
  have hbo : ∀ b ∈ unBs (c.pr != 0) zs n, b.ok := unBs_ok _ zs n hby (by rw [hlz, hm])
  have hbn : (unBs (c.pr != 0) zs n).length = n := unBs_len _ _ _
  obtain ⟨bs, hbs2⟩ : ∃ bs, bs = unBs (c.pr != 0) zs n := ⟨_, rfl⟩
  rw [← hbs2] at HU hbo hbn hd
  have HC := fun W g (h : Dv W B tag st f S D N k ca) (hg : W.heap[g]? = some (.cells (flat bs).toArray 76 (0, 0))) (ht : tag g = none) => compare_same W B tag st f S D N k ca l n n (some ⟨g, 0, none⟩) c bs h hf1 hf2 hN hc hf hG h0 h1 p0 p1 hl hbl hin hlk ⟨bks_row hg hbo n n hbn (by unfold maxLen; omega), fun g' o' e => by cases e; exact ⟨heap_lt hg, ht⟩, Nat.le_refl _⟩ hbn hd
  have HE := fun W => ended_any noS W
  simp only [show (noS.key != 0) = false from rfl] at HE
  have en : IntKind.i64.wrap (n : Int) = n := by rw [IntKind.wrap_i64]; omega
  have hCs : c.vals.size = 15 := rfl
  obtain ⟨CV, hCV⟩ : ∃ CV, CV = c.vals := ⟨_, rfl⟩
  rw [← hCV] at hCs hcm3 hcm14 HU HC ⊢
  replace hcm3 := Kpt.mk hcm3
  replace hcm14 := Kpt.mk hcm14
  replace hCs := Kpt.mk hCs
  clear hCV
  have hSl := h.sto.lt
  have hDl := h.bx.lt
  have F := Kpt.mk h.fx
  have hb := Kpt.mk (Below.refl w.heap.size w)
  replace HU := Kpt.mk HU
  replace HC := Kpt.mk HC
  replace HE := Kpt.mk HE
  replace hm := Kpt.mk hm
  replace h := Kpt.mk h
  clear hbo hbn hr hlz hl hbl hf hG hlk hd hbs hbs2 hszb
  go_enter Try.func44, Try.ntmps44
  go_wp2_with (first
      | (have hm := m7; refine wpList_store_bx rfl 32 _ _ rfl br _ (noS).vals rfl rfl Or.out.bx rfl infoS (Sn.vals_one _) rfl ?_; intro w8 hX_ hg_; replace Oc := Kpt.mk (Oc.out.other hg_ (by omega)); replace Ov := Kpt.mk (Ov.out.other hg_ (by omega)); replace Rg := Kpt.mk (Rg.out.other hg_ (by omega)); replace F := Kpt.mk (F.out.own Or.out hg_ hSl hDl); replace Or := Kpt.mk (Or.out.set hX_); replace x3 := hcm3.out _ _ Oc.out.bx; replace x14 := hcm14.out _ _ Oc.out.bx; clear hX_ hg_; clear hm m7; have m8 : Kpt True := ⟨trivial⟩)
      | (go_at_call 60; have hm := m6; go_must (refine (HC.out _ _ F.out.dv Rg.out.row Rg.out.bare).mono ?_; rintro e w7 ⟨rfl, tag7, hW_, s_⟩; replace Oc := Kpt.mk (Oc.out.call s_); replace Or := Kpt.mk (Or.out.call s_); replace Ov := Kpt.mk (Ov.out.call s_); replace Rg := Kpt.mk (Rg.out.call s_); replace F := Kpt.mk (F.out.call hW_ s_); replace x3 := hcm3.out _ _ Oc.out.bx; replace x14 := hcm14.out _ _ Oc.out.bx; clear hW_ s_; clear hm m6; have m7 : Kpt True := ⟨trivial⟩))
      | (go_at_call 22; have hm := m5; go_must (refine (HE.out _).mono ?_; rintro e w6 ⟨rfl, h_⟩; replace Oc := Kpt.mk (Oc.out.below h_); replace Or := Kpt.mk (Or.out.below h_); replace Ov := Kpt.mk (Ov.out.below h_); replace Rg := Kpt.mk (Rg.out.below h_); replace F := Kpt.mk (F.out.below h_); replace x3 := hcm3.out _ _ Oc.out.bx; replace x14 := hcm14.out _ _ Oc.out.bx; replace hb := Kpt.mk (hb.out.trans (h_.mono hb.out.size)); clear h_; clear hm m5; have m6 : Kpt True := ⟨trivial⟩))
      | (have hm := m4; refine wpList_store_bx rfl 32 _ _ rfl bv _ (noS).vals rfl rfl Ov.out.bx rfl infoS (Sn.vals_one _) rfl ?_; intro w5 hX_ hg_; replace hb := Kpt.mk (hb.out.trans (Below.ofGrown hg_ hb.out.size Ov.out.lo)); replace Oc := Kpt.mk (Oc.out.other hg_ (by omega)); replace Or := Kpt.mk (Or.out.other hg_ (by omega)); replace Rg := Kpt.mk (Rg.out.other hg_ (by omega)); replace F := Kpt.mk (F.out.own Ov.out hg_ hSl hDl); replace Ov := Kpt.mk (Ov.out.set hX_); replace x3 := hcm3.out _ _ Oc.out.bx; replace x14 := hcm14.out _ _ Oc.out.bx; clear hX_ hg_; clear hm m4; have m5 : Kpt True := ⟨trivial⟩)
      | (have hm := m3; refine wpList_var rfl 32 rfl zeroS zeroSi ?_; intro bv w_v hl_ hX_ h_; have q_c_v : bc < bv := Nat.lt_of_lt_of_le Oc.out.bx.lt hl_; have q_r_v : br < bv := Nat.lt_of_lt_of_le Or.out.bx.lt hl_; have q_g_v : gg < bv := Nat.lt_of_lt_of_le Rg.out.lt hl_; have Ov := Kpt.mk (F.out.new hl_ hX_); replace Oc := Kpt.mk (Oc.out.below h_); replace Or := Kpt.mk (Or.out.below h_); replace Rg := Kpt.mk (Rg.out.below h_); replace F := Kpt.mk (F.out.below h_); replace x3 := hcm3.out _ _ Oc.out.bx; replace x14 := hcm14.out _ _ Oc.out.bx; replace hb := Kpt.mk (hb.out.trans (h_.mono hb.out.size)); clear hl_ hX_ h_; clear hm m3; have m4 : Kpt True := ⟨trivial⟩)
      | (go_at_call 59; have hm := m2; go_must (refine (HU.out _ hb.out).mono ?_; rintro e w3 ⟨gg, rfl, hr_, hgl_, h_⟩; have q_c_g : bc < gg := Nat.lt_of_lt_of_le Oc.out.bx.lt hgl_; have q_r_g : br < gg := Nat.lt_of_lt_of_le Or.out.bx.lt hgl_; have Rg := Kpt.mk (F.out.row hgl_ hr_); replace Oc := Kpt.mk (Oc.out.below h_); replace Or := Kpt.mk (Or.out.below h_); replace F := Kpt.mk (F.out.below h_); replace x3 := hcm3.out _ _ Oc.out.bx; replace x14 := hcm14.out _ _ Oc.out.bx; replace hb := Kpt.mk (hb.out.trans (h_.mono hb.out.size)); clear h_; clear hgl_ hr_; clear hm m2; have m3 : Kpt True := ⟨trivial⟩))
      | (have hm := m1; refine wpList_var rfl 32 rfl zeroS zeroSi ?_; intro br w_r hl_ hX_ h_; have q_c_r : bc < br := Nat.lt_of_lt_of_le Oc.out.bx.lt hl_; have Or := Kpt.mk (F.out.new hl_ hX_); replace Oc := Kpt.mk (Oc.out.below h_); replace F := Kpt.mk (F.out.below h_); replace x3 := hcm3.out _ _ Oc.out.bx; replace x14 := hcm14.out _ _ Oc.out.bx; replace hb := Kpt.mk (hb.out.trans (h_.mono hb.out.size)); clear hl_ hX_ h_; clear hm m1; have m2 : Kpt True := ⟨trivial⟩)
      | (refine wpList_box rfl 38 _ rfl CV rfl ?_; intro bc w_c hl_ hX_ h_ _; have Oc := Kpt.mk (F.out.new hl_ hX_); replace F := Kpt.mk (F.out.below h_); replace hb := Kpt.mk (hb.out.trans (h_.mono hb.out.size)); have x3 := hcm3.out _ _ Oc.out.bx; have x14 := hcm14.out _ _ Oc.out.bx; clear hl_ hX_ h_; have m1 : Kpt True := ⟨trivial⟩)
      | (refine wpList_load_bx rfl 38 _ rfl bc CV rfl Oc.out.bx _ Try.underlying38 rfl (by rw [hCs.out]; exact infoC) ?_)
      | (refine wpList_load_bx rfl 32 _ rfl bv (noS).vals rfl Ov.out.bx _ Try.underlying32 rfl infoS ?_)
      | fail)
  refine bodyPost_ret (v := .agg (noS).vals) (by simp [results, Try.results44, asAddr, Act.put, res_run Or.out.bx]) rfl ⟨rfl, _, F.out.dv.wd, F.out.st⟩

set_option maxRecDepth 100000 in
set_option maxHeartbeats 1000000 in
theorem verify_dif (w : World) (B : Nat) (tag : Tags) (st : St) (f : ByteArray) (S D N : Nat) (k : Int) (ca : Bool) (l n m cp : Nat) (a : Option Addr) (zs : List Int) (c : Cm) (h : Dv w B tag st f S D N k ca) (hf1 : 1 ≤ f.size) (hf2 : f.size ≤ 32) (hN : N ≤ 4096) (hc : st.cnt < 500000000000) (hf : ∀ i, st.fails i = false) (hG : Good (st.seen f)) (h0 : 0 ≤ k) (h1 : k ≤ 255) (p0 : 0 ≤ c.pr) (p1 : c.pr ≤ 255) (hl : c.lba = (l : Nat)) (hbl : c.bl = (n : Nat)) (hin : l + n ≤ N) (hlk : lookS k c.pr l (rdL (st.seen f) l n) = noS) (hbs : c.bs = true) (hr : RdAt w (.slice a m cp) zs) (hlz : zs.length = m) (hby : Bytes zs) (hm : m = n * sz (c.pr != 0)) (pl : Nat) (hpl : pl < 1000000) (hd : Dif (rdL (st.seen f) l n) (unBs (c.pr != 0) zs n) pl) :
    Calls Try.prog 44 #[.pointer (some ⟨D, 0, none⟩), .agg c.vals, .slice a m cp] w fun e w' => e = .returned (.agg (nuS 14 7424 pl).vals) ∧ Aft w w' B tag (rdSt st n) := by
  have hcm3 : ∀ (W : World) (b : Nat), Bx W b c.vals → W.cell? ⟨b, 3, none⟩ = some (.int .u64 c.bl) := fun W b h => (cm_at h).2.2.2.1
  have hcm14 : ∀ (W : World) (b : Nat), Bx W b c.vals → W.cell? ⟨b, 14, none⟩ = some (.bool c.bs) := fun W b h => (cm_at h).2.2.2.2.2.2.2.2
  rw [hbs] at hcm14
  rw [hbl] at hcm3
  have hszb : sz (c.pr != 0) ≤ 24 := by cases (c.pr != 0) <;> decide
  have HU := fun W (h : Below w.heap.size w W) => dunpack_yes c a m cp n zs W (rd_below hr h) hlz hby (by rw [hm]; have : n * sz (c.pr != 0) ≤ n * 24 := Nat.mul_le_mul_left _ hszb; omega) (by omega) hm
  have hbo : ∀ b ∈ unBs (c.pr != 0) zs n, b.ok := unBs_ok _ zs n hby (by rw [hlz, hm])
  have hbn : (unBs (c.pr != 0) zs n).length = n := unBs_len _ _ _
  obtain ⟨bs, hbs2⟩ : ∃ bs, bs = unBs (c.pr != 0) zs n := ⟨_, rfl⟩
  rw [← hbs2] at HU hbo hbn hd
  have HC := fun W g (h : Dv W B tag st f S D N k ca) (hg : W.heap[g]? = some (.cells (flat bs).toArray 76 (0, 0))) (ht : tag g = none) => compare_dif W B tag st f S D N k ca l n n (some ⟨g, 0, none⟩) c bs h hf1 hf2 hN hc hf hG h0 h1 p0 p1 hl hbl hin hlk ⟨bks_row hg hbo n n hbn (by unfold maxLen; omega), fun g' o' e => by cases e; exact ⟨heap_lt hg, ht⟩, Nat.le_refl _⟩ hbn pl hpl hd
  have HE := fun W => ended_any noS W
  simp only [show (noS.key != 0) = false from rfl] at HE
  have en : IntKind.i64.wrap (n : Int) = n := by rw [IntKind.wrap_i64]; omega
  have hCs : c.vals.size = 15 := rfl
  obtain ⟨CV, hCV⟩ : ∃ CV, CV = c.vals := ⟨_, rfl⟩
  rw [← hCV] at hCs hcm3 hcm14 HU HC ⊢
  replace hcm3 := Kpt.mk hcm3
  replace hcm14 := Kpt.mk hcm14
  replace hCs := Kpt.mk hCs
  clear hCV
  have hSl := h.sto.lt
  have hDl := h.bx.lt
  have F := Kpt.mk h.fx
  have hb := Kpt.mk (Below.refl w.heap.size w)
  replace HU := Kpt.mk HU
  replace HC := Kpt.mk HC
  replace HE := Kpt.mk HE
  replace hm := Kpt.mk hm
  replace h := Kpt.mk h
  clear hbo hbn hr hlz hl hbl hf hG hlk hd hbs hbs2 hszb
  go_enter Try.func44, Try.ntmps44
  go_wp2_with (first
      | (have hm := m7; refine wpList_store_bx rfl 32 _ _ rfl br _ (nuS 14 7424 pl).vals rfl rfl Or.out.bx rfl infoS (Sn.vals_one _) rfl ?_; intro w8 hX_ hg_; replace Oc := Kpt.mk (Oc.out.other hg_ (by omega)); replace Ov := Kpt.mk (Ov.out.other hg_ (by omega)); replace Rg := Kpt.mk (Rg.out.other hg_ (by omega)); replace F := Kpt.mk (F.out.own Or.out hg_ hSl hDl); replace Or := Kpt.mk (Or.out.set hX_); replace x3 := hcm3.out _ _ Oc.out.bx; replace x14 := hcm14.out _ _ Oc.out.bx; clear hX_ hg_; clear hm m7; have m8 : Kpt True := ⟨trivial⟩)
      | (go_at_call 60; have hm := m6; go_must (refine (HC.out _ _ F.out.dv Rg.out.row Rg.out.bare).mono ?_; rintro e w7 ⟨rfl, tag7, hW_, s_⟩; replace Oc := Kpt.mk (Oc.out.call s_); replace Or := Kpt.mk (Or.out.call s_); replace Ov := Kpt.mk (Ov.out.call s_); replace Rg := Kpt.mk (Rg.out.call s_); replace F := Kpt.mk (F.out.call hW_ s_); replace x3 := hcm3.out _ _ Oc.out.bx; replace x14 := hcm14.out _ _ Oc.out.bx; clear hW_ s_; clear hm m6; have m7 : Kpt True := ⟨trivial⟩))
      | (go_at_call 22; have hm := m5; go_must (refine (HE.out _).mono ?_; rintro e w6 ⟨rfl, h_⟩; replace Oc := Kpt.mk (Oc.out.below h_); replace Or := Kpt.mk (Or.out.below h_); replace Ov := Kpt.mk (Ov.out.below h_); replace Rg := Kpt.mk (Rg.out.below h_); replace F := Kpt.mk (F.out.below h_); replace x3 := hcm3.out _ _ Oc.out.bx; replace x14 := hcm14.out _ _ Oc.out.bx; replace hb := Kpt.mk (hb.out.trans (h_.mono hb.out.size)); clear h_; clear hm m5; have m6 : Kpt True := ⟨trivial⟩))
      | (have hm := m4; refine wpList_store_bx rfl 32 _ _ rfl bv _ (noS).vals rfl rfl Ov.out.bx rfl infoS (Sn.vals_one _) rfl ?_; intro w5 hX_ hg_; replace hb := Kpt.mk (hb.out.trans (Below.ofGrown hg_ hb.out.size Ov.out.lo)); replace Oc := Kpt.mk (Oc.out.other hg_ (by omega)); replace Or := Kpt.mk (Or.out.other hg_ (by omega)); replace Rg := Kpt.mk (Rg.out.other hg_ (by omega)); replace F := Kpt.mk (F.out.own Ov.out hg_ hSl hDl); replace Ov := Kpt.mk (Ov.out.set hX_); replace x3 := hcm3.out _ _ Oc.out.bx; replace x14 := hcm14.out _ _ Oc.out.bx; clear hX_ hg_; clear hm m4; have m5 : Kpt True := ⟨trivial⟩)
      | (have hm := m3; refine wpList_var rfl 32 rfl zeroS zeroSi ?_; intro bv w_v hl_ hX_ h_; have q_c_v : bc < bv := Nat.lt_of_lt_of_le Oc.out.bx.lt hl_; have q_r_v : br < bv := Nat.lt_of_lt_of_le Or.out.bx.lt hl_; have q_g_v : gg < bv := Nat.lt_of_lt_of_le Rg.out.lt hl_; have Ov := Kpt.mk (F.out.new hl_ hX_); replace Oc := Kpt.mk (Oc.out.below h_); replace Or := Kpt.mk (Or.out.below h_); replace Rg := Kpt.mk (Rg.out.below h_); replace F := Kpt.mk (F.out.below h_); replace x3 := hcm3.out _ _ Oc.out.bx; replace x14 := hcm14.out _ _ Oc.out.bx; replace hb := Kpt.mk (hb.out.trans (h_.mono hb.out.size)); clear hl_ hX_ h_; clear hm m3; have m4 : Kpt True := ⟨trivial⟩)
      | (go_at_call 59; have hm := m2; go_must (refine (HU.out _ hb.out).mono ?_; rintro e w3 ⟨gg, rfl, hr_, hgl_, h_⟩; have q_c_g : bc < gg := Nat.lt_of_lt_of_le Oc.out.bx.lt hgl_; have q_r_g : br < gg := Nat.lt_of_lt_of_le Or.out.bx.lt hgl_; have Rg := Kpt.mk (F.out.row hgl_ hr_); replace Oc := Kpt.mk (Oc.out.below h_); replace Or := Kpt.mk (Or.out.below h_); replace F := Kpt.mk (F.out.below h_); replace x3 := hcm3.out _ _ Oc.out.bx; replace x14 := hcm14.out _ _ Oc.out.bx; replace hb := Kpt.mk (hb.out.trans (h_.mono hb.out.size)); clear h_; clear hgl_ hr_; clear hm m2; have m3 : Kpt True := ⟨trivial⟩))
      | (have hm := m1; refine wpList_var rfl 32 rfl zeroS zeroSi ?_; intro br w_r hl_ hX_ h_; have q_c_r : bc < br := Nat.lt_of_lt_of_le Oc.out.bx.lt hl_; have Or := Kpt.mk (F.out.new hl_ hX_); replace Oc := Kpt.mk (Oc.out.below h_); replace F := Kpt.mk (F.out.below h_); replace x3 := hcm3.out _ _ Oc.out.bx; replace x14 := hcm14.out _ _ Oc.out.bx; replace hb := Kpt.mk (hb.out.trans (h_.mono hb.out.size)); clear hl_ hX_ h_; clear hm m1; have m2 : Kpt True := ⟨trivial⟩)
      | (refine wpList_box rfl 38 _ rfl CV rfl ?_; intro bc w_c hl_ hX_ h_ _; have Oc := Kpt.mk (F.out.new hl_ hX_); replace F := Kpt.mk (F.out.below h_); replace hb := Kpt.mk (hb.out.trans (h_.mono hb.out.size)); have x3 := hcm3.out _ _ Oc.out.bx; have x14 := hcm14.out _ _ Oc.out.bx; clear hl_ hX_ h_; have m1 : Kpt True := ⟨trivial⟩)
      | (refine wpList_load_bx rfl 38 _ rfl bc CV rfl Oc.out.bx _ Try.underlying38 rfl (by rw [hCs.out]; exact infoC) ?_)
      | (refine wpList_load_bx rfl 32 _ rfl bv (noS).vals rfl Ov.out.bx _ Try.underlying32 rfl infoS ?_)
      | fail)
  refine bodyPost_ret (v := .agg (nuS 14 7424 pl).vals) (by simp [results, Try.results44, asAddr, Act.put, res_run Or.out.bx]) rfl ⟨rfl, _, F.out.dv.wd, F.out.st⟩

end Go.Proofs.Ytklboieemljmiaa

namespace Go.Proofs.Ytklboieemljmiaa
open Go.RowKit
set_option linter.unusedVariables false
set_option linter.unusedSimpArgs false
theorem ends_any (k c : Int) (w : World) : Calls Try.prog 18 #[.int .u8 k, .int .u16 c] w fun e w' => e = .returned (.agg (resV 2 (plS k c) (.slice none 0 0))) ∧ Below w.heap.size w w' := by
  go_enter Try.func18, Try.ntmps18
  go_wp2
  refine bodyPost_ret (v := .agg (resV 2 (plS k c) (.slice none 0 0))) (by simp [results, Try.results18, go_sem, plS, resV]) rfl ⟨rfl, ?_⟩
  exact (Below.refl _ _).alloc (Nat.le_refl _) _
theorem bx_cell {w : World} {b j : Nat} {cs : Array Value} (h : Bx w b cs) (hj : j < cs.size) (v : Value) : Bx (w.setCell ⟨b, j, none⟩ v) b (cs.setIfInBounds j v) := by
  have hg := grown_setCellK w ⟨b, j, none⟩ v
  refine ⟨Nat.lt_of_lt_of_le h.lt hg.size, fun i hi => ?_, fun i => ?_⟩
  · rw [Array.size_setIfInBounds] at hi
    by_cases e : i = j
    · subst e
      rw [World.cell?_setCell_same _ _ _ ((h.cells i hi).trans (Array.getElem?_eq_getElem hi))]
      simp [hi]
    · rw [World.cell?_setCell_other (a := ⟨b, j, none⟩) (b := ⟨b, i, none⟩) (h := by intro e2; apply e; have := congrArg Addr.off e2; simpa using this.symm), h.cells i hi]
      rw [Array.getElem?_setIfInBounds_ne (fun e2 => e e2.symm)]
  · rw [World.frozen?_setCell]; exact h.free i
set_option maxRecDepth 100000 in
set_option maxHeartbeats 1000000 in
theorem at_any (k c n : Int) (w : World) : Calls Try.prog 13 #[.int .u8 k, .int .u16 c, .int .u64 n] w fun e w' => e = .returned (.agg (resV 2 (nuS k c n) (.slice none 0 0))) ∧ Below w.heap.size w w' := by
  have HE := Kpt.mk (fun W => ends_any k c W)
  go_enter Try.func13, Try.ntmps13
  go_wp2_with (first
      | (have hm := m4; refine wpList_store_bx rfl 34 _ _ rfl br _ (resV 2 (nuS k c n) (.slice none 0 0)) rfl rfl hR4.out rfl infoR (resV_one _ _ _ _ _) rfl ?_; intro w6 hX6 hg6; have hb6 := Kpt.mk (hb7.out.grown hg6 hb7.out.size (fun q hq => by cases hq; exact hrl)); clear m4)
      | (have hm := m3; refine (?_ : wpList _ _ _ (Oper.mk (some 16) _ _ _ _ _ :: _) _ _); go_must (refine wpList_load_bx rfl 34 _ rfl bv (resV 2 (nuS k c n) (.slice none 0 0)) rfl hL.out _ Try.underlying34 rfl infoR ?_); have m4 : Kpt True := ⟨trivial⟩; clear m3)
      | (have hm := m2; refine wpList_store_bx rfl 34 _ _ rfl bv _ (resV 2 (plS k c) (.slice none 0 0)) rfl rfl hV.out rfl infoR (resV_one _ _ _ _ _) rfl ?_; intro w5 hX5 hg5; have hb5 := Kpt.mk (hb4.out.grown hg5 hb4.out.size (fun q hq => by cases hq; exact hvl)); have hR5 := Kpt.mk (hR.out.grown hg5 (by simp; omega)); have c3 := hX5.cells 3 (show 3 < 10 by decide); have c4 := hX5.cells 4 (show 4 < 10 by decide); have f3 := hX5.free 3; have f4 := hX5.free 4; have hV5 := Kpt.mk hX5; have hL : Kpt (Bx ((w5.setCell ⟨bv, 3, none⟩ (.int .u64 n)).setCell ⟨bv, 4, none⟩ (.bool true)) bv (resV 2 (nuS k c n) (.slice none 0 0))) := ⟨bx_cell (bx_cell hX5 (show 3 < 10 by decide) (.int .u64 n)) (show 4 < 10 by decide) (.bool true)⟩; have hR4 := Kpt.mk ((hR5.out.grown (grown_setCellK w5 ⟨bv, 3, none⟩ (.int .u64 n)) (by simp; omega)).grown (grown_setCellK (w5.setCell ⟨bv, 3, none⟩ (.int .u64 n)) ⟨bv, 4, none⟩ (.bool true)) (by simp; omega)); have hb7 := Kpt.mk ((hb5.out.setCell (p := ⟨bv, 3, none⟩) hvl (.int .u64 n)).setCell (p := ⟨bv, 4, none⟩) hvl (.bool true)); have c3' : w5.cell? ⟨bv, 3, none⟩ = some (.int .u64 0) := c3; have c4' : w5.cell? ⟨bv, 4, none⟩ = some (.bool false) := c4; clear c3 c4 hX5 hg5 m2; have m3 : Kpt True := ⟨trivial⟩)
      | (have hm := m1; refine wpList_var rfl 34 rfl zeroR zeroRi ?_; intro bv w4 hl4 hX4 h4; have hrv : br < bv := Nat.lt_of_lt_of_le hR.out.lt hl4; have hvl : w.heap.size ≤ bv := Nat.le_trans hb3.out.size hl4; have hb4 := Kpt.mk (hb3.out.trans (h4.mono hb3.out.size)); replace hR := Kpt.mk (hR.out.below h4 hR.out.lt); have hV := Kpt.mk hX4; have m2 : Kpt True := ⟨trivial⟩; clear hl4 hX4 h4 m1)
      | (go_at_call 18; go_must (go_must (refine (HE.out _).mono ?_; rintro e w3 ⟨rfl, h3⟩; have hb3 := Kpt.mk (hb2.out.trans (h3.mono hb2.out.size)); replace hR := Kpt.mk (hR.out.below h3 hR.out.lt); have m1 : Kpt True := ⟨trivial⟩; clear h3)))
      | (refine wpList_var rfl 34 rfl zeroR zeroRi ?_; intro br w2 hrl hX2 h2; have hR := Kpt.mk hX2; have hb2 := Kpt.mk h2; clear hX2 h2)
      | fail)
  refine bodyPost_ret (v := .agg (resV 2 (nuS k c n) (.slice none 0 0))) (by simp [results, Try.results13, asAddr, Act.put, resR_run hX6]) rfl ⟨rfl, hb6.out⟩
theorem rd_nil0 (w : World) : RdAt w (.slice none 0 0) [] := ⟨none, 0, rfl, fun _ => ⟨rfl, rfl⟩, Nat.le_refl _, .inl rfl⟩
set_option maxRecDepth 100000 in
set_option maxHeartbeats 1000000 in
theorem same_nil (q : Int) (s : Sn) (w : World) : Calls Try.prog 12 #[.agg (resV q s (.slice none 0 0)), .agg (resV q s (.slice none 0 0))] w fun e w' => e = .returned (.bool true) ∧ Below w.heap.size w w' := by
  have hcv := fun (W : World) => conv_rd (rd_nil0 W)
  obtain ⟨key, code, info, hi, field, bit, hf, ic⟩ := s
  simp only [resV]
  go_enter Try.func12, Try.ntmps12
  go_wp2
  go_ret
  exact ⟨rfl, ((Below.refl _ _).alloc (Nat.le_refl _) _).alloc (by simp) _⟩
end Go.Proofs.Ytklboieemljmiaa

namespace Go.Proofs.Ytklboieemljmiaa
open Go.RowKit
set_option linter.unusedVariables false
set_option linter.unusedSimpArgs false
theorem wf_u8 {n : Int} (h : (Lit.int .u8 n).wf = true) : 0 ≤ n ∧ n ≤ 255 := by
  simp [Lit.wf, IntKind.min, IntKind.max, IntKind.bits, IntKind.signed] at h; omega
theorem wf_u64 {n : Int} (h : (Lit.int .u64 n).wf = true) : 0 ≤ n ∧ n < 18446744073709551616 := by
  simp [Lit.wf, IntKind.min, IntKind.max, IntKind.bits, IntKind.signed] at h; omega
theorem wf_i64 {n : Int} (h : (Lit.int .i64 n).wf = true) : -9223372036854775808 ≤ n ∧ n < 9223372036854775808 := by
  simp [Lit.wf, IntKind.min, IntKind.max, IntKind.bits, IntKind.signed] at h; omega

theorem wf_u16 {n : Int} (h : (Lit.int .u16 n).wf = true) : 0 ≤ n ∧ n ≤ 65535 := by
  simp [Lit.wf, IntKind.min, IntKind.max, IntKind.bits, IntKind.signed] at h; omega
theorem xor_ne (x y : Int) (hx : 0 ≤ x ∧ x ≤ 255) (hy : 0 ≤ y ∧ y ≤ 255) (h0 : y ≠ 0) : bits .xor .u8 x y ≠ x ∧ 0 ≤ bits .xor .u8 x y ∧ bits .xor .u8 x y ≤ 255 := by
  obtain ⟨a, rfl⟩ : ∃ a : Nat, x = a := ⟨x.toNat, by omega⟩
  obtain ⟨b, rfl⟩ : ∃ b : Nat, y = b := ⟨y.toNat, by omega⟩
  rw [u8_xor_nat a b (by omega) (by omega)]
  have hlt : a ^^^ b < 2 ^ 8 := Nat.xor_lt_two_pow (by omega) (by omega)
  refine ⟨fun h => ?_, by omega, by omega⟩
  have h1 : a ^^^ b = a := by omega
  have h2 : a ^^^ (a ^^^ b) = a ^^^ a := by rw [h1]
  rw [← Nat.xor_assoc, Nat.xor_self, Nat.zero_xor] at h2
  omega

/-- Bytes that came in. -/
structure Inp (w : World) (a : Option Addr) (len cap : Nat) (zs : List Int) : Prop where
  rd : ∀ m, m ≤ len → RdAt w (.slice a m cap) (zs.take m)
  byt : Bytes zs
  hl : len ≤ cap
  hc : cap ≤ maxLen
  hz : len ≤ zs.length
  shape : 0 < len → ∃ g o, a = some ⟨g, o, none⟩ ∧ g < w.heap.size
theorem inp_of {w : World} {a : Option Addr} {len cap : Nat} {zs : List Int}
    (h : (a = none ∧ len = 0 ∧ cap = 0 ∧ zs = []) ∨ ∃ x, a = some x ∧ len ≤ cap ∧ cap ≤ maxLen ∧ zs.length = cap ∧ (∀ i, i < zs.length → w.cell? (x.add i) = some (.int .u8 (zs.getD i 0))) ∧ ∀ n ∈ zs, (Lit.int .u8 n).wf = true) : Inp w a len cap zs := by
  rcases h with ⟨rfl, rfl, rfl, rfl⟩ | ⟨x, rfl, h1, h2, h3, h4, h5⟩
  · refine ⟨fun m hm => ?_, fun j => by simp, Nat.le_refl _, Nat.zero_le _, Nat.le_refl _, fun h => by omega⟩
    have : m = 0 := by omega
    subst this
    exact ⟨none, 0, rfl, fun _ => ⟨rfl, rfl⟩, Nat.le_refl _, .inl rfl⟩
  · have hby : Bytes zs := fun j => by
      rw [List.getD_eq_getElem?_getD]
      cases hj : zs[j]? with
      | none => simp
      | some y => exact wf_u8 (h5 y (List.mem_of_getElem? hj))
    have hsh : 0 < cap → ∃ g o, x = ⟨g, o, none⟩ ∧ g < w.heap.size := fun h0 => by
      obtain ⟨b, off, spot⟩ := x
      have e := h4 0 (by omega)
      have hsp : spot = none := by simpa [Addr.add] using World.cell?_spot e
      subst hsp
      exact ⟨b, off, rfl, by have := World.block_lt_of_cell? w _ e; simpa [Addr.add] using this⟩
    refine ⟨fun m hm => ?_, hby, h1, h2, by omega, fun h0 => ?_⟩
    · have hl : (zs.take m).length = m := by rw [List.length_take]; omega
      refine ⟨some x, cap, by rw [hl], (fun e => by cases e), by omega, ?_⟩
      rw [hl]
      by_cases h0 : m = 0
      · exact .inl h0
      · obtain ⟨g, o, rfl, hg⟩ := hsh (by omega)
        refine .inr ⟨g, o, rfl, fun j u hu => ?_⟩
        unfold cels at hu
        rw [List.getElem?_map, List.getElem?_take] at hu
        have hjm : j < m := by
          by_cases hjm : j < m
          · exact hjm
          · rw [if_neg hjm] at hu; simp at hu
        rw [if_pos hjm, List.getElem?_eq_getElem (by omega)] at hu
        simp only [Option.map_some, Option.some.injEq] at hu
        have e := h4 j (by omega)
        rw [Go.WideShapes.add_plain, List.getD_eq_getElem?_getD, List.getElem?_eq_getElem (by omega)] at e
        rw [e, ← hu]
        rfl
    · obtain ⟨g, o, rfl, hg⟩ := hsh (by omega)
      exact ⟨g, o, rfl, hg⟩
theorem take_bytes {zs : List Int} (h : Bytes zs) (m : Nat) : Bytes (zs.take m) := Bytes.take h m
theorem look_k0 (p : Int) : ∀ (l : Nat) (bs : List Bk), lookS 0 p l bs = noS := fun l bs => look_all 0 p l bs (fun i b _ _ => by unfold checkC; rw [if_pos (.inl (by decide))])
/-- What was written is read. -/
theorem rd_wr {st : St} {f : ByteArray} (hG : Good (st.seen f)) (l : Nat) (bs : List Bk) (hok : ∀ b ∈ bs, b.ok) (ca fua : Bool) : rdL ((wrF st f l bs ca fua).seen f) l bs.length = bs := by
  refine List.ext_getElem? (fun j => ?_)
  by_cases hj : j < bs.length
  · rw [rdL_at _ _ _ _ hj, wrF_view hG l bs hok, if_pos (by omega), show l + j - l = j by omega, List.getD_eq_getElem?_getD, List.getElem?_eq_getElem hj]
    rfl
  · rw [List.getElem?_eq_none (by rw [rdL_len]; omega), List.getElem?_eq_none (by omega)]
theorem unB_d (Z : List Int) (j : Nat) : (unB false Z j).d = (Z.drop (j * 16)).take 16 := rfl
theorem cut_getD (Z : List Int) (a j : Nat) (hj : j < 16) : ((Z.drop (a * 16)).take 16).getD j 0 = Z.getD (a * 16 + j) 0 := by
  simp only [List.getD_eq_getElem?_getD]
  rw [List.getElem?_take, if_pos hj, List.getElem?_drop]
/-- A byte turned is where two rows of blocks differ first. -/
theorem dif_set (Z : List Int) (n i : Nat) (v : Int) (k : Int) (l : Nat) (hZ : Z.length = n * 16) (hi : i < n * 16) (hv : v ≠ Z.getD i 0) : Dif (prL k l (unBs false Z n)) (unBs false (Z.set i v) n) i := by
  have ha : i / 16 < n := by omega
  have hm : i / 16 * 16 + i % 16 = i := by omega
  have hset : ∀ q, (Z.set i v).getD q 0 = if q = i then v else Z.getD q 0 := fun q => by
    simp only [List.getD_eq_getElem?_getD, List.getElem?_set]
    by_cases e : i = q
    · subst e; rw [if_pos rfl, if_pos (by omega), if_pos rfl]; rfl
    · rw [if_neg e, if_neg (fun h => e h.symm)]
  refine ⟨i / 16, i % 16, prB k (l + i / 16) (unB false Z (i / 16)), unB false (Z.set i v) (i / 16), by omega, ?_, unBs_at _ _ _ _ ha, by omega, ?_, ?_, ?_⟩
  · rw [prL_at, unBs_at _ _ _ _ ha]; rfl
  · show ((Z.drop (i / 16 * 16)).take 16).getD (i % 16) 0 ≠ (((Z.set i v).drop (i / 16 * 16)).take 16).getD (i % 16) 0
    rw [cut_getD _ _ _ (by omega), cut_getD _ _ _ (by omega), hm, hset, if_pos rfl]
    exact fun h => hv h.symm
  · intro q hq
    show ((Z.drop (i / 16 * 16)).take 16).getD q 0 = (((Z.set i v).drop (i / 16 * 16)).take 16).getD q 0
    rw [cut_getD _ _ _ (by omega), cut_getD _ _ _ (by omega), hset, if_neg (by omega)]
  · intro q x y hq hx hy
    rw [prL_at, unBs_at _ _ _ _ (by omega)] at hx
    rw [unBs_at _ _ _ _ (by omega)] at hy
    simp only [Option.map_some, Option.some.injEq] at hx hy
    subst hx hy
    show (Z.drop (q * 16)).take 16 = ((Z.set i v).drop (q * 16)).take 16
    refine List.ext_getElem? (fun j => ?_)
    rw [List.getElem?_take, List.getElem?_take]
    split
    · rw [List.getElem?_drop, List.getElem?_drop, List.getElem?_set_ne (by omega)]
    · rfl
theorem pr_same (k : Int) (l : Nat) (Z : List Int) (n : Nat) : ∀ j x y, j < n → (prL k l (unBs false Z n))[j]? = some x → (unBs false Z n)[j]? = some y → x.d = y.d := fun j x y hj hx hy => by
  rw [prL_at, unBs_at _ _ _ _ hj] at hx
  rw [unBs_at _ _ _ _ hj] at hy
  simp only [Option.map_some, Option.some.injEq] at hx hy
  subst hx hy
  rfl

theorem doVerify_plain (w : World) (B : Nat) (tag : Tags) (st : St) (f : ByteArray) (S D N : Nat) (k : Int) (ca : Bool) (l n : Nat) (c : Cm) (p : Value) (h : Dv w B tag st f S D N k ca) (hf1 : 1 ≤ f.size) (hf2 : f.size ≤ 32) (hN : N ≤ 4096) (hc : st.cnt < 500000000000) (hf : ∀ i, st.fails i = false) (hG : Good (st.seen f)) (h0 : 0 ≤ k) (h1 : k ≤ 3) (hpr : c.pr = 0) (hkd : c.kd = 10) (hl : c.lba = (l : Nat)) (hbl : c.bl = (n : Nat)) (hin : l + n ≤ N) (hlk : lookS k c.pr l (rdL (st.seen f) l n) = noS) (hbs : c.bs = false) :
    Calls Try.prog 11 #[.pointer (some ⟨D, 0, none⟩), .agg c.vals, p] w fun e w' => e = .returned (.agg (resV 0 noS (.slice none 0 0))) ∧ Aft w w' B tag (rdSt st n) :=
  do_0 w B tag st f S D N k ca c _ _ h (fun W hb => answer_act W B tag st f S D N k ca c _ noS _ (h.below hb) (by omega) (by omega) (fun W2 hb2 => refuse_in W2 B tag st f S D N k ca l n c ((h.below hb).below hb2) hN h0 (by omega) (by rw [hpr]; unfold knownB; exact decide_eq_true (by omega)) (by omega) (by omega) hl hbl hin)
    (fun W2 hb2 => act_10 W2 B tag st f S D N k ca c _ noS _ ((h.below hb).below hb2) hkd (fun W3 hb3 =>
      verify_plain W3 B tag st f S D N k ca l n c _ (((h.below hb).below hb2).below hb3) hf1 hf2 hN hc hf hG h0 (by omega) (by omega) (by omega) hl hbl hin hlk hbs)))
theorem doVerify_same (w : World) (B : Nat) (tag : Tags) (st : St) (f : ByteArray) (S D N : Nat) (k : Int) (ca : Bool) (l n m cp : Nat) (a : Option Addr) (zs : List Int) (c : Cm) (h : Dv w B tag st f S D N k ca) (hf1 : 1 ≤ f.size) (hf2 : f.size ≤ 32) (hN : N ≤ 4096) (hc : st.cnt < 500000000000) (hf : ∀ i, st.fails i = false) (hG : Good (st.seen f)) (h0 : 0 ≤ k) (h1 : k ≤ 3) (hpr : c.pr = 0) (hkd : c.kd = 10) (hl : c.lba = (l : Nat)) (hbl : c.bl = (n : Nat)) (hin : l + n ≤ N) (hlk : lookS k c.pr l (rdL (st.seen f) l n) = noS) (hbs : c.bs = true) (hr : RdAt w (.slice a m cp) zs) (hlz : zs.length = m) (hby : Bytes zs) (hm : m = n * sz (c.pr != 0)) (hd : ∀ j x y, j < n → (rdL (st.seen f) l n)[j]? = some x → (unBs (c.pr != 0) zs n)[j]? = some y → x.d = y.d) :
    Calls Try.prog 11 #[.pointer (some ⟨D, 0, none⟩), .agg c.vals, .slice a m cp] w fun e w' => e = .returned (.agg (resV 0 noS (.slice none 0 0))) ∧ Aft w w' B tag (rdSt st n) :=
  do_0 w B tag st f S D N k ca c _ _ h (fun W hb => answer_act W B tag st f S D N k ca c _ noS _ (h.below hb) (by omega) (by omega) (fun W2 hb2 => refuse_in W2 B tag st f S D N k ca l n c ((h.below hb).below hb2) hN h0 (by omega) (by rw [hpr]; unfold knownB; exact decide_eq_true (by omega)) (by omega) (by omega) hl hbl hin)
    (fun W2 hb2 => act_10 W2 B tag st f S D N k ca c _ noS _ ((h.below hb).below hb2) hkd (fun W3 hb3 =>
      verify_same W3 B tag st f S D N k ca l n m cp a zs c (((h.below hb).below hb2).below hb3) hf1 hf2 hN hc hf hG h0 (by omega) (by omega) (by omega) hl hbl hin hlk hbs (rd_below (rd_below (rd_below hr hb) hb2) hb3) hlz hby hm hd)))
theorem doVerify_dif (w : World) (B : Nat) (tag : Tags) (st : St) (f : ByteArray) (S D N : Nat) (k : Int) (ca : Bool) (l n m cp : Nat) (a : Option Addr) (zs : List Int) (c : Cm) (h : Dv w B tag st f S D N k ca) (hf1 : 1 ≤ f.size) (hf2 : f.size ≤ 32) (hN : N ≤ 4096) (hc : st.cnt < 500000000000) (hf : ∀ i, st.fails i = false) (hG : Good (st.seen f)) (h0 : 0 ≤ k) (h1 : k ≤ 3) (hpr : c.pr = 0) (hkd : c.kd = 10) (hl : c.lba = (l : Nat)) (hbl : c.bl = (n : Nat)) (hin : l + n ≤ N) (hlk : lookS k c.pr l (rdL (st.seen f) l n) = noS) (hbs : c.bs = true) (hr : RdAt w (.slice a m cp) zs) (hlz : zs.length = m) (hby : Bytes zs) (hm : m = n * sz (c.pr != 0)) (pl : Nat) (hpl : pl < 1000000) (hd : Dif (rdL (st.seen f) l n) (unBs (c.pr != 0) zs n) pl) :
    Calls Try.prog 11 #[.pointer (some ⟨D, 0, none⟩), .agg c.vals, .slice a m cp] w fun e w' => e = .returned (.agg (resV 2 (nuS 14 7424 pl) (.slice none 0 0))) ∧ Aft w w' B tag (rdSt st n) :=
  do_s w B tag st f S D N k ca c _ (nuS 14 7424 pl) (show (14 : Int) ≠ 0 by decide) _ h (fun W hb => answer_act W B tag st f S D N k ca c _ (nuS 14 7424 pl) _ (h.below hb) (by omega) (by omega) (fun W2 hb2 => refuse_in W2 B tag st f S D N k ca l n c ((h.below hb).below hb2) hN h0 (by omega) (by rw [hpr]; unfold knownB; exact decide_eq_true (by omega)) (by omega) (by omega) hl hbl hin)
    (fun W2 hb2 => act_10 W2 B tag st f S D N k ca c _ (nuS 14 7424 pl) _ ((h.below hb).below hb2) hkd (fun W3 hb3 =>
      verify_dif W3 B tag st f S D N k ca l n m cp a zs c (((h.below hb).below hb2).below hb3) hf1 hf2 hN hc hf hG h0 (by omega) (by omega) (by omega) hl hbl hin hlk hbs (rd_below (rd_below (rd_below hr hb) hb2) hb3) hlz hby hm pl hpl hd)))
end Go.Proofs.Ytklboieemljmiaa

namespace Go.Proofs.Ytklboieemljmiaa
open Go.RowKit
set_option linter.unusedVariables false
set_option linter.unusedSimpArgs false
theorem packL_d (bs : List Bk) : packL false bs = (bs.map (·.d)).flatten := by
  unfold packL
  congr 1
  refine List.map_congr_left (fun b _ => ?_)
  simp [pkL]
theorem pack_un (Z : List Int) : ∀ n, packL false (unBs false Z n) = Z.take (n * 16)
  | 0 => by simp [packL, unBs]
  | n + 1 => by
    have ih := pack_un Z n
    rw [packL_d] at ih ⊢
    unfold unBs at ih ⊢
    rw [List.range_succ, List.map_append, List.map_append, List.flatten_append, ih]
    simp only [List.map_cons, List.map_nil, List.flatten_cons, List.flatten_nil, List.append_nil]
    rw [show (unB false Z n).d = (Z.drop (n * 16)).take 16 from rfl, show (n + 1) * 16 = n * 16 + 16 by omega, List.take_add]
theorem prL_d (k : Int) : ∀ (l : Nat) (bs : List Bk), (prL k l bs).map (·.d) = bs.map (·.d)
  | _, [] => rfl
  | l, b :: r => by rw [prL, List.map_cons, List.map_cons, prL_d k (l + 1) r]; rfl
theorem pack_pr (k : Int) (l : Nat) (Z : List Int) (n : Nat) (hZ : Z.length = n * 16) : packL false (prL k l (unBs false Z n)) = Z := by
  have := pack_un Z n
  rw [packL_d] at this ⊢
  rw [prL_d, this, List.take_of_length_le (by omega)]
theorem look_pr (k p : Int) (l : Nat) (bs : List Bk) : lookS k p l (prL k l bs) = noS := look_all k p l _ (fun i b _ hb => by
  rw [prL_at] at hb
  cases hbi : bs[i]? with
  | none => rw [hbi] at hb; simp at hb
  | some x =>
    rw [hbi] at hb
    simp only [Option.map_some, Option.some.injEq] at hb
    subst hb
    exact check_pr k p (l + i) x)
theorem set_bytes {Z : List Int} (h : Bytes Z) (i : Nat) {v : Int} (hv : 0 ≤ v ∧ v ≤ 255) : Bytes (Z.set i v) := fun j => by
  rw [List.getD_eq_getElem?_getD, List.getElem?_set]
  split
  · split
    · exact hv
    · simp
  · have := h j
    rw [List.getD_eq_getElem?_getD] at this
    exact this
theorem belowN {w w' : World} (h : w.grownBy w' none) : Below w.heap.size w w' := ⟨h.os, h.tape, h.output, h.size, fun i hi => h.block i hi (by simp)⟩
theorem Fx.turnB {w W W' : World} {B : Nat} {tag tag' : Tags} {st : St} {f : ByteArray} {S D N : Nat} {k : Int} {ca : Bool} {g n cap : Nat} {zs : List Int} (h : Fx w W B tag tag' st f S D N k ca) (o : Ob w W tag' g n cap zs) (hg : W.grownBy W' (some g)) (hS : S < w.heap.size) (hD : D < w.heap.size) : Fx w W' B tag tag' st f S D N k ca :=
  ⟨h.dv.own hg o.bare (by have := o.lo; omega) (by have := o.lo; omega), h.st.own hg o.lo⟩
theorem Ob.setB {w W : World} {tag' : Tags} {g n cap : Nat} {zs : List Int} (o : Ob w W tag' g n cap zs) (i : Nat) (x : Int) : Ob w (W.setCell ⟨g, i, none⟩ (.int .u8 x)) tag' g n cap (zs.set i x) := ⟨own_set o.own i x, o.bare⟩
theorem nil_own (w : World) (b : Nat) : w.ownsRow b 5 1 (.slice none 0 0) 0 (cels []) := ⟨rfl, .inl ⟨rfl, rfl⟩⟩
end Go.Proofs.Ytklboieemljmiaa
