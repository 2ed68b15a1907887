/-
  The contracts of act, answer, Do, in general.
-/
import Derived.Test.YtklboieemljmiabVRef
namespace Go.Proofs.Ytklboieemljmiab
open Go.RowKit
set_option linter.unusedVariables false
set_option linter.unusedSimpArgs false
/-- What a call leaves of the world. -/
def Aft (w w' : World) (B : Nat) (tag : Tags) (st2 : St) : Prop := ∃ tag', Wd w' B tag' st2 ∧ Step w w' tag tag' (fun _ => True)
theorem Aft.pre {w W w' : World} {B : Nat} {tag : Tags} {st2 : St} (h : Aft W w' B tag st2) (hb : Below w.heap.size w W) : Aft w w' B tag st2 := by
  obtain ⟨t, h1, h2⟩ := h
  exact ⟨t, h1, (step_below hb tag _).trans h2⟩
def zeroR : Array Value := #[.int .u8 0, .int .u8 0, .int .u16 0, .int .u64 0, .bool false, .int .i64 0, .int .i64 0, .bool false, .bool false, .slice none 0 0]
def resV (q : Int) (s : Sn) (v : Value) : Array Value := #[.int .u8 q, .int .u8 s.key, .int .u16 s.code, .int .u64 s.info, .bool s.hi, .int .i64 s.field, .int .i64 s.bit, .bool s.hf, .bool s.ic, v]
theorem zeroRi : (Try.prog.info? 34).map (fun i => i.zero) = some (some (.agg zeroR)) := by kernel_rfl
theorem infoR : (Try.prog.info? 34).map (·.size) = some 10 := by kernel_rfl
theorem resV_one (q : Int) (s : Sn) (a : Option Addr) (n c : Nat) : (resV q s (.slice a n c)).all (·.oneCell') = true := by simp [resV, Value.oneCell']
theorem resR_run {w : World} {b : Nat} {q : Int} {s : Sn} {v : Value} (hB : Bx w b (resV q s v)) : (loadVar 34 ⟨b, 0, none⟩).run Try.prog w = .ok (.agg (resV q s v)) w := run_res hB 34 _ Try.underlying34 rfl infoR

set_option maxRecDepth 100000 in
set_option maxHeartbeats 1000000 in
theorem act_8 (w : World) (B : Nat) (tag : Tags) (st : St) (f : ByteArray) (S D N : Nat) (k : Int) (ca : Bool) (c : Cm) (p : Value) (s : Sn) (st2 : St) (h : Dv w B tag st f S D N k ca) (hkd : c.kd = 8)
    (H : ∀ W, Below w.heap.size w W → Calls Try.prog 30 #[.pointer (some ⟨D, 0, none⟩), .agg c.vals, p, .bool c.fua] W fun e w' => e = .returned (.agg s.vals) ∧ Aft W w' B tag st2) :
    Calls Try.prog 17 #[.pointer (some ⟨D, 0, none⟩), .agg c.vals, p] w fun e w' => e = .returned (.agg s.vals) ∧ Aft w w' B tag st2 := by
  have hcm0 : ∀ (W : World) (b : Nat), Bx W b c.vals → W.cell? ⟨b, 0, none⟩ = some (.int .u8 c.kd) := fun W b h => (cm_at h).1
  have hcm5 : ∀ (W : World) (b : Nat), Bx W b c.vals → W.cell? ⟨b, 5, none⟩ = some (.bool c.fua) := fun W b h => (cm_at h).2.2.2.2.2.1
  rw [hkd] at hcm0
  obtain ⟨fua, hfua⟩ : ∃ fua, fua = c.fua := ⟨_, rfl⟩
  rw [← hfua] at hcm5 H
  have hCs : c.vals.size = 15 := rfl
  obtain ⟨CV, hCV⟩ : ∃ CV, CV = c.vals := ⟨_, rfl⟩
  rw [← hCV] at hCs hcm0 hcm5 H ⊢
  replace hcm0 := Kpt.mk hcm0
  replace hcm5 := Kpt.mk hcm5
  replace hCs := Kpt.mk hCs
  clear hCV
  have hSl := h.sto.lt
  have hDl := h.bx.lt
  have F := Kpt.mk h.fx
  have hb := Kpt.mk (Below.refl w.heap.size w)
  replace H := Kpt.mk H
  replace h := Kpt.mk h
  clear hkd hfua
  go_enter Try.func17, Try.ntmps17
  go_wp2_with (first
      | (have hm := m3; refine wpList_store_bx rfl 32 _ _ rfl br _ (s).vals rfl rfl Or.out.bx rfl infoS (Sn.vals_one _) rfl ?_; intro w4 hX_ hg_; replace Oc := Kpt.mk (Oc.out.other hg_ (by omega)); replace F := Kpt.mk (F.out.own Or.out hg_ hSl hDl); replace Or := Kpt.mk (Or.out.set hX_); replace x0 := hcm0.out _ _ Oc.out.bx; replace x5 := hcm5.out _ _ Oc.out.bx; clear hX_ hg_; clear hm m3; have m4 : Kpt True := ⟨trivial⟩)
      | (go_at_call 30; have hm := m2; go_must (refine (H.out _ hb.out).mono ?_; rintro e w5 ⟨rfl, tag5, hW_, s_⟩; replace Oc := Kpt.mk (Oc.out.call s_); replace Or := Kpt.mk (Or.out.call s_); replace F := Kpt.mk (F.out.call hW_ s_); replace x0 := hcm0.out _ _ Oc.out.bx; replace x5 := hcm5.out _ _ Oc.out.bx; clear hW_ s_; clear hm m2; have m3 : Kpt True := ⟨trivial⟩))
      | (have hm := m1; refine wpList_var rfl 32 rfl zeroS zeroSi ?_; intro br w_r hl_ hX_ h_; have q_c_r : bc < br := Nat.lt_of_lt_of_le Oc.out.bx.lt hl_; have Or := Kpt.mk (F.out.new hl_ hX_); replace Oc := Kpt.mk (Oc.out.below h_); replace F := Kpt.mk (F.out.below h_); replace x0 := hcm0.out _ _ Oc.out.bx; replace x5 := hcm5.out _ _ Oc.out.bx; replace hb := Kpt.mk (hb.out.trans (h_.mono hb.out.size)); clear hl_ hX_ h_; clear hm m1; have m2 : Kpt True := ⟨trivial⟩)
      | (refine wpList_box rfl 38 _ rfl CV rfl ?_; intro bc w_c hl_ hX_ h_ _; have Oc := Kpt.mk (F.out.new hl_ hX_); replace F := Kpt.mk (F.out.below h_); replace hb := Kpt.mk (hb.out.trans (h_.mono hb.out.size)); have x0 := hcm0.out _ _ Oc.out.bx; have x5 := hcm5.out _ _ Oc.out.bx; clear hl_ hX_ h_; have m1 : Kpt True := ⟨trivial⟩)
      | (refine wpList_load_bx rfl 38 _ rfl bc CV rfl Oc.out.bx _ Try.underlying38 rfl (by rw [hCs.out]; exact infoC) ?_)
      | fail)
  refine bodyPost_ret (v := .agg (s).vals) (by simp [results, Try.results17, asAddr, Act.put, res_run Or.out.bx]) rfl ⟨rfl, _, F.out.dv.wd, F.out.st⟩

set_option maxRecDepth 100000 in
set_option maxHeartbeats 1000000 in
theorem act_9 (w : World) (B : Nat) (tag : Tags) (st : St) (f : ByteArray) (S D N : Nat) (k : Int) (ca : Bool) (c : Cm) (p : Value) (s : Sn) (st2 : St) (h : Dv w B tag st f S D N k ca) (hkd : c.kd = 9)
    (H : ∀ W, Below w.heap.size w W → Calls Try.prog 30 #[.pointer (some ⟨D, 0, none⟩), .agg c.vals, p, .bool true] W fun e w' => e = .returned (.agg s.vals) ∧ Aft W w' B tag st2) :
    Calls Try.prog 17 #[.pointer (some ⟨D, 0, none⟩), .agg c.vals, p] w fun e w' => e = .returned (.agg s.vals) ∧ Aft w w' B tag st2 := by
  have hcm0 : ∀ (W : World) (b : Nat), Bx W b c.vals → W.cell? ⟨b, 0, none⟩ = some (.int .u8 c.kd) := fun W b h => (cm_at h).1
  have hcm5 : ∀ (W : World) (b : Nat), Bx W b c.vals → W.cell? ⟨b, 5, none⟩ = some (.bool c.fua) := fun W b h => (cm_at h).2.2.2.2.2.1
  rw [hkd] at hcm0
  obtain ⟨fua, hfua⟩ : ∃ fua, fua = c.fua := ⟨_, rfl⟩
  rw [← hfua] at hcm5 
  have hCs : c.vals.size = 15 := rfl
  obtain ⟨CV, hCV⟩ : ∃ CV, CV = c.vals := ⟨_, rfl⟩
  rw [← hCV] at hCs hcm0 hcm5 H ⊢
  replace hcm0 := Kpt.mk hcm0
  replace hcm5 := Kpt.mk hcm5
  replace hCs := Kpt.mk hCs
  clear hCV
  have hSl := h.sto.lt
  have hDl := h.bx.lt
  have F := Kpt.mk h.fx
  have hb := Kpt.mk (Below.refl w.heap.size w)
  replace H := Kpt.mk H
  replace h := Kpt.mk h
  clear hkd hfua
  go_enter Try.func17, Try.ntmps17
  go_wp2_with (first
      | (have hm := m3; refine wpList_store_bx rfl 32 _ _ rfl br _ (s).vals rfl rfl Or.out.bx rfl infoS (Sn.vals_one _) rfl ?_; intro w4 hX_ hg_; replace Oc := Kpt.mk (Oc.out.other hg_ (by omega)); replace F := Kpt.mk (F.out.own Or.out hg_ hSl hDl); replace Or := Kpt.mk (Or.out.set hX_); replace x0 := hcm0.out _ _ Oc.out.bx; replace x5 := hcm5.out _ _ Oc.out.bx; clear hX_ hg_; clear hm m3; have m4 : Kpt True := ⟨trivial⟩)
      | (go_at_call 30; have hm := m2; go_must (refine (H.out _ hb.out).mono ?_; rintro e w5 ⟨rfl, tag5, hW_, s_⟩; replace Oc := Kpt.mk (Oc.out.call s_); replace Or := Kpt.mk (Or.out.call s_); replace F := Kpt.mk (F.out.call hW_ s_); replace x0 := hcm0.out _ _ Oc.out.bx; replace x5 := hcm5.out _ _ Oc.out.bx; clear hW_ s_; clear hm m2; have m3 : Kpt True := ⟨trivial⟩))
      | (have hm := m1; refine wpList_var rfl 32 rfl zeroS zeroSi ?_; intro br w_r hl_ hX_ h_; have q_c_r : bc < br := Nat.lt_of_lt_of_le Oc.out.bx.lt hl_; have Or := Kpt.mk (F.out.new hl_ hX_); replace Oc := Kpt.mk (Oc.out.below h_); replace F := Kpt.mk (F.out.below h_); replace x0 := hcm0.out _ _ Oc.out.bx; replace x5 := hcm5.out _ _ Oc.out.bx; replace hb := Kpt.mk (hb.out.trans (h_.mono hb.out.size)); clear hl_ hX_ h_; clear hm m1; have m2 : Kpt True := ⟨trivial⟩)
      | (refine wpList_box rfl 38 _ rfl CV rfl ?_; intro bc w_c hl_ hX_ h_ _; have Oc := Kpt.mk (F.out.new hl_ hX_); replace F := Kpt.mk (F.out.below h_); replace hb := Kpt.mk (hb.out.trans (h_.mono hb.out.size)); have x0 := hcm0.out _ _ Oc.out.bx; have x5 := hcm5.out _ _ Oc.out.bx; clear hl_ hX_ h_; have m1 : Kpt True := ⟨trivial⟩)
      | (refine wpList_load_bx rfl 38 _ rfl bc CV rfl Oc.out.bx _ Try.underlying38 rfl (by rw [hCs.out]; exact infoC) ?_)
      | fail)
  refine bodyPost_ret (v := .agg (s).vals) (by simp [results, Try.results17, asAddr, Act.put, res_run Or.out.bx]) rfl ⟨rfl, _, F.out.dv.wd, F.out.st⟩

set_option maxRecDepth 100000 in
set_option maxHeartbeats 1000000 in
theorem act_10 (w : World) (B : Nat) (tag : Tags) (st : St) (f : ByteArray) (S D N : Nat) (k : Int) (ca : Bool) (c : Cm) (p : Value) (s : Sn) (st2 : St) (h : Dv w B tag st f S D N k ca) (hkd : c.kd = 10)
    (H : ∀ W, Below w.heap.size w W → Calls Try.prog 31 #[.pointer (some ⟨D, 0, none⟩), .agg c.vals, p] W fun e w' => e = .returned (.agg s.vals) ∧ Aft W w' B tag st2) :
    Calls Try.prog 17 #[.pointer (some ⟨D, 0, none⟩), .agg c.vals, p] w fun e w' => e = .returned (.agg s.vals) ∧ Aft w w' B tag st2 := by
  have hcm0 : ∀ (W : World) (b : Nat), Bx W b c.vals → W.cell? ⟨b, 0, none⟩ = some (.int .u8 c.kd) := fun W b h => (cm_at h).1
  have hcm5 : ∀ (W : World) (b : Nat), Bx W b c.vals → W.cell? ⟨b, 5, none⟩ = some (.bool c.fua) := fun W b h => (cm_at h).2.2.2.2.2.1
  rw [hkd] at hcm0
  obtain ⟨fua, hfua⟩ : ∃ fua, fua = c.fua := ⟨_, rfl⟩
  rw [← hfua] at hcm5 
  have hCs : c.vals.size = 15 := rfl
  obtain ⟨CV, hCV⟩ : ∃ CV, CV = c.vals := ⟨_, rfl⟩
  rw [← hCV] at hCs hcm0 hcm5 H ⊢
  replace hcm0 := Kpt.mk hcm0
  replace hcm5 := Kpt.mk hcm5
  replace hCs := Kpt.mk hCs
  clear hCV
  have hSl := h.sto.lt
  have hDl := h.bx.lt
  have F := Kpt.mk h.fx
  have hb := Kpt.mk (Below.refl w.heap.size w)
  replace H := Kpt.mk H
  replace h := Kpt.mk h
  clear hkd hfua
  go_enter Try.func17, Try.ntmps17
  go_wp2_with (first
      | (have hm := m3; refine wpList_store_bx rfl 32 _ _ rfl br _ (s).vals rfl rfl Or.out.bx rfl infoS (Sn.vals_one _) rfl ?_; intro w4 hX_ hg_; replace Oc := Kpt.mk (Oc.out.other hg_ (by omega)); replace F := Kpt.mk (F.out.own Or.out hg_ hSl hDl); replace Or := Kpt.mk (Or.out.set hX_); replace x0 := hcm0.out _ _ Oc.out.bx; replace x5 := hcm5.out _ _ Oc.out.bx; clear hX_ hg_; clear hm m3; have m4 : Kpt True := ⟨trivial⟩)
      | (go_at_call 31; have hm := m2; go_must (refine (H.out _ hb.out).mono ?_; rintro e w5 ⟨rfl, tag5, hW_, s_⟩; replace Oc := Kpt.mk (Oc.out.call s_); replace Or := Kpt.mk (Or.out.call s_); replace F := Kpt.mk (F.out.call hW_ s_); replace x0 := hcm0.out _ _ Oc.out.bx; replace x5 := hcm5.out _ _ Oc.out.bx; clear hW_ s_; clear hm m2; have m3 : Kpt True := ⟨trivial⟩))
      | (have hm := m1; refine wpList_var rfl 32 rfl zeroS zeroSi ?_; intro br w_r hl_ hX_ h_; have q_c_r : bc < br := Nat.lt_of_lt_of_le Oc.out.bx.lt hl_; have Or := Kpt.mk (F.out.new hl_ hX_); replace Oc := Kpt.mk (Oc.out.below h_); replace F := Kpt.mk (F.out.below h_); replace x0 := hcm0.out _ _ Oc.out.bx; replace x5 := hcm5.out _ _ Oc.out.bx; replace hb := Kpt.mk (hb.out.trans (h_.mono hb.out.size)); clear hl_ hX_ h_; clear hm m1; have m2 : Kpt True := ⟨trivial⟩)
      | (refine wpList_box rfl 38 _ rfl CV rfl ?_; intro bc w_c hl_ hX_ h_ _; have Oc := Kpt.mk (F.out.new hl_ hX_); replace F := Kpt.mk (F.out.below h_); replace hb := Kpt.mk (hb.out.trans (h_.mono hb.out.size)); have x0 := hcm0.out _ _ Oc.out.bx; have x5 := hcm5.out _ _ Oc.out.bx; clear hl_ hX_ h_; have m1 : Kpt True := ⟨trivial⟩)
      | (refine wpList_load_bx rfl 38 _ rfl bc CV rfl Oc.out.bx _ Try.underlying38 rfl (by rw [hCs.out]; exact infoC) ?_)
      | fail)
  refine bodyPost_ret (v := .agg (s).vals) (by simp [results, Try.results17, asAddr, Act.put, res_run Or.out.bx]) rfl ⟨rfl, _, F.out.dv.wd, F.out.st⟩

set_option maxRecDepth 100000 in
set_option maxHeartbeats 1000000 in
theorem act_12 (w : World) (B : Nat) (tag : Tags) (st : St) (f : ByteArray) (S D N : Nat) (k : Int) (ca : Bool) (c : Cm) (p : Value) (s : Sn) (st2 : St) (h : Dv w B tag st f S D N k ca) (hkd : c.kd = 12)
    (H : ∀ W, Below w.heap.size w W → Calls Try.prog 33 #[.pointer (some ⟨D, 0, none⟩), .agg c.vals, p] W fun e w' => e = .returned (.agg s.vals) ∧ Aft W w' B tag st2) :
    Calls Try.prog 17 #[.pointer (some ⟨D, 0, none⟩), .agg c.vals, p] w fun e w' => e = .returned (.agg s.vals) ∧ Aft w w' B tag st2 := by
  have hcm0 : ∀ (W : World) (b : Nat), Bx W b c.vals → W.cell? ⟨b, 0, none⟩ = some (.int .u8 c.kd) := fun W b h => (cm_at h).1
  have hcm5 : ∀ (W : World) (b : Nat), Bx W b c.vals → W.cell? ⟨b, 5, none⟩ = some (.bool c.fua) := fun W b h => (cm_at h).2.2.2.2.2.1
  rw [hkd] at hcm0
  obtain ⟨fua, hfua⟩ : ∃ fua, fua = c.fua := ⟨_, rfl⟩
  rw [← hfua] at hcm5 
  have hCs : c.vals.size = 15 := rfl
  obtain ⟨CV, hCV⟩ : ∃ CV, CV = c.vals := ⟨_, rfl⟩
  rw [← hCV] at hCs hcm0 hcm5 H ⊢
  replace hcm0 := Kpt.mk hcm0
  replace hcm5 := Kpt.mk hcm5
  replace hCs := Kpt.mk hCs
  clear hCV
  have hSl := h.sto.lt
  have hDl := h.bx.lt
  have F := Kpt.mk h.fx
  have hb := Kpt.mk (Below.refl w.heap.size w)
  replace H := Kpt.mk H
  replace h := Kpt.mk h
  clear hkd hfua
  go_enter Try.func17, Try.ntmps17
  go_wp2_with (first
      | (have hm := m3; refine wpList_store_bx rfl 32 _ _ rfl br _ (s).vals rfl rfl Or.out.bx rfl infoS (Sn.vals_one _) rfl ?_; intro w4 hX_ hg_; replace Oc := Kpt.mk (Oc.out.other hg_ (by omega)); replace F := Kpt.mk (F.out.own Or.out hg_ hSl hDl); replace Or := Kpt.mk (Or.out.set hX_); replace x0 := hcm0.out _ _ Oc.out.bx; replace x5 := hcm5.out _ _ Oc.out.bx; clear hX_ hg_; clear hm m3; have m4 : Kpt True := ⟨trivial⟩)
      | (go_at_call 33; have hm := m2; go_must (refine (H.out _ hb.out).mono ?_; rintro e w5 ⟨rfl, tag5, hW_, s_⟩; replace Oc := Kpt.mk (Oc.out.call s_); replace Or := Kpt.mk (Or.out.call s_); replace F := Kpt.mk (F.out.call hW_ s_); replace x0 := hcm0.out _ _ Oc.out.bx; replace x5 := hcm5.out _ _ Oc.out.bx; clear hW_ s_; clear hm m2; have m3 : Kpt True := ⟨trivial⟩))
      | (have hm := m1; refine wpList_var rfl 32 rfl zeroS zeroSi ?_; intro br w_r hl_ hX_ h_; have q_c_r : bc < br := Nat.lt_of_lt_of_le Oc.out.bx.lt hl_; have Or := Kpt.mk (F.out.new hl_ hX_); replace Oc := Kpt.mk (Oc.out.below h_); replace F := Kpt.mk (F.out.below h_); replace x0 := hcm0.out _ _ Oc.out.bx; replace x5 := hcm5.out _ _ Oc.out.bx; replace hb := Kpt.mk (hb.out.trans (h_.mono hb.out.size)); clear hl_ hX_ h_; clear hm m1; have m2 : Kpt True := ⟨trivial⟩)
      | (refine wpList_box rfl 38 _ rfl CV rfl ?_; intro bc w_c hl_ hX_ h_ _; have Oc := Kpt.mk (F.out.new hl_ hX_); replace F := Kpt.mk (F.out.below h_); replace hb := Kpt.mk (hb.out.trans (h_.mono hb.out.size)); have x0 := hcm0.out _ _ Oc.out.bx; have x5 := hcm5.out _ _ Oc.out.bx; clear hl_ hX_ h_; have m1 : Kpt True := ⟨trivial⟩)
      | (refine wpList_load_bx rfl 38 _ rfl bc CV rfl Oc.out.bx _ Try.underlying38 rfl (by rw [hCs.out]; exact infoC) ?_)
      | fail)
  refine bodyPost_ret (v := .agg (s).vals) (by simp [results, Try.results17, asAddr, Act.put, res_run Or.out.bx]) rfl ⟨rfl, _, F.out.dv.wd, F.out.st⟩

set_option maxRecDepth 100000 in
set_option maxHeartbeats 1000000 in
theorem act_14 (w : World) (B : Nat) (tag : Tags) (st : St) (f : ByteArray) (S D N : Nat) (k : Int) (ca : Bool) (c : Cm) (p : Value) (s : Sn) (st2 : St) (h : Dv w B tag st f S D N k ca) (hkd : c.kd = 14)
    (H : ∀ W, Below w.heap.size w W → Calls Try.prog 35 #[.pointer (some ⟨D, 0, none⟩), .agg c.vals, p] W fun e w' => e = .returned (.agg s.vals) ∧ Aft W w' B tag st2) :
    Calls Try.prog 17 #[.pointer (some ⟨D, 0, none⟩), .agg c.vals, p] w fun e w' => e = .returned (.agg s.vals) ∧ Aft w w' B tag st2 := by
  have hcm0 : ∀ (W : World) (b : Nat), Bx W b c.vals → W.cell? ⟨b, 0, none⟩ = some (.int .u8 c.kd) := fun W b h => (cm_at h).1
  have hcm5 : ∀ (W : World) (b : Nat), Bx W b c.vals → W.cell? ⟨b, 5, none⟩ = some (.bool c.fua) := fun W b h => (cm_at h).2.2.2.2.2.1
  rw [hkd] at hcm0
  obtain ⟨fua, hfua⟩ : ∃ fua, fua = c.fua := ⟨_, rfl⟩
  rw [← hfua] at hcm5 
  have hCs : c.vals.size = 15 := rfl
  obtain ⟨CV, hCV⟩ : ∃ CV, CV = c.vals := ⟨_, rfl⟩
  rw [← hCV] at hCs hcm0 hcm5 H ⊢
  replace hcm0 := Kpt.mk hcm0
  replace hcm5 := Kpt.mk hcm5
  replace hCs := Kpt.mk hCs
  clear hCV
  have hSl := h.sto.lt
  have hDl := h.bx.lt
  have F := Kpt.mk h.fx
  have hb := Kpt.mk (Below.refl w.heap.size w)
  replace H := Kpt.mk H
  replace h := Kpt.mk h
  clear hkd hfua
  go_enter Try.func17, Try.ntmps17
  go_wp2_with (first
      | (have hm := m3; refine wpList_store_bx rfl 32 _ _ rfl br _ (s).vals rfl rfl Or.out.bx rfl infoS (Sn.vals_one _) rfl ?_; intro w4 hX_ hg_; replace Oc := Kpt.mk (Oc.out.other hg_ (by omega)); replace F := Kpt.mk (F.out.own Or.out hg_ hSl hDl); replace Or := Kpt.mk (Or.out.set hX_); replace x0 := hcm0.out _ _ Oc.out.bx; replace x5 := hcm5.out _ _ Oc.out.bx; clear hX_ hg_; clear hm m3; have m4 : Kpt True := ⟨trivial⟩)
      | (go_at_call 35; have hm := m2; go_must (refine (H.out _ hb.out).mono ?_; rintro e w5 ⟨rfl, tag5, hW_, s_⟩; replace Oc := Kpt.mk (Oc.out.call s_); replace Or := Kpt.mk (Or.out.call s_); replace F := Kpt.mk (F.out.call hW_ s_); replace x0 := hcm0.out _ _ Oc.out.bx; replace x5 := hcm5.out _ _ Oc.out.bx; clear hW_ s_; clear hm m2; have m3 : Kpt True := ⟨trivial⟩))
      | (have hm := m1; refine wpList_var rfl 32 rfl zeroS zeroSi ?_; intro br w_r hl_ hX_ h_; have q_c_r : bc < br := Nat.lt_of_lt_of_le Oc.out.bx.lt hl_; have Or := Kpt.mk (F.out.new hl_ hX_); replace Oc := Kpt.mk (Oc.out.below h_); replace F := Kpt.mk (F.out.below h_); replace x0 := hcm0.out _ _ Oc.out.bx; replace x5 := hcm5.out _ _ Oc.out.bx; replace hb := Kpt.mk (hb.out.trans (h_.mono hb.out.size)); clear hl_ hX_ h_; clear hm m1; have m2 : Kpt True := ⟨trivial⟩)
      | (refine wpList_box rfl 38 _ rfl CV rfl ?_; intro bc w_c hl_ hX_ h_ _; have Oc := Kpt.mk (F.out.new hl_ hX_); replace F := Kpt.mk (F.out.below h_); replace hb := Kpt.mk (hb.out.trans (h_.mono hb.out.size)); have x0 := hcm0.out _ _ Oc.out.bx; have x5 := hcm5.out _ _ Oc.out.bx; clear hl_ hX_ h_; have m1 : Kpt True := ⟨trivial⟩)
      | (refine wpList_load_bx rfl 38 _ rfl bc CV rfl Oc.out.bx _ Try.underlying38 rfl (by rw [hCs.out]; exact infoC) ?_)
      | fail)
  refine bodyPost_ret (v := .agg (s).vals) (by simp [results, Try.results17, asAddr, Act.put, res_run Or.out.bx]) rfl ⟨rfl, _, F.out.dv.wd, F.out.st⟩

set_option maxRecDepth 100000 in
set_option maxHeartbeats 1000000 in
theorem answer_act (w : World) (B : Nat) (tag : Tags) (st : St) (f : ByteArray) (S D N : Nat) (k : Int) (ca : Bool) (c : Cm) (p : Value) (s : Sn) (st2 : St) (h : Dv w B tag st f S D N k ca) (n7 : ¬ c.kd = 7) (n6 : ¬ c.kd = 6)
    (HR : ∀ W, Below w.heap.size w W → Calls Try.prog 12 #[.pointer (some ⟨D, 0, none⟩), .agg c.vals] W fun e w' => e = .returned (.agg noS.vals) ∧ Below W.heap.size W w')
    (H : ∀ W, Below w.heap.size w W → Calls Try.prog 17 #[.pointer (some ⟨D, 0, none⟩), .agg c.vals, p] W fun e w' => e = .returned (.agg s.vals) ∧ Aft W w' B tag st2) :
    Calls Try.prog 10 #[.pointer (some ⟨D, 0, none⟩), .agg c.vals, p] w fun e w' => e = .returned (.tuple #[.slice none 0 0, .agg s.vals]) ∧ Aft w w' B tag st2 := by
  have hcm0 : ∀ (W : World) (b : Nat), Bx W b c.vals → W.cell? ⟨b, 0, none⟩ = some (.int .u8 c.kd) := fun W b h => (cm_at h).1
  obtain ⟨kd, hkd⟩ : ∃ kd, kd = c.kd := ⟨_, rfl⟩
  rw [← hkd] at hcm0 n7 n6
  have HE := fun W => ended_any noS W
  simp only [show (noS.key != 0) = false from rfl] at HE
  have hCs : c.vals.size = 15 := rfl
  obtain ⟨CV, hCV⟩ : ∃ CV, CV = c.vals := ⟨_, rfl⟩
  rw [← hCV] at hCs hcm0 HR H ⊢
  replace hcm0 := Kpt.mk hcm0
  replace hCs := Kpt.mk hCs
  clear hCV
  have hSl := h.sto.lt
  have hDl := h.bx.lt
  have F := Kpt.mk h.fx
  have hb := Kpt.mk (Below.refl w.heap.size w)
  replace H := Kpt.mk H
  replace HR := Kpt.mk HR
  replace HE := Kpt.mk HE
  replace h := Kpt.mk h
  clear hkd
  go_enter Try.func10, Try.ntmps10
  go_wp2_with (first
      | (have hm := m7; refine wpList_store_bx rfl 32 _ _ rfl br _ (s).vals rfl rfl Or.out.bx rfl infoS (Sn.vals_one _) rfl ?_; intro w8 hX_ hg_; replace Oc := Kpt.mk (Oc.out.other hg_ (by omega)); replace Ov := Kpt.mk (Ov.out.other hg_ (by omega)); replace F := Kpt.mk (F.out.own Or.out hg_ hSl hDl); replace Or := Kpt.mk (Or.out.set hX_); replace x0 := hcm0.out _ _ Oc.out.bx; clear hX_ hg_; clear hm m7; have m8 : Kpt True := ⟨trivial⟩)
      | (go_at_call 17; have hm := m6; go_must (refine (H.out _ hb.out).mono ?_; rintro e w5 ⟨rfl, tag5, hW_, s_⟩; replace Oc := Kpt.mk (Oc.out.call s_); replace Or := Kpt.mk (Or.out.call s_); replace Ov := Kpt.mk (Ov.out.call s_); replace F := Kpt.mk (F.out.call hW_ s_); replace x0 := hcm0.out _ _ Oc.out.bx; clear hW_ s_; clear hm m6; have m7 : Kpt True := ⟨trivial⟩))
      | (go_at_call 11; have hm := m5; go_must (refine (HE.out _).mono ?_; rintro e w4 ⟨rfl, h_⟩; replace Oc := Kpt.mk (Oc.out.below h_); replace Or := Kpt.mk (Or.out.below h_); replace Ov := Kpt.mk (Ov.out.below h_); replace F := Kpt.mk (F.out.below h_); replace x0 := hcm0.out _ _ Oc.out.bx; replace hb := Kpt.mk (hb.out.trans (h_.mono hb.out.size)); clear h_; clear hm m5; have m6 : Kpt True := ⟨trivial⟩))
      | (have hm := m4; refine wpList_store_bx rfl 32 _ _ rfl bv _ (noS).vals rfl rfl Ov.out.bx rfl infoS (Sn.vals_one _) rfl ?_; intro w5 hX_ hg_; replace hb := Kpt.mk (hb.out.trans (Below.ofGrown hg_ hb.out.size Ov.out.lo)); replace Oc := Kpt.mk (Oc.out.other hg_ (by omega)); replace Or := Kpt.mk (Or.out.other hg_ (by omega)); replace F := Kpt.mk (F.out.own Ov.out hg_ hSl hDl); replace Ov := Kpt.mk (Ov.out.set hX_); replace x0 := hcm0.out _ _ Oc.out.bx; clear hX_ hg_; clear hm m4; have m5 : Kpt True := ⟨trivial⟩)
      | (have hm := m3; refine wpList_var rfl 32 rfl zeroS zeroSi ?_; intro bv w_v hl_ hX_ h_; have q_c_v : bc < bv := Nat.lt_of_lt_of_le Oc.out.bx.lt hl_; have q_r_v : br < bv := Nat.lt_of_lt_of_le Or.out.bx.lt hl_; have Ov := Kpt.mk (F.out.new hl_ hX_); replace Oc := Kpt.mk (Oc.out.below h_); replace Or := Kpt.mk (Or.out.below h_); replace F := Kpt.mk (F.out.below h_); replace x0 := hcm0.out _ _ Oc.out.bx; replace hb := Kpt.mk (hb.out.trans (h_.mono hb.out.size)); clear hl_ hX_ h_; clear hm m3; have m4 : Kpt True := ⟨trivial⟩)
      | (go_at_call 12; have hm := m2; go_must (refine (HR.out _ hb.out).mono ?_; rintro e w3 ⟨rfl, h_⟩; replace Oc := Kpt.mk (Oc.out.below h_); replace Or := Kpt.mk (Or.out.below h_); replace F := Kpt.mk (F.out.below h_); replace x0 := hcm0.out _ _ Oc.out.bx; replace hb := Kpt.mk (hb.out.trans (h_.mono hb.out.size)); clear h_; clear hm m2; have m3 : Kpt True := ⟨trivial⟩))
      | (have hm := m1; refine wpList_var rfl 32 rfl zeroS zeroSi ?_; intro br w_r hl_ hX_ h_; have q_c_r : bc < br := Nat.lt_of_lt_of_le Oc.out.bx.lt hl_; have Or := Kpt.mk (F.out.new hl_ hX_); replace Oc := Kpt.mk (Oc.out.below h_); replace F := Kpt.mk (F.out.below h_); replace x0 := hcm0.out _ _ Oc.out.bx; replace hb := Kpt.mk (hb.out.trans (h_.mono hb.out.size)); clear hl_ hX_ h_; clear hm m1; have m2 : Kpt True := ⟨trivial⟩)
      | (refine wpList_box rfl 38 _ rfl CV rfl ?_; intro bc w_c hl_ hX_ h_ _; have Oc := Kpt.mk (F.out.new hl_ hX_); replace F := Kpt.mk (F.out.below h_); replace hb := Kpt.mk (hb.out.trans (h_.mono hb.out.size)); have x0 := hcm0.out _ _ Oc.out.bx; clear hl_ hX_ h_; have m1 : Kpt True := ⟨trivial⟩)
      | (refine wpList_load_bx rfl 38 _ rfl bc CV rfl Oc.out.bx _ Try.underlying38 rfl (by rw [hCs.out]; exact infoC) ?_)
      | (refine wpList_load_bx rfl 32 _ rfl bv (noS).vals rfl Ov.out.bx _ Try.underlying32 rfl infoS ?_)
      | fail)
  refine bodyPost_ret (v := .tuple #[.slice none 0 0, .agg s.vals]) (by simp [results, Try.results10, asAddr, Act.put, res_run Or.out.bx]) rfl ⟨rfl, _, F.out.dv.wd, F.out.st⟩

end Go.Proofs.Ytklboieemljmiab
