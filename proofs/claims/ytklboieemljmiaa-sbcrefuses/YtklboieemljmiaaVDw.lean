/-
  act, answer and Do, weakly: what a refused command has changed.
-/
import Derived.Test.YtklboieemljmiaaVUm2
namespace Go.Proofs.Ytklboieemljmiaa
open Go.RowKit
set_option linter.unusedVariables false
set_option linter.unusedSimpArgs false
set_option maxRecDepth 100000 in
set_option maxHeartbeats 1000000 in
theorem act_8w (w : World) (B : Nat) (tag : Tags) (st : St) (f : ByteArray) (S D N : Nat) (k : Int) (ca : Bool) (c : Cm) (p : Value) (h : Dv w B tag st f S D N k ca) (hkd : c.kd = 8)
    (H : ∀ W, Below w.heap.size w W → Calls Try.prog 43 #[.pointer (some ⟨D, 0, none⟩), .agg c.vals, p, .bool c.fua] W fun e w' => ∃ s st2, e = .returned (.agg (Sn.vals s)) ∧ Aft W w' B tag st2 ∧ (s.key = 5 → st2 = st)) :
    Calls Try.prog 29 #[.pointer (some ⟨D, 0, none⟩), .agg c.vals, p] w fun e w' => ∃ s st2, e = .returned (.agg (Sn.vals s)) ∧ Aft w w' B tag st2 ∧ (s.key = 5 → st2 = st) := by
  have hcm0 : ∀ (W : World) (b : Nat), Bx W b c.vals → W.cell? ⟨b, 0, none⟩ = some (.int .u8 c.kd) := fun W b h => (cm_at h).1
  have hcm5 : ∀ (W : World) (b : Nat), Bx W b c.vals → W.cell? ⟨b, 5, none⟩ = some (.bool c.fua) := fun W b h => (cm_at h).2.2.2.2.2.1
  rw [hkd] at hcm0
  obtain ⟨fu, hfu⟩ : ∃ x, x = c.fua := ⟨_, rfl⟩
  rw [← hfu] at H hcm5
  have hCs : c.vals.size = 15 := rfl
  obtain ⟨CV, hCV⟩ : ∃ CV, CV = c.vals := ⟨_, rfl⟩
  rw [← hCV] at hCs hcm0 hcm5 H ⊢
  replace hcm0 := Kpt.mk hcm0
  replace hcm5 := Kpt.mk hcm5
  replace hCs := Kpt.mk hCs
  clear hCV
  have hSl := h.sto.lt
  have hDl := h.bx.lt
  have F := Kpt.mk h.fx
  have hb := Kpt.mk (Below.refl w.heap.size w)
  replace H := Kpt.mk H
  replace h := Kpt.mk h
  clear hkd hfu
  go_enter Try.func29, Try.ntmps29
  go_wp2_with (first
      | (have hm := m3; refine wpList_store_bx rfl 32 _ _ rfl br _ (s).vals rfl rfl Or.out.bx rfl infoS (Sn.vals_one _) rfl ?_; intro w4 hX_ hg_; replace Oc := Kpt.mk (Oc.out.other hg_ (by omega)); replace F := Kpt.mk (F.out.own Or.out hg_ hSl hDl); replace Or := Kpt.mk (Or.out.set hX_); replace x0 := hcm0.out _ _ Oc.out.bx; replace x5 := hcm5.out _ _ Oc.out.bx; clear hX_ hg_; clear hm m3; have m4 : Kpt True := ⟨trivial⟩)
      | (go_at_call 43; have hm := m2; refine (H.out _ hb.out).mono ?_; rintro e w5 ⟨s, st2, rfl, ⟨tag5, hW_, s_⟩, hk5⟩; replace hk5 := Kpt.mk hk5; replace Oc := Kpt.mk (Oc.out.call s_); replace Or := Kpt.mk (Or.out.call s_); replace F := Kpt.mk (F.out.call hW_ s_); replace x0 := hcm0.out _ _ Oc.out.bx; replace x5 := hcm5.out _ _ Oc.out.bx; clear hW_ s_; clear hm m2; have m3 : Kpt True := ⟨trivial⟩)
      | (have hm := m1; refine wpList_var rfl 32 rfl zeroS zeroSi ?_; intro br w_r hl_ hX_ h_; have q_c_r : bc < br := Nat.lt_of_lt_of_le Oc.out.bx.lt hl_; have Or := Kpt.mk (F.out.new hl_ hX_); replace Oc := Kpt.mk (Oc.out.below h_); replace F := Kpt.mk (F.out.below h_); replace x0 := hcm0.out _ _ Oc.out.bx; replace x5 := hcm5.out _ _ Oc.out.bx; replace hb := Kpt.mk (hb.out.trans (h_.mono hb.out.size)); clear hl_ hX_ h_; clear hm m1; have m2 : Kpt True := ⟨trivial⟩)
      | (refine wpList_box rfl 38 _ rfl CV rfl ?_; intro bc w_c hl_ hX_ h_ _; have Oc := Kpt.mk (F.out.new hl_ hX_); replace F := Kpt.mk (F.out.below h_); replace hb := Kpt.mk (hb.out.trans (h_.mono hb.out.size)); have x0 := hcm0.out _ _ Oc.out.bx; have x5 := hcm5.out _ _ Oc.out.bx; clear hl_ hX_ h_; have m1 : Kpt True := ⟨trivial⟩)
      | (refine wpList_load_bx rfl 38 _ rfl bc CV rfl Oc.out.bx _ Try.underlying38 rfl (by rw [hCs.out]; exact infoC) ?_)
      | fail)
  refine bodyPost_ret (v := .agg (s).vals) (by simp [results, Try.results29, asAddr, Act.put, res_run Or.out.bx]) rfl ⟨s, st2, rfl, ⟨_, F.out.dv.wd, F.out.st⟩, hk5.out⟩

set_option maxRecDepth 100000 in
set_option maxHeartbeats 1000000 in
theorem act_9w (w : World) (B : Nat) (tag : Tags) (st : St) (f : ByteArray) (S D N : Nat) (k : Int) (ca : Bool) (c : Cm) (p : Value) (h : Dv w B tag st f S D N k ca) (hkd : c.kd = 9)
    (H : ∀ W, Below w.heap.size w W → Calls Try.prog 43 #[.pointer (some ⟨D, 0, none⟩), .agg c.vals, p, .bool true] W fun e w' => ∃ s st2, e = .returned (.agg (Sn.vals s)) ∧ Aft W w' B tag st2 ∧ (s.key = 5 → st2 = st)) :
    Calls Try.prog 29 #[.pointer (some ⟨D, 0, none⟩), .agg c.vals, p] w fun e w' => ∃ s st2, e = .returned (.agg (Sn.vals s)) ∧ Aft w w' B tag st2 ∧ (s.key = 5 → st2 = st) := by
  have hcm0 : ∀ (W : World) (b : Nat), Bx W b c.vals → W.cell? ⟨b, 0, none⟩ = some (.int .u8 c.kd) := fun W b h => (cm_at h).1
  have hcm5 : ∀ (W : World) (b : Nat), Bx W b c.vals → W.cell? ⟨b, 5, none⟩ = some (.bool c.fua) := fun W b h => (cm_at h).2.2.2.2.2.1
  rw [hkd] at hcm0
  have hCs : c.vals.size = 15 := rfl
  obtain ⟨CV, hCV⟩ : ∃ CV, CV = c.vals := ⟨_, rfl⟩
  rw [← hCV] at hCs hcm0 hcm5 H ⊢
  replace hcm0 := Kpt.mk hcm0
  replace hcm5 := Kpt.mk hcm5
  replace hCs := Kpt.mk hCs
  clear hCV
  have hSl := h.sto.lt
  have hDl := h.bx.lt
  have F := Kpt.mk h.fx
  have hb := Kpt.mk (Below.refl w.heap.size w)
  replace H := Kpt.mk H
  replace h := Kpt.mk h
  clear hkd
  go_enter Try.func29, Try.ntmps29
  go_wp2_with (first
      | (have hm := m3; refine wpList_store_bx rfl 32 _ _ rfl br _ (s).vals rfl rfl Or.out.bx rfl infoS (Sn.vals_one _) rfl ?_; intro w4 hX_ hg_; replace Oc := Kpt.mk (Oc.out.other hg_ (by omega)); replace F := Kpt.mk (F.out.own Or.out hg_ hSl hDl); replace Or := Kpt.mk (Or.out.set hX_); replace x0 := hcm0.out _ _ Oc.out.bx; replace x5 := hcm5.out _ _ Oc.out.bx; clear hX_ hg_; clear hm m3; have m4 : Kpt True := ⟨trivial⟩)
      | (go_at_call 43; have hm := m2; refine (H.out _ hb.out).mono ?_; rintro e w5 ⟨s, st2, rfl, ⟨tag5, hW_, s_⟩, hk5⟩; replace hk5 := Kpt.mk hk5; replace Oc := Kpt.mk (Oc.out.call s_); replace Or := Kpt.mk (Or.out.call s_); replace F := Kpt.mk (F.out.call hW_ s_); replace x0 := hcm0.out _ _ Oc.out.bx; replace x5 := hcm5.out _ _ Oc.out.bx; clear hW_ s_; clear hm m2; have m3 : Kpt True := ⟨trivial⟩)
      | (have hm := m1; refine wpList_var rfl 32 rfl zeroS zeroSi ?_; intro br w_r hl_ hX_ h_; have q_c_r : bc < br := Nat.lt_of_lt_of_le Oc.out.bx.lt hl_; have Or := Kpt.mk (F.out.new hl_ hX_); replace Oc := Kpt.mk (Oc.out.below h_); replace F := Kpt.mk (F.out.below h_); replace x0 := hcm0.out _ _ Oc.out.bx; replace x5 := hcm5.out _ _ Oc.out.bx; replace hb := Kpt.mk (hb.out.trans (h_.mono hb.out.size)); clear hl_ hX_ h_; clear hm m1; have m2 : Kpt True := ⟨trivial⟩)
      | (refine wpList_box rfl 38 _ rfl CV rfl ?_; intro bc w_c hl_ hX_ h_ _; have Oc := Kpt.mk (F.out.new hl_ hX_); replace F := Kpt.mk (F.out.below h_); replace hb := Kpt.mk (hb.out.trans (h_.mono hb.out.size)); have x0 := hcm0.out _ _ Oc.out.bx; have x5 := hcm5.out _ _ Oc.out.bx; clear hl_ hX_ h_; have m1 : Kpt True := ⟨trivial⟩)
      | (refine wpList_load_bx rfl 38 _ rfl bc CV rfl Oc.out.bx _ Try.underlying38 rfl (by rw [hCs.out]; exact infoC) ?_)
      | fail)
  refine bodyPost_ret (v := .agg (s).vals) (by simp [results, Try.results29, asAddr, Act.put, res_run Or.out.bx]) rfl ⟨s, st2, rfl, ⟨_, F.out.dv.wd, F.out.st⟩, hk5.out⟩

set_option maxRecDepth 100000 in
set_option maxHeartbeats 1000000 in
theorem act_10w (w : World) (B : Nat) (tag : Tags) (st : St) (f : ByteArray) (S D N : Nat) (k : Int) (ca : Bool) (c : Cm) (p : Value) (h : Dv w B tag st f S D N k ca) (hkd : c.kd = 10)
    (H : ∀ W, Below w.heap.size w W → Calls Try.prog 44 #[.pointer (some ⟨D, 0, none⟩), .agg c.vals, p] W fun e w' => ∃ s st2, e = .returned (.agg (Sn.vals s)) ∧ Aft W w' B tag st2 ∧ (s.key = 5 → st2 = st)) :
    Calls Try.prog 29 #[.pointer (some ⟨D, 0, none⟩), .agg c.vals, p] w fun e w' => ∃ s st2, e = .returned (.agg (Sn.vals s)) ∧ Aft w w' B tag st2 ∧ (s.key = 5 → st2 = st) := by
  have hcm0 : ∀ (W : World) (b : Nat), Bx W b c.vals → W.cell? ⟨b, 0, none⟩ = some (.int .u8 c.kd) := fun W b h => (cm_at h).1
  have hcm5 : ∀ (W : World) (b : Nat), Bx W b c.vals → W.cell? ⟨b, 5, none⟩ = some (.bool c.fua) := fun W b h => (cm_at h).2.2.2.2.2.1
  rw [hkd] at hcm0
  have hCs : c.vals.size = 15 := rfl
  obtain ⟨CV, hCV⟩ : ∃ CV, CV = c.vals := ⟨_, rfl⟩
  rw [← hCV] at hCs hcm0 hcm5 H ⊢
  replace hcm0 := Kpt.mk hcm0
  replace hcm5 := Kpt.mk hcm5
  replace hCs := Kpt.mk hCs
  clear hCV
  have hSl := h.sto.lt
  have hDl := h.bx.lt
  have F := Kpt.mk h.fx
  have hb := Kpt.mk (Below.refl w.heap.size w)
  replace H := Kpt.mk H
  replace h := Kpt.mk h
  clear hkd
  go_enter Try.func29, Try.ntmps29
  go_wp2_with (first
      | (have hm := m3; refine wpList_store_bx rfl 32 _ _ rfl br _ (s).vals rfl rfl Or.out.bx rfl infoS (Sn.vals_one _) rfl ?_; intro w4 hX_ hg_; replace Oc := Kpt.mk (Oc.out.other hg_ (by omega)); replace F := Kpt.mk (F.out.own Or.out hg_ hSl hDl); replace Or := Kpt.mk (Or.out.set hX_); replace x0 := hcm0.out _ _ Oc.out.bx; replace x5 := hcm5.out _ _ Oc.out.bx; clear hX_ hg_; clear hm m3; have m4 : Kpt True := ⟨trivial⟩)
      | (go_at_call 44; have hm := m2; refine (H.out _ hb.out).mono ?_; rintro e w5 ⟨s, st2, rfl, ⟨tag5, hW_, s_⟩, hk5⟩; replace hk5 := Kpt.mk hk5; replace Oc := Kpt.mk (Oc.out.call s_); replace Or := Kpt.mk (Or.out.call s_); replace F := Kpt.mk (F.out.call hW_ s_); replace x0 := hcm0.out _ _ Oc.out.bx; replace x5 := hcm5.out _ _ Oc.out.bx; clear hW_ s_; clear hm m2; have m3 : Kpt True := ⟨trivial⟩)
      | (have hm := m1; refine wpList_var rfl 32 rfl zeroS zeroSi ?_; intro br w_r hl_ hX_ h_; have q_c_r : bc < br := Nat.lt_of_lt_of_le Oc.out.bx.lt hl_; have Or := Kpt.mk (F.out.new hl_ hX_); replace Oc := Kpt.mk (Oc.out.below h_); replace F := Kpt.mk (F.out.below h_); replace x0 := hcm0.out _ _ Oc.out.bx; replace x5 := hcm5.out _ _ Oc.out.bx; replace hb := Kpt.mk (hb.out.trans (h_.mono hb.out.size)); clear hl_ hX_ h_; clear hm m1; have m2 : Kpt True := ⟨trivial⟩)
      | (refine wpList_box rfl 38 _ rfl CV rfl ?_; intro bc w_c hl_ hX_ h_ _; have Oc := Kpt.mk (F.out.new hl_ hX_); replace F := Kpt.mk (F.out.below h_); replace hb := Kpt.mk (hb.out.trans (h_.mono hb.out.size)); have x0 := hcm0.out _ _ Oc.out.bx; have x5 := hcm5.out _ _ Oc.out.bx; clear hl_ hX_ h_; have m1 : Kpt True := ⟨trivial⟩)
      | (refine wpList_load_bx rfl 38 _ rfl bc CV rfl Oc.out.bx _ Try.underlying38 rfl (by rw [hCs.out]; exact infoC) ?_)
      | fail)
  refine bodyPost_ret (v := .agg (s).vals) (by simp [results, Try.results29, asAddr, Act.put, res_run Or.out.bx]) rfl ⟨s, st2, rfl, ⟨_, F.out.dv.wd, F.out.st⟩, hk5.out⟩

set_option maxRecDepth 100000 in
set_option maxHeartbeats 1000000 in
theorem act_11w (w : World) (B : Nat) (tag : Tags) (st : St) (f : ByteArray) (S D N : Nat) (k : Int) (ca : Bool) (c : Cm) (p : Value) (h : Dv w B tag st f S D N k ca) (hkd : c.kd = 11)
    (H : ∀ W, Below w.heap.size w W → Calls Try.prog 45 #[.pointer (some ⟨D, 0, none⟩)] W fun e w' => ∃ s st2, e = .returned (.agg (Sn.vals s)) ∧ Aft W w' B tag st2 ∧ (s.key = 5 → st2 = st)) :
    Calls Try.prog 29 #[.pointer (some ⟨D, 0, none⟩), .agg c.vals, p] w fun e w' => ∃ s st2, e = .returned (.agg (Sn.vals s)) ∧ Aft w w' B tag st2 ∧ (s.key = 5 → st2 = st) := by
  have hcm0 : ∀ (W : World) (b : Nat), Bx W b c.vals → W.cell? ⟨b, 0, none⟩ = some (.int .u8 c.kd) := fun W b h => (cm_at h).1
  have hcm5 : ∀ (W : World) (b : Nat), Bx W b c.vals → W.cell? ⟨b, 5, none⟩ = some (.bool c.fua) := fun W b h => (cm_at h).2.2.2.2.2.1
  rw [hkd] at hcm0
  have hCs : c.vals.size = 15 := rfl
  obtain ⟨CV, hCV⟩ : ∃ CV, CV = c.vals := ⟨_, rfl⟩
  rw [← hCV] at hCs hcm0 hcm5  ⊢
  replace hcm0 := Kpt.mk hcm0
  replace hcm5 := Kpt.mk hcm5
  replace hCs := Kpt.mk hCs
  clear hCV
  have hSl := h.sto.lt
  have hDl := h.bx.lt
  have F := Kpt.mk h.fx
  have hb := Kpt.mk (Below.refl w.heap.size w)
  replace H := Kpt.mk H
  replace h := Kpt.mk h
  clear hkd
  go_enter Try.func29, Try.ntmps29
  go_wp2_with (first
      | (have hm := m3; refine wpList_store_bx rfl 32 _ _ rfl br _ (s).vals rfl rfl Or.out.bx rfl infoS (Sn.vals_one _) rfl ?_; intro w4 hX_ hg_; replace Oc := Kpt.mk (Oc.out.other hg_ (by omega)); replace F := Kpt.mk (F.out.own Or.out hg_ hSl hDl); replace Or := Kpt.mk (Or.out.set hX_); replace x0 := hcm0.out _ _ Oc.out.bx; replace x5 := hcm5.out _ _ Oc.out.bx; clear hX_ hg_; clear hm m3; have m4 : Kpt True := ⟨trivial⟩)
      | (go_at_call 45; have hm := m2; refine (H.out _ hb.out).mono ?_; rintro e w5 ⟨s, st2, rfl, ⟨tag5, hW_, s_⟩, hk5⟩; replace hk5 := Kpt.mk hk5; replace Oc := Kpt.mk (Oc.out.call s_); replace Or := Kpt.mk (Or.out.call s_); replace F := Kpt.mk (F.out.call hW_ s_); replace x0 := hcm0.out _ _ Oc.out.bx; replace x5 := hcm5.out _ _ Oc.out.bx; clear hW_ s_; clear hm m2; have m3 : Kpt True := ⟨trivial⟩)
      | (have hm := m1; refine wpList_var rfl 32 rfl zeroS zeroSi ?_; intro br w_r hl_ hX_ h_; have q_c_r : bc < br := Nat.lt_of_lt_of_le Oc.out.bx.lt hl_; have Or := Kpt.mk (F.out.new hl_ hX_); replace Oc := Kpt.mk (Oc.out.below h_); replace F := Kpt.mk (F.out.below h_); replace x0 := hcm0.out _ _ Oc.out.bx; replace x5 := hcm5.out _ _ Oc.out.bx; replace hb := Kpt.mk (hb.out.trans (h_.mono hb.out.size)); clear hl_ hX_ h_; clear hm m1; have m2 : Kpt True := ⟨trivial⟩)
      | (refine wpList_box rfl 38 _ rfl CV rfl ?_; intro bc w_c hl_ hX_ h_ _; have Oc := Kpt.mk (F.out.new hl_ hX_); replace F := Kpt.mk (F.out.below h_); replace hb := Kpt.mk (hb.out.trans (h_.mono hb.out.size)); have x0 := hcm0.out _ _ Oc.out.bx; have x5 := hcm5.out _ _ Oc.out.bx; clear hl_ hX_ h_; have m1 : Kpt True := ⟨trivial⟩)
      | (refine wpList_load_bx rfl 38 _ rfl bc CV rfl Oc.out.bx _ Try.underlying38 rfl (by rw [hCs.out]; exact infoC) ?_)
      | fail)
  refine bodyPost_ret (v := .agg (s).vals) (by simp [results, Try.results29, asAddr, Act.put, res_run Or.out.bx]) rfl ⟨s, st2, rfl, ⟨_, F.out.dv.wd, F.out.st⟩, hk5.out⟩

set_option maxRecDepth 100000 in
set_option maxHeartbeats 1000000 in
theorem act_12w (w : World) (B : Nat) (tag : Tags) (st : St) (f : ByteArray) (S D N : Nat) (k : Int) (ca : Bool) (c : Cm) (p : Value) (h : Dv w B tag st f S D N k ca) (hkd : c.kd = 12)
    (H : ∀ W, Below w.heap.size w W → Calls Try.prog 46 #[.pointer (some ⟨D, 0, none⟩), .agg c.vals, p] W fun e w' => ∃ s st2, e = .returned (.agg (Sn.vals s)) ∧ Aft W w' B tag st2 ∧ (s.key = 5 → st2 = st)) :
    Calls Try.prog 29 #[.pointer (some ⟨D, 0, none⟩), .agg c.vals, p] w fun e w' => ∃ s st2, e = .returned (.agg (Sn.vals s)) ∧ Aft w w' B tag st2 ∧ (s.key = 5 → st2 = st) := by
  have hcm0 : ∀ (W : World) (b : Nat), Bx W b c.vals → W.cell? ⟨b, 0, none⟩ = some (.int .u8 c.kd) := fun W b h => (cm_at h).1
  have hcm5 : ∀ (W : World) (b : Nat), Bx W b c.vals → W.cell? ⟨b, 5, none⟩ = some (.bool c.fua) := fun W b h => (cm_at h).2.2.2.2.2.1
  rw [hkd] at hcm0
  have hCs : c.vals.size = 15 := rfl
  obtain ⟨CV, hCV⟩ : ∃ CV, CV = c.vals := ⟨_, rfl⟩
  rw [← hCV] at hCs hcm0 hcm5 H ⊢
  replace hcm0 := Kpt.mk hcm0
  replace hcm5 := Kpt.mk hcm5
  replace hCs := Kpt.mk hCs
  clear hCV
  have hSl := h.sto.lt
  have hDl := h.bx.lt
  have F := Kpt.mk h.fx
  have hb := Kpt.mk (Below.refl w.heap.size w)
  replace H := Kpt.mk H
  replace h := Kpt.mk h
  clear hkd
  go_enter Try.func29, Try.ntmps29
  go_wp2_with (first
      | (have hm := m3; refine wpList_store_bx rfl 32 _ _ rfl br _ (s).vals rfl rfl Or.out.bx rfl infoS (Sn.vals_one _) rfl ?_; intro w4 hX_ hg_; replace Oc := Kpt.mk (Oc.out.other hg_ (by omega)); replace F := Kpt.mk (F.out.own Or.out hg_ hSl hDl); replace Or := Kpt.mk (Or.out.set hX_); replace x0 := hcm0.out _ _ Oc.out.bx; replace x5 := hcm5.out _ _ Oc.out.bx; clear hX_ hg_; clear hm m3; have m4 : Kpt True := ⟨trivial⟩)
      | (go_at_call 46; have hm := m2; refine (H.out _ hb.out).mono ?_; rintro e w5 ⟨s, st2, rfl, ⟨tag5, hW_, s_⟩, hk5⟩; replace hk5 := Kpt.mk hk5; replace Oc := Kpt.mk (Oc.out.call s_); replace Or := Kpt.mk (Or.out.call s_); replace F := Kpt.mk (F.out.call hW_ s_); replace x0 := hcm0.out _ _ Oc.out.bx; replace x5 := hcm5.out _ _ Oc.out.bx; clear hW_ s_; clear hm m2; have m3 : Kpt True := ⟨trivial⟩)
      | (have hm := m1; refine wpList_var rfl 32 rfl zeroS zeroSi ?_; intro br w_r hl_ hX_ h_; have q_c_r : bc < br := Nat.lt_of_lt_of_le Oc.out.bx.lt hl_; have Or := Kpt.mk (F.out.new hl_ hX_); replace Oc := Kpt.mk (Oc.out.below h_); replace F := Kpt.mk (F.out.below h_); replace x0 := hcm0.out _ _ Oc.out.bx; replace x5 := hcm5.out _ _ Oc.out.bx; replace hb := Kpt.mk (hb.out.trans (h_.mono hb.out.size)); clear hl_ hX_ h_; clear hm m1; have m2 : Kpt True := ⟨trivial⟩)
      | (refine wpList_box rfl 38 _ rfl CV rfl ?_; intro bc w_c hl_ hX_ h_ _; have Oc := Kpt.mk (F.out.new hl_ hX_); replace F := Kpt.mk (F.out.below h_); replace hb := Kpt.mk (hb.out.trans (h_.mono hb.out.size)); have x0 := hcm0.out _ _ Oc.out.bx; have x5 := hcm5.out _ _ Oc.out.bx; clear hl_ hX_ h_; have m1 : Kpt True := ⟨trivial⟩)
      | (refine wpList_load_bx rfl 38 _ rfl bc CV rfl Oc.out.bx _ Try.underlying38 rfl (by rw [hCs.out]; exact infoC) ?_)
      | fail)
  refine bodyPost_ret (v := .agg (s).vals) (by simp [results, Try.results29, asAddr, Act.put, res_run Or.out.bx]) rfl ⟨s, st2, rfl, ⟨_, F.out.dv.wd, F.out.st⟩, hk5.out⟩

set_option maxRecDepth 100000 in
set_option maxHeartbeats 1000000 in
theorem act_13w (w : World) (B : Nat) (tag : Tags) (st : St) (f : ByteArray) (S D N : Nat) (k : Int) (ca : Bool) (c : Cm) (p : Value) (h : Dv w B tag st f S D N k ca) (hkd : c.kd = 13)
    (H : ∀ W, Below w.heap.size w W → Calls Try.prog 47 #[.pointer (some ⟨D, 0, none⟩), p] W fun e w' => ∃ s st2, e = .returned (.agg (Sn.vals s)) ∧ Aft W w' B tag st2 ∧ (s.key = 5 → st2 = st)) :
    Calls Try.prog 29 #[.pointer (some ⟨D, 0, none⟩), .agg c.vals, p] w fun e w' => ∃ s st2, e = .returned (.agg (Sn.vals s)) ∧ Aft w w' B tag st2 ∧ (s.key = 5 → st2 = st) := by
  have hcm0 : ∀ (W : World) (b : Nat), Bx W b c.vals → W.cell? ⟨b, 0, none⟩ = some (.int .u8 c.kd) := fun W b h => (cm_at h).1
  have hcm5 : ∀ (W : World) (b : Nat), Bx W b c.vals → W.cell? ⟨b, 5, none⟩ = some (.bool c.fua) := fun W b h => (cm_at h).2.2.2.2.2.1
  rw [hkd] at hcm0
  have hCs : c.vals.size = 15 := rfl
  obtain ⟨CV, hCV⟩ : ∃ CV, CV = c.vals := ⟨_, rfl⟩
  rw [← hCV] at hCs hcm0 hcm5  ⊢
  replace hcm0 := Kpt.mk hcm0
  replace hcm5 := Kpt.mk hcm5
  replace hCs := Kpt.mk hCs
  clear hCV
  have hSl := h.sto.lt
  have hDl := h.bx.lt
  have F := Kpt.mk h.fx
  have hb := Kpt.mk (Below.refl w.heap.size w)
  replace H := Kpt.mk H
  replace h := Kpt.mk h
  clear hkd
  go_enter Try.func29, Try.ntmps29
  go_wp2_with (first
      | (have hm := m3; refine wpList_store_bx rfl 32 _ _ rfl br _ (s).vals rfl rfl Or.out.bx rfl infoS (Sn.vals_one _) rfl ?_; intro w4 hX_ hg_; replace Oc := Kpt.mk (Oc.out.other hg_ (by omega)); replace F := Kpt.mk (F.out.own Or.out hg_ hSl hDl); replace Or := Kpt.mk (Or.out.set hX_); replace x0 := hcm0.out _ _ Oc.out.bx; replace x5 := hcm5.out _ _ Oc.out.bx; clear hX_ hg_; clear hm m3; have m4 : Kpt True := ⟨trivial⟩)
      | (go_at_call 47; have hm := m2; refine (H.out _ hb.out).mono ?_; rintro e w5 ⟨s, st2, rfl, ⟨tag5, hW_, s_⟩, hk5⟩; replace hk5 := Kpt.mk hk5; replace Oc := Kpt.mk (Oc.out.call s_); replace Or := Kpt.mk (Or.out.call s_); replace F := Kpt.mk (F.out.call hW_ s_); replace x0 := hcm0.out _ _ Oc.out.bx; replace x5 := hcm5.out _ _ Oc.out.bx; clear hW_ s_; clear hm m2; have m3 : Kpt True := ⟨trivial⟩)
      | (have hm := m1; refine wpList_var rfl 32 rfl zeroS zeroSi ?_; intro br w_r hl_ hX_ h_; have q_c_r : bc < br := Nat.lt_of_lt_of_le Oc.out.bx.lt hl_; have Or := Kpt.mk (F.out.new hl_ hX_); replace Oc := Kpt.mk (Oc.out.below h_); replace F := Kpt.mk (F.out.below h_); replace x0 := hcm0.out _ _ Oc.out.bx; replace x5 := hcm5.out _ _ Oc.out.bx; replace hb := Kpt.mk (hb.out.trans (h_.mono hb.out.size)); clear hl_ hX_ h_; clear hm m1; have m2 : Kpt True := ⟨trivial⟩)
      | (refine wpList_box rfl 38 _ rfl CV rfl ?_; intro bc w_c hl_ hX_ h_ _; have Oc := Kpt.mk (F.out.new hl_ hX_); replace F := Kpt.mk (F.out.below h_); replace hb := Kpt.mk (hb.out.trans (h_.mono hb.out.size)); have x0 := hcm0.out _ _ Oc.out.bx; have x5 := hcm5.out _ _ Oc.out.bx; clear hl_ hX_ h_; have m1 : Kpt True := ⟨trivial⟩)
      | (refine wpList_load_bx rfl 38 _ rfl bc CV rfl Oc.out.bx _ Try.underlying38 rfl (by rw [hCs.out]; exact infoC) ?_)
      | fail)
  refine bodyPost_ret (v := .agg (s).vals) (by simp [results, Try.results29, asAddr, Act.put, res_run Or.out.bx]) rfl ⟨s, st2, rfl, ⟨_, F.out.dv.wd, F.out.st⟩, hk5.out⟩

set_option maxRecDepth 100000 in
set_option maxHeartbeats 1000000 in
theorem act_14w (w : World) (B : Nat) (tag : Tags) (st : St) (f : ByteArray) (S D N : Nat) (k : Int) (ca : Bool) (c : Cm) (p : Value) (h : Dv w B tag st f S D N k ca) (hkd : c.kd = 14)
    (H : ∀ W, Below w.heap.size w W → Calls Try.prog 48 #[.pointer (some ⟨D, 0, none⟩), .agg c.vals, p] W fun e w' => ∃ s st2, e = .returned (.agg (Sn.vals s)) ∧ Aft W w' B tag st2 ∧ (s.key = 5 → st2 = st)) :
    Calls Try.prog 29 #[.pointer (some ⟨D, 0, none⟩), .agg c.vals, p] w fun e w' => ∃ s st2, e = .returned (.agg (Sn.vals s)) ∧ Aft w w' B tag st2 ∧ (s.key = 5 → st2 = st) := by
  have hcm0 : ∀ (W : World) (b : Nat), Bx W b c.vals → W.cell? ⟨b, 0, none⟩ = some (.int .u8 c.kd) := fun W b h => (cm_at h).1
  have hcm5 : ∀ (W : World) (b : Nat), Bx W b c.vals → W.cell? ⟨b, 5, none⟩ = some (.bool c.fua) := fun W b h => (cm_at h).2.2.2.2.2.1
  rw [hkd] at hcm0
  have hCs : c.vals.size = 15 := rfl
  obtain ⟨CV, hCV⟩ : ∃ CV, CV = c.vals := ⟨_, rfl⟩
  rw [← hCV] at hCs hcm0 hcm5 H ⊢
  replace hcm0 := Kpt.mk hcm0
  replace hcm5 := Kpt.mk hcm5
  replace hCs := Kpt.mk hCs
  clear hCV
  have hSl := h.sto.lt
  have hDl := h.bx.lt
  have F := Kpt.mk h.fx
  have hb := Kpt.mk (Below.refl w.heap.size w)
  replace H := Kpt.mk H
  replace h := Kpt.mk h
  clear hkd
  go_enter Try.func29, Try.ntmps29
  go_wp2_with (first
      | (have hm := m3; refine wpList_store_bx rfl 32 _ _ rfl br _ (s).vals rfl rfl Or.out.bx rfl infoS (Sn.vals_one _) rfl ?_; intro w4 hX_ hg_; replace Oc := Kpt.mk (Oc.out.other hg_ (by omega)); replace F := Kpt.mk (F.out.own Or.out hg_ hSl hDl); replace Or := Kpt.mk (Or.out.set hX_); replace x0 := hcm0.out _ _ Oc.out.bx; replace x5 := hcm5.out _ _ Oc.out.bx; clear hX_ hg_; clear hm m3; have m4 : Kpt True := ⟨trivial⟩)
      | (go_at_call 48; have hm := m2; refine (H.out _ hb.out).mono ?_; rintro e w5 ⟨s, st2, rfl, ⟨tag5, hW_, s_⟩, hk5⟩; replace hk5 := Kpt.mk hk5; replace Oc := Kpt.mk (Oc.out.call s_); replace Or := Kpt.mk (Or.out.call s_); replace F := Kpt.mk (F.out.call hW_ s_); replace x0 := hcm0.out _ _ Oc.out.bx; replace x5 := hcm5.out _ _ Oc.out.bx; clear hW_ s_; clear hm m2; have m3 : Kpt True := ⟨trivial⟩)
      | (have hm := m1; refine wpList_var rfl 32 rfl zeroS zeroSi ?_; intro br w_r hl_ hX_ h_; have q_c_r : bc < br := Nat.lt_of_lt_of_le Oc.out.bx.lt hl_; have Or := Kpt.mk (F.out.new hl_ hX_); replace Oc := Kpt.mk (Oc.out.below h_); replace F := Kpt.mk (F.out.below h_); replace x0 := hcm0.out _ _ Oc.out.bx; replace x5 := hcm5.out _ _ Oc.out.bx; replace hb := Kpt.mk (hb.out.trans (h_.mono hb.out.size)); clear hl_ hX_ h_; clear hm m1; have m2 : Kpt True := ⟨trivial⟩)
      | (refine wpList_box rfl 38 _ rfl CV rfl ?_; intro bc w_c hl_ hX_ h_ _; have Oc := Kpt.mk (F.out.new hl_ hX_); replace F := Kpt.mk (F.out.below h_); replace hb := Kpt.mk (hb.out.trans (h_.mono hb.out.size)); have x0 := hcm0.out _ _ Oc.out.bx; have x5 := hcm5.out _ _ Oc.out.bx; clear hl_ hX_ h_; have m1 : Kpt True := ⟨trivial⟩)
      | (refine wpList_load_bx rfl 38 _ rfl bc CV rfl Oc.out.bx _ Try.underlying38 rfl (by rw [hCs.out]; exact infoC) ?_)
      | fail)
  refine bodyPost_ret (v := .agg (s).vals) (by simp [results, Try.results29, asAddr, Act.put, res_run Or.out.bx]) rfl ⟨s, st2, rfl, ⟨_, F.out.dv.wd, F.out.st⟩, hk5.out⟩

set_option maxRecDepth 100000 in
set_option maxHeartbeats 1000000 in
theorem answer_w (w : World) (B : Nat) (tag : Tags) (st : St) (f : ByteArray) (S D N : Nat) (k : Int) (ca : Bool) (c : Cm) (p : Value) (h : Dv w B tag st f S D N k ca) (n7 : ¬ c.kd = 7) (n6 : ¬ c.kd = 6)
    (HR : ∀ W, Below w.heap.size w W → Calls Try.prog 24 #[.pointer (some ⟨D, 0, none⟩), .agg c.vals] W fun e w' => e = .returned (.agg noS.vals) ∧ Below W.heap.size W w')
    (H : ∀ W, Below w.heap.size w W → Calls Try.prog 29 #[.pointer (some ⟨D, 0, none⟩), .agg c.vals, p] W fun e w' => ∃ s st2, e = .returned (.agg (Sn.vals s)) ∧ Aft W w' B tag st2 ∧ (s.key = 5 → st2 = st)) :
    Calls Try.prog 21 #[.pointer (some ⟨D, 0, none⟩), .agg c.vals, p] w fun e w' => ∃ s st2, e = .returned (.tuple #[.slice none 0 0, .agg (Sn.vals s)]) ∧ Aft w w' B tag st2 ∧ (s.key = 5 → st2 = st) := by
  have hcm0 : ∀ (W : World) (b : Nat), Bx W b c.vals → W.cell? ⟨b, 0, none⟩ = some (.int .u8 c.kd) := fun W b h => (cm_at h).1
  obtain ⟨kd, hkd⟩ : ∃ kd, kd = c.kd := ⟨_, rfl⟩
  rw [← hkd] at hcm0 n7 n6
  have HE := fun W => ended_any noS W
  simp only [show (noS.key != 0) = false from rfl] at HE
  have hCs : c.vals.size = 15 := rfl
  obtain ⟨CV, hCV⟩ : ∃ CV, CV = c.vals := ⟨_, rfl⟩
  rw [← hCV] at hCs hcm0 HR H ⊢
  replace hcm0 := Kpt.mk hcm0
  replace hCs := Kpt.mk hCs
  clear hCV
  have hSl := h.sto.lt
  have hDl := h.bx.lt
  have F := Kpt.mk h.fx
  have hb := Kpt.mk (Below.refl w.heap.size w)
  replace H := Kpt.mk H
  replace HR := Kpt.mk HR
  replace HE := Kpt.mk HE
  replace h := Kpt.mk h
  clear hkd
  go_enter Try.func21, Try.ntmps21
  go_wp2_with (first
      | (have hm := m7; refine wpList_store_bx rfl 32 _ _ rfl br _ (s).vals rfl rfl Or.out.bx rfl infoS (Sn.vals_one _) rfl ?_; intro w8 hX_ hg_; replace Oc := Kpt.mk (Oc.out.other hg_ (by omega)); replace Ov := Kpt.mk (Ov.out.other hg_ (by omega)); replace F := Kpt.mk (F.out.own Or.out hg_ hSl hDl); replace Or := Kpt.mk (Or.out.set hX_); replace x0 := hcm0.out _ _ Oc.out.bx; clear hX_ hg_; clear hm m7; have m8 : Kpt True := ⟨trivial⟩)
      | (go_at_call 29; have hm := m6; refine (H.out _ hb.out).mono ?_; rintro e w5 ⟨s, st2, rfl, ⟨tag5, hW_, s_⟩, hk5⟩; replace hk5 := Kpt.mk hk5; replace Oc := Kpt.mk (Oc.out.call s_); replace Or := Kpt.mk (Or.out.call s_); replace Ov := Kpt.mk (Ov.out.call s_); replace F := Kpt.mk (F.out.call hW_ s_); replace x0 := hcm0.out _ _ Oc.out.bx; clear hW_ s_; clear hm m6; have m7 : Kpt True := ⟨trivial⟩)
      | (go_at_call 22; have hm := m5; refine (HE.out _).mono ?_; rintro e w4 ⟨rfl, h_⟩; replace Oc := Kpt.mk (Oc.out.below h_); replace Or := Kpt.mk (Or.out.below h_); replace Ov := Kpt.mk (Ov.out.below h_); replace F := Kpt.mk (F.out.below h_); replace x0 := hcm0.out _ _ Oc.out.bx; replace hb := Kpt.mk (hb.out.trans (h_.mono hb.out.size)); clear h_; clear hm m5; have m6 : Kpt True := ⟨trivial⟩)
      | (have hm := m4; refine wpList_store_bx rfl 32 _ _ rfl bv _ (noS).vals rfl rfl Ov.out.bx rfl infoS (Sn.vals_one _) rfl ?_; intro w5 hX_ hg_; replace hb := Kpt.mk (hb.out.trans (Below.ofGrown hg_ hb.out.size Ov.out.lo)); replace Oc := Kpt.mk (Oc.out.other hg_ (by omega)); replace Or := Kpt.mk (Or.out.other hg_ (by omega)); replace F := Kpt.mk (F.out.own Ov.out hg_ hSl hDl); replace Ov := Kpt.mk (Ov.out.set hX_); replace x0 := hcm0.out _ _ Oc.out.bx; clear hX_ hg_; clear hm m4; have m5 : Kpt True := ⟨trivial⟩)
      | (have hm := m3; refine wpList_var rfl 32 rfl zeroS zeroSi ?_; intro bv w_v hl_ hX_ h_; have q_c_v : bc < bv := Nat.lt_of_lt_of_le Oc.out.bx.lt hl_; have q_r_v : br < bv := Nat.lt_of_lt_of_le Or.out.bx.lt hl_; have Ov := Kpt.mk (F.out.new hl_ hX_); replace Oc := Kpt.mk (Oc.out.below h_); replace Or := Kpt.mk (Or.out.below h_); replace F := Kpt.mk (F.out.below h_); replace x0 := hcm0.out _ _ Oc.out.bx; replace hb := Kpt.mk (hb.out.trans (h_.mono hb.out.size)); clear hl_ hX_ h_; clear hm m3; have m4 : Kpt True := ⟨trivial⟩)
      | (go_at_call 24; have hm := m2; refine (HR.out _ hb.out).mono ?_; rintro e w3 ⟨rfl, h_⟩; replace Oc := Kpt.mk (Oc.out.below h_); replace Or := Kpt.mk (Or.out.below h_); replace F := Kpt.mk (F.out.below h_); replace x0 := hcm0.out _ _ Oc.out.bx; replace hb := Kpt.mk (hb.out.trans (h_.mono hb.out.size)); clear h_; clear hm m2; have m3 : Kpt True := ⟨trivial⟩)
      | (have hm := m1; refine wpList_var rfl 32 rfl zeroS zeroSi ?_; intro br w_r hl_ hX_ h_; have q_c_r : bc < br := Nat.lt_of_lt_of_le Oc.out.bx.lt hl_; have Or := Kpt.mk (F.out.new hl_ hX_); replace Oc := Kpt.mk (Oc.out.below h_); replace F := Kpt.mk (F.out.below h_); replace x0 := hcm0.out _ _ Oc.out.bx; replace hb := Kpt.mk (hb.out.trans (h_.mono hb.out.size)); clear hl_ hX_ h_; clear hm m1; have m2 : Kpt True := ⟨trivial⟩)
      | (refine wpList_box rfl 38 _ rfl CV rfl ?_; intro bc w_c hl_ hX_ h_ _; have Oc := Kpt.mk (F.out.new hl_ hX_); replace F := Kpt.mk (F.out.below h_); replace hb := Kpt.mk (hb.out.trans (h_.mono hb.out.size)); have x0 := hcm0.out _ _ Oc.out.bx; clear hl_ hX_ h_; have m1 : Kpt True := ⟨trivial⟩)
      | (refine wpList_load_bx rfl 38 _ rfl bc CV rfl Oc.out.bx _ Try.underlying38 rfl (by rw [hCs.out]; exact infoC) ?_)
      | (refine wpList_load_bx rfl 32 _ rfl bv (noS).vals rfl Ov.out.bx _ Try.underlying32 rfl infoS ?_)
      | fail)
  refine bodyPost_ret (v := .tuple #[.slice none 0 0, .agg (s).vals]) (by simp [results, Try.results21, asAddr, Act.put, res_run Or.out.bx]) rfl ⟨s, st2, rfl, ⟨_, F.out.dv.wd, F.out.st⟩, hk5.out⟩

set_option maxRecDepth 100000 in
set_option maxHeartbeats 1000000 in
theorem do_w (w : World) (B : Nat) (tag : Tags) (st : St) (f : ByteArray) (S D N : Nat) (k : Int) (ca : Bool) (c : Cm) (p : Value) (h : Dv w B tag st f S D N k ca)
    (H : ∀ W, Below w.heap.size w W → Calls Try.prog 21 #[.pointer (some ⟨D, 0, none⟩), .agg c.vals, p] W fun e w' => ∃ s st2, e = .returned (.tuple #[.slice none 0 0, .agg (Sn.vals s)]) ∧ Aft W w' B tag st2 ∧ (s.key = 5 → st2 = st)) :
    Calls Try.prog 11 #[.pointer (some ⟨D, 0, none⟩), .agg c.vals, p] w fun e w' => ∃ q s va vn vc st2, e = .returned (.agg (resV q s (.slice va vn vc))) ∧ Aft w w' B tag st2 ∧ (s.key = 5 → st2 = st) ∧ ((q = 0 ∧ s = noS) ∨ (q = 2 ∧ va = none ∧ vn = 0 ∧ vc = 0)) := by
  have HE := fun W s => ended_any s W
  have hCs : c.vals.size = 15 := rfl
  obtain ⟨CV, hCV⟩ : ∃ CV, CV = c.vals := ⟨_, rfl⟩
  rw [← hCV] at hCs  H ⊢
  replace hCs := Kpt.mk hCs
  clear hCV
  have hSl := h.sto.lt
  have hDl := h.bx.lt
  have F := Kpt.mk h.fx
  have hb := Kpt.mk (Below.refl w.heap.size w)
  replace H := Kpt.mk H
  replace HE := Kpt.mk HE
  replace h := Kpt.mk h
  go_enter Try.func11, Try.ntmps11
  go_upto_region 2 with (first
      | (have hm := m4; refine wpList_store_bx rfl 32 _ _ rfl bv _ (s).vals rfl rfl Ov.out.bx rfl infoS (Sn.vals_one _) rfl ?_; intro w5 hX_ hg_; replace Oc := Kpt.mk (Oc.out.other hg_ (by omega)); replace Or := Kpt.mk (Or.out.other hg_ (by omega)); replace F := Kpt.mk (F.out.own Ov.out hg_ hSl hDl); replace Ov := Kpt.mk (Ov.out.set hX_); clear hX_ hg_; clear hm m4; have m5 : Kpt True := ⟨trivial⟩)
      | (have hm := m3; refine wpList_var rfl 32 rfl zeroS zeroSi ?_; intro bv w_v hl_ hX_ h_; have q_c_v : bc < bv := Nat.lt_of_lt_of_le Oc.out.bx.lt hl_; have q_r_v : br < bv := Nat.lt_of_lt_of_le Or.out.bx.lt hl_; have Ov := Kpt.mk (F.out.new hl_ hX_); replace Oc := Kpt.mk (Oc.out.below h_); replace Or := Kpt.mk (Or.out.below h_); replace F := Kpt.mk (F.out.below h_); clear hl_ hX_ h_; clear hm m3; have m4 : Kpt True := ⟨trivial⟩)
      | (go_at_call 21; have hm := m2; refine (H.out _ hb.out).mono ?_; rintro e w5 ⟨s, st2, rfl, ⟨tag5, hW_, s_⟩, hk5⟩; replace hk5 := Kpt.mk hk5; replace Oc := Kpt.mk (Oc.out.call s_); replace Or := Kpt.mk (Or.out.call s_); replace F := Kpt.mk (F.out.call hW_ s_); clear hW_ s_; clear hm m2; have m3 : Kpt True := ⟨trivial⟩)
      | (have hm := m1; refine wpList_var rfl 34 rfl zeroR zeroRi ?_; intro br w_r hl_ hX_ h_; have q_c_r : bc < br := Nat.lt_of_lt_of_le Oc.out.bx.lt hl_; have Or := Kpt.mk (F.out.new hl_ hX_); replace Oc := Kpt.mk (Oc.out.below h_); replace F := Kpt.mk (F.out.below h_); replace hb := Kpt.mk (hb.out.trans (h_.mono hb.out.size)); clear hl_ hX_ h_; clear hm m1; have m2 : Kpt True := ⟨trivial⟩)
      | (refine wpList_box rfl 38 _ rfl CV rfl ?_; intro bc w_c hl_ hX_ h_ _; have Oc := Kpt.mk (F.out.new hl_ hX_); replace F := Kpt.mk (F.out.below h_); replace hb := Kpt.mk (hb.out.trans (h_.mono hb.out.size)); clear hl_ hX_ h_; have m1 : Kpt True := ⟨trivial⟩)
      | (refine wpList_load_bx rfl 38 _ rfl bc CV rfl Oc.out.bx _ Try.underlying38 rfl (by rw [hCs.out]; exact infoC) ?_)
      | (refine wpList_load_bx rfl 32 _ rfl bv (s).vals rfl Ov.out.bx _ Try.underlying32 rfl infoS ?_)
      | fail)
  have hsv : Kpt (s.vals = #[.int .u8 s.key, .int .u16 s.code, .int .u64 s.info, .bool s.hi, .int .i64 s.field, .int .i64 s.bit, .bool s.hf, .bool s.ic]) := ⟨rfl⟩
  by_cases hs : s.key = 0
  · have HEs := Kpt.mk (fun W => HE.out W s)
    rw [show (s.key != 0) = false from by rw [hs]; rfl] at HEs
    have hsK := Kpt.mk hs
    clear hs HE
    go_wp2_with (first
      | (have hm := m6; refine wpList_store_bx rfl 34 _ _ rfl br _ (resV 0 noS (.slice none 0 0)) rfl rfl Or.out.bx rfl infoR (resV_one _ _ _ _ _) rfl ?_; intro w9 hX_ hg_; replace Oc := Kpt.mk (Oc.out.other hg_ (by omega)); replace Ov := Kpt.mk (Ov.out.other hg_ (by omega)); replace F := Kpt.mk (F.out.own Or.out hg_ hSl hDl); replace Or := Kpt.mk (Or.out.set hX_); clear hX_ hg_; clear hm m6; have m7 : Kpt True := ⟨trivial⟩)
      | (go_at_call 22; have hm := m5; refine (HEs.out _).mono ?_; rintro e w6 ⟨rfl, h_⟩; replace Oc := Kpt.mk (Oc.out.below h_); replace Or := Kpt.mk (Or.out.below h_); replace Ov := Kpt.mk (Ov.out.below h_); replace F := Kpt.mk (F.out.below h_); clear h_; clear hm m5; have m6 : Kpt True := ⟨trivial⟩)
      | (refine wpList_load_bx rfl 38 _ rfl bc CV rfl Oc.out.bx _ Try.underlying38 rfl (by rw [hCs.out]; exact infoC) ?_)
      | (refine wpList_load_bx rfl 32 _ rfl bv (s).vals rfl Ov.out.bx _ Try.underlying32 rfl infoS ?_)
      | fail)
    refine bodyPost_ret (v := .agg (resV 0 noS (.slice none 0 0))) (by simp [results, Try.results11, asAddr, Act.put, resR_run Or.out.bx]) rfl ⟨0, noS, none, 0, 0, st2, rfl, ⟨_, F.out.dv.wd, F.out.st⟩, fun e => absurd e (show ¬ (0 : Int) = 5 by decide), .inl ⟨rfl, rfl⟩⟩
  · have HEs := Kpt.mk (fun W => HE.out W s)
    rw [show (s.key != 0) = true from by simpa using hs] at HEs
    clear hs HE
    go_wp2_with (first
      | (have hm := m6; refine wpList_store_bx rfl 34 _ _ rfl br _ (resV 2 s (.slice none 0 0)) rfl rfl Or.out.bx rfl infoR (resV_one _ _ _ _ _) rfl ?_; intro w9 hX_ hg_; replace Oc := Kpt.mk (Oc.out.other hg_ (by omega)); replace Ov := Kpt.mk (Ov.out.other hg_ (by omega)); replace F := Kpt.mk (F.out.own Or.out hg_ hSl hDl); replace Or := Kpt.mk (Or.out.set hX_); clear hX_ hg_; clear hm m6; have m7 : Kpt True := ⟨trivial⟩)
      | (go_at_call 22; have hm := m5; refine (HEs.out _).mono ?_; rintro e w6 ⟨rfl, h_⟩; replace Oc := Kpt.mk (Oc.out.below h_); replace Or := Kpt.mk (Or.out.below h_); replace Ov := Kpt.mk (Ov.out.below h_); replace F := Kpt.mk (F.out.below h_); clear h_; clear hm m5; have m6 : Kpt True := ⟨trivial⟩)
      | (refine wpList_load_bx rfl 38 _ rfl bc CV rfl Oc.out.bx _ Try.underlying38 rfl (by rw [hCs.out]; exact infoC) ?_)
      | (refine wpList_load_bx rfl 32 _ rfl bv (s).vals rfl Ov.out.bx _ Try.underlying32 rfl infoS ?_; first | (have hm := m6; rw [hsv.out]) | skip)
      | fail)
    refine bodyPost_ret (v := .agg (resV 2 s (.slice none 0 0))) (by simp [results, Try.results11, asAddr, Act.put, resR_run Or.out.bx]) rfl ⟨2, s, none, 0, 0, st2, rfl, ⟨_, F.out.dv.wd, F.out.st⟩, hk5.out, .inr ⟨rfl, rfl, rfl, rfl⟩⟩
end Go.Proofs.Ytklboieemljmiaa
