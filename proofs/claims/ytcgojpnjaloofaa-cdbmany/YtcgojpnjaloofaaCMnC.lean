/-
  CdbMany: the walks.
-/
import Derived.Test.YtcgojpnjaloofaaCMany
namespace Go.Proofs.Ytcgojpnjaloofaa
open Go.RowKit
set_option linter.unusedVariables false
set_option linter.unusedSimpArgs false

set_option maxRecDepth 100000 in
set_option maxHeartbeats 4000000 in
theorem many_1_few (a0 a1 k : Int) (w : World) (h0 : 0 ≤ a0 ∧ a0 ≤ 4294967295) (h1 : 0 ≤ a1 ∧ a1 ≤ 255) (hp : a1 % 6 = 1) (hkk : a0 % 65536 = k) (hk : k ≤ 256) :
    Calls Try.prog 8 #[.int .u32 a0, .int .u8 a1] w fun e w' => e = .returned (.bool true) ∧ Below w.heap.size w w' := by
  have HA := fun w => Kpt.mk (awake_any w)
  have HF := fun w => Kpt.mk (fault_any 7 7 w)
  have hk0 : 0 ≤ k := by omega
  have HBig := fun W => Kpt.mk (big_any k 2 W (by omega) (by omega) (by decide) (by decide))
  have HP : Kpt (∀ W v zs, zs = zsB 42 k → RdAt W v zs → Calls Try.prog 10 #[v] W fun e w' => e = .returned (.tuple #[.agg (cmA 42 k).vals, .agg noS.vals, .bool true]) ∧ Below W.heap.size W w') := ⟨fun W v zs hz hr => by
    subst hz
    have := parse_any v (zsB 42 k) W hr (bytes_B _ _ (by decide)) (by simp [zsB, maxLen])
    rw [parse_B 42 k (by decide) (by omega) (by omega), manyRes, if_neg (by omega)] at this
    exact this⟩
  simp only [Cm.vals, Sn.vals, noC, noS, faultS, cmA] at HP HF
  try simp only [show kindL 42 = 8 from rfl] at HP
  go_enter Try.func8, Try.ntmps8
  go_wp2_with (first
    | (go_at_call 9; refine (HA _).out.mono ?_; rintro e w1 ⟨rfl, hb1⟩; replace hb1 := Kpt.mk hb1)
    | (go_at_call 16; refine (HBig _).out.mono ?_; rintro e w5 ⟨g2, rfl, hN⟩; have HB5 : Kpt (Below w.heap.size w w5) := ⟨((hb1.out.alloc hb1.out.size _).alloc (by have := hb1.out.size; simp; omega) _).trans (hN.2.mono (by have := hb1.out.size; simp; omega))⟩; have hsz : w1.heap.size + 1 < w5.heap.size := (by have := hN.2.size; simp at this; omega); have ho5 : Kpt (w5.ownsRow w1.heap.size 5 1 (.slice (some ⟨w1.heap.size + 1, 0, none⟩) 7 7) 7 (cels [42, 0, 0, 0, 0, 0, 0])) := ⟨own_of_block (own_alloc (w1.alloc _) (w1.heap.size + 1) 7 w1.heap.size [42, 0, 0, 0, 0, 0, 0] (by simp) rfl (by decide) (by omega)) (fun g hg => by simp [Value.ownBlock] at hg; subst hg; exact hN.2.block _ (by simp))⟩; have hr5 : Kpt (RdAt w5 (.slice (some ⟨g2, 0, none⟩) 2 2) (bigL k 2)) := ⟨own_rd (by have := hN.1; rw [bigL_len] at this; exact this)⟩; replace hsz := Kpt.mk hsz; clear hN)
    | (refine wpList_append_new rfl (.tmp 39) (.tmp 41) rfl w1.heap.size (.slice (some ⟨w1.heap.size + 1, 0, none⟩) 7 7) (.slice (some ⟨g2, 0, none⟩) 2 2) [42, 0, 0, 0, 0, 0, 0] (bigL k 2) 7 9 rfl rfl ho5.out hr5.out (by rw [bigL_len]; decide) rfl (by rw [bigL_len]) (by decide) (by have := hsz.out; omega) ?_; intro g3 c3 w6 ho6 hg6 hgr6; have HB6 : Kpt (Below w.heap.size w w6) := ⟨HB5.out.grown hgr6.out HB5.out.size (fun k h => by simp [Value.ownBlock] at h; have := hb1.out.size; omega)⟩; have hle6 : Kpt (w1.heap.size ≤ w6.heap.size) := ⟨by have := hg6.out; omega⟩; clear hgr6)
    | (refine wpList_append_new rfl (.tmp 43) (.tmp 44) rfl w1.heap.size (.slice (some ⟨g3, 0, none⟩) 9 c3) (.slice (some ⟨w6.heap.size, 0, none⟩) 1 1) ([42, 0, 0, 0, 0, 0, 0] ++ bigL k 2) [0] 9 10 rfl rfl (own_of_block ho6.out (fun g hg => by simp [Value.ownBlock] at hg; subst hg; exact Below.heap_alloc _ _ _ hg6.out.2)) (rd_alloc' _ _ [0] 1 rfl rfl) (by decide) (by simp [bigL_len]) rfl (by decide) (by have := hle6.out; simp; omega) ?_; intro g7 c7 w7 ho7 hg7 hgr7; have HB7 : Kpt (Below w.heap.size w w7) := ⟨(HB6.out.alloc HB6.out.size _).grown hgr7.out (by have := HB6.out.size; simp; omega) (fun k h => by simp [Value.ownBlock] at h; have := hg6.out; have := hb1.out.size; omega)⟩; clear hgr7)
    | (go_at_call 10; refine (HP.out w7 _ ([42, 0, 0, 0, 0, 0, 0] ++ bigL k 2 ++ [0]) (by rw [bigL_2]; rfl) (own_rd ho7.out)).mono ?_; rintro e w8 ⟨rfl, hb8⟩; have HB8 : Kpt (Below w.heap.size w w8) := ⟨HB7.out.trans (hb8.mono HB7.out.size)⟩; clear hb8))
  go_ret
  exact ⟨rfl, (HB8.out.alloc HB8.out.size _).alloc (by have := HB8.out.size; simp; omega) _⟩

set_option maxRecDepth 100000 in
set_option maxHeartbeats 4000000 in
theorem many_1_big (a0 a1 k : Int) (w : World) (h0 : 0 ≤ a0 ∧ a0 ≤ 4294967295) (h1 : 0 ≤ a1 ∧ a1 ≤ 255) (hp : a1 % 6 = 1) (hkk : a0 % 65536 = k) (hk : 256 < k) :
    Calls Try.prog 8 #[.int .u32 a0, .int .u8 a1] w fun e w' => e = .returned (.bool true) ∧ Below w.heap.size w w' := by
  have HA := fun w => Kpt.mk (awake_any w)
  have HF := fun w => Kpt.mk (fault_any 7 7 w)
  have hk0 : 0 ≤ k := by omega
  have HBig := fun W => Kpt.mk (big_any k 2 W (by omega) (by omega) (by decide) (by decide))
  have HP : Kpt (∀ W v zs, zs = zsB 42 k → RdAt W v zs → Calls Try.prog 10 #[v] W fun e w' => e = .returned (.tuple #[.agg noC.vals, .agg (faultS 7 7).vals, .bool false]) ∧ Below W.heap.size W w') := ⟨fun W v zs hz hr => by
    subst hz
    have := parse_any v (zsB 42 k) W hr (bytes_B _ _ (by decide)) (by simp [zsB, maxLen])
    rw [parse_B 42 k (by decide) (by omega) (by omega), manyRes, if_pos hk] at this
    exact this⟩
  simp only [Cm.vals, Sn.vals, noC, noS, faultS, cmA] at HP HF
  try simp only [show kindL 42 = 8 from rfl] at HP
  go_enter Try.func8, Try.ntmps8
  go_wp2_with (first
    | (go_at_call 9; refine (HA _).out.mono ?_; rintro e w1 ⟨rfl, hb1⟩; replace hb1 := Kpt.mk hb1)
    | (go_at_call 16; refine (HBig _).out.mono ?_; rintro e w5 ⟨g2, rfl, hN⟩; have HB5 : Kpt (Below w.heap.size w w5) := ⟨((hb1.out.alloc hb1.out.size _).alloc (by have := hb1.out.size; simp; omega) _).trans (hN.2.mono (by have := hb1.out.size; simp; omega))⟩; have hsz : w1.heap.size + 1 < w5.heap.size := (by have := hN.2.size; simp at this; omega); have ho5 : Kpt (w5.ownsRow w1.heap.size 5 1 (.slice (some ⟨w1.heap.size + 1, 0, none⟩) 7 7) 7 (cels [42, 0, 0, 0, 0, 0, 0])) := ⟨own_of_block (own_alloc (w1.alloc _) (w1.heap.size + 1) 7 w1.heap.size [42, 0, 0, 0, 0, 0, 0] (by simp) rfl (by decide) (by omega)) (fun g hg => by simp [Value.ownBlock] at hg; subst hg; exact hN.2.block _ (by simp))⟩; have hr5 : Kpt (RdAt w5 (.slice (some ⟨g2, 0, none⟩) 2 2) (bigL k 2)) := ⟨own_rd (by have := hN.1; rw [bigL_len] at this; exact this)⟩; replace hsz := Kpt.mk hsz; clear hN)
    | (refine wpList_append_new rfl (.tmp 39) (.tmp 41) rfl w1.heap.size (.slice (some ⟨w1.heap.size + 1, 0, none⟩) 7 7) (.slice (some ⟨g2, 0, none⟩) 2 2) [42, 0, 0, 0, 0, 0, 0] (bigL k 2) 7 9 rfl rfl ho5.out hr5.out (by rw [bigL_len]; decide) rfl (by rw [bigL_len]) (by decide) (by have := hsz.out; omega) ?_; intro g3 c3 w6 ho6 hg6 hgr6; have HB6 : Kpt (Below w.heap.size w w6) := ⟨HB5.out.grown hgr6.out HB5.out.size (fun k h => by simp [Value.ownBlock] at h; have := hb1.out.size; omega)⟩; have hle6 : Kpt (w1.heap.size ≤ w6.heap.size) := ⟨by have := hg6.out; omega⟩; clear hgr6)
    | (refine wpList_append_new rfl (.tmp 43) (.tmp 44) rfl w1.heap.size (.slice (some ⟨g3, 0, none⟩) 9 c3) (.slice (some ⟨w6.heap.size, 0, none⟩) 1 1) ([42, 0, 0, 0, 0, 0, 0] ++ bigL k 2) [0] 9 10 rfl rfl (own_of_block ho6.out (fun g hg => by simp [Value.ownBlock] at hg; subst hg; exact Below.heap_alloc _ _ _ hg6.out.2)) (rd_alloc' _ _ [0] 1 rfl rfl) (by decide) (by simp [bigL_len]) rfl (by decide) (by have := hle6.out; simp; omega) ?_; intro g7 c7 w7 ho7 hg7 hgr7; have HB7 : Kpt (Below w.heap.size w w7) := ⟨(HB6.out.alloc HB6.out.size _).grown hgr7.out (by have := HB6.out.size; simp; omega) (fun k h => by simp [Value.ownBlock] at h; have := hg6.out; have := hb1.out.size; omega)⟩; clear hgr7)
    | (go_at_call 10; refine (HP.out w7 _ ([42, 0, 0, 0, 0, 0, 0] ++ bigL k 2 ++ [0]) (by rw [bigL_2]; rfl) (own_rd ho7.out)).mono ?_; rintro e w8 ⟨rfl, hb8⟩; have HB8 : Kpt (Below w.heap.size w w8) := ⟨HB7.out.trans (hb8.mono HB7.out.size)⟩; clear hb8))
  clear HP HBig HA hb1
  obtain ⟨F, hF⟩ : ∃ F, F = faultS 7 7 := ⟨_, rfl⟩
  have hB0 : Bx ((w8.alloc (.cells #[.int .u8 0, .bool false, .int .u64 0, .int .u64 0, .int .i64 0, .bool false, .int .u8 0, .bool false, .bool false, .int .u8 0, .int .u8 0, .bool false, .int .u8 0, .int .u8 0, .bool false] 27)).alloc (.cells #[.int .u8 5, .int .u16 9216, .int .u64 0, .bool false, .int .i64 7, .int .i64 7, .bool true, .bool true] 30)) (w8.heap.size + 1) F.vals := by rw [hF]; exact bx_new2 w8 _ (faultS 7 7).vals 30
  replace hF := Kpt.mk hF
  refine wp_region_any (by kernel_rfl) ?_
  refine wpAny_of_C (C := fun W => Bx W (w8.heap.size + 1) F.vals) _ _ _ _ ?_
  refine wpAnyC_take 0 (.bool false) rfl (by kernel_rfl) (by kernel_rfl) (by kernel_rfl) (fun _ _ _ h => h) (by rfl) (fun W hW => by rfl) ?_
  refine wpAnyC_take 1 (.bool true) rfl (by kernel_rfl) (by kernel_rfl) (by kernel_rfl) (fun _ _ _ h => h) (by rfl) (fun W hW => by rfl) ?_
  refine wpAnyC_take 2 (.bool true) rfl (by kernel_rfl) (by kernel_rfl) (by kernel_rfl) (fun _ _ _ h => h) (by rfl) (fun W hW => by rfl) ?_
  refine wpAnyC_take 3 (.agg F.vals) rfl (by kernel_rfl) (by kernel_rfl) (by kernel_rfl) (fun _ _ _ h => h) (by rfl) (fun W hW => exec_load_bx 30 (.tmp 10) rfl (w8.heap.size + 1) F.vals rfl hW _ Try.underlying30 rfl infoS) ?_
  refine wpAnyC_take 4 (.int .i64 7) rfl (by kernel_rfl) (by kernel_rfl) (by kernel_rfl) (fun _ _ _ h => h) (by rfl) (fun W hW => by rfl) ?_
  refine wpAnyC_one 5 hB0.drew rfl (by kernel_rfl) (by rfl) (fun K hK => ?_)
  have HF2 : ∀ w, Kpt (Calls Try.prog 14 #[.int .i64 7, .int .i64 7] w fun e w' => e = .returned (.agg F.vals) ∧ Below w.heap.size w w') := fun w => ⟨by rw [hF.out]; exact fault_any 7 7 w⟩
  go_simp
  refine (HF2 _).out.mono ?_
  rintro e w9 ⟨rfl, hb9⟩
  have hB9 : Bx w9 (w8.heap.size + 1) F.vals := hB0.drew.below hb9 hB0.drew.lt
  have HB9 : Below w.heap.size w w9 := ((HB8.out.alloc HB8.out.size _).alloc (by have := HB8.out.size; simp; omega) _).drew.trans (hb9.mono (by have := HB8.out.size; simp; omega))
  refine hK _ _ ?_
  clear hK K
  refine wpAnyC_take 6 (.bool true) rfl (by kernel_rfl) (by kernel_rfl) (by kernel_rfl) (fun _ _ _ h => h) (by rfl) (fun W hW => exec_eqS (.tmp 57) (.tmp 59) F rfl rfl rfl) ?_
  refine wpAnyC_take 7 (.bool true) rfl (by kernel_rfl) (by kernel_rfl) (by kernel_rfl) (fun _ _ _ h => h) (by rfl) (fun W hW => by rfl) ?_
  refine wpAnyC_take 8 (.bool true) rfl (by kernel_rfl) (by kernel_rfl) (by kernel_rfl) (fun _ _ _ h => h) (by rfl) (fun W hW => by rfl) ?_
  refine wpAnyC_done hB9 (by kernel_rfl) ?_
  replace HB9 := Kpt.mk HB9
  clear hB9 hb9 hB0
  go_wp2
  go_ret
  exact ⟨rfl, HB9.out⟩

set_option maxRecDepth 100000 in
set_option maxHeartbeats 4000000 in
theorem many_2_few (a0 a1 k : Int) (w : World) (h0 : 0 ≤ a0 ∧ a0 ≤ 4294967295) (h1 : 0 ≤ a1 ∧ a1 ≤ 255) (hp : a1 % 6 = 2) (hkk : a0 % 65536 = k) (hk : k ≤ 256) :
    Calls Try.prog 8 #[.int .u32 a0, .int .u8 a1] w fun e w' => e = .returned (.bool true) ∧ Below w.heap.size w w' := by
  have HA := fun w => Kpt.mk (awake_any w)
  have HF := fun w => Kpt.mk (fault_any 7 7 w)
  have hk0 : 0 ≤ k := by omega
  have HBig := fun W => Kpt.mk (big_any k 2 W (by omega) (by omega) (by decide) (by decide))
  have HP : Kpt (∀ W v zs, zs = zsB 46 k → RdAt W v zs → Calls Try.prog 10 #[v] W fun e w' => e = .returned (.tuple #[.agg (cmA 46 k).vals, .agg noS.vals, .bool true]) ∧ Below W.heap.size W w') := ⟨fun W v zs hz hr => by
    subst hz
    have := parse_any v (zsB 46 k) W hr (bytes_B _ _ (by decide)) (by simp [zsB, maxLen])
    rw [parse_B 46 k (by decide) (by omega) (by omega), manyRes, if_neg (by omega)] at this
    exact this⟩
  simp only [Cm.vals, Sn.vals, noC, noS, faultS, cmA] at HP HF
  try simp only [show kindL 46 = 9 from rfl] at HP
  go_enter Try.func8, Try.ntmps8
  go_wp2_with (first
    | (go_at_call 9; refine (HA _).out.mono ?_; rintro e w1 ⟨rfl, hb1⟩; replace hb1 := Kpt.mk hb1)
    | (go_at_call 16; refine (HBig _).out.mono ?_; rintro e w5 ⟨g2, rfl, hN⟩; have HB5 : Kpt (Below w.heap.size w w5) := ⟨((hb1.out.alloc hb1.out.size _).alloc (by have := hb1.out.size; simp; omega) _).trans (hN.2.mono (by have := hb1.out.size; simp; omega))⟩; have hsz : w1.heap.size + 1 < w5.heap.size := (by have := hN.2.size; simp at this; omega); have ho5 : Kpt (w5.ownsRow w1.heap.size 5 1 (.slice (some ⟨w1.heap.size + 1, 0, none⟩) 7 7) 7 (cels [46, 0, 0, 0, 0, 0, 0])) := ⟨own_of_block (own_alloc (w1.alloc _) (w1.heap.size + 1) 7 w1.heap.size [46, 0, 0, 0, 0, 0, 0] (by simp) rfl (by decide) (by omega)) (fun g hg => by simp [Value.ownBlock] at hg; subst hg; exact hN.2.block _ (by simp))⟩; have hr5 : Kpt (RdAt w5 (.slice (some ⟨g2, 0, none⟩) 2 2) (bigL k 2)) := ⟨own_rd (by have := hN.1; rw [bigL_len] at this; exact this)⟩; replace hsz := Kpt.mk hsz; clear hN)
    | (refine wpList_append_new rfl (.tmp 39) (.tmp 41) rfl w1.heap.size (.slice (some ⟨w1.heap.size + 1, 0, none⟩) 7 7) (.slice (some ⟨g2, 0, none⟩) 2 2) [46, 0, 0, 0, 0, 0, 0] (bigL k 2) 7 9 rfl rfl ho5.out hr5.out (by rw [bigL_len]; decide) rfl (by rw [bigL_len]) (by decide) (by have := hsz.out; omega) ?_; intro g3 c3 w6 ho6 hg6 hgr6; have HB6 : Kpt (Below w.heap.size w w6) := ⟨HB5.out.grown hgr6.out HB5.out.size (fun k h => by simp [Value.ownBlock] at h; have := hb1.out.size; omega)⟩; have hle6 : Kpt (w1.heap.size ≤ w6.heap.size) := ⟨by have := hg6.out; omega⟩; clear hgr6)
    | (refine wpList_append_new rfl (.tmp 43) (.tmp 44) rfl w1.heap.size (.slice (some ⟨g3, 0, none⟩) 9 c3) (.slice (some ⟨w6.heap.size, 0, none⟩) 1 1) ([46, 0, 0, 0, 0, 0, 0] ++ bigL k 2) [0] 9 10 rfl rfl (own_of_block ho6.out (fun g hg => by simp [Value.ownBlock] at hg; subst hg; exact Below.heap_alloc _ _ _ hg6.out.2)) (rd_alloc' _ _ [0] 1 rfl rfl) (by decide) (by simp [bigL_len]) rfl (by decide) (by have := hle6.out; simp; omega) ?_; intro g7 c7 w7 ho7 hg7 hgr7; have HB7 : Kpt (Below w.heap.size w w7) := ⟨(HB6.out.alloc HB6.out.size _).grown hgr7.out (by have := HB6.out.size; simp; omega) (fun k h => by simp [Value.ownBlock] at h; have := hg6.out; have := hb1.out.size; omega)⟩; clear hgr7)
    | (go_at_call 10; refine (HP.out w7 _ ([46, 0, 0, 0, 0, 0, 0] ++ bigL k 2 ++ [0]) (by rw [bigL_2]; rfl) (own_rd ho7.out)).mono ?_; rintro e w8 ⟨rfl, hb8⟩; have HB8 : Kpt (Below w.heap.size w w8) := ⟨HB7.out.trans (hb8.mono HB7.out.size)⟩; clear hb8))
  go_ret
  exact ⟨rfl, (HB8.out.alloc HB8.out.size _).alloc (by have := HB8.out.size; simp; omega) _⟩

end Go.Proofs.Ytcgojpnjaloofaa
