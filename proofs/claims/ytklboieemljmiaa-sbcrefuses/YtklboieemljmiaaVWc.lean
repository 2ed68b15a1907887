/-
  compareWrite, weakly: whatever bytes came.
-/
import Derived.Test.YtklboieemljmiaaVCz0
import Derived.Test.YtklboieemljmiaaVCz1
namespace Go.Proofs.Ytklboieemljmiaa
open Go.RowKit
set_option linter.unusedVariables false
set_option linter.unusedSimpArgs false

theorem cmpw_w (w : World) (B : Nat) (tag : Tags) (st : St) (f : ByteArray) (S D N : Nat) (k : Int) (M l m n cp : Nat) (a : Option Addr) (zs : List Int) (c : Cm) (h : Dv w B tag st f S D N k true) (hf1 : 1 ≤ f.size) (hf2 : f.size ≤ 32) (hN : N ≤ 4096) (hF : Fine M st f) (hM : M ≤ 1000) (h0 : 0 ≤ k) (h3 : k ≤ 3) (p0 : 0 ≤ c.pr) (p4 : c.pr ≤ 4)
    (hl : c.lba = (l : Nat)) (hbl : c.bl = (m : Nat)) (hin : l + m ≤ N) (hlk : lookS k c.pr l (rdL (st.seen f) l m) = noS) (hr : RdAt w (.slice a n cp) zs) (hlz : zs.length = n) (hby : Bytes zs) (hn : n ≤ 140737488355328) :
    Calls Try.prog 48 #[.pointer (some ⟨D, 0, none⟩), .agg c.vals, .slice a n cp] w (Pw w B tag st) := by
  have hc := hF.cnt
  have hcw := hF.wl
  have good : ∀ st2, (∀ e w', (e = .returned (.agg noS.vals) ∧ Aft w w' B tag st2) → Pw w B tag st e w') := fun st2 e w' hp => ⟨noS, st2, hp.1, hp.2, fun e => absurd e (by decide)⟩
  by_cases hm : n = (2 * m) * sz (c.pr != 0)
  · by_cases hp : c.pr = 0
    · have hm' : n = 2 * m * 16 := by rw [hm, show (c.pr != 0) = false from by rw [hp]; rfl]; rfl
      by_cases hm0 : m = 0
      · exact (cmpwz_same w B tag st f S D N k true l m n cp a zs c h hf1 hf2 hN (by omega) (by omega) hF.fails hF.wrs hF.good h0 (by omega) hp hl hbl hm0 hin hlk hr hlz hby hm' (fun j x y hj => by omega)).mono (good _)
      · have hok : ∀ b ∈ unBs false zs m, b.ok := fun b hb => unBs_ok false zs (2 * m) hby (by rw [hlz, hm']; rfl) b (by rw [unBs_cut]; exact List.mem_append_left _ hb)
        rcases same_or_dif m (rdL (st.seen f) l m) (unBs false zs m) (rdL_len _ _ _) (unBs_len _ _ _) (rdL_ok hF.good l m) hok with hd | ⟨pl, hpl, hd⟩
        · exact (cmpw_same w B tag st f S D N k true l m n cp a zs c h hf1 hf2 hN (by omega) (by omega) hF.fails hF.wrs hF.good h0 (by omega) hp hl hbl (by omega) hin hlk hr hlz hby hm' hd).mono (good _)
        · refine (cmpw_dif w B tag st f S D N k true l m n cp a zs c h hf1 hf2 hN (by omega) (by omega) hF.fails hF.wrs hF.good h0 (by omega) hp hl hbl (by omega) hin hlk hr hlz hby hm' pl (by omega) hd).mono ?_
          rintro e w' ⟨he, hA⟩
          exact ⟨_, _, he, hA, fun e => absurd e (show ¬ (14 : Int) = 5 by decide)⟩
    · have hm' : n = 2 * m * 24 := by rw [hm, show (c.pr != 0) = true from by simpa using hp]; rfl
      by_cases hm0 : m = 0
      · exact (cmpwtz_same w B tag st f S D N k true l m n cp a zs c h hf1 hf2 hN (by omega) (by omega) hF.fails hF.wrs hF.good h0 (by omega) hp p0 (by omega) (by rw [hm0]; rfl) hl hbl hm0 hin hlk hr hlz hby hm' (fun j x y hj => by omega)).mono (good _)
      · have hok : ∀ b ∈ unBs true zs m, b.ok := fun b hb => unBs_ok true zs (2 * m) hby (by rw [hlz, hm']; rfl) b (by rw [unBs_cutT]; exact List.mem_append_left _ hb)
        rcases look_or k c.pr l (unBs true (zs.drop (m * 24)) m) with hk | hk
        · rcases same_or_dif m (rdL (st.seen f) l m) (unBs true zs m) (rdL_len _ _ _) (unBs_len _ _ _) (rdL_ok hF.good l m) hok with hd | ⟨pl, hpl, hd⟩
          · exact (cmpwt_same w B tag st f S D N k true l m n cp a zs c h hf1 hf2 hN (by omega) (by omega) hF.fails hF.wrs hF.good h0 (by omega) hp p0 (by omega) hk hl hbl (by omega) hin hlk hr hlz hby hm' hd).mono (good _)
          · refine (cmpwt_dif w B tag st f S D N k true l m n cp a zs c h hf1 hf2 hN (by omega) (by omega) hF.fails hF.wrs hF.good h0 (by omega) hp p0 (by omega) hk hl hbl (by omega) hin hlk hr hlz hby hm' pl (by omega) hd).mono ?_
            rintro e w' ⟨he, hA⟩
            exact ⟨_, _, he, hA, fun e => absurd e (show ¬ (14 : Int) = 5 by decide)⟩
        · refine (cmpwt_bad w B tag st f S D N k true l m n cp a zs c h hf1 hf2 hN (by omega) (by omega) hF.fails hF.wrs hF.good h0 (by omega) hp p0 (by omega) _ rfl (by rw [hk]; decide) hl hbl (by omega) hin hlk hr hlz hby hm').mono ?_
          rintro e w' ⟨he, hA⟩
          exact ⟨_, _, he, hA, fun e => absurd (hk.symm.trans e) (by decide)⟩
  · refine (cmpw_no w B tag st f S D N k true l m n cp a zs c h hbl hr hlz hby hn (by omega) hm).mono ?_
    rintro e w' ⟨he, hb⟩
    exact ⟨_, st, he, h.aft hb, fun _ => rfl⟩
end Go.Proofs.Ytklboieemljmiaa
