/-
  writeSame, weakly: whatever bytes came.
-/
import Derived.Test.YtklboieemljmiaaVWgf1
import Derived.Test.YtklboieemljmiaaVWgf0
import Derived.Test.YtklboieemljmiaaVWgn1
import Derived.Test.YtklboieemljmiaaVWgn0
import Derived.Test.YtklboieemljmiaaVWge1
import Derived.Test.YtklboieemljmiaaVWge0
namespace Go.Proofs.Ytklboieemljmiaa
open Go.RowKit
set_option linter.unusedVariables false
set_option linter.unusedSimpArgs false
set_option maxRecDepth 100000 in
set_option maxHeartbeats 1000000 in
theorem wsame_bad (w : World) (B : Nat) (tag : Tags) (st : St) (f : ByteArray) (S D N : Nat) (k : Int) (ca : Bool) (n cp : Nat) (a : Option Addr) (s : Sn) (c : Cm) (h : Dv w B tag st f S D N k ca) (hs : s.key ≠ 0)
    (HC : ∀ W, Below w.heap.size w W → Bx W D (devV S k) → Calls Try.prog 57 #[.pointer (some ⟨D, 0, none⟩), .agg c.vals, .slice a n cp, .int .i64 1] W fun e w' => ∃ g, e = .returned (.tuple #[.slice (some ⟨g, 0, none⟩) 1 1, .agg s.vals]) ∧ Below W.heap.size W w') :
    Calls Try.prog 46 #[.pointer (some ⟨D, 0, none⟩), .agg c.vals, .slice a n cp] w fun e w' => e = .returned (.agg s.vals) ∧ Below w.heap.size w w' := by
  have HE := Kpt.mk (fun W => ended_any s W)
  rw [show (s.key != 0) = true from by simpa using hs] at HE
  have hCs : c.vals.size = 15 := rfl
  obtain ⟨CV, hCV⟩ : ∃ CV, CV = c.vals := ⟨_, rfl⟩
  rw [← hCV] at hCs  HC ⊢
  replace hCs := Kpt.mk hCs
  clear hCV
  have hSl := h.sto.lt
  have hDl := h.bx.lt
  have F := Kpt.mk h.fx
  have hb := Kpt.mk (Below.refl w.heap.size w)
  replace h := Kpt.mk h
  replace HC := Kpt.mk HC
  clear hs
  go_enter Try.func46, Try.ntmps46
  go_wp2_with (first
      | (have hm := m6; refine wpList_store_bx rfl 32 _ _ rfl br _ (s).vals rfl rfl Or.out.bx rfl infoS (Sn.vals_one _) rfl ?_; intro w7 hX_ hg_; replace hb := Kpt.mk (hb.out.trans (Below.ofGrown hg_ hb.out.size Or.out.lo)); replace Oc := Kpt.mk (Oc.out.other hg_ (by omega)); replace Ov := Kpt.mk (Ov.out.other hg_ (by omega)); replace F := Kpt.mk (F.out.own Or.out hg_ hSl hDl); replace Or := Kpt.mk (Or.out.set hX_); clear hX_ hg_; clear hm m6; have m7 : Kpt True := ⟨trivial⟩)
      | (go_at_call 22; have hm := m5; refine (HE.out _).mono ?_; rintro e w7 ⟨rfl, h_⟩; replace Oc := Kpt.mk (Oc.out.below h_); replace Or := Kpt.mk (Or.out.below h_); replace Ov := Kpt.mk (Ov.out.below h_); replace F := Kpt.mk (F.out.below h_); replace hb := Kpt.mk (hb.out.trans (h_.mono hb.out.size)); clear h_; clear hm m5; have m6 : Kpt True := ⟨trivial⟩)
      | (have hm := m4; refine wpList_store_bx rfl 32 _ _ rfl bv _ (s).vals rfl rfl Ov.out.bx rfl infoS (Sn.vals_one _) rfl ?_; intro w5 hX_ hg_; replace hb := Kpt.mk (hb.out.trans (Below.ofGrown hg_ hb.out.size Ov.out.lo)); replace Oc := Kpt.mk (Oc.out.other hg_ (by omega)); replace Or := Kpt.mk (Or.out.other hg_ (by omega)); replace F := Kpt.mk (F.out.own Ov.out hg_ hSl hDl); replace Ov := Kpt.mk (Ov.out.set hX_); clear hX_ hg_; clear hm m4; have m5 : Kpt True := ⟨trivial⟩)
      | (have hm := m3; refine wpList_var rfl 32 rfl zeroS zeroSi ?_; intro bv w_v hl_ hX_ h_; have q_c_v : bc < bv := Nat.lt_of_lt_of_le Oc.out.bx.lt hl_; have q_r_v : br < bv := Nat.lt_of_lt_of_le Or.out.bx.lt hl_; have Ov := Kpt.mk (F.out.new hl_ hX_); replace Oc := Kpt.mk (Oc.out.below h_); replace Or := Kpt.mk (Or.out.below h_); replace F := Kpt.mk (F.out.below h_); replace hb := Kpt.mk (hb.out.trans (h_.mono hb.out.size)); clear hl_ hX_ h_; clear hm m3; have m4 : Kpt True := ⟨trivial⟩)
      | (go_at_call 57; have hm := m2; refine (HC.out _ hb.out F.out.dv.bx).mono ?_; rintro e w3 ⟨gg, rfl, h_⟩; replace Oc := Kpt.mk (Oc.out.below h_); replace Or := Kpt.mk (Or.out.below h_); replace F := Kpt.mk (F.out.below h_); replace hb := Kpt.mk (hb.out.trans (h_.mono hb.out.size)); clear h_; clear hm m2; have m3 : Kpt True := ⟨trivial⟩)
      | (have hm := m1; refine wpList_var rfl 32 rfl zeroS zeroSi ?_; intro br w_r hl_ hX_ h_; have q_c_r : bc < br := Nat.lt_of_lt_of_le Oc.out.bx.lt hl_; have Or := Kpt.mk (F.out.new hl_ hX_); replace Oc := Kpt.mk (Oc.out.below h_); replace F := Kpt.mk (F.out.below h_); replace hb := Kpt.mk (hb.out.trans (h_.mono hb.out.size)); clear hl_ hX_ h_; clear hm m1; have m2 : Kpt True := ⟨trivial⟩)
      | (refine wpList_box rfl 38 _ rfl CV rfl ?_; intro bc w_c hl_ hX_ h_ _; have Oc := Kpt.mk (F.out.new hl_ hX_); replace F := Kpt.mk (F.out.below h_); replace hb := Kpt.mk (hb.out.trans (h_.mono hb.out.size)); clear hl_ hX_ h_; have m1 : Kpt True := ⟨trivial⟩)
      | (refine wpList_load_bx rfl 38 _ rfl bc CV rfl Oc.out.bx _ Try.underlying38 rfl (by rw [hCs.out]; exact infoC) ?_)
      | (refine wpList_load_bx rfl 32 _ rfl bv (s).vals rfl Ov.out.bx _ Try.underlying32 rfl infoS ?_)
      | (refine wpList_load_bx rfl 32 _ rfl br (s).vals rfl Or.out.bx _ Try.underlying32 rfl infoS ?_)
      | fail)
  refine bodyPost_ret (v := .agg (s).vals) (by simp [results, Try.results46, asAddr, Act.put, res_run Or.out.bx]) rfl ⟨rfl, hb.out⟩

theorem wsame_w (w : World) (B : Nat) (tag : Tags) (st : St) (f : ByteArray) (S D N : Nat) (k : Int) (M l m n cp : Nat) (a : Option Addr) (zs : List Int) (c : Cm) (h : Dv w B tag st f S D N k true) (hf1 : 1 ≤ f.size) (hf2 : f.size ≤ 32) (hN : N ≤ 4096) (hF : Fine M st f) (hM : M ≤ 1000) (h0 : 0 ≤ k) (h3 : k ≤ 3) (p0 : 0 ≤ c.pr) (p4 : c.pr ≤ 4) (hkn : knownB k c.pr = true)
    (hl : c.lba = (l : Nat)) (hbl : c.bl = (m : Nat)) (hin : l + m ≤ N) (hr : RdAt w (.slice a n cp) zs) (hlz : zs.length = n) (hby : Bytes zs) (hn : n ≤ 140737488355328) :
    Calls Try.prog 46 #[.pointer (some ⟨D, 0, none⟩), .agg c.vals, .slice a n cp] w (Pw w B tag st) := by
  have key : ∀ b0 : Bk, b0.ok → (∀ W, Below w.heap.size w W → Bx W D (devV S k) → Calls Try.prog 57 #[.pointer (some ⟨D, 0, none⟩), .agg c.vals, .slice a n cp, .int .i64 1] W fun e w' => ∃ g, e = .returned (.tuple #[.slice (some ⟨g, 0, none⟩) 1 1, .agg noS.vals]) ∧ w'.heap[g]? = some (.cells b0.cs.toArray 76 (0, 0)) ∧ W.heap.size ≤ g ∧ Below W.heap.size W w') → Calls Try.prog 46 #[.pointer (some ⟨D, 0, none⟩), .agg c.vals, .slice a n cp] w (Pw w B tag st) := fun b0 hb0 HC => by
    obtain ⟨mm, hmm, hin2⟩ : ∃ mm : Nat, ((1 ≤ m ∧ mm = m) ∨ (m = 0 ∧ l + mm = N)) ∧ l + mm ≤ N := by
      by_cases hm : m = 0
      · exact ⟨N - l, .inr ⟨hm, by omega⟩, by omega⟩
      · exact ⟨m, .inl ⟨by omega, rfl⟩, hin⟩
    by_cases hum : c.um = true
    · by_cases hd : b0.d = z16
      · rcases hmm with h1 | h1
        · exact wsame_e1 w B tag st f S D N k M l m mm n cp a b0 c h hf1 hf2 hN hF hM hb0 hl hbl h1 hin2 hum hd HC
        · exact wsame_e0 w B tag st f S D N k M l m mm n cp a b0 c h hf1 hf2 hN hF hM hb0 hl hbl h1 hin2 hum hd HC
      · rcases hmm with h1 | h1
        · exact wsame_n1 w B tag st f S D N k M l m mm n cp a b0 c h hf1 hf2 hN hF hM hb0 hl hbl h1 hin2 hum hd HC
        · exact wsame_n0 w B tag st f S D N k M l m mm n cp a b0 c h hf1 hf2 hN hF hM hb0 hl hbl h1 hin2 hum hd HC
    · have hum' : c.um = false := by simpa using hum
      rcases hmm with h1 | h1
      · exact wsame_f1 w B tag st f S D N k M l m mm n cp a b0 c h hf1 hf2 hN hF hM hb0 hl hbl h1 hin2 hum' HC
      · exact wsame_f0 w B tag st f S D N k M l m mm n cp a b0 c h hf1 hf2 hN hF hM hb0 hl hbl h1 hin2 hum' HC
  by_cases hm : n = 1 * sz (c.pr != 0)
  · by_cases hp : c.pr = 0
    · have hm' : n = 1 * 16 := by rw [hm, show (c.pr != 0) = false from by rw [hp]; rfl]; rfl
      have hu := unBs_ok false zs 1 hby (by rw [hlz]; exact hm') _ (show unB false zs 0 ∈ unBs false zs 1 from List.mem_singleton.2 rfl)
      refine key (prB k l (unB false zs 0)) (prB_ok k l _ hu) (fun W hb hD => ?_)
      have := come_0 D S l k c a n cp 1 zs W hD h0 (by omega) hl (by omega) (rd_below hr hb) hlz hby hp hm'
      rw [show flat (prL k l (unBs false zs 1)) = (prB k l (unB false zs 0)).cs from by rw [show unBs false zs 1 = [unB false zs 0] from rfl]; simp [prL, flat]] at this
      exact this
    · have hm' : n = 1 * 24 := by rw [hm, show (c.pr != 0) = true from by simpa using hp]; rfl
      have hu := unBs_ok true zs 1 hby (by rw [hlz]; exact hm') _ (show unB true zs 0 ∈ unBs true zs 1 from List.mem_singleton.2 rfl)
      have HC := fun W (hb : Below w.heap.size w W) (hD : Bx W D (devV S k)) => come_t D S l k c a n cp 1 zs W hD h0 (by omega) hl (by omega) (rd_below hr hb) hlz hby p0 (by omega) hp hm'
      rcases look_or k c.pr l (unBs true zs 1) with hlk | hlk
      · rw [hlk] at HC
        refine key (unB true zs 0) hu (fun W hb hD => ?_)
        have := HC W hb hD
        rw [show flat (unBs true zs 1) = (unB true zs 0).cs from by rw [show unBs true zs 1 = [unB true zs 0] from rfl]; simp [flat]] at this
        exact this
      · refine (wsame_bad w B tag st f S D N k true n cp a _ c h (by rw [hlk]; decide) (fun W hb hD => (HC W hb hD).mono (fun e w' hp => ?_))).mono ?_
        · obtain ⟨g, he, _, _, hb'⟩ := hp
          exact ⟨g, he, hb'⟩
        · rintro e w' ⟨he, hb⟩
          exact ⟨_, st, he, h.aft hb, fun _ => rfl⟩
  · refine (wsame_no w B tag st f S D N k true l n cp a zs c h hr hlz hby hn hm).mono ?_
    rintro e w' ⟨he, hb⟩
    exact ⟨_, st, he, h.aft hb, fun _ => rfl⟩
end Go.Proofs.Ytklboieemljmiaa
