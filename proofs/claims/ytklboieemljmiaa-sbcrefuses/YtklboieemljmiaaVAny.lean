/-
  Do of any command with any bytes, weakly.
-/
import Derived.Test.YtklboieemljmiaaVWc
namespace Go.Proofs.Ytklboieemljmiaa
open Go.RowKit
set_option linter.unusedVariables false
set_option linter.unusedSimpArgs false

/-- A command's fields as they may be. -/
structure CmOk (c : Cm) : Prop where
  lba : 0 ≤ c.lba ∧ c.lba < 18446744073709551616
  bl : 0 ≤ c.bl ∧ c.bl < 18446744073709551616
  al : -9223372036854775808 ≤ c.al ∧ c.al ≤ 9223372036854775807
  pr : 0 ≤ c.pr ∧ c.pr ≤ 255
/-- What Do comes to. -/
abbrev Rk (w : World) (B : Nat) (tag : Tags) (st : St) (e : Ending) (w' : World) : Prop := ∃ q s va vn vc st2, e = .returned (.agg (resV q s (.slice va vn vc))) ∧ Aft w w' B tag st2 ∧ (s.key = 5 → st2 = st) ∧ ((q = 0 ∧ s = noS) ∨ (q = 2 ∧ va = none ∧ vn = 0 ∧ vc = 0))
theorem knownB_le {k p : Int} (h : knownB k p = true) : p ≤ 4 := by
  unfold knownB at h
  have := of_decide_eq_true h
  omega
theorem doAny_w (w : World) (B : Nat) (tag : Tags) (st : St) (f : ByteArray) (S D N : Nat) (k : Int) (M n cp : Nat) (a : Option Addr) (zs : List Int) (c : Cm) (h : Dv w B tag st f S D N k true) (hf1 : 1 ≤ f.size) (hf2 : f.size ≤ 32) (hN : N ≤ 4096) (hN1 : 1 ≤ N) (hF : Fine M st f) (hM : M ≤ 1000) (h0 : 0 ≤ k) (h3 : k ≤ 3) (hC : CmOk c)
    (hL : ∀ (p : Int) (l m : Nat), lookS k p l (rdL (st.seen f) l m) = noS) (hr : RdAt w (.slice a n cp) zs) (hlz : zs.length = n) (hby : Bytes zs) (hn : n ≤ 140737488355328) :
    Calls Try.prog 11 #[.pointer (some ⟨D, 0, none⟩), .agg c.vals, .slice a n cp] w (Rk w B tag st) := by
  have p0 := hC.pr.1
  have hc := hF.cnt
  have refd : ∀ s : Sn, s.key ≠ 0 → (∀ W, Below w.heap.size w W → Calls Try.prog 24 #[.pointer (some ⟨D, 0, none⟩), .agg c.vals] W fun e w' => e = .returned (.agg s.vals) ∧ Below W.heap.size W w') → Calls Try.prog 11 #[.pointer (some ⟨D, 0, none⟩), .agg c.vals, .slice a n cp] w (Rk w B tag st) := fun s hs HR => by
    refine (do_ref w B tag st f S D N k true c _ s hs h (fun W hb => answer_ref W B tag st f S D N k true c _ s (h.below hb) hs (fun W2 hb2 => (HR W2 (hb.trans (hb2.mono hb.size)))))).mono ?_
    rintro e w' ⟨he, hb⟩
    exact ⟨2, s, none, 0, 0, st, he, h.aft hb, fun _ => rfl, .inr ⟨rfl, rfl, rfl, rfl⟩⟩
  by_cases hkn : knownB k c.pr = true
  · have p4 := knownB_le hkn
    by_cases n13 : c.kd = 13
    · exact do_w w B tag st f S D N k true c _ h (fun W hb => answer_w W B tag st f S D N k true c _ (h.below hb) (by omega) (by omega)
        (fun W2 hb2 => refuse_free13 W2 B tag st f S D N k true c ((h.below hb).below hb2) hN h0 p0 hkn n13)
        (fun W2 hb2 => act_13w W2 B tag st f S D N k true c _ ((h.below hb).below hb2) n13 (fun W3 hb3 => unmap_w W3 B tag st f S D N k M n cp a zs (((h.below hb).below hb2).below hb3) hf1 hf2 hN hF hM (rd_below (rd_below (rd_below hr hb) hb2) hb3) hlz hby hn)))
    by_cases n6 : c.kd = 6
    · refine (do_cap w B tag st f S D N k true c _ h (fun W hb => answer_cap W B tag st f S D N k true c _ (h.below hb) n6
        (fun W2 hb2 => refuse_free6 W2 B tag st f S D N k true c ((h.below hb).below hb2) hN h0 p0 hkn n6) (fun W2 hb2 => ?_))).mono ?_
      · by_cases hlg : c.lg = true
        · obtain ⟨Mx, hMx⟩ : ∃ Mx : Nat, (c.al < 0 ∧ Mx = 0) ∨ (0 ≤ c.al ∧ c.al ≤ 32 ∧ c.al = Mx) ∨ (32 < c.al ∧ c.al ≤ 9223372036854775807 ∧ Mx = 32) := by
            by_cases h1 : c.al < 0
            · exact ⟨0, .inl ⟨h1, rfl⟩⟩
            · by_cases h2 : c.al ≤ 32
              · exact ⟨c.al.toNat, .inr (.inl ⟨by omega, h2, by omega⟩)⟩
              · exact ⟨32, .inr (.inr ⟨by omega, hC.al.2, rfl⟩)⟩
          exact cap_long W2 B tag st f S D N k true c ((h.below hb).below hb2) hN hN1 h0 h3 hlg Mx hMx
        · refine (cap_short W2 B tag st f S D N k true c ((h.below hb).below hb2) hN hN1 (by simpa using hlg)).mono ?_
          rintro e w' ⟨g, cap, he, hb'⟩
          exact ⟨_, _, _, he, hb'⟩
      · rintro e w' ⟨va, vn, vc, he, hb⟩
        exact ⟨0, noS, va, vn, vc, st, he, h.aft hb, fun _ => rfl, .inl ⟨rfl, rfl⟩⟩
    by_cases hin : c.lba + c.bl ≤ N
    · obtain ⟨l, hl⟩ : ∃ l : Nat, c.lba = l := ⟨c.lba.toNat, by have := hC.lba; omega⟩
      obtain ⟨m, hm⟩ : ∃ m : Nat, c.bl = m := ⟨c.bl.toNat, by have := hC.bl; omega⟩
      have hinN : l + m ≤ N := by omega
      have HRf := fun W2 (h2 : Dv W2 B tag st f S D N k true) => refuse_in W2 B tag st f S D N k true l m c h2 hN h0 p0 hkn n13 n6 hl hm hinN
      by_cases n7 : c.kd = 7
      · refine (doRead w B tag st f S D N k true l m c _ h hf1 hf2 hN (by omega) hF.fails hF.good h0 h3 p0 p4 hkn n7 hl hm hinN (hL _ _ _)).mono ?_
        rintro e w' ⟨g, cap, he, tg, hW, s, _⟩
        exact ⟨0, noS, _, _, _, _, he, ⟨tg, hW, s⟩, fun e => absurd e (by decide), .inl ⟨rfl, rfl⟩⟩
      have go : (∀ W, Below w.heap.size w W → Calls Try.prog 29 #[.pointer (some ⟨D, 0, none⟩), .agg c.vals, .slice a n cp] W (Pw W B tag st)) → Calls Try.prog 11 #[.pointer (some ⟨D, 0, none⟩), .agg c.vals, .slice a n cp] w (Rk w B tag st) := fun HA =>
        do_w w B tag st f S D N k true c _ h (fun W hb => answer_w W B tag st f S D N k true c _ (h.below hb) n7 n6 (fun W2 hb2 => HRf W2 ((h.below hb).below hb2)) (fun W2 hb2 => HA W2 (hb.trans (hb2.mono hb.size))))
      by_cases n8 : c.kd = 8
      · exact go (fun W hb => act_8w W B tag st f S D N k true c _ (h.below hb) n8 (fun W2 hb2 => take_w W2 B tag st f S D N k M l m n cp a zs c.fua c ((h.below hb).below hb2) hf1 hf2 hN hF hM h0 h3 p0 p4 hkn hl hm hinN (rd_below (rd_below hr hb) hb2) hlz hby hn))
      by_cases n9 : c.kd = 9
      · exact go (fun W hb => act_9w W B tag st f S D N k true c _ (h.below hb) n9 (fun W2 hb2 => take_w W2 B tag st f S D N k M l m n cp a zs true c ((h.below hb).below hb2) hf1 hf2 hN hF hM h0 h3 p0 p4 hkn hl hm hinN (rd_below (rd_below hr hb) hb2) hlz hby hn))
      by_cases n10 : c.kd = 10
      · exact go (fun W hb => act_10w W B tag st f S D N k true c _ (h.below hb) n10 (fun W2 hb2 => verify_w W2 B tag st f S D N k M l m n cp a zs c ((h.below hb).below hb2) hf1 hf2 hN hF hM h0 h3 p0 p4 hl hm hinN (hL _ _ _) (rd_below (rd_below hr hb) hb2) hlz hby hn))
      by_cases n11 : c.kd = 11
      · exact go (fun W hb => act_11w W B tag st f S D N k true c _ (h.below hb) n11 (fun W2 hb2 => sync_w W2 B tag st f S D N k M ((h.below hb).below hb2) hf1 hf2 hN hF hM))
      by_cases n12 : c.kd = 12
      · exact go (fun W hb => act_12w W B tag st f S D N k true c _ (h.below hb) n12 (fun W2 hb2 => wsame_w W2 B tag st f S D N k M l m n cp a zs c ((h.below hb).below hb2) hf1 hf2 hN hF hM h0 h3 p0 p4 hkn hl hm hinN (rd_below (rd_below hr hb) hb2) hlz hby hn))
      by_cases n14 : c.kd = 14
      · exact go (fun W hb => act_14w W B tag st f S D N k true c _ (h.below hb) n14 (fun W2 hb2 => cmpw_w W2 B tag st f S D N k M l m n cp a zs c ((h.below hb).below hb2) hf1 hf2 hN hF hM h0 h3 p0 p4 hl hm hinN (hL _ _ _) (rd_below (rd_below hr hb) hb2) hlz hby hn))
      exact go (fun W hb => (act_none W B tag st f S D N k true c _ (h.below hb) (by omega)).mono (fun e w' hp => ⟨_, st, hp.1, (h.below hb).aft hp.2, fun _ => rfl⟩))
    · exact refd (nuS 5 8448 c.lba) (show (5 : Int) ≠ 0 by decide) (fun W hb => refuse_out W B tag st f S D N k true c (h.below hb) hN h0 p0 hkn n13 n6 hC.lba hC.bl hin)
  · exact refd (cmS 9216 1) (show (5 : Int) ≠ 0 by decide) (fun W hb => refuse_unk W B tag st f S D N k true c (h.below hb) hN h0 p0 (by simpa using hkn))
end Go.Proofs.Ytklboieemljmiaa
