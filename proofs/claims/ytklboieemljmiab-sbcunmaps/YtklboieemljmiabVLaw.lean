/-
  The contracts of device and bytes; Do of a write and of a read, whole.
-/
import Derived.Test.YtklboieemljmiabVDr
namespace Go.Proofs.Ytklboieemljmiab
open Go.RowKit
set_option linter.unusedVariables false
set_option linter.unusedSimpArgs false
abbrev nmF : ByteArray := ⟨#[102]⟩
set_option maxRecDepth 100000 in
set_option maxHeartbeats 1000000 in
theorem device_any (N : Nat) (k : Int) (ca : Bool) (w : World) (h1 : 1 ≤ N) (h2 : N ≤ 4096) : Calls Try.prog 5 #[.int .i64 N, .int .u8 k, .bool ca] w fun e w' => ∃ D B S tag, e = .returned (.tuple #[.pointer (some ⟨D, 0, none⟩), .pointer (some ⟨B, 0, none⟩)]) ∧ Dv w' B tag st0 nmF S D N k ca ∧ Below w.heap.size w w' ∧ (∀ i, i < w.heap.size → tag i = none) := by
  have HN := Kpt.mk (new_any w)
  go_enter Try.func5, Try.ntmps5
  go_wp2_with fail
  refine HN.out.mono ?_
  rintro e w1 ⟨B, tag, rfl, hW1, hg1, ht1⟩
  have hb1 : Kpt (Below w.heap.size w w1) := ⟨(Below.refl _ _).grown hg1 (Nat.le_refl _) (fun k hk => by cases hk)⟩
  have HO := Kpt.mk (kopen_any w1 B N nmF ca (by decide) (by decide) h1 h2)
  replace hW1 := Kpt.mk hW1
  replace ht1 := Kpt.mk ht1
  clear HN hg1
  go_wp2_with fail
  refine HO.out.mono ?_
  rintro e w2 ⟨rfl, hw2⟩
  have hS2 : Kpt (Sto w2 tag w1.heap.size B nmF N ca) := ⟨by rw [hw2]; exact sto_new w1 tag B N nmF ca (wd_none hW1.out (Nat.le_refl _))⟩
  have hbe2 : Below w1.heap.size w1 w2 := by rw [hw2]; exact (Below.refl _ _).alloc (Nat.le_refl _) _
  have hW2 := Kpt.mk (hW1.out.step (step_below hbe2 tag (fun _ => False)))
  have hb2 : Kpt (Below w.heap.size w w2) := ⟨hb1.out.trans (hbe2.mono hb1.out.size)⟩
  clear HO hw2 hb1 hbe2 hW1
  obtain ⟨S, hS⟩ : ∃ S, S = w1.heap.size := ⟨_, rfl⟩
  rw [← hS] at hS2 ⊢
  clear hS
  go_wp2_with (first | (refine wpList_box rfl 47 _ rfl (devV S k) rfl ?_; intro D w3 hl3 hX3 h3 _; have hD : Kpt (Dv w3 B tag st0 nmF S D N k ca) := ⟨hW2.out.step (step_below h3 tag (fun _ => False)), hS2.out.below h3, hX3, wd_none hW2.out hl3⟩; have hb3 := Kpt.mk (hb2.out.trans (h3.mono hb2.out.size)); clear hl3 hX3 h3) | fail)
  go_ret2
  exact ⟨D, B, S, tag, rfl, hD.out, hb3.out, ht1.out⟩

def fil (n : Nat) (b : Int) (k : Nat) : List Int := List.replicate k b ++ List.replicate (n - k) 0
theorem fil_len (n : Nat) (b : Int) (k : Nat) (h : k ≤ n) : (fil n b k).length = n := by simp [fil]; omega
theorem fil_set (n : Nat) (b : Int) (k : Nat) (h : k < n) : (fil n b k).set k b = fil n b (k + 1) := by
  unfold fil
  rw [List.set_append, if_neg (by simp), List.length_replicate, Nat.sub_self, show n - k = (n - (k + 1)) + 1 by omega, List.replicate_succ, List.set_cons_zero, List.replicate_succ' (n := k)]
  simp
set_option maxHeartbeats 1000000 in
theorem bytes_any (n : Nat) (b : Int) (w : World) (hn : n ≤ 1000) : Calls Try.prog 7 #[.int .i64 n, .int .u8 b] w fun e w' => ∃ g, e = .returned (.slice (some ⟨g, 0, none⟩) n n) ∧ w'.ownsRow w.heap.size 5 1 (.slice (some ⟨g, 0, none⟩) n n) n (cels (List.replicate n b)) ∧ Below w.heap.size w w' := by
  obtain ⟨i0, hi0, hz0, hz1, hz2⟩ := info_parts Try.info5
  replace hz2 := Kpt.mk hz2
  go_enter Try.func7, Try.ntmps7
  go_wp2_with (first | (at_make; refine wpList_make_full _ rfl _ _ 22 rfl w.heap.size 5 i0 (.int .u8 0) 1 Try.underlying22 hi0 hz0 hz1 .i64 .i64 _ _ n rfl rfl rfl rfl (by rw [hz2.out]; omega) (by unfold maxLen; omega) (Nat.le_refl _) ?_; intro w1 hown1 hg1; rw [made_u8] at hown1; have hb1 : Kpt (Below w.heap.size w w1) := ⟨(Below.refl _ _).grown hg1 (Nat.le_refl _) (fun k h => by cases h)⟩; replace hown1 := Kpt.mk hown1; clear hg1) | fail)
  obtain ⟨g, hg⟩ : ∃ g, g = w.heap.size := ⟨_, rfl⟩
  rw [← hg] at hown1 ⊢
  have hown1' : Kpt (w1.ownsRow w.heap.size 5 1 (.slice (some ⟨g, 0, none⟩) n n) n (cels (fil n b 0))) := ⟨by have := hown1.out; rw [hg] at this ⊢; simpa [fil] using this⟩
  have hgle : w.heap.size ≤ g := by omega
  clear hown1
  replace hg := Kpt.mk hg
  go_loopw [6] (fun t wr => ∃ k : Nat, k ≤ n ∧ t = .int .i64 k ∧ Kpt (wr.ownsRow w.heap.size 5 1 (.slice (some ⟨g, 0, none⟩) n n) n (cels (fil n b k))) ∧ Kpt (Below w.heap.size w wr)) (fun t _ => n - (intOf t).toNat)
  case atStart => exact ⟨0, Nat.zero_le _, rfl, hown1', hb1⟩
  case round =>
    obtain ⟨k, hk, rfl, hown, hb⟩ := hrel
    by_cases hlt : k < n
    · have e1 : (k : Int) < n := by omega
      have hc0 := own_facts hown.out k hlt
      have hfr := hown.out.frozenAt k
      go_wp2
      go_roundw
      case rel => exact ⟨k + 1, by omega, by go_num, ⟨by rw [← fil_set n b k hlt]; exact own_set hown.out k b⟩, ⟨hb.out.setCell hgle _⟩⟩
      case measure => simp [intOf]; omega
    · have e1 : ¬ (k : Int) < n := by omega
      have ek : k = n := by omega
      subst ek
      go_wp2
      go_ret
      exact ⟨g, rfl, by have := hown.out; simpa [fil] using this, hb.out⟩

theorem doWrite_8 (w : World) (B : Nat) (tag : Tags) (st : St) (f : ByteArray) (S D N : Nat) (k : Int) (ca : Bool) (l m n cp : Nat) (a : Option Addr) (zs : List Int) (c : Cm) (h : Dv w B tag st f S D N k ca) (hf1 : 1 ≤ f.size) (hf2 : f.size ≤ 32) (hN : N ≤ 4096) (hc : st.cnt < 500000000000) (hcw : st.waits.length < 1000000) (hf : ∀ i, st.fails i = false) (hw : Wrs st.waits) (h0 : 0 ≤ k) (h1 : k ≤ 3) (hkd : c.kd = 8) (hl : c.lba = (l : Nat)) (hbl : c.bl = (m : Nat)) (hin : l + m ≤ N) (hr : RdAt w (.slice a n cp) zs) (hlz : zs.length = n) (hby : Bytes zs) (hm : n = m * 16) (hpr : c.pr = 0) :
    Calls Try.prog 6 #[.pointer (some ⟨D, 0, none⟩), .agg c.vals, .slice a n cp] w fun e w' => e = .returned (.agg (resV 0 noS (.slice none 0 0))) ∧ Aft w w' B tag (wrF st f l (prL k l (unBs false zs m)) ca c.fua) :=
  do_0 w B tag st f S D N k ca c _ _ h (fun W hb => answer_act W B tag st f S D N k ca c _ noS _ (h.below hb) (by omega) (by omega)
    (fun W2 hb2 => refuse_in W2 B tag st f S D N k ca l m c ((h.below hb).below hb2) hN h0 (by omega) (by rw [hpr]; unfold knownB; exact decide_eq_true (by omega)) (by omega) (by omega) hl hbl hin)
    (fun W2 hb2 => act_8 W2 B tag st f S D N k ca c _ noS _ ((h.below hb).below hb2) hkd (fun W3 hb3 =>
      take_0 W3 B tag st f S D N k ca l m n cp a zs c.fua c (((h.below hb).below hb2).below hb3) hf1 hf2 hN hc hcw hf hw h0 (by omega) hl hbl hin (rd_below (rd_below (rd_below hr hb) hb2) hb3) hlz hby hm hpr)))
theorem doWrite_9 (w : World) (B : Nat) (tag : Tags) (st : St) (f : ByteArray) (S D N : Nat) (k : Int) (ca : Bool) (l m n cp : Nat) (a : Option Addr) (zs : List Int) (c : Cm) (h : Dv w B tag st f S D N k ca) (hf1 : 1 ≤ f.size) (hf2 : f.size ≤ 32) (hN : N ≤ 4096) (hc : st.cnt < 500000000000) (hcw : st.waits.length < 1000000) (hf : ∀ i, st.fails i = false) (hw : Wrs st.waits) (h0 : 0 ≤ k) (h1 : k ≤ 3) (hkd : c.kd = 9) (hl : c.lba = (l : Nat)) (hbl : c.bl = (m : Nat)) (hin : l + m ≤ N) (hr : RdAt w (.slice a n cp) zs) (hlz : zs.length = n) (hby : Bytes zs) (hm : n = m * 16) (hpr : c.pr = 0) :
    Calls Try.prog 6 #[.pointer (some ⟨D, 0, none⟩), .agg c.vals, .slice a n cp] w fun e w' => e = .returned (.agg (resV 0 noS (.slice none 0 0))) ∧ Aft w w' B tag (wrF st f l (prL k l (unBs false zs m)) ca true) :=
  do_0 w B tag st f S D N k ca c _ _ h (fun W hb => answer_act W B tag st f S D N k ca c _ noS _ (h.below hb) (by omega) (by omega)
    (fun W2 hb2 => refuse_in W2 B tag st f S D N k ca l m c ((h.below hb).below hb2) hN h0 (by omega) (by rw [hpr]; unfold knownB; exact decide_eq_true (by omega)) (by omega) (by omega) hl hbl hin)
    (fun W2 hb2 => act_9 W2 B tag st f S D N k ca c _ noS _ ((h.below hb).below hb2) hkd (fun W3 hb3 =>
      take_0 W3 B tag st f S D N k ca l m n cp a zs true c (((h.below hb).below hb2).below hb3) hf1 hf2 hN hc hcw hf hw h0 (by omega) hl hbl hin (rd_below (rd_below (rd_below hr hb) hb2) hb3) hlz hby hm hpr)))
theorem doWrite_t (w : World) (B : Nat) (tag : Tags) (st : St) (f : ByteArray) (S D N : Nat) (k : Int) (ca : Bool) (l m n cp : Nat) (a : Option Addr) (zs : List Int) (c : Cm) (h : Dv w B tag st f S D N k ca) (hf1 : 1 ≤ f.size) (hf2 : f.size ≤ 32) (hN : N ≤ 4096) (hc : st.cnt < 500000000000) (hcw : st.waits.length < 1000000) (hf : ∀ i, st.fails i = false) (hw : Wrs st.waits) (h0 : 1 ≤ k) (h1 : k ≤ 3) (hkd : c.kd = 8) (hl : c.lba = (l : Nat)) (hbl : c.bl = (m : Nat)) (hin : l + m ≤ N) (hr : RdAt w (.slice a n cp) zs) (hlz : zs.length = n) (hby : Bytes zs) (hm : n = m * 24) (p0 : 1 ≤ c.pr) (p1 : c.pr ≤ 4) (hlk : lookS k c.pr l (unBs true zs m) = noS) :
    Calls Try.prog 6 #[.pointer (some ⟨D, 0, none⟩), .agg c.vals, .slice a n cp] w fun e w' => e = .returned (.agg (resV 0 noS (.slice none 0 0))) ∧ Aft w w' B tag (wrF st f l (unBs true zs m) ca c.fua) :=
  do_0 w B tag st f S D N k ca c _ _ h (fun W hb => answer_act W B tag st f S D N k ca c _ noS _ (h.below hb) (by omega) (by omega)
    (fun W2 hb2 => refuse_in W2 B tag st f S D N k ca l m c ((h.below hb).below hb2) hN (by omega) (by omega) (by unfold knownB; exact decide_eq_true (by omega)) (by omega) (by omega) hl hbl hin)
    (fun W2 hb2 => act_8 W2 B tag st f S D N k ca c _ noS _ ((h.below hb).below hb2) hkd (fun W3 hb3 =>
      take_t W3 B tag st f S D N k ca l m n cp a zs c.fua c (((h.below hb).below hb2).below hb3) hf1 hf2 hN hc hcw hf hw (by omega) (by omega) hl hbl hin (rd_below (rd_below (rd_below hr hb) hb2) hb3) hlz hby hm (by omega) (by omega) (by omega) hlk)))
theorem doWrite_bad (w : World) (B : Nat) (tag : Tags) (st : St) (f : ByteArray) (S D N : Nat) (k : Int) (ca : Bool) (l m n cp : Nat) (a : Option Addr) (zs : List Int) (c : Cm) (h : Dv w B tag st f S D N k ca) (hf1 : 1 ≤ f.size) (hf2 : f.size ≤ 32) (hN : N ≤ 4096) (hc : st.cnt < 500000000000) (hcw : st.waits.length < 1000000) (hf : ∀ i, st.fails i = false) (hw : Wrs st.waits) (h0 : 1 ≤ k) (h1 : k ≤ 3) (hkd : c.kd = 8) (hl : c.lba = (l : Nat)) (hbl : c.bl = (m : Nat)) (hin : l + m ≤ N) (hr : RdAt w (.slice a n cp) zs) (hlz : zs.length = n) (hby : Bytes zs) (hm : n = m * 24) (p0 : 1 ≤ c.pr) (p1 : c.pr ≤ 4) (hlk : (lookS k c.pr l (unBs true zs m)).key ≠ 0) :
    Calls Try.prog 6 #[.pointer (some ⟨D, 0, none⟩), .agg c.vals, .slice a n cp] w fun e w' => e = .returned (.agg (resV 2 (lookS k c.pr l (unBs true zs m)) (.slice none 0 0))) ∧ Aft w w' B tag st :=
  do_s w B tag st f S D N k ca c _ _ hlk _ h (fun W hb => answer_act W B tag st f S D N k ca c _ _ _ (h.below hb) (by omega) (by omega)
    (fun W2 hb2 => refuse_in W2 B tag st f S D N k ca l m c ((h.below hb).below hb2) hN (by omega) (by omega) (by unfold knownB; exact decide_eq_true (by omega)) (by omega) (by omega) hl hbl hin)
    (fun W2 hb2 => act_8 W2 B tag st f S D N k ca c _ _ _ ((h.below hb).below hb2) hkd (fun W3 hb3 =>
      take_bad W3 B tag st f S D N k ca l m n cp a zs c.fua c (((h.below hb).below hb2).below hb3) hf1 hf2 hN hc hcw hf hw (by omega) (by omega) hl hbl hin (rd_below (rd_below (rd_below hr hb) hb2) hb3) hlz hby hm (by omega) (by omega) (by omega) hlk)))
theorem doRead (w : World) (B : Nat) (tag : Tags) (st : St) (f : ByteArray) (S D N : Nat) (k : Int) (ca : Bool) (l n : Nat) (c : Cm) (p : Value) (h : Dv w B tag st f S D N k ca) (hf1 : 1 ≤ f.size) (hf2 : f.size ≤ 32) (hN : N ≤ 4096) (hc : st.cnt < 500000000000) (hf : ∀ i, st.fails i = false) (hG : Good (st.seen f)) (h0 : 0 ≤ k) (h1 : k ≤ 3) (p0 : 0 ≤ c.pr) (p1 : c.pr ≤ 4) (hk : knownB k c.pr = true) (hkd : c.kd = 7) (hl : c.lba = (l : Nat)) (hbl : c.bl = (n : Nat)) (hin : l + n ≤ N) (hlk : lookS k c.pr l (rdL (st.seen f) l n) = noS) :
    Calls Try.prog 6 #[.pointer (some ⟨D, 0, none⟩), .agg c.vals, p] w fun e w' => ∃ g cap, e = .returned (.agg (resV 0 noS (.slice (some ⟨g, 0, none⟩) (n * sz (c.pr != 0)) cap))) ∧ Got w w' B tag (rdSt st n) g (n * sz (c.pr != 0)) cap (packL (c.pr != 0) (rdL (st.seen f) l n)) :=
  do_read w B tag st f S D N k ca c p _ _ _ h (fun W hb => answer_read W B tag st f S D N k ca l n c p (h.below hb) hf1 hf2 hN hc hf hG h0 (by omega) p0 (by omega) hk hkd hl hbl hin hlk)

theorem check_empty (k p lba : Int) : checkC k p lba emptyB = 0 := by
  unfold checkC
  split
  · rfl
  · rw [if_pos (by simp [passB, emptyB])]
theorem check_pr (k p : Int) (i : Nat) (b : Bk) : checkC k p i (prB k i b) = 0 := by
  unfold checkC
  split
  · rfl
  · have e1 : passB k (prB k i b).a (prB k i b).r = false := by simp [passB, prB]
    rw [e1, if_neg (by simp), if_neg (by simp [prB])]
    by_cases hh : hasB k = true
    · rw [if_neg (by simp [prB, refV, hh])]
    · rw [if_neg (by simp [hh])]
/-- A state that all goes well in. -/
structure Fine (m : Nat) (st : St) (f : ByteArray) : Prop where
  cnt : st.cnt ≤ m
  wl : st.waits.length ≤ m
  fails : ∀ i, st.fails i = false
  wrs : Wrs st.waits
  good : Good (st.seen f)
theorem fine0 (f : ByteArray) : Fine 0 st0 f := ⟨by decide, by decide, fun _ => rfl, fun c hc => (by cases hc), good_none⟩
theorem Fine.read {m : Nat} {st : St} {f : ByteArray} (h : Fine m st f) (n : Nat) : Fine (m + n) (rdSt st n) f := ⟨by have := h.cnt; simp only [rdSt]; omega, by have := h.wl; simp only [rdSt]; omega, h.fails, h.wrs, h.good⟩
theorem sync_seen (q : Bool) (s : St) : (if q then s else syncSt s).seen = s.seen := by cases q <;> rfl
theorem Fine.write {m : Nat} {st : St} {f : ByteArray} (h : Fine m st f) (l : Nat) (bs : List Bk) (hok : ∀ b ∈ bs, b.ok) (ca fua : Bool) : Fine (2 * m + 4 * bs.length + 1) (wrF st f l bs ca fua) f := by
  obtain ⟨h1, h2, h3, h4⟩ := wr_ops st f l bs bs.length (Nat.le_refl _)
  have hv := (wr_view st f l bs h.good hok bs.length (Nat.le_refl _)).1
  have hwr := wr_wrs st f l bs h.wrs bs.length
  have hc := h.cnt
  have hl := h.wl
  unfold wrF
  split
  · exact ⟨by omega, by omega, by rw [h3]; exact h.fails, hwr, hv⟩
  · exact ⟨by simp only [syncSt]; omega, by simp [syncSt], by simp only [syncSt]; rw [h3]; exact h.fails, fun c hc => by simp [syncSt] at hc, hv⟩
theorem wrF_view {st : St} {f : ByteArray} (hG : Good (st.seen f)) (l : Nat) (bs : List Bk) (hok : ∀ b ∈ bs, b.ok) (ca fua : Bool) (i : Nat) : blkAt ((wrF st f l bs ca fua).seen f) i = if l ≤ i ∧ i < l + bs.length then bs.getD (i - l) emptyB else blkAt (st.seen f) i := by
  unfold wrF
  rw [sync_seen]
  exact (wr_view st f l bs hG hok bs.length (Nat.le_refl _)).2 i
end Go.Proofs.Ytklboieemljmiab
