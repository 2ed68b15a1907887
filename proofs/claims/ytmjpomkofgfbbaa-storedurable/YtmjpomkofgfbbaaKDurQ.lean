/-
  StoreDurable: the states, and the calls as they stand in the law.
-/
import Derived.Test.YtmjpomkofgfbbaaKDurP
import Derived.Test.YtmjpomkofgfbbaaKEq
namespace Go.Proofs.Ytmjpomkofgfbbaa
open Go.RowKit
set_option linter.unusedVariables false
set_option linter.unusedSimpArgs false

def d1 (us : List Bk) (ca fua : Bool) : St := if settled ca fua us.length then wrSt st0 nmF 5 us us.length else syncSt (wrSt st0 nmF 5 us us.length)
def d2 (us : List Bk) (ca fua sy : Bool) : St := if sy then syncSt (d1 us ca fua) else d1 us ca fua
def d3 (us vs : List Bk) (ca fua sy : Bool) : St := wrSt (d2 us ca fua sy) nmF 5 vs vs.length
def safeB (n : Nat) (ca fua sy : Bool) : Bool := (decide (0 < n) && (fua || !ca)) || sy
/-- A state of which the counts are small. -/
structure Sm (st : St) : Prop where
  cnt : st.cnt ≤ 1000
  wl : st.waits.length ≤ 100
  fl : ∀ i, st.fails i = false
  wr : Wrs st.waits
theorem w1_sm (us : List Bk) (h : us.length ≤ 30) : Sm (wrSt st0 nmF 5 us us.length) ∧ (wrSt st0 nmF 5 us us.length).cnt ≤ 60 ∧ (wrSt st0 nmF 5 us us.length).waits.length ≤ 30 := by
  obtain ⟨o1, o2, o3, o4⟩ := wr_ops st0 nmF 5 us us.length (Nat.le_refl _)
  have e2 : (wrSt st0 nmF 5 us us.length).cnt = 2 * us.length := by rw [o2]; simp [st0]
  have e4 : (wrSt st0 nmF 5 us us.length).waits.length = us.length := by rw [o4]; simp [st0]
  exact ⟨⟨by omega, by omega, fun i => by rw [o3]; rfl, wr_wrs st0 nmF 5 us (fun c hc => by cases hc) _⟩, by omega, by omega⟩
theorem sync_sm {s : St} (h : Sm s) (h1 : s.cnt ≤ 300) : Sm (syncSt s) ∧ (syncSt s).cnt ≤ s.cnt + 1 + s.waits.length ∧ (syncSt s).waits.length = 0 :=
  ⟨⟨by show s.cnt + 1 + s.waits.length ≤ 1000; have := h.wl; omega, Nat.zero_le _, h.fl, fun c hc => by cases hc⟩, Nat.le_refl _, rfl⟩
theorem d1_sm (us : List Bk) (ca fua : Bool) (h : us.length ≤ 30) : Sm (d1 us ca fua) ∧ (d1 us ca fua).cnt ≤ 91 ∧ (d1 us ca fua).waits.length ≤ 30 := by
  obtain ⟨h1, h2, h3⟩ := w1_sm us h
  unfold d1
  split
  · exact ⟨h1, by omega, h3⟩
  · obtain ⟨k1, k2, k3⟩ := sync_sm h1 (by omega)
    exact ⟨k1, by omega, by omega⟩
theorem d2_sm (us : List Bk) (ca fua sy : Bool) (h : us.length ≤ 30) : Sm (d2 us ca fua sy) ∧ (d2 us ca fua sy).cnt ≤ 200 ∧ (d2 us ca fua sy).waits.length ≤ 30 := by
  obtain ⟨h1, h2, h3⟩ := d1_sm us ca fua h
  unfold d2
  split
  · obtain ⟨k1, k2, k3⟩ := sync_sm h1 (by omega)
    exact ⟨k1, by omega, by omega⟩
  · exact ⟨h1, by omega, h3⟩
theorem d3_sm (us vs : List Bk) (ca fua sy : Bool) (h : us.length ≤ 30) (hv : vs.length ≤ 30) : Sm (d3 us vs ca fua sy) := by
  obtain ⟨h1, h2, h3⟩ := d2_sm us ca fua sy h
  obtain ⟨o1, o2, o3, o4⟩ := wr_ops (d2 us ca fua sy) nmF 5 vs vs.length (Nat.le_refl _)
  exact ⟨by unfold d3; omega, by unfold d3; omega, fun i => by unfold d3; rw [o3]; exact h1.fl i, wr_wrs _ nmF 5 vs h1.wr _⟩
theorem d2_safe (us : List Bk) (ca fua sy : Bool) (h : safeB us.length ca fua sy = true) : (d2 us ca fua sy).waits = [] ∧ (d2 us ca fua sy).dur = runs (chs nmF 5 us us.length) (fun _ => none) := by
  obtain ⟨h1, h2, h3⟩ := wr_waits st0 nmF 5 us us.length (Nat.le_refl _)
  have hw : (wrSt st0 nmF 5 us us.length).waits = chs nmF 5 us us.length := by rw [h1]; simp [st0]
  have hd : (wrSt st0 nmF 5 us us.length).dur = fun _ => none := h3
  cases sy with
  | true =>
    refine ⟨rfl, ?_⟩
    show runs (d1 us ca fua).waits (d1 us ca fua).dur = _
    unfold d1
    split
    · rw [hw, hd]
    · show runs [] (runs (wrSt st0 nmF 5 us us.length).waits (wrSt st0 nmF 5 us us.length).dur) = _
      rw [runs_nil, hw, hd]
  | false =>
    have hs : settled ca fua us.length = false := by
      simp only [safeB, Bool.or_false, Bool.and_eq_true, decide_eq_true_eq] at h
      have : us.length ≠ 0 := by omega
      cases ca <;> cases fua <;> simp_all [settled]
    show (d1 us ca fua).waits = [] ∧ (d1 us ca fua).dur = _
    unfold d1
    rw [hs]
    exact ⟨rfl, by show runs (wrSt st0 nmF 5 us us.length).waits (wrSt st0 nmF 5 us us.length).dur = _; rw [hw, hd]⟩
theorem d2_loose (us : List Bk) (ca fua sy : Bool) (h : safeB us.length ca fua sy = false) : (d2 us ca fua sy).waits = chs nmF 5 us us.length ∧ (d2 us ca fua sy).dur = fun _ => none := by
  obtain ⟨h1, h2, h3⟩ := wr_waits st0 nmF 5 us us.length (Nat.le_refl _)
  have hw : (wrSt st0 nmF 5 us us.length).waits = chs nmF 5 us us.length := by rw [h1]; simp [st0]
  have hs : settled ca fua us.length = true ∧ sy = false := by
    simp only [safeB, Bool.or_eq_false_iff, Bool.and_eq_false_iff, decide_eq_false_iff_not] at h
    refine ⟨?_, h.2⟩
    rcases h.1 with h0 | h0
    · have : us.length = 0 := by omega
      simp [settled, this]
    · cases ca <;> cases fua <;> simp_all [settled]
  obtain ⟨hs, rfl⟩ := hs
  show (d1 us ca fua).waits = _ ∧ (d1 us ca fua).dur = _
  unfold d1
  rw [hs]
  exact ⟨hw, h3⟩
/-- What is read in the end. -/
theorem dur_all (us vs : List Bk) (ca fua sy : Bool) (keep cut : Nat) (hu : ∀ b ∈ us, b.ok) (hv : ∀ b ∈ vs, b.ok) (hvu : vs.length ≤ us.length) :
    ∀ F, F = crashed (d3 us vs ca fua sy).waits (min keep (d3 us vs ca fua sy).waits.length) cut (d3 us vs ca fua sy).dur nmF →
    (∀ zs, F = some zs → Byts zs) ∧ ∀ i, i < us.length → (cut = 0 → blkAt F (5 + i) = us.getD i emptyB ∨ (i < vs.length ∧ blkAt F (5 + i) = vs.getD i emptyB) ∨ (safeB us.length ca fua sy = false ∧ blkAt F (5 + i) = emptyB)) ∧
      (safeB us.length ca fua sy = true → vs.length ≤ i → blkAt F (5 + i) = us.getD i emptyB) := by
  intro F hF
  obtain ⟨h1, h2, h3⟩ := wr_waits (d2 us ca fua sy) nmF 5 vs vs.length (Nat.le_refl _)
  have h1' : (d3 us vs ca fua sy).waits = (d2 us ca fua sy).waits ++ chs nmF 5 vs vs.length := h1
  have h3' : (d3 us vs ca fua sy).dur = (d2 us ca fua sy).dur := h3
  cases hs : safeB us.length ca fua sy with
  | true =>
    obtain ⟨k1, k2⟩ := d2_safe us ca fua sy hs
    rw [h1', h3', k1, k2, List.nil_append, chs_len] at hF
    have hr := runs_view (fun _ => none) nmF 5 us good_none hu us.length (Nat.le_refl _)
    have h := dur_safe (runs (chs nmF 5 us us.length) (fun _ => none)) us vs (min keep vs.length) cut hr.1 (fun i hi => by rw [hr.2, if_pos (by omega), show 5 + i - 5 = i by omega]) hv (Nat.min_le_right _ _)
    rw [← hF] at h
    refine ⟨h.1, fun i hi => ⟨fun h0 => ?_, fun _ hk => (h.2 i hi).2 hk⟩⟩
    rcases (h.2 i hi).1 h0 with e | e
    · exact .inl e
    · exact .inr (.inl e)
  | false =>
    obtain ⟨k1, k2⟩ := d2_loose us ca fua sy hs
    rw [h1', h3', k1, k2, List.length_append, chs_len, chs_len] at hF
    have h := dur_loose us vs (min keep (us.length + vs.length)) cut hu hv hvu (Nat.min_le_right _ _)
    rw [← hF] at h
    refine ⟨h.1, fun i hi => ⟨fun h0 => ?_, fun e => by cases e⟩⟩
    rcases h.2 i hi h0 with e | e | e
    · exact .inl e
    · exact .inr (.inl e)
    · exact .inr (.inr ⟨rfl, e⟩)

/-- The store and its world, between calls. -/
structure Dv (w0 w : World) (B : Nat) (tag : Tags) (st : St) (S : Nat) (ca : Bool) : Prop where
  wd : Wd w B tag st
  sto : Sto w tag S B nmF 64 ca
  bel : Below w0.heap.size w0 w
  lo : ∀ i, i < w0.heap.size → tag i = none
  sl : w0.heap.size ≤ S
theorem Dv.step {w0 w w' : World} {B : Nat} {tag tag' : Tags} {st st' : St} {S : Nat} {ca : Bool} (h : Dv w0 w B tag st S ca) (hW : Wd w' B tag' st') (s : Step w w' tag tag' (fun _ => True)) : Dv w0 w' B tag' st' S ca := by
  obtain ⟨k1, k2⟩ := s.below (n := w0.heap.size) h.bel.size h.lo
  exact ⟨hW, h.sto.step s, h.bel.trans k1, k2, h.sl⟩
theorem dv_write {w0 w : World} {B : Nat} {tag : Tags} {st : St} {S : Nat} {ca : Bool} (h : Dv w0 w B tag st S ca) (hs : Sm st) (fua : Bool) (v : Value) (us : List Bk) (hv : Bks w0 v us) (hl : ∀ g, v.ownBlock = some g → g < w0.heap.size) (hn : us.length ≤ 30) (hb : ∀ {X : World}, Below w0.heap.size w0 X → Bks X v us) :
    Calls Try.prog 16 #[.pointer (some ⟨S, 0, none⟩), .int .i64 5, v, .bool fua] w fun e w' => e = .returned (.tuple #[.int .i64 (us.length : Nat), .int .i64 0]) ∧ ∃ tag', Dv w0 w' B tag' (if settled ca fua us.length then wrSt st nmF 5 us us.length else syncSt (wrSt st nmF 5 us us.length)) S ca := by
  refine (kwrite_any w B tag st S 64 5 nmF ca fua v us h.wd h.sto (by decide) (by decide) (by decide) (by have := hs.cnt; omega) (by have := hs.wl; omega) hs.fl hs.wr (hb h.bel) (fun g hg => h.lo g (hl g hg)) (by omega)).mono ?_
  rintro e w' ⟨rfl, tag', hW', hs'⟩
  exact ⟨rfl, tag', h.step hW' hs'⟩
theorem dv_sync {w0 w : World} {B : Nat} {tag : Tags} {st : St} {S : Nat} {ca : Bool} (h : Dv w0 w B tag st S ca) (hs : Sm st) :
    Calls Try.prog 20 #[.pointer (some ⟨S, 0, none⟩)] w fun e w' => e = .returned (.int .i64 0) ∧ ∃ tag', Dv w0 w' B tag' (syncSt st) S ca := by
  refine (ksync_any w B tag st S 64 nmF ca h.wd h.sto (by have := hs.cnt; have := hs.wl; omega) (hs.fl _) hs.wr).mono ?_
  rintro e w' ⟨rfl, tag', hW', hs'⟩
  exact ⟨rfl, tag', h.step hW' hs'⟩
theorem dv_cache {w0 w : World} {B : Nat} {tag : Tags} {st : St} {S : Nat} {ca : Bool} (h : Dv w0 w B tag st S ca) (on : Bool) :
    Calls Try.prog 22 #[.pointer (some ⟨S, 0, none⟩), .bool on] w fun e w' => e = .returned (.tuple #[]) ∧ Dv w0 w' B tag st S on := by
  refine (setcache_any w tag S B 64 nmF ca on h.sto).mono ?_
  rintro e w' ⟨rfl, hS', hg⟩
  exact ⟨rfl, h.wd.own hg h.sto.bare, hS', h.bel.grown hg h.bel.size (fun q hq => by cases hq; exact h.sl), h.lo, h.sl⟩
theorem dv_crash {w0 w : World} {B : Nat} {tag : Tags} {st : St} {S : Nat} {ca : Bool} (h : Dv w0 w B tag st S ca) (hs : Sm st) (keep cut : Nat) (hk : keep ≤ 255) (hc : cut ≤ 255) :
    Calls Try.prog 25 #[.pointer (some ⟨B, 0, none⟩), .int .i64 (keep : Int), .int .i64 (cut : Int)] w fun e w' => e = .returned (.tuple #[]) ∧ ∃ tag' st', Dv w0 w' B tag' st' S ca ∧ st'.seen = crashed st.waits (min keep st.waits.length) cut st.dur ∧ st'.cnt ≤ 2000 ∧ ∀ i, st'.fails i = false := by
  have hcn := hs.cnt
  have hwl := hs.wl
  by_cases hlt : keep < st.waits.length
  · refine (crash_in w B tag st h.wd (by omega) hs.wr keep cut hlt (by omega)).mono ?_
    rintro e w' ⟨rfl, tag', hW', hs'⟩
    exact ⟨rfl, tag', _, h.step hW' hs', by rw [Nat.min_eq_left (by omega)]; rfl, by show st.cnt + keep + 1 ≤ 2000; omega, fun _ => rfl⟩
  · refine (crash_all w B tag st h.wd (by omega) hs.wr keep cut (by omega) (by omega)).mono ?_
    rintro e w' ⟨rfl, tag', hW', hs'⟩
    exact ⟨rfl, tag', _, h.step hW' hs', by rw [Nat.min_eq_right (by omega)]; rfl, by show st.cnt + st.waits.length ≤ 2000; omega, fun _ => rfl⟩
theorem dv_open {w0 w : World} {B : Nat} {tag : Tags} {st : St} (hW : Wd w B tag st) (hb : Below w0.heap.size w0 w) (lo : ∀ i, i < w0.heap.size → tag i = none) (ca : Bool) :
    Calls Try.prog 12 #[.pointer (some ⟨B, 0, none⟩), .string nmF, .int .i64 64, .bool ca] w fun e w' => ∃ S, e = .returned (.tuple #[.pointer (some ⟨S, 0, none⟩), .int .i64 0]) ∧ Dv w0 w' B tag st S ca := by
  refine (kopen_any w B 64 nmF ca (by decide) (by decide) (by decide) (by decide)).mono ?_
  rintro e w' ⟨rfl, hw'⟩
  have hbe : Below w.heap.size w w' := by rw [hw']; exact (Below.refl _ _).alloc (Nat.le_refl _) _
  refine ⟨w.heap.size, rfl, hW.step (step_below hbe tag (fun _ => False)), ?_, hb.trans (hbe.mono hb.size), lo, hb.size⟩
  rw [hw']
  exact sto_new w tag B 64 nmF ca (wd_none hW (Nat.le_refl _))
theorem dv_read {w0 w : World} {B : Nat} {tag : Tags} {st : St} {S : Nat} {ca : Bool} (h : Dv w0 w B tag st S ca) (hc : st.cnt ≤ 2000) (hf : ∀ i, st.fails i = false) (hby : ∀ zs, st.seen nmF = some zs → Byts zs) (n : Nat) (hn : n ≤ 30) :
    Calls Try.prog 13 #[.pointer (some ⟨S, 0, none⟩), .int .i64 5, .int .i64 n] w fun e w' => ∃ g, e = .returned (.tuple #[.slice (some ⟨g, 0, none⟩) n n, .int .i64 n, .int .i64 0]) ∧ Below w0.heap.size w0 w' ∧ g < w'.heap.size ∧ ∀ j, j < n → (blkAt (st.seen nmF) (5 + j)).ok ∧ w'.rangeAt g (j * 19) (blkAt (st.seen nmF) (5 + j)).cs := by
  refine (kread_any w B tag st S 64 5 n nmF ca h.wd h.sto (by decide) (by decide) (by decide) (by omega) hf hby (by omega)).mono ?_
  rintro e w' ⟨g, rfl, hW', hs', hR, hg⟩
  have hb := (hs'.below (n := w0.heap.size) h.bel.size h.lo).1
  exact ⟨g, rfl, h.bel.trans hb, hR.lt, fun j hj => ⟨up_ok (bytesAt_ok hby _).1, hR.done j hj⟩⟩
end Go.Proofs.Ytmjpomkofgfbbaa
