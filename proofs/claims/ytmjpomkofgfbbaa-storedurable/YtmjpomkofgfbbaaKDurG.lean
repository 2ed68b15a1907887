/-
  StoreDurable: the walk, a way a theorem.
-/
import Derived.Test.YtmjpomkofgfbbaaKDurR
namespace Go.Proofs.Ytmjpomkofgfbbaa
open Go.RowKit
set_option linter.unusedVariables false
set_option linter.unusedSimpArgs false

set_option maxRecDepth 100000 in
set_option maxHeartbeats 8000000 in
theorem dur_z1tt (a1 a2 : Option Addr) (n1 c1 n2 c2 n k keep cut : Nat) (us vs : List Bk)  (w : World) (hu : Bks w (.slice a1 n c1) us) (lu : us.length = n) (hv : Bks w (.slice a2 k c2) vs) (lv : vs.length = k)
    (o1 : ∀ g, (Value.slice a1 n c1).ownBlock = some g → g < w.heap.size) (o2 : ∀ g, (Value.slice a2 k c2).ownBlock = some g → g < w.heap.size) (e1 : min (n1 : Int) 30 = (n : Int)) (e2 : min (n2 : Int) (n : Int) = (k : Int))
    (hn : n ≤ 30) (hk : k ≤ n) (h1 : n ≤ n1) (h1c : n1 ≤ c1) (h2 : k ≤ n2) (h2c : n2 ≤ c2) (kb : keep ≤ 255) (cb : cut ≤ 255) (hpos : n = 0) :
    Calls Try.prog 4 #[.slice a1 n1 c1, .slice a2 n2 c2, .bool true, .bool true, .bool true, .int .u8 (keep : Int), .int .u8 (cut : Int)] w fun e w' => e = .returned (.bool true) ∧ Below w.heap.size w w' := by
  have ou : Kpt (∀ b ∈ us, b.ok) := ⟨fun b hb => by obtain ⟨a', c', _, _, h⟩ := hu; obtain ⟨j, hj, rfl⟩ := List.getElem_of_mem hb; exact (h j _ (List.getElem?_eq_getElem hj)).1⟩
  have ov : Kpt (∀ b ∈ vs, b.ok) := ⟨fun b hb => by obtain ⟨a', c', _, _, h⟩ := hv; obtain ⟨j, hj, rfl⟩ := List.getElem_of_mem hb; exact (h j _ (List.getElem?_eq_getElem hj)).1⟩
  have HA := Kpt.mk (awake_any w)
  have HN := Kpt.mk new_any
  have HE := Kpt.mk rempty_any
  have HO : Kpt (∀ (ca : Bool) (X : World) (B : Nat) (tag : Tags) (st : St), Wd X B tag st → Below w.heap.size w X → (∀ i, i < w.heap.size → tag i = none) → Calls Try.prog 12 #[.pointer (some ⟨B, 0, none⟩), .string nmF, .int .i64 64, .bool ca] X fun e w' => ∃ S, e = .returned (.tuple #[.pointer (some ⟨S, 0, none⟩), .int .i64 0]) ∧ Dv w w' B tag st S ca) := ⟨fun ca X B tag st h1 h2 h3 => dv_open h1 h2 h3 ca⟩
  have hbu : ∀ {X : World}, Below w.heap.size w X → Bks X (.slice a1 n c1) us := fun hX => hu.bel hX
  have hbv : ∀ {X : World}, Below w.heap.size w X → Bks X (.slice a2 k c2) vs := fun hX => hv.bel hX
  have HW1 : Kpt (∀ (X : World) (B : Nat) (tag : Tags) (S : Nat), Dv w X B tag st0 S true → Calls Try.prog 16 #[.pointer (some ⟨S, 0, none⟩), .int .i64 5, .slice a1 n c1, .bool true] X fun e w' => e = .returned (.tuple #[.int .i64 n, .int .i64 0]) ∧ ∃ tag', Dv w w' B tag' (d1 us true true) S true) := ⟨fun X B tag S h => by
    have := dv_write h ⟨by decide, by decide, st0_fails, fun c hc => by cases hc⟩ true (.slice a1 n c1) us hu o1 (by omega) hbu
    rw [lu] at this
    unfold d1
    rw [lu]
    exact this⟩
  have HSy : Kpt (∀ (X : World) (B : Nat) (tag : Tags) (S : Nat), Dv w X B tag (d1 us true true) S true → Calls Try.prog 20 #[.pointer (some ⟨S, 0, none⟩)] X fun e w' => e = .returned (.int .i64 0) ∧ ∃ tag', Dv w w' B tag' (d2 us true true true) S true) := ⟨fun X B tag S h => dv_sync h (d1_sm us true true (by omega)).1⟩
  have HSc : Kpt (∀ (X : World) (B : Nat) (tag : Tags) (st : St) (S : Nat) (ca : Bool), Dv w X B tag st S ca → Calls Try.prog 22 #[.pointer (some ⟨S, 0, none⟩), .bool true] X fun e w' => e = .returned (.tuple #[]) ∧ Dv w w' B tag st S true) := ⟨fun X B tag st S ca h => dv_cache h true⟩
  have HW2 : Kpt (∀ (X : World) (B : Nat) (tag : Tags) (S : Nat), Dv w X B tag (d2 us true true true) S true → Calls Try.prog 16 #[.pointer (some ⟨S, 0, none⟩), .int .i64 5, .slice a2 k c2, .bool false] X fun e w' => e = .returned (.tuple #[.int .i64 k, .int .i64 0]) ∧ ∃ tag', Dv w w' B tag' (d3 us vs true true true) S true) := ⟨fun X B tag S h => by
    have := dv_write h (d2_sm us true true true (by omega)).1 false (.slice a2 k c2) vs hv o2 (by omega) hbv
    rw [show settled true false vs.length = true from by simp [settled], if_pos rfl] at this
    unfold d3
    rw [lv] at this ⊢
    exact this⟩
  have hsf : safeB us.length true true true = true := by
    rw [lu]
    have hd : decide (0 < n) = false := decide_eq_false (by omega)
    rw [safeB, hd]
    rfl
  have HC : Kpt (∀ (X : World) (B : Nat) (tag : Tags) (S : Nat), Dv w X B tag (d3 us vs true true true) S true → Calls Try.prog 25 #[.pointer (some ⟨B, 0, none⟩), .int .i64 (keep : Int), .int .i64 (cut : Int)] X fun e w' => e = .returned (.tuple #[]) ∧ ∃ tag' st', Dv w w' B tag' st' S true ∧ st'.cnt ≤ 2000 ∧ (∀ i, st'.fails i = false) ∧ (∀ zs, st'.seen nmF = some zs → Byts zs) ∧ ∀ i, i < n → Seen us vs true cut (st'.seen nmF) i) := ⟨fun X B tag S h => by
    refine (dv_crash h (d3_sm us vs true true true (by omega) (by omega)) keep cut kb cb).mono ?_
    rintro e w' ⟨rfl, tag', st', hD, hs, hc, hf⟩
    obtain ⟨k1, k2⟩ := dur_all us vs true true true keep cut ou.out ov.out (by omega) (st'.seen nmF) (by rw [hs])
    rw [hsf] at k2
    exact ⟨rfl, tag', st', hD, hc, hf, k1, fun i hi => k2 i (by omega)⟩⟩
  have HR : Kpt (∀ (X : World) (B : Nat) (tag : Tags) (st : St) (S : Nat), Dv w X B tag st S true → st.cnt ≤ 2000 → (∀ i, st.fails i = false) → (∀ zs, st.seen nmF = some zs → Byts zs) → Calls Try.prog 13 #[.pointer (some ⟨S, 0, none⟩), .int .i64 5, .int .i64 n] X fun e w' => ∃ g, e = .returned (.tuple #[.slice (some ⟨g, 0, none⟩) n n, .int .i64 n, .int .i64 0]) ∧ Below w.heap.size w w' ∧ g < w'.heap.size ∧ ∀ j, j < n → (blkAt (st.seen nmF) (5 + j)).ok ∧ w'.rangeAt g (j * 19) (blkAt (st.seen nmF) (5 + j)).cs) := ⟨fun X B tag st S h h1 h2 h3 => dv_read h h1 h2 h3 n hn⟩
  replace hu := Kpt.mk hu
  replace hv := Kpt.mk hv
  replace lu := Kpt.mk lu
  replace lv := Kpt.mk lv
  replace o1 := Kpt.mk o1
  replace o2 := Kpt.mk o2
  have m0 : Kpt True := ⟨trivial⟩
  have hp1 : ¬ (0 : Int) < n := by omega
  have hcz : (0 : Int) ≤ cut := by omega
  clear hsf hbu hbv
  replace hpos := Kpt.mk hpos
  go_enter Try.func4, Try.ntmps4
  go_wp2_with (first | (go_at_call 13; go_must (refine (HR.out _ B tag4 st4 S2 hD8.out hc4.out hf4.out hby4.out).mono ?_; rintro e x9 ⟨g3, rfl, hx9, hg3, hrow⟩; replace hx9 := Kpt.mk hx9; replace hrow := Kpt.mk hrow; clear hD8)) | (go_at_call 12; have hmm := m6; go_must (refine (HO.out true _ B tag4 st4 hD7.out.wd hD7.out.bel hD7.out.lo).mono ?_; rintro e x8 ⟨S2, rfl, hD8⟩; replace hD8 := Kpt.mk hD8; clear hmm m6 hD7)) | (go_at_call 25; have hmm := m5; go_must (refine (HC.out _ B tag3 S hD6.out).mono ?_; rintro e x7 ⟨rfl, tag4, st4, hD7, hc4, hf4, hby4, hse⟩; replace hD7 := Kpt.mk hD7; replace hc4 := Kpt.mk hc4; replace hf4 := Kpt.mk hf4; replace hby4 := Kpt.mk hby4; replace hse := Kpt.mk hse; clear hmm m5 hD6; have m6 : Kpt True := ⟨trivial⟩)) | (go_at_call 16; have hmm := m4; go_must (refine (HW2.out _ B tag2 S hD5.out).mono ?_; rintro e x6 ⟨rfl, tag3, hD6⟩; replace hD6 := Kpt.mk hD6; clear hmm m4 hD5; have m5 : Kpt True := ⟨trivial⟩)) | (go_at_call 22; have hmm := m3; go_must (refine (HSc.out _ B tag2 _ S _ hD4.out).mono ?_; rintro e x5 ⟨rfl, hD5⟩; replace hD5 := Kpt.mk hD5; clear hmm m3 hD4; have m4 : Kpt True := ⟨trivial⟩)) | (go_at_call 20; have hmm := m2; go_must (refine (HSy.out _ B tag1 S hD3.out).mono ?_; rintro e x4 ⟨rfl, tag2, hD4⟩; replace hD4 := Kpt.mk hD4; clear hmm m2 hD3; have m3 : Kpt True := ⟨trivial⟩)) | (go_at_call 16; have hmm := m1; go_must (refine (HW1.out _ B tag S hD2.out).mono ?_; rintro e x3 ⟨rfl, tag1, hD3⟩; replace hD3 := Kpt.mk hD3; clear hmm m1 hD2; have m2 : Kpt True := ⟨trivial⟩)) | (go_at_call 12; have hmm := mO; go_must (refine (HO.out true _ B tag st0 hW2.out hb2.out ht2.out).mono ?_; rintro e x2 ⟨S, rfl, hD2⟩; replace hD2 := Kpt.mk hD2; clear hmm mO hW2 hb2 ht2; have m1 : Kpt True := ⟨trivial⟩)) | (go_at_call 10; have hmm := mN; go_must (refine (HN.out _).mono ?_; rintro e w2 ⟨B, tag, rfl, hW2, hg2, ht2⟩; have hb2 : Kpt (Below w.heap.size w w2) := ⟨hb1.out.trans (((Below.refl _ _).grown hg2 (Nat.le_refl _) (fun k hk => by cases hk)).mono hb1.out.size)⟩; have ht2 : Kpt (∀ i, i < w.heap.size → tag i = none) := ⟨fun i hi => ht2 i (Nat.lt_of_lt_of_le hi hb1.out.size)⟩; replace hW2 := Kpt.mk hW2; clear hg2 hmm mN hb1; have mO : Kpt True := ⟨trivial⟩)) | (go_at_call 9; have hmm := m0; go_must (refine HA.out.mono ?_; rintro e w1 ⟨rfl, hb1⟩; replace hb1 := Kpt.mk hb1; clear hmm m0 HA; have mN : Kpt True := ⟨trivial⟩)))
  clear HO HW1 HW2 HSy HSc HC HR HN hc4 hf4 hby4 hp1
  go_loopw [29] (fun t wr => ∃ i : Nat, i ≤ n ∧ t = .int .i64 i ∧ Kpt (Below x9.heap.size x9 wr)) (fun t _ => n - (intOf t).toNat)
  case atStart => exact ⟨0, Nat.zero_le _, rfl, ⟨Below.refl _ _⟩⟩
  case round =>
    obtain ⟨i, hi, rfl, hB⟩ := hrel
    by_cases hlt : i < n
    · have hpo := hpos.out
      omega
    · have el : ¬ (i : Int) < n := by omega
      obtain rfl : i = n := by omega
      have hz : Kpt (Below w.heap.size w wr) := ⟨hx9.out.trans (hB.out.mono hx9.out.size)⟩
      go_wp2
      go_ret
      exact ⟨rfl, hz.out⟩

set_option maxRecDepth 100000 in
set_option maxHeartbeats 8000000 in
theorem dur_z1tf (a1 a2 : Option Addr) (n1 c1 n2 c2 n k keep cut : Nat) (us vs : List Bk)  (w : World) (hu : Bks w (.slice a1 n c1) us) (lu : us.length = n) (hv : Bks w (.slice a2 k c2) vs) (lv : vs.length = k)
    (o1 : ∀ g, (Value.slice a1 n c1).ownBlock = some g → g < w.heap.size) (o2 : ∀ g, (Value.slice a2 k c2).ownBlock = some g → g < w.heap.size) (e1 : min (n1 : Int) 30 = (n : Int)) (e2 : min (n2 : Int) (n : Int) = (k : Int))
    (hn : n ≤ 30) (hk : k ≤ n) (h1 : n ≤ n1) (h1c : n1 ≤ c1) (h2 : k ≤ n2) (h2c : n2 ≤ c2) (kb : keep ≤ 255) (cb : cut ≤ 255) (hpos : n = 0) :
    Calls Try.prog 4 #[.slice a1 n1 c1, .slice a2 n2 c2, .bool true, .bool true, .bool false, .int .u8 (keep : Int), .int .u8 (cut : Int)] w fun e w' => e = .returned (.bool true) ∧ Below w.heap.size w w' := by
  have ou : Kpt (∀ b ∈ us, b.ok) := ⟨fun b hb => by obtain ⟨a', c', _, _, h⟩ := hu; obtain ⟨j, hj, rfl⟩ := List.getElem_of_mem hb; exact (h j _ (List.getElem?_eq_getElem hj)).1⟩
  have ov : Kpt (∀ b ∈ vs, b.ok) := ⟨fun b hb => by obtain ⟨a', c', _, _, h⟩ := hv; obtain ⟨j, hj, rfl⟩ := List.getElem_of_mem hb; exact (h j _ (List.getElem?_eq_getElem hj)).1⟩
  have HA := Kpt.mk (awake_any w)
  have HN := Kpt.mk new_any
  have HE := Kpt.mk rempty_any
  have HO : Kpt (∀ (ca : Bool) (X : World) (B : Nat) (tag : Tags) (st : St), Wd X B tag st → Below w.heap.size w X → (∀ i, i < w.heap.size → tag i = none) → Calls Try.prog 12 #[.pointer (some ⟨B, 0, none⟩), .string nmF, .int .i64 64, .bool ca] X fun e w' => ∃ S, e = .returned (.tuple #[.pointer (some ⟨S, 0, none⟩), .int .i64 0]) ∧ Dv w w' B tag st S ca) := ⟨fun ca X B tag st h1 h2 h3 => dv_open h1 h2 h3 ca⟩
  have hbu : ∀ {X : World}, Below w.heap.size w X → Bks X (.slice a1 n c1) us := fun hX => hu.bel hX
  have hbv : ∀ {X : World}, Below w.heap.size w X → Bks X (.slice a2 k c2) vs := fun hX => hv.bel hX
  have HW1 : Kpt (∀ (X : World) (B : Nat) (tag : Tags) (S : Nat), Dv w X B tag st0 S false → Calls Try.prog 16 #[.pointer (some ⟨S, 0, none⟩), .int .i64 5, .slice a1 n c1, .bool true] X fun e w' => e = .returned (.tuple #[.int .i64 n, .int .i64 0]) ∧ ∃ tag', Dv w w' B tag' (d1 us false true) S false) := ⟨fun X B tag S h => by
    have := dv_write h ⟨by decide, by decide, st0_fails, fun c hc => by cases hc⟩ true (.slice a1 n c1) us hu o1 (by omega) hbu
    rw [lu] at this
    unfold d1
    rw [lu]
    exact this⟩
  have HSy : Kpt (∀ (X : World) (B : Nat) (tag : Tags) (S : Nat), Dv w X B tag (d1 us false true) S false → Calls Try.prog 20 #[.pointer (some ⟨S, 0, none⟩)] X fun e w' => e = .returned (.int .i64 0) ∧ ∃ tag', Dv w w' B tag' (d2 us false true true) S false) := ⟨fun X B tag S h => dv_sync h (d1_sm us false true (by omega)).1⟩
  have HSc : Kpt (∀ (X : World) (B : Nat) (tag : Tags) (st : St) (S : Nat) (ca : Bool), Dv w X B tag st S ca → Calls Try.prog 22 #[.pointer (some ⟨S, 0, none⟩), .bool true] X fun e w' => e = .returned (.tuple #[]) ∧ Dv w w' B tag st S true) := ⟨fun X B tag st S ca h => dv_cache h true⟩
  have HW2 : Kpt (∀ (X : World) (B : Nat) (tag : Tags) (S : Nat), Dv w X B tag (d2 us false true true) S true → Calls Try.prog 16 #[.pointer (some ⟨S, 0, none⟩), .int .i64 5, .slice a2 k c2, .bool false] X fun e w' => e = .returned (.tuple #[.int .i64 k, .int .i64 0]) ∧ ∃ tag', Dv w w' B tag' (d3 us vs false true true) S true) := ⟨fun X B tag S h => by
    have := dv_write h (d2_sm us false true true (by omega)).1 false (.slice a2 k c2) vs hv o2 (by omega) hbv
    rw [show settled true false vs.length = true from by simp [settled], if_pos rfl] at this
    unfold d3
    rw [lv] at this ⊢
    exact this⟩
  have hsf : safeB us.length false true true = true := by
    rw [lu]
    have hd : decide (0 < n) = false := decide_eq_false (by omega)
    rw [safeB, hd]
    rfl
  have HC : Kpt (∀ (X : World) (B : Nat) (tag : Tags) (S : Nat), Dv w X B tag (d3 us vs false true true) S true → Calls Try.prog 25 #[.pointer (some ⟨B, 0, none⟩), .int .i64 (keep : Int), .int .i64 (cut : Int)] X fun e w' => e = .returned (.tuple #[]) ∧ ∃ tag' st', Dv w w' B tag' st' S true ∧ st'.cnt ≤ 2000 ∧ (∀ i, st'.fails i = false) ∧ (∀ zs, st'.seen nmF = some zs → Byts zs) ∧ ∀ i, i < n → Seen us vs true cut (st'.seen nmF) i) := ⟨fun X B tag S h => by
    refine (dv_crash h (d3_sm us vs false true true (by omega) (by omega)) keep cut kb cb).mono ?_
    rintro e w' ⟨rfl, tag', st', hD, hs, hc, hf⟩
    obtain ⟨k1, k2⟩ := dur_all us vs false true true keep cut ou.out ov.out (by omega) (st'.seen nmF) (by rw [hs])
    rw [hsf] at k2
    exact ⟨rfl, tag', st', hD, hc, hf, k1, fun i hi => k2 i (by omega)⟩⟩
  have HR : Kpt (∀ (X : World) (B : Nat) (tag : Tags) (st : St) (S : Nat), Dv w X B tag st S true → st.cnt ≤ 2000 → (∀ i, st.fails i = false) → (∀ zs, st.seen nmF = some zs → Byts zs) → Calls Try.prog 13 #[.pointer (some ⟨S, 0, none⟩), .int .i64 5, .int .i64 n] X fun e w' => ∃ g, e = .returned (.tuple #[.slice (some ⟨g, 0, none⟩) n n, .int .i64 n, .int .i64 0]) ∧ Below w.heap.size w w' ∧ g < w'.heap.size ∧ ∀ j, j < n → (blkAt (st.seen nmF) (5 + j)).ok ∧ w'.rangeAt g (j * 19) (blkAt (st.seen nmF) (5 + j)).cs) := ⟨fun X B tag st S h h1 h2 h3 => dv_read h h1 h2 h3 n hn⟩
  replace hu := Kpt.mk hu
  replace hv := Kpt.mk hv
  replace lu := Kpt.mk lu
  replace lv := Kpt.mk lv
  replace o1 := Kpt.mk o1
  replace o2 := Kpt.mk o2
  have m0 : Kpt True := ⟨trivial⟩
  have hp1 : ¬ (0 : Int) < n := by omega
  have hcz : (0 : Int) ≤ cut := by omega
  clear hsf hbu hbv
  replace hpos := Kpt.mk hpos
  go_enter Try.func4, Try.ntmps4
  go_wp2_with (first | (go_at_call 13; go_must (refine (HR.out _ B tag4 st4 S2 hD8.out hc4.out hf4.out hby4.out).mono ?_; rintro e x9 ⟨g3, rfl, hx9, hg3, hrow⟩; replace hx9 := Kpt.mk hx9; replace hrow := Kpt.mk hrow; clear hD8)) | (go_at_call 12; have hmm := m6; go_must (refine (HO.out true _ B tag4 st4 hD7.out.wd hD7.out.bel hD7.out.lo).mono ?_; rintro e x8 ⟨S2, rfl, hD8⟩; replace hD8 := Kpt.mk hD8; clear hmm m6 hD7)) | (go_at_call 25; have hmm := m5; go_must (refine (HC.out _ B tag3 S hD6.out).mono ?_; rintro e x7 ⟨rfl, tag4, st4, hD7, hc4, hf4, hby4, hse⟩; replace hD7 := Kpt.mk hD7; replace hc4 := Kpt.mk hc4; replace hf4 := Kpt.mk hf4; replace hby4 := Kpt.mk hby4; replace hse := Kpt.mk hse; clear hmm m5 hD6; have m6 : Kpt True := ⟨trivial⟩)) | (go_at_call 16; have hmm := m4; go_must (refine (HW2.out _ B tag2 S hD5.out).mono ?_; rintro e x6 ⟨rfl, tag3, hD6⟩; replace hD6 := Kpt.mk hD6; clear hmm m4 hD5; have m5 : Kpt True := ⟨trivial⟩)) | (go_at_call 22; have hmm := m3; go_must (refine (HSc.out _ B tag2 _ S _ hD4.out).mono ?_; rintro e x5 ⟨rfl, hD5⟩; replace hD5 := Kpt.mk hD5; clear hmm m3 hD4; have m4 : Kpt True := ⟨trivial⟩)) | (go_at_call 20; have hmm := m2; go_must (refine (HSy.out _ B tag1 S hD3.out).mono ?_; rintro e x4 ⟨rfl, tag2, hD4⟩; replace hD4 := Kpt.mk hD4; clear hmm m2 hD3; have m3 : Kpt True := ⟨trivial⟩)) | (go_at_call 16; have hmm := m1; go_must (refine (HW1.out _ B tag S hD2.out).mono ?_; rintro e x3 ⟨rfl, tag1, hD3⟩; replace hD3 := Kpt.mk hD3; clear hmm m1 hD2; have m2 : Kpt True := ⟨trivial⟩)) | (go_at_call 12; have hmm := mO; go_must (refine (HO.out false _ B tag st0 hW2.out hb2.out ht2.out).mono ?_; rintro e x2 ⟨S, rfl, hD2⟩; replace hD2 := Kpt.mk hD2; clear hmm mO hW2 hb2 ht2; have m1 : Kpt True := ⟨trivial⟩)) | (go_at_call 10; have hmm := mN; go_must (refine (HN.out _).mono ?_; rintro e w2 ⟨B, tag, rfl, hW2, hg2, ht2⟩; have hb2 : Kpt (Below w.heap.size w w2) := ⟨hb1.out.trans (((Below.refl _ _).grown hg2 (Nat.le_refl _) (fun k hk => by cases hk)).mono hb1.out.size)⟩; have ht2 : Kpt (∀ i, i < w.heap.size → tag i = none) := ⟨fun i hi => ht2 i (Nat.lt_of_lt_of_le hi hb1.out.size)⟩; replace hW2 := Kpt.mk hW2; clear hg2 hmm mN hb1; have mO : Kpt True := ⟨trivial⟩)) | (go_at_call 9; have hmm := m0; go_must (refine HA.out.mono ?_; rintro e w1 ⟨rfl, hb1⟩; replace hb1 := Kpt.mk hb1; clear hmm m0 HA; have mN : Kpt True := ⟨trivial⟩)))
  clear HO HW1 HW2 HSy HSc HC HR HN hc4 hf4 hby4 hp1
  go_loopw [29] (fun t wr => ∃ i : Nat, i ≤ n ∧ t = .int .i64 i ∧ Kpt (Below x9.heap.size x9 wr)) (fun t _ => n - (intOf t).toNat)
  case atStart => exact ⟨0, Nat.zero_le _, rfl, ⟨Below.refl _ _⟩⟩
  case round =>
    obtain ⟨i, hi, rfl, hB⟩ := hrel
    by_cases hlt : i < n
    · have hpo := hpos.out
      omega
    · have el : ¬ (i : Int) < n := by omega
      obtain rfl : i = n := by omega
      have hz : Kpt (Below w.heap.size w wr) := ⟨hx9.out.trans (hB.out.mono hx9.out.size)⟩
      go_wp2
      go_ret
      exact ⟨rfl, hz.out⟩

set_option maxRecDepth 100000 in
set_option maxHeartbeats 8000000 in
theorem dur_z1ft (a1 a2 : Option Addr) (n1 c1 n2 c2 n k keep cut : Nat) (us vs : List Bk)  (w : World) (hu : Bks w (.slice a1 n c1) us) (lu : us.length = n) (hv : Bks w (.slice a2 k c2) vs) (lv : vs.length = k)
    (o1 : ∀ g, (Value.slice a1 n c1).ownBlock = some g → g < w.heap.size) (o2 : ∀ g, (Value.slice a2 k c2).ownBlock = some g → g < w.heap.size) (e1 : min (n1 : Int) 30 = (n : Int)) (e2 : min (n2 : Int) (n : Int) = (k : Int))
    (hn : n ≤ 30) (hk : k ≤ n) (h1 : n ≤ n1) (h1c : n1 ≤ c1) (h2 : k ≤ n2) (h2c : n2 ≤ c2) (kb : keep ≤ 255) (cb : cut ≤ 255) (hpos : n = 0) :
    Calls Try.prog 4 #[.slice a1 n1 c1, .slice a2 n2 c2, .bool false, .bool true, .bool true, .int .u8 (keep : Int), .int .u8 (cut : Int)] w fun e w' => e = .returned (.bool true) ∧ Below w.heap.size w w' := by
  have ou : Kpt (∀ b ∈ us, b.ok) := ⟨fun b hb => by obtain ⟨a', c', _, _, h⟩ := hu; obtain ⟨j, hj, rfl⟩ := List.getElem_of_mem hb; exact (h j _ (List.getElem?_eq_getElem hj)).1⟩
  have ov : Kpt (∀ b ∈ vs, b.ok) := ⟨fun b hb => by obtain ⟨a', c', _, _, h⟩ := hv; obtain ⟨j, hj, rfl⟩ := List.getElem_of_mem hb; exact (h j _ (List.getElem?_eq_getElem hj)).1⟩
  have HA := Kpt.mk (awake_any w)
  have HN := Kpt.mk new_any
  have HE := Kpt.mk rempty_any
  have HO : Kpt (∀ (ca : Bool) (X : World) (B : Nat) (tag : Tags) (st : St), Wd X B tag st → Below w.heap.size w X → (∀ i, i < w.heap.size → tag i = none) → Calls Try.prog 12 #[.pointer (some ⟨B, 0, none⟩), .string nmF, .int .i64 64, .bool ca] X fun e w' => ∃ S, e = .returned (.tuple #[.pointer (some ⟨S, 0, none⟩), .int .i64 0]) ∧ Dv w w' B tag st S ca) := ⟨fun ca X B tag st h1 h2 h3 => dv_open h1 h2 h3 ca⟩
  have hbu : ∀ {X : World}, Below w.heap.size w X → Bks X (.slice a1 n c1) us := fun hX => hu.bel hX
  have hbv : ∀ {X : World}, Below w.heap.size w X → Bks X (.slice a2 k c2) vs := fun hX => hv.bel hX
  have HW1 : Kpt (∀ (X : World) (B : Nat) (tag : Tags) (S : Nat), Dv w X B tag st0 S true → Calls Try.prog 16 #[.pointer (some ⟨S, 0, none⟩), .int .i64 5, .slice a1 n c1, .bool false] X fun e w' => e = .returned (.tuple #[.int .i64 n, .int .i64 0]) ∧ ∃ tag', Dv w w' B tag' (d1 us true false) S true) := ⟨fun X B tag S h => by
    have := dv_write h ⟨by decide, by decide, st0_fails, fun c hc => by cases hc⟩ false (.slice a1 n c1) us hu o1 (by omega) hbu
    rw [lu] at this
    unfold d1
    rw [lu]
    exact this⟩
  have HSy : Kpt (∀ (X : World) (B : Nat) (tag : Tags) (S : Nat), Dv w X B tag (d1 us true false) S true → Calls Try.prog 20 #[.pointer (some ⟨S, 0, none⟩)] X fun e w' => e = .returned (.int .i64 0) ∧ ∃ tag', Dv w w' B tag' (d2 us true false true) S true) := ⟨fun X B tag S h => dv_sync h (d1_sm us true false (by omega)).1⟩
  have HSc : Kpt (∀ (X : World) (B : Nat) (tag : Tags) (st : St) (S : Nat) (ca : Bool), Dv w X B tag st S ca → Calls Try.prog 22 #[.pointer (some ⟨S, 0, none⟩), .bool true] X fun e w' => e = .returned (.tuple #[]) ∧ Dv w w' B tag st S true) := ⟨fun X B tag st S ca h => dv_cache h true⟩
  have HW2 : Kpt (∀ (X : World) (B : Nat) (tag : Tags) (S : Nat), Dv w X B tag (d2 us true false true) S true → Calls Try.prog 16 #[.pointer (some ⟨S, 0, none⟩), .int .i64 5, .slice a2 k c2, .bool false] X fun e w' => e = .returned (.tuple #[.int .i64 k, .int .i64 0]) ∧ ∃ tag', Dv w w' B tag' (d3 us vs true false true) S true) := ⟨fun X B tag S h => by
    have := dv_write h (d2_sm us true false true (by omega)).1 false (.slice a2 k c2) vs hv o2 (by omega) hbv
    rw [show settled true false vs.length = true from by simp [settled], if_pos rfl] at this
    unfold d3
    rw [lv] at this ⊢
    exact this⟩
  have hsf : safeB us.length true false true = true := by
    rw [lu]
    have hd : decide (0 < n) = false := decide_eq_false (by omega)
    rw [safeB, hd]
    rfl
  have HC : Kpt (∀ (X : World) (B : Nat) (tag : Tags) (S : Nat), Dv w X B tag (d3 us vs true false true) S true → Calls Try.prog 25 #[.pointer (some ⟨B, 0, none⟩), .int .i64 (keep : Int), .int .i64 (cut : Int)] X fun e w' => e = .returned (.tuple #[]) ∧ ∃ tag' st', Dv w w' B tag' st' S true ∧ st'.cnt ≤ 2000 ∧ (∀ i, st'.fails i = false) ∧ (∀ zs, st'.seen nmF = some zs → Byts zs) ∧ ∀ i, i < n → Seen us vs true cut (st'.seen nmF) i) := ⟨fun X B tag S h => by
    refine (dv_crash h (d3_sm us vs true false true (by omega) (by omega)) keep cut kb cb).mono ?_
    rintro e w' ⟨rfl, tag', st', hD, hs, hc, hf⟩
    obtain ⟨k1, k2⟩ := dur_all us vs true false true keep cut ou.out ov.out (by omega) (st'.seen nmF) (by rw [hs])
    rw [hsf] at k2
    exact ⟨rfl, tag', st', hD, hc, hf, k1, fun i hi => k2 i (by omega)⟩⟩
  have HR : Kpt (∀ (X : World) (B : Nat) (tag : Tags) (st : St) (S : Nat), Dv w X B tag st S true → st.cnt ≤ 2000 → (∀ i, st.fails i = false) → (∀ zs, st.seen nmF = some zs → Byts zs) → Calls Try.prog 13 #[.pointer (some ⟨S, 0, none⟩), .int .i64 5, .int .i64 n] X fun e w' => ∃ g, e = .returned (.tuple #[.slice (some ⟨g, 0, none⟩) n n, .int .i64 n, .int .i64 0]) ∧ Below w.heap.size w w' ∧ g < w'.heap.size ∧ ∀ j, j < n → (blkAt (st.seen nmF) (5 + j)).ok ∧ w'.rangeAt g (j * 19) (blkAt (st.seen nmF) (5 + j)).cs) := ⟨fun X B tag st S h h1 h2 h3 => dv_read h h1 h2 h3 n hn⟩
  replace hu := Kpt.mk hu
  replace hv := Kpt.mk hv
  replace lu := Kpt.mk lu
  replace lv := Kpt.mk lv
  replace o1 := Kpt.mk o1
  replace o2 := Kpt.mk o2
  have m0 : Kpt True := ⟨trivial⟩
  have hp1 : ¬ (0 : Int) < n := by omega
  have hcz : (0 : Int) ≤ cut := by omega
  clear hsf hbu hbv
  replace hpos := Kpt.mk hpos
  go_enter Try.func4, Try.ntmps4
  go_wp2_with (first | (go_at_call 13; go_must (refine (HR.out _ B tag4 st4 S2 hD8.out hc4.out hf4.out hby4.out).mono ?_; rintro e x9 ⟨g3, rfl, hx9, hg3, hrow⟩; replace hx9 := Kpt.mk hx9; replace hrow := Kpt.mk hrow; clear hD8)) | (go_at_call 12; have hmm := m6; go_must (refine (HO.out true _ B tag4 st4 hD7.out.wd hD7.out.bel hD7.out.lo).mono ?_; rintro e x8 ⟨S2, rfl, hD8⟩; replace hD8 := Kpt.mk hD8; clear hmm m6 hD7)) | (go_at_call 25; have hmm := m5; go_must (refine (HC.out _ B tag3 S hD6.out).mono ?_; rintro e x7 ⟨rfl, tag4, st4, hD7, hc4, hf4, hby4, hse⟩; replace hD7 := Kpt.mk hD7; replace hc4 := Kpt.mk hc4; replace hf4 := Kpt.mk hf4; replace hby4 := Kpt.mk hby4; replace hse := Kpt.mk hse; clear hmm m5 hD6; have m6 : Kpt True := ⟨trivial⟩)) | (go_at_call 16; have hmm := m4; go_must (refine (HW2.out _ B tag2 S hD5.out).mono ?_; rintro e x6 ⟨rfl, tag3, hD6⟩; replace hD6 := Kpt.mk hD6; clear hmm m4 hD5; have m5 : Kpt True := ⟨trivial⟩)) | (go_at_call 22; have hmm := m3; go_must (refine (HSc.out _ B tag2 _ S _ hD4.out).mono ?_; rintro e x5 ⟨rfl, hD5⟩; replace hD5 := Kpt.mk hD5; clear hmm m3 hD4; have m4 : Kpt True := ⟨trivial⟩)) | (go_at_call 20; have hmm := m2; go_must (refine (HSy.out _ B tag1 S hD3.out).mono ?_; rintro e x4 ⟨rfl, tag2, hD4⟩; replace hD4 := Kpt.mk hD4; clear hmm m2 hD3; have m3 : Kpt True := ⟨trivial⟩)) | (go_at_call 16; have hmm := m1; go_must (refine (HW1.out _ B tag S hD2.out).mono ?_; rintro e x3 ⟨rfl, tag1, hD3⟩; replace hD3 := Kpt.mk hD3; clear hmm m1 hD2; have m2 : Kpt True := ⟨trivial⟩)) | (go_at_call 12; have hmm := mO; go_must (refine (HO.out true _ B tag st0 hW2.out hb2.out ht2.out).mono ?_; rintro e x2 ⟨S, rfl, hD2⟩; replace hD2 := Kpt.mk hD2; clear hmm mO hW2 hb2 ht2; have m1 : Kpt True := ⟨trivial⟩)) | (go_at_call 10; have hmm := mN; go_must (refine (HN.out _).mono ?_; rintro e w2 ⟨B, tag, rfl, hW2, hg2, ht2⟩; have hb2 : Kpt (Below w.heap.size w w2) := ⟨hb1.out.trans (((Below.refl _ _).grown hg2 (Nat.le_refl _) (fun k hk => by cases hk)).mono hb1.out.size)⟩; have ht2 : Kpt (∀ i, i < w.heap.size → tag i = none) := ⟨fun i hi => ht2 i (Nat.lt_of_lt_of_le hi hb1.out.size)⟩; replace hW2 := Kpt.mk hW2; clear hg2 hmm mN hb1; have mO : Kpt True := ⟨trivial⟩)) | (go_at_call 9; have hmm := m0; go_must (refine HA.out.mono ?_; rintro e w1 ⟨rfl, hb1⟩; replace hb1 := Kpt.mk hb1; clear hmm m0 HA; have mN : Kpt True := ⟨trivial⟩)))
  clear HO HW1 HW2 HSy HSc HC HR HN hc4 hf4 hby4 hp1
  go_loopw [29] (fun t wr => ∃ i : Nat, i ≤ n ∧ t = .int .i64 i ∧ Kpt (Below x9.heap.size x9 wr)) (fun t _ => n - (intOf t).toNat)
  case atStart => exact ⟨0, Nat.zero_le _, rfl, ⟨Below.refl _ _⟩⟩
  case round =>
    obtain ⟨i, hi, rfl, hB⟩ := hrel
    by_cases hlt : i < n
    · have hpo := hpos.out
      omega
    · have el : ¬ (i : Int) < n := by omega
      obtain rfl : i = n := by omega
      have hz : Kpt (Below w.heap.size w wr) := ⟨hx9.out.trans (hB.out.mono hx9.out.size)⟩
      go_wp2
      go_ret
      exact ⟨rfl, hz.out⟩

set_option maxRecDepth 100000 in
set_option maxHeartbeats 8000000 in
theorem dur_z1ff (a1 a2 : Option Addr) (n1 c1 n2 c2 n k keep cut : Nat) (us vs : List Bk)  (w : World) (hu : Bks w (.slice a1 n c1) us) (lu : us.length = n) (hv : Bks w (.slice a2 k c2) vs) (lv : vs.length = k)
    (o1 : ∀ g, (Value.slice a1 n c1).ownBlock = some g → g < w.heap.size) (o2 : ∀ g, (Value.slice a2 k c2).ownBlock = some g → g < w.heap.size) (e1 : min (n1 : Int) 30 = (n : Int)) (e2 : min (n2 : Int) (n : Int) = (k : Int))
    (hn : n ≤ 30) (hk : k ≤ n) (h1 : n ≤ n1) (h1c : n1 ≤ c1) (h2 : k ≤ n2) (h2c : n2 ≤ c2) (kb : keep ≤ 255) (cb : cut ≤ 255) (hpos : n = 0) :
    Calls Try.prog 4 #[.slice a1 n1 c1, .slice a2 n2 c2, .bool false, .bool true, .bool false, .int .u8 (keep : Int), .int .u8 (cut : Int)] w fun e w' => e = .returned (.bool true) ∧ Below w.heap.size w w' := by
  have ou : Kpt (∀ b ∈ us, b.ok) := ⟨fun b hb => by obtain ⟨a', c', _, _, h⟩ := hu; obtain ⟨j, hj, rfl⟩ := List.getElem_of_mem hb; exact (h j _ (List.getElem?_eq_getElem hj)).1⟩
  have ov : Kpt (∀ b ∈ vs, b.ok) := ⟨fun b hb => by obtain ⟨a', c', _, _, h⟩ := hv; obtain ⟨j, hj, rfl⟩ := List.getElem_of_mem hb; exact (h j _ (List.getElem?_eq_getElem hj)).1⟩
  have HA := Kpt.mk (awake_any w)
  have HN := Kpt.mk new_any
  have HE := Kpt.mk rempty_any
  have HO : Kpt (∀ (ca : Bool) (X : World) (B : Nat) (tag : Tags) (st : St), Wd X B tag st → Below w.heap.size w X → (∀ i, i < w.heap.size → tag i = none) → Calls Try.prog 12 #[.pointer (some ⟨B, 0, none⟩), .string nmF, .int .i64 64, .bool ca] X fun e w' => ∃ S, e = .returned (.tuple #[.pointer (some ⟨S, 0, none⟩), .int .i64 0]) ∧ Dv w w' B tag st S ca) := ⟨fun ca X B tag st h1 h2 h3 => dv_open h1 h2 h3 ca⟩
  have hbu : ∀ {X : World}, Below w.heap.size w X → Bks X (.slice a1 n c1) us := fun hX => hu.bel hX
  have hbv : ∀ {X : World}, Below w.heap.size w X → Bks X (.slice a2 k c2) vs := fun hX => hv.bel hX
  have HW1 : Kpt (∀ (X : World) (B : Nat) (tag : Tags) (S : Nat), Dv w X B tag st0 S false → Calls Try.prog 16 #[.pointer (some ⟨S, 0, none⟩), .int .i64 5, .slice a1 n c1, .bool false] X fun e w' => e = .returned (.tuple #[.int .i64 n, .int .i64 0]) ∧ ∃ tag', Dv w w' B tag' (d1 us false false) S false) := ⟨fun X B tag S h => by
    have := dv_write h ⟨by decide, by decide, st0_fails, fun c hc => by cases hc⟩ false (.slice a1 n c1) us hu o1 (by omega) hbu
    rw [lu] at this
    unfold d1
    rw [lu]
    exact this⟩
  have HSy : Kpt (∀ (X : World) (B : Nat) (tag : Tags) (S : Nat), Dv w X B tag (d1 us false false) S false → Calls Try.prog 20 #[.pointer (some ⟨S, 0, none⟩)] X fun e w' => e = .returned (.int .i64 0) ∧ ∃ tag', Dv w w' B tag' (d2 us false false true) S false) := ⟨fun X B tag S h => dv_sync h (d1_sm us false false (by omega)).1⟩
  have HSc : Kpt (∀ (X : World) (B : Nat) (tag : Tags) (st : St) (S : Nat) (ca : Bool), Dv w X B tag st S ca → Calls Try.prog 22 #[.pointer (some ⟨S, 0, none⟩), .bool true] X fun e w' => e = .returned (.tuple #[]) ∧ Dv w w' B tag st S true) := ⟨fun X B tag st S ca h => dv_cache h true⟩
  have HW2 : Kpt (∀ (X : World) (B : Nat) (tag : Tags) (S : Nat), Dv w X B tag (d2 us false false true) S true → Calls Try.prog 16 #[.pointer (some ⟨S, 0, none⟩), .int .i64 5, .slice a2 k c2, .bool false] X fun e w' => e = .returned (.tuple #[.int .i64 k, .int .i64 0]) ∧ ∃ tag', Dv w w' B tag' (d3 us vs false false true) S true) := ⟨fun X B tag S h => by
    have := dv_write h (d2_sm us false false true (by omega)).1 false (.slice a2 k c2) vs hv o2 (by omega) hbv
    rw [show settled true false vs.length = true from by simp [settled], if_pos rfl] at this
    unfold d3
    rw [lv] at this ⊢
    exact this⟩
  have hsf : safeB us.length false false true = true := by
    rw [lu]
    have hd : decide (0 < n) = false := decide_eq_false (by omega)
    rw [safeB, hd]
    rfl
  have HC : Kpt (∀ (X : World) (B : Nat) (tag : Tags) (S : Nat), Dv w X B tag (d3 us vs false false true) S true → Calls Try.prog 25 #[.pointer (some ⟨B, 0, none⟩), .int .i64 (keep : Int), .int .i64 (cut : Int)] X fun e w' => e = .returned (.tuple #[]) ∧ ∃ tag' st', Dv w w' B tag' st' S true ∧ st'.cnt ≤ 2000 ∧ (∀ i, st'.fails i = false) ∧ (∀ zs, st'.seen nmF = some zs → Byts zs) ∧ ∀ i, i < n → Seen us vs true cut (st'.seen nmF) i) := ⟨fun X B tag S h => by
    refine (dv_crash h (d3_sm us vs false false true (by omega) (by omega)) keep cut kb cb).mono ?_
    rintro e w' ⟨rfl, tag', st', hD, hs, hc, hf⟩
    obtain ⟨k1, k2⟩ := dur_all us vs false false true keep cut ou.out ov.out (by omega) (st'.seen nmF) (by rw [hs])
    rw [hsf] at k2
    exact ⟨rfl, tag', st', hD, hc, hf, k1, fun i hi => k2 i (by omega)⟩⟩
  have HR : Kpt (∀ (X : World) (B : Nat) (tag : Tags) (st : St) (S : Nat), Dv w X B tag st S true → st.cnt ≤ 2000 → (∀ i, st.fails i = false) → (∀ zs, st.seen nmF = some zs → Byts zs) → Calls Try.prog 13 #[.pointer (some ⟨S, 0, none⟩), .int .i64 5, .int .i64 n] X fun e w' => ∃ g, e = .returned (.tuple #[.slice (some ⟨g, 0, none⟩) n n, .int .i64 n, .int .i64 0]) ∧ Below w.heap.size w w' ∧ g < w'.heap.size ∧ ∀ j, j < n → (blkAt (st.seen nmF) (5 + j)).ok ∧ w'.rangeAt g (j * 19) (blkAt (st.seen nmF) (5 + j)).cs) := ⟨fun X B tag st S h h1 h2 h3 => dv_read h h1 h2 h3 n hn⟩
  replace hu := Kpt.mk hu
  replace hv := Kpt.mk hv
  replace lu := Kpt.mk lu
  replace lv := Kpt.mk lv
  replace o1 := Kpt.mk o1
  replace o2 := Kpt.mk o2
  have m0 : Kpt True := ⟨trivial⟩
  have hp1 : ¬ (0 : Int) < n := by omega
  have hcz : (0 : Int) ≤ cut := by omega
  clear hsf hbu hbv
  replace hpos := Kpt.mk hpos
  go_enter Try.func4, Try.ntmps4
  go_wp2_with (first | (go_at_call 13; go_must (refine (HR.out _ B tag4 st4 S2 hD8.out hc4.out hf4.out hby4.out).mono ?_; rintro e x9 ⟨g3, rfl, hx9, hg3, hrow⟩; replace hx9 := Kpt.mk hx9; replace hrow := Kpt.mk hrow; clear hD8)) | (go_at_call 12; have hmm := m6; go_must (refine (HO.out true _ B tag4 st4 hD7.out.wd hD7.out.bel hD7.out.lo).mono ?_; rintro e x8 ⟨S2, rfl, hD8⟩; replace hD8 := Kpt.mk hD8; clear hmm m6 hD7)) | (go_at_call 25; have hmm := m5; go_must (refine (HC.out _ B tag3 S hD6.out).mono ?_; rintro e x7 ⟨rfl, tag4, st4, hD7, hc4, hf4, hby4, hse⟩; replace hD7 := Kpt.mk hD7; replace hc4 := Kpt.mk hc4; replace hf4 := Kpt.mk hf4; replace hby4 := Kpt.mk hby4; replace hse := Kpt.mk hse; clear hmm m5 hD6; have m6 : Kpt True := ⟨trivial⟩)) | (go_at_call 16; have hmm := m4; go_must (refine (HW2.out _ B tag2 S hD5.out).mono ?_; rintro e x6 ⟨rfl, tag3, hD6⟩; replace hD6 := Kpt.mk hD6; clear hmm m4 hD5; have m5 : Kpt True := ⟨trivial⟩)) | (go_at_call 22; have hmm := m3; go_must (refine (HSc.out _ B tag2 _ S _ hD4.out).mono ?_; rintro e x5 ⟨rfl, hD5⟩; replace hD5 := Kpt.mk hD5; clear hmm m3 hD4; have m4 : Kpt True := ⟨trivial⟩)) | (go_at_call 20; have hmm := m2; go_must (refine (HSy.out _ B tag1 S hD3.out).mono ?_; rintro e x4 ⟨rfl, tag2, hD4⟩; replace hD4 := Kpt.mk hD4; clear hmm m2 hD3; have m3 : Kpt True := ⟨trivial⟩)) | (go_at_call 16; have hmm := m1; go_must (refine (HW1.out _ B tag S hD2.out).mono ?_; rintro e x3 ⟨rfl, tag1, hD3⟩; replace hD3 := Kpt.mk hD3; clear hmm m1 hD2; have m2 : Kpt True := ⟨trivial⟩)) | (go_at_call 12; have hmm := mO; go_must (refine (HO.out false _ B tag st0 hW2.out hb2.out ht2.out).mono ?_; rintro e x2 ⟨S, rfl, hD2⟩; replace hD2 := Kpt.mk hD2; clear hmm mO hW2 hb2 ht2; have m1 : Kpt True := ⟨trivial⟩)) | (go_at_call 10; have hmm := mN; go_must (refine (HN.out _).mono ?_; rintro e w2 ⟨B, tag, rfl, hW2, hg2, ht2⟩; have hb2 : Kpt (Below w.heap.size w w2) := ⟨hb1.out.trans (((Below.refl _ _).grown hg2 (Nat.le_refl _) (fun k hk => by cases hk)).mono hb1.out.size)⟩; have ht2 : Kpt (∀ i, i < w.heap.size → tag i = none) := ⟨fun i hi => ht2 i (Nat.lt_of_lt_of_le hi hb1.out.size)⟩; replace hW2 := Kpt.mk hW2; clear hg2 hmm mN hb1; have mO : Kpt True := ⟨trivial⟩)) | (go_at_call 9; have hmm := m0; go_must (refine HA.out.mono ?_; rintro e w1 ⟨rfl, hb1⟩; replace hb1 := Kpt.mk hb1; clear hmm m0 HA; have mN : Kpt True := ⟨trivial⟩)))
  clear HO HW1 HW2 HSy HSc HC HR HN hc4 hf4 hby4 hp1
  go_loopw [29] (fun t wr => ∃ i : Nat, i ≤ n ∧ t = .int .i64 i ∧ Kpt (Below x9.heap.size x9 wr)) (fun t _ => n - (intOf t).toNat)
  case atStart => exact ⟨0, Nat.zero_le _, rfl, ⟨Below.refl _ _⟩⟩
  case round =>
    obtain ⟨i, hi, rfl, hB⟩ := hrel
    by_cases hlt : i < n
    · have hpo := hpos.out
      omega
    · have el : ¬ (i : Int) < n := by omega
      obtain rfl : i = n := by omega
      have hz : Kpt (Below w.heap.size w wr) := ⟨hx9.out.trans (hB.out.mono hx9.out.size)⟩
      go_wp2
      go_ret
      exact ⟨rfl, hz.out⟩

set_option maxRecDepth 100000 in
set_option maxHeartbeats 8000000 in
theorem dur_z0tt (a1 a2 : Option Addr) (n1 c1 n2 c2 n k keep cut : Nat) (us vs : List Bk)  (w : World) (hu : Bks w (.slice a1 n c1) us) (lu : us.length = n) (hv : Bks w (.slice a2 k c2) vs) (lv : vs.length = k)
    (o1 : ∀ g, (Value.slice a1 n c1).ownBlock = some g → g < w.heap.size) (o2 : ∀ g, (Value.slice a2 k c2).ownBlock = some g → g < w.heap.size) (e1 : min (n1 : Int) 30 = (n : Int)) (e2 : min (n2 : Int) (n : Int) = (k : Int))
    (hn : n ≤ 30) (hk : k ≤ n) (h1 : n ≤ n1) (h1c : n1 ≤ c1) (h2 : k ≤ n2) (h2c : n2 ≤ c2) (kb : keep ≤ 255) (cb : cut ≤ 255) (hpos : n = 0) :
    Calls Try.prog 4 #[.slice a1 n1 c1, .slice a2 n2 c2, .bool true, .bool false, .bool true, .int .u8 (keep : Int), .int .u8 (cut : Int)] w fun e w' => e = .returned (.bool true) ∧ Below w.heap.size w w' := by
  have ou : Kpt (∀ b ∈ us, b.ok) := ⟨fun b hb => by obtain ⟨a', c', _, _, h⟩ := hu; obtain ⟨j, hj, rfl⟩ := List.getElem_of_mem hb; exact (h j _ (List.getElem?_eq_getElem hj)).1⟩
  have ov : Kpt (∀ b ∈ vs, b.ok) := ⟨fun b hb => by obtain ⟨a', c', _, _, h⟩ := hv; obtain ⟨j, hj, rfl⟩ := List.getElem_of_mem hb; exact (h j _ (List.getElem?_eq_getElem hj)).1⟩
  have HA := Kpt.mk (awake_any w)
  have HN := Kpt.mk new_any
  have HE := Kpt.mk rempty_any
  have HO : Kpt (∀ (ca : Bool) (X : World) (B : Nat) (tag : Tags) (st : St), Wd X B tag st → Below w.heap.size w X → (∀ i, i < w.heap.size → tag i = none) → Calls Try.prog 12 #[.pointer (some ⟨B, 0, none⟩), .string nmF, .int .i64 64, .bool ca] X fun e w' => ∃ S, e = .returned (.tuple #[.pointer (some ⟨S, 0, none⟩), .int .i64 0]) ∧ Dv w w' B tag st S ca) := ⟨fun ca X B tag st h1 h2 h3 => dv_open h1 h2 h3 ca⟩
  have hbu : ∀ {X : World}, Below w.heap.size w X → Bks X (.slice a1 n c1) us := fun hX => hu.bel hX
  have hbv : ∀ {X : World}, Below w.heap.size w X → Bks X (.slice a2 k c2) vs := fun hX => hv.bel hX
  have HW1 : Kpt (∀ (X : World) (B : Nat) (tag : Tags) (S : Nat), Dv w X B tag st0 S true → Calls Try.prog 16 #[.pointer (some ⟨S, 0, none⟩), .int .i64 5, .slice a1 n c1, .bool true] X fun e w' => e = .returned (.tuple #[.int .i64 n, .int .i64 0]) ∧ ∃ tag', Dv w w' B tag' (d1 us true true) S true) := ⟨fun X B tag S h => by
    have := dv_write h ⟨by decide, by decide, st0_fails, fun c hc => by cases hc⟩ true (.slice a1 n c1) us hu o1 (by omega) hbu
    rw [lu] at this
    unfold d1
    rw [lu]
    exact this⟩
  have HSy : Kpt (∀ (X : World) (B : Nat) (tag : Tags) (S : Nat), Dv w X B tag (d1 us true true) S true → Calls Try.prog 20 #[.pointer (some ⟨S, 0, none⟩)] X fun e w' => e = .returned (.int .i64 0) ∧ ∃ tag', Dv w w' B tag' (d2 us true true true) S true) := ⟨fun X B tag S h => dv_sync h (d1_sm us true true (by omega)).1⟩
  have HSc : Kpt (∀ (X : World) (B : Nat) (tag : Tags) (st : St) (S : Nat) (ca : Bool), Dv w X B tag st S ca → Calls Try.prog 22 #[.pointer (some ⟨S, 0, none⟩), .bool true] X fun e w' => e = .returned (.tuple #[]) ∧ Dv w w' B tag st S true) := ⟨fun X B tag st S ca h => dv_cache h true⟩
  have HW2 : Kpt (∀ (X : World) (B : Nat) (tag : Tags) (S : Nat), Dv w X B tag (d2 us true true false) S true → Calls Try.prog 16 #[.pointer (some ⟨S, 0, none⟩), .int .i64 5, .slice a2 k c2, .bool false] X fun e w' => e = .returned (.tuple #[.int .i64 k, .int .i64 0]) ∧ ∃ tag', Dv w w' B tag' (d3 us vs true true false) S true) := ⟨fun X B tag S h => by
    have := dv_write h (d2_sm us true true false (by omega)).1 false (.slice a2 k c2) vs hv o2 (by omega) hbv
    rw [show settled true false vs.length = true from by simp [settled], if_pos rfl] at this
    unfold d3
    rw [lv] at this ⊢
    exact this⟩
  have hsf : safeB us.length true true false = false := by
    rw [lu]
    have hd : decide (0 < n) = false := decide_eq_false (by omega)
    rw [safeB, hd]
    rfl
  have HC : Kpt (∀ (X : World) (B : Nat) (tag : Tags) (S : Nat), Dv w X B tag (d3 us vs true true false) S true → Calls Try.prog 25 #[.pointer (some ⟨B, 0, none⟩), .int .i64 (keep : Int), .int .i64 (cut : Int)] X fun e w' => e = .returned (.tuple #[]) ∧ ∃ tag' st', Dv w w' B tag' st' S true ∧ st'.cnt ≤ 2000 ∧ (∀ i, st'.fails i = false) ∧ (∀ zs, st'.seen nmF = some zs → Byts zs) ∧ ∀ i, i < n → Seen us vs false cut (st'.seen nmF) i) := ⟨fun X B tag S h => by
    refine (dv_crash h (d3_sm us vs true true false (by omega) (by omega)) keep cut kb cb).mono ?_
    rintro e w' ⟨rfl, tag', st', hD, hs, hc, hf⟩
    obtain ⟨k1, k2⟩ := dur_all us vs true true false keep cut ou.out ov.out (by omega) (st'.seen nmF) (by rw [hs])
    rw [hsf] at k2
    exact ⟨rfl, tag', st', hD, hc, hf, k1, fun i hi => k2 i (by omega)⟩⟩
  have HR : Kpt (∀ (X : World) (B : Nat) (tag : Tags) (st : St) (S : Nat), Dv w X B tag st S true → st.cnt ≤ 2000 → (∀ i, st.fails i = false) → (∀ zs, st.seen nmF = some zs → Byts zs) → Calls Try.prog 13 #[.pointer (some ⟨S, 0, none⟩), .int .i64 5, .int .i64 n] X fun e w' => ∃ g, e = .returned (.tuple #[.slice (some ⟨g, 0, none⟩) n n, .int .i64 n, .int .i64 0]) ∧ Below w.heap.size w w' ∧ g < w'.heap.size ∧ ∀ j, j < n → (blkAt (st.seen nmF) (5 + j)).ok ∧ w'.rangeAt g (j * 19) (blkAt (st.seen nmF) (5 + j)).cs) := ⟨fun X B tag st S h h1 h2 h3 => dv_read h h1 h2 h3 n hn⟩
  replace hu := Kpt.mk hu
  replace hv := Kpt.mk hv
  replace lu := Kpt.mk lu
  replace lv := Kpt.mk lv
  replace o1 := Kpt.mk o1
  replace o2 := Kpt.mk o2
  have m0 : Kpt True := ⟨trivial⟩
  have hp1 : ¬ (0 : Int) < n := by omega
  have hcz : (0 : Int) ≤ cut := by omega
  clear hsf hbu hbv
  replace hpos := Kpt.mk hpos
  go_enter Try.func4, Try.ntmps4
  go_wp2_with (first | (go_at_call 13; go_must (refine (HR.out _ B tag4 st4 S2 hD8.out hc4.out hf4.out hby4.out).mono ?_; rintro e x9 ⟨g3, rfl, hx9, hg3, hrow⟩; replace hx9 := Kpt.mk hx9; replace hrow := Kpt.mk hrow; clear hD8)) | (go_at_call 12; have hmm := m6; go_must (refine (HO.out true _ B tag4 st4 hD7.out.wd hD7.out.bel hD7.out.lo).mono ?_; rintro e x8 ⟨S2, rfl, hD8⟩; replace hD8 := Kpt.mk hD8; clear hmm m6 hD7)) | (go_at_call 25; have hmm := m5; go_must (refine (HC.out _ B tag3 S hD6.out).mono ?_; rintro e x7 ⟨rfl, tag4, st4, hD7, hc4, hf4, hby4, hse⟩; replace hD7 := Kpt.mk hD7; replace hc4 := Kpt.mk hc4; replace hf4 := Kpt.mk hf4; replace hby4 := Kpt.mk hby4; replace hse := Kpt.mk hse; clear hmm m5 hD6; have m6 : Kpt True := ⟨trivial⟩)) | (go_at_call 16; have hmm := m4; go_must (refine (HW2.out _ B tag2 S hD5.out).mono ?_; rintro e x6 ⟨rfl, tag3, hD6⟩; replace hD6 := Kpt.mk hD6; clear hmm m4 hD5; have m5 : Kpt True := ⟨trivial⟩)) | (go_at_call 22; have hmm := m3; go_must (refine (HSc.out _ B tag2 _ S _ hD4.out).mono ?_; rintro e x5 ⟨rfl, hD5⟩; replace hD5 := Kpt.mk hD5; clear hmm m3 hD4; have m4 : Kpt True := ⟨trivial⟩)) | (go_at_call 16; have hmm := m1; go_must (refine (HW1.out _ B tag S hD2.out).mono ?_; rintro e x3 ⟨rfl, tag2, hD4⟩; replace hD4 := Kpt.mk hD4; clear hmm m1 hD2; have m3 : Kpt True := ⟨trivial⟩)) | (go_at_call 12; have hmm := mO; go_must (refine (HO.out true _ B tag st0 hW2.out hb2.out ht2.out).mono ?_; rintro e x2 ⟨S, rfl, hD2⟩; replace hD2 := Kpt.mk hD2; clear hmm mO hW2 hb2 ht2; have m1 : Kpt True := ⟨trivial⟩)) | (go_at_call 10; have hmm := mN; go_must (refine (HN.out _).mono ?_; rintro e w2 ⟨B, tag, rfl, hW2, hg2, ht2⟩; have hb2 : Kpt (Below w.heap.size w w2) := ⟨hb1.out.trans (((Below.refl _ _).grown hg2 (Nat.le_refl _) (fun k hk => by cases hk)).mono hb1.out.size)⟩; have ht2 : Kpt (∀ i, i < w.heap.size → tag i = none) := ⟨fun i hi => ht2 i (Nat.lt_of_lt_of_le hi hb1.out.size)⟩; replace hW2 := Kpt.mk hW2; clear hg2 hmm mN hb1; have mO : Kpt True := ⟨trivial⟩)) | (go_at_call 9; have hmm := m0; go_must (refine HA.out.mono ?_; rintro e w1 ⟨rfl, hb1⟩; replace hb1 := Kpt.mk hb1; clear hmm m0 HA; have mN : Kpt True := ⟨trivial⟩)))
  clear HO HW1 HW2 HSy HSc HC HR HN hc4 hf4 hby4 hp1
  go_loopw [29] (fun t wr => ∃ i : Nat, i ≤ n ∧ t = .int .i64 i ∧ Kpt (Below x9.heap.size x9 wr)) (fun t _ => n - (intOf t).toNat)
  case atStart => exact ⟨0, Nat.zero_le _, rfl, ⟨Below.refl _ _⟩⟩
  case round =>
    obtain ⟨i, hi, rfl, hB⟩ := hrel
    by_cases hlt : i < n
    · have hpo := hpos.out
      omega
    · have el : ¬ (i : Int) < n := by omega
      obtain rfl : i = n := by omega
      have hz : Kpt (Below w.heap.size w wr) := ⟨hx9.out.trans (hB.out.mono hx9.out.size)⟩
      go_wp2
      go_ret
      exact ⟨rfl, hz.out⟩

set_option maxRecDepth 100000 in
set_option maxHeartbeats 8000000 in
theorem dur_z0tf (a1 a2 : Option Addr) (n1 c1 n2 c2 n k keep cut : Nat) (us vs : List Bk)  (w : World) (hu : Bks w (.slice a1 n c1) us) (lu : us.length = n) (hv : Bks w (.slice a2 k c2) vs) (lv : vs.length = k)
    (o1 : ∀ g, (Value.slice a1 n c1).ownBlock = some g → g < w.heap.size) (o2 : ∀ g, (Value.slice a2 k c2).ownBlock = some g → g < w.heap.size) (e1 : min (n1 : Int) 30 = (n : Int)) (e2 : min (n2 : Int) (n : Int) = (k : Int))
    (hn : n ≤ 30) (hk : k ≤ n) (h1 : n ≤ n1) (h1c : n1 ≤ c1) (h2 : k ≤ n2) (h2c : n2 ≤ c2) (kb : keep ≤ 255) (cb : cut ≤ 255) (hpos : n = 0) :
    Calls Try.prog 4 #[.slice a1 n1 c1, .slice a2 n2 c2, .bool true, .bool false, .bool false, .int .u8 (keep : Int), .int .u8 (cut : Int)] w fun e w' => e = .returned (.bool true) ∧ Below w.heap.size w w' := by
  have ou : Kpt (∀ b ∈ us, b.ok) := ⟨fun b hb => by obtain ⟨a', c', _, _, h⟩ := hu; obtain ⟨j, hj, rfl⟩ := List.getElem_of_mem hb; exact (h j _ (List.getElem?_eq_getElem hj)).1⟩
  have ov : Kpt (∀ b ∈ vs, b.ok) := ⟨fun b hb => by obtain ⟨a', c', _, _, h⟩ := hv; obtain ⟨j, hj, rfl⟩ := List.getElem_of_mem hb; exact (h j _ (List.getElem?_eq_getElem hj)).1⟩
  have HA := Kpt.mk (awake_any w)
  have HN := Kpt.mk new_any
  have HE := Kpt.mk rempty_any
  have HO : Kpt (∀ (ca : Bool) (X : World) (B : Nat) (tag : Tags) (st : St), Wd X B tag st → Below w.heap.size w X → (∀ i, i < w.heap.size → tag i = none) → Calls Try.prog 12 #[.pointer (some ⟨B, 0, none⟩), .string nmF, .int .i64 64, .bool ca] X fun e w' => ∃ S, e = .returned (.tuple #[.pointer (some ⟨S, 0, none⟩), .int .i64 0]) ∧ Dv w w' B tag st S ca) := ⟨fun ca X B tag st h1 h2 h3 => dv_open h1 h2 h3 ca⟩
  have hbu : ∀ {X : World}, Below w.heap.size w X → Bks X (.slice a1 n c1) us := fun hX => hu.bel hX
  have hbv : ∀ {X : World}, Below w.heap.size w X → Bks X (.slice a2 k c2) vs := fun hX => hv.bel hX
  have HW1 : Kpt (∀ (X : World) (B : Nat) (tag : Tags) (S : Nat), Dv w X B tag st0 S false → Calls Try.prog 16 #[.pointer (some ⟨S, 0, none⟩), .int .i64 5, .slice a1 n c1, .bool true] X fun e w' => e = .returned (.tuple #[.int .i64 n, .int .i64 0]) ∧ ∃ tag', Dv w w' B tag' (d1 us false true) S false) := ⟨fun X B tag S h => by
    have := dv_write h ⟨by decide, by decide, st0_fails, fun c hc => by cases hc⟩ true (.slice a1 n c1) us hu o1 (by omega) hbu
    rw [lu] at this
    unfold d1
    rw [lu]
    exact this⟩
  have HSy : Kpt (∀ (X : World) (B : Nat) (tag : Tags) (S : Nat), Dv w X B tag (d1 us false true) S false → Calls Try.prog 20 #[.pointer (some ⟨S, 0, none⟩)] X fun e w' => e = .returned (.int .i64 0) ∧ ∃ tag', Dv w w' B tag' (d2 us false true true) S false) := ⟨fun X B tag S h => dv_sync h (d1_sm us false true (by omega)).1⟩
  have HSc : Kpt (∀ (X : World) (B : Nat) (tag : Tags) (st : St) (S : Nat) (ca : Bool), Dv w X B tag st S ca → Calls Try.prog 22 #[.pointer (some ⟨S, 0, none⟩), .bool true] X fun e w' => e = .returned (.tuple #[]) ∧ Dv w w' B tag st S true) := ⟨fun X B tag st S ca h => dv_cache h true⟩
  have HW2 : Kpt (∀ (X : World) (B : Nat) (tag : Tags) (S : Nat), Dv w X B tag (d2 us false true false) S true → Calls Try.prog 16 #[.pointer (some ⟨S, 0, none⟩), .int .i64 5, .slice a2 k c2, .bool false] X fun e w' => e = .returned (.tuple #[.int .i64 k, .int .i64 0]) ∧ ∃ tag', Dv w w' B tag' (d3 us vs false true false) S true) := ⟨fun X B tag S h => by
    have := dv_write h (d2_sm us false true false (by omega)).1 false (.slice a2 k c2) vs hv o2 (by omega) hbv
    rw [show settled true false vs.length = true from by simp [settled], if_pos rfl] at this
    unfold d3
    rw [lv] at this ⊢
    exact this⟩
  have hsf : safeB us.length false true false = false := by
    rw [lu]
    have hd : decide (0 < n) = false := decide_eq_false (by omega)
    rw [safeB, hd]
    rfl
  have HC : Kpt (∀ (X : World) (B : Nat) (tag : Tags) (S : Nat), Dv w X B tag (d3 us vs false true false) S true → Calls Try.prog 25 #[.pointer (some ⟨B, 0, none⟩), .int .i64 (keep : Int), .int .i64 (cut : Int)] X fun e w' => e = .returned (.tuple #[]) ∧ ∃ tag' st', Dv w w' B tag' st' S true ∧ st'.cnt ≤ 2000 ∧ (∀ i, st'.fails i = false) ∧ (∀ zs, st'.seen nmF = some zs → Byts zs) ∧ ∀ i, i < n → Seen us vs false cut (st'.seen nmF) i) := ⟨fun X B tag S h => by
    refine (dv_crash h (d3_sm us vs false true false (by omega) (by omega)) keep cut kb cb).mono ?_
    rintro e w' ⟨rfl, tag', st', hD, hs, hc, hf⟩
    obtain ⟨k1, k2⟩ := dur_all us vs false true false keep cut ou.out ov.out (by omega) (st'.seen nmF) (by rw [hs])
    rw [hsf] at k2
    exact ⟨rfl, tag', st', hD, hc, hf, k1, fun i hi => k2 i (by omega)⟩⟩
  have HR : Kpt (∀ (X : World) (B : Nat) (tag : Tags) (st : St) (S : Nat), Dv w X B tag st S true → st.cnt ≤ 2000 → (∀ i, st.fails i = false) → (∀ zs, st.seen nmF = some zs → Byts zs) → Calls Try.prog 13 #[.pointer (some ⟨S, 0, none⟩), .int .i64 5, .int .i64 n] X fun e w' => ∃ g, e = .returned (.tuple #[.slice (some ⟨g, 0, none⟩) n n, .int .i64 n, .int .i64 0]) ∧ Below w.heap.size w w' ∧ g < w'.heap.size ∧ ∀ j, j < n → (blkAt (st.seen nmF) (5 + j)).ok ∧ w'.rangeAt g (j * 19) (blkAt (st.seen nmF) (5 + j)).cs) := ⟨fun X B tag st S h h1 h2 h3 => dv_read h h1 h2 h3 n hn⟩
  replace hu := Kpt.mk hu
  replace hv := Kpt.mk hv
  replace lu := Kpt.mk lu
  replace lv := Kpt.mk lv
  replace o1 := Kpt.mk o1
  replace o2 := Kpt.mk o2
  have m0 : Kpt True := ⟨trivial⟩
  have hp1 : ¬ (0 : Int) < n := by omega
  have hcz : (0 : Int) ≤ cut := by omega
  clear hsf hbu hbv
  replace hpos := Kpt.mk hpos
  go_enter Try.func4, Try.ntmps4
  go_wp2_with (first | (go_at_call 13; go_must (refine (HR.out _ B tag4 st4 S2 hD8.out hc4.out hf4.out hby4.out).mono ?_; rintro e x9 ⟨g3, rfl, hx9, hg3, hrow⟩; replace hx9 := Kpt.mk hx9; replace hrow := Kpt.mk hrow; clear hD8)) | (go_at_call 12; have hmm := m6; go_must (refine (HO.out true _ B tag4 st4 hD7.out.wd hD7.out.bel hD7.out.lo).mono ?_; rintro e x8 ⟨S2, rfl, hD8⟩; replace hD8 := Kpt.mk hD8; clear hmm m6 hD7)) | (go_at_call 25; have hmm := m5; go_must (refine (HC.out _ B tag3 S hD6.out).mono ?_; rintro e x7 ⟨rfl, tag4, st4, hD7, hc4, hf4, hby4, hse⟩; replace hD7 := Kpt.mk hD7; replace hc4 := Kpt.mk hc4; replace hf4 := Kpt.mk hf4; replace hby4 := Kpt.mk hby4; replace hse := Kpt.mk hse; clear hmm m5 hD6; have m6 : Kpt True := ⟨trivial⟩)) | (go_at_call 16; have hmm := m4; go_must (refine (HW2.out _ B tag2 S hD5.out).mono ?_; rintro e x6 ⟨rfl, tag3, hD6⟩; replace hD6 := Kpt.mk hD6; clear hmm m4 hD5; have m5 : Kpt True := ⟨trivial⟩)) | (go_at_call 22; have hmm := m3; go_must (refine (HSc.out _ B tag2 _ S _ hD4.out).mono ?_; rintro e x5 ⟨rfl, hD5⟩; replace hD5 := Kpt.mk hD5; clear hmm m3 hD4; have m4 : Kpt True := ⟨trivial⟩)) | (go_at_call 16; have hmm := m1; go_must (refine (HW1.out _ B tag S hD2.out).mono ?_; rintro e x3 ⟨rfl, tag2, hD4⟩; replace hD4 := Kpt.mk hD4; clear hmm m1 hD2; have m3 : Kpt True := ⟨trivial⟩)) | (go_at_call 12; have hmm := mO; go_must (refine (HO.out false _ B tag st0 hW2.out hb2.out ht2.out).mono ?_; rintro e x2 ⟨S, rfl, hD2⟩; replace hD2 := Kpt.mk hD2; clear hmm mO hW2 hb2 ht2; have m1 : Kpt True := ⟨trivial⟩)) | (go_at_call 10; have hmm := mN; go_must (refine (HN.out _).mono ?_; rintro e w2 ⟨B, tag, rfl, hW2, hg2, ht2⟩; have hb2 : Kpt (Below w.heap.size w w2) := ⟨hb1.out.trans (((Below.refl _ _).grown hg2 (Nat.le_refl _) (fun k hk => by cases hk)).mono hb1.out.size)⟩; have ht2 : Kpt (∀ i, i < w.heap.size → tag i = none) := ⟨fun i hi => ht2 i (Nat.lt_of_lt_of_le hi hb1.out.size)⟩; replace hW2 := Kpt.mk hW2; clear hg2 hmm mN hb1; have mO : Kpt True := ⟨trivial⟩)) | (go_at_call 9; have hmm := m0; go_must (refine HA.out.mono ?_; rintro e w1 ⟨rfl, hb1⟩; replace hb1 := Kpt.mk hb1; clear hmm m0 HA; have mN : Kpt True := ⟨trivial⟩)))
  clear HO HW1 HW2 HSy HSc HC HR HN hc4 hf4 hby4 hp1
  go_loopw [29] (fun t wr => ∃ i : Nat, i ≤ n ∧ t = .int .i64 i ∧ Kpt (Below x9.heap.size x9 wr)) (fun t _ => n - (intOf t).toNat)
  case atStart => exact ⟨0, Nat.zero_le _, rfl, ⟨Below.refl _ _⟩⟩
  case round =>
    obtain ⟨i, hi, rfl, hB⟩ := hrel
    by_cases hlt : i < n
    · have hpo := hpos.out
      omega
    · have el : ¬ (i : Int) < n := by omega
      obtain rfl : i = n := by omega
      have hz : Kpt (Below w.heap.size w wr) := ⟨hx9.out.trans (hB.out.mono hx9.out.size)⟩
      go_wp2
      go_ret
      exact ⟨rfl, hz.out⟩

set_option maxRecDepth 100000 in
set_option maxHeartbeats 8000000 in
theorem dur_z0ft (a1 a2 : Option Addr) (n1 c1 n2 c2 n k keep cut : Nat) (us vs : List Bk)  (w : World) (hu : Bks w (.slice a1 n c1) us) (lu : us.length = n) (hv : Bks w (.slice a2 k c2) vs) (lv : vs.length = k)
    (o1 : ∀ g, (Value.slice a1 n c1).ownBlock = some g → g < w.heap.size) (o2 : ∀ g, (Value.slice a2 k c2).ownBlock = some g → g < w.heap.size) (e1 : min (n1 : Int) 30 = (n : Int)) (e2 : min (n2 : Int) (n : Int) = (k : Int))
    (hn : n ≤ 30) (hk : k ≤ n) (h1 : n ≤ n1) (h1c : n1 ≤ c1) (h2 : k ≤ n2) (h2c : n2 ≤ c2) (kb : keep ≤ 255) (cb : cut ≤ 255) (hpos : n = 0) :
    Calls Try.prog 4 #[.slice a1 n1 c1, .slice a2 n2 c2, .bool false, .bool false, .bool true, .int .u8 (keep : Int), .int .u8 (cut : Int)] w fun e w' => e = .returned (.bool true) ∧ Below w.heap.size w w' := by
  have ou : Kpt (∀ b ∈ us, b.ok) := ⟨fun b hb => by obtain ⟨a', c', _, _, h⟩ := hu; obtain ⟨j, hj, rfl⟩ := List.getElem_of_mem hb; exact (h j _ (List.getElem?_eq_getElem hj)).1⟩
  have ov : Kpt (∀ b ∈ vs, b.ok) := ⟨fun b hb => by obtain ⟨a', c', _, _, h⟩ := hv; obtain ⟨j, hj, rfl⟩ := List.getElem_of_mem hb; exact (h j _ (List.getElem?_eq_getElem hj)).1⟩
  have HA := Kpt.mk (awake_any w)
  have HN := Kpt.mk new_any
  have HE := Kpt.mk rempty_any
  have HO : Kpt (∀ (ca : Bool) (X : World) (B : Nat) (tag : Tags) (st : St), Wd X B tag st → Below w.heap.size w X → (∀ i, i < w.heap.size → tag i = none) → Calls Try.prog 12 #[.pointer (some ⟨B, 0, none⟩), .string nmF, .int .i64 64, .bool ca] X fun e w' => ∃ S, e = .returned (.tuple #[.pointer (some ⟨S, 0, none⟩), .int .i64 0]) ∧ Dv w w' B tag st S ca) := ⟨fun ca X B tag st h1 h2 h3 => dv_open h1 h2 h3 ca⟩
  have hbu : ∀ {X : World}, Below w.heap.size w X → Bks X (.slice a1 n c1) us := fun hX => hu.bel hX
  have hbv : ∀ {X : World}, Below w.heap.size w X → Bks X (.slice a2 k c2) vs := fun hX => hv.bel hX
  have HW1 : Kpt (∀ (X : World) (B : Nat) (tag : Tags) (S : Nat), Dv w X B tag st0 S true → Calls Try.prog 16 #[.pointer (some ⟨S, 0, none⟩), .int .i64 5, .slice a1 n c1, .bool false] X fun e w' => e = .returned (.tuple #[.int .i64 n, .int .i64 0]) ∧ ∃ tag', Dv w w' B tag' (d1 us true false) S true) := ⟨fun X B tag S h => by
    have := dv_write h ⟨by decide, by decide, st0_fails, fun c hc => by cases hc⟩ false (.slice a1 n c1) us hu o1 (by omega) hbu
    rw [lu] at this
    unfold d1
    rw [lu]
    exact this⟩
  have HSy : Kpt (∀ (X : World) (B : Nat) (tag : Tags) (S : Nat), Dv w X B tag (d1 us true false) S true → Calls Try.prog 20 #[.pointer (some ⟨S, 0, none⟩)] X fun e w' => e = .returned (.int .i64 0) ∧ ∃ tag', Dv w w' B tag' (d2 us true false true) S true) := ⟨fun X B tag S h => dv_sync h (d1_sm us true false (by omega)).1⟩
  have HSc : Kpt (∀ (X : World) (B : Nat) (tag : Tags) (st : St) (S : Nat) (ca : Bool), Dv w X B tag st S ca → Calls Try.prog 22 #[.pointer (some ⟨S, 0, none⟩), .bool true] X fun e w' => e = .returned (.tuple #[]) ∧ Dv w w' B tag st S true) := ⟨fun X B tag st S ca h => dv_cache h true⟩
  have HW2 : Kpt (∀ (X : World) (B : Nat) (tag : Tags) (S : Nat), Dv w X B tag (d2 us true false false) S true → Calls Try.prog 16 #[.pointer (some ⟨S, 0, none⟩), .int .i64 5, .slice a2 k c2, .bool false] X fun e w' => e = .returned (.tuple #[.int .i64 k, .int .i64 0]) ∧ ∃ tag', Dv w w' B tag' (d3 us vs true false false) S true) := ⟨fun X B tag S h => by
    have := dv_write h (d2_sm us true false false (by omega)).1 false (.slice a2 k c2) vs hv o2 (by omega) hbv
    rw [show settled true false vs.length = true from by simp [settled], if_pos rfl] at this
    unfold d3
    rw [lv] at this ⊢
    exact this⟩
  have hsf : safeB us.length true false false = false := by
    rw [lu]
    have hd : decide (0 < n) = false := decide_eq_false (by omega)
    rw [safeB, hd]
    rfl
  have HC : Kpt (∀ (X : World) (B : Nat) (tag : Tags) (S : Nat), Dv w X B tag (d3 us vs true false false) S true → Calls Try.prog 25 #[.pointer (some ⟨B, 0, none⟩), .int .i64 (keep : Int), .int .i64 (cut : Int)] X fun e w' => e = .returned (.tuple #[]) ∧ ∃ tag' st', Dv w w' B tag' st' S true ∧ st'.cnt ≤ 2000 ∧ (∀ i, st'.fails i = false) ∧ (∀ zs, st'.seen nmF = some zs → Byts zs) ∧ ∀ i, i < n → Seen us vs false cut (st'.seen nmF) i) := ⟨fun X B tag S h => by
    refine (dv_crash h (d3_sm us vs true false false (by omega) (by omega)) keep cut kb cb).mono ?_
    rintro e w' ⟨rfl, tag', st', hD, hs, hc, hf⟩
    obtain ⟨k1, k2⟩ := dur_all us vs true false false keep cut ou.out ov.out (by omega) (st'.seen nmF) (by rw [hs])
    rw [hsf] at k2
    exact ⟨rfl, tag', st', hD, hc, hf, k1, fun i hi => k2 i (by omega)⟩⟩
  have HR : Kpt (∀ (X : World) (B : Nat) (tag : Tags) (st : St) (S : Nat), Dv w X B tag st S true → st.cnt ≤ 2000 → (∀ i, st.fails i = false) → (∀ zs, st.seen nmF = some zs → Byts zs) → Calls Try.prog 13 #[.pointer (some ⟨S, 0, none⟩), .int .i64 5, .int .i64 n] X fun e w' => ∃ g, e = .returned (.tuple #[.slice (some ⟨g, 0, none⟩) n n, .int .i64 n, .int .i64 0]) ∧ Below w.heap.size w w' ∧ g < w'.heap.size ∧ ∀ j, j < n → (blkAt (st.seen nmF) (5 + j)).ok ∧ w'.rangeAt g (j * 19) (blkAt (st.seen nmF) (5 + j)).cs) := ⟨fun X B tag st S h h1 h2 h3 => dv_read h h1 h2 h3 n hn⟩
  replace hu := Kpt.mk hu
  replace hv := Kpt.mk hv
  replace lu := Kpt.mk lu
  replace lv := Kpt.mk lv
  replace o1 := Kpt.mk o1
  replace o2 := Kpt.mk o2
  have m0 : Kpt True := ⟨trivial⟩
  have hp1 : ¬ (0 : Int) < n := by omega
  have hcz : (0 : Int) ≤ cut := by omega
  clear hsf hbu hbv
  replace hpos := Kpt.mk hpos
  go_enter Try.func4, Try.ntmps4
  go_wp2_with (first | (go_at_call 13; go_must (refine (HR.out _ B tag4 st4 S2 hD8.out hc4.out hf4.out hby4.out).mono ?_; rintro e x9 ⟨g3, rfl, hx9, hg3, hrow⟩; replace hx9 := Kpt.mk hx9; replace hrow := Kpt.mk hrow; clear hD8)) | (go_at_call 12; have hmm := m6; go_must (refine (HO.out true _ B tag4 st4 hD7.out.wd hD7.out.bel hD7.out.lo).mono ?_; rintro e x8 ⟨S2, rfl, hD8⟩; replace hD8 := Kpt.mk hD8; clear hmm m6 hD7)) | (go_at_call 25; have hmm := m5; go_must (refine (HC.out _ B tag3 S hD6.out).mono ?_; rintro e x7 ⟨rfl, tag4, st4, hD7, hc4, hf4, hby4, hse⟩; replace hD7 := Kpt.mk hD7; replace hc4 := Kpt.mk hc4; replace hf4 := Kpt.mk hf4; replace hby4 := Kpt.mk hby4; replace hse := Kpt.mk hse; clear hmm m5 hD6; have m6 : Kpt True := ⟨trivial⟩)) | (go_at_call 16; have hmm := m4; go_must (refine (HW2.out _ B tag2 S hD5.out).mono ?_; rintro e x6 ⟨rfl, tag3, hD6⟩; replace hD6 := Kpt.mk hD6; clear hmm m4 hD5; have m5 : Kpt True := ⟨trivial⟩)) | (go_at_call 22; have hmm := m3; go_must (refine (HSc.out _ B tag2 _ S _ hD4.out).mono ?_; rintro e x5 ⟨rfl, hD5⟩; replace hD5 := Kpt.mk hD5; clear hmm m3 hD4; have m4 : Kpt True := ⟨trivial⟩)) | (go_at_call 16; have hmm := m1; go_must (refine (HW1.out _ B tag S hD2.out).mono ?_; rintro e x3 ⟨rfl, tag2, hD4⟩; replace hD4 := Kpt.mk hD4; clear hmm m1 hD2; have m3 : Kpt True := ⟨trivial⟩)) | (go_at_call 12; have hmm := mO; go_must (refine (HO.out true _ B tag st0 hW2.out hb2.out ht2.out).mono ?_; rintro e x2 ⟨S, rfl, hD2⟩; replace hD2 := Kpt.mk hD2; clear hmm mO hW2 hb2 ht2; have m1 : Kpt True := ⟨trivial⟩)) | (go_at_call 10; have hmm := mN; go_must (refine (HN.out _).mono ?_; rintro e w2 ⟨B, tag, rfl, hW2, hg2, ht2⟩; have hb2 : Kpt (Below w.heap.size w w2) := ⟨hb1.out.trans (((Below.refl _ _).grown hg2 (Nat.le_refl _) (fun k hk => by cases hk)).mono hb1.out.size)⟩; have ht2 : Kpt (∀ i, i < w.heap.size → tag i = none) := ⟨fun i hi => ht2 i (Nat.lt_of_lt_of_le hi hb1.out.size)⟩; replace hW2 := Kpt.mk hW2; clear hg2 hmm mN hb1; have mO : Kpt True := ⟨trivial⟩)) | (go_at_call 9; have hmm := m0; go_must (refine HA.out.mono ?_; rintro e w1 ⟨rfl, hb1⟩; replace hb1 := Kpt.mk hb1; clear hmm m0 HA; have mN : Kpt True := ⟨trivial⟩)))
  clear HO HW1 HW2 HSy HSc HC HR HN hc4 hf4 hby4 hp1
  go_loopw [29] (fun t wr => ∃ i : Nat, i ≤ n ∧ t = .int .i64 i ∧ Kpt (Below x9.heap.size x9 wr)) (fun t _ => n - (intOf t).toNat)
  case atStart => exact ⟨0, Nat.zero_le _, rfl, ⟨Below.refl _ _⟩⟩
  case round =>
    obtain ⟨i, hi, rfl, hB⟩ := hrel
    by_cases hlt : i < n
    · have hpo := hpos.out
      omega
    · have el : ¬ (i : Int) < n := by omega
      obtain rfl : i = n := by omega
      have hz : Kpt (Below w.heap.size w wr) := ⟨hx9.out.trans (hB.out.mono hx9.out.size)⟩
      go_wp2
      go_ret
      exact ⟨rfl, hz.out⟩

set_option maxRecDepth 100000 in
set_option maxHeartbeats 8000000 in
theorem dur_z0ff (a1 a2 : Option Addr) (n1 c1 n2 c2 n k keep cut : Nat) (us vs : List Bk)  (w : World) (hu : Bks w (.slice a1 n c1) us) (lu : us.length = n) (hv : Bks w (.slice a2 k c2) vs) (lv : vs.length = k)
    (o1 : ∀ g, (Value.slice a1 n c1).ownBlock = some g → g < w.heap.size) (o2 : ∀ g, (Value.slice a2 k c2).ownBlock = some g → g < w.heap.size) (e1 : min (n1 : Int) 30 = (n : Int)) (e2 : min (n2 : Int) (n : Int) = (k : Int))
    (hn : n ≤ 30) (hk : k ≤ n) (h1 : n ≤ n1) (h1c : n1 ≤ c1) (h2 : k ≤ n2) (h2c : n2 ≤ c2) (kb : keep ≤ 255) (cb : cut ≤ 255) (hpos : n = 0) :
    Calls Try.prog 4 #[.slice a1 n1 c1, .slice a2 n2 c2, .bool false, .bool false, .bool false, .int .u8 (keep : Int), .int .u8 (cut : Int)] w fun e w' => e = .returned (.bool true) ∧ Below w.heap.size w w' := by
  have ou : Kpt (∀ b ∈ us, b.ok) := ⟨fun b hb => by obtain ⟨a', c', _, _, h⟩ := hu; obtain ⟨j, hj, rfl⟩ := List.getElem_of_mem hb; exact (h j _ (List.getElem?_eq_getElem hj)).1⟩
  have ov : Kpt (∀ b ∈ vs, b.ok) := ⟨fun b hb => by obtain ⟨a', c', _, _, h⟩ := hv; obtain ⟨j, hj, rfl⟩ := List.getElem_of_mem hb; exact (h j _ (List.getElem?_eq_getElem hj)).1⟩
  have HA := Kpt.mk (awake_any w)
  have HN := Kpt.mk new_any
  have HE := Kpt.mk rempty_any
  have HO : Kpt (∀ (ca : Bool) (X : World) (B : Nat) (tag : Tags) (st : St), Wd X B tag st → Below w.heap.size w X → (∀ i, i < w.heap.size → tag i = none) → Calls Try.prog 12 #[.pointer (some ⟨B, 0, none⟩), .string nmF, .int .i64 64, .bool ca] X fun e w' => ∃ S, e = .returned (.tuple #[.pointer (some ⟨S, 0, none⟩), .int .i64 0]) ∧ Dv w w' B tag st S ca) := ⟨fun ca X B tag st h1 h2 h3 => dv_open h1 h2 h3 ca⟩
  have hbu : ∀ {X : World}, Below w.heap.size w X → Bks X (.slice a1 n c1) us := fun hX => hu.bel hX
  have hbv : ∀ {X : World}, Below w.heap.size w X → Bks X (.slice a2 k c2) vs := fun hX => hv.bel hX
  have HW1 : Kpt (∀ (X : World) (B : Nat) (tag : Tags) (S : Nat), Dv w X B tag st0 S false → Calls Try.prog 16 #[.pointer (some ⟨S, 0, none⟩), .int .i64 5, .slice a1 n c1, .bool false] X fun e w' => e = .returned (.tuple #[.int .i64 n, .int .i64 0]) ∧ ∃ tag', Dv w w' B tag' (d1 us false false) S false) := ⟨fun X B tag S h => by
    have := dv_write h ⟨by decide, by decide, st0_fails, fun c hc => by cases hc⟩ false (.slice a1 n c1) us hu o1 (by omega) hbu
    rw [lu] at this
    unfold d1
    rw [lu]
    exact this⟩
  have HSy : Kpt (∀ (X : World) (B : Nat) (tag : Tags) (S : Nat), Dv w X B tag (d1 us false false) S false → Calls Try.prog 20 #[.pointer (some ⟨S, 0, none⟩)] X fun e w' => e = .returned (.int .i64 0) ∧ ∃ tag', Dv w w' B tag' (d2 us false false true) S false) := ⟨fun X B tag S h => dv_sync h (d1_sm us false false (by omega)).1⟩
  have HSc : Kpt (∀ (X : World) (B : Nat) (tag : Tags) (st : St) (S : Nat) (ca : Bool), Dv w X B tag st S ca → Calls Try.prog 22 #[.pointer (some ⟨S, 0, none⟩), .bool true] X fun e w' => e = .returned (.tuple #[]) ∧ Dv w w' B tag st S true) := ⟨fun X B tag st S ca h => dv_cache h true⟩
  have HW2 : Kpt (∀ (X : World) (B : Nat) (tag : Tags) (S : Nat), Dv w X B tag (d2 us false false false) S true → Calls Try.prog 16 #[.pointer (some ⟨S, 0, none⟩), .int .i64 5, .slice a2 k c2, .bool false] X fun e w' => e = .returned (.tuple #[.int .i64 k, .int .i64 0]) ∧ ∃ tag', Dv w w' B tag' (d3 us vs false false false) S true) := ⟨fun X B tag S h => by
    have := dv_write h (d2_sm us false false false (by omega)).1 false (.slice a2 k c2) vs hv o2 (by omega) hbv
    rw [show settled true false vs.length = true from by simp [settled], if_pos rfl] at this
    unfold d3
    rw [lv] at this ⊢
    exact this⟩
  have hsf : safeB us.length false false false = false := by
    rw [lu]
    have hd : decide (0 < n) = false := decide_eq_false (by omega)
    rw [safeB, hd]
    rfl
  have HC : Kpt (∀ (X : World) (B : Nat) (tag : Tags) (S : Nat), Dv w X B tag (d3 us vs false false false) S true → Calls Try.prog 25 #[.pointer (some ⟨B, 0, none⟩), .int .i64 (keep : Int), .int .i64 (cut : Int)] X fun e w' => e = .returned (.tuple #[]) ∧ ∃ tag' st', Dv w w' B tag' st' S true ∧ st'.cnt ≤ 2000 ∧ (∀ i, st'.fails i = false) ∧ (∀ zs, st'.seen nmF = some zs → Byts zs) ∧ ∀ i, i < n → Seen us vs false cut (st'.seen nmF) i) := ⟨fun X B tag S h => by
    refine (dv_crash h (d3_sm us vs false false false (by omega) (by omega)) keep cut kb cb).mono ?_
    rintro e w' ⟨rfl, tag', st', hD, hs, hc, hf⟩
    obtain ⟨k1, k2⟩ := dur_all us vs false false false keep cut ou.out ov.out (by omega) (st'.seen nmF) (by rw [hs])
    rw [hsf] at k2
    exact ⟨rfl, tag', st', hD, hc, hf, k1, fun i hi => k2 i (by omega)⟩⟩
  have HR : Kpt (∀ (X : World) (B : Nat) (tag : Tags) (st : St) (S : Nat), Dv w X B tag st S true → st.cnt ≤ 2000 → (∀ i, st.fails i = false) → (∀ zs, st.seen nmF = some zs → Byts zs) → Calls Try.prog 13 #[.pointer (some ⟨S, 0, none⟩), .int .i64 5, .int .i64 n] X fun e w' => ∃ g, e = .returned (.tuple #[.slice (some ⟨g, 0, none⟩) n n, .int .i64 n, .int .i64 0]) ∧ Below w.heap.size w w' ∧ g < w'.heap.size ∧ ∀ j, j < n → (blkAt (st.seen nmF) (5 + j)).ok ∧ w'.rangeAt g (j * 19) (blkAt (st.seen nmF) (5 + j)).cs) := ⟨fun X B tag st S h h1 h2 h3 => dv_read h h1 h2 h3 n hn⟩
  replace hu := Kpt.mk hu
  replace hv := Kpt.mk hv
  replace lu := Kpt.mk lu
  replace lv := Kpt.mk lv
  replace o1 := Kpt.mk o1
  replace o2 := Kpt.mk o2
  have m0 : Kpt True := ⟨trivial⟩
  have hp1 : ¬ (0 : Int) < n := by omega
  have hcz : (0 : Int) ≤ cut := by omega
  clear hsf hbu hbv
  replace hpos := Kpt.mk hpos
  go_enter Try.func4, Try.ntmps4
  go_wp2_with (first | (go_at_call 13; go_must (refine (HR.out _ B tag4 st4 S2 hD8.out hc4.out hf4.out hby4.out).mono ?_; rintro e x9 ⟨g3, rfl, hx9, hg3, hrow⟩; replace hx9 := Kpt.mk hx9; replace hrow := Kpt.mk hrow; clear hD8)) | (go_at_call 12; have hmm := m6; go_must (refine (HO.out true _ B tag4 st4 hD7.out.wd hD7.out.bel hD7.out.lo).mono ?_; rintro e x8 ⟨S2, rfl, hD8⟩; replace hD8 := Kpt.mk hD8; clear hmm m6 hD7)) | (go_at_call 25; have hmm := m5; go_must (refine (HC.out _ B tag3 S hD6.out).mono ?_; rintro e x7 ⟨rfl, tag4, st4, hD7, hc4, hf4, hby4, hse⟩; replace hD7 := Kpt.mk hD7; replace hc4 := Kpt.mk hc4; replace hf4 := Kpt.mk hf4; replace hby4 := Kpt.mk hby4; replace hse := Kpt.mk hse; clear hmm m5 hD6; have m6 : Kpt True := ⟨trivial⟩)) | (go_at_call 16; have hmm := m4; go_must (refine (HW2.out _ B tag2 S hD5.out).mono ?_; rintro e x6 ⟨rfl, tag3, hD6⟩; replace hD6 := Kpt.mk hD6; clear hmm m4 hD5; have m5 : Kpt True := ⟨trivial⟩)) | (go_at_call 22; have hmm := m3; go_must (refine (HSc.out _ B tag2 _ S _ hD4.out).mono ?_; rintro e x5 ⟨rfl, hD5⟩; replace hD5 := Kpt.mk hD5; clear hmm m3 hD4; have m4 : Kpt True := ⟨trivial⟩)) | (go_at_call 16; have hmm := m1; go_must (refine (HW1.out _ B tag S hD2.out).mono ?_; rintro e x3 ⟨rfl, tag2, hD4⟩; replace hD4 := Kpt.mk hD4; clear hmm m1 hD2; have m3 : Kpt True := ⟨trivial⟩)) | (go_at_call 12; have hmm := mO; go_must (refine (HO.out false _ B tag st0 hW2.out hb2.out ht2.out).mono ?_; rintro e x2 ⟨S, rfl, hD2⟩; replace hD2 := Kpt.mk hD2; clear hmm mO hW2 hb2 ht2; have m1 : Kpt True := ⟨trivial⟩)) | (go_at_call 10; have hmm := mN; go_must (refine (HN.out _).mono ?_; rintro e w2 ⟨B, tag, rfl, hW2, hg2, ht2⟩; have hb2 : Kpt (Below w.heap.size w w2) := ⟨hb1.out.trans (((Below.refl _ _).grown hg2 (Nat.le_refl _) (fun k hk => by cases hk)).mono hb1.out.size)⟩; have ht2 : Kpt (∀ i, i < w.heap.size → tag i = none) := ⟨fun i hi => ht2 i (Nat.lt_of_lt_of_le hi hb1.out.size)⟩; replace hW2 := Kpt.mk hW2; clear hg2 hmm mN hb1; have mO : Kpt True := ⟨trivial⟩)) | (go_at_call 9; have hmm := m0; go_must (refine HA.out.mono ?_; rintro e w1 ⟨rfl, hb1⟩; replace hb1 := Kpt.mk hb1; clear hmm m0 HA; have mN : Kpt True := ⟨trivial⟩)))
  clear HO HW1 HW2 HSy HSc HC HR HN hc4 hf4 hby4 hp1
  go_loopw [29] (fun t wr => ∃ i : Nat, i ≤ n ∧ t = .int .i64 i ∧ Kpt (Below x9.heap.size x9 wr)) (fun t _ => n - (intOf t).toNat)
  case atStart => exact ⟨0, Nat.zero_le _, rfl, ⟨Below.refl _ _⟩⟩
  case round =>
    obtain ⟨i, hi, rfl, hB⟩ := hrel
    by_cases hlt : i < n
    · have hpo := hpos.out
      omega
    · have el : ¬ (i : Int) < n := by omega
      obtain rfl : i = n := by omega
      have hz : Kpt (Below w.heap.size w wr) := ⟨hx9.out.trans (hB.out.mono hx9.out.size)⟩
      go_wp2
      go_ret
      exact ⟨rfl, hz.out⟩
end Go.Proofs.Ytmjpomkofgfbbaa
