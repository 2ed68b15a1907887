/-
  The contract of Crash.
-/
import Derived.Test.YtndlpmnidpandaaLTear
namespace Go.Proofs.Ytndlpmnidpandaa
open Go.RowKit Go.Maps
set_option linter.unusedVariables false
set_option linter.unusedSimpArgs false

/-- What lasts: the world's own cells, and what is durable. -/
def keepB (t : Tag) : Bool := (!t.a && !t.c) || (t.a && (t.b && t.c))
def lasts (tag : Tags) : Tags := fun i => match tag i with
  | some t => if keepB t then some t else none
  | none => none

theorem lasts_step (w : World) (tag : Tags) : Step w w tag (lasts tag) (fun t => keepB t = false) where
  os := rfl
  tape := rfl
  output := rfl
  size := Nat.le_refl _
  block := fun _ _ _ => rfl
  other := fun i t ht => by
    have hk : keepB t = true := by simpa using ht
    cases hti : tag i with
    | none => simp [lasts, hti]
    | some u =>
      simp only [lasts, hti]
      by_cases hu : keepB u = true
      · simp [hu]
      · simp only [hu, if_false, Bool.false_eq_true]
        constructor
        · intro h; cases h
        · intro h; cases h; exact absurd hk hu
  bare := fun i _ h => by simp [lasts, h]
  lt := fun hl i hi => hl i (by intro e; simp [lasts, e] at hi)

theorem crash_fin {w2 w3 w4 : World} {B : Nat} {tag2 tag3 : Tags} {st2 : St} {M1 M2 n2 Mo : Nat} {wv : Value} {fv : Option Nat} {f1 f2 f' : ByteArray → Option Value} {l : List (Chg × Value)}
    (h : Inv w2 B tag2 st2 M1 M2 wv fv f1 f2 l n2) (hmap : MapIs w3 Mo n2 f') (hfiles : Files w3 tag3 .r1 f' st2.dur) (htM : tag3 Mo = some .m1) (hs : Step w2 w3 (lasts tag2) tag3 (fun t => t = .m1 ∨ ∃ s, t = .r1 s))
    (hg : w3.grownBy w4 (some B)) (hc : w4.heap[B]? = some (.cells (wdCells Mo M2 (.slice none 0 0) none 0) 71 (0, 0))) :
    Wd w4 B tag3 { seen := st2.dur, dur := st2.dur, waits := [], fails := fun _ => false, ops := 0, cnt := st2.cnt } ∧ Step w2 w4 tag2 tag3 (fun _ => True) := by
  have ls := lasts_step w2 tag2
  have kB := ls.keep (Array.getElem?_eq_some_iff.1 h.cell).1 h.tB (by simp [keepB])
  have k2 := ls.keep h.map2.lt h.t2 (by simp [keepB])
  have hlt2 : ∀ i, lasts tag2 i ≠ none → i < w2.heap.size := ls.lt h.lt
  have hlt3 := hs.lt hlt2
  have hBlt := (Array.getElem?_eq_some_iff.1 h.cell).1
  have kB3 := hs.keep hBlt kB.2 (by simp)
  have k23 := hs.keep h.map2.lt k2.2 (by simp)
  have s4 : Step w3 w4 tag3 tag3 (fun t => t = .wd) := Step.turned hg tag3 kB3.2 rfl
  refine ⟨⟨Mo, M2, .slice none 0 0, none, f', f2, [], n2, ?_⟩, (ls.weaken (fun _ _ => trivial)).trans ((hs.weaken (fun _ _ => trivial)).trans (s4.weaken (fun _ _ => trivial)))⟩
  exact {
    cell := hc
    tB := kB3.2
    t1 := htM
    t2 := k23.2
    map1 := (hmap.of_block (s4.keep hmap.lt htM (by simp)).1).mono (by have := h.cnt2; show n2 ≤ st2.cnt; omega)
    map2 := (h.map2.of_block k23.1).of_block (s4.keep (Nat.lt_of_lt_of_le h.map2.lt hs.size) k23.2 (by simp)).1
    seen := hfiles.step s4 (by simp)
    dur := ((h.dur.step ls (by simp [keepB])).step hs (by simp)).step s4 (by simp)
    waits := ⟨by simp, World.ownsRow_nil _ _ _ _, by simp [Value.ownBlock]⟩
    l_eq := rfl
    fails := failsS_none _ _
    lt := s4.lt hlt3
    opsLo := Int.le_refl _
    opsHi := by show (0 : Int) ≤ (st2.cnt : Int); omega
    cnt2 := by have := h.cnt2; show n2 + 0 ≤ st2.cnt; omega }

theorem wd_cells {w : World} {B M1 M2 : Nat} {wv : Value} {fv : Option Nat} {ops stop : Int} {off : Bool} (h : w.heap[B]? = some (.cells (wdCells M1 M2 wv fv ops stop off) 71 (0, 0))) :
    w.cell? ⟨B, 0, none⟩ = some (.map (some M1)) ∧ w.cell? ⟨B, 1, none⟩ = some (.map (some M2)) ∧ w.cell? ⟨B, 2, none⟩ = some wv ∧ w.cell? ⟨B, 3, none⟩ = some (.map fv) ∧
    w.cell? ⟨B, 4, none⟩ = some (.int .i64 stop) ∧ w.cell? ⟨B, 5, none⟩ = some (.int .i64 ops) ∧ w.cell? ⟨B, 6, none⟩ = some (.bool off) ∧
    w.frozen? ⟨B, 0, none⟩ = false ∧ w.frozen? ⟨B, 2, none⟩ = false ∧ w.frozen? ⟨B, 3, none⟩ = false ∧ w.frozen? ⟨B, 4, none⟩ = false ∧ w.frozen? ⟨B, 5, none⟩ = false ∧ w.frozen? ⟨B, 6, none⟩ = false := by
  refine ⟨?_, ?_, ?_, ?_, ?_, ?_, ?_, ?_, ?_, ?_, ?_, ?_, ?_⟩ <;> simp [World.cell?, World.frozen?, h, wdCells]

theorem six_set {w : World} {B M1 M2 : Nat} {wv : Value} {fv : Option Nat} {ops stop : Int} {off : Bool} (h : w.heap[B]? = some (.cells (wdCells M1 M2 wv fv ops stop off) 71 (0, 0))) (Mo : Nat) :
    w.grownBy ((((((w.setCell ⟨B, 0, none⟩ (.map (some Mo))).setCell ⟨B, 2, none⟩ (.slice none 0 0)).setCell ⟨B, 3, none⟩ (.map none)).setCell ⟨B, 4, none⟩ (.int .i64 (-1))).setCell ⟨B, 5, none⟩ (.int .i64 0)).setCell ⟨B, 6, none⟩ (.bool false)) (some B) ∧
    ((((((w.setCell ⟨B, 0, none⟩ (.map (some Mo))).setCell ⟨B, 2, none⟩ (.slice none 0 0)).setCell ⟨B, 3, none⟩ (.map none)).setCell ⟨B, 4, none⟩ (.int .i64 (-1))).setCell ⟨B, 5, none⟩ (.int .i64 0)).setCell ⟨B, 6, none⟩ (.bool false)).heap[B]? = some (.cells (wdCells Mo M2 (.slice none 0 0) none 0) 71 (0, 0)) := by
  have g : ∀ (w : World) k v, w.grownBy (w.setCell ⟨B, k, none⟩ v) (some B) := fun w k v => grown_setCell w B k v
  refine ⟨(((((g _ _ _).andThen (g _ _ _) (by simp)).andThen (g _ _ _) (by simp)).andThen (g _ _ _) (by simp)).andThen (g _ _ _) (by simp)).andThen (g _ _ _) (by simp), ?_⟩
  rw [setCell_own _ B 6 _ _ _ (setCell_own _ B 5 _ _ _ (setCell_own _ B 4 _ _ _ (setCell_own _ B 3 _ _ _ (setCell_own _ B 2 _ _ _ (setCell_own w B 0 _ _ _ h)))))]
  simp [wdCells]

/-- What is durable behind a crash. -/
def crashed (l : List Chg) (k cut : Nat) (F : FilesF) : FilesF := match l[k]? with
  | some ⟨false, _, s, _, off, ds⟩ => torn s off ds cut (runs (l.take k) F)
  | _ => runs (l.take k) F

def stC (st : St) (k cut : Nat) : St := { seen := crashed st.waits k cut st.dur, dur := crashed st.waits k cut st.dur, waits := [], fails := fun _ => false, ops := 0, cnt := st.cnt + st.waits.length + 1 }

set_option maxRecDepth 100000 in
set_option maxHeartbeats 2000000 in
theorem crash_in (w : World) (B : Nat) (tag : Tags) (st : St) (h : Wd w B tag st) (hc : st.cnt + st.waits.length < 549755813888) (hw : Wrs st.waits) (k cut : Nat) (hk : k < st.waits.length) (hcu : cut < 1099511627776) :
    Calls Try.prog 18 #[.pointer (some ⟨B, 0, none⟩), .int .i64 (k : Int), .int .i64 (cut : Int)] w fun e w' => e = .returned (.tuple #[]) ∧
      ∃ tag', Wd w' B tag' { stC st k cut with cnt := st.cnt + k + 1 } ∧ Step w w' tag tag' (fun _ => True) := by
  obtain ⟨M1, M2, wv, fv, f1, f2, l, n2, h⟩ := h
  have hll : l.length = st.waits.length := by rw [← h.l_eq]; simp
  obtain ⟨aw, cw, rfl⟩ := waits_shape h.waits
  have cB := h.at.2.2.1
  have hhd := harden_any w B tag st M1 M2 n2 _ fv f1 f2 l h (by omega) hw k (by omega) (by omega)
  obtain ⟨p, hp⟩ : ∃ p, l[k]? = some p := ⟨_, List.getElem?_eq_getElem (by omega)⟩
  have hcs : st.waits[k]? = some p.1 := by rw [← h.l_eq, List.getElem?_map, hp]; rfl
  obtain ⟨s, off, ds, hce⟩ := hw p.1 (List.mem_of_getElem? hcs)
  obtain ⟨c, dv⟩ := p
  simp only at hce hcs
  subst hce
  have hpl : (Chg.wr s off ds, dv) ∈ l := List.mem_of_getElem? hp
  obtain ⟨da, dc, rfl, _⟩ := rd_shape (h.waits.1 _ hpl).2.2.1.rd
  obtain ⟨g, rfl⟩ : ∃ g, aw = some ⟨g, 0, none⟩ := by
    rcases h.waits.2.1.2 with ⟨_, h0⟩ | ⟨g, cap, cur, hx, _⟩
    · omega
    · simp only [Value.slice.injEq] at hx; exact ⟨g, hx.1⟩
  have hcr : crashed st.waits k cut st.dur = torn s off ds cut (runs (st.waits.take k) st.dur) := by simp [crashed, hcs]
  have K1 : (0 : Int) ≤ (k : Int) := by omega
  have K2 : ¬ ((k : Int) < 0) := by omega
  have K3 : (k : Int) ≤ (l.length : Int) := by omega
  have K4 : ¬ ((l.length : Int) < (k : Int)) := by omega
  have K5 : (k : Int) < (l.length : Int) := by omega
  have K6 : max (k : Int) 0 = k := by omega
  have K7 : min (k : Int) (l.length : Int) = k := by omega
  have tear : ∀ w1 tag1 f21, Inv w1 B tag1 { st with dur := runs (st.waits.take k) st.dur, cnt := st.cnt + k } M1 M2 (.slice (some ⟨g, 0, none⟩) l.length cw) fv f1 f21 l (n2 + k) →
      w1.cell? ⟨g, k * 5, none⟩ = some (.int .i64 0) ∧ w1.cell? ⟨g, k * 5 + 1, none⟩ = some (.string s) ∧ w1.cell? ⟨g, k * 5 + 2, none⟩ = some (.string ⟨#[]⟩) ∧ w1.cell? ⟨g, k * 5 + 3, none⟩ = some (.int .i64 (off : Int)) ∧ w1.cell? ⟨g, k * 5 + 4, none⟩ = some (.slice da ds.length dc) ∧
      Calls Try.prog 36 #[.pointer (some ⟨B, 0, none⟩), .agg #[.int .i64 0, .string s, .string ⟨#[]⟩, .int .i64 (off : Int), .slice da ds.length dc], .int .i64 (cut : Int)] w1 fun e w' => e = .returned (.tuple #[]) ∧
      ∃ tag' f2', Inv w' B tag' { st with dur := crashed st.waits k cut st.dur, cnt := st.cnt + k + 1 } M1 M2 (.slice (some ⟨g, 0, none⟩) l.length cw) fv f1 f2' l (n2 + k + 1) ∧ Step w1 w' tag1 tag' (fun t => t = .m2 ∨ ∃ s, t = .r2 s) := by
    intro w1 tag1 f21 hI
    have cell : ∀ i u, i < 5 → ((Chg.wr s off ds).vals (.slice da ds.length dc))[i]? = some u → w1.cell? ⟨g, k * 5 + i, none⟩ = some u := by
      intro i u hi hu
      have := World.ownsRow.cells hI.waits.2.1 (g := g) rfl (5 * k + i) u (by rw [flat_at l k i _ hp hi]; exact hu)
      rw [Go.WideShapes.add_plain] at this
      rw [Nat.mul_comm]
      simpa using this
    refine ⟨cell 0 _ (by omega) rfl, cell 1 _ (by omega) rfl, cell 2 _ (by omega) rfl, cell 3 _ (by omega) rfl, cell 4 _ (by omega) rfl, ?_⟩
    rw [hcr]
    exact tear_wr w1 B tag1 _ M1 M2 (n2 + k) _ fv f1 f21 l hI (by show st.cnt + k < _; omega) s off ds da dc (hI.waits.1 _ hpl) cut hcu
  have fin : ∀ w1 w2 w3 w4 tag1 tag2 tag3 f22 f' Mo, Step w w1 tag tag1 (fun t => t = .m2 ∨ ∃ s, t = .r2 s) → Inv w2 B tag2 { st with dur := crashed st.waits k cut st.dur, cnt := st.cnt + k + 1 } M1 M2 (.slice (some ⟨g, 0, none⟩) l.length cw) fv f1 f22 l (n2 + k + 1) → Step w1 w2 tag1 tag2 (fun t => t = .m2 ∨ ∃ s, t = .r2 s) →
      MapIs w3 Mo (n2 + k + 1) f' → Files w3 tag3 .r1 f' (crashed st.waits k cut st.dur) → tag3 Mo = some .m1 → Step w2 w3 (lasts tag2) tag3 (fun t => t = .m1 ∨ ∃ s, t = .r1 s) →
      w3.grownBy w4 (some B) → w4.heap[B]? = some (.cells (wdCells Mo M2 (.slice none 0 0) none 0) 71 (0, 0)) → ∃ tag', Wd w4 B tag' { stC st k cut with cnt := st.cnt + k + 1 } ∧ Step w w4 tag tag' (fun _ => True) := by
    intro w1 w2 w3 w4 tag1 tag2 tag3 f22 f' Mo s1 h2 s2 hm hf htM s3 hg hc'
    obtain ⟨hW, hs⟩ := crash_fin h2 hm hf htM s3 hg hc'
    exact ⟨tag3, hW, ((s1.weaken (fun _ _ => trivial)).trans (s2.weaken (fun _ _ => trivial))).trans hs⟩
  have twin : ∀ w2 tag2 f22, Inv w2 B tag2 { st with dur := crashed st.waits k cut st.dur, cnt := st.cnt + k + 1 } M1 M2 (.slice (some ⟨g, 0, none⟩) l.length cw) fv f1 f22 l (n2 + k + 1) →
      Calls Try.prog 37 #[.map (some M2)] w2 fun e w' => ∃ Mo tag' f', e = .returned (.map (some Mo)) ∧ MapIs w' Mo (n2 + k + 1) f' ∧ Files w' tag' .r1 f' (crashed st.waits k cut st.dur) ∧ tag' Mo = some .m1 ∧
      Step w2 w' (lasts tag2) tag' (fun t => t = .m1 ∨ ∃ s, t = .r1 s) ∧ w'.heap[B]? = some (.cells (wdCells M1 M2 (.slice (some ⟨g, 0, none⟩) l.length cw) fv st.ops st.stop st.off) 71 (0, 0)) := by
    intro w2 tag2 f22 h2
    have ls := lasts_step w2 tag2
    have kB := ls.keep (Array.getElem?_eq_some_iff.1 h2.cell).1 h2.tB (by simp [keepB])
    refine (twin_any w2 (lasts tag2) M2 (n2 + k + 1) f22 _ h2.map2 (h2.dur.step ls (by simp [keepB])) (ls.keep h2.map2.lt h2.t2 (by simp [keepB])).2 (ls.lt h2.lt) (by have := h2.cnt2; have : n2 + k + 1 ≤ st.cnt + k + 1 := by { have := h.cnt2; omega }; omega)).mono ?_
    rintro e w3 ⟨Mo, tag3, f', rfl, hm, hf, htM, hs, _⟩
    exact ⟨Mo, tag3, f', rfl, hm, hf, htM, hs, (hs.keep (Array.getElem?_eq_some_iff.1 h2.cell).1 kB.2 (by simp)).1.trans h2.cell⟩
  replace tear := Kpt.mk tear
  replace fin := Kpt.mk fin
  replace twin := Kpt.mk twin
  replace hcr := Kpt.mk hcr
  replace hll := Kpt.mk hll
  replace hp := Kpt.mk hp
  replace hcs := Kpt.mk hcs
  clear h hpl
  go_enter Try.func18, Try.ntmps18
  go_wp2_with (first
    | (go_at_call 35; refine hhd.mono ?_; rintro e w1 ⟨rfl, tag1, f21, hI1, hs1⟩; have cB1 := hI1.at.2.2.1; obtain ⟨e0, e1, e2, e3, e4, htear⟩ := tear.out w1 tag1 f21 hI1)
    | (go_at_call 36; refine htear.mono ?_; rintro e w2 ⟨rfl, tag2, f22, hI2, hs2⟩; have cB2 := hI2.at.2.1)
    | (go_at_call 37; refine (twin.out w2 tag2 f22 hI2).mono ?_; rintro e w3 ⟨Mo, tag3, f', rfl, hm3, hf3, htM3, hs3, hc3⟩; obtain ⟨d0, d1, d2, d3, d4, d5, d6, z0, z2, z3, z4, z5, z6⟩ := wd_cells hc3))
  first | (refine bodyPost_end (results_none rfl _ _ _) rfl ?_) | (refine bodyPost_ret (results_none rfl _ _ _) rfl ?_)
  obtain ⟨hg6, hc6⟩ := six_set hc3 Mo
  exact ⟨rfl, fin.out w1 w2 w3 _ tag1 tag2 tag3 f22 f' Mo hs1 hI2 hs2 hm3 hf3 htM3 hs3 hg6 hc6⟩

set_option maxRecDepth 100000 in
set_option maxHeartbeats 2000000 in
theorem crash_all (w : World) (B : Nat) (tag : Tags) (st : St) (h : Wd w B tag st) (hc : st.cnt + st.waits.length < 549755813888) (hw : Wrs st.waits) (k cut : Nat) (hk : st.waits.length ≤ k) (hkb : k < 1099511627776) :
    Calls Try.prog 18 #[.pointer (some ⟨B, 0, none⟩), .int .i64 (k : Int), .int .i64 (cut : Int)] w fun e w' => e = .returned (.tuple #[]) ∧
      ∃ tag', Wd w' B tag' { stC st st.waits.length cut with cnt := st.cnt + st.waits.length } ∧ Step w w' tag tag' (fun _ => True) := by
  obtain ⟨M1, M2, wv, fv, f1, f2, l, n2, h⟩ := h
  have hll : l.length = st.waits.length := by rw [← h.l_eq]; simp
  obtain ⟨aw, cw, rfl⟩ := waits_shape h.waits
  have cB := h.at.2.2.1
  have hhd := harden_any w B tag st M1 M2 n2 _ fv f1 f2 l h (by omega) hw l.length (Nat.le_refl _) (by omega)
  have hcr : crashed st.waits st.waits.length cut st.dur = runs (st.waits.take l.length) st.dur := by
    unfold crashed
    rw [List.getElem?_eq_none (Nat.le_refl _), hll]
  obtain ⟨L, hL⟩ : ∃ L, L = l.length := ⟨_, rfl⟩
  rw [← hL] at hhd hcr cB hll
  have K1 : (0 : Int) ≤ (k : Int) := by omega
  have K2 : ¬ ((k : Int) < 0) := by omega
  have K6 : max (k : Int) 0 = k := by omega
  have K7 : min (k : Int) (L : Int) = L := by omega
  have fin : ∀ w2 w3 w4 tag2 tag3 f22 f' Mo, Inv w2 B tag2 { st with dur := runs (st.waits.take L) st.dur, cnt := st.cnt + L } M1 M2 (.slice aw L cw) fv f1 f22 l (n2 + L) → Step w w2 tag tag2 (fun t => t = .m2 ∨ ∃ s, t = .r2 s) →
      MapIs w3 Mo (n2 + L) f' → Files w3 tag3 .r1 f' (runs (st.waits.take L) st.dur) → tag3 Mo = some .m1 → Step w2 w3 (lasts tag2) tag3 (fun t => t = .m1 ∨ ∃ s, t = .r1 s) →
      w3.grownBy w4 (some B) → w4.heap[B]? = some (.cells (wdCells Mo M2 (.slice none 0 0) none 0) 71 (0, 0)) → ∃ tag', Wd w4 B tag' { stC st st.waits.length cut with cnt := st.cnt + st.waits.length } ∧ Step w w4 tag tag' (fun _ => True) := by
    intro w2 w3 w4 tag2 tag3 f22 f' Mo h2 s2 hm hf htM s3 hg hc'
    obtain ⟨hW, hs⟩ := crash_fin h2 hm hf htM s3 hg hc'
    refine ⟨tag3, ?_, (s2.weaken (fun _ _ => trivial)).trans hs⟩
    simp only [stC, hcr]
    rw [← hll]
    exact hW
  have twin : ∀ w2 tag2 f22, Inv w2 B tag2 { st with dur := runs (st.waits.take L) st.dur, cnt := st.cnt + L } M1 M2 (.slice aw L cw) fv f1 f22 l (n2 + L) →
      Calls Try.prog 37 #[.map (some M2)] w2 fun e w' => ∃ Mo tag' f', e = .returned (.map (some Mo)) ∧ MapIs w' Mo (n2 + L) f' ∧ Files w' tag' .r1 f' (runs (st.waits.take L) st.dur) ∧ tag' Mo = some .m1 ∧
      Step w2 w' (lasts tag2) tag' (fun t => t = .m1 ∨ ∃ s, t = .r1 s) ∧ w'.heap[B]? = some (.cells (wdCells M1 M2 (.slice aw L cw) fv st.ops st.stop st.off) 71 (0, 0)) := by
    intro w2 tag2 f22 h2
    have ls := lasts_step w2 tag2
    have kB := ls.keep (Array.getElem?_eq_some_iff.1 h2.cell).1 h2.tB (by simp [keepB])
    refine (twin_any w2 (lasts tag2) M2 (n2 + L) f22 _ h2.map2 (h2.dur.step ls (by simp [keepB])) (ls.keep h2.map2.lt h2.t2 (by simp [keepB])).2 (ls.lt h2.lt) (by have := h.cnt2; omega)).mono ?_
    rintro e w3 ⟨Mo, tag3, f', rfl, hm, hf, htM, hs, _⟩
    exact ⟨Mo, tag3, f', rfl, hm, hf, htM, hs, (hs.keep (Array.getElem?_eq_some_iff.1 h2.cell).1 kB.2 (by simp)).1.trans h2.cell⟩
  have hA : (k = L) ∨ (L < k) := by omega
  replace fin := Kpt.mk fin
  replace twin := Kpt.mk twin
  replace hcr := Kpt.mk hcr
  replace hll := Kpt.mk hll
  replace hL := Kpt.mk hL
  clear h
  have D1 : ¬ ((L : Int) < (L : Int)) := by omega
  rcases hA with rfl | hA
  · go_enter Try.func18, Try.ntmps18
    go_wp2_with (first
      | (go_at_call 35; refine hhd.mono ?_; rintro e w2 ⟨rfl, tag2, f22, hI2, hs2⟩; have cB2 := hI2.at.2.1; have cB1 := hI2.at.2.2.1)
      | (go_at_call 37; refine (twin.out w2 tag2 f22 hI2).mono ?_; rintro e w3 ⟨Mo, tag3, f', rfl, hm3, hf3, htM3, hs3, hc3⟩; obtain ⟨d0, d1, d2, d3, d4, d5, d6, z0, z2, z3, z4, z5, z6⟩ := wd_cells hc3))
    first | (refine bodyPost_end (results_none rfl _ _ _) rfl ?_) | (refine bodyPost_ret (results_none rfl _ _ _) rfl ?_)
    obtain ⟨hg6, hc6⟩ := six_set hc3 Mo
    exact ⟨rfl, fin.out w2 w3 _ tag2 tag3 f22 f' Mo hI2 hs2 hm3 hf3 htM3 hs3 hg6 hc6⟩
  · have K3 : ¬ ((k : Int) ≤ (L : Int)) := by omega
    have K4 : ((L : Int) < (k : Int)) := by omega
    go_enter Try.func18, Try.ntmps18
    go_wp2_with (first
      | (go_at_call 35; refine hhd.mono ?_; rintro e w2 ⟨rfl, tag2, f22, hI2, hs2⟩; have cB2 := hI2.at.2.1; have cB1 := hI2.at.2.2.1)
      | (go_at_call 37; refine (twin.out w2 tag2 f22 hI2).mono ?_; rintro e w3 ⟨Mo, tag3, f', rfl, hm3, hf3, htM3, hs3, hc3⟩; obtain ⟨d0, d1, d2, d3, d4, d5, d6, z0, z2, z3, z4, z5, z6⟩ := wd_cells hc3))
    first | (refine bodyPost_end (results_none rfl _ _ _) rfl ?_) | (refine bodyPost_ret (results_none rfl _ _ _) rfl ?_)
    obtain ⟨hg6, hc6⟩ := six_set hc3 Mo
    exact ⟨rfl, fin.out w2 w3 _ tag2 tag3 f22 f' Mo hI2 hs2 hm3 hf3 htM3 hs3 hg6 hc6⟩
end Go.Proofs.Ytndlpmnidpandaa
