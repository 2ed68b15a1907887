/-
  The contract of harden: changes that wait are done to what is durable.
-/
import Derived.Test.YtndlpmnidpandaaLRead
namespace Go.Proofs.Ytndlpmnidpandaa
open Go.RowKit Go.Maps
set_option linter.unusedVariables false
set_option linter.unusedSimpArgs false

/-- All are writes. -/
def Wrs (l : List Chg) : Prop := ∀ c ∈ l, ∃ s off ds, c = .wr s off ds

def runs (l : List Chg) (F : FilesF) : FilesF := l.foldl (fun F c => c.run F) F
theorem runs_nil (F : FilesF) : runs [] F = F := rfl
theorem runs_append (a b : List Chg) (F : FilesF) : runs (a ++ b) F = runs b (runs a F) := by simp [runs]
theorem runs_one (c : Chg) (F : FilesF) : runs [c] F = c.run F := rfl
theorem runs_take_succ (l : List Chg) (F : FilesF) (j : Nat) (c : Chg) (h : l[j]? = some c) : runs (l.take (j + 1)) F = c.run (runs (l.take j) F) := by
  have : l.take (j + 1) = l.take j ++ [c] := by rw [List.take_add_one, h]; rfl
  rw [this, runs_append, runs_one]

theorem flat_at (l : List (Chg × Value)) (j i : Nat) (p : Chg × Value) (h : l[j]? = some p) (hi : i < 5) : (l.flatMap fun p => (p.1.vals p.2).toList)[5 * j + i]? = (p.1.vals p.2)[i]? := by
  induction l generalizing j with
  | nil => simp at h
  | cons q r ih =>
    have hq : (q.1.vals q.2).toList.length = 5 := by rw [Array.length_toList]; exact Chg.vals_size _ _
    cases j with
    | zero =>
      simp at h
      subst h
      rw [List.flatMap_cons, List.getElem?_append_left (by omega)]
      simp
    | succ j =>
      simp at h
      rw [List.flatMap_cons, List.getElem?_append_right (by omega), hq]
      have := ih j h
      rw [← this]
      congr 1
      omega

theorem cut_waits (a : Option Addr) (n cap k : Nat) (h0 : ∀ x, a = some x → x.off = 0 ∧ x.spot = none) (hk : k ≤ n) (hn : n ≤ cap) :
    ∀ W : World, (Instr.slice 68 (.slice a n cap) none (some (.int .i64 (k : Int))) none).run Try.prog W = .ok (.slice a k cap) W := by
  intro W
  obtain ⟨i, hi, hz, hsize, hby⟩ := info_parts Try.infoCHG
  have hel : Try.prog.underlying 68 = some (.slice (Try.prog.elem 68)) := by rw [show Try.prog.elem 68 = 83 from by kernel_rfl]; exact Try.underlying68
  rw [Go.run_slice_h (P := Try.prog) W 68 a n cap hel .i64 (k : Int) (by omega) (by omega)]
  rw [show Try.prog.elem 68 = 83 from by kernel_rfl]
  simp [sizeOf, typeInfo, hi, hsize, Result.andThen, sliced]
  cases a with
  | none => simp
  | some x =>
    obtain ⟨h1, h2⟩ := h0 x rfl
    intro _
    cases x with | mk b o s =>
    simp at h1 h2
    subst h1; subst h2
    simp [Go.WideShapes.add_plain]

theorem hard_step {w w0 w1 : World} {B : Nat} {tag tag1 : Tags} {st : St} {M1 M2 n2 : Nat} {wv : Value} {fv : Option Nat} {f1 f2 f2' : ByteArray → Option Value} {l : List (Chg × Value)} {F' : FilesF}
    (h : Inv w B tag st M1 M2 wv fv f1 f2 l n2) (hg : w.grownBy w0 none) (ha : Applied w0 w1 tag tag1 .r2 .m2 M2 (n2 + 1) F' f2') :
    Inv w1 B tag1 { st with dur := F', cnt := st.cnt + 1 } M1 M2 wv fv f1 f2' l (n2 + 1) ∧ Step w w1 tag tag1 (fun t => t = .m2 ∨ ∃ s, t = .r2 s) := by
  have s : Step w w1 tag tag1 (fun t => t = .m2 ∨ ∃ s, t = .r2 s) := (Step.grown hg tag _).trans ha.step
  refine ⟨?_, s⟩
  have kB := s.keep (Array.getElem?_eq_some_iff.1 h.cell).1 h.tB (by simp)
  have k1 := s.keep h.map1.lt h.t1 (by simp)
  exact {
    cell := kB.1.trans h.cell
    tB := kB.2
    t1 := k1.2
    t2 := ha.tM
    map1 := (h.map1.of_block k1.1).mono (Nat.le_succ _)
    map2 := ha.map
    seen := h.seen.step s (by simp)
    dur := ha.files
    waits := h.waits.step s (by simp) (by simp)
    l_eq := h.l_eq
    fails := h.fails.step s (by simp)
    lt := ha.lt
    opsLo := h.opsLo
    opsHi := by have := h.opsHi; show st.ops ≤ ((st.cnt + 1 : Nat) : Int); omega
    cnt2 := by have := h.cnt2; show n2 + 1 + l.length ≤ st.cnt + 1; omega }

set_option maxRecDepth 100000 in
set_option maxHeartbeats 2000000 in
theorem harden_any (w : World) (B : Nat) (tag : Tags) (st : St) (M1 M2 n2 : Nat) (wv : Value) (fv : Option Nat) (f1 f2 : ByteArray → Option Value) (l : List (Chg × Value))
    (h : Inv w B tag st M1 M2 wv fv f1 f2 l n2) (hc : st.cnt < 1099511627776) (hw : Wrs st.waits) (k : Nat) (hk : k ≤ l.length) (hck : st.cnt + k < 1099511627776) :
    Calls Try.prog 35 #[.pointer (some ⟨B, 0, none⟩), .int .i64 (k : Int)] w fun e w' => e = .returned (.tuple #[]) ∧
      ∃ tag' f2', Inv w' B tag' { st with dur := runs (st.waits.take k) st.dur, cnt := st.cnt + k } M1 M2 wv fv f1 f2' l (n2 + k) ∧ Step w w' tag tag' (fun t => t = .m2 ∨ ∃ s, t = .r2 s) := by
  have cB := h.at.2.2.1
  have hown := h.waits.2.1
  obtain ⟨aw, cw, hwv, haw, hcw⟩ : ∃ a c, wv = .slice a l.length c ∧ (∀ x, a = some x → x.off = 0 ∧ x.spot = none) ∧ l.length ≤ c := by
    rcases hown.2 with ⟨rfl, h0⟩ | ⟨g, cap, cur, rfl, _, _, hcc, _⟩
    · exact ⟨none, 0, by rw [h0], by simp, by omega⟩
    · exact ⟨_, _, rfl, by simp, hcc⟩
  subst hwv
  have hcut := cut_waits aw l.length cw k haw hk hcw
  have hkL : (k : Int) ≤ (l.length : Int) := by omega
  replace h := Kpt.mk h
  go_enter Try.func35, Try.ntmps35
  go_wp2
  go_loopw [13] (fun t wr => ∃ j : Nat, j ≤ k ∧ t = .int .i64 j ∧ ∃ tagj f2j, Inv wr B tagj { st with dur := runs (st.waits.take j) st.dur, cnt := st.cnt + j } M1 M2 (.slice aw l.length cw) fv f1 f2j l (n2 + j) ∧ Step w wr tag tagj (fun t => t = .m2 ∨ ∃ s, t = .r2 s)) (fun t _ => k - (intOf t).toNat)
  case atStart => exact ⟨0, by omega, rfl, tag, f2, by simpa [runs] using h.out, Step.refl _ _ _⟩
  case round =>
    obtain ⟨j, hj, rfl, tagj, f2j, hI, hS⟩ := hrel
    by_cases hlt : j < k
    · have hlt' : (j : Int) < (k : Int) := by omega
      obtain ⟨p, hp⟩ : ∃ p, l[j]? = some p := ⟨_, List.getElem?_eq_getElem (by omega)⟩
      have hpl : p ∈ l := List.mem_of_getElem? hp
      have hcs : st.waits[j]? = some p.1 := by rw [← h.out.l_eq, List.getElem?_map, hp]; rfl
      obtain ⟨s, off, ds, hcw'⟩ := hw p.1 (List.mem_of_getElem? hcs)
      obtain ⟨c, dv⟩ := p
      simp only at hcw' hcs
      subst hcw'
      have hok := hI.waits.1 _ hpl
      obtain ⟨da, dc, hdv, _⟩ := rd_shape (hok.2.2.1).rd
      simp only at hdv
      subst hdv
      obtain ⟨g, hg⟩ : ∃ g, aw = some ⟨g, 0, none⟩ := by
        rcases hI.waits.2.1.2 with ⟨_, h0⟩ | ⟨g, cap, cur, hx, _⟩
        · omega
        · simp only [Value.slice.injEq] at hx; exact ⟨g, hx.1⟩
      subst hg
      have cell : ∀ i u, i < 5 → ((Chg.wr s off ds).vals (.slice da ds.length dc))[i]? = some u → wr.cell? ⟨g, 5 * j + i, none⟩ = some u := by
        intro i u hi hu
        have := World.ownsRow.cells hI.waits.2.1 (g := g) rfl (5 * j + i) u (by rw [flat_at l j i _ hp hi]; exact hu)
        rw [Go.WideShapes.add_plain] at this
        simpa using this
      have e0 : wr.cell? ⟨g, j * 5, none⟩ = some (.int .i64 0) := by have := cell 0 _ (by omega) rfl; rwa [Nat.mul_comm] at this
      have e1 : wr.cell? ⟨g, j * 5 + 1, none⟩ = some (.string s) := by have := cell 1 _ (by omega) rfl; rwa [Nat.mul_comm] at this
      have e2 : wr.cell? ⟨g, j * 5 + 2, none⟩ = some (.string ⟨#[]⟩) := by have := cell 2 _ (by omega) rfl; rwa [Nat.mul_comm] at this
      have e3 : wr.cell? ⟨g, j * 5 + 3, none⟩ = some (.int .i64 (off : Int)) := by have := cell 3 _ (by omega) rfl; rwa [Nat.mul_comm] at this
      have e4 : wr.cell? ⟨g, j * 5 + 4, none⟩ = some (.slice da ds.length dc) := by have := cell 4 _ (by omega) rfl; rwa [Nat.mul_comm] at this
      clear cell hown
      obtain ⟨w0, hw0⟩ : ∃ w0, w0 = wr.alloc (.cells #[.int .i64 0, .string s, .string ⟨#[]⟩, .int .i64 (off : Int), .slice da ds.length dc] 83) := ⟨_, rfl⟩
      have hgr0 : wr.grownBy w0 none := by rw [hw0]; exact World.grownBy_alloc wr _ none
      obtain ⟨b0, hb0⟩ : ∃ b0, b0 = wr.heap.size := ⟨_, rfl⟩
      have hh0 : w0.heap[b0]? = some (.cells #[.int .i64 0, .string s, .string ⟨#[]⟩, .int .i64 (off : Int), .slice da ds.length dc] 83 (0, 0)) := by rw [hw0, hb0]; exact heap_alloc_new wr _
      have hsz0 : wr.heap.size < w0.heap.size := by rw [hw0]; simp
      have hI0 := hI.step (Step.grown hgr0 tagj _)
      have q0 : w0.cell? ⟨b0, 0, none⟩ = some (.int .i64 0) := by simp [World.cell?, hh0]
      have q1 : w0.cell? ⟨b0, 1, none⟩ = some (.string s) := by simp [World.cell?, hh0]
      have q2 : w0.cell? ⟨b0, 2, none⟩ = some (.string ⟨#[]⟩) := by simp [World.cell?, hh0]
      have q3 : w0.cell? ⟨b0, 3, none⟩ = some (.int .i64 (off : Int)) := by simp [World.cell?, hh0]
      have q4 : w0.cell? ⟨b0, 4, none⟩ = some (.slice da ds.length dc) := by simp [World.cell?, hh0]
      have c1 := hI0.at.2.1
      have htb0 : tagj b0 = none := by
        cases hh : tagj b0 with
        | none => rfl
        | some t => have := hI.lt b0 (by rw [hh]; simp); omega
      replace hI := Kpt.mk hI
      replace hI0 := Kpt.mk hI0
      replace hh0 := Kpt.mk hh0
      replace hS := Kpt.mk hS
      replace hcs := Kpt.mk hcs
      replace hp := Kpt.mk hp
      replace hok := Kpt.mk hok
      go_wp2
      rw [← hw0, ← hb0]
      replace hw0 := Kpt.mk hw0
      replace hb0 := Kpt.mk hb0
      refine wp_region_any (by kernel_rfl) ?_
      refine wpAny_of_C (C := fun W => W.cell? ⟨b0, 0, none⟩ = some (.int .i64 0) ∧ W.cell? ⟨b0, 1, none⟩ = some (.string s) ∧ W.cell? ⟨b0, 2, none⟩ = some (.string ⟨#[]⟩) ∧ W.cell? ⟨b0, 3, none⟩ = some (.int .i64 (off : Int)) ∧ W.cell? ⟨b0, 4, none⟩ = some (.slice da ds.length dc) ∧ W.cell? ⟨B, 1, none⟩ = some (.map (some M2))) _ _ _ _ ?_
      refine wpAnyC_take 0 (.agg #[.int .i64 0, .string s, .string ⟨#[]⟩, .int .i64 (off : Int), .slice da ds.length dc]) rfl (by kernel_rfl) (by kernel_rfl) (by kernel_rfl) (fun _ _ _ h => h) (by rfl) (fun W ⟨p0, p1, p2, p3, p4, p5⟩ => by clear q0 q1 q2 q3 q4 c1 e0 e1 e2 e3 e4; go_simp) ?_
      refine wpAnyC_take 1 (.pointer (some ⟨B, 0, none⟩)) rfl (by kernel_rfl) (by kernel_rfl) (by kernel_rfl) (fun _ _ _ h => h) (by rfl) (fun W _ => by go_simp) ?_
      refine wpAnyC_take 2 (.pointer (some ⟨B, 0, none⟩)) rfl (by kernel_rfl) (by kernel_rfl) (by kernel_rfl) (fun _ _ _ h => h) (by rfl) (fun W _ => by go_simp) ?_
      refine wpAnyC_take 3 (.pointer (some ⟨B, 1, none⟩)) rfl (by kernel_rfl) (by kernel_rfl) (by kernel_rfl) (fun _ _ _ h => h) (by rfl) (fun W _ => by go_simp) ?_
      refine wpAnyC_take 4 (.map (some M2)) rfl (by kernel_rfl) (by kernel_rfl) (by kernel_rfl) (fun _ _ _ h => h) (by rfl) (fun W ⟨p0, p1, p2, p3, p4, p5⟩ => by clear q0 q1 q2 q3 q4 c1 e0 e1 e2 e3 e4; go_simp) ?_
      change wpAnyC _ _ _ _ _ _ _ _ w0.drew
      refine wpAnyC_one 5 ⟨q0, q1, q2, q3, q4, c1⟩ rfl (by kernel_rfl) (by rfl) (fun K hK => ?_)
      go_simp
      have hok0 : (Chg.wr s off ds).ok w0.drew tagj (.slice da ds.length dc) := Chg.ok.step hok.out (Step.grown (w' := w0.drew) ⟨hgr0.os, hgr0.tape, hgr0.output, hgr0.size, hgr0.block⟩ tagj (fun _ => False)) id
      refine (applies_wr s off ds (.slice da ds.length dc) w0.drew tagj .r2 .m2 M2 (n2 + j) f2j _ (fun a b e => by injection e) (fun a e => by cases e) (fun a e => by cases e) hI0.out.t2 (fun i hi => hI0.out.lt i hi) hI0.out.map2 hI0.out.dur (by have := h.out.cnt2; omega) (.inr hok0)).mono ?_
      rintro e w1 ⟨rfl, tag1, f2', ha⟩
      have hgd : wr.grownBy w0.drew none := ⟨hgr0.os, hgr0.tape, hgr0.output, hgr0.size, hgr0.block⟩
      obtain ⟨hN, hSN⟩ := hard_step hI.out hgd ha
      have kb0 : w1.heap[b0]? = w0.heap[b0]? := ha.step.block b0 (by show b0 < w0.heap.size; have := hb0.out; omega) (by simp [htb0])
      have r0 := (World.cell?_of_block (a := ⟨b0, 0, none⟩) kb0).trans q0
      have r1 := (World.cell?_of_block (a := ⟨b0, 1, none⟩) kb0).trans q1
      have r2 := (World.cell?_of_block (a := ⟨b0, 2, none⟩) kb0).trans q2
      have r3 := (World.cell?_of_block (a := ⟨b0, 3, none⟩) kb0).trans q3
      have r4 := (World.cell?_of_block (a := ⟨b0, 4, none⟩) kb0).trans q4
      have c1' := hN.at.2.1
      dsimp only
      refine hK _ _ ?_
      clear hK K
      refine wpAnyC_done ⟨r0, r1, r2, r3, r4, c1'⟩ (by kernel_rfl) ?_
      have hrel' : ∃ tagj f2j, Inv w1 B tagj { st with dur := runs (st.waits.take (j + 1)) st.dur, cnt := st.cnt + (j + 1) } M1 M2 (.slice (some ⟨g, 0, none⟩) l.length cw) fv f1 f2j l (n2 + (j + 1)) ∧ Step w w1 tag tagj (fun t => t = .m2 ∨ ∃ s, t = .r2 s) := by
        refine ⟨tag1, f2', ?_, hS.out.trans hSN⟩
        rw [runs_take_succ _ _ _ _ hcs.out]
        exact hN
      replace hrel' := Kpt.mk hrel'
      clear hN hSN ha kb0 r0 r1 r2 r3 r4 c1' q0 q1 q2 q3 q4 c1 e0 e1 e2 e3 e4
      go_wp2
      go_roundw
      case rel => exact ⟨j + 1, by omega, by go_num, hrel'.out⟩
      case measure => simp [intOf]; omega
    · obtain rfl : j = k := by omega
      go_wp2
      refine bodyPost_end (results_none rfl _ _ _) rfl ?_
      exact ⟨rfl, tagj, f2j, hI, hS⟩
end Go.Proofs.Ytndlpmnidpandaa
