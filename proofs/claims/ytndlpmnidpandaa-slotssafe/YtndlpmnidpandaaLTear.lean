/-
  The contract of tear: the first bytes of a write are durable.
-/
import Derived.Test.YtndlpmnidpandaaLTwin
namespace Go.Proofs.Ytndlpmnidpandaa
open Go.RowKit Go.Maps
set_option linter.unusedVariables false
set_option linter.unusedSimpArgs false

theorem Inv.more {w : World} {B : Nat} {tag : Tags} {st : St} {M1 M2 n2 : Nat} {wv : Value} {fv : Option Nat} {f1 f2 : ByteArray → Option Value} {l : List (Chg × Value)} (h : Inv w B tag st M1 M2 wv fv f1 f2 l n2) :
    Inv w B tag { st with cnt := st.cnt + 1 } M1 M2 wv fv f1 f2 l (n2 + 1) :=
  { cell := h.cell, tB := h.tB, t1 := h.t1, t2 := h.t2, map1 := h.map1.mono (Nat.le_succ _), map2 := h.map2.mono (Nat.le_succ _), seen := h.seen, dur := h.dur, waits := h.waits, l_eq := h.l_eq, fails := h.fails, lt := h.lt,
    opsLo := h.opsLo, opsHi := by have := h.opsHi; show st.ops ≤ ((st.cnt + 1 : Nat) : Int); omega, cnt2 := by have := h.cnt2; show n2 + 1 + l.length ≤ st.cnt + 1; omega }

/-- The cut 'p[:k]' of an owned row. -/
theorem row_head {w : World} {a : Option Addr} {cap : Nat} {zs : List Int} (h : Row w (.slice a zs.length cap) zs) (k : Nat) (hk : k ≤ zs.length) :
    (∀ W : World, (Instr.slice 23 (.slice a zs.length cap) none (some (.int .i64 (k : Int))) none).run Try.prog W = .ok (.slice a k cap) W) ∧ RdAt w (.slice a k cap) (zs.take k) := by
  obtain ⟨i, hi, hz, hsize, hby⟩ := info_parts Try.info5
  have hlt : (zs.take k).length = k := by simp; omega
  obtain ⟨a', c', hx, hn, hlc, hr⟩ := h.rd
  simp only [Value.slice.injEq, true_and] at hx
  obtain ⟨rfl, rfl⟩ := hx
  constructor
  · intro W
    have hel : Try.prog.underlying 23 = some (.slice (Try.prog.elem 23)) := by rw [show Try.prog.elem 23 = 5 from by kernel_rfl]; exact Try.underlying23
    rw [Go.run_slice_h (P := Try.prog) W 23 a zs.length cap hel .i64 (k : Int) (by omega) (by omega)]
    rw [show Try.prog.elem 23 = 5 from by kernel_rfl]
    simp [sizeOf, typeInfo, hi, hsize, Result.andThen, sliced]
    intro _
    rcases h.2 with ⟨hx, _⟩ | ⟨g, cap', cur, hx, _⟩
    · simp only [Value.slice.injEq] at hx; rw [hx.1]; simp
    · simp only [Value.slice.injEq] at hx; rw [hx.1]; simp [Go.WideShapes.add_plain]
  · refine ⟨a, cap, by rw [hlt], fun e => ⟨by have := hn e; omega, (hn e).2⟩, by omega, ?_⟩
    rcases hr with h0 | ⟨b, off, rfl, hc⟩
    · left; omega
    · right
      refine ⟨b, off, rfl, fun j u hu => hc j u ?_⟩
      simp only [cels, List.map_take, List.getElem?_take] at hu
      split at hu
      · exact hu
      · cases hu

/-- What is durable behind a cut. -/
def torn (s : ByteArray) (off : Nat) (ds : List Int) (cut : Nat) (F : FilesF) : FilesF := if cut = 0 then F else (Chg.wr s off (ds.take cut)).run F

set_option maxRecDepth 100000 in
set_option maxHeartbeats 2000000 in
theorem tear_wr (w : World) (B : Nat) (tag : Tags) (st : St) (M1 M2 n2 : Nat) (wv : Value) (fv : Option Nat) (f1 f2 : ByteArray → Option Value) (l : List (Chg × Value))
    (h : Inv w B tag st M1 M2 wv fv f1 f2 l n2) (hc : st.cnt < 1099511627776) (s : ByteArray) (off : Nat) (ds : List Int) (da : Option Addr) (dc : Nat) (hok : (Chg.wr s off ds).ok w tag (.slice da ds.length dc)) (cut : Nat) (hcu : cut < 1099511627776) :
    Calls Try.prog 36 #[.pointer (some ⟨B, 0, none⟩), .agg #[.int .i64 0, .string s, .string ⟨#[]⟩, .int .i64 (off : Int), .slice da ds.length dc], .int .i64 (cut : Int)] w fun e w' => e = .returned (.tuple #[]) ∧
      ∃ tag' f2', Inv w' B tag' { st with dur := torn s off ds cut st.dur, cnt := st.cnt + 1 } M1 M2 wv fv f1 f2' l (n2 + 1) ∧ Step w w' tag tag' (fun t => t = .m2 ∨ ∃ s, t = .r2 s) := by
  by_cases h0 : cut = 0
  · subst h0
    have fin : ∀ o, ∃ tag' f2', Inv (w.alloc o) B tag' { st with dur := torn s off ds 0 st.dur, cnt := st.cnt + 1 } M1 M2 wv fv f1 f2' l (n2 + 1) ∧ Step w (w.alloc o) tag tag' (fun t => t = .m2 ∨ ∃ s, t = .r2 s) := by
      intro o
      have g := World.grownBy_alloc w o none
      exact ⟨tag, f2, (h.step (Step.grown g _ _)).more, Step.grown g _ _⟩
    replace fin := Kpt.mk fin
    clear h hok
    go_enter Try.func36, Try.ntmps36
    go_wp2
    refine bodyPost_ret (results_none rfl _ _ _) rfl ?_
    exact ⟨rfl, fin.out _⟩
  · have hpos : ¬ ((cut : Int) ≤ 0) := by omega
    obtain ⟨ct, hct⟩ : ∃ ct, ct = min cut ds.length := ⟨_, rfl⟩
    have hctl : ct ≤ ds.length := by omega
    obtain ⟨hhead, hrdh⟩ := row_head hok.2.2.1 ct hctl
    have htk : ds.take ct = ds.take cut := by
      rw [hct]
      by_cases hle : cut ≤ ds.length
      · rw [Nat.min_eq_left hle]
      · rw [Nat.min_eq_right (by omega), List.take_of_length_le (by omega), List.take_of_length_le (by omega)]
    have hA : (cut ≤ ds.length ∧ cut = ct) ∨ (ds.length < cut ∧ ds.length = ct) := by omega
    obtain ⟨b0, hb0⟩ : ∃ b0, b0 = w.heap.size := ⟨_, rfl⟩
    obtain ⟨w0, hw0⟩ : ∃ w0, w0 = w.alloc (.cells #[.int .i64 0, .string s, .string ⟨#[]⟩, .int .i64 (off : Int), .slice da ct dc] 83) := ⟨_, rfl⟩
    have hgr0 : w.grownBy w0 none := by rw [hw0]; exact World.grownBy_alloc w _ none
    have hh0 : w0.heap[b0]? = some (.cells #[.int .i64 0, .string s, .string ⟨#[]⟩, .int .i64 (off : Int), .slice da ct dc] 83 (0, 0)) := by rw [hw0, hb0]; exact heap_alloc_new w _
    have hsz0 : w.heap.size < w0.heap.size := by rw [hw0]; simp
    have hI0 := h.step (Step.grown hgr0 tag _)
    have q0 : w0.cell? ⟨b0, 0, none⟩ = some (.int .i64 0) := by simp [World.cell?, hh0]
    have q1 : w0.cell? ⟨b0, 1, none⟩ = some (.string s) := by simp [World.cell?, hh0]
    have q2 : w0.cell? ⟨b0, 2, none⟩ = some (.string ⟨#[]⟩) := by simp [World.cell?, hh0]
    have q3 : w0.cell? ⟨b0, 3, none⟩ = some (.int .i64 (off : Int)) := by simp [World.cell?, hh0]
    have q4 : w0.cell? ⟨b0, 4, none⟩ = some (.slice da ct dc) := by simp [World.cell?, hh0]
    have c1 := hI0.at.2.1
    have htb0 : tag b0 = none := by
      cases hh : tag b0 with
      | none => rfl
      | some t => have := h.lt b0 (by rw [hh]; simp); omega
    have hapc := apply_wr w0.drew tag .r2 .m2 M2 n2 f2 st.dur s ⟨#[]⟩ off (ds.take ct) (.slice da ct dc) (fun a b e => by injection e) (fun a e => by cases e) hI0.t2 hI0.lt hI0.map2 hI0.dur (by have := h.cnt2; omega) hok.1
      (by have := hok.2.1; simp; omega)
      (by
        by_cases hz : (ds.take ct).length = 0
        · obtain ⟨a', c', hx, h1, h2, _⟩ := hrdh
          exact ⟨a', c', hx, h1, h2, .inl hz⟩
        · exact hrdh.of_block (fun g hg => hgr0.block g (hrdh.lt (by omega) hg) (by simp)))
      (fun g hg => .inl (hok.2.2.2 g (by cases da with | none => simp [Value.ownBlock] at hg | some x => exact hg))) (fun a e => by cases e)
    have fin : ∀ w1 tag1 f2', Applied w0.drew w1 tag tag1 .r2 .m2 M2 (n2 + 1) (updF st.dur s (some (laidL ((st.dur s).getD []) off (ds.take ct)))) f2' → (w1.cell? ⟨b0, 0, none⟩ = some (.int .i64 0) ∧ w1.cell? ⟨b0, 1, none⟩ = some (.string s) ∧ w1.cell? ⟨b0, 2, none⟩ = some (.string ⟨#[]⟩) ∧ w1.cell? ⟨b0, 3, none⟩ = some (.int .i64 (off : Int)) ∧ w1.cell? ⟨b0, 4, none⟩ = some (.slice da ct dc) ∧ w1.cell? ⟨B, 1, none⟩ = some (.map (some M2))) ∧
        ∃ tag' f2', Inv w1 B tag' { st with dur := torn s off ds cut st.dur, cnt := st.cnt + 1 } M1 M2 wv fv f1 f2' l (n2 + 1) ∧ Step w w1 tag tag' (fun t => t = .m2 ∨ ∃ s, t = .r2 s) := by
      intro w1 tag1 f2' ha
      have hgd : w.grownBy w0.drew none := ⟨hgr0.os, hgr0.tape, hgr0.output, hgr0.size, hgr0.block⟩
      obtain ⟨hN, hSN⟩ := hard_step h hgd ha
      have kb0 : w1.heap[b0]? = w0.heap[b0]? := ha.step.block b0 (by show b0 < w0.heap.size; omega) (by simp [htb0])
      refine ⟨⟨(World.cell?_of_block (a := ⟨b0, 0, none⟩) kb0).trans q0, (World.cell?_of_block (a := ⟨b0, 1, none⟩) kb0).trans q1, (World.cell?_of_block (a := ⟨b0, 2, none⟩) kb0).trans q2, (World.cell?_of_block (a := ⟨b0, 3, none⟩) kb0).trans q3, (World.cell?_of_block (a := ⟨b0, 4, none⟩) kb0).trans q4, hN.at.2.1⟩, tag1, f2', ?_, hSN⟩
      have e : torn s off ds cut st.dur = updF st.dur s (some (laidL ((st.dur s).getD []) off (ds.take ct))) := by simp [torn, h0, Chg.run, htk]
      rw [e]
      exact hN
    replace fin := Kpt.mk fin
    replace hapc := Kpt.mk hapc
    replace hh0 := Kpt.mk hh0
    replace htk := Kpt.mk htk
    have hC0 : Kpt (w0.cell? ⟨b0, 0, none⟩ = some (.int .i64 0) ∧ w0.cell? ⟨b0, 1, none⟩ = some (.string s) ∧ w0.cell? ⟨b0, 2, none⟩ = some (.string ⟨#[]⟩) ∧ w0.cell? ⟨b0, 3, none⟩ = some (.int .i64 (off : Int)) ∧ w0.cell? ⟨b0, 4, none⟩ = some (.slice da ct dc) ∧ w0.cell? ⟨B, 1, none⟩ = some (.map (some M2))) := ⟨q0, q1, q2, q3, q4, c1⟩
    clear h hok hrdh hI0 hct
    rcases hA with ⟨a1, e1⟩ | ⟨a1, e1⟩
    · have A1 : (cut : Int) ≤ (ds.length : Int) := by omega
      have A2 : ¬ ((ds.length : Int) < (cut : Int)) := by omega
      have A3 : min (cut : Int) (ds.length : Int) = cut := by omega
      subst e1
      go_enter Try.func36, Try.ntmps36
      go_wp2
      rw [← hw0, ← hb0]
      replace hw0 := Kpt.mk hw0
      replace hb0 := Kpt.mk hb0
      refine wp_region_any (by kernel_rfl) ?_
      refine wpAny_of_C (C := fun W => W.cell? ⟨b0, 0, none⟩ = some (.int .i64 0) ∧ W.cell? ⟨b0, 1, none⟩ = some (.string s) ∧ W.cell? ⟨b0, 2, none⟩ = some (.string ⟨#[]⟩) ∧ W.cell? ⟨b0, 3, none⟩ = some (.int .i64 (off : Int)) ∧ W.cell? ⟨b0, 4, none⟩ = some (.slice da cut dc) ∧ W.cell? ⟨B, 1, none⟩ = some (.map (some M2))) _ _ _ _ ?_
      refine wpAnyC_take 0 (.agg #[.int .i64 0, .string s, .string ⟨#[]⟩, .int .i64 (off : Int), .slice da cut dc]) rfl (by kernel_rfl) (by kernel_rfl) (by kernel_rfl) (fun _ _ _ h => h) (by rfl) (fun W ⟨p0, p1, p2, p3, p4, p5⟩ => by clear q0 q1 q2 q3 q4 c1; go_simp) ?_
      refine wpAnyC_take 1 (.pointer (some ⟨B, 0, none⟩)) rfl (by kernel_rfl) (by kernel_rfl) (by kernel_rfl) (fun _ _ _ h => h) (by rfl) (fun W _ => by go_simp) ?_
      refine wpAnyC_take 2 (.pointer (some ⟨B, 0, none⟩)) rfl (by kernel_rfl) (by kernel_rfl) (by kernel_rfl) (fun _ _ _ h => h) (by rfl) (fun W _ => by go_simp) ?_
      refine wpAnyC_take 3 (.pointer (some ⟨B, 1, none⟩)) rfl (by kernel_rfl) (by kernel_rfl) (by kernel_rfl) (fun _ _ _ h => h) (by rfl) (fun W _ => by go_simp) ?_
      refine wpAnyC_take 4 (.map (some M2)) rfl (by kernel_rfl) (by kernel_rfl) (by kernel_rfl) (fun _ _ _ h => h) (by rfl) (fun W ⟨p0, p1, p2, p3, p4, p5⟩ => by clear q0 q1 q2 q3 q4 c1; go_simp) ?_
      change wpAnyC _ _ _ _ _ _ _ _ w0.drew
      refine wpAnyC_one 5 hC0.out rfl (by kernel_rfl) (by rfl) (fun K hK => ?_)
      go_simp
      refine hapc.out.mono ?_
      rintro e w1 ⟨rfl, tag1, f2', ha⟩
      obtain ⟨hC1, hfin⟩ := fin.out w1 tag1 f2' ha
      dsimp only
      refine hK _ _ ?_
      clear hK K
      refine wpAnyC_done hC1 (by kernel_rfl) ?_
      replace hfin := Kpt.mk hfin
      clear hC1 ha
      go_wp2
      refine bodyPost_end (results_none rfl _ _ _) rfl ?_
      exact ⟨rfl, hfin.out⟩
    · have A1 : ¬ ((cut : Int) ≤ (ds.length : Int)) := by omega
      have A2 : ((ds.length : Int) < (cut : Int)) := by omega
      have A3 : min (cut : Int) (ds.length : Int) = ds.length := by omega
      subst e1
      go_enter Try.func36, Try.ntmps36
      go_wp2
      rw [← hw0, ← hb0]
      replace hw0 := Kpt.mk hw0
      replace hb0 := Kpt.mk hb0
      refine wp_region_any (by kernel_rfl) ?_
      refine wpAny_of_C (C := fun W => W.cell? ⟨b0, 0, none⟩ = some (.int .i64 0) ∧ W.cell? ⟨b0, 1, none⟩ = some (.string s) ∧ W.cell? ⟨b0, 2, none⟩ = some (.string ⟨#[]⟩) ∧ W.cell? ⟨b0, 3, none⟩ = some (.int .i64 (off : Int)) ∧ W.cell? ⟨b0, 4, none⟩ = some (.slice da ds.length dc) ∧ W.cell? ⟨B, 1, none⟩ = some (.map (some M2))) _ _ _ _ ?_
      refine wpAnyC_take 0 (.agg #[.int .i64 0, .string s, .string ⟨#[]⟩, .int .i64 (off : Int), .slice da ds.length dc]) rfl (by kernel_rfl) (by kernel_rfl) (by kernel_rfl) (fun _ _ _ h => h) (by rfl) (fun W ⟨p0, p1, p2, p3, p4, p5⟩ => by clear q0 q1 q2 q3 q4 c1; go_simp) ?_
      refine wpAnyC_take 1 (.pointer (some ⟨B, 0, none⟩)) rfl (by kernel_rfl) (by kernel_rfl) (by kernel_rfl) (fun _ _ _ h => h) (by rfl) (fun W _ => by go_simp) ?_
      refine wpAnyC_take 2 (.pointer (some ⟨B, 0, none⟩)) rfl (by kernel_rfl) (by kernel_rfl) (by kernel_rfl) (fun _ _ _ h => h) (by rfl) (fun W _ => by go_simp) ?_
      refine wpAnyC_take 3 (.pointer (some ⟨B, 1, none⟩)) rfl (by kernel_rfl) (by kernel_rfl) (by kernel_rfl) (fun _ _ _ h => h) (by rfl) (fun W _ => by go_simp) ?_
      refine wpAnyC_take 4 (.map (some M2)) rfl (by kernel_rfl) (by kernel_rfl) (by kernel_rfl) (fun _ _ _ h => h) (by rfl) (fun W ⟨p0, p1, p2, p3, p4, p5⟩ => by clear q0 q1 q2 q3 q4 c1; go_simp) ?_
      change wpAnyC _ _ _ _ _ _ _ _ w0.drew
      refine wpAnyC_one 5 hC0.out rfl (by kernel_rfl) (by rfl) (fun K hK => ?_)
      go_simp
      refine hapc.out.mono ?_
      rintro e w1 ⟨rfl, tag1, f2', ha⟩
      obtain ⟨hC1, hfin⟩ := fin.out w1 tag1 f2' ha
      dsimp only
      refine hK _ _ ?_
      clear hK K
      refine wpAnyC_done hC1 (by kernel_rfl) ?_
      replace hfin := Kpt.mk hfin
      clear hC1 ha
      go_wp2
      refine bodyPost_end (results_none rfl _ _ _) rfl ?_
      exact ⟨rfl, hfin.out⟩
end Go.Proofs.Ytndlpmnidpandaa
