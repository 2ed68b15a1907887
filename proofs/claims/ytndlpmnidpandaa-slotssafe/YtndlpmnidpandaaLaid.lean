/-
  The contract of laid: data laid into an owned row.
-/
import Derived.Test.YtndlpmnidpandaaMem
namespace Go.Proofs.Ytndlpmnidpandaa
open Go.RowKit
set_option linter.unusedVariables false
set_option linter.unusedSimpArgs false

theorem row_shape {w : World} {v : Value} {zs : List Int} (h : Row w v zs) : ∃ a cap, v = .slice a zs.length cap ∧ zs.length ≤ cap := by
  rcases h.2 with ⟨rfl, h0⟩ | ⟨g, cap, cur, rfl, _, hg, hc, hm, _, _⟩
  · exact ⟨none, 0, by rw [h0], by omega⟩
  · exact ⟨some ⟨g, 0, none⟩, cap, rfl, hc⟩

/-- The cut 'p[off:]' of an owned row. -/
theorem row_cut {w : World} {a : Option Addr} {cap : Nat} {zs : List Int} (h : Row w (.slice a zs.length cap) zs) (off : Nat) (hoff : off ≤ zs.length) :
    ∃ dp dc, (∀ W : World, (Instr.slice 23 (.slice a zs.length cap) (some (.int .i64 (off : Int))) none none).run Try.prog W = .ok (.slice dp (zs.length - off) dc) W) ∧
      (dp = none ∨ ∃ g cap', Value.slice a zs.length cap = .slice (some ⟨g, 0, none⟩) zs.length cap' ∧ (dp = some ⟨g, 0, none⟩ ∧ cap' = off ∨ dp = some ⟨g, off, none⟩)) ∧ (dp = none → zs = []) := by
  obtain ⟨i, hi, hz, hsize, hby⟩ := info_parts Try.info5
  refine ⟨if cap = off then a else a.map (·.add (off * 1)), cap - off, fun W => ?_, ?_, ?_⟩
  · have hel : Try.prog.underlying 23 = some (.slice (Try.prog.elem 23)) := by rw [show Try.prog.elem 23 = 5 from by kernel_rfl]; exact Try.underlying23
    rw [Go.run_slice_l (P := Try.prog) W 23 a zs.length cap hel .i64 (off : Int) (by omega) (by omega)]
    rw [show Try.prog.elem 23 = 5 from by kernel_rfl]
    simp [sizeOf, typeInfo, hi, hsize, Result.andThen, sliced]
  · rcases h.2 with ⟨hx, h0⟩ | ⟨g, cap', cur, hx, _, hg, hc, hm, _, _⟩
    · simp only [Value.slice.injEq] at hx; obtain ⟨rfl, _, rfl⟩ := hx; left; simp
    · simp only [Value.slice.injEq] at hx
      obtain ⟨rfl, _, rfl⟩ := hx
      right
      refine ⟨g, cap, rfl, ?_⟩
      by_cases hco : cap = off
      · left; simp [hco]
      · right; simp [hco, Go.WideShapes.add_plain]
  · rcases h.2 with ⟨hx, h0⟩ | ⟨g, cap', cur, hx, _, hg, hc, hm, _, _⟩
    · intro _; exact List.eq_nil_of_length_eq_zero h0
    · simp only [Value.slice.injEq] at hx
      obtain ⟨rfl, _, rfl⟩ := hx
      by_cases hco : cap = off <;> simp [hco]

theorem rd_shape {w : World} {v : Value} {zs : List Int} (h : RdAt w v zs) : ∃ a c, v = .slice a zs.length c ∧ (a = none → zs.length = 0 ∧ c = 0) := by
  obtain ⟨a, c, rfl, ha, _⟩ := h
  exact ⟨a, c, rfl, ha⟩

set_option maxRecDepth 100000 in
set_option maxHeartbeats 1000000 in
theorem laid_any (w : World) (v dv : Value) (zs ds : List Int) (off : Nat) (hrow : Row w v zs) (hrd : RdAt w dv ds) (hne : ∀ g, v.ownBlock = some g → dv.ownBlock ≠ some g)
    (hb : zs.length ≤ 1048576) (ho : off + ds.length ≤ 1048576) :
    Calls Try.prog 51 #[v, .int .i64 (off : Int), dv] w fun e w' => ∃ v', e = .returned v' ∧ Row w' v' (laidL zs off ds) ∧ w.grownBy w' v.ownBlock ∧ (v'.ownBlock = v.ownBlock ∨ ∃ g, v'.ownBlock = some g ∧ w.heap.size ≤ g) := by
  obtain ⟨a, cap, rfl, _⟩ := row_shape hrow
  obtain ⟨da, dc, rfl, hdn⟩ := rd_shape hrd
  by_cases hl : zs.length < off + ds.length
  · obtain ⟨k, hk⟩ : ∃ k : Nat, k = off + ds.length - zs.length := ⟨_, rfl⟩
    have H1 : 0 < k := by omega
    have H2 : ((off : Int) + (ds.length : Int) - (zs.length : Int)) = (k : Int) := by omega
    obtain ⟨v', w1, hrun, hrow1, hg1, hblk⟩ := run_append_zeros w (.slice a zs.length cap) zs hrow k (by omega) (by omega)
    have hrd1 : RdAt w1 (.slice da ds.length dc) ds := by
      by_cases h0 : ds.length = 0
      · obtain ⟨a', c', hx, h1, h2, _⟩ := hrd
        exact ⟨a', c', hx, h1, h2, .inl h0⟩
      · exact hrd.of_block (fun g hg => hg1.block g (hrd.lt (by omega) hg) (fun e => hne g e.symm hg))
    obtain ⟨a1, cap1, rfl, _⟩ := row_shape hrow1
    obtain ⟨dp, dcap, hcut, hdp, hdpn⟩ := row_cut hrow1 off (by simp; omega)
    have hlen : off + ds.length ≤ (zs ++ List.replicate k 0).length := by simp; omega
    have hfin : over (zs ++ List.replicate k 0) off ds = laidL zs off ds := by rw [hk]; rfl
    obtain ⟨Z, hZ⟩ : ∃ Z, Z = zs ++ List.replicate k 0 := ⟨_, rfl⟩
    rw [← hZ] at hrun hrow1 hcut hdp hdpn hlen hfin hblk
    obtain ⟨n, hn⟩ : ∃ n, n = Z.length := ⟨_, rfl⟩
    obtain ⟨dl, hdl⟩ : ∃ dl, dl = Z.length - off := ⟨_, rfl⟩
    rw [← hdl] at hcut
    replace hdl := Kpt.mk hdl
    have hdp' : dp = none ∨ ∃ g cap, Value.slice a1 n cap1 = .slice (some ⟨g, 0, none⟩) Z.length cap ∧ (dp = some ⟨g, 0, none⟩ ∧ cap = off ∨ dp = some ⟨g, off, none⟩) := by rw [hn]; exact hdp
    have hrow1' : Row w1 (.slice a1 n cap1) Z := by rw [hn]; exact hrow1
    rw [← hn] at hrun hcut hblk
    clear hdp hrow1 hn hZ hk hrow hrd hne hl
    replace hrun := Kpt.mk hrun
    go_enter Try.func51, Try.ntmps51
    go_wp2_with (first | (at_builtin; refine Lib.wpList_append_run _ rfl (.tmp 17) (.tmp 18) 23 3 rfl (.slice a zs.length cap) (.int .i64 (k : Int)) rfl rfl (.slice a1 n cap1) w1 (hrun.out _) ?_) | (refine wpList_copy_row rfl _ _ rfl (.slice a1 n cap1) Z hrow1' off dp dl dcap rfl hdl.out hdp' hdpn _ ds rfl hrd1 hlen ?_; intro w2 hrow2 hg2))
    go_ret
    refine ⟨_, rfl, hfin ▸ hrow2, ?_, hblk⟩
    exact hg1.andThen hg2 (fun j hj => by
      rcases hblk with hb' | ⟨g, hb', hg⟩
      · right; rw [← hb']; exact hj
      · left; rw [hb'] at hj; cases hj; exact hg)
  · have H1 : ¬ ((0 : Int) < (off : Int) + (ds.length : Int) - (zs.length : Int)) := by omega
    obtain ⟨dp, dcap, hcut, hdp, hdpn⟩ := row_cut hrow off (by omega)
    have hfin : over zs off ds = laidL zs off ds := by unfold laidL; rw [show off + ds.length - zs.length = 0 by omega]; simp
    have hlen : off + ds.length ≤ zs.length := by omega
    go_enter Try.func51, Try.ntmps51
    go_wp2_with (refine wpList_copy_row rfl _ _ rfl (.slice a zs.length cap) zs hrow off dp _ dcap rfl rfl hdp hdpn _ ds rfl hrd hlen ?_; intro w2 hrow2 hg2)
    go_ret
    exact ⟨_, rfl, hfin ▸ hrow2, hg2, .inl rfl⟩
end Go.Proofs.Ytndlpmnidpandaa
