/-
  The contract of the turn of four numbers by a block.
-/
import Derived.Test.YtaedkofljmonjaaDoorQWrd
import Derived.Test.YtaedkofljmonjaaDoorQPut
namespace Go.Proofs.YtaedkofljmonjaaDoor
open Go.RowKit
set_option linter.unusedVariables false
set_option linter.unusedSimpArgs false

/-- Four numbers as a value. -/
def q4v (h : Q4) : Array Value := #[.int .u32 (h.a : Int), .int .u32 (h.b : Int), .int .u32 (h.c : Int), .int .u32 (h.d : Int)]

/-- The program's tables lie as they were laid. -/
structure Gl (w : World) : Prop where
  add : ∀ i, i < 64 → w.cell? ⟨0, i, none⟩ = some (.int .u32 (kL.getD i 0 : Nat))
  turn : ∀ i, i < 16 → w.cell? ⟨1, i, none⟩ = some (.int .i64 (tL.getD i 0 : Nat))
theorem Gl.lt {w : World} (h : Gl w) : 2 ≤ w.heap.size := World.block_lt_of_cell? w ⟨1, 0, none⟩ (h.turn 0 (by omega))
theorem Gl.below {w w' : World} {n : Nat} (h : Gl w) (hb : Below n w w') (hn : 2 ≤ n) : Gl w' :=
  ⟨fun i hi => (hb.cell (p := ⟨0, i, none⟩) (by simp; omega)).trans (h.add i hi), fun i hi => (hb.cell (p := ⟨1, i, none⟩) (by simp; omega)).trans (h.turn i hi)⟩
theorem Gl.bel {w w' : World} (h : Gl w) (hb : Below w.heap.size w w') : Gl w' := h.below hb h.lt

theorem Bx.drewN {w : World} {b : Nat} {cs : Array Value} (h : Bx w b cs) (k : Nat) : Bx (w.drewN k) b cs := ⟨h.lt, h.cells, h.free⟩

/-- The words of a block, the first k of them laid. -/
def mArr (zs : List Int) (k : Nat) : Array Value := ((List.range 16).map fun j => Value.int .u32 (if j < k then (wordN zs j : Int) else 0)).toArray
theorem mArr_size (zs : List Int) (k : Nat) : (mArr zs k).size = 16 := by simp [mArr]
theorem mArr_at (zs : List Int) (k j : Nat) (hj : j < 16) : (mArr zs k)[j]? = some (.int .u32 (if j < k then (wordN zs j : Int) else 0)) := by simp [mArr, hj]
theorem mArr_zero (zs : List Int) : mArr zs 0 = (List.replicate 16 (Value.int .u32 0)).toArray := by
  apply Array.ext'
  simp [mArr, List.map_const']
theorem mArr_succ (zs : List Int) (k : Nat) (hk : k < 16) : (mArr zs k).setIfInBounds k (.int .u32 (wordN zs k : Int)) = mArr zs (k + 1) := by
  apply Array.ext (by simp [mArr])
  intro j h1 h2
  have hj : j < 16 := by simpa [mArr] using h2
  simp only [mArr, List.setIfInBounds_toArray, List.getElem_toArray, List.getElem_set, List.getElem_map, List.getElem_range]
  by_cases e : k = j
  · subst e; simp
  · simp only [e, if_false]
    by_cases h : j < k
    · simp [h, show j < k + 1 by omega]
    · simp [h, show ¬ j < k + 1 by omega]

theorem wordN_drop (zs : List Int) (k : Nat) : wordN (zs.drop (4 * k)) 0 = wordN zs k := by
  unfold wordN; simp only [drop_getD]; rfl
theorem wordN_lt {zs : List Int} (hb : Bytes zs) (j : Nat) : wordN zs j < 4294967296 := by
  have h0 := hb (4 * j); have h1 := hb (4 * j + 1); have h2 := hb (4 * j + 2); have h3 := hb (4 * j + 3)
  unfold wordN; omega

theorem kL_lt (i : Nat) : kL.getD i 0 < 4294967296 := by
  have : ∀ x ∈ kL, x < 4294967296 := by decide
  rw [List.getD_eq_getElem?_getD]
  cases h : kL[i]? with
  | none => simp
  | some x => exact this x (List.mem_of_getElem? h)
theorem tL_lt (i : Nat) : tL.getD i 0 < 32 := by
  have : ∀ x ∈ tL, x < 32 := by decide
  rw [List.getD_eq_getElem?_getD]
  cases h : tL[i]? with
  | none => simp
  | some x => exact this x (List.mem_of_getElem? h)

theorem info38 : (Tryd.prog.info? 38).map (·.size) = some 4 := by kernel_rfl

/-- The call's own three blocks. -/
structure Mx (w W : World) (B : Nat) (h : Q4) (zs : List Int) (k : Nat) : Prop where
  hd : Bx W B (q4v h)
  out : Bx W (B + 1) #[.int .u32 0, .int .u32 0, .int .u32 0, .int .u32 0]
  ws : Bx W (B + 1 + 1) (mArr zs k)
  bel : Below B w W
theorem Mx.drewN {w W : World} {B : Nat} {h : Q4} {zs : List Int} {k : Nat} (x : Mx w W B h zs k) (q : Nat) : Mx w (W.drewN q) B h zs k :=
  ⟨x.hd.drewN q, x.out.drewN q, x.ws.drewN q, below_drewN x.bel q⟩
theorem Mx.start (w : World) (h : Q4) (zs : List Int) (A : Array Value) (hA : A = mArr zs 0) : Mx w (((w.alloc (.cells (q4v h) 38)).alloc (.cells #[.int .u32 0, .int .u32 0, .int .u32 0, .int .u32 0] 38)).alloc (.cells A 55)) w.heap.size h zs 0 := by
  subst hA
  refine ⟨((bx_new w _ 38).alloc _).alloc _, ?_, ?_, ((((Below.refl _ w).alloc (Nat.le_refl _) _).alloc (by simp) _).alloc (by simp; omega) _)⟩
  · have := (bx_new (w.alloc (.cells (q4v h) 38)) #[.int .u32 0, .int .u32 0, .int .u32 0, .int .u32 0] 38).alloc (.cells (mArr zs 0) 55)
    rwa [World.size_alloc] at this
  · have := bx_new ((w.alloc (.cells (q4v h) 38)).alloc (.cells #[.int .u32 0, .int .u32 0, .int .u32 0, .int .u32 0] 38)) (mArr zs 0) 55
    rwa [World.size_alloc, World.size_alloc] at this
theorem Mx.step {w W : World} {B : Nat} {h : Q4} {zs : List Int} {k : Nat} (x : Mx w W B h zs k) (hk : k < 16) : Mx w (W.setCell ⟨B + 1 + 1, k, none⟩ (.int .u32 (wordN zs k : Int))) B h zs (k + 1) := by
  have hg := grown_setCellK W ⟨B + 1 + 1, k, none⟩ (.int .u32 (wordN zs k : Int))
  refine ⟨x.hd.grown hg (by simp; omega), x.out.grown hg (by simp), ?_, x.bel.setCell (p := ⟨B + 1 + 1, k, none⟩) (by simp; omega) _⟩
  have := bx_setCell (.int .u32 (wordN zs k : Int)) x.ws (j := k) (by rw [mArr_size]; exact hk)
  rwa [mArr_succ zs k hk] at this

set_option maxRecDepth 100000 in
set_option maxHeartbeats 1000000 in
theorem mixed_any (h : Q4) (hh : h.ok) (b off n c : Nat) (zs : List Int) (w : World) (hr : RdAt w (.slice (some ⟨b, off, none⟩) n c) zs) (hl : 64 ≤ zs.length) (hlt : b < w.heap.size) (hb : Bytes zs) (hG : Gl w) :
    Calls Tryd.prog 18 #[.agg (q4v h), .slice (some ⟨b, off, none⟩) n c] w fun e w' => e = .returned (.agg (q4v (mixN (wordN zs) h))) ∧ Below w.heap.size w w' := by
  replace hG := Kpt.mk hG
  have hrk := Kpt.mk hr
  obtain ⟨hlen, hcap⟩ : n = zs.length ∧ zs.length ≤ c := by
    obtain ⟨a, c', e, _, h2, _⟩ := hr
    cases e; exact ⟨rfl, h2⟩
  clear hr
  have hn64 : 64 ≤ n := by omega
  have hc64 : n ≤ c := by omega
  replace hlen := Kpt.mk hlen
  clear hcap
  obtain ⟨ha, hbb, hc, hd⟩ := hh
  generalize hR : mixN (wordN zs) h = R
  replace hR := Kpt.mk hR
  unfold q4v
  go_enter Tryd.func18, Tryd.ntmps18
  go_wp2
  have m0 := Kpt.mk (Mx.start w h zs _ (mArr_zero zs).symm)
  simp only [List.replicate_succ, List.replicate_zero, q4v] at m0
  have hBw : Kpt (b < w.heap.size) := ⟨hlt⟩
  have hbk := Kpt.mk hb
  clear hlt hb
  go_loopw [15] (fun t wr => ∃ k : Nat, k ≤ 16 ∧ t = .int .i64 k ∧ Kpt (Mx w wr w.heap.size h zs k)) (fun t _ => 16 - (intOf t).toNat)
  case atStart => exact ⟨0, by omega, rfl, m0⟩
  case round =>
    obtain ⟨k, hk, rfl, hM⟩ := hrel
    clear m0
    by_cases hlt : k < 16
    · have hrd := Kpt.mk (rd_drop (hrk.out.of_block (w' := wr) (fun g hg => by simp [Value.ownBlock] at hg; subst hg; exact hM.out.bel.block _ hBw.out)) (k * 4) (by omega))
      have hwd : Calls Tryd.prog 29 #[.slice (some ⟨b, off + k * 4, none⟩) (n - k * 4) (c - k * 4)] wr fun e w' => e = .returned (.int .u32 (wordN zs k : Int)) ∧ ∃ q, w' = wr.drewN q := by
        have := word_any b (off + k * 4) (n - k * 4) (c - k * 4) (zs.drop (k * 4)) wr (by have := hrd.out; rw [show offK c off (k * 4) = off + k * 4 by unfold offK; rw [if_neg (by omega)]] at this; exact this) (by simp; have := hlen.out; omega) (hbk.out.drop _)
        rw [Nat.mul_comm, wordN_drop] at this
        rw [Nat.mul_comm]
        exact this
      replace hwd := Kpt.mk hwd
      have hcl : ∀ q, (wr.drewN q).cell? ⟨w.heap.size + 1 + 1, k, none⟩ = some (.int .u32 0) := fun q => by
        have := (hM.out.drewN q).ws.cells k (by rw [mArr_size]; exact hlt)
        rw [this, mArr_at _ _ _ hlt, if_neg (by omega)]
      have hfr : ∀ q, (wr.drewN q).frozen? ⟨w.heap.size + 1 + 1, k, none⟩ = false := fun q => (hM.out.drewN q).ws.free k
      clear hrd
      go_wp2_with ((go_at_call 29; go_must (refine hwd.out.mono ?_; rintro e w' ⟨rfl, q, rfl⟩; have hclq := hcl q; have hfrq := hfr q; clear hcl hfr hwd)))
      exact ⟨⟨k + 1, by omega, by simp, ⟨(hM.out.drewN q).step hlt⟩⟩, by simp [intOf]; omega⟩
    · obtain rfl : k = 16 := by omega
      have c0 : ∀ m, (wr.drewN m).cell? ⟨w.heap.size, 0, none⟩ = some (.int .u32 (h.a : Int)) := fun m => (hM.out.drewN m).hd.cells 0 (by simp [q4v])
      have c1 : ∀ m, (wr.drewN m).cell? ⟨w.heap.size, 1, none⟩ = some (.int .u32 (h.b : Int)) := fun m => (hM.out.drewN m).hd.cells 1 (by simp [q4v])
      have c2 : ∀ m, (wr.drewN m).cell? ⟨w.heap.size, 2, none⟩ = some (.int .u32 (h.c : Int)) := fun m => (hM.out.drewN m).hd.cells 2 (by simp [q4v])
      have c3 : ∀ m, (wr.drewN m).cell? ⟨w.heap.size, 3, none⟩ = some (.int .u32 (h.d : Int)) := fun m => (hM.out.drewN m).hd.cells 3 (by simp [q4v])
      go_wp2
      go_quiet (fail)
      go_wp2
      have hMq := Kpt.mk (hM.out.drewN nq)
      clear c0 c1 c2 c3 hM
      rw [show ((16 : Nat) : Int) = 16 from rfl]
      go_loopw [7, 8, 9, 10, 34] (fun x7 x8 x9 x10 t wq => ∃ (k : Nat) (s : Q4), k ≤ 64 ∧ x7 = .int .u32 (s.a : Int) ∧ x8 = .int .u32 (s.b : Int) ∧ x9 = .int .u32 (s.c : Int) ∧ x10 = .int .u32 (s.d : Int) ∧ t = .int .i64 k ∧ Kpt (s = stepsN (wordN zs) h k) ∧ Kpt (Mx w wq w.heap.size h zs 16)) (fun _ _ _ _ t _ => 64 - (intOf t).toNat)
      case atStart => exact ⟨0, h, by omega, rfl, rfl, rfl, rfl, rfl, ⟨rfl⟩, hMq⟩
      case round =>
        obtain ⟨k, s, hk, rfl, rfl, rfl, rfl, rfl, hs, hM⟩ := hrel
        clear hMq
        by_cases hlt : k < 64
        · have hok : s.ok := by rw [hs.out]; exact stepsN_ok ⟨ha, hbb, hc, hd⟩ k
          have hpk := Kpt.mk (pick_any k s.b s.c s.d hlt)
          have hGq := Kpt.mk (hG.out.below hM.out.bel hG.out.lt)
          have hF := fN_lt k hok.2.1 hok.2.2.1 hok.2.2.2
          have hgl := gN_lt hlt
          have a0 : ∀ q, (wr.drewN q).cell? ⟨0, k, none⟩ = some (.int .u32 (kL.getD k 0 : Nat)) := fun q => hGq.out.add k hlt
          have a1 : ∀ q, (wr.drewN q).cell? ⟨1, k / 16 * 4 + k % 4, none⟩ = some (.int .i64 (tL.getD (4 * (k / 16) + k % 4) 0 : Nat)) := fun q => by rw [Nat.mul_comm]; exact hGq.out.turn _ (by omega)
          have a2 : ∀ q, (wr.drewN q).cell? ⟨w.heap.size + 1 + 1, gN k, none⟩ = some (.int .u32 (wordN zs (gN k) : Int)) := fun q => by
            have := (hM.out.drewN q).ws.cells (gN k) (by rw [mArr_size]; exact hgl)
            rw [this, mArr_at _ _ _ hgl, if_pos hgl]
          have hK := kL_lt k
          have hT := tL_lt (4 * (k / 16) + k % 4)
          have hW := wordN_lt hbk.out (gN k)
          have hst : Kpt (stepN (wordN zs) k s = ⟨s.d, (s.b + rotN ((s.a + fN k s.b s.c s.d + kL.getD k 0 + wordN zs (gN k)) % 4294967296) (tL.getD (4 * (k / 16) + k % 4) 0)) % 4294967296, s.b, s.c⟩) := ⟨rfl⟩
          generalize kL.getD k 0 = KK at *
          generalize tL.getD (4 * (k / 16) + k % 4) 0 = TT at *
          generalize wordN zs (gN k) = MM at *
          generalize fN k s.b s.c s.d = FF at *
          generalize gN k = GG at *
          obtain ⟨o1, o2, o3, o4⟩ := hok
          have hrot : ∀ W, Calls Tryd.prog 31 #[.int .u32 (((s.a : Int) + FF + KK + MM) % 4294967296), .int .i64 (TT : Int)] W fun e w' => e = .returned (.int .u32 (rotN ((s.a + FF + KK + MM) % 4294967296) TT : Int)) ∧ w' = W := fun W => by
            have := rot_any ((s.a + FF + KK + MM) % 4294967296) TT W (Nat.mod_lt _ (by omega)) hT
            rwa [show (((s.a + FF + KK + MM) % 4294967296 : Nat) : Int) = ((s.a : Int) + FF + KK + MM) % 4294967296 by omega] at this
          replace hrot := Kpt.mk hrot
          go_wp2_with ((go_at_call 30; go_must (refine (hpk.out _ o2 o3 o4).mono ?_; rintro e w' ⟨rfl, rfl⟩; clear hpk)))
          go_quiet ((go_at_call 31; exact Calls.quiet_of_same (hrot.out _)))
          go_wp2
          go_roundw
          case rel => exact ⟨k + 1, stepN (wordN zs) k s, by omega, by rw [hst.out], by rw [hst.out]; simp, by rw [hst.out], by rw [hst.out], by simp, ⟨by rw [stepsN, hs.out]⟩, ⟨hM.out.drewN _⟩⟩
          case measure => simp [intOf]; omega
        · obtain rfl : k = 64 := by omega
          have c0 : wr.cell? ⟨w.heap.size, 0, none⟩ = some (.int .u32 (h.a : Int)) := hM.out.hd.cells 0 (by simp [q4v])
          have c1 : wr.cell? ⟨w.heap.size, 1, none⟩ = some (.int .u32 (h.b : Int)) := hM.out.hd.cells 1 (by simp [q4v])
          have c2 : wr.cell? ⟨w.heap.size, 2, none⟩ = some (.int .u32 (h.c : Int)) := hM.out.hd.cells 2 (by simp [q4v])
          have c3 : wr.cell? ⟨w.heap.size, 3, none⟩ = some (.int .u32 (h.d : Int)) := hM.out.hd.cells 3 (by simp [q4v])
          have hok : s.ok := by rw [hs.out]; exact stepsN_ok ⟨ha, hbb, hc, hd⟩ 64
          obtain ⟨o1, o2, o3, o4⟩ := hok
          go_wp2_with ((refine (?_ : wpList _ _ _ (Oper.mk none (Op.store 38 _ _) _ _ _ _ :: _) _ _); go_must (refine wpList_store_bx rfl 38 (.tmp 4) (.tmp 87) rfl (w.heap.size + 1) #[.int .u32 0, .int .u32 0, .int .u32 0, .int .u32 0] _ rfl rfl hM.out.out rfl (by kernel_rfl) (by simp [Value.oneCell']) rfl ?_; intro w2 hX2 hg2)))
          have hX3 : Bx w2 (w.heap.size + 1) (q4v R) := by
            have e : q4v R = #[.int .u32 (((h.a : Int) + s.a) % 4294967296), .int .u32 (((h.b : Int) + s.b) % 4294967296), .int .u32 (((h.c : Int) + s.c) % 4294967296), .int .u32 (((h.d : Int) + s.d) % 4294967296)] := by
              rw [← hR.out, hs.out]; simp [q4v, mixN]
            rw [e]; exact hX2
          refine bodyPost_ret (v := .agg (q4v R)) (by simp [results, Tryd.results18, asAddr, run_res hX3 38 _ Tryd.underlying38 rfl info38]) rfl ⟨rfl, hM.out.bel.grown hg2 hM.out.bel.size (fun k e => by cases e; simp)⟩

end Go.Proofs.YtaedkofljmonjaaDoor
