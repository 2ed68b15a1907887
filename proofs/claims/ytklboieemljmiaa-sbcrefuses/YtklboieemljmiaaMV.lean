/-
  A device, a sense, a command; the contracts of the small functions. The contract of look. The contracts of withTuples and protect. Boxes laid and variables made, in a walk: the block and the world are letters. The contracts of protect with tuples, unpack, come. The contracts of unpack, come. The contract of come. A device; the contract of read. A function's run over a device: what has turned since it began; boxes of its own. The contracts of written, write, take. The contract of take.
-/
import Derived.Test.YtklboieemljmiaaMH
namespace Go.Proofs.Ytklboieemljmiaa
open Go.RowKit
set_option linter.unusedVariables false
set_option linter.unusedSimpArgs false

/-- A sense. -/
structure Sn where
  key : Int
  code : Int
  info : Int
  hi : Bool
  field : Int
  bit : Int
  hf : Bool
  ic : Bool
def Sn.vals (s : Sn) : Array Value := #[.int .u8 s.key, .int .u16 s.code, .int .u64 s.info, .bool s.hi, .int .i64 s.field, .int .i64 s.bit, .bool s.hf, .bool s.ic]
def noS : Sn := ⟨0, 0, 0, false, 0, 0, false, false⟩
def plS (key code : Int) : Sn := ⟨key, code, 0, false, 0, 0, false, false⟩
def nuS (key code n : Int) : Sn := ⟨key, code, n, true, 0, 0, false, false⟩
def cmS (code f : Int) : Sn := ⟨5, code, 0, false, f, 7, true, true⟩
def paS (f : Int) : Sn := ⟨5, 9728, 0, false, f, -1, true, false⟩
def zeroS : Array Value := #[.int .u8 0, .int .u16 0, .int .u64 0, .bool false, .int .i64 0, .int .i64 0, .bool false, .bool false]
theorem noS_vals : noS.vals = zeroS := rfl
theorem infoS : (Try.prog.info? 32).map (·.size) = some 8 := by kernel_rfl
theorem Sn.vals_one (c : Sn) : c.vals.all (·.oneCell') = true := by simp [Sn.vals, Value.oneCell']
/-- A command. -/
structure Cm where
  kd : Int
  lg : Bool
  lba : Int
  bl : Int
  al : Int
  fua : Bool
  pr : Int
  um : Bool
  ev : Bool
  pg : Int
  ct : Int
  sv : Bool
  se : Int
  ty : Int
  bs : Bool
def Cm.vals (c : Cm) : Array Value := #[.int .u8 c.kd, .bool c.lg, .int .u64 c.lba, .int .u64 c.bl, .int .i64 c.al, .bool c.fua, .int .u8 c.pr, .bool c.um, .bool c.ev, .int .u8 c.pg, .int .u8 c.ct, .bool c.sv, .int .u8 c.se, .int .u8 c.ty, .bool c.bs]
theorem infoC : (Try.prog.info? 38).map (·.size) = some 15 := by kernel_rfl

theorem plain_any (k c : Int) (w : World) : Calls Try.prog 31 #[.int .u8 k, .int .u16 c] w fun e w' => e = .returned (.agg (plS k c).vals) ∧ Below w.heap.size w w' := by
  go_enter Try.func31, Try.ntmps31
  go_wp2
  refine bodyPost_ret (v := .agg (plS k c).vals) (by simp [results, Try.results31, go_sem, plS, Sn.vals]) rfl ⟨rfl, ?_⟩
  exact (Below.refl _ _).alloc (Nat.le_refl _) _
theorem numbered_any (k c n : Int) (w : World) : Calls Try.prog 35 #[.int .u8 k, .int .u16 c, .int .u64 n] w fun e w' => e = .returned (.agg (nuS k c n).vals) ∧ Below w.heap.size w w' := by
  go_enter Try.func35, Try.ntmps35
  go_wp2
  refine bodyPost_ret (v := .agg (nuS k c n).vals) (by simp [results, Try.results35, go_sem, nuS, Sn.vals]) rfl ⟨rfl, ?_⟩
  exact (Below.refl _ _).alloc (Nat.le_refl _) _
theorem inCmd_any (c f : Int) (w : World) : Calls Try.prog 33 #[.int .u16 c, .int .i64 f] w fun e w' => e = .returned (.agg (cmS c f).vals) ∧ Below w.heap.size w w' := by
  go_enter Try.func33, Try.ntmps33
  go_wp2
  refine bodyPost_ret (v := .agg (cmS c f).vals) (by simp [results, Try.results33, go_sem, cmS, Sn.vals]) rfl ⟨rfl, ?_⟩
  exact (Below.refl _ _).alloc (Nat.le_refl _) _
theorem inPar_any (f : Int) (w : World) : Calls Try.prog 83 #[.int .i64 f] w fun e w' => e = .returned (.agg (paS f).vals) ∧ Below w.heap.size w w' := by
  go_enter Try.func83, Try.ntmps83
  go_wp2
  refine bodyPost_ret (v := .agg (paS f).vals) (by simp [results, Try.results83, go_sem, paS, Sn.vals]) rfl ⟨rfl, ?_⟩
  exact (Below.refl _ _).alloc (Nat.le_refl _) _
/-- A result in a cell's block that was laid at first. -/
theorem wpList_res {w w0 : World} {ops : Array Oper} {rest : List Oper} {o : Oper} {a : Act} {Q : Exit → Act → World → Prop} (s : Sn) (b : Nat) (cs : Array Value) (x y : Operand) (hgd : o.guard = none) (ho : o.op = .store 32 x y)
    (hx : a.eval x = .pointer (some ⟨b, 0, none⟩)) (hy : a.eval y = .agg s.vals) (hB : Bx w b cs) (hl : 8 = cs.size) (hdst : o.dst = none) (hb : Below w0.heap.size w0 w) (hb0 : w0.heap.size ≤ b)
    (h : ∀ w', Bx w' b s.vals → Below w0.heap.size w0 w' → w.grownBy w' (some b) → wpList Try.prog ops Q rest a w') : wpList Try.prog ops Q (o :: rest) a w :=
  wpList_store_bx hgd 32 x y ho b cs s.vals hx hy hB hl infoS (Sn.vals_one s) hdst (fun w' h1 h2 => h w' h1 (hb.grown h2 hb.size (fun k hk => by cases hk; exact hb0)) h2)
theorem res_run {w : World} {b : Nat} {s : Sn} (hB : Bx w b s.vals) : (loadVar 32 ⟨b, 0, none⟩).run Try.prog w = .ok (.agg s.vals) w := run_res hB 32 _ Try.underlying32 rfl infoS
theorem wrong_any (w : World) : Calls Try.prog 65 #[] w fun e w' => e = .returned (.agg (plS 5 6656).vals) ∧ Below w.heap.size w w' := by
  have HP := Kpt.mk (fun W => plain_any 5 6656 W)
  obtain ⟨w1, hw1⟩ : ∃ w1, w1 = w.alloc (.cells zeroS 32) := ⟨_, rfl⟩
  have hB1 : Kpt (Bx w1 w.heap.size zeroS) := ⟨by rw [hw1]; exact bx_new w zeroS 32⟩
  have hb1 : Kpt (Below w.heap.size w w1) := ⟨by rw [hw1]; exact (Below.refl _ _).alloc (Nat.le_refl _) _⟩
  go_enter Try.func65, Try.ntmps65
  go_wp2_with fail
  rw [show w.alloc (.cells #[.int .u8 0, .int .u16 0, .int .u64 0, .bool false, .int .i64 0, .int .i64 0, .bool false, .bool false] 32) = w1 from hw1.symm]
  refine (HP.out w1).mono ?_
  rintro e w2 ⟨rfl, h2⟩
  have hB2 := hB1.out.below h2 hB1.out.lt
  have hb2 := hb1.out.trans (h2.mono hb1.out.size)
  clear hw1
  go_wp2_with (refine wpList_res (plS 5 6656) w.heap.size zeroS _ _ rfl rfl rfl rfl hB2 rfl rfl hb2 (Nat.le_refl _) ?_; intro w3 hB3 hb3 _)
  refine bodyPost_ret (v := .agg (plS 5 6656).vals) (by simp [results, Try.results65, asAddr, Act.put, res_run hB3]) rfl ⟨rfl, hb3⟩
end Go.Proofs.Ytklboieemljmiaa

namespace Go.Proofs.Ytklboieemljmiaa
open Go.RowKit
set_option linter.unusedVariables false
set_option linter.unusedSimpArgs false

/-- A function's world behind its command's box and its result's. -/
def eW (w : World) (c : Cm) : World := (w.alloc (.cells c.vals 38)).alloc (.cells zeroS 32)
theorem eW_size (w : World) (c : Cm) : (eW w c).heap.size = w.heap.size + 2 := by unfold eW; simp
theorem eW_below (w : World) (c : Cm) : Below w.heap.size w (eW w c) := ((Below.refl _ _).alloc (Nat.le_refl _) _).alloc (by simp) _
theorem eW_c (w : World) (c : Cm) : Bx (eW w c) w.heap.size c.vals := (bx_new w c.vals 38).alloc _
theorem eW_r (w : World) (c : Cm) : Bx (eW w c) (w.heap.size + 1) zeroS := by
  have := bx_new (w.alloc (.cells c.vals 38)) zeroS 32
  simpa [eW] using this
/-- What a command's box holds. -/
theorem cm_at {w : World} {b : Nat} {c : Cm} (h : Bx w b c.vals) : w.cell? ⟨b, 0, none⟩ = some (.int .u8 c.kd) ∧ w.cell? ⟨b, 1, none⟩ = some (.bool c.lg) ∧ w.cell? ⟨b, 2, none⟩ = some (.int .u64 c.lba) ∧ w.cell? ⟨b, 3, none⟩ = some (.int .u64 c.bl) ∧ w.cell? ⟨b, 4, none⟩ = some (.int .i64 c.al) ∧ w.cell? ⟨b, 5, none⟩ = some (.bool c.fua) ∧ w.cell? ⟨b, 6, none⟩ = some (.int .u8 c.pr) ∧ w.cell? ⟨b, 7, none⟩ = some (.bool c.um) ∧ w.cell? ⟨b, 14, none⟩ = some (.bool c.bs) :=
  ⟨h.cells 0 (show 0 < 15 by decide), h.cells 1 (show 1 < 15 by decide), h.cells 2 (show 2 < 15 by decide), h.cells 3 (show 3 < 15 by decide), h.cells 4 (show 4 < 15 by decide), h.cells 5 (show 5 < 15 by decide), h.cells 6 (show 6 < 15 by decide), h.cells 7 (show 7 < 15 by decide), h.cells 14 (show 14 < 15 by decide)⟩
/-- A device's block. -/
def devV (S : Nat) (k : Int) : Array Value := #[.pointer (some ⟨S, 0, none⟩), .int .u8 k]
theorem dev_at {w : World} {D S : Nat} {k : Int} (h : Bx w D (devV S k)) : w.cell? ⟨D, 0, none⟩ = some (.pointer (some ⟨S, 0, none⟩)) ∧ w.cell? ⟨D, 1, none⟩ = some (.int .u8 k) ∧ D < w.heap.size :=
  ⟨h.cells 0 (show 0 < 2 by decide), h.cells 1 (show 1 < 2 by decide), h.lt⟩

/-- What looking at blocks finds first. -/
def lookS (k p : Int) : Nat → List Bk → Sn
  | _, [] => noS
  | l, b :: r => if checkC k p l b = 0 then lookS k p (l + 1) r else nuS 11 (checkC k p l b) l
theorem look_drop (k p : Int) : ∀ (j l : Nat) (bs : List Bk), (∀ i b, i < j → bs[i]? = some b → checkC k p ((l + i : Nat) : Int) b = 0) → lookS k p l bs = lookS k p (l + j) (bs.drop j)
  | 0, l, bs, _ => by simp
  | j + 1, l, [], _ => by simp [lookS]
  | j + 1, l, b :: r, h => by
    have h0 := h 0 b (by omega) rfl
    rw [Nat.add_zero] at h0
    rw [lookS, if_pos h0, look_drop k p j (l + 1) r (fun i b' hi hb => by have := h (i + 1) b' (by omega) (by simpa using hb); rw [show l + 1 + i = l + (i + 1) by omega]; exact this), List.drop_succ_cons, show l + 1 + j = l + (j + 1) by omega]
theorem look_here (k p : Int) (l : Nat) (bs : List Bk) (j : Nat) (b : Bk) (hb : bs[j]? = some b) (h : ∀ i b, i < j → bs[i]? = some b → checkC k p ((l + i : Nat) : Int) b = 0) (hc : checkC k p ((l + j : Nat) : Int) b ≠ 0) : lookS k p l bs = nuS 11 (checkC k p ((l + j : Nat) : Int) b) ((l + j : Nat) : Int) := by
  rw [look_drop k p j l bs h]
  have hj := (List.getElem?_eq_some_iff.1 hb).1
  have he : bs.drop j = b :: bs.drop (j + 1) := by rw [List.drop_eq_getElem_cons hj]; congr 1; exact (List.getElem?_eq_some_iff.1 hb).2
  rw [he, lookS, if_neg hc]
theorem look_all (k p : Int) (l : Nat) (bs : List Bk) (h : ∀ i b, i < bs.length → bs[i]? = some b → checkC k p ((l + i : Nat) : Int) b = 0) : lookS k p l bs = noS := by
  rw [look_drop k p bs.length l bs h]
  simp [lookS]
theorem check_bd (k p lba : Int) (b : Bk) : 0 ≤ checkC k p lba b ∧ checkC k p lba b ≤ 65535 := by unfold checkC; repeat' split <;> omega

set_option maxRecDepth 100000 in
set_option maxHeartbeats 4000000 in
theorem look_any (D S l : Nat) (k : Int) (c : Cm) (a : Option Addr) (n cp : Nat) (bs : List Bk) (w : World) (hD : Bx w D (devV S k)) (h0 : 0 ≤ k) (h1 : k ≤ 255) (p0 : 0 ≤ c.pr) (p1 : c.pr ≤ 255) (hl : c.lba = l) (hin : l + n ≤ 1000000) (hv : Bks w (.slice a n cp) bs) (hn : bs.length = n) :
    Calls Try.prog 37 #[.pointer (some ⟨D, 0, none⟩), .agg c.vals, .slice a n cp] w fun e w' => e = .returned (.agg (lookS k c.pr l bs).vals) ∧ Below w.heap.size w w' := by
  have hbk : ∀ j, j < n → ∃ b, bs[j]? = some b ∧ b.ok ∧ ∃ g o, a = some ⟨g, o, none⟩ ∧ g < w.heap.size ∧ w.rangeAt g (o + j * 19) b.cs := fun j hj => by
    obtain ⟨a', c', e, _, h⟩ := hv
    have hb : bs[j]? = some bs[j] := List.getElem?_eq_getElem (by omega)
    obtain ⟨h1, g, o, h2, h3, h4⟩ := h j bs[j] hb
    simp only [Value.slice.injEq] at e
    exact ⟨bs[j], hb, h1, g, o, by rw [e.1]; exact h2, h3, h4⟩
  obtain ⟨w1, hw1⟩ : ∃ w1, w1 = eW w c := ⟨_, rfl⟩
  have hsz := eW_size w c
  have hbl := eW_below w c
  have hC := eW_c w c
  have hR := eW_r w c
  rw [← hw1] at hsz hbl hC hR
  have hD1 := hD.below hbl hD.lt
  obtain ⟨d0, d1, dlt⟩ := dev_at hD1
  obtain ⟨z0, z1, z2, z3, z4, z5, z6, z7, z14⟩ := cm_at hC
  rw [hl] at z2
  obtain ⟨p, hp⟩ : ∃ p, p = c.pr := ⟨_, rfl⟩
  rw [← hp] at z6 p0 p1 ⊢
  have hw1' : (w.alloc (.cells c.vals 38)).alloc (.cells #[.int .u8 0, .int .u16 0, .int .u64 0, .bool false, .int .i64 0, .int .i64 0, .bool false, .bool false] 32) = w1 := hw1.symm
  replace hw1' := Kpt.mk hw1'
  obtain ⟨CV, hCV⟩ : ∃ CV, CV = c.vals := ⟨_, rfl⟩
  rw [← hCV] at hw1' hC ⊢
  replace hn := Kpt.mk hn
  replace hbk := Kpt.mk hbk
  replace hbl := Kpt.mk hbl
  replace hC := Kpt.mk hC
  replace hR := Kpt.mk hR
  replace hsz := Kpt.mk hsz
  clear hv hD hD1 hw1 hCV hl hp d0 z0 z1 z3 z4 z5 z7 z14
  go_enter Try.func37, Try.ntmps37
  go_wp2_with fail
  rw [hw1'.out]
  clear hw1'
  go_loopw [13] (fun t wr => ∃ j : Nat, j ≤ n ∧ t = .int .i64 j ∧ Kpt (Below w1.heap.size w1 wr) ∧ Kpt (∀ i b, i < j → bs[i]? = some b → checkC k p ((l + i : Nat) : Int) b = 0)) (fun t _ => n - (intOf t).toNat)
  case atStart => exact ⟨0, Nat.zero_le _, rfl, ⟨Below.refl _ _⟩, ⟨fun i b hi => by omega⟩⟩
  case round =>
    obtain ⟨j, hj, rfl, hbe, hok⟩ := hrel
    have hl1 : w.heap.size < w1.heap.size := by have := hsz.out; omega
    have y2 := (hbe.out.cell (p := ⟨w.heap.size, 2, none⟩) hl1).trans z2
    have y6 := (hbe.out.cell (p := ⟨w.heap.size, 6, none⟩) hl1).trans z6
    have y1 := (hbe.out.cell (p := ⟨D, 1, none⟩) dlt).trans d1
    have yD : D < wr.heap.size := Nat.lt_of_lt_of_le dlt hbe.out.size
    have hRr := Kpt.mk (hR.out.below hbe.out hR.out.lt)
    have hbw := Kpt.mk (hbl.out.trans (hbe.out.mono hbl.out.size))
    clear z2 z6 d1
    by_cases hlt : j < n
    · have e1 : (j : Int) < n := by omega
      obtain ⟨b, hb, hbok, g, o, rfl, hgl, hrg⟩ := hbk.out j hlt
      have hrg1 : Kpt (wr.rangeAt g (o + j * 19) b.cs) := ⟨rangeAt_keep hrg (hbw.out.block g hgl)⟩
      have hcl : Kpt (b.cs.length = 19) := ⟨by have := Bk.size hbok; simpa [Bk.vals] using this⟩
      have hone := Kpt.mk b.one
      have hbs := Kpt.mk (Bk.size hbok)
      have HC := Kpt.mk (fun W => check_any k p ((l + j : Nat) : Int) b W hbok h0 h1 p0 p1 (by omega) (by omega))
      have hB0 := bx_new wr zeroB 76
      unfold zeroB at hB0
      replace hB0 := Kpt.mk hB0
      obtain ⟨V, hV⟩ : ∃ V, V = b.vals := ⟨_, rfl⟩
      have hVc : V.toList = b.cs := by rw [hV]; rfl
      rw [← hV] at HC hone hbs
      replace hVc := Kpt.mk hVc
      obtain ⟨L, hL⟩ : ∃ L, L = b.cs := ⟨_, rfl⟩
      rw [← hL] at hrg1 hcl hVc
      have hLV : Kpt (L.toArray = V) := ⟨by rw [← hVc.out]⟩
      obtain ⟨q, hq⟩ : ∃ q, q = checkC k p ((l + j : Nat) : Int) b := ⟨_, rfl⟩
      rw [← hq] at HC
      have hqb : 0 ≤ q ∧ q ≤ 65535 := by rw [hq]; exact check_bd _ _ _ _
      have ew : IntKind.u64.wrap ((l : Int) + j) = ((l + j : Nat) : Int) := by rw [IntKind.wrap_u64]; omega
      have ev : IntKind.u64.wrap (j : Int) = (j : Int) := by rw [IntKind.wrap_u64]; omega
      replace hb := Kpt.mk hb
      replace hq := Kpt.mk hq
      obtain ⟨x, hx⟩ : ∃ x : Int, x = ((l + j : Nat) : Int) := ⟨_, rfl⟩
      rw [← hx] at ew HC
      replace hx := Kpt.mk hx
      clear hrg hbok hV hL hgl
      go_wp2_with (first
        | (refine wpList_load_mid rfl 76 (.tmp 16) rfl g (o + j * 19) rfl L _ hrg1.out Try.underlying76 rfl (by rw [hcl.out]; exact infoB) ?_; rw [hLV.out])
        | (refine wpList_store_bx rfl 76 (.tmp 8) (.tmp 17) rfl wr.heap.size _ V rfl rfl hB0.out (by rw [hbs.out]; rfl) (by rw [hbs.out]; exact infoB) hone.out rfl ?_; intro w2 hX2 hg2; have hbe2 : Kpt (Below wr.heap.size wr w2) := ⟨((Below.refl _ _).alloc (Nat.le_refl _) _).grown hg2 (by simp) (fun k hk => by cases hk; exact Nat.le_refl _)⟩; replace hX2 := Kpt.mk hX2; clear hg2; replace y2 := (hbe2.out.cell (p := ⟨w.heap.size, 2, none⟩) (Nat.lt_of_lt_of_le hl1 hbe.out.size)).trans y2; replace y6 := (hbe2.out.cell (p := ⟨w.heap.size, 6, none⟩) (Nat.lt_of_lt_of_le hl1 hbe.out.size)).trans y6; replace y1 := (hbe2.out.cell (p := ⟨D, 1, none⟩) yD).trans y1; replace yD : D < w2.heap.size := Nat.lt_of_lt_of_le yD hbe2.out.size)
        | fail)
      have hX2' := hX2.out
      refine wp_region_any (by kernel_rfl) ?_
      refine wpAny_of_C (C := fun W => W.cell? ⟨D, 1, none⟩ = some (.int .u8 k) ∧ W.cell? ⟨w.heap.size, 6, none⟩ = some (.int .u8 p) ∧ Bx W wr.heap.size V ∧ D < W.heap.size) _ _ _ _ ?_
      refine wpAnyC_take 0 (.pointer (some ⟨D, 0, none⟩)) rfl (by kernel_rfl) (by kernel_rfl) (by kernel_rfl) (fun _ _ _ h => h) (wanted_free rfl _) (fun W hW => by obtain ⟨q1, q2, q3, q4⟩ := hW; go_simp) ?_
      try simp only [Act.put, List.getElem_toArray, List.getElem_cons_succ, List.getElem_cons_zero, List.setIfInBounds_toArray, List.set_cons_succ, List.set_cons_zero]
      refine wpAnyC_take 1 (.pointer (some ⟨D, 0, none⟩)) rfl (by kernel_rfl) (by kernel_rfl) (by kernel_rfl) (fun _ _ _ h => h) (wanted_free rfl _) (fun W hW => by obtain ⟨q1, q2, q3, q4⟩ := hW; go_simp) ?_
      try simp only [Act.put, List.getElem_toArray, List.getElem_cons_succ, List.getElem_cons_zero, List.setIfInBounds_toArray, List.set_cons_succ, List.set_cons_zero]
      refine wpAnyC_take 2 (.pointer (some ⟨D, 1, none⟩)) rfl (by kernel_rfl) (by kernel_rfl) (by kernel_rfl) (fun _ _ _ h => h) (wanted_free rfl _) (fun W hW => by obtain ⟨q1, q2, q3, q4⟩ := hW; go_simp) ?_
      try simp only [Act.put, List.getElem_toArray, List.getElem_cons_succ, List.getElem_cons_zero, List.setIfInBounds_toArray, List.set_cons_succ, List.set_cons_zero]
      refine wpAnyC_take 3 (.int .u8 k) rfl (by kernel_rfl) (by kernel_rfl) (by kernel_rfl) (fun _ _ _ h => h) (wanted_free rfl _) (fun W hW => by obtain ⟨q1, q2, q3, q4⟩ := hW; go_simp) ?_
      try simp only [Act.put, List.getElem_toArray, List.getElem_cons_succ, List.getElem_cons_zero, List.setIfInBounds_toArray, List.set_cons_succ, List.set_cons_zero]
      refine wpAnyC_take 4 (.pointer (some ⟨w.heap.size, 6, none⟩)) rfl (by kernel_rfl) (by kernel_rfl) (by kernel_rfl) (fun _ _ _ h => h) (wanted_free rfl _) (fun W hW => by obtain ⟨q1, q2, q3, q4⟩ := hW; go_simp) ?_
      try simp only [Act.put, List.getElem_toArray, List.getElem_cons_succ, List.getElem_cons_zero, List.setIfInBounds_toArray, List.set_cons_succ, List.set_cons_zero]
      refine wpAnyC_take 5 (.int .u8 p) rfl (by kernel_rfl) (by kernel_rfl) (by kernel_rfl) (fun _ _ _ h => h) (wanted_free rfl _) (fun W hW => by obtain ⟨q1, q2, q3, q4⟩ := hW; go_simp) ?_
      try simp only [Act.put, List.getElem_toArray, List.getElem_cons_succ, List.getElem_cons_zero, List.setIfInBounds_toArray, List.set_cons_succ, List.set_cons_zero]
      refine wpAnyC_take 6 (.int .u64 x) rfl (by kernel_rfl) (by kernel_rfl) (by kernel_rfl) (fun _ _ _ h => h) (wanted_free rfl _) (fun W hW => by obtain ⟨q1, q2, q3, q4⟩ := hW; go_simp) ?_
      try simp only [Act.put, List.getElem_toArray, List.getElem_cons_succ, List.getElem_cons_zero, List.setIfInBounds_toArray, List.set_cons_succ, List.set_cons_zero]
      refine wpAnyC_take 7 (.agg V) rfl (by kernel_rfl) (by kernel_rfl) (by kernel_rfl) (fun _ _ _ h => h) (wanted_free rfl _) (fun W hW => exec_load_bx (.tmp 8) rfl wr.heap.size V rfl hW.2.2.1 (by rw [hbs.out]; exact infoB)) ?_
      try simp only [Act.put, List.getElem_toArray, List.getElem_cons_succ, List.getElem_cons_zero, List.setIfInBounds_toArray, List.set_cons_succ, List.set_cons_zero]
      refine wpAnyC_one 8 (⟨y1, y6, ⟨hX2.out.lt, hX2.out.cells, hX2.out.free⟩, yD⟩) rfl (by kernel_rfl) (wanted_free rfl _) (fun KA hKA => ?_)
      go_simp
      refine (HC.out _).mono ?_
      rintro e w3 ⟨rfl, hb3⟩
      replace hb3 : Kpt (Below w2.heap.size w2 w3) := ⟨below_undrew hb3⟩
      refine hKA _ _ ?_
      clear hKA KA
      try simp only [Act.put, List.getElem_toArray, List.getElem_cons_succ, List.getElem_cons_zero, List.setIfInBounds_toArray, List.set_cons_succ, List.set_cons_zero]
      refine wpAnyC_take 9 (.int .u16 q) rfl (by kernel_rfl) (by kernel_rfl) (by kernel_rfl) (fun _ _ _ h => h) (wanted_free rfl _) (fun W hW => by go_simp) ?_
      try simp only [Act.put, List.getElem_toArray, List.getElem_cons_succ, List.getElem_cons_zero, List.setIfInBounds_toArray, List.set_cons_succ, List.set_cons_zero]
      have hbe3 : Kpt (Below wr.heap.size wr w3) := ⟨hbe2.out.trans (hb3.out.mono hbe2.out.size)⟩
      refine wpAnyC_done (⟨(hb3.out.cell (p := ⟨D, 1, none⟩) yD).trans y1, (hb3.out.cell (p := ⟨w.heap.size, 6, none⟩) (Nat.lt_of_lt_of_le (Nat.lt_of_lt_of_le hl1 hbe.out.size) hbe2.out.size)).trans y6, hX2.out.below hb3.out hX2.out.lt, Nat.lt_of_lt_of_le yD hb3.out.size⟩) (by kernel_rfl) ?_
      have hbw3 := Kpt.mk (hbe.out.trans (hbe3.out.mono hbe.out.size))
      have hR3 := Kpt.mk (hR.out.below hbw3.out hR.out.lt)
      have hall3 := Kpt.mk (hbl.out.trans (hbw3.out.mono hbl.out.size))
      clear y1 y2 y6 hX2 hX2' hB0 HC hb3
      by_cases hq0 : q = 0
      · subst hq0
        go_wp2
        go_roundw
        case rel => exact ⟨j + 1, by omega, by go_num, hbw3, ⟨fun i b' hi hb' => by
          by_cases he : i = j
          · subst he
            have := hb.out.symm.trans hb'
            simp only [Option.some.injEq] at this
            rw [← this]; exact hq.out.symm
          · exact hok.out i b' (by omega) hb'⟩⟩
        case measure => simp [intOf]; omega
      · have hq1 : (q != 0) = true := by simpa using hq0
        have hq2 : ¬ q = 0 := hq0
        have HN := Kpt.mk (fun W => numbered_any 11 q x W)
        have hres : lookS k p l bs = nuS 11 q x := by rw [hq.out, hx.out]; exact look_here k p l bs j b hb.out hok.out (by rw [← hq.out]; exact hq0)
        go_wp2_with (first
          | (refine wpList_res (nuS 11 q x) (w.heap.size + 1) zeroS _ _ rfl rfl rfl rfl hR4 rfl rfl hall4 (Nat.le_succ _) ?_; intro w5 hB5 hb5 _)
          | (go_at_call 35; refine (HN.out _).mono ?_; rintro e w4 ⟨rfl, hb4⟩; have hR4 := hR3.out.below hb4 hR3.out.lt; have hall4 := hall3.out.trans (hb4.mono hall3.out.size)))
        try rw [hres]
        refine bodyPost_ret (v := .agg (nuS 11 q x).vals) (by simp [results, Try.results37, asAddr, Act.put, res_run hB5]) rfl ⟨rfl, hb5⟩
    · have e1 : ¬ (j : Int) < n := by omega
      have ej : j = n := by omega
      subst ej
      have hres : lookS k p l bs = noS := look_all k p l bs (by rw [hn.out]; exact hok.out)
      clear hbk
      have hall := hbw.out
      go_wp2_with (refine wpList_res noS (w.heap.size + 1) zeroS _ _ rfl rfl rfl rfl hRr.out rfl rfl hall (Nat.le_succ _) ?_; intro w5 hB5 hb5 _)
      try rw [hres]
      refine bodyPost_ret (v := .agg noS.vals) (by simp [results, Try.results37, asAddr, Act.put, res_run hB5]) rfl ⟨rfl, hb5⟩
end Go.Proofs.Ytklboieemljmiaa

namespace Go.Proofs.Ytklboieemljmiaa
open Go.RowKit
set_option linter.unusedVariables false
set_option linter.unusedSimpArgs false

theorem withT_any (c : Cm) (w : World) : Calls Try.prog 27 #[.agg c.vals] w fun e w' => e = .returned (.bool (c.pr != 0)) ∧ Below w.heap.size w w' := by
  obtain ⟨kd, lg, lba, bl, al, fua, pr, um, ev, pg, ct, sv, se, ty, bs⟩ := c
  simp only [Cm.vals]
  by_cases h : pr = 0
  · subst h
    go_enter Try.func27, Try.ntmps27
    go_wp2
    go_ret
    exact ⟨rfl, (Below.refl _ _).alloc (Nat.le_refl _) _⟩
  · have e1 : (pr != 0) = true := by simpa using h
    rw [e1]
    go_enter Try.func27, Try.ntmps27
    go_wp2
    go_ret
    exact ⟨rfl, (Below.refl _ _).alloc (Nat.le_refl _) _⟩

/-- The cells of blocks, one behind the other. -/
def flat (bs : List Bk) : List Value := bs.flatMap Bk.cs
theorem flat_len : ∀ (bs : List Bk), (∀ b ∈ bs, b.ok) → (flat bs).length = bs.length * 19
  | [], _ => rfl
  | b :: r, h => by
    have h1 := cs_len b (h b (List.mem_cons_self ..))
    have h2 := flat_len r (fun x hx => h x (List.mem_cons_of_mem _ hx))
    unfold flat at h2 ⊢
    rw [List.flatMap_cons, List.length_append, h1, h2, List.length_cons]
    omega
theorem flat_append (a b : List Bk) : flat (a ++ b) = flat a ++ flat b := by simp [flat]
theorem flat_cons (a : Bk) (b : List Bk) : flat (a :: b) = a.cs ++ flat b := by simp [flat]
/-- A block as it is protected. -/
def prB (k : Int) (l : Nat) (b : Bk) : Bk := ⟨b.d, (reg16 0 b.d : Int), 0, refV k l⟩
def prL (k : Int) : Nat → List Bk → List Bk
  | _, [] => []
  | l, b :: r => prB k l b :: prL k (l + 1) r
theorem prL_len (k : Int) : ∀ (l : Nat) (bs : List Bk), (prL k l bs).length = bs.length
  | _, [] => rfl
  | l, b :: r => by simp [prL, prL_len k (l + 1) r]
theorem prL_at (k : Int) : ∀ (l : Nat) (bs : List Bk) (j : Nat), (prL k l bs)[j]? = (bs[j]?).map (prB k (l + j))
  | _, [], j => by simp [prL]
  | l, b :: r, 0 => by simp [prL]
  | l, b :: r, j + 1 => by
    rw [prL, List.getElem?_cons_succ, prL_at k (l + 1) r j, List.getElem?_cons_succ, show l + 1 + j = l + (j + 1) by omega]
theorem prL_step (k : Int) (l : Nat) (bs : List Bk) (j : Nat) (b : Bk) (hb : bs[j]? = some b) : prL k l (bs.take (j + 1)) = prL k l (bs.take j) ++ [prB k (l + j) b] := by
  refine List.ext_getElem? (fun i => ?_)
  have hj := (List.getElem?_eq_some_iff.1 hb).1
  have hlen : (prL k l (bs.take j)).length = j := by rw [prL_len, List.length_take]; omega
  rw [prL_at, List.getElem?_take]
  by_cases h1 : i < j
  · rw [if_pos (by omega), List.getElem?_append_left (by omega), prL_at, List.getElem?_take, if_pos h1]
  · by_cases h2 : i = j
    · subst h2
      rw [if_pos (by omega), List.getElem?_append_right (by omega), hlen, Nat.sub_self, hb]
      rfl
    · rw [if_neg (by omega), List.getElem?_append_right (by omega), hlen, List.getElem?_eq_none (l := [prB k (l + j) b]) (by simp; omega)]
      rfl
theorem reg_bd (d : List Int) (h : ∀ z ∈ d, 0 ≤ z ∧ z ≤ 255) : 0 ≤ (reg16 0 d : Int) ∧ (reg16 0 d : Int) ≤ 65535 := by
  have := reg16_lt d h 0 (by decide)
  omega
theorem ref_bd (k : Int) (l : Nat) : 0 ≤ refV k l ∧ refV k l ≤ 4294967295 := by unfold refV; split <;> omega
theorem prB_ok (k : Int) (l : Nat) (b : Bk) (h : b.ok) : (prB k l b).ok := ⟨h.len, h.byte, reg_bd _ h.byte, by simp [prB], ref_bd _ _⟩
theorem prL_ok (k : Int) : ∀ (l : Nat) (bs : List Bk), (∀ b ∈ bs, b.ok) → ∀ b ∈ prL k l bs, b.ok
  | _, [], _ => fun b hb => by simp [prL] at hb
  | l, b :: r, h => fun x hx => by
    rw [prL, List.mem_cons] at hx
    rcases hx with rfl | hx
    · exact prB_ok k l b (h b (List.mem_cons_self ..))
    · exact prL_ok k (l + 1) r (fun y hy => h y (List.mem_cons_of_mem _ hy)) x hx
theorem exec_load_rg {W : World} {o : Oper} {a : Act} (ty : TypeId) (x : Operand) (ho : o.op = .load ty x) (b off : Nat) (cs : List Value) (hx : a.eval x = .pointer (some ⟨b, off, none⟩)) (hr : W.rangeAt b off cs) (d : TypeDesc)
    (hu : Try.prog.underlying ty = some d) (hd : d.isRow = true) (hi : (Try.prog.info? ty).map (·.size) = some cs.length) : (execOp a.eval o).run Try.prog W = .ok (.value (.agg cs.toArray)) W := by
  have := run_loadAt_mid (P := Try.prog) W b off ty cs d hr hu hd hi
  unfold execOp
  simp only [ho, hx]
  simp [this]
theorem infoA : (Try.prog.info? 71).map (·.size) = some 16 := by kernel_rfl
theorem infoTu : (Try.prog.info? 74).map (·.size) = some 3 := by kernel_rfl
theorem range_of {w : World} {g o : Nat} {A M C : List Value} {t : TypeId} (hg : w.heap[g]? = some (.cells (A ++ (M ++ C)).toArray t (0, 0))) (ho : A.length = o) : w.rangeAt g o M := by
  refine range_of_heap hg o M (fun i u hu => ?_)
  have hi := (List.getElem?_eq_some_iff.1 hu).1
  rw [List.getElem?_append_right (by omega), ho, show o + i - o = i by omega, List.getElem?_append_left hi]
  exact hu

set_option maxRecDepth 100000 in
set_option maxHeartbeats 4000000 in
theorem protect_0 (D S l g o : Nat) (k : Int) (c : Cm) (n cp : Nat) (P : List Value) (bs : List Bk) (w : World) (hD : Bx w D (devV S k)) (h0 : 0 ≤ k) (h1 : k ≤ 255) (hpr : c.pr = 0) (hl : c.lba = l) (hin : l + n ≤ 1000000)
    (hg : w.heap[g]? = some (.cells (P ++ flat bs).toArray 76 (0, 0))) (hP : P.length = o) (hn : bs.length = n) (hcp : n ≤ cp) (hok : ∀ b ∈ bs, b.ok) (hgD : g ≠ D) :
    Calls Try.prog 67 #[.pointer (some ⟨D, 0, none⟩), .agg c.vals, .slice (some ⟨g, o, none⟩) n cp] w fun e w' => e = .returned (.agg noS.vals) ∧ w'.heap[g]? = some (.cells (P ++ flat (prL k l bs)).toArray 76 (0, 0)) ∧ w.grownBy w' (some g) := by
  obtain ⟨w1, hw1⟩ : ∃ w1, w1 = eW w c := ⟨_, rfl⟩
  have hglt : g < w.heap.size := (Array.getElem?_eq_some_iff.1 hg).1
  have hsz := eW_size w c
  have hbl := eW_below w c
  have hC := eW_c w c
  have hR := eW_r w c
  have HT := withT_any c
  rw [hpr] at HT
  rw [← hw1] at hsz hbl hC hR
  have hD1 := hD.below hbl hD.lt
  have hw1' : (w.alloc (.cells c.vals 38)).alloc (.cells #[.int .u8 0, .int .u16 0, .int .u64 0, .bool false, .int .i64 0, .int .i64 0, .bool false, .bool false] 32) = w1 := hw1.symm
  replace hw1' := Kpt.mk hw1'
  have hcm := fun W (h : Bx W w.heap.size c.vals) => (cm_at h).2.2.1
  rw [hl] at hcm
  replace hcm := Kpt.mk hcm
  have hCs : c.vals.size = 15 := rfl
  obtain ⟨CV, hCV⟩ : ∃ CV, CV = c.vals := ⟨_, rfl⟩
  rw [← hCV] at hw1' hC HT hcm hCs ⊢
  replace hg : Kpt (w1.heap[g]? = some (.cells (P ++ flat (prL k l (bs.take 0) ++ bs.drop 0)).toArray 76 (0, 0))) := ⟨by rw [hbl.block g hglt]; simpa [prL] using hg⟩
  replace HT := Kpt.mk HT
  replace hn := Kpt.mk hn
  replace hbl := Kpt.mk hbl
  replace hC := Kpt.mk hC
  replace hR := Kpt.mk hR
  replace hsz := Kpt.mk hsz
  replace hok := Kpt.mk hok
  replace hP := Kpt.mk hP
  replace hD1 := Kpt.mk hD1
  replace hCs := Kpt.mk hCs
  have hC0 : Kpt (Bx ((w.alloc (.cells CV 38)).alloc (.cells #[.int .u8 0, .int .u16 0, .int .u64 0, .bool false, .int .i64 0, .int .i64 0, .bool false, .bool false] 32)) w.heap.size CV) := ⟨by rw [hw1'.out]; exact hC.out⟩
  clear hD hw1 hCV hl hpr
  go_enter Try.func67, Try.ntmps67
  go_wp2_with (first | (refine wpList_load_bx rfl 38 _ rfl w.heap.size CV rfl hC0.out _ Try.underlying38 rfl (by rw [hCs.out]; exact infoC) ?_) | fail)
  rw [hw1'.out]
  refine (HT.out _).mono ?_
  rintro e w2 ⟨rfl, hb2⟩
  have hg2 : Kpt (w2.heap[g]? = some (.cells (P ++ flat (prL k l (bs.take 0) ++ bs.drop 0)).toArray 76 (0, 0))) := ⟨by rw [hb2.block g (by have := hsz.out; omega)]; exact hg.out⟩
  have hC2 := Kpt.mk (hC.out.below hb2 hC.out.lt)
  have hR2 := Kpt.mk (hR.out.below hb2 hR.out.lt)
  have hD2 := Kpt.mk (hD1.out.below hb2 hD1.out.lt)
  have hs2 := hb2.size
  have hgr2 : Kpt (w.grownBy w2 (some g)) := ⟨let b := hbl.out.trans (hb2.mono hbl.out.size); ⟨b.os, b.tape, b.output, b.size, fun i hi _ => b.block i hi⟩⟩
  have hs1 := hsz.out
  clear HT hw1' hC0 hg hC hR hD1 hb2 hbl hsz
  go_wp2_with fail
  go_loopw [16] (fun t wr => ∃ j : Nat, j ≤ n ∧ t = .int .i64 j ∧ Kpt (w2.grownBy wr (some g)) ∧ Kpt (wr.heap[g]? = some (.cells (P ++ flat (prL k l (bs.take j) ++ bs.drop j)).toArray 76 (0, 0)))) (fun t _ => n - (intOf t).toNat)
  case atStart => exact ⟨0, Nat.zero_le _, rfl, ⟨⟨rfl, rfl, rfl, Nat.le_refl _, fun _ _ _ => rfl⟩⟩, hg2⟩
  case round =>
    obtain ⟨j, hj, rfl, hgr, hgj⟩ := hrel
    have hDw := hD2.out.grown hgr.out (by simpa using hgD)
    have hCw := hC2.out.grown hgr.out (by simp; omega)
    have hRw := Kpt.mk (hR2.out.grown hgr.out (by simp; omega))
    have hswr := hgr.out.size
    obtain ⟨-, d1, dlt⟩ := dev_at hDw
    have y2 := hcm.out _ hCw
    clear hDw hCw
    by_cases hlt : j < n
    · have e1 : (j : Int) < n := by omega
      obtain ⟨b, hb⟩ : ∃ b, bs[j]? = some b := ⟨_, List.getElem?_eq_getElem (by rw [hn.out]; exact hlt)⟩
      have hbok := hok.out b (List.mem_of_getElem? hb)
      have hdrop : bs.drop j = b :: bs.drop (j + 1) := by
        have hj' := (List.getElem?_eq_some_iff.1 hb).1
        rw [List.drop_eq_getElem_cons hj']; congr 1; exact (List.getElem?_eq_some_iff.1 hb).2
      have hokt : ∀ x ∈ prL k l (bs.take j), x.ok := prL_ok k l _ (fun x hx => hok.out x (List.mem_of_mem_take hx))
      have hfl : (flat (prL k l (bs.take j))).length = j * 19 := by
        rw [flat_len _ hokt, prL_len, List.length_take, hn.out, Nat.min_eq_left hj]
      obtain ⟨A, hA⟩ : ∃ A, A = P ++ flat (prL k l (bs.take j)) := ⟨_, rfl⟩
      have hAl : A.length = o + j * 19 := by rw [hA, List.length_append, hP.out, hfl]
      obtain ⟨C, hCC⟩ : ∃ C, C = flat (bs.drop (j + 1)) := ⟨_, rfl⟩
      have hcur : P ++ flat (prL k l (bs.take j) ++ bs.drop j) = A ++ (cels b.d ++ (([.int .u16 b.g, .int .u16 b.a, .int .u32 b.r] : List Value) ++ C)) := by
        rw [hdrop, flat_append, flat_cons, ← List.append_assoc, ← hA, ← hCC]; simp [Bk.cs]
      have hnext : P ++ flat (prL k l (bs.take (j + 1)) ++ bs.drop (j + 1)) = A ++ (cels b.d ++ (([.int .u16 (reg16 0 b.d : Int), .int .u16 0, .int .u32 (refV k ((l + j : Nat) : Int))] : List Value) ++ C)) := by
        rw [prL_step k l bs j b hb, flat_append, flat_append, ← hCC, show flat [prB k (l + j) b] = (prB k (l + j) b).cs from by simp [flat], hA]; simp [Bk.cs, prB]
      rw [hcur] at hgj
      have hrd : wr.rangeAt g (o + j * 19) (cels b.d) := range_of hgj.out hAl
      have hth : wr.there g (o + j * 19 + 16) 3 := there_of_heap hgj.out _ _ (by simp [hAl, hbok.len]; omega)
      have hset : ∀ (W : World) (x y z : Value), W.heap[g]? = some (.cells (A ++ (cels b.d ++ (([.int .u16 b.g, .int .u16 b.a, .int .u32 b.r] : List Value) ++ C))).toArray 76 (0, 0)) → (W.setCells g (o + j * 19 + 16) [x, y, z]).heap[g]? = some (.cells (A ++ (cels b.d ++ ([x, y, z] ++ C))).toArray 76 (0, 0)) := fun W x y z h => by
        have := set3_heap W g (o + j * 19 + 16) (A ++ cels b.d) C (.int .u16 b.g) (.int .u16 b.a) (.int .u32 b.r) x y z 76 (by simpa using h) (by simp [hAl, hbok.len])
        simpa using this
      have ew : IntKind.u64.wrap ((l : Int) + j) = ((l + j : Nat) : Int) := by rw [IntKind.wrap_u64]; omega
      have ev : IntKind.u64.wrap (j : Int) = (j : Int) := by rw [IntKind.wrap_u64]; omega
      have HM := fun W => make_any k ((l + j : Nat) : Int) 0 b.d W hbok.len hbok.byte h0 h1 (by omega) (by omega)
      obtain ⟨x, hx⟩ : ∃ x : Int, x = ((l + j : Nat) : Int) := ⟨_, rfl⟩
      rw [← hx] at ew HM hnext
      obtain ⟨DL, hDL⟩ : ∃ DL, DL = cels b.d := ⟨_, rfl⟩
      rw [← hDL] at hrd hset hgj hnext HM
      have hDLl : DL.length = 16 := by rw [hDL]; simp [hbok.len]
      obtain ⟨DA, hDA⟩ : ∃ DA, DA = DL.toArray := ⟨_, rfl⟩
      rw [← hDA] at HM
      obtain ⟨TV, hTV⟩ : ∃ TV, TV = tupV (reg16 0 b.d : Int) 0 (refV k x) := ⟨_, rfl⟩
      rw [← hTV] at HM
      have hTl : TV.toList = [.int .u16 (reg16 0 b.d : Int), .int .u16 0, .int .u32 (refV k x)] := by rw [hTV]; rfl
      have hT1 : TV.all (·.oneCell') = true := by rw [hTV]; exact tup_one _ _ _
      have hTs : TV.size = 3 := by rw [hTV]; rfl
      rw [← hTl] at hnext
      replace HM := Kpt.mk HM
      replace hset := Kpt.mk hset
      replace hnext := Kpt.mk hnext
      replace hrd := Kpt.mk hrd
      replace hth := Kpt.mk hth
      replace hTl := Kpt.mk hTl
      replace hT1 := Kpt.mk hT1
      replace hTs := Kpt.mk hTs
      replace hDA := Kpt.mk hDA
      replace hDLl := Kpt.mk hDLl
      have hgl2 : g < wr.heap.size := (Array.getElem?_eq_some_iff.1 hgj.out).1
      replace hAl := Kpt.mk hAl
      clear hcur hfl hokt hA hCC hDL hTV hx hdrop hbok hb hg2
      go_wp2_with fail
      refine wp_region_any (by kernel_rfl) ?_
      refine wpAny_of_C (C := fun W => W.cell? ⟨D, 1, none⟩ = some (.int .u8 k) ∧ D < W.heap.size ∧ W.cell? ⟨w.heap.size, 2, none⟩ = some (.int .u64 l) ∧ W.rangeAt g (o + j * 19) DL) _ _ _ _ ?_
      refine wpAnyC_take 0 (.slice (some ⟨g, o, none⟩) n cp) rfl (by kernel_rfl) (by kernel_rfl) (by kernel_rfl) (fun _ _ _ h => h) (wanted_free rfl _) (fun W hW => by obtain ⟨q1, q2, q3, q4⟩ := hW; go_simp) ?_
      try simp only [Act.put, List.getElem_toArray, List.getElem_cons_succ, List.getElem_cons_zero, List.setIfInBounds_toArray, List.set_cons_succ, List.set_cons_zero]
      refine wpAnyC_take 1 (.int .i64 j) rfl (by kernel_rfl) (by kernel_rfl) (by kernel_rfl) (fun _ _ _ h => h) (wanted_free rfl _) (fun W hW => by obtain ⟨q1, q2, q3, q4⟩ := hW; go_simp) ?_
      try simp only [Act.put, List.getElem_toArray, List.getElem_cons_succ, List.getElem_cons_zero, List.setIfInBounds_toArray, List.set_cons_succ, List.set_cons_zero]
      refine wpAnyC_take 2 (.pointer (some ⟨D, 0, none⟩)) rfl (by kernel_rfl) (by kernel_rfl) (by kernel_rfl) (fun _ _ _ h => h) (wanted_free rfl _) (fun W hW => by obtain ⟨q1, q2, q3, q4⟩ := hW; go_simp) ?_
      try simp only [Act.put, List.getElem_toArray, List.getElem_cons_succ, List.getElem_cons_zero, List.setIfInBounds_toArray, List.set_cons_succ, List.set_cons_zero]
      refine wpAnyC_take 3 (.pointer (some ⟨D, 0, none⟩)) rfl (by kernel_rfl) (by kernel_rfl) (by kernel_rfl) (fun _ _ _ h => h) (wanted_free rfl _) (fun W hW => by obtain ⟨q1, q2, q3, q4⟩ := hW; go_simp) ?_
      try simp only [Act.put, List.getElem_toArray, List.getElem_cons_succ, List.getElem_cons_zero, List.setIfInBounds_toArray, List.set_cons_succ, List.set_cons_zero]
      refine wpAnyC_take 4 (.pointer (some ⟨D, 1, none⟩)) rfl (by kernel_rfl) (by kernel_rfl) (by kernel_rfl) (fun _ _ _ h => h) (wanted_free rfl _) (fun W hW => by obtain ⟨q1, q2, q3, q4⟩ := hW; go_simp) ?_
      try simp only [Act.put, List.getElem_toArray, List.getElem_cons_succ, List.getElem_cons_zero, List.setIfInBounds_toArray, List.set_cons_succ, List.set_cons_zero]
      refine wpAnyC_take 5 (.int .u8 k) rfl (by kernel_rfl) (by kernel_rfl) (by kernel_rfl) (fun _ _ _ h => h) (wanted_free rfl _) (fun W hW => by obtain ⟨q1, q2, q3, q4⟩ := hW; go_simp) ?_
      try simp only [Act.put, List.getElem_toArray, List.getElem_cons_succ, List.getElem_cons_zero, List.setIfInBounds_toArray, List.set_cons_succ, List.set_cons_zero]
      refine wpAnyC_take 6 (.pointer (some ⟨w.heap.size, 2, none⟩)) rfl (by kernel_rfl) (by kernel_rfl) (by kernel_rfl) (fun _ _ _ h => h) (wanted_free rfl _) (fun W hW => by obtain ⟨q1, q2, q3, q4⟩ := hW; go_simp) ?_
      try simp only [Act.put, List.getElem_toArray, List.getElem_cons_succ, List.getElem_cons_zero, List.setIfInBounds_toArray, List.set_cons_succ, List.set_cons_zero]
      refine wpAnyC_take 7 (.int .u64 l) rfl (by kernel_rfl) (by kernel_rfl) (by kernel_rfl) (fun _ _ _ h => h) (wanted_free rfl _) (fun W hW => by obtain ⟨q1, q2, q3, q4⟩ := hW; go_simp) ?_
      try simp only [Act.put, List.getElem_toArray, List.getElem_cons_succ, List.getElem_cons_zero, List.setIfInBounds_toArray, List.set_cons_succ, List.set_cons_zero]
      refine wpAnyC_take 8 (.int .i64 j) rfl (by kernel_rfl) (by kernel_rfl) (by kernel_rfl) (fun _ _ _ h => h) (wanted_free rfl _) (fun W hW => by obtain ⟨q1, q2, q3, q4⟩ := hW; go_simp) ?_
      try simp only [Act.put, List.getElem_toArray, List.getElem_cons_succ, List.getElem_cons_zero, List.setIfInBounds_toArray, List.set_cons_succ, List.set_cons_zero]
      refine wpAnyC_take 9 (.int .u64 j) rfl (by kernel_rfl) (by kernel_rfl) (by kernel_rfl) (fun _ _ _ h => h) (wanted_free rfl _) (fun W hW => by obtain ⟨q1, q2, q3, q4⟩ := hW; go_simp) ?_
      try simp only [Act.put, List.getElem_toArray, List.getElem_cons_succ, List.getElem_cons_zero, List.setIfInBounds_toArray, List.set_cons_succ, List.set_cons_zero]
      refine wpAnyC_take 10 (.int .u64 x) rfl (by kernel_rfl) (by kernel_rfl) (by kernel_rfl) (fun _ _ _ h => h) (wanted_free rfl _) (fun W hW => by obtain ⟨q1, q2, q3, q4⟩ := hW; go_simp) ?_
      try simp only [Act.put, List.getElem_toArray, List.getElem_cons_succ, List.getElem_cons_zero, List.setIfInBounds_toArray, List.set_cons_succ, List.set_cons_zero]
      refine wpAnyC_take 11 (.slice (some ⟨g, o, none⟩) n cp) rfl (by kernel_rfl) (by kernel_rfl) (by kernel_rfl) (fun _ _ _ h => h) (wanted_free rfl _) (fun W hW => by obtain ⟨q1, q2, q3, q4⟩ := hW; go_simp) ?_
      try simp only [Act.put, List.getElem_toArray, List.getElem_cons_succ, List.getElem_cons_zero, List.setIfInBounds_toArray, List.set_cons_succ, List.set_cons_zero]
      refine wpAnyC_take 12 (.int .i64 j) rfl (by kernel_rfl) (by kernel_rfl) (by kernel_rfl) (fun _ _ _ h => h) (wanted_free rfl _) (fun W hW => by obtain ⟨q1, q2, q3, q4⟩ := hW; go_simp) ?_
      try simp only [Act.put, List.getElem_toArray, List.getElem_cons_succ, List.getElem_cons_zero, List.setIfInBounds_toArray, List.set_cons_succ, List.set_cons_zero]
      refine wpAnyC_take 13 (.pointer (some ⟨g, o + j * 19, none⟩)) rfl (by kernel_rfl) (by kernel_rfl) (by kernel_rfl) (fun _ _ _ h => h) (wanted_free rfl _) (fun W hW => by obtain ⟨q1, q2, q3, q4⟩ := hW; go_simp) ?_
      try simp only [Act.put, List.getElem_toArray, List.getElem_cons_succ, List.getElem_cons_zero, List.setIfInBounds_toArray, List.set_cons_succ, List.set_cons_zero]
      refine wpAnyC_take 14 (.pointer (some ⟨g, o + j * 19, none⟩)) rfl (by kernel_rfl) (by kernel_rfl) (by kernel_rfl) (fun _ _ _ h => h) (wanted_free rfl _) (fun W hW => by obtain ⟨q1, q2, q3, q4⟩ := hW; go_simp) ?_
      try simp only [Act.put, List.getElem_toArray, List.getElem_cons_succ, List.getElem_cons_zero, List.setIfInBounds_toArray, List.set_cons_succ, List.set_cons_zero]
      refine wpAnyC_take 15 (.agg DA) rfl (by kernel_rfl) (by kernel_rfl) (by kernel_rfl) (fun _ _ _ h => h) (wanted_free rfl _) (fun W hW => by rw [hDA.out]; exact exec_load_rg 71 (.tmp 33) rfl g (o + j * 19) DL rfl hW.2.2.2 _ Try.underlying71 rfl (by rw [hDLl.out]; exact infoA)) ?_
      try simp only [Act.put, List.getElem_toArray, List.getElem_cons_succ, List.getElem_cons_zero, List.setIfInBounds_toArray, List.set_cons_succ, List.set_cons_zero]
      refine wpAnyC_one 16 (⟨d1, dlt, y2, hrd.out⟩) rfl (by kernel_rfl) (wanted_free rfl _) (fun KA hKA => ?_)
      go_simp
      refine (HM.out _).mono ?_
      rintro e w3 ⟨rfl, hb3⟩
      replace hb3 : Below wr.heap.size wr w3 := below_undrew hb3
      refine hKA _ _ ?_
      clear hKA KA
      try simp only [Act.put, List.getElem_toArray, List.getElem_cons_succ, List.getElem_cons_zero, List.setIfInBounds_toArray, List.set_cons_succ, List.set_cons_zero]
      refine wpAnyC_take 17 (.pointer (some ⟨g, o + j * 19, none⟩)) rfl (by kernel_rfl) (by kernel_rfl) (by kernel_rfl) (fun _ _ _ h => h) (wanted_free rfl _) (fun W hW => by go_simp) ?_
      try simp only [Act.put, List.getElem_toArray, List.getElem_cons_succ, List.getElem_cons_zero, List.setIfInBounds_toArray, List.set_cons_succ, List.set_cons_zero]
      refine wpAnyC_take 18 (.pointer (some ⟨g, o + j * 19 + 16, none⟩)) rfl (by kernel_rfl) (by kernel_rfl) (by kernel_rfl) (fun _ _ _ h => h) (wanted_free rfl _) (fun W hW => by go_simp) ?_
      try simp only [Act.put, List.getElem_toArray, List.getElem_cons_succ, List.getElem_cons_zero, List.setIfInBounds_toArray, List.set_cons_succ, List.set_cons_zero]
      have hg3 := (hb3.block g hgl2).trans hgj.out
      have hth3 : w3.there g (o + j * 19 + 16) TV.size := by rw [hTs.out]; intro i hi; rw [World.cell?_of_block (w := wr) (hb3.block g hgl2), World.frozen?_of_block (w := wr) (hb3.block g hgl2)]; exact hth.out i hi
      have hrd3 := rangeAt_keep hrd.out (hb3.block g hgl2)
      have z1 := (hb3.cell (p := ⟨D, 1, none⟩) dlt).trans d1
      have z2 := (hb3.cell (p := ⟨w.heap.size, 2, none⟩) (by show w.heap.size < wr.heap.size; omega)).trans y2
      have zD : D < w3.heap.size := Nat.lt_of_lt_of_le dlt hb3.size
      obtain ⟨w4, hw4⟩ : ∃ w4, w4 = w3.setCells g (o + j * 19 + 16) TV.toList := ⟨_, rfl⟩
      have hg4 : w4.heap[g]? = some (.cells (A ++ (DL ++ (TV.toList ++ C))).toArray 76 (0, 0)) := by rw [hw4, hTl.out]; exact hset.out w3 _ _ _ hg3
      have hgw4 : w3.grownBy w4 (some g) := by rw [hw4]; exact grown_setCells g TV.toList _ w3
      refine wpAnyC_one 19 ⟨z1, zD, z2, hrd3⟩ rfl (by kernel_rfl) (wanted_free rfl _) (fun KA hKA => ?_)
      refine wp_store_mid 74 (.tmp 37) (.tmp 35) rfl g (o + j * 19 + 16) TV rfl rfl (by exact hth3) (by rw [hTs.out]; exact infoTu) hT1.out ?_
      refine hKA _ _ ?_
      clear hKA KA
      rw [← hw4]
      try simp only [Act.put, List.getElem_toArray, List.getElem_cons_succ, List.getElem_cons_zero, List.setIfInBounds_toArray, List.set_cons_succ, List.set_cons_zero]
      have hgrN : Kpt (w2.grownBy w4 (some g)) := ⟨grown_trans hgr.out (grown_trans ⟨hb3.os, hb3.tape, hb3.output, hb3.size, fun i hi _ => hb3.block i hi⟩ hgw4)⟩
      have hgN : Kpt (w4.heap[g]? = some (.cells (P ++ flat (prL k l (bs.take (j + 1)) ++ bs.drop (j + 1))).toArray 76 (0, 0))) := ⟨by rw [hnext.out]; exact hg4⟩
      have c1 := (far_cell hgw4 ⟨D, 1, none⟩ zD (by simpa using hgD)).trans z1
      have c2 := (far_cell hgw4 ⟨w.heap.size, 2, none⟩ (by show w.heap.size < w3.heap.size; have := hb3.size; omega) (by simp; omega)).trans z2
      have cr : w4.rangeAt g (o + j * 19) DL := range_of hg4 hAl.out
      have cD : D < w4.heap.size := Nat.lt_of_lt_of_le zD hgw4.size
      refine wpAnyC_done ⟨c1, cD, c2, cr⟩ (by kernel_rfl) ?_
      clear c1 c2 cr cD z1 z2 zD hrd3 hth3 hg3 hg4 hgw4 hw4 HM hset hrd hth d1 y2
      go_wp2
      go_roundw
      case rel => exact ⟨j + 1, by omega, by go_num, hgrN, hgN⟩
      case measure => simp [intOf]; omega
    · have e1 : ¬ (j : Int) < n := by omega
      have ej : j = n := by omega
      subst ej
      have hfin : wr.heap[g]? = some (.cells (P ++ flat (prL k l bs)).toArray 76 (0, 0)) := by
        have := hgj.out
        rw [List.take_of_length_le (by rw [hn.out]; exact Nat.le_refl _), List.drop_of_length_le (by rw [hn.out]; exact Nat.le_refl _), List.append_nil] at this
        exact this
      replace hfin := Kpt.mk hfin
      have hgw := Kpt.mk (grown_trans hgr2.out hgr.out)
      clear y2 d1 dlt hgj
      go_wp2_with (refine wpList_store_bx rfl 32 _ _ rfl (w.heap.size + 1) zeroS noS.vals rfl rfl hRw.out rfl infoS (Sn.vals_one noS) rfl ?_; intro w5 hB5 hg5)
      refine bodyPost_ret (v := .agg noS.vals) (by simp [results, Try.results67, asAddr, Act.put, res_run hB5]) rfl ⟨rfl, ?_, ?_⟩
      · rw [hg5.block g (by have := hgr2.out.size; omega) (by simp; omega)]; exact hfin.out
      · exact ⟨hg5.os.trans hgw.out.os, hg5.tape.trans hgw.out.tape, hg5.output.trans hgw.out.output, Nat.le_trans hgw.out.size hg5.size, fun i hi hne => (hg5.block i (Nat.lt_of_lt_of_le hi hgw.out.size) (by simp; omega)).trans (hgw.out.block i hi hne)⟩
end Go.Proofs.Ytklboieemljmiaa

namespace Go.Proofs.Ytklboieemljmiaa
open Go.RowKit
set_option linter.unusedVariables false
set_option linter.unusedSimpArgs false

theorem info_zero {ty : TypeId} {Z : Array Value} (h : (Try.prog.info? ty).map (fun i => i.zero) = some (some (.agg Z))) : ∀ (o : Oper) (a : Act) (w : World), o.op = .alloc ty → (execOp a.eval o).run Try.prog w = .ok (.value (.pointer (some ⟨w.heap.size, 0, none⟩))) (w.alloc (.cells Z ty)) := by
  cases hi : Try.prog.info? ty with
  | none => rw [hi] at h; simp at h
  | some i =>
    rw [hi] at h
    simp only [Option.map_some, Option.some.injEq] at h
    intro o a w ho
    unfold execOp
    simp only [ho]
    simp [Instr.alloc, zeroValue, typeInfo, hi, h, newVar, newRow, newObj, Value.cells]
    rfl
theorem exec_box {o : Oper} {a : Act} {w : World} (ty : TypeId) (x : Operand) (ho : o.op = .box ty x) (V : Array Value) (hx : a.eval x = .agg V) : (execOp a.eval o).run Try.prog w = .ok (.value (.pointer (some ⟨w.heap.size, 0, none⟩))) (w.alloc (.cells V ty)) := by
  unfold execOp
  simp only [ho]
  simp [hx, Instr.box, newVar, newRow, newObj, Value.cells]
  rfl
theorem wpList_of_exec {w w1 : World} {v : Value} {ops : Array Oper} {rest : List Oper} {o : Oper} {a : Act} {Q : Exit → Act → World → Prop} (hgd : o.guard = none) (he : (execOp a.eval o).run Try.prog w = .ok (.value v) w1)
    (h : wpList Try.prog ops Q rest (a.put o.dst v) w1) : wpList Try.prog ops Q (o :: rest) a w :=
  wpList_plain hgd fun K hK => by
    unfold Oper.wp
    rw [he]
    exact hK _ _ h
theorem wpList_box {w : World} {ops : Array Oper} {rest : List Oper} {o : Oper} {a : Act} {Q : Exit → Act → World → Prop} (hgd : o.guard = none) (ty : TypeId) (x : Operand) (ho : o.op = .box ty x) (V : Array Value) (hx : a.eval x = .agg V)
    (h : ∀ b w', w.heap.size ≤ b → Bx w' b V → Below w.heap.size w w' → w'.heap[b]? = some (.cells V ty (0, 0)) → wpList Try.prog ops Q rest (a.put o.dst (.pointer (some ⟨b, 0, none⟩))) w') : wpList Try.prog ops Q (o :: rest) a w :=
  wpList_of_exec hgd (exec_box ty x ho V hx) (h _ _ (Nat.le_refl _) (bx_new w V ty) ((Below.refl _ _).alloc (Nat.le_refl _) _) (by show (w.heap.push _)[w.heap.size]? = _; simp))
theorem wpList_var {w : World} {ops : Array Oper} {rest : List Oper} {o : Oper} {a : Act} {Q : Exit → Act → World → Prop} (hgd : o.guard = none) (ty : TypeId) (ho : o.op = .alloc ty) (Z : Array Value) (hz : (Try.prog.info? ty).map (fun i => i.zero) = some (some (.agg Z)))
    (h : ∀ b w', w.heap.size ≤ b → Bx w' b Z → Below w.heap.size w w' → wpList Try.prog ops Q rest (a.put o.dst (.pointer (some ⟨b, 0, none⟩))) w') : wpList Try.prog ops Q (o :: rest) a w :=
  wpList_of_exec hgd (info_zero hz o a w ho) (h _ _ (Nat.le_refl _) (bx_new w Z ty) ((Below.refl _ _).alloc (Nat.le_refl _) _))
theorem zeroSi : (Try.prog.info? 32).map (fun i => i.zero) = some (some (.agg zeroS)) := by kernel_rfl
theorem zeroBi : (Try.prog.info? 76).map (fun i => i.zero) = some (some (.agg zeroB)) := by kernel_rfl
/-- A sense is stored in a box of a function's own. -/
theorem wpList_sen {w w0 : World} {ops : Array Oper} {rest : List Oper} {o : Oper} {a : Act} {Q : Exit → Act → World → Prop} (s : Sn) (b : Nat) (cs : Array Value) (x y : Operand) (hgd : o.guard = none) (ho : o.op = .store 32 x y)
    (hx : a.eval x = .pointer (some ⟨b, 0, none⟩)) (hy : a.eval y = .agg s.vals) (hB : Bx w b cs) (hl : 8 = cs.size) (hdst : o.dst = none) (n : Nat) (hb : Below n w0 w) (hn : n ≤ w0.heap.size) (hb0 : n ≤ b)
    (h : ∀ w', Bx w' b s.vals → Below n w0 w' → w.grownBy w' (some b) → wpList Try.prog ops Q rest a w') : wpList Try.prog ops Q (o :: rest) a w :=
  wpList_store_bx hgd 32 x y ho b cs s.vals hx hy hB hl infoS (Sn.vals_one s) hdst (fun w' h1 h2 => h w' h1 (hb.grown h2 (Nat.le_trans hn hb.size) (fun k hk => by cases hk; exact hb0)) h2)
theorem ended_any (s : Sn) (w : World) : Calls Try.prog 22 #[.agg s.vals] w fun e w' => e = .returned (.bool (s.key != 0)) ∧ Below w.heap.size w w' := by
  obtain ⟨key, code, info, hi, field, bit, hf, ic⟩ := s
  simp only [Sn.vals]
  by_cases h : key = 0
  · subst h
    go_enter Try.func22, Try.ntmps22
    go_wp2
    go_ret
    exact ⟨rfl, (Below.refl _ _).alloc (Nat.le_refl _) _⟩
  · have e1 : (key != 0) = true := by simpa using h
    rw [e1]
    go_enter Try.func22, Try.ntmps22
    go_wp2
    go_ret
    exact ⟨rfl, (Below.refl _ _).alloc (Nat.le_refl _) _⟩
end Go.Proofs.Ytklboieemljmiaa

namespace Go.Proofs.Ytklboieemljmiaa
open Go.RowKit
set_option linter.unusedVariables false
set_option linter.unusedSimpArgs false
theorem Bks.below {w w' : World} {v : Value} {bs : List Bk} (h : Bks w v bs) (hb : Below w.heap.size w w') : Bks w' v bs := by
  obtain ⟨a, c, e, hm, h⟩ := h
  refine ⟨a, c, e, hm, fun j b hj => ?_⟩
  obtain ⟨hok, g, o, ha, hg, hr⟩ := h j b hj
  exact ⟨hok, g, o, ha, Nat.lt_of_lt_of_le hg hb.size, rangeAt_keep hr (hb.block g hg)⟩
/-- The blocks that bytes are. -/
def unBs (tb : Bool) (zs : List Int) (m : Nat) : List Bk := (List.range m).map (unB tb zs)
theorem unBs_len (tb : Bool) (zs : List Int) (m : Nat) : (unBs tb zs m).length = m := by simp [unBs]
theorem unBs_at (tb : Bool) (zs : List Int) (m j : Nat) (hj : j < m) : (unBs tb zs m)[j]? = some (unB tb zs j) := by simp [unBs, hj]
theorem unL_flat (tb : Bool) (zs : List Int) : ∀ m, unL tb zs m = flat (unBs tb zs m)
  | 0 => rfl
  | m + 1 => by
    show _ = flat ((List.range (m + 1)).map (unB tb zs))
    rw [List.range_succ, List.map_append, flat_append, unL, unL_flat tb zs m]
    simp [flat, unBs]
theorem unBs_ok (tb : Bool) (zs : List Int) (m : Nat) (hb : Bytes zs) (hl : zs.length = m * sz tb) : ∀ b ∈ unBs tb zs m, b.ok := fun b hb' => by
  simp only [unBs, List.mem_map, List.mem_range] at hb'
  obtain ⟨j, hj, rfl⟩ := hb'
  exact unB_ok tb zs j m hb hl hj
theorem rd_below {w w' : World} {v : Value} {zs : List Int} (h : RdAt w v zs) (hb : Below w.heap.size w w') : RdAt w' v zs := by
  obtain ⟨sa, sc, e, h1, h2, h3⟩ := h
  refine ⟨sa, sc, e, h1, h2, ?_⟩
  rcases h3 with h3 | ⟨b, off, ha, hc⟩
  · exact .inl h3
  · refine .inr ⟨b, off, ha, fun j u hu => ?_⟩
    have h4 := hc j u hu
    exact (hb.cell (p := ⟨b, off + j, none⟩) (World.block_lt_of_cell? w _ h4)).trans h4
/-- Unpack of any bytes. -/
theorem upk_any (tb : Bool) (a : Option Addr) (n cp : Nat) (zs : List Int) (w : World) (hr : RdAt w (.slice a n cp) zs) (hl : zs.length = n) (hb : Bytes zs) (hn : n ≤ 140737488355328) :
    Calls Try.prog 79 #[.slice a n cp, .bool tb] w fun e w' => Below w.heap.size w w' ∧ if n % sz tb = 0 then ∃ g, e = .returned (.tuple #[.slice (some ⟨g, 0, none⟩) (n / sz tb) (n / sz tb), .bool true]) ∧ w'.heap[g]? = some (.cells (flat (unBs tb zs (n / sz tb))).toArray 76 (0, 0)) ∧ w.heap.size ≤ g else e = .returned (.tuple #[.slice none 0 0, .bool false]) := by
  cases tb with
  | false =>
    by_cases hm : n % 16 = 0
    · refine (unpack_false a n cp (n / 16) zs w hr hl (by omega) hb hn).mono ?_
      rintro e w' ⟨g, h1, h2, h3, h4⟩
      refine ⟨h4, ?_⟩
      rw [if_pos (show n % sz false = 0 from hm)]
      exact ⟨g, h1, by rw [← unL_flat]; exact h2, h3⟩
    · refine (unpack_no_false a n cp w (by unfold maxLen; omega) hm).mono ?_
      rintro e w' ⟨h1, rfl⟩
      refine ⟨Below.refl _ _, ?_⟩
      rw [if_neg (show ¬ n % sz false = 0 from hm)]
      exact h1
  | true =>
    by_cases hm : n % 24 = 0
    · refine (unpack_true a n cp (n / 24) zs w hr hl (by omega) hb hn).mono ?_
      rintro e w' ⟨g, h1, h2, h3, h4⟩
      refine ⟨h4, ?_⟩
      rw [if_pos (show n % sz true = 0 from hm)]
      exact ⟨g, h1, by rw [← unL_flat]; exact h2, h3⟩
    · refine (unpack_no_true a n cp w (by unfold maxLen; omega) hm).mono ?_
      rintro e w' ⟨h1, rfl⟩
      refine ⟨Below.refl _ _, ?_⟩
      rw [if_neg (show ¬ n % sz true = 0 from hm)]
      exact h1
set_option maxRecDepth 100000 in
set_option maxHeartbeats 4000000 in
theorem protect_t (D S l : Nat) (k : Int) (c : Cm) (a : Option Addr) (n cp : Nat) (bs : List Bk) (w : World) (hD : Bx w D (devV S k)) (h0 : 0 ≤ k) (h1 : k ≤ 255) (p0 : 0 ≤ c.pr) (p1 : c.pr ≤ 255) (hpr : c.pr ≠ 0) (hl : c.lba = l) (hin : l + n ≤ 1000000) (hv : Bks w (.slice a n cp) bs) (hn : bs.length = n) :
    Calls Try.prog 67 #[.pointer (some ⟨D, 0, none⟩), .agg c.vals, .slice a n cp] w fun e w' => e = .returned (.agg (lookS k c.pr l bs).vals) ∧ Below w.heap.size w w' := by
  have HT := withT_any c
  rw [show (c.pr != 0) = true from by simpa using hpr] at HT
  have HL := fun W (h : Below w.heap.size w W) => look_any D S l k c a n cp bs W (hD.below h hD.lt) h0 h1 p0 p1 hl hin (hv.below h) hn
  obtain ⟨s, hs⟩ : ∃ s, s = lookS k c.pr l bs := ⟨_, rfl⟩
  rw [← hs] at HL ⊢
  have hCs : c.vals.size = 15 := rfl
  obtain ⟨CV, hCV⟩ : ∃ CV, CV = c.vals := ⟨_, rfl⟩
  rw [← hCV] at hCs  HT HL ⊢
  replace hCs := Kpt.mk hCs
  clear hCV
  replace HT := Kpt.mk HT
  replace HL := Kpt.mk HL
  clear hD hv hl hpr hs p0 p1
  go_enter Try.func67, Try.ntmps67
  go_wp2_with (first
      | (refine wpList_sen s br zeroS _ _ rfl rfl rfl rfl hRr.out rfl rfl w.heap.size hb.out (Nat.le_refl _) hrl.out ?_; intro w9 hB9 hb9 _; have m9 : Kpt True := ⟨trivial⟩)
      | (go_at_call 37; have hm := m3; refine (HL.out _ hb.out).mono ?_; rintro e w4 ⟨rfl, h4⟩; replace hRr := Kpt.mk (hRr.out.below h4 hRr.out.lt); replace hb := Kpt.mk (hb.out.trans (h4.mono hb.out.size)); skip)
      | (go_at_call 27; refine (HT.out _).mono ?_; rintro e w3 ⟨rfl, h3⟩; have m3 : Kpt True := ⟨trivial⟩; replace hC := Kpt.mk (hC.out.below h3 hC.out.lt); replace hRr := Kpt.mk (hRr.out.below h3 hRr.out.lt); replace hb := Kpt.mk (hb.out.trans (h3.mono hb.out.size)); skip)
      | (refine wpList_load_bx rfl 38 _ rfl bc CV rfl hC.out _ Try.underlying38 rfl (by rw [hCs.out]; exact infoC) ?_)
      | (refine wpList_var rfl 32 rfl zeroS zeroSi ?_; intro br wr hrl hRr h_; replace hRr := Kpt.mk hRr; replace hC := Kpt.mk (hC.out.below h_ hC.out.lt); replace hb := Kpt.mk (hb.out.trans (h_.mono hb.out.size)); clear h_; replace hrl : Kpt (w.heap.size ≤ br) := ⟨Nat.le_trans (hbs.out) hrl⟩; skip)
      | (refine wpList_box rfl 38 _ rfl CV rfl ?_; intro bc wC hcl hC hC_ _; replace hC := Kpt.mk hC; have hb := Kpt.mk hC_; replace hcl := Kpt.mk hcl; clear hC_; have hbs := Kpt.mk hb.out.size; skip)
      | fail)
  refine bodyPost_ret (v := .agg s.vals) (by simp [results, Try.results67, asAddr, Act.put, res_run hB9]) rfl ⟨rfl, hb9⟩

end Go.Proofs.Ytklboieemljmiaa

namespace Go.Proofs.Ytklboieemljmiaa
open Go.RowKit
set_option linter.unusedVariables false
set_option linter.unusedSimpArgs false
set_option maxRecDepth 100000 in
set_option maxHeartbeats 4000000 in
theorem dunpack_yes (c : Cm) (a : Option Addr) (n cp m : Nat) (zs : List Int) (w : World) (hr : RdAt w (.slice a n cp) zs) (hl : zs.length = n) (hby : Bytes zs) (hn : n ≤ 140737488355328) (hmb : m < 9223372036854775808) (hm : n = m * sz (c.pr != 0)) :
    Calls Try.prog 59 #[.agg c.vals, .slice a n cp, .int .i64 m] w fun e w' => ∃ g, e = .returned (.tuple #[.slice (some ⟨g, 0, none⟩) m m, .agg noS.vals]) ∧ w'.heap[g]? = some (.cells (flat (unBs (c.pr != 0) zs m)).toArray 76 (0, 0)) ∧ w.heap.size ≤ g ∧ Below w.heap.size w w' := by
  have HT := withT_any c
  obtain ⟨tb, htb⟩ : ∃ tb, tb = (c.pr != 0) := ⟨_, rfl⟩
  rw [← htb] at HT hm ⊢
  have HU := fun W (h : Below w.heap.size w W) => upk_any tb a n cp zs W (rd_below hr h) hl hby hn
  have hs0 : 0 < sz tb := by cases tb <;> decide
  have e1 : n % sz tb = 0 := by rw [hm]; exact Nat.mul_mod_left _ _
  have e2 : n / sz tb = m := by rw [hm]; exact Nat.mul_div_cancel _ hs0
  simp only [if_pos e1, e2] at HU
  have hCs : c.vals.size = 15 := rfl
  obtain ⟨CV, hCV⟩ : ∃ CV, CV = c.vals := ⟨_, rfl⟩
  rw [← hCV] at hCs  HT ⊢
  replace hCs := Kpt.mk hCs
  clear hCV
  replace HT := Kpt.mk HT
  replace HU := Kpt.mk HU
  replace hm := Kpt.mk hm
  have em : ((m : Int) != m) = false := by simp
  clear hr htb e1 e2 hl hs0
  go_enter Try.func59, Try.ntmps59
  go_wp2_with (first
      | (refine wpList_sen (noS) br zeroS _ _ rfl rfl rfl rfl hRr.out rfl rfl w.heap.size hb.out (Nat.le_refl _) hrl.out ?_; intro w9 hB9 hb9 hg9; skip)
      | (go_at_call 79; have hm3 := m3; refine (HU.out _ hb.out).mono ?_; rintro e w4 ⟨h4, g, rfl, hg4, hgl⟩; have hrlt := hRr.out.lt; replace hg4 := Kpt.mk hg4; replace hRr := Kpt.mk (hRr.out.below h4 hRr.out.lt); replace hb := Kpt.mk (hb.out.trans (h4.mono hb.out.size)); skip)
      | (go_at_call 27; refine (HT.out _).mono ?_; rintro e w3 ⟨rfl, h3⟩; have m3 : Kpt True := ⟨trivial⟩; replace hC := Kpt.mk (hC.out.below h3 hC.out.lt); replace hRr := Kpt.mk (hRr.out.below h3 hRr.out.lt); replace hb := Kpt.mk (hb.out.trans (h3.mono hb.out.size)); have hbs3 := hb.out.size; skip)
      | (refine wpList_load_bx rfl 38 _ rfl bc CV rfl hC.out _ Try.underlying38 rfl (by rw [hCs.out]; exact infoC) ?_)
      | (refine wpList_var rfl 32 rfl zeroS zeroSi ?_; intro br wr hrl hRr h_; replace hRr := Kpt.mk hRr; replace hC := Kpt.mk (hC.out.below h_ hC.out.lt); replace hb := Kpt.mk (hb.out.trans (h_.mono hb.out.size)); clear h_; replace hrl : Kpt (w.heap.size ≤ br) := ⟨Nat.le_trans (hbs.out) hrl⟩; skip)
      | (refine wpList_box rfl 38 _ rfl CV rfl ?_; intro bc wC hcl hC hC_ _; replace hC := Kpt.mk hC; have hb := Kpt.mk hC_; replace hcl := Kpt.mk hcl; clear hC_; have hbs := Kpt.mk hb.out.size; skip)
      | fail)
  refine bodyPost_ret (v := .tuple #[.slice (some ⟨g, 0, none⟩) m m, .agg noS.vals]) (by simp [results, Try.results59, asAddr, Act.put, res_run hB9]) rfl ⟨g, rfl, ?_, ?_, hb9⟩
  · rw [hg9.block g (Array.getElem?_eq_some_iff.1 hg4.out).1 (by simp; omega)]; exact hg4.out
  · omega

set_option maxRecDepth 100000 in
set_option maxHeartbeats 4000000 in
theorem dunpack_no (c : Cm) (a : Option Addr) (n cp m : Nat) (zs : List Int) (w : World) (hr : RdAt w (.slice a n cp) zs) (hl : zs.length = n) (hby : Bytes zs) (hn : n ≤ 140737488355328) (hmb : m < 9223372036854775808) (hm : n ≠ m * sz (c.pr != 0)) :
    Calls Try.prog 59 #[.agg c.vals, .slice a n cp, .int .i64 m] w fun e w' => e = .returned (.tuple #[.slice none 0 0, .agg (plS 5 6656).vals]) ∧ Below w.heap.size w w' := by
  have HT := withT_any c
  obtain ⟨tb, htb⟩ : ∃ tb, tb = (c.pr != 0) := ⟨_, rfl⟩
  rw [← htb] at HT hm 
  have HU := fun W (h : Below w.heap.size w W) => upk_any tb a n cp zs W (rd_below hr h) hl hby hn
  by_cases e1 : n % sz tb = 0
  · have e2 : n / sz tb ≠ m := by
      intro e
      apply hm
      have := Nat.div_add_mod n (sz tb)
      rw [e1, e, Nat.mul_comm] at this
      omega
    simp only [if_pos e1] at HU
    obtain ⟨q, hq⟩ : ∃ q, q = n / sz tb := ⟨_, rfl⟩
    simp only [← hq] at HU e2
    have eq : ((q : Int) != m) = true := by simp; omega
    have HW := Kpt.mk (fun W => wrong_any W)
    have hCs : c.vals.size = 15 := rfl
    obtain ⟨CV, hCV⟩ : ∃ CV, CV = c.vals := ⟨_, rfl⟩
    rw [← hCV] at hCs  HT ⊢
    replace hCs := Kpt.mk hCs
    clear hCV
    replace HT := Kpt.mk HT
    replace HU := Kpt.mk HU
    clear hr htb e1 e2 hl hm hq
    go_enter Try.func59, Try.ntmps59
    go_wp2_with (first
      | (refine wpList_sen (plS 5 6656) br zeroS _ _ rfl rfl rfl rfl hRr.out rfl rfl w.heap.size hb.out (Nat.le_refl _) hrl.out ?_; intro w9 hB9 hb9 hg9; skip)
      | (go_at_call 65; have hm3 := m4; refine (HW.out _).mono ?_; rintro e w5 ⟨rfl, h5⟩; replace hRr := Kpt.mk (hRr.out.below h5 hRr.out.lt); replace hb := Kpt.mk (hb.out.trans (h5.mono hb.out.size)); skip)
      | (go_at_call 79; have hm3 := m3; refine (HU.out _ hb.out).mono ?_; rintro e w4 ⟨h4, g, rfl, hg4, hgl⟩; have m4 : Kpt True := ⟨trivial⟩; clear hg4; replace hRr := Kpt.mk (hRr.out.below h4 hRr.out.lt); replace hb := Kpt.mk (hb.out.trans (h4.mono hb.out.size)); skip)
      | (go_at_call 27; refine (HT.out _).mono ?_; rintro e w3 ⟨rfl, h3⟩; have m3 : Kpt True := ⟨trivial⟩; replace hC := Kpt.mk (hC.out.below h3 hC.out.lt); replace hRr := Kpt.mk (hRr.out.below h3 hRr.out.lt); replace hb := Kpt.mk (hb.out.trans (h3.mono hb.out.size)); skip)
      | (refine wpList_load_bx rfl 38 _ rfl bc CV rfl hC.out _ Try.underlying38 rfl (by rw [hCs.out]; exact infoC) ?_)
      | (refine wpList_var rfl 32 rfl zeroS zeroSi ?_; intro br wr hrl hRr h_; replace hRr := Kpt.mk hRr; replace hC := Kpt.mk (hC.out.below h_ hC.out.lt); replace hb := Kpt.mk (hb.out.trans (h_.mono hb.out.size)); clear h_; replace hrl : Kpt (w.heap.size ≤ br) := ⟨Nat.le_trans (hbs.out) hrl⟩; skip)
      | (refine wpList_box rfl 38 _ rfl CV rfl ?_; intro bc wC hcl hC hC_ _; replace hC := Kpt.mk hC; have hb := Kpt.mk hC_; replace hcl := Kpt.mk hcl; clear hC_; have hbs := Kpt.mk hb.out.size; skip)
      | fail)
    refine bodyPost_ret (v := .tuple #[.slice none 0 0, .agg (plS 5 6656).vals]) (by simp [results, Try.results59, asAddr, Act.put, res_run hB9]) rfl ⟨rfl, hb9⟩
  · simp only [if_neg e1] at HU
    have HW := Kpt.mk (fun W => wrong_any W)
    have hCs : c.vals.size = 15 := rfl
    obtain ⟨CV, hCV⟩ : ∃ CV, CV = c.vals := ⟨_, rfl⟩
    rw [← hCV] at hCs  HT ⊢
    replace hCs := Kpt.mk hCs
    clear hCV
    replace HT := Kpt.mk HT
    replace HU := Kpt.mk HU
    clear hr htb e1 hl hm
    go_enter Try.func59, Try.ntmps59
    go_wp2_with (first
      | (refine wpList_sen (plS 5 6656) br zeroS _ _ rfl rfl rfl rfl hRr.out rfl rfl w.heap.size hb.out (Nat.le_refl _) hrl.out ?_; intro w9 hB9 hb9 hg9; skip)
      | (go_at_call 65; have hm3 := m4; refine (HW.out _).mono ?_; rintro e w5 ⟨rfl, h5⟩; replace hRr := Kpt.mk (hRr.out.below h5 hRr.out.lt); replace hb := Kpt.mk (hb.out.trans (h5.mono hb.out.size)); skip)
      | (go_at_call 79; have hm3 := m3; refine (HU.out _ hb.out).mono ?_; rintro e w4 ⟨h4, rfl⟩; have m4 : Kpt True := ⟨trivial⟩; replace hRr := Kpt.mk (hRr.out.below h4 hRr.out.lt); replace hb := Kpt.mk (hb.out.trans (h4.mono hb.out.size)); skip)
      | (go_at_call 27; refine (HT.out _).mono ?_; rintro e w3 ⟨rfl, h3⟩; have m3 : Kpt True := ⟨trivial⟩; replace hC := Kpt.mk (hC.out.below h3 hC.out.lt); replace hRr := Kpt.mk (hRr.out.below h3 hRr.out.lt); replace hb := Kpt.mk (hb.out.trans (h3.mono hb.out.size)); skip)
      | (refine wpList_load_bx rfl 38 _ rfl bc CV rfl hC.out _ Try.underlying38 rfl (by rw [hCs.out]; exact infoC) ?_)
      | (refine wpList_var rfl 32 rfl zeroS zeroSi ?_; intro br wr hrl hRr h_; replace hRr := Kpt.mk hRr; replace hC := Kpt.mk (hC.out.below h_ hC.out.lt); replace hb := Kpt.mk (hb.out.trans (h_.mono hb.out.size)); clear h_; replace hrl : Kpt (w.heap.size ≤ br) := ⟨Nat.le_trans (hbs.out) hrl⟩; skip)
      | (refine wpList_box rfl 38 _ rfl CV rfl ?_; intro bc wC hcl hC hC_ _; replace hC := Kpt.mk hC; have hb := Kpt.mk hC_; replace hcl := Kpt.mk hcl; clear hC_; have hbs := Kpt.mk hb.out.size; skip)
      | fail)
    refine bodyPost_ret (v := .tuple #[.slice none 0 0, .agg (plS 5 6656).vals]) (by simp [results, Try.results59, asAddr, Act.put, res_run hB9]) rfl ⟨rfl, hb9⟩

end Go.Proofs.Ytklboieemljmiaa

namespace Go.Proofs.Ytklboieemljmiaa
open Go.RowKit
set_option linter.unusedVariables false
set_option linter.unusedSimpArgs false
theorem heap_keep {w w' : World} {g : Nat} {o : Obj} (h : w.heap[g]? = some o) (hb : Below w.heap.size w w') : w'.heap[g]? = some o := (hb.block g (Array.getElem?_eq_some_iff.1 h).1).trans h
theorem heap_grown {w w' : World} {g b : Nat} {o : Obj} (h : w.heap[g]? = some o) (hb : w.grownBy w' (some b)) (hne : g ≠ b) : w'.heap[g]? = some o := (hb.block g (Array.getElem?_eq_some_iff.1 h).1 (by simp; omega)).trans h
theorem heap_lt {w : World} {g : Nat} {o : Obj} (h : w.heap[g]? = some o) : g < w.heap.size := (Array.getElem?_eq_some_iff.1 h).1
/-- Blocks in a row of their own can be read. -/
theorem bks_flat {w : World} {g o : Nat} {P : List Value} {bs : List Bk} {C : List Value} (h : w.heap[g]? = some (.cells (P ++ (flat bs ++ C)).toArray 76 (0, 0))) (hP : P.length = o) (hok : ∀ b ∈ bs, b.ok) (n cp : Nat) (hn : bs.length = n) (hm : n ≤ maxLen) : Bks w (.slice (some ⟨g, o, none⟩) n cp) bs := by
  refine ⟨some ⟨g, o, none⟩, cp, by rw [hn], by rw [hn]; exact hm, fun j b hj => ⟨hok b (List.mem_of_getElem? hj), g, o, rfl, heap_lt h, ?_⟩⟩
  have hj' := (List.getElem?_eq_some_iff.1 hj).1
  have hsp : bs = bs.take j ++ (b :: bs.drop (j + 1)) := by
    have e : bs.drop j = b :: bs.drop (j + 1) := by rw [List.drop_eq_getElem_cons hj']; congr 1; exact (List.getElem?_eq_some_iff.1 hj).2
    rw [← e, List.take_append_drop]
  have hfl : (flat (bs.take j)).length = j * 19 := by rw [flat_len _ (fun x hx => hok x (List.mem_of_mem_take hx)), List.length_take, Nat.min_eq_left (by omega)]
  rw [hsp, flat_append, flat_cons] at h
  exact range_of (t := 76) (A := P ++ flat (bs.take j)) (C := flat (bs.drop (j + 1)) ++ C) (by rw [h]; simp) (by rw [List.length_append, hP, hfl])
theorem bks_row {w : World} {g : Nat} {bs : List Bk} (h : w.heap[g]? = some (.cells (flat bs).toArray 76 (0, 0))) (hok : ∀ b ∈ bs, b.ok) (n cp : Nat) (hn : bs.length = n) (hm : n ≤ maxLen) : Bks w (.slice (some ⟨g, 0, none⟩) n cp) bs :=
  bks_flat (P := []) (C := []) (by simpa using h) rfl hok n cp hn hm
theorem Below.ofGrown {w w' : World} {n g : Nat} (h : w.grownBy w' (some g)) (hn : n ≤ w.heap.size) (hg : n ≤ g) : Below n w w' := (Below.refl _ _).grown h hn (fun q hq => by cases hq; exact hg)

set_option maxRecDepth 100000 in
set_option maxHeartbeats 400000 in
theorem come_0 (D S l : Nat) (k : Int) (c : Cm) (a : Option Addr) (n cp m : Nat) (zs : List Int) (w : World) (hD : Bx w D (devV S k)) (h0 : 0 ≤ k) (h1 : k ≤ 255) (hl : c.lba = l) (hin : l + m ≤ 1000000) (hr : RdAt w (.slice a n cp) zs) (hlz : zs.length = n) (hby : Bytes zs) (hpr : c.pr = 0) (hm : n = m * 16) :
    Calls Try.prog 57 #[.pointer (some ⟨D, 0, none⟩), .agg c.vals, .slice a n cp, .int .i64 m] w fun e w' => ∃ g, e = .returned (.tuple #[.slice (some ⟨g, 0, none⟩) m m, .agg (noS).vals]) ∧ w'.heap[g]? = some (.cells (flat (prL k l (unBs false zs m))).toArray 76 (0, 0)) ∧ w.heap.size ≤ g ∧ Below w.heap.size w w' := by
  have etb : (c.pr != 0) = false := by rw [hpr]; rfl
  have HU := fun W (h : Below w.heap.size w W) => dunpack_yes c a n cp m zs W (rd_below hr h) hlz hby (by omega) (by omega) (by rw [etb]; exact hm)
  simp only [etb] at HU
  have hbo : ∀ b ∈ unBs false zs m, b.ok := unBs_ok false zs m hby (by rw [hlz, hm]; rfl)
  have HP := fun W g (hD : Bx W D (devV S k)) (hg : W.heap[g]? = some (.cells (flat (unBs false zs m)).toArray 76 (0, 0))) (hne : g ≠ D) => protect_0 D S l g 0 k c m m [] (unBs false zs m) W hD h0 h1 hpr hl hin (by simpa using hg) rfl (unBs_len _ _ _) (Nat.le_refl _) hbo hne
  simp only [List.nil_append] at HP
  have HE := Kpt.mk (fun W => ended_any noS W)
  rw [show (noS.key != 0) = false from rfl] at HE
  have hCs : c.vals.size = 15 := rfl
  obtain ⟨CV, hCV⟩ : ∃ CV, CV = c.vals := ⟨_, rfl⟩
  rw [← hCV] at hCs  HU HP ⊢
  replace hCs := Kpt.mk hCs
  clear hCV
  have hDl := hD.lt
  replace hD := Kpt.mk hD
  replace HU := Kpt.mk HU
  replace HP := Kpt.mk HP
  replace hm := Kpt.mk hm
  clear hr hbo etb hl hlz hpr
  obtain ⟨X, hX⟩ : ∃ X, X = (flat (prL k l (unBs false zs m))).toArray := ⟨_, rfl⟩
  rw [← hX] at HP ⊢
  obtain ⟨Y, hY⟩ : ∃ Y, Y = (flat (unBs false zs m)).toArray := ⟨_, rfl⟩
  rw [← hY] at HU HP
  clear hX hY
  go_enter Try.func57, Try.ntmps57
  go_wp2_with (first
      | (refine wpList_sen (noS) br zeroS _ _ rfl rfl rfl rfl hRr.out rfl rfl w.heap.size hb.out (Nat.le_refl _) hrl.out ?_; intro w9 hB9 hb9 hg9; replace hg6 := Kpt.mk (heap_grown hg6.out hg9 (by omega)))
      | (go_at_call 67; have hm := m5; go_must (refine (HP.out _ g hD.out hg.out (by omega)).mono ?_; rintro e w6 ⟨rfl, hg6, hgr6⟩; replace hg6 := Kpt.mk hg6; replace hRr := Kpt.mk (hRr.out.grown hgr6 (by simp; omega)); replace hb := Kpt.mk (hb.out.trans (Below.ofGrown hgr6 hb.out.size (by omega)))))
      | (go_at_call 22; go_must (refine (HE.out _).mono ?_; rintro e w5 ⟨rfl, h5⟩; have m5 : Kpt True := ⟨trivial⟩; replace hg := Kpt.mk (heap_keep hg.out h5); replace hC := Kpt.mk (hC.out.below h5 hC.out.lt); replace hRr := Kpt.mk (hRr.out.below h5 hRr.out.lt); replace hD := Kpt.mk (hD.out.below h5 hD.out.lt); replace hb := Kpt.mk (hb.out.trans (h5.mono hb.out.size)); skip))
      | (refine wpList_load_bx rfl 32 _ rfl by_ noS.vals rfl hRy.out _ Try.underlying32 rfl infoS ?_)
      | (refine wpList_sen (noS) by_ zeroS _ _ rfl rfl rfl rfl hRy.out rfl rfl w.heap.size hb.out (Nat.le_refl _) hyl.out ?_; intro w8 hB8 hb8 hg8; replace hRy := Kpt.mk hB8; replace hg := Kpt.mk (heap_grown hg.out hg8 (by omega)); replace hC := Kpt.mk (hC.out.grown hg8 (by simp; omega)); replace hRr := Kpt.mk (hRr.out.grown hg8 (by simp; omega)); replace hD := Kpt.mk (hD.out.grown hg8 (by simp; omega)); replace hb := Kpt.mk hb8)
      | (have hm := m3; refine wpList_var rfl 32 rfl zeroS zeroSi ?_; intro by_ wy hyl hRy h_; have hy4_ := hyl; replace hRy := Kpt.mk hRy; have hb0 := Kpt.mk hb.out.size; replace hC := Kpt.mk (hC.out.below h_ hC.out.lt); replace hRr := Kpt.mk (hRr.out.below h_ hRr.out.lt); replace hD := Kpt.mk (hD.out.below h_ hD.out.lt); replace hb := Kpt.mk (hb.out.trans (h_.mono hb.out.size)); replace hyl : Kpt (w.heap.size ≤ by_) := ⟨Nat.le_trans (hb0.out) hyl⟩; have hy4 : w4.heap.size ≤ by_ := hy4_; have hgy : g < by_ := Nat.lt_of_lt_of_le (heap_lt hg.out) hy4_; replace hg := Kpt.mk (heap_keep hg.out h_); clear h_)
      | (go_at_call 59; go_must (refine (HU.out _ hb.out).mono ?_; rintro e w4 ⟨g, rfl, hg, hgl, h4⟩; have m3 : Kpt True := ⟨trivial⟩; have hrlt := hRr.out.lt; have hclt := hC.out.lt; have hdlt := hD.out.lt; have hsz4 := hb.out.size; have hs4 := h4.size; replace hg := Kpt.mk hg; replace hC := Kpt.mk (hC.out.below h4 hC.out.lt); replace hRr := Kpt.mk (hRr.out.below h4 hRr.out.lt); replace hD := Kpt.mk (hD.out.below h4 hD.out.lt); replace hb := Kpt.mk (hb.out.trans (h4.mono hb.out.size)); skip))
      | (refine wpList_load_bx rfl 38 _ rfl bc CV rfl hC.out _ Try.underlying38 rfl (by rw [hCs.out]; exact infoC) ?_)
      | (refine wpList_var rfl 32 rfl zeroS zeroSi ?_; intro br wr hrl hRr h_; replace hRr := Kpt.mk hRr; replace hC := Kpt.mk (hC.out.below h_ hC.out.lt); replace hD := Kpt.mk (hD.out.below h_ hD.out.lt); replace hb := Kpt.mk (hb.out.trans (h_.mono hb.out.size)); replace hrl : Kpt (w.heap.size ≤ br) := ⟨Nat.le_trans (hbs.out) hrl⟩; clear h_)
      | (refine wpList_box rfl 38 _ rfl CV rfl ?_; intro bc wC hcl hC hC_ _; replace hC := Kpt.mk hC; replace hD := Kpt.mk (hD.out.below hC_ hD.out.lt); have hb := Kpt.mk hC_; replace hcl := Kpt.mk hcl; clear hC_; have hbs := Kpt.mk hb.out.size; skip)
      | fail)
  refine bodyPost_ret (v := .tuple #[.slice (some ⟨g, 0, none⟩) m m, .agg (noS).vals]) (by simp [results, Try.results57, asAddr, Act.put, res_run hB9]) rfl ⟨g, rfl, hg6.out, by omega, hb9⟩

set_option maxRecDepth 100000 in
set_option maxHeartbeats 400000 in
theorem come_t (D S l : Nat) (k : Int) (c : Cm) (a : Option Addr) (n cp m : Nat) (zs : List Int) (w : World) (hD : Bx w D (devV S k)) (h0 : 0 ≤ k) (h1 : k ≤ 255) (hl : c.lba = l) (hin : l + m ≤ 1000000) (hr : RdAt w (.slice a n cp) zs) (hlz : zs.length = n) (hby : Bytes zs) (p0 : 0 ≤ c.pr) (p1 : c.pr ≤ 255) (hpr : c.pr ≠ 0) (hm : n = m * 24) :
    Calls Try.prog 57 #[.pointer (some ⟨D, 0, none⟩), .agg c.vals, .slice a n cp, .int .i64 m] w fun e w' => ∃ g, e = .returned (.tuple #[.slice (some ⟨g, 0, none⟩) m m, .agg (lookS k c.pr l (unBs true zs m)).vals]) ∧ w'.heap[g]? = some (.cells (flat (unBs true zs m)).toArray 76 (0, 0)) ∧ w.heap.size ≤ g ∧ Below w.heap.size w w' := by
  have etb : (c.pr != 0) = true := by simpa using hpr
  have HU := fun W (h : Below w.heap.size w W) => dunpack_yes c a n cp m zs W (rd_below hr h) hlz hby (by omega) (by omega) (by rw [etb]; exact hm)
  simp only [etb] at HU
  have hbo : ∀ b ∈ unBs true zs m, b.ok := unBs_ok true zs m hby (by rw [hlz, hm]; rfl)
  have HP := fun W g (hD : Bx W D (devV S k)) (hg : W.heap[g]? = some (.cells (flat (unBs true zs m)).toArray 76 (0, 0))) => protect_t D S l k c (some ⟨g, 0, none⟩) m m (unBs true zs m) W hD h0 h1 p0 p1 hpr hl hin (bks_row hg hbo m m (unBs_len _ _ _) (by unfold maxLen; omega)) (unBs_len _ _ _)
  obtain ⟨s, hs⟩ : ∃ s, s = lookS k c.pr l (unBs true zs m) := ⟨_, rfl⟩
  rw [← hs] at HP ⊢
  have HE := Kpt.mk (fun W => ended_any noS W)
  rw [show (noS.key != 0) = false from rfl] at HE
  have hCs : c.vals.size = 15 := rfl
  obtain ⟨CV, hCV⟩ : ∃ CV, CV = c.vals := ⟨_, rfl⟩
  rw [← hCV] at hCs  HU HP ⊢
  replace hCs := Kpt.mk hCs
  clear hCV
  have hDl := hD.lt
  replace hD := Kpt.mk hD
  replace HU := Kpt.mk HU
  replace HP := Kpt.mk HP
  replace hm := Kpt.mk hm
  clear hr hbo etb hl hlz hpr
  obtain ⟨X, hX⟩ : ∃ X, X = (flat (unBs true zs m)).toArray := ⟨_, rfl⟩
  rw [← hX] at HP ⊢
  rw [← hX] at HU
  clear hX hs
  go_enter Try.func57, Try.ntmps57
  go_wp2_with (first
      | (refine wpList_sen (s) br zeroS _ _ rfl rfl rfl rfl hRr.out rfl rfl w.heap.size hb.out (Nat.le_refl _) hrl.out ?_; intro w9 hB9 hb9 hg9; replace hg6 := Kpt.mk (heap_grown hg6.out hg9 (by omega)))
      | (go_at_call 67; have hm := m5; go_must (refine (HP.out _ g hD.out hg.out).mono ?_; rintro e w6 ⟨rfl, h6⟩; have hg6 := Kpt.mk (heap_keep hg.out h6); replace hRr := Kpt.mk (hRr.out.below h6 hRr.out.lt); replace hb := Kpt.mk (hb.out.trans (h6.mono hb.out.size)); skip))
      | (go_at_call 22; go_must (refine (HE.out _).mono ?_; rintro e w5 ⟨rfl, h5⟩; have m5 : Kpt True := ⟨trivial⟩; replace hg := Kpt.mk (heap_keep hg.out h5); replace hC := Kpt.mk (hC.out.below h5 hC.out.lt); replace hRr := Kpt.mk (hRr.out.below h5 hRr.out.lt); replace hD := Kpt.mk (hD.out.below h5 hD.out.lt); replace hb := Kpt.mk (hb.out.trans (h5.mono hb.out.size)); skip))
      | (refine wpList_load_bx rfl 32 _ rfl by_ noS.vals rfl hRy.out _ Try.underlying32 rfl infoS ?_)
      | (refine wpList_sen (noS) by_ zeroS _ _ rfl rfl rfl rfl hRy.out rfl rfl w.heap.size hb.out (Nat.le_refl _) hyl.out ?_; intro w8 hB8 hb8 hg8; replace hRy := Kpt.mk hB8; replace hg := Kpt.mk (heap_grown hg.out hg8 (by omega)); replace hC := Kpt.mk (hC.out.grown hg8 (by simp; omega)); replace hRr := Kpt.mk (hRr.out.grown hg8 (by simp; omega)); replace hD := Kpt.mk (hD.out.grown hg8 (by simp; omega)); replace hb := Kpt.mk hb8)
      | (have hm := m3; refine wpList_var rfl 32 rfl zeroS zeroSi ?_; intro by_ wy hyl hRy h_; have hy4_ := hyl; replace hRy := Kpt.mk hRy; have hb0 := Kpt.mk hb.out.size; replace hC := Kpt.mk (hC.out.below h_ hC.out.lt); replace hRr := Kpt.mk (hRr.out.below h_ hRr.out.lt); replace hD := Kpt.mk (hD.out.below h_ hD.out.lt); replace hb := Kpt.mk (hb.out.trans (h_.mono hb.out.size)); replace hyl : Kpt (w.heap.size ≤ by_) := ⟨Nat.le_trans (hb0.out) hyl⟩; have hy4 : w4.heap.size ≤ by_ := hy4_; have hgy : g < by_ := Nat.lt_of_lt_of_le (heap_lt hg.out) hy4_; replace hg := Kpt.mk (heap_keep hg.out h_); clear h_)
      | (go_at_call 59; go_must (refine (HU.out _ hb.out).mono ?_; rintro e w4 ⟨g, rfl, hg, hgl, h4⟩; have m3 : Kpt True := ⟨trivial⟩; have hrlt := hRr.out.lt; have hclt := hC.out.lt; have hdlt := hD.out.lt; have hsz4 := hb.out.size; have hs4 := h4.size; replace hg := Kpt.mk hg; replace hC := Kpt.mk (hC.out.below h4 hC.out.lt); replace hRr := Kpt.mk (hRr.out.below h4 hRr.out.lt); replace hD := Kpt.mk (hD.out.below h4 hD.out.lt); replace hb := Kpt.mk (hb.out.trans (h4.mono hb.out.size)); skip))
      | (refine wpList_load_bx rfl 38 _ rfl bc CV rfl hC.out _ Try.underlying38 rfl (by rw [hCs.out]; exact infoC) ?_)
      | (refine wpList_var rfl 32 rfl zeroS zeroSi ?_; intro br wr hrl hRr h_; replace hRr := Kpt.mk hRr; replace hC := Kpt.mk (hC.out.below h_ hC.out.lt); replace hD := Kpt.mk (hD.out.below h_ hD.out.lt); replace hb := Kpt.mk (hb.out.trans (h_.mono hb.out.size)); replace hrl : Kpt (w.heap.size ≤ br) := ⟨Nat.le_trans (hbs.out) hrl⟩; clear h_)
      | (refine wpList_box rfl 38 _ rfl CV rfl ?_; intro bc wC hcl hC hC_ _; replace hC := Kpt.mk hC; replace hD := Kpt.mk (hD.out.below hC_ hD.out.lt); have hb := Kpt.mk hC_; replace hcl := Kpt.mk hcl; clear hC_; have hbs := Kpt.mk hb.out.size; skip)
      | fail)
  refine bodyPost_ret (v := .tuple #[.slice (some ⟨g, 0, none⟩) m m, .agg (s).vals]) (by simp [results, Try.results57, asAddr, Act.put, res_run hB9]) rfl ⟨g, rfl, hg6.out, by omega, hb9⟩

end Go.Proofs.Ytklboieemljmiaa

namespace Go.Proofs.Ytklboieemljmiaa
open Go.RowKit
set_option linter.unusedVariables false
set_option linter.unusedSimpArgs false
/-- A device whose store is in a world's file. -/
structure Dv (w : World) (B : Nat) (tag : Tags) (st : St) (f : ByteArray) (S D N : Nat) (k : Int) (ca : Bool) : Prop where
  wd : Wd w B tag st
  sto : Sto w tag S B f N ca
  bx : Bx w D (devV S k)
  bare : tag D = none
theorem wd_none {w : World} {B : Nat} {tag : Tags} {st : St} (h : Wd w B tag st) {i : Nat} (hi : w.heap.size ≤ i) : tag i = none := by
  cases ht : tag i with
  | none => rfl
  | some t => have := h.lt i (by rw [ht]; simp); omega
theorem Bx.step {w w' : World} {tag tag' : Tags} {X : Tag → Prop} {b : Nat} {cs : Array Value} (h : Bx w b cs) (s : Step w w' tag tag' X) (ht : tag b = none) : Bx w' b cs :=
  h.of_block (Nat.lt_of_lt_of_le h.lt s.size) (s.block b h.lt (fun t _ e => by rw [ht] at e; cases e))
theorem Dv.below {w w' : World} {B : Nat} {tag : Tags} {st : St} {f : ByteArray} {S D N : Nat} {k : Int} {ca : Bool} (h : Dv w B tag st f S D N k ca) (hb : Below w.heap.size w w') : Dv w' B tag st f S D N k ca :=
  ⟨h.wd.step (step_below hb tag (fun _ => False)), h.sto.below hb, h.bx.below hb h.bx.lt, h.bare⟩
theorem Dv.step {w w' : World} {B : Nat} {tag tag' : Tags} {st st' : St} {f : ByteArray} {S D N : Nat} {k : Int} {ca : Bool} {X : Tag → Prop} (h : Dv w B tag st f S D N k ca) (s : Step w w' tag tag' X) (hW : Wd w' B tag' st') : Dv w' B tag' st' f S D N k ca :=
  ⟨hW, h.sto.step s, h.bx.step s h.bare, s.bare D h.bx.lt h.bare⟩
/-- A block that is untagged has turned: nothing of the world has. -/
theorem Dv.own {w w' : World} {B G : Nat} {tag : Tags} {st : St} {f : ByteArray} {S D N : Nat} {k : Int} {ca : Bool} (h : Dv w B tag st f S D N k ca) (hg : w.grownBy w' (some G)) (hG : tag G = none) (h1 : G ≠ S) (h2 : G ≠ D) : Dv w' B tag st f S D N k ca :=
  ⟨h.wd.own hg hG, h.sto.of_block (Nat.lt_of_lt_of_le h.sto.lt hg.size) h.sto.bare (hg.block S h.sto.lt (by simp; omega)), h.bx.grown hg (by simpa using h2), h.bare⟩
theorem step_bare {w w' : World} {tag tag' : Tags} {X : Tag → Prop} (s : Step w w' tag tag' X) {g : Nat} (hg : g < w.heap.size) (ht : tag g = none) : tag' g = none := s.bare g hg ht
/-- Blocks that a row holds, as a list. -/
theorem rw_bks {w : World} {tag : Tags} {g n : Nat} {bl : Nat → Bk} (h : Rw w tag g n n bl) (hok : ∀ j, j < n → (bl j).ok) (hm : n ≤ maxLen) : Bks w (.slice (some ⟨g, 0, none⟩) n n) ((List.range n).map bl) := by
  refine ⟨some ⟨g, 0, none⟩, n, by simp, by simpa using hm, fun j b hj => ?_⟩
  rw [List.getElem?_map] at hj
  have hjn : j < n := by
    cases hr : (List.range n)[j]? with
    | none => rw [hr] at hj; simp at hj
    | some x => have := (List.getElem?_eq_some_iff.1 hr).1; simpa using this
  rw [List.getElem?_range hjn] at hj
  simp only [Option.map_some, Option.some.injEq] at hj
  subst hj
  exact ⟨hok j hjn, g, 0, rfl, h.lt, by rw [Nat.zero_add]; exact h.done j hjn⟩
theorem Bks.step {w w' : World} {tag tag' : Tags} {X : Tag → Prop} {a : Option Addr} {n cp : Nat} {bs : List Bk} (h : Bks w (.slice a n cp) bs) (s : Step w w' tag tag' X) (ht : ∀ g o, a = some ⟨g, o, none⟩ → tag g = none) : Bks w' (.slice a n cp) bs := by
  obtain ⟨a', c', e, hm, h⟩ := h
  simp only [Value.slice.injEq] at e
  obtain ⟨e1, e2, e3⟩ := e
  refine ⟨a', c', by rw [e1, e2, e3], hm, fun j b hj => ?_⟩
  obtain ⟨hok, g, o, ha, hg, hr⟩ := h j b hj
  exact ⟨hok, g, o, ha, Nat.lt_of_lt_of_le hg s.size, rangeAt_keep hr (s.block g hg (fun t _ e => by rw [ht g o (by rw [e1]; exact ha)] at e; cases e))⟩
/-- The blocks of a file from a place on. -/
def rdL (F : Option (List Int)) (l n : Nat) : List Bk := (List.range n).map (fun j => blkAt F (l + j))
theorem rdL_len (F : Option (List Int)) (l n : Nat) : (rdL F l n).length = n := by simp [rdL]
theorem rdL_at (F : Option (List Int)) (l n j : Nat) (hj : j < n) : (rdL F l n)[j]? = some (blkAt F (l + j)) := by simp [rdL, hj]
theorem rdL_ok {F : Option (List Int)} (hG : Good F) (l n : Nat) : ∀ b ∈ rdL F l n, b.ok := fun b hb => by
  simp only [rdL, List.mem_map] at hb
  obtain ⟨j, _, rfl⟩ := hb
  exact up_ok (bytesAt_ok (fun zs hz => (hG zs hz).1) (l + j)).1

set_option maxRecDepth 100000 in
set_option maxHeartbeats 1000000 in
theorem dread_ok (w : World) (B : Nat) (tag : Tags) (st : St) (f : ByteArray) (S D N l n : Nat) (k : Int) (ca : Bool) (c : Cm) (h : Dv w B tag st f S D N k ca) (hf1 : 1 ≤ f.size) (hf2 : f.size ≤ 32) (hN : N ≤ 4096) (hc : st.cnt < 500000000000) (hf : ∀ i, st.fails i = false) (hG : Good (st.seen f)) (h0 : 0 ≤ k) (h1 : k ≤ 255) (p0 : 0 ≤ c.pr) (p1 : c.pr ≤ 255) (hl : c.lba = (l : Nat)) (hbl : c.bl = (n : Nat)) (hin : l + n ≤ N) (hlk : lookS k c.pr l (rdL (st.seen f) l n) = noS) :
    Calls Try.prog 25 #[.pointer (some ⟨D, 0, none⟩), .agg c.vals] w fun e w' => ∃ g, e = .returned (.tuple #[.slice (some ⟨g, 0, none⟩) n n, .agg noS.vals]) ∧ Wd w' B tag (rdSt st n) ∧ Step w w' tag tag (fun _ => True) ∧ Bks w' (.slice (some ⟨g, 0, none⟩) n n) (rdL (st.seen f) l n) ∧ w.heap.size ≤ g ∧ g < w'.heap.size := by
  have hcm2 : ∀ (W : World) (b : Nat), Bx W b c.vals → W.cell? ⟨b, 2, none⟩ = some (.int .u64 c.lba) := fun W b h => (cm_at h).2.2.1
  have hcm3 : ∀ (W : World) (b : Nat), Bx W b c.vals → W.cell? ⟨b, 3, none⟩ = some (.int .u64 c.bl) := fun W b h => (cm_at h).2.2.2.1
  rw [hl] at hcm2
  rw [hbl] at hcm3
  have HK := fun W (h : Dv W B tag st f S D N k ca) => kread_any W B tag st S N l n f ca h.wd h.sto hf1 hf2 hN hc hf (fun zs hz => (hG zs hz).1) hin
  obtain ⟨bs, hbs⟩ : ∃ bs, bs = rdL (st.seen f) l n := ⟨_, rfl⟩
  have hbk : ∀ W g, Rw W tag g n n (fun j => upB (bytesAt (st.seen f) (l + j))) → Bks W (.slice (some ⟨g, 0, none⟩) n n) bs := fun W g hr => by
    rw [hbs]
    exact rw_bks hr (fun j hj => up_ok (bytesAt_ok (fun zs hz => (hG zs hz).1) (l + j)).1) (by unfold maxLen; omega)
  have hbn : bs.length = n := by rw [hbs]; exact rdL_len _ _ _
  have HL := fun W g (hD : Bx W D (devV S k)) (hv : Bks W (.slice (some ⟨g, 0, none⟩) n n) bs) => look_any D S l k c (some ⟨g, 0, none⟩) n n bs W hD h0 h1 p0 p1 hl (by omega) hv hbn
  rw [← hbs] at hlk ⊢
  simp only [hlk] at HL
  have HE := fun W => ended_any noS W
  rw [show (noS.key != 0) = false from rfl] at HE
  have hCs : c.vals.size = 15 := rfl
  obtain ⟨CV, hCV⟩ : ∃ CV, CV = c.vals := ⟨_, rfl⟩
  rw [← hCV] at hCs hcm2 hcm3 HL ⊢
  replace hcm2 := Kpt.mk hcm2
  replace hcm3 := Kpt.mk hcm3
  replace hCs := Kpt.mk hCs
  clear hCV
  have hDl := h.bx.lt
  have hwn := Kpt.mk (fun i (hi : w.heap.size ≤ i) => wd_none h.wd hi)
  have hSl := h.sto.lt
  replace h := Kpt.mk h
  have hD := Kpt.mk h.out.bx
  replace HK := Kpt.mk HK
  replace HL := Kpt.mk HL
  replace HE := Kpt.mk HE
  replace hbk := Kpt.mk hbk
  have en : IntKind.i64.wrap (n : Int) = n := by rw [IntKind.wrap_i64]; omega
  have el : IntKind.i64.wrap (l : Int) = l := by rw [IntKind.wrap_i64]; omega
  clear hbs hbn hlk hG hf  hl hbl
  go_enter Try.func25, Try.ntmps25
  go_wp2_with (first
      | (refine wpList_var rfl 32 rfl zeroS zeroSi ?_; intro br wr hrl hRr h_; replace hRr := Kpt.mk hRr; replace hC := Kpt.mk (hC.out.below h_ hC.out.lt); replace hD := Kpt.mk (hD.out.below h_ hD.out.lt); replace hb := Kpt.mk (hb.out.trans (h_.mono hb.out.size)); replace hrl : Kpt (w.heap.size ≤ br) := ⟨Nat.le_trans (hbs.out) hrl⟩; clear h_)
      | (refine wpList_box rfl 38 _ rfl CV rfl ?_; intro bc wC hcl hC hC_ _; replace hC := Kpt.mk hC; replace hD := Kpt.mk (hD.out.below hC_ hD.out.lt); have hb := Kpt.mk hC_; replace hcl := Kpt.mk hcl; clear hC_; have hbs := Kpt.mk hb.out.size; skip)
      | fail)
  have hDv := Kpt.mk (h.out.below hb.out)
  obtain ⟨d0, d1, dlt⟩ := dev_at hDv.out.bx
  have x2 := hcm2.out _ _ hC.out
  have x3 := hcm3.out _ _ hC.out
  have hclt := hC.out.lt
  have hrlt := hRr.out.lt
  have hrlt := hRr.out.lt
  refine wp_region_any (by kernel_rfl) ?_
  refine wpAny_of_C (C := fun W => W.cell? ⟨D, 0, none⟩ = some (.pointer (some ⟨S, 0, none⟩)) ∧ W.cell? ⟨bc, 2, none⟩ = some (.int .u64 l) ∧ W.cell? ⟨bc, 3, none⟩ = some (.int .u64 n) ∧ D < W.heap.size) _ _ _ _ ?_
  refine wpAnyC_take 0 (.pointer (some ⟨D, 0, none⟩)) rfl (by kernel_rfl) (by kernel_rfl) (by kernel_rfl) (fun _ _ _ h => h) (wanted_free rfl _) (fun W hW => by obtain ⟨q1, q2, q3, q4⟩ := hW; go_simp) ?_
  try simp only [Act.put, List.getElem_toArray, List.getElem_cons_succ, List.getElem_cons_zero, List.setIfInBounds_toArray, List.set_cons_succ, List.set_cons_zero]
  refine wpAnyC_take 1 (.pointer (some ⟨D, 0, none⟩)) rfl (by kernel_rfl) (by kernel_rfl) (by kernel_rfl) (fun _ _ _ h => h) (wanted_free rfl _) (fun W hW => by obtain ⟨q1, q2, q3, q4⟩ := hW; go_simp) ?_
  try simp only [Act.put, List.getElem_toArray, List.getElem_cons_succ, List.getElem_cons_zero, List.setIfInBounds_toArray, List.set_cons_succ, List.set_cons_zero]
  refine wpAnyC_take 2 (.pointer (some ⟨D, 0, none⟩)) rfl (by kernel_rfl) (by kernel_rfl) (by kernel_rfl) (fun _ _ _ h => h) (wanted_free rfl _) (fun W hW => by obtain ⟨q1, q2, q3, q4⟩ := hW; go_simp) ?_
  try simp only [Act.put, List.getElem_toArray, List.getElem_cons_succ, List.getElem_cons_zero, List.setIfInBounds_toArray, List.set_cons_succ, List.set_cons_zero]
  refine wpAnyC_take 3 (.pointer (some ⟨S, 0, none⟩)) rfl (by kernel_rfl) (by kernel_rfl) (by kernel_rfl) (fun _ _ _ h => h) (wanted_free rfl _) (fun W hW => by obtain ⟨q1, q2, q3, q4⟩ := hW; go_simp) ?_
  try simp only [Act.put, List.getElem_toArray, List.getElem_cons_succ, List.getElem_cons_zero, List.setIfInBounds_toArray, List.set_cons_succ, List.set_cons_zero]
  refine wpAnyC_take 4 (.pointer (some ⟨bc, 2, none⟩)) rfl (by kernel_rfl) (by kernel_rfl) (by kernel_rfl) (fun _ _ _ h => h) (wanted_free rfl _) (fun W hW => by obtain ⟨q1, q2, q3, q4⟩ := hW; go_simp) ?_
  try simp only [Act.put, List.getElem_toArray, List.getElem_cons_succ, List.getElem_cons_zero, List.setIfInBounds_toArray, List.set_cons_succ, List.set_cons_zero]
  refine wpAnyC_take 5 (.int .u64 l) rfl (by kernel_rfl) (by kernel_rfl) (by kernel_rfl) (fun _ _ _ h => h) (wanted_free rfl _) (fun W hW => by obtain ⟨q1, q2, q3, q4⟩ := hW; go_simp) ?_
  try simp only [Act.put, List.getElem_toArray, List.getElem_cons_succ, List.getElem_cons_zero, List.setIfInBounds_toArray, List.set_cons_succ, List.set_cons_zero]
  refine wpAnyC_take 6 (.int .i64 l) rfl (by kernel_rfl) (by kernel_rfl) (by kernel_rfl) (fun _ _ _ h => h) (wanted_free rfl _) (fun W hW => by obtain ⟨q1, q2, q3, q4⟩ := hW; go_simp) ?_
  try simp only [Act.put, List.getElem_toArray, List.getElem_cons_succ, List.getElem_cons_zero, List.setIfInBounds_toArray, List.set_cons_succ, List.set_cons_zero]
  refine wpAnyC_take 7 (.pointer (some ⟨bc, 3, none⟩)) rfl (by kernel_rfl) (by kernel_rfl) (by kernel_rfl) (fun _ _ _ h => h) (wanted_free rfl _) (fun W hW => by obtain ⟨q1, q2, q3, q4⟩ := hW; go_simp) ?_
  try simp only [Act.put, List.getElem_toArray, List.getElem_cons_succ, List.getElem_cons_zero, List.setIfInBounds_toArray, List.set_cons_succ, List.set_cons_zero]
  refine wpAnyC_take 8 (.int .u64 n) rfl (by kernel_rfl) (by kernel_rfl) (by kernel_rfl) (fun _ _ _ h => h) (wanted_free rfl _) (fun W hW => by obtain ⟨q1, q2, q3, q4⟩ := hW; go_simp) ?_
  try simp only [Act.put, List.getElem_toArray, List.getElem_cons_succ, List.getElem_cons_zero, List.setIfInBounds_toArray, List.set_cons_succ, List.set_cons_zero]
  refine wpAnyC_take 9 (.int .i64 n) rfl (by kernel_rfl) (by kernel_rfl) (by kernel_rfl) (fun _ _ _ h => h) (wanted_free rfl _) (fun W hW => by obtain ⟨q1, q2, q3, q4⟩ := hW; go_simp) ?_
  try simp only [Act.put, List.getElem_toArray, List.getElem_cons_succ, List.getElem_cons_zero, List.setIfInBounds_toArray, List.set_cons_succ, List.set_cons_zero]
  refine wpAnyC_one 10 (⟨d0, x2, x3, dlt⟩) rfl (by kernel_rfl) (wanted_free rfl _) (fun KA hKA => ?_)
  go_simp
  refine (HK.out _ (hDv.out.below (below_drew _))).mono ?_
  rintro e w3 ⟨g, rfl, hW3, s3, hR3, hg3⟩
  have s3' : Step wr w3 tag tag (fun _ => True) := (step_below (below_drew _) tag (fun _ => True)).trans s3
  have htc := hwn.out bc hcl.out
  have htr := hwn.out br hrl.out
  have hC3 := hC.out.step s3' htc
  have hD3 := hDv.out.bx.step s3' hDv.out.bare
  have hRr3 := hRr.out.step s3' htr
  have hbk3 := Kpt.mk (hbk.out _ _ hR3)
  have hgg : w.heap.size ≤ g := Nat.le_trans hb.out.size hg3
  refine hKA _ _ ?_
  clear hKA KA
  try simp only [Act.put, List.getElem_toArray, List.getElem_cons_succ, List.getElem_cons_zero, List.setIfInBounds_toArray, List.set_cons_succ, List.set_cons_zero]
  refine wpAnyC_take 11 (.tuple #[.slice (some ⟨g, 0, none⟩) n n, .int .i64 n, .int .i64 0]) rfl (by kernel_rfl) (by kernel_rfl) (by kernel_rfl) (fun _ _ _ h => h) (wanted_free rfl _) (fun W hW => by go_simp) ?_
  try simp only [Act.put, List.getElem_toArray, List.getElem_cons_succ, List.getElem_cons_zero, List.setIfInBounds_toArray, List.set_cons_succ, List.set_cons_zero]
  refine wpAnyC_take 12 (.slice (some ⟨g, 0, none⟩) n n) rfl (by kernel_rfl) (by kernel_rfl) (by kernel_rfl) (fun _ _ _ h => h) (wanted_free rfl _) (fun W hW => by go_simp) ?_
  try simp only [Act.put, List.getElem_toArray, List.getElem_cons_succ, List.getElem_cons_zero, List.setIfInBounds_toArray, List.set_cons_succ, List.set_cons_zero]
  refine wpAnyC_take 13 (.int .i64 n) rfl (by kernel_rfl) (by kernel_rfl) (by kernel_rfl) (fun _ _ _ h => h) (wanted_free rfl _) (fun W hW => by go_simp) ?_
  try simp only [Act.put, List.getElem_toArray, List.getElem_cons_succ, List.getElem_cons_zero, List.setIfInBounds_toArray, List.set_cons_succ, List.set_cons_zero]
  refine wpAnyC_take 14 (.int .i64 0) rfl (by kernel_rfl) (by kernel_rfl) (by kernel_rfl) (fun _ _ _ h => h) (wanted_free rfl _) (fun W hW => by go_simp) ?_
  try simp only [Act.put, List.getElem_toArray, List.getElem_cons_succ, List.getElem_cons_zero, List.setIfInBounds_toArray, List.set_cons_succ, List.set_cons_zero]
  refine wpAnyC_take 15 (.slice (some ⟨g, 0, none⟩) n n) rfl (by kernel_rfl) (by kernel_rfl) (by kernel_rfl) (fun _ _ _ h => h) (wanted_free rfl _) (fun W hW => by go_simp) ?_
  try simp only [Act.put, List.getElem_toArray, List.getElem_cons_succ, List.getElem_cons_zero, List.setIfInBounds_toArray, List.set_cons_succ, List.set_cons_zero]
  refine wpAnyC_take 16 (.int .i64 n) rfl (by kernel_rfl) (by kernel_rfl) (by kernel_rfl) (fun _ _ _ h => h) (wanted_free rfl _) (fun W hW => by go_simp) ?_
  try simp only [Act.put, List.getElem_toArray, List.getElem_cons_succ, List.getElem_cons_zero, List.setIfInBounds_toArray, List.set_cons_succ, List.set_cons_zero]
  refine wpAnyC_take 17 (.int .i64 0) rfl (by kernel_rfl) (by kernel_rfl) (by kernel_rfl) (fun _ _ _ h => h) (wanted_free rfl _) (fun W hW => by go_simp) ?_
  try simp only [Act.put, List.getElem_toArray, List.getElem_cons_succ, List.getElem_cons_zero, List.setIfInBounds_toArray, List.set_cons_succ, List.set_cons_zero]
  refine wpAnyC_done (⟨(dev_at hD3).1, hcm2.out _ _ hC3, hcm3.out _ _ hC3, hD3.lt⟩) (by kernel_rfl) ?_
  have hs := Kpt.mk ((step_below hb.out tag (fun _ => True)).trans s3')
  replace hC := Kpt.mk hC3
  replace hD := Kpt.mk hD3
  replace hRr := Kpt.mk hRr3
  replace hW3 := Kpt.mk hW3
  have hglt := hR3.lt
  have hgnc : bc < g ∧ br < g := ⟨Nat.lt_of_lt_of_le hclt hg3, Nat.lt_of_lt_of_le hrlt hg3⟩
  have m3 : Kpt True := ⟨trivial⟩
  clear x2 x3 d0 d1 dlt hDv hC3 hD3 hRr3 hR3 s3 s3' hb HK hbk
  go_wp2_with (first
      | (refine wpList_store_bx rfl 32 _ _ rfl br zeroS (noS).vals rfl rfl hRr.out rfl infoS (Sn.vals_one _) rfl ?_; intro w9 hB9 hg9; skip)
      | (go_at_call 22; go_must (refine (HE.out _).mono ?_; rintro e w6 ⟨rfl, h6⟩; have m6 : Kpt True := ⟨trivial⟩; have hgy6 : g < w6.heap.size := Nat.lt_of_lt_of_le (Nat.lt_trans hgy hRy.out.lt) h6.size; replace hbk3 := Kpt.mk (hbk3.out.below h6); replace hRr := Kpt.mk (hRr.out.below h6 hRr.out.lt); replace hRy := Kpt.mk (hRy.out.below h6 hRy.out.lt); replace hs := Kpt.mk (hs.out.trans (step_below h6 tag (fun _ => True))); replace hW3 := Kpt.mk (hW3.out.step (step_below h6 tag (fun _ => False))); skip))
      | (refine wpList_load_bx rfl 32 _ rfl by_ (noS).vals rfl hRy.out _ Try.underlying32 rfl infoS ?_)
      | (refine wpList_store_bx rfl 32 _ _ rfl by_ zeroS (noS).vals rfl rfl hRy.out rfl infoS (Sn.vals_one _) rfl ?_; intro w8 hB8 hg8; replace hRy := Kpt.mk hB8; replace hRr := Kpt.mk (hRr.out.grown hg8 (by simp; omega)); have hty := hwn.out by_ hyw; replace hs := Kpt.mk (hs.out.own hg8 hyw); replace hW3 := Kpt.mk (hW3.out.own hg8 hty); replace hbk3 := Kpt.mk (hbk3.out.step (tag := fun i => if i = by_ then some Tag.wd else none) (tag' := fun i => if i = by_ then some Tag.wd else none) (X := fun _ => True) (Step.turned hg8 _ (if_pos rfl) trivial) (fun g' o e => by cases e; exact if_neg (by omega))))
      | (have hm := m4; refine wpList_var rfl 32 rfl zeroS zeroSi ?_; intro by_ wy hyl hRy h_; replace hRy := Kpt.mk hRy; replace hRr := Kpt.mk (hRr.out.below h_ hRr.out.lt); replace hs := Kpt.mk (hs.out.trans (step_below h_ tag (fun _ => True))); have hyw : w.heap.size ≤ by_ := Nat.le_trans hsz4 hyl; have hgy : g < by_ := Nat.lt_of_lt_of_le hglt4 hyl; have hry : br < by_ := Nat.lt_of_lt_of_le hrlt4 hyl; replace hbk3 := Kpt.mk (hbk3.out.below h_); replace hW3 := Kpt.mk (hW3.out.step (step_below h_ tag (fun _ => False))); clear h_)
      | (go_at_call 37; go_must (refine (HL.out _ _ hD.out hbk3.out).mono ?_; rintro e w4 ⟨rfl, h4⟩; have m4 : Kpt True := ⟨trivial⟩; have hglt4 : g < w4.heap.size := Nat.lt_of_lt_of_le hglt h4.size; have hrlt4 : br < w4.heap.size := Nat.lt_of_lt_of_le hRr.out.lt h4.size; replace hbk3 := Kpt.mk (hbk3.out.below h4); replace hW3 := Kpt.mk (hW3.out.step (step_below h4 tag (fun _ => False))); replace hRr := Kpt.mk (hRr.out.below h4 hRr.out.lt); replace hs := Kpt.mk (hs.out.trans (step_below h4 tag (fun _ => True))); have hsz4 := hs.out.size; skip))
      | (refine wpList_load_bx rfl 38 _ rfl bc CV rfl hC.out _ Try.underlying38 rfl (by rw [hCs.out]; exact infoC) ?_)
      | fail)
  have htr' := hwn.out br hrl.out
  have hgfin := hgy6
  refine bodyPost_ret (v := .tuple #[.slice (some ⟨g, 0, none⟩) n n, .agg noS.vals]) (by simp [results, Try.results25, asAddr, Act.put, res_run hB9]) rfl ⟨g, rfl, hW3.out.own hg9 htr', hs.out.own hg9 hrl.out, ?_, hgg, Nat.lt_of_lt_of_le hgfin hg9.size⟩
  exact hbk3.out.step (tag := fun i => if i = br then some Tag.wd else none) (tag' := fun i => if i = br then some Tag.wd else none) (X := fun _ => True) (Step.turned hg9 _ (if_pos rfl) trivial) (fun g' o e => by cases e; exact if_neg (by omega))

end Go.Proofs.Ytklboieemljmiaa

namespace Go.Proofs.Ytklboieemljmiaa
open Go.RowKit
set_option linter.unusedVariables false
set_option linter.unusedSimpArgs false

/-- A run that began at w, with tags tag, stands at W. -/
structure Fx (w W : World) (B : Nat) (tag tag' : Tags) (st : St) (f : ByteArray) (S D N : Nat) (k : Int) (ca : Bool) : Prop where
  dv : Dv W B tag' st f S D N k ca
  st : Step w W tag tag' (fun _ => True)
/-- A box of its own. -/
structure Ow (w W : World) (tag' : Tags) (b : Nat) (cs : Array Value) : Prop where
  bx : Bx W b cs
  lo : w.heap.size ≤ b
  bare : tag' b = none
variable {w W W' : World} {B : Nat} {tag tag' tag2 : Tags} {st st2 : St} {f : ByteArray} {S D N : Nat} {k : Int} {ca : Bool} {b b2 : Nat} {cs cs2 : Array Value}
theorem Dv.fx (h : Dv w B tag st f S D N k ca) : Fx w w B tag tag st f S D N k ca := ⟨h, Step.refl _ _ _⟩
theorem Fx.below (h : Fx w W B tag tag' st f S D N k ca) (hb : Below W.heap.size W W') : Fx w W' B tag tag' st f S D N k ca := ⟨h.dv.below hb, h.st.trans (step_below hb tag' _)⟩
theorem Fx.call (h : Fx w W B tag tag' st f S D N k ca) (hW : Wd W' B tag2 st2) (s : Step W W' tag' tag2 (fun _ => True)) : Fx w W' B tag tag2 st2 f S D N k ca := ⟨h.dv.step s hW, h.st.trans s⟩
theorem Fx.own (h : Fx w W B tag tag' st f S D N k ca) (o : Ow w W tag' b cs) (hg : W.grownBy W' (some b)) (hS : S < w.heap.size) (hD : D < w.heap.size) : Fx w W' B tag tag' st f S D N k ca :=
  ⟨h.dv.own hg o.bare (by have := o.lo; omega) (by have := o.lo; omega), h.st.own hg o.lo⟩
theorem Fx.new (h : Fx w W B tag tag' st f S D N k ca) (hl : W.heap.size ≤ b) (hX : Bx W' b cs) : Ow w W' tag' b cs := ⟨hX, Nat.le_trans h.st.size hl, wd_none h.dv.wd hl⟩
theorem Ow.below (o : Ow w W tag' b cs) (hb : Below W.heap.size W W') : Ow w W' tag' b cs := ⟨o.bx.below hb o.bx.lt, o.lo, o.bare⟩
theorem Ow.call (o : Ow w W tag' b cs) {X : Tag → Prop} (s : Step W W' tag' tag2 X) : Ow w W' tag2 b cs := ⟨o.bx.step s o.bare, o.lo, s.bare b o.bx.lt o.bare⟩
theorem Ow.other (o : Ow w W tag' b cs) (hg : W.grownBy W' (some b2)) (hne : b2 ≠ b) : Ow w W' tag' b cs := ⟨o.bx.grown hg (by simpa using hne), o.lo, o.bare⟩
theorem Ow.set (o : Ow w W tag' b cs) (hX : Bx W' b cs2) : Ow w W' tag' b cs2 := ⟨hX, o.lo, o.bare⟩
/-- A row of blocks in a block of its own. -/
structure Rb (w W : World) (tag' : Tags) (g : Nat) (cs : Array Value) : Prop where
  row : W.heap[g]? = some (.cells cs 76 (0, 0))
  lo : w.heap.size ≤ g
  bare : tag' g = none
theorem Fx.row (h : Fx w W B tag tag' st f S D N k ca) (hl : W.heap.size ≤ b) (hX : W'.heap[b]? = some (.cells cs 76 (0, 0))) : Rb w W' tag' b cs := ⟨hX, Nat.le_trans h.st.size hl, wd_none h.dv.wd hl⟩
theorem Rb.below (o : Rb w W tag' b cs) (hb : Below W.heap.size W W') : Rb w W' tag' b cs := ⟨heap_keep o.row hb, o.lo, o.bare⟩
theorem Rb.call (o : Rb w W tag' b cs) {X : Tag → Prop} (s : Step W W' tag' tag2 X) : Rb w W' tag2 b cs := ⟨(s.block b (heap_lt o.row) (fun t _ e => by rw [o.bare] at e; cases e)).trans o.row, o.lo, s.bare b (heap_lt o.row) o.bare⟩
theorem Rb.other (o : Rb w W tag' b cs) (hg : W.grownBy W' (some b2)) (hne : b2 ≠ b) : Rb w W' tag' b cs := ⟨heap_grown o.row hg (fun e => hne e.symm), o.lo, o.bare⟩
theorem Rb.lt (o : Rb w W tag' b cs) : b < W.heap.size := heap_lt o.row
theorem Rb.bx_ne (o : Rb w W tag' b cs) (hb : b < b2) : b2 ≠ b := by omega
/-- A row of one's own has turned. -/
theorem Fx.turn (h : Fx w W B tag tag' st f S D N k ca) (o : Rb w W tag' b cs) (hg : W.grownBy W' (some b)) (hS : S < w.heap.size) (hD : D < w.heap.size) : Fx w W' B tag tag' st f S D N k ca :=
  ⟨h.dv.own hg o.bare (by have := o.lo; omega) (by have := o.lo; omega), h.st.own hg o.lo⟩
/-- Bytes that came in can still be read. -/
structure In (w W : World) (tag' : Tags) (v : Value) (zs : List Int) : Prop where
  rd : RdAt W v zs
  bare : ∀ g, v.ownBlock = some g → tag' g = none
end Go.Proofs.Ytklboieemljmiaa

namespace Go.Proofs.Ytklboieemljmiaa
open Go.RowKit
set_option linter.unusedVariables false
set_option linter.unusedSimpArgs false
theorem written_ok (l n : Int) (w : World) : Calls Try.prog 78 #[.int .u64 l, .int .i64 n, .int .i64 0] w fun e w' => e = .returned (.agg noS.vals) ∧ Below w.heap.size w w' := by
  go_enter Try.func78, Try.ntmps78
  go_wp2
  refine bodyPost_ret (v := .agg noS.vals) (by simp [results, Try.results78, go_sem, noS, Sn.vals]) rfl ⟨rfl, ?_⟩
  exact (Below.refl _ _).alloc (Nat.le_refl _) _
/-- The state behind a write. -/
def wrF (st : St) (f : ByteArray) (l : Nat) (bs : List Bk) (ca fua : Bool) : St := if settled ca fua bs.length then wrSt st f l bs bs.length else syncSt (wrSt st f l bs bs.length)
theorem Bks.own_lt {w : World} {a : Option Addr} {n cp : Nat} {bs : List Bk} (h : Bks w (.slice a n cp) bs) (h0 : 0 < n) : ∀ g, (Value.slice a n cp).ownBlock = some g → g < w.heap.size := fun g hg => by
  obtain ⟨a', c', e, _, h⟩ := h
  simp only [Value.slice.injEq] at e
  obtain ⟨e1, e2, e3⟩ := e
  obtain ⟨_, g', o', ha, hl, _⟩ := h 0 bs[0] (List.getElem?_eq_getElem (by omega))
  rw [e1, ha] at hg
  simp [Value.ownBlock] at hg
  omega

set_option maxRecDepth 100000 in
set_option maxHeartbeats 1000000 in
theorem dwrite_ok (w : World) (B : Nat) (tag : Tags) (st : St) (f : ByteArray) (S D N : Nat) (k : Int) (ca : Bool) (l n cp : Nat) (a : Option Addr) (fua : Bool) (c : Cm) (bs : List Bk) (h : Dv w B tag st f S D N k ca) (hf1 : 1 ≤ f.size) (hf2 : f.size ≤ 32) (hN : N ≤ 4096) (hc : st.cnt < 500000000000) (hcw : st.waits.length < 1000000) (hf : ∀ i, st.fails i = false) (hw : Wrs st.waits) (hl : c.lba = (l : Nat)) (hin : l + n ≤ N) (hn : bs.length = n) (hv : Bks w (.slice a n cp) bs) (htag : ∀ g, (Value.slice a n cp).ownBlock = some g → tag g = none) :
    Calls Try.prog 58 #[.pointer (some ⟨D, 0, none⟩), .agg c.vals, .slice a n cp, .bool fua] w fun e w' => e = .returned (.agg noS.vals) ∧ ∃ tag', Wd w' B tag' (wrF st f l bs ca fua) ∧ Step w w' tag tag' (fun _ => True) := by
  have hcm2 : ∀ (W : World) (b : Nat), Bx W b c.vals → W.cell? ⟨b, 2, none⟩ = some (.int .u64 c.lba) := fun W b h => (cm_at h).2.2.1
  rw [hl] at hcm2
  have HK := fun W (h : Dv W B tag st f S D N k ca) (hv : Bks W (.slice a n cp) bs) => kwrite_any W B tag st S N l f ca fua (.slice a n cp) bs h.wd h.sto hf1 hf2 hN hc hcw hf hw hv htag (by rw [hn]; exact hin)
  have HKw := HK
  simp only [hn] at HK
  obtain ⟨st2, hst2⟩ : ∃ s, s = wrF st f l bs ca fua := ⟨_, rfl⟩
  have hst2' : (if settled ca fua n then wrSt st f l bs n else syncSt (wrSt st f l bs n)) = st2 := by rw [hst2]; unfold wrF; rw [hn]
  rw [hst2'] at HK
  rw [← hst2]
  have HWn := Kpt.mk (fun W => written_ok l n W)
  have hCs : c.vals.size = 15 := rfl
  obtain ⟨CV, hCV⟩ : ∃ CV, CV = c.vals := ⟨_, rfl⟩
  rw [← hCV] at hCs hcm2  ⊢
  replace hcm2 := Kpt.mk hcm2
  replace hCs := Kpt.mk hCs
  clear hCV
  have hSl := h.sto.lt
  have hDl := h.bx.lt
  have F := Kpt.mk h.fx
  have hvb := fun W (hb : Below w.heap.size w W) => hv.below hb
  replace hvb := Kpt.mk hvb
  replace HK := Kpt.mk HK
  have el : IntKind.i64.wrap (l : Int) = l := by rw [IntKind.wrap_i64]; omega
  replace h := Kpt.mk h
  clear hst2 hst2' HKw hn hv htag hl hf hw
  go_enter Try.func58, Try.ntmps58
  go_wp2_with (first
      | (have hm := m1; refine wpList_var rfl 32 rfl zeroS zeroSi ?_; intro br w_r hl_ hX_ h_; have q_c_r : bc < br := Nat.lt_of_lt_of_le Oc.out.bx.lt hl_; have Or := Kpt.mk (F.out.new hl_ hX_); replace hbw_ := hbw_.trans (h_.mono hbw_.size); replace Oc := Kpt.mk (Oc.out.below h_); replace F := Kpt.mk (F.out.below h_); clear hl_ hX_ h_; clear hm m1; have m2 : Kpt True := ⟨trivial⟩)
      | (refine wpList_box rfl 38 _ rfl CV rfl ?_; intro bc w_c hl_ hX_ h_ _; have Oc := Kpt.mk (F.out.new hl_ hX_); have hbw_ := h_; replace F := Kpt.mk (F.out.below h_); clear hl_ hX_ h_; have m1 : Kpt True := ⟨trivial⟩)
      | (refine wpList_load_bx rfl 38 _ rfl bc CV rfl Oc.out.bx _ Try.underlying38 rfl (by rw [hCs.out]; exact infoC) ?_)
      | fail)
  have dd := dev_at F.out.dv.bx
  obtain ⟨d0, d1, dlt⟩ := dd
  have hbw : Kpt (Below w.heap.size w w_r) := ⟨hbw_⟩
  have x2 := hcm2.out _ _ Oc.out.bx
  refine wp_region_any (by kernel_rfl) ?_
  refine wpAny_of_C (C := fun W => W.cell? ⟨D, 0, none⟩ = some (.pointer (some ⟨S, 0, none⟩)) ∧ W.cell? ⟨bc, 2, none⟩ = some (.int .u64 l) ∧ D < W.heap.size) _ _ _ _ ?_
  refine wpAnyC_take 0 (.pointer (some ⟨D, 0, none⟩)) rfl (by kernel_rfl) (by kernel_rfl) (by kernel_rfl) (fun _ _ _ h => h) (wanted_free rfl _) (fun W hW => by obtain ⟨q1, q2, q4⟩ := hW; go_simp) ?_
  try simp only [Act.put, List.getElem_toArray, List.getElem_cons_succ, List.getElem_cons_zero, List.setIfInBounds_toArray, List.set_cons_succ, List.set_cons_zero]
  refine wpAnyC_take 1 (.pointer (some ⟨D, 0, none⟩)) rfl (by kernel_rfl) (by kernel_rfl) (by kernel_rfl) (fun _ _ _ h => h) (wanted_free rfl _) (fun W hW => by obtain ⟨q1, q2, q4⟩ := hW; go_simp) ?_
  try simp only [Act.put, List.getElem_toArray, List.getElem_cons_succ, List.getElem_cons_zero, List.setIfInBounds_toArray, List.set_cons_succ, List.set_cons_zero]
  refine wpAnyC_take 2 (.pointer (some ⟨D, 0, none⟩)) rfl (by kernel_rfl) (by kernel_rfl) (by kernel_rfl) (fun _ _ _ h => h) (wanted_free rfl _) (fun W hW => by obtain ⟨q1, q2, q4⟩ := hW; go_simp) ?_
  try simp only [Act.put, List.getElem_toArray, List.getElem_cons_succ, List.getElem_cons_zero, List.setIfInBounds_toArray, List.set_cons_succ, List.set_cons_zero]
  refine wpAnyC_take 3 (.pointer (some ⟨S, 0, none⟩)) rfl (by kernel_rfl) (by kernel_rfl) (by kernel_rfl) (fun _ _ _ h => h) (wanted_free rfl _) (fun W hW => by obtain ⟨q1, q2, q4⟩ := hW; go_simp) ?_
  try simp only [Act.put, List.getElem_toArray, List.getElem_cons_succ, List.getElem_cons_zero, List.setIfInBounds_toArray, List.set_cons_succ, List.set_cons_zero]
  refine wpAnyC_take 4 (.pointer (some ⟨bc, 2, none⟩)) rfl (by kernel_rfl) (by kernel_rfl) (by kernel_rfl) (fun _ _ _ h => h) (wanted_free rfl _) (fun W hW => by obtain ⟨q1, q2, q4⟩ := hW; go_simp) ?_
  try simp only [Act.put, List.getElem_toArray, List.getElem_cons_succ, List.getElem_cons_zero, List.setIfInBounds_toArray, List.set_cons_succ, List.set_cons_zero]
  refine wpAnyC_take 5 (.int .u64 l) rfl (by kernel_rfl) (by kernel_rfl) (by kernel_rfl) (fun _ _ _ h => h) (wanted_free rfl _) (fun W hW => by obtain ⟨q1, q2, q4⟩ := hW; go_simp) ?_
  try simp only [Act.put, List.getElem_toArray, List.getElem_cons_succ, List.getElem_cons_zero, List.setIfInBounds_toArray, List.set_cons_succ, List.set_cons_zero]
  refine wpAnyC_take 6 (.int .i64 l) rfl (by kernel_rfl) (by kernel_rfl) (by kernel_rfl) (fun _ _ _ h => h) (wanted_free rfl _) (fun W hW => by obtain ⟨q1, q2, q4⟩ := hW; go_simp) ?_
  try simp only [Act.put, List.getElem_toArray, List.getElem_cons_succ, List.getElem_cons_zero, List.setIfInBounds_toArray, List.set_cons_succ, List.set_cons_zero]
  refine wpAnyC_take 7 (.slice a n cp) rfl (by kernel_rfl) (by kernel_rfl) (by kernel_rfl) (fun _ _ _ h => h) (wanted_free rfl _) (fun W hW => by obtain ⟨q1, q2, q4⟩ := hW; go_simp) ?_
  try simp only [Act.put, List.getElem_toArray, List.getElem_cons_succ, List.getElem_cons_zero, List.setIfInBounds_toArray, List.set_cons_succ, List.set_cons_zero]
  refine wpAnyC_take 8 (.bool fua) rfl (by kernel_rfl) (by kernel_rfl) (by kernel_rfl) (fun _ _ _ h => h) (wanted_free rfl _) (fun W hW => by obtain ⟨q1, q2, q4⟩ := hW; go_simp) ?_
  try simp only [Act.put, List.getElem_toArray, List.getElem_cons_succ, List.getElem_cons_zero, List.setIfInBounds_toArray, List.set_cons_succ, List.set_cons_zero]
  refine wpAnyC_one 9 (⟨d0, x2, dlt⟩) rfl (by kernel_rfl) (wanted_free rfl _) (fun KA hKA => ?_)
  go_simp
  refine (HK.out _ (F.out.dv.below (below_drew _)) (hvb.out _ (hbw.out.trans ((below_drew _).mono hbw.out.size)))).mono ?_
  rintro e w3 ⟨rfl, tag3, hW_, s3⟩
  have s_ : Step w_r w3 tag tag3 (fun _ => True) := (step_below (below_drew _) tag (fun _ => True)).trans s3
  replace Oc := Kpt.mk (Oc.out.call s_)
  replace Or := Kpt.mk (Or.out.call s_)
  replace F := Kpt.mk (F.out.call hW_ s_)
  refine hKA _ _ ?_
  clear hKA KA
  try simp only [Act.put, List.getElem_toArray, List.getElem_cons_succ, List.getElem_cons_zero, List.setIfInBounds_toArray, List.set_cons_succ, List.set_cons_zero]
  refine wpAnyC_take 10 (.tuple #[.int .i64 n, .int .i64 0]) rfl (by kernel_rfl) (by kernel_rfl) (by kernel_rfl) (fun _ _ _ h => h) (wanted_free rfl _) (fun W hW => by go_simp) ?_
  try simp only [Act.put, List.getElem_toArray, List.getElem_cons_succ, List.getElem_cons_zero, List.setIfInBounds_toArray, List.set_cons_succ, List.set_cons_zero]
  refine wpAnyC_take 11 (.int .i64 n) rfl (by kernel_rfl) (by kernel_rfl) (by kernel_rfl) (fun _ _ _ h => h) (wanted_free rfl _) (fun W hW => by go_simp) ?_
  try simp only [Act.put, List.getElem_toArray, List.getElem_cons_succ, List.getElem_cons_zero, List.setIfInBounds_toArray, List.set_cons_succ, List.set_cons_zero]
  refine wpAnyC_take 12 (.int .i64 0) rfl (by kernel_rfl) (by kernel_rfl) (by kernel_rfl) (fun _ _ _ h => h) (wanted_free rfl _) (fun W hW => by go_simp) ?_
  try simp only [Act.put, List.getElem_toArray, List.getElem_cons_succ, List.getElem_cons_zero, List.setIfInBounds_toArray, List.set_cons_succ, List.set_cons_zero]
  refine wpAnyC_take 13 (.int .i64 n) rfl (by kernel_rfl) (by kernel_rfl) (by kernel_rfl) (fun _ _ _ h => h) (wanted_free rfl _) (fun W hW => by go_simp) ?_
  try simp only [Act.put, List.getElem_toArray, List.getElem_cons_succ, List.getElem_cons_zero, List.setIfInBounds_toArray, List.set_cons_succ, List.set_cons_zero]
  refine wpAnyC_take 14 (.int .i64 0) rfl (by kernel_rfl) (by kernel_rfl) (by kernel_rfl) (fun _ _ _ h => h) (wanted_free rfl _) (fun W hW => by go_simp) ?_
  try simp only [Act.put, List.getElem_toArray, List.getElem_cons_succ, List.getElem_cons_zero, List.setIfInBounds_toArray, List.set_cons_succ, List.set_cons_zero]
  refine wpAnyC_done (⟨(dev_at F.out.dv.bx).1, hcm2.out _ _ Oc.out.bx, (dev_at F.out.dv.bx).2.2⟩) (by kernel_rfl) ?_
  clear hW_ s_ s3 d0 d1 dlt
  replace x2 := hcm2.out _ _ Oc.out.bx
  go_wp2_with (first
      | (have hm := m3; refine wpList_store_bx rfl 32 _ _ rfl br _ (noS).vals rfl rfl Or.out.bx rfl infoS (Sn.vals_one _) rfl ?_; intro w4 hX_ hg_; replace Oc := Kpt.mk (Oc.out.other hg_ (by omega)); replace F := Kpt.mk (F.out.own Or.out hg_ hSl hDl); replace Or := Kpt.mk (Or.out.set hX_); replace x2 := hcm2.out _ _ Oc.out.bx; clear hX_ hg_; clear hm m3; have m4 : Kpt True := ⟨trivial⟩)
      | (go_at_call 78; have hm := m2; go_must (refine (HWn.out _).mono ?_; rintro e w4 ⟨rfl, h_⟩; replace Oc := Kpt.mk (Oc.out.below h_); replace Or := Kpt.mk (Or.out.below h_); replace F := Kpt.mk (F.out.below h_); replace x2 := hcm2.out _ _ Oc.out.bx; clear h_; clear hm m2; have m3 : Kpt True := ⟨trivial⟩))
      | (refine wpList_load_bx rfl 38 _ rfl bc CV rfl Oc.out.bx _ Try.underlying38 rfl (by rw [hCs.out]; exact infoC) ?_)
      | (refine wpList_load_bx rfl 32 _ rfl br (noS).vals rfl Or.out.bx _ Try.underlying32 rfl infoS ?_)
      | fail)
  refine bodyPost_ret (v := .agg noS.vals) (by simp [results, Try.results58, asAddr, Act.put, res_run Or.out.bx]) rfl ⟨rfl, _, F.out.dv.wd, F.out.st⟩

end Go.Proofs.Ytklboieemljmiaa

namespace Go.Proofs.Ytklboieemljmiaa
open Go.RowKit
set_option linter.unusedVariables false
set_option linter.unusedSimpArgs false
set_option maxRecDepth 100000 in
set_option maxHeartbeats 1000000 in
theorem take_0 (w : World) (B : Nat) (tag : Tags) (st : St) (f : ByteArray) (S D N : Nat) (k : Int) (ca : Bool) (l m n cp : Nat) (a : Option Addr) (zs : List Int) (fua : Bool) (c : Cm) (h : Dv w B tag st f S D N k ca) (hf1 : 1 ≤ f.size) (hf2 : f.size ≤ 32) (hN : N ≤ 4096) (hc : st.cnt < 500000000000) (hcw : st.waits.length < 1000000) (hf : ∀ i, st.fails i = false) (hw : Wrs st.waits) (h0 : 0 ≤ k) (h1 : k ≤ 255) (hl : c.lba = (l : Nat)) (hbl : c.bl = (m : Nat)) (hin : l + m ≤ N) (hr : RdAt w (.slice a n cp) zs) (hlz : zs.length = n) (hby : Bytes zs) (hm : n = m * 16) (hpr : c.pr = 0) :
    Calls Try.prog 43 #[.pointer (some ⟨D, 0, none⟩), .agg c.vals, .slice a n cp, .bool fua] w fun e w' => e = .returned (.agg (noS).vals) ∧ ∃ tag', Wd w' B tag' (wrF st f l (prL k l (unBs false zs m)) ca fua) ∧ Step w w' tag tag' (fun _ => True) := by
  have hcm3 : ∀ (W : World) (b : Nat), Bx W b c.vals → W.cell? ⟨b, 3, none⟩ = some (.int .u64 c.bl) := fun W b h => (cm_at h).2.2.2.1
  rw [hbl] at hcm3
  have HC := fun W (hb : Below w.heap.size w W) (hD : Bx W D (devV S k)) => come_0 D S l k c a n cp m zs W hD h0 h1 hl (by omega) (rd_below hr hb) hlz hby hpr hm
  have hbo : ∀ b ∈ prL k l (unBs false zs m), b.ok := prL_ok k l _ (unBs_ok false zs m hby (by rw [hlz, hm]; rfl))
  have hbn : (prL k l (unBs false zs m)).length = m := by rw [prL_len]; exact unBs_len _ _ _
  have em : IntKind.i64.wrap (m : Int) = m := by rw [IntKind.wrap_i64]; omega
  have HE := fun W => ended_any noS W
  simp only [show (noS.key != 0) = false from rfl] at HE
  obtain ⟨bs, hbs⟩ : ∃ bs, bs = prL k l (unBs false zs m) := ⟨_, rfl⟩
  rw [← hbs] at HC hbo hbn ⊢
  have HW := fun W g (h : Dv W B tag st f S D N k ca) (hg : W.heap[g]? = some (.cells (flat bs).toArray 76 (0, 0))) (ht : tag g = none) => dwrite_ok W B tag st f S D N k ca l m m (some ⟨g, 0, none⟩) fua c bs h hf1 hf2 hN hc hcw hf hw hl hin hbn (bks_row hg hbo m m hbn (by unfold maxLen; omega)) (fun g' hg' => by simp [Value.ownBlock] at hg'; rw [← hg']; exact ht)
  obtain ⟨st2, hst2⟩ : ∃ s, s = wrF st f l bs ca fua := ⟨_, rfl⟩
  rw [← hst2] at HW ⊢
  have hCs : c.vals.size = 15 := rfl
  obtain ⟨CV, hCV⟩ : ∃ CV, CV = c.vals := ⟨_, rfl⟩
  rw [← hCV] at hCs hcm3 HC HW ⊢
  replace hcm3 := Kpt.mk hcm3
  replace hCs := Kpt.mk hCs
  clear hCV
  have hSl := h.sto.lt
  have hDl := h.bx.lt
  have F := Kpt.mk h.fx
  have hb := Kpt.mk (Below.refl w.heap.size w)
  replace HC := Kpt.mk HC
  replace HE := Kpt.mk HE
  replace HW := Kpt.mk HW
  replace h := Kpt.mk h
  replace hm := Kpt.mk hm
  clear hbo hbn hr hlz hl hbl hf hw hpr hbs hst2
  go_enter Try.func43, Try.ntmps43
  go_wp2_with (first
      | (have hm := m7; refine wpList_store_bx rfl 32 _ _ rfl br _ (noS).vals rfl rfl Or.out.bx rfl infoS (Sn.vals_one _) rfl ?_; intro w8 hX_ hg_; replace Oc := Kpt.mk (Oc.out.other hg_ (by omega)); replace Ov := Kpt.mk (Ov.out.other hg_ (by omega)); replace Rg := Kpt.mk (Rg.out.other hg_ (by omega)); replace F := Kpt.mk (F.out.own Or.out hg_ hSl hDl); replace Or := Kpt.mk (Or.out.set hX_); replace x3 := hcm3.out _ _ Oc.out.bx; clear hX_ hg_; clear hm m7; have m8 : Kpt True := ⟨trivial⟩)
      | (go_at_call 58; have hm := m6; go_must (refine (HW.out _ _ F.out.dv Rg.out.row Rg.out.bare).mono ?_; rintro e w5 ⟨rfl, tag5, hW_, s_⟩; replace Oc := Kpt.mk (Oc.out.call s_); replace Or := Kpt.mk (Or.out.call s_); replace Ov := Kpt.mk (Ov.out.call s_); replace Rg := Kpt.mk (Rg.out.call s_); replace F := Kpt.mk (F.out.call hW_ s_); replace x3 := hcm3.out _ _ Oc.out.bx; clear hW_ s_; clear hm m6; have m7 : Kpt True := ⟨trivial⟩))
      | (go_at_call 22; have hm := m5; go_must (refine (HE.out _).mono ?_; rintro e w4 ⟨rfl, h_⟩; replace Oc := Kpt.mk (Oc.out.below h_); replace Or := Kpt.mk (Or.out.below h_); replace Ov := Kpt.mk (Ov.out.below h_); replace Rg := Kpt.mk (Rg.out.below h_); replace F := Kpt.mk (F.out.below h_); replace x3 := hcm3.out _ _ Oc.out.bx; replace hb := Kpt.mk (hb.out.trans (h_.mono hb.out.size)); clear h_; clear hm m5; have m6 : Kpt True := ⟨trivial⟩))
      | (have hm := m4; refine wpList_store_bx rfl 32 _ _ rfl bv _ (noS).vals rfl rfl Ov.out.bx rfl infoS (Sn.vals_one _) rfl ?_; intro w5 hX_ hg_; replace hb := Kpt.mk (hb.out.trans (Below.ofGrown hg_ hb.out.size Ov.out.lo)); replace Oc := Kpt.mk (Oc.out.other hg_ (by omega)); replace Or := Kpt.mk (Or.out.other hg_ (by omega)); replace Rg := Kpt.mk (Rg.out.other hg_ (by omega)); replace F := Kpt.mk (F.out.own Ov.out hg_ hSl hDl); replace Ov := Kpt.mk (Ov.out.set hX_); replace x3 := hcm3.out _ _ Oc.out.bx; clear hX_ hg_; clear hm m4; have m5 : Kpt True := ⟨trivial⟩)
      | (have hm := m3; refine wpList_var rfl 32 rfl zeroS zeroSi ?_; intro bv w_v hl_ hX_ h_; have q_c_v : bc < bv := Nat.lt_of_lt_of_le Oc.out.bx.lt hl_; have q_r_v : br < bv := Nat.lt_of_lt_of_le Or.out.bx.lt hl_; have q_g_v : gg < bv := Nat.lt_of_lt_of_le Rg.out.lt hl_; have Ov := Kpt.mk (F.out.new hl_ hX_); replace Oc := Kpt.mk (Oc.out.below h_); replace Or := Kpt.mk (Or.out.below h_); replace Rg := Kpt.mk (Rg.out.below h_); replace F := Kpt.mk (F.out.below h_); replace x3 := hcm3.out _ _ Oc.out.bx; replace hb := Kpt.mk (hb.out.trans (h_.mono hb.out.size)); clear hl_ hX_ h_; clear hm m3; have m4 : Kpt True := ⟨trivial⟩)
      | (go_at_call 57; have hm := m2; go_must (refine (HC.out _ hb.out F.out.dv.bx).mono ?_; rintro e w3 ⟨gg, rfl, hr_, hgl_, h_⟩; have q_c_g : bc < gg := Nat.lt_of_lt_of_le Oc.out.bx.lt hgl_; have q_r_g : br < gg := Nat.lt_of_lt_of_le Or.out.bx.lt hgl_; have Rg := Kpt.mk (F.out.row hgl_ hr_); replace Oc := Kpt.mk (Oc.out.below h_); replace Or := Kpt.mk (Or.out.below h_); replace F := Kpt.mk (F.out.below h_); replace x3 := hcm3.out _ _ Oc.out.bx; replace hb := Kpt.mk (hb.out.trans (h_.mono hb.out.size)); clear h_; clear hgl_ hr_; clear hm m2; have m3 : Kpt True := ⟨trivial⟩))
      | (have hm := m1; refine wpList_var rfl 32 rfl zeroS zeroSi ?_; intro br w_r hl_ hX_ h_; have q_c_r : bc < br := Nat.lt_of_lt_of_le Oc.out.bx.lt hl_; have Or := Kpt.mk (F.out.new hl_ hX_); replace Oc := Kpt.mk (Oc.out.below h_); replace F := Kpt.mk (F.out.below h_); replace x3 := hcm3.out _ _ Oc.out.bx; replace hb := Kpt.mk (hb.out.trans (h_.mono hb.out.size)); clear hl_ hX_ h_; clear hm m1; have m2 : Kpt True := ⟨trivial⟩)
      | (refine wpList_box rfl 38 _ rfl CV rfl ?_; intro bc w_c hl_ hX_ h_ _; have Oc := Kpt.mk (F.out.new hl_ hX_); replace F := Kpt.mk (F.out.below h_); replace hb := Kpt.mk (hb.out.trans (h_.mono hb.out.size)); have x3 := hcm3.out _ _ Oc.out.bx; clear hl_ hX_ h_; have m1 : Kpt True := ⟨trivial⟩)
      | (refine wpList_load_bx rfl 38 _ rfl bc CV rfl Oc.out.bx _ Try.underlying38 rfl (by rw [hCs.out]; exact infoC) ?_)
      | (refine wpList_load_bx rfl 32 _ rfl bv (noS).vals rfl Ov.out.bx _ Try.underlying32 rfl infoS ?_)
      | fail)
  refine bodyPost_ret (v := .agg (noS).vals) (by simp [results, Try.results43, asAddr, Act.put, res_run Or.out.bx]) rfl ⟨rfl, _, F.out.dv.wd, F.out.st⟩

set_option maxRecDepth 100000 in
set_option maxHeartbeats 1000000 in
theorem take_t (w : World) (B : Nat) (tag : Tags) (st : St) (f : ByteArray) (S D N : Nat) (k : Int) (ca : Bool) (l m n cp : Nat) (a : Option Addr) (zs : List Int) (fua : Bool) (c : Cm) (h : Dv w B tag st f S D N k ca) (hf1 : 1 ≤ f.size) (hf2 : f.size ≤ 32) (hN : N ≤ 4096) (hc : st.cnt < 500000000000) (hcw : st.waits.length < 1000000) (hf : ∀ i, st.fails i = false) (hw : Wrs st.waits) (h0 : 0 ≤ k) (h1 : k ≤ 255) (hl : c.lba = (l : Nat)) (hbl : c.bl = (m : Nat)) (hin : l + m ≤ N) (hr : RdAt w (.slice a n cp) zs) (hlz : zs.length = n) (hby : Bytes zs) (hm : n = m * 24) (p0 : 0 ≤ c.pr) (p1 : c.pr ≤ 255) (hpr : c.pr ≠ 0) (hlk : lookS k c.pr l (unBs true zs m) = noS) :
    Calls Try.prog 43 #[.pointer (some ⟨D, 0, none⟩), .agg c.vals, .slice a n cp, .bool fua] w fun e w' => e = .returned (.agg (noS).vals) ∧ ∃ tag', Wd w' B tag' (wrF st f l (unBs true zs m) ca fua) ∧ Step w w' tag tag' (fun _ => True) := by
  have hcm3 : ∀ (W : World) (b : Nat), Bx W b c.vals → W.cell? ⟨b, 3, none⟩ = some (.int .u64 c.bl) := fun W b h => (cm_at h).2.2.2.1
  rw [hbl] at hcm3
  have HC := fun W (hb : Below w.heap.size w W) (hD : Bx W D (devV S k)) => come_t D S l k c a n cp m zs W hD h0 h1 hl (by omega) (rd_below hr hb) hlz hby p0 p1 hpr hm
  have hbo : ∀ b ∈ unBs true zs m, b.ok := unBs_ok true zs m hby (by rw [hlz, hm]; rfl)
  have hbn : (unBs true zs m).length = m := by exact unBs_len _ _ _
  have em : IntKind.i64.wrap (m : Int) = m := by rw [IntKind.wrap_i64]; omega
  simp only [hlk] at HC
  have HE := fun W => ended_any noS W
  simp only [show (noS.key != 0) = false from rfl] at HE
  obtain ⟨bs, hbs⟩ : ∃ bs, bs = unBs true zs m := ⟨_, rfl⟩
  rw [← hbs] at HC hbo hbn ⊢
  have HW := fun W g (h : Dv W B tag st f S D N k ca) (hg : W.heap[g]? = some (.cells (flat bs).toArray 76 (0, 0))) (ht : tag g = none) => dwrite_ok W B tag st f S D N k ca l m m (some ⟨g, 0, none⟩) fua c bs h hf1 hf2 hN hc hcw hf hw hl hin hbn (bks_row hg hbo m m hbn (by unfold maxLen; omega)) (fun g' hg' => by simp [Value.ownBlock] at hg'; rw [← hg']; exact ht)
  obtain ⟨st2, hst2⟩ : ∃ s, s = wrF st f l bs ca fua := ⟨_, rfl⟩
  rw [← hst2] at HW ⊢
  have hCs : c.vals.size = 15 := rfl
  obtain ⟨CV, hCV⟩ : ∃ CV, CV = c.vals := ⟨_, rfl⟩
  rw [← hCV] at hCs hcm3 HC HW ⊢
  replace hcm3 := Kpt.mk hcm3
  replace hCs := Kpt.mk hCs
  clear hCV
  have hSl := h.sto.lt
  have hDl := h.bx.lt
  have F := Kpt.mk h.fx
  have hb := Kpt.mk (Below.refl w.heap.size w)
  replace HC := Kpt.mk HC
  replace HE := Kpt.mk HE
  replace HW := Kpt.mk HW
  replace h := Kpt.mk h
  replace hm := Kpt.mk hm
  clear hbo hbn hr hlz hl hbl hf hw hpr hbs hst2 hlk
  go_enter Try.func43, Try.ntmps43
  go_wp2_with (first
      | (have hm := m7; refine wpList_store_bx rfl 32 _ _ rfl br _ (noS).vals rfl rfl Or.out.bx rfl infoS (Sn.vals_one _) rfl ?_; intro w8 hX_ hg_; replace Oc := Kpt.mk (Oc.out.other hg_ (by omega)); replace Ov := Kpt.mk (Ov.out.other hg_ (by omega)); replace Rg := Kpt.mk (Rg.out.other hg_ (by omega)); replace F := Kpt.mk (F.out.own Or.out hg_ hSl hDl); replace Or := Kpt.mk (Or.out.set hX_); replace x3 := hcm3.out _ _ Oc.out.bx; clear hX_ hg_; clear hm m7; have m8 : Kpt True := ⟨trivial⟩)
      | (go_at_call 58; have hm := m6; go_must (refine (HW.out _ _ F.out.dv Rg.out.row Rg.out.bare).mono ?_; rintro e w5 ⟨rfl, tag5, hW_, s_⟩; replace Oc := Kpt.mk (Oc.out.call s_); replace Or := Kpt.mk (Or.out.call s_); replace Ov := Kpt.mk (Ov.out.call s_); replace Rg := Kpt.mk (Rg.out.call s_); replace F := Kpt.mk (F.out.call hW_ s_); replace x3 := hcm3.out _ _ Oc.out.bx; clear hW_ s_; clear hm m6; have m7 : Kpt True := ⟨trivial⟩))
      | (go_at_call 22; have hm := m5; go_must (refine (HE.out _).mono ?_; rintro e w4 ⟨rfl, h_⟩; replace Oc := Kpt.mk (Oc.out.below h_); replace Or := Kpt.mk (Or.out.below h_); replace Ov := Kpt.mk (Ov.out.below h_); replace Rg := Kpt.mk (Rg.out.below h_); replace F := Kpt.mk (F.out.below h_); replace x3 := hcm3.out _ _ Oc.out.bx; replace hb := Kpt.mk (hb.out.trans (h_.mono hb.out.size)); clear h_; clear hm m5; have m6 : Kpt True := ⟨trivial⟩))
      | (have hm := m4; refine wpList_store_bx rfl 32 _ _ rfl bv _ (noS).vals rfl rfl Ov.out.bx rfl infoS (Sn.vals_one _) rfl ?_; intro w5 hX_ hg_; replace hb := Kpt.mk (hb.out.trans (Below.ofGrown hg_ hb.out.size Ov.out.lo)); replace Oc := Kpt.mk (Oc.out.other hg_ (by omega)); replace Or := Kpt.mk (Or.out.other hg_ (by omega)); replace Rg := Kpt.mk (Rg.out.other hg_ (by omega)); replace F := Kpt.mk (F.out.own Ov.out hg_ hSl hDl); replace Ov := Kpt.mk (Ov.out.set hX_); replace x3 := hcm3.out _ _ Oc.out.bx; clear hX_ hg_; clear hm m4; have m5 : Kpt True := ⟨trivial⟩)
      | (have hm := m3; refine wpList_var rfl 32 rfl zeroS zeroSi ?_; intro bv w_v hl_ hX_ h_; have q_c_v : bc < bv := Nat.lt_of_lt_of_le Oc.out.bx.lt hl_; have q_r_v : br < bv := Nat.lt_of_lt_of_le Or.out.bx.lt hl_; have q_g_v : gg < bv := Nat.lt_of_lt_of_le Rg.out.lt hl_; have Ov := Kpt.mk (F.out.new hl_ hX_); replace Oc := Kpt.mk (Oc.out.below h_); replace Or := Kpt.mk (Or.out.below h_); replace Rg := Kpt.mk (Rg.out.below h_); replace F := Kpt.mk (F.out.below h_); replace x3 := hcm3.out _ _ Oc.out.bx; replace hb := Kpt.mk (hb.out.trans (h_.mono hb.out.size)); clear hl_ hX_ h_; clear hm m3; have m4 : Kpt True := ⟨trivial⟩)
      | (go_at_call 57; have hm := m2; go_must (refine (HC.out _ hb.out F.out.dv.bx).mono ?_; rintro e w3 ⟨gg, rfl, hr_, hgl_, h_⟩; have q_c_g : bc < gg := Nat.lt_of_lt_of_le Oc.out.bx.lt hgl_; have q_r_g : br < gg := Nat.lt_of_lt_of_le Or.out.bx.lt hgl_; have Rg := Kpt.mk (F.out.row hgl_ hr_); replace Oc := Kpt.mk (Oc.out.below h_); replace Or := Kpt.mk (Or.out.below h_); replace F := Kpt.mk (F.out.below h_); replace x3 := hcm3.out _ _ Oc.out.bx; replace hb := Kpt.mk (hb.out.trans (h_.mono hb.out.size)); clear h_; clear hgl_ hr_; clear hm m2; have m3 : Kpt True := ⟨trivial⟩))
      | (have hm := m1; refine wpList_var rfl 32 rfl zeroS zeroSi ?_; intro br w_r hl_ hX_ h_; have q_c_r : bc < br := Nat.lt_of_lt_of_le Oc.out.bx.lt hl_; have Or := Kpt.mk (F.out.new hl_ hX_); replace Oc := Kpt.mk (Oc.out.below h_); replace F := Kpt.mk (F.out.below h_); replace x3 := hcm3.out _ _ Oc.out.bx; replace hb := Kpt.mk (hb.out.trans (h_.mono hb.out.size)); clear hl_ hX_ h_; clear hm m1; have m2 : Kpt True := ⟨trivial⟩)
      | (refine wpList_box rfl 38 _ rfl CV rfl ?_; intro bc w_c hl_ hX_ h_ _; have Oc := Kpt.mk (F.out.new hl_ hX_); replace F := Kpt.mk (F.out.below h_); replace hb := Kpt.mk (hb.out.trans (h_.mono hb.out.size)); have x3 := hcm3.out _ _ Oc.out.bx; clear hl_ hX_ h_; have m1 : Kpt True := ⟨trivial⟩)
      | (refine wpList_load_bx rfl 38 _ rfl bc CV rfl Oc.out.bx _ Try.underlying38 rfl (by rw [hCs.out]; exact infoC) ?_)
      | (refine wpList_load_bx rfl 32 _ rfl bv (noS).vals rfl Ov.out.bx _ Try.underlying32 rfl infoS ?_)
      | fail)
  refine bodyPost_ret (v := .agg (noS).vals) (by simp [results, Try.results43, asAddr, Act.put, res_run Or.out.bx]) rfl ⟨rfl, _, F.out.dv.wd, F.out.st⟩

set_option maxRecDepth 100000 in
set_option maxHeartbeats 1000000 in
theorem take_bad (w : World) (B : Nat) (tag : Tags) (st : St) (f : ByteArray) (S D N : Nat) (k : Int) (ca : Bool) (l m n cp : Nat) (a : Option Addr) (zs : List Int) (fua : Bool) (c : Cm) (h : Dv w B tag st f S D N k ca) (hf1 : 1 ≤ f.size) (hf2 : f.size ≤ 32) (hN : N ≤ 4096) (hc : st.cnt < 500000000000) (hcw : st.waits.length < 1000000) (hf : ∀ i, st.fails i = false) (hw : Wrs st.waits) (h0 : 0 ≤ k) (h1 : k ≤ 255) (hl : c.lba = (l : Nat)) (hbl : c.bl = (m : Nat)) (hin : l + m ≤ N) (hr : RdAt w (.slice a n cp) zs) (hlz : zs.length = n) (hby : Bytes zs) (hm : n = m * 24) (p0 : 0 ≤ c.pr) (p1 : c.pr ≤ 255) (hpr : c.pr ≠ 0) (hlk : (lookS k c.pr l (unBs true zs m)).key ≠ 0) :
    Calls Try.prog 43 #[.pointer (some ⟨D, 0, none⟩), .agg c.vals, .slice a n cp, .bool fua] w fun e w' => e = .returned (.agg (lookS k c.pr l (unBs true zs m)).vals) ∧ ∃ tag', Wd w' B tag' (st) ∧ Step w w' tag tag' (fun _ => True) := by
  have hcm3 : ∀ (W : World) (b : Nat), Bx W b c.vals → W.cell? ⟨b, 3, none⟩ = some (.int .u64 c.bl) := fun W b h => (cm_at h).2.2.2.1
  rw [hbl] at hcm3
  have HC := fun W (hb : Below w.heap.size w W) (hD : Bx W D (devV S k)) => come_t D S l k c a n cp m zs W hD h0 h1 hl (by omega) (rd_below hr hb) hlz hby p0 p1 hpr hm
  have hbo : ∀ b ∈ unBs true zs m, b.ok := unBs_ok true zs m hby (by rw [hlz, hm]; rfl)
  have hbn : (unBs true zs m).length = m := by exact unBs_len _ _ _
  have em : IntKind.i64.wrap (m : Int) = m := by rw [IntKind.wrap_i64]; omega
  obtain ⟨s, hs⟩ : ∃ s, s = lookS k c.pr l (unBs true zs m) := ⟨_, rfl⟩
  rw [← hs] at HC hlk ⊢
  have HE := fun W => ended_any s W
  simp only [show (s.key != 0) = true from by simpa using hlk] at HE
  have hCs : c.vals.size = 15 := rfl
  obtain ⟨CV, hCV⟩ : ∃ CV, CV = c.vals := ⟨_, rfl⟩
  rw [← hCV] at hCs hcm3 HC ⊢
  replace hcm3 := Kpt.mk hcm3
  replace hCs := Kpt.mk hCs
  clear hCV
  have hSl := h.sto.lt
  have hDl := h.bx.lt
  have F := Kpt.mk h.fx
  have hb := Kpt.mk (Below.refl w.heap.size w)
  replace HC := Kpt.mk HC
  replace HE := Kpt.mk HE
  replace h := Kpt.mk h
  replace hm := Kpt.mk hm
  clear hbo hbn hr hlz hl hbl hf hw hpr hlk hs
  go_enter Try.func43, Try.ntmps43
  go_wp2_with (first
      | (have hm := m6; refine wpList_store_bx rfl 32 _ _ rfl br _ (s).vals rfl rfl Or.out.bx rfl infoS (Sn.vals_one _) rfl ?_; intro w7 hX_ hg_; replace hb := Kpt.mk (hb.out.trans (Below.ofGrown hg_ hb.out.size Or.out.lo)); replace Oc := Kpt.mk (Oc.out.other hg_ (by omega)); replace Ov := Kpt.mk (Ov.out.other hg_ (by omega)); replace Rg := Kpt.mk (Rg.out.other hg_ (by omega)); replace F := Kpt.mk (F.out.own Or.out hg_ hSl hDl); replace Or := Kpt.mk (Or.out.set hX_); replace x3 := hcm3.out _ _ Oc.out.bx; clear hX_ hg_; clear hm m6; have m7 : Kpt True := ⟨trivial⟩)
      | (go_at_call 22; have hm := m5; go_must (refine (HE.out _).mono ?_; rintro e w4 ⟨rfl, h_⟩; replace Oc := Kpt.mk (Oc.out.below h_); replace Or := Kpt.mk (Or.out.below h_); replace Ov := Kpt.mk (Ov.out.below h_); replace Rg := Kpt.mk (Rg.out.below h_); replace F := Kpt.mk (F.out.below h_); replace x3 := hcm3.out _ _ Oc.out.bx; replace hb := Kpt.mk (hb.out.trans (h_.mono hb.out.size)); clear h_; clear hm m5; have m6 : Kpt True := ⟨trivial⟩))
      | (have hm := m4; refine wpList_store_bx rfl 32 _ _ rfl bv _ (s).vals rfl rfl Ov.out.bx rfl infoS (Sn.vals_one _) rfl ?_; intro w5 hX_ hg_; replace hb := Kpt.mk (hb.out.trans (Below.ofGrown hg_ hb.out.size Ov.out.lo)); replace Oc := Kpt.mk (Oc.out.other hg_ (by omega)); replace Or := Kpt.mk (Or.out.other hg_ (by omega)); replace Rg := Kpt.mk (Rg.out.other hg_ (by omega)); replace F := Kpt.mk (F.out.own Ov.out hg_ hSl hDl); replace Ov := Kpt.mk (Ov.out.set hX_); replace x3 := hcm3.out _ _ Oc.out.bx; clear hX_ hg_; clear hm m4; have m5 : Kpt True := ⟨trivial⟩)
      | (have hm := m3; refine wpList_var rfl 32 rfl zeroS zeroSi ?_; intro bv w_v hl_ hX_ h_; have q_c_v : bc < bv := Nat.lt_of_lt_of_le Oc.out.bx.lt hl_; have q_r_v : br < bv := Nat.lt_of_lt_of_le Or.out.bx.lt hl_; have q_g_v : gg < bv := Nat.lt_of_lt_of_le Rg.out.lt hl_; have Ov := Kpt.mk (F.out.new hl_ hX_); replace Oc := Kpt.mk (Oc.out.below h_); replace Or := Kpt.mk (Or.out.below h_); replace Rg := Kpt.mk (Rg.out.below h_); replace F := Kpt.mk (F.out.below h_); replace x3 := hcm3.out _ _ Oc.out.bx; replace hb := Kpt.mk (hb.out.trans (h_.mono hb.out.size)); clear hl_ hX_ h_; clear hm m3; have m4 : Kpt True := ⟨trivial⟩)
      | (go_at_call 57; have hm := m2; go_must (refine (HC.out _ hb.out F.out.dv.bx).mono ?_; rintro e w3 ⟨gg, rfl, hr_, hgl_, h_⟩; have q_c_g : bc < gg := Nat.lt_of_lt_of_le Oc.out.bx.lt hgl_; have q_r_g : br < gg := Nat.lt_of_lt_of_le Or.out.bx.lt hgl_; have Rg := Kpt.mk (F.out.row hgl_ hr_); replace Oc := Kpt.mk (Oc.out.below h_); replace Or := Kpt.mk (Or.out.below h_); replace F := Kpt.mk (F.out.below h_); replace x3 := hcm3.out _ _ Oc.out.bx; replace hb := Kpt.mk (hb.out.trans (h_.mono hb.out.size)); clear h_; clear hgl_ hr_; clear hm m2; have m3 : Kpt True := ⟨trivial⟩))
      | (have hm := m1; refine wpList_var rfl 32 rfl zeroS zeroSi ?_; intro br w_r hl_ hX_ h_; have q_c_r : bc < br := Nat.lt_of_lt_of_le Oc.out.bx.lt hl_; have Or := Kpt.mk (F.out.new hl_ hX_); replace Oc := Kpt.mk (Oc.out.below h_); replace F := Kpt.mk (F.out.below h_); replace x3 := hcm3.out _ _ Oc.out.bx; replace hb := Kpt.mk (hb.out.trans (h_.mono hb.out.size)); clear hl_ hX_ h_; clear hm m1; have m2 : Kpt True := ⟨trivial⟩)
      | (refine wpList_box rfl 38 _ rfl CV rfl ?_; intro bc w_c hl_ hX_ h_ _; have Oc := Kpt.mk (F.out.new hl_ hX_); replace F := Kpt.mk (F.out.below h_); replace hb := Kpt.mk (hb.out.trans (h_.mono hb.out.size)); have x3 := hcm3.out _ _ Oc.out.bx; clear hl_ hX_ h_; have m1 : Kpt True := ⟨trivial⟩)
      | (refine wpList_load_bx rfl 38 _ rfl bc CV rfl Oc.out.bx _ Try.underlying38 rfl (by rw [hCs.out]; exact infoC) ?_)
      | (refine wpList_load_bx rfl 32 _ rfl bv (s).vals rfl Ov.out.bx _ Try.underlying32 rfl infoS ?_)
      | fail)
  refine bodyPost_ret (v := .agg (s).vals) (by simp [results, Try.results43, asAddr, Act.put, res_run Or.out.bx]) rfl ⟨rfl, _, F.out.dv.wd, F.out.st⟩

end Go.Proofs.Ytklboieemljmiaa
