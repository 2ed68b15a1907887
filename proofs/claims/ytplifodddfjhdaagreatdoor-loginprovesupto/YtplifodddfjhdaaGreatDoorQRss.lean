/-
  The contract of the document's sum of bytes.
-/
import Derived.Test.YtplifodddfjhdaaGreatDoorMgA
namespace Go.Proofs.YtplifodddfjhdaaGreatDoor
open Go.RowKit
set_option linter.unusedVariables false
set_option linter.unusedSimpArgs false

/-- append of bytes that can be read onto a row of one's own, whatever it is. -/
theorem wpList_append_gen {w : World} {ops : Array Oper} {rest : List Oper} {o : Oper} {a : Act} {Q : Exit → Act → World → Prop} (hgd : o.guard = none) (d s : Operand)
    (ho : o.op = .call { callee := .builtin .append, args := #[d, s], argTypes := #[26, 26] })
    (base : Nat) (v sv : Value) (zs ds : List Int) (m : Nat) (hd : a.eval d = v) (hs : a.eval s = sv) (hown : w.ownsRow base 5 1 v m (cels zs)) (hrd : RdAt w sv ds) (hm : zs.length = m) (hlen : m + ds.length ≤ 140737488355328) (hb : base ≤ w.heap.size)
    (h : ∀ v' w', Kpt (w'.ownsRow base 5 1 v' (m + ds.length) (cels (zs ++ ds))) → Kpt (w.grownBy w' v.ownBlock) → wpList Tryz.prog ops Q rest (a.put o.dst v') w') : wpList Tryz.prog ops Q (o :: rest) a w := by
  subst hm
  obtain ⟨i0, hi0, hz0, hz1, hz2⟩ := info_parts Tryz.info5
  obtain ⟨sa, sc, rfl, hsn, hsl, hsr⟩ := hrd
  cases sa with
  | none =>
    obtain ⟨e1, rfl⟩ := hsn rfl
    obtain rfl : ds = [] := List.eq_nil_of_length_eq_zero e1
    refine wpList_append_own_none hgd d s 26 ho base 5 i0 1 Tryz.underlying26 hi0 v zs.length (cels zs) hd hown hs ?_
    exact h v w ⟨by simpa using hown⟩ ⟨rfl, rfl, rfl, Nat.le_refl _, fun _ _ _ => rfl⟩
  | some x =>
    have hcell : ∀ j u, (cels ds)[j]? = some u → w.cell? (x.add j) = some u := fun j u hu => by
      rcases hsr with h1 | ⟨b, soff, e, hc⟩
      · rw [List.getElem?_eq_none (by simp; omega)] at hu; cases hu
      · cases e; rw [Go.WideShapes.add_plain]; exact hc j u hu
    refine wpList_append_own _ hgd d s 26 ho base 5 i0 (.int .u8 0) 1 1 Tryz.underlying26 hi0 hz0 hz1 hz2 rfl (by decide) v zs.length (cels zs) hd hown x ds.length sc (cels ds) hs (by simp) hcell (cels_one _) (by unfold maxLen; omega) (by omega) hb ?_
    intro v1 w1 hown1 hg1 _
    exact h v1 w1 ⟨by rw [cels_append]; exact hown1⟩ ⟨hg1⟩

def tV : Array Value := (tL.map fun t : Nat => Value.int .i64 (t : Int)).toArray
theorem tV_at (j : Nat) (hj : j < 16) : tV[j]? = some (.int .i64 (tL.getD j 0 : Nat)) := by
  have hl : j < tL.length := by have : tL.length = 16 := rfl; omega
  simp [tV, List.getD_eq_getElem?_getD, List.getElem?_eq_getElem hl]

/-- What the document's sum has laid. -/
structure Rx (w W : World) (BH BT GK g NB cap : Nat) (Q : List Int) (h : Q4) : Prop where
  num : Bx W BH (q4v h)
  trn : Bx W BT tV
  con : Bx W GK (kV 64)
  row : W.ownsRow w.heap.size 5 1 (.slice (some ⟨g, 0, none⟩) (64 * NB) cap) (64 * NB) (cels Q)
  bel : Below w.heap.size w W
theorem Rx.drewN {w W : World} {BH BT GK g NB cap : Nat} {Q : List Int} {h : Q4} (x : Rx w W BH BT GK g NB cap Q h) (k : Nat) : Rx w (W.drewN k) BH BT GK g NB cap Q h :=
  ⟨x.num.drewN k, x.trn.drewN k, x.con.drewN k, own_of_block x.row (fun _ _ => rfl), below_drewN x.bel k⟩
theorem Rx.cell {w W : World} {BH BT GK g NB cap : Nat} {Q : List Int} {h : Q4} (x : Rx w W BH BT GK g NB cap Q h) (j : Nat) (hj : j < 64 * NB) : W.cell? ⟨g, j, none⟩ = some (.int .u8 (Q.getD j 0)) := by
  have := (rd_cells (own_rd x.row)).2 j hj
  rwa [Nat.zero_add] at this

theorem Rx.turn {w W : World} {BH BT GK g NB cap : Nat} {Q : List Int} {h h' : Q4} (x : Rx w W BH BT GK g NB cap Q h) (hne : g < BH ∧ BH < BT ∧ BT < GK ∧ w.heap.size ≤ BH) :
    Rx w ((((W.setCell ⟨BH, 0, none⟩ (.int .u32 (h'.a : Int))).setCell ⟨BH, 1, none⟩ (.int .u32 (h'.b : Int))).setCell ⟨BH, 2, none⟩ (.int .u32 (h'.c : Int))).setCell ⟨BH, 3, none⟩ (.int .u32 (h'.d : Int))) BH BT GK g NB cap Q h' := by
  have g1 := grown_setCellK W ⟨BH, 0, none⟩ (.int .u32 (h'.a : Int))
  have g2 := grown_two g1 (grown_setCellK _ ⟨BH, 1, none⟩ (.int .u32 (h'.b : Int)))
  have g3 := grown_two g2 (grown_setCellK _ ⟨BH, 2, none⟩ (.int .u32 (h'.c : Int)))
  have g4 := grown_two g3 (grown_setCellK _ ⟨BH, 3, none⟩ (.int .u32 (h'.d : Int)))
  have s1 := bx_setCell (.int .u32 (h'.a : Int)) x.num (j := 0) (by simp [q4v])
  have s2 := bx_setCell (.int .u32 (h'.b : Int)) s1 (j := 1) (by simp [q4v])
  have s3 := bx_setCell (.int .u32 (h'.c : Int)) s2 (j := 2) (by simp [q4v])
  have s4 := bx_setCell (.int .u32 (h'.d : Int)) s3 (j := 3) (by simp [q4v])
  refine ⟨by simpa [q4v] using s4, x.trn.grown g4 (by simp; omega), x.con.grown g4 (by simp; omega), own_of_block x.row (fun j e => ?_), x.bel.grown g4 x.bel.size (fun k e => by cases e; exact hne.2.2.2)⟩
  simp [Value.ownBlock] at e
  subst e
  exact g4.block _ (World.ownsRow.lt x.row _ rfl).2 (by simp; omega)
def mpN (y0 y1 y2 y3 : Nat) : Nat → Nat
  | 0 => 0
  | 1 => y3
  | 2 => y3 * 256 + y2
  | 3 => (y3 * 256 + y2) * 256 + y1
  | _ => ((y3 * 256 + y2) * 256 + y1) * 256 + y0

def lnOf : Value → Nat
  | .slice _ l _ => l
  | _ => 0

set_option maxRecDepth 100000 in
set_option maxHeartbeats 8000000 in
theorem rsum_any (a : Option Addr) (n c : Nat) (zs : List Int) (w : World) (hr : RdAt w (.slice a n c) zs) (hb : Bytes zs) (hm : n ≤ 140737488351232) :
    Calls Tryz.prog 26 #[.slice a n c] w fun e w' => ∃ g cap, e = .returned (.slice (some ⟨g, 0, none⟩) 16 cap) ∧ w'.ownsRow w.heap.size 5 1 (.slice (some ⟨g, 0, none⟩) 16 cap) 16 (cels (sumL zs)) ∧ Below w.heap.size w w' := by
  have hlen : n = zs.length := by obtain ⟨a', c', e, _⟩ := hr; simp only [Value.slice.injEq] at e; exact e.2.1
  replace hr := Kpt.mk hr
  replace hb := Kpt.mk hb
  replace hlen := Kpt.mk hlen
  go_enter Tryz.func26, Tryz.ntmps26
  go_wp2_with (first
    | (refine (?_ : wpList _ _ _ (Oper.mk (some 30) _ _ _ _ _ :: _) _ _); have hm := m2; go_must (refine wpList_append_new rfl (.tmp 28) (.tmp 29) rfl w.heap.size v1 (.slice (some ⟨g2, 0, none⟩) 1 1) zs [128] n (n + 1) rfl rfl ho1b.out (own_rd ho2.out) (by simp) hlen.out.symm (by simp) (by omega) (by have := hb12.out.size; omega) ?_; intro g3 cap3 w3 ho3 hg3 hgr3; have hb3 : Kpt (Below w.heap.size w w3) := ⟨hb12.out.grown hgr3.out hb12.out.size (fun j e => (World.ownsRow.lt ho1b.out j e).1)⟩; clear hgr3 ho1b ho2 hb12 hm m2))
    | (refine (?_ : wpList _ _ _ (Oper.mk (some 29) _ _ _ _ _ :: _) _ _); have hm := m1; go_must (refine wpList_built rfl 1 [128] (by kernel_rfl) rfl (by decide) ?_; intro g2 w2 hg2 ho2 hbe2; have ho1b : Kpt (w2.ownsRow w.heap.size 5 1 v1 n (cels zs)) := ⟨own_of_block ho1.out (fun j e => hbe2.block j (World.ownsRow.lt ho1.out j e).2)⟩; have hb12 : Kpt (Below w.heap.size w w2) := ⟨hb1.out.trans (hbe2.mono hb1.out.size)⟩; replace ho2 := Kpt.mk ho2; clear hbe2 hg2 ho1 hb1 hm m1; have m2 : Kpt True := ⟨trivial⟩))
    | (refine (?_ : wpList _ _ _ (Oper.mk (some 27) _ _ _ _ _ :: _) _ _); go_must (refine wpList_append_gen rfl (.tmp 25) (.tmp 26) rfl w.heap.size (.slice none 0 0) (.slice a n c) [] zs 0 rfl rfl (World.ownsRow_nil w w.heap.size 5 1) hr.out rfl (by have := hlen.out; omega) (Nat.le_refl _) ?_; intro v1 w1 ho1 hg1; replace ho1 : Kpt (w1.ownsRow w.heap.size 5 1 v1 n (cels zs)) := ⟨by have := ho1.out; rwa [Nat.zero_add, ← hlen.out, List.nil_append] at this⟩; have hb1 : Kpt (Below w.heap.size w w1) := ⟨(Below.refl _ w).grown hg1.out (Nat.le_refl _) (fun j e => by cases e)⟩; clear hg1; have m1 : Kpt True := ⟨trivial⟩)))
  obtain ⟨Z, hZ⟩ : ∃ Z, Z = (119 - n % 64) % 64 := ⟨_, rfl⟩
  have hZ64 : Z < 64 := by omega
  go_loopw [3] (fun x wr => ∃ j g cap : Nat, j ≤ Z ∧ x = .slice (some ⟨g, 0, none⟩) (n + 1 + j) cap ∧ Kpt (wr.ownsRow w.heap.size 5 1 (.slice (some ⟨g, 0, none⟩) (n + 1 + j) cap) (n + 1 + j) (cels (zs ++ 128 :: List.replicate j 0))) ∧ Kpt (Below w.heap.size w wr)) (fun x _ => Z + n + 1 - lnOf x)
  case atStart => exact ⟨0, g3, cap3, by omega, rfl, ho3, hb3⟩
  case round =>
    obtain ⟨j, g, cap, hj, rfl, ho, hbe⟩ := hrel
    clear ho3 hb3 hg3
    by_cases hlt : j < Z
    · have hne : ¬ ((n : Int) + 1 + j) % 64 = 56 := by omega
      have hZk := Kpt.mk hZ
      clear hZ
      go_wp2_with (first
        | (refine (?_ : wpList _ _ _ (Oper.mk (some 37) _ _ _ _ _ :: _) _ _); go_must (refine wpList_append_new rfl (.tmp 35) (.tmp 36) rfl w.heap.size (.slice (some ⟨g, 0, none⟩) (n + 1 + j) cap) (.slice (some ⟨g4, 0, none⟩) 1 1) (zs ++ 128 :: List.replicate j 0) [0] (n + 1 + j) (n + 1 + (j + 1)) rfl rfl ho4b.out (own_rd ho4.out) (by simp) (by simp; have := hlen.out; omega) (by simp; omega) (by omega) (by have := hb4.out.size; omega) ?_; intro g5 cap5 w5 ho5 hg5 hgr5; have hb5 : Kpt (Below w.heap.size w w5) := ⟨hb4.out.grown hgr5.out hb4.out.size (fun q e => (World.ownsRow.lt ho4b.out q e).1)⟩; clear hgr5 ho4b ho4 hb4))
        | (refine (?_ : wpList _ _ _ (Oper.mk (some 36) _ _ _ _ _ :: _) _ _); go_must (refine wpList_built rfl 1 [0] (by kernel_rfl) rfl (by decide) ?_; intro g4 w4 hg4 ho4 hbe4; have ho4b : Kpt (w4.ownsRow w.heap.size 5 1 (.slice (some ⟨g, 0, none⟩) (n + 1 + j) cap) (n + 1 + j) (cels (zs ++ 128 :: List.replicate j 0))) := ⟨own_of_block ho.out (fun q e => hbe4.block q (World.ownsRow.lt ho.out q e).2)⟩; have hb4 : Kpt (Below w.heap.size w w4) := ⟨hbe.out.trans (hbe4.mono hbe.out.size)⟩; replace ho4 := Kpt.mk ho4; clear hbe4 hg4)))
      go_roundw
      case rel =>
        refine ⟨j + 1, g5, cap5, by omega, rfl, ⟨?_⟩, hb5⟩
        have h5 := ho5.out
        rw [List.append_assoc, List.cons_append, ← List.replicate_succ'] at h5
        exact h5
      case measure => simp [lnOf]; omega
    · obtain rfl : j = Z := by omega
      have hZk := Kpt.mk hZ
      have heq : ((n : Int) + 1 + j) % 64 = 56 := by omega
      clear hZ
      go_wp2
      clear heq hlt hj
      have hPl : (zs ++ 128 :: List.replicate j (0 : Int)).length = n + 1 + j := by simp; have := hlen.out; omega
      obtain ⟨P, hP⟩ : ∃ P, zs ++ 128 :: List.replicate j (0 : Int) = P := ⟨_, rfl⟩
      rw [hP] at ho hPl
      replace hP := Kpt.mk hP
      replace hPl := Kpt.mk hPl
      obtain ⟨V, hV⟩ : ∃ V, n * 8 = V := ⟨_, rfl⟩
      have hVi : (n : Int) * 8 = (V : Int) := by omega
      have hVlt : V < 18446744073709551616 := by omega
      rw [hVi]
      replace hV := Kpt.mk hV
      clear hVi
      go_loopw [3, 4, 5] (fun x y t wr => ∃ i g cap : Nat, i ≤ 8 ∧ x = .slice (some ⟨g, 0, none⟩) (n + 1 + j + i) cap ∧ y = .int .u64 ((V / 2 ^ (8 * i) : Nat) : Int) ∧ t = .int .i64 i ∧ Kpt (wr.ownsRow w.heap.size 5 1 (.slice (some ⟨g, 0, none⟩) (n + 1 + j + i) cap) (n + 1 + j + i) (cels (P ++ lowL V i))) ∧ Kpt (Below w.heap.size w wr)) (fun _ _ t _ => 8 - (intOf t).toNat)
      case atStart => exact ⟨0, g, cap, by omega, rfl, by simp, rfl, ⟨by simpa [lowL] using ho.out⟩, hbe⟩
      case round =>
        obtain ⟨i, g, cap, hi, rfl, rfl, rfl, ho, hbe⟩ := hrel
        by_cases hlt : i < 8
        · have hq : V / 2 ^ (8 * i) < 18446744073709551616 := Nat.lt_of_le_of_lt (Nat.div_le_self _ _) hVlt
          have hqs : Kpt (V / 2 ^ (8 * (i + 1)) = V / 2 ^ (8 * i) / 256) := ⟨by rw [Nat.div_div_eq_div_mul, show 8 * (i + 1) = 8 * i + 8 by omega, Nat.pow_add]⟩
          have hql : Kpt (lowL V (i + 1) = lowL V i ++ [((V / 2 ^ (8 * i) % 256 : Nat) : Int)]) := ⟨rfl⟩
          generalize V / 2 ^ (8 * i) = q at hq hqs hql ⊢
          go_wp2_with (first
            | (refine (?_ : wpList _ _ _ (Oper.mk (some 50) _ _ _ _ _ :: _) _ _); go_must (refine wpList_append_new rfl (.tmp 46) (.tmp 49) rfl w.heap.size (.slice (some ⟨g, 0, none⟩) (n + 1 + j + i) cap) (.slice (some ⟨g4, 0, none⟩) 1 1) (P ++ lowL V i) [(q : Int) % 256] (n + 1 + j + i) (n + 1 + j + (i + 1)) rfl rfl ho4b.out (own_rd ho4.out) (by simp) (by rw [List.length_append, lowL_length, hPl.out]) (by simp; omega) (by omega) (by have := hb4.out.size; omega) ?_; intro g5 cap5 w5 ho5 hg5 hgr5; have hb5 : Kpt (Below w.heap.size w w5) := ⟨hb4.out.grown hgr5.out hb4.out.size (fun z e => (World.ownsRow.lt ho4b.out z e).1)⟩; clear hgr5 ho4b ho4 hb4))
            | (refine (?_ : wpList _ _ _ (Oper.mk (some 49) _ _ _ _ _ :: _) _ _); go_must (refine wpList_built rfl 1 [(q : Int) % 256] (by kernel_rfl) rfl (by decide) ?_; intro g4 w4 hg4 ho4 hbe4; have ho4b : Kpt (w4.ownsRow w.heap.size 5 1 (.slice (some ⟨g, 0, none⟩) (n + 1 + j + i) cap) (n + 1 + j + i) (cels (P ++ lowL V i))) := ⟨own_of_block ho.out (fun z e => hbe4.block z (World.ownsRow.lt ho.out z e).2)⟩; have hb4 : Kpt (Below w.heap.size w w4) := ⟨hbe.out.trans (hbe4.mono hbe.out.size)⟩; replace ho4 := Kpt.mk ho4; clear hbe4 hg4)))
          go_roundw
          case rel =>
            refine ⟨i + 1, g5, cap5, by omega, rfl, by rw [hqs.out]; simp, by simp, ⟨?_⟩, hb5⟩
            have h5 := ho5.out
            rw [hql.out, ← List.append_assoc]
            exact h5
          case measure => simp [intOf]; omega
        · obtain rfl : i = 8 := by omega
          clear hi hlt
          have hQ : Kpt (P ++ lowL V 8 = zs ++ padL (n % 64) n) := ⟨by rw [← hP.out, ← hV.out, padL, hZk.out, Nat.mod_eq_of_lt (show n * 8 < 18446744073709551616 by omega)]; simp⟩
          have hL : n + 1 + j + 8 = 64 * ((n + 72) / 64) := by have := hZk.out; omega
          obtain ⟨QQ, hQQ⟩ : ∃ QQ, P ++ lowL V 8 = QQ := ⟨_, rfl⟩
          obtain ⟨NB, hNB⟩ : ∃ NB, (n + 72) / 64 = NB := ⟨_, rfl⟩
          rw [hQQ] at ho hQ
          rw [hNB] at hL
          rw [hL] at ho ⊢
          replace hNB := Kpt.mk hNB
          clear hQQ
          have hNBm : 64 * NB ≤ 140737488355328 := by omega
          clear hL
          rw [show ((8 : Nat) : Int) = 8 from rfl]
          go_wp2_with (first
            | (go_at_call 35; have hmm := m7; go_must (refine (rconst_any _).mono ?_; rintro e w8 ⟨gk, rfl, hXk, hgk, hb78⟩; replace hXk := Kpt.mk hXk; replace hgk := Kpt.mk hgk; have hb8 : Kpt (Below w.heap.size w w8) := ⟨hb7.out.trans (hb78.mono hb7.out.size)⟩; have hXt8 : Kpt (Bx w8 w6.heap.size tV) := ⟨hXt.out.below hb78 hXt.out.lt⟩; have hXh8 : Kpt (Bx w8 wr.heap.size (q4v h0N)) := ⟨hXh7.out.below hb78 hXh7.out.lt⟩; have hoq8 : Kpt (w8.ownsRow w.heap.size 5 1 (.slice (some ⟨g, 0, none⟩) (64 * NB) cap) (64 * NB) (cels QQ)) := ⟨own_of_block hoq7.out (fun z e => hb78.block z (World.ownsRow.lt hoq7.out z e).2)⟩; have hsz8 : Kpt (wr.heap.size < w6.heap.size ∧ w6.heap.size < w7.heap.size ∧ w7.heap.size ≤ w8.heap.size) := ⟨hXh.out.lt, hXt.out.lt, hb78.size⟩; clear hb78 hXt hXh hXh7 hoq7 hoq6 hb6 hb7 hmm m7))
            | (refine (?_ : wpList _ _ _ (Oper.mk (some 54) _ _ _ _ _ :: _) _ _); have hmm := m6; go_must (refine wpList_of_exec (v := .slice (some ⟨w6.heap.size, 0, none⟩) 16 16) (w1 := w6.alloc (.cells tV 3)) rfl (by kernel_rfl) ?_; obtain ⟨w7, hw7⟩ : ∃ w7, w6.alloc (.cells tV 3) = w7 := ⟨_, rfl⟩; have hXt : Kpt (Bx w7 w6.heap.size tV) := ⟨by rw [← hw7]; exact bx_new w6 tV 3⟩; have hXh7 : Kpt (Bx w7 wr.heap.size (q4v h0N)) := ⟨by rw [← hw7]; exact hXh.out.alloc _⟩; have hb67 : Below w6.heap.size w6 w7 := by { rw [← hw7]; exact (Below.refl _ w6).alloc (Nat.le_refl _) _ }; have hb7 : Kpt (Below w.heap.size w w7) := ⟨hb6.out.trans (hb67.mono hb6.out.size)⟩; have hoq7 : Kpt (w7.ownsRow w.heap.size 5 1 (.slice (some ⟨g, 0, none⟩) (64 * NB) cap) (64 * NB) (cels QQ)) := ⟨own_of_block hoq6.out (fun z e => hb67.block z (World.ownsRow.lt hoq6.out z e).2)⟩; rw [hw7]; clear hw7 hb67 hmm m6; have m7 : Kpt True := ⟨trivial⟩))
            | (refine (?_ : wpList _ _ _ (Oper.mk (some 53) _ _ _ _ _ :: _) _ _); go_must (refine wpList_of_exec (v := .slice (some ⟨wr.heap.size, 0, none⟩) 4 4) (w1 := wr.alloc (.cells (q4v h0N) 92)) rfl (by kernel_rfl) ?_; obtain ⟨w6, hw6⟩ : ∃ w6, wr.alloc (.cells (q4v h0N) 92) = w6 := ⟨_, rfl⟩; have hXh : Kpt (Bx w6 wr.heap.size (q4v h0N)) := ⟨by rw [← hw6]; exact bx_new wr _ 92⟩; have hbr : Below wr.heap.size wr w6 := by { rw [← hw6]; exact (Below.refl _ wr).alloc (Nat.le_refl _) _ }; have hb6 : Kpt (Below w.heap.size w w6) := ⟨hbe.out.trans (hbr.mono hbe.out.size)⟩; have hoq6 : Kpt (w6.ownsRow w.heap.size 5 1 (.slice (some ⟨g, 0, none⟩) (64 * NB) cap) (64 * NB) (cels QQ)) := ⟨own_of_block ho.out (fun z e => hbr.block z (World.ownsRow.lt ho.out z e).2)⟩; rw [hw6]; clear hw6 hbr; have m6 : Kpt True := ⟨trivial⟩)))
          obtain ⟨BH, hBH⟩ : ∃ BH, wr.heap.size = BH := ⟨_, rfl⟩
          obtain ⟨BT, hBT⟩ : ∃ BT, w6.heap.size = BT := ⟨_, rfl⟩
          have hgB : Kpt (g < BH) := ⟨by rw [← hBH]; exact (World.ownsRow.lt ho.out g rfl).2⟩
          have hwB : Kpt (w.heap.size ≤ BH) := ⟨by rw [← hBH]; exact hbe.out.size⟩
          rw [hBH, hBT] at hsz8
          rw [hBT] at hXt8
          rw [hBH] at hXh8
          rw [hBH, hBT]
          have hR8 : Kpt (Rx w w8 BH BT gk g NB cap QQ h0N) := ⟨⟨hXh8.out, hXt8.out, hXk.out, hoq8.out, hb8.out⟩⟩
          have hne : Kpt (g < BH ∧ BH < BT ∧ BT < gk ∧ w.heap.size ≤ BH) := ⟨hgB.out, hsz8.out.1, by have := hsz8.out; have := hgk.out; omega, hwB.out⟩
          have hQb : Kpt (Bytes QQ) := ⟨by rw [hQ.out]; exact hb.out.append (padL_bytes _ _)⟩
          clear hXh8 hXt8 hXk hoq8 hb8 hBH hBT hsz8 hgk hgB hwB ho hbe hVlt hV hPl
          go_loopw [9] (fun t wq => ∃ k : Nat, k ≤ NB ∧ t = .int .i64 (64 * k : Nat) ∧ Kpt (Rx w wq BH BT gk g NB cap QQ (foldB QQ h0N k))) (fun t _ => 64 * NB - (intOf t).toNat)
          case atStart => exact ⟨0, by omega, rfl, hR8⟩
          case round =>
            obtain ⟨k, hk, rfl, hR⟩ := hrel
            clear hR8
            by_cases hlt : k < NB
            · obtain ⟨hQ4, hh⟩ : ∃ h, foldB QQ h0N k = h := ⟨_, rfl⟩
              have hok : hQ4.ok := by rw [← hh]; exact foldB_ok _ h0N_ok _
              have hok0 := hok
              rw [hh] at hR
              replace hh := Kpt.mk hh
              have c0 : ∀ m, (wr.drewN m).cell? ⟨BH, 0, none⟩ = some (.int .u32 (hQ4.a : Int)) := fun m => (hR.out.drewN m).num.cells 0 (by simp [q4v])
              have c1 : ∀ m, (wr.drewN m).cell? ⟨BH, 1, none⟩ = some (.int .u32 (hQ4.b : Int)) := fun m => (hR.out.drewN m).num.cells 1 (by simp [q4v])
              have c2 : ∀ m, (wr.drewN m).cell? ⟨BH, 2, none⟩ = some (.int .u32 (hQ4.c : Int)) := fun m => (hR.out.drewN m).num.cells 2 (by simp [q4v])
              have c3 : ∀ m, (wr.drewN m).cell? ⟨BH, 3, none⟩ = some (.int .u32 (hQ4.d : Int)) := fun m => (hR.out.drewN m).num.cells 3 (by simp [q4v])
              have k64 : ((64 * k : Nat) : Int) = 64 * (k : Int) := by omega
              rw [k64]
              clear k64
              go_wp2
              go_quiet (fail)
              go_wp2
              have hRq := Kpt.mk (hR.out.drewN nq)
              clear c0 c1 c2 c3 hR
              go_loopw [10, 11, 12, 13, 14] (fun x10 x11 x12 x13 t wq => ∃ (i : Nat) (s : Q4), i ≤ 64 ∧ x10 = .int .u32 (s.a : Int) ∧ x11 = .int .u32 (s.b : Int) ∧ x12 = .int .u32 (s.c : Int) ∧ x13 = .int .u32 (s.d : Int) ∧ t = .int .i64 i ∧ Kpt (s = stepsN (wordN (QQ.drop (64 * k))) hQ4 i) ∧ Kpt (Rx w wq BH BT gk g NB cap QQ hQ4)) (fun _ _ _ _ t _ => 64 - (intOf t).toNat)
              case atStart => exact ⟨0, hQ4, by omega, rfl, rfl, rfl, rfl, rfl, ⟨rfl⟩, hRq⟩
              case round =>
                obtain ⟨i, s, hi, rfl, rfl, rfl, rfl, rfl, hs, hR⟩ := hrel
                clear hRq
                by_cases hlt : i < 64
                · have hok : s.ok := by rw [hs.out]; exact stepsN_ok hok i
                  obtain ⟨o1, o2, o3, o4⟩ := hok
                  obtain r0 | r0 | r0 | ⟨n0, n1, n2⟩ : i / 16 = 0 ∨ i / 16 = 1 ∨ i / 16 = 2 ∨ (¬ i / 16 = 0 ∧ ¬ i / 16 = 1 ∧ ¬ i / 16 = 2) := by omega
                  · have hri : (i : Int) / 16 = 0 := by omega
                    have hF : Kpt (fN i s.b s.c s.d < 4294967296) := ⟨fN_lt i o2 o3 o4⟩
                    obtain ⟨F, hFd⟩ : ∃ F, fN i s.b s.c s.d = F := ⟨_, rfl⟩
                    have hFe := (fcase0 s.b s.c s.d o2 o3 o4).trans (congrArg (fun x : Nat => (x : Int)) ((fN_0 r0).symm.trans hFd))
                    rw [hFd] at hF
                    replace hFd := Kpt.mk hFd
                    replace hFe := Kpt.mk hFe
                    have hg : gN i = i := by unfold gN; rw [if_pos r0]
                    have hgl : i < 16 := by omega
                    replace hg := Kpt.mk hg
                    have hY : ∀ j, j < 4 → 64 * k + 4 * i + j < 64 * NB := fun j hj => by omega
                    go_wp2
                    simp only [hFe.out]
                    obtain ⟨y0, hy0, hz0⟩ : ∃ y : Nat, QQ.getD (64 * k + 4 * i + 0) 0 = (y : Int) ∧ y < 256 := ⟨(QQ.getD (64 * k + 4 * i + 0) 0).toNat, by have := hQb.out (64 * k + 4 * i + 0); omega, by have := hQb.out (64 * k + 4 * i + 0); omega⟩
                    obtain ⟨y1, hy1, hz1⟩ : ∃ y : Nat, QQ.getD (64 * k + 4 * i + 1) 0 = (y : Int) ∧ y < 256 := ⟨(QQ.getD (64 * k + 4 * i + 1) 0).toNat, by have := hQb.out (64 * k + 4 * i + 1); omega, by have := hQb.out (64 * k + 4 * i + 1); omega⟩
                    obtain ⟨y2, hy2, hz2⟩ : ∃ y : Nat, QQ.getD (64 * k + 4 * i + 2) 0 = (y : Int) ∧ y < 256 := ⟨(QQ.getD (64 * k + 4 * i + 2) 0).toNat, by have := hQb.out (64 * k + 4 * i + 2); omega, by have := hQb.out (64 * k + 4 * i + 2); omega⟩
                    obtain ⟨y3, hy3, hz3⟩ : ∃ y : Nat, QQ.getD (64 * k + 4 * i + 3) 0 = (y : Int) ∧ y < 256 := ⟨(QQ.getD (64 * k + 4 * i + 3) 0).toNat, by have := hQb.out (64 * k + 4 * i + 3); omega, by have := hQb.out (64 * k + 4 * i + 3); omega⟩
                    have hwd : Kpt (wordN (QQ.drop (64 * k)) (gN i) = mpN y0 y1 y2 y3 4) := ⟨by rw [hg.out]; unfold wordN mpN; simp only [drop_getD]; rw [← Nat.add_assoc (64 * k) (4 * i) 1, ← Nat.add_assoc (64 * k) (4 * i) 2, ← Nat.add_assoc (64 * k) (4 * i) 3, hy1, hy2, hy3]; rw [Nat.add_zero] at hy0; rw [hy0]; omega⟩
                    clear hri
                    go_loopw [18, 19] (fun m t wz => ∃ q : Nat, q ≤ 4 ∧ m = .int .u32 (mpN y0 y1 y2 y3 q : Nat) ∧ t = .int .i64 (3 - (q : Int)) ∧ Kpt (Rx w wz BH BT gk g NB cap QQ hQ4)) (fun _ t _ => (intOf t + 1).toNat)
                    case atStart => exact ⟨0, by omega, rfl, rfl, hR⟩
                    case round =>
                      obtain ⟨q, hq, rfl, rfl, hRz⟩ := hrel
                      by_cases hlq : q < 4
                      · obtain rfl | rfl | rfl | rfl : q = 0 ∨ q = 1 ∨ q = 2 ∨ q = 3 := by omega
                        · have hcy : wr.cell? ⟨g, 64 * k + 4 * i + 3, none⟩ = some (.int .u8 (y3 : Int)) := by rw [← hy3]; exact hRz.out.cell _ (hY 3 (by omega))
                          rw [show mpN y0 y1 y2 y3 0 = 0 from rfl]
                          go_wp2
                          exact ⟨⟨1, by omega, by first | rfl | (rw [show mpN y0 y1 y2 y3 1 = y3 from rfl]; congr 1; omega), by simp, hRz⟩, by simp [intOf]⟩
                        · have hcy : wr.cell? ⟨g, 64 * k + 4 * i + 2, none⟩ = some (.int .u8 (y2 : Int)) := by rw [← hy2]; exact hRz.out.cell _ (hY 2 (by omega))
                          rw [show mpN y0 y1 y2 y3 1 = y3 from rfl]
                          go_wp2
                          exact ⟨⟨2, by omega, by first | rfl | (rw [show mpN y0 y1 y2 y3 2 = y3 * 256 + y2 from rfl]; congr 1; omega), by simp, hRz⟩, by simp [intOf]⟩
                        · have hcy : wr.cell? ⟨g, 64 * k + 4 * i + 1, none⟩ = some (.int .u8 (y1 : Int)) := by rw [← hy1]; exact hRz.out.cell _ (hY 1 (by omega))
                          rw [show mpN y0 y1 y2 y3 2 = y3 * 256 + y2 from rfl]
                          go_wp2
                          exact ⟨⟨3, by omega, by first | rfl | (rw [show mpN y0 y1 y2 y3 3 = (y3 * 256 + y2) * 256 + y1 from rfl]; congr 1; omega), by simp, hRz⟩, by simp [intOf]⟩
                        · have hcy : wr.cell? ⟨g, 64 * k + 4 * i, none⟩ = some (.int .u8 (y0 : Int)) := by rw [← hy0]; exact hRz.out.cell _ (hY 0 (by omega))
                          rw [show mpN y0 y1 y2 y3 3 = (y3 * 256 + y2) * 256 + y1 from rfl]
                          go_wp2
                          exact ⟨⟨4, by omega, by first | rfl | (rw [show mpN y0 y1 y2 y3 4 = ((y3 * 256 + y2) * 256 + y1) * 256 + y0 from rfl]; congr 1; omega), by simp, hRz⟩, by simp [intOf]⟩
                      · obtain rfl : q = 4 := by omega
                        clear hlq hq hY hy0 hy1 hy2 hy3
                        have a0 : wr.cell? ⟨gk, i, none⟩ = some (.int .u32 (kL.getD i 0 : Nat)) := by rw [hRz.out.con.cells i (by rw [kV_size]; exact hlt), kV_at _ _ hlt, if_pos hlt]
                        have a1 : wr.cell? ⟨BT, i % 4, none⟩ = some (.int .i64 (tL.getD (4 * (i / 16) + i % 4) 0 : Nat)) := by rw [hRz.out.trn.cells (i % 4) (by show _ < 16; omega), tV_at _ (by omega), show 4 * (i / 16) + i % 4 = i % 4 by omega]
                        have hK := kL_lt i
                        have hT := tL_lt (4 * (i / 16) + i % 4)
                        have hM : mpN y0 y1 y2 y3 4 < 4294967296 := by show ((y3 * 256 + y2) * 256 + y1) * 256 + y0 < _; omega
                        have hst : Kpt (stepN (wordN (QQ.drop (64 * k))) i s = ⟨s.d, (s.b + rotN ((s.a + F + kL.getD i 0 + mpN y0 y1 y2 y3 4) % 4294967296) (tL.getD (4 * (i / 16) + i % 4) 0)) % 4294967296, s.b, s.c⟩) := ⟨by unfold stepN; rw [hFd.out, hwd.out]⟩
                        generalize kL.getD i 0 = KK at a0 hK hst
                        generalize tL.getD (4 * (i / 16) + i % 4) 0 = TT at a1 hT hst
                        generalize mpN y0 y1 y2 y3 4 = MM at hM hst ⊢
                        have hrot : Kpt (∀ W, Calls Tryz.prog 36 #[.int .u32 (((s.a : Int) + F + KK + MM) % 4294967296), .int .i64 (TT : Int)] W fun e w' => e = .returned (.int .u32 (rotN ((s.a + F + KK + MM) % 4294967296) TT : Int)) ∧ ∃ z, w' = W.drewN z) := ⟨fun W => by
                          have := rleft_any ((s.a + F + KK + MM) % 4294967296) TT W (Nat.mod_lt _ (by omega)) hT
                          rwa [show (((s.a + F + KK + MM) % 4294967296 : Nat) : Int) = ((s.a : Int) + F + KK + MM) % 4294967296 by omega] at this⟩
                        have hFl := hF.out
                        go_wp2_with ((go_at_call 36; go_must (refine (hrot.out _).mono ?_; rintro e w9 ⟨rfl, z, rfl⟩)))
                        go_roundw
                        case rel => exact ⟨i + 1, stepN (wordN (QQ.drop (64 * k))) i s, by omega, by rw [hst.out], by rw [hst.out]; simp, by rw [hst.out], by rw [hst.out], by simp, ⟨by rw [stepsN, hs.out]⟩, ⟨hRz.out.drewN _⟩⟩
                        case measure => simp [intOf]; omega
                  · have hri : (i : Int) / 16 = 1 := by omega
                    have hF : Kpt (fN i s.b s.c s.d < 4294967296) := ⟨fN_lt i o2 o3 o4⟩
                    obtain ⟨F, hFd⟩ : ∃ F, fN i s.b s.c s.d = F := ⟨_, rfl⟩
                    have hFe := (fcase0 s.d s.b s.c o4 o2 o3).trans (congrArg (fun x : Nat => (x : Int)) ((fN_1 r0).symm.trans hFd))
                    rw [hFd] at hF
                    replace hFd := Kpt.mk hFd
                    replace hFe := Kpt.mk hFe
                    obtain ⟨G, hGd⟩ : ∃ G, gN i = G := ⟨_, rfl⟩
                    have hgl : G < 16 := by rw [← hGd]; exact gN_lt hlt
                    have hGe : Kpt ((5 * (i : Int) + 1) % 16 = (G : Int)) := ⟨by rw [← hGd]; unfold gN; rw [if_neg (by omega), if_pos r0]; omega⟩
                    have hg := Kpt.mk hGd
                    clear hGd
                    have hY : ∀ j, j < 4 → 64 * k + 4 * G + j < 64 * NB := fun j hj => by omega
                    go_wp2
                    simp only [hFe.out, hGe.out]
                    obtain ⟨y0, hy0, hz0⟩ : ∃ y : Nat, QQ.getD (64 * k + 4 * G + 0) 0 = (y : Int) ∧ y < 256 := ⟨(QQ.getD (64 * k + 4 * G + 0) 0).toNat, by have := hQb.out (64 * k + 4 * G + 0); omega, by have := hQb.out (64 * k + 4 * G + 0); omega⟩
                    obtain ⟨y1, hy1, hz1⟩ : ∃ y : Nat, QQ.getD (64 * k + 4 * G + 1) 0 = (y : Int) ∧ y < 256 := ⟨(QQ.getD (64 * k + 4 * G + 1) 0).toNat, by have := hQb.out (64 * k + 4 * G + 1); omega, by have := hQb.out (64 * k + 4 * G + 1); omega⟩
                    obtain ⟨y2, hy2, hz2⟩ : ∃ y : Nat, QQ.getD (64 * k + 4 * G + 2) 0 = (y : Int) ∧ y < 256 := ⟨(QQ.getD (64 * k + 4 * G + 2) 0).toNat, by have := hQb.out (64 * k + 4 * G + 2); omega, by have := hQb.out (64 * k + 4 * G + 2); omega⟩
                    obtain ⟨y3, hy3, hz3⟩ : ∃ y : Nat, QQ.getD (64 * k + 4 * G + 3) 0 = (y : Int) ∧ y < 256 := ⟨(QQ.getD (64 * k + 4 * G + 3) 0).toNat, by have := hQb.out (64 * k + 4 * G + 3); omega, by have := hQb.out (64 * k + 4 * G + 3); omega⟩
                    have hwd : Kpt (wordN (QQ.drop (64 * k)) (gN i) = mpN y0 y1 y2 y3 4) := ⟨by rw [hg.out]; unfold wordN mpN; simp only [drop_getD]; rw [← Nat.add_assoc (64 * k) (4 * G) 1, ← Nat.add_assoc (64 * k) (4 * G) 2, ← Nat.add_assoc (64 * k) (4 * G) 3, hy1, hy2, hy3]; rw [Nat.add_zero] at hy0; rw [hy0]; omega⟩
                    clear hri
                    go_loopw [18, 19] (fun m t wz => ∃ q : Nat, q ≤ 4 ∧ m = .int .u32 (mpN y0 y1 y2 y3 q : Nat) ∧ t = .int .i64 (3 - (q : Int)) ∧ Kpt (Rx w wz BH BT gk g NB cap QQ hQ4)) (fun _ t _ => (intOf t + 1).toNat)
                    case atStart => exact ⟨0, by omega, rfl, rfl, hR⟩
                    case round =>
                      obtain ⟨q, hq, rfl, rfl, hRz⟩ := hrel
                      by_cases hlq : q < 4
                      · obtain rfl | rfl | rfl | rfl : q = 0 ∨ q = 1 ∨ q = 2 ∨ q = 3 := by omega
                        · have hcy : wr.cell? ⟨g, 64 * k + 4 * G + 3, none⟩ = some (.int .u8 (y3 : Int)) := by rw [← hy3]; exact hRz.out.cell _ (hY 3 (by omega))
                          rw [show mpN y0 y1 y2 y3 0 = 0 from rfl]
                          go_wp2
                          exact ⟨⟨1, by omega, by first | rfl | (rw [show mpN y0 y1 y2 y3 1 = y3 from rfl]; congr 1; omega), by simp, hRz⟩, by simp [intOf]⟩
                        · have hcy : wr.cell? ⟨g, 64 * k + 4 * G + 2, none⟩ = some (.int .u8 (y2 : Int)) := by rw [← hy2]; exact hRz.out.cell _ (hY 2 (by omega))
                          rw [show mpN y0 y1 y2 y3 1 = y3 from rfl]
                          go_wp2
                          exact ⟨⟨2, by omega, by first | rfl | (rw [show mpN y0 y1 y2 y3 2 = y3 * 256 + y2 from rfl]; congr 1; omega), by simp, hRz⟩, by simp [intOf]⟩
                        · have hcy : wr.cell? ⟨g, 64 * k + 4 * G + 1, none⟩ = some (.int .u8 (y1 : Int)) := by rw [← hy1]; exact hRz.out.cell _ (hY 1 (by omega))
                          rw [show mpN y0 y1 y2 y3 2 = y3 * 256 + y2 from rfl]
                          go_wp2
                          exact ⟨⟨3, by omega, by first | rfl | (rw [show mpN y0 y1 y2 y3 3 = (y3 * 256 + y2) * 256 + y1 from rfl]; congr 1; omega), by simp, hRz⟩, by simp [intOf]⟩
                        · have hcy : wr.cell? ⟨g, 64 * k + 4 * G, none⟩ = some (.int .u8 (y0 : Int)) := by rw [← hy0]; exact hRz.out.cell _ (hY 0 (by omega))
                          rw [show mpN y0 y1 y2 y3 3 = (y3 * 256 + y2) * 256 + y1 from rfl]
                          go_wp2
                          exact ⟨⟨4, by omega, by first | rfl | (rw [show mpN y0 y1 y2 y3 4 = ((y3 * 256 + y2) * 256 + y1) * 256 + y0 from rfl]; congr 1; omega), by simp, hRz⟩, by simp [intOf]⟩
                      · obtain rfl : q = 4 := by omega
                        clear hlq hq hY hy0 hy1 hy2 hy3
                        have a0 : wr.cell? ⟨gk, i, none⟩ = some (.int .u32 (kL.getD i 0 : Nat)) := by rw [hRz.out.con.cells i (by rw [kV_size]; exact hlt), kV_at _ _ hlt, if_pos hlt]
                        have a1 : wr.cell? ⟨BT, 4 + i % 4, none⟩ = some (.int .i64 (tL.getD (4 * (i / 16) + i % 4) 0 : Nat)) := by rw [hRz.out.trn.cells (4 + i % 4) (by show _ < 16; omega), tV_at _ (by omega), show 4 * (i / 16) + i % 4 = 4 + i % 4 by omega]
                        have hK := kL_lt i
                        have hT := tL_lt (4 * (i / 16) + i % 4)
                        have hM : mpN y0 y1 y2 y3 4 < 4294967296 := by show ((y3 * 256 + y2) * 256 + y1) * 256 + y0 < _; omega
                        have hst : Kpt (stepN (wordN (QQ.drop (64 * k))) i s = ⟨s.d, (s.b + rotN ((s.a + F + kL.getD i 0 + mpN y0 y1 y2 y3 4) % 4294967296) (tL.getD (4 * (i / 16) + i % 4) 0)) % 4294967296, s.b, s.c⟩) := ⟨by unfold stepN; rw [hFd.out, hwd.out]⟩
                        generalize kL.getD i 0 = KK at a0 hK hst
                        generalize tL.getD (4 * (i / 16) + i % 4) 0 = TT at a1 hT hst
                        generalize mpN y0 y1 y2 y3 4 = MM at hM hst ⊢
                        have hrot : Kpt (∀ W, Calls Tryz.prog 36 #[.int .u32 (((s.a : Int) + F + KK + MM) % 4294967296), .int .i64 (TT : Int)] W fun e w' => e = .returned (.int .u32 (rotN ((s.a + F + KK + MM) % 4294967296) TT : Int)) ∧ ∃ z, w' = W.drewN z) := ⟨fun W => by
                          have := rleft_any ((s.a + F + KK + MM) % 4294967296) TT W (Nat.mod_lt _ (by omega)) hT
                          rwa [show (((s.a + F + KK + MM) % 4294967296 : Nat) : Int) = ((s.a : Int) + F + KK + MM) % 4294967296 by omega] at this⟩
                        have hFl := hF.out
                        go_wp2_with ((go_at_call 36; go_must (refine (hrot.out _).mono ?_; rintro e w9 ⟨rfl, z, rfl⟩)))
                        go_roundw
                        case rel => exact ⟨i + 1, stepN (wordN (QQ.drop (64 * k))) i s, by omega, by rw [hst.out], by rw [hst.out]; simp, by rw [hst.out], by rw [hst.out], by simp, ⟨by rw [stepsN, hs.out]⟩, ⟨hRz.out.drewN _⟩⟩
                        case measure => simp [intOf]; omega
                  · have hri : (i : Int) / 16 = 2 := by omega
                    have hF : Kpt (fN i s.b s.c s.d < 4294967296) := ⟨fN_lt i o2 o3 o4⟩
                    obtain ⟨F, hFd⟩ : ∃ F, fN i s.b s.c s.d = F := ⟨_, rfl⟩
                    have hFe := (fcase2 s.b s.c s.d o2 o3 o4).trans (congrArg (fun x : Nat => (x : Int)) ((fN_2 r0).symm.trans hFd))
                    rw [hFd] at hF
                    replace hFd := Kpt.mk hFd
                    replace hFe := Kpt.mk hFe
                    obtain ⟨G, hGd⟩ : ∃ G, gN i = G := ⟨_, rfl⟩
                    have hgl : G < 16 := by rw [← hGd]; exact gN_lt hlt
                    have hGe : Kpt ((3 * (i : Int) + 5) % 16 = (G : Int)) := ⟨by rw [← hGd]; unfold gN; rw [if_neg (by omega), if_neg (by omega), if_pos r0]; omega⟩
                    have hg := Kpt.mk hGd
                    clear hGd
                    have hY : ∀ j, j < 4 → 64 * k + 4 * G + j < 64 * NB := fun j hj => by omega
                    go_wp2
                    simp only [hFe.out, hGe.out]
                    obtain ⟨y0, hy0, hz0⟩ : ∃ y : Nat, QQ.getD (64 * k + 4 * G + 0) 0 = (y : Int) ∧ y < 256 := ⟨(QQ.getD (64 * k + 4 * G + 0) 0).toNat, by have := hQb.out (64 * k + 4 * G + 0); omega, by have := hQb.out (64 * k + 4 * G + 0); omega⟩
                    obtain ⟨y1, hy1, hz1⟩ : ∃ y : Nat, QQ.getD (64 * k + 4 * G + 1) 0 = (y : Int) ∧ y < 256 := ⟨(QQ.getD (64 * k + 4 * G + 1) 0).toNat, by have := hQb.out (64 * k + 4 * G + 1); omega, by have := hQb.out (64 * k + 4 * G + 1); omega⟩
                    obtain ⟨y2, hy2, hz2⟩ : ∃ y : Nat, QQ.getD (64 * k + 4 * G + 2) 0 = (y : Int) ∧ y < 256 := ⟨(QQ.getD (64 * k + 4 * G + 2) 0).toNat, by have := hQb.out (64 * k + 4 * G + 2); omega, by have := hQb.out (64 * k + 4 * G + 2); omega⟩
                    obtain ⟨y3, hy3, hz3⟩ : ∃ y : Nat, QQ.getD (64 * k + 4 * G + 3) 0 = (y : Int) ∧ y < 256 := ⟨(QQ.getD (64 * k + 4 * G + 3) 0).toNat, by have := hQb.out (64 * k + 4 * G + 3); omega, by have := hQb.out (64 * k + 4 * G + 3); omega⟩
                    have hwd : Kpt (wordN (QQ.drop (64 * k)) (gN i) = mpN y0 y1 y2 y3 4) := ⟨by rw [hg.out]; unfold wordN mpN; simp only [drop_getD]; rw [← Nat.add_assoc (64 * k) (4 * G) 1, ← Nat.add_assoc (64 * k) (4 * G) 2, ← Nat.add_assoc (64 * k) (4 * G) 3, hy1, hy2, hy3]; rw [Nat.add_zero] at hy0; rw [hy0]; omega⟩
                    clear hri
                    go_loopw [18, 19] (fun m t wz => ∃ q : Nat, q ≤ 4 ∧ m = .int .u32 (mpN y0 y1 y2 y3 q : Nat) ∧ t = .int .i64 (3 - (q : Int)) ∧ Kpt (Rx w wz BH BT gk g NB cap QQ hQ4)) (fun _ t _ => (intOf t + 1).toNat)
                    case atStart => exact ⟨0, by omega, rfl, rfl, hR⟩
                    case round =>
                      obtain ⟨q, hq, rfl, rfl, hRz⟩ := hrel
                      by_cases hlq : q < 4
                      · obtain rfl | rfl | rfl | rfl : q = 0 ∨ q = 1 ∨ q = 2 ∨ q = 3 := by omega
                        · have hcy : wr.cell? ⟨g, 64 * k + 4 * G + 3, none⟩ = some (.int .u8 (y3 : Int)) := by rw [← hy3]; exact hRz.out.cell _ (hY 3 (by omega))
                          rw [show mpN y0 y1 y2 y3 0 = 0 from rfl]
                          go_wp2
                          exact ⟨⟨1, by omega, by first | rfl | (rw [show mpN y0 y1 y2 y3 1 = y3 from rfl]; congr 1; omega), by simp, hRz⟩, by simp [intOf]⟩
                        · have hcy : wr.cell? ⟨g, 64 * k + 4 * G + 2, none⟩ = some (.int .u8 (y2 : Int)) := by rw [← hy2]; exact hRz.out.cell _ (hY 2 (by omega))
                          rw [show mpN y0 y1 y2 y3 1 = y3 from rfl]
                          go_wp2
                          exact ⟨⟨2, by omega, by first | rfl | (rw [show mpN y0 y1 y2 y3 2 = y3 * 256 + y2 from rfl]; congr 1; omega), by simp, hRz⟩, by simp [intOf]⟩
                        · have hcy : wr.cell? ⟨g, 64 * k + 4 * G + 1, none⟩ = some (.int .u8 (y1 : Int)) := by rw [← hy1]; exact hRz.out.cell _ (hY 1 (by omega))
                          rw [show mpN y0 y1 y2 y3 2 = y3 * 256 + y2 from rfl]
                          go_wp2
                          exact ⟨⟨3, by omega, by first | rfl | (rw [show mpN y0 y1 y2 y3 3 = (y3 * 256 + y2) * 256 + y1 from rfl]; congr 1; omega), by simp, hRz⟩, by simp [intOf]⟩
                        · have hcy : wr.cell? ⟨g, 64 * k + 4 * G, none⟩ = some (.int .u8 (y0 : Int)) := by rw [← hy0]; exact hRz.out.cell _ (hY 0 (by omega))
                          rw [show mpN y0 y1 y2 y3 3 = (y3 * 256 + y2) * 256 + y1 from rfl]
                          go_wp2
                          exact ⟨⟨4, by omega, by first | rfl | (rw [show mpN y0 y1 y2 y3 4 = ((y3 * 256 + y2) * 256 + y1) * 256 + y0 from rfl]; congr 1; omega), by simp, hRz⟩, by simp [intOf]⟩
                      · obtain rfl : q = 4 := by omega
                        clear hlq hq hY hy0 hy1 hy2 hy3
                        have a0 : wr.cell? ⟨gk, i, none⟩ = some (.int .u32 (kL.getD i 0 : Nat)) := by rw [hRz.out.con.cells i (by rw [kV_size]; exact hlt), kV_at _ _ hlt, if_pos hlt]
                        have a1 : wr.cell? ⟨BT, 8 + i % 4, none⟩ = some (.int .i64 (tL.getD (4 * (i / 16) + i % 4) 0 : Nat)) := by rw [hRz.out.trn.cells (8 + i % 4) (by show _ < 16; omega), tV_at _ (by omega), show 4 * (i / 16) + i % 4 = 8 + i % 4 by omega]
                        have hK := kL_lt i
                        have hT := tL_lt (4 * (i / 16) + i % 4)
                        have hM : mpN y0 y1 y2 y3 4 < 4294967296 := by show ((y3 * 256 + y2) * 256 + y1) * 256 + y0 < _; omega
                        have hst : Kpt (stepN (wordN (QQ.drop (64 * k))) i s = ⟨s.d, (s.b + rotN ((s.a + F + kL.getD i 0 + mpN y0 y1 y2 y3 4) % 4294967296) (tL.getD (4 * (i / 16) + i % 4) 0)) % 4294967296, s.b, s.c⟩) := ⟨by unfold stepN; rw [hFd.out, hwd.out]⟩
                        generalize kL.getD i 0 = KK at a0 hK hst
                        generalize tL.getD (4 * (i / 16) + i % 4) 0 = TT at a1 hT hst
                        generalize mpN y0 y1 y2 y3 4 = MM at hM hst ⊢
                        have hrot : Kpt (∀ W, Calls Tryz.prog 36 #[.int .u32 (((s.a : Int) + F + KK + MM) % 4294967296), .int .i64 (TT : Int)] W fun e w' => e = .returned (.int .u32 (rotN ((s.a + F + KK + MM) % 4294967296) TT : Int)) ∧ ∃ z, w' = W.drewN z) := ⟨fun W => by
                          have := rleft_any ((s.a + F + KK + MM) % 4294967296) TT W (Nat.mod_lt _ (by omega)) hT
                          rwa [show (((s.a + F + KK + MM) % 4294967296 : Nat) : Int) = ((s.a : Int) + F + KK + MM) % 4294967296 by omega] at this⟩
                        have hFl := hF.out
                        go_wp2_with ((go_at_call 36; go_must (refine (hrot.out _).mono ?_; rintro e w9 ⟨rfl, z, rfl⟩)))
                        go_roundw
                        case rel => exact ⟨i + 1, stepN (wordN (QQ.drop (64 * k))) i s, by omega, by rw [hst.out], by rw [hst.out]; simp, by rw [hst.out], by rw [hst.out], by simp, ⟨by rw [stepsN, hs.out]⟩, ⟨hRz.out.drewN _⟩⟩
                        case measure => simp [intOf]; omega
                  · have hri : (i : Int) / 16 = 3 := by omega
                    have hF : Kpt (fN i s.b s.c s.d < 4294967296) := ⟨fN_lt i o2 o3 o4⟩
                    obtain ⟨F, hFd⟩ : ∃ F, fN i s.b s.c s.d = F := ⟨_, rfl⟩
                    have hFe := (fcase3 s.b s.c s.d o2 o3 o4).trans (congrArg (fun x : Nat => (x : Int)) ((fN_3 n0 n1 n2).symm.trans hFd))
                    rw [hFd] at hF
                    replace hFd := Kpt.mk hFd
                    replace hFe := Kpt.mk hFe
                    obtain ⟨G, hGd⟩ : ∃ G, gN i = G := ⟨_, rfl⟩
                    have hgl : G < 16 := by rw [← hGd]; exact gN_lt hlt
                    have hGe : Kpt (7 * (i : Int) % 16 = (G : Int)) := ⟨by rw [← hGd]; unfold gN; rw [if_neg n0, if_neg n1, if_neg n2]; omega⟩
                    have hg := Kpt.mk hGd
                    clear hGd
                    have hY : ∀ j, j < 4 → 64 * k + 4 * G + j < 64 * NB := fun j hj => by omega
                    go_wp2
                    simp only [hFe.out, hGe.out]
                    obtain ⟨y0, hy0, hz0⟩ : ∃ y : Nat, QQ.getD (64 * k + 4 * G + 0) 0 = (y : Int) ∧ y < 256 := ⟨(QQ.getD (64 * k + 4 * G + 0) 0).toNat, by have := hQb.out (64 * k + 4 * G + 0); omega, by have := hQb.out (64 * k + 4 * G + 0); omega⟩
                    obtain ⟨y1, hy1, hz1⟩ : ∃ y : Nat, QQ.getD (64 * k + 4 * G + 1) 0 = (y : Int) ∧ y < 256 := ⟨(QQ.getD (64 * k + 4 * G + 1) 0).toNat, by have := hQb.out (64 * k + 4 * G + 1); omega, by have := hQb.out (64 * k + 4 * G + 1); omega⟩
                    obtain ⟨y2, hy2, hz2⟩ : ∃ y : Nat, QQ.getD (64 * k + 4 * G + 2) 0 = (y : Int) ∧ y < 256 := ⟨(QQ.getD (64 * k + 4 * G + 2) 0).toNat, by have := hQb.out (64 * k + 4 * G + 2); omega, by have := hQb.out (64 * k + 4 * G + 2); omega⟩
                    obtain ⟨y3, hy3, hz3⟩ : ∃ y : Nat, QQ.getD (64 * k + 4 * G + 3) 0 = (y : Int) ∧ y < 256 := ⟨(QQ.getD (64 * k + 4 * G + 3) 0).toNat, by have := hQb.out (64 * k + 4 * G + 3); omega, by have := hQb.out (64 * k + 4 * G + 3); omega⟩
                    have hwd : Kpt (wordN (QQ.drop (64 * k)) (gN i) = mpN y0 y1 y2 y3 4) := ⟨by rw [hg.out]; unfold wordN mpN; simp only [drop_getD]; rw [← Nat.add_assoc (64 * k) (4 * G) 1, ← Nat.add_assoc (64 * k) (4 * G) 2, ← Nat.add_assoc (64 * k) (4 * G) 3, hy1, hy2, hy3]; rw [Nat.add_zero] at hy0; rw [hy0]; omega⟩
                    clear hri
                    go_loopw [18, 19] (fun m t wz => ∃ q : Nat, q ≤ 4 ∧ m = .int .u32 (mpN y0 y1 y2 y3 q : Nat) ∧ t = .int .i64 (3 - (q : Int)) ∧ Kpt (Rx w wz BH BT gk g NB cap QQ hQ4)) (fun _ t _ => (intOf t + 1).toNat)
                    case atStart => exact ⟨0, by omega, rfl, rfl, hR⟩
                    case round =>
                      obtain ⟨q, hq, rfl, rfl, hRz⟩ := hrel
                      by_cases hlq : q < 4
                      · obtain rfl | rfl | rfl | rfl : q = 0 ∨ q = 1 ∨ q = 2 ∨ q = 3 := by omega
                        · have hcy : wr.cell? ⟨g, 64 * k + 4 * G + 3, none⟩ = some (.int .u8 (y3 : Int)) := by rw [← hy3]; exact hRz.out.cell _ (hY 3 (by omega))
                          rw [show mpN y0 y1 y2 y3 0 = 0 from rfl]
                          go_wp2
                          exact ⟨⟨1, by omega, by first | rfl | (rw [show mpN y0 y1 y2 y3 1 = y3 from rfl]; congr 1; omega), by simp, hRz⟩, by simp [intOf]⟩
                        · have hcy : wr.cell? ⟨g, 64 * k + 4 * G + 2, none⟩ = some (.int .u8 (y2 : Int)) := by rw [← hy2]; exact hRz.out.cell _ (hY 2 (by omega))
                          rw [show mpN y0 y1 y2 y3 1 = y3 from rfl]
                          go_wp2
                          exact ⟨⟨2, by omega, by first | rfl | (rw [show mpN y0 y1 y2 y3 2 = y3 * 256 + y2 from rfl]; congr 1; omega), by simp, hRz⟩, by simp [intOf]⟩
                        · have hcy : wr.cell? ⟨g, 64 * k + 4 * G + 1, none⟩ = some (.int .u8 (y1 : Int)) := by rw [← hy1]; exact hRz.out.cell _ (hY 1 (by omega))
                          rw [show mpN y0 y1 y2 y3 2 = y3 * 256 + y2 from rfl]
                          go_wp2
                          exact ⟨⟨3, by omega, by first | rfl | (rw [show mpN y0 y1 y2 y3 3 = (y3 * 256 + y2) * 256 + y1 from rfl]; congr 1; omega), by simp, hRz⟩, by simp [intOf]⟩
                        · have hcy : wr.cell? ⟨g, 64 * k + 4 * G, none⟩ = some (.int .u8 (y0 : Int)) := by rw [← hy0]; exact hRz.out.cell _ (hY 0 (by omega))
                          rw [show mpN y0 y1 y2 y3 3 = (y3 * 256 + y2) * 256 + y1 from rfl]
                          go_wp2
                          exact ⟨⟨4, by omega, by first | rfl | (rw [show mpN y0 y1 y2 y3 4 = ((y3 * 256 + y2) * 256 + y1) * 256 + y0 from rfl]; congr 1; omega), by simp, hRz⟩, by simp [intOf]⟩
                      · obtain rfl : q = 4 := by omega
                        clear hlq hq hY hy0 hy1 hy2 hy3
                        have a0 : wr.cell? ⟨gk, i, none⟩ = some (.int .u32 (kL.getD i 0 : Nat)) := by rw [hRz.out.con.cells i (by rw [kV_size]; exact hlt), kV_at _ _ hlt, if_pos hlt]
                        have a1 : wr.cell? ⟨BT, 12 + i % 4, none⟩ = some (.int .i64 (tL.getD (4 * (i / 16) + i % 4) 0 : Nat)) := by rw [hRz.out.trn.cells (12 + i % 4) (by show _ < 16; omega), tV_at _ (by omega), show 4 * (i / 16) + i % 4 = 12 + i % 4 by omega]
                        have hK := kL_lt i
                        have hT := tL_lt (4 * (i / 16) + i % 4)
                        have hM : mpN y0 y1 y2 y3 4 < 4294967296 := by show ((y3 * 256 + y2) * 256 + y1) * 256 + y0 < _; omega
                        have hst : Kpt (stepN (wordN (QQ.drop (64 * k))) i s = ⟨s.d, (s.b + rotN ((s.a + F + kL.getD i 0 + mpN y0 y1 y2 y3 4) % 4294967296) (tL.getD (4 * (i / 16) + i % 4) 0)) % 4294967296, s.b, s.c⟩) := ⟨by unfold stepN; rw [hFd.out, hwd.out]⟩
                        generalize kL.getD i 0 = KK at a0 hK hst
                        generalize tL.getD (4 * (i / 16) + i % 4) 0 = TT at a1 hT hst
                        generalize mpN y0 y1 y2 y3 4 = MM at hM hst ⊢
                        have hrot : Kpt (∀ W, Calls Tryz.prog 36 #[.int .u32 (((s.a : Int) + F + KK + MM) % 4294967296), .int .i64 (TT : Int)] W fun e w' => e = .returned (.int .u32 (rotN ((s.a + F + KK + MM) % 4294967296) TT : Int)) ∧ ∃ z, w' = W.drewN z) := ⟨fun W => by
                          have := rleft_any ((s.a + F + KK + MM) % 4294967296) TT W (Nat.mod_lt _ (by omega)) hT
                          rwa [show (((s.a + F + KK + MM) % 4294967296 : Nat) : Int) = ((s.a : Int) + F + KK + MM) % 4294967296 by omega] at this⟩
                        have hFl := hF.out
                        go_wp2_with ((go_at_call 36; go_must (refine (hrot.out _).mono ?_; rintro e w9 ⟨rfl, z, rfl⟩)))
                        go_roundw
                        case rel => exact ⟨i + 1, stepN (wordN (QQ.drop (64 * k))) i s, by omega, by rw [hst.out], by rw [hst.out]; simp, by rw [hst.out], by rw [hst.out], by simp, ⟨by rw [stepsN, hs.out]⟩, ⟨hRz.out.drewN _⟩⟩
                        case measure => simp [intOf]; omega
                · obtain rfl : i = 64 := by omega
                  have hok : s.ok := by rw [hs.out]; exact stepsN_ok hok 64
                  obtain ⟨o1, o2, o3, o4⟩ := hok
                  have c0 : wr.cell? ⟨BH, 0, none⟩ = some (.int .u32 (hQ4.a : Int)) := hR.out.num.cells 0 (by simp [q4v])
                  have c1 : wr.cell? ⟨BH, 1, none⟩ = some (.int .u32 (hQ4.b : Int)) := hR.out.num.cells 1 (by simp [q4v])
                  have c2 : wr.cell? ⟨BH, 2, none⟩ = some (.int .u32 (hQ4.c : Int)) := hR.out.num.cells 2 (by simp [q4v])
                  have c3 : wr.cell? ⟨BH, 3, none⟩ = some (.int .u32 (hQ4.d : Int)) := hR.out.num.cells 3 (by simp [q4v])
                  have f0 := hR.out.num.free 0
                  have f1 := hR.out.num.free 1
                  have f2 := hR.out.num.free 2
                  have f3 := hR.out.num.free 3
                  have hmx : Kpt (foldB QQ h0N (k + 1) = mixN (wordN (QQ.drop (64 * k))) hQ4) := ⟨by rw [foldB, hh.out]⟩
                  have hmv : Kpt (mixN (wordN (QQ.drop (64 * k))) hQ4 = ⟨(hQ4.a + s.a) % 4294967296, (hQ4.b + s.b) % 4294967296, (hQ4.c + s.c) % 4294967296, (hQ4.d + s.d) % 4294967296⟩) := ⟨by rw [hs.out]; rfl⟩
                  obtain ⟨p1, p2, p3, p4⟩ := hok0
                  go_wp2
                  go_roundw
                  case rel =>
                    refine ⟨k + 1, by omega, by simp; omega, ⟨?_⟩⟩
                    rw [hmx.out, hmv.out]
                    have := hR.out.turn hne.out (h' := ⟨(hQ4.a + s.a) % 4294967296, (hQ4.b + s.b) % 4294967296, (hQ4.c + s.c) % 4294967296, (hQ4.d + s.d) % 4294967296⟩)
                    simpa using this
                  case measure => simp [intOf]; omega
            · obtain rfl : k = NB := by omega
              obtain ⟨hQ4, hh⟩ : ∃ h, foldB QQ h0N k = h := ⟨_, rfl⟩
              have hok : hQ4.ok := by rw [← hh]; exact foldB_ok _ h0N_ok _
              rw [hh] at hR
              obtain ⟨S6, hS6⟩ : ∃ S6, wr.heap.size = S6 := ⟨_, rfl⟩
              have hBS : Kpt (BH < S6) := ⟨by rw [← hS6]; exact hR.out.num.lt⟩
              have hwS : Kpt (w.heap.size ≤ S6) := ⟨by rw [← hS6]; exact hR.out.bel.size⟩
              have hX0 : Kpt (Bx wr BH (q4v hQ4)) := ⟨hR.out.num⟩
              have hB0 : Kpt (Below w.heap.size w wr) := ⟨hR.out.bel⟩
              have hS0 : Kpt (S6 ≤ wr.heap.size) := ⟨by rw [hS6]; exact Nat.le_refl _⟩
              have hres : Kpt (outP hQ4 4 = sumL zs) := ⟨by rw [outP_four, ← hh, sumL, hQ.out, ← hlen.out, hNB.out]⟩
              clear hR hh hS6 hlt hk
              obtain ⟨o1, o2, o3, o4⟩ := hok
              have hqn : Kpt (∀ q, qn hQ4 q < 4294967296) := ⟨fun q => by unfold qn; split <;> assumption⟩
              have k64 : ((64 * k : Nat) : Int) = 64 * (k : Int) := by omega
              rw [k64]
              clear k64
              go_wp2
              go_loopw [21, 22] (fun x t wr => ∃ q : Nat, q ≤ 4 ∧ t = .int .i64 q ∧ Kpt (wr.ownsRow S6 5 1 x (4 * q) (cels (outP hQ4 q))) ∧ Kpt (Bx wr BH (q4v hQ4)) ∧ Kpt (Below w.heap.size w wr) ∧ Kpt (S6 ≤ wr.heap.size)) (fun _ t _ => 4 - (intOf t).toNat)
              case atStart => exact ⟨0, by omega, rfl, ⟨World.ownsRow_nil _ _ 5 1⟩, hX0, hB0, hS0⟩
              case round =>
                obtain ⟨q, hq, rfl, ho, hX, hB, hS⟩ := hrel
                clear hX0 hB0 hS0
                by_cases hlt : q < 4
                · have hcq : wr.cell? ⟨BH, q, none⟩ = some (.int .u32 (qn hQ4 q : Int)) := by
                    obtain rfl | rfl | rfl | rfl : q = 0 ∨ q = 1 ∨ q = 2 ∨ q = 3 := by omega
                    · exact hX.out.cells 0 (by simp [q4v])
                    · exact hX.out.cells 1 (by simp [q4v])
                    · exact hX.out.cells 2 (by simp [q4v])
                    · exact hX.out.cells 3 (by simp [q4v])
                  have hql := hqn.out q
                  have hqs : Kpt (outP hQ4 (q + 1) = outP hQ4 q ++ lowL (qn hQ4 q) 4) := ⟨rfl⟩
                  have hpl : Kpt ((outP hQ4 q).length = 4 * q) := ⟨outP_length _ _⟩
                  obtain ⟨X, hXd⟩ : ∃ X, qn hQ4 q = X := ⟨_, rfl⟩
                  rw [hXd] at hcq hql hqs
                  clear hXd
                  go_wp2
                  try rw [show decide ((q : Int) < 4) = true from decide_eq_true (by omega)]
                  go_loopw [21, 23, 24] (fun x y t wr => ∃ z : Nat, z ≤ 4 ∧ y = .int .u32 ((X / 2 ^ (8 * z) : Nat) : Int) ∧ t = .int .i64 z ∧ Kpt (wr.ownsRow S6 5 1 x (4 * q + z) (cels (outP hQ4 q ++ lowL X z))) ∧ Kpt (Bx wr BH (q4v hQ4)) ∧ Kpt (Below w.heap.size w wr) ∧ Kpt (S6 ≤ wr.heap.size)) (fun _ _ t _ => 4 - (intOf t).toNat)
                  case atStart => exact ⟨0, by omega, by simp, rfl, ⟨by simpa [lowL] using ho.out⟩, hX, hB, hS⟩
                  case round =>
                    obtain ⟨z, hz, rfl, rfl, ho, hX, hB, hS⟩ := hrel
                    by_cases hlz : z < 4
                    · have hy : X / 2 ^ (8 * z) < 4294967296 := Nat.lt_of_le_of_lt (Nat.div_le_self _ _) hql
                      have hys : Kpt (X / 2 ^ (8 * (z + 1)) = X / 2 ^ (8 * z) / 256) := ⟨by rw [Nat.div_div_eq_div_mul, show 8 * (z + 1) = 8 * z + 8 by omega, Nat.pow_add]⟩
                      have hyl : Kpt (lowL X (z + 1) = lowL X z ++ [((X / 2 ^ (8 * z) % 256 : Nat) : Int)]) := ⟨rfl⟩
                      generalize X / 2 ^ (8 * z) = y at hy hys hyl ⊢
                      go_wp2_with (first
                        | (refine (?_ : wpList _ _ _ (Oper.mk (some 207) _ _ _ _ _ :: _) _ _); go_must (refine wpList_append_new rfl (.tmp 203) (.tmp 206) rfl S6 u21 (.slice (some ⟨g4, 0, none⟩) 1 1) (outP hQ4 q ++ lowL X z) [(y : Int) % 256] (4 * q + z) (4 * q + (z + 1)) rfl rfl ho4b.out (own_rd ho4.out) (by simp) (by rw [List.length_append, lowL_length, hpl.out]) (by simp; omega) (by omega) hS4.out ?_; intro g5 cap5 w5 ho5 hg5 hgr5; have hb5 : Kpt (Below w.heap.size w w5) := ⟨hb4.out.grown hgr5.out hb4.out.size (fun e1 e => Nat.le_trans hwS.out (World.ownsRow.lt ho4b.out e1 e).1)⟩; have hX5 : Kpt (Bx w5 BH (q4v hQ4)) := ⟨hX4.out.grown hgr5.out (fun e => by have := (World.ownsRow.lt ho4b.out _ e).1; have := hBS.out; omega)⟩; have hS5 : Kpt (S6 ≤ w5.heap.size) := ⟨Nat.le_trans hS4.out hgr5.out.size⟩; clear hgr5 ho4b ho4 hb4 hX4 hS4))
                        | (refine (?_ : wpList _ _ _ (Oper.mk (some 206) _ _ _ _ _ :: _) _ _); go_must (refine wpList_built rfl 1 [(y : Int) % 256] (by kernel_rfl) rfl (by decide) ?_; intro g4 w4 hg4 ho4 hbe4; have ho4b : Kpt (w4.ownsRow S6 5 1 u21 (4 * q + z) (cels (outP hQ4 q ++ lowL X z))) := ⟨own_of_block ho.out (fun e1 e => hbe4.block e1 (World.ownsRow.lt ho.out e1 e).2)⟩; have hb4 : Kpt (Below w.heap.size w w4) := ⟨hB.out.trans (hbe4.mono hB.out.size)⟩; have hX4 : Kpt (Bx w4 BH (q4v hQ4)) := ⟨hX.out.below hbe4 hX.out.lt⟩; have hS4 : Kpt (S6 ≤ w4.heap.size) := ⟨Nat.le_trans hS.out hbe4.size⟩; replace ho4 := Kpt.mk ho4; clear hbe4 hg4)))
                      go_roundw
                      case rel =>
                        refine ⟨z + 1, by omega, by rw [hys.out]; simp, by simp, ⟨?_⟩, hX5, hb5, hS5⟩
                        have h5 := ho5.out
                        rw [hyl.out, ← List.append_assoc]
                        exact h5
                      case measure => simp [intOf]; omega
                    · obtain rfl : z = 4 := by omega
                      go_wp2
                      go_roundw
                      case rel => exact ⟨q + 1, by omega, by simp, ⟨by rw [hqs.out, show 4 * (q + 1) = 4 * q + 4 by omega]; exact ho.out⟩, hX, hB, hS⟩
                      case measure => simp [intOf]; omega
                · obtain rfl : q = 4 := by omega
                  obtain ⟨gf, capf, he, hgf, _⟩ := own_shape ho.out (by omega)
                  subst he
                  go_wp2
                  go_ret
                  exact ⟨gf, capf, rfl, by have := own_base ho.out hwS.out; rw [hres.out] at this; exact this, hB.out⟩

end Go.Proofs.YtplifodddfjhdaaGreatDoor
