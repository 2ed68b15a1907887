/-
  Both sides' Select and Sense.
-/
import Derived.Test.YtdojhgapdocngaaMAct
import Derived.Test.YtdojhgapdocngaaMRSelF
import Derived.Test.YtdojhgapdocngaaMRSelT
import Derived.Test.YtdojhgapdocngaaMRSD
import Derived.Test.YtdojhgapdocngaaMRSenB
import Derived.Test.YtdojhgapdocngaaMRSenC
namespace Go.Proofs.Ytdojhgapdocngaa
open Go.RowKit
set_option linter.unusedVariables false
set_option linter.unusedSimpArgs false
set_option maxRecDepth 100000 in
set_option maxHeartbeats 1000000 in
theorem rsel_none (B : Nat) (c : Cm) (a : Option Addr) (k : Nat) (w : World) : Calls Try.prog 13 #[.pointer (some ⟨B, 0, none⟩), .agg c.vals, .slice a 0 k] w fun e w' => e = .returned (.tuple #[.bool false, .agg noS.vals, .bool true]) ∧ Below w.heap.size w w' := by
  have hb := Kpt.mk (Below.refl w.heap.size w)
  go_enter Try.func13, Try.ntmps13
  go_wp2_with (first
      | (have hm := m2; refine wpList_store_bx rfl 42 _ _ rfl bS _ noS.vals rfl rfl OS.out rfl infoS (Sn.vals_one noS) rfl ?_; intro w3 hX_ hg_; replace OC := Kpt.mk (OC.out.grown hg_ (by simp; omega)); replace hb := Kpt.mk (hb.out.trans (bel_own hg_ hb.out.size lS.out)); replace OS := Kpt.mk hX_; replace c1 := cm_c1 OC.out; clear hX_ hg_; clear hm m2; have m3 : Kpt True := ⟨trivial⟩)
      | (have hm := m1; refine wpList_var rfl 42 rfl zeroS zeroSi ?_; intro bS w_S hl_ hX_ h_; have q_C_S : bC < bS := Nat.lt_of_lt_of_le OC.out.lt hl_; have lS := Kpt.mk (Nat.le_trans hb.out.size hl_); replace OC := Kpt.mk (OC.out.below h_ OC.out.lt); replace hb := Kpt.mk (hb.out.trans (h_.mono hb.out.size)); replace c1 := cm_c1 OC.out; have OS := Kpt.mk hX_; clear hl_ hX_ h_; clear hm m1; have m2 : Kpt True := ⟨trivial⟩)
      | (refine wpList_box rfl 36 _ rfl c.vals rfl ?_; intro bC w_C hl_ hX_ h_ _; have lC := Kpt.mk (Nat.le_trans hb.out.size hl_); replace hb := Kpt.mk (hb.out.trans (h_.mono hb.out.size)); have OC := Kpt.mk hX_; have c1 := cm_c1 OC.out; clear hl_ hX_ h_; have m1 : Kpt True := ⟨trivial⟩)
      | fail)
  refine bodyPost_ret (v := .tuple #[.bool false, .agg noS.vals, .bool true]) (by simp [results, Try.results13, asAddr, Act.put, resS_run (s := noS) OS.out]) rfl ⟨rfl, hb.out⟩
theorem rsel_any (bP b off k : Nat) (n s : Vs) (c : Cm) (p : List Int) (w : World) (hP : RPg w bP n s) (hp : Cl w b off p) (h1 : 1 ≤ p.length) (hnc : p.length ≤ k) (hmx : k ≤ maxLen) (hb_ : b < w.heap.size) (hby : ∀ j, 0 ≤ p.getD j 0 ∧ p.getD j 0 ≤ 255) (hne : b ≠ bP) :
    Calls Try.prog 13 #[.pointer (some ⟨bP, 0, none⟩), .agg c.vals, .slice (some ⟨b, off, none⟩) p.length k] w fun e w' => SelP bP n s c.sv (readL n c.lg p) w e w' := by
  cases hlg : c.lg
  · exact rsel_f bP b off k n s c p w hP hp h1 hnc hmx hb_ hby hne hlg
  · exact rsel_t bP b off k n s c p w hP hp h1 hnc hmx hb_ hby hne hlg
theorem sel_both (n s : Vs) (c : Cm) (a : Option Addr) (l k : Nat) (w : World) (h : Pb w a l k) : ∃ (ch : Bool) (sn : Sn) (ok : Bool) (n' s' : Vs),
    (∀ W B, Below w.heap.size w W → w.heap.size ≤ B → Pg W B n s → Calls Try.prog 12 #[.pointer (some ⟨B, 0, none⟩), .agg c.vals, .slice a l k] W fun e w' => e = .returned (.tuple #[.bool ch, .agg sn.vals, .bool ok]) ∧ Pg w' B n' s' ∧ W.grownBy w' (some B)) ∧
    (∀ W B, Below w.heap.size w W → w.heap.size ≤ B → RPg W B n s → Calls Try.prog 13 #[.pointer (some ⟨B, 0, none⟩), .agg c.vals, .slice a l k] W fun e w' => e = .returned (.tuple #[.bool ch, .agg sn.vals, .bool ok]) ∧ RPg w' B n' s' ∧ W.grownBy w' (some B)) := by
  rcases h with ⟨rfl, hr⟩ | ⟨b, off, p, rfl, hcl, hl, h1, hlc, hmx, hb, hby⟩
  · exact ⟨false, noS, true, n, s, fun W B hW hB hP => (select_none B c a k W).mono (fun e w' ⟨h1, h2⟩ => ⟨h1, hP.below' h2, grown_of_below h2⟩), fun W B hW hB hP => (rsel_none B c a k W).mono (fun e w' ⟨h1, h2⟩ => ⟨h1, hP.below' h2, grown_of_below h2⟩)⟩
  · subst hl
    have hcW : ∀ W, Below w.heap.size w W → Cl W b off p := fun W hW => hcl.below hW hb
    have hbW : ∀ W, Below w.heap.size w W → b < W.heap.size := fun W hW => Nat.lt_of_lt_of_le hb hW.size
    obtain ⟨v', r, hE⟩ : ∃ v' r, readL n c.lg p = (v', r) := ⟨_, _, rfl⟩
    cases r with
    | some sn =>
      refine ⟨false, sn, false, n, s, fun W B hW hB hP => (select_bad B n s c b off k p W hP (hcW W hW) h1 hlc hmx (hbW W hW) hby sn (by rw [hE])).mono (fun e w' ⟨h1, h2⟩ => ⟨h1, hP.below' h2, grown_of_below h2⟩), fun W B hW hB hP => (rsel_any B b off k n s c p W hP (hcW W hW) h1 hlc hmx (hbW W hW) hby (by omega)).mono (fun e w' h => ?_)⟩
      rw [hE] at h
      obtain ⟨h1, h2⟩ := h
      exact ⟨h1, hP.below' h2, grown_of_below h2⟩
    | none =>
      refine ⟨neV v' n, noS, true, v', if c.sv then v' else s, fun W B hW hB hP => select_any B n s c b off k p W hP (hcW W hW) h1 hlc hmx (hbW W hW) hby v' hE, fun W B hW hB hP => (rsel_any B b off k n s c p W hP (hcW W hW) h1 hlc hmx (hbW W hW) hby (by omega)).mono (fun e w' h => ?_)⟩
      rw [hE] at h
      exact h
theorem sen_both (n s : Vs) (c : Cm) : ∃ (R : List Int) (sn : Sn) (ok : Bool),
    (∀ W B, Pg W B n s → Calls Try.prog 14 #[.pointer (some ⟨B, 0, none⟩), .agg c.vals] W fun e w' => ∃ v, e = .returned (.tuple #[v, .agg sn.vals, .bool ok]) ∧ RdAt w' v R ∧ Below W.heap.size W w') ∧
    (∀ W B, RPg W B n s → Calls Try.prog 15 #[.pointer (some ⟨B, 0, none⟩), .agg c.vals] W fun e w' => ∃ v, e = .returned (.tuple #[v, .agg sn.vals, .bool ok]) ∧ RdAt w' v R ∧ Below W.heap.size W w') := by
  by_cases hpg : isPg c.pg
  · refine ⟨senL c.lg c.pg c.ct n s, noS, true, fun W B hP => (sense_some B n s c W hP hpg).mono (fun e w' h => ?_), fun W B hP => ?_⟩
    · obtain ⟨g, k, h1, h2, h3, h4⟩ := h
      exact ⟨_, h1, own_rd h3, h4⟩
    · rcases hpg with h | h | h
      · exact rsense_8 B n s c W hP h
      · exact rsense_10 B n s c W hP h
      · exact rsense_63 B n s c W hP h
  · exact ⟨[], pgFault, false, fun W B hP => (sense_no B n s c W hP hpg).mono (fun e w' ⟨h1, h2⟩ => ⟨_, h1, rd_nil w', h2⟩), fun W B hP => (rsense_no B n s c W hP hpg).mono (fun e w' ⟨h1, h2⟩ => ⟨_, h1, rd_nil w', h2⟩)⟩
theorem rd_slice {w : World} {v : Value} {zs : List Int} (h : RdAt w v zs) : ∃ a l c, v = .slice a l c := by
  obtain ⟨a, c, rfl, _⟩ := h
  exact ⟨a, _, c, rfl⟩
theorem exec_conv_rd {w : World} {o : Oper} {a : Act} {v : Value} {zs : List Int} (x : Operand) (ho : o.op = .convert 37 9 x) (hx : a.eval x = v) (h : RdAt w v zs) : (execOp a.eval o).run Try.prog w = .ok (.value (.string (strOfNums zs))) w := by
  unfold execOp
  simp only [ho, hx]
  simp [conv_rd h]
theorem wpList_want {w w1 : World} {v : Value} {ops : Array Oper} {rest : List Oper} {o : Oper} {a : Act} {Q : Exit → Act → World → Prop} (hw : Region.wanted o (yielded ops a.tmps) = true) (he : (execOp a.eval o).run Try.prog w = .ok (.value v) w1)
    (h : wpList Try.prog ops Q rest (a.put o.dst v) w1) : wpList Try.prog ops Q (o :: rest) a w := by
  unfold wpList
  rw [if_pos hw]
  left
  unfold Oper.wp
  rw [he]
  exact h
theorem eq_sn (s : Sn) (w : World) : (Op.equalIn 10000 42 (.agg s.vals) (.agg s.vals)).run Try.prog w = .ok true w := by
  obtain ⟨k, c, i, h, f, b, hf, ic⟩ := s
  rw [run_equalIn_struct (P := Try.prog) w 9999 42 _ _ (by kernel_rfl) (by kernel_rfl)]
  obtain ⟨fs, hfs⟩ : ∃ fs, fs = (Try.prog.fieldsOf 42).toList := ⟨_, rfl⟩
  rw [← hfs]
  simp [Program.fieldsOf, Try.underlying42] at hfs
  subst hfs
  simp [Op.eqFields, Sn.vals, go_sem]
theorem exec_neq_s {W : World} {o : Oper} {a : Act} (x y : Operand) (ho : o.op = .binOp .neq 42 x y 42) (V U : Array Value) (r : Bool) (h : ∀ w : World, (Op.equalIn 10000 42 (.agg V) (.agg U)).run Try.prog w = .ok r w) (hx : a.eval x = .agg V) (hy : a.eval y = .agg U) :
    (execOp a.eval o).run Try.prog W = .ok (.value (.bool (!r))) W := by
  unfold execOp
  simp only [ho, hx, hy]
  simp [run_eqGuard_agg (P := Try.prog) W .neq 42 x y V U (by kernel_rfl), run_neq_struct, h]
end Go.Proofs.Ytdojhgapdocngaa
