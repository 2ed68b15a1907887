/-
  sess: SessForgets' walks.
-/
import Derived.Test.YtdplndlmdhpfaabEWrt
import Derived.Test.YtdplndlmdhpfaabEWnw
import Derived.Deep.DeepCutAuto
namespace Go.Proofs.Ytdplndlmdhpfaab
open Go.RowKit
set_option linter.unusedVariables false
set_option linter.unusedSimpArgs false

set_option maxRecDepth 100000 in
set_option maxHeartbeats 8000000 in
theorem forgets_false (n : Int) (w : World) (hn : 0 ≤ n ∧ n ≤ 255) :
    Calls Try.prog 5 #[.int .u8 n, .bool false] w fun e w' => e = .returned (.bool true) ∧ Below w.heap.size w w' := by
  have hA : Kpt (∀ W : World, Calls Try.prog 6 #[] W fun e w' => e = .returned (.bool true) ∧ Below W.heap.size W w') := ⟨awake_any⟩
  have hP : Kpt (∀ W : World, Calls Try.prog 7 #[] W fun e w' => e = .returned (.agg plainS.prm) ∧ Below W.heap.size W w') := ⟨plain_any⟩
  have hN : Kpt (∀ W : World, Calls Try.prog 8 #[.agg plainS.prm, .slice none 0 0, .int .u32 1] W fun e w' => (∃ S, e = .returned (.pointer (some ⟨S, 0, none⟩)) ∧ W.heap.size ≤ S ∧ Ss w' S (plainS.new 1) [] [] []) ∧ Below W.heap.size W w') := ⟨fun W => new_nil plainS 1 W⟩
  have hR1 : Kpt (∀ W : World, Calls Try.prog 11 #[.int .u32 7, .int .u32 1, .int .u32 n] W fun e w' => e = .returned (.agg (rdP 7 1 n).v) ∧ Below W.heap.size W w') := ⟨fun W => read_any 7 1 n W⟩
  have hR2 : Kpt (∀ W : World, Calls Try.prog 11 #[.int .u32 7, .int .u32 2, .int .u32 0] W fun e w' => e = .returned (.agg (rdP 7 2 0).v) ∧ Below W.heap.size W w') := ⟨fun W => read_any 7 2 0 W⟩
  have hI2 : Kpt (∀ W S (s : Se), s.next = 2 → s.over = false → s.dis = false → Ss W S s [] [] [] → Calls Try.prog 10 #[.pointer (some ⟨S, 0, none⟩), .agg (rdP 7 2 0).v] W fun e w' => ∃ gv tv gs ts s3, e = .returned (.tuple #[gv, tv]) ∧ RdPost S s [] [] (rdP 7 2 0) w' s3 gs ts ∧ St S W w' s s3 ∧ Gots W w' S s3 42 14 gv gs ∧ Gots W w' S s3 60 8 tv ts) := ⟨fun W S s e1 e2 e3 h => in_rd S s [] [] (rdP 7 2 0) W h (by simp) rfl e1.symm e2 rfl e3 rfl rfl (by intro x hx; simp [rdP, zP] at hx; omega)⟩
  have hone : Kpt (∀ a b c, (rdP a b c).v.all (·.oneCell') = true) := ⟨fun a b c => (Pd.one (p := rdP a b c) rfl).2⟩
  have hI1 : Kpt (∀ W S, Ss W S (plainS.new 1) [] [] [] → Calls Try.prog 10 #[.pointer (some ⟨S, 0, none⟩), .agg (rdP 7 1 n).v] W fun e w' => ∃ gv tv gs ts s3, e = .returned (.tuple #[gv, tv]) ∧ RdPost S (plainS.new 1) [] [] (rdP 7 1 n) w' s3 gs ts ∧ St S W w' (plainS.new 1) s3 ∧ Gots W w' S s3 42 14 gv gs ∧ Gots W w' S s3 60 8 tv ts) := ⟨fun W S h => in_rd S (plainS.new 1) [] [] (rdP 7 1 n) W h (by simp) rfl rfl rfl rfl rfl rfl rfl (by intro x hx; simp [rdP, zP] at hx; omega)⟩
  have hwn : IntKind.u32.wrap n = n := by rw [IntKind.wrap_u32]; omega
  go_enter Try.func5, Try.ntmps5
  go_wp2_with (first
    | (go_at_call 6; go_must (refine (hA.out _).mono ?_; rintro e w1 ⟨rfl, hb1⟩; replace hb1 := Kpt.mk hb1))
    | (go_at_call 7; go_must (refine (hP.out _).mono ?_; rintro e w2 ⟨rfl, hb2'⟩; have hb2 := Kpt.mk (hb1.out.trans (hb2'.mono hb1.out.size)); clear hb2'))
    | (go_at_call 8; go_must (refine (hN.out _).mono ?_; rintro e w3 ⟨⟨S, rfl, hSl, hS⟩, hb3'⟩; have hb3 := Kpt.mk (hb2.out.trans (hb3'.mono hb2.out.size)); have hSw := Kpt.mk (Nat.le_trans hb2.out.size hSl); have k3 := Kpt.mk (Lo.start hS); have hBk : Kpt (∀ (W : World) (s3 : Se), St S w3 W (plainS.new 1) s3 → Below w.heap.size w W) := ⟨fun W s3 t => hb3.out.trans (t.fr.below hb3.out.size (fun b hb => own_new hSw.out b hb))⟩; clear hb3' hSl hS))
    | (go_at_call 11; have m := k3; go_must (refine (hR1.out _).mono ?_; rintro e w4 ⟨rfl, hb4⟩; have k4 := Kpt.mk (k3.out.below hb4); clear hb4 m k3))
    | (refine (?_ : wpList _ _ _ (Oper.mk _ (Op.alloc 42) _ _ _ _ :: _) _ _); go_must (refine wpList_var rfl 42 rfl _ zPdu ?_; intro C w5 hC hB hb; have k5 := Kpt.mk (k4.out.add hb hC hB); clear hC hB hb))
    | (refine (?_ : wpList _ _ _ (Oper.mk _ (Op.store 42 _ _) _ _ _ _ :: _) _ _); go_must (refine wpList_store_bx rfl 42 _ _ rfl C zP.v (rdP 7 1 n).v rfl rfl k5.out.b0 rfl szPdu (hone.out 7 1 n) rfl ?_; intro w6 hB hg; have k6 := Kpt.mk (k5.out.put0 hB hg);  clear hB hg))
    | (go_at_call 13; have m := k9; go_must (refine (waits_any _ _ _ _ _ _ k9.out.ss).mono ?_; rintro e wx ⟨rfl, hwx⟩; rw [hwx]; clear hwx m; simp only [List.length_nil]))
    | (go_at_call 13; go_must (refine (waits_any _ _ _ _ _ _ k7.out.ss).mono ?_; rintro e wx ⟨rfl, hwx⟩; rw [hwx]; clear hwx; simp only [List.length_cons, List.length_nil]))
    | (go_at_call 14; have m := k8; go_must (refine (forget_none S _ [] [] [] 7 _ k8.out.ss (by simp) rfl).mono ?_; rintro e w9 ⟨rfl, hb9⟩; have k9 := Kpt.mk (k8.out.below hb9); have t9 := Kpt.mk (t8.out.trans (St.of_below _ hb9)); clear hb9 m))
    | (go_at_call 14; go_must (refine (forget_one S _ [] (rdP 7 1 n).cm [] _ k7.out.ss (.inl rfl)).mono ?_; rintro e w8 ⟨rfl, u1, u2, hs8, ht8⟩; have k8 := Kpt.mk (k7.out.turn hs8 ht8); have t8 := Kpt.mk ht8; clear hs8 ht8))
    | (go_at_call 15; go_must (refine (end_none S _ [] [] [] 7 _ false _ k9.out.ss rfl (by simp) rfl).mono ?_; rintro e w10 ⟨rfl, hb10⟩; have k10 := Kpt.mk (k9.out.below hb10); have t10 := Kpt.mk (t9.out.trans (St.of_below _ hb10)); clear hb10))
    | (go_at_call 11; go_must (refine (hR2.out _).mono ?_; rintro e w14 ⟨rfl, hb14⟩; have k14 := Kpt.mk (k10.out.below hb14); clear hb14))
    | (go_at_call 10; have m := k14; go_must (refine (hI2.out _ S _ rfl rfl rfl k14.out.ss).mono ?_; rintro e w15 ⟨gv2, tv2, gs2, ts2, s15, rfl, ⟨rfl, x1, x2, x3, x4, rfl, hS15, rfl, _, _⟩, hst15, _, hT15⟩; obtain ⟨tg2, tc2, rfl, _, _, _⟩ := hT15.own.one; have hb15 := Kpt.mk (hBk.out _ _ (k14.out.st.trans hst15)); clear m hS15 hst15 hT15))
    | (go_at_call 10; go_must (refine (hI1.out _ _ k6.out.ss).mono ?_; rintro e w7 ⟨gv, tv, gs, ts, s7, rfl, ⟨rfl, y1, y2, y3, y4, rfl, hS7, rfl, _, _⟩, hst7, _, hT7⟩; obtain ⟨tg, tc, rfl, _, _, _⟩ := hT7.own.one; have k7 := Kpt.mk (k6.out.turn hS7 hst7); clear hS7 hst7 hT7))
    | (refine (?_ : wpList _ _ _ (Oper.mk _ (Op.load 42 _) _ _ _ _ :: _) _ _); go_must (refine wpList_load_bx rfl 42 _ rfl C (rdP 7 1 n).v rfl k6.out.b0 _ Try.underlying42 rfl szPdu ?_; have hm := hn)))
  go_ret
  exact ⟨rfl, hb15.out⟩

def wrP (n : Int) : Pd := { rdP 7 1 n with fl := 161, w0 := 32 + n }
def dtP (x : Int) (v : Value) : Pd := { zP with op := 5, fl := 128, tg := 7, w0 := x, da := v }
set_option maxRecDepth 100000 in
set_option maxHeartbeats 8000000 in
theorem forgets_true (n : Int) (w : World) (hn : 0 ≤ n ∧ n ≤ 255) :
    Calls Try.prog 5 #[.int .u8 n, .bool true] w fun e w' => e = .returned (.bool true) ∧ Below w.heap.size w w' := by
  have hA : Kpt (∀ W : World, Calls Try.prog 6 #[] W fun e w' => e = .returned (.bool true) ∧ Below W.heap.size W w') := ⟨awake_any⟩
  have hP : Kpt (∀ W : World, Calls Try.prog 7 #[] W fun e w' => e = .returned (.agg plainS.prm) ∧ Below W.heap.size W w') := ⟨plain_any⟩
  have hN : Kpt (∀ W : World, Calls Try.prog 8 #[.agg plainS.prm, .slice none 0 0, .int .u32 1] W fun e w' => (∃ S, e = .returned (.pointer (some ⟨S, 0, none⟩)) ∧ W.heap.size ≤ S ∧ Ss w' S (plainS.new 1) [] [] []) ∧ Below W.heap.size W w') := ⟨fun W => new_nil plainS 1 W⟩
  have hR1 : Kpt (∀ W : World, Calls Try.prog 11 #[.int .u32 7, .int .u32 1, .int .u32 n] W fun e w' => e = .returned (.agg (rdP 7 1 n).v) ∧ Below W.heap.size W w') := ⟨fun W => read_any 7 1 n W⟩
  have hR2 : Kpt (∀ W : World, Calls Try.prog 11 #[.int .u32 7, .int .u32 2, .int .u32 0] W fun e w' => e = .returned (.agg (rdP 7 2 0).v) ∧ Below W.heap.size W w') := ⟨fun W => read_any 7 2 0 W⟩
  have hI2 : Kpt (∀ W S (s : Se), s.next = 2 → s.over = false → s.dis = false → Ss W S s [] [] [] → Calls Try.prog 10 #[.pointer (some ⟨S, 0, none⟩), .agg (rdP 7 2 0).v] W fun e w' => ∃ gv tv gs ts s3, e = .returned (.tuple #[gv, tv]) ∧ RdPost S s [] [] (rdP 7 2 0) w' s3 gs ts ∧ St S W w' s s3 ∧ Gots W w' S s3 42 14 gv gs ∧ Gots W w' S s3 60 8 tv ts) := ⟨fun W S s e1 e2 e3 h => in_rd S s [] [] (rdP 7 2 0) W h (by simp) rfl e1.symm e2 rfl e3 rfl rfl (by intro x hx; simp [rdP, zP] at hx; omega)⟩
  have hone : Kpt (∀ a b c, (rdP a b c).v.all (·.oneCell') = true) := ⟨fun a b c => (Pd.one (p := rdP a b c) rfl).2⟩
  have hI1 : Kpt (∀ W S, Ss W S (plainS.new 1) [] [] [] → Calls Try.prog 10 #[.pointer (some ⟨S, 0, none⟩), .agg (wrP n).v] W fun e w' => ∃ gv tv gs ts s3, e = .returned (.tuple #[gv, tv]) ∧ WrPost S (plainS.new 1) [] (wrP n) (32 + n) w' s3 gs ts ∧ St S W w' (plainS.new 1) s3 ∧ Gots W w' S s3 42 14 gv gs ∧ Gots W w' S s3 60 8 tv ts) := ⟨fun W S h => in_wr S (plainS.new 1) [] (wrP n) (32 + n) W h (by simp) rfl rfl rfl rfl rfl rfl rfl (by intro x hx; simp [wrP, rdP, zP] at hx; omega) ⟨by show 1 ≤ 32 + n; omega, by show 32 + n ≤ 1048576; omega⟩ (by show 32 + n = min (max 65536 1) (32 + n - 0); omega) (by omega)⟩
  have hwn : IntKind.u32.wrap n = n := by rw [IntKind.wrap_u32]; omega
  have hwn2 : IntKind.u32.wrap (32 + n) = 32 + n := by rw [IntKind.wrap_u32]; omega
  go_enter Try.func5, Try.ntmps5
  go_upto_region 12 with (first
    | (go_at_call 6; go_must (refine (hA.out _).mono ?_; rintro e w1 ⟨rfl, hb1⟩; replace hb1 := Kpt.mk hb1))
    | (go_at_call 7; go_must (refine (hP.out _).mono ?_; rintro e w2 ⟨rfl, hb2'⟩; have hb2 := Kpt.mk (hb1.out.trans (hb2'.mono hb1.out.size)); clear hb2'))
    | (go_at_call 8; go_must (refine (hN.out _).mono ?_; rintro e w3 ⟨⟨S, rfl, hSl, hS⟩, hb3'⟩; have hb3 := Kpt.mk (hb2.out.trans (hb3'.mono hb2.out.size)); have hSw := Kpt.mk (Nat.le_trans hb2.out.size hSl); have k3 := Kpt.mk (Lo.start hS); have hBk : Kpt (∀ (W : World) (s3 : Se), St S w3 W (plainS.new 1) s3 → Below w.heap.size w W) := ⟨fun W s3 t => hb3.out.trans (t.fr.below hb3.out.size (fun b hb => own_new hSw.out b hb))⟩; clear hb3' hSl hS))
    | (go_at_call 11; have m := k3; go_must (refine (hR1.out _).mono ?_; rintro e w4 ⟨rfl, hb4⟩; have k4 := Kpt.mk (k3.out.below hb4); clear hb4 m k3))
    | (refine (?_ : wpList _ _ _ (Oper.mk _ (Op.alloc 42) _ _ _ _ :: _) _ _); go_must (refine wpList_var rfl 42 rfl _ zPdu ?_; intro C w5 hC hB hb; have k5 := Kpt.mk (k4.out.add hb hC hB); clear hC hB hb))
    | (refine (?_ : wpList _ _ _ (Oper.mk _ (Op.store 42 _ _) _ _ _ _ :: _) _ _); go_must (refine wpList_store_bx rfl 42 _ _ rfl C zP.v (rdP 7 1 n).v rfl rfl k5.out.b0 rfl szPdu (hone.out 7 1 n) rfl ?_; intro w6 hB hg; have k6 := Kpt.mk (k5.out.put0 hB hg); have c1 := k6.out.b0.cells 1 (by simp [Pd.v]); have f1 := k6.out.b0.free 1; simp [Pd.v] at c1; have k6a : Kpt (Lo w3 (w6.setCell ⟨C, 1, none⟩ (.int .u8 161)) S (plainS.new 1) (plainS.new 1) [] [] [] [(C, ({ rdP 7 1 n with fl := 161 } : Pd).v)]) := ⟨k6.out.put0 (by have := bx_setC (.int .u8 161) k6.out.b0 (j := 1) (by simp [Pd.v]); simpa [Pd.v] using this) (grown_setCellK _ _ _)⟩; have c6 := k6a.out.b0.cells 6 (by simp [Pd.v]); have f6 := k6a.out.b0.free 6; simp [Pd.v] at c6; have k6b : Kpt (Lo w3 ((w6.setCell ⟨C, 1, none⟩ (.int .u8 161)).setCell ⟨C, 6, none⟩ (.int .u32 (32 + n))) S (plainS.new 1) (plainS.new 1) [] [] [] [(C, (wrP n).v)]) := ⟨k6a.out.put0 (by have := bx_setC (.int .u32 (32 + n)) k6a.out.b0 (j := 6) (by simp [Pd.v]); simpa [Pd.v, wrP] using this) (grown_setCellK _ _ _)⟩; clear hB hg))
    | (go_at_call 13; have m := k9; go_must (refine (waits_any _ _ _ _ _ _ k9.out.ss).mono ?_; rintro e wx ⟨rfl, hwx⟩; rw [hwx]; clear hwx m; simp only [List.length_nil]))
    | (go_at_call 13; go_must (refine (waits_any _ _ _ _ _ _ k7.out.ss).mono ?_; rintro e wx ⟨rfl, hwx⟩; rw [hwx]; clear hwx; simp only [List.length_cons, List.length_nil]))
    | (go_at_call 14; have m := k8; go_must (refine (forget_none S _ [] [] [] 7 _ k8.out.ss (by simp) rfl).mono ?_; rintro e w9 ⟨rfl, hb9⟩; have k9 := Kpt.mk (k8.out.below hb9); have t9 := Kpt.mk (t8.out.trans (St.of_below _ hb9)); clear hb9 m))
    | (go_at_call 14; go_must (refine (forget_one S _ [] (wrP n).cm [_] _ k7.out.ss (.inr ⟨_, rfl, rfl⟩)).mono ?_; rintro e w8 ⟨rfl, u1, u2, hs8, ht8⟩; have k8 := Kpt.mk (k7.out.turn hs8 ht8); have t8 := Kpt.mk ht8; clear hs8 ht8))
    | (go_at_call 15; go_must (refine (end_none S _ [] [] [] 7 _ false _ k9.out.ss rfl (by simp) rfl).mono ?_; rintro e w10 ⟨rfl, hb10⟩; have k10 := Kpt.mk (k9.out.below hb10); have t10 := Kpt.mk (t9.out.trans (St.of_below _ hb10)); clear hb10))
    | (go_at_call 10; go_must (refine (hI1.out _ _ k6b.out.ss).mono ?_; rintro e w7 ⟨gv, tv, gs, ts, s7, rfl, ⟨rfl, y1, y2, y3, y4, y5, rfl, hS7, rfl⟩, hst7, hG7, hT7⟩; obtain ⟨g, gc, rfl, hgl, hgc, hgcell⟩ := hG7.own.one; have gx : ¬ ((plainS.new 1).wr y1 y2 y3).X S g := (hG7.off g rfl).1; have g6 : w7.cell? ⟨g, 6, none⟩ = some (.int .u32 1) := hgcell 6 _ rfl; obtain ⟨ta, tc, rfl⟩ := hT7.own.none; have k7 := Kpt.mk (k6b.out.turn hS7 hst7); have hgk : Kpt (∀ (W : World) (s9 : Se), St S w7 W ((plainS.new 1).wr y1 y2 y3) s9 → W.cell? ⟨g, 6, none⟩ = some (.int .u32 1)) := ⟨fun W s9 t => (World.cell?_of_block (a := ⟨g, 6, none⟩) (t.fr.block g hgl gx)).trans g6⟩; have l7 := Kpt.mk (Lo.start hS7); clear hS7 hst7 hT7 hG7 hgcell g6))
    | (refine (?_ : wpList _ _ _ (Oper.mk _ (Op.load 42 _) _ _ _ _ :: _) _ _); go_must (refine wpList_load_bx rfl 42 _ rfl C (wrP n).v rfl k6b.out.b0 _ Try.underlying42 rfl szPdu ?_; have hm := hn)))
  have g10 := hgk.out _ _ t10.out
  obtain ⟨s4, k11, n4, o4, d4⟩ : ∃ s4 : Se, Kpt (Lo w3 w10 S (plainS.new 1) s4 [] [] [] [(C, (wrP n).v)]) ∧ s4.next = 2 ∧ s4.over = false ∧ s4.dis = false := ⟨_, k10, rfl, rfl, rfl⟩
  clear hA hP hN hR1 hI1 hgk t8 t9 t10 k5 k6 k6a k6b k7 k8 k9 k10 l7 c1 f1 c6 f6 hwn hwn2 hone k4
  replace n4 := Kpt.mk n4
  replace o4 := Kpt.mk o4
  replace d4 := Kpt.mk d4
  obtain ⟨M, hM⟩ : ∃ M : Nat, (M : Int) = 32 + n := ⟨(32 + n).toNat, by omega⟩
  have hM2 : M ≤ 1000 := by omega
  have hMK := Kpt.mk hM
  clear hM
  have hz := zPdu
  go_cut [9] from 66 to 76 (fun t9 wc => ∃ (D mb : Nat), t9 = .pointer (some ⟨D, 0, none⟩) ∧ Kpt (Lo w3 wc S (plainS.new 1) s4 [] [] [] [(D, (dtP 1 (.slice (some ⟨mb, 0, none⟩) M M)).v), (C, (wrP n).v)]))
  case first =>
    refine wp_region_any (by kernel_rfl) ?_
    refine wpAny_of_C (C := fun W => W.cell? ⟨g, 6, none⟩ = some (.int .u32 1)) _ _ _ _ ?_
    refine wpAnyC_take 0 (.slice (some ⟨g, 0, none⟩) 1 gc) rfl (by kernel_rfl) (by kernel_rfl) (by kernel_rfl) (fun _ _ _ h => h) (wanted_free rfl _) (fun W hW => by go_simp) ?_
    try simp only [Act.put, List.getElem_toArray, List.getElem_cons_succ, List.getElem_cons_zero, List.setIfInBounds_toArray, List.set_cons_succ, List.set_cons_zero]
    refine wpAnyC_take 1 (.pointer (some ⟨g, 0, none⟩)) rfl (by kernel_rfl) (by kernel_rfl) (by kernel_rfl) (fun _ _ _ h => h) (wanted_free rfl _) (fun W hW => by go_simp) ?_
    try simp only [Act.put, List.getElem_toArray, List.getElem_cons_succ, List.getElem_cons_zero, List.setIfInBounds_toArray, List.set_cons_succ, List.set_cons_zero]
    refine wpAnyC_take 2 (.pointer (some ⟨g, 6, none⟩)) rfl (by kernel_rfl) (by kernel_rfl) (by kernel_rfl) (fun _ _ _ h => h) (wanted_free rfl _) (fun W hW => by go_simp) ?_
    try simp only [Act.put, List.getElem_toArray, List.getElem_cons_succ, List.getElem_cons_zero, List.setIfInBounds_toArray, List.set_cons_succ, List.set_cons_zero]
    refine wpAnyC_take 3 (.pointer (some ⟨g, 6, none⟩)) rfl (by kernel_rfl) (by kernel_rfl) (by kernel_rfl) (fun _ _ _ h => h) (wanted_free rfl _) (fun W hW => by go_simp) ?_
    try simp only [Act.put, List.getElem_toArray, List.getElem_cons_succ, List.getElem_cons_zero, List.setIfInBounds_toArray, List.set_cons_succ, List.set_cons_zero]
    refine wpAnyC_take 4 (.int .u32 1) rfl (by kernel_rfl) (by kernel_rfl) (by kernel_rfl) (fun _ _ _ h => h) (wanted_free rfl _) (fun W hW => by have c := hW; go_simp) ?_
    try simp only [Act.put, List.getElem_toArray, List.getElem_cons_succ, List.getElem_cons_zero, List.setIfInBounds_toArray, List.set_cons_succ, List.set_cons_zero]
    refine wpAnyC_take 5 (.agg #[.int .u32 1, .int .u32 0, .int .u32 0, .int .u32 0, .int .u32 0, .int .u32 0, .int .u32 0]) rfl (by kernel_rfl) (by kernel_rfl) (by kernel_rfl) (fun _ _ _ h => h) (wanted_free rfl _) (fun W hW => by go_simp) ?_
    try simp only [Act.put, List.getElem_toArray, List.getElem_cons_succ, List.getElem_cons_zero, List.setIfInBounds_toArray, List.set_cons_succ, List.set_cons_zero]
    refine wpAnyC_take 6 (.int .u8 n) rfl (by kernel_rfl) (by kernel_rfl) (by kernel_rfl) (fun _ _ _ h => h) (wanted_free rfl _) (fun W hW => by go_simp) ?_
    try simp only [Act.put, List.getElem_toArray, List.getElem_cons_succ, List.getElem_cons_zero, List.setIfInBounds_toArray, List.set_cons_succ, List.set_cons_zero]
    refine wpAnyC_take 7 (.int .i64 n) rfl (by kernel_rfl) (by kernel_rfl) (by kernel_rfl) (fun _ _ _ h => h) (wanted_free rfl _) (fun W hW => by go_simp; first | omega | (rw [IntKind.wrap_i64]; omega)) ?_
    try simp only [Act.put, List.getElem_toArray, List.getElem_cons_succ, List.getElem_cons_zero, List.setIfInBounds_toArray, List.set_cons_succ, List.set_cons_zero]
    refine wpAnyC_take 8 (.int .i64 M) rfl (by kernel_rfl) (by kernel_rfl) (by kernel_rfl) (fun _ _ _ h => h) (wanted_free rfl _) (fun W hW => by have := hMK.out; go_simp; first | omega | (rw [IntKind.wrap_i64]; omega)) ?_
    try simp only [Act.put, List.getElem_toArray, List.getElem_cons_succ, List.getElem_cons_zero, List.setIfInBounds_toArray, List.set_cons_succ, List.set_cons_zero]
    have k12 := Kpt.mk k11.out.drew
    obtain ⟨W0, hW0⟩ : ∃ W, W = w10.drew := ⟨_, rfl⟩
    have g0 : W0.cell? ⟨g, 6, none⟩ = some (.int .u32 1) := by rw [hW0]; exact g10
    have hgl0 : Kpt (g < W0.heap.size) := ⟨World.block_lt_of_cell? W0 ⟨g, 6, none⟩ g0⟩
    rw [← hW0] at k12
    refine wpAnyC_world hW0 ?_
    clear hW0
    refine wpAnyC_two 9 11 (g0) rfl rfl (by kernel_rfl) (wanted_free rfl _) (wanted_free rfl _) (fun KA hKA => ?_) (fun KA hKA => ?_)
    · refine wp_made (.tmp 74) (.tmp 74) rfl M rfl rfl (by omega) ?_
      intro mb W1 hbg hob hbb
      have k13 := Kpt.mk (k12.out.below hbb)
      have g1 : W1.cell? ⟨g, 6, none⟩ = some (.int .u32 1) := (hbb.cell (p := ⟨g, 6, none⟩) (World.block_lt_of_cell? _ ⟨g, 6, none⟩ g0)).trans g0
      clear hob hbb hbg
      refine hKA _ _ ?_
      clear hKA KA
      try simp only [Act.put, List.getElem_toArray, List.getElem_cons_succ, List.getElem_cons_zero, List.setIfInBounds_toArray, List.set_cons_succ, List.set_cons_zero]
      refine wpAnyC_take 10 (.agg (dtP 1 (.slice (some ⟨mb, 0, none⟩) M M)).v) rfl (by kernel_rfl) (by kernel_rfl) (by kernel_rfl) (fun _ _ _ h => h) (wanted_free rfl _) (fun W hW => by unfold dtP Pd.v zP; go_simp) ?_
      try simp only [Act.put, List.getElem_toArray, List.getElem_cons_succ, List.getElem_cons_zero, List.setIfInBounds_toArray, List.set_cons_succ, List.set_cons_zero]
      refine wpAnyC_one 11 (g1) rfl (by kernel_rfl) (wanted_free rfl _) (fun KA hKA => ?_)
      unfold Oper.wp
      rw [info_zero hz _ _ _ rfl]
      refine hKA _ (W1.alloc (.cells zP.v 42)) ?_
      clear hKA KA
      have hbA : Below W1.heap.size W1 (W1.alloc (.cells zP.v 42)) := (Below.refl _ _).alloc (Nat.le_refl _) _
      have k14 := Kpt.mk (k13.out.add hbA (Nat.le_refl _) (bx_new W1 zP.v 42))
      have g2 : (W1.alloc (.cells zP.v 42)).cell? ⟨g, 6, none⟩ = some (.int .u32 1) := (hbA.cell (p := ⟨g, 6, none⟩) (World.block_lt_of_cell? _ ⟨g, 6, none⟩ g1)).trans g1
      have hDg : Kpt (g ≠ W1.heap.size) := ⟨fun e => by have := World.block_lt_of_cell? _ ⟨g, 6, none⟩ g1; simp only at this; omega⟩
      obtain ⟨D, hD⟩ : ∃ D, D = W1.heap.size := ⟨_, rfl⟩
      rw [← hD] at k14 hDg ⊢
      obtain ⟨W2, hWn⟩ : ∃ x, x = W1.alloc (.cells zP.v 42) := ⟨_, rfl⟩
      rw [← hWn] at k14 g2 ⊢
      clear hD hWn hbA
      try simp only [Act.put, List.getElem_toArray, List.getElem_cons_succ, List.getElem_cons_zero, List.setIfInBounds_toArray, List.set_cons_succ, List.set_cons_zero]
      refine wpAnyC_one 12 (g2) rfl (by kernel_rfl) (wanted_free rfl _) (fun KA hKA => ?_)
      refine wp_store_bx 42 _ _ rfl D zP.v (dtP 1 (.slice (some ⟨mb, 0, none⟩) M M)).v rfl rfl k14.out.b0 rfl szPdu (Pd.one (p := dtP 1 (.slice (some ⟨mb, 0, none⟩) M M)) rfl).2 ?_
      intro W5 hB5 hg5
      have k15 := Kpt.mk (k14.out.put0 hB5 hg5)
      have g3 : W5.cell? ⟨g, 6, none⟩ = some (.int .u32 1) := (far_cell hg5 ⟨g, 6, none⟩ (World.block_lt_of_cell? _ ⟨g, 6, none⟩ g2) (fun e => hDg.out (by injection e with e; exact e.symm))).trans g2
      clear hB5 hg5
      refine hKA _ _ ?_
      clear hKA KA
      try simp only [Act.put, List.getElem_toArray, List.getElem_cons_succ, List.getElem_cons_zero, List.setIfInBounds_toArray, List.set_cons_succ, List.set_cons_zero]
      refine wpAnyC_done (g3) (by kernel_rfl) ?_
      go_wp2_with fail
      go_meet
      exact ⟨D, mb, rfl, k15⟩
    · unfold Oper.wp
      rw [info_zero hz _ _ _ rfl]
      refine hKA _ (W0.alloc (.cells zP.v 42)) ?_
      clear hKA KA
      have hbA : Below W0.heap.size W0 (W0.alloc (.cells zP.v 42)) := (Below.refl _ _).alloc (Nat.le_refl _) _
      have k13 := Kpt.mk (k12.out.add hbA (Nat.le_refl _) (bx_new W0 zP.v 42))
      have g1 : (W0.alloc (.cells zP.v 42)).cell? ⟨g, 6, none⟩ = some (.int .u32 1) := (hbA.cell (p := ⟨g, 6, none⟩) (World.block_lt_of_cell? _ ⟨g, 6, none⟩ g0)).trans g0
      have hDg : Kpt (g ≠ W0.heap.size) := ⟨fun e => by have := World.block_lt_of_cell? _ ⟨g, 6, none⟩ g0; simp only at this; omega⟩
      obtain ⟨D, hD⟩ : ∃ D, D = W0.heap.size := ⟨_, rfl⟩
      rw [← hD] at k13 hDg ⊢
      obtain ⟨W1, hWn⟩ : ∃ x, x = W0.alloc (.cells zP.v 42) := ⟨_, rfl⟩
      rw [← hWn] at k13 g1 ⊢
      clear hD hWn hbA
      try simp only [Act.put, List.getElem_toArray, List.getElem_cons_succ, List.getElem_cons_zero, List.setIfInBounds_toArray, List.set_cons_succ, List.set_cons_zero]
      refine wpAnyC_one 9 (g1) rfl (by kernel_rfl) (wanted_free rfl _) (fun KA hKA => ?_)
      refine wp_made (.tmp 74) (.tmp 74) rfl M rfl rfl (by omega) ?_
      intro mb W2 hbg hob hbb
      have k14 := Kpt.mk (k13.out.below hbb)
      have g2 : W2.cell? ⟨g, 6, none⟩ = some (.int .u32 1) := (hbb.cell (p := ⟨g, 6, none⟩) (World.block_lt_of_cell? _ ⟨g, 6, none⟩ g1)).trans g1
      clear hob hbb hbg
      refine hKA _ _ ?_
      clear hKA KA
      try simp only [Act.put, List.getElem_toArray, List.getElem_cons_succ, List.getElem_cons_zero, List.setIfInBounds_toArray, List.set_cons_succ, List.set_cons_zero]
      refine wpAnyC_take 10 (.agg (dtP 1 (.slice (some ⟨mb, 0, none⟩) M M)).v) rfl (by kernel_rfl) (by kernel_rfl) (by kernel_rfl) (fun _ _ _ h => h) (wanted_free rfl _) (fun W hW => by unfold dtP Pd.v zP; go_simp) ?_
      try simp only [Act.put, List.getElem_toArray, List.getElem_cons_succ, List.getElem_cons_zero, List.setIfInBounds_toArray, List.set_cons_succ, List.set_cons_zero]
      refine wpAnyC_one 12 (g2) rfl (by kernel_rfl) (wanted_free rfl _) (fun KA hKA => ?_)
      refine wp_store_bx 42 _ _ rfl D zP.v (dtP 1 (.slice (some ⟨mb, 0, none⟩) M M)).v rfl rfl k14.out.b0 rfl szPdu (Pd.one (p := dtP 1 (.slice (some ⟨mb, 0, none⟩) M M)) rfl).2 ?_
      intro W5 hB5 hg5
      have k15 := Kpt.mk (k14.out.put0 hB5 hg5)
      have g3 : W5.cell? ⟨g, 6, none⟩ = some (.int .u32 1) := (far_cell hg5 ⟨g, 6, none⟩ (World.block_lt_of_cell? _ ⟨g, 6, none⟩ g2) (fun e => hDg.out (by injection e with e; exact e.symm))).trans g2
      clear hB5 hg5
      refine hKA _ _ ?_
      clear hKA KA
      try simp only [Act.put, List.getElem_toArray, List.getElem_cons_succ, List.getElem_cons_zero, List.setIfInBounds_toArray, List.set_cons_succ, List.set_cons_zero]
      refine wpAnyC_done (g3) (by kernel_rfl) ?_
      go_wp2_with fail
      go_meet
      exact ⟨D, mb, rfl, k15⟩
  case rest =>
    obtain ⟨D, mb, rfl, k16⟩ := hcut
    obtain ⟨s5, hs5⟩ : ∃ s5 : Se, s5 = { s4 with stat := (s4.stat + 1) % 4294967296 } := ⟨_, rfl⟩
    have hI3 : Kpt (∀ W, Ss W S s4 [] [] [] → Calls Try.prog 10 #[.pointer (some ⟨S, 0, none⟩), .agg (dtP 1 (.slice (some ⟨mb, 0, none⟩) M M)).v] W fun e w' => ∃ v d, e = .returned (.tuple #[v, .slice none 0 0]) ∧ Ss w' S s5 [] [] [] ∧ St S W w' s4 s5 ∧ Ou W w' S s5 v 42 ((rej 9 d).num s4).v ∧ ∃ zs, RdAt w' d zs) := ⟨fun W h => in_data S s4 [] [] (dtP 1 (.slice (some ⟨mb, 0, none⟩) M M)) _ _ _ W h rfl o4.out rfl (by omega) (by intro x hx; simp [dtP, zP] at hx; omega) (by rw [n4.out]; decide) s5 hs5⟩
    have n5 : Kpt (s5.next = 2) := ⟨by rw [hs5]; exact n4.out⟩
    have o5 : Kpt (s5.over = false) := ⟨by rw [hs5]; exact o4.out⟩
    have d5 : Kpt (s5.dis = false) := ⟨by rw [hs5]; exact d4.out⟩
    clear hs5 k11
    go_wp2_with (first
      | (go_at_call 11; go_must (refine (hR2.out _).mono ?_; rintro e w14 ⟨rfl, hb14⟩; have k14 := Kpt.mk (k17.out.below hb14); clear hb14))
      | (go_at_call 10; have m := k14; go_must (refine (hI2.out _ S _ n5.out o5.out d5.out k14.out.ss).mono ?_; rintro e w15 ⟨gv2, tv2, gs2, ts2, s15, rfl, ⟨rfl, x1, x2, x3, x4, rfl, hS15, rfl, _, _⟩, hst15, _, hT15⟩; obtain ⟨tg2, tc2, rfl, _, _, _⟩ := hT15.own.one; have hb15 := Kpt.mk (hBk.out _ _ (k14.out.st.trans hst15)); clear m hS15 hst15 hT15))
      | (go_at_call 10; go_must (refine (hI3.out _ k16.out.ss).mono ?_; rintro e w12 ⟨v, d, rfl, hs12, ht12, ho12, zs, hzs⟩; obtain ⟨xa, xc, hxd⟩ := rd_len hzs; obtain ⟨b, hv, _, hh, _⟩ := ho12.at_; have hO := Bx.oneOwn (k := 14) hh (Pd.one (p := (rej 9 d).num s4) hxd); obtain ⟨g', gc', hv2, hgl', hgc', hc⟩ := hO.one; rw [← hv] at hv2; subst hv2; have q0 : w12.cell? ⟨g', 0, none⟩ = some (.int .u8 63) := hc 0 _ rfl; have q2 : w12.cell? ⟨g', 2, none⟩ = some (.int .u8 9) := hc 2 _ rfl; have k17 := Kpt.mk (k16.out.turn hs12 ht12); clear hs12 ht12 ho12 hzs hh hO hc hv hxd))
      | (refine (?_ : wpList _ _ _ (Oper.mk _ (Op.load 42 _) _ _ _ _ :: _) _ _); go_must (refine wpList_load_bx rfl 42 _ rfl D (dtP 1 (.slice (some ⟨mb, 0, none⟩) M M)).v rfl k16.out.b0 _ Try.underlying42 rfl szPdu ?_; have hm16 := hn)))
    go_ret
    exact ⟨rfl, hb15.out⟩
end Go.Proofs.Ytdplndlmdhpfaab
