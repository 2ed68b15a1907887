/-
  sess: SessPings' walk.
-/
import Derived.Test.YtdplndlmdhpfaaaEPgs
namespace Go.Proofs.Ytdplndlmdhpfaaa
open Go.RowKit
set_option linter.unusedVariables false
set_option linter.unusedSimpArgs false

theorem RdAt.ltb {w : World} {v : Value} {ds : List Int} (h : RdAt w v ds) (h0 : 0 < ds.length) (g : Nat) (hg : v.ownBlock = some g) : g < w.heap.size := by
  obtain ⟨a, c, rfl, _, _, h3⟩ := h
  rcases h3 with h3 | ⟨b, off, rfl, hc⟩
  · omega
  · simp [Value.ownBlock] at hg
    subst hg
    have := hc 0 (.int .u8 ds[0]) (by simp [cels, h0])
    exact World.block_lt_of_cell? w ⟨b, off + 0, none⟩ this
theorem rd_isrow {w : World} {a : Option Addr} {n c : Nat} {zs : List Int} (h : (a = none ∧ n = 0 ∧ c = 0 ∧ zs = []) ∨ ∃ x, a = some x ∧ n ≤ c ∧ c ≤ maxLen ∧ zs.length = c ∧ (∀ i, i < zs.length → w.cell? (x.add i) = some (.int .u8 (zs.getD i 0))) ∧ ∀ n ∈ zs, (Lit.int .u8 n).wf = true) :
    RdAt w (.slice a n c) (zs.take n) ∧ Bytes (zs.take n) ∧ (zs.take n).length = n ∧ n ≤ maxLen ∧ c ≤ maxLen := by
  rcases h with ⟨rfl, rfl, rfl, rfl⟩ | ⟨x, rfl, h1, h2, h3, h4, h5⟩
  · exact ⟨rd_nil w, Bytes.nil, rfl, by unfold maxLen; omega, by unfold maxLen; omega⟩
  · have hlen : (zs.take n).length = n := by rw [List.length_take]; omega
    have hb : Bytes (zs.take n) := by
      intro j
      rw [List.getD_eq_getElem?_getD]
      cases hj : (zs.take n)[j]? with
      | none => simp
      | some y =>
        have := h5 y (List.mem_of_mem_take (List.mem_of_getElem? hj))
        simp [Lit.wf, IntKind.min, IntKind.max, IntKind.bits, IntKind.signed] at this
        simp only [Option.getD_some]
        omega
    refine ⟨⟨some x, c, by rw [hlen], (fun h => by cases h), by omega, ?_⟩, hb, hlen, by omega, h2⟩
    by_cases h0 : n = 0
    · exact .inl (by omega)
    · have hc0 := h4 0 (by omega)
      obtain ⟨b, off, spot⟩ := x
      have hspot : spot = none := by simpa [Addr.add] using World.cell?_spot hc0
      subst hspot
      refine .inr ⟨b, off, rfl, fun j u hu => ?_⟩
      have hj : j < n := by have := (List.getElem?_eq_some_iff.1 hu).1; simpa [hlen] using this
      have := h4 j (by omega)
      rw [Go.WideShapes.add_plain] at this
      rw [this]
      unfold cels at hu
      rw [List.getElem?_map, List.getElem?_take_of_lt hj, List.getElem?_eq_getElem (by omega)] at hu
      rw [← hu, List.getD_eq_getElem?_getD, List.getElem?_eq_getElem (by omega)]
      rfl

theorem own_new {S m : Nat} {s : Se} {first : Int} (hS : m ≤ S) (b : Nat) (hb : (s.new first).X S b) : m ≤ b := by
  rcases hb with e | e | e | e
  · rw [e]; exact hS
  all_goals simp [Se.new, Value.ownBlock] at e

set_option maxRecDepth 100000 in
set_option maxHeartbeats 8000000 in
theorem pings_false (a : Option Addr) (n c : Nat) (ds : List Int) (tag lun : Int) (w : World) (hrd : RdAt w (.slice a n c) ds) (hn : ds.length = n) (h5 : n ≤ 5000) :
    Calls Try.prog 7 #[.slice a n c, .int .u32 tag, .bool false, .int .u8 lun] w fun e w' => e = .returned (.bool true) ∧ Below w.heap.size w w' := by
  have hA : Kpt (∀ W : World, Calls Try.prog 8 #[] W fun e w' => e = .returned (.bool true) ∧ Below W.heap.size W w') := ⟨awake_any⟩
  have hP : Kpt (∀ W : World, Calls Try.prog 10 #[] W fun e w' => e = .returned (.agg plainS.prm) ∧ Below W.heap.size W w') := ⟨plain_any⟩
  have hN : Kpt (∀ W : World, Calls Try.prog 9 #[.agg plainS.prm, .slice none 0 0, .int .u32 8] W fun e w' => (∃ S, e = .returned (.pointer (some ⟨S, 0, none⟩)) ∧ W.heap.size ≤ S ∧ Ss w' S (plainS.new 8) [] [] []) ∧ Below W.heap.size W w') := ⟨fun W => new_nil plainS 8 W⟩
  have hI : Kpt (∀ W S, Below w.heap.size w W → w.heap.size ≤ S → Ss W S (plainS.new 8) [] [] [] → Calls Try.prog 11 #[.pointer (some ⟨S, 0, none⟩), .agg (pgP false lun tag (.slice a n c)).v] W fun e w' => ∃ gv tv, e = .returned (.tuple #[gv, tv]) ∧ PgOut S (plainS.new 8) false lun tag ds W w' gv tv) := ⟨fun W S hb hS h => in_pg S false lun tag a n c ds W h ⟨hrd.bel hb, fun h0 g hg => ⟨Nat.lt_of_lt_of_le (hrd.ltb h0 g hg) hb.size, fun e => by have := hrd.ltb h0 g hg; have := own_new hS g e; omega⟩⟩ (by omega)⟩
  have hconv : Kpt (∀ W, Below w.heap.size w W → (convert 23 9 (.slice a n c)).run Try.prog W = .ok (.string (strOfNums ds)) W) := ⟨fun W hb => conv_rd (hrd.bel hb)⟩
  have e5 : ¬ (5000 : Int) < n := by omega
  have d5 : decide ((5000 : Int) < n) = false := by simp; omega
  have hone : Kpt (∀ nw, (pgP nw lun tag (.slice a n c)).v.all (·.oneCell') = true) := ⟨fun nw => (Pd.one (p := pgP nw lun tag (.slice a n c)) rfl).2⟩
  clear hrd hn
  go_enter Try.func7, Try.ntmps7
  go_upto_region 8 with (first
    | (go_at_call 8; go_must (refine (hA.out _).mono ?_; rintro e w1 ⟨rfl, hb1⟩; replace hb1 := Kpt.mk hb1))
    | (go_at_call 10; go_must (refine (hP.out _).mono ?_; rintro e w2 ⟨rfl, hb2'⟩; have hb2 := Kpt.mk (hb1.out.trans (hb2'.mono hb1.out.size)); clear hb2'))
    | (go_at_call 9; go_must (refine (hN.out _).mono ?_; rintro e w3 ⟨⟨S, rfl, hSl, hS⟩, hb3'⟩; have hb3 := Kpt.mk (hb2.out.trans (hb3'.mono hb2.out.size)); have hSw := Kpt.mk (Nat.le_trans hb2.out.size hSl); have k3 := Kpt.mk (Lo.start hS); have hBk : Kpt (∀ (W : World) (s3 : Se), St S w3 W (plainS.new 8) s3 → Below w.heap.size w W) := ⟨fun W s3 t => hb3.out.trans (t.fr.below hb3.out.size (fun b hb => own_new hSw.out b hb))⟩; clear hb3' hSl hS))
    | (go_at_call 11; go_must (refine (hI.out _ _ (hBk.out _ _ k5.out.st) hSw.out k5.out.ss).mono ?_; rintro e w7 ⟨gv, tv, rfl, ⟨⟨s3, hS7, hst7, hnx⟩, ⟨ta, tc, rfl⟩, hgv⟩⟩; have hb7 := Kpt.mk (hBk.out _ _ (k5.out.st.trans hst7)); replace hS7 := Kpt.mk hS7; replace hgv := Kpt.mk hgv; replace hnx := Kpt.mk hnx; clear hst7))
    | (refine (?_ : wpList _ _ _ (Oper.mk _ (Op.load 37 _) _ _ _ _ :: _) _ _); go_must (refine wpList_load_bx rfl 37 _ rfl P (pgP false lun tag (.slice a n c)).v rfl k5.out.b0 _ Try.underlying37 rfl szPdu ?_; have hm := h5))
    | (refine (?_ : wpList _ _ _ (Oper.mk _ (Op.store 37 _ _) _ _ _ _ :: _) _ _); go_must (refine wpList_store_bx rfl 37 _ _ rfl P zP.v (pgP false lun tag (.slice a n c)).v rfl rfl k4.out.b0 rfl szPdu (hone.out false) rfl ?_; intro w5 hB5 hg5; have k5 := Kpt.mk (k4.out.put0 hB5 hg5); have c0 := k5.out.b0.cells 0 (by simp [Pd.v]); have f0 := k5.out.b0.free 0; simp [Pd.v, pgP] at c0; have k6 : Kpt (Lo w3 (w5.setCell ⟨P, 0, none⟩ (.int .u8 64)) S (plainS.new 8) (plainS.new 8) [] [] [] [(P, (pgP true lun tag (.slice a n c)).v)]) := ⟨k5.out.put0 (by have := bx_setC (.int .u8 64) k5.out.b0 (j := 0) (by simp [Pd.v]); simpa [Pd.v, pgP] using this) (grown_setCellK _ _ _)⟩; clear hB5 hg5))
    | (refine (?_ : wpList _ _ _ (Oper.mk _ (Op.alloc 37) _ _ _ _ :: _) _ _); go_must (refine wpList_var rfl 37 rfl _ zPdu ?_; intro P w4 hP4 hB4 hb4; have k4 := Kpt.mk (k3.out.add hb4 hP4 hB4); clear hP4 hB4 hb4)))
  clear k3 k4 k5 k6 c0 f0 hA hP hN hI
  have hcv := hconv.out w7 hb7.out
  simp only [if_true, if_false, Bool.false_eq_true] at hnx
  rcases hgv.out with ⟨rfl, ga, gc, rfl⟩ | ⟨ht, g, gc, d, rfl, hgl, hgc, q0, q4, q5, q6, q13, hrd⟩
  · go_wp2_with (go_at_call 13; go_must (refine (next_any _ _ _ _ _ _ hS7.out).mono ?_; rintro e w8 ⟨rfl, hw8⟩; rw [hw8, hnx.out]; clear hw8))
    go_ret
    exact ⟨rfl, hb7.out⟩
  · obtain ⟨da, dc, hdv⟩ := rd_len hrd
    have hcd := conv_rd hrd
    rw [hdv] at hcd q13 hrd
    have hrd2 := Kpt.mk hrd
    clear hrd
    go_upto_region 15 with (go_at_call 13; go_must (refine (next_any _ _ _ _ _ _ hS7.out).mono ?_; rintro e w8 ⟨rfl, hw8⟩; rw [hw8, hnx.out]; clear hw8))
    have hcv2 : ∀ m, (convert 23 9 (.slice a n c)).run Try.prog (w7.drewN m) = .ok (.string (strOfNums ds)) (w7.drewN m) := fun m => hconv.out _ (below_drewN hb7.out m)
    have hcd2 : ∀ m, (convert 23 9 (.slice da ds.length dc)).run Try.prog (w7.drewN m) = .ok (.string (strOfNums ds)) (w7.drewN m) := fun m => conv_rd (w := w7.drewN m) ((show RdAt w7 _ ds from hrd2.out).of_block (fun _ _ => rfl))
    go_quiet (fail)
    go_wp2
    go_ret
    exact ⟨rfl, below_drewN hb7.out _⟩
set_option maxRecDepth 100000 in
set_option maxHeartbeats 8000000 in
theorem pings_true (a : Option Addr) (n c : Nat) (ds : List Int) (tag lun : Int) (w : World) (hrd : RdAt w (.slice a n c) ds) (hn : ds.length = n) (h5 : n ≤ 5000) :
    Calls Try.prog 7 #[.slice a n c, .int .u32 tag, .bool true, .int .u8 lun] w fun e w' => e = .returned (.bool true) ∧ Below w.heap.size w w' := by
  have hA : Kpt (∀ W : World, Calls Try.prog 8 #[] W fun e w' => e = .returned (.bool true) ∧ Below W.heap.size W w') := ⟨awake_any⟩
  have hP : Kpt (∀ W : World, Calls Try.prog 10 #[] W fun e w' => e = .returned (.agg plainS.prm) ∧ Below W.heap.size W w') := ⟨plain_any⟩
  have hN : Kpt (∀ W : World, Calls Try.prog 9 #[.agg plainS.prm, .slice none 0 0, .int .u32 8] W fun e w' => (∃ S, e = .returned (.pointer (some ⟨S, 0, none⟩)) ∧ W.heap.size ≤ S ∧ Ss w' S (plainS.new 8) [] [] []) ∧ Below W.heap.size W w') := ⟨fun W => new_nil plainS 8 W⟩
  have hI : Kpt (∀ W S, Below w.heap.size w W → w.heap.size ≤ S → Ss W S (plainS.new 8) [] [] [] → Calls Try.prog 11 #[.pointer (some ⟨S, 0, none⟩), .agg (pgP true lun tag (.slice a n c)).v] W fun e w' => ∃ gv tv, e = .returned (.tuple #[gv, tv]) ∧ PgOut S (plainS.new 8) true lun tag ds W w' gv tv) := ⟨fun W S hb hS h => in_pg S true lun tag a n c ds W h ⟨hrd.bel hb, fun h0 g hg => ⟨Nat.lt_of_lt_of_le (hrd.ltb h0 g hg) hb.size, fun e => by have := hrd.ltb h0 g hg; have := own_new hS g e; omega⟩⟩ (by omega)⟩
  have hconv : Kpt (∀ W, Below w.heap.size w W → (convert 23 9 (.slice a n c)).run Try.prog W = .ok (.string (strOfNums ds)) W) := ⟨fun W hb => conv_rd (hrd.bel hb)⟩
  have e5 : ¬ (5000 : Int) < n := by omega
  have d5 : decide ((5000 : Int) < n) = false := by simp; omega
  have hone : Kpt (∀ nw, (pgP nw lun tag (.slice a n c)).v.all (·.oneCell') = true) := ⟨fun nw => (Pd.one (p := pgP nw lun tag (.slice a n c)) rfl).2⟩
  clear hrd hn
  go_enter Try.func7, Try.ntmps7
  go_upto_region 8 with (first
    | (go_at_call 8; go_must (refine (hA.out _).mono ?_; rintro e w1 ⟨rfl, hb1⟩; replace hb1 := Kpt.mk hb1))
    | (go_at_call 10; go_must (refine (hP.out _).mono ?_; rintro e w2 ⟨rfl, hb2'⟩; have hb2 := Kpt.mk (hb1.out.trans (hb2'.mono hb1.out.size)); clear hb2'))
    | (go_at_call 9; go_must (refine (hN.out _).mono ?_; rintro e w3 ⟨⟨S, rfl, hSl, hS⟩, hb3'⟩; have hb3 := Kpt.mk (hb2.out.trans (hb3'.mono hb2.out.size)); have hSw := Kpt.mk (Nat.le_trans hb2.out.size hSl); have k3 := Kpt.mk (Lo.start hS); have hBk : Kpt (∀ (W : World) (s3 : Se), St S w3 W (plainS.new 8) s3 → Below w.heap.size w W) := ⟨fun W s3 t => hb3.out.trans (t.fr.below hb3.out.size (fun b hb => own_new hSw.out b hb))⟩; clear hb3' hSl hS))
    | (go_at_call 11; go_must (refine (hI.out _ _ (hBk.out _ _ k6.out.st) hSw.out k6.out.ss).mono ?_; rintro e w7 ⟨gv, tv, rfl, ⟨⟨s3, hS7, hst7, hnx⟩, ⟨ta, tc, rfl⟩, hgv⟩⟩; have hb7 := Kpt.mk (hBk.out _ _ (k6.out.st.trans hst7)); replace hS7 := Kpt.mk hS7; replace hgv := Kpt.mk hgv; replace hnx := Kpt.mk hnx; clear hst7))
    | (refine (?_ : wpList _ _ _ (Oper.mk _ (Op.load 37 _) _ _ _ _ :: _) _ _); go_must (refine wpList_load_bx rfl 37 _ rfl P (pgP true lun tag (.slice a n c)).v rfl k6.out.b0 _ Try.underlying37 rfl szPdu ?_; have hm := h5))
    | (refine (?_ : wpList _ _ _ (Oper.mk _ (Op.store 37 _ _) _ _ _ _ :: _) _ _); go_must (refine wpList_store_bx rfl 37 _ _ rfl P zP.v (pgP false lun tag (.slice a n c)).v rfl rfl k4.out.b0 rfl szPdu (hone.out false) rfl ?_; intro w5 hB5 hg5; have k5 := Kpt.mk (k4.out.put0 hB5 hg5); have c0 := k5.out.b0.cells 0 (by simp [Pd.v]); have f0 := k5.out.b0.free 0; simp [Pd.v, pgP] at c0; have k6 : Kpt (Lo w3 (w5.setCell ⟨P, 0, none⟩ (.int .u8 64)) S (plainS.new 8) (plainS.new 8) [] [] [] [(P, (pgP true lun tag (.slice a n c)).v)]) := ⟨k5.out.put0 (by have := bx_setC (.int .u8 64) k5.out.b0 (j := 0) (by simp [Pd.v]); simpa [Pd.v, pgP] using this) (grown_setCellK _ _ _)⟩; clear hB5 hg5))
    | (refine (?_ : wpList _ _ _ (Oper.mk _ (Op.alloc 37) _ _ _ _ :: _) _ _); go_must (refine wpList_var rfl 37 rfl _ zPdu ?_; intro P w4 hP4 hB4 hb4; have k4 := Kpt.mk (k3.out.add hb4 hP4 hB4); clear hP4 hB4 hb4)))
  clear k3 k4 k5 k6 c0 f0 hA hP hN hI
  have hcv := hconv.out w7 hb7.out
  simp only [if_true, if_false, Bool.false_eq_true] at hnx
  rcases hgv.out with ⟨rfl, ga, gc, rfl⟩ | ⟨ht, g, gc, d, rfl, hgl, hgc, q0, q4, q5, q6, q13, hrd⟩
  · go_wp2_with (go_at_call 13; go_must (refine (next_any _ _ _ _ _ _ hS7.out).mono ?_; rintro e w8 ⟨rfl, hw8⟩; rw [hw8, hnx.out]; clear hw8))
    go_ret
    exact ⟨rfl, hb7.out⟩
  · obtain ⟨da, dc, hdv⟩ := rd_len hrd
    have hcd := conv_rd hrd
    rw [hdv] at hcd q13 hrd
    have hrd2 := Kpt.mk hrd
    clear hrd
    go_upto_region 15 with (go_at_call 13; go_must (refine (next_any _ _ _ _ _ _ hS7.out).mono ?_; rintro e w8 ⟨rfl, hw8⟩; rw [hw8, hnx.out]; clear hw8))
    have hcv2 : ∀ m, (convert 23 9 (.slice a n c)).run Try.prog (w7.drewN m) = .ok (.string (strOfNums ds)) (w7.drewN m) := fun m => hconv.out _ (below_drewN hb7.out m)
    have hcd2 : ∀ m, (convert 23 9 (.slice da ds.length dc)).run Try.prog (w7.drewN m) = .ok (.string (strOfNums ds)) (w7.drewN m) := fun m => conv_rd (w := w7.drewN m) ((show RdAt w7 _ ds from hrd2.out).of_block (fun _ _ => rfl))
    go_quiet (fail)
    go_wp2
    go_ret
    exact ⟨rfl, below_drewN hb7.out _⟩

theorem pings_long (a : Option Addr) (n c : Nat) (tag lun : Int) (now : Bool) (w : World) (h5 : ¬ n ≤ 5000) :
    Calls Try.prog 7 #[.slice a n c, .int .u32 tag, .bool now, .int .u8 lun] w fun e w' => e = .returned (.bool true) ∧ Below w.heap.size w w' := by
  have hA : Kpt (∀ W : World, Calls Try.prog 8 #[] W fun e w' => e = .returned (.bool true) ∧ Below W.heap.size W w') := ⟨awake_any⟩
  have e5 : (5000 : Int) < n := by omega
  have d5 : decide ((5000 : Int) < n) = true := by simp; omega
  go_enter Try.func7, Try.ntmps7
  go_wp2_with (first
    | (go_at_call 8; have m := hb1; go_must (refine (hA.out _).mono ?_; rintro e w2 ⟨rfl, hb2⟩; replace hb2 := Kpt.mk (hb1.out.trans (hb2.mono hb1.out.size)); clear m))
    | (go_at_call 8; go_must (refine (hA.out _).mono ?_; rintro e w1 ⟨rfl, hb1⟩; replace hb1 := Kpt.mk hb1)))
  go_ret
  exact ⟨rfl, hb2.out⟩
end Go.Proofs.Ytdplndlmdhpfaaa
