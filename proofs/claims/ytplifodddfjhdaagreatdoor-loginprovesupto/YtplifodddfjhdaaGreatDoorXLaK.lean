/-
  login: keys that are answered, one behind the other.
-/
import Derived.Test.YtplifodddfjhdaaGreatDoorXLgH
import Derived.Laws.AppendOwnNone
namespace Go.Proofs.YtplifodddfjhdaaGreatDoor
open Go.RowKit
set_option linter.unusedVariables false
set_option linter.unusedSimpArgs false

abbrev Prs := List (ByteArray × ByteArray)
/-- What keys come to: the answers, whether all are good, the login behind. -/
def akF (F : Lg → ByteArray × ByteArray → Prs × Bool × Lg) : Lg → Prs → Prs × Bool × Lg
  | s, [] => ([], true, s)
  | s, p :: l => if (F s p).2.1 = true then ((F s p).1 ++ (akF F (F s p).2.2 l).1, (akF F (F s p).2.2 l).2.1, (akF F (F s p).2.2 l).2.2) else ([], false, (F s p).2.2)
theorem akF_app (F : Lg → ByteArray × ByteArray → Prs × Bool × Lg) (m : Prs) : ∀ (l : Prs) (s : Lg), (akF F s l).2.1 = true → akF F s (l ++ m) = ((akF F s l).1 ++ (akF F (akF F s l).2.2 m).1, (akF F (akF F s l).2.2 m).2.1, (akF F (akF F s l).2.2 m).2.2)
  | [], s, _ => by simp [akF]
  | p :: l, s, h => by
    by_cases hp : (F s p).2.1 = true
    · have e : akF F s (p :: l) = ((F s p).1 ++ (akF F (F s p).2.2 l).1, (akF F (F s p).2.2 l).2.1, (akF F (F s p).2.2 l).2.2) := by rw [akF, if_pos hp]
      rw [e] at h
      rw [List.cons_append, akF, if_pos hp, akF_app F m l _ h, e]
      simp
    · rw [akF, if_neg hp] at h; cases h
theorem akF_good {F : Lg → ByteArray × ByteArray → Prs × Bool × Lg} {ps : Prs} {s : Lg} {k : Nat} {p : ByteArray × ByteArray} (hk : ps[k]? = some p) (h : (akF F s (ps.take k)).2.1 = true) (hp : (F (akF F s (ps.take k)).2.2 p).2.1 = true) :
    (akF F s (ps.take (k + 1))).2.1 = true ∧ (akF F s (ps.take (k + 1))).1 = (akF F s (ps.take k)).1 ++ (F (akF F s (ps.take k)).2.2 p).1 ∧ (akF F s (ps.take (k + 1))).2.2 = (F (akF F s (ps.take k)).2.2 p).2.2 := by
  have hs : ps.take (k + 1) = ps.take k ++ [p] := by rw [List.take_add_one, hk]; rfl
  rw [hs, akF_app F [p] _ s h]
  simp [akF, hp]
theorem akF_bad {F : Lg → ByteArray × ByteArray → Prs × Bool × Lg} {ps : Prs} {s : Lg} {k : Nat} {p : ByteArray × ByteArray} (hk : ps[k]? = some p) (h : (akF F s (ps.take k)).2.1 = true) (hp : (F (akF F s (ps.take k)).2.2 p).2.1 = false) :
    (akF F s ps).2.1 = false ∧ (akF F s ps).2.2 = (F (akF F s (ps.take k)).2.2 p).2.2 := by
  obtain ⟨hlt, he⟩ := List.getElem?_eq_some_iff.1 hk
  have hs : ps = ps.take k ++ p :: ps.drop (k + 1) := by rw [← he, ← List.drop_eq_getElem_cons hlt, List.take_append_drop]
  have := akF_app F (p :: ps.drop (k + 1)) _ s h
  rw [← hs] at this
  rw [this]
  simp [akF, hp]
theorem ps_srcB {w : World} {b off : Nat} {ps : Prs} (hc : ∀ j p, ps[j]? = some p → w.rangeAt b (off + j * 2) (pcs p)) (j : Nat) (u : Value) (hu : (cellsB ps)[j]? = some u) : w.cell? ⟨b, off + j, none⟩ = some u := by
  obtain ⟨q, hq⟩ : ∃ q, j = q * 2 ∨ j = q * 2 + 1 := ⟨j / 2, by omega⟩
  have hj : q < ps.length := by have := (List.getElem?_eq_some_iff.1 hu).1; rw [cellsB_len] at this; omega
  obtain ⟨p, hp⟩ : ∃ p, ps[q]? = some p := ⟨_, List.getElem?_eq_getElem hj⟩
  obtain ⟨h1, h2⟩ := cellsB_at ps q p hp
  rcases hq with rfl | rfl
  · rw [h1] at hu; cases hu; exact hc q p hp 0 _ rfl
  · rw [h2] at hu; cases hu; exact hc q p hp 1 _ rfl
theorem cellsB_one : ∀ (l : Prs), ∀ u ∈ cellsB l, u.oneCell' = true
  | [], u, h => by cases h
  | p :: l, u, h => by
    simp only [cellsB, List.mem_cons] at h
    rcases h with rfl | rfl | h
    · rfl
    · rfl
    · exact cellsB_one l u h
theorem wpList_append_prL {w : World} {ops : Array Oper} {rest : List Oper} {o : Oper} {a : Act} {Q : Exit → Act → World → Prop} (hgd : o.guard = none) (d s : Operand)
    (ho : o.op = .call { callee := .builtin .append, args := #[d, s], argTypes := #[37, 37] })
    (base : Nat) (v : Value) (acc qs : Prs) (n : Nat) (sa : Option Addr) (m sc : Nat) (hd : a.eval d = v) (hs : a.eval s = .slice sa m sc) (hown : w.ownsRow base 41 2 v n (cellsB acc)) (hq : PsAt w (.slice sa m sc) qs) (hn : n + m ≤ 4000000000) (hb : base ≤ w.heap.size)
    (h : ∀ v' w', Kpt (w'.ownsRow base 41 2 v' (n + m) (cellsB (acc ++ qs))) → Kpt (w.grownBy w' v.ownBlock) → wpList Tryz.prog ops Q rest (a.put o.dst v') w') : wpList Tryz.prog ops Q (o :: rest) a w := by
  obtain ⟨i0, hi0, hz0, hz1, hz2⟩ := info_parts infoP
  obtain ⟨a', c', e, h1, h2, h3⟩ := hq
  simp only [Value.slice.injEq] at e
  obtain ⟨rfl, rfl, rfl⟩ := e
  cases sa with
  | none =>
    obtain ⟨e1, rfl⟩ := h1 rfl
    obtain rfl : qs = [] := List.eq_nil_of_length_eq_zero e1
    refine wpList_append_own_none hgd d s 37 ho base 41 i0 2 Tryz.underlying37 hi0 v n _ hd hown hs ?_
    exact h v w ⟨by simpa using hown⟩ ⟨rfl, rfl, rfl, Nat.le_refl _, fun _ _ _ => rfl⟩
  | some x =>
    have hcell : ∀ j u, (cellsB qs)[j]? = some u → w.cell? (x.add j) = some u := fun j u hu => by
      rcases h3 with h3 | ⟨b, soff, e, -, hc⟩
      · have := (List.getElem?_eq_some_iff.1 hu).1
        rw [cellsB_len] at this
        omega
      · cases e; rw [Go.WideShapes.add_plain]; exact ps_srcB hc j u hu
    refine wpList_append_own _ hgd d s 37 ho base 41 i0 (.agg #[.string ⟨#[]⟩, .string ⟨#[]⟩]) 2 32 Tryz.underlying37 hi0 hz0 hz1 hz2 rfl (by decide) v n _ hd hown x qs.length sc (cellsB qs) hs (by rw [cellsB_len]) hcell (cellsB_one _) (by unfold maxLen; omega) (by omega) hb ?_
    intro v1 w1 hown1 hg1 _
    exact h v1 w1 ⟨by rw [cellsB_app]; exact hown1⟩ ⟨hg1⟩
theorem own_of_blk {w w' : World} {base n : Nat} {v : Value} {cs : List Value} (h : w.ownsRow base 41 2 v n cs) (hb : ∀ g, v.ownBlock = some g → w'.heap[g]? = w.heap[g]?) : w'.ownsRow base 41 2 v n cs := by
  refine ⟨h.1, ?_⟩
  rcases h.2 with h2 | ⟨g, cap, cur, rfl, h0, hg, r⟩
  · exact .inl h2
  · exact .inr ⟨g, cap, cur, rfl, h0, (hb g rfl).trans hg, r⟩
/-- A row of one's own has turned; what lay there has not, but for one block. -/
theorem grown_row {a b c : World} {L : Nat} {r : Option Nat} (h : a.grownBy b (some L)) (k : b.grownBy c r) (hr : ∀ n, r = some n → a.heap.size ≤ n) : a.grownBy c (some L) :=
  ⟨k.os.trans h.os, k.tape.trans h.tape, k.output.trans h.output, Nat.le_trans h.size k.size, fun j hj hn => (k.block j (Nat.lt_of_lt_of_le hj h.size) (fun e => by have := hr j e.symm; omega)).trans (h.block j hj hn)⟩
theorem own_sl2 {w : World} {base m : Nat} {v : Value} {cs : List Value} (h : w.ownsRow base 41 2 v m cs) : ∃ va vc, v = .slice va m vc := by
  rcases h.2 with ⟨rfl, h0⟩ | ⟨g, cap, cur, rfl, _⟩
  · exact ⟨none, 0, by rw [h0]⟩
  · exact ⟨_, _, rfl⟩

/-- What answerKey does, told by a function. -/
def AkOk (F : Lg → ByteArray × ByteArray → Prs × Bool × Lg) (J : Lg → Prop) (L : Nat) (rs : ByteArray) (w : World) (ps : Prs) : Prop :=
  ∀ (W : World) (t : Lg) (p : ByteArray × ByteArray), p ∈ ps → J t → w.grownBy W (some L) → Bx W L t.v →
    Calls Tryz.prog 40 #[.pointer (some ⟨L, 0, none⟩), .agg #[.string p.1, .string p.2], .string rs] W fun e w' => ∃ ga gn gc, e = .returned (.tuple #[.slice ga gn gc, .bool (F t p).2.1]) ∧ PsAt w' (.slice ga gn gc) (F t p).1 ∧ gn ≤ 3 ∧ Bx w' L (F t p).2.2.v ∧ J (F t p).2.2 ∧ W.grownBy w' (some L)

set_option maxRecDepth 100000 in
set_option maxHeartbeats 8000000 in
theorem akeys_any (F : Lg → ByteArray × ByteArray → Prs × Bool × Lg) (J : Lg → Prop) (L : Nat) (s : Lg) (a : Option Addr) (n c : Nat) (ps : Prs) (w : World) (hX : Bx w L s.v) (hr : PsAt w (.slice a n c) ps) (hoff : Off a L) (hn : n ≤ 1000000000) (hJ : J s) (hA : AkOk F J L (findV (findP ps kRsp)) w ps) :
    Calls Tryz.prog 29 #[.pointer (some ⟨L, 0, none⟩), .slice a n c] w fun e w' => ∃ va vn vc, e = .returned (.tuple #[.slice va vn vc, .bool (akF F s ps).2.1]) ∧ ((akF F s ps).2.1 = true → w'.ownsRow w.heap.size 41 2 (.slice va vn vc) vn (cellsB (akF F s ps).1)) ∧ Bx w' L (akF F s ps).2.2.v ∧ J (akF F s ps).2.2 ∧ w.grownBy w' (some L) := by
  have hl : ps.length = n := by obtain ⟨a', c', hv, _⟩ := hr; simp only [Value.slice.injEq] at hv; exact hv.2.1.symm
  have hrB : Kpt (∀ W, w.grownBy W (some L) → PsAt W (.slice a n c) ps) := ⟨fun W h => hr.grown hoff h⟩
  have hf := Kpt.mk (find_any a n c ps kRsp w hr (by unfold maxLen; omega))
  unfold kRsp at hf hA
  obtain ⟨rs, hrs⟩ : ∃ x, x = findV (findP ps ⟨#[67, 72, 65, 80, 95, 82]⟩) := ⟨_, rfl⟩
  obtain ⟨rb, hrb⟩ : ∃ x, x = (findP ps ⟨#[67, 72, 65, 80, 95, 82]⟩).isSome := ⟨_, rfl⟩
  rw [← hrs] at hA
  rw [← hrs, ← hrb] at hf
  unfold AkOk at hA
  replace hA := Kpt.mk hA
  have hLt := Kpt.mk hX.lt
  have hX1 := Kpt.mk hX
  have hJ1 := Kpt.mk hJ
  have hl' := Kpt.mk hl
  clear hX hJ hr hrs hrb hl
  go_enter Tryz.func29, Tryz.ntmps29
  go_wp2_with (go_at_call 39; go_must (refine hf.out.mono ?_; rintro e w1 ⟨rfl, hb1⟩; have hX2 : Kpt (Bx w1 L s.v) := ⟨hX1.out.below hb1 hX1.out.lt⟩; have hg1 : Kpt (w.grownBy w1 (some L)) := ⟨grown_of_below hb1 _⟩; clear hb1))
  go_loopw [8, 20] (fun t8 t wr => ∃ (k : Nat) (va : Option Addr) (vn vc : Nat), k ≤ n ∧ t8 = .slice va vn vc ∧ t = .int .i64 k ∧ Kpt ((akF F s (ps.take k)).2.1 = true) ∧ Kpt (J (akF F s (ps.take k)).2.2) ∧ Kpt (vn ≤ 3 * k) ∧ Kpt (wr.ownsRow w.heap.size 41 2 (.slice va vn vc) vn (cellsB (akF F s (ps.take k)).1)) ∧ Kpt (Bx wr L (akF F s (ps.take k)).2.2.v) ∧ Kpt (w.grownBy wr (some L))) (fun _ t _ => n - (intOf t).toNat)
  case atStart => exact ⟨0, none, 0, 0, by omega, rfl, rfl, ⟨rfl⟩, hJ1, ⟨by omega⟩, ⟨World.ownsRow_nil _ _ _ _⟩, hX2, hg1⟩
  case round =>
    obtain ⟨k, va, vn, vc, hk, rfl, rfl, hgo, hJk, hvn, hown, hLr, hgr⟩ := hrel
    clear hX1 hX2 hg1 hJ1
    by_cases hlt : k < n
    · have hltI : (k : Int) < n := by omega
      obtain ⟨p, hp⟩ : ∃ p, ps[k]? = some p := ⟨_, List.getElem?_eq_getElem (by rw [hl'.out]; exact hlt)⟩
      obtain ⟨b, off, rfl, hcell⟩ : ∃ b off, a = some ⟨b, off, none⟩ ∧ Kpt (wr.rangeAt b (off + k * 2) (pcs p)) := by
        obtain ⟨a', c', hv, h1, h2, h3⟩ := hrB.out wr hgr.out
        simp only [Value.slice.injEq] at hv
        obtain ⟨rfl, -, -⟩ := hv
        rcases h3 with h3 | ⟨b, off, rfl, -, hc⟩
        · have := hl'.out; omega
        · exact ⟨b, off, rfl, ⟨hc k p hp⟩⟩
      have hgood := Kpt.mk (akF_good (F := F) (s := s) hp hgo.out)
      have hbad := Kpt.mk (akF_bad (F := F) (s := s) hp hgo.out)
      have kC := Kpt.mk (fun (W : World) (t : Lg) (h1 : J t) (h2 : w.grownBy W (some L)) (h3 : Bx W L t.v) => hA.out W t p (List.mem_of_getElem? hp) h1 h2 h3)
      obtain ⟨s1, hs1⟩ : ∃ x, x = (akF F s (ps.take k)).2.2 := ⟨_, rfl⟩
      obtain ⟨acc, hacc⟩ : ∃ x, x = (akF F s (ps.take k)).1 := ⟨_, rfl⟩
      rw [← hs1] at hJk hLr hgood hbad
      rw [← hacc] at hown hgood
      replace kC := Kpt.mk (fun (W : World) (h2 : w.grownBy W (some L)) (h3 : Bx W L s1.v) => kC.out W s1 hJk.out h2 h3)
      obtain ⟨x, hx⟩ : ∃ x, x = F s1 p := ⟨_, rfl⟩
      rw [← hx] at kC hgood hbad
      obtain ⟨xl, ok, s2⟩ := x
      simp only at kC hgood hbad
      obtain ⟨K, V⟩ := p
      unfold pcs at hcell
      simp only at hcell kC
      clear hp hx hs1 hacc hA
      cases ok
      · have hB := Kpt.mk (hbad.out rfl)
        clear hgood hbad
        go_wp2_with (first
          | (go_at_call 40; go_must (refine (kC.out _ hgw2.out hL2.out).mono ?_; rintro e w4 ⟨ga, gn, gc, rfl, hps, hgn, hL4, hJ4, hg4⟩; have hgw4 : Kpt (w.grownBy w4 (some L)) := ⟨grown_tr hgw2.out hg4⟩; have ho5 : Kpt (w4.ownsRow w.heap.size 41 2 (.slice va vn vc) vn (cellsB acc)) := ⟨own_of_blk ho2.out fun g hg => hg4.block g (World.ownsRow.lt ho2.out g hg).2 (fun e => by injection e with e; have := (World.ownsRow.lt ho2.out g hg).1; have := hLt.out; omega)⟩; replace hps := Kpt.mk hps; replace hgn := Kpt.mk hgn; replace hL4 := Kpt.mk hL4; replace hJ4 := Kpt.mk hJ4; clear hg4))
          | (refine (?_ : wpList _ _ _ (Oper.mk _ (Op.load 41 (Operand.tmp 10)) _ _ _ _ :: _) _ _); go_must (refine wpList_load_bx rfl 41 (.tmp 10) rfl B1 #[.string K, .string V] rfl hX2.out _ Tryz.underlying41 rfl sizePr ?_))
          | (refine (?_ : wpList _ _ _ (Oper.mk none (Op.store _ _ _) _ _ _ _ :: _) _ _); go_must (refine wpList_store_bx rfl 41 (.tmp 10) (.tmp 23) rfl B1 #[.string ⟨#[]⟩, .string ⟨#[]⟩] #[.string K, .string V] rfl rfl hX1.out rfl sizePr (pr_one K V) rfl ?_; intro w2 hX2 hg2; have hL2 : Kpt (Bx w2 L s1.v) := ⟨hL1.out.grown hg2 (fun e => by injection e with e; have := hB1.out; have := hLt.out; omega)⟩; have hgw2 : Kpt (w.grownBy w2 (some L)) := ⟨grown_row hgw1.out hg2 (fun n e => by injection e with e; have := hB1.out; omega)⟩; have ho2 : Kpt (w2.ownsRow w.heap.size 41 2 (.slice va vn vc) vn (cellsB acc)) := ⟨own_of_blk ho1.out fun g hg => hg2.block g (World.ownsRow.lt ho1.out g hg).2 (fun e => by injection e with e; have := hB9.out g hg; omega)⟩; replace hX2 := Kpt.mk hX2; clear hg2))
          | (refine wpList_var rfl 41 rfl #[.string ⟨#[]⟩, .string ⟨#[]⟩] zeroPr ?_; intro B1 w1 hB1 hX1 hbe1; have hL1 : Kpt (Bx w1 L s1.v) := ⟨hLr.out.below hbe1 hLr.out.lt⟩; have hgw1 : Kpt (w.grownBy w1 (some L)) := ⟨grown_row hgr.out (grown_of_below hbe1 none) (fun n e => by cases e)⟩; have ho1 : Kpt (w1.ownsRow w.heap.size 41 2 (.slice va vn vc) vn (cellsB acc)) := ⟨own_of_blk hown.out fun g hg => hbe1.block g (World.ownsRow.lt hown.out g hg).2⟩; have hB9 : Kpt (∀ g, (Value.slice va vn vc).ownBlock = some g → g < B1) := ⟨fun g hg => Nat.lt_of_lt_of_le (World.ownsRow.lt hown.out g hg).2 hB1⟩; replace hB1 : Kpt (w.heap.size ≤ B1) := ⟨Nat.le_trans hgr.out.size hB1⟩; replace hX1 := Kpt.mk hX1; clear hbe1)
          | (refine (?_ : wpList _ _ _ (Oper.mk _ (Op.load 41 (Operand.tmp 22)) _ _ _ _ :: _) _ _); go_must (refine wpList_load_mid rfl 41 (.tmp 22) rfl b (off + k * 2) rfl [.string K, .string V] _ hcell.out Tryz.underlying41 rfl sizePr ?_)))
        go_ret2
        exact ⟨none, 0, 0, by rw [hB.out.1]; rfl, (fun h => by rw [hB.out.1] at h; cases h), by rw [hB.out.2]; exact hL4.out, by rw [hB.out.2]; exact hJ4.out, hgw4.out⟩
      · have hG := Kpt.mk (hgood.out rfl)
        clear hgood hbad
        go_wp2_with (first
          | (refine (?_ : wpList _ _ _ (Oper.mk (some 35) _ _ _ _ _ :: _) _ _); go_must (refine wpList_append_prL rfl (.tmp 33) (.tmp 34) rfl w.heap.size (.slice va vn vc) acc xl vn ga gn gc rfl rfl ho5.out hps.out (by have := hvn.out; have := hgn.out; omega) hgw4.out.size ?_; intro v6 w6 ho6 hg6; obtain ⟨xa, xc, rfl⟩ := own_sl2 ho6.out; have hL6 : Kpt (Bx w6 L s2.v) := ⟨hL4.out.grown hg6.out (fun e => by have := (World.ownsRow.lt ho5.out _ e).1; have := hLt.out; omega)⟩; have hgw6 : Kpt (w.grownBy w6 (some L)) := ⟨grown_row hgw4.out hg6.out (fun n e => (World.ownsRow.lt ho5.out n e).1)⟩; clear hg6))
          | (go_at_call 40; go_must (refine (kC.out _ hgw2.out hL2.out).mono ?_; rintro e w4 ⟨ga, gn, gc, rfl, hps, hgn, hL4, hJ4, hg4⟩; have hgw4 : Kpt (w.grownBy w4 (some L)) := ⟨grown_tr hgw2.out hg4⟩; have ho5 : Kpt (w4.ownsRow w.heap.size 41 2 (.slice va vn vc) vn (cellsB acc)) := ⟨own_of_blk ho2.out fun g hg => hg4.block g (World.ownsRow.lt ho2.out g hg).2 (fun e => by injection e with e; have := (World.ownsRow.lt ho2.out g hg).1; have := hLt.out; omega)⟩; replace hps := Kpt.mk hps; replace hgn := Kpt.mk hgn; replace hL4 := Kpt.mk hL4; replace hJ4 := Kpt.mk hJ4; clear hg4))
          | (refine (?_ : wpList _ _ _ (Oper.mk _ (Op.load 41 (Operand.tmp 10)) _ _ _ _ :: _) _ _); go_must (refine wpList_load_bx rfl 41 (.tmp 10) rfl B1 #[.string K, .string V] rfl hX2.out _ Tryz.underlying41 rfl sizePr ?_))
          | (refine (?_ : wpList _ _ _ (Oper.mk none (Op.store _ _ _) _ _ _ _ :: _) _ _); go_must (refine wpList_store_bx rfl 41 (.tmp 10) (.tmp 23) rfl B1 #[.string ⟨#[]⟩, .string ⟨#[]⟩] #[.string K, .string V] rfl rfl hX1.out rfl sizePr (pr_one K V) rfl ?_; intro w2 hX2 hg2; have hL2 : Kpt (Bx w2 L s1.v) := ⟨hL1.out.grown hg2 (fun e => by injection e with e; have := hB1.out; have := hLt.out; omega)⟩; have hgw2 : Kpt (w.grownBy w2 (some L)) := ⟨grown_row hgw1.out hg2 (fun n e => by injection e with e; have := hB1.out; omega)⟩; have ho2 : Kpt (w2.ownsRow w.heap.size 41 2 (.slice va vn vc) vn (cellsB acc)) := ⟨own_of_blk ho1.out fun g hg => hg2.block g (World.ownsRow.lt ho1.out g hg).2 (fun e => by injection e with e; have := hB9.out g hg; omega)⟩; replace hX2 := Kpt.mk hX2; clear hg2))
          | (refine wpList_var rfl 41 rfl #[.string ⟨#[]⟩, .string ⟨#[]⟩] zeroPr ?_; intro B1 w1 hB1 hX1 hbe1; have hL1 : Kpt (Bx w1 L s1.v) := ⟨hLr.out.below hbe1 hLr.out.lt⟩; have hgw1 : Kpt (w.grownBy w1 (some L)) := ⟨grown_row hgr.out (grown_of_below hbe1 none) (fun n e => by cases e)⟩; have ho1 : Kpt (w1.ownsRow w.heap.size 41 2 (.slice va vn vc) vn (cellsB acc)) := ⟨own_of_blk hown.out fun g hg => hbe1.block g (World.ownsRow.lt hown.out g hg).2⟩; have hB9 : Kpt (∀ g, (Value.slice va vn vc).ownBlock = some g → g < B1) := ⟨fun g hg => Nat.lt_of_lt_of_le (World.ownsRow.lt hown.out g hg).2 hB1⟩; replace hB1 : Kpt (w.heap.size ≤ B1) := ⟨Nat.le_trans hgr.out.size hB1⟩; replace hX1 := Kpt.mk hX1; clear hbe1)
          | (refine (?_ : wpList _ _ _ (Oper.mk _ (Op.load 41 (Operand.tmp 22)) _ _ _ _ :: _) _ _); go_must (refine wpList_load_mid rfl 41 (.tmp 22) rfl b (off + k * 2) rfl [.string K, .string V] _ hcell.out Tryz.underlying41 rfl sizePr ?_)))
        go_roundw
        case rel => exact ⟨k + 1, xa, vn + gn, xc, by omega, rfl, by go_num, ⟨hG.out.1⟩, ⟨by rw [hG.out.2.2]; exact hJ4.out⟩, ⟨by have := hvn.out; have := hgn.out; omega⟩, ⟨by rw [hG.out.2.1]; exact ho6.out⟩, ⟨by rw [hG.out.2.2]; exact hL6.out⟩, hgw6⟩
        case measure => simp [intOf]; omega
    · have hltI : ¬ (k : Int) < n := by omega
      have ht : ps.take k = ps := List.take_of_length_le (by rw [hl'.out]; omega)
      rw [ht] at hgo hJk hown hLr
      replace ht := Kpt.mk ht
      go_wp2
      go_ret2
      exact ⟨va, vn, vc, by rw [hgo.out]; rfl, (fun _ => hown.out), hLr.out, hJk.out, hgr.out⟩
end Go.Proofs.YtplifodddfjhdaaGreatDoor
