/-
  login: the answers to names and both sums.
-/
import Derived.Test.YtplifodddfjhdabDoorXLsB
namespace Go.Proofs.YtplifodddfjhdabDoor
open Go.RowKit
set_option linter.unusedVariables false
set_option linter.unusedSimpArgs false

theorem own_of_blk {w w' : World} {base n : Nat} {v : Value} {cs : List Value} (h : w.ownsRow base 37 2 v n cs) (hb : ∀ g, v.ownBlock = some g → w'.heap[g]? = w.heap[g]?) : w'.ownsRow base 37 2 v n cs := by
  refine ⟨h.1, ?_⟩
  rcases h.2 with h2 | ⟨g, cap, cur, rfl, h0, hg, r⟩
  · exact .inl h2
  · exact .inr ⟨g, cap, cur, rfl, h0, (hb g rfl).trans hg, r⟩
/-- A row of one's own has turned; what lay there has not, but for one block. -/
theorem grown_row {a b c : World} {L : Nat} {r : Option Nat} (h : a.grownBy b (some L)) (k : b.grownBy c r) (hr : ∀ n, r = some n → a.heap.size ≤ n) : a.grownBy c (some L) :=
  ⟨k.os.trans h.os, k.tape.trans h.tape, k.output.trans h.output, Nat.le_trans h.size k.size, fun j hj hn => (k.block j (Nat.lt_of_lt_of_le hj h.size) (fun e => by have := hr j e.symm; omega)).trans (h.block j hj hn)⟩
theorem own_sl2 {w : World} {base m : Nat} {v : Value} {cs : List Value} (h : w.ownsRow base 37 2 v m cs) : ∃ va vc, v = .slice va m vc := by
  rcases h.2 with ⟨rfl, h0⟩ | ⟨g, cap, cur, rfl, _⟩
  · exact ⟨none, 0, by rw [h0]⟩
  · exact ⟨_, _, rfl⟩
def Lg.hdr (s : Lg) (q : Bool) : Lg := { s with hd := q }
def Lg.dat (s : Lg) (q : Bool) : Lg := { s with dt := q }
def keys4 (o1 o2 : ByteArray) : List (ByteArray × ByteArray) := [(kIni, vI), (kTgt, vT), (hdB, o1), (ddB, o2)]

set_option maxRecDepth 100000 in
set_option maxHeartbeats 8000000 in
theorem akeys_sum (L : Nat) (s : Lg) (a : Option Addr) (c : Nat) (o1 o2 : ByteArray) (w : World) (hX : Bx w L s.v) (hr : PsAt w (.slice a 4 c) (keys4 o1 o2)) (hoff : Off a L) (h1 : o1.size ≤ 281474976710656) (h2 : o2.size ≤ 281474976710656) :
    Calls Tryd.prog 16 #[.pointer (some ⟨L, 0, none⟩), .slice a 4 c] w fun e w' => ∃ va vc, e = .returned (.tuple #[.slice va 2 vc, .bool true]) ∧ w'.ownsRow w.heap.size 37 2 (.slice va 2 vc) 2 (cellsB [(hdB, fstV s.sums o1), (ddB, fstV s.sums o2)]) ∧ Bx w' L ((s.hdr (isCrc (fstV s.sums o1))).dat (isCrc (fstV s.sums o2))).v ∧ w.grownBy w' (some L) := by
  have hrB : Kpt (∀ W, w.grownBy W (some L) → PsAt W (.slice a 4 c) (keys4 o1 o2)) := ⟨fun W h => hr.grown hoff h⟩
  have hf := Kpt.mk (find_any a 4 c (keys4 o1 o2) kRsp w hr (by unfold maxLen; omega))
  unfold kRsp at hf
  obtain ⟨rs, hrs⟩ : ∃ x, x = findV (findP (keys4 o1 o2) ⟨#[67, 72, 65, 80, 95, 82]⟩) := ⟨_, rfl⟩
  obtain ⟨rb, hrb⟩ : ∃ x, x = (findP (keys4 o1 o2) ⟨#[67, 72, 65, 80, 95, 82]⟩).isSome := ⟨_, rfl⟩
  rw [← hrs, ← hrb] at hf
  have kap := app_nil
  have kH := Kpt.mk (fun (W : World) (h : Bx W L s.v) => akey_h L s o1 rs W h h1)
  have kD := Kpt.mk (fun (W : World) (q : Bool) (h : Bx W L (s.hdr q).v) => akey_d L (s.hdr q) o2 rs W h h2)
  have kI := Kpt.mk (fun (W : World) (K V : ByteArray) (h : ign K) => akey_ign L K V rs h W)
  obtain ⟨x, hx⟩ : ∃ x, x = fstV s.sums o1 := ⟨_, rfl⟩
  obtain ⟨y, hy⟩ : ∃ y, y = fstV s.sums o2 := ⟨_, rfl⟩
  obtain ⟨qx, hqx⟩ : ∃ q, q = isCrc x := ⟨_, rfl⟩
  obtain ⟨qy, hqy⟩ : ∃ q, q = isCrc y := ⟨_, rfl⟩
  rw [← hx, ← hqx] at kH
  replace kD : Kpt (∀ (W : World) (q : Bool), Bx W L (s.hdr q).v → Calls Tryd.prog 21 #[.pointer (some ⟨L, 0, none⟩), .agg #[.string ddB, .string o2], .string rs] W fun e w' => ∃ g, e = .returned (.tuple #[.slice (some ⟨g, 0, none⟩) 1 1, .bool true]) ∧ W.heap.size ≤ g ∧ Bx w' g #[.string ddB, .string y] ∧ Bx w' L ((s.hdr q).v.setIfInBounds 16 (.bool qy)) ∧ W.grownBy w' (some L)) := ⟨fun W q h => by have := kD.out W q h; rw [show (s.hdr q).sums = s.sums from rfl, ← hy, ← hqy] at this; exact this⟩
  rw [← hx, ← hy, ← hqx, ← hqy]
  have hXK := Kpt.mk hX
  have hlt := hX.lt
  clear hX hr hrs hrb hx hy hqx hqy
  go_enter Tryd.func16, Tryd.ntmps16
  go_wp2_with (go_at_call 20; go_must (refine hf.out.mono ?_; rintro e w1 ⟨rfl, hb1⟩; have hX1 : Kpt (Bx w1 L s.v) := ⟨hXK.out.below hb1 hlt⟩; have hg1 : Kpt (w.grownBy w1 (some L)) := ⟨grown_of_below hb1 _⟩; clear hb1))
  go_loopw [8, 20] (fun t8 t wr => ∃ k : Nat, k ≤ 4 ∧ t = .int .i64 k ∧ Kpt (w.grownBy wr (some L)) ∧ ((Kpt (k ≤ 2) ∧ t8 = .slice none 0 0 ∧ Kpt (Bx wr L s.v)) ∨ (Kpt (k = 3) ∧ ∃ va vc, t8 = .slice va 1 vc ∧ Kpt (wr.ownsRow w.heap.size 37 2 (.slice va 1 vc) 1 (cellsB [(hdB, x)])) ∧ Kpt (Bx wr L (s.hdr qx).v)) ∨ (Kpt (k = 4) ∧ ∃ va vc, t8 = .slice va 2 vc ∧ Kpt (wr.ownsRow w.heap.size 37 2 (.slice va 2 vc) 2 (cellsB [(hdB, x), (ddB, y)])) ∧ Kpt (Bx wr L ((s.hdr qx).dat qy).v)))) (fun _ t _ => 4 - (intOf t).toNat)
  case atStart => exact ⟨0, by omega, rfl, hg1, .inl ⟨⟨by omega⟩, rfl, hX1⟩⟩
  case round =>
    obtain ⟨k, hk, rfl, hgr, hcase⟩ := hrel
    clear hX1 hg1
    by_cases hlt4 : k < 4
    · have hltI : (k : Int) < 4 := by omega
      have hex : ∀ p, (keys4 o1 o2)[k]? = some p → ∃ b off, a = some ⟨b, off, none⟩ ∧ Kpt (wr.rangeAt b (off + k * 2) (pcs p)) := fun p hp => by
        obtain ⟨a', c', hv, h1, h2, h3⟩ := hrB.out wr hgr.out
        simp only [Value.slice.injEq] at hv
        obtain ⟨rfl, -, -⟩ := hv
        rcases h3 with h3 | ⟨b, off, rfl, -, hc⟩
        · simp [keys4] at h3
        · exact ⟨b, off, rfl, ⟨hc k p hp⟩⟩
      rcases hcase with ⟨hk2, rfl, hLr⟩ | ⟨hk3, va, vc, rfl, hown, hLr⟩ | ⟨hk4, _⟩
      · rcases (by have := hk2.out; omega : k = 0 ∨ k = 1 ∨ k = 2) with hkk | hkk | hkk
        · obtain ⟨b, off, rfl, hcell⟩ := hex (kIni, vI) (by rw [hkk]; rfl)
          replace hkk := Kpt.mk hkk
          have hgn : Kpt (ign kIni) := ⟨.inl rfl⟩
          obtain ⟨K, hK⟩ : ∃ K, K = kIni := ⟨_, rfl⟩
          obtain ⟨V, hV⟩ : ∃ V, V = vI := ⟨_, rfl⟩
          rw [← hK] at hgn
          rw [← hK, ← hV] at hcell
          unfold pcs at hcell
          simp only at hcell
          clear hex hK hV
          go_wp2_with (first
                  | (go_at_call 21; go_must (refine (kI.out _ K V hgn.out).mono ?_; rintro e w4 ⟨rfl, hb4⟩; have hL4 : Kpt (Bx w4 L s.v) := ⟨hL2.out.below hb4 hL2.out.lt⟩; have hgw4 : Kpt (w.grownBy w4 (some L)) := ⟨grown_row hgw2.out (grown_of_below hb4 none) (fun n e => by cases e)⟩; clear hb4))
                  | (refine (?_ : wpList _ _ _ (Oper.mk _ (Op.load 37 (Operand.tmp 10)) _ _ _ _ :: _) _ _); go_must (refine wpList_load_bx rfl 37 (.tmp 10) rfl B1 #[.string K, .string V] rfl hX2.out _ Tryd.underlying37 rfl sizePr ?_))
                  | (refine (?_ : wpList _ _ _ (Oper.mk none (Op.store _ _ _) _ _ _ _ :: _) _ _); go_must (refine wpList_store_bx rfl 37 (.tmp 10) (.tmp 23) rfl B1 #[.string ⟨#[]⟩, .string ⟨#[]⟩] #[.string K, .string V] rfl rfl hX1.out rfl sizePr (pr_one K V) rfl ?_; intro w2 hX2 hg2; have hL2 : Kpt (Bx w2 L s.v) := ⟨hL1.out.grown hg2 (fun e => by injection e with e; have := hB1.out; omega)⟩; have hgw2 : Kpt (w.grownBy w2 (some L)) := ⟨grown_row hgw1.out hg2 (fun n e => by injection e with e; have := hB1.out; omega)⟩; replace hX2 := Kpt.mk hX2; clear hg2))
                  | (refine wpList_var rfl 37 rfl #[.string ⟨#[]⟩, .string ⟨#[]⟩] zeroPr ?_; intro B1 w1 hB1 hX1 hbe1; have hL1 : Kpt (Bx w1 L s.v) := ⟨hLr.out.below hbe1 hLr.out.lt⟩; have hgw1 : Kpt (w.grownBy w1 (some L)) := ⟨grown_row hgr.out (grown_of_below hbe1 none) (fun n e => by cases e)⟩; replace hB1 : Kpt (w.heap.size ≤ B1) := ⟨Nat.le_trans hgr.out.size hB1⟩; replace hX1 := Kpt.mk hX1; clear hbe1)
                  | (refine (?_ : wpList _ _ _ (Oper.mk _ (Op.load 37 (Operand.tmp 22)) _ _ _ _ :: _) _ _); go_must (refine wpList_load_mid rfl 37 (.tmp 22) rfl b (off + k * 2) rfl [.string K, .string V] _ hcell.out Tryd.underlying37 rfl sizePr ?_)))
          go_roundw
          case rel => exact ⟨k + 1, by omega, by go_num, hgw4, .inl ⟨⟨by have := hkk.out; omega⟩, rfl, hL4⟩⟩
          case measure => simp [intOf]; omega
        · obtain ⟨b, off, rfl, hcell⟩ := hex (kTgt, vT) (by rw [hkk]; rfl)
          replace hkk := Kpt.mk hkk
          have hgn : Kpt (ign kTgt) := ⟨.inr (.inr rfl)⟩
          obtain ⟨K, hK⟩ : ∃ K, K = kTgt := ⟨_, rfl⟩
          obtain ⟨V, hV⟩ : ∃ V, V = vT := ⟨_, rfl⟩
          rw [← hK] at hgn
          rw [← hK, ← hV] at hcell
          unfold pcs at hcell
          simp only at hcell
          clear hex hK hV
          go_wp2_with (first
                  | (go_at_call 21; go_must (refine (kI.out _ K V hgn.out).mono ?_; rintro e w4 ⟨rfl, hb4⟩; have hL4 : Kpt (Bx w4 L s.v) := ⟨hL2.out.below hb4 hL2.out.lt⟩; have hgw4 : Kpt (w.grownBy w4 (some L)) := ⟨grown_row hgw2.out (grown_of_below hb4 none) (fun n e => by cases e)⟩; clear hb4))
                  | (refine (?_ : wpList _ _ _ (Oper.mk _ (Op.load 37 (Operand.tmp 10)) _ _ _ _ :: _) _ _); go_must (refine wpList_load_bx rfl 37 (.tmp 10) rfl B1 #[.string K, .string V] rfl hX2.out _ Tryd.underlying37 rfl sizePr ?_))
                  | (refine (?_ : wpList _ _ _ (Oper.mk none (Op.store _ _ _) _ _ _ _ :: _) _ _); go_must (refine wpList_store_bx rfl 37 (.tmp 10) (.tmp 23) rfl B1 #[.string ⟨#[]⟩, .string ⟨#[]⟩] #[.string K, .string V] rfl rfl hX1.out rfl sizePr (pr_one K V) rfl ?_; intro w2 hX2 hg2; have hL2 : Kpt (Bx w2 L s.v) := ⟨hL1.out.grown hg2 (fun e => by injection e with e; have := hB1.out; omega)⟩; have hgw2 : Kpt (w.grownBy w2 (some L)) := ⟨grown_row hgw1.out hg2 (fun n e => by injection e with e; have := hB1.out; omega)⟩; replace hX2 := Kpt.mk hX2; clear hg2))
                  | (refine wpList_var rfl 37 rfl #[.string ⟨#[]⟩, .string ⟨#[]⟩] zeroPr ?_; intro B1 w1 hB1 hX1 hbe1; have hL1 : Kpt (Bx w1 L s.v) := ⟨hLr.out.below hbe1 hLr.out.lt⟩; have hgw1 : Kpt (w.grownBy w1 (some L)) := ⟨grown_row hgr.out (grown_of_below hbe1 none) (fun n e => by cases e)⟩; replace hB1 : Kpt (w.heap.size ≤ B1) := ⟨Nat.le_trans hgr.out.size hB1⟩; replace hX1 := Kpt.mk hX1; clear hbe1)
                  | (refine (?_ : wpList _ _ _ (Oper.mk _ (Op.load 37 (Operand.tmp 22)) _ _ _ _ :: _) _ _); go_must (refine wpList_load_mid rfl 37 (.tmp 22) rfl b (off + k * 2) rfl [.string K, .string V] _ hcell.out Tryd.underlying37 rfl sizePr ?_)))
          go_roundw
          case rel => exact ⟨k + 1, by omega, by go_num, hgw4, .inl ⟨⟨by have := hkk.out; omega⟩, rfl, hL4⟩⟩
          case measure => simp [intOf]; omega
        · obtain ⟨b, off, rfl, hcell⟩ := hex (hdB, o1) (by rw [hkk]; rfl)
          replace hkk := Kpt.mk hkk
          obtain ⟨K, hK⟩ : ∃ K, K = hdB := ⟨_, rfl⟩
          have kC := kH
          rw [← hK] at hcell kC
          unfold pcs at hcell
          simp only at hcell
          obtain ⟨V, hV⟩ : ∃ V, V = o1 := ⟨_, rfl⟩
          rw [← hV] at hcell kC
          have hKK := Kpt.mk hK
          clear hex hK hV
          go_wp2_with (first
                  | (refine (?_ : wpList _ _ _ (Oper.mk (some 35) _ _ _ _ _ :: _) _ _); go_must (refine wpList_append_prB rfl (.tmp 33) (.tmp 34) rfl w.heap.size (.slice none 0 0) [] (K, x) 0 rfl ho5.out G rfl cg0.out cg1.out (by omega) hgw4.out.size ?_; intro v6 w6 ho6 hg6; obtain ⟨xa, xc, rfl⟩ := own_sl2 ho6; have hL6 : Kpt (Bx w6 L (s.hdr qx).v) := ⟨hL4.out.grown hg6 (fun e => by have := (World.ownsRow.lt ho5.out _ e).1; omega)⟩; have hgw6 : Kpt (w.grownBy w6 (some L)) := ⟨grown_row hgw4.out hg6 (fun n e => (World.ownsRow.lt ho5.out n e).1)⟩; rw [hKK.out] at ho6; replace ho6 := Kpt.mk ho6; clear hg6))
                  | (go_at_call 21; go_must (refine (kC.out _ hL2.out).mono ?_; rintro e w4 ⟨G, rfl, hGl, hBG, hLn, hg4⟩; have hL4 : Kpt (Bx w4 L (s.hdr qx).v) := ⟨by simpa [Lg.v, Lg.hdr, Lg.dat] using hLn⟩; have hgw4 : Kpt (w.grownBy w4 (some L)) := ⟨grown_tr hgw2.out hg4⟩; have cg0 : Kpt (w4.cell? ⟨G, 0, none⟩ = some (.string K)) := ⟨by simpa using hBG.cells 0 (by simp)⟩; have cg1 : Kpt (w4.cell? ⟨G, 1, none⟩ = some (.string x)) := ⟨by simpa using hBG.cells 1 (by simp)⟩; have ho5 : Kpt (w4.ownsRow w.heap.size 37 2 (.slice none 0 0) 0 (cellsB [])) := ⟨World.ownsRow_nil _ _ _ _⟩; clear hg4 hBG hLn hGl))
                  | (refine (?_ : wpList _ _ _ (Oper.mk _ (Op.load 37 (Operand.tmp 10)) _ _ _ _ :: _) _ _); go_must (refine wpList_load_bx rfl 37 (.tmp 10) rfl B1 #[.string K, .string V] rfl hX2.out _ Tryd.underlying37 rfl sizePr ?_))
                  | (refine (?_ : wpList _ _ _ (Oper.mk none (Op.store _ _ _) _ _ _ _ :: _) _ _); go_must (refine wpList_store_bx rfl 37 (.tmp 10) (.tmp 23) rfl B1 #[.string ⟨#[]⟩, .string ⟨#[]⟩] #[.string K, .string V] rfl rfl hX1.out rfl sizePr (pr_one K V) rfl ?_; intro w2 hX2 hg2; have hL2 : Kpt (Bx w2 L s.v) := ⟨hL1.out.grown hg2 (fun e => by injection e with e; have := hB1.out; omega)⟩; have hgw2 : Kpt (w.grownBy w2 (some L)) := ⟨grown_row hgw1.out hg2 (fun n e => by injection e with e; have := hB1.out; omega)⟩; replace hX2 := Kpt.mk hX2; clear hg2))
                  | (refine wpList_var rfl 37 rfl #[.string ⟨#[]⟩, .string ⟨#[]⟩] zeroPr ?_; intro B1 w1 hB1 hX1 hbe1; have hL1 : Kpt (Bx w1 L s.v) := ⟨hLr.out.below hbe1 hLr.out.lt⟩; have hgw1 : Kpt (w.grownBy w1 (some L)) := ⟨grown_row hgr.out (grown_of_below hbe1 none) (fun n e => by cases e)⟩; replace hB1 : Kpt (w.heap.size ≤ B1) := ⟨Nat.le_trans hgr.out.size hB1⟩; replace hX1 := Kpt.mk hX1; clear hbe1)
                  | (refine (?_ : wpList _ _ _ (Oper.mk _ (Op.load 37 (Operand.tmp 22)) _ _ _ _ :: _) _ _); go_must (refine wpList_load_mid rfl 37 (.tmp 22) rfl b (off + k * 2) rfl [.string K, .string V] _ hcell.out Tryd.underlying37 rfl sizePr ?_)))
          go_roundw
          case rel => exact ⟨k + 1, by omega, by go_num, hgw6, .inr (.inl ⟨⟨by have := hkk.out; omega⟩, xa, xc, rfl, ho6, hL6⟩)⟩
          case measure => simp [intOf]; omega
      · have hkk := hk3.out
        obtain ⟨b, off, rfl, hcell⟩ := hex (ddB, o2) (by rw [hkk]; rfl)
        replace hkk := Kpt.mk hkk
        obtain ⟨K, hK⟩ : ∃ K, K = ddB := ⟨_, rfl⟩
        have kC := kD
        rw [← hK] at hcell kC
        unfold pcs at hcell
        simp only at hcell
        obtain ⟨V, hV⟩ : ∃ V, V = o2 := ⟨_, rfl⟩
        rw [← hV] at hcell kC
        have hKK := Kpt.mk hK
        clear hex hK hV
        go_wp2_with (first
                | (refine (?_ : wpList _ _ _ (Oper.mk (some 35) _ _ _ _ _ :: _) _ _); go_must (refine wpList_append_prB rfl (.tmp 33) (.tmp 34) rfl w.heap.size (.slice va 1 vc) [(hdB, x)] (K, y) 1 rfl ho5.out G rfl cg0.out cg1.out (by omega) hgw4.out.size ?_; intro v6 w6 ho6 hg6; obtain ⟨xa, xc, rfl⟩ := own_sl2 ho6; have hL6 : Kpt (Bx w6 L ((s.hdr qx).dat qy).v) := ⟨hL4.out.grown hg6 (fun e => by have := (World.ownsRow.lt ho5.out _ e).1; omega)⟩; have hgw6 : Kpt (w.grownBy w6 (some L)) := ⟨grown_row hgw4.out hg6 (fun n e => (World.ownsRow.lt ho5.out n e).1)⟩; rw [hKK.out] at ho6; replace ho6 := Kpt.mk ho6; clear hg6))
                | (go_at_call 21; go_must (refine (kC.out _ qx hL2.out).mono ?_; rintro e w4 ⟨G, rfl, hGl, hBG, hLn, hg4⟩; have hL4 : Kpt (Bx w4 L ((s.hdr qx).dat qy).v) := ⟨by simpa [Lg.v, Lg.hdr, Lg.dat] using hLn⟩; have hgw4 : Kpt (w.grownBy w4 (some L)) := ⟨grown_tr hgw2.out hg4⟩; have cg0 : Kpt (w4.cell? ⟨G, 0, none⟩ = some (.string K)) := ⟨by simpa using hBG.cells 0 (by simp)⟩; have cg1 : Kpt (w4.cell? ⟨G, 1, none⟩ = some (.string y)) := ⟨by simpa using hBG.cells 1 (by simp)⟩; have ho5 : Kpt (w4.ownsRow w.heap.size 37 2 (.slice va 1 vc) 1 (cellsB [(hdB, x)])) := ⟨own_of_blk ho2.out fun g hg => hg4.block g (World.ownsRow.lt ho2.out g hg).2 (fun e => by injection e with e; have := (World.ownsRow.lt ho2.out g hg).1; omega)⟩; clear hg4 hBG hLn hGl))
                | (refine (?_ : wpList _ _ _ (Oper.mk _ (Op.load 37 (Operand.tmp 10)) _ _ _ _ :: _) _ _); go_must (refine wpList_load_bx rfl 37 (.tmp 10) rfl B1 #[.string K, .string V] rfl hX2.out _ Tryd.underlying37 rfl sizePr ?_))
                | (refine (?_ : wpList _ _ _ (Oper.mk none (Op.store _ _ _) _ _ _ _ :: _) _ _); go_must (refine wpList_store_bx rfl 37 (.tmp 10) (.tmp 23) rfl B1 #[.string ⟨#[]⟩, .string ⟨#[]⟩] #[.string K, .string V] rfl rfl hX1.out rfl sizePr (pr_one K V) rfl ?_; intro w2 hX2 hg2; have hL2 : Kpt (Bx w2 L (s.hdr qx).v) := ⟨hL1.out.grown hg2 (fun e => by injection e with e; have := hB1.out; omega)⟩; have hgw2 : Kpt (w.grownBy w2 (some L)) := ⟨grown_row hgw1.out hg2 (fun n e => by injection e with e; have := hB1.out; omega)⟩; have ho2 : Kpt (w2.ownsRow w.heap.size 37 2 (.slice va 1 vc) 1 (cellsB [(hdB, x)])) := ⟨own_of_blk ho1.out fun g hg => hg2.block g (World.ownsRow.lt ho1.out g hg).2 (fun e => by injection e with e; have := hB9.out g hg; omega)⟩; replace hX2 := Kpt.mk hX2; clear hg2))
                | (refine wpList_var rfl 37 rfl #[.string ⟨#[]⟩, .string ⟨#[]⟩] zeroPr ?_; intro B1 w1 hB1 hX1 hbe1; have hL1 : Kpt (Bx w1 L (s.hdr qx).v) := ⟨hLr.out.below hbe1 hLr.out.lt⟩; have hgw1 : Kpt (w.grownBy w1 (some L)) := ⟨grown_row hgr.out (grown_of_below hbe1 none) (fun n e => by cases e)⟩; have ho1 : Kpt (w1.ownsRow w.heap.size 37 2 (.slice va 1 vc) 1 (cellsB [(hdB, x)])) := ⟨own_of_blk hown.out fun g hg => hbe1.block g (World.ownsRow.lt hown.out g hg).2⟩; have hB9 : Kpt (∀ g, (Value.slice va 1 vc).ownBlock = some g → g < B1) := ⟨fun g hg => Nat.lt_of_lt_of_le (World.ownsRow.lt hown.out g hg).2 hB1⟩; replace hB1 : Kpt (w.heap.size ≤ B1) := ⟨Nat.le_trans hgr.out.size hB1⟩; replace hX1 := Kpt.mk hX1; clear hbe1)
                | (refine (?_ : wpList _ _ _ (Oper.mk _ (Op.load 37 (Operand.tmp 22)) _ _ _ _ :: _) _ _); go_must (refine wpList_load_mid rfl 37 (.tmp 22) rfl b (off + k * 2) rfl [.string K, .string V] _ hcell.out Tryd.underlying37 rfl sizePr ?_)))
        go_roundw
        case rel => exact ⟨k + 1, by omega, by go_num, hgw6, .inr (.inr ⟨⟨by have := hkk.out; omega⟩, xa, xc, rfl, ho6, hL6⟩)⟩
        case measure => simp [intOf]; omega
      · have := hk4.out; omega
    · have hltI : ¬ (k : Int) < 4 := by omega
      rcases hcase with ⟨hk2, _⟩ | ⟨hk3, _⟩ | ⟨hk4, va, vc, rfl, hown, hLr⟩
      · have := hk2.out; omega
      · have := hk3.out; omega
      · go_wp2
        go_ret2
        exact ⟨va, vc, rfl, hown.out, hLr.out, hgr.out⟩
end Go.Proofs.YtplifodddfjhdabDoor
