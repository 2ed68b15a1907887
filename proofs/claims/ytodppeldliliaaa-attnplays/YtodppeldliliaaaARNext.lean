/-
  The contract of the document's Next.
-/
import Derived.Test.YtodppeldliliaaaARNextP
namespace Go.Proofs.Ytodppeldliliaaa
open Go.RowKit
set_option linter.unusedVariables false
set_option linter.unusedSimpArgs false

theorem rnext_void (p : Value) (n : Int) (tk : Bool) (w : World) (h : ¬ (0 ≤ n ∧ n < 8)) :
    Calls Try.prog 13 #[p, .int .i64 n, .bool tk] w fun e w' => e = .returned (.tuple #[.int .u16 0, .bool false]) ∧ w' = w := by
  by_cases h0 : n < 0
  · clear h
    go_enter Try.func13, Try.ntmps13
    go_wp2
    go_ret2
    exact ⟨rfl, rfl⟩
  · have h7 : 7 < n := by omega
    clear h
    go_enter Try.func13, Try.ntmps13
    go_wp2
    go_ret2
    exact ⟨rfl, rfl⟩
theorem rnext_none (base B n : Nat) (L : Nat → List Int) (S : Nat → Value) (tk : Bool) (w : World) (h : Qu base w B L S) (hn : n < 8) (h0 : L n = []) :
    Calls Try.prog 13 #[.pointer (some ⟨B, 0, none⟩), .int .i64 n, .bool tk] w fun e w' => e = .returned (.tuple #[.int .u16 0, .bool false]) ∧ w' = w := by
  have hcell := h.cells n hn
  obtain ⟨a, cap, hv, _⟩ := (h.own n hn).shape
  rw [hv, h0] at hcell
  simp only [List.length_nil] at hcell
  have e1 : ¬ (n : Int) < 0 := by omega
  have e2 : ¬ (7 : Int) < (n : Int) := by omega
  have e3 : (n : Int) < 8 := by omega
  have e4 : (0 : Int) ≤ (n : Int) := by omega
  clear h hv h0
  go_enter Try.func13, Try.ntmps13
  go_wp2
  go_ret2
  exact ⟨rfl, rfl⟩

theorem Own.lower {base base' : Nat} {w : World} {v : Value} {zs : List Int} (h : Own base w v zs) (hb : base' ≤ base) : Own base' w v zs := by
  refine ⟨h.1, ?_⟩
  rcases h.2 with h | ⟨g, cap, cur, rfl, h0, rest⟩
  · exact .inl h
  · exact .inr ⟨g, cap, cur, rfl, Nat.le_trans hb h0, rest⟩

/-- What Next does to the queues, where it takes. -/
def NextPost (base B n : Nat) (L : Nat → List Int) (S : Nat → Value) (w : World) (tk : Bool) (w' : World) : Prop :=
  if tk = true then (∃ S', Qu base w' B (upd L n ((L n).eraseIdx (bestAt (L n)))) S' ∧ Turned w w' B S S') ∧ Below base w w' else w' = w

theorem ret_pair {a b : Int} (h : a = b) : Ending.returned (.tuple #[.int .u16 a, .bool true]) = .returned (.tuple #[.int .u16 b, .bool true]) := by rw [h]

set_option maxRecDepth 100000 in
set_option maxHeartbeats 4000000 in
theorem rnext_some (base B n : Nat) (L : Nat → List Int) (S : Nat → Value) (tk : Bool) (w : World) (h : Qu base w B L S) (hn : n < 8) (h0 : 0 < (L n).length) :
    Calls Try.prog 13 #[.pointer (some ⟨B, 0, none⟩), .int .i64 n, .bool tk] w fun e w' => e = .returned (.tuple #[.int .u16 (bestC (L n)), .bool true]) ∧ NextPost base B n L S w tk w' := by
  have hcell := h.cells n hn
  have hfr := h.free n
  have hlt := h.lt
  have hfew := h.few n hn
  have hgood := Kpt.mk (h.good n hn)
  have hK := Kpt.mk h
  obtain ⟨a, cap, hv, hs⟩ := (h.own n hn).shape
  obtain ⟨g, rfl, hb, hg, hc⟩ := hs h0
  rw [hv] at hcell
  have e1 : ¬ (n : Int) < 0 := by omega
  have e2 : ¬ (7 : Int) < (n : Int) := by omega
  have e3 : (n : Int) < 8 := by omega
  have e4 : (0 : Int) ≤ (n : Int) := by omega
  have hsz : Kpt (B < w.heap.size ∧ g < w.heap.size) := ⟨h.lt, hg⟩
  obtain ⟨zs, hzs⟩ : ∃ zs, zs = L n := ⟨_, rfl⟩
  rw [← hzs] at hcell hc hfew hv hgood h0 ⊢
  obtain ⟨m, hm⟩ : ∃ m, m = zs.length := ⟨_, rfl⟩
  rw [← hm] at hcell hc hfew hv h0
  have e5 : ¬ (m : Int) = 0 := by omega
  replace hc := Kpt.mk hc
  replace hv := Kpt.mk hv
  replace hm := Kpt.mk hm
  replace hzs := Kpt.mk hzs
  clear h hs hb
  go_enter Try.func13, Try.ntmps13
  go_wp2
  go_loopw [8] (fun t wr => ∃ (r : Nat), r ≤ 4 ∧ t = .int .i64 r ∧ Kpt (∀ j, j < m → (r : Int) ≤ rnk (zs.getD j 0)) ∧ wr = w) (fun t _ => 4 - (intOf t).toNat)
  case atStart => exact ⟨0, by omega, rfl, ⟨fun j _ => by unfold rnk; split; decide; split; decide; split <;> decide⟩, rfl⟩
  case round =>
    obtain ⟨r, hr4, rfl, hR, rfl⟩ := hrel
    have r4 : r < 4 := by
      have := hR.out 0 h0
      have h3 : rnk (zs.getD 0 0) ≤ 3 := by unfold rnk; split; decide; split; decide; split <;> decide
      omega
    have e6 : (r : Int) < 4 := by omega
    go_wp2
    go_loopw [9] (fun t wq => ∃ (i : Nat), i ≤ m ∧ t = .int .i64 i ∧ Kpt (∀ j, j < i → rnk (zs.getD j 0) ≠ (r : Int)) ∧ wq = wr) (fun t _ => m - (intOf t).toNat)
    case atStart => exact ⟨0, Nat.zero_le _, rfl, ⟨fun j hj => by omega⟩, rfl⟩
    case round =>
      obtain ⟨i, him, rfl, hI, rfl⟩ := hrel
      by_cases hi : i < m
      · have e7 : (i : Int) < m := by omega
        have hck := (hc.out i hi).1
        have hiz : i < zs.length := by rw [← hm.out]; exact hi
        have hxg : 0 ≤ zs.getD i 0 ∧ zs.getD i 0 ≤ 65535 := getD_good hgood.out i
        obtain ⟨x, hx⟩ : ∃ x, x = zs.getD i 0 := ⟨_, rfl⟩
        rw [← hx] at hck hxg
        replace hx := Kpt.mk hx
        have HR : Kpt (∀ W, Calls Try.prog 17 #[.int .u16 x] W fun e w' => e = .returned (.int .i64 (rnk x)) ∧ w' = W) := ⟨fun W => rrank_any _ W hxg⟩
        by_cases hxr : rnk x = (r : Int)
        · have hbest : Kpt (bestAt zs = i) := ⟨best_at zs i r hiz (by rw [← hx.out]; exact hxr) (fun j hj => hR.out j (by rw [hm.out]; exact hj)) hI.out⟩
          have hbc : Kpt (x = bestC zs) := ⟨by rw [hx.out]; unfold bestC; rw [show bestFrom zs zs.length 0 0 = i from hbest.out]⟩
          obtain ⟨rx, hrx⟩ : ∃ rx, rx = rnk x := ⟨_, rfl⟩
          rw [← hrx] at HR hxr
          clear hrx hR hI
          subst hxr
          cases tk with
          | false =>
            go_wp2_with (go_at_call 17; go_must (refine (HR.out _).mono ?_; rintro e w5 ⟨rfl, rfl⟩))
            go_ret2
            exact ⟨ret_pair hbc.out, rfl⟩
          | true =>
            go_wp2_with (go_at_call 17; go_must (refine (HR.out _).mono ?_; rintro e w5 ⟨rfl, rfl⟩))
            clear HR
            go_loopw [11, 12] (fun l t wq => ∃ (j : Nat) (v : Value), j ≤ m ∧ l = v ∧ t = .int .i64 j ∧ Kpt (Own w5.heap.size wq v (restL zs i j)) ∧ Kpt (Below w5.heap.size w5 wq)) (fun _ t _ => m - (intOf t).toNat)
            case atStart => exact ⟨0, _, Nat.zero_le _, rfl, rfl, ⟨by rw [rest_zero]; exact World.ownsRow_nil _ _ _ _⟩, ⟨Below.refl _ _⟩⟩
            case round =>
              obtain ⟨j, v, hj, hlv0, rfl, hO, hBl⟩ := hrel
              replace hlv0 := hlv0.symm
              subst hlv0
              have hcq : wr.cell? ⟨B, n, none⟩ = some (.slice (some ⟨g, 0, none⟩) m cap) := (hBl.out.cell (p := ⟨B, n, none⟩) hsz.out.1).trans hcell
              by_cases hjm : j < m
              · have e9 : (j : Int) < m := by omega
                have hjz : j < zs.length := by rw [← hm.out]; exact hjm
                have hcj : wr.cell? ⟨g, j, none⟩ = some (.int .u16 (zs.getD j 0)) := (hBl.out.cell (p := ⟨g, j, none⟩) hsz.out.2).trans (hc.out j hjm).1
                by_cases hji : j = i
                · have hO2 : Kpt (Own w5.heap.size wr v (restL zs i (j + 1))) := ⟨by rw [hji, rest_skip zs i hiz, ← hji]; have := hO.out; rw [← hji] at this; exact this⟩
                  have e10 : (j : Int) = (i : Int) := by omega
                  clear hO hcj
                  subst hji
                  clear e10
                  go_wp2
                  go_roundw
                  case rel => exact ⟨j + 1, v, by omega, rfl, by go_num, hO2, hBl⟩
                  case measure => simp [intOf]; omega
                · have hst := Kpt.mk (rest_step zs i j hjz hji)
                  have e10 : ¬ (j : Int) = (i : Int) := by omega
                  have hle : Kpt ((restL zs i j).length ≤ 8) := ⟨by have := rest_len zs i j; have := hm.out; omega⟩
                  obtain ⟨y, hy⟩ : ∃ y, y = zs.getD j 0 := ⟨_, rfl⟩
                  rw [← hy] at hcj hst
                  replace hy := Kpt.mk hy
                  obtain ⟨rl, hrl⟩ : ∃ rl, rl = restL zs i j := ⟨_, rfl⟩
                  rw [← hrl] at hO hst hle
                  replace hrl := Kpt.mk hrl
                  have hOA : ∀ o, Kpt (Own w5.heap.size (wr.alloc o) v rl) := fun o => ⟨hO.out.of_block (fun q hq => Below.heap_alloc _ _ _ (hO.out.lt hq).2)⟩
                  have hsz5 : w5.heap.size ≤ wr.heap.size := hBl.out.size
                  go_wp2_with (at_builtin; go_must (refine wpList_append_code rfl (.tmp 72) (.tmp 82) rfl w5.heap.size wr.heap.size v rl y rfl rfl (by simp) (hOA _).out hle.out (by simp; omega) ?_; intro v' w2 ho2 hg2 hor))
                  have hB2 : Kpt (Below w5.heap.size w5 w2) := ⟨(hBl.out.alloc hsz5 _).grown hg2.out (by simp; omega) (fun k hk => (hO.out.lt hk).1)⟩
                  go_wp2
                  go_roundw
                  case rel => exact ⟨j + 1, v', by omega, rfl, by go_num, ⟨by rw [hst.out]; exact ho2.out⟩, hB2⟩
                  case measure => simp [intOf]; omega
              · have e9 : ¬ (j : Int) < m := by omega
                have hjm' : j = m := by omega
                have hOz : Own w5.heap.size wr v (zs.eraseIdx i) := by have := hO.out; rw [hjm', hm.out, rest_all] at this; exact this
                have hfq : wr.frozen? ⟨B, n, none⟩ = false := (hBl.out.frozen (p := ⟨B, n, none⟩) hsz.out.1).trans hfr
                have hg2 : w5.grownBy wr (S n).ownBlock := ⟨hBl.out.os, hBl.out.tape, hBl.out.output, hBl.out.size, fun k hk _ => hBl.out.block k hk⟩
                obtain ⟨av, cv, hav, _⟩ := hOz.shape
                obtain ⟨lv, hlv⟩ : ∃ lv, lv = (zs.eraseIdx i).length := ⟨_, rfl⟩
                rw [← hlv] at hav
                subst hav
                have hor : (Value.slice av lv cv).ownBlock = (S n).ownBlock ∨ (Value.slice av lv cv).ownBlock = none ∨ ∃ q, (Value.slice av lv cv).ownBlock = some q ∧ w5.heap.size ≤ q := by
                  cases hq : (Value.slice av lv cv).ownBlock with
                  | none => exact .inr (.inl rfl)
                  | some q => exact .inr (.inr ⟨q, rfl, (hOz.lt hq).1⟩)
                have hF : Kpt (NextPost base B n L S w5 true (wr.setCell ⟨B, n, none⟩ (.slice av lv cv))) := ⟨by
                  unfold NextPost
                  rw [if_pos rfl, ← hzs.out, hbest.out]
                  have hlen : (zs.eraseIdx i).length ≤ 8 := by rw [List.length_eraseIdx_of_lt hiz]; have := hm.out; omega
                  have hgd : ∀ c ∈ zs.eraseIdx i, 0 ≤ c ∧ c ≤ 65535 := fun c hc' => hgood.out c (List.mem_of_mem_eraseIdx hc')
                  exact ⟨⟨_, hK.out.turn hn hg2 (hOz.lower (Nat.le_trans hK.out.le (Nat.le_of_lt hK.out.lt))) hor hlen hgd, turned_turn hK.out hn hg2 hor⟩, below_turn hK.out hn hg2⟩⟩
                replace hlv := Kpt.mk hlv
                clear hOz hg2 hor hO
                go_wp2
                go_ret2
                exact ⟨ret_pair hbc.out, hF.out⟩
        · have hI2 : Kpt (∀ j, j < i + 1 → rnk (zs.getD j 0) ≠ (r : Int)) := ⟨fun j hj => by
            by_cases e : j = i
            · rw [e, ← hx.out]; exact hxr
            · exact hI.out j (by omega)⟩
          obtain ⟨rx, hrx⟩ : ∃ rx, rx = rnk x := ⟨_, rfl⟩
          rw [← hrx] at HR hxr
          clear hrx
          go_wp2_with (go_at_call 17; go_must (refine (HR.out _).mono ?_; rintro e w5 ⟨rfl, rfl⟩))
          go_roundw
          case rel => exact ⟨i + 1, by omega, by go_num, hI2, by first | rfl | trivial⟩
          case measure => simp [intOf]; omega
      · have e7 : ¬ (i : Int) < m := by omega
        have hR2 : Kpt (∀ j, j < m → ((r + 1 : Nat) : Int) ≤ rnk (zs.getD j 0)) := ⟨fun j hj => by have a1 := hR.out j hj; have a2 := hI.out j (by omega); omega⟩
        go_wp2
        go_roundw
        case rel => exact ⟨r + 1, by omega, by go_num, hR2, by first | rfl | trivial⟩
        case measure => simp [intOf]; omega
end Go.Proofs.Ytodppeldliliaaa
