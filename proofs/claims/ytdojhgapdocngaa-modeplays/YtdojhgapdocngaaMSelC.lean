/-
  The contracts of read and Select.
-/
import Derived.Test.YtdojhgapdocngaaMSelB
namespace Go.Proofs.Ytdojhgapdocngaa
open Go.RowKit
set_option linter.unusedVariables false
set_option linter.unusedSimpArgs false

theorem rpage_any (b off n c k : Nat) (r : List Int) (w : World) (hr : Cl w b (off + k) r) (hn : n = k + r.length) (h1 : 1 ≤ r.length) (hnc : n ≤ c) (hmx : c ≤ maxLen) (hb : b < w.heap.size) (hby : ∀ j, 0 ≤ r.getD j 0 ∧ r.getD j 0 ≤ 255) :
    Calls Try.prog 25 #[.slice (some ⟨b, off, none⟩) n c, .int .i64 k] w fun e w' => e = .returned (pageRes b (off + k) (c - k) r (pageE r k)) ∧ Below w.heap.size w w' := by
  by_cases h8 : r.getD 0 0 = 8
  · exact rpage_8 b off n c k r w hr hn h1 hnc hmx hb hby h8
  · by_cases h10 : r.getD 0 0 = 10
    · exact rpage_10 b off n c k r w hr hn h1 hnc hmx hb hby h10
    · exact rpage_other b off n c k r w hr hn h1 hnc hmx hb h8 h10
theorem rhead_any (lg : Bool) (a : Option Addr) (c : Nat) (p : List Int) (w : World) (hp : RdAt w (.slice a p.length c) p) (hmx : p.length ≤ maxLen) :
    Calls Try.prog 24 #[.bool lg, .slice a p.length c] w fun e w' => e = .returned (headRes lg (headE lg p)) ∧ Below w.heap.size w w' := by
  cases lg
  · exact rhead_false a c p w hp hmx
  · exact rhead_true a c p w hp hmx

/-- How long the page is that begins so. -/
def plen (r : List Int) : Nat := (layB (r.getD 0 0) allV).length
/-- The pages, one behind the other: the values behind them, and what is wrong. -/
def rdL : Nat → Vs → List Int → Nat → Vs × Option Sn
  | 0, v, _, _ => (v, none)
  | f + 1, v, p, k => if p.length ≤ k then (v, none) else match pageE (p.drop k) k with
    | some s => (v, some s)
    | none => rdL f (withV v (p.drop k)) p (k + plen (p.drop k))
def readL (v : Vs) (lg : Bool) (p : List Int) : Vs × Option Sn := match headE lg p with
  | some s => (v, some s)
  | none => rdL (p.length + 1) v p (hsz lg)

theorem infoV : (Try.prog.info? 23).map (·.size) = some 3 := by kernel_rfl
theorem Vs.vals_one (c : Vs) : c.vals.all (·.oneCell') = true := by simp [Vs.vals, Value.oneCell']
theorem Bx.below' {w w' : World} {b : Nat} {cs : Array Value} (h : Bx w b cs) (hb : Below w.heap.size w w') : Bx w' b cs := h.below hb h.lt
theorem bx_vs {w : World} {b : Nat} {v : Vs} (h : Bx w b v.vals) : w.cell? ⟨b, 0, none⟩ = some (.bool v.a) ∧ w.cell? ⟨b, 1, none⟩ = some (.bool v.b) ∧ w.cell? ⟨b, 2, none⟩ = some (.bool v.c) := ⟨h.cells 0 (show 0 < 3 by decide), h.cells 1 (show 1 < 3 by decide), h.cells 2 (show 2 < 3 by decide)⟩
theorem cl_rd {w : World} {b off c n : Nat} {p : List Int} (h : Cl w b off p) (hn : n = p.length) (hc : n ≤ c) : RdAt w (.slice (some ⟨b, off, none⟩) n c) p := by
  subst hn
  refine ⟨some ⟨b, off, none⟩, c, rfl, fun h => (by cases h), hc, .inr ⟨b, off, rfl, fun j u hu => ?_⟩⟩
  have hj : j < p.length := by have := (List.getElem?_eq_some_iff.1 hu).1; simpa using this
  rw [h j hj]
  rw [cels, List.getElem?_map, List.getElem?_eq_getElem hj] at hu
  rw [List.getD_eq_getElem?_getD, List.getElem?_eq_getElem hj]
  exact hu
theorem plen_bd (r : List Int) : 12 ≤ plen r := (layB_len (r.getD 0 0) allV).2
theorem pageE_len {r : List Int} {k : Int} (h : pageE r k = none) : plen r ≤ r.length := by
  unfold pageE at h
  split at h
  · cases h
  · split at h
    · cases h
    · split at h
      · cases h
      · split at h
        · cases h
        · rename_i h4; unfold plen; omega
theorem rdL_end (f : Nat) (v : Vs) (p : List Int) (k : Nat) (h : p.length ≤ k) : rdL f v p k = (v, none) := by
  cases f with
  | zero => rfl
  | succ f => rw [rdL, if_pos h]

set_option maxRecDepth 100000 in
set_option maxHeartbeats 3000000 in
theorem read_any (lg : Bool) (b off c : Nat) (v : Vs) (p : List Int) (w : World) (hp : Cl w b off p) (h1 : 1 ≤ p.length) (hnc : p.length ≤ c) (hmx : c ≤ maxLen) (hb : b < w.heap.size) (hby : ∀ j, 0 ≤ p.getD j 0 ∧ p.getD j 0 ≤ 255) :
    Calls Try.prog 18 #[.agg v.vals, .bool lg, .slice (some ⟨b, off, none⟩) p.length c] w fun e w' => (∀ s, (readL v lg p).2 = some s → ∃ v', e = .returned (.tuple #[.agg (Vs.vals v'), .agg s.vals, .bool false])) ∧ ((readL v lg p).2 = none → e = .returned (.tuple #[.agg (readL v lg p).1.vals, .agg noS.vals, .bool true])) ∧ Below w.heap.size w w' := by
  have HH := Kpt.mk (fun W (h : RdAt W (.slice (some ⟨b, off, none⟩) p.length c) p) => rhead_any lg (some ⟨b, off, none⟩) c p W h (by omega))
  have HP := Kpt.mk (fun W (k : Nat) (hk : k < p.length) (h : Cl W b off p) (hb : b < W.heap.size) => rpage_any b off p.length c k (p.drop k) W (h.drop k) (by rw [List.length_drop]; omega) (by rw [List.length_drop]; omega) hnc hmx hb (fun j => by simpa [List.getD_eq_getElem?_getD, List.getElem?_drop] using hby (k + j)))
  unfold maxLen at hmx
  have hpK := Kpt.mk hp
  obtain ⟨n, hn⟩ : ∃ n, n = p.length := ⟨_, rfl⟩
  rw [← hn] at HH HP ⊢ h1 hnc
  obtain ⟨va, vb, vc⟩ := v
  rw [show (Vs.vals ⟨va, vb, vc⟩) = #[.bool va, .bool vb, .bool vc] from rfl]
  replace hn := Kpt.mk hn
  replace hby := Kpt.mk hby
  clear hp
  go_enter Try.func18, Try.ntmps18
  go_wp2_with fail
  obtain ⟨w1, hw1⟩ : ∃ w1, w1 = ((w.alloc (.cells #[.bool va, .bool vb, .bool vc] 23)).alloc (.cells #[.bool false, .bool false, .bool false] 23)).alloc (.cells #[.int .u8 0, .int .u16 0, .int .u64 0, .bool false, .int .i64 0, .int .i64 0, .bool false, .bool false] 42) := ⟨_, rfl⟩
  have hs1 : w1.heap.size = w.heap.size + 3 := by rw [hw1]; simp
  have hbe1 : Below w.heap.size w w1 := by rw [hw1]; exact (((Below.refl _ _).alloc (Nat.le_refl _) _).alloc (by simp) _).alloc (by simp; omega) _
  have hv1 : Bx w1 w.heap.size (Vs.vals ⟨va, vb, vc⟩) := by rw [hw1]; exact ((bx_new w (Vs.vals ⟨va, vb, vc⟩) 23).alloc _).alloc _
  have hr1 : Bx w1 (w.heap.size + 1) noV.vals := by
    rw [hw1]
    have := (bx_new (w.alloc (.cells #[.bool va, .bool vb, .bool vc] 23)) noV.vals 23).alloc (.cells #[.int .u8 0, .int .u16 0, .int .u64 0, .bool false, .int .i64 0, .int .i64 0, .bool false, .bool false] 42)
    rw [show (w.alloc (.cells #[.bool va, .bool vb, .bool vc] 23)).heap.size = w.heap.size + 1 from by simp] at this
    exact this
  have hq1 : Bx w1 (w.heap.size + 2) zeroS := by
    rw [hw1]
    have := bx_new ((w.alloc (.cells #[.bool va, .bool vb, .bool vc] 23)).alloc (.cells #[.bool false, .bool false, .bool false] 23)) zeroS 42
    rw [show ((w.alloc (.cells #[.bool va, .bool vb, .bool vc] 23)).alloc (.cells #[.bool false, .bool false, .bool false] 23)).heap.size = w.heap.size + 2 from by simp] at this
    exact this
  rw [← hw1]
  clear hw1
  have hcl1 : Cl w1 b off p := fun j hj => (hbe1.cell (p := ⟨b, off + j, none⟩) hb).trans (hpK.out j hj)
  refine (HH.out w1 (cl_rd hcl1 hn.out hnc)).mono ?_
  rintro e w2 ⟨rfl, hb2⟩
  obtain ⟨k0, ok0, s0, hres, hinv⟩ : ∃ (k0 : Nat) (ok0 : Bool) (s0 : Sn), headRes lg (headE lg p) = .tuple #[.int .i64 k0, .agg s0.vals, .bool ok0] ∧ ((ok0 = true ∧ s0 = noS ∧ ∃ f, readL ⟨va, vb, vc⟩ lg p = rdL f ⟨va, vb, vc⟩ p k0 ∧ n < k0 + f) ∨ (ok0 = false ∧ (readL ⟨va, vb, vc⟩ lg p).2 = some s0)) := by
    cases hhe : headE lg p with
    | some s => exact ⟨0, false, s, rfl, .inr ⟨rfl, by unfold readL; rw [hhe]⟩⟩
    | none => exact ⟨hsz lg, true, noS, rfl, .inl ⟨rfl, rfl, p.length + 1, by unfold readL; rw [hhe], by have := hn.out; omega⟩⟩
  rw [hres]
  have hlt1 : b < w1.heap.size := by omega
  have hv2 := Kpt.mk (hv1.below hb2 (by omega))
  have hr2 := Kpt.mk (hr1.below hb2 (by omega))
  have hq2 := Kpt.mk (hq1.below hb2 (by omega))
  have hbe2 : Kpt (Below w.heap.size w w2) := ⟨hbe1.trans (hb2.mono (by omega))⟩
  have hs2 : w.heap.size + 3 ≤ w2.heap.size := by have := hb2.size; omega
  have hinvK := Kpt.mk hinv
  obtain ⟨X, hX⟩ : ∃ X, X = w2.heap.size := ⟨_, rfl⟩
  obtain ⟨sk, sc, si, shi, sf, sb, shf, sic⟩ := s0
  simp only [Sn.vals]
  clear hres hinv hv1 hr1 hq1 hbe1 hs1 hb2 hcl1 HH
  go_wp2_with fail
  obtain ⟨w3, hw3⟩ : ∃ w3, w3 = w2.alloc (.cells #[.int .u8 sk, .int .u16 sc, .int .u64 si, .bool shi, .int .i64 sf, .int .i64 sb, .bool shf, .bool sic] 42) := ⟨_, rfl⟩
  have hv3 : Kpt (Bx w3 w.heap.size (Vs.vals ⟨va, vb, vc⟩)) := ⟨by rw [hw3]; exact hv2.out.alloc _⟩
  have hr3 : Kpt (Bx w3 (w.heap.size + 1) noV.vals) := ⟨by rw [hw3]; exact hr2.out.alloc _⟩
  have hq3 : Kpt (Bx w3 (w.heap.size + 2) zeroS) := ⟨by rw [hw3]; exact hq2.out.alloc _⟩
  have hx3 : Kpt (Bx w3 X (Sn.vals ⟨sk, sc, si, shi, sf, sb, shf, sic⟩)) := ⟨by rw [hw3, hX]; exact bx_new w2 (Sn.vals ⟨sk, sc, si, shi, sf, sb, shf, sic⟩) 42⟩
  have hbe3 : Kpt (Below w.heap.size w w3) := ⟨by rw [hw3]; exact hbe2.out.alloc hbe2.out.size _⟩
  rw [← hw3, ← hX]
  rw [← hX] at hs2
  clear hw3 hv2 hr2 hq2 hbe2 hX
  go_loopw [9, 11] (fun t o wr => ∃ (k : Nat) (ok : Bool) (v' : Vs) (s : Sn), t = .int .i64 k ∧ o = .bool ok ∧ Kpt (Bx wr w.heap.size v'.vals) ∧ Kpt (Bx wr (w.heap.size + 1) noV.vals) ∧ Kpt (Bx wr (w.heap.size + 2) zeroS) ∧ Kpt (Bx wr X s.vals) ∧ Kpt (Below w.heap.size w wr) ∧ Kpt ((ok = true ∧ s = noS ∧ ∃ f, readL ⟨va, vb, vc⟩ lg p = rdL f v' p k ∧ n < k + f) ∨ (ok = false ∧ (readL ⟨va, vb, vc⟩ lg p).2 = some s))) (fun t o _ => 2 * (n - (intOf t).toNat) + (match o with | .bool true => 1 | _ => 0))
  case atStart => exact ⟨k0, ok0, ⟨va, vb, vc⟩, ⟨sk, sc, si, shi, sf, sb, shf, sic⟩, rfl, rfl, hv3, hr3, hq3, hx3, hbe3, hinvK⟩
  case round =>
    obtain ⟨k, ok, v', s, rfl, rfl, hv, hr, hq, hx, hbe, hI⟩ := hrel
    clear hv3 hr3 hq3 hx3 hbe3 hinvK
    by_cases hgo : ok = true ∧ k < n
    · obtain ⟨rfl, hkn⟩ := hgo
      have e1 : (k : Int) < n := by omega
      rcases hI.out with ⟨_, hs0, f, hrl, hf⟩ | ⟨h, _⟩
      case inr => cases h
      obtain ⟨f', rfl⟩ : ∃ f', f = f' + 1 := ⟨f - 1, by omega⟩
      have hst : rdL (f' + 1) v' p k = match pageE (p.drop k) k with | some s => (v', some s) | none => rdL f' (withV v' (p.drop k)) p (k + plen (p.drop k)) := by rw [rdL, if_neg (by have := hn.out; omega)]
      have hcl : Cl wr b off p := fun j hj => (hbe.out.cell (p := ⟨b, off + j, none⟩) hb).trans (hpK.out j hj)
      have hbr : b < wr.heap.size := Nat.lt_of_lt_of_le hb hbe.out.size
      have H := HP.out wr k hkn hcl hbr
      have hXl := hx.out.lt
      clear hI
      cases hpe : pageE (p.drop k) k with
      | some s' =>
        rw [hpe] at H hst
        have hfin : Kpt ((readL ⟨va, vb, vc⟩ lg p).2 = some s') := ⟨by rw [hrl, hst]⟩
        simp only [pageRes] at H
        replace H := Kpt.mk H
        clear hst hrl hcl hpe
        go_wp2_with fail
        refine H.out.mono ?_
        rintro e w4 ⟨rfl, hb4⟩
        have hx4 := Kpt.mk (hx.out.below hb4 hXl)
        have hv4 := Kpt.mk (hv.out.below' hb4)
        have hr4 := Kpt.mk (hr.out.below' hb4)
        have hq4 := Kpt.mk (hq.out.below' hb4)
        have hbe4 : Kpt (Below w.heap.size w w4) := ⟨hbe.out.trans (hb4.mono hbe.out.size)⟩
        clear hb4 H hx hv hr hq hbe
        go_wp2_with (refine wpList_store_bx rfl 42 (.tmp 10) (.tmp 32) rfl X _ s'.vals rfl rfl hx4.out rfl infoS (Sn.vals_one _) rfl ?_; intro w5 hx5 hg5; replace hx5 := Kpt.mk hx5; replace hg5 := Kpt.mk hg5; clear hx4)
        go_roundw
        case rel => exact ⟨k, false, v', s', rfl, rfl, ⟨hv4.out.grown hg5.out (fun e => by have e' : X = _ := Option.some.inj e; omega)⟩, ⟨hr4.out.grown hg5.out (fun e => by have e' : X = _ := Option.some.inj e; omega)⟩, ⟨hq4.out.grown hg5.out (fun e => by have e' : X = _ := Option.some.inj e; omega)⟩, hx5, ⟨hbe4.out.grown hg5.out hbe4.out.size (fun q hq => by cases hq; omega)⟩, ⟨.inr ⟨rfl, hfin.out⟩⟩⟩
        case measure => simp [intOf]
      | none =>
        have hpl := pageE_len hpe
        have hpl12 := plen_bd (p.drop k)
        rw [hpe] at H hst
        obtain ⟨pl, hplE⟩ : ∃ pl, pl = plen (p.drop k) := ⟨_, rfl⟩
        have hpr : pageRes b (off + k) (c - k) (p.drop k) none = .tuple #[.slice (some ⟨b, off + k, none⟩) pl (c - k), .agg noS.vals, .bool true] := by rw [hplE]; rfl
        rw [hpr] at H
        rw [← hplE] at hst hpl hpl12
        rw [List.length_drop, ← hn.out] at hpl
        have hnext : Kpt (readL ⟨va, vb, vc⟩ lg p = rdL f' (withV v' (p.drop k)) p (k + pl)) := ⟨by rw [hrl, hst]⟩
        have hlen5 : 5 ≤ (p.drop k).length := by rw [List.length_drop, ← hn.out]; omega
        have HW := Kpt.mk (fun W (h : Cl W b off p) (hb : b < W.heap.size) => with_any b (off + k) pl (c - k) v' (p.drop k) W (h.drop k) hb hlen5 (by omega))
        have hclK := Kpt.mk hcl
        obtain ⟨v2, hv2⟩ : ∃ v2, v2 = withV v' (p.drop k) := ⟨_, rfl⟩
        rw [← hv2] at hnext HW
        have ekp : (k : Int) + pl ≤ 9223372036854775807 := by omega
        replace H := Kpt.mk H
        clear hst hrl hcl hpe hpr hplE hv2 hlen5
        go_wp2_with fail
        refine H.out.mono ?_
        rintro e w4 ⟨rfl, hb4⟩
        have hcl4 := Kpt.mk (hclK.out.below hb4 hbr)
        have hx4 := Kpt.mk (hx.out.below hb4 hXl)
        have hv4 := Kpt.mk (hv.out.below' hb4)
        have hr4 := Kpt.mk (hr.out.below' hb4)
        have hq4 := Kpt.mk (hq.out.below' hb4)
        have hbe4 : Kpt (Below w.heap.size w w4) := ⟨hbe.out.trans (hb4.mono hbe.out.size)⟩
        have hbr4 : b < w4.heap.size := Nat.lt_of_lt_of_le hbr hb4.size
        clear hb4 H hx hv hr hq hbe
        go_wp2_with (first
          | (refine wpList_store_bx rfl 23 (.tmp 3) (.tmp 37) rfl w.heap.size _ v2.vals rfl rfl hv6.out rfl infoV (Vs.vals_one _) rfl ?_; intro w7 hv7 hg7; replace hv7 := Kpt.mk hv7; replace hg7 := Kpt.mk hg7; clear hv6)
          | (go_at_call 26; refine (HW.out w5 (hcl4.out.of_block (hg5.out.block b hbr4 (fun e => by have e' : b = X := Option.some.inj e; omega))) (Nat.lt_of_lt_of_le hbr4 hg5.out.size)).mono ?_; rintro e w6 ⟨rfl, hb6⟩; have hx6 := Kpt.mk (hx5.out.below' hb6); have hv6 := Kpt.mk (hv5.out.below' hb6); have hr6 := Kpt.mk (hr5.out.below' hb6); have hq6 := Kpt.mk (hq5.out.below' hb6); have hbe6 : Kpt (Below w.heap.size w w6) := ⟨hbe5.out.trans (hb6.mono hbe5.out.size)⟩; clear hb6 hx5 hv5 hr5 hq5 hbe5)
          | (refine wpList_load_bx rfl 23 (.tmp 3) rfl w.heap.size v'.vals rfl hv5.out _ Try.underlying23 rfl infoV ?_)
          | (refine wpList_store_bx rfl 42 (.tmp 10) (.tmp 32) rfl X _ noS.vals rfl rfl hx4.out rfl infoS (Sn.vals_one _) rfl ?_; intro w5 hx5 hg5; replace hx5 := Kpt.mk hx5; have hv5 := Kpt.mk (hv4.out.grown hg5 (fun e => by have e' : X = _ := Option.some.inj e; omega)); have hr5 := Kpt.mk (hr4.out.grown hg5 (fun e => by have e' : X = _ := Option.some.inj e; omega)); have hq5 := Kpt.mk (hq4.out.grown hg5 (fun e => by have e' : X = _ := Option.some.inj e; omega)); have hbe5 : Kpt (Below w.heap.size w w5) := ⟨hbe4.out.grown hg5 hbe4.out.size (fun q hq => by cases hq; omega)⟩; replace hg5 := Kpt.mk hg5; clear hx4 hv4 hr4 hq4 hbe4))
        go_roundw
        case rel => exact ⟨k + pl, true, v2, noS, by go_num, rfl, hv7, ⟨hr6.out.grown hg7.out (fun e => by have e' : w.heap.size = _ := Option.some.inj e; omega)⟩, ⟨hq6.out.grown hg7.out (fun e => by have e' : w.heap.size = _ := Option.some.inj e; omega)⟩, ⟨hx6.out.grown hg7.out (fun e => by have e' : w.heap.size = _ := Option.some.inj e; omega)⟩, ⟨hbe6.out.grown hg7.out hbe6.out.size (fun q hq => by cases hq; exact Nat.le_refl _)⟩, ⟨.inl ⟨rfl, rfl, f', hnext.out, by omega⟩⟩⟩
        case measure => simp [intOf]; omega
    · have hfin : Kpt ((ok = true ∧ s = noS ∧ readL ⟨va, vb, vc⟩ lg p = (v', none)) ∨ (ok = false ∧ (readL ⟨va, vb, vc⟩ lg p).2 = some s)) := ⟨by
        rcases hI.out with ⟨h1, h2, f, h3, _⟩ | h
        · exact .inl ⟨h1, h2, by rw [h3, rdL_end f v' p k (by rw [← hn.out]; have : ¬ k < n := fun h => hgo ⟨h1, h⟩; omega)]⟩
        · exact .inr h⟩
      have hex : Kpt (ok = false ∨ (ok = true ∧ ¬ (k : Int) < n)) := ⟨by
        cases ok
        · exact .inl rfl
        · exact .inr ⟨rfl, fun h => hgo ⟨rfl, by omega⟩⟩⟩
      have hXl := hx.out.lt
      clear hI hgo
      obtain ⟨a1, b1, c1⟩ := v'
      obtain ⟨sk1, sc1, si1, shi1, sf1, sb1, shf1, sic1⟩ := s
      rcases hex.out with rfl | ⟨rfl, hnk⟩
      · go_wp2_with fail
        refine wp_region_any (by kernel_rfl) ?_
        refine wpAny_of_C (C := fun W => Bx W w.heap.size (Vs.vals ⟨a1, b1, c1⟩) ∧ Bx W X (Sn.vals ⟨sk1, sc1, si1, shi1, sf1, sb1, shf1, sic1⟩)) _ _ _ _ ?_
        refine wpAnyC_take 0 (.agg #[.bool a1, .bool b1, .bool c1]) rfl (by kernel_rfl) (by kernel_rfl) (by kernel_rfl) (fun _ _ _ h => h) (wanted_free rfl _) (fun W hW => by obtain ⟨y0, y1, y2⟩ := bx_vs hW.1; simp only at y0 y1 y2; clear hW; go_simp) ?_
        simp only [Act.put, List.getElem_toArray, List.getElem_cons_succ, List.getElem_cons_zero, List.setIfInBounds_toArray, List.set_cons_succ, List.set_cons_zero]
        refine wpAnyC_take 1 (.agg #[.int .u8 sk1, .int .u16 sc1, .int .u64 si1, .bool shi1, .int .i64 sf1, .int .i64 sb1, .bool shf1, .bool sic1]) rfl (by kernel_rfl) (by kernel_rfl) (by kernel_rfl) (fun _ _ _ h => h) (wanted_free rfl _) (fun W hW => by obtain ⟨y0, y1, y2, y3, y4, y5, y6, y7⟩ := bx_sn hW.2; simp only at y0 y1 y2 y3 y4 y5 y6 y7; clear hW; go_simp) ?_
        simp only [Act.put, List.getElem_toArray, List.getElem_cons_succ, List.getElem_cons_zero, List.setIfInBounds_toArray, List.set_cons_succ, List.set_cons_zero]
        refine wpAnyC_take 2 (.bool false) rfl (by kernel_rfl) (by kernel_rfl) (by kernel_rfl) (fun _ _ _ h => h) (wanted_free rfl _) (fun W hW => by go_simp) ?_
        simp only [Act.put, List.getElem_toArray, List.getElem_cons_succ, List.getElem_cons_zero, List.setIfInBounds_toArray, List.set_cons_succ, List.set_cons_zero]
        refine wpAnyC_one 3 ⟨hv.out.drew, hx.out.drew⟩ rfl (by kernel_rfl) (wanted_free rfl _) (fun KA hKA => ?_)
        refine wp_store_bx 23 (.tmp 6) (.tmp 42) rfl (w.heap.size + 1) noV.vals (Vs.vals ⟨a1, b1, c1⟩) rfl rfl hr.out.drew rfl infoV (Vs.vals_one _) ?_
        intro w5 hr5 hg5
        have hv5 := hv.out.drew.grown hg5 (fun e => by have e' : w.heap.size + 1 = w.heap.size := Option.some.inj e; omega)
        have hx5 := hx.out.drew.grown hg5 (fun e => by have e' : w.heap.size + 1 = X := Option.some.inj e; omega)
        have hq5 := hq.out.drew.grown hg5 (fun e => by have e' : w.heap.size + 1 = w.heap.size + 2 := Option.some.inj e; omega)
        have hbe5 : Below w.heap.size w w5 := hbe.out.drew.grown hg5 hbe.out.size (fun q hq => by cases hq; omega)
        refine hKA _ _ ?_
        clear hKA KA
        try simp only [Act.put, List.getElem_toArray, List.getElem_cons_succ, List.getElem_cons_zero, List.setIfInBounds_toArray, List.set_cons_succ, List.set_cons_zero]
        refine wpAnyC_one 4 ⟨hv5, hx5⟩ rfl (by kernel_rfl) (wanted_free rfl _) (fun KA hKA => ?_)
        refine wp_store_bx 42 (.tmp 7) (.tmp 43) rfl (w.heap.size + 2) zeroS (Sn.vals ⟨sk1, sc1, si1, shi1, sf1, sb1, shf1, sic1⟩) rfl rfl hq5 rfl infoS (Sn.vals_one _) ?_
        intro w6 hq6 hg6
        have hv6 := hv5.grown hg6 (fun e => by have e' : w.heap.size + 2 = w.heap.size := Option.some.inj e; omega)
        have hx6 := hx5.grown hg6 (fun e => by have e' : w.heap.size + 2 = X := Option.some.inj e; omega)
        have hr6 := hr5.grown hg6 (fun e => by have e' : w.heap.size + 2 = w.heap.size + 1 := Option.some.inj e; omega)
        have hbe6 : Kpt (Below w.heap.size w w6) := ⟨hbe5.grown hg6 hbe5.size (fun q hq => by cases hq; omega)⟩
        refine hKA _ _ ?_
        clear hKA KA
        try simp only [Act.put, List.getElem_toArray, List.getElem_cons_succ, List.getElem_cons_zero, List.setIfInBounds_toArray, List.set_cons_succ, List.set_cons_zero]
        refine wpAnyC_take 5 (.bool false) rfl (by kernel_rfl) (by kernel_rfl) (by kernel_rfl) (fun _ _ _ h => h) (wanted_free rfl _) (fun W hW => by go_simp) ?_
        simp only [Act.put, List.getElem_toArray, List.getElem_cons_succ, List.getElem_cons_zero, List.setIfInBounds_toArray, List.set_cons_succ, List.set_cons_zero]
        refine wpAnyC_done ⟨hv6, hx6⟩ (by kernel_rfl) ?_
        obtain ⟨y0, y1, y2⟩ := bx_vs hr6
        obtain ⟨c0, c1', c2, c3, c4, c5, c6, c7⟩ := bx_sn hq6
        simp only at y0 y1 y2 c0 c1' c2 c3 c4 c5 c6 c7
        clear hv5 hx5 hq5 hbe5 hv6 hx6 hr5 hq6 hr6 hg5 hg6 hv hr hq hx hbe
        go_wp2_with fail
        rcases hfin.out with ⟨h, _⟩ | ⟨_, h2⟩
        · cases h
        · refine bodyPost_ret (v := .tuple #[.agg (Vs.vals ⟨a1, b1, c1⟩), .agg (Sn.vals ⟨sk1, sc1, si1, shi1, sf1, sb1, shf1, sic1⟩), .bool false]) (by simp [results, Try.results18, go_sem, y0, y1, y2, c0, c1', c2, c3, c4, c5, c6, c7, Vs.vals, Sn.vals]) rfl ⟨fun s hs => (by rw [h2] at hs; cases hs; exact ⟨⟨a1, b1, c1⟩, rfl⟩), fun hn => (by rw [h2] at hn; cases hn), hbe6.out⟩
      · go_wp2_with fail
        refine wp_region_any (by kernel_rfl) ?_
        refine wpAny_of_C (C := fun W => Bx W w.heap.size (Vs.vals ⟨a1, b1, c1⟩) ∧ Bx W X (Sn.vals ⟨sk1, sc1, si1, shi1, sf1, sb1, shf1, sic1⟩)) _ _ _ _ ?_
        refine wpAnyC_take 0 (.agg #[.bool a1, .bool b1, .bool c1]) rfl (by kernel_rfl) (by kernel_rfl) (by kernel_rfl) (fun _ _ _ h => h) (wanted_free rfl _) (fun W hW => by obtain ⟨y0, y1, y2⟩ := bx_vs hW.1; simp only at y0 y1 y2; clear hW; go_simp) ?_
        simp only [Act.put, List.getElem_toArray, List.getElem_cons_succ, List.getElem_cons_zero, List.setIfInBounds_toArray, List.set_cons_succ, List.set_cons_zero]
        refine wpAnyC_take 1 (.agg #[.int .u8 sk1, .int .u16 sc1, .int .u64 si1, .bool shi1, .int .i64 sf1, .int .i64 sb1, .bool shf1, .bool sic1]) rfl (by kernel_rfl) (by kernel_rfl) (by kernel_rfl) (fun _ _ _ h => h) (wanted_free rfl _) (fun W hW => by obtain ⟨y0, y1, y2, y3, y4, y5, y6, y7⟩ := bx_sn hW.2; simp only at y0 y1 y2 y3 y4 y5 y6 y7; clear hW; go_simp) ?_
        simp only [Act.put, List.getElem_toArray, List.getElem_cons_succ, List.getElem_cons_zero, List.setIfInBounds_toArray, List.set_cons_succ, List.set_cons_zero]
        refine wpAnyC_take 2 (.bool true) rfl (by kernel_rfl) (by kernel_rfl) (by kernel_rfl) (fun _ _ _ h => h) (wanted_free rfl _) (fun W hW => by go_simp) ?_
        simp only [Act.put, List.getElem_toArray, List.getElem_cons_succ, List.getElem_cons_zero, List.setIfInBounds_toArray, List.set_cons_succ, List.set_cons_zero]
        refine wpAnyC_one 3 ⟨hv.out.drew, hx.out.drew⟩ rfl (by kernel_rfl) (wanted_free rfl _) (fun KA hKA => ?_)
        refine wp_store_bx 23 (.tmp 6) (.tmp 42) rfl (w.heap.size + 1) noV.vals (Vs.vals ⟨a1, b1, c1⟩) rfl rfl hr.out.drew rfl infoV (Vs.vals_one _) ?_
        intro w5 hr5 hg5
        have hv5 := hv.out.drew.grown hg5 (fun e => by have e' : w.heap.size + 1 = w.heap.size := Option.some.inj e; omega)
        have hx5 := hx.out.drew.grown hg5 (fun e => by have e' : w.heap.size + 1 = X := Option.some.inj e; omega)
        have hq5 := hq.out.drew.grown hg5 (fun e => by have e' : w.heap.size + 1 = w.heap.size + 2 := Option.some.inj e; omega)
        have hbe5 : Below w.heap.size w w5 := hbe.out.drew.grown hg5 hbe.out.size (fun q hq => by cases hq; omega)
        refine hKA _ _ ?_
        clear hKA KA
        try simp only [Act.put, List.getElem_toArray, List.getElem_cons_succ, List.getElem_cons_zero, List.setIfInBounds_toArray, List.set_cons_succ, List.set_cons_zero]
        refine wpAnyC_one 4 ⟨hv5, hx5⟩ rfl (by kernel_rfl) (wanted_free rfl _) (fun KA hKA => ?_)
        refine wp_store_bx 42 (.tmp 7) (.tmp 43) rfl (w.heap.size + 2) zeroS (Sn.vals ⟨sk1, sc1, si1, shi1, sf1, sb1, shf1, sic1⟩) rfl rfl hq5 rfl infoS (Sn.vals_one _) ?_
        intro w6 hq6 hg6
        have hv6 := hv5.grown hg6 (fun e => by have e' : w.heap.size + 2 = w.heap.size := Option.some.inj e; omega)
        have hx6 := hx5.grown hg6 (fun e => by have e' : w.heap.size + 2 = X := Option.some.inj e; omega)
        have hr6 := hr5.grown hg6 (fun e => by have e' : w.heap.size + 2 = w.heap.size + 1 := Option.some.inj e; omega)
        have hbe6 : Kpt (Below w.heap.size w w6) := ⟨hbe5.grown hg6 hbe5.size (fun q hq => by cases hq; omega)⟩
        refine hKA _ _ ?_
        clear hKA KA
        try simp only [Act.put, List.getElem_toArray, List.getElem_cons_succ, List.getElem_cons_zero, List.setIfInBounds_toArray, List.set_cons_succ, List.set_cons_zero]
        refine wpAnyC_take 5 (.bool true) rfl (by kernel_rfl) (by kernel_rfl) (by kernel_rfl) (fun _ _ _ h => h) (wanted_free rfl _) (fun W hW => by go_simp) ?_
        simp only [Act.put, List.getElem_toArray, List.getElem_cons_succ, List.getElem_cons_zero, List.setIfInBounds_toArray, List.set_cons_succ, List.set_cons_zero]
        refine wpAnyC_done ⟨hv6, hx6⟩ (by kernel_rfl) ?_
        obtain ⟨y0, y1, y2⟩ := bx_vs hr6
        obtain ⟨c0, c1', c2, c3, c4, c5, c6, c7⟩ := bx_sn hq6
        simp only at y0 y1 y2 c0 c1' c2 c3 c4 c5 c6 c7
        clear hv5 hx5 hq5 hbe5 hv6 hx6 hr5 hq6 hr6 hg5 hg6 hv hr hq hx hbe
        go_wp2_with fail
        rcases hfin.out with ⟨_, h1, h2⟩ | ⟨h, _⟩
        · refine bodyPost_ret (v := .tuple #[.agg (Vs.vals ⟨a1, b1, c1⟩), .agg (Sn.vals ⟨sk1, sc1, si1, shi1, sf1, sb1, shf1, sic1⟩), .bool true]) (by simp [results, Try.results18, go_sem, y0, y1, y2, c0, c1', c2, c3, c4, c5, c6, c7, Vs.vals, Sn.vals]) rfl ⟨fun s hs => (by rw [h2] at hs; cases hs), fun _ => (by rw [h2, h1]), hbe6.out⟩
        · cases h
end Go.Proofs.Ytdojhgapdocngaa
