/-
  Slots: the law's own 'chance'.
-/
import Derived.Test.YtndlpmnidpandaaLLw
namespace Go.Proofs.Ytndlpmnidpandaa
open Go.RowKit
set_option linter.unusedVariables false
set_option linter.unusedSimpArgs false

/-- A beginning of a slot's bytes, laid over a file, is nothing, what was there, or the whole one. -/
def Fair (F : List Int) (gen : Int) (zs : List Int) (k : Nat) : Prop :=
  decO (laidL F 0 ((recL gen zs).take k)) = none ∨ (decO (laidL F 0 ((recL gen zs).take k)) = decO F) ∨ decO (laidL F 0 ((recL gen zs).take k)) = some (gen, zs)

theorem str_ne {a b : List Int} (ha : Bytes a) (hb : Bytes b) (h : ¬ a = b) : ((strOfNums a).toList == (strOfNums b).toList) = false := by
  have e : ¬ strOfNums a = strOfNums b := fun e => h (str_inj ha hb e)
  rw [beq_eq_false_iff_ne]
  intro e2
  rw [Go.Lib.strOfNums_toList, Go.Lib.strOfNums_toList] at e2
  exact e (by unfold strOfNums; exact congrArg (fun l => ByteArray.mk l.toArray) e2)
theorem own_rd0 {w : World} {base n c : Nat} {a : Option Addr} {zs : List Int} (h : w.ownsRow base 5 1 (.slice a n c) n (cels zs)) (hl : zs.length = n) : RdAt w (.slice a n c) zs := by
  rcases id h.2 with ⟨e, h'⟩ | ⟨g, cap, cur, e, _⟩
  · cases e
    obtain rfl : zs = [] := List.eq_nil_of_length_eq_zero (by omega)
    exact rd_nil w
  · cases e
    exact own_rd h
theorem laid_len (F R : List Int) : (laidL F 0 R).length = max F.length R.length := by rw [laid_eq, List.length_append, List.length_drop]; omega
theorem laid_bytes2 {F R : List Int} (h1 : Bytes F) (h2 : Bytes R) : Bytes (laidL F 0 R) := laid_bytes h1 h2

set_option maxRecDepth 100000 in
set_option maxHeartbeats 8000000 in
theorem chance_any (a1 : Option Addr) (n1 c1 : Nat) (F : List Int) (gen : Int) (a2 : Option Addr) (n2 c2 : Nat) (zs : List Int) (w : World) (r1 : RdAt w (.slice a1 n1 c1) F) (l1 : F.length = n1) (b1 : Bytes F) (hF : n1 ≤ 100000)
    (r2 : RdAt w (.slice a2 n2 c2) zs) (l2 : zs.length = n2) (b2 : Bytes zs) (hn : n2 ≤ 4096) (hg0 : 0 ≤ gen) (hg1 : gen < 18446744073709551616) :
    Calls Try.prog 15 #[.slice a1 n1 c1, .int .u64 gen, .slice a2 n2 c2] w fun e w' => ∃ b, e = .returned (.bool b) ∧ Below w.heap.size w w' ∧ (b = false → ∀ k, k < 20 + n2 → Fair F gen zs k) := by
  have HR := Kpt.mk (rrec_any gen a2 n2 c2 zs w hg0 hg1 r2 l2 hn b2)
  have HD : Kpt (∀ W, Below w.heap.size w W → Calls Try.prog 10 #[.slice a1 n1 c1] W fun e w' => ∃ (h : Int) (q : List Int) (x : Option Addr) (m k : Nat) (f : Int), e = .returned (.tuple #[.int .u64 h, .slice x m k, .int .i64 f]) ∧ RdAt w' (.slice x m k) q ∧ m = q.length ∧ m ≤ 4096 ∧ Bytes q ∧ Below W.heap.size W w' ∧
      ((f = 0 ∧ decO F = some (h, q)) ∨ ((f = 3 ∨ f = 5) ∧ decO F = none))) := ⟨fun W hW => rdec_any a1 n1 c1 F W (r1.bel hW) l1 (by omega) b1⟩
  obtain ⟨R, hR⟩ : ∃ R, R = recL gen zs := ⟨_, rfl⟩
  have hRb : Bytes R := by rw [hR]; exact recL_bytes gen zs b2
  obtain ⟨L, hL⟩ : ∃ L, L = 20 + n2 := ⟨_, rfl⟩
  have hRl : R.length = L := by rw [hR, recL_len, l2, hL]
  have hLn : L ≤ 4116 := by omega
  unfold Fair
  rw [← hR, ← hL] at HR
  rw [← hR, ← hL]
  have HLd : Kpt (∀ (W : World) (g k cap : Nat), Below w.heap.size w W → k ≤ L → RdAt W (.slice (some ⟨g, 0, none⟩) k cap) (R.take k) → Calls Try.prog 16 #[.slice a1 n1 c1, .slice (some ⟨g, 0, none⟩) k cap] W fun e w' => ∃ a c, e = .returned (.slice a (laidL F 0 (R.take k)).length c) ∧ RdAt w' (.slice a (laidL F 0 (R.take k)).length c) (laidL F 0 (R.take k)) ∧ Below W.heap.size W w') := ⟨fun W g k cap hW hk hr => by
    have hkl : (R.take k).length = k := by rw [List.length_take, hRl]; omega
    refine (llaid_any a1 n1 c1 F _ k cap (R.take k) W (r1.bel hW) l1 hr hkl (by omega) _ rfl).mono ?_
    rintro e w' ⟨a, c, h1, h2, h3⟩
    exact ⟨a, c, h1, own_rd0 h2 rfl, h3⟩⟩
  have HD2 : Kpt (∀ (W : World) (k : Nat) (a : Option Addr) (N c : Nat), k ≤ L → N = (laidL F 0 (R.take k)).length → RdAt W (.slice a N c) (laidL F 0 (R.take k)) → Calls Try.prog 10 #[.slice a N c] W fun e w' => ∃ (h : Int) (q : List Int) (x : Option Addr) (m k' : Nat) (f : Int), e = .returned (.tuple #[.int .u64 h, .slice x m k', .int .i64 f]) ∧ RdAt w' (.slice x m k') q ∧ m = q.length ∧ m ≤ 4096 ∧ Bytes q ∧ Below W.heap.size W w' ∧
      ((f = 0 ∧ decO (laidL F 0 (R.take k)) = some (h, q)) ∨ ((f = 3 ∨ f = 5) ∧ decO (laidL F 0 (R.take k)) = none))) := ⟨fun W k a N c hk hN hr => by
    refine rdec_any a N c _ W hr hN.symm ?_ (laid_bytes b1 (Bytes.take hRb k))
    rw [hN, laid_len, List.length_take]
    omega⟩
  have hz : Kpt (∀ W, Below w.heap.size w W → (convert 23 9 (.slice a2 n2 c2)).run Try.prog W = .ok (.string (strOfNums zs)) W) := ⟨fun W hW => conv_rd W _ zs (r2.bel hW)⟩
  replace hR := Kpt.mk hR
  replace hRb := Kpt.mk hRb
  replace hRl := Kpt.mk hRl
  replace hL := Kpt.mk hL
  replace l1 := Kpt.mk l1
  replace l2 := Kpt.mk l2
  clear r1 r2
  go_enter Try.func15, Try.ntmps15
  go_wp2_with fail
  refine HR.out.mono ?_
  rintro e w1 ⟨g, cap, rfl, ho1, hb1⟩
  have hcp : L ≤ cap := by
    rcases ho1.2 with ⟨e, _⟩ | ⟨g', cap', cur, e, _, _, h', _⟩
    · cases e
    · cases e; exact h'
  have hrp : Kpt (∀ W, Below w1.heap.size w1 W → RdAt W (.slice (some ⟨g, 0, none⟩) L cap) R) := ⟨fun W hW => (own_rd ho1).bel hW⟩
  replace hb1 := Kpt.mk hb1
  clear ho1 HR
  go_wp2_with fail
  refine (HD.out _ hb1.out).mono ?_
  rintro e w2 ⟨h0, q0, x0, m0, k0, f0, rfl, hr0, hm0, hm0', hq0, hb2, hc0⟩
  replace hrp : Kpt (∀ W, Below w2.heap.size w2 W → RdAt W (.slice (some ⟨g, 0, none⟩) L cap) R) := ⟨fun W hW => hrp.out _ (hb2.trans (hW.mono hb2.size))⟩
  have hbw : Kpt (∀ W, Below w2.heap.size w2 W → Below w.heap.size w W) := ⟨fun W hW => (hb1.out.trans (hb2.mono hb1.out.size)).trans (hW.mono (Nat.le_trans hb1.out.size hb2.size))⟩
  have hr0' : Kpt (∀ W, Below w2.heap.size w2 W → (convert 23 9 (.slice x0 m0 k0)).run Try.prog W = .ok (.string (strOfNums q0)) W) := ⟨fun W hW => conv_rd W _ q0 (hr0.bel hW)⟩
  replace hm0 := Kpt.mk hm0
  replace hq0 := Kpt.mk hq0
  replace hc0 := Kpt.mk hc0
  clear hr0 hb2 hb1 HD hm0'
  go_wp2_with fail
  go_loopw [11] (fun t W => ∃ k : Nat, k ≤ L ∧ t = .int .i64 k ∧ Kpt (Below w2.heap.size w2 W) ∧ Kpt (∀ j, j < k → decO (laidL F 0 (R.take j)) = none ∨ decO (laidL F 0 (R.take j)) = decO F ∨ decO (laidL F 0 (R.take j)) = some (gen, zs))) (fun t _ => L - (intOf t).toNat)
  case atStart => exact ⟨0, by omega, rfl, ⟨Below.refl _ _⟩, ⟨fun j hj => by omega⟩⟩
  case round =>
    obtain ⟨k, hk, rfl, hB, hall⟩ := hrel
    by_cases hlt : k < L
    · have i1 : (k : Int) < L := by omega
      have i2 : (k : Int) ≤ cap := by omega
      have kw : IntKind.i64.wrap ((k : Int) + 1) = (k : Int) + 1 := by rw [IntKind.wrap_i64]; omega
      have hrk := Kpt.mk (rd_take (hrp.out _ hB.out) k (by rw [hRl.out]; exact hk))
      go_wp2_with fail
      refine (HLd.out _ g k cap (hbw.out _ hB.out) hk hrk.out).mono ?_
      rintro e w3 ⟨a3, c3, rfl, hr3, hb3⟩
      obtain ⟨N3, hN3⟩ : ∃ N, N = (laidL F 0 (R.take k)).length := ⟨_, rfl⟩
      rw [← hN3] at hr3 ⊢
      have HD3 := Kpt.mk (HD2.out w3 k a3 N3 c3 hk hN3 hr3)
      have hB3 := Kpt.mk (hB.out.trans (hb3.mono hB.out.size))
      clear hr3 hb3 hN3 hrk hB
      go_wp2_with fail
      refine HD3.out.mono ?_
      rintro e w4 ⟨h, q, x4, m4, k4, f, rfl, hr4, hm4, hm4', hq4, hb4, hc4⟩
      have hB4 := Kpt.mk (hB3.out.trans (hb4.mono hB3.out.size))
      have cv0 := hr0'.out _ hB4.out
      have cvz := hz.out _ (hbw.out _ hB4.out)
      have cv4 := conv_rd w4 _ q hr4
      have Hfair : (f = 0 → (f0 = 0 ∧ h = h0 ∧ q = q0) ∨ (h = gen ∧ q = zs)) → decO (laidL F 0 (R.take k)) = none ∨ decO (laidL F 0 (R.take k)) = decO F ∨ decO (laidL F 0 (R.take k)) = some (gen, zs) := by
        intro hh
        rcases hc4 with ⟨e0, e1⟩ | ⟨_, e1⟩
        · rcases hh e0 with ⟨x1, rfl, rfl⟩ | ⟨rfl, rfl⟩
          · rcases hc0.out with ⟨_, e2⟩ | ⟨e2, _⟩
            · exact .inr (.inl (e1.trans e2.symm))
            · omega
          · exact .inr (.inr e1)
        · exact .inl e1
      have Hnext : Kpt ((f = 0 → (f0 = 0 ∧ h = h0 ∧ q = q0) ∨ (h = gen ∧ q = zs)) → ∀ j, j < k + 1 → decO (laidL F 0 (R.take j)) = none ∨ decO (laidL F 0 (R.take j)) = decO F ∨ decO (laidL F 0 (R.take j)) = some (gen, zs)) := ⟨fun hh j hj => by
        by_cases hjk : j < k
        · exact hall.out j hjk
        · have : j = k := by omega
          subst this
          exact Hfair hh⟩
      have ff : f = 0 ∨ f = 3 ∨ f = 5 := by rcases hc4 with ⟨e, _⟩ | ⟨e | e, _⟩ <;> simp [e]
      have ff0 : f0 = 0 ∨ f0 = 3 ∨ f0 = 5 := by rcases hc0.out with ⟨e, _⟩ | ⟨e | e, _⟩ <;> simp [e]
      have sq0 : ¬ q = q0 → ((strOfNums q).toList == (strOfNums q0).toList) = false  := fun h => str_ne hq4 hq0.out h
      have sqz : ¬ q = zs → ((strOfNums q).toList == (strOfNums zs).toList) = false  := fun h => str_ne hq4 b2 h
      replace hm4 := Kpt.mk hm4
      clear hc4 hr4 hb4 hB3 HD3 Hfair hall
      by_cases g1 : h = gen
      · by_cases g2 : q = zs
        · by_cases g3 : h = h0
          · by_cases g4 : q = q0
            · clear sq0 sqz
              rcases ff with rfl | rfl | rfl <;> rcases ff0 with rfl | rfl | rfl
              · have Hn := Kpt.mk (Hnext.out (fun _ => .inr ⟨g1, g2⟩))
                clear Hnext
                subst g1 g2 g3 g4
                (go_wp2_with fail; go_roundw; (case rel => exact ⟨k + 1, by omega, by go_num, hB4, Hn⟩); (case measure => simp [intOf]; omega))
              · have Hn := Kpt.mk (Hnext.out (fun _ => .inr ⟨g1, g2⟩))
                clear Hnext
                subst g1 g2 g3 g4
                (go_wp2_with fail; go_roundw; (case rel => exact ⟨k + 1, by omega, by go_num, hB4, Hn⟩); (case measure => simp [intOf]; omega))
              · have Hn := Kpt.mk (Hnext.out (fun _ => .inr ⟨g1, g2⟩))
                clear Hnext
                subst g1 g2 g3 g4
                (go_wp2_with fail; go_roundw; (case rel => exact ⟨k + 1, by omega, by go_num, hB4, Hn⟩); (case measure => simp [intOf]; omega))
              · have Hn := Kpt.mk (Hnext.out (fun e => absurd e (by decide)))
                clear Hnext
                subst g1 g2 g3 g4
                (go_wp2_with fail; go_roundw; (case rel => exact ⟨k + 1, by omega, by go_num, hB4, Hn⟩); (case measure => simp [intOf]; omega))
              · have Hn := Kpt.mk (Hnext.out (fun e => absurd e (by decide)))
                clear Hnext
                subst g1 g2 g3 g4
                (go_wp2_with fail; go_roundw; (case rel => exact ⟨k + 1, by omega, by go_num, hB4, Hn⟩); (case measure => simp [intOf]; omega))
              · have Hn := Kpt.mk (Hnext.out (fun e => absurd e (by decide)))
                clear Hnext
                subst g1 g2 g3 g4
                (go_wp2_with fail; go_roundw; (case rel => exact ⟨k + 1, by omega, by go_num, hB4, Hn⟩); (case measure => simp [intOf]; omega))
              · have Hn := Kpt.mk (Hnext.out (fun e => absurd e (by decide)))
                clear Hnext
                subst g1 g2 g3 g4
                (go_wp2_with fail; go_roundw; (case rel => exact ⟨k + 1, by omega, by go_num, hB4, Hn⟩); (case measure => simp [intOf]; omega))
              · have Hn := Kpt.mk (Hnext.out (fun e => absurd e (by decide)))
                clear Hnext
                subst g1 g2 g3 g4
                (go_wp2_with fail; go_roundw; (case rel => exact ⟨k + 1, by omega, by go_num, hB4, Hn⟩); (case measure => simp [intOf]; omega))
              · have Hn := Kpt.mk (Hnext.out (fun e => absurd e (by decide)))
                clear Hnext
                subst g1 g2 g3 g4
                (go_wp2_with fail; go_roundw; (case rel => exact ⟨k + 1, by omega, by go_num, hB4, Hn⟩); (case measure => simp [intOf]; omega))
            · have s4 := sq0 g4
              clear sq0 sqz
              rcases ff with rfl | rfl | rfl <;> rcases ff0 with rfl | rfl | rfl
              · have Hn := Kpt.mk (Hnext.out (fun _ => .inr ⟨g1, g2⟩))
                clear Hnext
                subst g1 g2 g3
                (go_wp2_with fail; go_roundw; (case rel => exact ⟨k + 1, by omega, by go_num, hB4, Hn⟩); (case measure => simp [intOf]; omega))
              · have Hn := Kpt.mk (Hnext.out (fun _ => .inr ⟨g1, g2⟩))
                clear Hnext
                subst g1 g2 g3
                (go_wp2_with fail; go_roundw; (case rel => exact ⟨k + 1, by omega, by go_num, hB4, Hn⟩); (case measure => simp [intOf]; omega))
              · have Hn := Kpt.mk (Hnext.out (fun _ => .inr ⟨g1, g2⟩))
                clear Hnext
                subst g1 g2 g3
                (go_wp2_with fail; go_roundw; (case rel => exact ⟨k + 1, by omega, by go_num, hB4, Hn⟩); (case measure => simp [intOf]; omega))
              · have Hn := Kpt.mk (Hnext.out (fun e => absurd e (by decide)))
                clear Hnext
                subst g1 g2 g3
                (go_wp2_with fail; go_roundw; (case rel => exact ⟨k + 1, by omega, by go_num, hB4, Hn⟩); (case measure => simp [intOf]; omega))
              · have Hn := Kpt.mk (Hnext.out (fun e => absurd e (by decide)))
                clear Hnext
                subst g1 g2 g3
                (go_wp2_with fail; go_roundw; (case rel => exact ⟨k + 1, by omega, by go_num, hB4, Hn⟩); (case measure => simp [intOf]; omega))
              · have Hn := Kpt.mk (Hnext.out (fun e => absurd e (by decide)))
                clear Hnext
                subst g1 g2 g3
                (go_wp2_with fail; go_roundw; (case rel => exact ⟨k + 1, by omega, by go_num, hB4, Hn⟩); (case measure => simp [intOf]; omega))
              · have Hn := Kpt.mk (Hnext.out (fun e => absurd e (by decide)))
                clear Hnext
                subst g1 g2 g3
                (go_wp2_with fail; go_roundw; (case rel => exact ⟨k + 1, by omega, by go_num, hB4, Hn⟩); (case measure => simp [intOf]; omega))
              · have Hn := Kpt.mk (Hnext.out (fun e => absurd e (by decide)))
                clear Hnext
                subst g1 g2 g3
                (go_wp2_with fail; go_roundw; (case rel => exact ⟨k + 1, by omega, by go_num, hB4, Hn⟩); (case measure => simp [intOf]; omega))
              · have Hn := Kpt.mk (Hnext.out (fun e => absurd e (by decide)))
                clear Hnext
                subst g1 g2 g3
                (go_wp2_with fail; go_roundw; (case rel => exact ⟨k + 1, by omega, by go_num, hB4, Hn⟩); (case measure => simp [intOf]; omega))
          · have g3b : (h == h0) = false := by simp [g3]
            clear sq0 sqz
            rcases ff with rfl | rfl | rfl <;> rcases ff0 with rfl | rfl | rfl
            · have Hn := Kpt.mk (Hnext.out (fun _ => .inr ⟨g1, g2⟩))
              clear Hnext
              subst g1 g2
              (go_wp2_with fail; go_roundw; (case rel => exact ⟨k + 1, by omega, by go_num, hB4, Hn⟩); (case measure => simp [intOf]; omega))
            · have Hn := Kpt.mk (Hnext.out (fun _ => .inr ⟨g1, g2⟩))
              clear Hnext
              subst g1 g2
              (go_wp2_with fail; go_roundw; (case rel => exact ⟨k + 1, by omega, by go_num, hB4, Hn⟩); (case measure => simp [intOf]; omega))
            · have Hn := Kpt.mk (Hnext.out (fun _ => .inr ⟨g1, g2⟩))
              clear Hnext
              subst g1 g2
              (go_wp2_with fail; go_roundw; (case rel => exact ⟨k + 1, by omega, by go_num, hB4, Hn⟩); (case measure => simp [intOf]; omega))
            · have Hn := Kpt.mk (Hnext.out (fun e => absurd e (by decide)))
              clear Hnext
              subst g1 g2
              (go_wp2_with fail; go_roundw; (case rel => exact ⟨k + 1, by omega, by go_num, hB4, Hn⟩); (case measure => simp [intOf]; omega))
            · have Hn := Kpt.mk (Hnext.out (fun e => absurd e (by decide)))
              clear Hnext
              subst g1 g2
              (go_wp2_with fail; go_roundw; (case rel => exact ⟨k + 1, by omega, by go_num, hB4, Hn⟩); (case measure => simp [intOf]; omega))
            · have Hn := Kpt.mk (Hnext.out (fun e => absurd e (by decide)))
              clear Hnext
              subst g1 g2
              (go_wp2_with fail; go_roundw; (case rel => exact ⟨k + 1, by omega, by go_num, hB4, Hn⟩); (case measure => simp [intOf]; omega))
            · have Hn := Kpt.mk (Hnext.out (fun e => absurd e (by decide)))
              clear Hnext
              subst g1 g2
              (go_wp2_with fail; go_roundw; (case rel => exact ⟨k + 1, by omega, by go_num, hB4, Hn⟩); (case measure => simp [intOf]; omega))
            · have Hn := Kpt.mk (Hnext.out (fun e => absurd e (by decide)))
              clear Hnext
              subst g1 g2
              (go_wp2_with fail; go_roundw; (case rel => exact ⟨k + 1, by omega, by go_num, hB4, Hn⟩); (case measure => simp [intOf]; omega))
            · have Hn := Kpt.mk (Hnext.out (fun e => absurd e (by decide)))
              clear Hnext
              subst g1 g2
              (go_wp2_with fail; go_roundw; (case rel => exact ⟨k + 1, by omega, by go_num, hB4, Hn⟩); (case measure => simp [intOf]; omega))
        · have s2 := sqz g2
          by_cases g3 : h = h0
          · by_cases g4 : q = q0
            · clear sq0 sqz
              rcases ff with rfl | rfl | rfl <;> rcases ff0 with rfl | rfl | rfl
              · have Hn := Kpt.mk (Hnext.out (fun _ => .inl ⟨rfl, g3, g4⟩))
                clear Hnext
                subst g1 g3 g4
                (go_wp2_with fail; go_roundw; (case rel => exact ⟨k + 1, by omega, by go_num, hB4, Hn⟩); (case measure => simp [intOf]; omega))
              · clear Hnext
                subst g1 g3 g4
                (go_wp2_with fail; go_ret; exact Exists.intro true ⟨rfl, hbw.out _ hB4.out, fun e => by cases e⟩)
              · clear Hnext
                subst g1 g3 g4
                (go_wp2_with fail; go_ret; exact Exists.intro true ⟨rfl, hbw.out _ hB4.out, fun e => by cases e⟩)
              · have Hn := Kpt.mk (Hnext.out (fun e => absurd e (by decide)))
                clear Hnext
                subst g1 g3 g4
                (go_wp2_with fail; go_roundw; (case rel => exact ⟨k + 1, by omega, by go_num, hB4, Hn⟩); (case measure => simp [intOf]; omega))
              · have Hn := Kpt.mk (Hnext.out (fun e => absurd e (by decide)))
                clear Hnext
                subst g1 g3 g4
                (go_wp2_with fail; go_roundw; (case rel => exact ⟨k + 1, by omega, by go_num, hB4, Hn⟩); (case measure => simp [intOf]; omega))
              · have Hn := Kpt.mk (Hnext.out (fun e => absurd e (by decide)))
                clear Hnext
                subst g1 g3 g4
                (go_wp2_with fail; go_roundw; (case rel => exact ⟨k + 1, by omega, by go_num, hB4, Hn⟩); (case measure => simp [intOf]; omega))
              · have Hn := Kpt.mk (Hnext.out (fun e => absurd e (by decide)))
                clear Hnext
                subst g1 g3 g4
                (go_wp2_with fail; go_roundw; (case rel => exact ⟨k + 1, by omega, by go_num, hB4, Hn⟩); (case measure => simp [intOf]; omega))
              · have Hn := Kpt.mk (Hnext.out (fun e => absurd e (by decide)))
                clear Hnext
                subst g1 g3 g4
                (go_wp2_with fail; go_roundw; (case rel => exact ⟨k + 1, by omega, by go_num, hB4, Hn⟩); (case measure => simp [intOf]; omega))
              · have Hn := Kpt.mk (Hnext.out (fun e => absurd e (by decide)))
                clear Hnext
                subst g1 g3 g4
                (go_wp2_with fail; go_roundw; (case rel => exact ⟨k + 1, by omega, by go_num, hB4, Hn⟩); (case measure => simp [intOf]; omega))
            · have s4 := sq0 g4
              clear sq0 sqz
              rcases ff with rfl | rfl | rfl <;> rcases ff0 with rfl | rfl | rfl
              · clear Hnext
                subst g1 g3
                (go_wp2_with fail; go_ret; exact Exists.intro true ⟨rfl, hbw.out _ hB4.out, fun e => by cases e⟩)
              · clear Hnext
                subst g1 g3
                (go_wp2_with fail; go_ret; exact Exists.intro true ⟨rfl, hbw.out _ hB4.out, fun e => by cases e⟩)
              · clear Hnext
                subst g1 g3
                (go_wp2_with fail; go_ret; exact Exists.intro true ⟨rfl, hbw.out _ hB4.out, fun e => by cases e⟩)
              · have Hn := Kpt.mk (Hnext.out (fun e => absurd e (by decide)))
                clear Hnext
                subst g1 g3
                (go_wp2_with fail; go_roundw; (case rel => exact ⟨k + 1, by omega, by go_num, hB4, Hn⟩); (case measure => simp [intOf]; omega))
              · have Hn := Kpt.mk (Hnext.out (fun e => absurd e (by decide)))
                clear Hnext
                subst g1 g3
                (go_wp2_with fail; go_roundw; (case rel => exact ⟨k + 1, by omega, by go_num, hB4, Hn⟩); (case measure => simp [intOf]; omega))
              · have Hn := Kpt.mk (Hnext.out (fun e => absurd e (by decide)))
                clear Hnext
                subst g1 g3
                (go_wp2_with fail; go_roundw; (case rel => exact ⟨k + 1, by omega, by go_num, hB4, Hn⟩); (case measure => simp [intOf]; omega))
              · have Hn := Kpt.mk (Hnext.out (fun e => absurd e (by decide)))
                clear Hnext
                subst g1 g3
                (go_wp2_with fail; go_roundw; (case rel => exact ⟨k + 1, by omega, by go_num, hB4, Hn⟩); (case measure => simp [intOf]; omega))
              · have Hn := Kpt.mk (Hnext.out (fun e => absurd e (by decide)))
                clear Hnext
                subst g1 g3
                (go_wp2_with fail; go_roundw; (case rel => exact ⟨k + 1, by omega, by go_num, hB4, Hn⟩); (case measure => simp [intOf]; omega))
              · have Hn := Kpt.mk (Hnext.out (fun e => absurd e (by decide)))
                clear Hnext
                subst g1 g3
                (go_wp2_with fail; go_roundw; (case rel => exact ⟨k + 1, by omega, by go_num, hB4, Hn⟩); (case measure => simp [intOf]; omega))
          · have g3b : (h == h0) = false := by simp [g3]
            clear sq0 sqz
            rcases ff with rfl | rfl | rfl <;> rcases ff0 with rfl | rfl | rfl
            · clear Hnext
              subst g1
              (go_wp2_with fail; go_ret; exact Exists.intro true ⟨rfl, hbw.out _ hB4.out, fun e => by cases e⟩)
            · clear Hnext
              subst g1
              (go_wp2_with fail; go_ret; exact Exists.intro true ⟨rfl, hbw.out _ hB4.out, fun e => by cases e⟩)
            · clear Hnext
              subst g1
              (go_wp2_with fail; go_ret; exact Exists.intro true ⟨rfl, hbw.out _ hB4.out, fun e => by cases e⟩)
            · have Hn := Kpt.mk (Hnext.out (fun e => absurd e (by decide)))
              clear Hnext
              subst g1
              (go_wp2_with fail; go_roundw; (case rel => exact ⟨k + 1, by omega, by go_num, hB4, Hn⟩); (case measure => simp [intOf]; omega))
            · have Hn := Kpt.mk (Hnext.out (fun e => absurd e (by decide)))
              clear Hnext
              subst g1
              (go_wp2_with fail; go_roundw; (case rel => exact ⟨k + 1, by omega, by go_num, hB4, Hn⟩); (case measure => simp [intOf]; omega))
            · have Hn := Kpt.mk (Hnext.out (fun e => absurd e (by decide)))
              clear Hnext
              subst g1
              (go_wp2_with fail; go_roundw; (case rel => exact ⟨k + 1, by omega, by go_num, hB4, Hn⟩); (case measure => simp [intOf]; omega))
            · have Hn := Kpt.mk (Hnext.out (fun e => absurd e (by decide)))
              clear Hnext
              subst g1
              (go_wp2_with fail; go_roundw; (case rel => exact ⟨k + 1, by omega, by go_num, hB4, Hn⟩); (case measure => simp [intOf]; omega))
            · have Hn := Kpt.mk (Hnext.out (fun e => absurd e (by decide)))
              clear Hnext
              subst g1
              (go_wp2_with fail; go_roundw; (case rel => exact ⟨k + 1, by omega, by go_num, hB4, Hn⟩); (case measure => simp [intOf]; omega))
            · have Hn := Kpt.mk (Hnext.out (fun e => absurd e (by decide)))
              clear Hnext
              subst g1
              (go_wp2_with fail; go_roundw; (case rel => exact ⟨k + 1, by omega, by go_num, hB4, Hn⟩); (case measure => simp [intOf]; omega))
      · have g1b : (h == gen) = false := by simp [g1]
        by_cases g3 : h = h0
        · by_cases g4 : q = q0
          · clear sq0 sqz
            rcases ff with rfl | rfl | rfl <;> rcases ff0 with rfl | rfl | rfl
            · have Hn := Kpt.mk (Hnext.out (fun _ => .inl ⟨rfl, g3, g4⟩))
              clear Hnext
              subst g3 g4
              (go_wp2_with fail; go_roundw; (case rel => exact ⟨k + 1, by omega, by go_num, hB4, Hn⟩); (case measure => simp [intOf]; omega))
            · clear Hnext
              subst g3 g4
              (go_wp2_with fail; go_ret; exact Exists.intro true ⟨rfl, hbw.out _ hB4.out, fun e => by cases e⟩)
            · clear Hnext
              subst g3 g4
              (go_wp2_with fail; go_ret; exact Exists.intro true ⟨rfl, hbw.out _ hB4.out, fun e => by cases e⟩)
            · have Hn := Kpt.mk (Hnext.out (fun e => absurd e (by decide)))
              clear Hnext
              subst g3 g4
              (go_wp2_with fail; go_roundw; (case rel => exact ⟨k + 1, by omega, by go_num, hB4, Hn⟩); (case measure => simp [intOf]; omega))
            · have Hn := Kpt.mk (Hnext.out (fun e => absurd e (by decide)))
              clear Hnext
              subst g3 g4
              (go_wp2_with fail; go_roundw; (case rel => exact ⟨k + 1, by omega, by go_num, hB4, Hn⟩); (case measure => simp [intOf]; omega))
            · have Hn := Kpt.mk (Hnext.out (fun e => absurd e (by decide)))
              clear Hnext
              subst g3 g4
              (go_wp2_with fail; go_roundw; (case rel => exact ⟨k + 1, by omega, by go_num, hB4, Hn⟩); (case measure => simp [intOf]; omega))
            · have Hn := Kpt.mk (Hnext.out (fun e => absurd e (by decide)))
              clear Hnext
              subst g3 g4
              (go_wp2_with fail; go_roundw; (case rel => exact ⟨k + 1, by omega, by go_num, hB4, Hn⟩); (case measure => simp [intOf]; omega))
            · have Hn := Kpt.mk (Hnext.out (fun e => absurd e (by decide)))
              clear Hnext
              subst g3 g4
              (go_wp2_with fail; go_roundw; (case rel => exact ⟨k + 1, by omega, by go_num, hB4, Hn⟩); (case measure => simp [intOf]; omega))
            · have Hn := Kpt.mk (Hnext.out (fun e => absurd e (by decide)))
              clear Hnext
              subst g3 g4
              (go_wp2_with fail; go_roundw; (case rel => exact ⟨k + 1, by omega, by go_num, hB4, Hn⟩); (case measure => simp [intOf]; omega))
          · have s4 := sq0 g4
            clear sq0 sqz
            rcases ff with rfl | rfl | rfl <;> rcases ff0 with rfl | rfl | rfl
            · clear Hnext
              subst g3
              (go_wp2_with fail; go_ret; exact Exists.intro true ⟨rfl, hbw.out _ hB4.out, fun e => by cases e⟩)
            · clear Hnext
              subst g3
              (go_wp2_with fail; go_ret; exact Exists.intro true ⟨rfl, hbw.out _ hB4.out, fun e => by cases e⟩)
            · clear Hnext
              subst g3
              (go_wp2_with fail; go_ret; exact Exists.intro true ⟨rfl, hbw.out _ hB4.out, fun e => by cases e⟩)
            · have Hn := Kpt.mk (Hnext.out (fun e => absurd e (by decide)))
              clear Hnext
              subst g3
              (go_wp2_with fail; go_roundw; (case rel => exact ⟨k + 1, by omega, by go_num, hB4, Hn⟩); (case measure => simp [intOf]; omega))
            · have Hn := Kpt.mk (Hnext.out (fun e => absurd e (by decide)))
              clear Hnext
              subst g3
              (go_wp2_with fail; go_roundw; (case rel => exact ⟨k + 1, by omega, by go_num, hB4, Hn⟩); (case measure => simp [intOf]; omega))
            · have Hn := Kpt.mk (Hnext.out (fun e => absurd e (by decide)))
              clear Hnext
              subst g3
              (go_wp2_with fail; go_roundw; (case rel => exact ⟨k + 1, by omega, by go_num, hB4, Hn⟩); (case measure => simp [intOf]; omega))
            · have Hn := Kpt.mk (Hnext.out (fun e => absurd e (by decide)))
              clear Hnext
              subst g3
              (go_wp2_with fail; go_roundw; (case rel => exact ⟨k + 1, by omega, by go_num, hB4, Hn⟩); (case measure => simp [intOf]; omega))
            · have Hn := Kpt.mk (Hnext.out (fun e => absurd e (by decide)))
              clear Hnext
              subst g3
              (go_wp2_with fail; go_roundw; (case rel => exact ⟨k + 1, by omega, by go_num, hB4, Hn⟩); (case measure => simp [intOf]; omega))
            · have Hn := Kpt.mk (Hnext.out (fun e => absurd e (by decide)))
              clear Hnext
              subst g3
              (go_wp2_with fail; go_roundw; (case rel => exact ⟨k + 1, by omega, by go_num, hB4, Hn⟩); (case measure => simp [intOf]; omega))
        · have g3b : (h == h0) = false := by simp [g3]
          clear sq0 sqz
          rcases ff with rfl | rfl | rfl <;> rcases ff0 with rfl | rfl | rfl
          · clear Hnext
            (go_wp2_with fail; go_ret; exact Exists.intro true ⟨rfl, hbw.out _ hB4.out, fun e => by cases e⟩)
          · clear Hnext
            (go_wp2_with fail; go_ret; exact Exists.intro true ⟨rfl, hbw.out _ hB4.out, fun e => by cases e⟩)
          · clear Hnext
            (go_wp2_with fail; go_ret; exact Exists.intro true ⟨rfl, hbw.out _ hB4.out, fun e => by cases e⟩)
          · have Hn := Kpt.mk (Hnext.out (fun e => absurd e (by decide)))
            clear Hnext
            (go_wp2_with fail; go_roundw; (case rel => exact ⟨k + 1, by omega, by go_num, hB4, Hn⟩); (case measure => simp [intOf]; omega))
          · have Hn := Kpt.mk (Hnext.out (fun e => absurd e (by decide)))
            clear Hnext
            (go_wp2_with fail; go_roundw; (case rel => exact ⟨k + 1, by omega, by go_num, hB4, Hn⟩); (case measure => simp [intOf]; omega))
          · have Hn := Kpt.mk (Hnext.out (fun e => absurd e (by decide)))
            clear Hnext
            (go_wp2_with fail; go_roundw; (case rel => exact ⟨k + 1, by omega, by go_num, hB4, Hn⟩); (case measure => simp [intOf]; omega))
          · have Hn := Kpt.mk (Hnext.out (fun e => absurd e (by decide)))
            clear Hnext
            (go_wp2_with fail; go_roundw; (case rel => exact ⟨k + 1, by omega, by go_num, hB4, Hn⟩); (case measure => simp [intOf]; omega))
          · have Hn := Kpt.mk (Hnext.out (fun e => absurd e (by decide)))
            clear Hnext
            (go_wp2_with fail; go_roundw; (case rel => exact ⟨k + 1, by omega, by go_num, hB4, Hn⟩); (case measure => simp [intOf]; omega))
          · have Hn := Kpt.mk (Hnext.out (fun e => absurd e (by decide)))
            clear Hnext
            (go_wp2_with fail; go_roundw; (case rel => exact ⟨k + 1, by omega, by go_num, hB4, Hn⟩); (case measure => simp [intOf]; omega))
    · have i1 : ¬ (k : Int) < L := by omega
      have hkL : k = L := by omega
      go_wp2_with fail
      go_ret
      exact .inl ⟨rfl, hbw.out _ hB.out, fun j hj => hall.out j (by omega)⟩
end Go.Proofs.Ytndlpmnidpandaa
