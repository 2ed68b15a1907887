/-
  sess: SessWindow's walk.
-/
import Derived.Test.YtdplndlmdhpfaabEWin
namespace Go.Proofs.Ytdplndlmdhpfaab
open Go.RowKit
set_option linter.unusedVariables false
set_option linter.unusedSimpArgs false

theorem own_new {S m : Nat} {s : Se} {first : Int} (hS : m ≤ S) (b : Nat) (hb : (s.new first).X S b) : m ≤ b := by
  rcases hb with e | e | e | e
  · rw [e]; exact hS
  all_goals simp [Se.new, Value.ownBlock] at e

set_option maxRecDepth 100000 in
set_option maxHeartbeats 8000000 in
theorem window_any (first far : Int) (p : Pd) (a : Option Addr) (n c : Nat) (w : World) (hf : 0 ≤ first ∧ first < 4294967296) (hr : 0 ≤ far ∧ far < 4294967296) (hda : p.da = .slice a n c) (hu : p.all32) (hn : n ≤ maxLen) :
    Calls Try.prog 4 #[.int .u32 first, .int .u32 far, .agg p.v] w fun e w' => e = .returned (.bool true) ∧ Below w.heap.size w w' := by
  have hA : Kpt (∀ W : World, Calls Try.prog 6 #[] W fun e w' => e = .returned (.bool true) ∧ Below W.heap.size W w') := ⟨awake_any⟩
  have hP : Kpt (∀ W : World, Calls Try.prog 7 #[] W fun e w' => e = .returned (.agg plainS.prm) ∧ Below W.heap.size W w') := ⟨plain_any⟩
  have hN : Kpt (∀ W : World, Calls Try.prog 8 #[.agg plainS.prm, .slice none 0 0, .int .u32 first] W fun e w' => (∃ S, e = .returned (.pointer (some ⟨S, 0, none⟩)) ∧ W.heap.size ≤ S ∧ Ss w' S (plainS.new first) [] [] []) ∧ Below W.heap.size W w') := ⟨fun W => new_nil plainS first W⟩
  obtain ⟨D, hD⟩ : ∃ D, D = 16 + far % 4294967279 := ⟨_, rfl⟩
  have hDr : 16 ≤ D ∧ D < 4294967296 := by omega
  obtain ⟨C, hC⟩ : ∃ C, C = (first + D) % 4294967296 := ⟨_, rfl⟩
  have hR : Kpt (∀ W : World, Calls Try.prog 11 #[.int .u32 5, .int .u32 C, .int .u32 0] W fun e w' => e = .returned (.agg (rdP 5 C 0).v) ∧ Below W.heap.size W w') := ⟨fun W => read_any 5 C 0 W⟩
  have hI1 : Kpt (∀ W S, Ss W S (plainS.new first) [] [] [] → Calls Try.prog 10 #[.pointer (some ⟨S, 0, none⟩), .agg (rdP 5 C 0).v] W fun e w' => e = .returned (.tuple #[.slice none 0 0, .slice none 0 0]) ∧ Below W.heap.size W w') := ⟨fun W S h => in_far S (plainS.new first) [] [] [] (rdP 5 C 0) W h rfl rfl (by show 16 ≤ (C - first) % 4294967296; omega)⟩
  obtain ⟨q, hq⟩ : ∃ q : Pd, q = { p with op := 33 } := ⟨_, rfl⟩
  obtain ⟨s', hs'⟩ : ∃ s' : Se, s' = { (plainS.new first) with stat := 2 } := ⟨_, rfl⟩
  have hI2 : Kpt (n ≤ 8192 → ∀ W S, Ss W S (plainS.new first) [] [] [] → Calls Try.prog 10 #[.pointer (some ⟨S, 0, none⟩), .agg q.v] W fun e w' => ∃ v d zs, e = .returned (.tuple #[v, .slice none 0 0]) ∧ Ss w' S s' [] [] [] ∧ St S W w' (plainS.new first) s' ∧ Ou W w' S s' v 42 ((rej 5 d).num (plainS.new first)).v ∧ Dt (s'.X S) w' d zs ∧ zs.length = 48 ∧ zs.getD 0 0 = 33 ∧ zs.getD 1 0 = p.fl) := ⟨fun h8 W S h => by
    have := in_ref S (plainS.new first) [] [] [] q a n c W h (by rw [hq]; exact .inl rfl) rfl (by rw [hq]; exact hda) (by omega) (by rw [hq]; exact hu) hf s' (by rw [hs']; rfl)
    rw [hq] at this ⊢
    exact this⟩
  have e1 : IntKind.u32.wrap (16 + far % 4294967279) = D := by rw [IntKind.wrap_u32, hD]; omega
  have e2 : IntKind.u32.wrap (first + D) = C := by rw [IntKind.wrap_u32, hC]
  have hdaK := Kpt.mk hda
  have hqv : Kpt (∀ W P, Bx W P p.v → Bx (W.setCell ⟨P, 0, none⟩ (.int .u8 33)) P q.v) := ⟨fun W P hB => by rw [hq]; have := bx_setC (.int .u8 33) hB (j := 0) (by simp [Pd.v]); simpa [Pd.v] using this⟩
  have hq1 : Kpt (q.fl = p.fl) := ⟨by rw [hq]⟩
  clear hD hC hDr hu hs' hq hda
  go_enter Try.func4, Try.ntmps4
  go_upto_region 8 with (first
    | (go_at_call 6; go_must (refine (hA.out _).mono ?_; rintro e w1 ⟨rfl, hb1'⟩; have hb1 := Kpt.mk (hb0.out.trans (hb1'.mono hb0.out.size)); have hB1 := Kpt.mk (hB0.out.below hb1' hB0.out.lt); clear hb1'))
    | (go_at_call 7; go_must (refine (hP.out _).mono ?_; rintro e w2 ⟨rfl, hb2'⟩; have hb2 := Kpt.mk (hb1.out.trans (hb2'.mono hb1.out.size)); have hB2 := Kpt.mk (hB1.out.below hb2' hB1.out.lt); clear hb2'))
    | (go_at_call 8; go_must (refine (hN.out _).mono ?_; rintro e w3 ⟨⟨S, rfl, hSl, hS⟩, hb3'⟩; have hb3 := Kpt.mk (hb2.out.trans (hb3'.mono hb2.out.size)); have hSw := Kpt.mk (Nat.le_trans hb2.out.size hSl); have hB3 := Kpt.mk (hB2.out.below hb3' hB2.out.lt); have hPS : Kpt (P < S) := ⟨Nat.lt_of_lt_of_le hB2.out.lt hSl⟩; replace hS := Kpt.mk hS; clear hb3' hSl))
    | (go_at_call 11; go_must (refine (hR.out _).mono ?_; rintro e w4 ⟨rfl, hb4'⟩; have hb4 := Kpt.mk (hb3.out.trans (hb4'.mono hb3.out.size)); have hB4 := Kpt.mk (hB3.out.below hb4' hB3.out.lt); have hS4 := Kpt.mk (hS.out.below hb4'); clear hb4'))
    | (go_at_call 10; go_must (refine (hI1.out _ _ hS4.out).mono ?_; rintro e w5 ⟨rfl, hb5'⟩; have hb5 := Kpt.mk (hb4.out.trans (hb5'.mono hb4.out.size)); have hB5 := Kpt.mk (hB4.out.below hb5' hB4.out.lt); have hS5 := Kpt.mk (hS4.out.below hb5'); clear hb5'))
    | (go_at_call 12; go_must (refine (next_any _ _ _ _ _ _ hS5.out).mono ?_; rintro e w6 ⟨rfl, hw6⟩; rw [hw6]; clear hw6; simp only [Se.new]))
    | (go_at_call 13; go_must (refine (waits_any _ _ _ _ _ _ hS5.out).mono ?_; rintro e w6 ⟨rfl, hw6⟩; rw [hw6]; clear hw6; simp only [List.length_nil]))
    | (refine (?_ : wpList _ _ _ (Oper.mk _ (Op.box 42 _) _ _ _ _ :: _) _ _); go_must (refine wpList_box rfl 42 _ rfl p.v rfl ?_; intro P w0 hP0 hB0 hb0 _; replace hB0 := Kpt.mk hB0; replace hb0 := Kpt.mk hb0; replace hP0 := Kpt.mk hP0)))
  clear hB0 hB1 hB2 hB3 hB4 hS hS4 hA hP hN hR hI1 e1 e2
  have c13 := hB5.out.cells 13 (by simp [Pd.v])
  have c0 := hB5.out.cells 0 (by simp [Pd.v])
  have f0 := hB5.out.free 0
  simp [Pd.v] at c13 c0
  rw [hdaK.out] at c13
  by_cases h8 : n ≤ 8192
  · have d8 : ¬ (8192 : Int) < n := by omega
    have d9 : decide ((8192 : Int) < n) = false := by simp; omega
    have hBq := Kpt.mk (hqv.out _ _ hB5.out)
    have hg0 := grown_setCellK w5 ⟨P, 0, none⟩ (.int .u8 33)
    have hS6 : Kpt (Ss (w5.setCell ⟨P, 0, none⟩ (.int .u8 33)) S (plainS.new first) [] [] []) := ⟨hS5.out.frame (Y := fun b => b = P) (Fr.of_grown hg0 (fun b e => by injection e with e; exact e.symm)) (fun b hb e => by have := own_new (Nat.le_refl S) b hb; have := hPS.out; omega)⟩
    have hb6 : Kpt (Below w.heap.size w (w5.setCell ⟨P, 0, none⟩ (.int .u8 33))) := ⟨hb5.out.setCell (p := ⟨P, 0, none⟩) hP0.out _⟩
    clear hg0
    go_upto_region 12 with (first
      | (go_at_call 10; go_must (refine (hI2.out h8 _ _ hS6.out).mono ?_; rintro e w7 ⟨v, d, zs, rfl, hS7, hst7, ho7, hd7, hl7, z0, z1⟩; have hb7 := Kpt.mk (hb6.out.trans (hst7.fr.below hb6.out.size (fun b hb => own_new hSw.out b hb))); have hB7 := Kpt.mk (hst7.fr.bx hBq.out (fun e => by have := own_new (Nat.le_refl S) _ e; have := hPS.out; omega)); replace ho7 := Kpt.mk ho7; replace hd7 := Kpt.mk hd7.rd; replace z0 := Kpt.mk z0; replace z1 := Kpt.mk z1; clear hS7 hst7))
      | (refine (?_ : wpList _ _ _ (Oper.mk _ (Op.load 42 _) _ _ _ _ :: _) _ _); go_must (refine wpList_load_bx rfl 42 _ rfl P q.v rfl hBq.out _ Try.underlying42 rfl szPdu ?_; have hm := h8)))
    obtain ⟨g, hv, hg, hh, hx⟩ := ho7.out.at_
    obtain ⟨db, doff, dc, hdv, y0, y1⟩ : ∃ b o c, d = .slice (some ⟨b, o, none⟩) 48 c ∧ w7.cell? ⟨b, o, none⟩ = some (.int .u8 33) ∧ w7.cell? ⟨b, o + 1, none⟩ = some (.int .u8 p.fl) := by
      obtain ⟨a', c', rfl, _, _, h3⟩ := id hd7.out
      rcases h3 with h3 | ⟨b, o, rfl, hc⟩
      · omega
      · obtain ⟨_, hcc⟩ := rd_cells hd7.out
        exact ⟨b, o, c', by rw [hl7], by have := hcc 0 (by omega); rwa [z0.out] at this, by have := hcc 1 (by omega); rwa [z1.out] at this⟩
    have hO := Bx.oneOwn (k := 14) hh (Pd.one (p := (rej 5 d).num (plainS.new first)) hdv)
    obtain ⟨g', gc, hv2, hgl, hgc, hc⟩ := hO.one
    simp only [Value.slice.injEq, Option.some.injEq, Addr.mk.injEq, and_true] at hv2
    obtain ⟨rfl, _, rfl⟩ := hv2
    have q0 : w7.cell? ⟨g, 0, none⟩ = some (.int .u8 63) := hc 0 _ rfl
    have q2 : w7.cell? ⟨g, 2, none⟩ = some (.int .u8 5) := hc 2 _ rfl
    have q7 : w7.cell? ⟨g, 7, none⟩ = some (.int .u32 1) := hc 7 _ rfl
    have q13 : w7.cell? ⟨g, 13, none⟩ = some d := hc 13 _ rfl
    rw [hdv] at q13
    have p1 := hB7.out.cells 1 (by simp [Pd.v])
    simp [Pd.v] at p1
    rw [hq1.out] at p1
    subst hv
    clear hO hc hh hdv
    go_quiet (fail)
    go_wp2
    go_ret
    exact ⟨rfl, below_drewN hb7.out _⟩
  · have d8 : (8192 : Int) < n := by omega
    have d9 : decide ((8192 : Int) < n) = true := by simp; omega
    go_wp2_with fail
    go_ret
    exact ⟨rfl, hb5.out⟩
end Go.Proofs.Ytdplndlmdhpfaab
