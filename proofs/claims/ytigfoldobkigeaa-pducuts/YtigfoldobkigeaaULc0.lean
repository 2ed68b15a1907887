/-
  pdu: Feed, and what it leaves alone.
-/
import Derived.Test.YtigfoldobkigeaaURd5
namespace Go.Proofs.Ytigfoldobkigeaa
open Go.RowKit
set_option linter.unusedVariables false
set_option linter.unusedSimpArgs false

set_option maxRecDepth 100000 in
set_option maxHeartbeats 2000000 in
theorem feed_keep (base R : Nat) (h d : Bool) (v sv : Value) (Wt zs : List Int) (w : World) (r : Re base w R h d 0 v Wt) (hsv : RdAt w sv zs) (hlen : Wt.length + zs.length ≤ 140737488355328) :
    Calls Try.prog 18 #[.pointer (some ⟨R, 0, none⟩), sv] w fun e w' => ∃ v', e = .returned (.tuple #[]) ∧ Re base w' R h d 0 v' (Wt ++ zs) ∧ Below base w w' ∧ (v'.ownBlock = v.ownBlock ∨ ∀ g, v'.ownBlock = some g → w.heap.size ≤ g) ∧ (∀ b, b < w.heap.size → b ≠ R → v.ownBlock ≠ some b → w'.heap[b]? = w.heap[b]?) := by
  obtain ⟨c0, c1, c2, c3⟩ := r.cell
  have rK := Kpt.mk r
  have sK := Kpt.mk hsv
  have lK := Kpt.mk hlen
  have gK : Kpt (∀ g, v.ownBlock = some g → base ≤ g) := ⟨fun g e => (r.mid.own e).1⟩
  obtain ⟨va, vc, hv, -⟩ := r.mid.ex
  subst hv
  obtain ⟨sa, sc, rfl, -⟩ := hsv
  obtain ⟨WL, hWL⟩ : ∃ n, n = Wt.length := ⟨_, rfl⟩
  obtain ⟨ZL, hZL⟩ : ∃ n, n = zs.length := ⟨_, rfl⟩
  rw [← hWL] at rK c2 gK ⊢
  rw [← hZL] at sK ⊢
  rw [← hWL, ← hZL] at lK
  replace hWL := Kpt.mk hWL
  replace hZL := Kpt.mk hZL
  clear r hlen
  go_enter Try.func18, Try.ntmps18
  go_wp2_with (refine (?_ : wpList _ _ _ (Oper.mk (some 19) _ _ _ _ _ :: _) _ _); go_must (refine wpList_append_mid rfl (.tmp 17) (.tmp 18) rfl base (.slice va WL vc) Wt zs rfl rK.out.mid _ rfl sK.out (by rw [← hWL.out, ← hZL.out]; exact lK.out) rK.out.lt ?_; intro v' w' hM hg hn; obtain ⟨ya, yc, hv', -⟩ := hM.out.ex; obtain ⟨YL, hYL⟩ : ∃ n, n = (Wt ++ zs).length := (⟨_, rfl⟩); rw [← hYL] at hv'; subst hv'; clear hYL; obtain ⟨q1, q2, q3, q4⟩ := rK.out.wait hg.out hM.out hn.out gK.out; replace q1 := Kpt.mk q1; replace q2 := Kpt.mk q2; have q5 : Kpt (∀ b, b < w.heap.size → b ≠ R → (Value.slice va WL vc).ownBlock ≠ some b → (w'.setCell ⟨R, 2, none⟩ (.slice ya YL yc)).heap[b]? = w.heap[b]?) := ⟨fun b h1 h2 h3 => ((grown_setCellK w' ⟨R, 2, none⟩ (.slice ya YL yc)).block b (Nat.lt_of_lt_of_le h1 hg.out.size) (fun e => h2 (by injection e))).trans (hg.out.block b h1 (fun e => h3 e.symm))⟩; clear hM hg))
  first
    | refine bodyPost_end (v := .tuple #[]) (by simp [results, Try.results18, asAddr, Act.put]) rfl ?_
    | refine bodyPost_ret (v := .tuple #[]) (by simp [results, Try.results18, asAddr, Act.put]) rfl ?_
  exact ⟨_, rfl, q1.out, q2.out, hn.out, q5.out⟩

theorem feed_all (base R : Nat) (h d : Bool) (F : Int) (v sv : Value) (Wt zs : List Int) (w : World) (r : Re base w R h d F v Wt) (hsv : RdAt w sv zs) (hlen : Wt.length + zs.length ≤ 140737488355328) :
    Calls Try.prog 18 #[.pointer (some ⟨R, 0, none⟩), sv] w fun e w' => ∃ v', e = .returned (.tuple #[]) ∧ Re base w' R h d F v' (if F = 0 then Wt ++ zs else Wt) ∧ Below base w w' ∧ (v'.ownBlock = v.ownBlock ∨ ∀ g, v'.ownBlock = some g → w.heap.size ≤ g) ∧ (∀ b, b < w.heap.size → b ≠ R → v.ownBlock ≠ some b → w'.heap[b]? = w.heap[b]?) := by
  by_cases h0 : F = 0
  · subst h0
    rw [if_pos rfl]
    exact feed_keep base R h d v sv Wt zs w r hsv hlen
  · rw [if_neg h0]
    refine (feed_bad base R h d F v sv Wt w r h0).mono ?_
    rintro e w' ⟨rfl, rfl⟩
    exact ⟨v, rfl, r, Below.refl _ _, .inl rfl, fun _ _ _ _ => rfl⟩
theorem wrap64_in (n : Int) (h : -9223372036854775808 ≤ n ∧ n ≤ 9223372036854775807) : wrap64 n = n := by unfold wrap64; omega
theorem own_parts {w : World} {base n : Nat} {v : Value} {zs : List Int} (h : w.ownsRow base 5 1 v n (cels zs)) : ∃ pa pc, v = .slice pa n pc ∧ (n : Int) ≤ pc ∧ (pc : Int) ≤ 9223372036854775807 ∧ (0 < n → ∃ g, pa = some ⟨g, 0, none⟩) ∧ ∀ g, (Value.slice pa n pc).ownBlock = some g → base ≤ g ∧ g < w.heap.size := by
  have ho := h
  rcases h.2 with ⟨rfl, h0⟩ | ⟨g, cap, cur, rfl, hb, hg, hnc, hcm, hcs, htk⟩
  · subst h0
    exact ⟨none, 0, rfl, by omega, by omega, fun e => by omega, fun g e => by simp [Value.ownBlock] at e⟩
  · refine ⟨some ⟨g, 0, none⟩, cap, rfl, by omega, by unfold maxLen at hcm; omega, fun _ => ⟨g, rfl⟩, fun g' e => ⟨?_, (World.ownsRow.lt ho g' e).2⟩⟩
    simp only [Value.ownBlock, Option.some.injEq] at e
    omega
theorem own_rd0' {w : World} {base n c : Nat} {a : Option Addr} {zs : List Int} (h : w.ownsRow base 5 1 (.slice a n c) n (cels zs)) (hl : zs.length = n) : RdAt w (.slice a n c) zs := by
  rcases id h.2 with ⟨e, h'⟩ | ⟨g, cap, cur, e, _⟩
  · cases e
    obtain rfl : zs = [] := List.eq_nil_of_length_eq_zero (by omega)
    exact rd_nil w
  · simp only [Value.slice.injEq] at e
    obtain ⟨rfl, -, rfl⟩ := e
    exact own_rd h
theorem dec_nil (h d : Bool) : decE [] h d = 8 := by cases h <;> cases d <;> rfl
end Go.Proofs.Ytigfoldobkigeaa
