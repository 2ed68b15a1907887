/-
  sess: the answer to a text that has one key.
-/
import Derived.Test.YtdplndlmdhpfaaaXParM
import Derived.Test.YtdplndlmdhpfaaaENmA
import Derived.Lib.AppendStr
namespace Go.Proofs.Ytdplndlmdhpfaaa
open Go.RowKit
set_option linter.unusedVariables false
set_option linter.unusedSimpArgs false

theorem own_sl {w : World} {base n : Nat} {v : Value} {xs : List Value} (h : w.ownsRow base 5 1 v n xs) : ∃ a c, v = .slice a n c := by
  rcases h.2 with ⟨h1, h2⟩ | ⟨g, cap, cur, h1, _⟩
  · exact ⟨none, 0, by rw [h2]; exact h1⟩
  · exact ⟨_, _, h1⟩
set_option maxRecDepth 100000 in
theorem appendPair_any (key val : ByteArray) (w : World) (hs : key.size ≤ 100 ∧ val.size ≤ 100) :
    Calls Try.prog 58 #[.slice none 0 0, .string key, .string val] w fun e w' => ∃ a n c, e = .returned (.slice a n c) ∧ Below w.heap.size w w' := by
  obtain ⟨i0, hi0, hz0, hz1, hz2⟩ := info_parts Try.info5
  have hi := Kpt.mk hi0
  have h1 := Kpt.mk hz0
  have h2 := Kpt.mk hz1
  have h3 := Kpt.mk hz2
  clear hi0 hz0 hz1 hz2
  obtain ⟨T, hT⟩ : ∃ T, T = key ++ ⟨#[61]⟩ ++ val ++ ⟨#[0]⟩ := ⟨_, rfl⟩
  have hsz : Kpt (T.size ≤ 1000) := ⟨by rw [hT]; simp [ByteArray.size_append]; have e1 : (⟨#[61]⟩ : ByteArray).size = 1 := rfl; have e2 : (⟨#[0]⟩ : ByteArray).size = 1 := rfl; omega⟩
  go_enter Try.func58, Try.ntmps58
  go_wp2_with (refine (?_ : wpList _ _ _ (Oper.mk (some 13) _ _ _ _ _ :: _) _ _); go_must (refine Lib.wpList_append_own_string (P := Try.prog) _ rfl _ _ 23 9 rfl w.heap.size 5 i0 Try.underlying23 Try.underlying9 hi.out h1.out h2.out h3.out (.slice none 0 0) 0 [] rfl (World.ownsRow_nil _ _ _ _) T (by rw [hT]; rfl) (by have := hsz.out; unfold maxLen; omega) (by have := hsz.out; omega) (Nat.le_refl _) ?_; intro v' w' ho' hg' _; obtain ⟨a2, c2, hv2⟩ := own_sl ho'; obtain ⟨n2, hn2⟩ : ∃ n2, n2 = 0 + T.size := (⟨_, rfl⟩); rw [← hn2] at hv2; subst hv2; have hb2 : Kpt (Below w.heap.size w w') := ⟨below_none hg'⟩; clear ho' hg' hn2))
  go_ret
  exact ⟨⟨_, _, _, rfl⟩, hb2.out⟩

theorem parE_ab : parE [97, 61, 98, 0] = 0 := by decide
theorem parO_ab : parO [97, 61, 98, 0] = [([97], [98])] := by decide
theorem szPr : (Try.prog.info? 105).map (·.size) = some 2 := by kernel_rfl
theorem zPair : (Try.prog.info? 105).map (fun i => i.zero) = some (some (.agg #[.string ⟨#[]⟩, .string ⟨#[]⟩])) := by kernel_rfl
def abV : Array Value := #[.string ⟨#[97]⟩, .string ⟨#[98]⟩]
set_option maxRecDepth 100000 in
set_option maxHeartbeats 4000000 in
theorem answerKeys_ab (S : Nat) (a : Option Addr) (c : Nat) (w : World) (hr : RdAt w (.slice a 4 c) [97, 61, 98, 0]) (hc : c ≤ maxLen) :
    Calls Try.prog 41 #[.pointer (some ⟨S, 0, none⟩), .slice a 4 c] w fun e w' => ∃ a n c, e = .returned (.slice a n c) ∧ Below w.heap.size w w' := by
  have hP : Kpt (Calls Try.prog 55 #[.slice a 4 c] w fun e w' => ∃ g cap, e = .returned (.tuple #[.slice (some ⟨g, 0, none⟩) 1 cap, .int .i64 0]) ∧ 1 ≤ cap ∧ cap ≤ 9223372036854775807 ∧ w'.rangeAt g 0 abV.toList ∧ g < w'.heap.size ∧ Below w.heap.size w w') := ⟨by
    refine (parse_any a 4 c [97, 61, 98, 0] w hr (by decide) hc (by intro j; rcases j with _ | _ | _ | _ | j <;> simp)).mono ?_
    rintro e w' ⟨v, rfl, ho, hb⟩
    rw [parE_ab]
    rw [parO_ab] at ho
    rcases id ho.2 with ⟨_, h0⟩ | ⟨g, cap, cur, rfl, hg, hh, h1, h2, h3, h4⟩
    · simp at h0
    · refine ⟨g, cap, rfl, h1, by unfold maxLen at h2; omega, fun j x hx => ?_, (World.ownsRow.lt ho g rfl).2, hb⟩
      have hj : j < 2 := by have := (List.getElem?_eq_some_iff.1 hx).1; simpa [abV] using this
      rw [Nat.zero_add, World.ownsRow.cellAt ho j (by simpa using hj)]
      rw [← hx]
      rcases (by omega : j = 0 ∨ j = 1) with rfl | rfl <;> rfl⟩
  have hA : Kpt (∀ W : World, Calls Try.prog 58 #[.slice none 0 0, .string ⟨#[97]⟩, .string ⟨#[78, 111, 116, 85, 110, 100, 101, 114, 115, 116, 111, 111, 100]⟩] W fun e w' => ∃ a n c, e = .returned (.slice a n c) ∧ Below W.heap.size W w') := ⟨fun W => appendPair_any _ _ W (by decide)⟩
  have ne1 : ((⟨#[97]⟩ : ByteArray) == ⟨#[83, 101, 110, 100, 84, 97, 114, 103, 101, 116, 115]⟩) = false := by decide
  have ne2 : decide ((⟨#[97]⟩ : ByteArray) = ⟨#[83, 101, 110, 100, 84, 97, 114, 103, 101, 116, 115]⟩) = false := by decide
  clear hr hc
  go_enter Try.func41, Try.ntmps41
  go_wp2_with (go_at_call 55; go_must (refine hP.out.mono ?_; rintro e w1 ⟨g, cap, rfl, hcap, hcap2, hrg, hgl, hb1⟩; replace hrg := Kpt.mk hrg; replace hb1 := Kpt.mk hb1))
  go_loopg [7, 21] 1 (fun i r7 r21 wr => Kpt (Below w1.heap.size w1 wr) ∧ ((i = 1 ∧ r7 = .slice none 0 0 ∧ r21 = .int .i64 0) ∨ (i = 0 ∧ r21 = .int .i64 1 ∧ ∃ a n c, r7 = .slice a n c)))
  case atStart => exact ⟨⟨Below.refl _ _⟩, .inl ⟨rfl, rfl, rfl⟩⟩
  case round =>
    obtain ⟨hbr, ⟨hi, rfl, rfl⟩ | ⟨hi, rfl, a', n', c', rfl⟩⟩ := hrel
    · have hrr : Kpt (wr.rangeAt g 0 abV.toList) := ⟨rangeAt_block hrg.out (hbr.out.block g hgl)⟩
      have hc1 : (1 : Int) ≤ cap := by omega
      go_upto_region 9 with (first
        | (refine (?_ : wpList _ _ _ (Oper.mk _ (Op.load 105 _) _ _ _ _ :: _) _ _); go_must (refine wpList_load_mid rfl 105 _ rfl g 0 rfl abV.toList _ hrr.out Try.underlying105 rfl szPr ?_; have hm := hc1))
        | (refine (?_ : wpList _ _ _ (Oper.mk _ (Op.alloc 105) _ _ _ _ :: _) _ _); go_must (refine wpList_var rfl 105 rfl _ zPair ?_; intro Q w3 hQ hB3 hb3; have q3 := Kpt.mk (hbr.out.trans (hb3.mono hbr.out.size)); have x3 := Kpt.mk hB3; have hQn := Kpt.mk (Nat.le_trans hbr.out.size hQ); clear hQ hB3 hb3))
        | (refine (?_ : wpList _ _ _ (Oper.mk _ (Op.store 105 _ _) _ _ _ _ :: _) _ _); go_must (refine wpList_store_bx rfl 105 _ _ rfl Q _ abV rfl rfl x3.out rfl szPr (by simp [abV, Value.oneCell']) rfl ?_; intro w4 hB4 hg4; have q4 := Kpt.mk (q3.out.grown hg4 q3.out.size (fun q e => by injection e with e; subst e; exact hQn.out)); have x4 := Kpt.mk hB4; clear hB4 hg4)))
      have c0 := x4.out.cells 0 (by simp [abV])
      simp [abV] at c0
      go_quiet (fail)
      have q5 : Kpt (Below w1.heap.size w1 (w4.drewN nq)) := ⟨below_drewN q4.out nq⟩
      have c0' : (w4.drewN nq).cell? ⟨Q, 0, none⟩ = some (.string ⟨#[97]⟩) := c0
      obtain ⟨w5, hw5⟩ : ∃ x, x = w4.drewN nq := ⟨_, rfl⟩
      rw [← hw5] at q5 c0' ⊢
      clear hw5 x3 q3 q4 c0
      go_wp2_with (go_at_call 58; go_must (refine (hA.out _).mono ?_; rintro e w6 ⟨a6, n6, c6, rfl, hb6⟩; have q6 := Kpt.mk (q5.out.trans (hb6.mono q5.out.size)); clear hb6))
      go_roundg 0
      case measure => omega
      case rel => exact ⟨q6, .inr ⟨rfl, by first | rfl | go_num, _, _, _, rfl⟩⟩
    · go_wp2
      go_ret
      exact ⟨_, _, _, rfl, hb1.out.trans (hbr.out.mono hb1.out.size)⟩
end Go.Proofs.Ytdplndlmdhpfaaa
