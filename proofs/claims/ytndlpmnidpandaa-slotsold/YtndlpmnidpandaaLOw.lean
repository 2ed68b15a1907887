/-
  Slots: the walk of SlotsOld.
-/
import Derived.Test.YtndlpmnidpandaaLOl
namespace Go.Proofs.Ytndlpmnidpandaa
open Go.RowKit
set_option linter.unusedVariables false
set_option linter.unusedSimpArgs false

theorem xor_ne (a b : Nat) (h : b ≠ 0) : a ≠ a ^^^ b := by
  intro e
  apply h
  have : a ^^^ (a ^^^ b) = 0 := by rw [← e]; simp
  rw [← Nat.xor_assoc, Nat.xor_self, Nat.zero_xor] at this
  exact this
theorem byte_xor (r : Int) (b : Nat) (hr : 0 ≤ r ∧ r ≤ 255) (hb : b < 256) : r.toNat ^^^ b < 256 := by
  have : r.toNat < 2 ^ 8 := by omega
  exact Nat.xor_lt_two_pow this (by simpa using hb)
theorem byt_sp {st : St} (h : Byt st) (s : ByteArray) (i y : Nat) (R : List Int) (hs : st.seen s = some R) (hi : i < R.length) (hy : y < 256) : Byt (spSt st s i y) := by
  intro t ys hyy
  have e : (spSt st s i y).seen = updF st.seen s (some (laidL ((st.seen s).getD []) i [(y : Int)])) := rfl
  rw [e] at hyy
  by_cases ht : t = s
  · subst ht
    rw [updF_same, Option.some.injEq, hs, Option.getD_some, laid_one R i y hi] at hyy
    rw [← hyy]
    have hR := h t R hs
    exact bytes_mem (fun z hz => by
      rcases List.mem_or_eq_of_mem_set hz with h | h
      · have := hR.mem z h; omega
      · omega)
  · rw [updF_other _ _ ht] at hyy
    exact h t ys hyy
theorem sp_seen (st : St) (s : ByteArray) (i y : Nat) (R : List Int) (hs : st.seen s = some R) : (spSt st s i y).seen s = some (laidL R i [(y : Int)]) := by
  show updF st.seen s (some (laidL ((st.seen s).getD []) i [(y : Int)])) s = _
  rw [updF_same, hs, Option.getD_some]
theorem sp_other (st : St) (s t : ByteArray) (i y : Nat) (h : t ≠ s) : (spSt st s i y).seen t = st.seen t := by
  show updF st.seen s (some (laidL ((st.seen s).getD []) i [(y : Int)])) t = _
  rw [updF_other _ _ h]

section
variable {w W W' : World} {B bw ba bb at_ by_ S : Nat} {tag tag' : Tags} {st st' : St}
theorem sc_spoil1 (h : Sc w W B bw ba bb at_ by_ tag st) (F0 : List Int) (ys : List Int) (hy : Bytes ys) (hyl : ys.length ≤ 500) (hF : Fs st F0 (recL 2 ys)) (hc : st.cnt ≤ 50) (hat : at_ < 65536) (hbb : by_ < 256) (hb0 : by_ ≠ 0) :
    Calls Try.prog 20 #[.string ⟨#[107, 46, 49]⟩, .pointer (some ⟨bw, 0, none⟩), .pointer (some ⟨ba, 0, none⟩), .pointer (some ⟨bb, 0, none⟩)] W fun e w' => e = .returned (.bool true) ∧
      ∃ tag' st' F1, Sc w w' B bw ba bb at_ by_ tag' st' ∧ Fs st' F0 F1 ∧ slotOf (some F1) = none ∧ st'.cnt ≤ st.cnt + 3 := by
  have hl : (recL 2 ys).length = 20 + ys.length := recL_len 2 ys
  have hRb := recL_bytes 2 ys hy
  have hi := spI_lt at_ (20 + ys.length) (by omega)
  have hyb := byte_xor _ by_ (hRb (spI at_ (20 + ys.length))) hbb
  have hx := spoil_any ⟨#[107, 46, 49]⟩ bw ba bb B at_ by_ tag st W h.wd h.cw h.ca h.cb (by have := hF.cnt; omega) hF.fails (by decide) (by decide) (recL 2 ys) (by rw [← kN1]; exact hF.s1) (20 + ys.length) hl (by omega) (by omega) hRb hat hbb
  refine hx.mono ?_
  rintro e w' ⟨rfl, tag', hw, hs⟩
  rw [← kN1] at hw
  refine ⟨rfl, tag', _, _, h.step hw hs, ⟨?_, sp_seen _ _ _ _ _ hF.s1, byt_sp hF.byt _ _ _ _ hF.s1 (by rw [hl]; exact hi) hyb, hF.fails, by show st.cnt + 3 ≤ 100; omega⟩, ?_, by show st.cnt + 3 ≤ _; omega⟩
  · rw [sp_other _ _ _ _ _ (fn_ne kN)]; exact hF.s0
  · exact slot_spoiled 2 ys hy (by omega) _ _ hi (spI_ok _ _) hyb (xor_ne _ _ hb0)
theorem sc_spoil0 (h : Sc w W B bw ba bb at_ by_ tag st) (F1 : List Int) (ys : List Int) (hy : Bytes ys) (hyl : ys.length ≤ 500) (hF : Fs st (recL 1 ys) F1) (hc : st.cnt ≤ 50) (hat : at_ < 65536) (hbb : by_ < 256) (hb0 : by_ ≠ 0) :
    Calls Try.prog 20 #[.string ⟨#[107, 46, 48]⟩, .pointer (some ⟨bw, 0, none⟩), .pointer (some ⟨ba, 0, none⟩), .pointer (some ⟨bb, 0, none⟩)] W fun e w' => e = .returned (.bool true) ∧
      ∃ tag' st' F0, Sc w w' B bw ba bb at_ by_ tag' st' ∧ Fs st' F0 F1 ∧ slotOf (some F0) = none := by
  have hl : (recL 1 ys).length = 20 + ys.length := recL_len 1 ys
  have hRb := recL_bytes 1 ys hy
  have hi := spI_lt at_ (20 + ys.length) (by omega)
  have hyb := byte_xor _ by_ (hRb (spI at_ (20 + ys.length))) hbb
  have hx := spoil_any ⟨#[107, 46, 48]⟩ bw ba bb B at_ by_ tag st W h.wd h.cw h.ca h.cb (by have := hF.cnt; omega) hF.fails (by decide) (by decide) (recL 1 ys) (by rw [← kN0]; exact hF.s0) (20 + ys.length) hl (by omega) (by omega) hRb hat hbb
  refine hx.mono ?_
  rintro e w' ⟨rfl, tag', hw, hs⟩
  rw [← kN0] at hw
  refine ⟨rfl, tag', _, _, h.step hw hs, ⟨sp_seen _ _ _ _ _ hF.s0, ?_, byt_sp hF.byt _ _ _ _ hF.s0 (by rw [hl]; exact hi) hyb, hF.fails, by show st.cnt + 3 ≤ 100; omega⟩, ?_⟩
  · rw [sp_other _ _ _ _ _ (fn_ne kN).symm]; exact hF.s1
  · exact slot_spoiled 1 ys hy (by omega) _ _ hi (spI_ok _ _) hyb (xor_ne _ _ hb0)

theorem sc_load (h : Sc w W B bw ba bb at_ by_ tag st) (hS : Sl W S B tag kN false 0 0) (h1 : w.heap.size ≤ S) (F0 F1 : List Int) (hF : Fs st F0 F1) (o0 : Option (Int × List Int)) (ho0 : slotOf (some F0) = o0) (ho1 : slotOf (some F1) = none) :
    Calls Try.prog 19 #[.pointer (some ⟨S, 0, none⟩)] W fun e w' => ∃ a c, e = .returned (.tuple #[.slice a (pO o0).length c, .int .u64 (gO o0), .int .i64 (if o0.isSome then 0 else 8)]) ∧ RdAt w' (.slice a (pO o0).length c) (pO o0) ∧ Below w.heap.size w w' := by
  have eb : bestO o0 none = o0 := by simp [bestO, nwO]
  have hx := load_any S B kN false 0 0 tag st W hS h.wd (by have := hF.cnt; omega) (hF.fails _) (hF.fails _) (by rw [size_k]; omega) (by rw [size_k]; omega) hF.byt o0 none (by rw [← ho0, ← hF.s0]) (by rw [← ho1, ← hF.s1])
  rw [eb] at hx
  refine hx.mono ?_
  rintro e w' ⟨a, c, he, hp, hw, hs, hl⟩
  exact ⟨a, c, he, hp.row.rd, h.below.trans (hs.bel h.below.size h.low h1)⟩
end

set_option maxRecDepth 100000 in
set_option maxHeartbeats 1000000 in
theorem old_long (a0 : Option Addr) (n0 c0 : Nat) (a1 : Option Addr) (n1 c1 : Nat) (at_ by_ : Int) (two : Bool) (w : World) (hn : 500 < n0 ∨ 500 < n1) :
    Calls Try.prog 5 #[.slice a0 n0 c0, .slice a1 n1 c1, .int .u16 at_, .int .u8 by_, .bool two] w fun e w' => e = .returned (.bool true) ∧ Below w.heap.size w w' := by
  have HA := Kpt.mk (fun W => awake_any W)
  by_cases h0 : 500 < n0
  · have i0 : (500 : Int) < n0 := by omega
    go_enter Try.func5, Try.ntmps5
    go_wp2_with (first
      | (refine wpList_box1 rfl 5 _ rfl (.int .u8 by_) rfl rfl ?_; intro b8 w2 hl8 hX8 hB8; have hb2 := Kpt.mk (hb1.out.trans (hB8.mono hb1.out.size)); clear hX8 hB8)
      | (refine wpList_box1 rfl 50 _ rfl (.int .u16 at_) rfl rfl ?_; intro b7 w1 hl7 hX7 hB7; have hb1 := Kpt.mk hB7; clear hX7 hB7)
      | (have hm := m1; go_at_call 7; go_must (refine (HA.out _).mono ?_; rintro e w4 ⟨rfl, hB4⟩; replace hb3 := Kpt.mk (hb3.out.trans (hB4.mono hb3.out.size)); clear hB4))
      | (go_at_call 7; go_must (refine (HA.out _).mono ?_; rintro e w3 ⟨rfl, hB3⟩; have hb3 := Kpt.mk (hb2.out.trans (hB3.mono hb2.out.size)); clear hB3; have m1 : Kpt True := ⟨trivial⟩)))
    go_ret
    exact ⟨rfl, hb3.out⟩
  · have i0 : ¬ (500 : Int) < n0 := by omega
    have i1 : (500 : Int) < n1 := by omega
    go_enter Try.func5, Try.ntmps5
    go_wp2_with (first
      | (refine wpList_box1 rfl 5 _ rfl (.int .u8 by_) rfl rfl ?_; intro b8 w2 hl8 hX8 hB8; have hb2 := Kpt.mk (hb1.out.trans (hB8.mono hb1.out.size)); clear hX8 hB8)
      | (refine wpList_box1 rfl 50 _ rfl (.int .u16 at_) rfl rfl ?_; intro b7 w1 hl7 hX7 hB7; have hb1 := Kpt.mk hB7; clear hX7 hB7)
      | (have hm := m1; go_at_call 7; go_must (refine (HA.out _).mono ?_; rintro e w4 ⟨rfl, hB4⟩; replace hb3 := Kpt.mk (hb3.out.trans (hB4.mono hb3.out.size)); clear hB4))
      | (go_at_call 7; go_must (refine (HA.out _).mono ?_; rintro e w3 ⟨rfl, hB3⟩; have hb3 := Kpt.mk (hb2.out.trans (hB3.mono hb2.out.size)); clear hB3; have m1 : Kpt True := ⟨trivial⟩)))
    go_ret
    exact ⟨rfl, hb3.out⟩

set_option maxRecDepth 100000 in
set_option maxHeartbeats 4000000 in
theorem old_zero (a0 : Option Addr) (n0 c0 : Nat) (zs : List Int) (a1 : Option Addr) (n1 c1 : Nat) (ys : List Int) (at_ by_ : Nat) (two : Bool) (w : World) (h0 : n0 ≤ 500) (h1 : n1 ≤ 500) (hr0 : RdAt w (.slice a0 n0 c0) zs) (hl0 : zs.length = n0) (hz : Bytes zs) (hr1 : RdAt w (.slice a1 n1 c1) ys) (hl1 : ys.length = n1) (hy : Bytes ys) (hat : at_ < 65536) (hbb : by_ < 256) (hb0 : by_ = 0) :
    Calls Try.prog 5 #[.slice a0 n0 c0, .slice a1 n1 c1, .int .u16 at_, .int .u8 by_, .bool two] w fun e w' => e = .returned (.bool true) ∧ Below w.heap.size w w' := by
  have HA := Kpt.mk (fun W => awake_any W)
  have i0 : ¬ (500 : Int) < n0 := by omega
  have i1 : ¬ (500 : Int) < n1 := by omega
  have HN : Kpt (∀ W b7 b8, Below w.heap.size w W → Bx W b7 #[.int .u16 (at_ : Int)] → Bx W b8 #[.int .u8 (by_ : Int)] → Calls Try.prog 12 #[] W fun e w' => ∃ B tag, e = .returned (.pointer (some ⟨B, 0, none⟩)) ∧ Wd w' B tag st0 ∧ Below w.heap.size w w' ∧ (∀ i, i < w.heap.size → tag i = none) ∧ Cv w' tag b7 (.int .u16 (at_ : Int)) ∧ Cv w' tag b8 (.int .u8 (by_ : Int))) := ⟨fun W b7 b8 hW h7 h8 => (new_any W).mono (fun e w' ⟨B, tag, h1, h2, h3, h4⟩ => by
    have hB : Below W.heap.size W w' := (Below.refl _ _).grown h3 (Nat.le_refl _) (fun k h => by cases h)
    exact ⟨B, tag, h1, h2, hW.trans (hB.mono hW.size), fun i hi => h4 i (Nat.lt_of_lt_of_le hi hW.size), ⟨(h7.below hB h7.lt).cells 0 (by simp), h4 _ h7.lt⟩, ⟨(h8.below hB h8.lt).cells 0 (by simp), h4 _ h8.lt⟩⟩)⟩
  have hmf : ∀ (fn : Fn) (first cap : Array Value) (w : World), (Instr.makeFunc fn first cap).run Try.prog w = .ok (.func fn first cap) w := fun _ _ _ _ => rfl
  have hbz : Kpt ((by_ : Int) = 0) := ⟨by omega⟩
  clear hr0 hr1 hb0
  go_enter Try.func5, Try.ntmps5
  go_wp2_with (first
      | (have hm := m1; go_at_call 13; go_must (refine (sc_open sc.out).mono ?_; rintro e w7 ⟨S, rfl, sc7, hS7, hS1, hS2, hS3, hS4⟩; have pb : w7.cell? ⟨b8, 0, none⟩ = some (.int .u8 0) := (by rw [← hbz.out]; exact sc7.cb.at_); replace sc7 := Kpt.mk sc7; clear sc hm m1))
      | (refine (?_ : wpList _ _ _ (Oper.mk none (Op.store 35 _ _) _ _ _ _ :: _) _ _); go_must (refine wpList_store_cell rfl rfl bw 0 #[.pointer none] (.pointer (some ⟨B, 0, none⟩)) rfl rfl rfl xw.out (by simp) infoP rfl ?_; intro w6 hX6 hg6; have hbare : tag1 bw = none := wd_none hw4.out hlw; have sc : Kpt (Sc w w6 B bw b7 b8 at_ by_ tag1 st0) := ⟨⟨hw5.out.own hg6 hbare, hb5.out.trans (Below.ofGrown hg6 hb5.out.size (Nat.le_trans hb4.out.size hlw)), ht4, ⟨hX6.cells 0 (by simp), hbare⟩, ⟨(World.cell?_of_block (a := ⟨b7, 0, none⟩) (hg6.block b7 cv7.out.lt (by simp; have := cv7_.out.lt; omega))).trans cv7.out.at_, cv7.out.bare⟩, ⟨(World.cell?_of_block (a := ⟨b8, 0, none⟩) (hg6.block b8 cv8.out.lt (by simp; have := cv8_.out.lt; omega))).trans cv8.out.at_, cv8.out.bare⟩⟩⟩; have pw : w6.cell? ⟨bw, 0, none⟩ = some (.pointer (some ⟨B, 0, none⟩)) := sc.out.cw.at_; clear hX6 hg6 xw hw4 hw5 hb4 hb5 cv7 cv8 cv7_ cv8_; have m1 : Kpt True := ⟨trivial⟩))
      | (refine wpList_var1 rfl 35 rfl (.pointer none) zeroP rfl ?_; intro bw w5 hlw hXw hBw; have xw := Kpt.mk hXw; have hw5 := Kpt.mk (hw4.out.below hBw); have hb5 := Kpt.mk (hb4.out.trans (hBw.mono hb4.out.size)); have cv7 := Kpt.mk (cv7_.out.below hBw); have cv8 := Kpt.mk (cv8_.out.below hBw); clear hXw hBw)
      | (go_at_call 12; go_must (refine (HN.out _ b7 b8 hb3.out x7.out x8.out).mono ?_; rintro e w4 ⟨B, tag1, rfl, hw4, hb4, ht4, hc7, hc8⟩; replace hw4 := Kpt.mk hw4; replace hb4 := Kpt.mk hb4; have cv7_ := Kpt.mk hc7; have cv8_ := Kpt.mk hc8; clear hc7 hc8 x7 x8 hb3 HN))
      | (refine wpList_box1 rfl 5 _ rfl (.int .u8 (by_ : Int)) rfl rfl ?_; intro b8 w2 hl8 hX8 hB8; have hb2 := Kpt.mk (hb1.out.trans (hB8.mono hb1.out.size)); have x7 := Kpt.mk (x7_.out.below hB8 x7_.out.lt); have x8 := Kpt.mk hX8; clear hX8 hB8 x7_ hb1)
      | (refine wpList_box1 rfl 50 _ rfl (.int .u16 (at_ : Int)) rfl rfl ?_; intro b7 w1 hl7 hX7 hB7; have hb1 := Kpt.mk hB7; have x7_ := Kpt.mk hX7; clear hX7 hB7)
      | (go_at_call 7; go_must (refine (HA.out _).mono ?_; rintro e w3 ⟨rfl, hB3⟩; have hb3 := Kpt.mk (hb2.out.trans (hB3.mono hb2.out.size)); replace x7 := Kpt.mk (x7.out.below hB3 x7.out.lt); replace x8 := Kpt.mk (x8.out.below hB3 x8.out.lt); clear hB3 hb2 HA)))
  go_ret
  exact ⟨rfl, sc7.out.below⟩

set_option maxRecDepth 100000 in
set_option maxHeartbeats 4000000 in
theorem old_two (a0 : Option Addr) (n0 c0 : Nat) (zs : List Int) (a1 : Option Addr) (n1 c1 : Nat) (ys : List Int) (at_ by_ : Nat) (w : World) (h0 : n0 ≤ 500) (h1 : n1 ≤ 500) (hr0 : RdAt w (.slice a0 n0 c0) zs) (hl0 : zs.length = n0) (hz : Bytes zs) (hr1 : RdAt w (.slice a1 n1 c1) ys) (hl1 : ys.length = n1) (hy : Bytes ys) (hat : at_ < 65536) (hbb : by_ < 256) (hb0 : by_ ≠ 0) :
    Calls Try.prog 5 #[.slice a0 n0 c0, .slice a1 n1 c1, .int .u16 at_, .int .u8 by_, .bool true] w fun e w' => e = .returned (.bool true) ∧ Below w.heap.size w w' := by
  have HA := Kpt.mk (fun W => awake_any W)
  have i0 : ¬ (500 : Int) < n0 := by omega
  have i1 : ¬ (500 : Int) < n1 := by omega
  have HN : Kpt (∀ W b7 b8, Below w.heap.size w W → Bx W b7 #[.int .u16 (at_ : Int)] → Bx W b8 #[.int .u8 (by_ : Int)] → Calls Try.prog 12 #[] W fun e w' => ∃ B tag, e = .returned (.pointer (some ⟨B, 0, none⟩)) ∧ Wd w' B tag st0 ∧ Below w.heap.size w w' ∧ (∀ i, i < w.heap.size → tag i = none) ∧ Cv w' tag b7 (.int .u16 (at_ : Int)) ∧ Cv w' tag b8 (.int .u8 (by_ : Int))) := ⟨fun W b7 b8 hW h7 h8 => (new_any W).mono (fun e w' ⟨B, tag, h1, h2, h3, h4⟩ => by
    have hB : Below W.heap.size W w' := (Below.refl _ _).grown h3 (Nat.le_refl _) (fun k h => by cases h)
    exact ⟨B, tag, h1, h2, hW.trans (hB.mono hW.size), fun i hi => h4 i (Nat.lt_of_lt_of_le hi hW.size), ⟨(h7.below hB h7.lt).cells 0 (by simp), h4 _ h7.lt⟩, ⟨(h8.below hB h8.lt).cells 0 (by simp), h4 _ h8.lt⟩⟩)⟩
  have hmf : ∀ (fn : Fn) (first cap : Array Value) (w : World), (Instr.makeFunc fn first cap).run Try.prog w = .ok (.func fn first cap) w := fun _ _ _ _ => rfl
  have HS1 : Kpt (∀ W B bw b7 b8 tag S, Sc w W B bw b7 b8 at_ by_ tag st0 → Sl W S B tag kN false 0 0 → w.heap.size ≤ S → bw ≠ S → b7 ≠ S → b8 ≠ S → _) := ⟨fun W B bw b7 b8 tag S h hS q1 q2 q3 q4 => sc_save1 h hS q1 q2 q3 q4 a0 n0 c0 zs hr0 hl0 h0 hz⟩
  obtain ⟨sA, hsA⟩ : ∃ x, x = savSt { st0 with ops := st0.ops + 2, cnt := st0.cnt + 2 } (fn0 kN) (recL 1 zs) := ⟨_, rfl⟩
  have hA3 : sA.waits = [] ∧ (∀ i, sA.fails i = false) ∧ sA.cnt ≤ 10 := by rw [hsA]; exact ⟨rfl, fun _ => rfl, by simp [savSt, st0]⟩
  have hF2 := fs_two zs ys hz hy
  have hc2 : (savSt (savSt { st0 with ops := st0.ops + 2, cnt := st0.cnt + 2 } (fn0 kN) (recL 1 zs)) (fn1 kN) (recL 2 ys)).cnt ≤ 40 := by simp [savSt, st0]
  rw [← hsA] at hF2 hc2
  simp only [← hsA] at HS1
  have HS2 : Kpt (∀ W B bw b7 b8 tag S, Sc w W B bw b7 b8 at_ by_ tag sA → Sl W S B tag kN true 1 1 → w.heap.size ≤ S → bw ≠ S → b7 ≠ S → b8 ≠ S → _) := ⟨fun W B bw b7 b8 tag S h hS q1 q2 q3 q4 => sc_save2 sA hA3 h hS q1 q2 q3 q4 a1 n1 c1 ys hr1 hl1 h1 hy⟩
  obtain ⟨sB, hsB⟩ : ∃ x, x = savSt sA (fn1 kN) (recL 2 ys) := ⟨_, rfl⟩
  rw [← hsB] at hF2 hc2
  simp only [← hsB] at HS2
  have hcv0 : Kpt (∀ W, Below w.heap.size w W → (convert 23 9 (.slice a0 n0 c0)).run Try.prog W = .ok (.string (strOfNums zs)) W) := ⟨fun W hW => conv_rd W _ zs (hr0.bel hW)⟩
  have hyl : ys.length ≤ 500 := by omega
  have hzl : zs.length ≤ 500 := by omega
  have hnb : ¬ (by_ : Int) = 0 := by omega
  replace hF2 := Kpt.mk hF2
  replace hy := Kpt.mk hy
  replace hz := Kpt.mk hz
  replace hl0 := Kpt.mk hl0
  have hcf := hcf20
  clear hr0 hr1 hl1 hsA hsB hA3
  go_enter Try.func5, Try.ntmps5
  go_wp2_with (first
      | (have hm := m8; go_at_call 19; go_must (refine (sc_load sc10.out hS10.out hq1 F0 F1 hF9.out none ho0.out ho1.out).mono ?_; rintro e w11 ⟨a11, c11, rfl, hr11, hb11⟩; replace hb11 := Kpt.mk hb11; clear hm m8))
      | (have hm := m7; go_at_call 13; go_must (refine (sc_open sc9.out).mono ?_; rintro e w10 ⟨S2, rfl, sc10, hS10, hq1, hq2, hq3, hq4⟩; replace sc10 := Kpt.mk sc10; replace hS10 := Kpt.mk hS10; clear sc9 hm m7; have m8 : Kpt True := ⟨trivial⟩))
      | (have hm := m6; go_at_call 20; go_must (refine (sc_spoil0 sc8.out F1 zs hz.out hzl hF8.out (by omega) hat hbb hb0).mono ?_; rintro e w9 ⟨rfl, tag9, st9, F0, sc9, hF9, ho0⟩; have pw : w9.cell? ⟨bw, 0, none⟩ = some (.pointer (some ⟨B, 0, none⟩)) := sc9.cw.at_; replace sc9 := Kpt.mk sc9; replace hF9 := Kpt.mk hF9; replace ho0 := Kpt.mk ho0; clear sc8 hF8 hm m6; have m7 : Kpt True := ⟨trivial⟩))
      | (have hm := m5; go_at_call 20; go_must (refine (sc_spoil1 sc7.out (recL 1 zs) ys hy.out hyl hF2.out (by omega) hat hbb hb0).mono ?_; rintro e w8 ⟨rfl, tag8, st8, F1, sc8, hF8, ho1, hc8⟩; replace sc8 := Kpt.mk sc8; replace hF8 := Kpt.mk hF8; replace ho1 := Kpt.mk ho1; clear sc7 hm m5; have m6 : Kpt True := ⟨trivial⟩))
      | (have hm := m4; go_at_call 17; go_must (refine (HS2.out _ B bw b7 b8 _ S sc6.out hS6.out hS1 hS2 hS3 hS4).mono ?_; rintro e w7b ⟨rfl, tag7, sc7⟩; replace sc7 := Kpt.mk sc7; clear sc6 hS6 hm m4 HS2; have m5 : Kpt True := ⟨trivial⟩))
      | (have hm := m3; go_at_call 17; go_must (refine (HS1.out _ B bw b7 b8 _ S sc5.out hS5.out hS1 hS2 hS3 hS4).mono ?_; rintro e w7a ⟨rfl, tag6, sc6, hS6⟩; replace sc6 := Kpt.mk sc6; replace hS6 := Kpt.mk hS6; clear sc5 hS5 hm m3 HS1; have m4 : Kpt True := ⟨trivial⟩))
      | (have hm := m1; go_at_call 13; go_must (refine (sc_open sc.out).mono ?_; rintro e w7 ⟨S, rfl, sc5, hS5, hS1, hS2, hS3, hS4⟩; have pb : w7.cell? ⟨b8, 0, none⟩ = some (.int .u8 by_) := sc5.cb.at_; replace sc5 := Kpt.mk sc5; replace hS5 := Kpt.mk hS5; clear sc hm m1; have m3 : Kpt True := ⟨trivial⟩))
      | (refine (?_ : wpList _ _ _ (Oper.mk none (Op.store 35 _ _) _ _ _ _ :: _) _ _); go_must (refine wpList_store_cell rfl rfl bw 0 #[.pointer none] (.pointer (some ⟨B, 0, none⟩)) rfl rfl rfl xw.out (by simp) infoP rfl ?_; intro w6 hX6 hg6; have hbare : tag1 bw = none := wd_none hw4.out hlw; have sc : Kpt (Sc w w6 B bw b7 b8 at_ by_ tag1 st0) := ⟨⟨hw5.out.own hg6 hbare, hb5.out.trans (Below.ofGrown hg6 hb5.out.size (Nat.le_trans hb4.out.size hlw)), ht4, ⟨hX6.cells 0 (by simp), hbare⟩, ⟨(World.cell?_of_block (a := ⟨b7, 0, none⟩) (hg6.block b7 cv7.out.lt (by simp; have := cv7_.out.lt; omega))).trans cv7.out.at_, cv7.out.bare⟩, ⟨(World.cell?_of_block (a := ⟨b8, 0, none⟩) (hg6.block b8 cv8.out.lt (by simp; have := cv8_.out.lt; omega))).trans cv8.out.at_, cv8.out.bare⟩⟩⟩; have pw : w6.cell? ⟨bw, 0, none⟩ = some (.pointer (some ⟨B, 0, none⟩)) := sc.out.cw.at_; clear hX6 hg6 xw hw4 hw5 hb4 hb5 cv7 cv8 cv7_ cv8_; have m1 : Kpt True := ⟨trivial⟩))
      | (refine wpList_var1 rfl 35 rfl (.pointer none) zeroP rfl ?_; intro bw w5 hlw hXw hBw; have xw := Kpt.mk hXw; have hw5 := Kpt.mk (hw4.out.below hBw); have hb5 := Kpt.mk (hb4.out.trans (hBw.mono hb4.out.size)); have cv7 := Kpt.mk (cv7_.out.below hBw); have cv8 := Kpt.mk (cv8_.out.below hBw); clear hXw hBw)
      | (go_at_call 12; go_must (refine (HN.out _ b7 b8 hb3.out x7.out x8.out).mono ?_; rintro e w4 ⟨B, tag1, rfl, hw4, hb4, ht4, hc7, hc8⟩; replace hw4 := Kpt.mk hw4; replace hb4 := Kpt.mk hb4; have cv7_ := Kpt.mk hc7; have cv8_ := Kpt.mk hc8; clear hc7 hc8 x7 x8 hb3 HN))
      | (refine wpList_box1 rfl 5 _ rfl (.int .u8 (by_ : Int)) rfl rfl ?_; intro b8 w2 hl8 hX8 hB8; have hb2 := Kpt.mk (hb1.out.trans (hB8.mono hb1.out.size)); have x7 := Kpt.mk (x7_.out.below hB8 x7_.out.lt); have x8 := Kpt.mk hX8; clear hX8 hB8 x7_ hb1)
      | (refine wpList_box1 rfl 50 _ rfl (.int .u16 (at_ : Int)) rfl rfl ?_; intro b7 w1 hl7 hX7 hB7; have hb1 := Kpt.mk hB7; have x7_ := Kpt.mk hX7; clear hX7 hB7)
      | (go_at_call 7; go_must (refine (HA.out _).mono ?_; rintro e w3 ⟨rfl, hB3⟩; have hb3 := Kpt.mk (hb2.out.trans (hB3.mono hb2.out.size)); replace x7 := Kpt.mk (x7.out.below hB3 x7.out.lt); replace x8 := Kpt.mk (x8.out.below hB3 x8.out.lt); clear hB3 hb2 HA)))
  go_ret
  exact ⟨rfl, hb11.out⟩

set_option maxRecDepth 100000 in
set_option maxHeartbeats 4000000 in
theorem old_one (a0 : Option Addr) (n0 c0 : Nat) (zs : List Int) (a1 : Option Addr) (n1 c1 : Nat) (ys : List Int) (at_ by_ : Nat) (w : World) (h0 : n0 ≤ 500) (h1 : n1 ≤ 500) (hr0 : RdAt w (.slice a0 n0 c0) zs) (hl0 : zs.length = n0) (hz : Bytes zs) (hr1 : RdAt w (.slice a1 n1 c1) ys) (hl1 : ys.length = n1) (hy : Bytes ys) (hat : at_ < 65536) (hbb : by_ < 256) (hb0 : by_ ≠ 0) :
    Calls Try.prog 5 #[.slice a0 n0 c0, .slice a1 n1 c1, .int .u16 at_, .int .u8 by_, .bool false] w fun e w' => e = .returned (.bool true) ∧ Below w.heap.size w w' := by
  have HA := Kpt.mk (fun W => awake_any W)
  have i0 : ¬ (500 : Int) < n0 := by omega
  have i1 : ¬ (500 : Int) < n1 := by omega
  have HN : Kpt (∀ W b7 b8, Below w.heap.size w W → Bx W b7 #[.int .u16 (at_ : Int)] → Bx W b8 #[.int .u8 (by_ : Int)] → Calls Try.prog 12 #[] W fun e w' => ∃ B tag, e = .returned (.pointer (some ⟨B, 0, none⟩)) ∧ Wd w' B tag st0 ∧ Below w.heap.size w w' ∧ (∀ i, i < w.heap.size → tag i = none) ∧ Cv w' tag b7 (.int .u16 (at_ : Int)) ∧ Cv w' tag b8 (.int .u8 (by_ : Int))) := ⟨fun W b7 b8 hW h7 h8 => (new_any W).mono (fun e w' ⟨B, tag, h1, h2, h3, h4⟩ => by
    have hB : Below W.heap.size W w' := (Below.refl _ _).grown h3 (Nat.le_refl _) (fun k h => by cases h)
    exact ⟨B, tag, h1, h2, hW.trans (hB.mono hW.size), fun i hi => h4 i (Nat.lt_of_lt_of_le hi hW.size), ⟨(h7.below hB h7.lt).cells 0 (by simp), h4 _ h7.lt⟩, ⟨(h8.below hB h8.lt).cells 0 (by simp), h4 _ h8.lt⟩⟩)⟩
  have hmf : ∀ (fn : Fn) (first cap : Array Value) (w : World), (Instr.makeFunc fn first cap).run Try.prog w = .ok (.func fn first cap) w := fun _ _ _ _ => rfl
  have HS1 : Kpt (∀ W B bw b7 b8 tag S, Sc w W B bw b7 b8 at_ by_ tag st0 → Sl W S B tag kN false 0 0 → w.heap.size ≤ S → bw ≠ S → b7 ≠ S → b8 ≠ S → _) := ⟨fun W B bw b7 b8 tag S h hS q1 q2 q3 q4 => sc_save1 h hS q1 q2 q3 q4 a0 n0 c0 zs hr0 hl0 h0 hz⟩
  obtain ⟨sA, hsA⟩ : ∃ x, x = savSt { st0 with ops := st0.ops + 2, cnt := st0.cnt + 2 } (fn0 kN) (recL 1 zs) := ⟨_, rfl⟩
  have hA3 : sA.waits = [] ∧ (∀ i, sA.fails i = false) ∧ sA.cnt ≤ 10 := by rw [hsA]; exact ⟨rfl, fun _ => rfl, by simp [savSt, st0]⟩
  have hF2 := fs_two zs ys hz hy
  have hc2 : (savSt (savSt { st0 with ops := st0.ops + 2, cnt := st0.cnt + 2 } (fn0 kN) (recL 1 zs)) (fn1 kN) (recL 2 ys)).cnt ≤ 40 := by simp [savSt, st0]
  rw [← hsA] at hF2 hc2
  simp only [← hsA] at HS1
  have HS2 : Kpt (∀ W B bw b7 b8 tag S, Sc w W B bw b7 b8 at_ by_ tag sA → Sl W S B tag kN true 1 1 → w.heap.size ≤ S → bw ≠ S → b7 ≠ S → b8 ≠ S → _) := ⟨fun W B bw b7 b8 tag S h hS q1 q2 q3 q4 => sc_save2 sA hA3 h hS q1 q2 q3 q4 a1 n1 c1 ys hr1 hl1 h1 hy⟩
  obtain ⟨sB, hsB⟩ : ∃ x, x = savSt sA (fn1 kN) (recL 2 ys) := ⟨_, rfl⟩
  rw [← hsB] at hF2 hc2
  simp only [← hsB] at HS2
  have hcv0 : Kpt (∀ W, Below w.heap.size w W → (convert 23 9 (.slice a0 n0 c0)).run Try.prog W = .ok (.string (strOfNums zs)) W) := ⟨fun W hW => conv_rd W _ zs (hr0.bel hW)⟩
  have hyl : ys.length ≤ 500 := by omega
  have hzl : zs.length ≤ 500 := by omega
  have hnb : ¬ (by_ : Int) = 0 := by omega
  replace hF2 := Kpt.mk hF2
  replace hy := Kpt.mk hy
  replace hz := Kpt.mk hz
  replace hl0 := Kpt.mk hl0
  have hcf := hcf20
  clear hr0 hr1 hl1 hsA hsB hA3
  go_enter Try.func5, Try.ntmps5
  go_wp2_with (first
      | (have hm := m8; go_at_call 19; go_must (refine (sc_load sc10.out hS10.out hq1 (recL 1 zs) F1 hF8.out (some (1, zs)) (slot_whole 1 zs (by omega) (by omega) (by omega)) ho1.out).mono ?_; rintro e w11 ⟨a11, c11, he11, hr11, hb11⟩; have hcv1 := conv_rd w11 _ zs hr11; have hcv2 := hcv0.out w11 hb11; simp only [pO, gO, Option.isSome_some, if_true, hl0.out] at he11 hcv1; subst he11; replace hb11 := Kpt.mk hb11; clear hm m8 hr11))
      | (have hm := m7; go_at_call 13; go_must (refine (sc_open sc8.out).mono ?_; rintro e w10 ⟨S2, rfl, sc10, hS10, hq1, hq2, hq3, hq4⟩; replace sc10 := Kpt.mk sc10; replace hS10 := Kpt.mk hS10; clear sc8 hm m7; have m8 : Kpt True := ⟨trivial⟩))
      | (have hm := m5; go_at_call 20; go_must (refine (sc_spoil1 sc7.out (recL 1 zs) ys hy.out hyl hF2.out (by omega) hat hbb hb0).mono ?_; rintro e w8 ⟨rfl, tag8, st8, F1, sc8, hF8, ho1, hc8⟩; have pw : w8.cell? ⟨bw, 0, none⟩ = some (.pointer (some ⟨B, 0, none⟩)) := sc8.cw.at_; replace sc8 := Kpt.mk sc8; replace hF8 := Kpt.mk hF8; replace ho1 := Kpt.mk ho1; clear sc7 hm m5; have m7 : Kpt True := ⟨trivial⟩))
      | (have hm := m4; go_at_call 17; go_must (refine (HS2.out _ B bw b7 b8 _ S sc6.out hS6.out hS1 hS2 hS3 hS4).mono ?_; rintro e w7b ⟨rfl, tag7, sc7⟩; replace sc7 := Kpt.mk sc7; clear sc6 hS6 hm m4 HS2; have m5 : Kpt True := ⟨trivial⟩))
      | (have hm := m3; go_at_call 17; go_must (refine (HS1.out _ B bw b7 b8 _ S sc5.out hS5.out hS1 hS2 hS3 hS4).mono ?_; rintro e w7a ⟨rfl, tag6, sc6, hS6⟩; replace sc6 := Kpt.mk sc6; replace hS6 := Kpt.mk hS6; clear sc5 hS5 hm m3 HS1; have m4 : Kpt True := ⟨trivial⟩))
      | (have hm := m1; go_at_call 13; go_must (refine (sc_open sc.out).mono ?_; rintro e w7 ⟨S, rfl, sc5, hS5, hS1, hS2, hS3, hS4⟩; have pb : w7.cell? ⟨b8, 0, none⟩ = some (.int .u8 by_) := sc5.cb.at_; replace sc5 := Kpt.mk sc5; replace hS5 := Kpt.mk hS5; clear sc hm m1; have m3 : Kpt True := ⟨trivial⟩))
      | (refine (?_ : wpList _ _ _ (Oper.mk none (Op.store 35 _ _) _ _ _ _ :: _) _ _); go_must (refine wpList_store_cell rfl rfl bw 0 #[.pointer none] (.pointer (some ⟨B, 0, none⟩)) rfl rfl rfl xw.out (by simp) infoP rfl ?_; intro w6 hX6 hg6; have hbare : tag1 bw = none := wd_none hw4.out hlw; have sc : Kpt (Sc w w6 B bw b7 b8 at_ by_ tag1 st0) := ⟨⟨hw5.out.own hg6 hbare, hb5.out.trans (Below.ofGrown hg6 hb5.out.size (Nat.le_trans hb4.out.size hlw)), ht4, ⟨hX6.cells 0 (by simp), hbare⟩, ⟨(World.cell?_of_block (a := ⟨b7, 0, none⟩) (hg6.block b7 cv7.out.lt (by simp; have := cv7_.out.lt; omega))).trans cv7.out.at_, cv7.out.bare⟩, ⟨(World.cell?_of_block (a := ⟨b8, 0, none⟩) (hg6.block b8 cv8.out.lt (by simp; have := cv8_.out.lt; omega))).trans cv8.out.at_, cv8.out.bare⟩⟩⟩; have pw : w6.cell? ⟨bw, 0, none⟩ = some (.pointer (some ⟨B, 0, none⟩)) := sc.out.cw.at_; clear hX6 hg6 xw hw4 hw5 hb4 hb5 cv7 cv8 cv7_ cv8_; have m1 : Kpt True := ⟨trivial⟩))
      | (refine wpList_var1 rfl 35 rfl (.pointer none) zeroP rfl ?_; intro bw w5 hlw hXw hBw; have xw := Kpt.mk hXw; have hw5 := Kpt.mk (hw4.out.below hBw); have hb5 := Kpt.mk (hb4.out.trans (hBw.mono hb4.out.size)); have cv7 := Kpt.mk (cv7_.out.below hBw); have cv8 := Kpt.mk (cv8_.out.below hBw); clear hXw hBw)
      | (go_at_call 12; go_must (refine (HN.out _ b7 b8 hb3.out x7.out x8.out).mono ?_; rintro e w4 ⟨B, tag1, rfl, hw4, hb4, ht4, hc7, hc8⟩; replace hw4 := Kpt.mk hw4; replace hb4 := Kpt.mk hb4; have cv7_ := Kpt.mk hc7; have cv8_ := Kpt.mk hc8; clear hc7 hc8 x7 x8 hb3 HN))
      | (refine wpList_box1 rfl 5 _ rfl (.int .u8 (by_ : Int)) rfl rfl ?_; intro b8 w2 hl8 hX8 hB8; have hb2 := Kpt.mk (hb1.out.trans (hB8.mono hb1.out.size)); have x7 := Kpt.mk (x7_.out.below hB8 x7_.out.lt); have x8 := Kpt.mk hX8; clear hX8 hB8 x7_ hb1)
      | (refine wpList_box1 rfl 50 _ rfl (.int .u16 (at_ : Int)) rfl rfl ?_; intro b7 w1 hl7 hX7 hB7; have hb1 := Kpt.mk hB7; have x7_ := Kpt.mk hX7; clear hX7 hB7)
      | (go_at_call 7; go_must (refine (HA.out _).mono ?_; rintro e w3 ⟨rfl, hB3⟩; have hb3 := Kpt.mk (hb2.out.trans (hB3.mono hb2.out.size)); replace x7 := Kpt.mk (x7.out.below hB3 x7.out.lt); replace x8 := Kpt.mk (x8.out.below hB3 x8.out.lt); clear hB3 hb2 HA)))
  go_ret
  exact ⟨rfl, hb11.out⟩
end Go.Proofs.Ytndlpmnidpandaa
