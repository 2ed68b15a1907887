/-
  Slots: Load.
-/
import Derived.Test.YtndlpmnidpandaaLSt3
namespace Go.Proofs.Ytndlpmnidpandaa
open Go.RowKit
set_option linter.unusedVariables false
set_option linter.unusedSimpArgs false

def gO (o : Option (Int × List Int)) : Int := match o with | none => 0 | some x => x.1
def pO (o : Option (Int × List Int)) : List Int := match o with | none => [] | some x => x.2
/-- A slot as cells. -/
def slA (o : Option (Int × List Int)) (a : Option Addr) (c : Nat) : Array Value := #[.bool o.isSome, .int .u64 (gO o), .slice a (pO o).length c]
theorem slA1 (o : Option (Int × List Int)) (a : Option Addr) (c : Nat) : (slA o a c).all (·.oneCell') = true := by simp [slA, Value.oneCell']
theorem slAs (o : Option (Int × List Int)) (a : Option Addr) (c : Nat) : (slA o a c).size = 3 := rfl
/-- Its payload lies in memory that is new since there were lo blocks. -/
structure Pay (w : World) (lo : Nat) (o : Option (Int × List Int)) (a : Option Addr) (c : Nat) : Prop where
  row : Row w (.slice a (pO o).length c) (pO o)
  lo : ∀ g, (Value.slice a (pO o).length c).ownBlock = some g → lo ≤ g
theorem pay_none (w : World) (lo : Nat) : Pay w lo none none 0 := ⟨row_nil w, by simp [Value.ownBlock]⟩
theorem Pay.keep {w w' : World} {lo : Nat} {o : Option (Int × List Int)} {a : Option Addr} {c : Nat} (h : Pay w lo o a c) (hb : ∀ g, lo ≤ g → g < w.heap.size → w'.heap[g]? = w.heap[g]?) : Pay w' lo o a c :=
  ⟨h.row.of_block (fun g hg => hb g (h.lo g hg) (h.row.lt hg)), h.lo⟩
theorem Pay.mono {w : World} {lo lo' : Nat} {o : Option (Int × List Int)} {a : Option Addr} {c : Nat} (h : Pay w lo o a c) (hl : lo' ≤ lo) : Pay w lo' o a c := ⟨h.row, fun g hg => Nat.le_trans hl (h.lo g hg)⟩
theorem Pay.below {w w' : World} {lo : Nat} {o : Option (Int × List Int)} {a : Option Addr} {c : Nat} (h : Pay w lo o a c) (hb : Below w.heap.size w w') : Pay w' lo o a c := h.keep (fun g _ hl => hb.block g hl)

theorem sread_any0 (S B : Nat) (f : ByteArray) (kn : Bool) (g nx : Int) (tag : Tags) (st : St) (w : World) (hS : Sl w S B tag f kn g nx)
    (h : Wd w B tag st) (hc : st.cnt < 549755813888) (hf : st.fails st.ops = false) (h1 : 1 ≤ f.size) (h2 : f.size ≤ 30) (hby : ∀ zs, st.seen (f ++ ⟨#[46, 48]⟩) = some zs → Bytes zs)
    (o : Option (Int × List Int)) (ho : slotOf (st.seen (f ++ ⟨#[46, 48]⟩)) = o) :
    Calls Try.prog 38 #[.pointer (some ⟨S, 0, none⟩), .int .i64 0] w fun e w' => ∃ a c, e = .returned (.tuple #[.agg (slA o a c), .int .i64 0]) ∧ Pay w' w.heap.size o a c ∧ Wd w' B tag { st with ops := st.ops + 1, cnt := st.cnt + 1 } ∧ Step w w' tag tag (fun _ => True) := by
  subst ho
  cases hs : st.seen (f ++ ⟨#[46, 48]⟩) with
  | none =>
    exact (sread_none0 S B f kn g nx tag st w hS h hc hf h1 h2 hs).mono (fun e w' ⟨a, b, c⟩ => ⟨none, 0, a, pay_none _ _, b, c⟩)
  | some zs =>
    have hb := hby zs hs
    have e : slotOf (some zs) = decO (zs.take 4116) := rfl
    rw [e]
    cases hd : decO (zs.take 4116) with
    | none => exact (sread_bad0 S B f kn g nx tag st w hS h hc hf h1 h2 zs hs hb hd).mono (fun e w' ⟨a, b, c⟩ => ⟨none, 0, a, pay_none _ _, b, c⟩)
    | some x =>
      obtain ⟨gn, p⟩ := x
      exact (sread_good0 S B f kn g nx tag st w hS h hc hf h1 h2 zs hs hb gn p hd).mono (fun e w' ⟨⟨a, c, h1, h2, h3⟩, h4, h5⟩ => ⟨a, c, h1, ⟨h2, h3⟩, h4, h5⟩)

theorem sread_any1 (S B : Nat) (f : ByteArray) (kn : Bool) (g nx : Int) (tag : Tags) (st : St) (w : World) (hS : Sl w S B tag f kn g nx)
    (h : Wd w B tag st) (hc : st.cnt < 549755813888) (hf : st.fails st.ops = false) (h1 : 1 ≤ f.size) (h2 : f.size ≤ 30) (hby : ∀ zs, st.seen (f ++ ⟨#[46, 49]⟩) = some zs → Bytes zs)
    (o : Option (Int × List Int)) (ho : slotOf (st.seen (f ++ ⟨#[46, 49]⟩)) = o) :
    Calls Try.prog 38 #[.pointer (some ⟨S, 0, none⟩), .int .i64 1] w fun e w' => ∃ a c, e = .returned (.tuple #[.agg (slA o a c), .int .i64 0]) ∧ Pay w' w.heap.size o a c ∧ Wd w' B tag { st with ops := st.ops + 1, cnt := st.cnt + 1 } ∧ Step w w' tag tag (fun _ => True) := by
  subst ho
  cases hs : st.seen (f ++ ⟨#[46, 49]⟩) with
  | none =>
    exact (sread_none1 S B f kn g nx tag st w hS h hc hf h1 h2 hs).mono (fun e w' ⟨a, b, c⟩ => ⟨none, 0, a, pay_none _ _, b, c⟩)
  | some zs =>
    have hb := hby zs hs
    have e : slotOf (some zs) = decO (zs.take 4116) := rfl
    rw [e]
    cases hd : decO (zs.take 4116) with
    | none => exact (sread_bad1 S B f kn g nx tag st w hS h hc hf h1 h2 zs hs hb hd).mono (fun e w' ⟨a, b, c⟩ => ⟨none, 0, a, pay_none _ _, b, c⟩)
    | some x =>
      obtain ⟨gn, p⟩ := x
      exact (sread_good1 S B f kn g nx tag st w hS h hc hf h1 h2 zs hs hb gn p hd).mono (fun e w' ⟨⟨a, c, h1, h2, h3⟩, h4, h5⟩ => ⟨a, c, h1, ⟨h2, h3⟩, h4, h5⟩)

/-- Is the first one newer? -/
def nwO (o1 o0 : Option (Int × List Int)) : Bool := o1.isSome && (!o0.isSome || decide (gO o0 < gO o1))
theorem newer_is (o1 o0 : Option (Int × List Int)) (a1 a0 : Option Addr) (c1 c0 : Nat) (w : World) :
    Calls Try.prog 39 #[.agg (slA o1 a1 c1), .agg (slA o0 a0 c0)] w fun e w' => e = .returned (.bool (nwO o1 o0)) ∧ Below w.heap.size w w' :=
  newer_any _ _ _ _ _ _ _ _ _ _ w
theorem nwO_none (o : Option (Int × List Int)) : nwO o none = o.isSome := by simp [nwO]
/-- What is loaded of two files, and which file comes next. -/
def bestO (o0 o1 : Option (Int × List Int)) : Option (Int × List Int) := if nwO o1 o0 then o1 else o0
def bestN (o0 o1 : Option (Int × List Int)) : Int := if nwO o1 o0 then 0 else if o0.isSome then 1 else 0
/-- How far Load has come. -/
structure Ldg (w W : World) (S B : Nat) (tag : Tags) (f : ByteArray) (g nx : Int) (st : St) (b5 : Nat) (o : Option (Int × List Int)) (a : Option Addr) (c : Nat) : Prop where
  wd : Wd W B tag st
  sp : Sp w W S tag tag
  sl : Sl W S B tag f false g nx
  bx : Bx W b5 (slA o a c)
  lo : w.heap.size ≤ b5
  new : ∀ i, w.heap.size ≤ i → tag i = none
  sLt : S < w.heap.size
  pay : Pay W (b5 + 1) o a c
section
variable {w W W3 W6 W7 : World} {S B : Nat} {tag : Tags} {f : ByteArray} {g nx : Int} {st st' : St} {b5 : Nat} {o o' : Option (Int × List Int)} {a a' : Option Addr} {c c' : Nat}
theorem Ldg.read_keep (L : Ldg w W S B tag f g nx st b5 o a c) (hst : Step W W3 tag tag (fun _ => True)) (hw : Wd W3 B tag st') (hB : Below W3.heap.size W3 W6) : Ldg w W6 S B tag f g nx st' b5 o a c :=
  ⟨hw.below hB, (L.sp.trans (hst.sp S)).below hB, (L.sl.step hst).below hB, (L.bx.step hst (L.new _ L.lo)).below hB (Nat.lt_of_lt_of_le L.bx.lt hst.size), L.lo, L.new, L.sLt,
   (L.pay.keep (fun q h1 h2 => hst.block q h2 (fun t _ e => by rw [L.new q (by have := L.lo; omega)] at e; cases e))).below hB⟩
theorem Ldg.read_set (L : Ldg w W S B tag f g nx st b5 o a c) (hst : Step W W3 tag tag (fun _ => True)) (hw : Wd W3 B tag st') (hp : Pay W3 W.heap.size o' a' c') (hB : Below W3.heap.size W3 W6) (hg : W6.grownBy W7 (some b5)) (hX : Bx W7 b5 (slA o' a' c')) : Ldg w W7 S B tag f g nx st' b5 o' a' c' :=
  have h0 := L.lo
  have h1 := L.bx.lt
  have h2 := L.sLt
  ⟨(hw.below hB).own hg (L.new _ L.lo), ((L.sp.trans (hst.sp S)).below hB).own hg (.inl L.lo), ((L.sl.step hst).below hB).grown hg (by omega), hX, L.lo, L.new, L.sLt,
   ((hp.mono (by omega)).below hB).keep (fun q h3 h4 => hg.block q h4 (fun e => by cases e; omega))⟩
end
theorem grown_of_drawn {w w' : World} {r : Option Nat} {k : Nat} (h : ({ w with drawn := k } : World).grownBy w' r) : w.grownBy w' r := ⟨h.os, h.tape, h.output, h.size, h.block⟩
theorem info4 : (Try.prog.info? 4).map (·.size) = some 1 := by kernel_rfl
theorem info22 : (Try.prog.info? 22).map (·.size) = some 1 := by kernel_rfl
theorem info3 : (Try.prog.info? 3).map (·.size) = some 1 := by kernel_rfl
theorem Below.ofGrown {n : Nat} {w w' : World} {b : Nat} (hg : w.grownBy w' (some b)) (hn : n ≤ w.heap.size) (hb : n ≤ b) : Below n w w' :=
  (Below.refl n w).grown hg hn (fun k hk => by cases hk; exact hb)

set_option maxRecDepth 100000 in
set_option maxHeartbeats 4000000 in
theorem load_any (S B : Nat) (f : ByteArray) (kn : Bool) (g nx : Int) (tag : Tags) (st : St) (w : World) (hS : Sl w S B tag f kn g nx)
    (h : Wd w B tag st) (hc : st.cnt < 500000000000) (hf : st.fails st.ops = false) (hf2 : st.fails (st.ops + 1) = false) (h1 : 1 ≤ f.size) (h2 : f.size ≤ 30) (hby : ∀ s zs, st.seen s = some zs → Bytes zs)
    (o0 o1 : Option (Int × List Int)) (ho0 : slotOf (st.seen (f ++ ⟨#[46, 48]⟩)) = o0) (ho1 : slotOf (st.seen (f ++ ⟨#[46, 49]⟩)) = o1) :
    Calls Try.prog 19 #[.pointer (some ⟨S, 0, none⟩)] w fun e w' => ∃ a c, e = .returned (.tuple #[.slice a (pO (bestO o0 o1)).length c, .int .u64 (gO (bestO o0 o1)), .int .i64 (if (bestO o0 o1).isSome then 0 else 8)]) ∧
      Pay w' w.heap.size (bestO o0 o1) a c ∧ Wd w' B tag { st with ops := st.ops + 2, cnt := st.cnt + 2 } ∧ Sp w w' S tag tag ∧ Sl w' S B tag f true (gO (bestO o0 o1)) (bestN o0 o1) := by
  have hSn := hS.bare
  have hSl := hS.bx.lt
  have HR0 : Kpt (∀ W, Wd W B tag st → Sl W S B tag f false g nx → Calls Try.prog 38 #[.pointer (some ⟨S, 0, none⟩), .int .i64 0] W fun e w' => ∃ a c, e = .returned (.tuple #[.agg (slA o0 a c), .int .i64 0]) ∧ Pay w' W.heap.size o0 a c ∧ Wd w' B tag { st with ops := st.ops + 1, cnt := st.cnt + 1 } ∧ Step W w' tag tag (fun _ => True)) := ⟨fun W hW hSW =>
    sread_any0 S B f false g nx tag st W hSW hW (by omega) hf h1 h2 (fun zs h => hby _ zs h) o0 ho0⟩
  have HR1 : Kpt (∀ W, Wd W B tag { st with ops := st.ops + 1, cnt := st.cnt + 1 } → Sl W S B tag f false g nx → Calls Try.prog 38 #[.pointer (some ⟨S, 0, none⟩), .int .i64 1] W fun e w' => ∃ a c, e = .returned (.tuple #[.agg (slA o1 a c), .int .i64 0]) ∧ Pay w' W.heap.size o1 a c ∧ Wd w' B tag { st with ops := st.ops + 2, cnt := st.cnt + 2 } ∧ Step W w' tag tag (fun _ => True)) := ⟨fun W hW hSW => by
    have hx := sread_any1 S B f false g nx tag { st with ops := st.ops + 1, cnt := st.cnt + 1 } W hSW hW (by show st.cnt + 1 < _; omega) hf2 h1 h2 (fun zs h => hby _ zs h) o1 ho1
    refine hx.mono ?_
    rintro e w' ⟨a, c, h1, h2, h3, h4⟩
    refine ⟨a, c, h1, h2, ?_, h4⟩
    have e1 : st.ops + 1 + 1 = st.ops + 2 := by omega
    simp only [e1] at h3
    exact h3⟩
  obtain ⟨st1, hst1⟩ : ∃ s, s = ({ st with ops := st.ops + 1, cnt := st.cnt + 1 } : St) := ⟨_, rfl⟩
  obtain ⟨st2, hst2⟩ : ∃ s, s = ({ st with ops := st.ops + 2, cnt := st.cnt + 2 } : St) := ⟨_, rfl⟩
  rw [← hst1] at HR0 HR1
  rw [← hst2] at HR1 ⊢
  obtain ⟨ob, hob⟩ : ∃ x, x = bestO o0 o1 := ⟨_, rfl⟩
  obtain ⟨nb, hnb⟩ : ∃ x, x = bestN o0 o1 := ⟨_, rfl⟩
  rw [← hob, ← hnb]
  obtain ⟨er, her⟩ : ∃ x : Int, x = if ob.isSome then 0 else 8 := ⟨_, rfl⟩
  rw [← her]
  replace her := Kpt.mk her
  have hnew : ∀ i, w.heap.size ≤ i → tag i = none := fun i hi => wd_none h hi
  have HS := Kpt.mk hS
  have HW := Kpt.mk h
  replace hob := Kpt.mk hob
  replace hnb := Kpt.mk hnb
  replace hnew := Kpt.mk hnew
  have hz : Kpt (zeroL = slA none none 0) := ⟨rfl⟩
  clear hS h hc hf hf2 hby ho0 ho1 hst1 hst2
  go_enter Try.func19, Try.ntmps19
  go_wp2_with (first
    | (refine wpList_var rfl 86 rfl zeroL zeroLi ?_; intro b5 w2 hl5 hX5 hB5; have L0 : Kpt (Ldg w w2 S B tag f g nx st b5 none none 0) := ⟨⟨hw1.out.below hB5, hs1.out.below hB5, hS1.out.below hB5, (hz.out ▸ hX5), Nat.le_trans hs1.out.size hl5, hnew.out, hSl, pay_none _ _⟩⟩; clear hl5 hX5 hB5 hw1 hs1 hS1)
    | (refine (?_ : wpList _ _ _ (Oper.mk none (Op.store 4 _ _) _ _ _ _ :: _) _ _); go_must (refine wpList_store_cell rfl rfl S 2 (slC B f kn g nx) (.bool false) rfl rfl rfl HS.out.bx (by simp [slC]) info4 rfl ?_; intro w1 hX1 hg1; have hS1 : Kpt (Sl w1 S B tag f false g nx) := ⟨⟨hX1, hSn⟩⟩; have hw1 := Kpt.mk (HW.out.own hg1 hSn); have hs1 := Kpt.mk ((Sp.refl w S tag).own hg1 (.inr rfl)); clear hX1 hg1 HS HW)))
  go_loopw [6, 15] (fun t6 t15 W => ∃ k : Nat, k ≤ 2 ∧ t15 = .int .i64 k ∧ Kpt ((k = 0 ∧ t6 = .int .i64 0 ∧ Ldg w W S B tag f g nx st b5 none none 0) ∨ (k = 1 ∧ ∃ a c, t6 = .int .i64 (if o0.isSome then 1 else 0) ∧ Ldg w W S B tag f g nx st1 b5 o0 a c) ∨ (k = 2 ∧ ∃ a c, t6 = .int .i64 nb ∧ Ldg w W S B tag f g nx st2 b5 ob a c))) (fun _ t _ => 2 - (intOf t).toNat)
  case atStart => exact ⟨0, by omega, rfl, ⟨.inl ⟨rfl, rfl, L0.out⟩⟩⟩
  case round =>
    obtain ⟨k, hk, rfl, hst⟩ := hrel
    obtain ⟨hst⟩ := hst
    rcases hst with ⟨rfl, rfl, L⟩ | ⟨rfl, a, c, rfl, L⟩ | ⟨rfl, a, c, rfl, L⟩
    · replace L := Kpt.mk L
      clear L0 HR1
      by_cases hn : o0.isSome = true
      · have hNw : Kpt (∀ W a1 a0 c1 c0, Calls Try.prog 39 #[.agg (slA o0 a1 c1), .agg (slA none a0 c0)] W fun e w' => e = .returned (.bool true) ∧ Below W.heap.size W w') := ⟨fun W a1 a0 c1 c0 => by have := newer_is o0 none a1 a0 c1 c0 W; rw [nwO_none, hn] at this; exact this⟩
        replace hn := Kpt.mk hn
        go_wp2_with (first
          | (have hm := m4; refine wpList_store_bx rfl 86 _ _ rfl b5 (slA none none 0) (slA o0 a3 c3) rfl rfl X5.out rfl infoL (slA1 _ _ _) rfl ?_; intro w7 hX7 hg7)
          | (have hm := m3; go_at_call 39; go_must (refine (hNw.out _ a3 none c3 0).mono ?_; rintro e w6 ⟨rfl, hB6⟩; replace hB := Kpt.mk (hB.out.trans (hB6.mono hB.out.size)); replace X8 := Kpt.mk (X8.out.below hB6 X8.out.lt); replace X5 := Kpt.mk (X5.out.below hB6 X5.out.lt); clear hB6 hm m3; have m4 : Kpt True := ⟨trivial⟩))
          | (refine wpList_load_bx rfl 86 _ rfl b8 (slA o0 a3 c3) rfl X8.out _ Try.underlying86 rfl infoL ?_)
          | (refine wpList_load_bx rfl 86 _ rfl b5 (slA none none 0) rfl X5.out _ Try.underlying86 rfl infoL ?_)
          | (have hm := m2; refine wpList_store_bx rfl 86 _ _ rfl b8 zeroL (slA o0 a3 c3) rfl rfl X8.out rfl infoL (slA1 _ _ _) rfl ?_; intro w5 hX5 hg5; replace hB := Kpt.mk (hB.out.trans (Below.ofGrown hg5 hB.out.size hl8)); replace X8 := Kpt.mk hX5; replace X5 := Kpt.mk (X5.out.grown hg5 (by simp; omega)); clear hX5 hg5 hm m2; have m3 : Kpt True := ⟨trivial⟩)
          | (have hm := m1; refine wpList_var rfl 86 rfl zeroL zeroLi ?_; intro b8 w4 hl8 hX8 hB8; have hB := Kpt.mk hB8; have X8 := Kpt.mk hX8; replace X5 := Kpt.mk (X5.out.below hB8 X5.out.lt); clear hX8 hB8 hm m1; have m2 : Kpt True := ⟨trivial⟩)
          | (go_at_call 38; go_must (refine (HR0.out _ L.out.wd L.out.sl).mono ?_; rintro e w3 ⟨a3, c3, rfl, hp3, hw3, hst3⟩; have h53 : b5 < w3.heap.size := Nat.lt_of_lt_of_le L.out.bx.lt hst3.size; have X5 := Kpt.mk (L.out.bx.step hst3 (hnew.out _ L.out.lo)); replace hp3 := Kpt.mk hp3; replace hw3 := Kpt.mk hw3; replace hst3 := Kpt.mk hst3; have m1 : Kpt True := ⟨trivial⟩)))
        go_roundw
        case rel => exact ⟨1, by omega, by go_num, ⟨.inr (.inl ⟨rfl, a3, c3, by rw [if_pos hn.out], L.out.read_set hst3.out hw3.out hp3.out hB.out hg7 hX7⟩)⟩⟩
        case measure => simp [intOf]
      · replace hn : o0.isSome = false := by simpa using hn
        have hon : o0 = none := by cases o0; rfl; simp at hn
        have hNw : Kpt (∀ W a1 a0 c1 c0, Calls Try.prog 39 #[.agg (slA o0 a1 c1), .agg (slA none a0 c0)] W fun e w' => e = .returned (.bool false) ∧ Below W.heap.size W w') := ⟨fun W a1 a0 c1 c0 => by have := newer_is o0 none a1 a0 c1 c0 W; rw [nwO_none, hn] at this; exact this⟩
        replace hn := Kpt.mk hn
        replace hon := Kpt.mk hon
        go_wp2_with (first
          | (have hm := m4; refine wpList_store_bx rfl 86 _ _ rfl b5 (slA none none 0) (slA o0 a3 c3) rfl rfl X5.out rfl infoL (slA1 _ _ _) rfl ?_; intro w7 hX7 hg7)
          | (have hm := m3; go_at_call 39; go_must (refine (hNw.out _ a3 none c3 0).mono ?_; rintro e w6 ⟨rfl, hB6⟩; replace hB := Kpt.mk (hB.out.trans (hB6.mono hB.out.size)); replace X8 := Kpt.mk (X8.out.below hB6 X8.out.lt); replace X5 := Kpt.mk (X5.out.below hB6 X5.out.lt); clear hB6 hm m3; have m4 : Kpt True := ⟨trivial⟩))
          | (refine wpList_load_bx rfl 86 _ rfl b8 (slA o0 a3 c3) rfl X8.out _ Try.underlying86 rfl infoL ?_)
          | (refine wpList_load_bx rfl 86 _ rfl b5 (slA none none 0) rfl X5.out _ Try.underlying86 rfl infoL ?_)
          | (have hm := m2; refine wpList_store_bx rfl 86 _ _ rfl b8 zeroL (slA o0 a3 c3) rfl rfl X8.out rfl infoL (slA1 _ _ _) rfl ?_; intro w5 hX5 hg5; replace hB := Kpt.mk (hB.out.trans (Below.ofGrown hg5 hB.out.size hl8)); replace X8 := Kpt.mk hX5; replace X5 := Kpt.mk (X5.out.grown hg5 (by simp; omega)); clear hX5 hg5 hm m2; have m3 : Kpt True := ⟨trivial⟩)
          | (have hm := m1; refine wpList_var rfl 86 rfl zeroL zeroLi ?_; intro b8 w4 hl8 hX8 hB8; have hB := Kpt.mk hB8; have X8 := Kpt.mk hX8; replace X5 := Kpt.mk (X5.out.below hB8 X5.out.lt); clear hX8 hB8 hm m1; have m2 : Kpt True := ⟨trivial⟩)
          | (go_at_call 38; go_must (refine (HR0.out _ L.out.wd L.out.sl).mono ?_; rintro e w3 ⟨a3, c3, rfl, hp3, hw3, hst3⟩; have h53 : b5 < w3.heap.size := Nat.lt_of_lt_of_le L.out.bx.lt hst3.size; have X5 := Kpt.mk (L.out.bx.step hst3 (hnew.out _ L.out.lo)); replace hp3 := Kpt.mk hp3; replace hw3 := Kpt.mk hw3; replace hst3 := Kpt.mk hst3; have m1 : Kpt True := ⟨trivial⟩)))
        go_roundw
        case rel => exact ⟨1, by omega, by go_num, ⟨.inr (.inl ⟨rfl, none, 0, by rw [if_neg (by rw [hn.out]; simp)], by rw [hon.out]; exact L.out.read_keep hst3.out hw3.out hB.out⟩)⟩⟩
        case measure => simp [intOf]
    · replace L := Kpt.mk L
      clear L0 HR0
      obtain ⟨n0, hn0⟩ : ∃ x : Int, x = if o0.isSome then 1 else 0 := ⟨_, rfl⟩
      rw [← hn0]
      replace hn0 := Kpt.mk hn0
      by_cases hn : nwO o1 o0 = true
      · have hNw : Kpt (∀ W a1 a0 c1 c0, Calls Try.prog 39 #[.agg (slA o1 a1 c1), .agg (slA o0 a0 c0)] W fun e w' => e = .returned (.bool true) ∧ Below W.heap.size W w') := ⟨fun W a1 a0 c1 c0 => by have := newer_is o1 o0 a1 a0 c1 c0 W; rw [hn] at this; exact this⟩
        replace hn := Kpt.mk hn
        go_wp2_with (first
          | (have hm := m4; refine wpList_store_bx rfl 86 _ _ rfl b5 (slA o0 a c) (slA o1 a3 c3) rfl rfl X5.out rfl infoL (slA1 _ _ _) rfl ?_; intro w7 hX7 hg7)
          | (have hm := m3; go_at_call 39; go_must (refine (hNw.out _ a3 a c3 c).mono ?_; rintro e w6 ⟨rfl, hB6⟩; replace hB := Kpt.mk (hB.out.trans (hB6.mono hB.out.size)); replace X8 := Kpt.mk (X8.out.below hB6 X8.out.lt); replace X5 := Kpt.mk (X5.out.below hB6 X5.out.lt); clear hB6 hm m3; have m4 : Kpt True := ⟨trivial⟩))
          | (refine wpList_load_bx rfl 86 _ rfl b8 (slA o1 a3 c3) rfl X8.out _ Try.underlying86 rfl infoL ?_)
          | (refine wpList_load_bx rfl 86 _ rfl b5 (slA o0 a c) rfl X5.out _ Try.underlying86 rfl infoL ?_)
          | (have hm := m2; refine wpList_store_bx rfl 86 _ _ rfl b8 zeroL (slA o1 a3 c3) rfl rfl X8.out rfl infoL (slA1 _ _ _) rfl ?_; intro w5 hX5 hg5; replace hB := Kpt.mk (hB.out.trans (Below.ofGrown hg5 hB.out.size hl8)); replace X8 := Kpt.mk hX5; replace X5 := Kpt.mk (X5.out.grown hg5 (by simp; omega)); clear hX5 hg5 hm m2; have m3 : Kpt True := ⟨trivial⟩)
          | (have hm := m1; refine wpList_var rfl 86 rfl zeroL zeroLi ?_; intro b8 w4 hl8 hX8 hB8; have hB := Kpt.mk hB8; have X8 := Kpt.mk hX8; replace X5 := Kpt.mk (X5.out.below hB8 X5.out.lt); clear hX8 hB8 hm m1; have m2 : Kpt True := ⟨trivial⟩)
          | (go_at_call 38; go_must (refine (HR1.out _ L.out.wd L.out.sl).mono ?_; rintro e w3 ⟨a3, c3, rfl, hp3, hw3, hst3⟩; have h53 : b5 < w3.heap.size := Nat.lt_of_lt_of_le L.out.bx.lt hst3.size; have X5 := Kpt.mk (L.out.bx.step hst3 (hnew.out _ L.out.lo)); replace hp3 := Kpt.mk hp3; replace hw3 := Kpt.mk hw3; replace hst3 := Kpt.mk hst3; have m1 : Kpt True := ⟨trivial⟩)))
        go_roundw
        case rel => exact ⟨2, by omega, by go_num, ⟨.inr (.inr ⟨rfl, a3, c3, by rw [hnb.out, bestN, if_pos hn.out], by rw [hob.out, bestO, if_pos hn.out]; exact L.out.read_set hst3.out hw3.out hp3.out hB.out hg7 hX7⟩)⟩⟩
        case measure => simp [intOf]
      · replace hn : nwO o1 o0 = false := by simpa using hn
        have hNw : Kpt (∀ W a1 a0 c1 c0, Calls Try.prog 39 #[.agg (slA o1 a1 c1), .agg (slA o0 a0 c0)] W fun e w' => e = .returned (.bool false) ∧ Below W.heap.size W w') := ⟨fun W a1 a0 c1 c0 => by have := newer_is o1 o0 a1 a0 c1 c0 W; rw [hn] at this; exact this⟩
        replace hn := Kpt.mk hn
        go_wp2_with (first
          | (have hm := m4; refine wpList_store_bx rfl 86 _ _ rfl b5 (slA o0 a c) (slA o1 a3 c3) rfl rfl X5.out rfl infoL (slA1 _ _ _) rfl ?_; intro w7 hX7 hg7)
          | (have hm := m3; go_at_call 39; go_must (refine (hNw.out _ a3 a c3 c).mono ?_; rintro e w6 ⟨rfl, hB6⟩; replace hB := Kpt.mk (hB.out.trans (hB6.mono hB.out.size)); replace X8 := Kpt.mk (X8.out.below hB6 X8.out.lt); replace X5 := Kpt.mk (X5.out.below hB6 X5.out.lt); clear hB6 hm m3; have m4 : Kpt True := ⟨trivial⟩))
          | (refine wpList_load_bx rfl 86 _ rfl b8 (slA o1 a3 c3) rfl X8.out _ Try.underlying86 rfl infoL ?_)
          | (refine wpList_load_bx rfl 86 _ rfl b5 (slA o0 a c) rfl X5.out _ Try.underlying86 rfl infoL ?_)
          | (have hm := m2; refine wpList_store_bx rfl 86 _ _ rfl b8 zeroL (slA o1 a3 c3) rfl rfl X8.out rfl infoL (slA1 _ _ _) rfl ?_; intro w5 hX5 hg5; replace hB := Kpt.mk (hB.out.trans (Below.ofGrown hg5 hB.out.size hl8)); replace X8 := Kpt.mk hX5; replace X5 := Kpt.mk (X5.out.grown hg5 (by simp; omega)); clear hX5 hg5 hm m2; have m3 : Kpt True := ⟨trivial⟩)
          | (have hm := m1; refine wpList_var rfl 86 rfl zeroL zeroLi ?_; intro b8 w4 hl8 hX8 hB8; have hB := Kpt.mk hB8; have X8 := Kpt.mk hX8; replace X5 := Kpt.mk (X5.out.below hB8 X5.out.lt); clear hX8 hB8 hm m1; have m2 : Kpt True := ⟨trivial⟩)
          | (go_at_call 38; go_must (refine (HR1.out _ L.out.wd L.out.sl).mono ?_; rintro e w3 ⟨a3, c3, rfl, hp3, hw3, hst3⟩; have h53 : b5 < w3.heap.size := Nat.lt_of_lt_of_le L.out.bx.lt hst3.size; have X5 := Kpt.mk (L.out.bx.step hst3 (hnew.out _ L.out.lo)); replace hp3 := Kpt.mk hp3; replace hw3 := Kpt.mk hw3; replace hst3 := Kpt.mk hst3; have m1 : Kpt True := ⟨trivial⟩)))
        go_roundw
        case rel => exact ⟨2, by omega, by go_num, ⟨.inr (.inr ⟨rfl, a, c, by rw [hnb.out, bestN, if_neg (by rw [hn.out]; simp), ← hn0.out], by rw [hob.out, bestO, if_neg (by rw [hn.out]; simp)]; exact L.out.read_keep hst3.out hw3.out hB.out⟩)⟩⟩
        case measure => simp [intOf]
    · clear L0 HR0 HR1
      have hLb := L.bx
      have hLl := L.lo
      have hLs := L.sLt
      have hSb : b5 ≠ S := by omega
      have hC0 : wr.cell? ⟨b5, 1, none⟩ = some (.int .u64 (gO ob)) := hLb.cells 1 (by simp [slA])
      have HXS := Kpt.mk L.sl.bx
      replace L := Kpt.mk L
      obtain ⟨gb, hgb⟩ : ∃ x, x = gO ob := ⟨_, rfl⟩
      rw [← hgb] at hC0
      replace hgb := Kpt.mk hgb
      clear hLb
      go_wp2_with fail
      refine wp_region_any (by kernel_rfl) ?_
      refine wpAny_of_C (C := fun W => W.cell? ⟨b5, 1, none⟩ = some (.int .u64 gb)) _ _ _ _ ?_
      refine wpAnyC_take 0 (.pointer (some ⟨S, 0, none⟩)) rfl (by kernel_rfl) (by kernel_rfl) (by kernel_rfl) (fun _ _ _ h => h) (wanted_free rfl _) (fun W hW => by go_simp) ?_
      try simp only [Act.put, List.getElem_toArray, List.getElem_cons_succ, List.getElem_cons_zero, List.setIfInBounds_toArray, List.set_cons_succ, List.set_cons_zero]
      refine wpAnyC_take 1 (.pointer (some ⟨S, 0, none⟩)) rfl (by kernel_rfl) (by kernel_rfl) (by kernel_rfl) (fun _ _ _ h => h) (wanted_free rfl _) (fun W hW => by go_simp) ?_
      try simp only [Act.put, List.getElem_toArray, List.getElem_cons_succ, List.getElem_cons_zero, List.setIfInBounds_toArray, List.set_cons_succ, List.set_cons_zero]
      refine wpAnyC_take 2 (.pointer (some ⟨S, 0, none⟩)) rfl (by kernel_rfl) (by kernel_rfl) (by kernel_rfl) (fun _ _ _ h => h) (wanted_free rfl _) (fun W hW => by go_simp) ?_
      try simp only [Act.put, List.getElem_toArray, List.getElem_cons_succ, List.getElem_cons_zero, List.setIfInBounds_toArray, List.set_cons_succ, List.set_cons_zero]
      refine wpAnyC_take 3 (.pointer (some ⟨b5, 1, none⟩)) rfl (by kernel_rfl) (by kernel_rfl) (by kernel_rfl) (fun _ _ _ h => h) (wanted_free rfl _) (fun W hW => by go_simp) ?_
      try simp only [Act.put, List.getElem_toArray, List.getElem_cons_succ, List.getElem_cons_zero, List.setIfInBounds_toArray, List.set_cons_succ, List.set_cons_zero]
      refine wpAnyC_take 4 (.int .u64 gb) rfl (by kernel_rfl) (by kernel_rfl) (by kernel_rfl) (fun _ _ _ h => h) (wanted_free rfl _) (fun W hW => by have h := hW; go_simp) ?_
      try simp only [Act.put, List.getElem_toArray, List.getElem_cons_succ, List.getElem_cons_zero, List.setIfInBounds_toArray, List.set_cons_succ, List.set_cons_zero]
      refine wpAnyC_take 5 (.int .i64 nb) rfl (by kernel_rfl) (by kernel_rfl) (by kernel_rfl) (fun _ _ _ h => h) (wanted_free rfl _) (fun W hW => by go_simp) ?_
      try simp only [Act.put, List.getElem_toArray, List.getElem_cons_succ, List.getElem_cons_zero, List.setIfInBounds_toArray, List.set_cons_succ, List.set_cons_zero]
      refine wpAnyC_take 6 (.pointer (some ⟨S, 0, none⟩)) rfl (by kernel_rfl) (by kernel_rfl) (by kernel_rfl) (fun _ _ _ h => h) (wanted_free rfl _) (fun W hW => by go_simp) ?_
      try simp only [Act.put, List.getElem_toArray, List.getElem_cons_succ, List.getElem_cons_zero, List.setIfInBounds_toArray, List.set_cons_succ, List.set_cons_zero]
      refine wpAnyC_take 7 (.pointer (some ⟨S, 2, none⟩)) rfl (by kernel_rfl) (by kernel_rfl) (by kernel_rfl) (fun _ _ _ h => h) (wanted_free rfl _) (fun W hW => by go_simp) ?_
      try simp only [Act.put, List.getElem_toArray, List.getElem_cons_succ, List.getElem_cons_zero, List.setIfInBounds_toArray, List.set_cons_succ, List.set_cons_zero]
      refine wpAnyC_one 8 (hC0) rfl (by kernel_rfl) (wanted_free rfl _) (fun KA hKA => ?_)
      refine wp_store_cell rfl (b := S) (j := 2) (v := .bool true) rfl rfl rfl (bx_drawn HXS.out _) (by simp [slC]) info4 (fun y1 hXy1 hgy1 => ?_)
      replace hgy1 := grown_of_drawn hgy1
      refine hKA _ _ ?_
      clear hKA KA
      try simp only [Act.put, List.getElem_toArray, List.getElem_cons_succ, List.getElem_cons_zero, List.setIfInBounds_toArray, List.set_cons_succ, List.set_cons_zero]
      have hC1 : y1.cell? ⟨b5, 1, none⟩ = some (.int .u64 gb) := (World.cell?_of_block (a := ⟨b5, 1, none⟩) (hgy1.block b5 L.out.bx.lt (by simp; omega))).trans hC0
      refine wpAnyC_take 9 (.pointer (some ⟨S, 0, none⟩)) rfl (by kernel_rfl) (by kernel_rfl) (by kernel_rfl) (fun _ _ _ h => h) (wanted_free rfl _) (fun W hW => by go_simp) ?_
      try simp only [Act.put, List.getElem_toArray, List.getElem_cons_succ, List.getElem_cons_zero, List.setIfInBounds_toArray, List.set_cons_succ, List.set_cons_zero]
      refine wpAnyC_take 10 (.pointer (some ⟨S, 3, none⟩)) rfl (by kernel_rfl) (by kernel_rfl) (by kernel_rfl) (fun _ _ _ h => h) (wanted_free rfl _) (fun W hW => by go_simp) ?_
      try simp only [Act.put, List.getElem_toArray, List.getElem_cons_succ, List.getElem_cons_zero, List.setIfInBounds_toArray, List.set_cons_succ, List.set_cons_zero]
      refine wpAnyC_one 11 (hC1) rfl (by kernel_rfl) (wanted_free rfl _) (fun KA hKA => ?_)
      refine wp_store_cell rfl (b := S) (j := 3) (v := .int .u64 gb) rfl rfl rfl hXy1 (by simp [slC]) info22 (fun y2 hXy2 hgy2 => ?_)
      refine hKA _ _ ?_
      clear hKA KA
      try simp only [Act.put, List.getElem_toArray, List.getElem_cons_succ, List.getElem_cons_zero, List.setIfInBounds_toArray, List.set_cons_succ, List.set_cons_zero]
      have hg2 := grown_twice hgy1 hgy2
      have hC2 : y2.cell? ⟨b5, 1, none⟩ = some (.int .u64 gb) := (World.cell?_of_block (a := ⟨b5, 1, none⟩) (hg2.block b5 L.out.bx.lt (by simp; omega))).trans hC0
      refine wpAnyC_take 12 (.pointer (some ⟨S, 0, none⟩)) rfl (by kernel_rfl) (by kernel_rfl) (by kernel_rfl) (fun _ _ _ h => h) (wanted_free rfl _) (fun W hW => by go_simp) ?_
      try simp only [Act.put, List.getElem_toArray, List.getElem_cons_succ, List.getElem_cons_zero, List.setIfInBounds_toArray, List.set_cons_succ, List.set_cons_zero]
      refine wpAnyC_take 13 (.pointer (some ⟨S, 4, none⟩)) rfl (by kernel_rfl) (by kernel_rfl) (by kernel_rfl) (fun _ _ _ h => h) (wanted_free rfl _) (fun W hW => by go_simp) ?_
      try simp only [Act.put, List.getElem_toArray, List.getElem_cons_succ, List.getElem_cons_zero, List.setIfInBounds_toArray, List.set_cons_succ, List.set_cons_zero]
      refine wpAnyC_one 14 (hC2) rfl (by kernel_rfl) (wanted_free rfl _) (fun KA hKA => ?_)
      refine wp_store_cell rfl (b := S) (j := 4) (v := .int .i64 nb) rfl rfl rfl hXy2 (by simp [slC]) info3 (fun y3 hXy3 hgy3 => ?_)
      refine hKA _ _ ?_
      clear hKA KA
      try simp only [Act.put, List.getElem_toArray, List.getElem_cons_succ, List.getElem_cons_zero, List.setIfInBounds_toArray, List.set_cons_succ, List.set_cons_zero]
      have hg3 := grown_twice hg2 hgy3
      have hC3 : y3.cell? ⟨b5, 1, none⟩ = some (.int .u64 gb) := (World.cell?_of_block (a := ⟨b5, 1, none⟩) (hg3.block b5 L.out.bx.lt (by simp; omega))).trans hC0
      refine wpAnyC_done (hC3) (by kernel_rfl) ?_
      have hSf : Kpt (Sl y3 S B tag f true gb nb) := ⟨⟨hXy3, hSn⟩⟩
      have hWf := Kpt.mk (L.out.wd.own hg3 hSn)
      have hPf := Kpt.mk (L.out.sp.own hg3 (.inr rfl))
      have hYf : Kpt (Pay y3 (b5 + 1) ob a c) := ⟨L.out.pay.keep (fun q h3 h4 => hg3.block q h4 (by simp; omega))⟩
      have hXf := Kpt.mk (L.out.bx.grown hg3 (by simp; omega))
      clear hXy1 hXy2 hXy3 hgy1 hgy2 hgy3 hg2 hC0 hC1 hC2 hC3 HXS hSb hLl hLs
      cases hbs : ob.isSome with
      | false =>
        have hX0 : y3.cell? ⟨b5, 0, none⟩ = some (.bool false) := by rw [← hbs]; exact hXf.out.cells 0 (by simp [slA])
        have hon : ob = none := by cases ob; rfl; simp at hbs
        replace hbs := Kpt.mk hbs
        replace hon := Kpt.mk hon
        go_wp2_with fail
        go_ret3
        refine ⟨none, 0, ?_, ?_, hWf.out, hPf.out, hgb.out ▸ hSf.out⟩
        · rw [her.out, hon.out]; rfl
        · rw [hon.out]; exact pay_none _ _
      | true =>
        have hX0 : y3.cell? ⟨b5, 0, none⟩ = some (.bool true) := by rw [← hbs]; exact hXf.out.cells 0 (by simp [slA])
        have hX1 : ∀ m, (y3.drewN m).cell? ⟨b5, 1, none⟩ = some (.int .u64 gb) := fun m => by rw [hgb.out]; exact hXf.out.cells 1 (by simp [slA])
        have hX2 : ∀ m, (y3.drewN m).cell? ⟨b5, 2, none⟩ = some (.slice a (pO ob).length c) := fun m => hXf.out.cells 2 (by simp [slA])
        replace hbs := Kpt.mk hbs
        go_wp2_with fail
        go_quiet (fail)
        go_wp2
        go_ret3
        exact ⟨a, c, (by rw [her.out, if_pos hbs.out, ← hgb.out]; rfl), ⟨hYf.out.row, (hYf.out.mono (lo' := w.heap.size) (by have := L.out.lo; omega)).lo⟩, hWf.out.below (below_drewN (Below.refl _ _) _), hPf.out.below (below_drewN (Below.refl _ _) _), (hgb.out ▸ hSf.out).below (below_drewN (Below.refl _ _) _)⟩
end Go.Proofs.Ytndlpmnidpandaa
