/-
  sess: a write between its data.
-/
import Derived.Test.YtdplndlmdhpfaaaEWda
namespace Go.Proofs.Ytdplndlmdhpfaaa
open Go.RowKit
set_option linter.unusedVariables false
set_option linter.unusedSimpArgs false

/-- What a session keeps. -/
structure SF (s : Se) (g : Nat) : Prop where
  ov : s.over = false
  bu : s.bu = (g : Int)
  nx : 0 ≤ s.next ∧ s.next < 4294967296
/-- What a write keeps. -/
structure RF (r : Wr) (s : Se) (n en i : Nat) : Prop where
  tg : r.t.tg = 7
  wn : r.t.wn = (n : Int)
  en : r.en = (en : Int)
  tag : r.tag = s.asked
  tm : 0 ≤ r.tm ∧ r.tm ≤ (i : Int) + 1
/-- Data have come, and more were asked for. -/
structure Goes (base : Nat) (W : World) (S : Nat) (O : List (Array Value)) (D : List Int) (n g i en : Nat) (tag : Int) : Prop where
  ex : ∃ s r, Wst base W S s O r (D.take i) ∧ SF s g ∧ RF r s n en i ∧ r.tag = tag
/-- Data are asked for. -/
structure Asks (base : Nat) (W : World) (S : Nat) (O : List (Array Value)) (D : List Int) (n g i zz : Nat) (v : Value) : Prop where
  lt : i < n
  z : zz = min g (n - i)
  ex : ∃ b c q, v = .slice (some ⟨b, 0, none⟩) 1 c ∧ 1 ≤ c ∧ c ≤ 9223372036854775807 ∧ Bx W b (Pd.v q) ∧ q.op = 49 ∧ q.w5 = (i : Int) ∧ q.w6 = (zz : Int) ∧ Goes base W S O D n g i (i + zz) q.w0
/-- All data have come. -/
structure Ends (W : World) (S : Nat) (O : List (Array Value)) (D : List Int) (v u : Value) : Prop where
  nil : ∃ va vc, v = .slice va 0 vc
  ex : ∃ tb tc oa ol oc s', u = .slice (some ⟨tb, 0, none⟩) 1 tc ∧ 1 ≤ tc ∧ tc ≤ 9223372036854775807 ∧ W.cell? ⟨tb, 0, none⟩ = some (.int .u32 7) ∧ W.cell? ⟨tb, 4, none⟩ = some (.slice oa ol oc) ∧ RdAt W (.slice oa ol oc) D ∧ Ss W S s' [] O []
structure Nx (base : Nat) (W : World) (S : Nat) (O : List (Array Value)) (D : List Int) (n g i en : Nat) (tag : Int) (v u : Value) : Prop where
  or : (i < en ∧ v = .slice none 0 0 ∧ (∃ ua uc, u = .slice ua 0 uc) ∧ Goes base W S O D n g i en tag) ∨ (i = en ∧ u = .slice none 0 0 ∧ ∃ zz, Asks base W S O D n g i zz v) ∨ (i = en ∧ i = n ∧ Ends W S O D v u)
theorem Goes.below {base : Nat} {W W' : World} {S : Nat} {O : List (Array Value)} {D : List Int} {n g i en : Nat} {tag : Int} (h : Goes base W S O D n g i en tag) (hb : Below W.heap.size W W') : Goes base W' S O D n g i en tag := by
  obtain ⟨s, r, h1, h2⟩ := h.ex
  exact ⟨s, r, h1.below hb, h2⟩

theorem rd_mid {W : World} {b off n c : Nat} {ds : List Int} (h : RdAt W (.slice (some ⟨b, off, none⟩) n c) ds) (i m : Nat) (hm : 0 < m) (hi : i + m ≤ n) : RdAt W (.slice (some ⟨b, off + i, none⟩) m (c - i)) ((ds.drop i).take m) := by
  obtain ⟨a, c', e, _, hc, hh⟩ := h
  simp only [Value.slice.injEq] at e
  obtain ⟨rfl, rfl, rfl⟩ := e
  have hl : ((ds.drop i).take m).length = m := by simp; omega
  refine ⟨_, c - i, by rw [hl], fun e => (by cases e), by rw [hl]; omega, ?_⟩
  rcases hh with hh | ⟨b', off', e', hh⟩
  · omega
  · simp only [Option.some.injEq, Addr.mk.injEq, and_true] at e'
    obtain ⟨rfl, rfl⟩ := e'
    refine .inr ⟨b, off + i, rfl, fun j u hj => ?_⟩
    rw [Nat.add_assoc]
    refine hh _ _ ?_
    rw [← hj]
    have hjl : j < m := by have := (List.getElem?_eq_some_iff.1 hj).1; rw [cels_length, hl] at this; exact this
    simp only [cels, List.getElem?_map, List.getElem?_take, List.getElem?_drop, if_pos hjl]

theorem in_step (base S : Nat) (O : List (Array Value)) (D : List Int) (n g i m en : Nat) (tag : Int) (b0 o0 dc : Nat) (p : Pd) (w : World) (h : Goes base w S O D n g i en tag) (hbw : base ≤ w.heap.size) (hdv : RdAt w (.slice (some ⟨b0, o0, none⟩) m dc) ((D.drop i).take m)) (hb0 : b0 < base) (hm : 0 < m) (him : i + m ≤ en) (hen : en ≤ n) (hn : n ≤ 3000) (hD : D.length = n) (hg : 0 < g ∧ g ≤ 1000)
    (hop : p.op = 5) (htg : p.tg = 7) (hw0 : p.w0 = tag) (hw5 : p.w5 = (i : Int)) (hda : p.da = .slice (some ⟨b0, o0, none⟩) m dc) (hfl : i + m < en → p.fl = 0) :
    Calls Try.prog 11 #[.pointer (some ⟨S, 0, none⟩), .agg p.v] w fun e w' => ∃ v u, e = .returned (.tuple #[v, u]) ∧ Below base w w' ∧ Nx base w' S O D n g (i + m) en tag v u := by
  obtain ⟨s, r, h1, h2, h3, h4⟩ := h.ex
  have hli : (D.take i).length = i := by rw [List.length_take]; omega
  have hlm : ((D.drop i).take m).length = m := by rw [List.length_take, List.length_drop]; omega
  have hjn : D.take i ++ (D.drop i).take m = D.take (i + m) := (List.take_add ..).symm
  have e1 := h3.en
  have e2 := h3.wn
  refine in_dat base S s [] O [r.v] p (fun W v u => Nx base W S O D n g (i + m) en tag v u) w h1.ss hbw hop h2.ov (fun W hb => ?_)
  refine (data_some base S s O r (D.take i) ((D.drop i).take m) p (some ⟨b0, o0, none⟩) i m (i + m) dc (min (max s.bu 1) (r.t.wn - (i + m : Nat))) W (h1.below hb) (Nat.le_trans hbw hb.size) (by rw [h3.tg, htg]) (by rw [h4, hw0]) hli hw5 hda (by rw [hda]; exact hdv.bel hb) hlm hm (fun q hq => by rw [hda] at hq; injection hq with hq; rw [← hq]; exact hb0) rfl (by omega) (by omega) (by omega) (by have := h3.tm; omega) h2.nx (fun hx => hfl (by omega)) rfl (by rw [h2.bu]; omega)).mono ?_
  rintro e w' ⟨v, u, rfl, hbl, hor⟩
  refine ⟨v, u, rfl, hbl, ?_⟩
  rw [hjn] at hor
  rcases hor with ⟨f1, rfl, s', o', b, f2, f3, rfl, f4⟩ | ⟨f1, f2, rfl, o', b, f3, rfl, f4⟩ | ⟨f1, rfl, rfl, o', f2⟩
  · have hn' : i + m = n := by omega
    refine ⟨.inr (.inr ⟨by omega, hn', ⟨none, 0, rfl⟩, ?_⟩)⟩
    rw [hn', List.take_of_length_le (by omega)] at f3
    obtain ⟨oa, oc, ho⟩ := rd_len f3
    have c0 := f4.cells 0 (by simp [Tk.v])
    have c4 := f4.cells 4 (by simp [Tk.v])
    simp [Tk.v, Wr.more] at c0 c4
    rw [ho] at c4 f3
    exact ⟨b, 1, oa, D.length, oc, s', rfl, Nat.le_refl _, by decide, by rw [c0, h3.tg], c4, f3, f2⟩
  · have hz : (min (max s.bu 1) (r.t.wn - (i + m : Nat))) = ((min g (n - (i + m)) : Nat) : Int) := by rw [h2.bu]; omega
    rw [hz] at f3 f4
    refine ⟨.inr (.inl ⟨by omega, rfl, min g (n - (i + m)), by omega, rfl, b, 1, _, rfl, Nat.le_refl _, by decide, f4, rfl, rfl, rfl, s.ask, _, f3, ⟨h2.ov, h2.bu, h2.nx⟩, ⟨h3.tg, h3.wn, ?_, rfl, ?_⟩, rfl⟩)⟩
    · show ((i + m : Nat) : Int) + ((min g (n - (i + m)) : Nat) : Int) = _
      omega
    · show 0 ≤ r.tm + 1 ∧ r.tm + 1 ≤ ((i + m : Nat) : Int) + 1
      have := h3.tm
      omega
  · refine ⟨.inl ⟨by omega, rfl, ⟨none, 0, rfl⟩, s, r.more o', f2, h2, ⟨h3.tg, h3.wn, h3.en, h3.tag, ?_⟩, h4⟩⟩
    show 0 ≤ r.tm ∧ r.tm ≤ ((i + m : Nat) : Int) + 1
    have := h3.tm
    omega
end Go.Proofs.Ytdplndlmdhpfaaa
