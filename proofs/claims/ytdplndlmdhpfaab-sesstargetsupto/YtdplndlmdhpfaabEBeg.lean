/-
  sess: begin, where the task is told at once.
-/
import Derived.Test.YtdplndlmdhpfaabEAlw
import Derived.Deep.DeepCutAuto
namespace Go.Proofs.Ytdplndlmdhpfaab
open Go.RowKit
set_option linter.unusedVariables false
set_option linter.unusedSimpArgs false

/-- A task. -/
structure Tk where
  (tg lu at_ : Int) (cdb out : Value) (wn fn rf : Int)
def Tk.v (t : Tk) : Array Value := #[.int .u32 t.tg, .int .u8 t.lu, .int .u8 t.at_, t.cdb, t.out, .int .i64 t.wn, .int .u8 t.fn, .int .u32 t.rf]
theorem Tk.one {t : Tk} {a b : Option Addr} {n c m d : Nat} (h : t.cdb = .slice a n c) (h2 : t.out = .slice b m d) : t.v.size = 8 ∧ t.v.all (·.oneCell') = true := ⟨rfl, by simp [Tk.v, h, h2, Value.oneCell']⟩
def zT : Tk := { tg := 0, lu := 0, at_ := 0, cdb := .slice none 0 0, out := .slice none 0 0, wn := 0, fn := 0, rf := 0 }
theorem zTask : (Try.prog.info? 60).map (fun i => i.zero) = some (some (.agg zT.v)) := by kernel_rfl
theorem infoTask : (Try.prog.info? 60).map (fun i => (i.zero, i.size, i.bytes)) = some (some (.agg zT.v), 8, 72) := by kernel_rfl
theorem infoCmd : (Try.prog.info? 74).map (fun i => (i.zero, i.size, i.bytes)) = some (some (.agg (Cm.v ⟨0, 0, false, 0⟩)), 4, 16) := by kernel_rfl
theorem wpAnyC_world {P : Program} {md : Region.Mode} {ops : Array Oper} {C : World → Prop} {Q : Exit → Act → World → Prop} {fuel : Nat} {listed : Array Bool} {a : Act} {w W : World} (h : W = w) (k : wpAnyC P md ops C Q fuel listed a W) : wpAnyC P md ops C Q fuel listed a w := h ▸ k
/-- What a command's bytes are. -/
def Pd.cdb (p : Pd) : List Int := [p.w3, p.w4, p.w5, p.w6].flatMap be4
def Pd.u32 (p : Pd) : Prop := ∀ x ∈ [p.w0, p.w3, p.w4, p.w5, p.w6], 0 ≤ x ∧ x < 4294967296
def Pd.cm (p : Pd) : Cm := ⟨p.tg, p.lu, decide (p.fl = 193), p.w0⟩
def Pd.tk (p : Pd) (c o : Value) : Tk := { tg := p.tg, lu := p.lu, at_ := 0, cdb := c, out := o, wn := p.w0, fn := 0, rf := 0 }

set_option maxRecDepth 100000 in
set_option maxHeartbeats 8000000 in
theorem begin_rd (S : Nat) (s : Se) (H : List (Array Value)) (O : List Cm) (T : List (Array Value)) (p : Pd) (a : Option Addr) (c : Nat) (w : World) (h : Ss w S s H (O.map Cm.v) T) (hl : O.length ≤ 5000) (hda : p.da = .slice a 0 c) (hD : Dt (s.X S) w p.da []) (hds : s.dis = false) (hfree : fidx (isC p.tg) (O.map Cm.v) 0 = -1) (hfl : p.fl = 193) (hu : p.u32) :
    Calls Try.prog 43 #[.pointer (some ⟨S, 0, none⟩), .agg p.v] w fun e w' => ∃ v v' cv ov, e = .returned (.tuple #[.slice none 0 0, v]) ∧ Ss w' S { s with opn := v' } H ((O ++ [p.cm]).map Cm.v) T ∧ St S w w' s { s with opn := v' } ∧ Ou w w' S { s with opn := v' } v 60 (p.tk cv ov).v ∧ Dt (({ s with opn := v' } : Se).X S) w' cv p.cdb ∧ Dt (({ s with opn := v' } : Se).X S) w' ov [] := by
  have hA : Kpt (∀ W, Ss W S s H (O.map Cm.v) T → Calls Try.prog 59 #[.pointer (some ⟨S, 0, none⟩), .agg p.v] W fun e w' => e = .returned (.tuple #[.int .u8 0, .bool true]) ∧ Below W.heap.size W w') := ⟨fun W h => allows_ok S s H O T p a c W h (by omega) hda hds hfree (.inl hfl)⟩
  have hC : Kpt (∀ W L, Lo w W S s s H (O.map Cm.v) T L → Calls Try.prog 26 #[p.da] W fun e w' => ∃ v', e = .returned v' ∧ Row w' v' [] ∧ W.grownBy w' none ∧ ∀ g, v'.ownBlock = some g → W.heap.size ≤ g) := ⟨fun W L k => clone_any W p.da [] (hD.st k.st).rd (by simp)⟩
  have hB : Kpt (∀ W P, Bx W P p.v → Calls Try.prog 61 #[.slice (some ⟨P, 9, none⟩) 4 4] W fun e w' => ∃ v, e = .returned v ∧ Row w' v p.cdb ∧ Below W.heap.size W w' ∧ ∀ g, v.ownBlock = some g → W.heap.size ≤ g) := ⟨fun W P hX => cmdBytes_any P [p.w3, p.w4, p.w5, p.w6] rfl W hX.lt (fun j x hj => by
    have hj4 : j < 4 := (List.getElem?_eq_some_iff.1 hj).1
    rw [hX.cells (9 + j) (by simp [Pd.v]; omega)]
    have : j = 0 ∨ j = 1 ∨ j = 2 ∨ j = 3 := by omega
    rcases this with rfl | rfl | rfl | rfl <;> simp at hj <;> subst hj <;> rfl) (fun x hx => hu x (by simp at hx ⊢; rcases hx with h | h | h | h <;> simp [h]))⟩
  have hT : Kpt (∀ W : World, Calls Try.prog 60 #[.int .u8 p.fl] W fun e w' => e = .returned (.int .u8 0) ∧ w' = W) := ⟨fun W => attributeOf_any p.fl W (.inl hfl)⟩
  have k0 := Kpt.mk (Lo.start h)
  have hw0 := hu p.w0 (by simp)
  have hflK := Kpt.mk hfl
  clear h hD hda hds hfree hu hfl
  go_enter Try.func43, Try.ntmps43
  go_upto_region 4 with (first
    | (go_at_call 59; go_must (refine (hA.out _ k1.out.ss).mono ?_; rintro e w2 ⟨rfl, hb2⟩; have k2 := Kpt.mk (k1.out.below hb2); clear hb2))
    | (refine (?_ : wpList _ _ _ (Oper.mk _ (Op.load 42 _) _ _ _ _ :: _) _ _); go_must (refine wpList_load_bx rfl 42 _ rfl P p.v rfl k1.out.b0 _ Try.underlying42 rfl szPdu ?_; have hm := hw0))
    | (refine (?_ : wpList _ _ _ (Oper.mk _ (Op.box 42 _) _ _ _ _ :: _) _ _); go_must (refine wpList_box rfl 42 _ rfl p.v rfl ?_; intro P w1 hP hB hb _; have k1 := Kpt.mk (k0.out.add hb hP hB); clear hb hP hB)))
  go_cut [8] from 23 to 40 (fun t8 wc => ∃ (R : Nat) (cv ov : Value), t8 = .pointer (some ⟨R, 0, none⟩) ∧ Kpt (Lo w wc S s s H (O.map Cm.v) T [(R, (p.tk cv ov).v), (P, p.v)]) ∧ Kpt (Dt (s.X S) wc cv p.cdb) ∧ Kpt (Dt (s.X S) wc ov []))
  case first =>
    refine wp_region_any (by kernel_rfl) ?_
    refine wpAny_of_C (C := fun W => Bx W P p.v) _ _ _ _ ?_
    refine wpAnyC_take 0 (.pointer (some ⟨P, 5, none⟩)) rfl (by kernel_rfl) (by kernel_rfl) (by kernel_rfl) (fun _ _ _ h => h) (wanted_free rfl _) (fun W hW => by go_simp) ?_
    try simp only [Act.put, List.getElem_toArray, List.getElem_cons_succ, List.getElem_cons_zero, List.setIfInBounds_toArray, List.set_cons_succ, List.set_cons_zero]
    refine wpAnyC_take 1 (.int .u32 p.tg) rfl (by kernel_rfl) (by kernel_rfl) (by kernel_rfl) (fun _ _ _ h => h) (wanted_free rfl _) (fun W hW => by have c := hW.cells 5 (by simp [Pd.v]); simp [Pd.v] at c; go_simp) ?_
    try simp only [Act.put, List.getElem_toArray, List.getElem_cons_succ, List.getElem_cons_zero, List.setIfInBounds_toArray, List.set_cons_succ, List.set_cons_zero]
    refine wpAnyC_take 2 (.pointer (some ⟨P, 4, none⟩)) rfl (by kernel_rfl) (by kernel_rfl) (by kernel_rfl) (fun _ _ _ h => h) (wanted_free rfl _) (fun W hW => by go_simp) ?_
    try simp only [Act.put, List.getElem_toArray, List.getElem_cons_succ, List.getElem_cons_zero, List.setIfInBounds_toArray, List.set_cons_succ, List.set_cons_zero]
    refine wpAnyC_take 3 (.int .u8 p.lu) rfl (by kernel_rfl) (by kernel_rfl) (by kernel_rfl) (fun _ _ _ h => h) (wanted_free rfl _) (fun W hW => by have c := hW.cells 4 (by simp [Pd.v]); simp [Pd.v] at c; go_simp) ?_
    try simp only [Act.put, List.getElem_toArray, List.getElem_cons_succ, List.getElem_cons_zero, List.setIfInBounds_toArray, List.set_cons_succ, List.set_cons_zero]
    refine wpAnyC_take 4 (.pointer (some ⟨P, 1, none⟩)) rfl (by kernel_rfl) (by kernel_rfl) (by kernel_rfl) (fun _ _ _ h => h) (wanted_free rfl _) (fun W hW => by go_simp) ?_
    try simp only [Act.put, List.getElem_toArray, List.getElem_cons_succ, List.getElem_cons_zero, List.setIfInBounds_toArray, List.set_cons_succ, List.set_cons_zero]
    refine wpAnyC_take 5 (.int .u8 p.fl) rfl (by kernel_rfl) (by kernel_rfl) (by kernel_rfl) (fun _ _ _ h => h) (wanted_free rfl _) (fun W hW => by have c := hW.cells 1 (by simp [Pd.v]); simp [Pd.v] at c; go_simp) ?_
    try simp only [Act.put, List.getElem_toArray, List.getElem_cons_succ, List.getElem_cons_zero, List.setIfInBounds_toArray, List.set_cons_succ, List.set_cons_zero]
    refine wpAnyC_take 7 (.pointer (some ⟨P, 6, none⟩)) rfl (by kernel_rfl) (by kernel_rfl) (by kernel_rfl) (fun _ _ _ h => h) (wanted_free rfl _) (fun W hW => by go_simp) ?_
    try simp only [Act.put, List.getElem_toArray, List.getElem_cons_succ, List.getElem_cons_zero, List.setIfInBounds_toArray, List.set_cons_succ, List.set_cons_zero]
    refine wpAnyC_take 8 (.slice (some ⟨P, 9, none⟩) 4 4) rfl (by kernel_rfl) (by kernel_rfl) (by kernel_rfl) (fun _ _ _ h => h) (wanted_free rfl _) (fun W hW => by go_simp) ?_
    try simp only [Act.put, List.getElem_toArray, List.getElem_cons_succ, List.getElem_cons_zero, List.setIfInBounds_toArray, List.set_cons_succ, List.set_cons_zero]
    refine wpAnyC_take 10 (.pointer (some ⟨P, 13, none⟩)) rfl (by kernel_rfl) (by kernel_rfl) (by kernel_rfl) (fun _ _ _ h => h) (wanted_free rfl _) (fun W hW => by go_simp) ?_
    try simp only [Act.put, List.getElem_toArray, List.getElem_cons_succ, List.getElem_cons_zero, List.setIfInBounds_toArray, List.set_cons_succ, List.set_cons_zero]
    refine wpAnyC_take 11 (p.da) rfl (by kernel_rfl) (by kernel_rfl) (by kernel_rfl) (fun _ _ _ h => h) (wanted_free rfl _) (fun W hW => by have c := hW.cells 13 (by simp [Pd.v]); simp [Pd.v] at c; go_simp) ?_
    try simp only [Act.put, List.getElem_toArray, List.getElem_cons_succ, List.getElem_cons_zero, List.setIfInBounds_toArray, List.set_cons_succ, List.set_cons_zero]
    refine wpAnyC_take 13 (.pointer (some ⟨P, 6, none⟩)) rfl (by kernel_rfl) (by kernel_rfl) (by kernel_rfl) (fun _ _ _ h => h) (wanted_free rfl _) (fun W hW => by go_simp) ?_
    try simp only [Act.put, List.getElem_toArray, List.getElem_cons_succ, List.getElem_cons_zero, List.setIfInBounds_toArray, List.set_cons_succ, List.set_cons_zero]
    refine wpAnyC_take 14 (.pointer (some ⟨P, 6, none⟩)) rfl (by kernel_rfl) (by kernel_rfl) (by kernel_rfl) (fun _ _ _ h => h) (wanted_free rfl _) (fun W hW => by go_simp) ?_
    try simp only [Act.put, List.getElem_toArray, List.getElem_cons_succ, List.getElem_cons_zero, List.setIfInBounds_toArray, List.set_cons_succ, List.set_cons_zero]
    refine wpAnyC_take 15 (.int .u32 p.w0) rfl (by kernel_rfl) (by kernel_rfl) (by kernel_rfl) (fun _ _ _ h => h) (wanted_free rfl _) (fun W hW => by have c := hW.cells 6 (by simp [Pd.v]); simp [Pd.v] at c; go_simp) ?_
    try simp only [Act.put, List.getElem_toArray, List.getElem_cons_succ, List.getElem_cons_zero, List.setIfInBounds_toArray, List.set_cons_succ, List.set_cons_zero]
    refine wpAnyC_take 16 (.int .i64 p.w0) rfl (by kernel_rfl) (by kernel_rfl) (by kernel_rfl) (fun _ _ _ h => h) (wanted_free rfl _) (fun W hW => by go_simp; first | omega | (rw [IntKind.wrap_i64]; omega)) ?_
    try simp only [Act.put, List.getElem_toArray, List.getElem_cons_succ, List.getElem_cons_zero, List.setIfInBounds_toArray, List.set_cons_succ, List.set_cons_zero]
    have hz := zTask
    have K := k2
    replace K := Kpt.mk K.out.drew
    obtain ⟨W, hW⟩ : ∃ W, W = w2.drew := ⟨_, rfl⟩
    rw [← hW] at K
    refine wpAnyC_world hW ?_
    clear hW
    refine wpAnyC_two 6 18 (K.out.b0) rfl rfl (by kernel_rfl) (wanted_free rfl _) (wanted_free rfl _) (fun KA hKA => ?_) (fun KA hKA => ?_)
    · go_simp
      refine (hT.out _).mono ?_
      intro e wx hh
      rw [hh.1, hh.2]
      clear hh
      refine hKA _ _ ?_
      clear hKA KA
      try simp only [Act.put, List.getElem_toArray, List.getElem_cons_succ, List.getElem_cons_zero, List.setIfInBounds_toArray, List.set_cons_succ, List.set_cons_zero]
      refine wpAnyC_two 9 18 (K.out.b0) rfl rfl (by kernel_rfl) (wanted_free rfl _) (wanted_free rfl _) (fun KA hKA => ?_) (fun KA hKA => ?_)
      · go_simp
        refine (hB.out _ _ K.out.b0).mono ?_
        rintro e W2 ⟨v', rfl, hr2, hb2, hn2⟩
        obtain ⟨ca, cc, hv'⟩ := rd_len hr2.rd
        obtain ⟨cn, hcn⟩ : ∃ n, n = p.cdb.length := ⟨_, rfl⟩
        rw [← hcn] at hv'
        subst hv'
        have D1 : Kpt (Dt (s.X S) W2 (.slice ca cn cc) p.cdb) := ⟨Row.dt K.out.ss hr2 hn2⟩
        replace K := Kpt.mk (K.out.below hb2)
        clear hr2 hb2 hn2 hcn
        refine hKA _ _ ?_
        clear hKA KA
        try simp only [Act.put, List.getElem_toArray, List.getElem_cons_succ, List.getElem_cons_zero, List.setIfInBounds_toArray, List.set_cons_succ, List.set_cons_zero]
        refine wpAnyC_two 12 18 (K.out.b0) rfl rfl (by kernel_rfl) (wanted_free rfl _) (wanted_free rfl _) (fun KA hKA => ?_) (fun KA hKA => ?_)
        · go_simp
          refine (hC.out _ _ K.out).mono ?_
          rintro e W3 ⟨v', rfl, hr2, hg2, hn2⟩
          obtain ⟨oa, oc, hv'⟩ := rd_len hr2.rd
          simp only [List.length_nil] at hv'
          subst hv'
          have D2 : Kpt (Dt (s.X S) W3 (.slice oa 0 oc) []) := ⟨Row.dt K.out.ss hr2 hn2⟩
          replace D1 := Kpt.mk (D1.out.fr (Fr.of_below (below_none hg2)) (fun b h => .inl h))
          replace K := Kpt.mk (K.out.below (below_none hg2))
          clear hr2 hg2 hn2
          refine hKA _ _ ?_
          clear hKA KA
          try simp only [Act.put, List.getElem_toArray, List.getElem_cons_succ, List.getElem_cons_zero, List.setIfInBounds_toArray, List.set_cons_succ, List.set_cons_zero]
          refine wpAnyC_take 17 (.agg (p.tk (.slice ca cn cc) (.slice oa 0 oc)).v) rfl (by kernel_rfl) (by kernel_rfl) (by kernel_rfl) (fun _ _ _ h => h) (wanted_free rfl _) (fun W hW => by unfold Tk.v Pd.tk; go_simp) ?_
          try simp only [Act.put, List.getElem_toArray, List.getElem_cons_succ, List.getElem_cons_zero, List.setIfInBounds_toArray, List.set_cons_succ, List.set_cons_zero]
          refine wpAnyC_one 18 (K.out.b0) rfl (by kernel_rfl) (wanted_free rfl _) (fun KA hKA => ?_)
          unfold Oper.wp
          rw [info_zero hz _ _ _ rfl]
          refine hKA _ (W3.alloc (.cells zT.v 60)) ?_
          clear hKA KA
          replace K : Kpt (Lo w (W3.alloc (.cells zT.v 60)) S s s H (O.map Cm.v) T [(W3.heap.size, zT.v), (P, p.v)]) := ⟨K.out.add ((Below.refl _ _).alloc (Nat.le_refl _) _) (Nat.le_refl _) (bx_new _ _ _)⟩
          have N1 : Kpt (0 < p.cdb.length → ∀ g, (Value.slice ca cn cc).ownBlock = some g → g ≠ W3.heap.size) := ⟨fun h0 g hg => by have := (D1.out.off h0 g hg).1; omega⟩
          replace D1 := Kpt.mk (D1.out.fr (w' := W3.alloc (.cells zT.v 60)) (Fr.of_below ((Below.refl _ _).alloc (Nat.le_refl _) _)) (fun b h => .inl h))
          have N2 : Kpt (0 < ([] : List Int).length → ∀ g, (Value.slice oa 0 oc).ownBlock = some g → g ≠ W3.heap.size) := ⟨fun h0 g hg => by have := (D2.out.off h0 g hg).1; omega⟩
          replace D2 := Kpt.mk (D2.out.fr (w' := W3.alloc (.cells zT.v 60)) (Fr.of_below ((Below.refl _ _).alloc (Nat.le_refl _) _)) (fun b h => .inl h))
          obtain ⟨R, hR⟩ : ∃ R, R = W3.heap.size := ⟨_, rfl⟩
          rw [← hR] at K N1 N2 ⊢
          obtain ⟨x, hx⟩ : ∃ x, x = W3.alloc (.cells zT.v 60) := ⟨_, rfl⟩
          rw [← hx] at K D1 D2 ⊢
          clear hR hx
          try simp only [Act.put, List.getElem_toArray, List.getElem_cons_succ, List.getElem_cons_zero, List.setIfInBounds_toArray, List.set_cons_succ, List.set_cons_zero]
          refine wpAnyC_one 19 (K.out.b1) rfl (by kernel_rfl) (wanted_free rfl _) (fun KA hKA => ?_)
          refine wp_store_bx 60 _ _ rfl R zT.v (p.tk (.slice ca cn cc) (.slice oa 0 oc)).v rfl rfl K.out.b0 rfl szTask (Tk.one rfl rfl).2 ?_
          intro w6 hB6 hg6
          have K6 := Kpt.mk (K.out.put0 hB6 hg6)
          have D16 : Kpt (Dt (s.X S) w6 (.slice ca cn cc) p.cdb) := ⟨D1.out.put hg6 N1.out⟩
          have D26 : Kpt (Dt (s.X S) w6 (.slice oa 0 oc) []) := ⟨D2.out.put hg6 N2.out⟩
          clear hB6 hg6
          refine hKA _ _ ?_
          clear hKA KA
          try simp only [Act.put, List.getElem_toArray, List.getElem_cons_succ, List.getElem_cons_zero, List.setIfInBounds_toArray, List.set_cons_succ, List.set_cons_zero]
          refine wpAnyC_done (K6.out.b1) (by kernel_rfl) ?_
          go_wp2_with fail
          go_meet
          exact ⟨R, _, _, rfl, K6, D16, D26⟩
        · unfold Oper.wp
          rw [info_zero hz _ _ _ rfl]
          refine hKA _ (W2.alloc (.cells zT.v 60)) ?_
          clear hKA KA
          replace K : Kpt (Lo w (W2.alloc (.cells zT.v 60)) S s s H (O.map Cm.v) T [(W2.heap.size, zT.v), (P, p.v)]) := ⟨K.out.add ((Below.refl _ _).alloc (Nat.le_refl _) _) (Nat.le_refl _) (bx_new _ _ _)⟩
          have N1 : Kpt (0 < p.cdb.length → ∀ g, (Value.slice ca cn cc).ownBlock = some g → g ≠ W2.heap.size) := ⟨fun h0 g hg => by have := (D1.out.off h0 g hg).1; omega⟩
          replace D1 := Kpt.mk (D1.out.fr (w' := W2.alloc (.cells zT.v 60)) (Fr.of_below ((Below.refl _ _).alloc (Nat.le_refl _) _)) (fun b h => .inl h))
          obtain ⟨R, hR⟩ : ∃ R, R = W2.heap.size := ⟨_, rfl⟩
          rw [← hR] at K N1 ⊢
          obtain ⟨x, hx⟩ : ∃ x, x = W2.alloc (.cells zT.v 60) := ⟨_, rfl⟩
          rw [← hx] at K D1 ⊢
          clear hR hx
          try simp only [Act.put, List.getElem_toArray, List.getElem_cons_succ, List.getElem_cons_zero, List.setIfInBounds_toArray, List.set_cons_succ, List.set_cons_zero]
          refine wpAnyC_one 12 (K.out.b1) rfl (by kernel_rfl) (wanted_free rfl _) (fun KA hKA => ?_)
          go_simp
          refine (hC.out _ _ K.out).mono ?_
          rintro e W3 ⟨v', rfl, hr2, hg2, hn2⟩
          obtain ⟨oa, oc, hv'⟩ := rd_len hr2.rd
          simp only [List.length_nil] at hv'
          subst hv'
          have D2 : Kpt (Dt (s.X S) W3 (.slice oa 0 oc) []) := ⟨Row.dt K.out.ss hr2 hn2⟩
          replace D1 := Kpt.mk (D1.out.fr (Fr.of_below (below_none hg2)) (fun b h => .inl h))
          have N2 : Kpt (0 < ([] : List Int).length → ∀ g, (Value.slice oa 0 oc).ownBlock = some g → g ≠ R) := ⟨fun _ g hg => by have := hn2 g hg; have := K.out.b0.lt; omega⟩
          replace K := Kpt.mk (K.out.below (below_none hg2))
          clear hr2 hg2 hn2
          refine hKA _ _ ?_
          clear hKA KA
          try simp only [Act.put, List.getElem_toArray, List.getElem_cons_succ, List.getElem_cons_zero, List.setIfInBounds_toArray, List.set_cons_succ, List.set_cons_zero]
          refine wpAnyC_take 17 (.agg (p.tk (.slice ca cn cc) (.slice oa 0 oc)).v) rfl (by kernel_rfl) (by kernel_rfl) (by kernel_rfl) (fun _ _ _ h => h) (wanted_free rfl _) (fun W hW => by unfold Tk.v Pd.tk; go_simp) ?_
          try simp only [Act.put, List.getElem_toArray, List.getElem_cons_succ, List.getElem_cons_zero, List.setIfInBounds_toArray, List.set_cons_succ, List.set_cons_zero]
          refine wpAnyC_one 19 (K.out.b1) rfl (by kernel_rfl) (wanted_free rfl _) (fun KA hKA => ?_)
          refine wp_store_bx 60 _ _ rfl R zT.v (p.tk (.slice ca cn cc) (.slice oa 0 oc)).v rfl rfl K.out.b0 rfl szTask (Tk.one rfl rfl).2 ?_
          intro w6 hB6 hg6
          have K6 := Kpt.mk (K.out.put0 hB6 hg6)
          have D16 : Kpt (Dt (s.X S) w6 (.slice ca cn cc) p.cdb) := ⟨D1.out.put hg6 N1.out⟩
          have D26 : Kpt (Dt (s.X S) w6 (.slice oa 0 oc) []) := ⟨D2.out.put hg6 N2.out⟩
          clear hB6 hg6
          refine hKA _ _ ?_
          clear hKA KA
          try simp only [Act.put, List.getElem_toArray, List.getElem_cons_succ, List.getElem_cons_zero, List.setIfInBounds_toArray, List.set_cons_succ, List.set_cons_zero]
          refine wpAnyC_done (K6.out.b1) (by kernel_rfl) ?_
          go_wp2_with fail
          go_meet
          exact ⟨R, _, _, rfl, K6, D16, D26⟩
      · unfold Oper.wp
        rw [info_zero hz _ _ _ rfl]
        refine hKA _ (W.alloc (.cells zT.v 60)) ?_
        clear hKA KA
        replace K : Kpt (Lo w (W.alloc (.cells zT.v 60)) S s s H (O.map Cm.v) T [(W.heap.size, zT.v), (P, p.v)]) := ⟨K.out.add ((Below.refl _ _).alloc (Nat.le_refl _) _) (Nat.le_refl _) (bx_new _ _ _)⟩
        obtain ⟨R, hR⟩ : ∃ R, R = W.heap.size := ⟨_, rfl⟩
        rw [← hR] at K ⊢
        obtain ⟨x, hx⟩ : ∃ x, x = W.alloc (.cells zT.v 60) := ⟨_, rfl⟩
        rw [← hx] at K ⊢
        clear hR hx
        try simp only [Act.put, List.getElem_toArray, List.getElem_cons_succ, List.getElem_cons_zero, List.setIfInBounds_toArray, List.set_cons_succ, List.set_cons_zero]
        refine wpAnyC_one 9 (K.out.b1) rfl (by kernel_rfl) (wanted_free rfl _) (fun KA hKA => ?_)
        go_simp
        refine (hB.out _ _ K.out.b1).mono ?_
        rintro e W2 ⟨v', rfl, hr2, hb2, hn2⟩
        obtain ⟨ca, cc, hv'⟩ := rd_len hr2.rd
        obtain ⟨cn, hcn⟩ : ∃ n, n = p.cdb.length := ⟨_, rfl⟩
        rw [← hcn] at hv'
        subst hv'
        have D1 : Kpt (Dt (s.X S) W2 (.slice ca cn cc) p.cdb) := ⟨Row.dt K.out.ss hr2 hn2⟩
        have N1 : Kpt (0 < p.cdb.length → ∀ g, (Value.slice ca cn cc).ownBlock = some g → g ≠ R) := ⟨fun _ g hg => by have := hn2 g hg; have := K.out.b0.lt; omega⟩
        replace K := Kpt.mk (K.out.below hb2)
        clear hr2 hb2 hn2 hcn
        refine hKA _ _ ?_
        clear hKA KA
        try simp only [Act.put, List.getElem_toArray, List.getElem_cons_succ, List.getElem_cons_zero, List.setIfInBounds_toArray, List.set_cons_succ, List.set_cons_zero]
        refine wpAnyC_one 12 (K.out.b1) rfl (by kernel_rfl) (wanted_free rfl _) (fun KA hKA => ?_)
        go_simp
        refine (hC.out _ _ K.out).mono ?_
        rintro e W3 ⟨v', rfl, hr2, hg2, hn2⟩
        obtain ⟨oa, oc, hv'⟩ := rd_len hr2.rd
        simp only [List.length_nil] at hv'
        subst hv'
        have D2 : Kpt (Dt (s.X S) W3 (.slice oa 0 oc) []) := ⟨Row.dt K.out.ss hr2 hn2⟩
        replace D1 := Kpt.mk (D1.out.fr (Fr.of_below (below_none hg2)) (fun b h => .inl h))
        have N2 : Kpt (0 < ([] : List Int).length → ∀ g, (Value.slice oa 0 oc).ownBlock = some g → g ≠ R) := ⟨fun _ g hg => by have := hn2 g hg; have := K.out.b0.lt; omega⟩
        replace K := Kpt.mk (K.out.below (below_none hg2))
        clear hr2 hg2 hn2
        refine hKA _ _ ?_
        clear hKA KA
        try simp only [Act.put, List.getElem_toArray, List.getElem_cons_succ, List.getElem_cons_zero, List.setIfInBounds_toArray, List.set_cons_succ, List.set_cons_zero]
        refine wpAnyC_take 17 (.agg (p.tk (.slice ca cn cc) (.slice oa 0 oc)).v) rfl (by kernel_rfl) (by kernel_rfl) (by kernel_rfl) (fun _ _ _ h => h) (wanted_free rfl _) (fun W hW => by unfold Tk.v Pd.tk; go_simp) ?_
        try simp only [Act.put, List.getElem_toArray, List.getElem_cons_succ, List.getElem_cons_zero, List.setIfInBounds_toArray, List.set_cons_succ, List.set_cons_zero]
        refine wpAnyC_one 19 (K.out.b1) rfl (by kernel_rfl) (wanted_free rfl _) (fun KA hKA => ?_)
        refine wp_store_bx 60 _ _ rfl R zT.v (p.tk (.slice ca cn cc) (.slice oa 0 oc)).v rfl rfl K.out.b0 rfl szTask (Tk.one rfl rfl).2 ?_
        intro w6 hB6 hg6
        have K6 := Kpt.mk (K.out.put0 hB6 hg6)
        have D16 : Kpt (Dt (s.X S) w6 (.slice ca cn cc) p.cdb) := ⟨D1.out.put hg6 N1.out⟩
        have D26 : Kpt (Dt (s.X S) w6 (.slice oa 0 oc) []) := ⟨D2.out.put hg6 N2.out⟩
        clear hB6 hg6
        refine hKA _ _ ?_
        clear hKA KA
        try simp only [Act.put, List.getElem_toArray, List.getElem_cons_succ, List.getElem_cons_zero, List.setIfInBounds_toArray, List.set_cons_succ, List.set_cons_zero]
        refine wpAnyC_done (K6.out.b1) (by kernel_rfl) ?_
        go_wp2_with fail
        go_meet
        exact ⟨R, _, _, rfl, K6, D16, D26⟩
    · unfold Oper.wp
      rw [info_zero hz _ _ _ rfl]
      refine hKA _ (W.alloc (.cells zT.v 60)) ?_
      clear hKA KA
      replace K : Kpt (Lo w (W.alloc (.cells zT.v 60)) S s s H (O.map Cm.v) T [(W.heap.size, zT.v), (P, p.v)]) := ⟨K.out.add ((Below.refl _ _).alloc (Nat.le_refl _) _) (Nat.le_refl _) (bx_new _ _ _)⟩
      obtain ⟨R, hR⟩ : ∃ R, R = W.heap.size := ⟨_, rfl⟩
      rw [← hR] at K ⊢
      obtain ⟨x, hx⟩ : ∃ x, x = W.alloc (.cells zT.v 60) := ⟨_, rfl⟩
      rw [← hx] at K ⊢
      clear hR hx
      try simp only [Act.put, List.getElem_toArray, List.getElem_cons_succ, List.getElem_cons_zero, List.setIfInBounds_toArray, List.set_cons_succ, List.set_cons_zero]
      refine wpAnyC_one 6 (K.out.b1) rfl (by kernel_rfl) (wanted_free rfl _) (fun KA hKA => ?_)
      go_simp
      refine (hT.out _).mono ?_
      intro e wx hh
      rw [hh.1, hh.2]
      clear hh
      refine hKA _ _ ?_
      clear hKA KA
      try simp only [Act.put, List.getElem_toArray, List.getElem_cons_succ, List.getElem_cons_zero, List.setIfInBounds_toArray, List.set_cons_succ, List.set_cons_zero]
      refine wpAnyC_one 9 (K.out.b1) rfl (by kernel_rfl) (wanted_free rfl _) (fun KA hKA => ?_)
      go_simp
      refine (hB.out _ _ K.out.b1).mono ?_
      rintro e W2 ⟨v', rfl, hr2, hb2, hn2⟩
      obtain ⟨ca, cc, hv'⟩ := rd_len hr2.rd
      obtain ⟨cn, hcn⟩ : ∃ n, n = p.cdb.length := ⟨_, rfl⟩
      rw [← hcn] at hv'
      subst hv'
      have D1 : Kpt (Dt (s.X S) W2 (.slice ca cn cc) p.cdb) := ⟨Row.dt K.out.ss hr2 hn2⟩
      have N1 : Kpt (0 < p.cdb.length → ∀ g, (Value.slice ca cn cc).ownBlock = some g → g ≠ R) := ⟨fun _ g hg => by have := hn2 g hg; have := K.out.b0.lt; omega⟩
      replace K := Kpt.mk (K.out.below hb2)
      clear hr2 hb2 hn2 hcn
      refine hKA _ _ ?_
      clear hKA KA
      try simp only [Act.put, List.getElem_toArray, List.getElem_cons_succ, List.getElem_cons_zero, List.setIfInBounds_toArray, List.set_cons_succ, List.set_cons_zero]
      refine wpAnyC_one 12 (K.out.b1) rfl (by kernel_rfl) (wanted_free rfl _) (fun KA hKA => ?_)
      go_simp
      refine (hC.out _ _ K.out).mono ?_
      rintro e W3 ⟨v', rfl, hr2, hg2, hn2⟩
      obtain ⟨oa, oc, hv'⟩ := rd_len hr2.rd
      simp only [List.length_nil] at hv'
      subst hv'
      have D2 : Kpt (Dt (s.X S) W3 (.slice oa 0 oc) []) := ⟨Row.dt K.out.ss hr2 hn2⟩
      replace D1 := Kpt.mk (D1.out.fr (Fr.of_below (below_none hg2)) (fun b h => .inl h))
      have N2 : Kpt (0 < ([] : List Int).length → ∀ g, (Value.slice oa 0 oc).ownBlock = some g → g ≠ R) := ⟨fun _ g hg => by have := hn2 g hg; have := K.out.b0.lt; omega⟩
      replace K := Kpt.mk (K.out.below (below_none hg2))
      clear hr2 hg2 hn2
      refine hKA _ _ ?_
      clear hKA KA
      try simp only [Act.put, List.getElem_toArray, List.getElem_cons_succ, List.getElem_cons_zero, List.setIfInBounds_toArray, List.set_cons_succ, List.set_cons_zero]
      refine wpAnyC_take 17 (.agg (p.tk (.slice ca cn cc) (.slice oa 0 oc)).v) rfl (by kernel_rfl) (by kernel_rfl) (by kernel_rfl) (fun _ _ _ h => h) (wanted_free rfl _) (fun W hW => by unfold Tk.v Pd.tk; go_simp) ?_
      try simp only [Act.put, List.getElem_toArray, List.getElem_cons_succ, List.getElem_cons_zero, List.setIfInBounds_toArray, List.set_cons_succ, List.set_cons_zero]
      refine wpAnyC_one 19 (K.out.b1) rfl (by kernel_rfl) (wanted_free rfl _) (fun KA hKA => ?_)
      refine wp_store_bx 60 _ _ rfl R zT.v (p.tk (.slice ca cn cc) (.slice oa 0 oc)).v rfl rfl K.out.b0 rfl szTask (Tk.one rfl rfl).2 ?_
      intro w6 hB6 hg6
      have K6 := Kpt.mk (K.out.put0 hB6 hg6)
      have D16 : Kpt (Dt (s.X S) w6 (.slice ca cn cc) p.cdb) := ⟨D1.out.put hg6 N1.out⟩
      have D26 : Kpt (Dt (s.X S) w6 (.slice oa 0 oc) []) := ⟨D2.out.put hg6 N2.out⟩
      clear hB6 hg6
      refine hKA _ _ ?_
      clear hKA KA
      try simp only [Act.put, List.getElem_toArray, List.getElem_cons_succ, List.getElem_cons_zero, List.setIfInBounds_toArray, List.set_cons_succ, List.set_cons_zero]
      refine wpAnyC_done (K6.out.b1) (by kernel_rfl) ?_
      go_wp2_with fail
      go_meet
      exact ⟨R, _, _, rfl, K6, D16, D26⟩
  case rest =>
    obtain ⟨R, cv, ov, rfl, k4, D1, D2⟩ := hcut
    clear k0 k1 k2 hA hB hC hT
    have hfl := hflK.out
    go_upto_region 5 with fail
    go_cut [8] from 41 to 60 (fun t8 wc => ∃ (v' : Value), t8 = .pointer (some ⟨R, 0, none⟩) ∧ Kpt (Lo w wc S s { s with opn := v' } H ((O ++ [p.cm]).map Cm.v) T [(R, (p.tk cv ov).v), (P, p.v)]) ∧ Kpt (Dt (({ s with opn := v' } : Se).X S) wc cv p.cdb) ∧ Kpt (Dt (({ s with opn := v' } : Se).X S) wc ov []))
    case first =>
      have hcm : Kpt (p.cm.v = #[.int .u32 p.tg, .int .u8 p.lu, .bool true, .int .i64 p.w0]) := ⟨by simp [Pd.cm, Cm.v, hfl]⟩
      refine wp_region_any (by kernel_rfl) ?_
      refine wpAny_of_C (C := fun W => Bx W R (p.tk cv ov).v ∧ Bx W P p.v) _ _ _ _ ?_
      refine wpAnyC_take 0 (.pointer (some ⟨S, 0, none⟩)) rfl (by kernel_rfl) (by kernel_rfl) (by kernel_rfl) (fun _ _ _ h => h) (wanted_free rfl _) (fun W hW => by go_simp) ?_
      try simp only [Act.put, List.getElem_toArray, List.getElem_cons_succ, List.getElem_cons_zero, List.setIfInBounds_toArray, List.set_cons_succ, List.set_cons_zero]
      refine wpAnyC_take 1 (.pointer (some ⟨S, 0, none⟩)) rfl (by kernel_rfl) (by kernel_rfl) (by kernel_rfl) (fun _ _ _ h => h) (wanted_free rfl _) (fun W hW => by go_simp) ?_
      try simp only [Act.put, List.getElem_toArray, List.getElem_cons_succ, List.getElem_cons_zero, List.setIfInBounds_toArray, List.set_cons_succ, List.set_cons_zero]
      refine wpAnyC_take 2 (.pointer (some ⟨S, 0, none⟩)) rfl (by kernel_rfl) (by kernel_rfl) (by kernel_rfl) (fun _ _ _ h => h) (wanted_free rfl _) (fun W hW => by go_simp) ?_
      try simp only [Act.put, List.getElem_toArray, List.getElem_cons_succ, List.getElem_cons_zero, List.setIfInBounds_toArray, List.set_cons_succ, List.set_cons_zero]
      refine wpAnyC_take 3 (.pointer (some ⟨S, 15, none⟩)) rfl (by kernel_rfl) (by kernel_rfl) (by kernel_rfl) (fun _ _ _ h => h) (wanted_free rfl _) (fun W hW => by go_simp) ?_
      try simp only [Act.put, List.getElem_toArray, List.getElem_cons_succ, List.getElem_cons_zero, List.setIfInBounds_toArray, List.set_cons_succ, List.set_cons_zero]
      refine wpAnyC_take 5 (.pointer (some ⟨R, 0, none⟩)) rfl (by kernel_rfl) (by kernel_rfl) (by kernel_rfl) (fun _ _ _ h => h) (wanted_free rfl _) (fun W hW => by go_simp) ?_
      try simp only [Act.put, List.getElem_toArray, List.getElem_cons_succ, List.getElem_cons_zero, List.setIfInBounds_toArray, List.set_cons_succ, List.set_cons_zero]
      refine wpAnyC_take 6 (.int .u32 p.tg) rfl (by kernel_rfl) (by kernel_rfl) (by kernel_rfl) (fun _ _ _ h => h) (wanted_free rfl _) (fun W hW => by have c := hW.1.cells 0 (by simp [Tk.v]); simp [Tk.v, Pd.tk] at c; go_simp) ?_
      try simp only [Act.put, List.getElem_toArray, List.getElem_cons_succ, List.getElem_cons_zero, List.setIfInBounds_toArray, List.set_cons_succ, List.set_cons_zero]
      refine wpAnyC_take 7 (.pointer (some ⟨R, 1, none⟩)) rfl (by kernel_rfl) (by kernel_rfl) (by kernel_rfl) (fun _ _ _ h => h) (wanted_free rfl _) (fun W hW => by go_simp) ?_
      try simp only [Act.put, List.getElem_toArray, List.getElem_cons_succ, List.getElem_cons_zero, List.setIfInBounds_toArray, List.set_cons_succ, List.set_cons_zero]
      refine wpAnyC_take 8 (.int .u8 p.lu) rfl (by kernel_rfl) (by kernel_rfl) (by kernel_rfl) (fun _ _ _ h => h) (wanted_free rfl _) (fun W hW => by have c := hW.1.cells 1 (by simp [Tk.v]); simp [Tk.v, Pd.tk] at c; go_simp) ?_
      try simp only [Act.put, List.getElem_toArray, List.getElem_cons_succ, List.getElem_cons_zero, List.setIfInBounds_toArray, List.set_cons_succ, List.set_cons_zero]
      refine wpAnyC_take 9 (.pointer (some ⟨P, 1, none⟩)) rfl (by kernel_rfl) (by kernel_rfl) (by kernel_rfl) (fun _ _ _ h => h) (wanted_free rfl _) (fun W hW => by go_simp) ?_
      try simp only [Act.put, List.getElem_toArray, List.getElem_cons_succ, List.getElem_cons_zero, List.setIfInBounds_toArray, List.set_cons_succ, List.set_cons_zero]
      refine wpAnyC_take 10 (.int .u8 193) rfl (by kernel_rfl) (by kernel_rfl) (by kernel_rfl) (fun _ _ _ h => h) (wanted_free rfl _) (fun W hW => by have c := hW.2.cells 1 (by simp [Pd.v]); simp [Pd.v] at c; rw [hfl] at c; go_simp) ?_
      try simp only [Act.put, List.getElem_toArray, List.getElem_cons_succ, List.getElem_cons_zero, List.setIfInBounds_toArray, List.set_cons_succ, List.set_cons_zero]
      refine wpAnyC_take 11 (.int .u8 64) rfl (by kernel_rfl) (by kernel_rfl) (by kernel_rfl) (fun _ _ _ h => h) (wanted_free rfl _) (fun W hW => by go_simp; rfl) ?_
      try simp only [Act.put, List.getElem_toArray, List.getElem_cons_succ, List.getElem_cons_zero, List.setIfInBounds_toArray, List.set_cons_succ, List.set_cons_zero]
      refine wpAnyC_take 12 (.bool true) rfl (by kernel_rfl) (by kernel_rfl) (by kernel_rfl) (fun _ _ _ h => h) (wanted_free rfl _) (fun W hW => by go_simp) ?_
      try simp only [Act.put, List.getElem_toArray, List.getElem_cons_succ, List.getElem_cons_zero, List.setIfInBounds_toArray, List.set_cons_succ, List.set_cons_zero]
      refine wpAnyC_take 13 (.pointer (some ⟨R, 5, none⟩)) rfl (by kernel_rfl) (by kernel_rfl) (by kernel_rfl) (fun _ _ _ h => h) (wanted_free rfl _) (fun W hW => by go_simp) ?_
      try simp only [Act.put, List.getElem_toArray, List.getElem_cons_succ, List.getElem_cons_zero, List.setIfInBounds_toArray, List.set_cons_succ, List.set_cons_zero]
      refine wpAnyC_take 14 (.int .i64 p.w0) rfl (by kernel_rfl) (by kernel_rfl) (by kernel_rfl) (fun _ _ _ h => h) (wanted_free rfl _) (fun W hW => by have c := hW.1.cells 5 (by simp [Tk.v]); simp [Tk.v, Pd.tk] at c; go_simp) ?_
      try simp only [Act.put, List.getElem_toArray, List.getElem_cons_succ, List.getElem_cons_zero, List.setIfInBounds_toArray, List.set_cons_succ, List.set_cons_zero]
      refine wpAnyC_take 15 (.agg p.cm.v) rfl (by kernel_rfl) (by kernel_rfl) (by kernel_rfl) (fun _ _ _ h => h) (wanted_free rfl _) (fun W hW => by rw [hcm.out]; go_simp) ?_
      try simp only [Act.put, List.getElem_toArray, List.getElem_cons_succ, List.getElem_cons_zero, List.setIfInBounds_toArray, List.set_cons_succ, List.set_cons_zero]
      have K0 := Kpt.mk k4.out.drew
      have D10 := Kpt.mk (D1.out.fr (Fr.drew _ _) (fun b h => .inl h))
      have D20 := Kpt.mk (D2.out.fr (Fr.drew _ _) (fun b h => .inl h))
      obtain ⟨W0, hW0⟩ : ∃ W, W = wc.drew := ⟨_, rfl⟩
      rw [← hW0] at K0 D10 D20
      refine wpAnyC_world hW0 ?_
      clear hW0
      obtain ⟨fa, fc, hfv, _⟩ := K0.out.ss.opn.shape
      obtain ⟨fn, hfn⟩ : ∃ n, n = (O.map Cm.v).length := ⟨_, rfl⟩
      rw [← hfn] at hfv
      have cF := (K0.out.ss.cell 15 (by omega)).1
      simp only [Se.v, List.getElem?_toArray, List.getElem?_cons_succ, List.getElem?_cons_zero] at cF
      rw [hfv] at cF
      replace hfv := Kpt.mk hfv
      clear hfn
      refine wpAnyC_two 4 16 (⟨K0.out.b0, K0.out.b1⟩) rfl rfl (by kernel_rfl) (wanted_free rfl _) (wanted_free rfl _) (fun KA hKA => ?_) (fun KA hKA => ?_)
      · go_simp
        refine hKA _ _ ?_
        clear hKA KA
        try simp only [Act.put, List.getElem_toArray, List.getElem_cons_succ, List.getElem_cons_zero, List.setIfInBounds_toArray, List.set_cons_succ, List.set_cons_zero]
        refine wpAnyC_one 16 (⟨K0.out.b0, K0.out.b1⟩) rfl (by kernel_rfl) (wanted_free rfl _) (fun KA hKA => ?_)
        unfold Oper.wp
        rw [exec_build1 62 74 4 16 _ Try.underlying62 infoCmd (by decide) (by decide) (.tmp 56) rfl p.cm.v rfl rfl]
        refine hKA _ (W0.alloc (.cells p.cm.v 74)) ?_
        clear hKA KA
        have hb1 : Below W0.heap.size W0 (W0.alloc (.cells p.cm.v 74)) := (Below.refl _ _).alloc (Nat.le_refl _) _
        have K1 := Kpt.mk (K0.out.below hb1)
        have hN : Kpt (Bx (W0.alloc (.cells p.cm.v 74)) W0.heap.size p.cm.v) := ⟨bx_new _ _ _⟩
        have D11 := Kpt.mk (D10.out.fr (Fr.of_below hb1) (fun b h => .inl h))
        have D21 := Kpt.mk (D20.out.fr (Fr.of_below hb1) (fun b h => .inl h))
        obtain ⟨N, hNN⟩ : ∃ N, N = W0.heap.size := ⟨_, rfl⟩
        rw [← hNN] at hN ⊢
        obtain ⟨W1, hW1⟩ : ∃ W1, W1 = W0.alloc (.cells p.cm.v 74) := ⟨_, rfl⟩
        rw [← hW1] at K1 hN D11 D21 ⊢
        clear hNN hW1 hb1
        try simp only [Act.put, List.getElem_toArray, List.getElem_cons_succ, List.getElem_cons_zero, List.setIfInBounds_toArray, List.set_cons_succ, List.set_cons_zero]
        refine wpAnyC_one 17 (⟨K1.out.b0, K1.out.b1⟩) rfl (by kernel_rfl) (wanted_free rfl _) (fun KA hKA => ?_)
        refine wp_append_row 62 74 4 16 _ Try.underlying62 infoCmd rfl (by decide) (by decide) _ _ rfl (.slice fa fn fc) (.slice (some ⟨N, 0, none⟩) 1 1) (O.map Cm.v) [p.cm.v] rfl rfl (by rw [← hfv.out]; exact K1.out.ss.opn) (hN.out.one p.cm.one) (by simp) (by first | (simp; done) | (simp; omega)) ?_
        intro v5 W5 ho5 hg5 hor
        rw [← hfv.out] at hg5 hor
        obtain ⟨q1, q2, q3, q4⟩ := K1.out.ss.setOpn hg5 ho5 (fun b hb => by rcases hor with e | e; exact .inl (e ▸ hb); rw [e] at hb; injection hb with hb; exact .inr (Nat.le_of_eq hb))
        rw [hfv.out] at q3
        obtain ⟨va, vc, hv5, _⟩ := ho5.shape
        obtain ⟨vn, hvn⟩ : ∃ n, n = (O.map Cm.v ++ [p.cm.v]).length := ⟨_, rfl⟩
        rw [← hvn] at hv5
        subst hv5
        clear hvn
        have hF5 : Kpt (Fr (s.X S) W1 W5) := ⟨Fr.of_grown hg5 (fun b e => .inr (.inr (.inl e)))⟩
        replace q1 := Kpt.mk q1
        replace q2 := Kpt.mk q2
        have q2' := Kpt.mk ((Fr.of_grown (X := s.X S) (grown_setCellK W5 ⟨S, 15, none⟩ (.slice va vn vc)) (fun b e => .inl (by injection e with e; exact e.symm))))
        clear ho5 hg5 hor
        refine hKA _ _ ?_
        clear hKA KA
        try simp only [Act.put, List.getElem_toArray, List.getElem_cons_succ, List.getElem_cons_zero, List.setIfInBounds_toArray, List.set_cons_succ, List.set_cons_zero]
        refine wpAnyC_take 18 (.pointer (some ⟨S, 0, none⟩)) rfl (by kernel_rfl) (by kernel_rfl) (by kernel_rfl) (fun _ _ _ h => h) (wanted_free rfl _) (fun W hW => by go_simp) ?_
        try simp only [Act.put, List.getElem_toArray, List.getElem_cons_succ, List.getElem_cons_zero, List.setIfInBounds_toArray, List.set_cons_succ, List.set_cons_zero]
        refine wpAnyC_take 19 (.pointer (some ⟨S, 15, none⟩)) rfl (by kernel_rfl) (by kernel_rfl) (by kernel_rfl) (fun _ _ _ h => h) (wanted_free rfl _) (fun W hW => by go_simp) ?_
        try simp only [Act.put, List.getElem_toArray, List.getElem_cons_succ, List.getElem_cons_zero, List.setIfInBounds_toArray, List.set_cons_succ, List.set_cons_zero]
        refine wpAnyC_one 20 (⟨K1.out.b0.of_block (Nat.lt_of_lt_of_le K1.out.b0.lt hF5.out.size) (hF5.out.block _ K1.out.b0.lt (K1.out.bx (R, (p.tk cv ov).v) (by simp)).2.1), K1.out.b1.of_block (Nat.lt_of_lt_of_le K1.out.b1.lt hF5.out.size) (hF5.out.block _ K1.out.b1.lt (K1.out.bx (P, p.v) (by simp)).2.1)⟩) rfl (by kernel_rfl) (wanted_free rfl _) (fun KA hKA => ?_)
        go_simp
        have K6 := Kpt.mk (K1.out.turn q1.out q2.out)
        have D16 := Kpt.mk (D11.out.fr q2.out.fr q2.out.new)
        have D26 := Kpt.mk (D21.out.fr q2.out.fr q2.out.new)
        obtain ⟨W6, hW6⟩ : ∃ W6, W6 = W5.setCell ⟨S, 15, none⟩ (.slice va vn vc) := ⟨_, rfl⟩
        refine hKA _ (W5.setCell ⟨S, 15, none⟩ (.slice va vn vc)) ?_
        rw [← hW6] at K6 D16 D26 ⊢
        clear hKA KA hW6
        try simp only [Act.put, List.getElem_toArray, List.getElem_cons_succ, List.getElem_cons_zero, List.setIfInBounds_toArray, List.set_cons_succ, List.set_cons_zero]
        refine wpAnyC_done (⟨K6.out.b0, K6.out.b1⟩) (by kernel_rfl) ?_
        go_wp2_with fail
        go_meet
        exact ⟨_, rfl, by have := K6; rw [← List.map_singleton (f := Cm.v) (a := p.cm), ← List.map_append] at this; exact this, D16, D26⟩
      · unfold Oper.wp
        rw [exec_build1 62 74 4 16 _ Try.underlying62 infoCmd (by decide) (by decide) (.tmp 56) rfl p.cm.v rfl rfl]
        refine hKA _ (W0.alloc (.cells p.cm.v 74)) ?_
        clear hKA KA
        have hb1 : Below W0.heap.size W0 (W0.alloc (.cells p.cm.v 74)) := (Below.refl _ _).alloc (Nat.le_refl _) _
        have K1 := Kpt.mk (K0.out.below hb1)
        have hN : Kpt (Bx (W0.alloc (.cells p.cm.v 74)) W0.heap.size p.cm.v) := ⟨bx_new _ _ _⟩
        have D11 := Kpt.mk (D10.out.fr (Fr.of_below hb1) (fun b h => .inl h))
        have D21 := Kpt.mk (D20.out.fr (Fr.of_below hb1) (fun b h => .inl h))
        obtain ⟨N, hNN⟩ : ∃ N, N = W0.heap.size := ⟨_, rfl⟩
        rw [← hNN] at hN ⊢
        obtain ⟨W1, hW1⟩ : ∃ W1, W1 = W0.alloc (.cells p.cm.v 74) := ⟨_, rfl⟩
        rw [← hW1] at K1 hN D11 D21 ⊢
        clear hNN hW1 hb1
        try simp only [Act.put, List.getElem_toArray, List.getElem_cons_succ, List.getElem_cons_zero, List.setIfInBounds_toArray, List.set_cons_succ, List.set_cons_zero]
        have cF1 := (K1.out.ss.cell 15 (by omega)).1
        simp only [Se.v, List.getElem?_toArray, List.getElem?_cons_succ, List.getElem?_cons_zero] at cF1
        rw [hfv.out] at cF1
        refine wpAnyC_one 4 (⟨K1.out.b0, K1.out.b1⟩) rfl (by kernel_rfl) (wanted_free rfl _) (fun KA hKA => ?_)
        go_simp
        refine hKA _ _ ?_
        clear hKA KA
        try simp only [Act.put, List.getElem_toArray, List.getElem_cons_succ, List.getElem_cons_zero, List.setIfInBounds_toArray, List.set_cons_succ, List.set_cons_zero]
        refine wpAnyC_one 17 (⟨K1.out.b0, K1.out.b1⟩) rfl (by kernel_rfl) (wanted_free rfl _) (fun KA hKA => ?_)
        refine wp_append_row 62 74 4 16 _ Try.underlying62 infoCmd rfl (by decide) (by decide) _ _ rfl (.slice fa fn fc) (.slice (some ⟨N, 0, none⟩) 1 1) (O.map Cm.v) [p.cm.v] rfl rfl (by rw [← hfv.out]; exact K1.out.ss.opn) (hN.out.one p.cm.one) (by simp) (by first | (simp; done) | (simp; omega)) ?_
        intro v5 W5 ho5 hg5 hor
        rw [← hfv.out] at hg5 hor
        obtain ⟨q1, q2, q3, q4⟩ := K1.out.ss.setOpn hg5 ho5 (fun b hb => by rcases hor with e | e; exact .inl (e ▸ hb); rw [e] at hb; injection hb with hb; exact .inr (Nat.le_of_eq hb))
        rw [hfv.out] at q3
        obtain ⟨va, vc, hv5, _⟩ := ho5.shape
        obtain ⟨vn, hvn⟩ : ∃ n, n = (O.map Cm.v ++ [p.cm.v]).length := ⟨_, rfl⟩
        rw [← hvn] at hv5
        subst hv5
        clear hvn
        have hF5 : Kpt (Fr (s.X S) W1 W5) := ⟨Fr.of_grown hg5 (fun b e => .inr (.inr (.inl e)))⟩
        replace q1 := Kpt.mk q1
        replace q2 := Kpt.mk q2
        have q2' := Kpt.mk ((Fr.of_grown (X := s.X S) (grown_setCellK W5 ⟨S, 15, none⟩ (.slice va vn vc)) (fun b e => .inl (by injection e with e; exact e.symm))))
        clear ho5 hg5 hor
        refine hKA _ _ ?_
        clear hKA KA
        try simp only [Act.put, List.getElem_toArray, List.getElem_cons_succ, List.getElem_cons_zero, List.setIfInBounds_toArray, List.set_cons_succ, List.set_cons_zero]
        refine wpAnyC_take 18 (.pointer (some ⟨S, 0, none⟩)) rfl (by kernel_rfl) (by kernel_rfl) (by kernel_rfl) (fun _ _ _ h => h) (wanted_free rfl _) (fun W hW => by go_simp) ?_
        try simp only [Act.put, List.getElem_toArray, List.getElem_cons_succ, List.getElem_cons_zero, List.setIfInBounds_toArray, List.set_cons_succ, List.set_cons_zero]
        refine wpAnyC_take 19 (.pointer (some ⟨S, 15, none⟩)) rfl (by kernel_rfl) (by kernel_rfl) (by kernel_rfl) (fun _ _ _ h => h) (wanted_free rfl _) (fun W hW => by go_simp) ?_
        try simp only [Act.put, List.getElem_toArray, List.getElem_cons_succ, List.getElem_cons_zero, List.setIfInBounds_toArray, List.set_cons_succ, List.set_cons_zero]
        refine wpAnyC_one 20 (⟨K1.out.b0.of_block (Nat.lt_of_lt_of_le K1.out.b0.lt hF5.out.size) (hF5.out.block _ K1.out.b0.lt (K1.out.bx (R, (p.tk cv ov).v) (by simp)).2.1), K1.out.b1.of_block (Nat.lt_of_lt_of_le K1.out.b1.lt hF5.out.size) (hF5.out.block _ K1.out.b1.lt (K1.out.bx (P, p.v) (by simp)).2.1)⟩) rfl (by kernel_rfl) (wanted_free rfl _) (fun KA hKA => ?_)
        go_simp
        have K6 := Kpt.mk (K1.out.turn q1.out q2.out)
        have D16 := Kpt.mk (D11.out.fr q2.out.fr q2.out.new)
        have D26 := Kpt.mk (D21.out.fr q2.out.fr q2.out.new)
        obtain ⟨W6, hW6⟩ : ∃ W6, W6 = W5.setCell ⟨S, 15, none⟩ (.slice va vn vc) := ⟨_, rfl⟩
        refine hKA _ (W5.setCell ⟨S, 15, none⟩ (.slice va vn vc)) ?_
        rw [← hW6] at K6 D16 D26 ⊢
        clear hKA KA hW6
        try simp only [Act.put, List.getElem_toArray, List.getElem_cons_succ, List.getElem_cons_zero, List.setIfInBounds_toArray, List.set_cons_succ, List.set_cons_zero]
        refine wpAnyC_done (⟨K6.out.b0, K6.out.b1⟩) (by kernel_rfl) ?_
        go_wp2_with fail
        go_meet
        exact ⟨_, rfl, by have := K6; rw [← List.map_singleton (f := Cm.v) (a := p.cm), ← List.map_append] at this; exact this, D16, D26⟩
    case rest =>
      obtain ⟨v', rfl, k6, E1, E2⟩ := hcut
      clear k4 D1 D2
      obtain ⟨ca, cc, hcv⟩ := rd_len E1.out.rd
      obtain ⟨oa, oc, hov⟩ := rd_len E2.out.rd
      have hone : Kpt ((p.tk cv ov).v.size = 8 ∧ (p.tk cv ov).v.all (·.oneCell') = true) := ⟨Tk.one (t := p.tk cv ov) hcv hov⟩
      clear hcv hov
      have c1 := k6.out.b1.cells 1 (by simp [Pd.v])
      simp [Pd.v] at c1
      rw [hfl] at c1
      obtain ⟨s2, hs2⟩ : ∃ s2, s2 = ({ s with opn := v' } : Se) := ⟨_, rfl⟩
      have hv' : Kpt (s2 = { s with opn := v' }) := ⟨hs2⟩
      rw [← hs2] at k6 E1 E2
      clear hs2
      go_upto_region 7 with fail
      refine wp_region_any (by kernel_rfl) ?_
      refine wpAny_of_C (C := fun W => Bx W R (p.tk cv ov).v) _ _ _ _ ?_
      refine wpAnyC_take 0 (.agg (p.tk cv ov).v) rfl (by kernel_rfl) (by kernel_rfl) (by kernel_rfl) (fun _ _ _ h => h) (wanted_free rfl _) (fun W hW => exec_load_bx 60 (.tmp 8) rfl R _ rfl hW _ Try.underlying60 rfl szTask) ?_
      try simp only [Act.put, List.getElem_toArray, List.getElem_cons_succ, List.getElem_cons_zero, List.setIfInBounds_toArray, List.set_cons_succ, List.set_cons_zero]
      refine wpAnyC_take 2 (.slice none 0 0) rfl (by kernel_rfl) (by kernel_rfl) (by kernel_rfl) (fun _ _ _ h => h) (wanted_free rfl _) (fun W hW => by go_simp) ?_
      try simp only [Act.put, List.getElem_toArray, List.getElem_cons_succ, List.getElem_cons_zero, List.setIfInBounds_toArray, List.set_cons_succ, List.set_cons_zero]
      refine wpAnyC_one 1 (k6.out.b0.drew) rfl (by kernel_rfl) (wanted_free rfl _) (fun KA hKA => ?_)
      unfold Oper.wp
      rw [exec_build1 37 60 8 72 _ Try.underlying37 infoTask (by decide) (by decide) (.tmp 73) rfl (p.tk cv ov).v rfl rfl]
      refine hKA _ (wc.drew.alloc (.cells (p.tk cv ov).v 60)) ?_
      clear hKA KA
      have hb1 : Below wc.heap.size wc (wc.drew.alloc (.cells (p.tk cv ov).v 60)) := (below_drew wc).alloc (Nat.le_refl _) _
      have k7 := Kpt.mk (k6.out.below hb1)
      have E17 := Kpt.mk (E1.out.fr (Fr.of_below hb1) (fun b h => .inl h))
      have E27 := Kpt.mk (E2.out.fr (Fr.of_below hb1) (fun b h => .inl h))
      have hh7 : Kpt ((wc.drew.alloc (.cells (p.tk cv ov).v 60)).heap[wc.drew.heap.size]? = some (.cells (p.tk cv ov).v 60 (0, 0))) := ⟨by show (wc.heap.push _)[wc.heap.size]? = _; simp⟩
      obtain ⟨N, hNN⟩ : ∃ N, N = wc.drew.heap.size := ⟨_, rfl⟩
      have hN7 : Kpt (wc.heap.size ≤ N) := ⟨by rw [hNN]; exact Nat.le_refl _⟩
      have hX7 : Kpt (¬ s2.X S N) := ⟨fun e => by have := k6.out.ss.lt _ e; have := hN7.out; omega⟩
      rw [← hNN] at hh7
      rw [show wc.heap.size = N from hNN.symm]
      obtain ⟨W7, hW7⟩ : ∃ W7, W7 = wc.drew.alloc (.cells (p.tk cv ov).v 60) := ⟨_, rfl⟩
      rw [← hW7] at k7 E17 E27 hh7 ⊢
      clear hNN hW7 hb1
      try simp only [Act.put, List.getElem_toArray, List.getElem_cons_succ, List.getElem_cons_zero, List.setIfInBounds_toArray, List.set_cons_succ, List.set_cons_zero]
      refine wpAnyC_one 3 (k7.out.b0) rfl (by kernel_rfl) (wanted_free rfl _) (fun KA hKA => ?_)
      go_simp
      refine hKA _ _ ?_
      clear hKA KA
      try simp only [Act.put, List.getElem_toArray, List.getElem_cons_succ, List.getElem_cons_zero, List.setIfInBounds_toArray, List.set_cons_succ, List.set_cons_zero]
      refine wpAnyC_done (k7.out.b0) (by kernel_rfl) ?_
      go_wp2
      go_ret2
      exact ⟨_, v', cv, ov, rfl, by rw [← hv'.out]; exact k7.out.ss, by rw [← hv'.out]; exact k7.out.st, by rw [← hv'.out]; exact ⟨N, rfl, Nat.le_trans k6.out.st.fr.size hN7.out, hh7.out, hX7.out⟩, by rw [← hv'.out]; exact E17.out, by rw [← hv'.out]; exact E27.out⟩
end Go.Proofs.Ytdplndlmdhpfaab
