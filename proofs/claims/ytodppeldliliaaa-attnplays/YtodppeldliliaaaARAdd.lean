/-
  The contract of the document's Add.
-/
import Derived.Test.YtodppeldliliaaaAQs
namespace Go.Proofs.Ytodppeldliliaaa
open Go.RowKit
set_option linter.unusedVariables false
set_option linter.unusedSimpArgs false

theorem upd_upd {α : Type} (L : Nat → α) (n : Nat) (x y : α) : upd (upd L n x) n y = upd L n y := by
  funext k; unfold upd; split <;> rfl
theorem upd_same {α : Type} (L : Nat → α) (n : Nat) : upd L n (L n) = L := by
  funext k; unfold upd; split
  · rename_i h; rw [h]
  · rfl

theorem own_new (base : Nat) (w : World) (c : Int) (hb : base ≤ w.heap.size) : Own base (w.alloc (.cells #[.int .u16 c] 31)) (.slice (some ⟨w.heap.size, 0, none⟩) 1 1) [c] :=
  ⟨rfl, .inr ⟨w.heap.size, 1, #[.int .u16 c], rfl, hb, Array.getElem?_push_size, by simp, by simp [maxLen], by simp, by simp [cels]⟩⟩

theorem wp_append_code {w : World} {o : Oper} {a : Act} {K : Act → World → Prop} {Q : Exit → Act → World → Prop} (d s : Operand)
    (ho : o.op = .call { callee := .builtin .append, args := #[d, s], argTypes := #[27, 27] })
    (base b : Nat) (v : Value) (zs : List Int) (c : Int) (hd : a.eval d = v) (hs : a.eval s = .slice (some ⟨b, 0, none⟩) 1 1) (hc : w.cell? ⟨b, 0, none⟩ = some (.int .u16 c)) (hown : Own base w v zs) (hl : zs.length ≤ 8) (hbase : base ≤ w.heap.size)
    (h : ∀ v' w', Own base w' v' (zs ++ [c]) → w.grownBy w' v.ownBlock → (v'.ownBlock = v.ownBlock ∨ v'.ownBlock = some w.heap.size) → K (a.put o.dst v') w') : o.wp Try.prog a w K Q := by
  obtain ⟨i0, hi0, hz0, hz1, hz2⟩ := info_parts Try.info31
  obtain ⟨v', w', hr, h2, h3, h4, h5⟩ := run_append_own_at (P := Try.prog) w base 27 o.type 31 i0 (.int .u16 0) 1 2 Try.underlying27 hi0 hz0 hz1 hz2 rfl (by decide) v zs.length (cels zs) hown ⟨b, 0, none⟩ 1 1 (cels [c]) (by simp) (fun j u hu => by
    have hj : j = 0 := by have := (List.getElem?_eq_some_iff.1 hu).1; simp at this; omega
    subst hj
    rw [Go.WideShapes.add_plain, Nat.zero_add, hc]
    simpa [cels] using hu) (cels_one _) (by unfold maxLen; omega) (by omega) hbase
  unfold Oper.wp execOp
  simp only [ho, resolve, invoke, builtin, Sem.run_bind, Sem.run_pure, Result.andThen_ok, List.map_toArray, List.map_cons, List.map_nil, hd, hs, hr]
  exact h v' w' (by unfold Own; rw [cels_append, List.length_append]; exact h2) h3 h5

theorem grown_alloc (w : World) (o : Obj) (r : Option Nat) : w.grownBy (w.alloc o) r := ⟨rfl, rfl, rfl, by simp, fun k hk _ => Below.heap_alloc _ _ _ hk⟩

set_option maxRecDepth 100000 in
set_option maxHeartbeats 4000000 in
theorem radd_power (base B n : Nat) (L : Nat → List Int) (S : Nat → Value) (w : World) (h : Qu base w B L S) (hn : n < 8) :
    Calls Try.prog 10 #[.pointer (some ⟨B, 0, none⟩), .int .i64 n, .int .u16 10496] w fun e w' => e = .returned (.tuple #[]) ∧ (∃ S', Qu base w' B (upd L n [10496]) S' ∧ Turned w w' B S S') ∧ Below base w w' := by
  have e1 : ¬ (n : Int) < 0 := by omega
  have e2 : ¬ (7 : Int) < (n : Int) := by omega
  have e3 : (n : Int) < 8 := by omega
  have e4 : (0 : Int) ≤ (n : Int) := by omega
  have hcell := h.cells n hn
  have hfr := h.free n
  have hlt := h.lt
  have hK := Kpt.mk h
  clear h
  go_enter Try.func10, Try.ntmps10
  go_wp2
  have hg := grown_alloc w (.cells #[.int .u16 10496] 31) (S n).ownBlock
  have hO := own_new base w 10496 (Nat.le_trans hK.out.le (Nat.le_of_lt hK.out.lt))
  have hor : (Value.slice (some ⟨w.heap.size, 0, none⟩) 1 1).ownBlock = (S n).ownBlock ∨ (Value.slice (some ⟨w.heap.size, 0, none⟩) 1 1).ownBlock = none ∨ ∃ g, (Value.slice (some ⟨w.heap.size, 0, none⟩) 1 1).ownBlock = some g ∧ w.heap.size ≤ g := .inr (.inr ⟨_, rfl, Nat.le_refl _⟩)
  have ec : (w.alloc (.cells #[.int .u16 10496] 31)).setCell ⟨B, n, none⟩ (.slice (some ⟨w.heap.size, 0, none⟩) 1 1) = (w.setCell ⟨B, n, none⟩ (.slice (some ⟨w.heap.size, 0, none⟩) 1 1)).alloc (.cells #[.int .u16 10496] 31) := World.setCell_alloc_past _ _ _ _ hlt
  refine bodyPost_ret (results_none rfl _ _ _) rfl ?_
  rw [← ec]
  exact ⟨rfl, ⟨_, hK.out.turn hn hg hO hor (by simp) (by simp), turned_turn hK.out hn hg hor⟩, below_turn hK.out hn hg⟩

set_option maxRecDepth 100000 in
set_option maxHeartbeats 4000000 in
theorem radd_else (base B n : Nat) (L : Nat → List Int) (S : Nat → Value) (c : Int) (w : World) (h : Qu base w B L S) (hn : n < 8) (hc : 0 ≤ c ∧ c ≤ 65535) (hne : ¬ c = 10496) :
    Calls Try.prog 10 #[.pointer (some ⟨B, 0, none⟩), .int .i64 n, .int .u16 c] w fun e w' => e = .returned (.tuple #[]) ∧ (∃ S', Qu base w' B (upd L n (addL (L n) c)) S' ∧ Turned w w' B S S') ∧ Below base w w' := by
  have e1 : ¬ (n : Int) < 0 := by omega
  have e2 : ¬ (7 : Int) < (n : Int) := by omega
  have e3 : (n : Int) < 8 := by omega
  have e4 : (0 : Int) ≤ (n : Int) := by omega
  have hcell := h.cells n hn
  have hfr := h.free n
  have hlt := h.lt
  obtain ⟨a, cap, hv, hs⟩ := (h.own n hn).shape
  have hO := Kpt.mk (h.own n hn)
  have hfew := h.few n hn
  have hK := Kpt.mk h
  have hkeep : Kpt (addL (L n) c = L n → (∃ S', Qu base w B (upd L n (addL (L n) c)) S' ∧ Turned w w B S S') ∧ Below base w w) := ⟨fun e => ⟨⟨S, by rw [e, upd_same]; exact h, Turned.refl _ _ _⟩, Below.refl _ _⟩⟩
  rw [hv] at hcell hO
  obtain ⟨zs, hzs⟩ : ∃ zs, zs = L n := ⟨_, rfl⟩
  rw [← hzs] at hkeep hcell hs hfew hO hv ⊢
  obtain ⟨m, hm⟩ : ∃ m, m = zs.length := ⟨_, rfl⟩
  rw [← hm] at hcell hs hfew hO hv
  replace hs := Kpt.mk hs
  replace hv := Kpt.mk hv
  replace hm := Kpt.mk hm
  replace hzs := Kpt.mk hzs
  clear h
  go_enter Try.func10, Try.ntmps10
  go_wp2
  go_loopw [6] (fun t wr => ∃ (k : Nat), k ≤ m ∧ t = .int .i64 k ∧ Kpt (¬ c ∈ zs.take k) ∧ wr = w) (fun t _ => m - (intOf t).toNat)
  case atStart => exact ⟨0, Nat.zero_le _, rfl, ⟨by simp⟩, rfl⟩
  case round =>
    obtain ⟨k, hk, rfl, hI, rfl⟩ := hrel
    by_cases hkm : k < m
    · have e5 : (k : Int) < m := by omega
      have hkz : k < zs.length := by rw [← hm.out]; exact hkm
      obtain ⟨g, rfl, hb, hg, hcs⟩ := hs.out (by omega)
      have hck := (hcs k hkm).1
      have hmem : zs.getD k 0 ∈ zs := by rw [List.getD_eq_getElem?_getD, List.getElem?_eq_getElem hkz]; exact List.getElem_mem hkz
      have htk : zs.take (k + 1) = zs.take k ++ [zs.getD k 0] := by rw [List.take_add_one, List.getElem?_eq_getElem hkz, List.getD_eq_getElem?_getD, List.getElem?_eq_getElem hkz]; rfl
      obtain ⟨y, hy⟩ : ∃ y, y = zs.getD k 0 := ⟨_, rfl⟩
      rw [← hy] at hck hmem htk
      clear hcs hy
      by_cases hyc : y = c
      · have hR := Kpt.mk (hkeep.out (by unfold addL; rw [if_neg hne, if_pos (.inr (by rw [← hyc]; exact hmem))]))
        clear hkeep hmem htk hI
        have hyc' : c = y := hyc.symm
        subst hyc'
        clear hyc
        go_wp2
        refine bodyPost_ret (results_none rfl _ _ _) rfl ?_
        exact ⟨rfl, hR.out⟩
      · have hI2 : Kpt (¬ c ∈ zs.take (k + 1)) := ⟨by rw [htk, List.mem_append]; rintro (h | h); exact hI.out h; simp at h; exact hyc h.symm⟩
        clear hmem htk
        go_wp2
        go_roundw
        case rel => exact ⟨k + 1, by omega, by go_num, hI2, by first | rfl | trivial⟩
        case measure => simp [intOf]; omega
    · have e5 : ¬ (k : Int) < m := by omega
      have hno : Kpt (¬ c ∈ zs) := ⟨by have := hI.out; rwa [List.take_of_length_le (by rw [← hm.out]; omega)] at this⟩
      by_cases h8 : 8 ≤ m
      · have e6 : ¬ (m : Int) < 8 := by omega
        have hR := Kpt.mk (hkeep.out (by unfold addL; rw [if_neg hne, if_pos (.inl (by rw [← hm.out]; exact h8))]))
        go_wp2
        refine bodyPost_end (results_none rfl _ _ _) rfl ?_
        exact ⟨rfl, hR.out⟩
      · have e6 : (m : Int) < 8 := by omega
        clear hkeep hs hI
        have hle : base ≤ wr.heap.size := Nat.le_trans hK.out.le (Nat.le_of_lt hlt)
        have hBv : some B ≠ (Value.slice a m cap).ownBlock := fun e => hK.out.other n B hn (by rw [hv.out]; exact e.symm) rfl
        have hO2 : ∀ W, (∀ k, k < wr.heap.size → W.heap[k]? = wr.heap[k]?) → Kpt (Own base W (.slice a m cap) zs) := fun W hW => ⟨hO.out.of_block (fun g hg => hW g (hO.out.lt hg).2)⟩
        have hml : zs.length ≤ 8 := by rw [← hm.out]; omega
        replace hml := Kpt.mk hml
        go_wp2
        refine wp_region_any (by kernel_rfl) ?_
        refine wpAny_of_C (C := fun _ => True) _ _ _ _ ?_
        refine wpAnyC_take 0 (.pointer (some ⟨B, 0, none⟩)) rfl (by kernel_rfl) (by kernel_rfl) (by kernel_rfl) (fun _ _ _ h => h) (by rfl) (fun W hW => by rfl) ?_
        refine wpAnyC_take 1 (.int .i64 n) rfl (by kernel_rfl) (by kernel_rfl) (by kernel_rfl) (fun _ _ _ h => h) (by rfl) (fun W hW => by rfl) ?_
        refine wpAnyC_take 2 (.pointer (some ⟨B, 0, none⟩)) rfl (by kernel_rfl) (by kernel_rfl) (by kernel_rfl) (fun _ _ _ h => h) (by rfl) (fun W hW => by rfl) ?_
        refine wpAnyC_take 3 (.int .i64 n) rfl (by kernel_rfl) (by kernel_rfl) (by kernel_rfl) (fun _ _ _ h => h) (by rfl) (fun W hW => by rfl) ?_
        refine wpAnyC_take 4 (.pointer (some ⟨B, 0, none⟩)) rfl (by kernel_rfl) (by kernel_rfl) (by kernel_rfl) (fun _ _ _ h => h) (by rfl) (fun W hW => by go_simp) ?_
        refine wpAnyC_take 5 (.pointer (some ⟨B, 0, none⟩)) rfl (by kernel_rfl) (by kernel_rfl) (by kernel_rfl) (fun _ _ _ h => h) (by rfl) (fun W hW => by go_simp) ?_
        refine wpAnyC_take 6 (.pointer (some ⟨B, n, none⟩)) rfl (by kernel_rfl) (by kernel_rfl) (by kernel_rfl) (fun _ _ _ h => h) (by rfl) (fun W hW => by go_simp) ?_
        refine wpAnyC_take 8 (.int .u16 c) rfl (by kernel_rfl) (by kernel_rfl) (by kernel_rfl) (fun _ _ _ h => h) (by rfl) (fun W hW => by rfl) ?_
        refine wpAnyC_take 11 (.pointer (some ⟨B, 0, none⟩)) rfl (by kernel_rfl) (by kernel_rfl) (by kernel_rfl) (fun _ _ _ h => h) (by rfl) (fun W hW => by go_simp) ?_
        refine wpAnyC_take 12 (.pointer (some ⟨B, 0, none⟩)) rfl (by kernel_rfl) (by kernel_rfl) (by kernel_rfl) (fun _ _ _ h => h) (by rfl) (fun W hW => by go_simp) ?_
        have fin : ∀ av lv cv (w2 : World), Own base w2 (.slice av lv cv) (zs ++ [c]) → wr.grownBy w2 (Value.slice a m cap).ownBlock → ((Value.slice av lv cv).ownBlock = (Value.slice a m cap).ownBlock ∨ ∃ q, (Value.slice av lv cv).ownBlock = some q ∧ wr.heap.size ≤ q) →
            Ending.returned (.tuple #[]) = Ending.returned (.tuple #[]) ∧ (∃ S', Qu base (w2.setCell ⟨B, n, none⟩ (.slice av lv cv)) B (upd L n (addL zs c)) S' ∧ Turned wr (w2.setCell ⟨B, n, none⟩ (.slice av lv cv)) B S S') ∧ Below base wr (w2.setCell ⟨B, n, none⟩ (.slice av lv cv)) := by
          intro av lv cv w2 ho hg hor
          have ea : addL zs c = zs ++ [c] := by unfold addL; rw [if_neg hne, if_neg (by rintro (h | h); rw [← hm.out] at h; omega; exact hno.out h)]
          rw [← hv.out] at hg hor
          have hor' : (Value.slice av lv cv).ownBlock = (S n).ownBlock ∨ (Value.slice av lv cv).ownBlock = none ∨ ∃ g, (Value.slice av lv cv).ownBlock = some g ∧ wr.heap.size ≤ g := by
            rcases hor with e | e
            · exact .inl e
            · exact .inr (.inr e)
          have hgd : ∀ x ∈ zs ++ [c], 0 ≤ x ∧ x ≤ 65535 := by rw [← ea, hzs.out]; exact addL_good _ _ hc (hK.out.good n hn)
          have hfw : (zs ++ [c]).length ≤ 8 := by rw [List.length_append, ← hm.out]; simp; omega
          rw [ea]
          exact ⟨rfl, ⟨_, hK.out.turn hn hg ho hor' hfw hgd, turned_turn hK.out hn hg hor'⟩, below_turn hK.out hn hg⟩
        refine wpAnyC_two 7 9 trivial rfl rfl (by kernel_rfl) (by rfl) (by rfl) (fun KA hKA => ?_) (fun KA hKA => ?_)
        · go_simp
          refine hKA _ _ ?_
          clear hKA KA
          refine wpAnyC_one 9 trivial rfl (by kernel_rfl) (by rfl) (fun KB hKB => ?_)
          go_simp
          refine hKB _ _ ?_
          clear hKB KB
          refine wpAnyC_one 10 trivial rfl (by kernel_rfl) (by rfl) (fun KC hKC => ?_)
          refine (wp_append_code (.tmp 59) (.tmp 61) rfl base wr.heap.size (.slice a m cap) zs c rfl rfl (by simp) (hO2 _ (fun k hk => Below.heap_alloc _ _ _ hk)).out hml.out (by simp; omega) ?_)
          intro v' w2 ho2 hg2 hor
          have hgw : wr.grownBy w2 (Value.slice a m cap).ownBlock := ⟨hg2.os, hg2.tape, hg2.output, Nat.le_trans (by simp) hg2.size, fun k hk hne => (hg2.block k (by simp; omega) hne).trans (Below.heap_alloc _ _ _ hk)⟩
          have hB1 : w2.heap[B]? = wr.heap[B]? := hgw.block B hlt hBv
          have k1 : w2.cell? ⟨B, n, none⟩ = some (.slice a m cap) := (World.cell?_of_block (w := wr) (w' := w2) (a := ⟨B, n, none⟩) hB1).trans hcell
          have k2 : w2.frozen? ⟨B, n, none⟩ = false := (World.frozen?_of_block (w := wr) (w' := w2) (a := ⟨B, n, none⟩) hB1).trans hfr
          obtain ⟨av, cv, hv', hsh⟩ := ho2.shape
          obtain ⟨lv, hlv⟩ : ∃ l, l = (zs ++ [c]).length := ⟨_, rfl⟩
          rw [← hlv] at hv'
          subst hv'
          replace hlv := Kpt.mk hlv
          replace hgw := Kpt.mk hgw
          replace ho2 := Kpt.mk ho2
          replace hor := Kpt.mk hor
          clear hB1 hsh hg2
          refine hKC _ _ ?_
          clear hKC KC
          refine wpAnyC_take 13 (.pointer (some ⟨B, n, none⟩)) rfl (by kernel_rfl) (by kernel_rfl) (by kernel_rfl) (fun _ _ _ h => h) (by rfl) (fun W hW => by go_simp) ?_
          refine wpAnyC_one 14 trivial rfl (by kernel_rfl) (by rfl) (fun KD hKD => ?_)
          go_simp
          refine hKD _ _ ?_
          clear hKD KD
          refine wpAnyC_done trivial (by kernel_rfl) ?_
          go_wp2
          refine bodyPost_end (results_none rfl _ _ _) rfl ?_
          exact ⟨rfl, (fin _ _ _ w2 ho2.out hgw.out (by rcases hor.out with e | e; exact .inl e; exact .inr ⟨_, e, by simp⟩)).2⟩
        · go_simp
          refine hKA _ _ ?_
          clear hKA KA
          have hcell2 : (wr.drew.alloc (.cells #[.int .u16 c] 31)).cell? ⟨B, n, none⟩ = some (.slice a m cap) := (World.cell?_of_block (w := wr) (a := ⟨B, n, none⟩) (Below.heap_alloc _ _ _ hlt)).trans hcell
          refine wpAnyC_one 7 trivial rfl (by kernel_rfl) (by rfl) (fun KB hKB => ?_)
          go_simp
          refine hKB _ _ ?_
          clear hKB KB hcell2
          refine wpAnyC_one 10 trivial rfl (by kernel_rfl) (by rfl) (fun KC hKC => ?_)
          refine (wp_append_code (.tmp 59) (.tmp 61) rfl base wr.heap.size (.slice a m cap) zs c rfl rfl (by simp) (hO2 _ (fun k hk => Below.heap_alloc _ _ _ hk)).out hml.out (by simp; omega) ?_)
          intro v' w2 ho2 hg2 hor
          have hgw : wr.grownBy w2 (Value.slice a m cap).ownBlock := ⟨hg2.os, hg2.tape, hg2.output, Nat.le_trans (by simp) hg2.size, fun k hk hne => (hg2.block k (by simp; omega) hne).trans (Below.heap_alloc _ _ _ hk)⟩
          have hB1 : w2.heap[B]? = wr.heap[B]? := hgw.block B hlt hBv
          have k1 : w2.cell? ⟨B, n, none⟩ = some (.slice a m cap) := (World.cell?_of_block (w := wr) (w' := w2) (a := ⟨B, n, none⟩) hB1).trans hcell
          have k2 : w2.frozen? ⟨B, n, none⟩ = false := (World.frozen?_of_block (w := wr) (w' := w2) (a := ⟨B, n, none⟩) hB1).trans hfr
          obtain ⟨av, cv, hv', hsh⟩ := ho2.shape
          obtain ⟨lv, hlv⟩ : ∃ l, l = (zs ++ [c]).length := ⟨_, rfl⟩
          rw [← hlv] at hv'
          subst hv'
          replace hlv := Kpt.mk hlv
          replace hgw := Kpt.mk hgw
          replace ho2 := Kpt.mk ho2
          replace hor := Kpt.mk hor
          clear hB1 hsh hg2
          refine hKC _ _ ?_
          clear hKC KC
          refine wpAnyC_take 13 (.pointer (some ⟨B, n, none⟩)) rfl (by kernel_rfl) (by kernel_rfl) (by kernel_rfl) (fun _ _ _ h => h) (by rfl) (fun W hW => by go_simp) ?_
          refine wpAnyC_one 14 trivial rfl (by kernel_rfl) (by rfl) (fun KD hKD => ?_)
          go_simp
          refine hKD _ _ ?_
          clear hKD KD
          refine wpAnyC_done trivial (by kernel_rfl) ?_
          go_wp2
          refine bodyPost_end (results_none rfl _ _ _) rfl ?_
          exact ⟨rfl, (fin _ _ _ w2 ho2.out hgw.out (by rcases hor.out with e | e; exact .inl e; exact .inr ⟨_, e, by simp⟩)).2⟩

/-- The document's Add. -/
theorem radd_any (base B n : Nat) (L : Nat → List Int) (S : Nat → Value) (c : Int) (w : World) (h : Qu base w B L S) (hn : n < 8) (hc : 0 ≤ c ∧ c ≤ 65535) :
    Calls Try.prog 10 #[.pointer (some ⟨B, 0, none⟩), .int .i64 n, .int .u16 c] w fun e w' => e = .returned (.tuple #[]) ∧ (∃ S', Qu base w' B (upd L n (addL (L n) c)) S' ∧ Turned w w' B S S') ∧ Below base w w' := by
  by_cases hp : c = 10496
  · subst hp
    have := radd_power base B n L S w h hn
    unfold addL
    rw [if_pos rfl]
    exact this
  · exact radd_else base B n L S c w h hn hc hp
end Go.Proofs.Ytodppeldliliaaa
