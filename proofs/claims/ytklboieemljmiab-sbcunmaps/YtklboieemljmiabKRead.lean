/-
  The contract of Read of a store.
-/
import Derived.Test.YtklboieemljmiabKFrame
namespace Go.Proofs.Ytklboieemljmiab
open Go.RowKit
set_option linter.unusedVariables false
set_option linter.unusedSimpArgs false

abbrev Byts (zs : List Int) : Prop := B.Bytes zs
theorem up_ok {zs : List Int} (hb : B.Bytes zs) : (upB zs).ok := by
  unfold upB
  split
  · exact empty_ok
  · rename_i h
    have b1 := B.num_bd zs 17 hb 2
    have b2 := B.num_bd zs 19 hb 2
    have b3 := B.num_bd zs 21 hb 4
    simp at b1 b2 b3
    refine ⟨?_, fun x hx => ?_, by simp only; omega, by simp only; omega, by simp only; omega⟩
    · simp only [List.length_take, List.length_drop]; omega
    · have hx' := List.mem_of_mem_drop (List.mem_of_mem_take hx)
      obtain ⟨j, hj, rfl⟩ := List.mem_iff_getElem.1 hx'
      have := hb j
      rw [List.getD_eq_getElem?_getD, List.getElem?_eq_getElem hj] at this
      exact this

theorem unpack_any (v : Value) (ys : List Int) (w : World) (h : Row w v ys) (hb : B.Bytes ys) (hl : ys.length ≤ 25) :
    Calls Try.prog 40 #[v] w fun e w' => e = .returned (.agg (upB ys).vals) ∧ Below w.heap.size w w' := by
  have hr := h.rd
  obtain ⟨a, c, rfl, hn, hlc, hh⟩ := id hr
  by_cases h25 : ys.length < 25
  · have := unpack_empty a ys.length c 0 w (.inl h25)
    unfold upB
    rw [if_pos (.inl h25)]
    exact this
  · have hlen : ys.length = 25 := by omega
    rcases hh with h0 | ⟨b, off, rfl, hcs⟩
    · omega
    have hblt : b < w.heap.size := h.lt rfl
    have hc : ∀ j, j < 25 → w.cell? ⟨b, off + j, none⟩ = some (.int .u8 (ys.getD j 0)) := fun j hj => hcs j _ (by unfold cels; rw [List.getElem?_map, List.getElem?_eq_getElem (by omega), List.getD_eq_getElem?_getD, List.getElem?_eq_getElem (by omega)]; rfl)
    by_cases h1 : ys.getD 0 0 = 1
    · have := unpack_full b off c ys w hlen (by omega) hb hblt hc h1
      unfold upB
      rw [if_neg (by rintro (h | h); exact h25 h; exact h h1), hlen]
      exact this
    · have := unpack_empty (some ⟨b, off, none⟩) ys.length c (ys.getD 0 0) w (.inr ⟨by omega, h1, b, off, rfl, hblt, by have := hc 0 (by decide); rw [Nat.add_zero] at this; exact this⟩)
      unfold upB
      rw [if_pos (.inr h1)]
      exact this

/-- What a block's place has. -/
def bytesAt (F : Option (List Int)) (i : Nat) : List Int := match F with
  | none => []
  | some zs => (zs.drop (i * 25)).take 25
theorem bytesAt_ok {F : Option (List Int)} (h : ∀ zs, F = some zs → B.Bytes zs) (i : Nat) : B.Bytes (bytesAt F i) ∧ (bytesAt F i).length ≤ 25 := by
  cases F with
  | none => exact ⟨fun j => by simp [bytesAt], by simp [bytesAt]⟩
  | some zs =>
    refine ⟨fun j => ?_, by simp only [bytesAt, List.length_take]; omega⟩
    have := h zs rfl (i * 25 + j)
    simp only [bytesAt]
    rw [List.getD_eq_getElem?_getD] at this ⊢
    rw [List.getElem?_take]
    split
    · rw [List.getElem?_drop]; exact this
    · simp
def rdSt (st : St) (k : Nat) : St := { st with ops := st.ops + k, cnt := st.cnt + k }

theorem read_both (w : World) (B : Nat) (tag : Tags) (st : St) (h : Wd w B tag st) (hc : st.cnt < 549755813888) (hf : st.fails st.ops = false) (s : ByteArray) (h1 : 1 ≤ s.size) (h2 : s.size ≤ 32) (i : Nat) (hi : i ≤ 10000) :
    Calls Try.prog 38 #[.pointer (some ⟨B, 0, none⟩), .string s, .int .i64 ((i * 25 : Nat) : Int), .int .i64 25] w fun e w' => ∃ v x, e = .returned (.tuple #[v, .int .i64 x]) ∧ (x = 0 ∨ x = 8) ∧ Wd w' B tag { st with ops := st.ops + 1, cnt := st.cnt + 1 } ∧ Step w w' tag tag (fun _ => True) ∧ Row w' v (bytesAt (st.seen s) i) := by
  cases hs : st.seen s with
  | none =>
    refine (read_none w B tag st h hc hf s h1 h2 (i * 25) 25 hs).mono ?_
    rintro e w' ⟨he, g1, g2⟩
    exact ⟨_, _, he, .inr rfl, g1, g2, World.ownsRow_nil _ _ _ _⟩
  | some zs =>
    refine (read_ok w B tag st h hc hf s h1 h2 (i * 25) 25 (by decide) (by omega) zs hs).mono ?_
    rintro e w' ⟨v, he, g1, g2, g3, _⟩
    exact ⟨v, _, he, .inl rfl, g1, g2, g3⟩

/-- A row of n blocks of which the first k are laid. -/
structure Rw (w : World) (tag : Tags) (g n k : Nat) (bl : Nat → Bk) : Prop where
  lt : g < w.heap.size
  bare : tag g = none
  there : w.there g 0 (n * 19)
  done : ∀ j, j < k → w.rangeAt g (j * 19) (bl j).cs
theorem Rw.step {w w' : World} {tag tag' : Tags} {X : Tag → Prop} {g n k : Nat} {bl : Nat → Bk} (h : Rw w tag g n k bl) (s : Step w w' tag tag' X) : Rw w' tag' g n k bl := by
  have hb : w'.heap[g]? = w.heap[g]? := s.block g h.lt (fun t _ e => by rw [h.bare] at e; cases e)
  exact ⟨Nat.lt_of_lt_of_le h.lt s.size, s.bare g h.lt h.bare, fun j hj => by rw [World.cell?_of_block (w := w) (a := ⟨g, 0 + j, none⟩) hb, World.frozen?_of_block (w := w) (a := ⟨g, 0 + j, none⟩) hb]; exact h.there j hj, fun j hj => rangeAt_keep (h.done j hj) hb⟩
theorem Rw.set {w : World} {tag : Tags} {g n k : Nat} {bl : Nat → Bk} (h : Rw w tag g n k bl) (hk : k < n) (hc : (bl k).cs.length = 19) (hcs : ∀ j, j < k → (bl j).cs.length = 19) : Rw (w.setCells g (k * 19) (bl k).cs) tag g n (k + 1) bl := by
  have hg := grown_setCells g (bl k).cs (k * 19) w
  have hsub : w.there g (k * 19) (bl k).cs.length := fun j hj => by
    have := h.there (k * 19 + j) (by rw [hc] at hj; omega)
    rw [Nat.zero_add] at this
    exact this
  refine ⟨Nat.lt_of_lt_of_le h.lt hg.size, h.bare, World.there_setCells h.there _ _ _, fun j hj => ?_⟩
  by_cases e : j = k
  · subst e; exact World.rangeAt_setCells_same w g (j * 19) _ hsub
  · exact World.rangeAt_setCells_apart (h.done j (by omega)) g (k * 19) _ (.inr (.inl (by rw [hcs j (by omega)]; omega)))

theorem cs_len (b : Bk) (h : b.ok) : b.cs.length = 19 := by simp [Bk.cs, h.len]
theorem infoB3 : (Try.prog.info? 81).map (fun i => (i.zero, i.size, i.bytes)) = some (some (.agg zeroB), 19, 24) := by kernel_rfl

set_option maxRecDepth 100000 in
set_option maxHeartbeats 4000000 in
theorem kread_any (w : World) (B : Nat) (tag : Tags) (st : St) (S N lba n : Nat) (f : ByteArray) (ca : Bool) (h : Wd w B tag st) (hs : Sto w tag S B f N ca) (hf1 : 1 ≤ f.size) (hf2 : f.size ≤ 32) (hN : N ≤ 4096)
    (hc : st.cnt < 500000000000) (hf : ∀ i, st.fails i = false) (hby : ∀ zs, st.seen f = some zs → Byts zs) (hin : lba + n ≤ N) :
    Calls Try.prog 23 #[.pointer (some ⟨S, 0, none⟩), .int .i64 lba, .int .i64 n] w fun e w' => ∃ g, e = .returned (.tuple #[.slice (some ⟨g, 0, none⟩) n n, .int .i64 n, .int .i64 0]) ∧ Wd w' B tag (rdSt st n) ∧ Step w w' tag tag (fun _ => True) ∧ Rw w' tag g n n (fun j => upB (bytesAt (st.seen f) (lba + j))) ∧ w.heap.size ≤ g := by
  have HH := Kpt.mk (has_any w tag S B N f ca lba n hs hN (by omega) (by omega))
  rw [decide_eq_true (show 0 ≤ (lba : Int) ∧ 0 ≤ (n : Int) ∧ (lba : Int) + n ≤ N from by omega)] at HH
  obtain ⟨bl, hbl⟩ : ∃ bl : Nat → Bk, bl = fun j => upB (bytesAt (st.seen f) (lba + j)) := ⟨_, rfl⟩
  rw [← hbl]
  have hblk : Kpt (∀ k, (bl k).ok) := ⟨fun k => by rw [hbl]; exact up_ok (bytesAt_ok hby _).1⟩
  have HU : Kpt (∀ k v W, Row W v (bytesAt (st.seen f) (lba + k)) → Calls Try.prog 40 #[v] W fun e w' => e = .returned (.agg (bl k).vals) ∧ Below W.heap.size W w') := ⟨fun k v W hv => by rw [hbl]; exact unpack_any v _ W hv (bytesAt_ok hby _).1 (bytesAt_ok hby _).2⟩
  have hK := Kpt.mk h
  have hsK := Kpt.mk hs
  replace hf := Kpt.mk hf
  obtain ⟨i0, hi0, hz0, hz1, hz2⟩ := info_parts infoB3
  replace hi0 := Kpt.mk hi0
  replace hz0 := Kpt.mk hz0
  replace hz1 := Kpt.mk hz1
  replace hz2 := Kpt.mk hz2
  clear h hs hbl hby
  go_enter Try.func23, Try.ntmps23
  go_wp2_with (first
    | (go_at_call 37; refine HH.out.mono ?_; rintro e w ⟨rfl, hw'⟩; subst hw')
    | (at_make; refine wpList_make_full _ rfl _ _ 60 rfl w.heap.size 81 i0 (.agg zeroB) 19 Try.underlying60 hi0.out hz0.out hz1.out .i64 .i64 _ _ n rfl rfl rfl rfl (by rw [hz2.out]; omega) (by unfold maxLen; omega) (Nat.le_refl _) ?_; intro w1 hown hgr; replace hown := Kpt.mk hown; replace hgr := Kpt.mk hgr))

  have hbe1 : Kpt (Below w.heap.size w w1) := ⟨(Below.refl _ _).grown hgr.out (Nat.le_refl _) (fun k hk => by cases hk)⟩
  have hg0 : tag w.heap.size = none := by
    cases ht : tag w.heap.size with
    | none => rfl
    | some t => have := hK.out.lt w.heap.size (by rw [ht]; simp); omega
  have hR1 : Kpt (Rw w1 tag w.heap.size n 0 bl) := ⟨⟨(World.ownsRow.lt hown.out w.heap.size rfl).2, hg0, fun j hj => ⟨by rw [Nat.zero_add, hown.out.cellAt j (by omega)]; have hl := hown.out.1; rw [List.getElem?_eq_getElem (by omega)]; rfl, by rw [Nat.zero_add]; exact hown.out.frozenAt j⟩, fun j hj => by omega⟩⟩
  have hSt1 : Kpt (Step w w1 tag tag (fun _ => True)) := ⟨step_below hbe1.out tag _⟩
  have hW1 : Kpt (Wd w1 B tag (rdSt st 0)) := ⟨by have := hK.out.step (step_below hbe1.out tag (fun _ => False)); simpa [rdSt] using this⟩
  obtain ⟨G, hG⟩ : ∃ G, G = w.heap.size := ⟨_, rfl⟩
  rw [← hG] at hR1 ⊢
  have hGw : w.heap.size ≤ G := by omega
  clear hown hgr hbe1 hg0 hK HH hG hi0 hz0 hz1 hz2
  go_loopw [23] (fun t wr => ∃ (k : Nat), k ≤ n ∧ t = .int .i64 k ∧ Kpt (Wd wr B tag (rdSt st k)) ∧ Kpt (Step w wr tag tag (fun _ => True)) ∧ Kpt (Rw wr tag G n k bl)) (fun t _ => n - (intOf t).toNat)
  case atStart => exact ⟨0, Nat.zero_le _, rfl, hW1, hSt1, hR1⟩
  case round =>
    obtain ⟨k, hk, rfl, hW, hSt, hR⟩ := hrel
    clear hW1 hSt1 hR1
    have hsK1 := Kpt.mk (hsK.out.step hSt.out)
    by_cases hlt : k < n
    · have e1 : (k : Int) < n := by omega
      have HPl : Kpt (∀ W, Calls Try.prog 39 #[.int .i64 ((lba : Int) + k)] W fun e w' => e = .returned (.int .i64 (((lba + k) * 25 : Nat) : Int)) ∧ w' = W) := ⟨fun W => by have := place_any (lba + k) W (by omega); rw [Int.natCast_add] at this; exact this⟩
      have HRd : Kpt (∀ W, Wd W B tag (rdSt st k) → Calls Try.prog 38 #[.pointer (some ⟨B, 0, none⟩), .string f, .int .i64 (((lba + k) * 25 : Nat) : Int), .int .i64 25] W fun e w' => ∃ v x, e = .returned (.tuple #[v, .int .i64 x]) ∧ (x = 0 ∨ x = 8) ∧ Wd w' B tag (rdSt st (k + 1)) ∧ Step W w' tag tag (fun _ => True) ∧ Row w' v (bytesAt (st.seen f) (lba + k))) := ⟨fun W hW => by
        refine (read_both W B tag (rdSt st k) hW (by simp only [rdSt]; omega) (hf.out _) f hf1 hf2 (lba + k) (by omega)).mono ?_
        rintro e w' ⟨v, x, h1, h2, h3, h4, h5⟩
        exact ⟨v, x, h1, h2, by have : rdSt st (k + 1) = { rdSt st k with ops := (rdSt st k).ops + 1, cnt := (rdSt st k).cnt + 1 } := by simp [rdSt]; omega
                                rw [this]; exact h3, h4, h5⟩⟩
      have hC1 := Kpt.mk (And.intro hsK1.out.c0 (And.intro hsK1.out.c1 hsK1.out.lt))
      go_wp2_with fail
      refine wp_region_any (by kernel_rfl) ?_
      refine wpAny_of_C (C := fun W => W.cell? ⟨S, 0, none⟩ = some (.pointer (some ⟨B, 0, none⟩)) ∧ W.cell? ⟨S, 1, none⟩ = some (.string f) ∧ S < W.heap.size) _ _ _ _ ?_
      refine wpAnyC_take 0 (.pointer (some ⟨S, 0, none⟩)) rfl (by kernel_rfl) (by kernel_rfl) (by kernel_rfl) (fun _ _ _ h => h) (wanted_free rfl _) (fun W hW => by have h0 := hW.1; have h1 := hW.2.1; have h2 := hW.2.2; go_simp) ?_
      simp only [Act.put, List.getElem_toArray, List.getElem_cons_succ, List.getElem_cons_zero, List.setIfInBounds_toArray, List.set_cons_succ, List.set_cons_zero]
      refine wpAnyC_take 1 (.pointer (some ⟨S, 0, none⟩)) rfl (by kernel_rfl) (by kernel_rfl) (by kernel_rfl) (fun _ _ _ h => h) (wanted_free rfl _) (fun W hW => by have h0 := hW.1; have h1 := hW.2.1; have h2 := hW.2.2; go_simp) ?_
      simp only [Act.put, List.getElem_toArray, List.getElem_cons_succ, List.getElem_cons_zero, List.setIfInBounds_toArray, List.set_cons_succ, List.set_cons_zero]
      refine wpAnyC_take 2 (.pointer (some ⟨S, 0, none⟩)) rfl (by kernel_rfl) (by kernel_rfl) (by kernel_rfl) (fun _ _ _ h => h) (wanted_free rfl _) (fun W hW => by have h0 := hW.1; have h1 := hW.2.1; have h2 := hW.2.2; go_simp) ?_
      simp only [Act.put, List.getElem_toArray, List.getElem_cons_succ, List.getElem_cons_zero, List.setIfInBounds_toArray, List.set_cons_succ, List.set_cons_zero]
      refine wpAnyC_take 3 (.pointer (some ⟨B, 0, none⟩)) rfl (by kernel_rfl) (by kernel_rfl) (by kernel_rfl) (fun _ _ _ h => h) (wanted_free rfl _) (fun W hW => by have h0 := hW.1; have h1 := hW.2.1; have h2 := hW.2.2; go_simp) ?_
      simp only [Act.put, List.getElem_toArray, List.getElem_cons_succ, List.getElem_cons_zero, List.setIfInBounds_toArray, List.set_cons_succ, List.set_cons_zero]
      refine wpAnyC_take 4 (.pointer (some ⟨S, 0, none⟩)) rfl (by kernel_rfl) (by kernel_rfl) (by kernel_rfl) (fun _ _ _ h => h) (wanted_free rfl _) (fun W hW => by have h0 := hW.1; have h1 := hW.2.1; have h2 := hW.2.2; go_simp) ?_
      simp only [Act.put, List.getElem_toArray, List.getElem_cons_succ, List.getElem_cons_zero, List.setIfInBounds_toArray, List.set_cons_succ, List.set_cons_zero]
      refine wpAnyC_take 5 (.pointer (some ⟨S, 0, none⟩)) rfl (by kernel_rfl) (by kernel_rfl) (by kernel_rfl) (fun _ _ _ h => h) (wanted_free rfl _) (fun W hW => by have h0 := hW.1; have h1 := hW.2.1; have h2 := hW.2.2; go_simp) ?_
      simp only [Act.put, List.getElem_toArray, List.getElem_cons_succ, List.getElem_cons_zero, List.setIfInBounds_toArray, List.set_cons_succ, List.set_cons_zero]
      refine wpAnyC_take 6 (.pointer (some ⟨S, 1, none⟩)) rfl (by kernel_rfl) (by kernel_rfl) (by kernel_rfl) (fun _ _ _ h => h) (wanted_free rfl _) (fun W hW => by have h0 := hW.1; have h1 := hW.2.1; have h2 := hW.2.2; go_simp) ?_
      simp only [Act.put, List.getElem_toArray, List.getElem_cons_succ, List.getElem_cons_zero, List.setIfInBounds_toArray, List.set_cons_succ, List.set_cons_zero]
      refine wpAnyC_take 7 (.string f) rfl (by kernel_rfl) (by kernel_rfl) (by kernel_rfl) (fun _ _ _ h => h) (wanted_free rfl _) (fun W hW => by have h0 := hW.1; have h1 := hW.2.1; have h2 := hW.2.2; go_simp) ?_
      simp only [Act.put, List.getElem_toArray, List.getElem_cons_succ, List.getElem_cons_zero, List.setIfInBounds_toArray, List.set_cons_succ, List.set_cons_zero]
      refine wpAnyC_take 8 (.int .i64 lba) rfl (by kernel_rfl) (by kernel_rfl) (by kernel_rfl) (fun _ _ _ h => h) (wanted_free rfl _) (fun W hW => by have h0 := hW.1; have h1 := hW.2.1; have h2 := hW.2.2; go_simp) ?_
      simp only [Act.put, List.getElem_toArray, List.getElem_cons_succ, List.getElem_cons_zero, List.setIfInBounds_toArray, List.set_cons_succ, List.set_cons_zero]
      refine wpAnyC_take 9 (.int .i64 k) rfl (by kernel_rfl) (by kernel_rfl) (by kernel_rfl) (fun _ _ _ h => h) (wanted_free rfl _) (fun W hW => by have h0 := hW.1; have h1 := hW.2.1; have h2 := hW.2.2; go_simp) ?_
      simp only [Act.put, List.getElem_toArray, List.getElem_cons_succ, List.getElem_cons_zero, List.setIfInBounds_toArray, List.set_cons_succ, List.set_cons_zero]
      refine wpAnyC_take 10 (.int .i64 ((lba : Int) + k)) rfl (by kernel_rfl) (by kernel_rfl) (by kernel_rfl) (fun _ _ _ h => h) (wanted_free rfl _) (fun W hW => by first | (go_simp; done) | (go_simp; rw [IntKind.wrap_i64]; omega)) ?_
      simp only [Act.put, List.getElem_toArray, List.getElem_cons_succ, List.getElem_cons_zero, List.setIfInBounds_toArray, List.set_cons_succ, List.set_cons_zero]
      refine wpAnyC_one 11 hC1.out rfl (by kernel_rfl) (wanted_free rfl _) (fun KA hKA => ?_)
      go_simp
      refine (HPl.out _).mono ?_
      rintro e wA ⟨rfl, rfl⟩
      refine hKA _ _ ?_
      try simp only [Act.put, List.getElem_toArray, List.getElem_cons_succ, List.getElem_cons_zero, List.setIfInBounds_toArray, List.set_cons_succ, List.set_cons_zero]
      clear hKA KA
      refine wpAnyC_one 12 hC1.out rfl (by kernel_rfl) (wanted_free rfl _) (fun KA hKA => ?_)
      go_simp
      refine (HRd.out _ (hW.out.step (step_below (below_drewN (Below.refl _ wr) 1) tag (fun _ => False)))).mono ?_
      rintro e w2 ⟨v2, x2, rfl, hx2, hW2, hSt2, hrow2⟩
      have hS2 := hsK1.out.step (show Step wr w2 tag tag (fun _ => True) from (step_below (below_drewN (Below.refl _ wr) 1) tag _).trans hSt2)
      have hR2 := hR.out.step (show Step wr w2 tag tag (fun _ => True) from (step_below (below_drewN (Below.refl _ wr) 1) tag _).trans hSt2)
      have hSt3 : Kpt (Step w w2 tag tag (fun _ => True)) := ⟨hSt.out.trans ((step_below (below_drewN (Below.refl _ wr) 1) tag _).trans hSt2)⟩
      refine hKA _ _ ?_
      try simp only [Act.put, List.getElem_toArray, List.getElem_cons_succ, List.getElem_cons_zero, List.setIfInBounds_toArray, List.set_cons_succ, List.set_cons_zero]
      clear hKA KA
      refine wpAnyC_take 13 (.tuple #[v2, .int .i64 x2]) rfl (by kernel_rfl) (by kernel_rfl) (by kernel_rfl) (fun _ _ _ h => h) (wanted_free rfl _) (fun W hW => by have h0 := hW.1; have h1 := hW.2.1; have h2 := hW.2.2; go_simp) ?_
      simp only [Act.put, List.getElem_toArray, List.getElem_cons_succ, List.getElem_cons_zero, List.setIfInBounds_toArray, List.set_cons_succ, List.set_cons_zero]
      refine wpAnyC_take 14 (v2) rfl (by kernel_rfl) (by kernel_rfl) (by kernel_rfl) (fun _ _ _ h => h) (wanted_free rfl _) (fun W hW => by have h0 := hW.1; have h1 := hW.2.1; have h2 := hW.2.2; go_simp) ?_
      simp only [Act.put, List.getElem_toArray, List.getElem_cons_succ, List.getElem_cons_zero, List.setIfInBounds_toArray, List.set_cons_succ, List.set_cons_zero]
      refine wpAnyC_take 15 (.int .i64 x2) rfl (by kernel_rfl) (by kernel_rfl) (by kernel_rfl) (fun _ _ _ h => h) (wanted_free rfl _) (fun W hW => by have h0 := hW.1; have h1 := hW.2.1; have h2 := hW.2.2; go_simp) ?_
      simp only [Act.put, List.getElem_toArray, List.getElem_cons_succ, List.getElem_cons_zero, List.setIfInBounds_toArray, List.set_cons_succ, List.set_cons_zero]
      refine wpAnyC_take 16 (v2) rfl (by kernel_rfl) (by kernel_rfl) (by kernel_rfl) (fun _ _ _ h => h) (wanted_free rfl _) (fun W hW => by have h0 := hW.1; have h1 := hW.2.1; have h2 := hW.2.2; go_simp) ?_
      simp only [Act.put, List.getElem_toArray, List.getElem_cons_succ, List.getElem_cons_zero, List.setIfInBounds_toArray, List.set_cons_succ, List.set_cons_zero]
      refine wpAnyC_take 17 (.int .i64 x2) rfl (by kernel_rfl) (by kernel_rfl) (by kernel_rfl) (fun _ _ _ h => h) (wanted_free rfl _) (fun W hW => by have h0 := hW.1; have h1 := hW.2.1; have h2 := hW.2.2; go_simp) ?_
      simp only [Act.put, List.getElem_toArray, List.getElem_cons_succ, List.getElem_cons_zero, List.setIfInBounds_toArray, List.set_cons_succ, List.set_cons_zero]
      refine wpAnyC_done ⟨hS2.c0, hS2.c1, hS2.lt⟩ (by kernel_rfl) ?_
      have HU2 := Kpt.mk (HU.out k v2 w2 hrow2)
      have hok := hblk.out k
      have hthere : Kpt (∀ W, Rw W tag G n k bl → W.there G (k * 19) 19) := ⟨fun W hRW j hj => by have := hRW.there (k * 19 + j) (by omega); rw [Nat.zero_add] at this; exact this⟩
      have hone := Kpt.mk (bl k).one
      have hsz := Kpt.mk (Bk.size hok)
      have hset : Kpt (∀ W, Rw W tag G n k bl → Rw (W.setCells G (k * 19) (bl k).cs) tag G n (k + 1) bl) := ⟨fun W hRW => hRW.set hlt (cs_len _ hok) (fun j hj => cs_len _ (hblk.out j))⟩
      obtain ⟨V, hV⟩ : ∃ V, V = (bl k).vals := ⟨_, rfl⟩
      have hVc : (bl k).cs = V.toList := by rw [hV]; rfl
      rw [← hV] at HU2 hone hsz
      rw [hVc] at hset
      replace hW2 := Kpt.mk hW2
      replace hR2 := Kpt.mk hR2
      clear hV hVc hok hS2 hrow2 HRd HPl hC1 hSt2
      rcases hx2 with rfl | rfl
      all_goals
        go_wp2_with (first
          | (go_at_call 40; refine HU2.out.mono ?_; rintro e w3 ⟨rfl, hb3⟩; have hR3 := Kpt.mk (hR2.out.step (step_below hb3 tag (fun _ => True))); have hW3 := Kpt.mk (hW2.out.step (step_below hb3 tag (fun _ => False))); have hSt4 : Kpt (Step w w3 tag tag (fun _ => True)) := ⟨hSt3.out.trans (step_below hb3 tag _)⟩; clear hb3)
          | (refine wpList_store_mid rfl 81 (.tmp 54) (.tmp 53) rfl G (k * 19) V rfl rfl (by rw [hsz.out]; exact hthere.out _ hR3.out) (by rw [hsz.out]; exact infoB) hone.out ?_; obtain ⟨w4, hw4⟩ : ∃ w4, w4 = w3.setCells G (k * 19) V.toList := ⟨_, rfl⟩; have hR4 : Kpt (Rw w4 tag G n (k + 1) bl) := ⟨by rw [hw4]; exact hset.out _ hR3.out⟩; have hg4 := grown_setCells G V.toList (k * 19) w3; rw [← hw4] at hg4; have hW4 := Kpt.mk (hW3.out.own hg4 hR3.out.bare); have hSt5 : Kpt (Step w w4 tag tag (fun _ => True)) := ⟨hSt4.out.own hg4 hGw⟩; rw [← hw4]; clear hw4 hg4)
          | fail)
        go_roundw
        case rel => exact ⟨k + 1, by omega, by go_num, hW4, hSt5, hR4⟩
        case measure => simp [intOf]; omega
    · have e1 : ¬ (k : Int) < n := by omega
      have ek : k = n := by omega
      subst ek
      go_wp2
      go_ret3
      exact ⟨G, rfl, hW.out, hSt.out, hR.out, hGw⟩

end Go.Proofs.Ytklboieemljmiab
