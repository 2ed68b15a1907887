/-
  The contract of apply: a change is done to files.
-/
import Derived.Test.YtndlpmnidpandaaState
import Derived.Test.YtndlpmnidpandaaOrder
namespace Go.Proofs.Ytndlpmnidpandaa
open Go.RowKit Go.Maps
set_option linter.unusedVariables false
set_option linter.unusedSimpArgs false

/-- What a step of apply leaves. -/
structure Applied (w w' : World) (tag tag' : Tags) (T : ByteArray → Tag) (mt : Tag) (M n : Nat) (F' : FilesF) (f' : ByteArray → Option Value) : Prop where
  map : MapIs w' M n f'
  files : Files w' tag' T f' F'
  step : Step w w' tag tag' (fun t => t = mt ∨ ∃ s, t = T s)
  tM : tag' M = some mt
  lt : ∀ i, tag' i ≠ none → i < w'.heap.size

theorem grown_mapTurned {w w' : World} {M : Nat} (h : w.mapTurned w' M) : w.grownBy w' (some M) := h.grown

theorem size32 {s : ByteArray} (h : s.size ≤ 32) : s.size ≤ maxLen := Nat.le_trans h (by unfold maxLen; omega)

/-- The memory behind laid and the store into the map. -/
theorem applied_wr {w0 w1 w2 : World} {tag : Tags} {T : ByteArray → Tag} {mt : Tag} {M n : Nat} {f : ByteArray → Option Value} {F : FilesF} {s : ByteArray} {v v' : Value} {ds : List Int} {off : Nat}
    (hTi : ∀ a b, T a = T b → a = b) (hTm : ∀ a, T a ≠ mt) (ht : tag M = some mt) (hlt : ∀ i, tag i ≠ none → i < w0.heap.size)
    (hfiles : Files w0 tag T f F) (hv : v = (f s).getD (.slice none 0 0)) (ho : off + ds.length ≤ 1048576)
    (hrow : Row w1 v' (laidL ((F s).getD []) off ds)) (hg : w0.grownBy w1 v.ownBlock) (hblk : v'.ownBlock = v.ownBlock ∨ ∃ g, v'.ownBlock = some g ∧ w0.heap.size ≤ g)
    (hmap : MapIs w2 M (n + 1) (updF f s (some v'))) (hturn : w1.mapTurned w2 M) :
    ∃ tag', Applied w0 w2 tag tag' T mt M (n + 1) (updF F s (some (laidL ((F s).getD []) off ds))) (updF f s (some v')) := by
  have hlen : (laidL ((F s).getD []) off ds).length ≤ 1048576 := by
    rw [laidL_length]
    have := hfiles s
    cases hF : F s with
    | none => simp; omega
    | some zs => rw [hF] at this; have := this.1; simp; omega
  have hvt : ∀ g, v.ownBlock = some g → tag g = some (T s) := by
    intro g hg'
    have := hfiles s
    cases hF : F s with
    | none => rw [hF] at this; rw [hv, this] at hg'; simp [Value.ownBlock] at hg'
    | some zs => rw [hF] at this; obtain ⟨_, x, hx, _, hxt⟩ := this; rw [hv, hx] at hg'; exact hxt g hg'
  obtain ⟨tag', htag'⟩ : ∃ tag' : Tags, tag' = fun i => if v'.ownBlock = some i then some (T s) else tag i := ⟨_, rfl⟩
  have hXs : ∀ t, (t = mt ∨ t = T s) → (t = mt ∨ ∃ s, t = T s) := fun t h => h.imp id (fun h => ⟨s, h⟩)
  have s1 : Step w0 w1 tag tag (fun t => t = mt ∨ t = T s) := by
    cases hb : v.ownBlock with
    | none => rw [hb] at hg; exact Step.grown hg _ _
    | some g => rw [hb] at hg; exact Step.turned hg tag (hvt g hb) (.inr rfl)
  have hM1 : w1.heap.size ≤ w2.heap.size := hturn.grown.size
  have s2 : Step w1 w2 tag tag (fun t => t = mt ∨ t = T s) := Step.turned hturn.grown tag ht (.inl rfl)
  have s12 := s1.trans s2
  have hrow2 : Row w2 v' (laidL ((F s).getD []) off ds) := hrow.of_block (fun g hg' => by
    have hne : g ≠ M := by
      intro e; subst e
      rcases hblk with hb | ⟨g', hb, hge⟩
      · rw [hb] at hg'; have h1 := hvt g hg'; rw [ht] at h1; cases h1; exact hTm s rfl
      · rw [hb] at hg'; cases hg'; have := hlt _ (by rw [ht]; simp); omega
    exact hturn.grown.block g (hrow.lt hg') (fun e => hne (by cases e; rfl)))
  have st : Step w0 w2 tag tag' (fun t => t = mt ∨ t = T s) := by
    rcases hblk with hb | ⟨g, hb, hge⟩
    · have : tag' = tag := by
        rw [htag']; funext i
        by_cases e : v'.ownBlock = some i
        · rw [if_pos e]; rw [hb] at e; exact (hvt i e).symm
        · rw [if_neg e]
      rw [this]; exact s12
    · have hgl : g < w2.heap.size := hrow2.lt hb
      have : tag' = fun i => if i = g then some (T s) else tag i := by
        rw [htag']; funext i
        by_cases e : i = g
        · subst e; simp [hb]
        · have e' : ¬ g = i := fun h => e h.symm
          simp [hb, e, e']
      rw [this]
      exact s12.tagged g hge hgl (.inr rfl) hlt
  refine ⟨tag', hmap, ?_, st.weaken hXs, ?_, st.lt hlt⟩
  · intro t
    by_cases e : t = s
    · subst e
      simp only [updF_same]
      exact ⟨hlen, v', rfl, hrow2, fun g hg' => by rw [htag']; simp [hg']⟩
    · rw [updF_other _ _ e, updF_other _ _ e]
      have := hfiles t
      cases hF : F t with
      | none => rw [hF] at this; exact this
      | some zs =>
        rw [hF] at this
        obtain ⟨hl, x, hx, hr, hxt⟩ := this
        have hnX : ¬ (T t = mt ∨ T t = T s) := by
          rintro (h | h)
          · exact hTm t h
          · exact e (hTi t s h)
        exact ⟨hl, x, hx, hr.of_block (fun g hg' => (st.keep (hr.lt hg') (hxt g hg') hnX).1), fun g hg' => (st.keep (hr.lt hg') (hxt g hg') hnX).2⟩
  · rw [htag']
    by_cases e : v'.ownBlock = some M
    · exfalso
      rcases hblk with hb | ⟨g, hb, hge⟩
      · rw [hb] at e; have h1 := hvt M e; rw [ht] at h1; cases h1; exact hTm s rfl
      · rw [hb] at e; cases e; have := hlt _ (by rw [ht]; simp); omega
    · simp [e, ht]

set_option maxRecDepth 100000 in
set_option maxHeartbeats 2000000 in
theorem apply_wr (w : World) (tag : Tags) (T : ByteArray → Tag) (mt : Tag) (M n : Nat) (f : ByteArray → Option Value) (F : FilesF) (s nm : ByteArray) (off : Nat) (ds : List Int) (dv : Value)
    (hTi : ∀ a b, T a = T b → a = b) (hTm : ∀ a, T a ≠ mt) (ht : tag M = some mt) (hlt : ∀ i, tag i ≠ none → i < w.heap.size)
    (hmap : MapIs w M n f) (hfiles : Files w tag T f F) (hn : n < 1099511627776) (hs : s.size ≤ 32) (ho : off + ds.length ≤ 1048576) (hrd : RdAt w dv ds) (hdt : ∀ g, dv.ownBlock = some g → tag g = some .dt ∨ g < w.heap.size ∧ tag g = none) (hTd : ∀ a, T a ≠ .dt) :
    Calls Try.prog 50 #[.agg #[.int .i64 0, .string s, .string nm, .int .i64 (off : Int), dv], .map (some M)] w fun e w' => e = .returned (.tuple #[]) ∧
      ∃ tag' f', Applied w w' tag tag' T mt M (n + 1) (updF F s (some (laidL ((F s).getD []) off ds))) f' := by
  obtain ⟨da, dc, rfl, hdn⟩ := rd_shape hrd
  obtain ⟨v, hv⟩ : ∃ v, v = (f s).getD (.slice none 0 0) := ⟨_, rfl⟩
  have hMlt := hmap.lt
  -- behind the box
  obtain ⟨w0, hw0⟩ : ∃ w0, w0 = w.alloc (.cells #[.int .i64 0, .string s, .string nm, .int .i64 (off : Int), .slice da ds.length dc] 83) := ⟨_, rfl⟩
  have hgr0 : w.grownBy w0 none := by rw [hw0]; exact World.grownBy_alloc w _ none
  have hmap0 : MapIs w0 M n f := hmap.of_block (hgr0.block M hMlt (by simp))
  have hfiles0 : Files w0 tag T f F := hfiles.step (Step.grown hgr0 tag (fun _ => False)) (by simp)
  have hlook : (Instr.lookup 67 (.map (some M)) (.string s) false).run Try.prog w0.drew = .ok v w0.drew := by rw [hv]; exact MapIs.look (w := w0.drew) hmap0 (size32 hs)
  have hsz0 : w.heap.size < w0.heap.size := by rw [hw0]; simp
  obtain ⟨b0, hb0⟩ : ∃ b0, b0 = w.heap.size := ⟨_, rfl⟩
  have hh0 : w0.heap[b0]? = some (.cells #[.int .i64 0, .string s, .string nm, .int .i64 (off : Int), .slice da ds.length dc] 83 (0, 0)) := by rw [hw0, hb0]; exact heap_alloc_new w _
  have c1 : w0.cell? ⟨b0, 1, none⟩ = some (.string s) := by simp [World.cell?, hh0]
  have c3 : w0.cell? ⟨b0, 3, none⟩ = some (.int .i64 (off : Int)) := by simp [World.cell?, hh0]
  have c4 : w0.cell? ⟨b0, 4, none⟩ = some (.slice da ds.length dc) := by simp [World.cell?, hh0]
  have hvrow : Row w0.drew v ((F s).getD []) := by
    have := hfiles0 s
    cases hF : F s with
    | none => rw [hF] at this; rw [hv, this]; exact row_nil _
    | some zs => rw [hF] at this; obtain ⟨_, x, hx, hr, _⟩ := this; rw [hv, hx]; exact hr
  have hvt : ∀ g, v.ownBlock = some g → tag g = some (T s) := by
    intro g hg'
    have := hfiles s
    cases hF : F s with
    | none => rw [hF] at this; rw [hv, this] at hg'; simp [Value.ownBlock] at hg'
    | some zs => rw [hF] at this; obtain ⟨_, x, hx, _, hxt⟩ := this; rw [hv, hx] at hg'; exact hxt g hg'
  have hvl : ((F s).getD []).length ≤ 1048576 := by
    have := hfiles s
    cases hF : F s with
    | none => simp
    | some zs => rw [hF] at this; exact this.1
  have hrd0 : RdAt w0.drew (.slice da ds.length dc) ds := by
    by_cases h0 : ds.length = 0
    · obtain ⟨a', c', hx, h1, h2, _⟩ := hrd
      exact ⟨a', c', hx, h1, h2, .inl h0⟩
    · exact hrd.of_block (fun g hg => hgr0.block g (hrd.lt (by omega) hg) (by simp))
  have hne : ∀ g, v.ownBlock = some g → (Value.slice da ds.length dc).ownBlock ≠ some g := by
    intro g hg hd
    have h1 := hvt g hg
    rcases hdt g hd with h2 | ⟨_, h2⟩
    · rw [h1] at h2; exact hTd s (by simpa using h2)
    · rw [h1] at h2; cases h2
  have hb0n : v.ownBlock ≠ some b0 := by
    intro e; have h1 := hvt b0 e; have := hlt b0 (by rw [h1]; simp); omega
  have hMb : M ≠ b0 := by omega
  replace hne := Kpt.mk hne
  replace hdt := Kpt.mk hdt
  replace hvt := Kpt.mk hvt
  replace hlt := Kpt.mk hlt
  replace hTi := Kpt.mk hTi
  replace hv := Kpt.mk hv
  replace hh0 := Kpt.mk hh0
  have hmapK := Kpt.mk hmap0
  have hw0K := Kpt.mk hw0
  clear hmap hfiles hrd
  go_enter Try.func50, Try.ntmps50
  go_wp2
  rw [← hw0, ← hb0]
  replace hw0 := Kpt.mk hw0
  replace hb0 := Kpt.mk hb0
  refine wp_region_any (by kernel_rfl) ?_
  refine wpAny_of_C (C := fun W => W.cell? ⟨b0, 1, none⟩ = some (.string s) ∧ W.cell? ⟨b0, 3, none⟩ = some (.int .i64 (off : Int)) ∧ W.cell? ⟨b0, 4, none⟩ = some (.slice da ds.length dc)) _ _ _ _ ?_
  refine wpAnyC_take 0 (.map (some M)) rfl (by kernel_rfl) (by kernel_rfl) (by kernel_rfl) (fun _ _ _ h => h) (by rfl) (fun W hW => by go_simp) ?_
  refine wpAnyC_take 1 (.pointer (some ⟨b0, 1, none⟩)) rfl (by kernel_rfl) (by kernel_rfl) (by kernel_rfl) (fun _ _ _ h => h) (by rfl) (fun W hW => by go_simp) ?_
  refine wpAnyC_take 2 (.string s) rfl (by kernel_rfl) (by kernel_rfl) (by kernel_rfl) (fun _ _ _ h => h) (by rfl) (fun W ⟨c1, c3, c4⟩ => by go_simp) ?_
  refine wpAnyC_take 3 (.map (some M)) rfl (by kernel_rfl) (by kernel_rfl) (by kernel_rfl) (fun _ _ _ h => h) (by rfl) (fun W hW => by go_simp) ?_
  refine wpAnyC_take 4 (.pointer (some ⟨b0, 1, none⟩)) rfl (by kernel_rfl) (by kernel_rfl) (by kernel_rfl) (fun _ _ _ h => h) (by rfl) (fun W hW => by go_simp) ?_
  refine wpAnyC_take 5 (.string s) rfl (by kernel_rfl) (by kernel_rfl) (by kernel_rfl) (fun _ _ _ h => h) (by rfl) (fun W ⟨c1, c3, c4⟩ => by go_simp) ?_
  refine wpAnyC_take 7 (.pointer (some ⟨b0, 3, none⟩)) rfl (by kernel_rfl) (by kernel_rfl) (by kernel_rfl) (fun _ _ _ h => h) (by rfl) (fun W hW => by go_simp) ?_
  refine wpAnyC_take 8 (.int .i64 (off : Int)) rfl (by kernel_rfl) (by kernel_rfl) (by kernel_rfl) (fun _ _ _ h => h) (by rfl) (fun W ⟨c1, c3, c4⟩ => by go_simp) ?_
  refine wpAnyC_take 9 (.pointer (some ⟨b0, 4, none⟩)) rfl (by kernel_rfl) (by kernel_rfl) (by kernel_rfl) (fun _ _ _ h => h) (by rfl) (fun W hW => by go_simp) ?_
  refine wpAnyC_take 10 (.slice da ds.length dc) rfl (by kernel_rfl) (by kernel_rfl) (by kernel_rfl) (fun _ _ _ h => h) (by rfl) (fun W ⟨c1, c3, c4⟩ => by go_simp) ?_
  change wpAnyC _ _ _ _ _ _ _ _ w0.drew
  refine wpAnyC_one 6 ⟨c1, c3, c4⟩ rfl (by kernel_rfl) (by rfl) (fun K hK => ?_)
  go_simp
  refine hK _ _ ?_
  clear hK K
  refine wpAnyC_one 11 ⟨c1, c3, c4⟩ rfl (by kernel_rfl) (by rfl) (fun K hK => ?_)
  go_simp
  refine (laid_any _ v (.slice da ds.length dc) ((F s).getD []) ds off hvrow hrd0 hne.out hvl ho).mono ?_
  rintro e w1 ⟨v', rfl, hrow1, hg1, hblk⟩
  have k1 : w1.cell? ⟨b0, 1, none⟩ = some (.string s) := hg1.cell (a := ⟨b0, 1, none⟩) c1 (fun e => hb0n e.symm)
  have k3 : w1.cell? ⟨b0, 3, none⟩ = some (.int .i64 (off : Int)) := hg1.cell (a := ⟨b0, 3, none⟩) c3 (fun e => hb0n e.symm)
  have k4 : w1.cell? ⟨b0, 4, none⟩ = some (.slice da ds.length dc) := hg1.cell (a := ⟨b0, 4, none⟩) c4 (fun e => hb0n e.symm)
  obtain ⟨w2, hst, hmap2, hturn⟩ := MapIs.store (w := w1) (MapIs.of_block (w := w0) hmapK.out (hg1.block M hmapK.out.lt (fun e => by have h1 := hvt.out M e.symm; rw [ht] at h1; exact hTm s (by simpa using h1.symm)))) (size32 hs) (by unfold maxLen; omega) v'
  have m1 : w2.cell? ⟨b0, 1, none⟩ = some (.string s) := hturn.grown.cell (a := ⟨b0, 1, none⟩) k1 (fun e => hMb (by simpa using e.symm))
  have m3 : w2.cell? ⟨b0, 3, none⟩ = some (.int .i64 (off : Int)) := hturn.grown.cell (a := ⟨b0, 3, none⟩) k3 (fun e => hMb (by simpa using e.symm))
  have m4 : w2.cell? ⟨b0, 4, none⟩ = some (.slice da ds.length dc) := hturn.grown.cell (a := ⟨b0, 4, none⟩) k4 (fun e => hMb (by simpa using e.symm))
  have hgK := Kpt.mk hg1
  have hbK := Kpt.mk hblk
  clear hg1 hblk
  dsimp only
  refine hK _ _ ?_
  clear hK K
  refine wpAnyC_one 12 ⟨k1, k3, k4⟩ rfl (by kernel_rfl) (by rfl) (fun K hK => ?_)
  go_simp
  refine hK _ _ ?_
  clear hK K
  refine wpAnyC_done ⟨m1, m3, m4⟩ (by kernel_rfl) ?_
  go_wp2
  refine bodyPost_end (results_none rfl _ _ _) rfl ?_
  refine ⟨rfl, ?_⟩
  have hlt0 : ∀ i, tag i ≠ none → i < w0.heap.size := fun i hi => Nat.lt_trans (hlt.out i hi) hsz0
  obtain ⟨tag', ha⟩ := applied_wr (w0 := w0.drew) hTi.out hTm ht hlt0 hfiles0 hv.out ho hrow1 hgK.out hbK.out hmap2 hturn
  refine ⟨tag', _, ha.map, ha.files, ?_, ha.tM, ha.lt⟩
  have hgr0' : w.grownBy w0.drew none := ⟨hgr0.os, hgr0.tape, hgr0.output, hgr0.size, hgr0.block⟩
  exact (Step.grown hgr0' tag _).trans ha.step
end Go.Proofs.Ytndlpmnidpandaa
