/-
  The contracts of withTuples and protect.
-/
import Derived.Test.YtklboieemljmiabVLook
namespace Go.Proofs.Ytklboieemljmiab
open Go.RowKit
set_option linter.unusedVariables false
set_option linter.unusedSimpArgs false

theorem withT_any (c : Cm) (w : World) : Calls Try.prog 15 #[.agg c.vals] w fun e w' => e = .returned (.bool (c.pr != 0)) ∧ Below w.heap.size w w' := by
  obtain ⟨kd, lg, lba, bl, al, fua, pr, um, ev, pg, ct, sv, se, ty, bs⟩ := c
  simp only [Cm.vals]
  by_cases h : pr = 0
  · subst h
    go_enter Try.func15, Try.ntmps15
    go_wp2
    go_ret
    exact ⟨rfl, (Below.refl _ _).alloc (Nat.le_refl _) _⟩
  · have e1 : (pr != 0) = true := by simpa using h
    rw [e1]
    go_enter Try.func15, Try.ntmps15
    go_wp2
    go_ret
    exact ⟨rfl, (Below.refl _ _).alloc (Nat.le_refl _) _⟩

/-- The cells of blocks, one behind the other. -/
def flat (bs : List Bk) : List Value := bs.flatMap Bk.cs
theorem flat_len : ∀ (bs : List Bk), (∀ b ∈ bs, b.ok) → (flat bs).length = bs.length * 19
  | [], _ => rfl
  | b :: r, h => by
    have h1 := cs_len b (h b (List.mem_cons_self ..))
    have h2 := flat_len r (fun x hx => h x (List.mem_cons_of_mem _ hx))
    unfold flat at h2 ⊢
    rw [List.flatMap_cons, List.length_append, h1, h2, List.length_cons]
    omega
theorem flat_append (a b : List Bk) : flat (a ++ b) = flat a ++ flat b := by simp [flat]
theorem flat_cons (a : Bk) (b : List Bk) : flat (a :: b) = a.cs ++ flat b := by simp [flat]
/-- A block as it is protected. -/
def prB (k : Int) (l : Nat) (b : Bk) : Bk := ⟨b.d, (reg16 0 b.d : Int), 0, refV k l⟩
def prL (k : Int) : Nat → List Bk → List Bk
  | _, [] => []
  | l, b :: r => prB k l b :: prL k (l + 1) r
theorem prL_len (k : Int) : ∀ (l : Nat) (bs : List Bk), (prL k l bs).length = bs.length
  | _, [] => rfl
  | l, b :: r => by simp [prL, prL_len k (l + 1) r]
theorem prL_at (k : Int) : ∀ (l : Nat) (bs : List Bk) (j : Nat), (prL k l bs)[j]? = (bs[j]?).map (prB k (l + j))
  | _, [], j => by simp [prL]
  | l, b :: r, 0 => by simp [prL]
  | l, b :: r, j + 1 => by
    rw [prL, List.getElem?_cons_succ, prL_at k (l + 1) r j, List.getElem?_cons_succ, show l + 1 + j = l + (j + 1) by omega]
theorem prL_step (k : Int) (l : Nat) (bs : List Bk) (j : Nat) (b : Bk) (hb : bs[j]? = some b) : prL k l (bs.take (j + 1)) = prL k l (bs.take j) ++ [prB k (l + j) b] := by
  refine List.ext_getElem? (fun i => ?_)
  have hj := (List.getElem?_eq_some_iff.1 hb).1
  have hlen : (prL k l (bs.take j)).length = j := by rw [prL_len, List.length_take]; omega
  rw [prL_at, List.getElem?_take]
  by_cases h1 : i < j
  · rw [if_pos (by omega), List.getElem?_append_left (by omega), prL_at, List.getElem?_take, if_pos h1]
  · by_cases h2 : i = j
    · subst h2
      rw [if_pos (by omega), List.getElem?_append_right (by omega), hlen, Nat.sub_self, hb]
      rfl
    · rw [if_neg (by omega), List.getElem?_append_right (by omega), hlen, List.getElem?_eq_none (l := [prB k (l + j) b]) (by simp; omega)]
      rfl
theorem reg_bd (d : List Int) (h : ∀ z ∈ d, 0 ≤ z ∧ z ≤ 255) : 0 ≤ (reg16 0 d : Int) ∧ (reg16 0 d : Int) ≤ 65535 := by
  have := reg16_lt d h 0 (by decide)
  omega
theorem ref_bd (k : Int) (l : Nat) : 0 ≤ refV k l ∧ refV k l ≤ 4294967295 := by unfold refV; split <;> omega
theorem prB_ok (k : Int) (l : Nat) (b : Bk) (h : b.ok) : (prB k l b).ok := ⟨h.len, h.byte, reg_bd _ h.byte, by simp [prB], ref_bd _ _⟩
theorem prL_ok (k : Int) : ∀ (l : Nat) (bs : List Bk), (∀ b ∈ bs, b.ok) → ∀ b ∈ prL k l bs, b.ok
  | _, [], _ => fun b hb => by simp [prL] at hb
  | l, b :: r, h => fun x hx => by
    rw [prL, List.mem_cons] at hx
    rcases hx with rfl | hx
    · exact prB_ok k l b (h b (List.mem_cons_self ..))
    · exact prL_ok k (l + 1) r (fun y hy => h y (List.mem_cons_of_mem _ hy)) x hx
theorem exec_load_rg {W : World} {o : Oper} {a : Act} (ty : TypeId) (x : Operand) (ho : o.op = .load ty x) (b off : Nat) (cs : List Value) (hx : a.eval x = .pointer (some ⟨b, off, none⟩)) (hr : W.rangeAt b off cs) (d : TypeDesc)
    (hu : Try.prog.underlying ty = some d) (hd : d.isRow = true) (hi : (Try.prog.info? ty).map (·.size) = some cs.length) : (execOp a.eval o).run Try.prog W = .ok (.value (.agg cs.toArray)) W := by
  have := run_loadAt_mid (P := Try.prog) W b off ty cs d hr hu hd hi
  unfold execOp
  simp only [ho, hx]
  simp [this]
theorem infoA : (Try.prog.info? 76).map (·.size) = some 16 := by kernel_rfl
theorem infoTu : (Try.prog.info? 79).map (·.size) = some 3 := by kernel_rfl
theorem range_of {w : World} {g o : Nat} {A M C : List Value} {t : TypeId} (hg : w.heap[g]? = some (.cells (A ++ (M ++ C)).toArray t (0, 0))) (ho : A.length = o) : w.rangeAt g o M := by
  refine range_of_heap hg o M (fun i u hu => ?_)
  have hi := (List.getElem?_eq_some_iff.1 hu).1
  rw [List.getElem?_append_right (by omega), ho, show o + i - o = i by omega, List.getElem?_append_left hi]
  exact hu

set_option maxRecDepth 100000 in
set_option maxHeartbeats 4000000 in
theorem protect_0 (D S l g o : Nat) (k : Int) (c : Cm) (n cp : Nat) (P : List Value) (bs : List Bk) (w : World) (hD : Bx w D (devV S k)) (h0 : 0 ≤ k) (h1 : k ≤ 255) (hpr : c.pr = 0) (hl : c.lba = l) (hin : l + n ≤ 1000000)
    (hg : w.heap[g]? = some (.cells (P ++ flat bs).toArray 81 (0, 0))) (hP : P.length = o) (hn : bs.length = n) (hcp : n ≤ cp) (hok : ∀ b ∈ bs, b.ok) (hgD : g ≠ D) :
    Calls Try.prog 53 #[.pointer (some ⟨D, 0, none⟩), .agg c.vals, .slice (some ⟨g, o, none⟩) n cp] w fun e w' => e = .returned (.agg noS.vals) ∧ w'.heap[g]? = some (.cells (P ++ flat (prL k l bs)).toArray 81 (0, 0)) ∧ w.grownBy w' (some g) := by
  obtain ⟨w1, hw1⟩ : ∃ w1, w1 = eW w c := ⟨_, rfl⟩
  have hglt : g < w.heap.size := (Array.getElem?_eq_some_iff.1 hg).1
  have hsz := eW_size w c
  have hbl := eW_below w c
  have hC := eW_c w c
  have hR := eW_r w c
  have HT := withT_any c
  rw [hpr] at HT
  rw [← hw1] at hsz hbl hC hR
  have hD1 := hD.below hbl hD.lt
  have hw1' : (w.alloc (.cells c.vals 38)).alloc (.cells #[.int .u8 0, .int .u16 0, .int .u64 0, .bool false, .int .i64 0, .int .i64 0, .bool false, .bool false] 32) = w1 := hw1.symm
  replace hw1' := Kpt.mk hw1'
  have hcm := fun W (h : Bx W w.heap.size c.vals) => (cm_at h).2.2.1
  rw [hl] at hcm
  replace hcm := Kpt.mk hcm
  have hCs : c.vals.size = 15 := rfl
  obtain ⟨CV, hCV⟩ : ∃ CV, CV = c.vals := ⟨_, rfl⟩
  rw [← hCV] at hw1' hC HT hcm hCs ⊢
  replace hg : Kpt (w1.heap[g]? = some (.cells (P ++ flat (prL k l (bs.take 0) ++ bs.drop 0)).toArray 81 (0, 0))) := ⟨by rw [hbl.block g hglt]; simpa [prL] using hg⟩
  replace HT := Kpt.mk HT
  replace hn := Kpt.mk hn
  replace hbl := Kpt.mk hbl
  replace hC := Kpt.mk hC
  replace hR := Kpt.mk hR
  replace hsz := Kpt.mk hsz
  replace hok := Kpt.mk hok
  replace hP := Kpt.mk hP
  replace hD1 := Kpt.mk hD1
  replace hCs := Kpt.mk hCs
  have hC0 : Kpt (Bx ((w.alloc (.cells CV 38)).alloc (.cells #[.int .u8 0, .int .u16 0, .int .u64 0, .bool false, .int .i64 0, .int .i64 0, .bool false, .bool false] 32)) w.heap.size CV) := ⟨by rw [hw1'.out]; exact hC.out⟩
  clear hD hw1 hCV hl hpr
  go_enter Try.func53, Try.ntmps53
  go_wp2_with (first | (refine wpList_load_bx rfl 38 _ rfl w.heap.size CV rfl hC0.out _ Try.underlying38 rfl (by rw [hCs.out]; exact infoC) ?_) | fail)
  rw [hw1'.out]
  refine (HT.out _).mono ?_
  rintro e w2 ⟨rfl, hb2⟩
  have hg2 : Kpt (w2.heap[g]? = some (.cells (P ++ flat (prL k l (bs.take 0) ++ bs.drop 0)).toArray 81 (0, 0))) := ⟨by rw [hb2.block g (by have := hsz.out; omega)]; exact hg.out⟩
  have hC2 := Kpt.mk (hC.out.below hb2 hC.out.lt)
  have hR2 := Kpt.mk (hR.out.below hb2 hR.out.lt)
  have hD2 := Kpt.mk (hD1.out.below hb2 hD1.out.lt)
  have hs2 := hb2.size
  have hgr2 : Kpt (w.grownBy w2 (some g)) := ⟨let b := hbl.out.trans (hb2.mono hbl.out.size); ⟨b.os, b.tape, b.output, b.size, fun i hi _ => b.block i hi⟩⟩
  have hs1 := hsz.out
  clear HT hw1' hC0 hg hC hR hD1 hb2 hbl hsz
  go_wp2_with fail
  go_loopw [16] (fun t wr => ∃ j : Nat, j ≤ n ∧ t = .int .i64 j ∧ Kpt (w2.grownBy wr (some g)) ∧ Kpt (wr.heap[g]? = some (.cells (P ++ flat (prL k l (bs.take j) ++ bs.drop j)).toArray 81 (0, 0)))) (fun t _ => n - (intOf t).toNat)
  case atStart => exact ⟨0, Nat.zero_le _, rfl, ⟨⟨rfl, rfl, rfl, Nat.le_refl _, fun _ _ _ => rfl⟩⟩, hg2⟩
  case round =>
    obtain ⟨j, hj, rfl, hgr, hgj⟩ := hrel
    have hDw := hD2.out.grown hgr.out (by simpa using hgD)
    have hCw := hC2.out.grown hgr.out (by simp; omega)
    have hRw := Kpt.mk (hR2.out.grown hgr.out (by simp; omega))
    have hswr := hgr.out.size
    obtain ⟨-, d1, dlt⟩ := dev_at hDw
    have y2 := hcm.out _ hCw
    clear hDw hCw
    by_cases hlt : j < n
    · have e1 : (j : Int) < n := by omega
      obtain ⟨b, hb⟩ : ∃ b, bs[j]? = some b := ⟨_, List.getElem?_eq_getElem (by rw [hn.out]; exact hlt)⟩
      have hbok := hok.out b (List.mem_of_getElem? hb)
      have hdrop : bs.drop j = b :: bs.drop (j + 1) := by
        have hj' := (List.getElem?_eq_some_iff.1 hb).1
        rw [List.drop_eq_getElem_cons hj']; congr 1; exact (List.getElem?_eq_some_iff.1 hb).2
      have hokt : ∀ x ∈ prL k l (bs.take j), x.ok := prL_ok k l _ (fun x hx => hok.out x (List.mem_of_mem_take hx))
      have hfl : (flat (prL k l (bs.take j))).length = j * 19 := by
        rw [flat_len _ hokt, prL_len, List.length_take, hn.out, Nat.min_eq_left hj]
      obtain ⟨A, hA⟩ : ∃ A, A = P ++ flat (prL k l (bs.take j)) := ⟨_, rfl⟩
      have hAl : A.length = o + j * 19 := by rw [hA, List.length_append, hP.out, hfl]
      obtain ⟨C, hCC⟩ : ∃ C, C = flat (bs.drop (j + 1)) := ⟨_, rfl⟩
      have hcur : P ++ flat (prL k l (bs.take j) ++ bs.drop j) = A ++ (cels b.d ++ (([.int .u16 b.g, .int .u16 b.a, .int .u32 b.r] : List Value) ++ C)) := by
        rw [hdrop, flat_append, flat_cons, ← List.append_assoc, ← hA, ← hCC]; simp [Bk.cs]
      have hnext : P ++ flat (prL k l (bs.take (j + 1)) ++ bs.drop (j + 1)) = A ++ (cels b.d ++ (([.int .u16 (reg16 0 b.d : Int), .int .u16 0, .int .u32 (refV k ((l + j : Nat) : Int))] : List Value) ++ C)) := by
        rw [prL_step k l bs j b hb, flat_append, flat_append, ← hCC, show flat [prB k (l + j) b] = (prB k (l + j) b).cs from by simp [flat], hA]; simp [Bk.cs, prB]
      rw [hcur] at hgj
      have hrd : wr.rangeAt g (o + j * 19) (cels b.d) := range_of hgj.out hAl
      have hth : wr.there g (o + j * 19 + 16) 3 := there_of_heap hgj.out _ _ (by simp [hAl, hbok.len]; omega)
      have hset : ∀ (W : World) (x y z : Value), W.heap[g]? = some (.cells (A ++ (cels b.d ++ (([.int .u16 b.g, .int .u16 b.a, .int .u32 b.r] : List Value) ++ C))).toArray 81 (0, 0)) → (W.setCells g (o + j * 19 + 16) [x, y, z]).heap[g]? = some (.cells (A ++ (cels b.d ++ ([x, y, z] ++ C))).toArray 81 (0, 0)) := fun W x y z h => by
        have := set3_heap W g (o + j * 19 + 16) (A ++ cels b.d) C (.int .u16 b.g) (.int .u16 b.a) (.int .u32 b.r) x y z 81 (by simpa using h) (by simp [hAl, hbok.len])
        simpa using this
      have ew : IntKind.u64.wrap ((l : Int) + j) = ((l + j : Nat) : Int) := by rw [IntKind.wrap_u64]; omega
      have ev : IntKind.u64.wrap (j : Int) = (j : Int) := by rw [IntKind.wrap_u64]; omega
      have HM := fun W => make_any k ((l + j : Nat) : Int) 0 b.d W hbok.len hbok.byte h0 h1 (by omega) (by omega)
      obtain ⟨x, hx⟩ : ∃ x : Int, x = ((l + j : Nat) : Int) := ⟨_, rfl⟩
      rw [← hx] at ew HM hnext
      obtain ⟨DL, hDL⟩ : ∃ DL, DL = cels b.d := ⟨_, rfl⟩
      rw [← hDL] at hrd hset hgj hnext HM
      have hDLl : DL.length = 16 := by rw [hDL]; simp [hbok.len]
      obtain ⟨DA, hDA⟩ : ∃ DA, DA = DL.toArray := ⟨_, rfl⟩
      rw [← hDA] at HM
      obtain ⟨TV, hTV⟩ : ∃ TV, TV = tupV (reg16 0 b.d : Int) 0 (refV k x) := ⟨_, rfl⟩
      rw [← hTV] at HM
      have hTl : TV.toList = [.int .u16 (reg16 0 b.d : Int), .int .u16 0, .int .u32 (refV k x)] := by rw [hTV]; rfl
      have hT1 : TV.all (·.oneCell') = true := by rw [hTV]; exact tup_one _ _ _
      have hTs : TV.size = 3 := by rw [hTV]; rfl
      rw [← hTl] at hnext
      replace HM := Kpt.mk HM
      replace hset := Kpt.mk hset
      replace hnext := Kpt.mk hnext
      replace hrd := Kpt.mk hrd
      replace hth := Kpt.mk hth
      replace hTl := Kpt.mk hTl
      replace hT1 := Kpt.mk hT1
      replace hTs := Kpt.mk hTs
      replace hDA := Kpt.mk hDA
      replace hDLl := Kpt.mk hDLl
      have hgl2 : g < wr.heap.size := (Array.getElem?_eq_some_iff.1 hgj.out).1
      replace hAl := Kpt.mk hAl
      clear hcur hfl hokt hA hCC hDL hTV hx hdrop hbok hb hg2
      go_wp2_with fail
      refine wp_region_any (by kernel_rfl) ?_
      refine wpAny_of_C (C := fun W => W.cell? ⟨D, 1, none⟩ = some (.int .u8 k) ∧ D < W.heap.size ∧ W.cell? ⟨w.heap.size, 2, none⟩ = some (.int .u64 l) ∧ W.rangeAt g (o + j * 19) DL) _ _ _ _ ?_
      refine wpAnyC_take 0 (.slice (some ⟨g, o, none⟩) n cp) rfl (by kernel_rfl) (by kernel_rfl) (by kernel_rfl) (fun _ _ _ h => h) (wanted_free rfl _) (fun W hW => by obtain ⟨q1, q2, q3, q4⟩ := hW; go_simp) ?_
      try simp only [Act.put, List.getElem_toArray, List.getElem_cons_succ, List.getElem_cons_zero, List.setIfInBounds_toArray, List.set_cons_succ, List.set_cons_zero]
      refine wpAnyC_take 1 (.int .i64 j) rfl (by kernel_rfl) (by kernel_rfl) (by kernel_rfl) (fun _ _ _ h => h) (wanted_free rfl _) (fun W hW => by obtain ⟨q1, q2, q3, q4⟩ := hW; go_simp) ?_
      try simp only [Act.put, List.getElem_toArray, List.getElem_cons_succ, List.getElem_cons_zero, List.setIfInBounds_toArray, List.set_cons_succ, List.set_cons_zero]
      refine wpAnyC_take 2 (.pointer (some ⟨D, 0, none⟩)) rfl (by kernel_rfl) (by kernel_rfl) (by kernel_rfl) (fun _ _ _ h => h) (wanted_free rfl _) (fun W hW => by obtain ⟨q1, q2, q3, q4⟩ := hW; go_simp) ?_
      try simp only [Act.put, List.getElem_toArray, List.getElem_cons_succ, List.getElem_cons_zero, List.setIfInBounds_toArray, List.set_cons_succ, List.set_cons_zero]
      refine wpAnyC_take 3 (.pointer (some ⟨D, 0, none⟩)) rfl (by kernel_rfl) (by kernel_rfl) (by kernel_rfl) (fun _ _ _ h => h) (wanted_free rfl _) (fun W hW => by obtain ⟨q1, q2, q3, q4⟩ := hW; go_simp) ?_
      try simp only [Act.put, List.getElem_toArray, List.getElem_cons_succ, List.getElem_cons_zero, List.setIfInBounds_toArray, List.set_cons_succ, List.set_cons_zero]
      refine wpAnyC_take 4 (.pointer (some ⟨D, 1, none⟩)) rfl (by kernel_rfl) (by kernel_rfl) (by kernel_rfl) (fun _ _ _ h => h) (wanted_free rfl _) (fun W hW => by obtain ⟨q1, q2, q3, q4⟩ := hW; go_simp) ?_
      try simp only [Act.put, List.getElem_toArray, List.getElem_cons_succ, List.getElem_cons_zero, List.setIfInBounds_toArray, List.set_cons_succ, List.set_cons_zero]
      refine wpAnyC_take 5 (.int .u8 k) rfl (by kernel_rfl) (by kernel_rfl) (by kernel_rfl) (fun _ _ _ h => h) (wanted_free rfl _) (fun W hW => by obtain ⟨q1, q2, q3, q4⟩ := hW; go_simp) ?_
      try simp only [Act.put, List.getElem_toArray, List.getElem_cons_succ, List.getElem_cons_zero, List.setIfInBounds_toArray, List.set_cons_succ, List.set_cons_zero]
      refine wpAnyC_take 6 (.pointer (some ⟨w.heap.size, 2, none⟩)) rfl (by kernel_rfl) (by kernel_rfl) (by kernel_rfl) (fun _ _ _ h => h) (wanted_free rfl _) (fun W hW => by obtain ⟨q1, q2, q3, q4⟩ := hW; go_simp) ?_
      try simp only [Act.put, List.getElem_toArray, List.getElem_cons_succ, List.getElem_cons_zero, List.setIfInBounds_toArray, List.set_cons_succ, List.set_cons_zero]
      refine wpAnyC_take 7 (.int .u64 l) rfl (by kernel_rfl) (by kernel_rfl) (by kernel_rfl) (fun _ _ _ h => h) (wanted_free rfl _) (fun W hW => by obtain ⟨q1, q2, q3, q4⟩ := hW; go_simp) ?_
      try simp only [Act.put, List.getElem_toArray, List.getElem_cons_succ, List.getElem_cons_zero, List.setIfInBounds_toArray, List.set_cons_succ, List.set_cons_zero]
      refine wpAnyC_take 8 (.int .i64 j) rfl (by kernel_rfl) (by kernel_rfl) (by kernel_rfl) (fun _ _ _ h => h) (wanted_free rfl _) (fun W hW => by obtain ⟨q1, q2, q3, q4⟩ := hW; go_simp) ?_
      try simp only [Act.put, List.getElem_toArray, List.getElem_cons_succ, List.getElem_cons_zero, List.setIfInBounds_toArray, List.set_cons_succ, List.set_cons_zero]
      refine wpAnyC_take 9 (.int .u64 j) rfl (by kernel_rfl) (by kernel_rfl) (by kernel_rfl) (fun _ _ _ h => h) (wanted_free rfl _) (fun W hW => by obtain ⟨q1, q2, q3, q4⟩ := hW; go_simp) ?_
      try simp only [Act.put, List.getElem_toArray, List.getElem_cons_succ, List.getElem_cons_zero, List.setIfInBounds_toArray, List.set_cons_succ, List.set_cons_zero]
      refine wpAnyC_take 10 (.int .u64 x) rfl (by kernel_rfl) (by kernel_rfl) (by kernel_rfl) (fun _ _ _ h => h) (wanted_free rfl _) (fun W hW => by obtain ⟨q1, q2, q3, q4⟩ := hW; go_simp) ?_
      try simp only [Act.put, List.getElem_toArray, List.getElem_cons_succ, List.getElem_cons_zero, List.setIfInBounds_toArray, List.set_cons_succ, List.set_cons_zero]
      refine wpAnyC_take 11 (.slice (some ⟨g, o, none⟩) n cp) rfl (by kernel_rfl) (by kernel_rfl) (by kernel_rfl) (fun _ _ _ h => h) (wanted_free rfl _) (fun W hW => by obtain ⟨q1, q2, q3, q4⟩ := hW; go_simp) ?_
      try simp only [Act.put, List.getElem_toArray, List.getElem_cons_succ, List.getElem_cons_zero, List.setIfInBounds_toArray, List.set_cons_succ, List.set_cons_zero]
      refine wpAnyC_take 12 (.int .i64 j) rfl (by kernel_rfl) (by kernel_rfl) (by kernel_rfl) (fun _ _ _ h => h) (wanted_free rfl _) (fun W hW => by obtain ⟨q1, q2, q3, q4⟩ := hW; go_simp) ?_
      try simp only [Act.put, List.getElem_toArray, List.getElem_cons_succ, List.getElem_cons_zero, List.setIfInBounds_toArray, List.set_cons_succ, List.set_cons_zero]
      refine wpAnyC_take 13 (.pointer (some ⟨g, o + j * 19, none⟩)) rfl (by kernel_rfl) (by kernel_rfl) (by kernel_rfl) (fun _ _ _ h => h) (wanted_free rfl _) (fun W hW => by obtain ⟨q1, q2, q3, q4⟩ := hW; go_simp) ?_
      try simp only [Act.put, List.getElem_toArray, List.getElem_cons_succ, List.getElem_cons_zero, List.setIfInBounds_toArray, List.set_cons_succ, List.set_cons_zero]
      refine wpAnyC_take 14 (.pointer (some ⟨g, o + j * 19, none⟩)) rfl (by kernel_rfl) (by kernel_rfl) (by kernel_rfl) (fun _ _ _ h => h) (wanted_free rfl _) (fun W hW => by obtain ⟨q1, q2, q3, q4⟩ := hW; go_simp) ?_
      try simp only [Act.put, List.getElem_toArray, List.getElem_cons_succ, List.getElem_cons_zero, List.setIfInBounds_toArray, List.set_cons_succ, List.set_cons_zero]
      refine wpAnyC_take 15 (.agg DA) rfl (by kernel_rfl) (by kernel_rfl) (by kernel_rfl) (fun _ _ _ h => h) (wanted_free rfl _) (fun W hW => by rw [hDA.out]; exact exec_load_rg 76 (.tmp 33) rfl g (o + j * 19) DL rfl hW.2.2.2 _ Try.underlying76 rfl (by rw [hDLl.out]; exact infoA)) ?_
      try simp only [Act.put, List.getElem_toArray, List.getElem_cons_succ, List.getElem_cons_zero, List.setIfInBounds_toArray, List.set_cons_succ, List.set_cons_zero]
      refine wpAnyC_one 16 (⟨d1, dlt, y2, hrd.out⟩) rfl (by kernel_rfl) (wanted_free rfl _) (fun KA hKA => ?_)
      go_simp
      refine (HM.out _).mono ?_
      rintro e w3 ⟨rfl, hb3⟩
      replace hb3 : Below wr.heap.size wr w3 := below_undrew hb3
      refine hKA _ _ ?_
      clear hKA KA
      try simp only [Act.put, List.getElem_toArray, List.getElem_cons_succ, List.getElem_cons_zero, List.setIfInBounds_toArray, List.set_cons_succ, List.set_cons_zero]
      refine wpAnyC_take 17 (.pointer (some ⟨g, o + j * 19, none⟩)) rfl (by kernel_rfl) (by kernel_rfl) (by kernel_rfl) (fun _ _ _ h => h) (wanted_free rfl _) (fun W hW => by go_simp) ?_
      try simp only [Act.put, List.getElem_toArray, List.getElem_cons_succ, List.getElem_cons_zero, List.setIfInBounds_toArray, List.set_cons_succ, List.set_cons_zero]
      refine wpAnyC_take 18 (.pointer (some ⟨g, o + j * 19 + 16, none⟩)) rfl (by kernel_rfl) (by kernel_rfl) (by kernel_rfl) (fun _ _ _ h => h) (wanted_free rfl _) (fun W hW => by go_simp) ?_
      try simp only [Act.put, List.getElem_toArray, List.getElem_cons_succ, List.getElem_cons_zero, List.setIfInBounds_toArray, List.set_cons_succ, List.set_cons_zero]
      have hg3 := (hb3.block g hgl2).trans hgj.out
      have hth3 : w3.there g (o + j * 19 + 16) TV.size := by rw [hTs.out]; intro i hi; rw [World.cell?_of_block (w := wr) (hb3.block g hgl2), World.frozen?_of_block (w := wr) (hb3.block g hgl2)]; exact hth.out i hi
      have hrd3 := rangeAt_keep hrd.out (hb3.block g hgl2)
      have z1 := (hb3.cell (p := ⟨D, 1, none⟩) dlt).trans d1
      have z2 := (hb3.cell (p := ⟨w.heap.size, 2, none⟩) (by show w.heap.size < wr.heap.size; omega)).trans y2
      have zD : D < w3.heap.size := Nat.lt_of_lt_of_le dlt hb3.size
      obtain ⟨w4, hw4⟩ : ∃ w4, w4 = w3.setCells g (o + j * 19 + 16) TV.toList := ⟨_, rfl⟩
      have hg4 : w4.heap[g]? = some (.cells (A ++ (DL ++ (TV.toList ++ C))).toArray 81 (0, 0)) := by rw [hw4, hTl.out]; exact hset.out w3 _ _ _ hg3
      have hgw4 : w3.grownBy w4 (some g) := by rw [hw4]; exact grown_setCells g TV.toList _ w3
      refine wpAnyC_one 19 ⟨z1, zD, z2, hrd3⟩ rfl (by kernel_rfl) (wanted_free rfl _) (fun KA hKA => ?_)
      refine wp_store_mid 79 (.tmp 37) (.tmp 35) rfl g (o + j * 19 + 16) TV rfl rfl (by exact hth3) (by rw [hTs.out]; exact infoTu) hT1.out ?_
      refine hKA _ _ ?_
      clear hKA KA
      rw [← hw4]
      try simp only [Act.put, List.getElem_toArray, List.getElem_cons_succ, List.getElem_cons_zero, List.setIfInBounds_toArray, List.set_cons_succ, List.set_cons_zero]
      have hgrN : Kpt (w2.grownBy w4 (some g)) := ⟨grown_trans hgr.out (grown_trans ⟨hb3.os, hb3.tape, hb3.output, hb3.size, fun i hi _ => hb3.block i hi⟩ hgw4)⟩
      have hgN : Kpt (w4.heap[g]? = some (.cells (P ++ flat (prL k l (bs.take (j + 1)) ++ bs.drop (j + 1))).toArray 81 (0, 0))) := ⟨by rw [hnext.out]; exact hg4⟩
      have c1 := (far_cell hgw4 ⟨D, 1, none⟩ zD (by simpa using hgD)).trans z1
      have c2 := (far_cell hgw4 ⟨w.heap.size, 2, none⟩ (by show w.heap.size < w3.heap.size; have := hb3.size; omega) (by simp; omega)).trans z2
      have cr : w4.rangeAt g (o + j * 19) DL := range_of hg4 hAl.out
      have cD : D < w4.heap.size := Nat.lt_of_lt_of_le zD hgw4.size
      refine wpAnyC_done ⟨c1, cD, c2, cr⟩ (by kernel_rfl) ?_
      clear c1 c2 cr cD z1 z2 zD hrd3 hth3 hg3 hg4 hgw4 hw4 HM hset hrd hth d1 y2
      go_wp2
      go_roundw
      case rel => exact ⟨j + 1, by omega, by go_num, hgrN, hgN⟩
      case measure => simp [intOf]; omega
    · have e1 : ¬ (j : Int) < n := by omega
      have ej : j = n := by omega
      subst ej
      have hfin : wr.heap[g]? = some (.cells (P ++ flat (prL k l bs)).toArray 81 (0, 0)) := by
        have := hgj.out
        rw [List.take_of_length_le (by rw [hn.out]; exact Nat.le_refl _), List.drop_of_length_le (by rw [hn.out]; exact Nat.le_refl _), List.append_nil] at this
        exact this
      replace hfin := Kpt.mk hfin
      have hgw := Kpt.mk (grown_trans hgr2.out hgr.out)
      clear y2 d1 dlt hgj
      go_wp2_with (refine wpList_store_bx rfl 32 _ _ rfl (w.heap.size + 1) zeroS noS.vals rfl rfl hRw.out rfl infoS (Sn.vals_one noS) rfl ?_; intro w5 hB5 hg5)
      refine bodyPost_ret (v := .agg noS.vals) (by simp [results, Try.results53, asAddr, Act.put, res_run hB5]) rfl ⟨rfl, ?_, ?_⟩
      · rw [hg5.block g (by have := hgr2.out.size; omega) (by simp; omega)]; exact hfin.out
      · exact ⟨hg5.os.trans hgw.out.os, hg5.tape.trans hgw.out.tape, hg5.output.trans hgw.out.output, Nat.le_trans hgw.out.size hg5.size, fun i hi hne => (hg5.block i (Nat.lt_of_lt_of_le hi hgw.out.size) (by simp; omega)).trans (hgw.out.block i hi hne)⟩
end Go.Proofs.Ytklboieemljmiab
