/-
  text: Parse, the walk.
-/
import Derived.Test.YtdplndlmdhpfaaaXPar0
namespace Go.Proofs.Ytdplndlmdhpfaaa
open Go.RowKit
set_option linter.unusedVariables false
set_option linter.unusedSimpArgs false

def parE (zs : List Int) : Int := match par zs with
  | none => 13
  | some l => if 64 < l.length then 2 else if twP (l.map prS) = true then 9 else 0
def parO (zs : List Int) : List (List Int × List Int) := match par zs with
  | none => []
  | some l => if 64 < l.length then [] else if twP (l.map prS) = true then [] else l
def sliceN : Value → Nat
  | .slice _ n _ => n
  | _ => 0
theorem own_ofb {w w' : World} {b n e s : Nat} {v : Value} {xs : List Value} (h : w.ownsRow b e s v n xs) (hb : ∀ g, v.ownBlock = some g → w'.heap[g]? = w.heap[g]?) : w'.ownsRow b e s v n xs := by
  obtain ⟨h0, h1⟩ := h
  refine ⟨h0, ?_⟩
  rcases h1 with h1 | ⟨g, cap, cur, rfl, h2, h3, rest⟩
  · exact .inl h1
  · exact .inr ⟨g, cap, cur, rfl, h2, by rw [hb g rfl]; exact h3, rest⟩
/-- Parse between its steps. -/
structure PI (w W : World) (b o m c1 : Nat) (cur : List Int) (v : Value) (k : Nat) (acc : List (List Int × List Int)) : Prop where
  bel : Below w.heap.size w W
  rd : RdAt W (.slice (some ⟨b, o, none⟩) m c1) cur
  own : W.ownsRow w.heap.size 105 2 v k (cellsP acc)
theorem PI.below {w W W' : World} {b o m c1 k : Nat} {cur : List Int} {v : Value} {acc : List (List Int × List Int)} (h : PI w W b o m c1 cur v k acc) (hb : Below W.heap.size W W') : PI w W' b o m c1 cur v k acc :=
  ⟨h.bel.trans (hb.mono h.bel.size), h.rd.bel hb, own_ofb h.own fun g hg => hb.block g (World.ownsRow.lt h.own g hg).2⟩
theorem wpList_built_pr {w : World} {ops : Array Oper} {rest : List Oper} {o : Oper} {a : Act} {Q : Exit → Act → World → Prop} (hgd : o.guard = none) (K V : ByteArray)
    (he : (execOp a.eval o).run Try.prog w = .ok (.value (.slice (some ⟨w.heap.size, 0, none⟩) 1 1)) (w.alloc (.cells #[.string K, .string V] 105)))
    (h : ∀ g w', (w'.cell? ⟨g, 0, none⟩ = some (.string K) ∧ w'.cell? ⟨g, 1, none⟩ = some (.string V)) → Below w.heap.size w w' → wpList Try.prog ops Q rest (a.put o.dst (.slice (some ⟨g, 0, none⟩) 1 1)) w') : wpList Try.prog ops Q (o :: rest) a w :=
  wpList_of_exec hgd he (h _ _ (bx_two (bx_new w #[.string K, .string V] 105)) ((Below.refl _ _).alloc (Nat.le_refl _) _))
theorem cut_len (zs : List Int) (c : Int) : (cutA zs c).length ≤ zs.length ∧ (cutB zs c).length ≤ zs.length := by
  unfold cutA cutB
  cases idxL zs c with
  | none => simp
  | some i => simp; omega
theorem cut_bytes {zs : List Int} (h : Bytes zs) (c : Int) : Bytes (cutA zs c) ∧ Bytes (cutB zs c) := by
  unfold cutA cutB
  cases idxL zs c with
  | none => exact ⟨h, Bytes.nil⟩
  | some i => exact ⟨h.take _, h.drop _⟩

set_option maxRecDepth 100000 in
theorem parse_long (a : Option Addr) (n c : Nat) (w : World) (hn : 4096 < n) (hm : n ≤ maxLen) :
    Calls Try.prog 55 #[.slice a n c] w fun e w' => e = .returned (.tuple #[.slice none 0 0, .int .i64 2]) ∧ w' = w := by
  have h1 : (4096 : Int) < n := by omega
  unfold maxLen at hm
  go_enter Try.func55, Try.ntmps55
  go_wp2
  go_ret2
  exact ⟨rfl, rfl⟩

set_option maxRecDepth 100000 in
set_option maxHeartbeats 4000000 in
theorem parse_any (a : Option Addr) (n c : Nat) (zs : List Int) (w : World) (hr : RdAt w (.slice a n c) zs) (hn : n ≤ 4096) (hc : c ≤ maxLen) (hb : Bytes zs) :
    Calls Try.prog 55 #[.slice a n c] w fun e w' => ∃ v, e = .returned (.tuple #[v, .int .i64 (parE zs)]) ∧ w'.ownsRow w.heap.size 105 2 v (parO zs).length (cellsP (parO zs)) ∧ Below w.heap.size w w' := by
  have hlt0 : ∀ g, a.map (·.block) = some g → zs ≠ [] → g < w.heap.size := fun g hg hz => by
    obtain ⟨a', c', hv, h1, h2, h3⟩ := id hr
    simp only [Value.slice.injEq] at hv
    obtain ⟨rfl, -, -⟩ := hv
    rcases h3 with h3 | ⟨b, off, rfl, -⟩
    · exact absurd (List.eq_nil_of_length_eq_zero h3) hz
    · simp at hg
      subst hg
      exact hr.lt (List.length_pos_iff.2 hz) rfl
  have hin : Kpt (RdAt w (.slice a n c) zs ∧ Bytes zs ∧ (∀ g, a.map (·.block) = some g → zs ≠ [] → g < w.heap.size)) := ⟨hr, hb, hlt0⟩
  have hcm := Kpt.mk hc
  have h1 : ¬ (4096 : Int) < n := by omega
  have hpz : Kpt (par zs = (par zs).map ([] ++ ·)) := ⟨by cases par zs <;> simp⟩
  clear hr hb hlt0 hc
  go_enter Try.func55, Try.ntmps55
  go_wp2
  go_loopw [0, 4] (fun t0 t4 wr => ∃ (a1 : Option Addr) (m c1 : Nat) (cur : List Int) (k : Nat) (acc : List (List Int × List Int)), t0 = .slice a1 m c1 ∧ m ≤ 4096 ∧ m + k ≤ n ∧ Kpt (c1 ≤ maxLen) ∧ Kpt (RdAt wr (.slice a1 m c1) cur ∧ Bytes cur ∧ (∀ g, a1.map (·.block) = some g → cur ≠ [] → g < w.heap.size)) ∧ Kpt (wr.ownsRow w.heap.size 105 2 t4 k (cellsP acc)) ∧ Kpt (par zs = (par cur).map (acc ++ ·)) ∧ Kpt (Below w.heap.size w wr)) (fun t0 _ _ => sliceN t0)
  case atStart => exact ⟨a, n, c, zs, 0, [], rfl, hn, by omega, hcm, hin, ⟨World.ownsRow_nil _ _ 105 2⟩, hpz, ⟨Below.refl _ _⟩⟩
  case round =>
    obtain ⟨a1, m, c1, cur, k, acc, rfl, hm, hmk, hc1, hcu, hown, hpar, hbe⟩ := hrel
    obtain ⟨⟨va, vc, rfl⟩⟩ : Nonempty (∃ va vc, u4 = .slice va k vc) := by
      obtain ⟨_, a', c', e, _⟩ := prs_of hown.out
      exact ⟨⟨a', c', e⟩⟩
    clear hin hcm hpz
    by_cases h0 : 0 < m
    · have h0I : (0 : Int) < m := by omega
      have hcl : Kpt (cur.length = m) := ⟨by obtain ⟨a', c', hv, _⟩ := hcu.out.1; simp only [Value.slice.injEq] at hv; exact hv.2.1.symm⟩
      have hcne : Kpt (cur ≠ []) := ⟨fun e => by have := hcl.out; rw [e] at this; simp at this; omega⟩
      obtain ⟨b, o, rfl⟩ : ∃ b o, a1 = some ⟨b, o, none⟩ := by
        obtain ⟨a', c', hv, h1, h2, h3⟩ := hcu.out.1
        simp only [Value.slice.injEq] at hv
        obtain ⟨rfl, -, -⟩ := hv
        rcases h3 with h3 | ⟨b, off, rfl, -⟩
        · have := hcl.out; omega
        · exact ⟨b, off, rfl⟩
      have hbb : Kpt (Bytes cur ∧ b < w.heap.size) := ⟨hcu.out.2.1, hcu.out.2.2 b rfl hcne.out⟩
      have R : Kpt (PI w wr b o m c1 cur (.slice va k vc) k acc) := ⟨hbe.out, hcu.out.1, hown.out⟩
      have hpc := Kpt.mk (par_cons cur hcne.out)
      clear hcu hbe hown
      have hcm1 : Kpt (m ≤ c1) := ⟨by obtain ⟨a', c', hv, h1, h2, h3⟩ := R.out.rd; simp only [Value.slice.injEq] at hv; omega⟩
      cases hi : idxL cur 0 with
      | none =>
        have hno : Kpt (parE zs = 13 ∧ parO zs = []) := ⟨by
          have e1 : par zs = none := by rw [hpar.out, hpc.out, hi]; rfl
          unfold parE parO; rw [e1]; exact ⟨rfl, rfl⟩⟩
        replace hi := Kpt.mk hi
        go_wp2_with (first
          | (go_at_call 74; go_must (refine (scut_any cur _ hbb.out.1 (by have := hcl.out; omega)).mono ?_; rintro e w3 ⟨rfl, hs3⟩; replace R : Kpt (PI w w3 b o m c1 cur (.slice va k vc) k acc) := ⟨R.out.below hs3.bel⟩; clear hs3 hcv))
          | (go_at_call 73; go_must (refine (bcut_no b o m c1 g cur _ R.out.rd hbb.out.1 hgc.out hi.out).mono ?_; rintro e w2 ⟨rfl, hs2⟩; replace R : Kpt (PI w w2 b o m c1 cur (.slice va k vc) k acc) := ⟨R.out.below (hs2.bel)⟩; have hcv := conv_rd R.out.rd; clear hs2))
          | (refine (?_ : wpList _ _ _ (Oper.mk (some 19) _ _ _ _ _ :: _) _ _); go_must (refine wpList_built rfl 1 [0] (by kernel_rfl) rfl (by decide) ?_; intro g w1 hg1 ho1 hbe1; replace R : Kpt (PI w w1 b o m c1 cur (.slice va k vc) k acc) := ⟨R.out.below hbe1⟩; have hgc : Kpt (w1.cell? ⟨g, 0, none⟩ = some (.int .u8 0)) := ⟨own_facts ho1 0 (by decide)⟩; clear hbe1 hg1 ho1)))
        go_ret2
        exact ⟨.slice none 0 0, by rw [hno.out.1]; rfl, by rw [hno.out.2]; exact World.ownsRow_nil _ _ 105 2, R.out.bel⟩
      | some i =>
        have him := Kpt.mk (idxL_lt cur 0 i hi)
        obtain ⟨line, hline⟩ : ∃ l, l = cur.take i := ⟨_, rfl⟩
        have hll : Kpt (line.length = i) := ⟨by rw [hline, List.length_take]; have := him.out; omega⟩
        have hlb : Kpt (Bytes line) := ⟨by rw [hline]; exact hbb.out.1.take i⟩
        have hlr : Kpt (∀ W, RdAt W (.slice (some ⟨b, o, none⟩) m c1) cur → RdAt W (.slice (some ⟨b, o, none⟩) i c1) line) := ⟨fun W h => by rw [hline]; exact rd_take h i (by have := him.out; omega)⟩
        have hpc2 : Kpt (par cur = if cutF line 61 && keyB (cutA line 61) && valB (cutB line 61) then (par (cur.drop (i + 1))).map ((cutA line 61, cutB line 61) :: ·) else none) := ⟨by rw [hpc.out, hi, hline]⟩
        have hKb := Kpt.mk (cut_bytes hlb.out 61)
        have hKl := Kpt.mk (cut_len line 61)
        obtain ⟨K, hK⟩ : ∃ K, K = cutA line 61 := ⟨_, rfl⟩
        obtain ⟨V, hV⟩ : ∃ K, K = cutB line 61 := ⟨_, rfl⟩
        have hik : Kpt (∀ W, Calls Try.prog 75 #[.string (strOfNums K)] W fun e w' => e = .returned (.bool (keyB K)) ∧ w' = W) := ⟨fun W => by
          have := iskey_any (strOfNums K) W (by rw [str_size, hK]; have := hKl.out.1; have := hll.out; have := him.out; have := hcl.out; unfold maxLen; omega)
          rw [nums_str K (by rw [hK]; exact hKb.out.1)] at this
          exact this⟩
        have hiv : Kpt (∀ W, Calls Try.prog 76 #[.string (strOfNums V)] W fun e w' => e = .returned (.bool (valB V)) ∧ w' = W) := ⟨fun W => by
          have := isval_any (strOfNums V) W (by rw [str_size, hV]; have := hKl.out.2; have := hll.out; have := him.out; have := hcl.out; unfold maxLen; omega)
          rw [nums_str V (by rw [hV]; exact hKb.out.2)] at this
          exact this⟩
        have hsc : Kpt (∀ W, Calls Try.prog 74 #[.string (strOfNums line), .string ⟨#[61]⟩] W fun e w' => e = .returned (.tuple #[.string (strOfNums K), .string (strOfNums V), .bool (cutF line 61)]) ∧ Sm W w') := ⟨fun W => by rw [hK, hV]; exact scut_any line W hlb.out (by have := hll.out; have := him.out; have := hcl.out; omega)⟩
        rw [← hK, ← hV] at hpc2
        obtain ⟨sL, hsL⟩ : ∃ s, s = strOfNums line := ⟨_, rfl⟩
        obtain ⟨sK, hsK⟩ : ∃ s, s = strOfNums K := ⟨_, rfl⟩
        obtain ⟨sV, hsV⟩ : ∃ s, s = strOfNums V := ⟨_, rfl⟩
        rw [← hsL, ← hsK, ← hsV] at hsc
        rw [← hsK] at hik
        rw [← hsV] at hiv
        replace hsL := Kpt.mk hsL
        replace hsK := Kpt.mk hsK
        replace hsV := Kpt.mk hsV
        replace hi := Kpt.mk hi
        clear hline hK hV hpc
        obtain ⟨o2, ho2⟩ : ∃ x, x = offK c1 o (i + 1) := ⟨_, rfl⟩
        obtain ⟨m2, hm2⟩ : ∃ x, x = m - (i + 1) := ⟨_, rfl⟩
        obtain ⟨c2, hc2⟩ : ∃ x, x = c1 - (i + 1) := ⟨_, rfl⟩
        have hbc : Kpt (∀ W g, RdAt W (.slice (some ⟨b, o, none⟩) m c1) cur → W.cell? ⟨g, 0, none⟩ = some (.int .u8 0) → Calls Try.prog 73 #[.slice (some ⟨b, o, none⟩) m c1, .slice (some ⟨g, 0, none⟩) 1 1] W fun e w' => e = .returned (.tuple #[.slice (some ⟨b, o, none⟩) i c1, .slice (some ⟨b, o2, none⟩) m2 c2, .bool true]) ∧ Sm W w') := ⟨fun W g h hg => by rw [ho2, hm2, hc2]; exact bcut_yes b o m c1 g cur W h hbb.out.1 (by omega) hc1.out hg i hi.out⟩
        have hrest : Kpt (∀ W, RdAt W (.slice (some ⟨b, o, none⟩) m c1) cur → RdAt W (.slice (some ⟨b, o2, none⟩) m2 c2) (cur.drop (i + 1))) := ⟨fun W h => by rw [ho2, hm2, hc2]; exact rd_drop h (i + 1) (by have := him.out; have := hcl.out; omega)⟩
        have hm2' : Kpt (m2 + 1 ≤ m ∧ m2 + (k + 1) ≤ n ∧ c2 ≤ maxLen) := ⟨by have := him.out; have := hcl.out; have := hc1.out; omega⟩
        clear ho2 hm2 hc2
        obtain ⟨f1, hf1⟩ : ∃ f, f = cutF line 61 := ⟨_, rfl⟩
        obtain ⟨f2, hf2⟩ : ∃ f, f = keyB K := ⟨_, rfl⟩
        obtain ⟨f3, hf3⟩ : ∃ f, f = valB V := ⟨_, rfl⟩
        rw [← hf1] at hsc hpc2
        rw [← hf2] at hik hpc2
        rw [← hf3] at hiv hpc2
        clear hf1 hf2 hf3
        by_cases hall : (f1 && f2 && f3) = true
        · simp only [Bool.and_eq_true] at hall
          obtain ⟨⟨rfl, rfl⟩, rfl⟩ := hall
          have hnext : Kpt (par zs = (par (cur.drop (i + 1))).map ((acc ++ [(K, V)]) ++ ·)) := ⟨by
            rw [hpar.out, hpc2.out]
            cases par (cur.drop (i + 1)) <;> simp⟩
          go_wp2_with (first
            | (refine (?_ : wpList _ _ _ (Oper.mk (some 52) _ _ _ _ _ :: _) _ _); go_must (refine wpList_append_pr rfl (.tmp 47) (.tmp 51) rfl w.heap.size _ acc (K, V) k rfl R.out.own g5 rfl hcp.out.1 hcp.out.2 (by omega) R.out.bel.size ?_; intro v6 w6 ho6 hg6; obtain ⟨_, va6, vc6, rfl, _, _⟩ := prs_of ho6; have hb6 : Kpt (Below w.heap.size w w6) := ⟨R.out.bel.grown hg6 R.out.bel.size (fun k h => (World.ownsRow.lt R.out.own k h).1)⟩; have hr6 : Kpt (RdAt w6 (.slice (some ⟨b, o, none⟩) m c1) cur) := ⟨R.out.rd.of_block fun g' hg' => hg6.block g' (R.out.rd.lt (by have := hcl.out; omega) hg') (fun e => by have h9 := (World.ownsRow.lt R.out.own g' e.symm).1; have h8 := hbb.out.2; simp [Value.ownBlock] at hg'; omega)⟩; replace ho6 := Kpt.mk ho6; clear hg6))
            | (refine (?_ : wpList _ _ _ (Oper.mk (some 51) _ _ _ _ _ :: _) _ _); go_must (refine wpList_built_pr rfl sK sV (by kernel_rfl) ?_; intro g5 w5 hcell5 hbe5; replace R : Kpt (PI w w5 b o m c1 cur (.slice va k vc) k acc) := ⟨R.out.below hbe5⟩; have hcp : Kpt (w5.cell? ⟨g5, 0, none⟩ = some (.string (strOfNums K)) ∧ w5.cell? ⟨g5, 1, none⟩ = some (.string (strOfNums V))) := ⟨by rw [← hsK.out, ← hsV.out]; exact hcell5⟩; clear hbe5 hcell5))
            | (go_at_call 76; go_must (refine (hiv.out _).mono ?_; rintro e w4 ⟨rfl, rfl⟩))
            | (go_at_call 75; go_must (refine (hik.out _).mono ?_; rintro e w4 ⟨rfl, rfl⟩))
            | (go_at_call 74; go_must (refine (hsc.out _).mono ?_; rintro e w3 ⟨rfl, hs3⟩; replace R : Kpt (PI w w3 b o m c1 cur (.slice va k vc) k acc) := ⟨R.out.below hs3.bel⟩; clear hs3 hcv))
            | (go_at_call 73; go_must (refine (hbc.out _ g R.out.rd hgc.out).mono ?_; rintro e w2 ⟨rfl, hs2⟩; replace R : Kpt (PI w w2 b o m c1 cur (.slice va k vc) k acc) := ⟨R.out.below (hs2.bel)⟩; have hcv := conv_rd (hlr.out _ R.out.rd); rw [← hsL.out] at hcv; clear hs2))
            | (refine (?_ : wpList _ _ _ (Oper.mk (some 19) _ _ _ _ _ :: _) _ _); go_must (refine wpList_built rfl 1 [0] (by kernel_rfl) rfl (by decide) ?_; intro g w1 hg1 ho1 hbe1; replace R : Kpt (PI w w1 b o m c1 cur (.slice va k vc) k acc) := ⟨R.out.below hbe1⟩; have hgc : Kpt (w1.cell? ⟨g, 0, none⟩ = some (.int .u8 0)) := ⟨own_facts ho1 0 (by decide)⟩; clear hbe1 hg1 ho1)))
          go_roundw
          case rel => exact ⟨some ⟨b, o2, none⟩, m2, c2, cur.drop (i + 1), k + 1, acc ++ [(K, V)], rfl, by have := hm2'.out.1; omega, hm2'.out.2.1, ⟨hm2'.out.2.2⟩, ⟨hrest.out _ hr6.out, hbb.out.1.drop _, fun g hg _ => by simp at hg; subst hg; exact hbb.out.2⟩, ho6, hnext, hb6⟩
          case measure => simp [sliceN]; have := hm2'.out.1; omega
        · have hno : Kpt (parE zs = 13 ∧ parO zs = []) := ⟨by
            have e1 : par zs = none := by rw [hpar.out, hpc2.out, if_neg hall]; rfl
            unfold parE parO; rw [e1]; exact ⟨rfl, rfl⟩⟩
          cases f1 with
          | false =>
            go_wp2_with (first
            | (go_at_call 76; go_must (refine (hiv.out _).mono ?_; rintro e w4 ⟨rfl, rfl⟩))
            | (go_at_call 75; go_must (refine (hik.out _).mono ?_; rintro e w4 ⟨rfl, rfl⟩))
            | (go_at_call 74; go_must (refine (hsc.out _).mono ?_; rintro e w3 ⟨rfl, hs3⟩; replace R : Kpt (PI w w3 b o m c1 cur (.slice va k vc) k acc) := ⟨R.out.below hs3.bel⟩; clear hs3 hcv))
            | (go_at_call 73; go_must (refine (hbc.out _ g R.out.rd hgc.out).mono ?_; rintro e w2 ⟨rfl, hs2⟩; replace R : Kpt (PI w w2 b o m c1 cur (.slice va k vc) k acc) := ⟨R.out.below (hs2.bel)⟩; have hcv := conv_rd (hlr.out _ R.out.rd); rw [← hsL.out] at hcv; clear hs2))
            | (refine (?_ : wpList _ _ _ (Oper.mk (some 19) _ _ _ _ _ :: _) _ _); go_must (refine wpList_built rfl 1 [0] (by kernel_rfl) rfl (by decide) ?_; intro g w1 hg1 ho1 hbe1; replace R : Kpt (PI w w1 b o m c1 cur (.slice va k vc) k acc) := ⟨R.out.below hbe1⟩; have hgc : Kpt (w1.cell? ⟨g, 0, none⟩ = some (.int .u8 0)) := ⟨own_facts ho1 0 (by decide)⟩; clear hbe1 hg1 ho1)))
            go_ret2
            exact ⟨.slice none 0 0, by rw [hno.out.1]; rfl, by rw [hno.out.2]; exact World.ownsRow_nil _ _ 105 2, R.out.bel⟩
          | true =>
            cases f2 with
            | false =>
              go_wp2_with (first
            | (go_at_call 76; go_must (refine (hiv.out _).mono ?_; rintro e w4 ⟨rfl, rfl⟩))
            | (go_at_call 75; go_must (refine (hik.out _).mono ?_; rintro e w4 ⟨rfl, rfl⟩))
            | (go_at_call 74; go_must (refine (hsc.out _).mono ?_; rintro e w3 ⟨rfl, hs3⟩; replace R : Kpt (PI w w3 b o m c1 cur (.slice va k vc) k acc) := ⟨R.out.below hs3.bel⟩; clear hs3 hcv))
            | (go_at_call 73; go_must (refine (hbc.out _ g R.out.rd hgc.out).mono ?_; rintro e w2 ⟨rfl, hs2⟩; replace R : Kpt (PI w w2 b o m c1 cur (.slice va k vc) k acc) := ⟨R.out.below (hs2.bel)⟩; have hcv := conv_rd (hlr.out _ R.out.rd); rw [← hsL.out] at hcv; clear hs2))
            | (refine (?_ : wpList _ _ _ (Oper.mk (some 19) _ _ _ _ _ :: _) _ _); go_must (refine wpList_built rfl 1 [0] (by kernel_rfl) rfl (by decide) ?_; intro g w1 hg1 ho1 hbe1; replace R : Kpt (PI w w1 b o m c1 cur (.slice va k vc) k acc) := ⟨R.out.below hbe1⟩; have hgc : Kpt (w1.cell? ⟨g, 0, none⟩ = some (.int .u8 0)) := ⟨own_facts ho1 0 (by decide)⟩; clear hbe1 hg1 ho1)))
              go_ret2
              exact ⟨.slice none 0 0, by rw [hno.out.1]; rfl, by rw [hno.out.2]; exact World.ownsRow_nil _ _ 105 2, R.out.bel⟩
            | true =>
              cases f3 with
              | true => exact absurd rfl hall
              | false =>
                go_wp2_with (first
            | (go_at_call 76; go_must (refine (hiv.out _).mono ?_; rintro e w4 ⟨rfl, rfl⟩))
            | (go_at_call 75; go_must (refine (hik.out _).mono ?_; rintro e w4 ⟨rfl, rfl⟩))
            | (go_at_call 74; go_must (refine (hsc.out _).mono ?_; rintro e w3 ⟨rfl, hs3⟩; replace R : Kpt (PI w w3 b o m c1 cur (.slice va k vc) k acc) := ⟨R.out.below hs3.bel⟩; clear hs3 hcv))
            | (go_at_call 73; go_must (refine (hbc.out _ g R.out.rd hgc.out).mono ?_; rintro e w2 ⟨rfl, hs2⟩; replace R : Kpt (PI w w2 b o m c1 cur (.slice va k vc) k acc) := ⟨R.out.below (hs2.bel)⟩; have hcv := conv_rd (hlr.out _ R.out.rd); rw [← hsL.out] at hcv; clear hs2))
            | (refine (?_ : wpList _ _ _ (Oper.mk (some 19) _ _ _ _ _ :: _) _ _); go_must (refine wpList_built rfl 1 [0] (by kernel_rfl) rfl (by decide) ?_; intro g w1 hg1 ho1 hbe1; replace R : Kpt (PI w w1 b o m c1 cur (.slice va k vc) k acc) := ⟨R.out.below hbe1⟩; have hgc : Kpt (w1.cell? ⟨g, 0, none⟩ = some (.int .u8 0)) := ⟨own_facts ho1 0 (by decide)⟩; clear hbe1 hg1 ho1)))
                go_ret2
                exact ⟨.slice none 0 0, by rw [hno.out.1]; rfl, by rw [hno.out.2]; exact World.ownsRow_nil _ _ 105 2, R.out.bel⟩
    · have h0I : ¬ (0 : Int) < m := by omega
      obtain rfl : m = 0 := by omega
      have hce : cur = [] := by obtain ⟨a', c', hv, _⟩ := hcu.out.1; simp only [Value.slice.injEq] at hv; exact List.eq_nil_of_length_eq_zero hv.2.1.symm
      have hps : par zs = some acc := by rw [hpar.out, hce, par_nil]; simp
      obtain ⟨hpa, a', c', hv, hcx, hal⟩ := prs_of hown.out
      simp only [Value.slice.injEq] at hv
      obtain ⟨rfl, -, rfl⟩ := hv
      have htw := Kpt.mk (fun W (h : PsAt W (.slice va k vc) (acc.map prS)) => twice_any va k vc (acc.map prS) W h (by unfold maxLen; omega) hcx)
      have hpa' := Kpt.mk hpa
      have hal' := Kpt.mk hal
      clear hcu hpar hpa hal hcx hce
      by_cases h64 : 64 < k
      · have hE : Kpt (parE zs = 2 ∧ parO zs = []) := ⟨by unfold parE parO; rw [hps]; have := hal'.out; exact ⟨if_pos (by omega), if_pos (by omega)⟩⟩
        have h64I : (64 : Int) < k := by omega
        clear hps
        go_wp2
        go_ret2
        exact ⟨.slice none 0 0, by rw [hE.out.1]; rfl, by rw [hE.out.2]; exact World.ownsRow_nil _ _ 105 2, hbe.out⟩
      · have h64I : ¬ (64 : Int) < k := by omega
        cases htv : twP (acc.map prS) with
        | true =>
          have hE : Kpt (parE zs = 9 ∧ parO zs = []) := ⟨by unfold parE parO; rw [hps]; have h64' : ¬ 64 < acc.length := (by have := hal'.out; omega); simp only; rw [if_neg h64', if_neg h64', if_pos htv, if_pos htv]; exact ⟨rfl, rfl⟩⟩
          rw [htv] at htw
          clear hps htv
          go_wp2_with (go_at_call 77; go_must (refine (htw.out _ hpa'.out).mono ?_; rintro e w2 ⟨rfl, hbe2⟩; replace hbe : Kpt (Below w.heap.size w w2) := ⟨hbe.out.trans (hbe2.mono hbe.out.size)⟩; clear hbe2))
          go_ret2
          exact ⟨.slice none 0 0, by rw [hE.out.1]; rfl, by rw [hE.out.2]; exact World.ownsRow_nil _ _ 105 2, hbe.out⟩
        | false =>
          have hE : Kpt (parE zs = 0 ∧ parO zs = acc) := ⟨by unfold parE parO; rw [hps]; have h64' : ¬ 64 < acc.length := (by have := hal'.out; omega); have h65 : ¬ twP (acc.map prS) = true := (by rw [htv]; simp); simp only; rw [if_neg h64', if_neg h64', if_neg h65, if_neg h65]; exact ⟨rfl, rfl⟩⟩
          rw [htv] at htw
          clear hps htv
          go_wp2_with (go_at_call 77; go_must (refine (htw.out _ hpa'.out).mono ?_; rintro e w2 ⟨rfl, hbe2⟩; replace hown : Kpt (w2.ownsRow w.heap.size 105 2 (.slice va k vc) k (cellsP acc)) := ⟨own_ofb hown.out fun g hg => hbe2.block g (World.ownsRow.lt hown.out g hg).2⟩; replace hbe : Kpt (Below w.heap.size w w2) := ⟨hbe.out.trans (hbe2.mono hbe.out.size)⟩; clear hbe2))
          go_ret2
          exact ⟨.slice va k vc, by rw [hE.out.1]; rfl, by rw [hE.out.2, hal'.out]; exact hown.out, hbe.out⟩
end Go.Proofs.Ytdplndlmdhpfaaa
