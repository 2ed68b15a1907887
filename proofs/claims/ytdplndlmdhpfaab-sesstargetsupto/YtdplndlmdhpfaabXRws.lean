/-
  text: the document's Write.
-/
import Derived.Test.YtdplndlmdhpfaabXRtws
namespace Go.Proofs.Ytdplndlmdhpfaab
open Go.RowKit
set_option linter.unusedVariables false
set_option linter.unusedSimpArgs false

/-- append of bytes that can be read onto a row of one's own, whatever it is. -/
theorem wpList_append_gen {w : World} {ops : Array Oper} {rest : List Oper} {o : Oper} {a : Act} {Q : Exit → Act → World → Prop} (hgd : o.guard = none) (d s : Operand)
    (ho : o.op = .call { callee := .builtin .append, args := #[d, s], argTypes := #[30, 30] })
    (base : Nat) (v sv : Value) (zs ds : List Int) (m : Nat) (hd : a.eval d = v) (hs : a.eval s = sv) (hown : w.ownsRow base 5 1 v m (cels zs)) (hrd : RdAt w sv ds) (hm : zs.length = m) (hlen : m + ds.length ≤ 140737488355328) (hb : base ≤ w.heap.size)
    (h : ∀ v' w', Kpt (w'.ownsRow base 5 1 v' (m + ds.length) (cels (zs ++ ds))) → Kpt (w.grownBy w' v.ownBlock) → wpList Try.prog ops Q rest (a.put o.dst v') w') : wpList Try.prog ops Q (o :: rest) a w := by
  subst hm
  obtain ⟨i0, hi0, hz0, hz1, hz2⟩ := info_parts Try.info5
  obtain ⟨sa, sc, rfl, hsn, hsl, hsr⟩ := hrd
  cases sa with
  | none =>
    obtain ⟨e1, rfl⟩ := hsn rfl
    obtain rfl : ds = [] := List.eq_nil_of_length_eq_zero e1
    refine wpList_append_own_none hgd d s 30 ho base 5 i0 1 Try.underlying30 hi0 v zs.length (cels zs) hd hown hs ?_
    exact h v w ⟨by simpa using hown⟩ ⟨rfl, rfl, rfl, Nat.le_refl _, fun _ _ _ => rfl⟩
  | some x =>
    have hcell : ∀ j u, (cels ds)[j]? = some u → w.cell? (x.add j) = some u := fun j u hu => by
      rcases hsr with h1 | ⟨b, soff, e, hc⟩
      · rw [List.getElem?_eq_none (by simp; omega)] at hu; cases hu
      · cases e; rw [Go.WideShapes.add_plain]; exact hc j u hu
    refine wpList_append_own _ hgd d s 30 ho base 5 i0 (.int .u8 0) 1 1 Try.underlying30 hi0 hz0 hz1 hz2 rfl (by decide) v zs.length (cels zs) hd hown x ds.length sc (cels ds) hs (by simp) hcell (cels_one _) (by unfold maxLen; omega) (by omega) hb ?_
    intro v1 w1 hown1 hg1 _
    exact h v1 w1 ⟨by rw [cels_append]; exact hown1⟩ ⟨hg1⟩

theorem own_row {w : World} {base n : Nat} {v : Value} {zs : List Int} (h : w.ownsRow base 5 1 v n (cels zs)) (hn : zs.length = n) : RdAt w v zs := by
  subst hn
  exact Row.rd (own_base h (Nat.zero_le _))
theorem own_slice {w : World} {base m : Nat} {v : Value} {cs : List Value} (h : w.ownsRow base 5 1 v m cs) : Nonempty (∃ va vc, v = .slice va m vc) := by
  rcases h.2 with ⟨rfl, h0⟩ | ⟨g, cap, cur, rfl, _⟩
  · exact ⟨⟨none, 0, by rw [h0]⟩⟩
  · exact ⟨⟨_, _, rfl⟩⟩

set_option maxRecDepth 100000 in
theorem rwrite_long (a : Option Addr) (n c : Nat) (w : World) (hn : 64 < n) (hm : n ≤ maxLen) :
    Calls Try.prog 9 #[.slice a n c] w fun e w' => e = .returned (.tuple #[.slice none 0 0, .int .i64 2]) ∧ w' = w := by
  have h1 : (64 : Int) < n := by omega
  unfold maxLen at hm
  go_enter Try.func9, Try.ntmps9
  go_wp2
  go_ret2
  exact ⟨rfl, rfl⟩

set_option maxRecDepth 100000 in
set_option maxHeartbeats 4000000 in
theorem rwrite_any (a : Option Addr) (n c : Nat) (ps : List (ByteArray × ByteArray)) (w : World) (hr : PsAt w (.slice a n c) ps) (hn : n ≤ 64) (hc : c ≤ maxLen) (hsz : ∀ p ∈ ps, p.1.size ≤ maxLen ∧ p.2.size ≤ maxLen) :
    Calls Try.prog 9 #[.slice a n c] w fun e w' => ∃ v, e = .returned (.tuple #[v, .int .i64 (wrE ps)]) ∧ w'.ownsRow w.heap.size 5 1 v (wrO ps).length (cels (wrO ps)) ∧ Below w.heap.size w w' := by
  have hl : ps.length = n := by obtain ⟨a', c', hv, _⟩ := hr; simp only [Value.slice.injEq] at hv; exact hv.2.1.symm
  have hrB : Kpt (∀ W, Below w.heap.size w W → PsAt W (.slice a n c) ps) := ⟨fun W h => hr.bel h⟩
  have htw := Kpt.mk (fun W (h : Below w.heap.size w W) => rtwice_any a n c ps W (hr.bel h) (by unfold maxLen; omega))
  have hsz' := Kpt.mk hsz
  have hl' := Kpt.mk hl
  have h1 : ¬ (64 : Int) < n := by omega
  clear hr hl hsz hc
  go_enter Try.func9, Try.ntmps9
  go_wp2
  go_loopw [4, 5] (fun t4 t wr => ∃ k N : Nat, k ≤ n ∧ t = .int .i64 k ∧ N ≤ k * 320 ∧ Kpt (N = (rowsL (ps.take k)).length) ∧ Kpt (wr.ownsRow w.heap.size 5 1 t4 N (cels (rowsL (ps.take k)))) ∧ Kpt (Below w.heap.size w wr) ∧ Kpt (∀ p ∈ ps.take k, okP p = true)) (fun _ t _ => n - (intOf t).toNat)
  case atStart => exact ⟨0, 0, by omega, rfl, by omega, ⟨rfl⟩, ⟨World.ownsRow_nil w w.heap.size 5 1⟩, ⟨Below.refl _ _⟩, ⟨fun p hp => by simp at hp⟩⟩
  case round =>
    obtain ⟨k, N, hk, rfl, hN, hNl, hown, hbk, hok⟩ := hrel
    obtain ⟨⟨va0, vc0, rfl⟩⟩ : Nonempty (∃ va0 vc0, u4 = .slice va0 N vc0) := by
      rcases hown.out.2 with ⟨rfl, h0⟩ | ⟨g, cap, cur, rfl, _⟩
      · exact ⟨⟨none, 0, by rw [h0]⟩⟩
      · exact ⟨⟨_, _, rfl⟩⟩
    by_cases hlt : k < n
    · have hltI : (k : Int) < n := by omega
      obtain ⟨p, hp⟩ : ∃ p, ps[k]? = some p := ⟨_, List.getElem?_eq_getElem (by rw [hl'.out]; exact hlt)⟩
      obtain ⟨b, off, rfl, hcB⟩ : ∃ b off, a = some ⟨b, off, none⟩ ∧ Kpt (∀ W, Below w.heap.size w W → W.cell? ⟨b, off + k * 2, none⟩ = some (.string p.1) ∧ W.cell? ⟨b, off + k * 2 + 1, none⟩ = some (.string p.2)) := by
        obtain ⟨b, off, e, -, -⟩ := ps_cells (hrB.out wr hbk.out) k hlt p hp
        refine ⟨b, off, e, ⟨fun W hW => ?_⟩⟩
        obtain ⟨b', off', e', h1, h2⟩ := ps_cells (hrB.out W hW) k hlt p hp
        rw [e] at e'
        simp only [Option.some.injEq, Addr.mk.injEq, and_true] at e'
        obtain ⟨rfl, rfl⟩ := e'
        exact ⟨h1, h2⟩
      have hpm : p ∈ ps := List.mem_of_getElem? hp
      have hsp := hsz'.out p hpm
      replace hpm := Kpt.mk hpm
      have hik := Kpt.mk (fun W => rkey_any p.1 W hsp.1)
      have hiv := Kpt.mk (fun W => rval_any p.2 W hsp.2)
      have hokp : okP p = (keyB (nums p.1) && valB (nums p.2)) := rfl
      have htk : ps.take (k + 1) = ps.take k ++ [p] := by
        obtain ⟨h9, rfl⟩ := List.getElem?_eq_some_iff.1 hp
        exact List.take_succ_eq_append_getElem h9
      have htk' := Kpt.mk htk
      clear hp htk hsp
      obtain ⟨K, V⟩ := p
      simp only at hik hiv hokp hcB
      have kc0 := (hcB.out _ hbk.out).1
      have kd0 := (hcB.out _ hbk.out).2
      obtain ⟨f2, hf2⟩ : ∃ f, f = keyB (nums K) := ⟨_, rfl⟩
      obtain ⟨f3, hf3⟩ : ∃ f, f = valB (nums V) := ⟨_, rfl⟩
      rw [← hf2] at hik hokp
      rw [← hf3] at hiv hokp
      clear hf2 hf3
      by_cases hall : okP (K, V) = true
      · have hsz2 := ok_len hall
        rw [hall] at hokp
        have hff : f2 = true ∧ f3 = true := by simpa using hokp.symm
        obtain ⟨rfl, rfl⟩ := hff
        have hok2 : Kpt (∀ p ∈ ps.take (k + 1), okP p = true) := ⟨fun p hp => by
          rw [htk'.out] at hp
          rcases List.mem_append.1 hp with hp | hp
          · exact hok.out p hp
          · simp at hp; rw [hp]; exact hall⟩
        have hrw : Kpt (rowsL (ps.take (k + 1)) = rowsL (ps.take k) ++ rowL (K, V)) := ⟨by rw [htk'.out, rows_snoc]⟩
        have hTs : Kpt (K.size ≤ 63 ∧ V.size ≤ 255) := ⟨hsz2.1, hsz2.2.1⟩
        clear hokp hall hsz2
        have hb0 := hbk
        have ho0 := hown
        clear hown hbk
        go_wp2_with (first
          | (refine (?_ : wpList _ _ _ (Oper.mk (some 50) _ _ _ _ _ :: _) _ _); go_must (refine wpList_append_gen rfl (.tmp 48) (.tmp 49) rfl w.heap.size _ _ (((rowsL (ps.take k) ++ nums K) ++ [61]) ++ nums V) [0] (N + K.size + 1 + V.size) rfl rfl ho40.out hrd4.out hle4.out (by have := hTs.out; simp; omega) hb40.out.size ?_; intro v4 w4 ho4 hg4; have hb4 : Kpt (Below w.heap.size w w4) := ⟨hb40.out.grown hg4.out hb40.out.size (fun k h => (World.ownsRow.lt ho40.out k h).1)⟩; obtain ⟨⟨va4, vc4, rfl⟩⟩ := own_slice ho4.out; have kc4 := (hcB.out _ hb4.out).1; have kd4 := (hcB.out _ hb4.out).2; clear hg4))
          | (refine (?_ : wpList _ _ _ (Oper.mk (some 49) _ _ _ _ _ :: _) _ _); go_must (refine wpList_built rfl 1 [0] (by kernel_rfl) rfl (by decide) ?_; intro g4 w40 hg40 hob4 hbe40; have hb40 : Kpt (Below w.heap.size w w40) := ⟨hb3.out.trans (hbe40.mono hb3.out.size)⟩; have ho40 : Kpt (w40.ownsRow w.heap.size 5 1 (.slice va3 (N + K.size + 1 + V.size) vc3) (N + K.size + 1 + V.size) (cels (((rowsL (ps.take k) ++ nums K) ++ [61]) ++ nums V))) := ⟨own_of_block ho3.out fun g hg => hbe40.block g (World.ownsRow.lt ho3.out g hg).2⟩; have hrd4 : Kpt (RdAt w40 (.slice (some ⟨g4, 0, none⟩) 1 1) [0]) := ⟨own_row hob4 rfl⟩; have hle4 : Kpt ((((rowsL (ps.take k) ++ nums K) ++ [61]) ++ nums V).length = N + K.size + 1 + V.size) := ⟨by have := hNl.out; simp only [List.length_append, nums_len, List.length_cons, List.length_nil]; omega⟩; clear hbe40 hob4 hg40))
          | (refine (?_ : wpList _ _ _ (Oper.mk (some 47) _ _ _ _ _ :: _) _ _); go_must (refine wpList_append_str rfl (.tmp 41) (.tmp 46) rfl w.heap.size (.slice va2 _ vc2) ((rowsL (ps.take k) ++ nums K) ++ [61]) (N + K.size + 1) V rfl rfl ho2.out (by have := hTs.out; omega) hb2.out.size ?_; intro v3 w3 ho3 hg3; have hb3 : Kpt (Below w.heap.size w w3) := ⟨hb2.out.grown hg3.out hb2.out.size (fun k h => (World.ownsRow.lt ho2.out k h).1)⟩; obtain ⟨⟨va3, vc3, rfl⟩⟩ := own_slice ho3.out; have kc3 := (hcB.out _ hb3.out).1; have kd3 := (hcB.out _ hb3.out).2; clear hg3))
          | (refine (?_ : wpList _ _ _ (Oper.mk (some 40) _ _ _ _ _ :: _) _ _); go_must (refine wpList_append_gen rfl (.tmp 38) (.tmp 39) rfl w.heap.size _ _ (rowsL (ps.take k) ++ nums K) [61] (N + K.size) rfl rfl ho20.out hrd2.out hle2.out (by have := hTs.out; simp; omega) hb20.out.size ?_; intro v2 w2 ho2 hg2; have hb2 : Kpt (Below w.heap.size w w2) := ⟨hb20.out.grown hg2.out hb20.out.size (fun k h => (World.ownsRow.lt ho20.out k h).1)⟩; obtain ⟨⟨va2, vc2, rfl⟩⟩ := own_slice ho2.out; have kc2 := (hcB.out _ hb2.out).1; have kd2 := (hcB.out _ hb2.out).2; clear hg2))
          | (refine (?_ : wpList _ _ _ (Oper.mk (some 39) _ _ _ _ _ :: _) _ _); go_must (refine wpList_built rfl 1 [61] (by kernel_rfl) rfl (by decide) ?_; intro g2 w20 hg20 hob2 hbe20; have hb20 : Kpt (Below w.heap.size w w20) := ⟨hb1.out.trans (hbe20.mono hb1.out.size)⟩; have ho20 : Kpt (w20.ownsRow w.heap.size 5 1 (.slice va1 (N + K.size) vc1) (N + K.size) (cels (rowsL (ps.take k) ++ nums K))) := ⟨own_of_block ho1.out fun g hg => hbe20.block g (World.ownsRow.lt ho1.out g hg).2⟩; have hrd2 : Kpt (RdAt w20 (.slice (some ⟨g2, 0, none⟩) 1 1) [61]) := ⟨own_row hob2 rfl⟩; have hle2 : Kpt ((rowsL (ps.take k) ++ nums K).length = N + K.size) := ⟨by have := hNl.out; simp only [List.length_append, nums_len, List.length_cons, List.length_nil]; omega⟩; clear hbe20 hob2 hg20))
          | (refine (?_ : wpList _ _ _ (Oper.mk (some 37) _ _ _ _ _ :: _) _ _); go_must (refine wpList_append_str rfl (.tmp 31) (.tmp 36) rfl w.heap.size (.slice va0 N vc0) (rowsL (ps.take k)) N K rfl rfl ho0.out (by have := hTs.out; omega) hb0.out.size ?_; intro v1 w1 ho1 hg1; have hb1 : Kpt (Below w.heap.size w w1) := ⟨hb0.out.grown hg1.out hb0.out.size (fun k h => (World.ownsRow.lt ho0.out k h).1)⟩; obtain ⟨⟨va1, vc1, rfl⟩⟩ := own_slice ho1.out; have kc1 := (hcB.out _ hb1.out).1; have kd1 := (hcB.out _ hb1.out).2; clear hg1))
          | (go_at_call 18; go_must (refine (hiv.out _).mono ?_; rintro e w8 ⟨rfl, rfl⟩))
          | (go_at_call 17; go_must (refine (hik.out _).mono ?_; rintro e w8 ⟨rfl, rfl⟩)))
        go_roundw
        case rel => exact ⟨k + 1, N + K.size + 1 + V.size + 1, by omega, by go_num, by have := hTs.out; omega, ⟨by rw [hrw.out]; have := hNl.out; simp only [rowL, List.length_append, nums_len, List.length_cons, List.length_nil]; omega⟩, ⟨by rw [hrw.out, show rowsL (ps.take k) ++ rowL (K, V) = (((rowsL (ps.take k) ++ nums K) ++ [61]) ++ nums V) ++ [0] from by simp [rowL]]; exact ho4.out⟩, hb4, hok2⟩
        case measure => simp [intOf]; omega
      · have hE : Kpt (wrE ps = 13) := ⟨by
          unfold wrE
          rw [if_neg (by have := hl'.out; omega), if_pos]
          refine Bool.eq_false_iff.2 fun h => hall (List.all_eq_true.1 h _ hpm.out)⟩
        have hO : Kpt (wrO ps = []) := ⟨wrO_no (by rw [hE.out]; decide)⟩
        have hff : f2 = false ∨ (f2 = true ∧ f3 = false) := by
          rw [hokp] at hall
          cases f2 <;> cases f3 <;> simp_all
        clear hall hokp hrB htw
        rcases hff with rfl | ⟨rfl, rfl⟩
        · go_wp2_with (first
          | (go_at_call 18; go_must (refine (hiv.out _).mono ?_; rintro e w8 ⟨rfl, rfl⟩))
          | (go_at_call 17; go_must (refine (hik.out _).mono ?_; rintro e w8 ⟨rfl, rfl⟩)))
          go_ret2
          exact ⟨.slice none 0 0, by rw [hE.out]; rfl, by rw [hO.out]; exact World.ownsRow_nil _ _ 5 1, hbk.out⟩
        · go_wp2_with (first
          | (go_at_call 18; go_must (refine (hiv.out _).mono ?_; rintro e w8 ⟨rfl, rfl⟩))
          | (go_at_call 17; go_must (refine (hik.out _).mono ?_; rintro e w8 ⟨rfl, rfl⟩)))
          go_ret2
          exact ⟨.slice none 0 0, by rw [hE.out]; rfl, by rw [hO.out]; exact World.ownsRow_nil _ _ 5 1, hbk.out⟩
    · have hltI : ¬ (k : Int) < n := by omega
      obtain rfl : k = n := by omega
      have htt : ps.take k = ps := List.take_of_length_le (Nat.le_of_eq hl'.out)
      rw [htt] at hNl hown hok
      have hal : Kpt (¬ ps.all okP = false) := ⟨by simpa using hok.out⟩
      have h64 : Kpt (¬ 64 < ps.length) := ⟨by have := hl'.out; omega⟩
      clear htt hok
      by_cases h4 : 4096 < N
      · have h4I : (4096 : Int) < N := by omega
        have hE : Kpt (wrE ps = 2) := ⟨by
          unfold wrE
          rw [if_neg h64.out, if_neg hal.out, if_pos (by rw [← hNl.out]; exact h4)]⟩
        have hO : Kpt (wrO ps = []) := ⟨wrO_no (by rw [hE.out]; decide)⟩
        clear hrB htw
        go_wp2
        go_ret2
        exact ⟨.slice none 0 0, by rw [hE.out]; rfl, by rw [hO.out]; exact World.ownsRow_nil _ _ 5 1, hbk.out⟩
      · have h4I : ¬ (4096 : Int) < N := by omega
        cases htv : twP ps with
        | true =>
          have hE : Kpt (wrE ps = 9) := ⟨by
            unfold wrE
            rw [if_neg h64.out, if_neg hal.out, if_neg (by rw [← hNl.out]; exact h4), if_pos htv]⟩
          have hO : Kpt (wrO ps = []) := ⟨wrO_no (by rw [hE.out]; decide)⟩
          rw [htv] at htw
          clear htv hrB
          go_wp2_with (go_at_call 19; go_must (refine (htw.out _ hbk.out).mono ?_; rintro e w2 ⟨rfl, hbe2⟩; replace hbk : Kpt (Below w.heap.size w w2) := ⟨hbk.out.trans (hbe2.bel.mono hbk.out.size)⟩; clear hbe2))
          go_ret2
          exact ⟨.slice none 0 0, by rw [hE.out]; rfl, by rw [hO.out]; exact World.ownsRow_nil _ _ 5 1, hbk.out⟩
        | false =>
          have hE : Kpt (wrE ps = 0) := ⟨by
            unfold wrE
            rw [if_neg h64.out, if_neg hal.out, if_neg (by rw [← hNl.out]; exact h4), if_neg (by rw [htv]; simp)]⟩
          have hO : Kpt (wrO ps = rowsL ps) := ⟨if_pos hE.out⟩
          rw [htv] at htw
          clear htv hrB
          go_wp2_with (go_at_call 19; go_must (refine (htw.out _ hbk.out).mono ?_; rintro e w2 ⟨rfl, hbe2⟩; replace hown : Kpt (w2.ownsRow w.heap.size 5 1 (.slice va0 N vc0) N (cels (rowsL ps))) := ⟨own_of_block hown.out fun g hg => hbe2.bel.block g (World.ownsRow.lt hown.out g hg).2⟩; replace hbk : Kpt (Below w.heap.size w w2) := ⟨hbk.out.trans (hbe2.bel.mono hbk.out.size)⟩; clear hbe2))
          go_ret2
          exact ⟨.slice va0 N vc0, by rw [hE.out]; rfl, by rw [hO.out, ← hNl.out]; exact hown.out, hbk.out⟩
end Go.Proofs.Ytdplndlmdhpfaab
