/-
  text: Write.
-/
import Derived.Test.YtkojkglaljiilaaXWp
import Derived.Lib.AppendStr
import Derived.Lib.ConvBytes
namespace Go.Proofs.Ytkojkglaljiilaa
open Go.RowKit
set_option linter.unusedVariables false
set_option linter.unusedSimpArgs false

theorem strCells_nums (S : ByteArray) : Lib.strCells S = cels (nums S) := by
  unfold Lib.strCells cels nums
  rw [List.map_map]
  rfl
theorem wpList_append_str {w : World} {ops : Array Oper} {rest : List Oper} {o : Oper} {a : Act} {Q : Exit → Act → World → Prop} (hgd : o.guard = none) (d s : Operand)
    (ho : o.op = .call { callee := .builtin .append, args := #[d, s], argTypes := #[22, 9] })
    (base : Nat) (v : Value) (zs : List Int) (n : Nat) (T : ByteArray) (hd : a.eval d = v) (hs : a.eval s = .string T) (hown : w.ownsRow base 5 1 v n (cels zs)) (hlen : n + T.size ≤ 100000) (hb : base ≤ w.heap.size)
    (h : ∀ v' w', Kpt (w'.ownsRow base 5 1 v' (n + T.size) (cels (zs ++ nums T))) → Kpt (w.grownBy w' v.ownBlock) → wpList Try.prog ops Q rest (a.put o.dst v') w') : wpList Try.prog ops Q (o :: rest) a w := by
  obtain ⟨i0, hi0, hz0, hz1, hz2⟩ := info_parts Try.info5
  refine Lib.wpList_append_own_string (P := Try.prog) w hgd d s 22 9 ho base 5 i0 Try.underlying22 Try.underlying9 hi0 hz0 hz1 hz2 v n (cels zs) hd hown T hs (by unfold maxLen; omega) (by omega) hb ?_
  intro v' w' ho' hg' _
  exact h v' w' ⟨by rw [cels_append, ← strCells_nums]; exact ho'⟩ ⟨hg'⟩

theorem wrO_no {ps : List (ByteArray × ByteArray)} (h : wrE ps ≠ 0) : wrO ps = [] := if_neg h
theorem cat_size (K V : ByteArray) : (K ++ ⟨#[61]⟩ ++ V ++ ⟨#[0]⟩).size = K.size + 1 + V.size + 1 := by rw [ByteArray.size_append, ByteArray.size_append, ByteArray.size_append]; rfl

set_option maxRecDepth 100000 in
theorem write_long (a : Option Addr) (n c : Nat) (w : World) (hn : 64 < n) (hm : n ≤ maxLen) :
    Calls Try.prog 10 #[.slice a n c] w fun e w' => e = .returned (.tuple #[.slice none 0 0, .int .i64 2]) ∧ w' = w := by
  have h1 : (64 : Int) < n := by omega
  unfold maxLen at hm
  go_enter Try.func10, Try.ntmps10
  go_wp2
  go_ret2
  exact ⟨rfl, rfl⟩

set_option maxRecDepth 100000 in
set_option maxHeartbeats 4000000 in
theorem write_any (a : Option Addr) (n c : Nat) (ps : List (ByteArray × ByteArray)) (w : World) (hr : PsAt w (.slice a n c) ps) (hn : n ≤ 64) (hc : c ≤ maxLen) (hsz : ∀ p ∈ ps, p.1.size ≤ maxLen ∧ p.2.size ≤ maxLen) :
    Calls Try.prog 10 #[.slice a n c] w fun e w' => ∃ v, e = .returned (.tuple #[v, .int .i64 (wrE ps)]) ∧ w'.ownsRow w.heap.size 5 1 v (wrO ps).length (cels (wrO ps)) ∧ Below w.heap.size w w' := by
  have hl : ps.length = n := by obtain ⟨a', c', hv, _⟩ := hr; simp only [Value.slice.injEq] at hv; exact hv.2.1.symm
  have hrB : Kpt (∀ W, Below w.heap.size w W → PsAt W (.slice a n c) ps) := ⟨fun W h => hr.bel h⟩
  have htw := Kpt.mk (fun W (h : Below w.heap.size w W) => twice_any a n c ps W (hr.bel h) (by unfold maxLen; omega) hc)
  have hsz' := Kpt.mk hsz
  have hl' := Kpt.mk hl
  have h1 : ¬ (64 : Int) < n := by omega
  clear hr hl hsz hc
  go_enter Try.func10, Try.ntmps10
  go_wp2
  go_loopw [4, 12] (fun t4 t wr => ∃ k N : Nat, k ≤ n ∧ t = .int .i64 k ∧ N ≤ k * 320 ∧ Kpt (N = (rowsL (ps.take k)).length) ∧ Kpt (wr.ownsRow w.heap.size 5 1 t4 N (cels (rowsL (ps.take k)))) ∧ Kpt (Below w.heap.size w wr) ∧ Kpt (∀ p ∈ ps.take k, okP p = true)) (fun _ t _ => n - (intOf t).toNat)
  case atStart => exact ⟨0, 0, by omega, rfl, by omega, ⟨rfl⟩, ⟨World.ownsRow_nil w w.heap.size 5 1⟩, ⟨Below.refl _ _⟩, ⟨fun p hp => by simp at hp⟩⟩
  case round =>
    obtain ⟨k, N, hk, rfl, hN, hNl, hown, hbk, hok⟩ := hrel
    obtain ⟨⟨va, vc, rfl⟩⟩ : Nonempty (∃ va vc, u4 = .slice va N vc) := by
      rcases hown.out.2 with ⟨rfl, h0⟩ | ⟨g, cap, cur, rfl, _⟩
      · exact ⟨⟨none, 0, by rw [h0]⟩⟩
      · exact ⟨⟨_, _, rfl⟩⟩
    by_cases hlt : k < n
    · have hltI : (k : Int) < n := by omega
      obtain ⟨p, hp⟩ : ∃ p, ps[k]? = some p := ⟨_, List.getElem?_eq_getElem (by rw [hl'.out]; exact hlt)⟩
      obtain ⟨b, off, rfl, hcell⟩ : ∃ b off, a = some ⟨b, off, none⟩ ∧ Kpt (wr.rangeAt b (off + k * 2) (pcs p)) := by
        obtain ⟨a', c', hv, h1, h2, h3⟩ := hrB.out wr hbk.out
        simp only [Value.slice.injEq] at hv
        obtain ⟨rfl, -, -⟩ := hv
        rcases h3 with h3 | ⟨b, off, rfl, -, hc⟩
        · have := hl'.out; omega
        · exact ⟨b, off, rfl, ⟨hc k p hp⟩⟩
      have hpm : p ∈ ps := List.mem_of_getElem? hp
      have hsp := hsz'.out p hpm
      replace hpm := Kpt.mk hpm
      have hik := Kpt.mk (fun W => iskey_any p.1 W hsp.1)
      have hiv := Kpt.mk (fun W => isval_any p.2 W hsp.2)
      have hokp : okP p = (keyB (nums p.1) && valB (nums p.2)) := rfl
      have htk : ps.take (k + 1) = ps.take k ++ [p] := by
        obtain ⟨h9, rfl⟩ := List.getElem?_eq_some_iff.1 hp
        exact List.take_succ_eq_append_getElem h9
      have htk' := Kpt.mk htk
      clear hp htk hsp
      obtain ⟨K, V⟩ := p
      simp only at hik hiv hokp
      obtain ⟨f2, hf2⟩ : ∃ f, f = keyB (nums K) := ⟨_, rfl⟩
      obtain ⟨f3, hf3⟩ : ∃ f, f = valB (nums V) := ⟨_, rfl⟩
      rw [← hf2] at hik hokp
      rw [← hf3] at hiv hokp
      clear hf2 hf3
      by_cases hall : okP (K, V) = true
      · have hsz2 := ok_len hall
        rw [hall] at hokp
        have hff : f2 = true ∧ f3 = true := by simpa using hokp.symm
        obtain ⟨rfl, rfl⟩ := hff
        have kz1 : ¬ 9223372036854775807 < K.size + 1 := by have := hsz2.1; simp only at this; omega
        have kz2 : ¬ 9223372036854775807 < K.size + 1 + V.size := by have := hsz2.1; have := hsz2.2.1; simp only at *; omega
        have kz3 : ¬ 9223372036854775807 < K.size + 1 + V.size + 1 := by have := hsz2.1; have := hsz2.2.1; simp only at *; omega
        have hok2 : Kpt (∀ p ∈ ps.take (k + 1), okP p = true) := ⟨fun p hp => by
          rw [htk'.out] at hp
          rcases List.mem_append.1 hp with hp | hp
          · exact hok.out p hp
          · simp at hp; rw [hp]; exact hall⟩
        have hrw : Kpt (rowsL (ps.take (k + 1)) = rowsL (ps.take k) ++ nums (K ++ ⟨#[61]⟩ ++ V ++ ⟨#[0]⟩)) := ⟨by rw [htk'.out, rows_snoc, row_str]⟩
        have hTs : Kpt ((K ++ ⟨#[61]⟩ ++ V ++ ⟨#[0]⟩ : ByteArray).size ≤ 320) := ⟨by rw [cat_size]; have := hsz2.1; have := hsz2.2.1; simp only at *; omega⟩
        have hNs : Kpt (N + (K ++ ⟨#[61]⟩ ++ V ++ ⟨#[0]⟩ : ByteArray).size ≤ 100000) := ⟨by have := hTs.out; omega⟩
        clear hokp hall hsz2
        go_wp2_with (first
          | (refine (?_ : wpList _ _ _ (Oper.mk (some 34) _ _ _ _ _ :: _) _ _); go_must (refine wpList_append_str rfl (.tmp 26) (.tmp 33) rfl w.heap.size _ (rowsL (ps.take k)) N (K ++ ⟨#[61]⟩ ++ V ++ ⟨#[0]⟩) rfl rfl ho2.out hNs.out hb2.out.size ?_; intro v5 w5 ho5 hg5; have hb5 : Kpt (Below w.heap.size w w5) := ⟨hb2.out.grown hg5.out hb2.out.size (fun k h => (World.ownsRow.lt ho2.out k h).1)⟩; clear hg5))
          | (go_at_call 16; go_must (refine (hiv.out _).mono ?_; rintro e w4 ⟨rfl, rfl⟩))
          | (go_at_call 15; go_must (refine (hik.out _).mono ?_; rintro e w4 ⟨rfl, rfl⟩))
          | (refine (?_ : wpList _ _ _ (Oper.mk none (Op.store _ _ _) _ _ _ _ :: _) _ _); go_must (refine wpList_store_bx rfl 40 (.tmp 6) (.tmp 15) rfl B1 #[.string ⟨#[]⟩, .string ⟨#[]⟩] #[.string K, .string V] rfl rfl hX1.out rfl sizePr (pr_one K V) rfl ?_; intro w2 hX2 hg2; have hb2 : Kpt (Below w.heap.size w w2) := ⟨hb1.out.grown hg2 hb1.out.size (fun k h => by cases h; exact hB1.out.1)⟩; have ho2 : Kpt (w2.ownsRow w.heap.size 5 1 (.slice va N vc) N (cels (rowsL (ps.take k)))) := ⟨own_of_block ho1.out fun g hg => hg2.block g (World.ownsRow.lt ho1.out g hg).2 (fun e => hB1.out.2 g hg (Option.some.inj e).symm)⟩; have hcc := bx_two hX2; clear hX2 hg2))
          | (refine wpList_var rfl 40 rfl #[.string ⟨#[]⟩, .string ⟨#[]⟩] zeroPr ?_; intro B1 w1 hB1 hX1 hbe1; have hb1 : Kpt (Below w.heap.size w w1) := ⟨hbk.out.trans (hbe1.mono hbk.out.size)⟩; have ho1 : Kpt (w1.ownsRow w.heap.size 5 1 (.slice va N vc) N (cels (rowsL (ps.take k)))) := ⟨own_of_block hown.out fun g hg => hbe1.block g (World.ownsRow.lt hown.out g hg).2⟩; replace hB1 : Kpt (w.heap.size ≤ B1 ∧ ∀ g, (Value.slice va N vc).ownBlock = some g → B1 ≠ g) := ⟨Nat.le_trans hbk.out.size hB1, fun g hg => (Nat.ne_of_lt (Nat.lt_of_lt_of_le (World.ownsRow.lt hown.out g hg).2 hB1)).symm⟩; replace hX1 := Kpt.mk hX1; clear hbe1)
          | (refine wpList_load_mid rfl 40 (.tmp 14) rfl b (off + k * 2) rfl [.string K, .string V] _ hcell.out Try.underlying40 rfl sizePr ?_))
        go_roundw
        case rel => exact ⟨k + 1, N + (K ++ ⟨#[61]⟩ ++ V ++ ⟨#[0]⟩ : ByteArray).size, by omega, by go_num, by have := hTs.out; omega, ⟨by rw [hrw.out, List.length_append, nums_len, ← hNl.out]⟩, ⟨by rw [hrw.out]; exact ho5.out⟩, hb5, hok2⟩
        case measure => simp [intOf]; omega
      · have hE : Kpt (wrE ps = 13) := ⟨by
          unfold wrE
          rw [if_neg (by have := hl'.out; omega), if_pos]
          refine Bool.eq_false_iff.2 fun h => hall (List.all_eq_true.1 h _ hpm.out)⟩
        have hO : Kpt (wrO ps = []) := ⟨wrO_no (by rw [hE.out]; decide)⟩
        have hff : f2 = false ∨ (f2 = true ∧ f3 = false) := by
          rw [hokp] at hall
          cases f2 <;> cases f3 <;> simp_all
        clear hall hokp hrB htw
        rcases hff with rfl | ⟨rfl, rfl⟩
        · go_wp2_with (first
          | (go_at_call 16; go_must (refine (hiv.out _).mono ?_; rintro e w4 ⟨rfl, rfl⟩))
          | (go_at_call 15; go_must (refine (hik.out _).mono ?_; rintro e w4 ⟨rfl, rfl⟩))
          | (refine (?_ : wpList _ _ _ (Oper.mk none (Op.store _ _ _) _ _ _ _ :: _) _ _); go_must (refine wpList_store_bx rfl 40 (.tmp 6) (.tmp 15) rfl B1 #[.string ⟨#[]⟩, .string ⟨#[]⟩] #[.string K, .string V] rfl rfl hX1.out rfl sizePr (pr_one K V) rfl ?_; intro w2 hX2 hg2; have hb2 : Kpt (Below w.heap.size w w2) := ⟨hb1.out.grown hg2 hb1.out.size (fun k h => by cases h; exact hB1.out.1)⟩; have ho2 : Kpt (w2.ownsRow w.heap.size 5 1 (.slice va N vc) N (cels (rowsL (ps.take k)))) := ⟨own_of_block ho1.out fun g hg => hg2.block g (World.ownsRow.lt ho1.out g hg).2 (fun e => hB1.out.2 g hg (Option.some.inj e).symm)⟩; have hcc := bx_two hX2; clear hX2 hg2))
          | (refine wpList_var rfl 40 rfl #[.string ⟨#[]⟩, .string ⟨#[]⟩] zeroPr ?_; intro B1 w1 hB1 hX1 hbe1; have hb1 : Kpt (Below w.heap.size w w1) := ⟨hbk.out.trans (hbe1.mono hbk.out.size)⟩; have ho1 : Kpt (w1.ownsRow w.heap.size 5 1 (.slice va N vc) N (cels (rowsL (ps.take k)))) := ⟨own_of_block hown.out fun g hg => hbe1.block g (World.ownsRow.lt hown.out g hg).2⟩; replace hB1 : Kpt (w.heap.size ≤ B1 ∧ ∀ g, (Value.slice va N vc).ownBlock = some g → B1 ≠ g) := ⟨Nat.le_trans hbk.out.size hB1, fun g hg => (Nat.ne_of_lt (Nat.lt_of_lt_of_le (World.ownsRow.lt hown.out g hg).2 hB1)).symm⟩; replace hX1 := Kpt.mk hX1; clear hbe1)
          | (refine wpList_load_mid rfl 40 (.tmp 14) rfl b (off + k * 2) rfl [.string K, .string V] _ hcell.out Try.underlying40 rfl sizePr ?_))
          go_ret2
          exact ⟨.slice none 0 0, by rw [hE.out]; rfl, by rw [hO.out]; exact World.ownsRow_nil _ _ 5 1, hb2.out⟩
        · go_wp2_with (first
          | (go_at_call 16; go_must (refine (hiv.out _).mono ?_; rintro e w4 ⟨rfl, rfl⟩))
          | (go_at_call 15; go_must (refine (hik.out _).mono ?_; rintro e w4 ⟨rfl, rfl⟩))
          | (refine (?_ : wpList _ _ _ (Oper.mk none (Op.store _ _ _) _ _ _ _ :: _) _ _); go_must (refine wpList_store_bx rfl 40 (.tmp 6) (.tmp 15) rfl B1 #[.string ⟨#[]⟩, .string ⟨#[]⟩] #[.string K, .string V] rfl rfl hX1.out rfl sizePr (pr_one K V) rfl ?_; intro w2 hX2 hg2; have hb2 : Kpt (Below w.heap.size w w2) := ⟨hb1.out.grown hg2 hb1.out.size (fun k h => by cases h; exact hB1.out.1)⟩; have ho2 : Kpt (w2.ownsRow w.heap.size 5 1 (.slice va N vc) N (cels (rowsL (ps.take k)))) := ⟨own_of_block ho1.out fun g hg => hg2.block g (World.ownsRow.lt ho1.out g hg).2 (fun e => hB1.out.2 g hg (Option.some.inj e).symm)⟩; have hcc := bx_two hX2; clear hX2 hg2))
          | (refine wpList_var rfl 40 rfl #[.string ⟨#[]⟩, .string ⟨#[]⟩] zeroPr ?_; intro B1 w1 hB1 hX1 hbe1; have hb1 : Kpt (Below w.heap.size w w1) := ⟨hbk.out.trans (hbe1.mono hbk.out.size)⟩; have ho1 : Kpt (w1.ownsRow w.heap.size 5 1 (.slice va N vc) N (cels (rowsL (ps.take k)))) := ⟨own_of_block hown.out fun g hg => hbe1.block g (World.ownsRow.lt hown.out g hg).2⟩; replace hB1 : Kpt (w.heap.size ≤ B1 ∧ ∀ g, (Value.slice va N vc).ownBlock = some g → B1 ≠ g) := ⟨Nat.le_trans hbk.out.size hB1, fun g hg => (Nat.ne_of_lt (Nat.lt_of_lt_of_le (World.ownsRow.lt hown.out g hg).2 hB1)).symm⟩; replace hX1 := Kpt.mk hX1; clear hbe1)
          | (refine wpList_load_mid rfl 40 (.tmp 14) rfl b (off + k * 2) rfl [.string K, .string V] _ hcell.out Try.underlying40 rfl sizePr ?_))
          go_ret2
          exact ⟨.slice none 0 0, by rw [hE.out]; rfl, by rw [hO.out]; exact World.ownsRow_nil _ _ 5 1, hb2.out⟩
    · have hltI : ¬ (k : Int) < n := by omega
      obtain rfl : k = n := by omega
      have htt : ps.take k = ps := List.take_of_length_le (Nat.le_of_eq hl'.out)
      rw [htt] at hNl hown hok
      have hal : Kpt (¬ ps.all okP = false) := ⟨by simpa using hok.out⟩
      have h64 : Kpt (¬ 64 < ps.length) := ⟨by have := hl'.out; omega⟩
      clear htt hok
      by_cases h4 : 4096 < N
      · have h4I : (4096 : Int) < N := by omega
        have hE : Kpt (wrE ps = 2) := ⟨by
          unfold wrE
          rw [if_neg h64.out, if_neg hal.out, if_pos (by rw [← hNl.out]; exact h4)]⟩
        have hO : Kpt (wrO ps = []) := ⟨wrO_no (by rw [hE.out]; decide)⟩
        clear hrB htw
        go_wp2
        go_ret2
        exact ⟨.slice none 0 0, by rw [hE.out]; rfl, by rw [hO.out]; exact World.ownsRow_nil _ _ 5 1, hbk.out⟩
      · have h4I : ¬ (4096 : Int) < N := by omega
        cases htv : twP ps with
        | true =>
          have hE : Kpt (wrE ps = 9) := ⟨by
            unfold wrE
            rw [if_neg h64.out, if_neg hal.out, if_neg (by rw [← hNl.out]; exact h4), if_pos htv]⟩
          have hO : Kpt (wrO ps = []) := ⟨wrO_no (by rw [hE.out]; decide)⟩
          rw [htv] at htw
          clear htv hrB
          go_wp2_with (go_at_call 17; go_must (refine (htw.out _ hbk.out).mono ?_; rintro e w2 ⟨rfl, hbe2⟩; replace hbk : Kpt (Below w.heap.size w w2) := ⟨hbk.out.trans (hbe2.mono hbk.out.size)⟩; clear hbe2))
          go_ret2
          exact ⟨.slice none 0 0, by rw [hE.out]; rfl, by rw [hO.out]; exact World.ownsRow_nil _ _ 5 1, hbk.out⟩
        | false =>
          have hE : Kpt (wrE ps = 0) := ⟨by
            unfold wrE
            rw [if_neg h64.out, if_neg hal.out, if_neg (by rw [← hNl.out]; exact h4), if_neg (by rw [htv]; simp)]⟩
          have hO : Kpt (wrO ps = rowsL ps) := ⟨if_pos hE.out⟩
          rw [htv] at htw
          clear htv hrB
          go_wp2_with (go_at_call 17; go_must (refine (htw.out _ hbk.out).mono ?_; rintro e w2 ⟨rfl, hbe2⟩; replace hown : Kpt (w2.ownsRow w.heap.size 5 1 (.slice va N vc) N (cels (rowsL ps))) := ⟨own_of_block hown.out fun g hg => hbe2.block g (World.ownsRow.lt hown.out g hg).2⟩; replace hbk : Kpt (Below w.heap.size w w2) := ⟨hbk.out.trans (hbe2.mono hbk.out.size)⟩; clear hbe2))
          go_ret2
          exact ⟨.slice va N vc, by rw [hE.out]; rfl, by rw [hO.out, ← hNl.out]; exact hown.out, hbk.out⟩
end Go.Proofs.Ytkojkglaljiilaa
