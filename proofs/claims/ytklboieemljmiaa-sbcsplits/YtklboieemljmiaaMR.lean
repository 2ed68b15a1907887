/-
  The contract of repeat. Write of a store with a cache, where calls may fail. Write of a store with a cache, where calls may fail. Writes that fail, and writes of one block many times. The contract of writeSame, of a block that is not unmapped. The contract of Plan (the power goes off at no call). SbcPrefix: what a write that failed has changed. SbcPrefix: the walk, short.
-/
import Derived.Test.YtklboieemljmiaaMX
namespace Go.Proofs.Ytklboieemljmiaa
open Go.RowKit
set_option linter.unusedVariables false
set_option linter.unusedSimpArgs false
theorem setN_heap (g : Nat) (t : TypeId) (C : List Value) : ∀ (vs M A : List Value) (w : World) (p : Nat), vs.length = M.length → A.length = p → w.heap[g]? = some (.cells (A ++ (M ++ C)).toArray t (0, 0)) → (w.setCells g p vs).heap[g]? = some (.cells (A ++ (vs ++ C)).toArray t (0, 0))
  | [], [], A, w, p, _, _, h => by simpa [World.setCells] using h
  | [], m :: M, A, w, p, hl, _, _ => by simp at hl
  | v :: vs, [], A, w, p, hl, _, _ => by simp at hl
  | v :: vs, m :: M, A, w, p, hl, hp, h => by
    subst hp
    have h1 : (w.setCell ⟨g, A.length, none⟩ v).heap[g]? = some (.cells ((A ++ [v]) ++ (M ++ C)).toArray t (0, 0)) := by
      rw [setCell_eq_setRow w g A.length _ t (0, 0) v h, setRow_heap w g _ _ t (0, 0) h]
      simp
    have := setN_heap g t C vs M (A ++ [v]) (w.setCell ⟨g, A.length, none⟩ v) (A.length + 1) (by simpa using hl) (by simp) h1
    simpa [World.setCells] using this
/-- A block for another place. -/
def rpB (k : Int) (i : Nat) (b : Bk) : Bk := ⟨b.d, b.g, b.a, if hasB k = true then (i : Int) % 4294967296 else b.r⟩
def rpL (k : Int) (l : Nat) (b : Bk) (n : Nat) : List Bk := (List.range n).map (fun i => rpB k (l + i) b)
theorem rpL_len (k : Int) (l : Nat) (b : Bk) (n : Nat) : (rpL k l b n).length = n := by simp [rpL]
theorem rpL_succ (k : Int) (l : Nat) (b : Bk) (n : Nat) : rpL k l b (n + 1) = rpL k l b n ++ [rpB k (l + n) b] := by simp [rpL, List.range_succ]
theorem rpB_ok (k : Int) (i : Nat) (b : Bk) (h : b.ok) : (rpB k i b).ok := ⟨h.len, h.byte, h.g, h.a, by
  simp only [rpB]
  split
  · omega
  · exact h.r⟩
theorem rpL_ok (k : Int) (l : Nat) (b : Bk) (n : Nat) (h : b.ok) : ∀ x ∈ rpL k l b n, x.ok := fun x hx => by
  simp only [rpL, List.mem_map] at hx
  obtain ⟨i, _, rfl⟩ := hx
  exact rpB_ok k _ b h
theorem flat_rp (k : Int) (l : Nat) (b : Bk) (h : b.ok) (n : Nat) : (flat (rpL k l b n)).length = n * 19 := by rw [flat_len _ (rpL_ok k l b n h), rpL_len]

set_option maxRecDepth 100000 in
set_option maxHeartbeats 4000000 in
theorem repeat_any (D S l n : Nat) (k : Int) (b : Bk) (w : World) (hD : Bx w D (devV S k)) (hb : b.ok) (hn1 : 1 ≤ n) (hin : l + n ≤ 1000000) :
    Calls Try.prog 63 #[.pointer (some ⟨D, 0, none⟩), .agg b.vals, .int .u64 l, .int .i64 n] w fun e w' => ∃ g, e = .returned (.slice (some ⟨g, 0, none⟩) n n) ∧ w'.heap[g]? = some (.cells (flat (rpL k l b n)).toArray 76 (0, 0)) ∧ w.heap.size ≤ g ∧ Below w.heap.size w w' := by
  obtain ⟨i0, hi0, hz0, hz1, hz2⟩ := info_parts infoB3
  have hone := Kpt.mk b.one
  have hbs := Kpt.mk (Bk.size hb)
  have hfl := Kpt.mk (flat_rp k l b hb)
  have hVl : b.vals.toList = b.cs := rfl
  obtain ⟨V, hV⟩ : ∃ V, V = b.vals := ⟨_, rfl⟩
  rw [← hV] at hone hbs hVl ⊢
  replace hVl := Kpt.mk hVl
  have hDl := hD.lt
  have hcl : Kpt (b.cs.length = 19) := ⟨cs_len b hb⟩
  have hDK := Kpt.mk hD
  replace hz2 := Kpt.mk hz2
  have hb16 : Kpt (b.d.length = 16) := ⟨hb.len⟩
  clear hV hD hb
  go_enter Try.func63, Try.ntmps63
  go_wp2_with (first
      | (at_make; go_must (refine wpList_make_full _ rfl _ _ 46 rfl w1.heap.size 76 i0 (.agg zeroB) 19 Try.underlying46 hi0 hz0 hz1 .i64 .i64 _ _ n rfl rfl rfl rfl (by rw [hz2.out]; omega) (by unfold maxLen; omega) (Nat.le_refl _) ?_; intro w2 hown2 hg2; rw [made_zrow] at hown2; replace hown2 := Kpt.mk hown2; have hb2 : Kpt (Below w1.heap.size w1 w2) := ⟨(Below.refl _ _).grown hg2 (Nat.le_refl _) (fun k h => by cases h)⟩; clear hg2))
      | (refine wpList_box rfl 76 _ rfl V rfl ?_; intro bb w1 hl1 hX1 h1 _; have hB1 := Kpt.mk hX1; have hb1 := Kpt.mk h1; clear hX1 h1)
      | fail)
  have hh2 : Kpt (w2.heap[w1.heap.size]? = some (.cells (flat (rpL k l b 0) ++ zrow (n - 0)).toArray 76 (0, 0))) := ⟨by
    rcases hown2.out.2 with ⟨h0, _⟩ | ⟨g, cap, cur, h1, h2, h3, h4, h5, h6, h7⟩
    · cases h0
    · simp only [Value.slice.injEq, Option.some.injEq, Addr.mk.injEq, and_true, true_and] at h1
      obtain ⟨rfl, rfl⟩ := h1
      rw [h3, show flat (rpL k l b 0) = [] from rfl, List.nil_append, Nat.sub_zero, ← h7, List.take_of_length_le (by simp; omega)]⟩
  clear hown2
  obtain ⟨G, hG⟩ : ∃ G, G = w1.heap.size := ⟨_, rfl⟩
  rw [← hG] at hh2 ⊢
  have hGw : w.heap.size ≤ G := by rw [hG]; exact hb1.out.size
  have hbG : bb < G := by rw [hG]; exact hB1.out.lt
  have hDG : D < G := by omega
  have hB2 := Kpt.mk (hB1.out.below hb2.out hB1.out.lt)
  have hD2 := Kpt.mk ((hDK.out.below hb1.out hDK.out.lt).below hb2.out (by show D < w1.heap.size; rw [← hG]; exact hDG))
  have hbw : Kpt (Below w.heap.size w w2) := ⟨hb1.out.trans (hb2.out.mono hb1.out.size)⟩
  clear hG hB1 hDK hb1 hb2
  go_loopw [15] (fun t wr => ∃ j : Nat, j ≤ n ∧ t = .int .i64 j ∧ Kpt (wr.heap[G]? = some (.cells (flat (rpL k l b j) ++ zrow (n - j)).toArray 76 (0, 0))) ∧ Kpt (w2.grownBy wr (some G))) (fun t _ => n - (intOf t).toNat)
  case atStart => exact ⟨0, Nat.zero_le _, rfl, hh2, ⟨⟨rfl, rfl, rfl, Nat.le_refl _, fun _ _ _ => rfl⟩⟩⟩
  case round =>
    obtain ⟨j, hj, rfl, hh, hgr⟩ := hrel
    clear hh2
    have hBw := Kpt.mk (hB2.out.grown hgr.out (by simp; omega))
    have hDw := hD2.out.grown hgr.out (by simp; omega)
    obtain ⟨-, d1, dlt⟩ := dev_at hDw
    have hGl : G < wr.heap.size := heap_lt hh.out
    clear hDw
    by_cases hlt : j < n
    · have e1 : (j : Int) < n := by omega
      have hsp : flat (rpL k l b j) ++ zrow (n - j) = flat (rpL k l b j) ++ (zeroB.toList ++ zrow (n - (j + 1))) := by rw [show n - j = (n - (j + 1)) + 1 by omega, zrow]
      rw [hsp] at hh
      have hal : (flat (rpL k l b j)).length = j * 19 := hfl.out j
      have hth : wr.there G (j * 19) V.size := by rw [hbs.out]; exact there_of_heap hh.out _ _ (by simp [hal, zeroB])
      obtain ⟨w5, hw5⟩ : ∃ w5, w5 = wr.setCells G (j * 19) V.toList := ⟨_, rfl⟩
      have hh5 : w5.heap[G]? = some (.cells (flat (rpL k l b j) ++ (b.cs ++ zrow (n - (j + 1)))).toArray 76 (0, 0)) := by
        rw [hw5, hVl.out]
        exact setN_heap G 76 (zrow (n - (j + 1))) b.cs zeroB.toList (flat (rpL k l b j)) wr (j * 19) (by rw [hcl.out]; rfl) hal hh.out
      have hg5 : wr.grownBy w5 (some G) := by rw [hw5]; exact grown_setCells G _ _ wr
      have d5 := (far_cell hg5 ⟨D, 1, none⟩ dlt (by simp; omega)).trans d1
      have dlt5 : D < w5.heap.size := Nat.lt_of_lt_of_le dlt hg5.size
      have hgr5 : Kpt (w2.grownBy w5 (some G)) := ⟨grown_trans hgr.out hg5⟩
      have hsp5 : flat (rpL k l b j) ++ (b.cs ++ zrow (n - (j + 1))) = (flat (rpL k l b j) ++ (cels b.d ++ [.int .u16 b.g, .int .u16 b.a])) ++ ([.int .u32 b.r] ++ zrow (n - (j + 1))) := by simp [Bk.cs]
      have hal5 : (flat (rpL k l b j) ++ (cels b.d ++ [Value.int .u16 b.g, Value.int .u16 b.a])).length = j * 19 + 16 + 2 := by simp [hal, hb16.out]
      have c18 : w5.cell? ⟨G, j * 19 + 16 + 2, none⟩ = some (.int .u32 b.r) := by
        have := range_of (A := flat (rpL k l b j) ++ (cels b.d ++ [Value.int .u16 b.g, Value.int .u16 b.a])) (M := [.int .u32 b.r]) (C := zrow (n - (j + 1))) (o := j * 19 + 16 + 2) (by rw [← hsp5]; exact hh5) hal5
        have := this 0 _ rfl
        simpa using this
      have f18 : w5.frozen? ⟨G, j * 19 + 16 + 2, none⟩ = false := by
        have := there_of_heap hh5 (j * 19 + 16 + 2) 1 (by simp [hal, Bk.cs, hb16.out]; omega) 0 (by decide)
        simpa using this.2
      have hG5 : G < w5.heap.size := heap_lt hh5
      have ew : IntKind.u64.wrap ((l : Int) + j) = ((l + j : Nat) : Int) := by rw [IntKind.wrap_u64]; omega
      have ev : IntKind.u64.wrap (j : Int) = (j : Int) := by rw [IntKind.wrap_u64]; omega
      have eu : IntKind.u32.wrap ((l + j : Nat) : Int) = ((l + j : Nat) : Int) := by rw [IntKind.wrap_u32]; omega
      have hnx1 : hasB k = true → (w5.setCell ⟨G, j * 19 + 16 + 2, none⟩ (.int .u32 ((l + j : Nat) : Int))).heap[G]? = some (.cells (flat (rpL k l b (j + 1)) ++ zrow (n - (j + 1))).toArray 76 (0, 0)) := fun hk => by
        have := setN_heap G 76 (zrow (n - (j + 1))) [.int .u32 ((l + j : Nat) : Int)] [.int .u32 b.r] _ w5 (j * 19 + 16 + 2) rfl hal5 (by rw [← hsp5]; exact hh5)
        rw [show (w5.setCells G (j * 19 + 16 + 2) [.int .u32 ((l + j : Nat) : Int)]) = w5.setCell ⟨G, j * 19 + 16 + 2, none⟩ (.int .u32 ((l + j : Nat) : Int)) from rfl] at this
        rw [this, rpL_succ, flat_append, show flat [rpB k (l + j) b] = (rpB k (l + j) b).cs from by simp [flat]]
        have e32 : ((l + j : Nat) : Int) % 4294967296 = ((l + j : Nat) : Int) := by omega
        simp only [Bk.cs, rpB, hk, if_true, e32]
        simp
      have hnx0 : hasB k = false → w5.heap[G]? = some (.cells (flat (rpL k l b (j + 1)) ++ zrow (n - (j + 1))).toArray 76 (0, 0)) := fun hk => by
        rw [hh5, rpL_succ, flat_append, show flat [rpB k (l + j) b] = (rpB k (l + j) b).cs from by simp [flat]]
        simp only [Bk.cs, rpB, hk]
        simp
      obtain ⟨x, hx⟩ : ∃ x : Int, x = ((l + j : Nat) : Int) := ⟨_, rfl⟩
      rw [← hx] at ew eu hnx1
      replace hnx1 := Kpt.mk hnx1
      replace hnx0 := Kpt.mk hnx0
      replace hth := Kpt.mk hth
      have hw5K := Kpt.mk hw5
      clear hsp hal hh5 hg5 hsp5 hal5 hx hw5 hh hfl
      have mm : Kpt True := ⟨trivial⟩
      by_cases k1 : k = 1
      · subst k1
        go_wp2_with (first
          | (have hm := mm; refine wpList_load_bx rfl 76 _ rfl bb V rfl hBw.out _ Try.underlying76 rfl (by rw [hbs.out]; exact infoB) ?_)
          | (have hm := mm; refine (?_ : wpList _ _ _ (Oper.mk none (Op.store 76 _ _) _ _ _ _ :: _) _ _); go_must (refine wpList_plain rfl fun K hK => wp_store_mid 76 (.tmp 21) (.tmp 20) rfl G (j * 19) V rfl rfl hth.out (by rw [hbs.out]; exact infoB) hone.out (hK _ _ ?_); rw [← hw5K.out]; clear mm))
          | fail)
        go_roundw
        case rel => exact ⟨j + 1, by omega, by go_num, ⟨hnx1.out (by decide)⟩, ⟨grown_trans hgr5.out (grown_setCellK _ _ _)⟩⟩
        case measure => simp [intOf]; omega
      · have bk1 : (k == 1) = false := beq_eq_false_iff_ne.mpr k1
        by_cases k2 : k = 2
        · subst k2
          go_wp2_with (first
            | (have hm := mm; refine wpList_load_bx rfl 76 _ rfl bb V rfl hBw.out _ Try.underlying76 rfl (by rw [hbs.out]; exact infoB) ?_)
            | (have hm := mm; refine (?_ : wpList _ _ _ (Oper.mk none (Op.store 76 _ _) _ _ _ _ :: _) _ _); go_must (refine wpList_plain rfl fun K hK => wp_store_mid 76 (.tmp 21) (.tmp 20) rfl G (j * 19) V rfl rfl hth.out (by rw [hbs.out]; exact infoB) hone.out (hK _ _ ?_); rw [← hw5K.out]; clear mm))
            | fail)
          go_roundw
          case rel => exact ⟨j + 1, by omega, by go_num, ⟨hnx1.out (by decide)⟩, ⟨grown_trans hgr5.out (grown_setCellK _ _ _)⟩⟩
          case measure => simp [intOf]; omega
        · have bk2 : (k == 2) = false := beq_eq_false_iff_ne.mpr k2
          have hk0 : hasB k = false := by unfold hasB; exact decide_eq_false (by omega)
          go_wp2_with (first
            | (have hm := mm; refine wpList_load_bx rfl 76 _ rfl bb V rfl hBw.out _ Try.underlying76 rfl (by rw [hbs.out]; exact infoB) ?_)
            | (have hm := mm; refine (?_ : wpList _ _ _ (Oper.mk none (Op.store 76 _ _) _ _ _ _ :: _) _ _); go_must (refine wpList_plain rfl fun K hK => wp_store_mid 76 (.tmp 21) (.tmp 20) rfl G (j * 19) V rfl rfl hth.out (by rw [hbs.out]; exact infoB) hone.out (hK _ _ ?_); rw [← hw5K.out]; clear mm))
            | fail)
          go_roundw
          case rel => exact ⟨j + 1, by omega, by go_num, ⟨hnx0.out hk0⟩, hgr5⟩
          case measure => simp [intOf]; omega
    · have e1 : ¬ (j : Int) < n := by omega
      have ej : j = n := by omega
      subst ej
      go_wp2
      go_ret
      exact ⟨G, rfl, by rw [hh.out, Nat.sub_self, zrow, List.append_nil], hGw, hbw.out.grown hgr.out hbw.out.size (fun q hq => by cases hq; exact hGw)⟩
end Go.Proofs.Ytklboieemljmiaa

namespace Go.Proofs.Ytklboieemljmiaa
open Go.RowKit
set_option linter.unusedVariables false
set_option linter.unusedSimpArgs false

theorem settle_c (w : World) (tag : Tags) (S B N n : Nat) (f : ByteArray) (hs : Sto w tag S B f N true) (hn : n ≤ 4096) :
    Calls Try.prog 89 #[.pointer (some ⟨S, 0, none⟩), .int .i64 n, .bool false] w fun e w' => e = .returned (.int .i64 0) ∧ w' = w := by
  have c0 := hs.c0
  have c3 := hs.c3
  have hlt := hs.lt
  clear hs
  by_cases h0 : n = 0
  · subst h0
    go_enter Try.func89, Try.ntmps89
    go_wp2
    go_ret
    exact ⟨rfl, rfl⟩
  · have e0 : ¬ (n : Int) = 0 := by omega
    have e0' : ((n : Int) == 0) = false := by simp; exact h0
    go_enter Try.func89, Try.ntmps89
    go_wp2
    go_ret
    exact ⟨rfl, rfl⟩

set_option maxRecDepth 100000 in
set_option maxHeartbeats 4000000 in
theorem kwrite_part (w : World) (B : Nat) (tag : Tags) (st : St) (S N lba : Nat) (f : ByteArray) (v : Value) (bs : List Bk) (h : Wd w B tag st) (hs : Sto w tag S B f N true) (hf1 : 1 ≤ f.size) (hf2 : f.size ≤ 32) (hN : N ≤ 4096)
    (hc : st.cnt < 500000000000) (hcw : st.waits.length < 1000000) (hf : ∀ i : Nat, i < bs.length → st.fails (st.ops + i) = false) (hw : Wrs st.waits) (hv : Bks w v bs) (htag : ∀ g, v.ownBlock = some g → tag g = none) (hin : lba + bs.length ≤ N) :
    Calls Try.prog 77 #[.pointer (some ⟨S, 0, none⟩), .int .i64 lba, v, .bool false] w fun e w' => e = .returned (.tuple #[.int .i64 (bs.length : Nat), .int .i64 0]) ∧ ∃ tag', Wd w' B tag' (wrSt st f lba bs bs.length) ∧ Step w w' tag tag' (fun _ => True) := by
  obtain ⟨a, c, rfl, hml, hbs⟩ := hv
  have HH := Kpt.mk (has_any w tag S B N f true lba bs.length hs hN (by omega) (by omega))
  rw [decide_eq_true (show 0 ≤ (lba : Int) ∧ 0 ≤ (bs.length : Int) ∧ (lba : Int) + bs.length ≤ N from by omega)] at HH
  obtain ⟨st2, hst2⟩ : ∃ s, s = (wrSt st f lba bs bs.length) := ⟨_, rfl⟩
  rw [← hst2]
  obtain ⟨n, hn⟩ : ∃ n, n = bs.length := ⟨_, rfl⟩
  rw [← hn] at HH hin hst2 hf ⊢
  replace hst2 := Kpt.mk hst2
  have hK : Kpt (Wd w B tag (wrSt st f lba bs 0)) := ⟨h⟩
  have hsK := Kpt.mk hs
  replace hbs := Kpt.mk hbs
  replace hn := Kpt.mk hn
  replace hf := Kpt.mk hf
  replace hw := Kpt.mk hw
  replace htag := Kpt.mk htag
  clear h hs hml
  go_enter Try.func77, Try.ntmps77
  go_wp2_with (go_at_call 51; refine HH.out.mono ?_; rintro e w ⟨rfl, hw'⟩; subst hw')

  go_loopw [23] (fun t wr => ∃ (k : Nat) (tag1 : Tags), k ≤ n ∧ t = .int .i64 k ∧ Kpt (Wd wr B tag1 (wrSt st f lba bs k)) ∧ Kpt (Step w wr tag tag1 (fun _ => True))) (fun t _ => n - (intOf t).toNat)
  case atStart => exact ⟨0, tag, Nat.zero_le _, rfl, hK, ⟨Step.refl _ _ _⟩⟩
  case round =>
    obtain ⟨k, tag1, hk, rfl, hW, hSt⟩ := hrel
    clear hK HH
    have hsK1 := Kpt.mk (hsK.out.step hSt.out)
    obtain ⟨hops, hcnt, hfl, hwl⟩ := wr_ops st f lba bs k (by rw [← hn.out]; exact hk)
    replace hops := Kpt.mk hops
    replace hcnt := Kpt.mk hcnt
    replace hfl := Kpt.mk hfl
    replace hwl := Kpt.mk hwl
    by_cases hlt : k < n
    · have e1 : (k : Int) < n := by omega
      obtain ⟨b, hb⟩ : ∃ b, bs[k]? = some b := ⟨_, List.getElem?_eq_getElem (by rw [← hn.out]; exact hlt)⟩
      obtain ⟨hok, g, o, rfl, hgl, hrg⟩ := hbs.out k b hb
      have hrg1 : Kpt (wr.rangeAt g (o + k * 19) b.cs) := ⟨rangeAt_keep hrg (hSt.out.block g hgl (fun t _ e => by rw [htag.out g rfl] at e; cases e))⟩
      have hcl : Kpt (b.cs.length = 19) := ⟨by have := Bk.size hok; simpa [Bk.vals] using this⟩
      have hone := Kpt.mk b.one
      have hsz := Kpt.mk (Bk.size hok)
      have hnx : wrSt st f lba bs (k + 1) = { wrSt st f lba bs k with seen := (Chg.wr f ((lba + k) * 25) (pkB b)).run (wrSt st f lba bs k).seen, waits := (wrSt st f lba bs k).waits ++ [.wr f ((lba + k) * 25) (pkB b)], ops := (wrSt st f lba bs k).ops + 1, cnt := (wrSt st f lba bs k).cnt + 2 } := by
        show (match bs[k]? with | some b => _ | none => _) = _
        rw [hb]
      replace hnx := Kpt.mk hnx
      have HP := fun W => Kpt.mk (pack_any b hok W)
      have hpl := Kpt.mk (pk_len b hok)
      have hB0 := bx_new wr zeroB 76
      unfold zeroB at hB0
      replace hB0 := Kpt.mk hB0
      obtain ⟨V, hV⟩ : ∃ V, V = b.vals := ⟨_, rfl⟩
      have hVc : V.toList = b.cs := by rw [hV]; rfl
      rw [← hV] at HP hone hsz
      replace hVc := Kpt.mk hVc
      obtain ⟨L, hL⟩ : ∃ L, L = b.cs := ⟨_, rfl⟩
      rw [← hL] at hrg1 hcl hVc
      have hLV : Kpt (L.toArray = V) := ⟨by rw [← hVc.out]⟩
      clear hrg hok hb hV hL hgl
      go_wp2_with (first
        | (refine wpList_load_mid rfl 76 (.tmp 26) rfl g (o + k * 19) rfl L _ hrg1.out Try.underlying76 rfl (by rw [hcl.out]; exact infoB) ?_; rw [hLV.out])
        | (refine wpList_store_bx rfl 76 (.tmp 11) (.tmp 27) rfl wr.heap.size _ V rfl rfl hB0.out (by rw [hsz.out]; rfl) (by rw [hsz.out]; exact infoB) hone.out rfl ?_; intro w1 hX1 hg1; have hbe1 : Kpt (Below wr.heap.size wr w1) := ⟨((Below.refl _ _).alloc (Nat.le_refl _) _).grown hg1 (by simp) (fun k hk => by cases hk; exact Nat.le_refl _)⟩; replace hX1 := Kpt.mk hX1; clear hg1)
        | fail)
      have hS1 := hsK1.out.below hbe1.out
      have hC1 : w1.cell? ⟨S, 0, none⟩ = some (.pointer (some ⟨B, 0, none⟩)) ∧ w1.cell? ⟨S, 1, none⟩ = some (.string f) ∧ S < w1.heap.size ∧ Bx (w1.drewN 1) wr.heap.size V := ⟨hS1.c0, hS1.c1, hS1.lt, ⟨hX1.out.lt, hX1.out.cells, hX1.out.free⟩⟩
      have HPl : Kpt (∀ W, Calls Try.prog 53 #[.int .i64 ((lba : Int) + k)] W fun e w' => e = .returned (.int .i64 (((lba + k) * 25 : Nat) : Int)) ∧ w' = W) := ⟨fun W => by have := place_any (lba + k) W (by omega); rw [Int.natCast_add] at this; exact this⟩
      replace hC1 := Kpt.mk hC1
      replace hS1 := Kpt.mk hS1
      clear hX1 hB0
      refine wp_region_any (by kernel_rfl) ?_
      refine wpAny_of_C (C := fun W => W.cell? ⟨S, 0, none⟩ = some (.pointer (some ⟨B, 0, none⟩)) ∧ W.cell? ⟨S, 1, none⟩ = some (.string f) ∧ S < W.heap.size ∧ Bx W wr.heap.size V) _ _ _ _ ?_
      refine wpAnyC_take 0 (.pointer (some ⟨S, 0, none⟩)) rfl (by kernel_rfl) (by kernel_rfl) (by kernel_rfl) (fun _ _ _ h => h) (wanted_free rfl _) (fun W hW => by have h0 := hW.1; have h1 := hW.2.1; have h2 := hW.2.2.1; go_simp) ?_
      simp only [Act.put, List.getElem_toArray, List.getElem_cons_succ, List.getElem_cons_zero, List.setIfInBounds_toArray, List.set_cons_succ, List.set_cons_zero]
      refine wpAnyC_take 1 (.pointer (some ⟨S, 0, none⟩)) rfl (by kernel_rfl) (by kernel_rfl) (by kernel_rfl) (fun _ _ _ h => h) (wanted_free rfl _) (fun W hW => by have h0 := hW.1; have h1 := hW.2.1; have h2 := hW.2.2.1; go_simp) ?_
      simp only [Act.put, List.getElem_toArray, List.getElem_cons_succ, List.getElem_cons_zero, List.setIfInBounds_toArray, List.set_cons_succ, List.set_cons_zero]
      refine wpAnyC_take 2 (.pointer (some ⟨S, 0, none⟩)) rfl (by kernel_rfl) (by kernel_rfl) (by kernel_rfl) (fun _ _ _ h => h) (wanted_free rfl _) (fun W hW => by have h0 := hW.1; have h1 := hW.2.1; have h2 := hW.2.2.1; go_simp) ?_
      simp only [Act.put, List.getElem_toArray, List.getElem_cons_succ, List.getElem_cons_zero, List.setIfInBounds_toArray, List.set_cons_succ, List.set_cons_zero]
      refine wpAnyC_take 3 (.pointer (some ⟨B, 0, none⟩)) rfl (by kernel_rfl) (by kernel_rfl) (by kernel_rfl) (fun _ _ _ h => h) (wanted_free rfl _) (fun W hW => by have h0 := hW.1; have h1 := hW.2.1; have h2 := hW.2.2.1; go_simp) ?_
      simp only [Act.put, List.getElem_toArray, List.getElem_cons_succ, List.getElem_cons_zero, List.setIfInBounds_toArray, List.set_cons_succ, List.set_cons_zero]
      refine wpAnyC_take 4 (.pointer (some ⟨S, 0, none⟩)) rfl (by kernel_rfl) (by kernel_rfl) (by kernel_rfl) (fun _ _ _ h => h) (wanted_free rfl _) (fun W hW => by have h0 := hW.1; have h1 := hW.2.1; have h2 := hW.2.2.1; go_simp) ?_
      simp only [Act.put, List.getElem_toArray, List.getElem_cons_succ, List.getElem_cons_zero, List.setIfInBounds_toArray, List.set_cons_succ, List.set_cons_zero]
      refine wpAnyC_take 5 (.pointer (some ⟨S, 0, none⟩)) rfl (by kernel_rfl) (by kernel_rfl) (by kernel_rfl) (fun _ _ _ h => h) (wanted_free rfl _) (fun W hW => by have h0 := hW.1; have h1 := hW.2.1; have h2 := hW.2.2.1; go_simp) ?_
      simp only [Act.put, List.getElem_toArray, List.getElem_cons_succ, List.getElem_cons_zero, List.setIfInBounds_toArray, List.set_cons_succ, List.set_cons_zero]
      refine wpAnyC_take 6 (.pointer (some ⟨S, 1, none⟩)) rfl (by kernel_rfl) (by kernel_rfl) (by kernel_rfl) (fun _ _ _ h => h) (wanted_free rfl _) (fun W hW => by have h0 := hW.1; have h1 := hW.2.1; have h2 := hW.2.2.1; go_simp) ?_
      simp only [Act.put, List.getElem_toArray, List.getElem_cons_succ, List.getElem_cons_zero, List.setIfInBounds_toArray, List.set_cons_succ, List.set_cons_zero]
      refine wpAnyC_take 7 (.string f) rfl (by kernel_rfl) (by kernel_rfl) (by kernel_rfl) (fun _ _ _ h => h) (wanted_free rfl _) (fun W hW => by have h0 := hW.1; have h1 := hW.2.1; have h2 := hW.2.2.1; go_simp) ?_
      simp only [Act.put, List.getElem_toArray, List.getElem_cons_succ, List.getElem_cons_zero, List.setIfInBounds_toArray, List.set_cons_succ, List.set_cons_zero]
      refine wpAnyC_take 8 (.int .i64 lba) rfl (by kernel_rfl) (by kernel_rfl) (by kernel_rfl) (fun _ _ _ h => h) (wanted_free rfl _) (fun W hW => by have h0 := hW.1; have h1 := hW.2.1; have h2 := hW.2.2.1; go_simp) ?_
      simp only [Act.put, List.getElem_toArray, List.getElem_cons_succ, List.getElem_cons_zero, List.setIfInBounds_toArray, List.set_cons_succ, List.set_cons_zero]
      refine wpAnyC_take 9 (.int .i64 k) rfl (by kernel_rfl) (by kernel_rfl) (by kernel_rfl) (fun _ _ _ h => h) (wanted_free rfl _) (fun W hW => by have h0 := hW.1; have h1 := hW.2.1; have h2 := hW.2.2.1; go_simp) ?_
      simp only [Act.put, List.getElem_toArray, List.getElem_cons_succ, List.getElem_cons_zero, List.setIfInBounds_toArray, List.set_cons_succ, List.set_cons_zero]
      refine wpAnyC_take 10 (.int .i64 ((lba : Int) + k)) rfl (by kernel_rfl) (by kernel_rfl) (by kernel_rfl) (fun _ _ _ h => h) (wanted_free rfl _) (fun W hW => by first | (go_simp; done) | (go_simp; rw [IntKind.wrap_i64]; omega)) ?_
      simp only [Act.put, List.getElem_toArray, List.getElem_cons_succ, List.getElem_cons_zero, List.setIfInBounds_toArray, List.set_cons_succ, List.set_cons_zero]
      refine wpAnyC_take 12 (.agg V) rfl (by kernel_rfl) (by kernel_rfl) (by kernel_rfl) (fun _ _ _ h => h) (wanted_free rfl _) (fun W hW => exec_load_bx (.tmp 11) rfl wr.heap.size V rfl hW.2.2.2 (by rw [hsz.out]; exact infoB)) ?_
      simp only [Act.put, List.getElem_toArray, List.getElem_cons_succ, List.getElem_cons_zero, List.setIfInBounds_toArray, List.set_cons_succ, List.set_cons_zero]
      refine wpAnyC_one 11 hC1.out rfl (by kernel_rfl) (wanted_free rfl _) (fun KA hKA => ?_)
      go_simp
      refine (HPl.out _).mono ?_
      rintro e wA ⟨rfl, rfl⟩
      refine hKA _ _ ?_
      try simp only [Act.put, List.getElem_toArray, List.getElem_cons_succ, List.getElem_cons_zero, List.setIfInBounds_toArray, List.set_cons_succ, List.set_cons_zero]
      clear hKA KA
      refine wpAnyC_one 13 hC1.out rfl (by kernel_rfl) (wanted_free rfl _) (fun KA hKA => ?_)
      go_simp
      refine (HP _).out.mono ?_
      rintro e w2 ⟨g2, rfl, ho2, hb2⟩
      have hb2' : Kpt (Below wr.heap.size wr w2) := ⟨hbe1.out.trans ((below_drewN (Below.refl _ w1) 1).trans hb2 |>.mono hbe1.out.size)⟩
      refine hKA _ _ ?_
      try simp only [Act.put, List.getElem_toArray, List.getElem_cons_succ, List.getElem_cons_zero, List.setIfInBounds_toArray, List.set_cons_succ, List.set_cons_zero]
      clear hKA KA
      have hS2 := hsK1.out.below hb2'.out
      have hlt1 : wr.heap.size < w1.heap.size := hC1.out.2.2.2.lt
      have hX2 : Bx w2 wr.heap.size V := hC1.out.2.2.2.below hb2 hlt1
      have hWd2 := hW.out.step (step_below hb2'.out tag1 (fun _ => False))
      have hg2n : tag1 g2 = none := by
        cases ht : tag1 g2 with
        | none => rfl
        | some t =>
          have h1 := hW.out.lt g2 (by rw [ht]; simp)
          have h2 := (World.ownsRow.lt ho2 g2 rfl).1
          have h3 : wr.heap.size ≤ w1.heap.size := hbe1.out.size
          have h4 : w1.heap.size ≤ g2 := h2
          omega
      have HWr := write_any w2 B tag1 (wrSt st f lba bs k) hWd2 (by rw [hcnt.out]; omega) f hf1 hf2 ((lba + k) * 25) (.slice (some ⟨g2, 0, none⟩) 25 25) (pkB b) (own_rd ho2) (fun _ g hg => by simp [Value.ownBlock] at hg; rw [← hg]; exact hg2n) (by rw [hpl.out]; omega)
      rw [show (wrSt st f lba bs k).fails (wrSt st f lba bs k).ops = false from by rw [hfl.out, hops.out]; exact hf.out k (by omega)] at HWr
      replace HWr := Kpt.mk HWr
      refine wpAnyC_one 14 ⟨hS2.c0, hS2.c1, hS2.lt, hX2⟩ rfl (by kernel_rfl) (wanted_free rfl _) (fun KA hKA => ?_)
      go_simp
      refine HWr.out.mono ?_
      rintro e w3 ⟨rfl, tag2, hWd3, hSt3⟩
      refine hKA _ _ ?_
      try simp only [Act.put, List.getElem_toArray, List.getElem_cons_succ, List.getElem_cons_zero, List.setIfInBounds_toArray, List.set_cons_succ, List.set_cons_zero]
      clear hKA KA
      refine wpAnyC_take 15 (.int .i64 0) rfl (by kernel_rfl) (by kernel_rfl) (by kernel_rfl) (fun _ _ _ h => h) (wanted_free rfl _) (fun W hW => by have h0 := hW.1; have h1 := hW.2.1; have h2 := hW.2.2.1; go_simp) ?_
      simp only [Act.put, List.getElem_toArray, List.getElem_cons_succ, List.getElem_cons_zero, List.setIfInBounds_toArray, List.set_cons_succ, List.set_cons_zero]
      have hS3 := hS2.step hSt3
      have hX3 : Bx w3 wr.heap.size V := hX2.of_block (Nat.lt_of_lt_of_le hX2.lt hSt3.size) (hSt3.block _ hX2.lt (fun t _ e => by
        have h1 := hW.out.lt wr.heap.size (by rw [e]; simp)
        omega))
      have hSt4 : Kpt (Step w w3 tag tag2 (fun _ => True)) := ⟨hSt.out.trans ((step_below hb2'.out tag1 (fun _ => True)).trans hSt3)⟩
      have hWd4 : Kpt (Wd w3 B tag2 (wrSt st f lba bs (k + 1))) := ⟨by rw [hnx.out]; simpa using hWd3⟩
      refine wpAnyC_done ⟨hS3.c0, hS3.c1, hS3.lt, hX3⟩ (by kernel_rfl) ?_
      clear hS3 hX3 hSt3 hWd3 HWr hWd2 hX2 hS2 hC1 hb2 hb2' ho2 HP HPl hS1 hg2n
      go_wp2
      go_roundw
      case rel => exact ⟨k + 1, tag2, by omega, by go_num, hWd4, hSt4⟩
      case measure => simp [intOf]; omega
    · have e1 : ¬ (k : Int) < n := by omega
      have ek : k = n := by omega
      subst ek
      have HS := Kpt.mk (settle_c wr tag1 S B N k f hsK1.out (by omega))
      go_wp2_with (go_at_call 89; refine HS.out.mono ?_; rintro e w2 ⟨rfl, hw2⟩; subst hw2)
      go_ret2
      exact ⟨rfl, tag1, by rw [hst2.out]; exact hW.out, hSt.out⟩
end Go.Proofs.Ytklboieemljmiaa

namespace Go.Proofs.Ytklboieemljmiaa
open Go.RowKit
set_option linter.unusedVariables false
set_option linter.unusedSimpArgs false

set_option maxRecDepth 100000 in
set_option maxHeartbeats 4000000 in
theorem kwrite_fail (w : World) (B : Nat) (tag : Tags) (st : St) (S N lba : Nat) (f : ByteArray) (v : Value) (bs : List Bk) (h : Wd w B tag st) (hs : Sto w tag S B f N true) (hf1 : 1 ≤ f.size) (hf2 : f.size ≤ 32) (hN : N ≤ 4096)
    (hc : st.cnt < 500000000000) (hcw : st.waits.length < 1000000) (j0 : Nat) (hj0 : j0 < bs.length) (hf : ∀ i : Nat, i < j0 → st.fails (st.ops + i) = false) (hfj : st.fails (st.ops + j0) = true) (hw : Wrs st.waits) (hv : Bks w v bs) (htag : ∀ g, v.ownBlock = some g → tag g = none) (hin : lba + bs.length ≤ N) :
    Calls Try.prog 77 #[.pointer (some ⟨S, 0, none⟩), .int .i64 lba, v, .bool false] w fun e w' => e = .returned (.tuple #[.int .i64 (j0 : Nat), .int .i64 6]) ∧ ∃ tag', Wd w' B tag' ({ wrSt st f lba bs j0 with ops := (wrSt st f lba bs j0).ops + 1, cnt := (wrSt st f lba bs j0).cnt + 1 } : St) ∧ Step w w' tag tag' (fun _ => True) := by
  obtain ⟨a, c, rfl, hml, hbs⟩ := hv
  have HH := Kpt.mk (has_any w tag S B N f true lba bs.length hs hN (by omega) (by omega))
  rw [decide_eq_true (show 0 ≤ (lba : Int) ∧ 0 ≤ (bs.length : Int) ∧ (lba : Int) + bs.length ≤ N from by omega)] at HH
  obtain ⟨st2, hst2⟩ : ∃ s, s = ({ wrSt st f lba bs j0 with ops := (wrSt st f lba bs j0).ops + 1, cnt := (wrSt st f lba bs j0).cnt + 1 } : St) := ⟨_, rfl⟩
  rw [← hst2]
  obtain ⟨n, hn⟩ : ∃ n, n = bs.length := ⟨_, rfl⟩
  rw [← hn] at HH hin hj0 ⊢
  replace hfj := Kpt.mk hfj
  replace hst2 := Kpt.mk hst2
  have hK : Kpt (Wd w B tag (wrSt st f lba bs 0)) := ⟨h⟩
  have hsK := Kpt.mk hs
  replace hbs := Kpt.mk hbs
  replace hn := Kpt.mk hn
  replace hf := Kpt.mk hf
  replace hw := Kpt.mk hw
  replace htag := Kpt.mk htag
  clear h hs hml
  go_enter Try.func77, Try.ntmps77
  go_wp2_with (go_at_call 51; refine HH.out.mono ?_; rintro e w ⟨rfl, hw'⟩; subst hw')

  go_loopw [23] (fun t wr => ∃ (k : Nat) (tag1 : Tags), k ≤ j0 ∧ t = .int .i64 k ∧ Kpt (Wd wr B tag1 (wrSt st f lba bs k)) ∧ Kpt (Step w wr tag tag1 (fun _ => True))) (fun t _ => n - (intOf t).toNat)
  case atStart => exact ⟨0, tag, Nat.zero_le _, rfl, hK, ⟨Step.refl _ _ _⟩⟩
  case round =>
    obtain ⟨k, tag1, hk, rfl, hW, hSt⟩ := hrel
    clear hK HH
    have hsK1 := Kpt.mk (hsK.out.step hSt.out)
    obtain ⟨hops, hcnt, hfl, hwl⟩ := wr_ops st f lba bs k (by rw [← hn.out]; omega)
    replace hops := Kpt.mk hops
    replace hcnt := Kpt.mk hcnt
    replace hfl := Kpt.mk hfl
    replace hwl := Kpt.mk hwl
    · have hlt : k < n := by omega
      have e1 : (k : Int) < n := by omega
      obtain ⟨b, hb⟩ : ∃ b, bs[k]? = some b := ⟨_, List.getElem?_eq_getElem (by rw [← hn.out]; exact hlt)⟩
      obtain ⟨hok, g, o, rfl, hgl, hrg⟩ := hbs.out k b hb
      have hrg1 : Kpt (wr.rangeAt g (o + k * 19) b.cs) := ⟨rangeAt_keep hrg (hSt.out.block g hgl (fun t _ e => by rw [htag.out g rfl] at e; cases e))⟩
      have hcl : Kpt (b.cs.length = 19) := ⟨by have := Bk.size hok; simpa [Bk.vals] using this⟩
      have hone := Kpt.mk b.one
      have hsz := Kpt.mk (Bk.size hok)
      have hnx : wrSt st f lba bs (k + 1) = { wrSt st f lba bs k with seen := (Chg.wr f ((lba + k) * 25) (pkB b)).run (wrSt st f lba bs k).seen, waits := (wrSt st f lba bs k).waits ++ [.wr f ((lba + k) * 25) (pkB b)], ops := (wrSt st f lba bs k).ops + 1, cnt := (wrSt st f lba bs k).cnt + 2 } := by
        show (match bs[k]? with | some b => _ | none => _) = _
        rw [hb]
      replace hnx := Kpt.mk hnx
      have HP := fun W => Kpt.mk (pack_any b hok W)
      have hpl := Kpt.mk (pk_len b hok)
      have hB0 := bx_new wr zeroB 76
      unfold zeroB at hB0
      replace hB0 := Kpt.mk hB0
      obtain ⟨V, hV⟩ : ∃ V, V = b.vals := ⟨_, rfl⟩
      have hVc : V.toList = b.cs := by rw [hV]; rfl
      rw [← hV] at HP hone hsz
      replace hVc := Kpt.mk hVc
      obtain ⟨L, hL⟩ : ∃ L, L = b.cs := ⟨_, rfl⟩
      rw [← hL] at hrg1 hcl hVc
      have hLV : Kpt (L.toArray = V) := ⟨by rw [← hVc.out]⟩
      clear hrg hok hb hV hL hgl
      go_wp2_with (first
        | (refine wpList_load_mid rfl 76 (.tmp 26) rfl g (o + k * 19) rfl L _ hrg1.out Try.underlying76 rfl (by rw [hcl.out]; exact infoB) ?_; rw [hLV.out])
        | (refine wpList_store_bx rfl 76 (.tmp 11) (.tmp 27) rfl wr.heap.size _ V rfl rfl hB0.out (by rw [hsz.out]; rfl) (by rw [hsz.out]; exact infoB) hone.out rfl ?_; intro w1 hX1 hg1; have hbe1 : Kpt (Below wr.heap.size wr w1) := ⟨((Below.refl _ _).alloc (Nat.le_refl _) _).grown hg1 (by simp) (fun k hk => by cases hk; exact Nat.le_refl _)⟩; replace hX1 := Kpt.mk hX1; clear hg1)
        | fail)
      have hS1 := hsK1.out.below hbe1.out
      have hC1 : w1.cell? ⟨S, 0, none⟩ = some (.pointer (some ⟨B, 0, none⟩)) ∧ w1.cell? ⟨S, 1, none⟩ = some (.string f) ∧ S < w1.heap.size ∧ Bx (w1.drewN 1) wr.heap.size V := ⟨hS1.c0, hS1.c1, hS1.lt, ⟨hX1.out.lt, hX1.out.cells, hX1.out.free⟩⟩
      have HPl : Kpt (∀ W, Calls Try.prog 53 #[.int .i64 ((lba : Int) + k)] W fun e w' => e = .returned (.int .i64 (((lba + k) * 25 : Nat) : Int)) ∧ w' = W) := ⟨fun W => by have := place_any (lba + k) W (by omega); rw [Int.natCast_add] at this; exact this⟩
      replace hC1 := Kpt.mk hC1
      replace hS1 := Kpt.mk hS1
      clear hX1 hB0
      refine wp_region_any (by kernel_rfl) ?_
      refine wpAny_of_C (C := fun W => W.cell? ⟨S, 0, none⟩ = some (.pointer (some ⟨B, 0, none⟩)) ∧ W.cell? ⟨S, 1, none⟩ = some (.string f) ∧ S < W.heap.size ∧ Bx W wr.heap.size V) _ _ _ _ ?_
      refine wpAnyC_take 0 (.pointer (some ⟨S, 0, none⟩)) rfl (by kernel_rfl) (by kernel_rfl) (by kernel_rfl) (fun _ _ _ h => h) (wanted_free rfl _) (fun W hW => by have h0 := hW.1; have h1 := hW.2.1; have h2 := hW.2.2.1; go_simp) ?_
      simp only [Act.put, List.getElem_toArray, List.getElem_cons_succ, List.getElem_cons_zero, List.setIfInBounds_toArray, List.set_cons_succ, List.set_cons_zero]
      refine wpAnyC_take 1 (.pointer (some ⟨S, 0, none⟩)) rfl (by kernel_rfl) (by kernel_rfl) (by kernel_rfl) (fun _ _ _ h => h) (wanted_free rfl _) (fun W hW => by have h0 := hW.1; have h1 := hW.2.1; have h2 := hW.2.2.1; go_simp) ?_
      simp only [Act.put, List.getElem_toArray, List.getElem_cons_succ, List.getElem_cons_zero, List.setIfInBounds_toArray, List.set_cons_succ, List.set_cons_zero]
      refine wpAnyC_take 2 (.pointer (some ⟨S, 0, none⟩)) rfl (by kernel_rfl) (by kernel_rfl) (by kernel_rfl) (fun _ _ _ h => h) (wanted_free rfl _) (fun W hW => by have h0 := hW.1; have h1 := hW.2.1; have h2 := hW.2.2.1; go_simp) ?_
      simp only [Act.put, List.getElem_toArray, List.getElem_cons_succ, List.getElem_cons_zero, List.setIfInBounds_toArray, List.set_cons_succ, List.set_cons_zero]
      refine wpAnyC_take 3 (.pointer (some ⟨B, 0, none⟩)) rfl (by kernel_rfl) (by kernel_rfl) (by kernel_rfl) (fun _ _ _ h => h) (wanted_free rfl _) (fun W hW => by have h0 := hW.1; have h1 := hW.2.1; have h2 := hW.2.2.1; go_simp) ?_
      simp only [Act.put, List.getElem_toArray, List.getElem_cons_succ, List.getElem_cons_zero, List.setIfInBounds_toArray, List.set_cons_succ, List.set_cons_zero]
      refine wpAnyC_take 4 (.pointer (some ⟨S, 0, none⟩)) rfl (by kernel_rfl) (by kernel_rfl) (by kernel_rfl) (fun _ _ _ h => h) (wanted_free rfl _) (fun W hW => by have h0 := hW.1; have h1 := hW.2.1; have h2 := hW.2.2.1; go_simp) ?_
      simp only [Act.put, List.getElem_toArray, List.getElem_cons_succ, List.getElem_cons_zero, List.setIfInBounds_toArray, List.set_cons_succ, List.set_cons_zero]
      refine wpAnyC_take 5 (.pointer (some ⟨S, 0, none⟩)) rfl (by kernel_rfl) (by kernel_rfl) (by kernel_rfl) (fun _ _ _ h => h) (wanted_free rfl _) (fun W hW => by have h0 := hW.1; have h1 := hW.2.1; have h2 := hW.2.2.1; go_simp) ?_
      simp only [Act.put, List.getElem_toArray, List.getElem_cons_succ, List.getElem_cons_zero, List.setIfInBounds_toArray, List.set_cons_succ, List.set_cons_zero]
      refine wpAnyC_take 6 (.pointer (some ⟨S, 1, none⟩)) rfl (by kernel_rfl) (by kernel_rfl) (by kernel_rfl) (fun _ _ _ h => h) (wanted_free rfl _) (fun W hW => by have h0 := hW.1; have h1 := hW.2.1; have h2 := hW.2.2.1; go_simp) ?_
      simp only [Act.put, List.getElem_toArray, List.getElem_cons_succ, List.getElem_cons_zero, List.setIfInBounds_toArray, List.set_cons_succ, List.set_cons_zero]
      refine wpAnyC_take 7 (.string f) rfl (by kernel_rfl) (by kernel_rfl) (by kernel_rfl) (fun _ _ _ h => h) (wanted_free rfl _) (fun W hW => by have h0 := hW.1; have h1 := hW.2.1; have h2 := hW.2.2.1; go_simp) ?_
      simp only [Act.put, List.getElem_toArray, List.getElem_cons_succ, List.getElem_cons_zero, List.setIfInBounds_toArray, List.set_cons_succ, List.set_cons_zero]
      refine wpAnyC_take 8 (.int .i64 lba) rfl (by kernel_rfl) (by kernel_rfl) (by kernel_rfl) (fun _ _ _ h => h) (wanted_free rfl _) (fun W hW => by have h0 := hW.1; have h1 := hW.2.1; have h2 := hW.2.2.1; go_simp) ?_
      simp only [Act.put, List.getElem_toArray, List.getElem_cons_succ, List.getElem_cons_zero, List.setIfInBounds_toArray, List.set_cons_succ, List.set_cons_zero]
      refine wpAnyC_take 9 (.int .i64 k) rfl (by kernel_rfl) (by kernel_rfl) (by kernel_rfl) (fun _ _ _ h => h) (wanted_free rfl _) (fun W hW => by have h0 := hW.1; have h1 := hW.2.1; have h2 := hW.2.2.1; go_simp) ?_
      simp only [Act.put, List.getElem_toArray, List.getElem_cons_succ, List.getElem_cons_zero, List.setIfInBounds_toArray, List.set_cons_succ, List.set_cons_zero]
      refine wpAnyC_take 10 (.int .i64 ((lba : Int) + k)) rfl (by kernel_rfl) (by kernel_rfl) (by kernel_rfl) (fun _ _ _ h => h) (wanted_free rfl _) (fun W hW => by first | (go_simp; done) | (go_simp; rw [IntKind.wrap_i64]; omega)) ?_
      simp only [Act.put, List.getElem_toArray, List.getElem_cons_succ, List.getElem_cons_zero, List.setIfInBounds_toArray, List.set_cons_succ, List.set_cons_zero]
      refine wpAnyC_take 12 (.agg V) rfl (by kernel_rfl) (by kernel_rfl) (by kernel_rfl) (fun _ _ _ h => h) (wanted_free rfl _) (fun W hW => exec_load_bx (.tmp 11) rfl wr.heap.size V rfl hW.2.2.2 (by rw [hsz.out]; exact infoB)) ?_
      simp only [Act.put, List.getElem_toArray, List.getElem_cons_succ, List.getElem_cons_zero, List.setIfInBounds_toArray, List.set_cons_succ, List.set_cons_zero]
      refine wpAnyC_one 11 hC1.out rfl (by kernel_rfl) (wanted_free rfl _) (fun KA hKA => ?_)
      go_simp
      refine (HPl.out _).mono ?_
      rintro e wA ⟨rfl, rfl⟩
      refine hKA _ _ ?_
      try simp only [Act.put, List.getElem_toArray, List.getElem_cons_succ, List.getElem_cons_zero, List.setIfInBounds_toArray, List.set_cons_succ, List.set_cons_zero]
      clear hKA KA
      refine wpAnyC_one 13 hC1.out rfl (by kernel_rfl) (wanted_free rfl _) (fun KA hKA => ?_)
      go_simp
      refine (HP _).out.mono ?_
      rintro e w2 ⟨g2, rfl, ho2, hb2⟩
      have hb2' : Kpt (Below wr.heap.size wr w2) := ⟨hbe1.out.trans ((below_drewN (Below.refl _ w1) 1).trans hb2 |>.mono hbe1.out.size)⟩
      refine hKA _ _ ?_
      try simp only [Act.put, List.getElem_toArray, List.getElem_cons_succ, List.getElem_cons_zero, List.setIfInBounds_toArray, List.set_cons_succ, List.set_cons_zero]
      clear hKA KA
      have hS2 := hsK1.out.below hb2'.out
      have hlt1 : wr.heap.size < w1.heap.size := hC1.out.2.2.2.lt
      have hX2 : Bx w2 wr.heap.size V := hC1.out.2.2.2.below hb2 hlt1
      have hWd2 := hW.out.step (step_below hb2'.out tag1 (fun _ => False))
      have hg2n : tag1 g2 = none := by
        cases ht : tag1 g2 with
        | none => rfl
        | some t =>
          have h1 := hW.out.lt g2 (by rw [ht]; simp)
          have h2 := (World.ownsRow.lt ho2 g2 rfl).1
          have h3 : wr.heap.size ≤ w1.heap.size := hbe1.out.size
          have h4 : w1.heap.size ≤ g2 := h2
          omega
      have HWr := write_any w2 B tag1 (wrSt st f lba bs k) hWd2 (by rw [hcnt.out]; omega) f hf1 hf2 ((lba + k) * 25) (.slice (some ⟨g2, 0, none⟩) 25 25) (pkB b) (own_rd ho2) (fun _ g hg => by simp [Value.ownBlock] at hg; rw [← hg]; exact hg2n) (by rw [hpl.out]; omega)
      by_cases hkj : k < j0
      · skip
        rw [show (wrSt st f lba bs k).fails (wrSt st f lba bs k).ops = false from by rw [hfl.out, hops.out]; exact hf.out k (by omega)] at HWr
        replace HWr := Kpt.mk HWr
        refine wpAnyC_one 14 ⟨hS2.c0, hS2.c1, hS2.lt, hX2⟩ rfl (by kernel_rfl) (wanted_free rfl _) (fun KA hKA => ?_)
        go_simp
        refine HWr.out.mono ?_
        rintro e w3 ⟨rfl, tag2, hWd3, hSt3⟩
        refine hKA _ _ ?_
        try simp only [Act.put, List.getElem_toArray, List.getElem_cons_succ, List.getElem_cons_zero, List.setIfInBounds_toArray, List.set_cons_succ, List.set_cons_zero]
        clear hKA KA
        refine wpAnyC_take 15 (.int .i64 0) rfl (by kernel_rfl) (by kernel_rfl) (by kernel_rfl) (fun _ _ _ h => h) (wanted_free rfl _) (fun W hW => by have h0 := hW.1; have h1 := hW.2.1; have h2 := hW.2.2.1; go_simp) ?_
        simp only [Act.put, List.getElem_toArray, List.getElem_cons_succ, List.getElem_cons_zero, List.setIfInBounds_toArray, List.set_cons_succ, List.set_cons_zero]
        have hS3 := hS2.step hSt3
        have hX3 : Bx w3 wr.heap.size V := hX2.of_block (Nat.lt_of_lt_of_le hX2.lt hSt3.size) (hSt3.block _ hX2.lt (fun t _ e => by
          have h1 := hW.out.lt wr.heap.size (by rw [e]; simp)
          omega))
        have hSt4 : Kpt (Step w w3 tag tag2 (fun _ => True)) := ⟨hSt.out.trans ((step_below hb2'.out tag1 (fun _ => True)).trans hSt3)⟩
        have hWd4 : Kpt (Wd w3 B tag2 (wrSt st f lba bs (k + 1))) := ⟨by rw [hnx.out]; simpa using hWd3⟩
        refine wpAnyC_done ⟨hS3.c0, hS3.c1, hS3.lt, hX3⟩ (by kernel_rfl) ?_
        clear hS3 hX3 hSt3 hWd3 HWr hWd2 hX2 hS2 hC1 hb2 hb2' ho2 HP HPl hS1 hg2n
        go_wp2
        go_roundw
        case rel => exact ⟨k + 1, tag2, by omega, by go_num, hWd4, hSt4⟩
        case measure => simp [intOf]; omega
      · have ekj : k = j0 := by omega
        subst ekj
        rw [show (wrSt st f lba bs k).fails (wrSt st f lba bs k).ops = true from by rw [hfl.out, hops.out]; exact hfj.out] at HWr
        replace HWr := Kpt.mk HWr
        refine wpAnyC_one 14 ⟨hS2.c0, hS2.c1, hS2.lt, hX2⟩ rfl (by kernel_rfl) (wanted_free rfl _) (fun KA hKA => ?_)
        go_simp
        refine HWr.out.mono ?_
        rintro e w3 ⟨rfl, tag2, hWd3, hSt3⟩
        refine hKA _ _ ?_
        try simp only [Act.put, List.getElem_toArray, List.getElem_cons_succ, List.getElem_cons_zero, List.setIfInBounds_toArray, List.set_cons_succ, List.set_cons_zero]
        clear hKA KA
        refine wpAnyC_take 15 (.int .i64 6) rfl (by kernel_rfl) (by kernel_rfl) (by kernel_rfl) (fun _ _ _ h => h) (wanted_free rfl _) (fun W hW => by have h0 := hW.1; have h1 := hW.2.1; have h2 := hW.2.2.1; go_simp) ?_
        simp only [Act.put, List.getElem_toArray, List.getElem_cons_succ, List.getElem_cons_zero, List.setIfInBounds_toArray, List.set_cons_succ, List.set_cons_zero]
        have hS3 := hS2.step hSt3
        have hX3 : Bx w3 wr.heap.size V := hX2.of_block (Nat.lt_of_lt_of_le hX2.lt hSt3.size) (hSt3.block _ hX2.lt (fun t _ e => by
          have h1 := hW.out.lt wr.heap.size (by rw [e]; simp)
          omega))
        have hSt4 : Kpt (Step w w3 tag tag2 (fun _ => True)) := ⟨hSt.out.trans ((step_below hb2'.out tag1 (fun _ => True)).trans hSt3)⟩
        have hWd4 : Kpt (Wd w3 B tag2 st2) := ⟨by rw [hst2.out]; simpa using hWd3⟩
        refine wpAnyC_done ⟨hS3.c0, hS3.c1, hS3.lt, hX3⟩ (by kernel_rfl) ?_
        clear hS3 hX3 hSt3 hWd3 HWr hWd2 hX2 hS2 hC1 hb2 hb2' ho2 HP HPl hS1 hg2n
        go_wp2
        go_ret2
        exact ⟨rfl, tag2, hWd4.out, hSt4.out⟩
end Go.Proofs.Ytklboieemljmiaa

namespace Go.Proofs.Ytklboieemljmiaa
open Go.RowKit
set_option linter.unusedVariables false
set_option linter.unusedSimpArgs false
set_option maxRecDepth 100000 in
set_option maxHeartbeats 1000000 in
theorem written_err (l j : Nat) (w : World) (h : l + j < 1000000) : Calls Try.prog 78 #[.int .u64 l, .int .i64 j, .int .i64 6] w fun e w' => e = .returned (.agg (nuS 3 3072 ((l + j : Nat) : Int)).vals) ∧ Below w.heap.size w w' := by
  have HN := Kpt.mk (fun W => numbered_any 3 3072 ((l + j : Nat) : Int) W)
  have ej : IntKind.u64.wrap (j : Int) = j := by rw [IntKind.wrap_u64]; omega
  have el : IntKind.u64.wrap ((l : Int) + j) = ((l + j : Nat) : Int) := by rw [IntKind.wrap_u64]; omega
  obtain ⟨x, hx⟩ : ∃ x : Int, x = ((l + j : Nat) : Int) := ⟨_, rfl⟩
  rw [← hx] at HN el ⊢
  clear hx
  go_enter Try.func78, Try.ntmps78
  go_wp2_with (first
      | (have hm := m1; refine wpList_store_bx rfl 32 _ _ rfl br _ (nuS 3 3072 x).vals rfl rfl hR.out rfl infoS (Sn.vals_one _) rfl ?_; intro w4 hX4 hg4; have hb4 := Kpt.mk (hb.out.grown hg4 hb.out.size (fun q hq => by cases hq; exact hrl)); clear m1)
      | (go_at_call 35; go_must (go_must (refine (HN.out _).mono ?_; rintro e w3 ⟨rfl, h3⟩; replace hR := Kpt.mk (hR.out.below h3 hR.out.lt); replace hb := Kpt.mk (hb.out.trans (h3.mono hb.out.size)); have m1 : Kpt True := ⟨trivial⟩)))
      | (refine wpList_var rfl 32 rfl zeroS zeroSi ?_; intro br w2 hrl hX2 h2; have hR := Kpt.mk hX2; have hb := Kpt.mk h2; clear hX2 h2)
      | fail)
  refine bodyPost_ret (v := .agg (nuS 3 3072 x).vals) (by simp [results, Try.results78, asAddr, Act.put, res_run hX4]) rfl ⟨rfl, hb4.out⟩

/-- The state behind a call that failed. -/
def flSt (s : St) : St := { s with ops := s.ops + 1, cnt := s.cnt + 1 }
set_option maxRecDepth 100000 in
set_option maxHeartbeats 1000000 in
theorem dwrite_part (w : World) (B : Nat) (tag : Tags) (st : St) (f : ByteArray) (S D N : Nat) (k : Int) (l n cp : Nat) (a : Option Addr) (c : Cm) (bs : List Bk) (h : Dv w B tag st f S D N k true) (hf1 : 1 ≤ f.size) (hf2 : f.size ≤ 32) (hN : N ≤ 4096) (hc : st.cnt < 500000000000) (hcw : st.waits.length < 1000000) (hw : Wrs st.waits) (hl : c.lba = (l : Nat)) (hin : l + n ≤ N) (hn : bs.length = n) (hv : Bks w (.slice a n cp) bs) (htag : ∀ g, (Value.slice a n cp).ownBlock = some g → tag g = none) (hf : ∀ i : Nat, i < n → st.fails (st.ops + i) = false) :
    Calls Try.prog 58 #[.pointer (some ⟨D, 0, none⟩), .agg c.vals, .slice a n cp, .bool false] w fun e w' => e = .returned (.agg (noS).vals) ∧ Aft w w' B tag (wrSt st f l (bs) n) := by
  have hcm2 : ∀ (W : World) (b : Nat), Bx W b c.vals → W.cell? ⟨b, 2, none⟩ = some (.int .u64 c.lba) := fun W b h => (cm_at h).2.2.1
  rw [hl] at hcm2
  have HK := fun W (h : Dv W B tag st f S D N k true) (hv : Bks W (.slice a n cp) bs) => kwrite_part W B tag st S N l f (.slice a n cp) bs h.wd h.sto hf1 hf2 hN hc hcw (by rw [hn]; exact hf) hw hv htag (by rw [hn]; exact hin)
  simp only [hn] at HK
  obtain ⟨st2, hst2⟩ : ∃ s, s = wrSt st f l (bs) n := ⟨_, rfl⟩
  rw [← hst2]
  have HK2 : ∀ W, Dv W B tag st f S D N k true → Bks W (.slice a n cp) bs → Calls Try.prog 77 #[.pointer (some ⟨S, 0, none⟩), .int .i64 l, .slice a n cp, .bool false] W fun e w' => e = .returned (.tuple #[.int .i64 n, .int .i64 0]) ∧ ∃ tag', Wd w' B tag' st2 ∧ Step W w' tag tag' (fun _ => True) := fun W h hv => by rw [hst2]; exact HK W h hv
  have HWn := fun W => written_ok l n W
  have hCs : c.vals.size = 15 := rfl
  obtain ⟨CV, hCV⟩ : ∃ CV, CV = c.vals := ⟨_, rfl⟩
  rw [← hCV] at hCs hcm2  ⊢
  replace hcm2 := Kpt.mk hcm2
  replace hCs := Kpt.mk hCs
  clear hCV
  have hSl := h.sto.lt
  have hDl := h.bx.lt
  have F := Kpt.mk h.fx
  have hvb := Kpt.mk (fun W (hb : Below w.heap.size w W) => hv.below hb)
  replace HK := Kpt.mk HK2
  replace HWn := Kpt.mk HWn
  have el : IntKind.i64.wrap (l : Int) = l := by rw [IntKind.wrap_i64]; omega
  replace h := Kpt.mk h
  clear hst2 HK2 hn hv htag hl hw hf 
  have hb := Kpt.mk (Below.refl w.heap.size w)
  go_enter Try.func58, Try.ntmps58
  go_wp2_with (first
      | (have hm := m1; refine wpList_var rfl 32 rfl zeroS zeroSi ?_; intro br w_r hl_ hX_ h_; have q_c_r : bc < br := Nat.lt_of_lt_of_le Oc.out.bx.lt hl_; have Or := Kpt.mk (F.out.new hl_ hX_); replace Oc := Kpt.mk (Oc.out.below h_); replace F := Kpt.mk (F.out.below h_); replace hb := Kpt.mk (hb.out.trans (h_.mono hb.out.size)); clear hl_ hX_ h_; clear hm m1; have m2 : Kpt True := ⟨trivial⟩)
      | (refine wpList_box rfl 38 _ rfl CV rfl ?_; intro bc w_c hl_ hX_ h_ _; have Oc := Kpt.mk (F.out.new hl_ hX_); replace F := Kpt.mk (F.out.below h_); replace hb := Kpt.mk (hb.out.trans (h_.mono hb.out.size)); clear hl_ hX_ h_; have m1 : Kpt True := ⟨trivial⟩)
      | (refine wpList_load_bx rfl 38 _ rfl bc CV rfl Oc.out.bx _ Try.underlying38 rfl (by rw [hCs.out]; exact infoC) ?_)
      | fail)
  obtain ⟨d0, d1, dlt⟩ := dev_at F.out.dv.bx
  have x2 := hcm2.out _ _ Oc.out.bx
  refine wp_region_any (by kernel_rfl) ?_
  refine wpAny_of_C (C := fun W => W.cell? ⟨D, 0, none⟩ = some (.pointer (some ⟨S, 0, none⟩)) ∧ W.cell? ⟨bc, 2, none⟩ = some (.int .u64 l) ∧ D < W.heap.size) _ _ _ _ ?_
  refine wpAnyC_take 0 (.pointer (some ⟨D, 0, none⟩)) rfl (by kernel_rfl) (by kernel_rfl) (by kernel_rfl) (fun _ _ _ h => h) (wanted_free rfl _) (fun W hW => by obtain ⟨q1, q2, q4⟩ := hW; go_simp) ?_
  try simp only [Act.put, List.getElem_toArray, List.getElem_cons_succ, List.getElem_cons_zero, List.setIfInBounds_toArray, List.set_cons_succ, List.set_cons_zero]
  refine wpAnyC_take 1 (.pointer (some ⟨D, 0, none⟩)) rfl (by kernel_rfl) (by kernel_rfl) (by kernel_rfl) (fun _ _ _ h => h) (wanted_free rfl _) (fun W hW => by obtain ⟨q1, q2, q4⟩ := hW; go_simp) ?_
  try simp only [Act.put, List.getElem_toArray, List.getElem_cons_succ, List.getElem_cons_zero, List.setIfInBounds_toArray, List.set_cons_succ, List.set_cons_zero]
  refine wpAnyC_take 2 (.pointer (some ⟨D, 0, none⟩)) rfl (by kernel_rfl) (by kernel_rfl) (by kernel_rfl) (fun _ _ _ h => h) (wanted_free rfl _) (fun W hW => by obtain ⟨q1, q2, q4⟩ := hW; go_simp) ?_
  try simp only [Act.put, List.getElem_toArray, List.getElem_cons_succ, List.getElem_cons_zero, List.setIfInBounds_toArray, List.set_cons_succ, List.set_cons_zero]
  refine wpAnyC_take 3 (.pointer (some ⟨S, 0, none⟩)) rfl (by kernel_rfl) (by kernel_rfl) (by kernel_rfl) (fun _ _ _ h => h) (wanted_free rfl _) (fun W hW => by obtain ⟨q1, q2, q4⟩ := hW; go_simp) ?_
  try simp only [Act.put, List.getElem_toArray, List.getElem_cons_succ, List.getElem_cons_zero, List.setIfInBounds_toArray, List.set_cons_succ, List.set_cons_zero]
  refine wpAnyC_take 4 (.pointer (some ⟨bc, 2, none⟩)) rfl (by kernel_rfl) (by kernel_rfl) (by kernel_rfl) (fun _ _ _ h => h) (wanted_free rfl _) (fun W hW => by obtain ⟨q1, q2, q4⟩ := hW; go_simp) ?_
  try simp only [Act.put, List.getElem_toArray, List.getElem_cons_succ, List.getElem_cons_zero, List.setIfInBounds_toArray, List.set_cons_succ, List.set_cons_zero]
  refine wpAnyC_take 5 (.int .u64 l) rfl (by kernel_rfl) (by kernel_rfl) (by kernel_rfl) (fun _ _ _ h => h) (wanted_free rfl _) (fun W hW => by obtain ⟨q1, q2, q4⟩ := hW; go_simp) ?_
  try simp only [Act.put, List.getElem_toArray, List.getElem_cons_succ, List.getElem_cons_zero, List.setIfInBounds_toArray, List.set_cons_succ, List.set_cons_zero]
  refine wpAnyC_take 6 (.int .i64 l) rfl (by kernel_rfl) (by kernel_rfl) (by kernel_rfl) (fun _ _ _ h => h) (wanted_free rfl _) (fun W hW => by obtain ⟨q1, q2, q4⟩ := hW; go_simp) ?_
  try simp only [Act.put, List.getElem_toArray, List.getElem_cons_succ, List.getElem_cons_zero, List.setIfInBounds_toArray, List.set_cons_succ, List.set_cons_zero]
  refine wpAnyC_take 7 (.slice a n cp) rfl (by kernel_rfl) (by kernel_rfl) (by kernel_rfl) (fun _ _ _ h => h) (wanted_free rfl _) (fun W hW => by obtain ⟨q1, q2, q4⟩ := hW; go_simp) ?_
  try simp only [Act.put, List.getElem_toArray, List.getElem_cons_succ, List.getElem_cons_zero, List.setIfInBounds_toArray, List.set_cons_succ, List.set_cons_zero]
  refine wpAnyC_take 8 (.bool false) rfl (by kernel_rfl) (by kernel_rfl) (by kernel_rfl) (fun _ _ _ h => h) (wanted_free rfl _) (fun W hW => by obtain ⟨q1, q2, q4⟩ := hW; go_simp) ?_
  try simp only [Act.put, List.getElem_toArray, List.getElem_cons_succ, List.getElem_cons_zero, List.setIfInBounds_toArray, List.set_cons_succ, List.set_cons_zero]
  refine wpAnyC_one 9 (⟨d0, x2, dlt⟩) rfl (by kernel_rfl) (wanted_free rfl _) (fun KA hKA => ?_)
  go_simp
  refine (HK.out _ (F.out.dv.below (below_drew _)) (hvb.out _ (hb.out.trans ((below_drew _).mono hb.out.size)))).mono ?_
  rintro e w3 ⟨rfl, tag3, hW_, s3⟩
  have s_ : Step w_r w3 tag tag3 (fun _ => True) := (step_below (below_drew _) tag (fun _ => True)).trans s3
  replace Oc := Kpt.mk (Oc.out.call s_)
  replace Or := Kpt.mk (Or.out.call s_)
  replace F := Kpt.mk (F.out.call hW_ s_)
  refine hKA _ _ ?_
  clear hKA KA
  try simp only [Act.put, List.getElem_toArray, List.getElem_cons_succ, List.getElem_cons_zero, List.setIfInBounds_toArray, List.set_cons_succ, List.set_cons_zero]
  refine wpAnyC_take 10 (.tuple #[.int .i64 n, .int .i64 0]) rfl (by kernel_rfl) (by kernel_rfl) (by kernel_rfl) (fun _ _ _ h => h) (wanted_free rfl _) (fun W hW => by go_simp) ?_
  try simp only [Act.put, List.getElem_toArray, List.getElem_cons_succ, List.getElem_cons_zero, List.setIfInBounds_toArray, List.set_cons_succ, List.set_cons_zero]
  refine wpAnyC_take 11 (.int .i64 n) rfl (by kernel_rfl) (by kernel_rfl) (by kernel_rfl) (fun _ _ _ h => h) (wanted_free rfl _) (fun W hW => by go_simp) ?_
  try simp only [Act.put, List.getElem_toArray, List.getElem_cons_succ, List.getElem_cons_zero, List.setIfInBounds_toArray, List.set_cons_succ, List.set_cons_zero]
  refine wpAnyC_take 12 (.int .i64 0) rfl (by kernel_rfl) (by kernel_rfl) (by kernel_rfl) (fun _ _ _ h => h) (wanted_free rfl _) (fun W hW => by go_simp) ?_
  try simp only [Act.put, List.getElem_toArray, List.getElem_cons_succ, List.getElem_cons_zero, List.setIfInBounds_toArray, List.set_cons_succ, List.set_cons_zero]
  refine wpAnyC_take 13 (.int .i64 n) rfl (by kernel_rfl) (by kernel_rfl) (by kernel_rfl) (fun _ _ _ h => h) (wanted_free rfl _) (fun W hW => by go_simp) ?_
  try simp only [Act.put, List.getElem_toArray, List.getElem_cons_succ, List.getElem_cons_zero, List.setIfInBounds_toArray, List.set_cons_succ, List.set_cons_zero]
  refine wpAnyC_take 14 (.int .i64 0) rfl (by kernel_rfl) (by kernel_rfl) (by kernel_rfl) (fun _ _ _ h => h) (wanted_free rfl _) (fun W hW => by go_simp) ?_
  try simp only [Act.put, List.getElem_toArray, List.getElem_cons_succ, List.getElem_cons_zero, List.setIfInBounds_toArray, List.set_cons_succ, List.set_cons_zero]
  refine wpAnyC_done (⟨(dev_at F.out.dv.bx).1, hcm2.out _ _ Oc.out.bx, (dev_at F.out.dv.bx).2.2⟩) (by kernel_rfl) ?_
  clear hW_ s_ s3 d0 d1 dlt hb
  replace x2 := hcm2.out _ _ Oc.out.bx
  go_wp2_with (first
      | (have hm := m3; refine wpList_store_bx rfl 32 _ _ rfl br _ (noS).vals rfl rfl Or.out.bx rfl infoS (Sn.vals_one _) rfl ?_; intro w4 hX_ hg_; replace Oc := Kpt.mk (Oc.out.other hg_ (by omega)); replace F := Kpt.mk (F.out.own Or.out hg_ hSl hDl); replace Or := Kpt.mk (Or.out.set hX_); replace x2 := hcm2.out _ _ Oc.out.bx; clear hX_ hg_; clear hm m3; have m4 : Kpt True := ⟨trivial⟩)
      | (go_at_call 78; have hm := m2; go_must (refine (HWn.out _).mono ?_; rintro e w4 ⟨rfl, h_⟩; replace Oc := Kpt.mk (Oc.out.below h_); replace Or := Kpt.mk (Or.out.below h_); replace F := Kpt.mk (F.out.below h_); replace x2 := hcm2.out _ _ Oc.out.bx; clear h_; clear hm m2; have m3 : Kpt True := ⟨trivial⟩))
      | (refine wpList_load_bx rfl 38 _ rfl bc CV rfl Oc.out.bx _ Try.underlying38 rfl (by rw [hCs.out]; exact infoC) ?_)
      | (refine wpList_load_bx rfl 32 _ rfl br (noS).vals rfl Or.out.bx _ Try.underlying32 rfl infoS ?_)
      | fail)
  refine bodyPost_ret (v := .agg (noS).vals) (by simp [results, Try.results58, asAddr, Act.put, res_run Or.out.bx]) rfl ⟨rfl, _, F.out.dv.wd, F.out.st⟩

set_option maxRecDepth 100000 in
set_option maxHeartbeats 1000000 in
theorem dwrite_fail (w : World) (B : Nat) (tag : Tags) (st : St) (f : ByteArray) (S D N : Nat) (k : Int) (l n cp : Nat) (a : Option Addr) (c : Cm) (bs : List Bk) (h : Dv w B tag st f S D N k true) (hf1 : 1 ≤ f.size) (hf2 : f.size ≤ 32) (hN : N ≤ 4096) (hc : st.cnt < 500000000000) (hcw : st.waits.length < 1000000) (hw : Wrs st.waits) (hl : c.lba = (l : Nat)) (hin : l + n ≤ N) (hn : bs.length = n) (hv : Bks w (.slice a n cp) bs) (htag : ∀ g, (Value.slice a n cp).ownBlock = some g → tag g = none) (j0 : Nat) (hj0 : j0 < n) (hf : ∀ i : Nat, i < j0 → st.fails (st.ops + i) = false) (hfj : st.fails (st.ops + j0) = true) :
    Calls Try.prog 58 #[.pointer (some ⟨D, 0, none⟩), .agg c.vals, .slice a n cp, .bool false] w fun e w' => e = .returned (.agg (nuS 3 3072 ((l + j0 : Nat) : Int)).vals) ∧ Aft w w' B tag (flSt (wrSt st f l (bs) j0)) := by
  have hcm2 : ∀ (W : World) (b : Nat), Bx W b c.vals → W.cell? ⟨b, 2, none⟩ = some (.int .u64 c.lba) := fun W b h => (cm_at h).2.2.1
  rw [hl] at hcm2
  have HK := fun W (h : Dv W B tag st f S D N k true) (hv : Bks W (.slice a n cp) bs) => kwrite_fail W B tag st S N l f (.slice a n cp) bs h.wd h.sto hf1 hf2 hN hc hcw j0 (by rw [hn]; exact hj0) hf hfj hw hv htag (by rw [hn]; exact hin)
  obtain ⟨st2, hst2⟩ : ∃ s, s = flSt (wrSt st f l (bs) j0) := ⟨_, rfl⟩
  rw [← hst2]
  have HK2 : ∀ W, Dv W B tag st f S D N k true → Bks W (.slice a n cp) bs → Calls Try.prog 77 #[.pointer (some ⟨S, 0, none⟩), .int .i64 l, .slice a n cp, .bool false] W fun e w' => e = .returned (.tuple #[.int .i64 j0, .int .i64 6]) ∧ ∃ tag', Wd w' B tag' st2 ∧ Step W w' tag tag' (fun _ => True) := fun W h hv => by rw [hst2]; exact HK W h hv
  have HWn := fun W => written_err l j0 W (by omega)
  obtain ⟨s, hs⟩ : ∃ s, s = nuS 3 3072 ((l + j0 : Nat) : Int) := ⟨_, rfl⟩
  rw [← hs] at HWn ⊢
  have hCs : c.vals.size = 15 := rfl
  obtain ⟨CV, hCV⟩ : ∃ CV, CV = c.vals := ⟨_, rfl⟩
  rw [← hCV] at hCs hcm2  ⊢
  replace hcm2 := Kpt.mk hcm2
  replace hCs := Kpt.mk hCs
  clear hCV
  have hSl := h.sto.lt
  have hDl := h.bx.lt
  have F := Kpt.mk h.fx
  have hvb := Kpt.mk (fun W (hb : Below w.heap.size w W) => hv.below hb)
  replace HK := Kpt.mk HK2
  replace HWn := Kpt.mk HWn
  have el : IntKind.i64.wrap (l : Int) = l := by rw [IntKind.wrap_i64]; omega
  replace h := Kpt.mk h
  clear hst2 HK2 hn hv htag hl hw hf hfj hs
  have hb := Kpt.mk (Below.refl w.heap.size w)
  go_enter Try.func58, Try.ntmps58
  go_wp2_with (first
      | (have hm := m1; refine wpList_var rfl 32 rfl zeroS zeroSi ?_; intro br w_r hl_ hX_ h_; have q_c_r : bc < br := Nat.lt_of_lt_of_le Oc.out.bx.lt hl_; have Or := Kpt.mk (F.out.new hl_ hX_); replace Oc := Kpt.mk (Oc.out.below h_); replace F := Kpt.mk (F.out.below h_); replace hb := Kpt.mk (hb.out.trans (h_.mono hb.out.size)); clear hl_ hX_ h_; clear hm m1; have m2 : Kpt True := ⟨trivial⟩)
      | (refine wpList_box rfl 38 _ rfl CV rfl ?_; intro bc w_c hl_ hX_ h_ _; have Oc := Kpt.mk (F.out.new hl_ hX_); replace F := Kpt.mk (F.out.below h_); replace hb := Kpt.mk (hb.out.trans (h_.mono hb.out.size)); clear hl_ hX_ h_; have m1 : Kpt True := ⟨trivial⟩)
      | (refine wpList_load_bx rfl 38 _ rfl bc CV rfl Oc.out.bx _ Try.underlying38 rfl (by rw [hCs.out]; exact infoC) ?_)
      | fail)
  obtain ⟨d0, d1, dlt⟩ := dev_at F.out.dv.bx
  have x2 := hcm2.out _ _ Oc.out.bx
  refine wp_region_any (by kernel_rfl) ?_
  refine wpAny_of_C (C := fun W => W.cell? ⟨D, 0, none⟩ = some (.pointer (some ⟨S, 0, none⟩)) ∧ W.cell? ⟨bc, 2, none⟩ = some (.int .u64 l) ∧ D < W.heap.size) _ _ _ _ ?_
  refine wpAnyC_take 0 (.pointer (some ⟨D, 0, none⟩)) rfl (by kernel_rfl) (by kernel_rfl) (by kernel_rfl) (fun _ _ _ h => h) (wanted_free rfl _) (fun W hW => by obtain ⟨q1, q2, q4⟩ := hW; go_simp) ?_
  try simp only [Act.put, List.getElem_toArray, List.getElem_cons_succ, List.getElem_cons_zero, List.setIfInBounds_toArray, List.set_cons_succ, List.set_cons_zero]
  refine wpAnyC_take 1 (.pointer (some ⟨D, 0, none⟩)) rfl (by kernel_rfl) (by kernel_rfl) (by kernel_rfl) (fun _ _ _ h => h) (wanted_free rfl _) (fun W hW => by obtain ⟨q1, q2, q4⟩ := hW; go_simp) ?_
  try simp only [Act.put, List.getElem_toArray, List.getElem_cons_succ, List.getElem_cons_zero, List.setIfInBounds_toArray, List.set_cons_succ, List.set_cons_zero]
  refine wpAnyC_take 2 (.pointer (some ⟨D, 0, none⟩)) rfl (by kernel_rfl) (by kernel_rfl) (by kernel_rfl) (fun _ _ _ h => h) (wanted_free rfl _) (fun W hW => by obtain ⟨q1, q2, q4⟩ := hW; go_simp) ?_
  try simp only [Act.put, List.getElem_toArray, List.getElem_cons_succ, List.getElem_cons_zero, List.setIfInBounds_toArray, List.set_cons_succ, List.set_cons_zero]
  refine wpAnyC_take 3 (.pointer (some ⟨S, 0, none⟩)) rfl (by kernel_rfl) (by kernel_rfl) (by kernel_rfl) (fun _ _ _ h => h) (wanted_free rfl _) (fun W hW => by obtain ⟨q1, q2, q4⟩ := hW; go_simp) ?_
  try simp only [Act.put, List.getElem_toArray, List.getElem_cons_succ, List.getElem_cons_zero, List.setIfInBounds_toArray, List.set_cons_succ, List.set_cons_zero]
  refine wpAnyC_take 4 (.pointer (some ⟨bc, 2, none⟩)) rfl (by kernel_rfl) (by kernel_rfl) (by kernel_rfl) (fun _ _ _ h => h) (wanted_free rfl _) (fun W hW => by obtain ⟨q1, q2, q4⟩ := hW; go_simp) ?_
  try simp only [Act.put, List.getElem_toArray, List.getElem_cons_succ, List.getElem_cons_zero, List.setIfInBounds_toArray, List.set_cons_succ, List.set_cons_zero]
  refine wpAnyC_take 5 (.int .u64 l) rfl (by kernel_rfl) (by kernel_rfl) (by kernel_rfl) (fun _ _ _ h => h) (wanted_free rfl _) (fun W hW => by obtain ⟨q1, q2, q4⟩ := hW; go_simp) ?_
  try simp only [Act.put, List.getElem_toArray, List.getElem_cons_succ, List.getElem_cons_zero, List.setIfInBounds_toArray, List.set_cons_succ, List.set_cons_zero]
  refine wpAnyC_take 6 (.int .i64 l) rfl (by kernel_rfl) (by kernel_rfl) (by kernel_rfl) (fun _ _ _ h => h) (wanted_free rfl _) (fun W hW => by obtain ⟨q1, q2, q4⟩ := hW; go_simp) ?_
  try simp only [Act.put, List.getElem_toArray, List.getElem_cons_succ, List.getElem_cons_zero, List.setIfInBounds_toArray, List.set_cons_succ, List.set_cons_zero]
  refine wpAnyC_take 7 (.slice a n cp) rfl (by kernel_rfl) (by kernel_rfl) (by kernel_rfl) (fun _ _ _ h => h) (wanted_free rfl _) (fun W hW => by obtain ⟨q1, q2, q4⟩ := hW; go_simp) ?_
  try simp only [Act.put, List.getElem_toArray, List.getElem_cons_succ, List.getElem_cons_zero, List.setIfInBounds_toArray, List.set_cons_succ, List.set_cons_zero]
  refine wpAnyC_take 8 (.bool false) rfl (by kernel_rfl) (by kernel_rfl) (by kernel_rfl) (fun _ _ _ h => h) (wanted_free rfl _) (fun W hW => by obtain ⟨q1, q2, q4⟩ := hW; go_simp) ?_
  try simp only [Act.put, List.getElem_toArray, List.getElem_cons_succ, List.getElem_cons_zero, List.setIfInBounds_toArray, List.set_cons_succ, List.set_cons_zero]
  refine wpAnyC_one 9 (⟨d0, x2, dlt⟩) rfl (by kernel_rfl) (wanted_free rfl _) (fun KA hKA => ?_)
  go_simp
  refine (HK.out _ (F.out.dv.below (below_drew _)) (hvb.out _ (hb.out.trans ((below_drew _).mono hb.out.size)))).mono ?_
  rintro e w3 ⟨rfl, tag3, hW_, s3⟩
  have s_ : Step w_r w3 tag tag3 (fun _ => True) := (step_below (below_drew _) tag (fun _ => True)).trans s3
  replace Oc := Kpt.mk (Oc.out.call s_)
  replace Or := Kpt.mk (Or.out.call s_)
  replace F := Kpt.mk (F.out.call hW_ s_)
  refine hKA _ _ ?_
  clear hKA KA
  try simp only [Act.put, List.getElem_toArray, List.getElem_cons_succ, List.getElem_cons_zero, List.setIfInBounds_toArray, List.set_cons_succ, List.set_cons_zero]
  refine wpAnyC_take 10 (.tuple #[.int .i64 j0, .int .i64 6]) rfl (by kernel_rfl) (by kernel_rfl) (by kernel_rfl) (fun _ _ _ h => h) (wanted_free rfl _) (fun W hW => by go_simp) ?_
  try simp only [Act.put, List.getElem_toArray, List.getElem_cons_succ, List.getElem_cons_zero, List.setIfInBounds_toArray, List.set_cons_succ, List.set_cons_zero]
  refine wpAnyC_take 11 (.int .i64 j0) rfl (by kernel_rfl) (by kernel_rfl) (by kernel_rfl) (fun _ _ _ h => h) (wanted_free rfl _) (fun W hW => by go_simp) ?_
  try simp only [Act.put, List.getElem_toArray, List.getElem_cons_succ, List.getElem_cons_zero, List.setIfInBounds_toArray, List.set_cons_succ, List.set_cons_zero]
  refine wpAnyC_take 12 (.int .i64 6) rfl (by kernel_rfl) (by kernel_rfl) (by kernel_rfl) (fun _ _ _ h => h) (wanted_free rfl _) (fun W hW => by go_simp) ?_
  try simp only [Act.put, List.getElem_toArray, List.getElem_cons_succ, List.getElem_cons_zero, List.setIfInBounds_toArray, List.set_cons_succ, List.set_cons_zero]
  refine wpAnyC_take 13 (.int .i64 j0) rfl (by kernel_rfl) (by kernel_rfl) (by kernel_rfl) (fun _ _ _ h => h) (wanted_free rfl _) (fun W hW => by go_simp) ?_
  try simp only [Act.put, List.getElem_toArray, List.getElem_cons_succ, List.getElem_cons_zero, List.setIfInBounds_toArray, List.set_cons_succ, List.set_cons_zero]
  refine wpAnyC_take 14 (.int .i64 6) rfl (by kernel_rfl) (by kernel_rfl) (by kernel_rfl) (fun _ _ _ h => h) (wanted_free rfl _) (fun W hW => by go_simp) ?_
  try simp only [Act.put, List.getElem_toArray, List.getElem_cons_succ, List.getElem_cons_zero, List.setIfInBounds_toArray, List.set_cons_succ, List.set_cons_zero]
  refine wpAnyC_done (⟨(dev_at F.out.dv.bx).1, hcm2.out _ _ Oc.out.bx, (dev_at F.out.dv.bx).2.2⟩) (by kernel_rfl) ?_
  clear hW_ s_ s3 d0 d1 dlt hb
  replace x2 := hcm2.out _ _ Oc.out.bx
  go_wp2_with (first
      | (have hm := m3; refine wpList_store_bx rfl 32 _ _ rfl br _ (s).vals rfl rfl Or.out.bx rfl infoS (Sn.vals_one _) rfl ?_; intro w4 hX_ hg_; replace Oc := Kpt.mk (Oc.out.other hg_ (by omega)); replace F := Kpt.mk (F.out.own Or.out hg_ hSl hDl); replace Or := Kpt.mk (Or.out.set hX_); replace x2 := hcm2.out _ _ Oc.out.bx; clear hX_ hg_; clear hm m3; have m4 : Kpt True := ⟨trivial⟩)
      | (go_at_call 78; have hm := m2; go_must (refine (HWn.out _).mono ?_; rintro e w4 ⟨rfl, h_⟩; replace Oc := Kpt.mk (Oc.out.below h_); replace Or := Kpt.mk (Or.out.below h_); replace F := Kpt.mk (F.out.below h_); replace x2 := hcm2.out _ _ Oc.out.bx; clear h_; clear hm m2; have m3 : Kpt True := ⟨trivial⟩))
      | (refine wpList_load_bx rfl 38 _ rfl bc CV rfl Oc.out.bx _ Try.underlying38 rfl (by rw [hCs.out]; exact infoC) ?_)
      | (refine wpList_load_bx rfl 32 _ rfl br (s).vals rfl Or.out.bx _ Try.underlying32 rfl infoS ?_)
      | fail)
  refine bodyPost_ret (v := .agg (s).vals) (by simp [results, Try.results58, asAddr, Act.put, res_run Or.out.bx]) rfl ⟨rfl, _, F.out.dv.wd, F.out.st⟩

set_option maxRecDepth 100000 in
set_option maxHeartbeats 1000000 in
theorem take_part (w : World) (B : Nat) (tag : Tags) (st : St) (f : ByteArray) (S D N : Nat) (k : Int) (l m n cp : Nat) (a : Option Addr) (zs : List Int) (c : Cm) (h : Dv w B tag st f S D N k true) (hf1 : 1 ≤ f.size) (hf2 : f.size ≤ 32) (hN : N ≤ 4096) (hc : st.cnt < 500000000000) (hcw : st.waits.length < 1000000) (hw : Wrs st.waits) (h0 : 0 ≤ k) (h1 : k ≤ 255) (hl : c.lba = (l : Nat)) (hbl : c.bl = (m : Nat)) (hin : l + m ≤ N) (hr : RdAt w (.slice a n cp) zs) (hlz : zs.length = n) (hby : Bytes zs) (hm : n = m * 16) (hpr : c.pr = 0) (hf : ∀ i : Nat, i < m → st.fails (st.ops + i) = false) :
    Calls Try.prog 43 #[.pointer (some ⟨D, 0, none⟩), .agg c.vals, .slice a n cp, .bool false] w fun e w' => e = .returned (.agg (noS).vals) ∧ Aft w w' B tag (wrSt st f l (prL k l (unBs false zs m)) m) := by
  have hcm3 : ∀ (W : World) (b : Nat), Bx W b c.vals → W.cell? ⟨b, 3, none⟩ = some (.int .u64 c.bl) := fun W b h => (cm_at h).2.2.2.1
  rw [hbl] at hcm3
  have HC := fun W (hb : Below w.heap.size w W) (hD : Bx W D (devV S k)) => come_0 D S l k c a n cp m zs W hD h0 h1 hl (by omega) (rd_below hr hb) hlz hby hpr hm
  have hbo : ∀ b ∈ prL k l (unBs false zs m), b.ok := prL_ok k l _ (unBs_ok false zs m hby (by rw [hlz, hm]; rfl))
  have hbn : (prL k l (unBs false zs m)).length = m := by rw [prL_len]; exact unBs_len _ _ _
  have em : IntKind.i64.wrap (m : Int) = m := by rw [IntKind.wrap_i64]; omega
  have HE := fun W => ended_any noS W
  simp only [show (noS.key != 0) = false from rfl] at HE
  obtain ⟨bs, hbs⟩ : ∃ bs, bs = prL k l (unBs false zs m) := ⟨_, rfl⟩
  rw [← hbs] at HC hbo hbn ⊢
  have HW := fun W g (h : Dv W B tag st f S D N k true) (hg : W.heap[g]? = some (.cells (flat bs).toArray 76 (0, 0))) (ht : tag g = none) => dwrite_part W B tag st f S D N k l m m (some ⟨g, 0, none⟩) c bs h hf1 hf2 hN hc hcw hw hl hin hbn (bks_row hg hbo m m hbn (by unfold maxLen; omega)) (fun g' hg' => by simp [Value.ownBlock] at hg'; rw [← hg']; exact ht) hf
  obtain ⟨st2, hst2⟩ : ∃ s, s = wrSt st f l (bs) m := ⟨_, rfl⟩
  rw [← hst2] at HW ⊢
  have hCs : c.vals.size = 15 := rfl
  obtain ⟨CV, hCV⟩ : ∃ CV, CV = c.vals := ⟨_, rfl⟩
  rw [← hCV] at hCs hcm3 HC HW ⊢
  replace hcm3 := Kpt.mk hcm3
  replace hCs := Kpt.mk hCs
  clear hCV
  have hSl := h.sto.lt
  have hDl := h.bx.lt
  have F := Kpt.mk h.fx
  have hb := Kpt.mk (Below.refl w.heap.size w)
  replace HC := Kpt.mk HC
  replace HE := Kpt.mk HE
  replace HW := Kpt.mk HW
  replace h := Kpt.mk h
  replace hm := Kpt.mk hm
  clear hbo hbn hr hlz hl hbl hw hpr hbs hst2 hf 
  go_enter Try.func43, Try.ntmps43
  go_wp2_with (first
      | (have hm := m7; refine wpList_store_bx rfl 32 _ _ rfl br _ (noS).vals rfl rfl Or.out.bx rfl infoS (Sn.vals_one _) rfl ?_; intro w8 hX_ hg_; replace Oc := Kpt.mk (Oc.out.other hg_ (by omega)); replace Ov := Kpt.mk (Ov.out.other hg_ (by omega)); replace Rg := Kpt.mk (Rg.out.other hg_ (by omega)); replace F := Kpt.mk (F.out.own Or.out hg_ hSl hDl); replace Or := Kpt.mk (Or.out.set hX_); replace x3 := hcm3.out _ _ Oc.out.bx; clear hX_ hg_; clear hm m7; have m8 : Kpt True := ⟨trivial⟩)
      | (go_at_call 58; have hm := m6; go_must (refine (HW.out _ _ F.out.dv Rg.out.row Rg.out.bare).mono ?_; rintro e w5 ⟨rfl, tag5, hW_, s_⟩; replace Oc := Kpt.mk (Oc.out.call s_); replace Or := Kpt.mk (Or.out.call s_); replace Ov := Kpt.mk (Ov.out.call s_); replace Rg := Kpt.mk (Rg.out.call s_); replace F := Kpt.mk (F.out.call hW_ s_); replace x3 := hcm3.out _ _ Oc.out.bx; clear hW_ s_; clear hm m6; have m7 : Kpt True := ⟨trivial⟩))
      | (go_at_call 22; have hm := m5; go_must (refine (HE.out _).mono ?_; rintro e w4 ⟨rfl, h_⟩; replace Oc := Kpt.mk (Oc.out.below h_); replace Or := Kpt.mk (Or.out.below h_); replace Ov := Kpt.mk (Ov.out.below h_); replace Rg := Kpt.mk (Rg.out.below h_); replace F := Kpt.mk (F.out.below h_); replace x3 := hcm3.out _ _ Oc.out.bx; replace hb := Kpt.mk (hb.out.trans (h_.mono hb.out.size)); clear h_; clear hm m5; have m6 : Kpt True := ⟨trivial⟩))
      | (have hm := m4; refine wpList_store_bx rfl 32 _ _ rfl bv _ (noS).vals rfl rfl Ov.out.bx rfl infoS (Sn.vals_one _) rfl ?_; intro w5 hX_ hg_; replace hb := Kpt.mk (hb.out.trans (Below.ofGrown hg_ hb.out.size Ov.out.lo)); replace Oc := Kpt.mk (Oc.out.other hg_ (by omega)); replace Or := Kpt.mk (Or.out.other hg_ (by omega)); replace Rg := Kpt.mk (Rg.out.other hg_ (by omega)); replace F := Kpt.mk (F.out.own Ov.out hg_ hSl hDl); replace Ov := Kpt.mk (Ov.out.set hX_); replace x3 := hcm3.out _ _ Oc.out.bx; clear hX_ hg_; clear hm m4; have m5 : Kpt True := ⟨trivial⟩)
      | (have hm := m3; refine wpList_var rfl 32 rfl zeroS zeroSi ?_; intro bv w_v hl_ hX_ h_; have q_c_v : bc < bv := Nat.lt_of_lt_of_le Oc.out.bx.lt hl_; have q_r_v : br < bv := Nat.lt_of_lt_of_le Or.out.bx.lt hl_; have q_g_v : gg < bv := Nat.lt_of_lt_of_le Rg.out.lt hl_; have Ov := Kpt.mk (F.out.new hl_ hX_); replace Oc := Kpt.mk (Oc.out.below h_); replace Or := Kpt.mk (Or.out.below h_); replace Rg := Kpt.mk (Rg.out.below h_); replace F := Kpt.mk (F.out.below h_); replace x3 := hcm3.out _ _ Oc.out.bx; replace hb := Kpt.mk (hb.out.trans (h_.mono hb.out.size)); clear hl_ hX_ h_; clear hm m3; have m4 : Kpt True := ⟨trivial⟩)
      | (go_at_call 57; have hm := m2; go_must (refine (HC.out _ hb.out F.out.dv.bx).mono ?_; rintro e w3 ⟨gg, rfl, hr_, hgl_, h_⟩; have q_c_g : bc < gg := Nat.lt_of_lt_of_le Oc.out.bx.lt hgl_; have q_r_g : br < gg := Nat.lt_of_lt_of_le Or.out.bx.lt hgl_; have Rg := Kpt.mk (F.out.row hgl_ hr_); replace Oc := Kpt.mk (Oc.out.below h_); replace Or := Kpt.mk (Or.out.below h_); replace F := Kpt.mk (F.out.below h_); replace x3 := hcm3.out _ _ Oc.out.bx; replace hb := Kpt.mk (hb.out.trans (h_.mono hb.out.size)); clear h_; clear hgl_ hr_; clear hm m2; have m3 : Kpt True := ⟨trivial⟩))
      | (have hm := m1; refine wpList_var rfl 32 rfl zeroS zeroSi ?_; intro br w_r hl_ hX_ h_; have q_c_r : bc < br := Nat.lt_of_lt_of_le Oc.out.bx.lt hl_; have Or := Kpt.mk (F.out.new hl_ hX_); replace Oc := Kpt.mk (Oc.out.below h_); replace F := Kpt.mk (F.out.below h_); replace x3 := hcm3.out _ _ Oc.out.bx; replace hb := Kpt.mk (hb.out.trans (h_.mono hb.out.size)); clear hl_ hX_ h_; clear hm m1; have m2 : Kpt True := ⟨trivial⟩)
      | (refine wpList_box rfl 38 _ rfl CV rfl ?_; intro bc w_c hl_ hX_ h_ _; have Oc := Kpt.mk (F.out.new hl_ hX_); replace F := Kpt.mk (F.out.below h_); replace hb := Kpt.mk (hb.out.trans (h_.mono hb.out.size)); have x3 := hcm3.out _ _ Oc.out.bx; clear hl_ hX_ h_; have m1 : Kpt True := ⟨trivial⟩)
      | (refine wpList_load_bx rfl 38 _ rfl bc CV rfl Oc.out.bx _ Try.underlying38 rfl (by rw [hCs.out]; exact infoC) ?_)
      | (refine wpList_load_bx rfl 32 _ rfl bv (noS).vals rfl Ov.out.bx _ Try.underlying32 rfl infoS ?_)
      | fail)
  refine bodyPost_ret (v := .agg (noS).vals) (by simp [results, Try.results43, asAddr, Act.put, res_run Or.out.bx]) rfl ⟨rfl, _, F.out.dv.wd, F.out.st⟩

set_option maxRecDepth 100000 in
set_option maxHeartbeats 1000000 in
theorem take_fail (w : World) (B : Nat) (tag : Tags) (st : St) (f : ByteArray) (S D N : Nat) (k : Int) (l m n cp : Nat) (a : Option Addr) (zs : List Int) (c : Cm) (h : Dv w B tag st f S D N k true) (hf1 : 1 ≤ f.size) (hf2 : f.size ≤ 32) (hN : N ≤ 4096) (hc : st.cnt < 500000000000) (hcw : st.waits.length < 1000000) (hw : Wrs st.waits) (h0 : 0 ≤ k) (h1 : k ≤ 255) (hl : c.lba = (l : Nat)) (hbl : c.bl = (m : Nat)) (hin : l + m ≤ N) (hr : RdAt w (.slice a n cp) zs) (hlz : zs.length = n) (hby : Bytes zs) (hm : n = m * 16) (hpr : c.pr = 0) (j0 : Nat) (hj0 : j0 < m) (hf : ∀ i : Nat, i < j0 → st.fails (st.ops + i) = false) (hfj : st.fails (st.ops + j0) = true) :
    Calls Try.prog 43 #[.pointer (some ⟨D, 0, none⟩), .agg c.vals, .slice a n cp, .bool false] w fun e w' => e = .returned (.agg (nuS 3 3072 ((l + j0 : Nat) : Int)).vals) ∧ Aft w w' B tag (flSt (wrSt st f l (prL k l (unBs false zs m)) j0)) := by
  have hcm3 : ∀ (W : World) (b : Nat), Bx W b c.vals → W.cell? ⟨b, 3, none⟩ = some (.int .u64 c.bl) := fun W b h => (cm_at h).2.2.2.1
  rw [hbl] at hcm3
  have HC := fun W (hb : Below w.heap.size w W) (hD : Bx W D (devV S k)) => come_0 D S l k c a n cp m zs W hD h0 h1 hl (by omega) (rd_below hr hb) hlz hby hpr hm
  have hbo : ∀ b ∈ prL k l (unBs false zs m), b.ok := prL_ok k l _ (unBs_ok false zs m hby (by rw [hlz, hm]; rfl))
  have hbn : (prL k l (unBs false zs m)).length = m := by rw [prL_len]; exact unBs_len _ _ _
  have em : IntKind.i64.wrap (m : Int) = m := by rw [IntKind.wrap_i64]; omega
  have HE := fun W => ended_any noS W
  simp only [show (noS.key != 0) = false from rfl] at HE
  obtain ⟨bs, hbs⟩ : ∃ bs, bs = prL k l (unBs false zs m) := ⟨_, rfl⟩
  rw [← hbs] at HC hbo hbn ⊢
  have HW := fun W g (h : Dv W B tag st f S D N k true) (hg : W.heap[g]? = some (.cells (flat bs).toArray 76 (0, 0))) (ht : tag g = none) => dwrite_fail W B tag st f S D N k l m m (some ⟨g, 0, none⟩) c bs h hf1 hf2 hN hc hcw hw hl hin hbn (bks_row hg hbo m m hbn (by unfold maxLen; omega)) (fun g' hg' => by simp [Value.ownBlock] at hg'; rw [← hg']; exact ht) j0 hj0 hf hfj
  obtain ⟨st2, hst2⟩ : ∃ s, s = flSt (wrSt st f l (bs) j0) := ⟨_, rfl⟩
  rw [← hst2] at HW ⊢
  obtain ⟨s, hs⟩ : ∃ s, s = nuS 3 3072 ((l + j0 : Nat) : Int) := ⟨_, rfl⟩
  rw [← hs] at HW ⊢
  have hCs : c.vals.size = 15 := rfl
  obtain ⟨CV, hCV⟩ : ∃ CV, CV = c.vals := ⟨_, rfl⟩
  rw [← hCV] at hCs hcm3 HC HW ⊢
  replace hcm3 := Kpt.mk hcm3
  replace hCs := Kpt.mk hCs
  clear hCV
  have hSl := h.sto.lt
  have hDl := h.bx.lt
  have F := Kpt.mk h.fx
  have hb := Kpt.mk (Below.refl w.heap.size w)
  replace HC := Kpt.mk HC
  replace HE := Kpt.mk HE
  replace HW := Kpt.mk HW
  replace h := Kpt.mk h
  replace hm := Kpt.mk hm
  clear hbo hbn hr hlz hl hbl hw hpr hbs hst2 hf hfj hs
  go_enter Try.func43, Try.ntmps43
  go_wp2_with (first
      | (have hm := m7; refine wpList_store_bx rfl 32 _ _ rfl br _ (s).vals rfl rfl Or.out.bx rfl infoS (Sn.vals_one _) rfl ?_; intro w8 hX_ hg_; replace Oc := Kpt.mk (Oc.out.other hg_ (by omega)); replace Ov := Kpt.mk (Ov.out.other hg_ (by omega)); replace Rg := Kpt.mk (Rg.out.other hg_ (by omega)); replace F := Kpt.mk (F.out.own Or.out hg_ hSl hDl); replace Or := Kpt.mk (Or.out.set hX_); replace x3 := hcm3.out _ _ Oc.out.bx; clear hX_ hg_; clear hm m7; have m8 : Kpt True := ⟨trivial⟩)
      | (go_at_call 58; have hm := m6; go_must (refine (HW.out _ _ F.out.dv Rg.out.row Rg.out.bare).mono ?_; rintro e w5 ⟨rfl, tag5, hW_, s_⟩; replace Oc := Kpt.mk (Oc.out.call s_); replace Or := Kpt.mk (Or.out.call s_); replace Ov := Kpt.mk (Ov.out.call s_); replace Rg := Kpt.mk (Rg.out.call s_); replace F := Kpt.mk (F.out.call hW_ s_); replace x3 := hcm3.out _ _ Oc.out.bx; clear hW_ s_; clear hm m6; have m7 : Kpt True := ⟨trivial⟩))
      | (go_at_call 22; have hm := m5; go_must (refine (HE.out _).mono ?_; rintro e w4 ⟨rfl, h_⟩; replace Oc := Kpt.mk (Oc.out.below h_); replace Or := Kpt.mk (Or.out.below h_); replace Ov := Kpt.mk (Ov.out.below h_); replace Rg := Kpt.mk (Rg.out.below h_); replace F := Kpt.mk (F.out.below h_); replace x3 := hcm3.out _ _ Oc.out.bx; replace hb := Kpt.mk (hb.out.trans (h_.mono hb.out.size)); clear h_; clear hm m5; have m6 : Kpt True := ⟨trivial⟩))
      | (have hm := m4; refine wpList_store_bx rfl 32 _ _ rfl bv _ (noS).vals rfl rfl Ov.out.bx rfl infoS (Sn.vals_one _) rfl ?_; intro w5 hX_ hg_; replace hb := Kpt.mk (hb.out.trans (Below.ofGrown hg_ hb.out.size Ov.out.lo)); replace Oc := Kpt.mk (Oc.out.other hg_ (by omega)); replace Or := Kpt.mk (Or.out.other hg_ (by omega)); replace Rg := Kpt.mk (Rg.out.other hg_ (by omega)); replace F := Kpt.mk (F.out.own Ov.out hg_ hSl hDl); replace Ov := Kpt.mk (Ov.out.set hX_); replace x3 := hcm3.out _ _ Oc.out.bx; clear hX_ hg_; clear hm m4; have m5 : Kpt True := ⟨trivial⟩)
      | (have hm := m3; refine wpList_var rfl 32 rfl zeroS zeroSi ?_; intro bv w_v hl_ hX_ h_; have q_c_v : bc < bv := Nat.lt_of_lt_of_le Oc.out.bx.lt hl_; have q_r_v : br < bv := Nat.lt_of_lt_of_le Or.out.bx.lt hl_; have q_g_v : gg < bv := Nat.lt_of_lt_of_le Rg.out.lt hl_; have Ov := Kpt.mk (F.out.new hl_ hX_); replace Oc := Kpt.mk (Oc.out.below h_); replace Or := Kpt.mk (Or.out.below h_); replace Rg := Kpt.mk (Rg.out.below h_); replace F := Kpt.mk (F.out.below h_); replace x3 := hcm3.out _ _ Oc.out.bx; replace hb := Kpt.mk (hb.out.trans (h_.mono hb.out.size)); clear hl_ hX_ h_; clear hm m3; have m4 : Kpt True := ⟨trivial⟩)
      | (go_at_call 57; have hm := m2; go_must (refine (HC.out _ hb.out F.out.dv.bx).mono ?_; rintro e w3 ⟨gg, rfl, hr_, hgl_, h_⟩; have q_c_g : bc < gg := Nat.lt_of_lt_of_le Oc.out.bx.lt hgl_; have q_r_g : br < gg := Nat.lt_of_lt_of_le Or.out.bx.lt hgl_; have Rg := Kpt.mk (F.out.row hgl_ hr_); replace Oc := Kpt.mk (Oc.out.below h_); replace Or := Kpt.mk (Or.out.below h_); replace F := Kpt.mk (F.out.below h_); replace x3 := hcm3.out _ _ Oc.out.bx; replace hb := Kpt.mk (hb.out.trans (h_.mono hb.out.size)); clear h_; clear hgl_ hr_; clear hm m2; have m3 : Kpt True := ⟨trivial⟩))
      | (have hm := m1; refine wpList_var rfl 32 rfl zeroS zeroSi ?_; intro br w_r hl_ hX_ h_; have q_c_r : bc < br := Nat.lt_of_lt_of_le Oc.out.bx.lt hl_; have Or := Kpt.mk (F.out.new hl_ hX_); replace Oc := Kpt.mk (Oc.out.below h_); replace F := Kpt.mk (F.out.below h_); replace x3 := hcm3.out _ _ Oc.out.bx; replace hb := Kpt.mk (hb.out.trans (h_.mono hb.out.size)); clear hl_ hX_ h_; clear hm m1; have m2 : Kpt True := ⟨trivial⟩)
      | (refine wpList_box rfl 38 _ rfl CV rfl ?_; intro bc w_c hl_ hX_ h_ _; have Oc := Kpt.mk (F.out.new hl_ hX_); replace F := Kpt.mk (F.out.below h_); replace hb := Kpt.mk (hb.out.trans (h_.mono hb.out.size)); have x3 := hcm3.out _ _ Oc.out.bx; clear hl_ hX_ h_; have m1 : Kpt True := ⟨trivial⟩)
      | (refine wpList_load_bx rfl 38 _ rfl bc CV rfl Oc.out.bx _ Try.underlying38 rfl (by rw [hCs.out]; exact infoC) ?_)
      | (refine wpList_load_bx rfl 32 _ rfl bv (noS).vals rfl Ov.out.bx _ Try.underlying32 rfl infoS ?_)
      | fail)
  refine bodyPost_ret (v := .agg (s).vals) (by simp [results, Try.results43, asAddr, Act.put, res_run Or.out.bx]) rfl ⟨rfl, _, F.out.dv.wd, F.out.st⟩

end Go.Proofs.Ytklboieemljmiaa

namespace Go.Proofs.Ytklboieemljmiaa
open Go.RowKit
set_option linter.unusedVariables false
set_option linter.unusedSimpArgs false
/-- One block that came is as many as are wanted. -/
theorem rp_pr (k : Int) (l : Nat) (u : Bk) (n : Nat) : rpL k l (prB k l u) n = prL k l (List.replicate n u) := by
  refine List.ext_getElem? (fun j => ?_)
  rw [prL_at, List.getElem?_replicate]
  unfold rpL
  rw [List.getElem?_map]
  by_cases hj : j < n
  · rw [List.getElem?_range hj, if_pos hj]
    simp only [Option.map_some, rpB, prB, refV]
    by_cases hk : hasB k = true
    · simp [hk]
    · simp [hk]
  · rw [List.getElem?_eq_none (by simp; omega), if_neg hj]
    rfl
set_option maxRecDepth 100000 in
set_option maxHeartbeats 2000000 in
theorem wsame_part (w : World) (B : Nat) (tag : Tags) (st : St) (f : ByteArray) (S D N : Nat) (k : Int) (l m cp : Nat) (a : Option Addr) (zs : List Int) (c : Cm) (h : Dv w B tag st f S D N k true) (hf1 : 1 ≤ f.size) (hf2 : f.size ≤ 32) (hN : N ≤ 4096) (hc : st.cnt < 500000000000) (hcw : st.waits.length < 1000000) (hw : Wrs st.waits) (h0 : 0 ≤ k) (h1 : k ≤ 255) (hl : c.lba = (l : Nat)) (hbl : c.bl = (m : Nat)) (hm1 : 1 ≤ m) (hin : l + m ≤ N) (hr : RdAt w (.slice a 16 cp) zs) (hlz : zs.length = 16) (hby : Bytes zs) (hpr : c.pr = 0) (hum : c.um = false) (hf : ∀ i : Nat, i < m → st.fails (st.ops + i) = false) :
    Calls Try.prog 46 #[.pointer (some ⟨D, 0, none⟩), .agg c.vals, .slice a 16 cp] w fun e w' => e = .returned (.agg (noS).vals) ∧ Aft w w' B tag (wrSt st f l (prL k l (List.replicate m (unB false zs 0))) m) := by
  have hcm2 : ∀ (W : World) (b : Nat), Bx W b c.vals → W.cell? ⟨b, 2, none⟩ = some (.int .u64 c.lba) := fun W b h => (cm_at h).2.2.1
  have hcm3 : ∀ (W : World) (b : Nat), Bx W b c.vals → W.cell? ⟨b, 3, none⟩ = some (.int .u64 c.bl) := fun W b h => (cm_at h).2.2.2.1
  have hcm7 : ∀ (W : World) (b : Nat), Bx W b c.vals → W.cell? ⟨b, 7, none⟩ = some (.bool c.um) := fun W b h => (cm_at h).2.2.2.2.2.2.2.1
  rw [hl] at hcm2
  rw [hbl] at hcm3
  rw [hum] at hcm7
  have HC := fun W (hb : Below w.heap.size w W) (hD : Bx W D (devV S k)) => come_0 D S l k c a 16 cp 1 zs W hD h0 h1 hl (by omega) (rd_below hr hb) hlz hby hpr rfl
  have huo := unBs_ok false zs 1 hby (by rw [hlz]; rfl)
  have hu1 : unBs false zs 1 = [unB false zs 0] := rfl
  have hu : (unB false zs 0).ok := huo _ (by rw [hu1]; exact List.mem_singleton.2 rfl)
  obtain ⟨b0, hb0⟩ : ∃ b, b = prB k l (unB false zs 0) := ⟨_, rfl⟩
  have hb0k : b0.ok := by rw [hb0]; exact prB_ok k l _ hu
  have hfl : flat (prL k l (unBs false zs 1)) = b0.cs := by rw [hu1, hb0]; simp [prL, flat]
  simp only [hfl] at HC
  have HRp := fun W (hD : Bx W D (devV S k)) => repeat_any D S l m k b0 W hD hb0k hm1 (by omega)
  have hrp : rpL k l b0 m = prL k l (List.replicate m (unB false zs 0)) := by rw [hb0]; exact rp_pr k l _ m
  have hbo : ∀ b ∈ rpL k l b0 m, b.ok := rpL_ok k l b0 m hb0k
  have hbn : (rpL k l b0 m).length = m := rpL_len k l b0 m
  rw [← hrp]
  have em : IntKind.i64.wrap (m : Int) = m := by rw [IntKind.wrap_i64]; omega
  have nm0 : ¬ (m : Int) = 0 := by omega
  have bm0 : ((m : Int) == 0) = false := beq_eq_false_iff_ne.mpr nm0
  have HE := fun W => ended_any noS W
  simp only [show (noS.key != 0) = false from rfl] at HE
  obtain ⟨bs, hbs⟩ : ∃ bs, bs = rpL k l b0 m := ⟨_, rfl⟩
  rw [← hbs] at HRp hbo hbn ⊢
  have HW := fun W g (h : Dv W B tag st f S D N k true) (hg : W.heap[g]? = some (.cells (flat bs).toArray 76 (0, 0))) (ht : tag g = none) => dwrite_part W B tag st f S D N k l m m (some ⟨g, 0, none⟩) c bs h hf1 hf2 hN hc hcw hw hl hin hbn (bks_row hg hbo m m hbn (by unfold maxLen; omega)) (fun g' hg' => by simp [Value.ownBlock] at hg'; rw [← hg']; exact ht) hf
  obtain ⟨st2, hst2⟩ : ∃ s, s = wrSt st f l (bs) m := ⟨_, rfl⟩
  rw [← hst2] at HW ⊢
  have hcl : b0.cs.length = 19 := cs_len b0 hb0k
  obtain ⟨V, hV⟩ : ∃ V, V = b0.vals := ⟨_, rfl⟩
  have hVc : b0.cs.toArray = V := by rw [hV]; rfl
  rw [← hV] at HRp
  have hCs : c.vals.size = 15 := rfl
  obtain ⟨CV, hCV⟩ : ∃ CV, CV = c.vals := ⟨_, rfl⟩
  rw [← hCV] at hCs hcm2 hcm3 hcm7 HC HW ⊢
  replace hcm2 := Kpt.mk hcm2
  replace hcm3 := Kpt.mk hcm3
  replace hcm7 := Kpt.mk hcm7
  replace hCs := Kpt.mk hCs
  clear hCV
  have hSl := h.sto.lt
  have hDl := h.bx.lt
  have F := Kpt.mk h.fx
  have hb := Kpt.mk (Below.refl w.heap.size w)
  replace HC := Kpt.mk HC
  replace HE := Kpt.mk HE
  replace HW := Kpt.mk HW
  replace HRp := Kpt.mk HRp
  replace h := Kpt.mk h
  replace hcl := Kpt.mk hcl
  replace hVc := Kpt.mk hVc
  obtain ⟨LV, hLV⟩ : ∃ L, L = b0.cs := ⟨_, rfl⟩
  rw [← hLV] at HC hcl hVc
  clear hbo hbn hr hlz hl hbl hw hpr hbs hst2 hV hb0 hb0k hfl hrp huo hu hu1 hum hLV hf 
  go_enter Try.func46, Try.ntmps46
  go_wp2_with (first
      | (go_at_call 22; have hm := m5; go_must (refine (HE.out _).mono ?_; rintro e w4 ⟨rfl, h_⟩; replace Oc := Kpt.mk (Oc.out.below h_); replace Or := Kpt.mk (Or.out.below h_); replace Ov := Kpt.mk (Ov.out.below h_); replace Rg := Kpt.mk (Rg.out.below h_); replace F := Kpt.mk (F.out.below h_); replace x2 := hcm2.out _ _ Oc.out.bx; replace x3 := hcm3.out _ _ Oc.out.bx; replace x7 := hcm7.out _ _ Oc.out.bx; replace hb := Kpt.mk (hb.out.trans (h_.mono hb.out.size)); clear h_; clear hm m5; have m6 : Kpt True := ⟨trivial⟩))
      | (have hm := m4; refine wpList_store_bx rfl 32 _ _ rfl bv _ (noS).vals rfl rfl Ov.out.bx rfl infoS (Sn.vals_one _) rfl ?_; intro w5 hX_ hg_; replace hb := Kpt.mk (hb.out.trans (Below.ofGrown hg_ hb.out.size Ov.out.lo)); replace Oc := Kpt.mk (Oc.out.other hg_ (by omega)); replace Or := Kpt.mk (Or.out.other hg_ (by omega)); replace Rg := Kpt.mk (Rg.out.other hg_ (by omega)); replace F := Kpt.mk (F.out.own Ov.out hg_ hSl hDl); replace Ov := Kpt.mk (Ov.out.set hX_); replace x2 := hcm2.out _ _ Oc.out.bx; replace x3 := hcm3.out _ _ Oc.out.bx; replace x7 := hcm7.out _ _ Oc.out.bx; clear hX_ hg_; clear hm m4; have m5 : Kpt True := ⟨trivial⟩)
      | (have hm := m3; refine wpList_var rfl 32 rfl zeroS zeroSi ?_; intro bv w_v hl_ hX_ h_; have q_c_v : bc < bv := Nat.lt_of_lt_of_le Oc.out.bx.lt hl_; have q_r_v : br < bv := Nat.lt_of_lt_of_le Or.out.bx.lt hl_; have q_g_v : gg < bv := Nat.lt_of_lt_of_le Rg.out.lt hl_; have Ov := Kpt.mk (F.out.new hl_ hX_); replace Oc := Kpt.mk (Oc.out.below h_); replace Or := Kpt.mk (Or.out.below h_); replace Rg := Kpt.mk (Rg.out.below h_); replace F := Kpt.mk (F.out.below h_); replace x2 := hcm2.out _ _ Oc.out.bx; replace x3 := hcm3.out _ _ Oc.out.bx; replace x7 := hcm7.out _ _ Oc.out.bx; replace hb := Kpt.mk (hb.out.trans (h_.mono hb.out.size)); clear hl_ hX_ h_; clear hm m3; have m4 : Kpt True := ⟨trivial⟩)
      | (go_at_call 57; have hm := m2; go_must (refine (HC.out _ hb.out F.out.dv.bx).mono ?_; rintro e w3 ⟨gg, rfl, hr_, hgl_, h_⟩; have q_c_g : bc < gg := Nat.lt_of_lt_of_le Oc.out.bx.lt hgl_; have q_r_g : br < gg := Nat.lt_of_lt_of_le Or.out.bx.lt hgl_; have Rg := Kpt.mk (F.out.row hgl_ hr_); replace Oc := Kpt.mk (Oc.out.below h_); replace Or := Kpt.mk (Or.out.below h_); replace F := Kpt.mk (F.out.below h_); replace x2 := hcm2.out _ _ Oc.out.bx; replace x3 := hcm3.out _ _ Oc.out.bx; replace x7 := hcm7.out _ _ Oc.out.bx; replace hb := Kpt.mk (hb.out.trans (h_.mono hb.out.size)); clear h_; clear hgl_ hr_; clear hm m2; have m3 : Kpt True := ⟨trivial⟩))
      | (have hm := m1; refine wpList_var rfl 32 rfl zeroS zeroSi ?_; intro br w_r hl_ hX_ h_; have q_c_r : bc < br := Nat.lt_of_lt_of_le Oc.out.bx.lt hl_; have Or := Kpt.mk (F.out.new hl_ hX_); replace Oc := Kpt.mk (Oc.out.below h_); replace F := Kpt.mk (F.out.below h_); replace x2 := hcm2.out _ _ Oc.out.bx; replace x3 := hcm3.out _ _ Oc.out.bx; replace x7 := hcm7.out _ _ Oc.out.bx; replace hb := Kpt.mk (hb.out.trans (h_.mono hb.out.size)); clear hl_ hX_ h_; clear hm m1; have m2 : Kpt True := ⟨trivial⟩)
      | (refine wpList_box rfl 38 _ rfl CV rfl ?_; intro bc w_c hl_ hX_ h_ _; have Oc := Kpt.mk (F.out.new hl_ hX_); replace F := Kpt.mk (F.out.below h_); replace hb := Kpt.mk (hb.out.trans (h_.mono hb.out.size)); have x2 := hcm2.out _ _ Oc.out.bx; have x3 := hcm3.out _ _ Oc.out.bx; have x7 := hcm7.out _ _ Oc.out.bx; clear hl_ hX_ h_; have m1 : Kpt True := ⟨trivial⟩)
      | (refine wpList_load_bx rfl 38 _ rfl bc CV rfl Oc.out.bx _ Try.underlying38 rfl (by rw [hCs.out]; exact infoC) ?_)
      | (refine wpList_load_bx rfl 32 _ rfl bv (noS).vals rfl Ov.out.bx _ Try.underlying32 rfl infoS ?_)
      | fail)
  have hgg4 : gg < w4.heap.size := Rg.out.lt
  have hgg4 : gg < w4.heap.size := Rg.out.lt
  have hrg : w4.rangeAt gg 0 LV := range_of (A := []) (C := []) (M := LV) (t := 76) (by simpa using Rg.out.row) rfl
  refine wp_region_any (by kernel_rfl) ?_
  refine wpAny_of_C (C := fun W => Bx W bc CV ∧ W.rangeAt gg 0 LV ∧ W.cell? ⟨bc, 2, none⟩ = some (.int .u64 l)) _ _ _ _ ?_
  refine wpAnyC_take 0 (.pointer (some ⟨D, 0, none⟩)) rfl (by kernel_rfl) (by kernel_rfl) (by kernel_rfl) (fun _ _ _ h => h) (wanted_free rfl _) (fun W hW => by obtain ⟨q1, q2, q3⟩ := hW; go_simp) ?_
  try simp only [Act.put, List.getElem_toArray, List.getElem_cons_succ, List.getElem_cons_zero, List.setIfInBounds_toArray, List.set_cons_succ, List.set_cons_zero]
  refine wpAnyC_take 1 (.agg CV) rfl (by kernel_rfl) (by kernel_rfl) (by kernel_rfl) (fun _ _ _ h => h) (wanted_free rfl _) (fun W hW => exec_load_bxG 38 (.tmp 4) rfl bc CV rfl hW.1 _ Try.underlying38 rfl (by rw [hCs.out]; exact infoC)) ?_
  try simp only [Act.put, List.getElem_toArray, List.getElem_cons_succ, List.getElem_cons_zero, List.setIfInBounds_toArray, List.set_cons_succ, List.set_cons_zero]
  refine wpAnyC_take 2 (.pointer (some ⟨D, 0, none⟩)) rfl (by kernel_rfl) (by kernel_rfl) (by kernel_rfl) (fun _ _ _ h => h) (wanted_free rfl _) (fun W hW => by obtain ⟨q1, q2, q3⟩ := hW; go_simp) ?_
  try simp only [Act.put, List.getElem_toArray, List.getElem_cons_succ, List.getElem_cons_zero, List.setIfInBounds_toArray, List.set_cons_succ, List.set_cons_zero]
  refine wpAnyC_take 3 (.slice (some ⟨gg, 0, none⟩) 1 1) rfl (by kernel_rfl) (by kernel_rfl) (by kernel_rfl) (fun _ _ _ h => h) (wanted_free rfl _) (fun W hW => by obtain ⟨q1, q2, q3⟩ := hW; go_simp) ?_
  try simp only [Act.put, List.getElem_toArray, List.getElem_cons_succ, List.getElem_cons_zero, List.setIfInBounds_toArray, List.set_cons_succ, List.set_cons_zero]
  refine wpAnyC_take 4 (.pointer (some ⟨gg, 0, none⟩)) rfl (by kernel_rfl) (by kernel_rfl) (by kernel_rfl) (fun _ _ _ h => h) (wanted_free rfl _) (fun W hW => by obtain ⟨q1, q2, q3⟩ := hW; go_simp) ?_
  try simp only [Act.put, List.getElem_toArray, List.getElem_cons_succ, List.getElem_cons_zero, List.setIfInBounds_toArray, List.set_cons_succ, List.set_cons_zero]
  refine wpAnyC_take 5 (.agg V) rfl (by kernel_rfl) (by kernel_rfl) (by kernel_rfl) (fun _ _ _ h => h) (wanted_free rfl _) (fun W hW => by rw [← hVc.out]; exact exec_load_rg 76 (.tmp 53) rfl gg 0 LV rfl hW.2.1 _ Try.underlying76 rfl (by rw [hcl.out]; exact infoB)) ?_
  try simp only [Act.put, List.getElem_toArray, List.getElem_cons_succ, List.getElem_cons_zero, List.setIfInBounds_toArray, List.set_cons_succ, List.set_cons_zero]
  refine wpAnyC_take 6 (.pointer (some ⟨bc, 2, none⟩)) rfl (by kernel_rfl) (by kernel_rfl) (by kernel_rfl) (fun _ _ _ h => h) (wanted_free rfl _) (fun W hW => by obtain ⟨q1, q2, q3⟩ := hW; go_simp) ?_
  try simp only [Act.put, List.getElem_toArray, List.getElem_cons_succ, List.getElem_cons_zero, List.setIfInBounds_toArray, List.set_cons_succ, List.set_cons_zero]
  refine wpAnyC_take 7 (.int .u64 l) rfl (by kernel_rfl) (by kernel_rfl) (by kernel_rfl) (fun _ _ _ h => h) (wanted_free rfl _) (fun W hW => by obtain ⟨q1, q2, q3⟩ := hW; go_simp) ?_
  try simp only [Act.put, List.getElem_toArray, List.getElem_cons_succ, List.getElem_cons_zero, List.setIfInBounds_toArray, List.set_cons_succ, List.set_cons_zero]
  refine wpAnyC_take 8 (.int .i64 m) rfl (by kernel_rfl) (by kernel_rfl) (by kernel_rfl) (fun _ _ _ h => h) (wanted_free rfl _) (fun W hW => by obtain ⟨q1, q2, q3⟩ := hW; go_simp) ?_
  try simp only [Act.put, List.getElem_toArray, List.getElem_cons_succ, List.getElem_cons_zero, List.setIfInBounds_toArray, List.set_cons_succ, List.set_cons_zero]
  refine wpAnyC_one 9 (⟨Oc.out.bx.drew, hrg, x2⟩) rfl (by kernel_rfl) (wanted_free rfl _) (fun KA hKA => ?_)
  go_simp
  refine (HRp.out _ F.out.dv.bx.drew).mono ?_
  rintro e w6 ⟨gr, rfl, hrow, hgl6, h6⟩
  have h_ := below_undrew h6
  have hgl_ : w4.heap.size ≤ gr := hgl6
  have q_r_r2 : br < gr := Nat.lt_of_lt_of_le Or.out.bx.lt hgl_
  have Rr := Kpt.mk (F.out.row hgl_ hrow)
  replace Oc := Kpt.mk (Oc.out.below h_)
  replace Or := Kpt.mk (Or.out.below h_)
  replace Ov := Kpt.mk (Ov.out.below h_)
  replace Rg := Kpt.mk (Rg.out.below h_)
  replace F := Kpt.mk (F.out.below h_)
  replace x2 := hcm2.out _ _ Oc.out.bx
  replace x3 := hcm3.out _ _ Oc.out.bx
  replace x7 := hcm7.out _ _ Oc.out.bx
  replace hb := Kpt.mk (hb.out.trans (h_.mono hb.out.size))
  replace hrg := rangeAt_keep hrg (h_.block gg hgg4)
  refine hKA _ _ ?_
  clear hKA KA
  try simp only [Act.put, List.getElem_toArray, List.getElem_cons_succ, List.getElem_cons_zero, List.setIfInBounds_toArray, List.set_cons_succ, List.set_cons_zero]
  refine wpAnyC_one 10 (⟨Oc.out.bx, hrg, x2⟩) rfl (by kernel_rfl) (wanted_free rfl _) (fun KA hKA => ?_)
  go_simp
  refine (HW.out _ _ F.out.dv Rr.out.row Rr.out.bare).mono ?_
  rintro e w7 ⟨rfl, tag7, hW_, s_⟩
  have hgb : tag gg = none := Rg.out.bare
  replace Oc := Kpt.mk (Oc.out.call s_)
  replace Or := Kpt.mk (Or.out.call s_)
  replace F := Kpt.mk (F.out.call hW_ s_)
  replace hrg := rangeAt_keep hrg (s_.block gg (Nat.lt_of_lt_of_le hgg4 h6.size) (fun t _ e => by rw [hgb] at e; cases e))
  replace x2 := hcm2.out _ _ Oc.out.bx
  refine hKA _ _ ?_
  clear hKA KA
  try simp only [Act.put, List.getElem_toArray, List.getElem_cons_succ, List.getElem_cons_zero, List.setIfInBounds_toArray, List.set_cons_succ, List.set_cons_zero]
  refine wpAnyC_one 11 ⟨Oc.out.bx, hrg, x2⟩ rfl (by kernel_rfl) (wanted_free rfl _) (fun KA hKA => ?_)
  refine wp_store_bx 32 _ _ rfl br zeroS (noS).vals rfl rfl Or.out.bx rfl infoS (Sn.vals_one _) ?_
  intro w9 hX_ hg_
  refine hKA _ _ ?_
  clear hKA KA
  try simp only [Act.put, List.getElem_toArray, List.getElem_cons_succ, List.getElem_cons_zero, List.setIfInBounds_toArray, List.set_cons_succ, List.set_cons_zero]
  have hcr : bc < br := q_c_r
  have hrgr : br < gg := q_r_g
  replace Oc := Kpt.mk (Oc.out.other hg_ (by omega))
  replace F := Kpt.mk (F.out.own Or.out hg_ hSl hDl)
  replace Or := Kpt.mk (Or.out.set hX_)
  replace hrg := rangeAt_keep hrg (hg_.block gg (Nat.lt_of_lt_of_le (Nat.lt_of_lt_of_le hgg4 h6.size) s_.size) (by simp; omega))
  refine wpAnyC_done (⟨Oc.out.bx, hrg, hcm2.out _ _ Oc.out.bx⟩) (by kernel_rfl) ?_
  clear hg_ hX_ hrg x2 s_ hW_ h6 h_
  go_wp2
  refine bodyPost_ret (v := .agg (noS).vals) (by simp [results, Try.results46, asAddr, Act.put, res_run Or.out.bx]) rfl ⟨rfl, _, F.out.dv.wd, F.out.st⟩

set_option maxRecDepth 100000 in
set_option maxHeartbeats 2000000 in
theorem wsame_fail (w : World) (B : Nat) (tag : Tags) (st : St) (f : ByteArray) (S D N : Nat) (k : Int) (l m cp : Nat) (a : Option Addr) (zs : List Int) (c : Cm) (h : Dv w B tag st f S D N k true) (hf1 : 1 ≤ f.size) (hf2 : f.size ≤ 32) (hN : N ≤ 4096) (hc : st.cnt < 500000000000) (hcw : st.waits.length < 1000000) (hw : Wrs st.waits) (h0 : 0 ≤ k) (h1 : k ≤ 255) (hl : c.lba = (l : Nat)) (hbl : c.bl = (m : Nat)) (hm1 : 1 ≤ m) (hin : l + m ≤ N) (hr : RdAt w (.slice a 16 cp) zs) (hlz : zs.length = 16) (hby : Bytes zs) (hpr : c.pr = 0) (hum : c.um = false) (j0 : Nat) (hj0 : j0 < m) (hf : ∀ i : Nat, i < j0 → st.fails (st.ops + i) = false) (hfj : st.fails (st.ops + j0) = true) :
    Calls Try.prog 46 #[.pointer (some ⟨D, 0, none⟩), .agg c.vals, .slice a 16 cp] w fun e w' => e = .returned (.agg (nuS 3 3072 ((l + j0 : Nat) : Int)).vals) ∧ Aft w w' B tag (flSt (wrSt st f l (prL k l (List.replicate m (unB false zs 0))) j0)) := by
  have hcm2 : ∀ (W : World) (b : Nat), Bx W b c.vals → W.cell? ⟨b, 2, none⟩ = some (.int .u64 c.lba) := fun W b h => (cm_at h).2.2.1
  have hcm3 : ∀ (W : World) (b : Nat), Bx W b c.vals → W.cell? ⟨b, 3, none⟩ = some (.int .u64 c.bl) := fun W b h => (cm_at h).2.2.2.1
  have hcm7 : ∀ (W : World) (b : Nat), Bx W b c.vals → W.cell? ⟨b, 7, none⟩ = some (.bool c.um) := fun W b h => (cm_at h).2.2.2.2.2.2.2.1
  rw [hl] at hcm2
  rw [hbl] at hcm3
  rw [hum] at hcm7
  have HC := fun W (hb : Below w.heap.size w W) (hD : Bx W D (devV S k)) => come_0 D S l k c a 16 cp 1 zs W hD h0 h1 hl (by omega) (rd_below hr hb) hlz hby hpr rfl
  have huo := unBs_ok false zs 1 hby (by rw [hlz]; rfl)
  have hu1 : unBs false zs 1 = [unB false zs 0] := rfl
  have hu : (unB false zs 0).ok := huo _ (by rw [hu1]; exact List.mem_singleton.2 rfl)
  obtain ⟨b0, hb0⟩ : ∃ b, b = prB k l (unB false zs 0) := ⟨_, rfl⟩
  have hb0k : b0.ok := by rw [hb0]; exact prB_ok k l _ hu
  have hfl : flat (prL k l (unBs false zs 1)) = b0.cs := by rw [hu1, hb0]; simp [prL, flat]
  simp only [hfl] at HC
  have HRp := fun W (hD : Bx W D (devV S k)) => repeat_any D S l m k b0 W hD hb0k hm1 (by omega)
  have hrp : rpL k l b0 m = prL k l (List.replicate m (unB false zs 0)) := by rw [hb0]; exact rp_pr k l _ m
  have hbo : ∀ b ∈ rpL k l b0 m, b.ok := rpL_ok k l b0 m hb0k
  have hbn : (rpL k l b0 m).length = m := rpL_len k l b0 m
  rw [← hrp]
  have em : IntKind.i64.wrap (m : Int) = m := by rw [IntKind.wrap_i64]; omega
  have nm0 : ¬ (m : Int) = 0 := by omega
  have bm0 : ((m : Int) == 0) = false := beq_eq_false_iff_ne.mpr nm0
  have HE := fun W => ended_any noS W
  simp only [show (noS.key != 0) = false from rfl] at HE
  obtain ⟨bs, hbs⟩ : ∃ bs, bs = rpL k l b0 m := ⟨_, rfl⟩
  rw [← hbs] at HRp hbo hbn ⊢
  have HW := fun W g (h : Dv W B tag st f S D N k true) (hg : W.heap[g]? = some (.cells (flat bs).toArray 76 (0, 0))) (ht : tag g = none) => dwrite_fail W B tag st f S D N k l m m (some ⟨g, 0, none⟩) c bs h hf1 hf2 hN hc hcw hw hl hin hbn (bks_row hg hbo m m hbn (by unfold maxLen; omega)) (fun g' hg' => by simp [Value.ownBlock] at hg'; rw [← hg']; exact ht) j0 hj0 hf hfj
  obtain ⟨st2, hst2⟩ : ∃ s, s = flSt (wrSt st f l (bs) j0) := ⟨_, rfl⟩
  rw [← hst2] at HW ⊢
  have hcl : b0.cs.length = 19 := cs_len b0 hb0k
  obtain ⟨V, hV⟩ : ∃ V, V = b0.vals := ⟨_, rfl⟩
  have hVc : b0.cs.toArray = V := by rw [hV]; rfl
  rw [← hV] at HRp
  obtain ⟨s, hs⟩ : ∃ s, s = nuS 3 3072 ((l + j0 : Nat) : Int) := ⟨_, rfl⟩
  rw [← hs] at HW ⊢
  have hCs : c.vals.size = 15 := rfl
  obtain ⟨CV, hCV⟩ : ∃ CV, CV = c.vals := ⟨_, rfl⟩
  rw [← hCV] at hCs hcm2 hcm3 hcm7 HC HW ⊢
  replace hcm2 := Kpt.mk hcm2
  replace hcm3 := Kpt.mk hcm3
  replace hcm7 := Kpt.mk hcm7
  replace hCs := Kpt.mk hCs
  clear hCV
  have hSl := h.sto.lt
  have hDl := h.bx.lt
  have F := Kpt.mk h.fx
  have hb := Kpt.mk (Below.refl w.heap.size w)
  replace HC := Kpt.mk HC
  replace HE := Kpt.mk HE
  replace HW := Kpt.mk HW
  replace HRp := Kpt.mk HRp
  replace h := Kpt.mk h
  replace hcl := Kpt.mk hcl
  replace hVc := Kpt.mk hVc
  obtain ⟨LV, hLV⟩ : ∃ L, L = b0.cs := ⟨_, rfl⟩
  rw [← hLV] at HC hcl hVc
  clear hbo hbn hr hlz hl hbl hw hpr hbs hst2 hV hb0 hb0k hfl hrp huo hu hu1 hum hLV hf hfj hs
  go_enter Try.func46, Try.ntmps46
  go_wp2_with (first
      | (go_at_call 22; have hm := m5; go_must (refine (HE.out _).mono ?_; rintro e w4 ⟨rfl, h_⟩; replace Oc := Kpt.mk (Oc.out.below h_); replace Or := Kpt.mk (Or.out.below h_); replace Ov := Kpt.mk (Ov.out.below h_); replace Rg := Kpt.mk (Rg.out.below h_); replace F := Kpt.mk (F.out.below h_); replace x2 := hcm2.out _ _ Oc.out.bx; replace x3 := hcm3.out _ _ Oc.out.bx; replace x7 := hcm7.out _ _ Oc.out.bx; replace hb := Kpt.mk (hb.out.trans (h_.mono hb.out.size)); clear h_; clear hm m5; have m6 : Kpt True := ⟨trivial⟩))
      | (have hm := m4; refine wpList_store_bx rfl 32 _ _ rfl bv _ (noS).vals rfl rfl Ov.out.bx rfl infoS (Sn.vals_one _) rfl ?_; intro w5 hX_ hg_; replace hb := Kpt.mk (hb.out.trans (Below.ofGrown hg_ hb.out.size Ov.out.lo)); replace Oc := Kpt.mk (Oc.out.other hg_ (by omega)); replace Or := Kpt.mk (Or.out.other hg_ (by omega)); replace Rg := Kpt.mk (Rg.out.other hg_ (by omega)); replace F := Kpt.mk (F.out.own Ov.out hg_ hSl hDl); replace Ov := Kpt.mk (Ov.out.set hX_); replace x2 := hcm2.out _ _ Oc.out.bx; replace x3 := hcm3.out _ _ Oc.out.bx; replace x7 := hcm7.out _ _ Oc.out.bx; clear hX_ hg_; clear hm m4; have m5 : Kpt True := ⟨trivial⟩)
      | (have hm := m3; refine wpList_var rfl 32 rfl zeroS zeroSi ?_; intro bv w_v hl_ hX_ h_; have q_c_v : bc < bv := Nat.lt_of_lt_of_le Oc.out.bx.lt hl_; have q_r_v : br < bv := Nat.lt_of_lt_of_le Or.out.bx.lt hl_; have q_g_v : gg < bv := Nat.lt_of_lt_of_le Rg.out.lt hl_; have Ov := Kpt.mk (F.out.new hl_ hX_); replace Oc := Kpt.mk (Oc.out.below h_); replace Or := Kpt.mk (Or.out.below h_); replace Rg := Kpt.mk (Rg.out.below h_); replace F := Kpt.mk (F.out.below h_); replace x2 := hcm2.out _ _ Oc.out.bx; replace x3 := hcm3.out _ _ Oc.out.bx; replace x7 := hcm7.out _ _ Oc.out.bx; replace hb := Kpt.mk (hb.out.trans (h_.mono hb.out.size)); clear hl_ hX_ h_; clear hm m3; have m4 : Kpt True := ⟨trivial⟩)
      | (go_at_call 57; have hm := m2; go_must (refine (HC.out _ hb.out F.out.dv.bx).mono ?_; rintro e w3 ⟨gg, rfl, hr_, hgl_, h_⟩; have q_c_g : bc < gg := Nat.lt_of_lt_of_le Oc.out.bx.lt hgl_; have q_r_g : br < gg := Nat.lt_of_lt_of_le Or.out.bx.lt hgl_; have Rg := Kpt.mk (F.out.row hgl_ hr_); replace Oc := Kpt.mk (Oc.out.below h_); replace Or := Kpt.mk (Or.out.below h_); replace F := Kpt.mk (F.out.below h_); replace x2 := hcm2.out _ _ Oc.out.bx; replace x3 := hcm3.out _ _ Oc.out.bx; replace x7 := hcm7.out _ _ Oc.out.bx; replace hb := Kpt.mk (hb.out.trans (h_.mono hb.out.size)); clear h_; clear hgl_ hr_; clear hm m2; have m3 : Kpt True := ⟨trivial⟩))
      | (have hm := m1; refine wpList_var rfl 32 rfl zeroS zeroSi ?_; intro br w_r hl_ hX_ h_; have q_c_r : bc < br := Nat.lt_of_lt_of_le Oc.out.bx.lt hl_; have Or := Kpt.mk (F.out.new hl_ hX_); replace Oc := Kpt.mk (Oc.out.below h_); replace F := Kpt.mk (F.out.below h_); replace x2 := hcm2.out _ _ Oc.out.bx; replace x3 := hcm3.out _ _ Oc.out.bx; replace x7 := hcm7.out _ _ Oc.out.bx; replace hb := Kpt.mk (hb.out.trans (h_.mono hb.out.size)); clear hl_ hX_ h_; clear hm m1; have m2 : Kpt True := ⟨trivial⟩)
      | (refine wpList_box rfl 38 _ rfl CV rfl ?_; intro bc w_c hl_ hX_ h_ _; have Oc := Kpt.mk (F.out.new hl_ hX_); replace F := Kpt.mk (F.out.below h_); replace hb := Kpt.mk (hb.out.trans (h_.mono hb.out.size)); have x2 := hcm2.out _ _ Oc.out.bx; have x3 := hcm3.out _ _ Oc.out.bx; have x7 := hcm7.out _ _ Oc.out.bx; clear hl_ hX_ h_; have m1 : Kpt True := ⟨trivial⟩)
      | (refine wpList_load_bx rfl 38 _ rfl bc CV rfl Oc.out.bx _ Try.underlying38 rfl (by rw [hCs.out]; exact infoC) ?_)
      | (refine wpList_load_bx rfl 32 _ rfl bv (noS).vals rfl Ov.out.bx _ Try.underlying32 rfl infoS ?_)
      | fail)
  have hgg4 : gg < w4.heap.size := Rg.out.lt
  have hrg : w4.rangeAt gg 0 LV := range_of (A := []) (C := []) (M := LV) (t := 76) (by simpa using Rg.out.row) rfl
  refine wp_region_any (by kernel_rfl) ?_
  refine wpAny_of_C (C := fun W => Bx W bc CV ∧ W.rangeAt gg 0 LV ∧ W.cell? ⟨bc, 2, none⟩ = some (.int .u64 l)) _ _ _ _ ?_
  refine wpAnyC_take 0 (.pointer (some ⟨D, 0, none⟩)) rfl (by kernel_rfl) (by kernel_rfl) (by kernel_rfl) (fun _ _ _ h => h) (wanted_free rfl _) (fun W hW => by obtain ⟨q1, q2, q3⟩ := hW; go_simp) ?_
  try simp only [Act.put, List.getElem_toArray, List.getElem_cons_succ, List.getElem_cons_zero, List.setIfInBounds_toArray, List.set_cons_succ, List.set_cons_zero]
  refine wpAnyC_take 1 (.agg CV) rfl (by kernel_rfl) (by kernel_rfl) (by kernel_rfl) (fun _ _ _ h => h) (wanted_free rfl _) (fun W hW => exec_load_bxG 38 (.tmp 4) rfl bc CV rfl hW.1 _ Try.underlying38 rfl (by rw [hCs.out]; exact infoC)) ?_
  try simp only [Act.put, List.getElem_toArray, List.getElem_cons_succ, List.getElem_cons_zero, List.setIfInBounds_toArray, List.set_cons_succ, List.set_cons_zero]
  refine wpAnyC_take 2 (.pointer (some ⟨D, 0, none⟩)) rfl (by kernel_rfl) (by kernel_rfl) (by kernel_rfl) (fun _ _ _ h => h) (wanted_free rfl _) (fun W hW => by obtain ⟨q1, q2, q3⟩ := hW; go_simp) ?_
  try simp only [Act.put, List.getElem_toArray, List.getElem_cons_succ, List.getElem_cons_zero, List.setIfInBounds_toArray, List.set_cons_succ, List.set_cons_zero]
  refine wpAnyC_take 3 (.slice (some ⟨gg, 0, none⟩) 1 1) rfl (by kernel_rfl) (by kernel_rfl) (by kernel_rfl) (fun _ _ _ h => h) (wanted_free rfl _) (fun W hW => by obtain ⟨q1, q2, q3⟩ := hW; go_simp) ?_
  try simp only [Act.put, List.getElem_toArray, List.getElem_cons_succ, List.getElem_cons_zero, List.setIfInBounds_toArray, List.set_cons_succ, List.set_cons_zero]
  refine wpAnyC_take 4 (.pointer (some ⟨gg, 0, none⟩)) rfl (by kernel_rfl) (by kernel_rfl) (by kernel_rfl) (fun _ _ _ h => h) (wanted_free rfl _) (fun W hW => by obtain ⟨q1, q2, q3⟩ := hW; go_simp) ?_
  try simp only [Act.put, List.getElem_toArray, List.getElem_cons_succ, List.getElem_cons_zero, List.setIfInBounds_toArray, List.set_cons_succ, List.set_cons_zero]
  refine wpAnyC_take 5 (.agg V) rfl (by kernel_rfl) (by kernel_rfl) (by kernel_rfl) (fun _ _ _ h => h) (wanted_free rfl _) (fun W hW => by rw [← hVc.out]; exact exec_load_rg 76 (.tmp 53) rfl gg 0 LV rfl hW.2.1 _ Try.underlying76 rfl (by rw [hcl.out]; exact infoB)) ?_
  try simp only [Act.put, List.getElem_toArray, List.getElem_cons_succ, List.getElem_cons_zero, List.setIfInBounds_toArray, List.set_cons_succ, List.set_cons_zero]
  refine wpAnyC_take 6 (.pointer (some ⟨bc, 2, none⟩)) rfl (by kernel_rfl) (by kernel_rfl) (by kernel_rfl) (fun _ _ _ h => h) (wanted_free rfl _) (fun W hW => by obtain ⟨q1, q2, q3⟩ := hW; go_simp) ?_
  try simp only [Act.put, List.getElem_toArray, List.getElem_cons_succ, List.getElem_cons_zero, List.setIfInBounds_toArray, List.set_cons_succ, List.set_cons_zero]
  refine wpAnyC_take 7 (.int .u64 l) rfl (by kernel_rfl) (by kernel_rfl) (by kernel_rfl) (fun _ _ _ h => h) (wanted_free rfl _) (fun W hW => by obtain ⟨q1, q2, q3⟩ := hW; go_simp) ?_
  try simp only [Act.put, List.getElem_toArray, List.getElem_cons_succ, List.getElem_cons_zero, List.setIfInBounds_toArray, List.set_cons_succ, List.set_cons_zero]
  refine wpAnyC_take 8 (.int .i64 m) rfl (by kernel_rfl) (by kernel_rfl) (by kernel_rfl) (fun _ _ _ h => h) (wanted_free rfl _) (fun W hW => by obtain ⟨q1, q2, q3⟩ := hW; go_simp) ?_
  try simp only [Act.put, List.getElem_toArray, List.getElem_cons_succ, List.getElem_cons_zero, List.setIfInBounds_toArray, List.set_cons_succ, List.set_cons_zero]
  refine wpAnyC_one 9 (⟨Oc.out.bx.drew, hrg, x2⟩) rfl (by kernel_rfl) (wanted_free rfl _) (fun KA hKA => ?_)
  go_simp
  refine (HRp.out _ F.out.dv.bx.drew).mono ?_
  rintro e w6 ⟨gr, rfl, hrow, hgl6, h6⟩
  have h_ := below_undrew h6
  have hgl_ : w4.heap.size ≤ gr := hgl6
  have q_r_r2 : br < gr := Nat.lt_of_lt_of_le Or.out.bx.lt hgl_
  have Rr := Kpt.mk (F.out.row hgl_ hrow)
  replace Oc := Kpt.mk (Oc.out.below h_)
  replace Or := Kpt.mk (Or.out.below h_)
  replace Ov := Kpt.mk (Ov.out.below h_)
  replace Rg := Kpt.mk (Rg.out.below h_)
  replace F := Kpt.mk (F.out.below h_)
  replace x2 := hcm2.out _ _ Oc.out.bx
  replace x3 := hcm3.out _ _ Oc.out.bx
  replace x7 := hcm7.out _ _ Oc.out.bx
  replace hb := Kpt.mk (hb.out.trans (h_.mono hb.out.size))
  replace hrg := rangeAt_keep hrg (h_.block gg hgg4)
  refine hKA _ _ ?_
  clear hKA KA
  try simp only [Act.put, List.getElem_toArray, List.getElem_cons_succ, List.getElem_cons_zero, List.setIfInBounds_toArray, List.set_cons_succ, List.set_cons_zero]
  refine wpAnyC_one 10 (⟨Oc.out.bx, hrg, x2⟩) rfl (by kernel_rfl) (wanted_free rfl _) (fun KA hKA => ?_)
  go_simp
  refine (HW.out _ _ F.out.dv Rr.out.row Rr.out.bare).mono ?_
  rintro e w7 ⟨rfl, tag7, hW_, s_⟩
  have hgb : tag gg = none := Rg.out.bare
  replace Oc := Kpt.mk (Oc.out.call s_)
  replace Or := Kpt.mk (Or.out.call s_)
  replace F := Kpt.mk (F.out.call hW_ s_)
  replace hrg := rangeAt_keep hrg (s_.block gg (Nat.lt_of_lt_of_le hgg4 h6.size) (fun t _ e => by rw [hgb] at e; cases e))
  replace x2 := hcm2.out _ _ Oc.out.bx
  refine hKA _ _ ?_
  clear hKA KA
  try simp only [Act.put, List.getElem_toArray, List.getElem_cons_succ, List.getElem_cons_zero, List.setIfInBounds_toArray, List.set_cons_succ, List.set_cons_zero]
  refine wpAnyC_one 11 ⟨Oc.out.bx, hrg, x2⟩ rfl (by kernel_rfl) (wanted_free rfl _) (fun KA hKA => ?_)
  refine wp_store_bx 32 _ _ rfl br zeroS (s).vals rfl rfl Or.out.bx rfl infoS (Sn.vals_one _) ?_
  intro w9 hX_ hg_
  refine hKA _ _ ?_
  clear hKA KA
  try simp only [Act.put, List.getElem_toArray, List.getElem_cons_succ, List.getElem_cons_zero, List.setIfInBounds_toArray, List.set_cons_succ, List.set_cons_zero]
  have hcr : bc < br := q_c_r
  have hrgr : br < gg := q_r_g
  replace Oc := Kpt.mk (Oc.out.other hg_ (by omega))
  replace F := Kpt.mk (F.out.own Or.out hg_ hSl hDl)
  replace Or := Kpt.mk (Or.out.set hX_)
  replace hrg := rangeAt_keep hrg (hg_.block gg (Nat.lt_of_lt_of_le (Nat.lt_of_lt_of_le hgg4 h6.size) s_.size) (by simp; omega))
  refine wpAnyC_done (⟨Oc.out.bx, hrg, hcm2.out _ _ Oc.out.bx⟩) (by kernel_rfl) ?_
  clear hg_ hX_ hrg x2 s_ hW_ h6 h_
  go_wp2
  refine bodyPost_ret (v := .agg (s).vals) (by simp [results, Try.results46, asAddr, Act.put, res_run Or.out.bx]) rfl ⟨rfl, _, F.out.dv.wd, F.out.st⟩

end Go.Proofs.Ytklboieemljmiaa

namespace Go.Proofs.Ytklboieemljmiaa
open Go.RowKit Go.Maps
set_option linter.unusedVariables false
set_option linter.unusedSimpArgs false

/-- A slice of ints that can be read. -/
def IntsAt (w : World) (v : Value) (xs : List Int) : Prop :=
  ∃ a c, v = .slice a xs.length c ∧ (xs.length = 0 ∨ ∃ b off, a = some ⟨b, off, none⟩ ∧ ∀ j x, xs[j]? = some x → w.cell? ⟨b, off + j, none⟩ = some (.int .i64 x))

theorem IntsAt.of_block {w w' : World} {v : Value} {xs : List Int} (h : IntsAt w v xs) (hb : ∀ g, v.ownBlock = some g → w'.heap[g]? = w.heap[g]?) : IntsAt w' v xs := by
  obtain ⟨a, c, rfl, h⟩ := h
  refine ⟨a, c, rfl, ?_⟩
  rcases h with h | ⟨b, off, rfl, hc⟩
  · exact .inl h
  · exact .inr ⟨b, off, rfl, fun j x hx => (World.cell?_of_block (a := ⟨b, off + j, none⟩) (hb b rfl)).trans (hc j x hx)⟩

theorem IntsAt.lt {w : World} {v : Value} {xs : List Int} (h : IntsAt w v xs) (h0 : 0 < xs.length) {g : Nat} (hg : v.ownBlock = some g) : g < w.heap.size := by
  obtain ⟨a, c, rfl, h⟩ := h
  rcases h with h | ⟨b, off, rfl, hc⟩
  · omega
  · simp [Value.ownBlock] at hg
    subst hg
    exact World.block_lt_of_cell? w ⟨b, off + 0, none⟩ (hc 0 (xs[0]'h0) (by rw [List.getElem?_eq_getElem]))

section
variable {w w' : World} {B : Nat} {tag : Tags} {st : St} {M1 M2 n2 b : Nat} {wv : Value} {fv : Option Nat} {f1 f2 : ByteArray → Option Value} {l : List (Chg × Value)}

/-- A new set of numbers. -/
theorem Inv.newFails (h : Inv w B tag st M1 M2 wv fv f1 f2 l n2) (b : Nat) (hb : b = w.heap.size) :
    Inv ((w.alloc (.map #[] 0)).setCell ⟨B, 3, none⟩ (.map (some b))) B (fun i => if i = b then some .fl else tag i) { st with fails := fun _ => false } M1 M2 wv (some b) f1 f2 l n2 ∧
    Step w ((w.alloc (.map #[] 0)).setCell ⟨B, 3, none⟩ (.map (some b))) tag (fun i => if i = b then some .fl else tag i) (fun t => t = .fl ∨ t = .wd) ∧
    ((w.alloc (.map #[] 0)).setCell ⟨B, 3, none⟩ (.map (some b))).ownsMap (H := Unit) Try.prog 3 unitElem b 0 (.map []) := by
  have g1 := World.grownBy_alloc w (.map #[] 0) none
  have hBlt := (Array.getElem?_eq_some_iff.1 h.cell).1
  have hBb : B ≠ b := by omega
  have hM1 := h.map1.lt
  have hM2 := h.map2.lt
  have s1 : Step w (w.alloc (.map #[] 0)) tag (fun i => if i = b then some .fl else tag i) (fun t => t = .fl ∨ t = .wd) := (Step.grown g1 tag _).tagged b (by omega) (by simp; omega) (.inl rfl) h.lt
  have hB1 : (w.alloc (.map #[] 0)).heap[B]? = some (.cells (wdCells M1 M2 wv fv st.ops) 69 (0, 0)) := (g1.block B hBlt (by simp)).trans h.cell
  have s2 : Step (w.alloc (.map #[] 0)) ((w.alloc (.map #[] 0)).setCell ⟨B, 3, none⟩ (.map (some b))) (fun i => if i = b then some .fl else tag i) (fun i => if i = b then some .fl else tag i) (fun t => t = .fl ∨ t = .wd) := Step.turned (grown_setCell _ B 3 _) _ (t := .wd) (by simp [hBb, h.tB]) (.inr rfl)
  have s := s1.trans s2
  have hown : ((w.alloc (.map #[] 0)).setCell ⟨B, 3, none⟩ (.map (some b))).ownsMap (H := Unit) Try.prog 3 unitElem b 0 (.map []) := by
    have h0 : (w.alloc (.map #[] 0)).ownsMap (H := Unit) Try.prog 3 unitElem b 0 (.map []) := by rw [hb]; exact World.ownsMap_made w Try.prog 3 unitElem
    exact h0.setCell (fun e => hBb e.symm) _
  refine ⟨?_, s, hown⟩
  have hM1b : M1 ≠ b := by omega
  have hM2b : M2 ≠ b := by omega
  exact {
    cell := by rw [setCell_own _ B 3 _ _ _ hB1]; simp [wdCells]
    tB := by simp [hBb, h.tB]
    t1 := by simp [hM1b, h.t1]
    t2 := by simp [hM2b, h.t2]
    map1 := h.map1.of_block (s.keep hM1 h.t1 (by simp)).1
    map2 := h.map2.of_block (s.keep hM2 h.t2 (by simp)).1
    seen := h.seen.step s (by simp)
    dur := h.dur.step s (by simp)
    waits := h.waits.step s (by simp) (by simp)
    l_eq := h.l_eq
    fails := ⟨by simp, 0, .map [], hown, fun x _ => by simp [has]⟩
    lt := s.lt h.lt
    opsLo := h.opsLo
    opsHi := h.opsHi
    cnt2 := h.cnt2 }

/-- The set of numbers has turned. -/
theorem Inv.turnFails (h : Inv w B tag st M1 M2 wv (some b) f1 f2 l n2) (hturn : w.mapTurned w' b) (p : Int → Bool) (hp : FailsIs w' tag (some b) p) :
    Inv w' B tag { st with fails := p } M1 M2 wv (some b) f1 f2 l n2 ∧ Step w w' tag tag (fun t => t = .fl ∨ t = .wd) := by
  have s : Step w w' tag tag (fun t => t = .fl) := Step.turned hturn.grown tag h.fails.1 rfl
  refine ⟨?_, s.weaken (fun t h => .inl h)⟩
  have hBlt := (Array.getElem?_eq_some_iff.1 h.cell).1
  exact {
    cell := (s.keep hBlt h.tB (by simp)).1.trans h.cell
    tB := h.tB
    t1 := h.t1
    t2 := h.t2
    map1 := h.map1.of_block (s.keep h.map1.lt h.t1 (by simp)).1
    map2 := h.map2.of_block (s.keep h.map2.lt h.t2 (by simp)).1
    seen := h.seen.step s (by simp)
    dur := h.dur.step s (by simp)
    waits := h.waits.step s (by simp) (by simp)
    l_eq := h.l_eq
    fails := hp
    lt := s.lt h.lt
    opsLo := h.opsLo
    opsHi := h.opsHi
    cnt2 := h.cnt2 }

/-- Calls are counted anew. -/
theorem Inv.anew (h : Inv w B tag st M1 M2 wv fv f1 f2 l n2) :
    Inv ((w.setCell ⟨B, 4, none⟩ (.int .i64 (-1))).setCell ⟨B, 5, none⟩ (.int .i64 0)) B tag { st with ops := 0 } M1 M2 wv fv f1 f2 l n2 ∧ Step w ((w.setCell ⟨B, 4, none⟩ (.int .i64 (-1))).setCell ⟨B, 5, none⟩ (.int .i64 0)) tag tag (fun t => t = .fl ∨ t = .wd) := by
  have g : w.grownBy ((w.setCell ⟨B, 4, none⟩ (.int .i64 (-1))).setCell ⟨B, 5, none⟩ (.int .i64 0)) (some B) := (grown_setCell w B 4 _).andThen (grown_setCell _ B 5 _) (fun j h => .inr h)
  have s : Step w ((w.setCell ⟨B, 4, none⟩ (.int .i64 (-1))).setCell ⟨B, 5, none⟩ (.int .i64 0)) tag tag (fun t => t = .wd) := Step.turned g tag h.tB rfl
  refine ⟨?_, s.weaken (fun t h => .inr h)⟩
  exact {
    cell := by rw [setCell_own _ B 5 _ _ _ (setCell_own w B 4 _ _ _ h.cell)]; simp [wdCells]
    tB := h.tB
    t1 := h.t1
    t2 := h.t2
    map1 := h.map1.of_block (s.keep h.map1.lt h.t1 (by simp)).1
    map2 := h.map2.of_block (s.keep h.map2.lt h.t2 (by simp)).1
    seen := h.seen.step s (by simp)
    dur := h.dur.step s (by simp)
    waits := h.waits.step s (by simp) (by simp)
    l_eq := h.l_eq
    fails := h.fails.step s (by simp)
    lt := s.lt h.lt
    opsLo := Int.le_refl _
    opsHi := by show (0 : Int) ≤ (st.cnt : Int); omega
    cnt2 := h.cnt2 }
end

def stP (st : St) (xs : List Int) : St := { st with fails := fun x => decide (x ∈ xs), ops := 0 }

/-- One number more. -/
theorem plan_step {wr : World} {b j : Nat} {D : DataW Unit} {xs : List Int} {x : Int} (hown : wr.ownsMap Try.prog 3 unitElem b j D) (hp : ∀ y : Int, (Lit.int .i64 y).wf = true → has D (.int .i64 y) = decide (y ∈ xs.take j)) (hj : j < 1099511627776)
    (hx : xs[j]? = some x) (hwx : (Lit.int .i64 x).wf = true) :
    ∃ (w' : World) (D' : DataW Unit), (Instr.mapUpdate 64 (.map (some b)) (.int .i64 x) (.agg #[])).run Try.prog wr = .ok () w' ∧ w'.ownsMap Try.prog 3 unitElem b (j + 1) D' ∧ (∀ y : Int, (Lit.int .i64 y).wf = true → has D' (.int .i64 y) = decide (y ∈ xs.take (j + 1))) ∧ wr.mapTurned w' b := by
  obtain ⟨w', hrun, hown', ht⟩ := hown.store Try.law3 Try.underlying64 (by unfold maxLen; omega) (keyOf_int_mk Try.underlying3 hwx) (unitElem_mk (H := Unit))
  refine ⟨w', _, hrun, hown', fun y hy => ?_, ht⟩
  have e : xs.take (j + 1) = xs.take j ++ [x] := by rw [List.take_add_one, hx]; rfl
  rw [e]
  by_cases hyx : y = x
  · subst hyx
    rw [has_put_same hown.isMap (by simp [WideAt.IsKeyLit])]
    simp
  · rw [has_put_other (by simpa using hyx), hp y hy]
    simp [hyx]

set_option maxRecDepth 100000 in
set_option maxHeartbeats 2000000 in
theorem plan_any (w : World) (B : Nat) (tag : Tags) (st : St) (h : Wd w B tag st) (a : Option Addr) (c : Nat) (xs : List Int) (hx : IntsAt w (.slice a xs.length c) xs) (hxl : xs.length < 1099511627776) (hwf : ∀ x ∈ xs, (Lit.int .i64 x).wf = true)
    (hbare : xs ≠ [] → ∀ g, (Value.slice a xs.length c).ownBlock = some g → tag g = none) :
    Calls Try.prog 15 #[.pointer (some ⟨B, 0, none⟩), .slice a xs.length c, .int .i64 (-1)] w fun e w' => e = .returned (.tuple #[]) ∧ ∃ tag', Wd w' B tag' (stP st xs) ∧ Step w w' tag tag' (fun _ => True) := by
  obtain ⟨M1, M2, wv, fv, f1, f2, l, n2, h⟩ := h
  obtain ⟨b, hb⟩ : ∃ b, b = w.heap.size := ⟨_, rfl⟩
  obtain ⟨w0, hw0⟩ : ∃ w0, w0 = (w.alloc (.map #[] 0)).setCell ⟨B, 3, none⟩ (.map (some b)) := ⟨_, rfl⟩
  obtain ⟨hI0, hs0, hown0⟩ := h.newFails b hb
  rw [← hw0] at hI0 hs0 hown0
  obtain ⟨tag0, htag0⟩ : ∃ tag0 : Tags, tag0 = fun i => if i = b then some .fl else tag i := ⟨_, rfl⟩
  rw [← htag0] at hI0 hs0
  have c3 : (w.alloc (.map #[] 0)).cell? ⟨B, 3, none⟩ = some (.map fv) := (World.grownBy_alloc w (.map #[] 0) none).cell (a := ⟨B, 3, none⟩) h.at.2.2.2.1 (by simp)
  have z3 : (w.alloc (.map #[] 0)).frozen? ⟨B, 3, none⟩ = false := by
    have hB1 := ((World.grownBy_alloc w (.map #[] 0) none).block B (Array.getElem?_eq_some_iff.1 h.cell).1 (by simp)).trans h.cell
    simp [World.frozen?, hB1]
  have hmm := @run_makeMap Try.prog
  -- the list of numbers is read as it was
  have keep : ∀ wr, Step w0 wr tag0 tag0 (fun t => t = .fl ∨ t = .wd) → IntsAt wr (.slice a xs.length c) xs := by
    intro wr hs
    by_cases h0 : xs.length = 0
    · obtain ⟨a', c', e, _⟩ := hx
      exact ⟨a', c', e, .inl h0⟩
    · have hne : xs ≠ [] := fun e => h0 (by rw [e]; rfl)
      refine hx.of_block (fun g hg => ?_)
      have hgl := hx.lt (by omega) hg
      have hgn := hbare hne g hg
      rw [hs.block g (Nat.lt_of_lt_of_le hgl hs0.size) (by intro t _; rw [hs0.bare g hgl hgn]; simp), hs0.block g hgl (by simp [hgn])]
  have hFl : tag0 b = some .fl := hI0.fails.1
  obtain ⟨n, hn⟩ : ∃ n, n = xs.length := ⟨_, rfl⟩
  rw [← hn] at keep ⊢
  have hnb : n < 1099511627776 := by omega
  replace keep := Kpt.mk keep
  replace hn := Kpt.mk hn
  replace hI0 := Kpt.mk hI0
  replace hs0 := Kpt.mk hs0
  replace hown0 := Kpt.mk hown0
  replace htag0 := Kpt.mk htag0
  clear h hx hbare
  go_enter Try.func15, Try.ntmps15
  go_wp2
  rw [← hb, ← hw0]
  replace hb := Kpt.mk hb
  replace hw0 := Kpt.mk hw0
  clear hmm c3 z3
  go_loopw [16] (fun t wr => ∃ j : Nat, j ≤ n ∧ t = .int .i64 j ∧ ∃ D : DataW Unit, wr.ownsMap Try.prog 3 unitElem b j D ∧ (∀ y : Int, (Lit.int .i64 y).wf = true → has D (.int .i64 y) = decide (y ∈ xs.take j)) ∧
    Inv wr B tag0 { st with fails := fun x => decide (x ∈ xs.take j) } M1 M2 wv (some b) f1 f2 l n2 ∧ Step w0 wr tag0 tag0 (fun t => t = .fl ∨ t = .wd)) (fun t _ => n - (intOf t).toNat)
  case atStart =>
    refine ⟨0, by omega, rfl, .map [], hown0.out, fun y _ => by simp [has], ?_, Step.refl _ _ _⟩
    have := hI0.out
    simpa using this
  case round =>
    obtain ⟨j, hj, rfl, D, hown, hp, hI, hS⟩ := hrel
    by_cases hlt : j < n
    · have hlt' : (j : Int) < (n : Int) := by omega
      obtain ⟨x, hxj⟩ : ∃ x, xs[j]? = some x := ⟨_, List.getElem?_eq_getElem (by have := hn.out; omega)⟩
      have hwx := hwf x (List.mem_of_getElem? hxj)
      obtain ⟨g, off, rfl, hcx⟩ : ∃ g off, a = some ⟨g, off, none⟩ ∧ wr.cell? ⟨g, off + j, none⟩ = some (.int .i64 x) := by
        obtain ⟨a', c', e, h'⟩ := keep.out wr hS
        have hn' := hn.out
        simp only [Value.slice.injEq] at e
        obtain ⟨rfl, _, rfl⟩ := e
        rcases h' with h' | ⟨g, off, rfl, hc⟩
        · omega
        · exact ⟨g, off, rfl, hc j x hxj⟩
      obtain ⟨w', D', hst, hown', hp', hturn⟩ := plan_step hown hp (by have := hn.out; omega) hxj hwx
      have hI' := hI.turnFails hturn (fun x => decide (x ∈ xs.take (j + 1))) ⟨hFl, j + 1, D', hown', hp'⟩
      have cB := hI.at.2.2.2.1
      have hrel' : ∃ D : DataW Unit, w'.ownsMap Try.prog 3 unitElem b (j + 1) D ∧ (∀ y : Int, (Lit.int .i64 y).wf = true → has D (.int .i64 y) = decide (y ∈ xs.take (j + 1))) ∧
        Inv w' B tag0 { st with fails := fun x => decide (x ∈ xs.take (j + 1)) } M1 M2 wv (some b) f1 f2 l n2 ∧ Step w0 w' tag0 tag0 (fun t => t = .fl ∨ t = .wd) := ⟨D', hown', hp', hI'.1, hS.trans hI'.2⟩
      replace hrel' := Kpt.mk hrel'
      clear hown hp hI hS hown' hp' hI' hturn hwx hxj
      go_wp2
      go_roundw
      case rel => exact ⟨j + 1, by omega, by go_num, hrel'.out⟩
      case measure => simp [intOf]; omega
    · obtain rfl : j = n := by omega
      have c4 := hI.at.2.2.2.2.1
      have c5 := hI.at.2.2.2.2.2.1
      have z4 := hI.frozen 4
      have z5 := hI.frozen 5
      have fin : ∃ tag', Wd ((wr.setCell ⟨B, 4, none⟩ (.int .i64 (-1))).setCell ⟨B, 5, none⟩ (.int .i64 0)) B tag' (stP st xs) ∧ Step w ((wr.setCell ⟨B, 4, none⟩ (.int .i64 (-1))).setCell ⟨B, 5, none⟩ (.int .i64 0)) tag tag' (fun _ => True) := by
        obtain ⟨hA, hsA⟩ := hI.anew
        refine ⟨tag0, ⟨M1, M2, wv, some b, f1, f2, l, n2, ?_⟩, ((hs0.out.trans hS).trans hsA).weaken (fun _ _ => trivial)⟩
        rw [List.take_of_length_le (by rw [hn.out]; exact Nat.le_refl _)] at hA
        exact hA
      replace fin := Kpt.mk fin
      clear hown hp hI hS
      go_wp2
      first | (refine bodyPost_end (results_none rfl _ _ _) rfl ?_) | (refine bodyPost_ret (results_none rfl _ _ _) rfl ?_)
      exact ⟨rfl, fin.out⟩
end Go.Proofs.Ytklboieemljmiaa

namespace Go.Proofs.Ytklboieemljmiaa
open Go.RowKit
set_option linter.unusedVariables false
set_option linter.unusedSimpArgs false
theorem tupL_bytes (b : Bk) (h : b.ok) : ∀ x ∈ tupL b.g b.a b.r, 0 ≤ x ∧ x ≤ 255 := by
  have := h.g; have := h.a; have := h.r
  intro x hx
  simp only [tupL, List.mem_cons, List.not_mem_nil, or_false] at hx
  rcases hx with rfl | rfl | rfl | rfl | rfl | rfl | rfl | rfl <;> omega
theorem pkL_bytes (c : Bool) (b : Bk) (h : b.ok) : ∀ x ∈ pkL c b, 0 ≤ x ∧ x ≤ 255 := by
  intro x hx
  cases c with
  | true =>
    simp only [pkL, if_true, List.mem_append] at hx
    rcases hx with hx | hx
    · exact h.byte x hx
    · exact tupL_bytes b h x hx
  | false =>
    simp only [pkL, Bool.false_eq_true, if_false, List.append_nil] at hx
    exact h.byte x hx
theorem packL_bytes (c : Bool) (bs : List Bk) (h : ∀ b ∈ bs, b.ok) : Bytes (packL c bs) := by
  refine bytes_of _ (fun x hx => ?_)
  simp only [packL, List.mem_flatten, List.mem_map] at hx
  obtain ⟨l, ⟨b, hb, rfl⟩, hx⟩ := hx
  exact pkL_bytes c b (h b hb) x hx
theorem packL_drop (c : Bool) : ∀ (bs : List Bk) (k : Nat) (b : Bk), (∀ x ∈ bs, x.ok) → bs[k]? = some b → (packL c bs).drop (k * sz c) = pkL c b ++ packL c (bs.drop (k + 1))
  | [], k, b, _, h => by simp at h
  | x :: bs, 0, b, ho, h => by
    simp only [List.getElem?_cons_zero, Option.some.injEq] at h
    subst h
    simp [packL]
  | x :: bs, k + 1, b, ho, h => by
    have hl := pkL_len c x (ho x (by simp))
    rw [show packL c (x :: bs) = pkL c x ++ packL c bs from by simp [packL], show (k + 1) * sz c = (pkL c x).length + k * sz c from by rw [hl, Nat.add_mul]; omega, List.drop_append, List.drop_of_length_le (by omega), List.nil_append, show (pkL c x).length + k * sz c - (pkL c x).length = k * sz c by omega]
    exact packL_drop c bs k b (fun y hy => ho y (by simp [hy])) (by simpa using h)
theorem getD_drop (zs : List Int) (n i : Nat) : zs.getD (n + i) 0 = (zs.drop n).getD i 0 := by
  simp [List.getD_eq_getElem?_getD, List.getElem?_drop]
theorem pack_getD (bs : List Bk) (ho : ∀ x ∈ bs, x.ok) (k y : Nat) (b : Bk) (hb : bs[k]? = some b) (hy : y < 16) : (packL false bs).getD (k * 16 + y) 0 = b.d.getD y 0 := by
  have h := packL_drop false bs k b ho hb
  have hl := (ho b (List.mem_of_getElem? hb)).len
  rw [getD_drop, show k * 16 = k * sz false from rfl, h]
  simp only [List.getD_eq_getElem?_getD]
  rw [List.getElem?_append_left (by simp [pkL, hl]; exact hy)]
  simp [pkL]
def P5 : List Int := List.replicate 256 85
theorem P5_bytes : Bytes P5 := fun j => by
  unfold P5
  rw [List.getD_eq_getElem?_getD, List.getElem?_replicate]
  split <;> simp
def b5 : List Bk := prL 0 0 (unBs false P5 16)
theorem b5_ok : ∀ b ∈ b5, b.ok := prL_ok 0 0 _ (unBs_ok false P5 16 P5_bytes (by unfold P5; rw [List.length_replicate]; rfl))
theorem b5_len : b5.length = 16 := by unfold b5; rw [prL_len, unBs_len]
def s5 : St := wrF st0 nmF 0 b5 true false
theorem fine5 : Fine 65 s5 nmF := by
  have := (fine0 nmF).write 0 b5 b5_ok true false
  rw [b5_len] at this
  exact this
theorem s5_at (i : Nat) (hi : i < 16) : (blkAt (s5.seen nmF) i).d = List.replicate 16 85 := by
  have := wrF_view (st := st0) (f := nmF) good_none 0 b5 b5_ok true false i
  unfold s5
  rw [this, if_pos (by rw [b5_len]; omega)]
  have e : b5[i - 0]? = some (prB 0 (0 + i) (unB false P5 i)) := by unfold b5; rw [Nat.sub_zero, prL_at, unBs_at _ _ _ _ hi]; rfl
  rw [List.getD_eq_getElem?_getD, e]
  show (P5.drop (i * 16)).take 16 = _
  unfold P5
  rw [List.drop_replicate, List.take_replicate]
  congr 1
  omega
/-- The bytes that are read behind it. -/
theorem pfx_data (st : St) (at_ done n : Nat) (us : List Bk) (Q : List Int) (LQ : Nat) (hus : ∀ b ∈ us, b.ok) (hul : us.length = n) (hdn : done ≤ n) (hin : at_ + n ≤ 16) (hst : st.seen = s5.seen)
    (hQ : ∀ j u y, us[j]? = some u → y < 16 → u.d.getD y 0 = Q.getD ((16 * j + y) % LQ) 0) :
    Good ((wrSt st nmF at_ (prL 0 at_ us) done).seen nmF) ∧ ∀ x, x < 256 → (packL false (rdL ((wrSt st nmF at_ (prL 0 at_ us) done).seen nmF) 0 16)).getD x 0 = if 16 * at_ ≤ x ∧ x < 16 * at_ + 16 * done then Q.getD ((x - 16 * at_) % LQ) 0 else 85 := by
  have hG : Good (st.seen nmF) := by rw [hst]; exact fine5.good
  have hv := wr_view st nmF at_ (prL 0 at_ us) hG (prL_ok 0 at_ us hus) done (by rw [prL_len, hul]; exact hdn)
  refine ⟨hv.1, fun x hx => ?_⟩
  have hb : (rdL ((wrSt st nmF at_ (prL 0 at_ us) done).seen nmF) 0 16)[x / 16]? = some (blkAt ((wrSt st nmF at_ (prL 0 at_ us) done).seen nmF) (0 + x / 16)) := rdL_at _ _ _ _ (by omega)
  have hp := pack_getD _ (rdL_ok hv.1 0 16) (x / 16) (x % 16) _ hb (by omega)
  rw [show x / 16 * 16 + x % 16 = x by omega] at hp
  rw [hp, hv.2, Nat.zero_add]
  by_cases hc : at_ ≤ x / 16 ∧ x / 16 < at_ + done
  · rw [if_pos hc, if_pos (by omega)]
    obtain ⟨u, hu⟩ : ∃ u, us[x / 16 - at_]? = some u := ⟨_, List.getElem?_eq_getElem (by omega)⟩
    have hg : (prL 0 at_ us).getD (x / 16 - at_) emptyB = prB 0 (at_ + (x / 16 - at_)) u := by rw [List.getD_eq_getElem?_getD, prL_at, hu]; rfl
    rw [hg]
    show u.d.getD (x % 16) 0 = _
    rw [hQ _ u _ hu (by omega), show 16 * (x / 16 - at_) + x % 16 = x - 16 * at_ by omega]
  · rw [if_neg hc, if_neg (by omega), hst, s5_at _ (by omega), List.getD_eq_getElem?_getD, List.getElem?_replicate, if_pos (by omega)]
    rfl
theorem q_write (Z : List Int) (n : Nat) (hZ : Z.length = n * 16) : ∀ j u y, (unBs false Z n)[j]? = some u → y < 16 → u.d.getD y 0 = Z.getD ((16 * j + y) % (n * 16)) 0 := fun j u y hj hy => by
  have hjn : j < n := by have := (List.getElem?_eq_some_iff.1 hj).1; rw [unBs_len] at this; exact this
  rw [unBs_at _ _ _ _ hjn] at hj
  simp only [Option.some.injEq] at hj
  subst hj
  show ((Z.drop (j * 16)).take 16).getD y 0 = _
  rw [cut_getD _ _ _ hy, Nat.mod_eq_of_lt (by omega), Nat.mul_comm]
theorem q_same (Z : List Int) (n : Nat) (hZ : Z.length = 16) : ∀ j u y, (List.replicate n (unB false Z 0))[j]? = some u → y < 16 → u.d.getD y 0 = Z.getD ((16 * j + y) % 16) 0 := fun j u y hj hy => by
  rw [List.getElem?_replicate] at hj
  split at hj
  · simp only [Option.some.injEq] at hj
    subst hj
    show ((Z.drop (0 * 16)).take 16).getD y 0 = _
    rw [cut_getD _ _ _ hy, show (16 * j + y) % 16 = y by omega, Nat.zero_mul, Nat.zero_add]
  · cases hj
theorem wrSt_misc (st : St) (f : ByteArray) (l : Nat) (bs : List Bk) (k : Nat) (hk : k ≤ bs.length) (h : Wrs st.waits) : (wrSt st f l bs k).cnt = st.cnt + 2 * k ∧ (wrSt st f l bs k).waits.length = st.waits.length + k ∧ Wrs (wrSt st f l bs k).waits :=
  ⟨(wr_ops st f l bs k hk).2.1, (wr_ops st f l bs k hk).2.2.2, wr_wrs st f l bs h k⟩
/-- Plan with one call that is to fail. -/
theorem plan_one (W : World) (B : Nat) (tag : Tags) (st : St) (f : Nat) (t : TypeId) (hf : f < 12) (h : Wd W B tag st) : Calls Try.prog 15 #[.pointer (some ⟨B, 0, none⟩), .slice (some ⟨W.heap.size, 0, none⟩) 1 1, .int .i64 (-1)] (W.alloc (.cells #[.int .i64 (f : Int)] t)) fun e w' => e = .returned (.tuple #[]) ∧ ∃ tag', Wd w' B tag' (stP st [(f : Int)]) ∧ Step W w' tag tag' (fun _ => True) := by
  have hb : Below W.heap.size W (W.alloc (.cells #[.int .i64 (f : Int)] t)) := (Below.refl _ _).alloc (Nat.le_refl _) _
  have hW := h.step (step_below hb tag (fun _ => False))
  have := plan_any (W.alloc (.cells #[.int .i64 (f : Int)] t)) B tag st hW (some ⟨W.heap.size, 0, none⟩) 1 [(f : Int)] ⟨_, 1, rfl, .inr ⟨W.heap.size, 0, rfl, fun j x hj => by
    have h0 : j = 0 := by have := (List.getElem?_eq_some_iff.1 hj).1; simp at this; omega
    subst h0
    simp at hj
    subst hj
    simp⟩⟩ (by simp) (fun x hx => by simp at hx; subst hx; simp [Lit.wf, IntKind.min, IntKind.max, IntKind.bits, IntKind.signed]; omega) (fun _ g hg => by simp [Value.ownBlock] at hg; rw [← hg]; exact wd_none h (Nat.le_refl _))
  refine this.mono ?_
  rintro e w' ⟨h1, tag', h2, h3⟩
  exact ⟨h1, tag', h2, (step_below hb tag _).trans h3⟩
theorem plan_nil (W : World) (B : Nat) (tag : Tags) (st : St) (h : Wd W B tag st) : Calls Try.prog 15 #[.pointer (some ⟨B, 0, none⟩), .slice none 0 0, .int .i64 (-1)] W fun e w' => e = .returned (.tuple #[]) ∧ ∃ tag', Wd w' B tag' (stP st []) ∧ Step W w' tag tag' (fun _ => True) :=
  plan_any W B tag st h none 0 [] ⟨none, 0, rfl, .inl rfl⟩ (by decide) (fun x hx => by cases hx) (fun h => absurd rfl h)
theorem doWr_part (w : World) (B : Nat) (tag : Tags) (st : St) (f : ByteArray) (S D N : Nat) (k : Int) (l m cp : Nat) (a : Option Addr) (zs : List Int) (c : Cm) (h : Dv w B tag st f S D N k true) (hf1 : 1 ≤ f.size) (hf2 : f.size ≤ 32) (hN : N ≤ 4096) (hc : st.cnt < 500000000000) (hcw : st.waits.length < 1000000) (hw : Wrs st.waits) (h0 : 0 ≤ k) (h1 : k ≤ 3) (hkd : c.kd = 8) (hl : c.lba = (l : Nat)) (hbl : c.bl = (m : Nat)) (hm1 : 1 ≤ m) (hin : l + m ≤ N) (hr : RdAt w (.slice a (m * 16) cp) zs) (hlz : zs.length = (m * 16)) (hby : Bytes zs) (hpr : c.pr = 0) (hum : c.um = false) (hfua : c.fua = false) (hf : ∀ i : Nat, i < m → st.fails (st.ops + i) = false) :
    Calls Try.prog 11 #[.pointer (some ⟨D, 0, none⟩), .agg c.vals, .slice a (m * 16) cp] w fun e w' => e = .returned (.agg (resV 0 noS (.slice none 0 0))) ∧ Aft w w' B tag (wrSt st f l (prL k l (unBs false zs m)) m) :=
  do_0 w B tag st f S D N k true c _ _ h (fun W hb => answer_act W B tag st f S D N k true c _ noS _ (h.below hb) (by omega) (by omega)
    (fun W2 hb2 => refuse_in W2 B tag st f S D N k true l m c ((h.below hb).below hb2) hN h0 (by omega) (by rw [hpr]; unfold knownB; exact decide_eq_true (by omega)) (by omega) (by omega) hl hbl hin)
    (fun W2 hb2 => act_8 W2 B tag st f S D N k true c _ noS _ ((h.below hb).below hb2) hkd (fun W3 hb3 => by
      rw [hfua]
      exact take_part W3 B tag st f S D N k l m (m * 16) cp a zs c (((h.below hb).below hb2).below hb3) hf1 hf2 hN hc hcw hw h0 (by omega) hl hbl hin (rd_below (rd_below (rd_below hr hb) hb2) hb3) hlz hby rfl hpr hf)))
theorem doWr_fail (w : World) (B : Nat) (tag : Tags) (st : St) (f : ByteArray) (S D N : Nat) (k : Int) (l m cp : Nat) (a : Option Addr) (zs : List Int) (c : Cm) (h : Dv w B tag st f S D N k true) (hf1 : 1 ≤ f.size) (hf2 : f.size ≤ 32) (hN : N ≤ 4096) (hc : st.cnt < 500000000000) (hcw : st.waits.length < 1000000) (hw : Wrs st.waits) (h0 : 0 ≤ k) (h1 : k ≤ 3) (hkd : c.kd = 8) (hl : c.lba = (l : Nat)) (hbl : c.bl = (m : Nat)) (hm1 : 1 ≤ m) (hin : l + m ≤ N) (hr : RdAt w (.slice a (m * 16) cp) zs) (hlz : zs.length = (m * 16)) (hby : Bytes zs) (hpr : c.pr = 0) (hum : c.um = false) (hfua : c.fua = false) (j0 : Nat) (hj0 : j0 < m) (hf : ∀ i : Nat, i < j0 → st.fails (st.ops + i) = false) (hfj : st.fails (st.ops + j0) = true) :
    Calls Try.prog 11 #[.pointer (some ⟨D, 0, none⟩), .agg c.vals, .slice a (m * 16) cp] w fun e w' => e = .returned (.agg (resV 2 (nuS 3 3072 ((l + j0 : Nat) : Int)) (.slice none 0 0))) ∧ Aft w w' B tag (flSt (wrSt st f l (prL k l (unBs false zs m)) j0)) :=
  do_s w B tag st f S D N k true c _ (nuS 3 3072 ((l + j0 : Nat) : Int)) (show (3 : Int) ≠ 0 by decide) _ h (fun W hb => answer_act W B tag st f S D N k true c _ (nuS 3 3072 ((l + j0 : Nat) : Int)) _ (h.below hb) (by omega) (by omega)
    (fun W2 hb2 => refuse_in W2 B tag st f S D N k true l m c ((h.below hb).below hb2) hN h0 (by omega) (by rw [hpr]; unfold knownB; exact decide_eq_true (by omega)) (by omega) (by omega) hl hbl hin)
    (fun W2 hb2 => act_8 W2 B tag st f S D N k true c _ (nuS 3 3072 ((l + j0 : Nat) : Int)) _ ((h.below hb).below hb2) hkd (fun W3 hb3 => by
      rw [hfua]
      exact take_fail W3 B tag st f S D N k l m (m * 16) cp a zs c (((h.below hb).below hb2).below hb3) hf1 hf2 hN hc hcw hw h0 (by omega) hl hbl hin (rd_below (rd_below (rd_below hr hb) hb2) hb3) hlz hby rfl hpr j0 hj0 hf hfj)))
theorem doSame_part (w : World) (B : Nat) (tag : Tags) (st : St) (f : ByteArray) (S D N : Nat) (k : Int) (l m cp : Nat) (a : Option Addr) (zs : List Int) (c : Cm) (h : Dv w B tag st f S D N k true) (hf1 : 1 ≤ f.size) (hf2 : f.size ≤ 32) (hN : N ≤ 4096) (hc : st.cnt < 500000000000) (hcw : st.waits.length < 1000000) (hw : Wrs st.waits) (h0 : 0 ≤ k) (h1 : k ≤ 3) (hkd : c.kd = 12) (hl : c.lba = (l : Nat)) (hbl : c.bl = (m : Nat)) (hm1 : 1 ≤ m) (hin : l + m ≤ N) (hr : RdAt w (.slice a 16 cp) zs) (hlz : zs.length = 16) (hby : Bytes zs) (hpr : c.pr = 0) (hum : c.um = false) (hf : ∀ i : Nat, i < m → st.fails (st.ops + i) = false) :
    Calls Try.prog 11 #[.pointer (some ⟨D, 0, none⟩), .agg c.vals, .slice a 16 cp] w fun e w' => e = .returned (.agg (resV 0 noS (.slice none 0 0))) ∧ Aft w w' B tag (wrSt st f l (prL k l (List.replicate m (unB false zs 0))) m) :=
  do_0 w B tag st f S D N k true c _ _ h (fun W hb => answer_act W B tag st f S D N k true c _ noS _ (h.below hb) (by omega) (by omega)
    (fun W2 hb2 => refuse_in W2 B tag st f S D N k true l m c ((h.below hb).below hb2) hN h0 (by omega) (by rw [hpr]; unfold knownB; exact decide_eq_true (by omega)) (by omega) (by omega) hl hbl hin)
    (fun W2 hb2 => act_12 W2 B tag st f S D N k true c _ noS _ ((h.below hb).below hb2) hkd (fun W3 hb3 => by
      skip
      exact wsame_part W3 B tag st f S D N k l m cp a zs c (((h.below hb).below hb2).below hb3) hf1 hf2 hN hc hcw hw h0 (by omega) hl hbl hm1 hin (rd_below (rd_below (rd_below hr hb) hb2) hb3) hlz hby hpr hum hf)))
theorem doSame_fail (w : World) (B : Nat) (tag : Tags) (st : St) (f : ByteArray) (S D N : Nat) (k : Int) (l m cp : Nat) (a : Option Addr) (zs : List Int) (c : Cm) (h : Dv w B tag st f S D N k true) (hf1 : 1 ≤ f.size) (hf2 : f.size ≤ 32) (hN : N ≤ 4096) (hc : st.cnt < 500000000000) (hcw : st.waits.length < 1000000) (hw : Wrs st.waits) (h0 : 0 ≤ k) (h1 : k ≤ 3) (hkd : c.kd = 12) (hl : c.lba = (l : Nat)) (hbl : c.bl = (m : Nat)) (hm1 : 1 ≤ m) (hin : l + m ≤ N) (hr : RdAt w (.slice a 16 cp) zs) (hlz : zs.length = 16) (hby : Bytes zs) (hpr : c.pr = 0) (hum : c.um = false) (j0 : Nat) (hj0 : j0 < m) (hf : ∀ i : Nat, i < j0 → st.fails (st.ops + i) = false) (hfj : st.fails (st.ops + j0) = true) :
    Calls Try.prog 11 #[.pointer (some ⟨D, 0, none⟩), .agg c.vals, .slice a 16 cp] w fun e w' => e = .returned (.agg (resV 2 (nuS 3 3072 ((l + j0 : Nat) : Int)) (.slice none 0 0))) ∧ Aft w w' B tag (flSt (wrSt st f l (prL k l (List.replicate m (unB false zs 0))) j0)) :=
  do_s w B tag st f S D N k true c _ (nuS 3 3072 ((l + j0 : Nat) : Int)) (show (3 : Int) ≠ 0 by decide) _ h (fun W hb => answer_act W B tag st f S D N k true c _ (nuS 3 3072 ((l + j0 : Nat) : Int)) _ (h.below hb) (by omega) (by omega)
    (fun W2 hb2 => refuse_in W2 B tag st f S D N k true l m c ((h.below hb).below hb2) hN h0 (by omega) (by rw [hpr]; unfold knownB; exact decide_eq_true (by omega)) (by omega) (by omega) hl hbl hin)
    (fun W2 hb2 => act_12 W2 B tag st f S D N k true c _ (nuS 3 3072 ((l + j0 : Nat) : Int)) _ ((h.below hb).below hb2) hkd (fun W3 hb3 => by
      skip
      exact wsame_fail W3 B tag st f S D N k l m cp a zs c (((h.below hb).below hb2).below hb3) hf1 hf2 hN hc hcw hw h0 (by omega) hl hbl hm1 hin (rd_below (rd_below (rd_below hr hb) hb2) hb3) hlz hby hpr hum j0 hj0 hf hfj)))
end Go.Proofs.Ytklboieemljmiaa

namespace Go.Proofs.Ytklboieemljmiaa
open Go.RowKit
set_option linter.unusedVariables false
set_option linter.unusedSimpArgs false
def zeroC : Array Value := Cm.vals ⟨0, false, 0, 0, 0, false, 0, false, false, 0, 0, false, 0, 0, false⟩
theorem zeroCi : (Try.prog.info? 38).map (fun i => i.zero) = some (some (.agg zeroC)) := by kernel_rfl
theorem cm_one (c : Cm) : c.vals.all (·.oneCell') = true := by simp [Cm.vals, Value.oneCell']
theorem rd_byte {w : World} {g o n cp : Nat} {zs : List Int} (h : RdAt w (.slice (some ⟨g, o, none⟩) n cp) zs) (hl : zs.length = n) (j : Nat) (hj : j < n) : w.cell? ⟨g, o + j, none⟩ = some (.int .u8 (zs.getD j 0)) := by
  obtain ⟨sa, sc, e, _, _, h3⟩ := h
  simp only [Value.slice.injEq] at e
  rcases h3 with h3 | ⟨b, off, ha, hc⟩
  · omega
  · rw [ha] at e
    obtain ⟨e1, _, _⟩ := e
    cases e1
    refine hc j _ ?_
    unfold cels
    rw [List.getElem?_map, List.getElem?_eq_getElem (by omega), List.getD_eq_getElem?_getD, List.getElem?_eq_getElem (by omega)]
    rfl
set_option maxRecDepth 100000 in
set_option maxHeartbeats 1000000 in
theorem prefix_0 (a : Option Addr) (len cap : Nat) (fl lb : Int) (sm : Bool) (w : World) (hlm : len < 9223372036854775808) (hlb : 0 ≤ lb ∧ lb ≤ 255) (hn : len < 16) :
    Calls Try.prog 4 #[.slice a len cap, .int .u8 fl, .int .u8 lb, .bool sm] w fun e w' => e = .returned (.bool true) ∧ Below w.heap.size w w' := by
  have HA := Kpt.mk (awake_any w)
  have e0 : ((len : Int) / 16) = 0 := by omega
  go_enter Try.func4, Try.ntmps4
  go_wp2_with (first
      | (go_at_call 9; go_must (go_must (refine HA.out.mono ?_; rintro e w1 ⟨rfl, hb1⟩; replace hb1 := Kpt.mk hb1)))
      | fail)
  go_ret
  exact ⟨rfl, hb1.out⟩
set_option maxRecDepth 100000 in
set_option maxHeartbeats 1000000 in
theorem prefix_9 (a : Option Addr) (len cap : Nat) (fl lb : Int) (sm : Bool) (w : World) (hlm : len < 9223372036854775808) (hlb : 0 ≤ lb ∧ lb ≤ 255) (hn : 144 ≤ len) :
    Calls Try.prog 4 #[.slice a len cap, .int .u8 fl, .int .u8 lb, .bool sm] w fun e w' => e = .returned (.bool true) ∧ Below w.heap.size w w' := by
  have HA := Kpt.mk (awake_any w)
  have e8 : (8 : Int) < (len : Int) / 16 := by omega
  have e0 : ¬ ((len : Int) / 16) = 0 := by omega
  have b0 : (((len : Int) / 16) == 0) = false := beq_eq_false_iff_ne.mpr e0
  go_enter Try.func4, Try.ntmps4
  go_wp2_with (first
      | (go_at_call 9; go_must (go_must (refine HA.out.mono ?_; rintro e w1 ⟨rfl, hb1⟩; replace hb1 := Kpt.mk hb1)))
      | fail)
  go_ret
  exact ⟨rfl, hb1.out⟩
end Go.Proofs.Ytklboieemljmiaa
