/-
  Bytes as a text of digits: the contract of Hex.
-/
import Derived.Test.YtplifodddfjhdaaGreatDoorXBox
import Derived.Lib.SmallJoins
import Derived.Lib.SlBytesConst
namespace Go.Proofs.YtplifodddfjhdaaGreatDoor
open Go.RowKit
set_option linter.unusedVariables false
set_option linter.unusedSimpArgs false

/-- A digit of base 16. -/
def hexD (d : Nat) : Int := if d < 10 then 48 + d else 87 + d
/-- The text of bytes. -/
def hexL : List Int → List Int
  | [] => []
  | z :: r => hexD (z.toNat / 16) :: hexD (z.toNat % 16) :: hexL r
theorem hexL_append (a b : List Int) : hexL (a ++ b) = hexL a ++ hexL b := by
  induction a with
  | nil => rfl
  | cons z r ih => simp [hexL, ih]
theorem hexL_length (a : List Int) : (hexL a).length = 2 * a.length := by
  induction a with
  | nil => rfl
  | cons z r ih => simp [hexL, ih]; omega
theorem hexD_byte (d : Nat) (h : d < 16) : 0 ≤ hexD d ∧ hexD d ≤ 255 := by unfold hexD; split <;> omega
theorem hexL_bytes (a : List Int) (h : Bytes a) : Bytes (hexL a) := by
  induction a with
  | nil => exact Bytes.nil
  | cons z r ih =>
    have hz := h 0
    simp at hz
    exact Bytes.cons (hexD_byte _ (by omega)) (Bytes.cons (hexD_byte _ (by omega)) (ih (fun j => by simpa using h (j + 1))))

def lowS : ByteArray := { data := #[48, 49, 50, 51, 52, 53, 54, 55, 56, 57, 97, 98, 99, 100, 101, 102] }
set_option maxRecDepth 100000 in
theorem dig_exec {o : Oper} {a : Act} {W : World} (x : Operand) (ho : o.op = .index 9 (.const (.string lowS)) x) (d : Nat) (hd : d < 16) (hx : a.eval x = .int .u8 (d : Int)) :
    (execOp a.eval o).run Tryz.prog W = .ok (.value (.int .u8 (hexD d))) W := by
  unfold execOp
  simp only [ho, hx]
  have h : d = 0 ∨ d = 1 ∨ d = 2 ∨ d = 3 ∨ d = 4 ∨ d = 5 ∨ d = 6 ∨ d = 7 ∨ d = 8 ∨ d = 9 ∨ d = 10 ∨ d = 11 ∨ d = 12 ∨ d = 13 ∨ d = 14 ∨ d = 15 := by omega
  rcases h with rfl | rfl | rfl | rfl | rfl | rfl | rfl | rfl | rfl | rfl | rfl | rfl | rfl | rfl | rfl | rfl <;> rfl

theorem take_succ_getD (zs : List Int) (k : Nat) (hk : k < zs.length) : zs.take (k + 1) = zs.take k ++ [zs.getD k 0] := by
  rw [List.take_add_one, List.getElem?_eq_getElem hk, List.getD_eq_getElem?_getD, List.getElem?_eq_getElem hk]; rfl

/-- A text under way: a row of one's own, or a full one that is not. -/
def Txt (w : World) (base g n cap : Nat) (zs : List Int) : Prop :=
  w.ownsRow base 5 1 (.slice (some ⟨g, 0, none⟩) n cap) n (cels zs) ∨ (n = cap ∧ RdAt w (.slice (some ⟨g, 0, none⟩) n cap) zs ∧ g < w.heap.size)
theorem Txt.rd {w : World} {base g n cap : Nat} {zs : List Int} (h : Txt w base g n cap zs) : RdAt w (.slice (some ⟨g, 0, none⟩) n cap) zs := by
  rcases h with h | ⟨_, h, _⟩
  · exact own_rd h
  · exact h
theorem Txt.bel {w w' : World} {base g n cap : Nat} {zs : List Int} (h : Txt w base g n cap zs) (hb : Below w.heap.size w w') : Txt w' base g n cap zs := by
  rcases h with h | ⟨h1, h2, h3⟩
  · exact .inl (own_of_block h (fun j e => hb.block j (World.ownsRow.lt h j e).2))
  · exact .inr ⟨h1, h2.bel hb, Nat.lt_of_lt_of_le h3 hb.size⟩
theorem txt_mark (w : World) : RdAt (w.alloc (.cells #[.int .u8 48, .int .u8 120] 5 (2, 3))) (.slice (some ⟨w.heap.size, 0, none⟩) 2 2) [48, 120] ∧ w.heap.size < (w.alloc (.cells #[.int .u8 48, .int .u8 120] 5 (2, 3))).heap.size := by
  refine ⟨⟨some ⟨w.heap.size, 0, none⟩, 2, rfl, (fun h => by cases h), Nat.le_refl _, .inr ⟨w.heap.size, 0, rfl, fun j u hu => ?_⟩⟩, by simp⟩
  rw [Nat.zero_add, Joins.cell_alloc_mark_at w _ 5 (2, 3) _ _ rfl, ← hu]; simp [cels]

/-- append of bytes onto a text under way. -/
theorem wp_append_txt {w : World} {o : Oper} {a : Act} {K : Act → World → Prop} {Q : Exit → Act → World → Prop} (hgd : o.guard = none) (d s : Operand)
    (ho : o.op = .call { callee := .builtin .append, args := #[d, s], argTypes := #[26, 26] })
    (base g0 cap0 : Nat) (sv : Value) (zs ds : List Int) (m n : Nat) (hd : a.eval d = .slice (some ⟨g0, 0, none⟩) m cap0) (hs : a.eval s = sv) (hown : Txt w base g0 m cap0 zs) (hrd : RdAt w sv ds) (hpos : 0 < ds.length) (hm : zs.length = m) (hn : m + ds.length = n) (hlen : n ≤ 140737488355328) (hb : base ≤ w.heap.size)
    (h : ∀ g cap w', Kpt (w'.ownsRow base 5 1 (.slice (some ⟨g, 0, none⟩) n cap) n (cels (zs ++ ds))) → Kpt (base ≤ g ∧ g < w'.heap.size) → Kpt (w.grownBy w' (some g0)) →
      K (a.put o.dst (.slice (some ⟨g, 0, none⟩) n cap)) w') : o.wp Tryz.prog a w K Q := by
  rcases hown with hown | ⟨rfl, hr0, hlt0⟩
  · exact wp_append_new hgd d s ho base _ sv zs ds m n hd hs hown hrd hpos hm hn hlen hb h
  · subst hm hn
    obtain ⟨i0, hi0, hz0, hz1, hz2⟩ := info_parts Tryz.info5
    obtain ⟨sa, sc, rfl, hsn, hsl, hsr⟩ := hrd
    rcases hsr with h1 | ⟨b, soff, rfl, hc⟩
    · omega
    have hr1 := (rd_cells hr0).2
    have holds : ∀ j u, (cels zs)[j]? = some u → w.cell? ((⟨g0, 0, none⟩ : Addr).add j) = some u := fun j u hu => by
      have hj : j < zs.length := by have := (List.getElem?_eq_some_iff.1 hu).1; simpa using this
      rw [Go.WideShapes.add_plain, hr1 j hj, ← hu]
      simp [cels, List.getElem?_map, List.getElem?_eq_getElem hj, List.getD_eq_getElem?_getD]
    have hrun := run_append_grow (P := Tryz.prog) w 26 o.type 5 i0 (.int .u8 0) Tryz.underlying26 hi0 hz0 ⟨g0, 0, none⟩ zs.length zs.length (cels zs) (by simp [hz1]) holds ⟨b, soff, none⟩ ds.length sc (cels ds) (by simp [hz1]) (fun j u hu => by rw [Go.WideShapes.add_plain]; exact hc j u hu) (by omega) (by omega) (growslice_fits (by omega) (by rw [hz2]; omega))
    have hge := grownCap_ge w (zs.length + ds.length) zs.length 5
    have hcm : grownCap w (zs.length + ds.length) zs.length 5 ≤ maxLen := grownCap_le_maxLen w (zs.length + ds.length) zs.length 5 (by unfold maxLen; omega)
    unfold Oper.wp execOp
    simp only [ho, resolve, invoke, builtin, Sem.run_bind, Sem.run_pure, Result.andThen_ok, List.map_toArray, List.map_cons, List.map_nil, hd, hs, hrun]
    refine h w.heap.size _ _ ⟨⟨by simp, .inr ⟨w.heap.size, _, _, rfl, hb, heap_alloc_new w.drew _, hge, hcm, ?_, ?_⟩⟩⟩ ⟨hb, by simp⟩ ⟨⟨rfl, rfl, rfl, by simp, fun k hk _ => heap_alloc_old w.drew _ hk⟩⟩
    · simp [size_zeroCells, Value.cells]; omega
    · simp only [Array.toList_append, Nat.mul_one, cels_append]
      rw [List.take_append_of_le_length (by simp)]
      rw [List.take_of_length_le (by simp)]

theorem wp_built {w : World} {o : Oper} {a : Act} {K : Act → World → Prop} {Q : Exit → Act → World → Prop} (n : Nat) (zs : List Int)
    (he : (execOp a.eval o).run Tryz.prog w = .ok (.value (.slice (some ⟨w.heap.size, 0, none⟩) n n)) (w.alloc (.cells (cels zs).toArray 5))) (hn : n = zs.length) (hm : n ≤ 1000)
    (h : ∀ g w', w.heap.size ≤ g → w'.ownsRow w.heap.size 5 1 (.slice (some ⟨g, 0, none⟩) n n) n (cels zs) → Below w.heap.size w w' → K (a.put o.dst (.slice (some ⟨g, 0, none⟩) n n)) w') : o.wp Tryz.prog a w K Q := by
  unfold Oper.wp
  rw [he]
  exact h _ _ (Nat.le_refl _) (own_alloc w _ n _ zs rfl hn hm (Nat.le_refl _)) ((Below.refl _ _).alloc (Nat.le_refl _) _)

set_option maxRecDepth 100000 in
set_option maxHeartbeats 1000000 in
theorem hex_any (a : Option Addr) (n c : Nat) (zs : List Int) (w : World) (hr : RdAt w (.slice a n c) zs) (hb : Bytes zs) (hm : n ≤ 50000000000000) :
    Calls Tryz.prog 56 #[.slice a n c] w fun e w' => e = .returned (.string (strOfNums (48 :: 120 :: hexL zs))) ∧ Below w.heap.size w w' := by
  have kc := fun (w : World) (C : Array Value) (n c : Nat) => Lib.run_convert_bytes_const (P := Tryz.prog) w 26 5 C n c Tryz.underlying26 Tryz.underlying5
  have hlen : n = zs.length := by obtain ⟨a', c', e, _⟩ := hr; simp only [Value.slice.injEq] at e; exact e.2.1
  replace hr := Kpt.mk hr
  replace hb := Kpt.mk hb
  replace hlen := Kpt.mk hlen
  go_enter Tryz.func56, Tryz.ntmps56
  go_wp2
  go_loopw [3, 10] (fun x t wr => ∃ k g cap : Nat, k ≤ n ∧ x = .slice (some ⟨g, 0, none⟩) (2 + 2 * k) cap ∧ t = .int .i64 k ∧ Kpt (Txt wr w.heap.size g (2 + 2 * k) cap ([48, 120] ++ hexL (zs.take k))) ∧ Kpt (w.heap.size ≤ g) ∧ Kpt (Below w.heap.size w wr)) (fun _ t _ => n - (intOf t).toNat)
  case atStart => exact ⟨0, w.heap.size, 2, by omega, rfl, rfl, ⟨.inr ⟨rfl, txt_mark w⟩⟩, ⟨Nat.le_refl _⟩, ⟨(Below.refl _ w).alloc (Nat.le_refl _) _⟩⟩
  case round =>
    obtain ⟨k, g, cap, hk, rfl, rfl, hX, hgg, hbl⟩ := hrel
    clear kc
    by_cases hlt : k < n
    · obtain ⟨b, off, rfl⟩ : ∃ b off, a = some ⟨b, off, none⟩ := by
        obtain ⟨a', c', e, _, _, h | ⟨b, off, h, _⟩⟩ := hr.out
        · have := hlen.out; omega
        · simp only [Value.slice.injEq] at e; exact ⟨b, off, e.1.trans h⟩
      have hcell : wr.cell? ⟨b, off + k, none⟩ = some (.int .u8 (zs.getD k 0)) := (rd_cells (hr.out.bel hbl.out)).2 k hlt
      obtain ⟨h0, h1⟩ := hb.out k
      have hstep := Kpt.mk (take_succ_getD zs k (by have := hlen.out; omega))
      generalize zs.getD k 0 = z at hcell h0 h1 hstep
      obtain ⟨q, rfl⟩ := Int.eq_ofNat_of_zero_le h0
      obtain ⟨hi, lo, e1, e2, e3, e4⟩ : ∃ hi lo : Nat, (q : Int) / 16 = hi ∧ bits BinOp.and IntKind.u8 (q : Int) 15 = lo ∧ hi = q / 16 ∧ lo = q % 16 := ⟨q / 16, q % 16, by omega, by rw [show (15 : Int) = ((15 : Nat) : Int) from rfl, u8_and_nat _ _ (by omega) (by omega), nat_mask4], rfl, rfl⟩
      have hi16 : hi < 16 := by omega
      have lo16 : lo < 16 := by omega
      replace e3 := Kpt.mk e3
      replace e4 := Kpt.mk e4
      have e1k := Kpt.mk e1
      have e2k := Kpt.mk e2
      clear e1 e2
      go_wp2
      refine wp_region_any (by kernel_rfl) ?_
      refine wpAny_of_C (C := fun W => True) _ _ _ _ ?_
      refine wpAnyC_take 0 (.slice (some ⟨g, 0, none⟩) (2 + 2 * k) cap) rfl (by kernel_rfl) (by kernel_rfl) (by kernel_rfl) (fun _ _ _ h => h) (wanted_free rfl _) (fun W hW => by go_simp) ?_
      try simp only [Act.put, List.getElem_toArray, List.getElem_cons_succ, List.getElem_cons_zero, List.setIfInBounds_toArray, List.set_cons_succ, List.set_cons_zero]
      refine wpAnyC_take 1 (.int .u8 (q : Int)) rfl (by kernel_rfl) (by kernel_rfl) (by kernel_rfl) (fun _ _ _ h => h) (wanted_free rfl _) (fun W hW => by go_simp) ?_
      try simp only [Act.put, List.getElem_toArray, List.getElem_cons_succ, List.getElem_cons_zero, List.setIfInBounds_toArray, List.set_cons_succ, List.set_cons_zero]
      refine wpAnyC_take 2 (.int .u8 (hi : Int)) rfl (by kernel_rfl) (by kernel_rfl) (by kernel_rfl) (fun _ _ _ h => h) (wanted_free rfl _) (fun W hW => by go_simp; simp [e1k.out]) ?_
      try simp only [Act.put, List.getElem_toArray, List.getElem_cons_succ, List.getElem_cons_zero, List.setIfInBounds_toArray, List.set_cons_succ, List.set_cons_zero]
      refine wpAnyC_take 3 (.int .u8 (hexD hi)) rfl (by kernel_rfl) (by kernel_rfl) (by kernel_rfl) (fun _ _ _ h => h) (wanted_free rfl _) (fun W hW => dig_exec (.tmp 16) rfl hi hi16 rfl) ?_
      try simp only [Act.put, List.getElem_toArray, List.getElem_cons_succ, List.getElem_cons_zero, List.setIfInBounds_toArray, List.set_cons_succ, List.set_cons_zero]
      refine wpAnyC_take 4 (.int .u8 (q : Int)) rfl (by kernel_rfl) (by kernel_rfl) (by kernel_rfl) (fun _ _ _ h => h) (wanted_free rfl _) (fun W hW => by go_simp) ?_
      try simp only [Act.put, List.getElem_toArray, List.getElem_cons_succ, List.getElem_cons_zero, List.setIfInBounds_toArray, List.set_cons_succ, List.set_cons_zero]
      refine wpAnyC_take 5 (.int .u8 (lo : Int)) rfl (by kernel_rfl) (by kernel_rfl) (by kernel_rfl) (fun _ _ _ h => h) (wanted_free rfl _) (fun W hW => by go_simp; simp [e2k.out]) ?_
      try simp only [Act.put, List.getElem_toArray, List.getElem_cons_succ, List.getElem_cons_zero, List.setIfInBounds_toArray, List.set_cons_succ, List.set_cons_zero]
      refine wpAnyC_take 6 (.int .u8 (hexD lo)) rfl (by kernel_rfl) (by kernel_rfl) (by kernel_rfl) (fun _ _ _ h => h) (wanted_free rfl _) (fun W hW => dig_exec (.tmp 19) rfl lo lo16 rfl) ?_
      try simp only [Act.put, List.getElem_toArray, List.getElem_cons_succ, List.getElem_cons_zero, List.setIfInBounds_toArray, List.set_cons_succ, List.set_cons_zero]
      refine wpAnyC_one 7 trivial rfl (by kernel_rfl) (wanted_free rfl _) (fun KA hKA => ?_)
      refine wp_built 2 [hexD hi, hexD lo] (by kernel_rfl) rfl (by decide) ?_
      intro g1 w1 hg1 ho1 hbe1
      replace ho1 := Kpt.mk ho1
      have hbw1 := Kpt.mk hbe1
      have hX1 : Kpt (Txt w1 w.heap.size g (2 + 2 * k) cap ([48, 120] ++ hexL (zs.take k))) := ⟨Txt.bel hX.out (below_undrew hbe1)⟩
      clear hbe1 hg1
      refine hKA _ _ ?_
      clear hKA KA
      try simp only [Act.put, List.getElem_toArray, List.getElem_cons_succ, List.getElem_cons_zero, List.setIfInBounds_toArray, List.set_cons_succ, List.set_cons_zero]
      refine wpAnyC_one 8 trivial rfl (by kernel_rfl) (wanted_free rfl _) (fun KA hKA => ?_)
      refine wp_append_txt rfl (.tmp 14) (.tmp 21) rfl w.heap.size g cap (.slice (some ⟨g1, 0, none⟩) 2 2) ([48, 120] ++ hexL (zs.take k)) [hexD hi, hexD lo] (2 + 2 * k) (2 + 2 * k + 2) rfl rfl hX1.out (own_rd ho1.out) (by simp) (by simp [hexL_length]; have := hlen.out; omega) rfl (by omega) (Nat.le_trans hbl.out.size hbw1.out.size) ?_
      intro g2 cap2 w2 hown2 hg2 hgr2
      refine hKA _ _ ?_
      clear hKA KA
      try simp only [Act.put, List.getElem_toArray, List.getElem_cons_succ, List.getElem_cons_zero, List.setIfInBounds_toArray, List.set_cons_succ, List.set_cons_zero]
      refine wpAnyC_one 9 trivial rfl (by kernel_rfl) (wanted_free rfl _) (fun KA hKA => ?_)
      go_simp
      refine hKA _ _ ?_
      clear hKA KA
      try simp only [Act.put, List.getElem_toArray, List.getElem_cons_succ, List.getElem_cons_zero, List.setIfInBounds_toArray, List.set_cons_succ, List.set_cons_zero]
      refine wpAnyC_done (trivial) (by kernel_rfl) ?_
      go_wp2
      have hG2 := hgr2.out
      go_roundw
      case rel =>
        refine ⟨k + 1, g2, cap2, by omega, by rw [show 2 + 2 * (k + 1) = 2 + 2 * k + 2 by omega], by simp, ⟨?_⟩, ⟨hg2.out.1⟩, ⟨?_⟩⟩
        · refine .inl ?_
          have h2 := hown2.out
          rw [show 2 + 2 * (k + 1) = 2 + 2 * k + 2 by omega, hstep.out, hexL_append]
          have e : ([48, 120] ++ hexL (zs.take k)) ++ [hexD hi, hexD lo] = [48, 120] ++ (hexL (zs.take k) ++ hexL [(q : Int)]) := by simp [hexL, e3.out, e4.out]
          rw [← e]; exact h2
        · exact (hbl.out.trans ((below_undrew hbw1.out).mono hbl.out.size)).grown hgr2.out (Nat.le_trans hbl.out.size hbw1.out.size) (fun j e => by cases e; exact hgg.out)
      case measure => simp [intOf]; omega
    · obtain rfl : k = n := by omega
      have hconv := conv_rd hX.out.rd
      go_wp2
      go_ret
      refine ⟨?_, hbl.out⟩
      rw [List.take_of_length_le (by have := hlen.out; omega)]
      rfl

end Go.Proofs.YtplifodddfjhdaaGreatDoor
