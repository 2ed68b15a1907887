/-
  pdu: head.
-/
import Derived.Test.YtigfoldobkigeaaUDecA
namespace Go.Proofs.Ytigfoldobkigeaa
open Go.RowKit
set_option linter.unusedVariables false
set_option linter.unusedSimpArgs false

theorem wpList_built {w : World} {ops : Array Oper} {rest : List Oper} {o : Oper} {a : Act} {Q : Exit → Act → World → Prop} (hgd : o.guard = none) (n : Nat) (zs : List Int)
    (he : (execOp a.eval o).run Try.prog w = .ok (.value (.slice (some ⟨w.heap.size, 0, none⟩) n n)) (w.alloc (.cells (cels zs).toArray 5))) (hn : n = zs.length) (hm : n ≤ 1000)
    (h : ∀ g w', w.heap.size ≤ g → w'.ownsRow w.heap.size 5 1 (.slice (some ⟨g, 0, none⟩) n n) n (cels zs) → Below w.heap.size w w' → wpList Try.prog ops Q rest (a.put o.dst (.slice (some ⟨g, 0, none⟩) n n)) w') : wpList Try.prog ops Q (o :: rest) a w :=
  wpList_of_exec hgd he (h _ _ (Nat.le_refl _) (own_alloc w _ n _ zs rfl hn hm (Nat.le_refl _)) ((Below.refl _ _).alloc (Nat.le_refl _) _))

theorem wpList_made {w : World} {ops : Array Oper} {rest : List Oper} {o : Oper} {a : Act} {Q : Exit → Act → World → Prop} (hgd : o.guard = none) (l c : Operand) (ho : o.op = .makeSlice 24 l c) (n : Nat) (hl : a.eval l = .int .i64 n) (hc : a.eval c = .int .i64 n) (hn : n ≤ 100000)
    (h : ∀ g w', w.heap.size ≤ g → w'.ownsRow w.heap.size 5 1 (.slice (some ⟨g, 0, none⟩) n n) n (cels (List.replicate n 0)) → Below w.heap.size w w' → wpList Try.prog ops Q rest (a.put o.dst (.slice (some ⟨g, 0, none⟩) n n)) w') : wpList Try.prog ops Q (o :: rest) a w := by
  obtain ⟨i0, hi0, hz0, hz1, hz2⟩ := info_parts Try.info5
  refine wpList_make_full _ hgd _ _ 24 ho w.heap.size 5 i0 (.int .u8 0) 1 Try.underlying24 hi0 hz0 hz1 .i64 .i64 _ _ n hl hc rfl rfl (by rw [hz2]; omega) (by unfold maxLen; omega) (Nat.le_refl _) ?_
  intro w1 hown1 hgr1
  rw [made_u8] at hown1
  exact h _ _ (Nat.le_refl _) hown1 ((Below.refl _ _).grown hgr1 (Nat.le_refl _) (fun k h => by cases h))

theorem size23 : (Try.prog.info? 23).map (·.size) = some 7 := by kernel_rfl
/-- A head. -/
def headL (p : Pd) : List Int := [p.op, p.fl, p.rs, p.st, 0] ++ bigL p.d.length 3 ++ [0, p.lun, 0, 0, 0, 0, 0, 0] ++ bigL p.tag 4 ++ (p.ws.map (fun x => bigL x 4)).flatten
/-- A head, the first k words laid. -/
def hK (p : Pd) : Nat → List Int
  | 0 => over (((over (over (List.replicate 48 0) 0 [p.op, p.fl, p.rs, p.st]) 5 (bigL p.d.length 3))).set 9 p.lun) 16 (bigL p.tag 4)
  | k + 1 => over (hK p k) (20 + 4 * k) (bigL (p.ws.getD k 0) 4)
theorem seven {l : List Int} (h : l.length = 7) : ∃ a b c d e f g, l = [a, b, c, d, e, f, g] := by
  match l, h with
  | [a, b, c, d, e, f, g], _ => exact ⟨a, b, c, d, e, f, g, rfl⟩
theorem hK_seven (p : Pd) (h : p.ws.length = 7) : hK p 7 = headL p := by
  obtain ⟨op, fl, rs, st, lun, tag, ws, dd⟩ := p
  obtain ⟨a, b, c, d, e, f, g, hw⟩ := seven h
  simp only at hw
  subst hw
  kernel_rfl
theorem hK_len (p : Pd) (h : p.ws.length = 7) : ∀ k, k ≤ 7 → (hK p k).length = 48
  | 0, _ => by rfl
  | k + 1, hk => by
    have := hK_len p h k (by omega)
    rw [hK, over_length _ _ _ (by rw [bigL_len]; omega), this]
theorem headL_len (p : Pd) (h : p.ws.length = 7) : (headL p).length = 48 := by rw [← hK_seven p h]; exact hK_len p h 7 (by decide)

set_option maxRecDepth 100000 in
set_option maxHeartbeats 4000000 in
theorem head_any (p : Pd) (a : Option Addr) (n c : Nat) (w : World) (hp : p.ok) (hn : p.d.length = n) (hn8 : n ≤ 8192) :
    Calls Try.prog 23 #[.agg (p.vals (.slice a n c))] w fun e w' => ∃ g, e = .returned (.slice (some ⟨g, 0, none⟩) 48 48) ∧ w'.ownsRow w.heap.size 5 1 (.slice (some ⟨g, 0, none⟩) 48 48) 48 (cels (headL p)) ∧ Below w.heap.size w w' := by
  obtain ⟨V, hV⟩ : ∃ V, V = p.vals (.slice a n c) := ⟨_, rfl⟩
  obtain ⟨a0, a1, a2, a3, a4, a5, a6, hw⟩ := seven hp.len
  have hVe : V = #[.int .u8 p.op, .int .u8 p.fl, .int .u8 p.rs, .int .u8 p.st, .int .u8 p.lun, .int .u32 p.tag, .int .u32 a0, .int .u32 a1, .int .u32 a2, .int .u32 a3, .int .u32 a4, .int .u32 a5, .int .u32 a6, .slice a n c] := by rw [hV]; simp [Pd.vals, Pd.cs, hw]
  have hc : Kpt (∀ W B, Bx W B V → W.cell? ⟨B, 0, none⟩ = some (.int .u8 p.op) ∧ W.cell? ⟨B, 1, none⟩ = some (.int .u8 p.fl) ∧ W.cell? ⟨B, 2, none⟩ = some (.int .u8 p.rs) ∧ W.cell? ⟨B, 3, none⟩ = some (.int .u8 p.st) ∧ W.cell? ⟨B, 4, none⟩ = some (.int .u8 p.lun) ∧ W.cell? ⟨B, 5, none⟩ = some (.int .u32 p.tag) ∧ W.cell? ⟨B, 13, none⟩ = some (.slice a n c)) := ⟨fun W B h => by
    rw [hVe] at h
    exact ⟨h.cells 0 (by simp), h.cells 1 (by simp), h.cells 2 (by simp), h.cells 3 (by simp), h.cells 4 (by simp), h.cells 5 (by simp), h.cells 13 (by simp)⟩⟩
  have hwsr : Kpt (∀ W B, Bx W B V → W.rangeAt B 6 [.int .u32 a0, .int .u32 a1, .int .u32 a2, .int .u32 a3, .int .u32 a4, .int .u32 a5, .int .u32 a6]) := ⟨fun W B h j v hv => by
    rw [hVe] at h
    have hj : j < 7 := by
      rcases Nat.lt_or_ge j 7 with h7 | h7
      · exact h7
      · rw [List.getElem?_eq_none (by simpa using h7)] at hv; cases hv
    rw [h.cells (6 + j) (by simp; omega)]
    rcases j with _ | _ | _ | _ | _ | _ | _ | j
    all_goals first | omega | simpa using hv⟩
  have hN : Kpt (∀ W x k, 1 ≤ k → k ≤ 8 → 0 ≤ x → x < 2 ^ (8 * k) → Calls Try.prog 31 #[.int .u64 x, .int .i64 (k : Nat)] W fun e w' => ∃ g, e = .returned (.slice (some ⟨g, 0, none⟩) k k) ∧ w'.ownsRow W.heap.size 5 1 (.slice (some ⟨g, 0, none⟩) k k) k (cels (bigL x k)) ∧ Below W.heap.size W w') := ⟨fun W x k h1 h2 h3 h4 => number_any x k W h1 h2 h3 h4⟩
  have hwn : IntKind.u64.wrap (n : Int) = n := B.wrap64_id _ (by omega) (by omega)
  have hwt : IntKind.u64.wrap p.tag = p.tag := B.wrap64_id _ hp.tag.1 (by have := hp.tag.2; omega)
  have hN3 : Kpt (∀ W, Calls Try.prog 31 #[.int .u64 n, .int .i64 3] W fun e w' => ∃ g, e = .returned (.slice (some ⟨g, 0, none⟩) 3 3) ∧ w'.ownsRow W.heap.size 5 1 (.slice (some ⟨g, 0, none⟩) 3 3) 3 (cels (bigL n 3)) ∧ Below W.heap.size W w') := ⟨fun W => number_any n 3 W (by decide) (by decide) (by omega) (by simp; omega)⟩
  have hN4 : Kpt (∀ W (x : Int), 0 ≤ x → x ≤ 4294967295 → Calls Try.prog 31 #[.int .u64 x, .int .i64 4] W fun e w' => ∃ g, e = .returned (.slice (some ⟨g, 0, none⟩) 4 4) ∧ w'.ownsRow W.heap.size 5 1 (.slice (some ⟨g, 0, none⟩) 4 4) 4 (cels (bigL x 4)) ∧ Below W.heap.size W w') := ⟨fun W x h1 h2 => number_any x 4 W (by decide) (by decide) h1 (by simp; omega)⟩
  have htg := hp.tag
  have hwrp := Kpt.mk B.wrap64_id
  have hwsb : Kpt (∀ k, 0 ≤ p.ws.getD k 0 ∧ p.ws.getD k 0 ≤ 4294967295) := ⟨fun k => by
    rw [List.getD_eq_getElem?_getD]
    cases hk : p.ws[k]? with
    | none => simp
    | some x => exact hp.ws x (List.mem_of_getElem? hk)⟩
  have h7 := Kpt.mk (hK_seven p hp.len)
  have h0 : Kpt (hK p 0 = over (((over (over (List.replicate 48 0) 0 [p.op, p.fl, p.rs, p.st]) 5 (bigL n 3))).set 9 p.lun) 16 (bigL p.tag 4)) := ⟨by rw [hK, hn]⟩
  have hlk := Kpt.mk (hK_len p hp.len)
  have hidx : Kpt (∀ k, k < 7 → #[a0, a1, a2, a3, a4, a5, a6][k]? = some (p.ws.getD k 0)) := ⟨fun k hk => by
    rw [hw]
    rcases k with _ | _ | _ | _ | _ | _ | _ | k
    all_goals first | omega | rfl⟩
  rw [← hV]
  replace hVe := Kpt.mk hVe
  replace hn := Kpt.mk hn
  replace hw := Kpt.mk hw
  obtain ⟨op, hop⟩ : ∃ x, x = p.op := ⟨_, rfl⟩
  obtain ⟨fl, hfl⟩ : ∃ x, x = p.fl := ⟨_, rfl⟩
  obtain ⟨rs, hrs⟩ : ∃ x, x = p.rs := ⟨_, rfl⟩
  obtain ⟨st, hst⟩ : ∃ x, x = p.st := ⟨_, rfl⟩
  obtain ⟨lun, hlun⟩ : ∃ x, x = p.lun := ⟨_, rfl⟩
  obtain ⟨tag, htag⟩ : ∃ x, x = p.tag := ⟨_, rfl⟩
  rw [← hop, ← hfl, ← hrs, ← hst, ← hlun, ← htag] at hc h0
  rw [← htag] at htg hwt
  clear hV hp hop hfl hrs hst hlun htag hN
  go_enter Try.func23, Try.ntmps23
  go_wp2_with (first
    | (refine (?_ : wpList _ _ _ (Oper.mk (some 17) _ _ _ _ _ :: _) _ _); go_must (refine wpList_copy_at rfl (.tmp 7) (.tmp 16) rfl w0.heap.size G 0 48 48 48 _ [op, fl, rs, st] (.slice (some ⟨g2, 0, none⟩) 4 4) rfl rfl ho2.out (own_rd ho2s.out) (by simp) (by simp) ?_; intro w3 hown3 hgr3; have hX3 : Kpt (Bx w3 B V) := ⟨hX2.out.grown hgr3 (fun e => hBG.out (Option.some.inj e).symm)⟩; have hb3 : Kpt (Below w.heap.size w w3) := ⟨hb2.out.grown hgr3 hb2.out.size (fun k h => by cases h; exact hGw.out)⟩; replace hown3 := Kpt.mk hown3; clear hgr3))
    | (refine (?_ : wpList _ _ _ (Oper.mk (some 16) _ _ _ _ _ :: _) _ _); go_must (refine wpList_built rfl 4 [op, fl, rs, st] (by kernel_rfl) rfl (by decide) ?_; intro g2 w2 hg2 ho2s hbe2; have hX2 : Kpt (Bx w2 B V) := ⟨hX1.out.below hbe2 hX1.out.lt⟩; have hb2 : Kpt (Below w.heap.size w w2) := ⟨hb1.out.trans (hbe2.mono hb1.out.size)⟩; have ho2 : Kpt (w2.ownsRow w0.heap.size 5 1 (.slice (some ⟨G, 0, none⟩) 48 48) 48 (cels (List.replicate 48 0))) := ⟨own_of_block ho1.out fun g hg => hbe2.block g (World.ownsRow.lt ho1.out g hg).2⟩; replace ho2s := Kpt.mk ho2s; clear hbe2 hg2))
    | (at_make; go_must (refine wpList_made rfl _ _ rfl 48 rfl rfl (by decide) ?_; intro G w1 hG ho1 hbe1; have hX1 : Kpt (Bx w1 B V) := ⟨hX0.out.below hbe1 hX0.out.lt⟩; have hb1 : Kpt (Below w.heap.size w w1) := ⟨hb0.out.trans (hbe1.mono hb0.out.size)⟩; have hBG : Kpt (B ≠ G) := ⟨Nat.ne_of_lt (Nat.lt_of_lt_of_le hX0.out.lt hG)⟩; have hGw : Kpt (w.heap.size ≤ G) := ⟨Nat.le_trans hb0.out.size hG⟩; replace ho1 := Kpt.mk ho1; clear hbe1 hG; have hc1 := hc.out _ _ hX1.out))
    | (refine wpList_box rfl 26 (.tmp 0) rfl V rfl ?_; intro B w0 hB hX0 hb0 hz0; replace hX0 := Kpt.mk hX0; replace hB := Kpt.mk hB; replace hb0 := Kpt.mk hb0; clear hz0))
  have hXp := hX3
  have hbp := hb3
  obtain ⟨Zp, hZp⟩ : ∃ Z, Z = over (List.replicate 48 0) 0 [op, fl, rs, st] := ⟨_, rfl⟩
  have hop := hown3
  rw [← hZp] at hop
  refine wp_region_any (by kernel_rfl) ?_
  refine wpAny_of_C (C := fun W => Bx W B V) _ _ _ _ ?_
  refine wpAnyC_take 0 (.slice (some ⟨G, 0, none⟩) 48 48) rfl (by kernel_rfl) (by kernel_rfl) (by kernel_rfl) (fun _ _ _ h => h) (wanted_free rfl _) (fun W hW => by go_simp) ?_
  try simp only [Act.put, List.getElem_toArray, List.getElem_cons_succ, List.getElem_cons_zero, List.setIfInBounds_toArray, List.set_cons_succ, List.set_cons_zero]
  refine wpAnyC_take 1 (.slice (some ⟨G, 5, none⟩) 43 43) rfl (by kernel_rfl) (by kernel_rfl) (by kernel_rfl) (fun _ _ _ h => h) (wanted_free rfl _) (fun W hW => by go_simp) ?_
  try simp only [Act.put, List.getElem_toArray, List.getElem_cons_succ, List.getElem_cons_zero, List.setIfInBounds_toArray, List.set_cons_succ, List.set_cons_zero]
  refine wpAnyC_take 2 (.pointer (some ⟨B, 13, none⟩)) rfl (by kernel_rfl) (by kernel_rfl) (by kernel_rfl) (fun _ _ _ h => h) (wanted_free rfl _) (fun W hW => by go_simp) ?_
  try simp only [Act.put, List.getElem_toArray, List.getElem_cons_succ, List.getElem_cons_zero, List.setIfInBounds_toArray, List.set_cons_succ, List.set_cons_zero]
  refine wpAnyC_take 3 (.slice a n c) rfl (by kernel_rfl) (by kernel_rfl) (by kernel_rfl) (fun _ _ _ h => h) (wanted_free rfl _) (fun W hW => by have hq := (hc.out W B hW).2.2.2.2.2.2; go_simp) ?_
  try simp only [Act.put, List.getElem_toArray, List.getElem_cons_succ, List.getElem_cons_zero, List.setIfInBounds_toArray, List.set_cons_succ, List.set_cons_zero]
  refine wpAnyC_take 4 (.int .i64 n) rfl (by kernel_rfl) (by kernel_rfl) (by kernel_rfl) (fun _ _ _ h => h) (wanted_free rfl _) (fun W hW => by go_simp) ?_
  try simp only [Act.put, List.getElem_toArray, List.getElem_cons_succ, List.getElem_cons_zero, List.setIfInBounds_toArray, List.set_cons_succ, List.set_cons_zero]
  refine wpAnyC_take 5 (.int .u64 n) rfl (by kernel_rfl) (by kernel_rfl) (by kernel_rfl) (fun _ _ _ h => h) (wanted_free rfl _) (fun W hW => by go_simp) ?_
  try simp only [Act.put, List.getElem_toArray, List.getElem_cons_succ, List.getElem_cons_zero, List.setIfInBounds_toArray, List.set_cons_succ, List.set_cons_zero]
  refine wpAnyC_one 6 (hXp.out.drew) rfl (by kernel_rfl) (wanted_free rfl _) (fun KA hKA => ?_)
  go_simp
  refine (hN3.out _).mono ?_
  rintro e w4 ⟨gN, rfl, hoN, hbN⟩
  replace hbN := below_undrew hbN
  have hXN : Kpt (Bx w4 B V) := ⟨hXp.out.below hbN hXp.out.lt⟩
  have hbeN : Kpt (Below w.heap.size w w4) := ⟨hbp.out.trans (hbN.mono hbp.out.size)⟩
  have howN : Kpt (w4.ownsRow w0.heap.size 5 1 (.slice (some ⟨G, 0, none⟩) 48 48) 48 (cels Zp)) := ⟨own_of_block hop.out fun g hg => hbN.block g (World.ownsRow.lt hop.out g hg).2⟩
  replace hoN := Kpt.mk hoN
  clear hbN
  refine hKA _ _ ?_
  clear hKA KA
  try simp only [Act.put, List.getElem_toArray, List.getElem_cons_succ, List.getElem_cons_zero, List.setIfInBounds_toArray, List.set_cons_succ, List.set_cons_zero]
  refine wpAnyC_one 7 (hXN.out) rfl (by kernel_rfl) (wanted_free rfl _) (fun KA hKA => ?_)
  refine wp_copy_at (.tmp 19) (.tmp 24) rfl w0.heap.size G 5 48 43 43 Zp (bigL n 3) (.slice (some ⟨gN, 0, none⟩) 3 3) rfl rfl howN.out (own_rd hoN.out) (by rw [bigL_len]; decide) (by rw [bigL_len]; decide) (by rw [bigL_len]; decide) ?_
  intro w5 hoC hgC
  rw [bigL_len]
  refine hKA _ _ ?_
  clear hKA KA
  have hXC : Kpt (Bx w5 B V) := ⟨hXN.out.grown hgC (fun e => hBG.out (Option.some.inj e).symm)⟩
  have hbC : Kpt (Below w.heap.size w w5) := ⟨hbeN.out.grown hgC hbeN.out.size (fun k h => by cases h; exact hGw.out)⟩
  replace hoC := Kpt.mk hoC
  clear hgC hXN hbeN howN hoN
  try simp only [Act.put, List.getElem_toArray, List.getElem_cons_succ, List.getElem_cons_zero, List.setIfInBounds_toArray, List.set_cons_succ, List.set_cons_zero]
  refine wpAnyC_done (hXC.out) (by kernel_rfl) ?_
  rw [hZp] at hoC
  clear hXp hbp hop hZp hX3 hb3 hown3 hX2 hb2 ho2 ho2s hX1 hb1 ho1 hc1
  have hX5 := hXC
  have hb5 := hbC
  have ho5 := hoC
  clear hXC hbC hoC
  have hc5 := (hc.out _ _ hX5.out).2.2.2.2.1
  have hg9 := own_facts ho5.out 9 (by decide)
  have hf9 := World.ownsRow.frozenAt ho5.out 9
  obtain ⟨x9, hx9⟩ : ∃ x, some x = some (Value.int .u8 ((over (over (List.replicate 48 0) 0 [op, fl, rs, st]) 5 (bigL n 3)).getD 9 0)) := ⟨_, rfl⟩
  rw [← hx9] at hg9
  clear hx9
  go_wp2_with fail
  obtain ⟨w6, hw6⟩ : ∃ W, W = w5.setCell ⟨G, 9, none⟩ (.int .u8 lun) := ⟨_, rfl⟩
  have hgr6 : w5.grownBy w6 (some G) := by rw [hw6]; exact grown_setCellK w5 ⟨G, 9, none⟩ _
  have hX6 : Kpt (Bx w6 B V) := ⟨hX5.out.grown hgr6 (fun e => hBG.out (Option.some.inj e).symm)⟩
  have hb6 : Kpt (Below w.heap.size w w6) := ⟨hb5.out.grown hgr6 hb5.out.size (fun k h => by cases h; exact hGw.out)⟩
  have ho6 : Kpt (w6.ownsRow w0.heap.size 5 1 (.slice (some ⟨G, 0, none⟩) 48 48) 48 (cels ((over (over (List.replicate 48 0) 0 [op, fl, rs, st]) 5 (bigL n 3)).set 9 lun))) := ⟨by rw [hw6]; exact own_set ho5.out 9 lun⟩
  rw [← hw6]
  clear hw6 hgr6 hX5 hb5 ho5 hc5 hg9 hf9
  have hXp := hX6
  have hbp := hb6
  obtain ⟨Zp, hZp⟩ : ∃ Z, Z = (over (over (List.replicate 48 0) 0 [op, fl, rs, st]) 5 (bigL n 3)).set 9 lun := ⟨_, rfl⟩
  have hop := ho6
  rw [← hZp] at hop
  refine wp_region_any (by kernel_rfl) ?_
  refine wpAny_of_C (C := fun W => Bx W B V) _ _ _ _ ?_
  refine wpAnyC_take 0 (.slice (some ⟨G, 0, none⟩) 48 48) rfl (by kernel_rfl) (by kernel_rfl) (by kernel_rfl) (fun _ _ _ h => h) (wanted_free rfl _) (fun W hW => by go_simp) ?_
  try simp only [Act.put, List.getElem_toArray, List.getElem_cons_succ, List.getElem_cons_zero, List.setIfInBounds_toArray, List.set_cons_succ, List.set_cons_zero]
  refine wpAnyC_take 1 (.slice (some ⟨G, 16, none⟩) 32 32) rfl (by kernel_rfl) (by kernel_rfl) (by kernel_rfl) (fun _ _ _ h => h) (wanted_free rfl _) (fun W hW => by go_simp) ?_
  try simp only [Act.put, List.getElem_toArray, List.getElem_cons_succ, List.getElem_cons_zero, List.setIfInBounds_toArray, List.set_cons_succ, List.set_cons_zero]
  refine wpAnyC_take 2 (.pointer (some ⟨B, 5, none⟩)) rfl (by kernel_rfl) (by kernel_rfl) (by kernel_rfl) (fun _ _ _ h => h) (wanted_free rfl _) (fun W hW => by go_simp) ?_
  try simp only [Act.put, List.getElem_toArray, List.getElem_cons_succ, List.getElem_cons_zero, List.setIfInBounds_toArray, List.set_cons_succ, List.set_cons_zero]
  refine wpAnyC_take 3 (.int .u32 tag) rfl (by kernel_rfl) (by kernel_rfl) (by kernel_rfl) (fun _ _ _ h => h) (wanted_free rfl _) (fun W hW => by have hq := (hc.out W B hW).2.2.2.2.2.1; go_simp) ?_
  try simp only [Act.put, List.getElem_toArray, List.getElem_cons_succ, List.getElem_cons_zero, List.setIfInBounds_toArray, List.set_cons_succ, List.set_cons_zero]
  refine wpAnyC_take 4 (.int .u64 tag) rfl (by kernel_rfl) (by kernel_rfl) (by kernel_rfl) (fun _ _ _ h => h) (wanted_free rfl _) (fun W hW => by go_simp) ?_
  try simp only [Act.put, List.getElem_toArray, List.getElem_cons_succ, List.getElem_cons_zero, List.setIfInBounds_toArray, List.set_cons_succ, List.set_cons_zero]
  refine wpAnyC_one 5 (hXp.out.drew) rfl (by kernel_rfl) (wanted_free rfl _) (fun KA hKA => ?_)
  go_simp
  refine (hN4.out _ tag htg.1 htg.2).mono ?_
  rintro e w7 ⟨gN, rfl, hoN, hbN⟩
  replace hbN := below_undrew hbN
  have hXN : Kpt (Bx w7 B V) := ⟨hXp.out.below hbN hXp.out.lt⟩
  have hbeN : Kpt (Below w.heap.size w w7) := ⟨hbp.out.trans (hbN.mono hbp.out.size)⟩
  have howN : Kpt (w7.ownsRow w0.heap.size 5 1 (.slice (some ⟨G, 0, none⟩) 48 48) 48 (cels Zp)) := ⟨own_of_block hop.out fun g hg => hbN.block g (World.ownsRow.lt hop.out g hg).2⟩
  replace hoN := Kpt.mk hoN
  clear hbN
  refine hKA _ _ ?_
  clear hKA KA
  try simp only [Act.put, List.getElem_toArray, List.getElem_cons_succ, List.getElem_cons_zero, List.setIfInBounds_toArray, List.set_cons_succ, List.set_cons_zero]
  refine wpAnyC_one 6 (hXN.out) rfl (by kernel_rfl) (wanted_free rfl _) (fun KA hKA => ?_)
  refine wp_copy_at (.tmp 31) (.tmp 35) rfl w0.heap.size G 16 48 32 32 Zp (bigL tag 4) (.slice (some ⟨gN, 0, none⟩) 4 4) rfl rfl howN.out (own_rd hoN.out) (by rw [bigL_len]; decide) (by rw [bigL_len]; decide) (by rw [bigL_len]; decide) ?_
  intro w8 hoC hgC
  rw [bigL_len]
  refine hKA _ _ ?_
  clear hKA KA
  have hXC : Kpt (Bx w8 B V) := ⟨hXN.out.grown hgC (fun e => hBG.out (Option.some.inj e).symm)⟩
  have hbC : Kpt (Below w.heap.size w w8) := ⟨hbeN.out.grown hgC hbeN.out.size (fun k h => by cases h; exact hGw.out)⟩
  replace hoC := Kpt.mk hoC
  clear hgC hXN hbeN howN hoN
  try simp only [Act.put, List.getElem_toArray, List.getElem_cons_succ, List.getElem_cons_zero, List.setIfInBounds_toArray, List.set_cons_succ, List.set_cons_zero]
  refine wpAnyC_done (hXC.out) (by kernel_rfl) ?_
  rw [hZp, ← h0.out] at hoC
  clear hXp hbp hop hZp hX6 hb6 ho6
  go_wp2_with (refine wpList_load_mid rfl 23 (.tmp 37) rfl B 6 rfl [.int .u32 a0, .int .u32 a1, .int .u32 a2, .int .u32 a3, .int .u32 a4, .int .u32 a5, .int .u32 a6] _ (hwsr.out _ _ hXC.out) Try.underlying23 rfl size23 ?_)
  go_loopw [39] (fun t wr => ∃ k : Nat, k ≤ 7 ∧ t = .int .i64 k ∧ Kpt (Bx wr B V) ∧ Kpt (Below w.heap.size w wr) ∧ Kpt (wr.ownsRow w0.heap.size 5 1 (.slice (some ⟨G, 0, none⟩) 48 48) 48 (cels (hK p k)))) (fun t _ => 7 - (intOf t).toNat)
  case atStart => exact ⟨0, by omega, rfl, hXC, hbC, hoC⟩
  case round =>
    obtain ⟨k, hk, rfl, hXp, hbp, hop⟩ := hrel
    clear hXC hbC hoC
    by_cases hlt : k < 7
    · obtain rfl | rfl | rfl | rfl | rfl | rfl | rfl : k = 0 ∨ k = 1 ∨ k = 2 ∨ k = 3 ∨ k = 4 ∨ k = 5 ∨ k = 6 := by omega
      · have hwb : Kpt (0 ≤ a0 ∧ a0 ≤ 4294967295) := ⟨by have := hwsb.out 0; rw [hw.out] at this; exact this⟩
        have hww : IntKind.u64.wrap a0 = a0 := hwrp.out _ hwb.out.1 (by have := hwb.out.2; omega)
        obtain ⟨Zp, hZp⟩ : ∃ Z, Z = hK p 0 := ⟨_, rfl⟩
        rw [← hZp] at hop
        have hst : Kpt (hK p 1 = over Zp 20 (bigL a0 4)) := ⟨by rw [hZp]; show over (hK p 0) (20 + 4 * 0) (bigL (p.ws.getD 0 0) 4) = _; rw [hw.out]; rfl⟩
        clear hZp
        have hix : ∀ W, (Instr.index 23 (.agg #[.int .u32 a0, .int .u32 a1, .int .u32 a2, .int .u32 a3, .int .u32 a4, .int .u32 a5, .int .u32 a6]) (.int .i64 0)).run Try.prog W = .ok (.int .u32 a0) W := fun _ => by kernel_rfl
        go_wp2_with fail
        clear hix
        refine wp_region_any (by kernel_rfl) ?_
        refine wpAny_of_C (C := fun W => Bx W B V) _ _ _ _ ?_
        refine wpAnyC_take 0 (.slice (some ⟨G, 0, none⟩) 48 48) rfl (by kernel_rfl) (by kernel_rfl) (by kernel_rfl) (fun _ _ _ h => h) (wanted_free rfl _) (fun W hW => by go_simp) ?_
        try simp only [Act.put, List.getElem_toArray, List.getElem_cons_succ, List.getElem_cons_zero, List.setIfInBounds_toArray, List.set_cons_succ, List.set_cons_zero]
        refine wpAnyC_take 1 (.int .i64 0) rfl (by kernel_rfl) (by kernel_rfl) (by kernel_rfl) (fun _ _ _ h => h) (wanted_free rfl _) (fun W hW => by go_simp) ?_
        try simp only [Act.put, List.getElem_toArray, List.getElem_cons_succ, List.getElem_cons_zero, List.setIfInBounds_toArray, List.set_cons_succ, List.set_cons_zero]
        refine wpAnyC_take 2 (.int .i64 0) rfl (by kernel_rfl) (by kernel_rfl) (by kernel_rfl) (fun _ _ _ h => h) (wanted_free rfl _) (fun W hW => by first | (go_simp; done) | (go_simp; rfl)) ?_
        try simp only [Act.put, List.getElem_toArray, List.getElem_cons_succ, List.getElem_cons_zero, List.setIfInBounds_toArray, List.set_cons_succ, List.set_cons_zero]
        refine wpAnyC_take 3 (.int .i64 20) rfl (by kernel_rfl) (by kernel_rfl) (by kernel_rfl) (fun _ _ _ h => h) (wanted_free rfl _) (fun W hW => by first | (go_simp; done) | (go_simp; rfl)) ?_
        try simp only [Act.put, List.getElem_toArray, List.getElem_cons_succ, List.getElem_cons_zero, List.setIfInBounds_toArray, List.set_cons_succ, List.set_cons_zero]
        refine wpAnyC_take 4 (.slice (some ⟨G, 20, none⟩) 28 28) rfl (by kernel_rfl) (by kernel_rfl) (by kernel_rfl) (fun _ _ _ h => h) (wanted_free rfl _) (fun W hW => by go_simp) ?_
        try simp only [Act.put, List.getElem_toArray, List.getElem_cons_succ, List.getElem_cons_zero, List.setIfInBounds_toArray, List.set_cons_succ, List.set_cons_zero]
        refine wpAnyC_take 5 (.int .u32 a0) rfl (by kernel_rfl) (by kernel_rfl) (by kernel_rfl) (fun _ _ _ h => h) (wanted_free rfl _) (fun W hW => by go_simp) ?_
        try simp only [Act.put, List.getElem_toArray, List.getElem_cons_succ, List.getElem_cons_zero, List.setIfInBounds_toArray, List.set_cons_succ, List.set_cons_zero]
        refine wpAnyC_take 6 (.int .u64 a0) rfl (by kernel_rfl) (by kernel_rfl) (by kernel_rfl) (fun _ _ _ h => h) (wanted_free rfl _) (fun W hW => by go_simp) ?_
        try simp only [Act.put, List.getElem_toArray, List.getElem_cons_succ, List.getElem_cons_zero, List.setIfInBounds_toArray, List.set_cons_succ, List.set_cons_zero]
        refine wpAnyC_one 7 (hXp.out.drew) rfl (by kernel_rfl) (wanted_free rfl _) (fun KA hKA => ?_)
        go_simp
        refine (hN4.out _ a0 hwb.out.1 hwb.out.2).mono ?_
        rintro e w9 ⟨gN, rfl, hoN, hbN⟩
        replace hbN := below_undrew hbN
        have hXN : Kpt (Bx w9 B V) := ⟨hXp.out.below hbN hXp.out.lt⟩
        have hbeN : Kpt (Below w.heap.size w w9) := ⟨hbp.out.trans (hbN.mono hbp.out.size)⟩
        have howN : Kpt (w9.ownsRow w0.heap.size 5 1 (.slice (some ⟨G, 0, none⟩) 48 48) 48 (cels Zp)) := ⟨own_of_block hop.out fun g hg => hbN.block g (World.ownsRow.lt hop.out g hg).2⟩
        replace hoN := Kpt.mk hoN
        clear hbN
        refine hKA _ _ ?_
        clear hKA KA
        try simp only [Act.put, List.getElem_toArray, List.getElem_cons_succ, List.getElem_cons_zero, List.setIfInBounds_toArray, List.set_cons_succ, List.set_cons_zero]
        refine wpAnyC_one 8 (hXN.out) rfl (by kernel_rfl) (wanted_free rfl _) (fun KA hKA => ?_)
        refine wp_copy_at (.tmp 47) (.tmp 50) rfl w0.heap.size G 20 48 28 28 Zp (bigL a0 4) (.slice (some ⟨gN, 0, none⟩) 4 4) rfl rfl howN.out (own_rd hoN.out) (by rw [bigL_len]; decide) (by rw [bigL_len]; decide) (by rw [bigL_len]; decide) ?_
        intro w10 hoC hgC
        rw [bigL_len]
        refine hKA _ _ ?_
        clear hKA KA
        have hXC : Kpt (Bx w10 B V) := ⟨hXN.out.grown hgC (fun e => hBG.out (Option.some.inj e).symm)⟩
        have hbC : Kpt (Below w.heap.size w w10) := ⟨hbeN.out.grown hgC hbeN.out.size (fun k h => by cases h; exact hGw.out)⟩
        replace hoC := Kpt.mk hoC
        clear hgC hXN hbeN howN hoN
        try simp only [Act.put, List.getElem_toArray, List.getElem_cons_succ, List.getElem_cons_zero, List.setIfInBounds_toArray, List.set_cons_succ, List.set_cons_zero]
        refine wpAnyC_done (hXC.out) (by kernel_rfl) ?_
        rw [← hst.out] at hoC
        go_wp2
        go_roundw
        case rel => exact ⟨1, by omega, by first | rfl | go_num, hXC, hbC, hoC⟩
        case measure => simp [intOf]
      · have hwb : Kpt (0 ≤ a1 ∧ a1 ≤ 4294967295) := ⟨by have := hwsb.out 1; rw [hw.out] at this; exact this⟩
        have hww : IntKind.u64.wrap a1 = a1 := hwrp.out _ hwb.out.1 (by have := hwb.out.2; omega)
        obtain ⟨Zp, hZp⟩ : ∃ Z, Z = hK p 1 := ⟨_, rfl⟩
        rw [← hZp] at hop
        have hst : Kpt (hK p 2 = over Zp 24 (bigL a1 4)) := ⟨by rw [hZp]; show over (hK p 1) (20 + 4 * 1) (bigL (p.ws.getD 1 0) 4) = _; rw [hw.out]; rfl⟩
        clear hZp
        have hix : ∀ W, (Instr.index 23 (.agg #[.int .u32 a0, .int .u32 a1, .int .u32 a2, .int .u32 a3, .int .u32 a4, .int .u32 a5, .int .u32 a6]) (.int .i64 1)).run Try.prog W = .ok (.int .u32 a1) W := fun _ => by kernel_rfl
        go_wp2_with fail
        clear hix
        refine wp_region_any (by kernel_rfl) ?_
        refine wpAny_of_C (C := fun W => Bx W B V) _ _ _ _ ?_
        refine wpAnyC_take 0 (.slice (some ⟨G, 0, none⟩) 48 48) rfl (by kernel_rfl) (by kernel_rfl) (by kernel_rfl) (fun _ _ _ h => h) (wanted_free rfl _) (fun W hW => by go_simp) ?_
        try simp only [Act.put, List.getElem_toArray, List.getElem_cons_succ, List.getElem_cons_zero, List.setIfInBounds_toArray, List.set_cons_succ, List.set_cons_zero]
        refine wpAnyC_take 1 (.int .i64 1) rfl (by kernel_rfl) (by kernel_rfl) (by kernel_rfl) (fun _ _ _ h => h) (wanted_free rfl _) (fun W hW => by go_simp) ?_
        try simp only [Act.put, List.getElem_toArray, List.getElem_cons_succ, List.getElem_cons_zero, List.setIfInBounds_toArray, List.set_cons_succ, List.set_cons_zero]
        refine wpAnyC_take 2 (.int .i64 4) rfl (by kernel_rfl) (by kernel_rfl) (by kernel_rfl) (fun _ _ _ h => h) (wanted_free rfl _) (fun W hW => by first | (go_simp; done) | (go_simp; rfl)) ?_
        try simp only [Act.put, List.getElem_toArray, List.getElem_cons_succ, List.getElem_cons_zero, List.setIfInBounds_toArray, List.set_cons_succ, List.set_cons_zero]
        refine wpAnyC_take 3 (.int .i64 24) rfl (by kernel_rfl) (by kernel_rfl) (by kernel_rfl) (fun _ _ _ h => h) (wanted_free rfl _) (fun W hW => by first | (go_simp; done) | (go_simp; rfl)) ?_
        try simp only [Act.put, List.getElem_toArray, List.getElem_cons_succ, List.getElem_cons_zero, List.setIfInBounds_toArray, List.set_cons_succ, List.set_cons_zero]
        refine wpAnyC_take 4 (.slice (some ⟨G, 24, none⟩) 24 24) rfl (by kernel_rfl) (by kernel_rfl) (by kernel_rfl) (fun _ _ _ h => h) (wanted_free rfl _) (fun W hW => by go_simp) ?_
        try simp only [Act.put, List.getElem_toArray, List.getElem_cons_succ, List.getElem_cons_zero, List.setIfInBounds_toArray, List.set_cons_succ, List.set_cons_zero]
        refine wpAnyC_take 5 (.int .u32 a1) rfl (by kernel_rfl) (by kernel_rfl) (by kernel_rfl) (fun _ _ _ h => h) (wanted_free rfl _) (fun W hW => by go_simp) ?_
        try simp only [Act.put, List.getElem_toArray, List.getElem_cons_succ, List.getElem_cons_zero, List.setIfInBounds_toArray, List.set_cons_succ, List.set_cons_zero]
        refine wpAnyC_take 6 (.int .u64 a1) rfl (by kernel_rfl) (by kernel_rfl) (by kernel_rfl) (fun _ _ _ h => h) (wanted_free rfl _) (fun W hW => by go_simp) ?_
        try simp only [Act.put, List.getElem_toArray, List.getElem_cons_succ, List.getElem_cons_zero, List.setIfInBounds_toArray, List.set_cons_succ, List.set_cons_zero]
        refine wpAnyC_one 7 (hXp.out.drew) rfl (by kernel_rfl) (wanted_free rfl _) (fun KA hKA => ?_)
        go_simp
        refine (hN4.out _ a1 hwb.out.1 hwb.out.2).mono ?_
        rintro e w9 ⟨gN, rfl, hoN, hbN⟩
        replace hbN := below_undrew hbN
        have hXN : Kpt (Bx w9 B V) := ⟨hXp.out.below hbN hXp.out.lt⟩
        have hbeN : Kpt (Below w.heap.size w w9) := ⟨hbp.out.trans (hbN.mono hbp.out.size)⟩
        have howN : Kpt (w9.ownsRow w0.heap.size 5 1 (.slice (some ⟨G, 0, none⟩) 48 48) 48 (cels Zp)) := ⟨own_of_block hop.out fun g hg => hbN.block g (World.ownsRow.lt hop.out g hg).2⟩
        replace hoN := Kpt.mk hoN
        clear hbN
        refine hKA _ _ ?_
        clear hKA KA
        try simp only [Act.put, List.getElem_toArray, List.getElem_cons_succ, List.getElem_cons_zero, List.setIfInBounds_toArray, List.set_cons_succ, List.set_cons_zero]
        refine wpAnyC_one 8 (hXN.out) rfl (by kernel_rfl) (wanted_free rfl _) (fun KA hKA => ?_)
        refine wp_copy_at (.tmp 47) (.tmp 50) rfl w0.heap.size G 24 48 24 24 Zp (bigL a1 4) (.slice (some ⟨gN, 0, none⟩) 4 4) rfl rfl howN.out (own_rd hoN.out) (by rw [bigL_len]; decide) (by rw [bigL_len]; decide) (by rw [bigL_len]; decide) ?_
        intro w10 hoC hgC
        rw [bigL_len]
        refine hKA _ _ ?_
        clear hKA KA
        have hXC : Kpt (Bx w10 B V) := ⟨hXN.out.grown hgC (fun e => hBG.out (Option.some.inj e).symm)⟩
        have hbC : Kpt (Below w.heap.size w w10) := ⟨hbeN.out.grown hgC hbeN.out.size (fun k h => by cases h; exact hGw.out)⟩
        replace hoC := Kpt.mk hoC
        clear hgC hXN hbeN howN hoN
        try simp only [Act.put, List.getElem_toArray, List.getElem_cons_succ, List.getElem_cons_zero, List.setIfInBounds_toArray, List.set_cons_succ, List.set_cons_zero]
        refine wpAnyC_done (hXC.out) (by kernel_rfl) ?_
        rw [← hst.out] at hoC
        go_wp2
        go_roundw
        case rel => exact ⟨2, by omega, by first | rfl | go_num, hXC, hbC, hoC⟩
        case measure => simp [intOf]
      · have hwb : Kpt (0 ≤ a2 ∧ a2 ≤ 4294967295) := ⟨by have := hwsb.out 2; rw [hw.out] at this; exact this⟩
        have hww : IntKind.u64.wrap a2 = a2 := hwrp.out _ hwb.out.1 (by have := hwb.out.2; omega)
        obtain ⟨Zp, hZp⟩ : ∃ Z, Z = hK p 2 := ⟨_, rfl⟩
        rw [← hZp] at hop
        have hst : Kpt (hK p 3 = over Zp 28 (bigL a2 4)) := ⟨by rw [hZp]; show over (hK p 2) (20 + 4 * 2) (bigL (p.ws.getD 2 0) 4) = _; rw [hw.out]; rfl⟩
        clear hZp
        have hix : ∀ W, (Instr.index 23 (.agg #[.int .u32 a0, .int .u32 a1, .int .u32 a2, .int .u32 a3, .int .u32 a4, .int .u32 a5, .int .u32 a6]) (.int .i64 2)).run Try.prog W = .ok (.int .u32 a2) W := fun _ => by kernel_rfl
        go_wp2_with fail
        clear hix
        refine wp_region_any (by kernel_rfl) ?_
        refine wpAny_of_C (C := fun W => Bx W B V) _ _ _ _ ?_
        refine wpAnyC_take 0 (.slice (some ⟨G, 0, none⟩) 48 48) rfl (by kernel_rfl) (by kernel_rfl) (by kernel_rfl) (fun _ _ _ h => h) (wanted_free rfl _) (fun W hW => by go_simp) ?_
        try simp only [Act.put, List.getElem_toArray, List.getElem_cons_succ, List.getElem_cons_zero, List.setIfInBounds_toArray, List.set_cons_succ, List.set_cons_zero]
        refine wpAnyC_take 1 (.int .i64 2) rfl (by kernel_rfl) (by kernel_rfl) (by kernel_rfl) (fun _ _ _ h => h) (wanted_free rfl _) (fun W hW => by go_simp) ?_
        try simp only [Act.put, List.getElem_toArray, List.getElem_cons_succ, List.getElem_cons_zero, List.setIfInBounds_toArray, List.set_cons_succ, List.set_cons_zero]
        refine wpAnyC_take 2 (.int .i64 8) rfl (by kernel_rfl) (by kernel_rfl) (by kernel_rfl) (fun _ _ _ h => h) (wanted_free rfl _) (fun W hW => by first | (go_simp; done) | (go_simp; rfl)) ?_
        try simp only [Act.put, List.getElem_toArray, List.getElem_cons_succ, List.getElem_cons_zero, List.setIfInBounds_toArray, List.set_cons_succ, List.set_cons_zero]
        refine wpAnyC_take 3 (.int .i64 28) rfl (by kernel_rfl) (by kernel_rfl) (by kernel_rfl) (fun _ _ _ h => h) (wanted_free rfl _) (fun W hW => by first | (go_simp; done) | (go_simp; rfl)) ?_
        try simp only [Act.put, List.getElem_toArray, List.getElem_cons_succ, List.getElem_cons_zero, List.setIfInBounds_toArray, List.set_cons_succ, List.set_cons_zero]
        refine wpAnyC_take 4 (.slice (some ⟨G, 28, none⟩) 20 20) rfl (by kernel_rfl) (by kernel_rfl) (by kernel_rfl) (fun _ _ _ h => h) (wanted_free rfl _) (fun W hW => by go_simp) ?_
        try simp only [Act.put, List.getElem_toArray, List.getElem_cons_succ, List.getElem_cons_zero, List.setIfInBounds_toArray, List.set_cons_succ, List.set_cons_zero]
        refine wpAnyC_take 5 (.int .u32 a2) rfl (by kernel_rfl) (by kernel_rfl) (by kernel_rfl) (fun _ _ _ h => h) (wanted_free rfl _) (fun W hW => by go_simp) ?_
        try simp only [Act.put, List.getElem_toArray, List.getElem_cons_succ, List.getElem_cons_zero, List.setIfInBounds_toArray, List.set_cons_succ, List.set_cons_zero]
        refine wpAnyC_take 6 (.int .u64 a2) rfl (by kernel_rfl) (by kernel_rfl) (by kernel_rfl) (fun _ _ _ h => h) (wanted_free rfl _) (fun W hW => by go_simp) ?_
        try simp only [Act.put, List.getElem_toArray, List.getElem_cons_succ, List.getElem_cons_zero, List.setIfInBounds_toArray, List.set_cons_succ, List.set_cons_zero]
        refine wpAnyC_one 7 (hXp.out.drew) rfl (by kernel_rfl) (wanted_free rfl _) (fun KA hKA => ?_)
        go_simp
        refine (hN4.out _ a2 hwb.out.1 hwb.out.2).mono ?_
        rintro e w9 ⟨gN, rfl, hoN, hbN⟩
        replace hbN := below_undrew hbN
        have hXN : Kpt (Bx w9 B V) := ⟨hXp.out.below hbN hXp.out.lt⟩
        have hbeN : Kpt (Below w.heap.size w w9) := ⟨hbp.out.trans (hbN.mono hbp.out.size)⟩
        have howN : Kpt (w9.ownsRow w0.heap.size 5 1 (.slice (some ⟨G, 0, none⟩) 48 48) 48 (cels Zp)) := ⟨own_of_block hop.out fun g hg => hbN.block g (World.ownsRow.lt hop.out g hg).2⟩
        replace hoN := Kpt.mk hoN
        clear hbN
        refine hKA _ _ ?_
        clear hKA KA
        try simp only [Act.put, List.getElem_toArray, List.getElem_cons_succ, List.getElem_cons_zero, List.setIfInBounds_toArray, List.set_cons_succ, List.set_cons_zero]
        refine wpAnyC_one 8 (hXN.out) rfl (by kernel_rfl) (wanted_free rfl _) (fun KA hKA => ?_)
        refine wp_copy_at (.tmp 47) (.tmp 50) rfl w0.heap.size G 28 48 20 20 Zp (bigL a2 4) (.slice (some ⟨gN, 0, none⟩) 4 4) rfl rfl howN.out (own_rd hoN.out) (by rw [bigL_len]; decide) (by rw [bigL_len]; decide) (by rw [bigL_len]; decide) ?_
        intro w10 hoC hgC
        rw [bigL_len]
        refine hKA _ _ ?_
        clear hKA KA
        have hXC : Kpt (Bx w10 B V) := ⟨hXN.out.grown hgC (fun e => hBG.out (Option.some.inj e).symm)⟩
        have hbC : Kpt (Below w.heap.size w w10) := ⟨hbeN.out.grown hgC hbeN.out.size (fun k h => by cases h; exact hGw.out)⟩
        replace hoC := Kpt.mk hoC
        clear hgC hXN hbeN howN hoN
        try simp only [Act.put, List.getElem_toArray, List.getElem_cons_succ, List.getElem_cons_zero, List.setIfInBounds_toArray, List.set_cons_succ, List.set_cons_zero]
        refine wpAnyC_done (hXC.out) (by kernel_rfl) ?_
        rw [← hst.out] at hoC
        go_wp2
        go_roundw
        case rel => exact ⟨3, by omega, by first | rfl | go_num, hXC, hbC, hoC⟩
        case measure => simp [intOf]
      · have hwb : Kpt (0 ≤ a3 ∧ a3 ≤ 4294967295) := ⟨by have := hwsb.out 3; rw [hw.out] at this; exact this⟩
        have hww : IntKind.u64.wrap a3 = a3 := hwrp.out _ hwb.out.1 (by have := hwb.out.2; omega)
        obtain ⟨Zp, hZp⟩ : ∃ Z, Z = hK p 3 := ⟨_, rfl⟩
        rw [← hZp] at hop
        have hst : Kpt (hK p 4 = over Zp 32 (bigL a3 4)) := ⟨by rw [hZp]; show over (hK p 3) (20 + 4 * 3) (bigL (p.ws.getD 3 0) 4) = _; rw [hw.out]; rfl⟩
        clear hZp
        have hix : ∀ W, (Instr.index 23 (.agg #[.int .u32 a0, .int .u32 a1, .int .u32 a2, .int .u32 a3, .int .u32 a4, .int .u32 a5, .int .u32 a6]) (.int .i64 3)).run Try.prog W = .ok (.int .u32 a3) W := fun _ => by kernel_rfl
        go_wp2_with fail
        clear hix
        refine wp_region_any (by kernel_rfl) ?_
        refine wpAny_of_C (C := fun W => Bx W B V) _ _ _ _ ?_
        refine wpAnyC_take 0 (.slice (some ⟨G, 0, none⟩) 48 48) rfl (by kernel_rfl) (by kernel_rfl) (by kernel_rfl) (fun _ _ _ h => h) (wanted_free rfl _) (fun W hW => by go_simp) ?_
        try simp only [Act.put, List.getElem_toArray, List.getElem_cons_succ, List.getElem_cons_zero, List.setIfInBounds_toArray, List.set_cons_succ, List.set_cons_zero]
        refine wpAnyC_take 1 (.int .i64 3) rfl (by kernel_rfl) (by kernel_rfl) (by kernel_rfl) (fun _ _ _ h => h) (wanted_free rfl _) (fun W hW => by go_simp) ?_
        try simp only [Act.put, List.getElem_toArray, List.getElem_cons_succ, List.getElem_cons_zero, List.setIfInBounds_toArray, List.set_cons_succ, List.set_cons_zero]
        refine wpAnyC_take 2 (.int .i64 12) rfl (by kernel_rfl) (by kernel_rfl) (by kernel_rfl) (fun _ _ _ h => h) (wanted_free rfl _) (fun W hW => by first | (go_simp; done) | (go_simp; rfl)) ?_
        try simp only [Act.put, List.getElem_toArray, List.getElem_cons_succ, List.getElem_cons_zero, List.setIfInBounds_toArray, List.set_cons_succ, List.set_cons_zero]
        refine wpAnyC_take 3 (.int .i64 32) rfl (by kernel_rfl) (by kernel_rfl) (by kernel_rfl) (fun _ _ _ h => h) (wanted_free rfl _) (fun W hW => by first | (go_simp; done) | (go_simp; rfl)) ?_
        try simp only [Act.put, List.getElem_toArray, List.getElem_cons_succ, List.getElem_cons_zero, List.setIfInBounds_toArray, List.set_cons_succ, List.set_cons_zero]
        refine wpAnyC_take 4 (.slice (some ⟨G, 32, none⟩) 16 16) rfl (by kernel_rfl) (by kernel_rfl) (by kernel_rfl) (fun _ _ _ h => h) (wanted_free rfl _) (fun W hW => by go_simp) ?_
        try simp only [Act.put, List.getElem_toArray, List.getElem_cons_succ, List.getElem_cons_zero, List.setIfInBounds_toArray, List.set_cons_succ, List.set_cons_zero]
        refine wpAnyC_take 5 (.int .u32 a3) rfl (by kernel_rfl) (by kernel_rfl) (by kernel_rfl) (fun _ _ _ h => h) (wanted_free rfl _) (fun W hW => by go_simp) ?_
        try simp only [Act.put, List.getElem_toArray, List.getElem_cons_succ, List.getElem_cons_zero, List.setIfInBounds_toArray, List.set_cons_succ, List.set_cons_zero]
        refine wpAnyC_take 6 (.int .u64 a3) rfl (by kernel_rfl) (by kernel_rfl) (by kernel_rfl) (fun _ _ _ h => h) (wanted_free rfl _) (fun W hW => by go_simp) ?_
        try simp only [Act.put, List.getElem_toArray, List.getElem_cons_succ, List.getElem_cons_zero, List.setIfInBounds_toArray, List.set_cons_succ, List.set_cons_zero]
        refine wpAnyC_one 7 (hXp.out.drew) rfl (by kernel_rfl) (wanted_free rfl _) (fun KA hKA => ?_)
        go_simp
        refine (hN4.out _ a3 hwb.out.1 hwb.out.2).mono ?_
        rintro e w9 ⟨gN, rfl, hoN, hbN⟩
        replace hbN := below_undrew hbN
        have hXN : Kpt (Bx w9 B V) := ⟨hXp.out.below hbN hXp.out.lt⟩
        have hbeN : Kpt (Below w.heap.size w w9) := ⟨hbp.out.trans (hbN.mono hbp.out.size)⟩
        have howN : Kpt (w9.ownsRow w0.heap.size 5 1 (.slice (some ⟨G, 0, none⟩) 48 48) 48 (cels Zp)) := ⟨own_of_block hop.out fun g hg => hbN.block g (World.ownsRow.lt hop.out g hg).2⟩
        replace hoN := Kpt.mk hoN
        clear hbN
        refine hKA _ _ ?_
        clear hKA KA
        try simp only [Act.put, List.getElem_toArray, List.getElem_cons_succ, List.getElem_cons_zero, List.setIfInBounds_toArray, List.set_cons_succ, List.set_cons_zero]
        refine wpAnyC_one 8 (hXN.out) rfl (by kernel_rfl) (wanted_free rfl _) (fun KA hKA => ?_)
        refine wp_copy_at (.tmp 47) (.tmp 50) rfl w0.heap.size G 32 48 16 16 Zp (bigL a3 4) (.slice (some ⟨gN, 0, none⟩) 4 4) rfl rfl howN.out (own_rd hoN.out) (by rw [bigL_len]; decide) (by rw [bigL_len]; decide) (by rw [bigL_len]; decide) ?_
        intro w10 hoC hgC
        rw [bigL_len]
        refine hKA _ _ ?_
        clear hKA KA
        have hXC : Kpt (Bx w10 B V) := ⟨hXN.out.grown hgC (fun e => hBG.out (Option.some.inj e).symm)⟩
        have hbC : Kpt (Below w.heap.size w w10) := ⟨hbeN.out.grown hgC hbeN.out.size (fun k h => by cases h; exact hGw.out)⟩
        replace hoC := Kpt.mk hoC
        clear hgC hXN hbeN howN hoN
        try simp only [Act.put, List.getElem_toArray, List.getElem_cons_succ, List.getElem_cons_zero, List.setIfInBounds_toArray, List.set_cons_succ, List.set_cons_zero]
        refine wpAnyC_done (hXC.out) (by kernel_rfl) ?_
        rw [← hst.out] at hoC
        go_wp2
        go_roundw
        case rel => exact ⟨4, by omega, by first | rfl | go_num, hXC, hbC, hoC⟩
        case measure => simp [intOf]
      · have hwb : Kpt (0 ≤ a4 ∧ a4 ≤ 4294967295) := ⟨by have := hwsb.out 4; rw [hw.out] at this; exact this⟩
        have hww : IntKind.u64.wrap a4 = a4 := hwrp.out _ hwb.out.1 (by have := hwb.out.2; omega)
        obtain ⟨Zp, hZp⟩ : ∃ Z, Z = hK p 4 := ⟨_, rfl⟩
        rw [← hZp] at hop
        have hst : Kpt (hK p 5 = over Zp 36 (bigL a4 4)) := ⟨by rw [hZp]; show over (hK p 4) (20 + 4 * 4) (bigL (p.ws.getD 4 0) 4) = _; rw [hw.out]; rfl⟩
        clear hZp
        have hix : ∀ W, (Instr.index 23 (.agg #[.int .u32 a0, .int .u32 a1, .int .u32 a2, .int .u32 a3, .int .u32 a4, .int .u32 a5, .int .u32 a6]) (.int .i64 4)).run Try.prog W = .ok (.int .u32 a4) W := fun _ => by kernel_rfl
        go_wp2_with fail
        clear hix
        refine wp_region_any (by kernel_rfl) ?_
        refine wpAny_of_C (C := fun W => Bx W B V) _ _ _ _ ?_
        refine wpAnyC_take 0 (.slice (some ⟨G, 0, none⟩) 48 48) rfl (by kernel_rfl) (by kernel_rfl) (by kernel_rfl) (fun _ _ _ h => h) (wanted_free rfl _) (fun W hW => by go_simp) ?_
        try simp only [Act.put, List.getElem_toArray, List.getElem_cons_succ, List.getElem_cons_zero, List.setIfInBounds_toArray, List.set_cons_succ, List.set_cons_zero]
        refine wpAnyC_take 1 (.int .i64 4) rfl (by kernel_rfl) (by kernel_rfl) (by kernel_rfl) (fun _ _ _ h => h) (wanted_free rfl _) (fun W hW => by go_simp) ?_
        try simp only [Act.put, List.getElem_toArray, List.getElem_cons_succ, List.getElem_cons_zero, List.setIfInBounds_toArray, List.set_cons_succ, List.set_cons_zero]
        refine wpAnyC_take 2 (.int .i64 16) rfl (by kernel_rfl) (by kernel_rfl) (by kernel_rfl) (fun _ _ _ h => h) (wanted_free rfl _) (fun W hW => by first | (go_simp; done) | (go_simp; rfl)) ?_
        try simp only [Act.put, List.getElem_toArray, List.getElem_cons_succ, List.getElem_cons_zero, List.setIfInBounds_toArray, List.set_cons_succ, List.set_cons_zero]
        refine wpAnyC_take 3 (.int .i64 36) rfl (by kernel_rfl) (by kernel_rfl) (by kernel_rfl) (fun _ _ _ h => h) (wanted_free rfl _) (fun W hW => by first | (go_simp; done) | (go_simp; rfl)) ?_
        try simp only [Act.put, List.getElem_toArray, List.getElem_cons_succ, List.getElem_cons_zero, List.setIfInBounds_toArray, List.set_cons_succ, List.set_cons_zero]
        refine wpAnyC_take 4 (.slice (some ⟨G, 36, none⟩) 12 12) rfl (by kernel_rfl) (by kernel_rfl) (by kernel_rfl) (fun _ _ _ h => h) (wanted_free rfl _) (fun W hW => by go_simp) ?_
        try simp only [Act.put, List.getElem_toArray, List.getElem_cons_succ, List.getElem_cons_zero, List.setIfInBounds_toArray, List.set_cons_succ, List.set_cons_zero]
        refine wpAnyC_take 5 (.int .u32 a4) rfl (by kernel_rfl) (by kernel_rfl) (by kernel_rfl) (fun _ _ _ h => h) (wanted_free rfl _) (fun W hW => by go_simp) ?_
        try simp only [Act.put, List.getElem_toArray, List.getElem_cons_succ, List.getElem_cons_zero, List.setIfInBounds_toArray, List.set_cons_succ, List.set_cons_zero]
        refine wpAnyC_take 6 (.int .u64 a4) rfl (by kernel_rfl) (by kernel_rfl) (by kernel_rfl) (fun _ _ _ h => h) (wanted_free rfl _) (fun W hW => by go_simp) ?_
        try simp only [Act.put, List.getElem_toArray, List.getElem_cons_succ, List.getElem_cons_zero, List.setIfInBounds_toArray, List.set_cons_succ, List.set_cons_zero]
        refine wpAnyC_one 7 (hXp.out.drew) rfl (by kernel_rfl) (wanted_free rfl _) (fun KA hKA => ?_)
        go_simp
        refine (hN4.out _ a4 hwb.out.1 hwb.out.2).mono ?_
        rintro e w9 ⟨gN, rfl, hoN, hbN⟩
        replace hbN := below_undrew hbN
        have hXN : Kpt (Bx w9 B V) := ⟨hXp.out.below hbN hXp.out.lt⟩
        have hbeN : Kpt (Below w.heap.size w w9) := ⟨hbp.out.trans (hbN.mono hbp.out.size)⟩
        have howN : Kpt (w9.ownsRow w0.heap.size 5 1 (.slice (some ⟨G, 0, none⟩) 48 48) 48 (cels Zp)) := ⟨own_of_block hop.out fun g hg => hbN.block g (World.ownsRow.lt hop.out g hg).2⟩
        replace hoN := Kpt.mk hoN
        clear hbN
        refine hKA _ _ ?_
        clear hKA KA
        try simp only [Act.put, List.getElem_toArray, List.getElem_cons_succ, List.getElem_cons_zero, List.setIfInBounds_toArray, List.set_cons_succ, List.set_cons_zero]
        refine wpAnyC_one 8 (hXN.out) rfl (by kernel_rfl) (wanted_free rfl _) (fun KA hKA => ?_)
        refine wp_copy_at (.tmp 47) (.tmp 50) rfl w0.heap.size G 36 48 12 12 Zp (bigL a4 4) (.slice (some ⟨gN, 0, none⟩) 4 4) rfl rfl howN.out (own_rd hoN.out) (by rw [bigL_len]; decide) (by rw [bigL_len]; decide) (by rw [bigL_len]; decide) ?_
        intro w10 hoC hgC
        rw [bigL_len]
        refine hKA _ _ ?_
        clear hKA KA
        have hXC : Kpt (Bx w10 B V) := ⟨hXN.out.grown hgC (fun e => hBG.out (Option.some.inj e).symm)⟩
        have hbC : Kpt (Below w.heap.size w w10) := ⟨hbeN.out.grown hgC hbeN.out.size (fun k h => by cases h; exact hGw.out)⟩
        replace hoC := Kpt.mk hoC
        clear hgC hXN hbeN howN hoN
        try simp only [Act.put, List.getElem_toArray, List.getElem_cons_succ, List.getElem_cons_zero, List.setIfInBounds_toArray, List.set_cons_succ, List.set_cons_zero]
        refine wpAnyC_done (hXC.out) (by kernel_rfl) ?_
        rw [← hst.out] at hoC
        go_wp2
        go_roundw
        case rel => exact ⟨5, by omega, by first | rfl | go_num, hXC, hbC, hoC⟩
        case measure => simp [intOf]
      · have hwb : Kpt (0 ≤ a5 ∧ a5 ≤ 4294967295) := ⟨by have := hwsb.out 5; rw [hw.out] at this; exact this⟩
        have hww : IntKind.u64.wrap a5 = a5 := hwrp.out _ hwb.out.1 (by have := hwb.out.2; omega)
        obtain ⟨Zp, hZp⟩ : ∃ Z, Z = hK p 5 := ⟨_, rfl⟩
        rw [← hZp] at hop
        have hst : Kpt (hK p 6 = over Zp 40 (bigL a5 4)) := ⟨by rw [hZp]; show over (hK p 5) (20 + 4 * 5) (bigL (p.ws.getD 5 0) 4) = _; rw [hw.out]; rfl⟩
        clear hZp
        have hix : ∀ W, (Instr.index 23 (.agg #[.int .u32 a0, .int .u32 a1, .int .u32 a2, .int .u32 a3, .int .u32 a4, .int .u32 a5, .int .u32 a6]) (.int .i64 5)).run Try.prog W = .ok (.int .u32 a5) W := fun _ => by kernel_rfl
        go_wp2_with fail
        clear hix
        refine wp_region_any (by kernel_rfl) ?_
        refine wpAny_of_C (C := fun W => Bx W B V) _ _ _ _ ?_
        refine wpAnyC_take 0 (.slice (some ⟨G, 0, none⟩) 48 48) rfl (by kernel_rfl) (by kernel_rfl) (by kernel_rfl) (fun _ _ _ h => h) (wanted_free rfl _) (fun W hW => by go_simp) ?_
        try simp only [Act.put, List.getElem_toArray, List.getElem_cons_succ, List.getElem_cons_zero, List.setIfInBounds_toArray, List.set_cons_succ, List.set_cons_zero]
        refine wpAnyC_take 1 (.int .i64 5) rfl (by kernel_rfl) (by kernel_rfl) (by kernel_rfl) (fun _ _ _ h => h) (wanted_free rfl _) (fun W hW => by go_simp) ?_
        try simp only [Act.put, List.getElem_toArray, List.getElem_cons_succ, List.getElem_cons_zero, List.setIfInBounds_toArray, List.set_cons_succ, List.set_cons_zero]
        refine wpAnyC_take 2 (.int .i64 20) rfl (by kernel_rfl) (by kernel_rfl) (by kernel_rfl) (fun _ _ _ h => h) (wanted_free rfl _) (fun W hW => by first | (go_simp; done) | (go_simp; rfl)) ?_
        try simp only [Act.put, List.getElem_toArray, List.getElem_cons_succ, List.getElem_cons_zero, List.setIfInBounds_toArray, List.set_cons_succ, List.set_cons_zero]
        refine wpAnyC_take 3 (.int .i64 40) rfl (by kernel_rfl) (by kernel_rfl) (by kernel_rfl) (fun _ _ _ h => h) (wanted_free rfl _) (fun W hW => by first | (go_simp; done) | (go_simp; rfl)) ?_
        try simp only [Act.put, List.getElem_toArray, List.getElem_cons_succ, List.getElem_cons_zero, List.setIfInBounds_toArray, List.set_cons_succ, List.set_cons_zero]
        refine wpAnyC_take 4 (.slice (some ⟨G, 40, none⟩) 8 8) rfl (by kernel_rfl) (by kernel_rfl) (by kernel_rfl) (fun _ _ _ h => h) (wanted_free rfl _) (fun W hW => by go_simp) ?_
        try simp only [Act.put, List.getElem_toArray, List.getElem_cons_succ, List.getElem_cons_zero, List.setIfInBounds_toArray, List.set_cons_succ, List.set_cons_zero]
        refine wpAnyC_take 5 (.int .u32 a5) rfl (by kernel_rfl) (by kernel_rfl) (by kernel_rfl) (fun _ _ _ h => h) (wanted_free rfl _) (fun W hW => by go_simp) ?_
        try simp only [Act.put, List.getElem_toArray, List.getElem_cons_succ, List.getElem_cons_zero, List.setIfInBounds_toArray, List.set_cons_succ, List.set_cons_zero]
        refine wpAnyC_take 6 (.int .u64 a5) rfl (by kernel_rfl) (by kernel_rfl) (by kernel_rfl) (fun _ _ _ h => h) (wanted_free rfl _) (fun W hW => by go_simp) ?_
        try simp only [Act.put, List.getElem_toArray, List.getElem_cons_succ, List.getElem_cons_zero, List.setIfInBounds_toArray, List.set_cons_succ, List.set_cons_zero]
        refine wpAnyC_one 7 (hXp.out.drew) rfl (by kernel_rfl) (wanted_free rfl _) (fun KA hKA => ?_)
        go_simp
        refine (hN4.out _ a5 hwb.out.1 hwb.out.2).mono ?_
        rintro e w9 ⟨gN, rfl, hoN, hbN⟩
        replace hbN := below_undrew hbN
        have hXN : Kpt (Bx w9 B V) := ⟨hXp.out.below hbN hXp.out.lt⟩
        have hbeN : Kpt (Below w.heap.size w w9) := ⟨hbp.out.trans (hbN.mono hbp.out.size)⟩
        have howN : Kpt (w9.ownsRow w0.heap.size 5 1 (.slice (some ⟨G, 0, none⟩) 48 48) 48 (cels Zp)) := ⟨own_of_block hop.out fun g hg => hbN.block g (World.ownsRow.lt hop.out g hg).2⟩
        replace hoN := Kpt.mk hoN
        clear hbN
        refine hKA _ _ ?_
        clear hKA KA
        try simp only [Act.put, List.getElem_toArray, List.getElem_cons_succ, List.getElem_cons_zero, List.setIfInBounds_toArray, List.set_cons_succ, List.set_cons_zero]
        refine wpAnyC_one 8 (hXN.out) rfl (by kernel_rfl) (wanted_free rfl _) (fun KA hKA => ?_)
        refine wp_copy_at (.tmp 47) (.tmp 50) rfl w0.heap.size G 40 48 8 8 Zp (bigL a5 4) (.slice (some ⟨gN, 0, none⟩) 4 4) rfl rfl howN.out (own_rd hoN.out) (by rw [bigL_len]; decide) (by rw [bigL_len]; decide) (by rw [bigL_len]; decide) ?_
        intro w10 hoC hgC
        rw [bigL_len]
        refine hKA _ _ ?_
        clear hKA KA
        have hXC : Kpt (Bx w10 B V) := ⟨hXN.out.grown hgC (fun e => hBG.out (Option.some.inj e).symm)⟩
        have hbC : Kpt (Below w.heap.size w w10) := ⟨hbeN.out.grown hgC hbeN.out.size (fun k h => by cases h; exact hGw.out)⟩
        replace hoC := Kpt.mk hoC
        clear hgC hXN hbeN howN hoN
        try simp only [Act.put, List.getElem_toArray, List.getElem_cons_succ, List.getElem_cons_zero, List.setIfInBounds_toArray, List.set_cons_succ, List.set_cons_zero]
        refine wpAnyC_done (hXC.out) (by kernel_rfl) ?_
        rw [← hst.out] at hoC
        go_wp2
        go_roundw
        case rel => exact ⟨6, by omega, by first | rfl | go_num, hXC, hbC, hoC⟩
        case measure => simp [intOf]
      · have hwb : Kpt (0 ≤ a6 ∧ a6 ≤ 4294967295) := ⟨by have := hwsb.out 6; rw [hw.out] at this; exact this⟩
        have hww : IntKind.u64.wrap a6 = a6 := hwrp.out _ hwb.out.1 (by have := hwb.out.2; omega)
        obtain ⟨Zp, hZp⟩ : ∃ Z, Z = hK p 6 := ⟨_, rfl⟩
        rw [← hZp] at hop
        have hst : Kpt (hK p 7 = over Zp 44 (bigL a6 4)) := ⟨by rw [hZp]; show over (hK p 6) (20 + 4 * 6) (bigL (p.ws.getD 6 0) 4) = _; rw [hw.out]; rfl⟩
        clear hZp
        have hix : ∀ W, (Instr.index 23 (.agg #[.int .u32 a0, .int .u32 a1, .int .u32 a2, .int .u32 a3, .int .u32 a4, .int .u32 a5, .int .u32 a6]) (.int .i64 6)).run Try.prog W = .ok (.int .u32 a6) W := fun _ => by kernel_rfl
        go_wp2_with fail
        clear hix
        refine wp_region_any (by kernel_rfl) ?_
        refine wpAny_of_C (C := fun W => Bx W B V) _ _ _ _ ?_
        refine wpAnyC_take 0 (.slice (some ⟨G, 0, none⟩) 48 48) rfl (by kernel_rfl) (by kernel_rfl) (by kernel_rfl) (fun _ _ _ h => h) (wanted_free rfl _) (fun W hW => by go_simp) ?_
        try simp only [Act.put, List.getElem_toArray, List.getElem_cons_succ, List.getElem_cons_zero, List.setIfInBounds_toArray, List.set_cons_succ, List.set_cons_zero]
        refine wpAnyC_take 1 (.int .i64 6) rfl (by kernel_rfl) (by kernel_rfl) (by kernel_rfl) (fun _ _ _ h => h) (wanted_free rfl _) (fun W hW => by go_simp) ?_
        try simp only [Act.put, List.getElem_toArray, List.getElem_cons_succ, List.getElem_cons_zero, List.setIfInBounds_toArray, List.set_cons_succ, List.set_cons_zero]
        refine wpAnyC_take 2 (.int .i64 24) rfl (by kernel_rfl) (by kernel_rfl) (by kernel_rfl) (fun _ _ _ h => h) (wanted_free rfl _) (fun W hW => by first | (go_simp; done) | (go_simp; rfl)) ?_
        try simp only [Act.put, List.getElem_toArray, List.getElem_cons_succ, List.getElem_cons_zero, List.setIfInBounds_toArray, List.set_cons_succ, List.set_cons_zero]
        refine wpAnyC_take 3 (.int .i64 44) rfl (by kernel_rfl) (by kernel_rfl) (by kernel_rfl) (fun _ _ _ h => h) (wanted_free rfl _) (fun W hW => by first | (go_simp; done) | (go_simp; rfl)) ?_
        try simp only [Act.put, List.getElem_toArray, List.getElem_cons_succ, List.getElem_cons_zero, List.setIfInBounds_toArray, List.set_cons_succ, List.set_cons_zero]
        refine wpAnyC_take 4 (.slice (some ⟨G, 44, none⟩) 4 4) rfl (by kernel_rfl) (by kernel_rfl) (by kernel_rfl) (fun _ _ _ h => h) (wanted_free rfl _) (fun W hW => by go_simp) ?_
        try simp only [Act.put, List.getElem_toArray, List.getElem_cons_succ, List.getElem_cons_zero, List.setIfInBounds_toArray, List.set_cons_succ, List.set_cons_zero]
        refine wpAnyC_take 5 (.int .u32 a6) rfl (by kernel_rfl) (by kernel_rfl) (by kernel_rfl) (fun _ _ _ h => h) (wanted_free rfl _) (fun W hW => by go_simp) ?_
        try simp only [Act.put, List.getElem_toArray, List.getElem_cons_succ, List.getElem_cons_zero, List.setIfInBounds_toArray, List.set_cons_succ, List.set_cons_zero]
        refine wpAnyC_take 6 (.int .u64 a6) rfl (by kernel_rfl) (by kernel_rfl) (by kernel_rfl) (fun _ _ _ h => h) (wanted_free rfl _) (fun W hW => by go_simp) ?_
        try simp only [Act.put, List.getElem_toArray, List.getElem_cons_succ, List.getElem_cons_zero, List.setIfInBounds_toArray, List.set_cons_succ, List.set_cons_zero]
        refine wpAnyC_one 7 (hXp.out.drew) rfl (by kernel_rfl) (wanted_free rfl _) (fun KA hKA => ?_)
        go_simp
        refine (hN4.out _ a6 hwb.out.1 hwb.out.2).mono ?_
        rintro e w9 ⟨gN, rfl, hoN, hbN⟩
        replace hbN := below_undrew hbN
        have hXN : Kpt (Bx w9 B V) := ⟨hXp.out.below hbN hXp.out.lt⟩
        have hbeN : Kpt (Below w.heap.size w w9) := ⟨hbp.out.trans (hbN.mono hbp.out.size)⟩
        have howN : Kpt (w9.ownsRow w0.heap.size 5 1 (.slice (some ⟨G, 0, none⟩) 48 48) 48 (cels Zp)) := ⟨own_of_block hop.out fun g hg => hbN.block g (World.ownsRow.lt hop.out g hg).2⟩
        replace hoN := Kpt.mk hoN
        clear hbN
        refine hKA _ _ ?_
        clear hKA KA
        try simp only [Act.put, List.getElem_toArray, List.getElem_cons_succ, List.getElem_cons_zero, List.setIfInBounds_toArray, List.set_cons_succ, List.set_cons_zero]
        refine wpAnyC_one 8 (hXN.out) rfl (by kernel_rfl) (wanted_free rfl _) (fun KA hKA => ?_)
        refine wp_copy_at (.tmp 47) (.tmp 50) rfl w0.heap.size G 44 48 4 4 Zp (bigL a6 4) (.slice (some ⟨gN, 0, none⟩) 4 4) rfl rfl howN.out (own_rd hoN.out) (by rw [bigL_len]; decide) (by rw [bigL_len]; decide) (by rw [bigL_len]; decide) ?_
        intro w10 hoC hgC
        rw [bigL_len]
        refine hKA _ _ ?_
        clear hKA KA
        have hXC : Kpt (Bx w10 B V) := ⟨hXN.out.grown hgC (fun e => hBG.out (Option.some.inj e).symm)⟩
        have hbC : Kpt (Below w.heap.size w w10) := ⟨hbeN.out.grown hgC hbeN.out.size (fun k h => by cases h; exact hGw.out)⟩
        replace hoC := Kpt.mk hoC
        clear hgC hXN hbeN howN hoN
        try simp only [Act.put, List.getElem_toArray, List.getElem_cons_succ, List.getElem_cons_zero, List.setIfInBounds_toArray, List.set_cons_succ, List.set_cons_zero]
        refine wpAnyC_done (hXC.out) (by kernel_rfl) ?_
        rw [← hst.out] at hoC
        go_wp2
        go_roundw
        case rel => exact ⟨7, by omega, by first | rfl | go_num, hXC, hbC, hoC⟩
        case measure => simp [intOf]
    · obtain rfl : k = 7 := by omega
      rw [h7.out] at hop
      go_wp2
      go_ret
      exact ⟨G, rfl, own_base hop.out hb0.out.size, hbp.out⟩
end Go.Proofs.Ytigfoldobkigeaa
