/-
  PiHonest: the walk, a case a theorem.
-/
import Derived.Test.YtcnjnebhidfogaaGHonP
namespace Go.Proofs.Ytcnjnebhidfogaa
open Go.RowKit
set_option linter.unusedVariables false
set_option linter.unusedSimpArgs false

set_option maxRecDepth 100000 in
set_option maxHeartbeats 4000000 in
theorem hon_D0 (kind prot lba app at' bit K P y L2 : Int) (i : Nat) (d : List Int) (w : World) (hd : d.length = 16) (hb : ∀ x ∈ d, 0 ≤ x ∧ x ≤ 255) (hy : 0 ≤ y ∧ y ≤ 255)
    (q0 : 0 ≤ kind ∧ kind ≤ 255) (q1 : 0 ≤ prot ∧ prot ≤ 255) (q2 : 0 ≤ lba ∧ lba ≤ 18446744073709551615) (q4 : 0 ≤ app ∧ app ≤ 65535) (q5 : 0 ≤ at' ∧ at' ≤ 255) (q6 : 0 ≤ bit ∧ bit ≤ 255)
    (hK : 1 + kind % 3 = K) (hP : prot % 5 = P) (hi : at' % 16 = (i : Int)) (hyx : bits BinOp.xor IntKind.u8 (d.getD i 0) (2 ^ (bit % 8).toNat % 256) = y) (hL2 : (lba + 1) % 18446744073709551616 = L2) (ha : (app == 65535) = true) (e2 : (P == 2) = true) (e3 : (P == 3) = false) (e4 : (P == 4) = false) (ek : (K == 3) = true)
    (hc1 : checkC K P lba ⟨d, (reg16 0 d : Int), 0, refV K lba⟩ = 0) (hc2 : checkC K P lba ⟨d.set i y, (reg16 0 d : Int), 0, refV K lba⟩ = 0) (hc3 : checkC K P L2 ⟨d, (reg16 0 d : Int), 0, refV K lba⟩ = 0) :
    Calls Try.prog 6 #[.int .u8 kind, .int .u8 prot, .int .u64 lba, .agg (cels d).toArray, .int .u16 app, .int .u8 at', .int .u8 bit] w fun e w' => e = .returned (.bool true) ∧ Below w.heap.size w w' := by
  have hi16 : i < 16 := by omega
  have kb : 0 ≤ K ∧ K ≤ 255 := by omega
  have pb : 0 ≤ P ∧ P ≤ 255 := by omega
  have lb2 : 0 ≤ L2 ∧ L2 ≤ 18446744073709551615 := by omega
  have gb := reg16_lt d hb 0 (by decide)
  have rb : 0 ≤ refV K lba ∧ refV K lba ≤ 4294967295 := by unfold refV; split <;> omega
  have hL3 : IntKind.u64.wrap (lba + 1) = L2 := by rw [IntKind.wrap_u64]; exact hL2
  have HA := Kpt.mk awake_any
  have HM := Kpt.mk (fun W => make_any K lba 0 d W hd hb kb.1 kb.2 q2.1 q2.2)
  have ok1 : Bk.ok ⟨d, (reg16 0 d : Int), 0, refV K lba⟩ := ⟨hd, hb, by simp only; omega, by simp only; omega, rb⟩
  have hset : ∀ x ∈ d.set i y, 0 ≤ x ∧ x ≤ 255 := fun x hx => by
    rcases List.mem_or_eq_of_mem_set hx with h | h
    · exact hb x h
    · rw [h]; exact hy
  have ok2 : Bk.ok ⟨d.set i y, (reg16 0 d : Int), 0, refV K lba⟩ := ⟨by simp [hd], hset, by simp only; omega, by simp only; omega, rb⟩
  have C1 := Kpt.mk (fun W => check_any K P lba _ W ok1 kb.1 kb.2 pb.1 pb.2 q2.1 q2.2)
  have C2 := Kpt.mk (fun W => check_any K P lba _ W ok2 kb.1 kb.2 pb.1 pb.2 q2.1 q2.2)
  have C3 := Kpt.mk (fun W => check_any K P L2 _ W ok1 kb.1 kb.2 pb.1 pb.2 lb2.1 lb2.2)
  rw [hc1] at C1
  rw [hc2] at C2
  rw [hc3] at C3
  clear hc1 hc2 hc3
  obtain ⟨D, hD⟩ : ∃ D, D = (cels d).toArray := ⟨_, rfl⟩
  have hDs : D.size = 16 := by rw [hD]; simp [hd]
  have hin := Kpt.mk (show (Try.prog.info? 23).map (·.size) = some D.size by rw [hDs]; kernel_rfl)
  have hbx := Kpt.mk (bx_new w D 23)
  rw [← hD] at HM ⊢
  have hbd := Kpt.mk (show ∀ (g a r : Int), (Bk.vals ⟨d, g, a, r⟩).size = 19 from fun g a r => by simp [Bk.vals, Bk.cs, hd])
  have hpos : 0 < 16 := by decide
  replace ok1 := Kpt.mk ok1
  replace hD := Kpt.mk hD
  replace hd := Kpt.mk hd
  obtain ⟨G, hG⟩ : ∃ G : Int, G = (reg16 0 d : Int) := ⟨_, rfl⟩
  obtain ⟨R, hR⟩ : ∃ R : Int, R = refV K lba := ⟨_, rfl⟩
  rw [← hG] at HM C1 C2 C3 ok1
  rw [← hR] at HM C1 C2 C3 ok1
  have hV1s : (Bk.vals ⟨d, G, 0, R⟩).size = 19 := hbd.out _ _ _
  have hld := Kpt.mk (fun j (hj : j < 16) => show ∀ W B, Bx W B (Bk.vals ⟨d, G, 0, R⟩) → W.cell? ⟨B, j, none⟩ = some (.int .u8 (d.getD j 0)) from fun W B h => bx_cell _ ok1.out h j hj)
  have htr := Kpt.mk (fun W B (h : Bx W B (Bk.vals ⟨d, G, 0, R⟩)) => bx_turn _ ok1.out h i hi16 y)
  obtain ⟨V1, hV1⟩ : ∃ V, V = Bk.vals ⟨d, G, 0, R⟩ := ⟨_, rfl⟩
  obtain ⟨V2, hV2⟩ : ∃ V, V = Bk.vals ⟨d.set i y, G, 0, R⟩ := ⟨_, rfl⟩
  simp only at htr
  rw [← hV1] at C1 C3 hV1s hld htr
  rw [← hV2] at C2 htr
  have hV2s : V2.size = 19 := by rw [hV2]; simp [Bk.vals, Bk.cs, hd.out]
  have h1s := Kpt.mk hV1s
  have h2s := Kpt.mk hV2s
  have in1 := Kpt.mk (show (Try.prog.info? 33).map (·.size) = some V1.size by rw [hV1s]; exact infoB)
  have in2 := Kpt.mk (show (Try.prog.info? 33).map (·.size) = some V2.size by rw [hV2s]; exact infoB)
  have one1 := Kpt.mk (show V1.all (·.oneCell') = true by rw [hV1]; exact Bk.one _)
  replace hV1 := Kpt.mk hV1
  clear hV1s hV2s hV2 ok2 hset hG hR gb rb hDs hb hbd
  unfold tupV at HM
  have hB0 := Kpt.mk ((Below.refl w.heap.size w).alloc (Nat.le_refl _) (.cells D 23))
  go_enter Try.func6, Try.ntmps6
  go_wp2_with (go_at_call 8; go_must (refine (HA.out _).mono ?_; rintro e x1 ⟨rfl, hq⟩; have hX1 : Kpt (Bx x1 w.heap.size D) := ⟨hbx.out.below hq (by simp)⟩; have hx1 : Kpt (Below w.heap.size w x1) := ⟨hB0.out.trans (hq.mono (by simp <;> omega))⟩; clear hq))
  clear hbx hB0
  refine wp_region_any (by kernel_rfl) ?_
  refine wpAny_of_C (C := fun W => Bx W w.heap.size D) _ _ _ _ ?_
  refine wpAnyC_take 0 (.agg D) rfl (by kernel_rfl) (by kernel_rfl) (by kernel_rfl) (fun _ _ _ h => h) (wanted_free rfl _) (fun W hW => exec_load_bx 23 (.tmp 10) rfl w.heap.size D rfl hW _ Try.underlying23 rfl hin.out) ?_
  try simp only [Act.put, List.getElem_toArray, List.getElem_cons_succ, List.getElem_cons_zero, List.setIfInBounds_toArray, List.set_cons_succ, List.set_cons_zero]
  refine wpAnyC_take 1 (.int .u8 K) rfl (by kernel_rfl) (by kernel_rfl) (by kernel_rfl) (fun _ _ _ h => h) (wanted_free rfl _) (fun W hW => by go_simp) ?_
  try simp only [Act.put, List.getElem_toArray, List.getElem_cons_succ, List.getElem_cons_zero, List.setIfInBounds_toArray, List.set_cons_succ, List.set_cons_zero]
  refine wpAnyC_take 2 (.int .u64 lba) rfl (by kernel_rfl) (by kernel_rfl) (by kernel_rfl) (fun _ _ _ h => h) (wanted_free rfl _) (fun W hW => by go_simp) ?_
  try simp only [Act.put, List.getElem_toArray, List.getElem_cons_succ, List.getElem_cons_zero, List.setIfInBounds_toArray, List.set_cons_succ, List.set_cons_zero]
  refine wpAnyC_take 3 (.agg D) rfl (by kernel_rfl) (by kernel_rfl) (by kernel_rfl) (fun _ _ _ h => h) (wanted_free rfl _) (fun W hW => exec_load_bx 23 (.tmp 10) rfl w.heap.size D rfl hW _ Try.underlying23 rfl hin.out) ?_
  try simp only [Act.put, List.getElem_toArray, List.getElem_cons_succ, List.getElem_cons_zero, List.setIfInBounds_toArray, List.set_cons_succ, List.set_cons_zero]
  refine wpAnyC_take 4 (.int .u16 0) rfl (by kernel_rfl) (by kernel_rfl) (by kernel_rfl) (fun _ _ _ h => h) (wanted_free rfl _) (fun W hW => by go_simp) ?_
  try simp only [Act.put, List.getElem_toArray, List.getElem_cons_succ, List.getElem_cons_zero, List.setIfInBounds_toArray, List.set_cons_succ, List.set_cons_zero]
  refine wpAnyC_two 5 7 hX1.out.drew rfl rfl (by kernel_rfl) (wanted_free rfl _) (wanted_free rfl _) (fun KA hKA => ?_) (fun KA hKA => ?_)
  · go_simp
    refine (HM.out _).mono ?_
    rintro e x2 ⟨rfl, hq⟩
    have hX2 : Bx x2 w.heap.size D := hX1.out.drew.below hq hX1.out.lt
    have hx2 : Below w.heap.size w x2 := hx1.out.trans ((below_undrew hq).mono hx1.out.size)
    clear hq hX1 hx1
    refine hKA _ _ ?_
    clear hKA KA
    try simp only [Act.put, List.getElem_toArray, List.getElem_cons_succ, List.getElem_cons_zero, List.setIfInBounds_toArray, List.set_cons_succ, List.set_cons_zero]
    refine wpAnyC_take 6 (.agg V1) rfl (by kernel_rfl) (by kernel_rfl) (by kernel_rfl) (fun _ _ _ h => h) (wanted_free rfl _) (fun W hW => by (rw [hV1.out]; obtain ⟨c0, c1, c2, c3, c4, c5, c6, c7, c8, c9, c10, c11, c12, c13, c14, c15, rfl⟩ := list16 d hd.out; have hDD := hD.out; subst hDD; go_simp; try simp [cels, Bk.vals, Bk.cs])) ?_
    try simp only [Act.put, List.getElem_toArray, List.getElem_cons_succ, List.getElem_cons_zero, List.setIfInBounds_toArray, List.set_cons_succ, List.set_cons_zero]
    refine wpAnyC_one 7 hX2 rfl (by kernel_rfl) (wanted_free rfl _) (fun KA hKA => ?_)
    go_simp
    refine hKA _ _ ?_
    clear hKA KA
    try simp only [Act.put, List.getElem_toArray, List.getElem_cons_succ, List.getElem_cons_zero, List.setIfInBounds_toArray, List.set_cons_succ, List.set_cons_zero]
    refine wpAnyC_one 8 (hX2.alloc _) rfl (by kernel_rfl) (wanted_free rfl _) (fun KA hKA => ?_)
    refine wp_store_bx 33 (.tmp 17) (.tmp 36) rfl x2.heap.size #[.int .u8 0, .int .u8 0, .int .u8 0, .int .u8 0, .int .u8 0, .int .u8 0, .int .u8 0, .int .u8 0, .int .u8 0, .int .u8 0, .int .u8 0, .int .u8 0, .int .u8 0, .int .u8 0, .int .u8 0, .int .u8 0, .int .u16 0, .int .u16 0, .int .u32 0] V1 rfl rfl (bx_new x2 _ 33) (by rw [h1s.out]; rfl) in1.out one1.out ?_
    intro x3 hb3 hg3
    refine hKA _ _ ?_
    clear hKA KA
    try simp only [Act.put, List.getElem_toArray, List.getElem_cons_succ, List.getElem_cons_zero, List.setIfInBounds_toArray, List.set_cons_succ, List.set_cons_zero]
    have hx3 : Kpt (Below w.heap.size w x3) := ⟨(hx2.alloc hx2.size _).grown hg3 (by have := hx2.size; simp <;> omega) (fun q hq => by cases hq; exact hx2.size)⟩
    have hD3 : Bx x3 w.heap.size D := (hX2.alloc _).grown hg3 (fun e => by have := hX2.lt; injection e with e; omega)
    replace hb3 := Kpt.mk hb3
    refine wpAnyC_done (hD3) (by kernel_rfl) ?_
    clear hD3 hg3 hX2 hx2
    go_wp2_with (first | (go_at_call 11; have hm := hb8; go_must (refine (C3.out _).mono ?_; rintro e x9 ⟨rfl, hq⟩; have hx9 : Kpt (Below w.heap.size w x9) := ⟨hx8.out.trans (hq.mono hx8.out.size)⟩; clear hq hm hb8 hx8)) | (refine (?_ : wpList _ _ _ (Oper.mk (some 84) (Op.load 33 (.tmp 17)) _ _ _ _ :: _) _ _); refine wpList_load_bx rfl 33 (.tmp 17) rfl x2.heap.size V1 rfl hb8.out _ Try.underlying33 rfl in1.out ?_) | (go_at_call 11; have hm := hb7; go_must (refine (C2.out _).mono ?_; rintro e x8 ⟨rfl, hq⟩; have hb8 : Kpt (Bx x8 x2.heap.size V1) := ⟨hb7.out.below hq hb7.out.lt⟩; have hx8 : Kpt (Below w.heap.size w x8) := ⟨hx7.out.trans (hq.mono hx7.out.size)⟩; clear hq hm hb7 hx7)) | (refine (?_ : wpList _ _ _ (Oper.mk (some 66) (Op.load 33 (.tmp 18)) _ _ _ _ :: _) _ _); refine wpList_load_bx rfl 33 (.tmp 18) rfl x4.heap.size V2 rfl (htr.out _ _ hb6.out) _ Try.underlying33 rfl in2.out ?_; have hg7 := grown_setCellK x5 ⟨x4.heap.size, i, none⟩ (.int .u8 y); have hb7 : Kpt (Bx (x5.setCell ⟨x4.heap.size, i, none⟩ (.int .u8 y)) x2.heap.size V1) := ⟨hB5.out.grown hg7 (fun e => hne.out (by injection e with e; exact e.symm))⟩; have hx7 : Kpt (Below w.heap.size w (x5.setCell ⟨x4.heap.size, i, none⟩ (.int .u8 y))) := ⟨hx5.out.setCell hlo.out _⟩; clear hg7 hB5 hx5 hb6) | (refine (?_ : wpList _ _ _ (Oper.mk none (Op.store 33 (.tmp 18) (.tmp 43)) _ _ _ _ :: _) _ _); refine wpList_store_bx rfl 33 (.tmp 18) (.tmp 43) rfl x4.heap.size #[.int .u8 0, .int .u8 0, .int .u8 0, .int .u8 0, .int .u8 0, .int .u8 0, .int .u8 0, .int .u8 0, .int .u8 0, .int .u8 0, .int .u8 0, .int .u8 0, .int .u8 0, .int .u8 0, .int .u8 0, .int .u8 0, .int .u16 0, .int .u16 0, .int .u32 0] V1 rfl rfl (bx_new x4 _ 33) (by rw [h1s.out]; rfl) in1.out one1.out rfl ?_; intro x5 hb5 hg5; have hB5 : Kpt (Bx x5 x2.heap.size V1) := ⟨(hb4.out.alloc _).grown hg5 (fun e => by have := hb4.out.lt; injection e with e; omega)⟩; have hx5 : Kpt (Below w.heap.size w x5) := ⟨(hx4.out.alloc hx4.out.size _).grown hg5 (by have := hx4.out.size; simp <;> omega) (fun q hq => by cases hq; exact hx4.out.size)⟩; have hc5 := hld.out i hi16 _ _ hb5; have hf5 := hb5.free i; have hb6 := Kpt.mk hb5; obtain ⟨x, hxx⟩ : ∃ x, x = d.getD i 0 := ⟨_, rfl⟩; rw [← hxx] at hc5; rw [← hxx] at hyx; replace hxx := Kpt.mk hxx; have hne : Kpt (x2.heap.size ≠ x4.heap.size) := ⟨by have := hb4.out.lt; omega⟩; have hlo : Kpt (w.heap.size ≤ x4.heap.size) := ⟨hx4.out.size⟩; clear hb5 hg5 hb4 hx4) | (refine (?_ : wpList _ _ _ (Oper.mk (some 43) (Op.load 33 (.tmp 17)) _ _ _ _ :: _) _ _); refine wpList_load_bx rfl 33 (.tmp 17) rfl x2.heap.size V1 rfl hb4.out _ Try.underlying33 rfl in1.out ?_) | (go_at_call 11; have hm := hb3; refine (C1.out _).mono ?_; rintro e x4 ⟨rfl, hq⟩; have hb4 : Kpt (Bx x4 x2.heap.size V1) := ⟨hb3.out.below hq hb3.out.lt⟩; have hx4 : Kpt (Below w.heap.size w x4) := ⟨hx3.out.trans (hq.mono hx3.out.size)⟩; clear hq hm hb3 hx3) | (refine (?_ : wpList _ _ _ (Oper.mk (some 40) (Op.load 33 (.tmp 17)) _ _ _ _ :: _) _ _); refine wpList_load_bx rfl 33 (.tmp 17) rfl x2.heap.size V1 rfl hb3.out _ Try.underlying33 rfl in1.out ?_))
    go_ret
    exact ⟨rfl, hx9.out⟩
  · go_simp
    refine hKA _ _ ?_
    clear hKA KA
    try simp only [Act.put, List.getElem_toArray, List.getElem_cons_succ, List.getElem_cons_zero, List.setIfInBounds_toArray, List.set_cons_succ, List.set_cons_zero]
    have hXa : Bx (x1.drew.alloc (.cells #[.int .u8 0, .int .u8 0, .int .u8 0, .int .u8 0, .int .u8 0, .int .u8 0, .int .u8 0, .int .u8 0, .int .u8 0, .int .u8 0, .int .u8 0, .int .u8 0, .int .u8 0, .int .u8 0, .int .u8 0, .int .u8 0, .int .u16 0, .int .u16 0, .int .u32 0] 33)) w.heap.size D := hX1.out.drew.alloc _
    have hxa : Below w.heap.size w (x1.drew.alloc (.cells #[.int .u8 0, .int .u8 0, .int .u8 0, .int .u8 0, .int .u8 0, .int .u8 0, .int .u8 0, .int .u8 0, .int .u8 0, .int .u8 0, .int .u8 0, .int .u8 0, .int .u8 0, .int .u8 0, .int .u8 0, .int .u8 0, .int .u16 0, .int .u16 0, .int .u32 0] 33)) := (below_drewN hx1.out 1).alloc hx1.out.size _
    refine wpAnyC_one 5 hXa rfl (by kernel_rfl) (wanted_free rfl _) (fun KA hKA => ?_)
    go_simp
    refine (HM.out _).mono ?_
    rintro e x2 ⟨rfl, hq⟩
    have hX2 : Bx x2 w.heap.size D := hXa.below hq hXa.lt
    have hx2 : Below w.heap.size w x2 := hxa.trans (hq.mono hxa.size)
    have hbz : Bx x2 x1.heap.size #[.int .u8 0, .int .u8 0, .int .u8 0, .int .u8 0, .int .u8 0, .int .u8 0, .int .u8 0, .int .u8 0, .int .u8 0, .int .u8 0, .int .u8 0, .int .u8 0, .int .u8 0, .int .u8 0, .int .u8 0, .int .u8 0, .int .u16 0, .int .u16 0, .int .u32 0] := (bx_new x1.drew _ 33).below hq (by simp)
    have hlo1 : w.heap.size ≤ x1.heap.size := hx1.out.size
    have hlt1 : w.heap.size < x1.heap.size := hX1.out.lt
    clear hq hX1 hx1 hXa hxa
    refine hKA _ _ ?_
    clear hKA KA
    try simp only [Act.put, List.getElem_toArray, List.getElem_cons_succ, List.getElem_cons_zero, List.setIfInBounds_toArray, List.set_cons_succ, List.set_cons_zero]
    refine wpAnyC_take 6 (.agg V1) rfl (by kernel_rfl) (by kernel_rfl) (by kernel_rfl) (fun _ _ _ h => h) (wanted_free rfl _) (fun W hW => by (rw [hV1.out]; obtain ⟨c0, c1, c2, c3, c4, c5, c6, c7, c8, c9, c10, c11, c12, c13, c14, c15, rfl⟩ := list16 d hd.out; have hDD := hD.out; subst hDD; go_simp; try simp [cels, Bk.vals, Bk.cs])) ?_
    try simp only [Act.put, List.getElem_toArray, List.getElem_cons_succ, List.getElem_cons_zero, List.setIfInBounds_toArray, List.set_cons_succ, List.set_cons_zero]
    refine wpAnyC_one 8 (hX2) rfl (by kernel_rfl) (wanted_free rfl _) (fun KA hKA => ?_)
    refine wp_store_bx 33 (.tmp 17) (.tmp 36) rfl x1.heap.size #[.int .u8 0, .int .u8 0, .int .u8 0, .int .u8 0, .int .u8 0, .int .u8 0, .int .u8 0, .int .u8 0, .int .u8 0, .int .u8 0, .int .u8 0, .int .u8 0, .int .u8 0, .int .u8 0, .int .u8 0, .int .u8 0, .int .u16 0, .int .u16 0, .int .u32 0] V1 rfl rfl hbz (by rw [h1s.out]; rfl) in1.out one1.out ?_
    intro x3 hb3 hg3
    refine hKA _ _ ?_
    clear hKA KA
    try simp only [Act.put, List.getElem_toArray, List.getElem_cons_succ, List.getElem_cons_zero, List.setIfInBounds_toArray, List.set_cons_succ, List.set_cons_zero]
    have hx3 : Kpt (Below w.heap.size w x3) := ⟨hx2.grown hg3 hx2.size (fun q hq => by cases hq; exact hlo1)⟩
    have hD3 : Bx x3 w.heap.size D := hX2.grown hg3 (fun e => by injection e with e; omega)
    replace hb3 := Kpt.mk hb3
    refine wpAnyC_done (hD3) (by kernel_rfl) ?_
    clear hD3 hg3 hX2 hx2 hbz hlo1 hlt1
    go_wp2_with (first | (go_at_call 11; have hm := hb8; go_must (refine (C3.out _).mono ?_; rintro e x9 ⟨rfl, hq⟩; have hx9 : Kpt (Below w.heap.size w x9) := ⟨hx8.out.trans (hq.mono hx8.out.size)⟩; clear hq hm hb8 hx8)) | (refine (?_ : wpList _ _ _ (Oper.mk (some 84) (Op.load 33 (.tmp 17)) _ _ _ _ :: _) _ _); refine wpList_load_bx rfl 33 (.tmp 17) rfl x1.heap.size V1 rfl hb8.out _ Try.underlying33 rfl in1.out ?_) | (go_at_call 11; have hm := hb7; go_must (refine (C2.out _).mono ?_; rintro e x8 ⟨rfl, hq⟩; have hb8 : Kpt (Bx x8 x1.heap.size V1) := ⟨hb7.out.below hq hb7.out.lt⟩; have hx8 : Kpt (Below w.heap.size w x8) := ⟨hx7.out.trans (hq.mono hx7.out.size)⟩; clear hq hm hb7 hx7)) | (refine (?_ : wpList _ _ _ (Oper.mk (some 66) (Op.load 33 (.tmp 18)) _ _ _ _ :: _) _ _); refine wpList_load_bx rfl 33 (.tmp 18) rfl x4.heap.size V2 rfl (htr.out _ _ hb6.out) _ Try.underlying33 rfl in2.out ?_; have hg7 := grown_setCellK x5 ⟨x4.heap.size, i, none⟩ (.int .u8 y); have hb7 : Kpt (Bx (x5.setCell ⟨x4.heap.size, i, none⟩ (.int .u8 y)) x1.heap.size V1) := ⟨hB5.out.grown hg7 (fun e => hne.out (by injection e with e; exact e.symm))⟩; have hx7 : Kpt (Below w.heap.size w (x5.setCell ⟨x4.heap.size, i, none⟩ (.int .u8 y))) := ⟨hx5.out.setCell hlo.out _⟩; clear hg7 hB5 hx5 hb6) | (refine (?_ : wpList _ _ _ (Oper.mk none (Op.store 33 (.tmp 18) (.tmp 43)) _ _ _ _ :: _) _ _); refine wpList_store_bx rfl 33 (.tmp 18) (.tmp 43) rfl x4.heap.size #[.int .u8 0, .int .u8 0, .int .u8 0, .int .u8 0, .int .u8 0, .int .u8 0, .int .u8 0, .int .u8 0, .int .u8 0, .int .u8 0, .int .u8 0, .int .u8 0, .int .u8 0, .int .u8 0, .int .u8 0, .int .u8 0, .int .u16 0, .int .u16 0, .int .u32 0] V1 rfl rfl (bx_new x4 _ 33) (by rw [h1s.out]; rfl) in1.out one1.out rfl ?_; intro x5 hb5 hg5; have hB5 : Kpt (Bx x5 x1.heap.size V1) := ⟨(hb4.out.alloc _).grown hg5 (fun e => by have := hb4.out.lt; injection e with e; omega)⟩; have hx5 : Kpt (Below w.heap.size w x5) := ⟨(hx4.out.alloc hx4.out.size _).grown hg5 (by have := hx4.out.size; simp <;> omega) (fun q hq => by cases hq; exact hx4.out.size)⟩; have hc5 := hld.out i hi16 _ _ hb5; have hf5 := hb5.free i; have hb6 := Kpt.mk hb5; obtain ⟨x, hxx⟩ : ∃ x, x = d.getD i 0 := ⟨_, rfl⟩; rw [← hxx] at hc5; rw [← hxx] at hyx; replace hxx := Kpt.mk hxx; have hne : Kpt (x1.heap.size ≠ x4.heap.size) := ⟨by have := hb4.out.lt; omega⟩; have hlo : Kpt (w.heap.size ≤ x4.heap.size) := ⟨hx4.out.size⟩; clear hb5 hg5 hb4 hx4) | (refine (?_ : wpList _ _ _ (Oper.mk (some 43) (Op.load 33 (.tmp 17)) _ _ _ _ :: _) _ _); refine wpList_load_bx rfl 33 (.tmp 17) rfl x1.heap.size V1 rfl hb4.out _ Try.underlying33 rfl in1.out ?_) | (go_at_call 11; have hm := hb3; refine (C1.out _).mono ?_; rintro e x4 ⟨rfl, hq⟩; have hb4 : Kpt (Bx x4 x1.heap.size V1) := ⟨hb3.out.below hq hb3.out.lt⟩; have hx4 : Kpt (Below w.heap.size w x4) := ⟨hx3.out.trans (hq.mono hx3.out.size)⟩; clear hq hm hb3 hx3) | (refine (?_ : wpList _ _ _ (Oper.mk (some 40) (Op.load 33 (.tmp 17)) _ _ _ _ :: _) _ _); refine wpList_load_bx rfl 33 (.tmp 17) rfl x1.heap.size V1 rfl hb3.out _ Try.underlying33 rfl in1.out ?_))
    go_ret
    exact ⟨rfl, hx9.out⟩

set_option maxRecDepth 100000 in
set_option maxHeartbeats 4000000 in
theorem hon_D1 (kind prot lba app at' bit K P y L2 : Int) (i : Nat) (d : List Int) (w : World) (hd : d.length = 16) (hb : ∀ x ∈ d, 0 ≤ x ∧ x ≤ 255) (hy : 0 ≤ y ∧ y ≤ 255)
    (q0 : 0 ≤ kind ∧ kind ≤ 255) (q1 : 0 ≤ prot ∧ prot ≤ 255) (q2 : 0 ≤ lba ∧ lba ≤ 18446744073709551615) (q4 : 0 ≤ app ∧ app ≤ 65535) (q5 : 0 ≤ at' ∧ at' ≤ 255) (q6 : 0 ≤ bit ∧ bit ≤ 255)
    (hK : 1 + kind % 3 = K) (hP : prot % 5 = P) (hi : at' % 16 = (i : Int)) (hyx : bits BinOp.xor IntKind.u8 (d.getD i 0) (2 ^ (bit % 8).toNat % 256) = y) (hL2 : (lba + 1) % 18446744073709551616 = L2) (ha : (app == 65535) = false) (e2 : (P == 2) = true) (e3 : (P == 3) = false) (e4 : (P == 4) = false) (ek : (K == 3) = true)
    (hc1 : checkC K P lba ⟨d, (reg16 0 d : Int), app, refV K lba⟩ = 0) (hc2 : checkC K P lba ⟨d.set i y, (reg16 0 d : Int), app, refV K lba⟩ = 0) (hc3 : checkC K P L2 ⟨d, (reg16 0 d : Int), app, refV K lba⟩ = 0) :
    Calls Try.prog 6 #[.int .u8 kind, .int .u8 prot, .int .u64 lba, .agg (cels d).toArray, .int .u16 app, .int .u8 at', .int .u8 bit] w fun e w' => e = .returned (.bool true) ∧ Below w.heap.size w w' := by
  have hi16 : i < 16 := by omega
  have kb : 0 ≤ K ∧ K ≤ 255 := by omega
  have pb : 0 ≤ P ∧ P ≤ 255 := by omega
  have lb2 : 0 ≤ L2 ∧ L2 ≤ 18446744073709551615 := by omega
  have gb := reg16_lt d hb 0 (by decide)
  have rb : 0 ≤ refV K lba ∧ refV K lba ≤ 4294967295 := by unfold refV; split <;> omega
  have hL3 : IntKind.u64.wrap (lba + 1) = L2 := by rw [IntKind.wrap_u64]; exact hL2
  have HA := Kpt.mk awake_any
  have HM := Kpt.mk (fun W => make_any K lba app d W hd hb kb.1 kb.2 q2.1 q2.2)
  have ok1 : Bk.ok ⟨d, (reg16 0 d : Int), app, refV K lba⟩ := ⟨hd, hb, by simp only; omega, by simp only; omega, rb⟩
  have hset : ∀ x ∈ d.set i y, 0 ≤ x ∧ x ≤ 255 := fun x hx => by
    rcases List.mem_or_eq_of_mem_set hx with h | h
    · exact hb x h
    · rw [h]; exact hy
  have ok2 : Bk.ok ⟨d.set i y, (reg16 0 d : Int), app, refV K lba⟩ := ⟨by simp [hd], hset, by simp only; omega, by simp only; omega, rb⟩
  have C1 := Kpt.mk (fun W => check_any K P lba _ W ok1 kb.1 kb.2 pb.1 pb.2 q2.1 q2.2)
  have C2 := Kpt.mk (fun W => check_any K P lba _ W ok2 kb.1 kb.2 pb.1 pb.2 q2.1 q2.2)
  have C3 := Kpt.mk (fun W => check_any K P L2 _ W ok1 kb.1 kb.2 pb.1 pb.2 lb2.1 lb2.2)
  rw [hc1] at C1
  rw [hc2] at C2
  rw [hc3] at C3
  clear hc1 hc2 hc3
  obtain ⟨D, hD⟩ : ∃ D, D = (cels d).toArray := ⟨_, rfl⟩
  have hDs : D.size = 16 := by rw [hD]; simp [hd]
  have hin := Kpt.mk (show (Try.prog.info? 23).map (·.size) = some D.size by rw [hDs]; kernel_rfl)
  have hbx := Kpt.mk (bx_new w D 23)
  rw [← hD] at HM ⊢
  have hbd := Kpt.mk (show ∀ (g a r : Int), (Bk.vals ⟨d, g, a, r⟩).size = 19 from fun g a r => by simp [Bk.vals, Bk.cs, hd])
  have hpos : 0 < 16 := by decide
  replace ok1 := Kpt.mk ok1
  replace hD := Kpt.mk hD
  replace hd := Kpt.mk hd
  obtain ⟨G, hG⟩ : ∃ G : Int, G = (reg16 0 d : Int) := ⟨_, rfl⟩
  obtain ⟨R, hR⟩ : ∃ R : Int, R = refV K lba := ⟨_, rfl⟩
  rw [← hG] at HM C1 C2 C3 ok1
  rw [← hR] at HM C1 C2 C3 ok1
  have hV1s : (Bk.vals ⟨d, G, app, R⟩).size = 19 := hbd.out _ _ _
  have hld := Kpt.mk (fun j (hj : j < 16) => show ∀ W B, Bx W B (Bk.vals ⟨d, G, app, R⟩) → W.cell? ⟨B, j, none⟩ = some (.int .u8 (d.getD j 0)) from fun W B h => bx_cell _ ok1.out h j hj)
  have htr := Kpt.mk (fun W B (h : Bx W B (Bk.vals ⟨d, G, app, R⟩)) => bx_turn _ ok1.out h i hi16 y)
  obtain ⟨V1, hV1⟩ : ∃ V, V = Bk.vals ⟨d, G, app, R⟩ := ⟨_, rfl⟩
  obtain ⟨V2, hV2⟩ : ∃ V, V = Bk.vals ⟨d.set i y, G, app, R⟩ := ⟨_, rfl⟩
  simp only at htr
  rw [← hV1] at C1 C3 hV1s hld htr
  rw [← hV2] at C2 htr
  have hV2s : V2.size = 19 := by rw [hV2]; simp [Bk.vals, Bk.cs, hd.out]
  have h1s := Kpt.mk hV1s
  have h2s := Kpt.mk hV2s
  have in1 := Kpt.mk (show (Try.prog.info? 33).map (·.size) = some V1.size by rw [hV1s]; exact infoB)
  have in2 := Kpt.mk (show (Try.prog.info? 33).map (·.size) = some V2.size by rw [hV2s]; exact infoB)
  have one1 := Kpt.mk (show V1.all (·.oneCell') = true by rw [hV1]; exact Bk.one _)
  replace hV1 := Kpt.mk hV1
  clear hV1s hV2s hV2 ok2 hset hG hR gb rb hDs hb hbd
  unfold tupV at HM
  have hB0 := Kpt.mk ((Below.refl w.heap.size w).alloc (Nat.le_refl _) (.cells D 23))
  go_enter Try.func6, Try.ntmps6
  go_wp2_with (go_at_call 8; go_must (refine (HA.out _).mono ?_; rintro e x1 ⟨rfl, hq⟩; have hX1 : Kpt (Bx x1 w.heap.size D) := ⟨hbx.out.below hq (by simp)⟩; have hx1 : Kpt (Below w.heap.size w x1) := ⟨hB0.out.trans (hq.mono (by simp <;> omega))⟩; clear hq))
  clear hbx hB0
  refine wp_region_any (by kernel_rfl) ?_
  refine wpAny_of_C (C := fun W => Bx W w.heap.size D) _ _ _ _ ?_
  refine wpAnyC_take 0 (.agg D) rfl (by kernel_rfl) (by kernel_rfl) (by kernel_rfl) (fun _ _ _ h => h) (wanted_free rfl _) (fun W hW => exec_load_bx 23 (.tmp 10) rfl w.heap.size D rfl hW _ Try.underlying23 rfl hin.out) ?_
  try simp only [Act.put, List.getElem_toArray, List.getElem_cons_succ, List.getElem_cons_zero, List.setIfInBounds_toArray, List.set_cons_succ, List.set_cons_zero]
  refine wpAnyC_take 1 (.int .u8 K) rfl (by kernel_rfl) (by kernel_rfl) (by kernel_rfl) (fun _ _ _ h => h) (wanted_free rfl _) (fun W hW => by go_simp) ?_
  try simp only [Act.put, List.getElem_toArray, List.getElem_cons_succ, List.getElem_cons_zero, List.setIfInBounds_toArray, List.set_cons_succ, List.set_cons_zero]
  refine wpAnyC_take 2 (.int .u64 lba) rfl (by kernel_rfl) (by kernel_rfl) (by kernel_rfl) (fun _ _ _ h => h) (wanted_free rfl _) (fun W hW => by go_simp) ?_
  try simp only [Act.put, List.getElem_toArray, List.getElem_cons_succ, List.getElem_cons_zero, List.setIfInBounds_toArray, List.set_cons_succ, List.set_cons_zero]
  refine wpAnyC_take 3 (.agg D) rfl (by kernel_rfl) (by kernel_rfl) (by kernel_rfl) (fun _ _ _ h => h) (wanted_free rfl _) (fun W hW => exec_load_bx 23 (.tmp 10) rfl w.heap.size D rfl hW _ Try.underlying23 rfl hin.out) ?_
  try simp only [Act.put, List.getElem_toArray, List.getElem_cons_succ, List.getElem_cons_zero, List.setIfInBounds_toArray, List.set_cons_succ, List.set_cons_zero]
  refine wpAnyC_take 4 (.int .u16 app) rfl (by kernel_rfl) (by kernel_rfl) (by kernel_rfl) (fun _ _ _ h => h) (wanted_free rfl _) (fun W hW => by go_simp) ?_
  try simp only [Act.put, List.getElem_toArray, List.getElem_cons_succ, List.getElem_cons_zero, List.setIfInBounds_toArray, List.set_cons_succ, List.set_cons_zero]
  refine wpAnyC_two 5 7 hX1.out.drew rfl rfl (by kernel_rfl) (wanted_free rfl _) (wanted_free rfl _) (fun KA hKA => ?_) (fun KA hKA => ?_)
  · go_simp
    refine (HM.out _).mono ?_
    rintro e x2 ⟨rfl, hq⟩
    have hX2 : Bx x2 w.heap.size D := hX1.out.drew.below hq hX1.out.lt
    have hx2 : Below w.heap.size w x2 := hx1.out.trans ((below_undrew hq).mono hx1.out.size)
    clear hq hX1 hx1
    refine hKA _ _ ?_
    clear hKA KA
    try simp only [Act.put, List.getElem_toArray, List.getElem_cons_succ, List.getElem_cons_zero, List.setIfInBounds_toArray, List.set_cons_succ, List.set_cons_zero]
    refine wpAnyC_take 6 (.agg V1) rfl (by kernel_rfl) (by kernel_rfl) (by kernel_rfl) (fun _ _ _ h => h) (wanted_free rfl _) (fun W hW => by (rw [hV1.out]; obtain ⟨c0, c1, c2, c3, c4, c5, c6, c7, c8, c9, c10, c11, c12, c13, c14, c15, rfl⟩ := list16 d hd.out; have hDD := hD.out; subst hDD; go_simp; try simp [cels, Bk.vals, Bk.cs])) ?_
    try simp only [Act.put, List.getElem_toArray, List.getElem_cons_succ, List.getElem_cons_zero, List.setIfInBounds_toArray, List.set_cons_succ, List.set_cons_zero]
    refine wpAnyC_one 7 hX2 rfl (by kernel_rfl) (wanted_free rfl _) (fun KA hKA => ?_)
    go_simp
    refine hKA _ _ ?_
    clear hKA KA
    try simp only [Act.put, List.getElem_toArray, List.getElem_cons_succ, List.getElem_cons_zero, List.setIfInBounds_toArray, List.set_cons_succ, List.set_cons_zero]
    refine wpAnyC_one 8 (hX2.alloc _) rfl (by kernel_rfl) (wanted_free rfl _) (fun KA hKA => ?_)
    refine wp_store_bx 33 (.tmp 17) (.tmp 36) rfl x2.heap.size #[.int .u8 0, .int .u8 0, .int .u8 0, .int .u8 0, .int .u8 0, .int .u8 0, .int .u8 0, .int .u8 0, .int .u8 0, .int .u8 0, .int .u8 0, .int .u8 0, .int .u8 0, .int .u8 0, .int .u8 0, .int .u8 0, .int .u16 0, .int .u16 0, .int .u32 0] V1 rfl rfl (bx_new x2 _ 33) (by rw [h1s.out]; rfl) in1.out one1.out ?_
    intro x3 hb3 hg3
    refine hKA _ _ ?_
    clear hKA KA
    try simp only [Act.put, List.getElem_toArray, List.getElem_cons_succ, List.getElem_cons_zero, List.setIfInBounds_toArray, List.set_cons_succ, List.set_cons_zero]
    have hx3 : Kpt (Below w.heap.size w x3) := ⟨(hx2.alloc hx2.size _).grown hg3 (by have := hx2.size; simp <;> omega) (fun q hq => by cases hq; exact hx2.size)⟩
    have hD3 : Bx x3 w.heap.size D := (hX2.alloc _).grown hg3 (fun e => by have := hX2.lt; injection e with e; omega)
    replace hb3 := Kpt.mk hb3
    refine wpAnyC_done (hD3) (by kernel_rfl) ?_
    clear hD3 hg3 hX2 hx2
    go_wp2_with (first | (go_at_call 11; have hm := hb8; go_must (refine (C3.out _).mono ?_; rintro e x9 ⟨rfl, hq⟩; have hx9 : Kpt (Below w.heap.size w x9) := ⟨hx8.out.trans (hq.mono hx8.out.size)⟩; clear hq hm hb8 hx8)) | (refine (?_ : wpList _ _ _ (Oper.mk (some 84) (Op.load 33 (.tmp 17)) _ _ _ _ :: _) _ _); refine wpList_load_bx rfl 33 (.tmp 17) rfl x2.heap.size V1 rfl hb8.out _ Try.underlying33 rfl in1.out ?_) | (go_at_call 11; have hm := hb7; go_must (refine (C2.out _).mono ?_; rintro e x8 ⟨rfl, hq⟩; have hb8 : Kpt (Bx x8 x2.heap.size V1) := ⟨hb7.out.below hq hb7.out.lt⟩; have hx8 : Kpt (Below w.heap.size w x8) := ⟨hx7.out.trans (hq.mono hx7.out.size)⟩; clear hq hm hb7 hx7)) | (refine (?_ : wpList _ _ _ (Oper.mk (some 66) (Op.load 33 (.tmp 18)) _ _ _ _ :: _) _ _); refine wpList_load_bx rfl 33 (.tmp 18) rfl x4.heap.size V2 rfl (htr.out _ _ hb6.out) _ Try.underlying33 rfl in2.out ?_; have hg7 := grown_setCellK x5 ⟨x4.heap.size, i, none⟩ (.int .u8 y); have hb7 : Kpt (Bx (x5.setCell ⟨x4.heap.size, i, none⟩ (.int .u8 y)) x2.heap.size V1) := ⟨hB5.out.grown hg7 (fun e => hne.out (by injection e with e; exact e.symm))⟩; have hx7 : Kpt (Below w.heap.size w (x5.setCell ⟨x4.heap.size, i, none⟩ (.int .u8 y))) := ⟨hx5.out.setCell hlo.out _⟩; clear hg7 hB5 hx5 hb6) | (refine (?_ : wpList _ _ _ (Oper.mk none (Op.store 33 (.tmp 18) (.tmp 43)) _ _ _ _ :: _) _ _); refine wpList_store_bx rfl 33 (.tmp 18) (.tmp 43) rfl x4.heap.size #[.int .u8 0, .int .u8 0, .int .u8 0, .int .u8 0, .int .u8 0, .int .u8 0, .int .u8 0, .int .u8 0, .int .u8 0, .int .u8 0, .int .u8 0, .int .u8 0, .int .u8 0, .int .u8 0, .int .u8 0, .int .u8 0, .int .u16 0, .int .u16 0, .int .u32 0] V1 rfl rfl (bx_new x4 _ 33) (by rw [h1s.out]; rfl) in1.out one1.out rfl ?_; intro x5 hb5 hg5; have hB5 : Kpt (Bx x5 x2.heap.size V1) := ⟨(hb4.out.alloc _).grown hg5 (fun e => by have := hb4.out.lt; injection e with e; omega)⟩; have hx5 : Kpt (Below w.heap.size w x5) := ⟨(hx4.out.alloc hx4.out.size _).grown hg5 (by have := hx4.out.size; simp <;> omega) (fun q hq => by cases hq; exact hx4.out.size)⟩; have hc5 := hld.out i hi16 _ _ hb5; have hf5 := hb5.free i; have hb6 := Kpt.mk hb5; obtain ⟨x, hxx⟩ : ∃ x, x = d.getD i 0 := ⟨_, rfl⟩; rw [← hxx] at hc5; rw [← hxx] at hyx; replace hxx := Kpt.mk hxx; have hne : Kpt (x2.heap.size ≠ x4.heap.size) := ⟨by have := hb4.out.lt; omega⟩; have hlo : Kpt (w.heap.size ≤ x4.heap.size) := ⟨hx4.out.size⟩; clear hb5 hg5 hb4 hx4) | (refine (?_ : wpList _ _ _ (Oper.mk (some 43) (Op.load 33 (.tmp 17)) _ _ _ _ :: _) _ _); refine wpList_load_bx rfl 33 (.tmp 17) rfl x2.heap.size V1 rfl hb4.out _ Try.underlying33 rfl in1.out ?_) | (go_at_call 11; have hm := hb3; refine (C1.out _).mono ?_; rintro e x4 ⟨rfl, hq⟩; have hb4 : Kpt (Bx x4 x2.heap.size V1) := ⟨hb3.out.below hq hb3.out.lt⟩; have hx4 : Kpt (Below w.heap.size w x4) := ⟨hx3.out.trans (hq.mono hx3.out.size)⟩; clear hq hm hb3 hx3) | (refine (?_ : wpList _ _ _ (Oper.mk (some 40) (Op.load 33 (.tmp 17)) _ _ _ _ :: _) _ _); refine wpList_load_bx rfl 33 (.tmp 17) rfl x2.heap.size V1 rfl hb3.out _ Try.underlying33 rfl in1.out ?_))
    go_ret
    exact ⟨rfl, hx9.out⟩
  · go_simp
    refine hKA _ _ ?_
    clear hKA KA
    try simp only [Act.put, List.getElem_toArray, List.getElem_cons_succ, List.getElem_cons_zero, List.setIfInBounds_toArray, List.set_cons_succ, List.set_cons_zero]
    have hXa : Bx (x1.drew.alloc (.cells #[.int .u8 0, .int .u8 0, .int .u8 0, .int .u8 0, .int .u8 0, .int .u8 0, .int .u8 0, .int .u8 0, .int .u8 0, .int .u8 0, .int .u8 0, .int .u8 0, .int .u8 0, .int .u8 0, .int .u8 0, .int .u8 0, .int .u16 0, .int .u16 0, .int .u32 0] 33)) w.heap.size D := hX1.out.drew.alloc _
    have hxa : Below w.heap.size w (x1.drew.alloc (.cells #[.int .u8 0, .int .u8 0, .int .u8 0, .int .u8 0, .int .u8 0, .int .u8 0, .int .u8 0, .int .u8 0, .int .u8 0, .int .u8 0, .int .u8 0, .int .u8 0, .int .u8 0, .int .u8 0, .int .u8 0, .int .u8 0, .int .u16 0, .int .u16 0, .int .u32 0] 33)) := (below_drewN hx1.out 1).alloc hx1.out.size _
    refine wpAnyC_one 5 hXa rfl (by kernel_rfl) (wanted_free rfl _) (fun KA hKA => ?_)
    go_simp
    refine (HM.out _).mono ?_
    rintro e x2 ⟨rfl, hq⟩
    have hX2 : Bx x2 w.heap.size D := hXa.below hq hXa.lt
    have hx2 : Below w.heap.size w x2 := hxa.trans (hq.mono hxa.size)
    have hbz : Bx x2 x1.heap.size #[.int .u8 0, .int .u8 0, .int .u8 0, .int .u8 0, .int .u8 0, .int .u8 0, .int .u8 0, .int .u8 0, .int .u8 0, .int .u8 0, .int .u8 0, .int .u8 0, .int .u8 0, .int .u8 0, .int .u8 0, .int .u8 0, .int .u16 0, .int .u16 0, .int .u32 0] := (bx_new x1.drew _ 33).below hq (by simp)
    have hlo1 : w.heap.size ≤ x1.heap.size := hx1.out.size
    have hlt1 : w.heap.size < x1.heap.size := hX1.out.lt
    clear hq hX1 hx1 hXa hxa
    refine hKA _ _ ?_
    clear hKA KA
    try simp only [Act.put, List.getElem_toArray, List.getElem_cons_succ, List.getElem_cons_zero, List.setIfInBounds_toArray, List.set_cons_succ, List.set_cons_zero]
    refine wpAnyC_take 6 (.agg V1) rfl (by kernel_rfl) (by kernel_rfl) (by kernel_rfl) (fun _ _ _ h => h) (wanted_free rfl _) (fun W hW => by (rw [hV1.out]; obtain ⟨c0, c1, c2, c3, c4, c5, c6, c7, c8, c9, c10, c11, c12, c13, c14, c15, rfl⟩ := list16 d hd.out; have hDD := hD.out; subst hDD; go_simp; try simp [cels, Bk.vals, Bk.cs])) ?_
    try simp only [Act.put, List.getElem_toArray, List.getElem_cons_succ, List.getElem_cons_zero, List.setIfInBounds_toArray, List.set_cons_succ, List.set_cons_zero]
    refine wpAnyC_one 8 (hX2) rfl (by kernel_rfl) (wanted_free rfl _) (fun KA hKA => ?_)
    refine wp_store_bx 33 (.tmp 17) (.tmp 36) rfl x1.heap.size #[.int .u8 0, .int .u8 0, .int .u8 0, .int .u8 0, .int .u8 0, .int .u8 0, .int .u8 0, .int .u8 0, .int .u8 0, .int .u8 0, .int .u8 0, .int .u8 0, .int .u8 0, .int .u8 0, .int .u8 0, .int .u8 0, .int .u16 0, .int .u16 0, .int .u32 0] V1 rfl rfl hbz (by rw [h1s.out]; rfl) in1.out one1.out ?_
    intro x3 hb3 hg3
    refine hKA _ _ ?_
    clear hKA KA
    try simp only [Act.put, List.getElem_toArray, List.getElem_cons_succ, List.getElem_cons_zero, List.setIfInBounds_toArray, List.set_cons_succ, List.set_cons_zero]
    have hx3 : Kpt (Below w.heap.size w x3) := ⟨hx2.grown hg3 hx2.size (fun q hq => by cases hq; exact hlo1)⟩
    have hD3 : Bx x3 w.heap.size D := hX2.grown hg3 (fun e => by injection e with e; omega)
    replace hb3 := Kpt.mk hb3
    refine wpAnyC_done (hD3) (by kernel_rfl) ?_
    clear hD3 hg3 hX2 hx2 hbz hlo1 hlt1
    go_wp2_with (first | (go_at_call 11; have hm := hb8; go_must (refine (C3.out _).mono ?_; rintro e x9 ⟨rfl, hq⟩; have hx9 : Kpt (Below w.heap.size w x9) := ⟨hx8.out.trans (hq.mono hx8.out.size)⟩; clear hq hm hb8 hx8)) | (refine (?_ : wpList _ _ _ (Oper.mk (some 84) (Op.load 33 (.tmp 17)) _ _ _ _ :: _) _ _); refine wpList_load_bx rfl 33 (.tmp 17) rfl x1.heap.size V1 rfl hb8.out _ Try.underlying33 rfl in1.out ?_) | (go_at_call 11; have hm := hb7; go_must (refine (C2.out _).mono ?_; rintro e x8 ⟨rfl, hq⟩; have hb8 : Kpt (Bx x8 x1.heap.size V1) := ⟨hb7.out.below hq hb7.out.lt⟩; have hx8 : Kpt (Below w.heap.size w x8) := ⟨hx7.out.trans (hq.mono hx7.out.size)⟩; clear hq hm hb7 hx7)) | (refine (?_ : wpList _ _ _ (Oper.mk (some 66) (Op.load 33 (.tmp 18)) _ _ _ _ :: _) _ _); refine wpList_load_bx rfl 33 (.tmp 18) rfl x4.heap.size V2 rfl (htr.out _ _ hb6.out) _ Try.underlying33 rfl in2.out ?_; have hg7 := grown_setCellK x5 ⟨x4.heap.size, i, none⟩ (.int .u8 y); have hb7 : Kpt (Bx (x5.setCell ⟨x4.heap.size, i, none⟩ (.int .u8 y)) x1.heap.size V1) := ⟨hB5.out.grown hg7 (fun e => hne.out (by injection e with e; exact e.symm))⟩; have hx7 : Kpt (Below w.heap.size w (x5.setCell ⟨x4.heap.size, i, none⟩ (.int .u8 y))) := ⟨hx5.out.setCell hlo.out _⟩; clear hg7 hB5 hx5 hb6) | (refine (?_ : wpList _ _ _ (Oper.mk none (Op.store 33 (.tmp 18) (.tmp 43)) _ _ _ _ :: _) _ _); refine wpList_store_bx rfl 33 (.tmp 18) (.tmp 43) rfl x4.heap.size #[.int .u8 0, .int .u8 0, .int .u8 0, .int .u8 0, .int .u8 0, .int .u8 0, .int .u8 0, .int .u8 0, .int .u8 0, .int .u8 0, .int .u8 0, .int .u8 0, .int .u8 0, .int .u8 0, .int .u8 0, .int .u8 0, .int .u16 0, .int .u16 0, .int .u32 0] V1 rfl rfl (bx_new x4 _ 33) (by rw [h1s.out]; rfl) in1.out one1.out rfl ?_; intro x5 hb5 hg5; have hB5 : Kpt (Bx x5 x1.heap.size V1) := ⟨(hb4.out.alloc _).grown hg5 (fun e => by have := hb4.out.lt; injection e with e; omega)⟩; have hx5 : Kpt (Below w.heap.size w x5) := ⟨(hx4.out.alloc hx4.out.size _).grown hg5 (by have := hx4.out.size; simp <;> omega) (fun q hq => by cases hq; exact hx4.out.size)⟩; have hc5 := hld.out i hi16 _ _ hb5; have hf5 := hb5.free i; have hb6 := Kpt.mk hb5; obtain ⟨x, hxx⟩ : ∃ x, x = d.getD i 0 := ⟨_, rfl⟩; rw [← hxx] at hc5; rw [← hxx] at hyx; replace hxx := Kpt.mk hxx; have hne : Kpt (x1.heap.size ≠ x4.heap.size) := ⟨by have := hb4.out.lt; omega⟩; have hlo : Kpt (w.heap.size ≤ x4.heap.size) := ⟨hx4.out.size⟩; clear hb5 hg5 hb4 hx4) | (refine (?_ : wpList _ _ _ (Oper.mk (some 43) (Op.load 33 (.tmp 17)) _ _ _ _ :: _) _ _); refine wpList_load_bx rfl 33 (.tmp 17) rfl x1.heap.size V1 rfl hb4.out _ Try.underlying33 rfl in1.out ?_) | (go_at_call 11; have hm := hb3; refine (C1.out _).mono ?_; rintro e x4 ⟨rfl, hq⟩; have hb4 : Kpt (Bx x4 x1.heap.size V1) := ⟨hb3.out.below hq hb3.out.lt⟩; have hx4 : Kpt (Below w.heap.size w x4) := ⟨hx3.out.trans (hq.mono hx3.out.size)⟩; clear hq hm hb3 hx3) | (refine (?_ : wpList _ _ _ (Oper.mk (some 40) (Op.load 33 (.tmp 17)) _ _ _ _ :: _) _ _); refine wpList_load_bx rfl 33 (.tmp 17) rfl x1.heap.size V1 rfl hb3.out _ Try.underlying33 rfl in1.out ?_))
    go_ret
    exact ⟨rfl, hx9.out⟩

set_option maxRecDepth 100000 in
set_option maxHeartbeats 4000000 in
theorem hon_E0 (kind prot lba app at' bit K P y L2 : Int) (i : Nat) (d : List Int) (w : World) (hd : d.length = 16) (hb : ∀ x ∈ d, 0 ≤ x ∧ x ≤ 255) (hy : 0 ≤ y ∧ y ≤ 255)
    (q0 : 0 ≤ kind ∧ kind ≤ 255) (q1 : 0 ≤ prot ∧ prot ≤ 255) (q2 : 0 ≤ lba ∧ lba ≤ 18446744073709551615) (q4 : 0 ≤ app ∧ app ≤ 65535) (q5 : 0 ≤ at' ∧ at' ≤ 255) (q6 : 0 ≤ bit ∧ bit ≤ 255)
    (hK : 1 + kind % 3 = K) (hP : prot % 5 = P) (hi : at' % 16 = (i : Int)) (hyx : bits BinOp.xor IntKind.u8 (d.getD i 0) (2 ^ (bit % 8).toNat % 256) = y) (hL2 : (lba + 1) % 18446744073709551616 = L2) (ha : (app == 65535) = true) (e2 : (P == 2) = false) (e3 : (P == 3) = true)
    (hc1 : checkC K P lba ⟨d, (reg16 0 d : Int), 0, refV K lba⟩ = 0) (hc2 : checkC K P lba ⟨d.set i y, (reg16 0 d : Int), 0, refV K lba⟩ = 0) (hc3 : checkC K P L2 ⟨d, (reg16 0 d : Int), 0, refV K lba⟩ = 0) :
    Calls Try.prog 6 #[.int .u8 kind, .int .u8 prot, .int .u64 lba, .agg (cels d).toArray, .int .u16 app, .int .u8 at', .int .u8 bit] w fun e w' => e = .returned (.bool true) ∧ Below w.heap.size w w' := by
  have hi16 : i < 16 := by omega
  have kb : 0 ≤ K ∧ K ≤ 255 := by omega
  have pb : 0 ≤ P ∧ P ≤ 255 := by omega
  have lb2 : 0 ≤ L2 ∧ L2 ≤ 18446744073709551615 := by omega
  have gb := reg16_lt d hb 0 (by decide)
  have rb : 0 ≤ refV K lba ∧ refV K lba ≤ 4294967295 := by unfold refV; split <;> omega
  have hL3 : IntKind.u64.wrap (lba + 1) = L2 := by rw [IntKind.wrap_u64]; exact hL2
  have HA := Kpt.mk awake_any
  have HM := Kpt.mk (fun W => make_any K lba 0 d W hd hb kb.1 kb.2 q2.1 q2.2)
  have ok1 : Bk.ok ⟨d, (reg16 0 d : Int), 0, refV K lba⟩ := ⟨hd, hb, by simp only; omega, by simp only; omega, rb⟩
  have hset : ∀ x ∈ d.set i y, 0 ≤ x ∧ x ≤ 255 := fun x hx => by
    rcases List.mem_or_eq_of_mem_set hx with h | h
    · exact hb x h
    · rw [h]; exact hy
  have ok2 : Bk.ok ⟨d.set i y, (reg16 0 d : Int), 0, refV K lba⟩ := ⟨by simp [hd], hset, by simp only; omega, by simp only; omega, rb⟩
  have C1 := Kpt.mk (fun W => check_any K P lba _ W ok1 kb.1 kb.2 pb.1 pb.2 q2.1 q2.2)
  have C2 := Kpt.mk (fun W => check_any K P lba _ W ok2 kb.1 kb.2 pb.1 pb.2 q2.1 q2.2)
  have C3 := Kpt.mk (fun W => check_any K P L2 _ W ok1 kb.1 kb.2 pb.1 pb.2 lb2.1 lb2.2)
  rw [hc1] at C1
  rw [hc2] at C2
  rw [hc3] at C3
  clear hc1 hc2 hc3
  obtain ⟨D, hD⟩ : ∃ D, D = (cels d).toArray := ⟨_, rfl⟩
  have hDs : D.size = 16 := by rw [hD]; simp [hd]
  have hin := Kpt.mk (show (Try.prog.info? 23).map (·.size) = some D.size by rw [hDs]; kernel_rfl)
  have hbx := Kpt.mk (bx_new w D 23)
  rw [← hD] at HM ⊢
  have hbd := Kpt.mk (show ∀ (g a r : Int), (Bk.vals ⟨d, g, a, r⟩).size = 19 from fun g a r => by simp [Bk.vals, Bk.cs, hd])
  have hpos : 0 < 16 := by decide
  replace ok1 := Kpt.mk ok1
  replace hD := Kpt.mk hD
  replace hd := Kpt.mk hd
  obtain ⟨G, hG⟩ : ∃ G : Int, G = (reg16 0 d : Int) := ⟨_, rfl⟩
  obtain ⟨R, hR⟩ : ∃ R : Int, R = refV K lba := ⟨_, rfl⟩
  rw [← hG] at HM C1 C2 C3 ok1
  rw [← hR] at HM C1 C2 C3 ok1
  have hV1s : (Bk.vals ⟨d, G, 0, R⟩).size = 19 := hbd.out _ _ _
  have hld := Kpt.mk (fun j (hj : j < 16) => show ∀ W B, Bx W B (Bk.vals ⟨d, G, 0, R⟩) → W.cell? ⟨B, j, none⟩ = some (.int .u8 (d.getD j 0)) from fun W B h => bx_cell _ ok1.out h j hj)
  have htr := Kpt.mk (fun W B (h : Bx W B (Bk.vals ⟨d, G, 0, R⟩)) => bx_turn _ ok1.out h i hi16 y)
  obtain ⟨V1, hV1⟩ : ∃ V, V = Bk.vals ⟨d, G, 0, R⟩ := ⟨_, rfl⟩
  obtain ⟨V2, hV2⟩ : ∃ V, V = Bk.vals ⟨d.set i y, G, 0, R⟩ := ⟨_, rfl⟩
  simp only at htr
  rw [← hV1] at C1 C3 hV1s hld htr
  rw [← hV2] at C2 htr
  have hV2s : V2.size = 19 := by rw [hV2]; simp [Bk.vals, Bk.cs, hd.out]
  have h1s := Kpt.mk hV1s
  have h2s := Kpt.mk hV2s
  have in1 := Kpt.mk (show (Try.prog.info? 33).map (·.size) = some V1.size by rw [hV1s]; exact infoB)
  have in2 := Kpt.mk (show (Try.prog.info? 33).map (·.size) = some V2.size by rw [hV2s]; exact infoB)
  have one1 := Kpt.mk (show V1.all (·.oneCell') = true by rw [hV1]; exact Bk.one _)
  replace hV1 := Kpt.mk hV1
  clear hV1s hV2s hV2 ok2 hset hG hR gb rb hDs hb hbd
  unfold tupV at HM
  have hB0 := Kpt.mk ((Below.refl w.heap.size w).alloc (Nat.le_refl _) (.cells D 23))
  go_enter Try.func6, Try.ntmps6
  go_wp2_with (go_at_call 8; go_must (refine (HA.out _).mono ?_; rintro e x1 ⟨rfl, hq⟩; have hX1 : Kpt (Bx x1 w.heap.size D) := ⟨hbx.out.below hq (by simp)⟩; have hx1 : Kpt (Below w.heap.size w x1) := ⟨hB0.out.trans (hq.mono (by simp <;> omega))⟩; clear hq))
  clear hbx hB0
  refine wp_region_any (by kernel_rfl) ?_
  refine wpAny_of_C (C := fun W => Bx W w.heap.size D) _ _ _ _ ?_
  refine wpAnyC_take 0 (.agg D) rfl (by kernel_rfl) (by kernel_rfl) (by kernel_rfl) (fun _ _ _ h => h) (wanted_free rfl _) (fun W hW => exec_load_bx 23 (.tmp 10) rfl w.heap.size D rfl hW _ Try.underlying23 rfl hin.out) ?_
  try simp only [Act.put, List.getElem_toArray, List.getElem_cons_succ, List.getElem_cons_zero, List.setIfInBounds_toArray, List.set_cons_succ, List.set_cons_zero]
  refine wpAnyC_take 1 (.int .u8 K) rfl (by kernel_rfl) (by kernel_rfl) (by kernel_rfl) (fun _ _ _ h => h) (wanted_free rfl _) (fun W hW => by go_simp) ?_
  try simp only [Act.put, List.getElem_toArray, List.getElem_cons_succ, List.getElem_cons_zero, List.setIfInBounds_toArray, List.set_cons_succ, List.set_cons_zero]
  refine wpAnyC_take 2 (.int .u64 lba) rfl (by kernel_rfl) (by kernel_rfl) (by kernel_rfl) (fun _ _ _ h => h) (wanted_free rfl _) (fun W hW => by go_simp) ?_
  try simp only [Act.put, List.getElem_toArray, List.getElem_cons_succ, List.getElem_cons_zero, List.setIfInBounds_toArray, List.set_cons_succ, List.set_cons_zero]
  refine wpAnyC_take 3 (.agg D) rfl (by kernel_rfl) (by kernel_rfl) (by kernel_rfl) (fun _ _ _ h => h) (wanted_free rfl _) (fun W hW => exec_load_bx 23 (.tmp 10) rfl w.heap.size D rfl hW _ Try.underlying23 rfl hin.out) ?_
  try simp only [Act.put, List.getElem_toArray, List.getElem_cons_succ, List.getElem_cons_zero, List.setIfInBounds_toArray, List.set_cons_succ, List.set_cons_zero]
  refine wpAnyC_take 4 (.int .u16 0) rfl (by kernel_rfl) (by kernel_rfl) (by kernel_rfl) (fun _ _ _ h => h) (wanted_free rfl _) (fun W hW => by go_simp) ?_
  try simp only [Act.put, List.getElem_toArray, List.getElem_cons_succ, List.getElem_cons_zero, List.setIfInBounds_toArray, List.set_cons_succ, List.set_cons_zero]
  refine wpAnyC_two 5 7 hX1.out.drew rfl rfl (by kernel_rfl) (wanted_free rfl _) (wanted_free rfl _) (fun KA hKA => ?_) (fun KA hKA => ?_)
  · go_simp
    refine (HM.out _).mono ?_
    rintro e x2 ⟨rfl, hq⟩
    have hX2 : Bx x2 w.heap.size D := hX1.out.drew.below hq hX1.out.lt
    have hx2 : Below w.heap.size w x2 := hx1.out.trans ((below_undrew hq).mono hx1.out.size)
    clear hq hX1 hx1
    refine hKA _ _ ?_
    clear hKA KA
    try simp only [Act.put, List.getElem_toArray, List.getElem_cons_succ, List.getElem_cons_zero, List.setIfInBounds_toArray, List.set_cons_succ, List.set_cons_zero]
    refine wpAnyC_take 6 (.agg V1) rfl (by kernel_rfl) (by kernel_rfl) (by kernel_rfl) (fun _ _ _ h => h) (wanted_free rfl _) (fun W hW => by (rw [hV1.out]; obtain ⟨c0, c1, c2, c3, c4, c5, c6, c7, c8, c9, c10, c11, c12, c13, c14, c15, rfl⟩ := list16 d hd.out; have hDD := hD.out; subst hDD; go_simp; try simp [cels, Bk.vals, Bk.cs])) ?_
    try simp only [Act.put, List.getElem_toArray, List.getElem_cons_succ, List.getElem_cons_zero, List.setIfInBounds_toArray, List.set_cons_succ, List.set_cons_zero]
    refine wpAnyC_one 7 hX2 rfl (by kernel_rfl) (wanted_free rfl _) (fun KA hKA => ?_)
    go_simp
    refine hKA _ _ ?_
    clear hKA KA
    try simp only [Act.put, List.getElem_toArray, List.getElem_cons_succ, List.getElem_cons_zero, List.setIfInBounds_toArray, List.set_cons_succ, List.set_cons_zero]
    refine wpAnyC_one 8 (hX2.alloc _) rfl (by kernel_rfl) (wanted_free rfl _) (fun KA hKA => ?_)
    refine wp_store_bx 33 (.tmp 17) (.tmp 36) rfl x2.heap.size #[.int .u8 0, .int .u8 0, .int .u8 0, .int .u8 0, .int .u8 0, .int .u8 0, .int .u8 0, .int .u8 0, .int .u8 0, .int .u8 0, .int .u8 0, .int .u8 0, .int .u8 0, .int .u8 0, .int .u8 0, .int .u8 0, .int .u16 0, .int .u16 0, .int .u32 0] V1 rfl rfl (bx_new x2 _ 33) (by rw [h1s.out]; rfl) in1.out one1.out ?_
    intro x3 hb3 hg3
    refine hKA _ _ ?_
    clear hKA KA
    try simp only [Act.put, List.getElem_toArray, List.getElem_cons_succ, List.getElem_cons_zero, List.setIfInBounds_toArray, List.set_cons_succ, List.set_cons_zero]
    have hx3 : Kpt (Below w.heap.size w x3) := ⟨(hx2.alloc hx2.size _).grown hg3 (by have := hx2.size; simp <;> omega) (fun q hq => by cases hq; exact hx2.size)⟩
    have hD3 : Bx x3 w.heap.size D := (hX2.alloc _).grown hg3 (fun e => by have := hX2.lt; injection e with e; omega)
    replace hb3 := Kpt.mk hb3
    refine wpAnyC_done (hD3) (by kernel_rfl) ?_
    clear hD3 hg3 hX2 hx2
    go_wp2_with (first | (go_at_call 11; have hm := hb8; go_must (refine (C3.out _).mono ?_; rintro e x9 ⟨rfl, hq⟩; have hx9 : Kpt (Below w.heap.size w x9) := ⟨hx8.out.trans (hq.mono hx8.out.size)⟩; clear hq hm hb8 hx8)) | (refine (?_ : wpList _ _ _ (Oper.mk (some 84) (Op.load 33 (.tmp 17)) _ _ _ _ :: _) _ _); refine wpList_load_bx rfl 33 (.tmp 17) rfl x2.heap.size V1 rfl hb8.out _ Try.underlying33 rfl in1.out ?_) | (go_at_call 11; have hm := hb7; go_must (refine (C2.out _).mono ?_; rintro e x8 ⟨rfl, hq⟩; have hb8 : Kpt (Bx x8 x2.heap.size V1) := ⟨hb7.out.below hq hb7.out.lt⟩; have hx8 : Kpt (Below w.heap.size w x8) := ⟨hx7.out.trans (hq.mono hx7.out.size)⟩; clear hq hm hb7 hx7)) | (refine (?_ : wpList _ _ _ (Oper.mk (some 66) (Op.load 33 (.tmp 18)) _ _ _ _ :: _) _ _); refine wpList_load_bx rfl 33 (.tmp 18) rfl x4.heap.size V2 rfl (htr.out _ _ hb6.out) _ Try.underlying33 rfl in2.out ?_; have hg7 := grown_setCellK x5 ⟨x4.heap.size, i, none⟩ (.int .u8 y); have hb7 : Kpt (Bx (x5.setCell ⟨x4.heap.size, i, none⟩ (.int .u8 y)) x2.heap.size V1) := ⟨hB5.out.grown hg7 (fun e => hne.out (by injection e with e; exact e.symm))⟩; have hx7 : Kpt (Below w.heap.size w (x5.setCell ⟨x4.heap.size, i, none⟩ (.int .u8 y))) := ⟨hx5.out.setCell hlo.out _⟩; clear hg7 hB5 hx5 hb6) | (refine (?_ : wpList _ _ _ (Oper.mk none (Op.store 33 (.tmp 18) (.tmp 43)) _ _ _ _ :: _) _ _); refine wpList_store_bx rfl 33 (.tmp 18) (.tmp 43) rfl x4.heap.size #[.int .u8 0, .int .u8 0, .int .u8 0, .int .u8 0, .int .u8 0, .int .u8 0, .int .u8 0, .int .u8 0, .int .u8 0, .int .u8 0, .int .u8 0, .int .u8 0, .int .u8 0, .int .u8 0, .int .u8 0, .int .u8 0, .int .u16 0, .int .u16 0, .int .u32 0] V1 rfl rfl (bx_new x4 _ 33) (by rw [h1s.out]; rfl) in1.out one1.out rfl ?_; intro x5 hb5 hg5; have hB5 : Kpt (Bx x5 x2.heap.size V1) := ⟨(hb4.out.alloc _).grown hg5 (fun e => by have := hb4.out.lt; injection e with e; omega)⟩; have hx5 : Kpt (Below w.heap.size w x5) := ⟨(hx4.out.alloc hx4.out.size _).grown hg5 (by have := hx4.out.size; simp <;> omega) (fun q hq => by cases hq; exact hx4.out.size)⟩; have hc5 := hld.out i hi16 _ _ hb5; have hf5 := hb5.free i; have hb6 := Kpt.mk hb5; obtain ⟨x, hxx⟩ : ∃ x, x = d.getD i 0 := ⟨_, rfl⟩; rw [← hxx] at hc5; rw [← hxx] at hyx; replace hxx := Kpt.mk hxx; have hne : Kpt (x2.heap.size ≠ x4.heap.size) := ⟨by have := hb4.out.lt; omega⟩; have hlo : Kpt (w.heap.size ≤ x4.heap.size) := ⟨hx4.out.size⟩; clear hb5 hg5 hb4 hx4) | (refine (?_ : wpList _ _ _ (Oper.mk (some 43) (Op.load 33 (.tmp 17)) _ _ _ _ :: _) _ _); refine wpList_load_bx rfl 33 (.tmp 17) rfl x2.heap.size V1 rfl hb4.out _ Try.underlying33 rfl in1.out ?_) | (go_at_call 11; have hm := hb3; refine (C1.out _).mono ?_; rintro e x4 ⟨rfl, hq⟩; have hb4 : Kpt (Bx x4 x2.heap.size V1) := ⟨hb3.out.below hq hb3.out.lt⟩; have hx4 : Kpt (Below w.heap.size w x4) := ⟨hx3.out.trans (hq.mono hx3.out.size)⟩; clear hq hm hb3 hx3) | (refine (?_ : wpList _ _ _ (Oper.mk (some 40) (Op.load 33 (.tmp 17)) _ _ _ _ :: _) _ _); refine wpList_load_bx rfl 33 (.tmp 17) rfl x2.heap.size V1 rfl hb3.out _ Try.underlying33 rfl in1.out ?_))
    go_ret
    exact ⟨rfl, hx9.out⟩
  · go_simp
    refine hKA _ _ ?_
    clear hKA KA
    try simp only [Act.put, List.getElem_toArray, List.getElem_cons_succ, List.getElem_cons_zero, List.setIfInBounds_toArray, List.set_cons_succ, List.set_cons_zero]
    have hXa : Bx (x1.drew.alloc (.cells #[.int .u8 0, .int .u8 0, .int .u8 0, .int .u8 0, .int .u8 0, .int .u8 0, .int .u8 0, .int .u8 0, .int .u8 0, .int .u8 0, .int .u8 0, .int .u8 0, .int .u8 0, .int .u8 0, .int .u8 0, .int .u8 0, .int .u16 0, .int .u16 0, .int .u32 0] 33)) w.heap.size D := hX1.out.drew.alloc _
    have hxa : Below w.heap.size w (x1.drew.alloc (.cells #[.int .u8 0, .int .u8 0, .int .u8 0, .int .u8 0, .int .u8 0, .int .u8 0, .int .u8 0, .int .u8 0, .int .u8 0, .int .u8 0, .int .u8 0, .int .u8 0, .int .u8 0, .int .u8 0, .int .u8 0, .int .u8 0, .int .u16 0, .int .u16 0, .int .u32 0] 33)) := (below_drewN hx1.out 1).alloc hx1.out.size _
    refine wpAnyC_one 5 hXa rfl (by kernel_rfl) (wanted_free rfl _) (fun KA hKA => ?_)
    go_simp
    refine (HM.out _).mono ?_
    rintro e x2 ⟨rfl, hq⟩
    have hX2 : Bx x2 w.heap.size D := hXa.below hq hXa.lt
    have hx2 : Below w.heap.size w x2 := hxa.trans (hq.mono hxa.size)
    have hbz : Bx x2 x1.heap.size #[.int .u8 0, .int .u8 0, .int .u8 0, .int .u8 0, .int .u8 0, .int .u8 0, .int .u8 0, .int .u8 0, .int .u8 0, .int .u8 0, .int .u8 0, .int .u8 0, .int .u8 0, .int .u8 0, .int .u8 0, .int .u8 0, .int .u16 0, .int .u16 0, .int .u32 0] := (bx_new x1.drew _ 33).below hq (by simp)
    have hlo1 : w.heap.size ≤ x1.heap.size := hx1.out.size
    have hlt1 : w.heap.size < x1.heap.size := hX1.out.lt
    clear hq hX1 hx1 hXa hxa
    refine hKA _ _ ?_
    clear hKA KA
    try simp only [Act.put, List.getElem_toArray, List.getElem_cons_succ, List.getElem_cons_zero, List.setIfInBounds_toArray, List.set_cons_succ, List.set_cons_zero]
    refine wpAnyC_take 6 (.agg V1) rfl (by kernel_rfl) (by kernel_rfl) (by kernel_rfl) (fun _ _ _ h => h) (wanted_free rfl _) (fun W hW => by (rw [hV1.out]; obtain ⟨c0, c1, c2, c3, c4, c5, c6, c7, c8, c9, c10, c11, c12, c13, c14, c15, rfl⟩ := list16 d hd.out; have hDD := hD.out; subst hDD; go_simp; try simp [cels, Bk.vals, Bk.cs])) ?_
    try simp only [Act.put, List.getElem_toArray, List.getElem_cons_succ, List.getElem_cons_zero, List.setIfInBounds_toArray, List.set_cons_succ, List.set_cons_zero]
    refine wpAnyC_one 8 (hX2) rfl (by kernel_rfl) (wanted_free rfl _) (fun KA hKA => ?_)
    refine wp_store_bx 33 (.tmp 17) (.tmp 36) rfl x1.heap.size #[.int .u8 0, .int .u8 0, .int .u8 0, .int .u8 0, .int .u8 0, .int .u8 0, .int .u8 0, .int .u8 0, .int .u8 0, .int .u8 0, .int .u8 0, .int .u8 0, .int .u8 0, .int .u8 0, .int .u8 0, .int .u8 0, .int .u16 0, .int .u16 0, .int .u32 0] V1 rfl rfl hbz (by rw [h1s.out]; rfl) in1.out one1.out ?_
    intro x3 hb3 hg3
    refine hKA _ _ ?_
    clear hKA KA
    try simp only [Act.put, List.getElem_toArray, List.getElem_cons_succ, List.getElem_cons_zero, List.setIfInBounds_toArray, List.set_cons_succ, List.set_cons_zero]
    have hx3 : Kpt (Below w.heap.size w x3) := ⟨hx2.grown hg3 hx2.size (fun q hq => by cases hq; exact hlo1)⟩
    have hD3 : Bx x3 w.heap.size D := hX2.grown hg3 (fun e => by injection e with e; omega)
    replace hb3 := Kpt.mk hb3
    refine wpAnyC_done (hD3) (by kernel_rfl) ?_
    clear hD3 hg3 hX2 hx2 hbz hlo1 hlt1
    go_wp2_with (first | (go_at_call 11; have hm := hb8; go_must (refine (C3.out _).mono ?_; rintro e x9 ⟨rfl, hq⟩; have hx9 : Kpt (Below w.heap.size w x9) := ⟨hx8.out.trans (hq.mono hx8.out.size)⟩; clear hq hm hb8 hx8)) | (refine (?_ : wpList _ _ _ (Oper.mk (some 84) (Op.load 33 (.tmp 17)) _ _ _ _ :: _) _ _); refine wpList_load_bx rfl 33 (.tmp 17) rfl x1.heap.size V1 rfl hb8.out _ Try.underlying33 rfl in1.out ?_) | (go_at_call 11; have hm := hb7; go_must (refine (C2.out _).mono ?_; rintro e x8 ⟨rfl, hq⟩; have hb8 : Kpt (Bx x8 x1.heap.size V1) := ⟨hb7.out.below hq hb7.out.lt⟩; have hx8 : Kpt (Below w.heap.size w x8) := ⟨hx7.out.trans (hq.mono hx7.out.size)⟩; clear hq hm hb7 hx7)) | (refine (?_ : wpList _ _ _ (Oper.mk (some 66) (Op.load 33 (.tmp 18)) _ _ _ _ :: _) _ _); refine wpList_load_bx rfl 33 (.tmp 18) rfl x4.heap.size V2 rfl (htr.out _ _ hb6.out) _ Try.underlying33 rfl in2.out ?_; have hg7 := grown_setCellK x5 ⟨x4.heap.size, i, none⟩ (.int .u8 y); have hb7 : Kpt (Bx (x5.setCell ⟨x4.heap.size, i, none⟩ (.int .u8 y)) x1.heap.size V1) := ⟨hB5.out.grown hg7 (fun e => hne.out (by injection e with e; exact e.symm))⟩; have hx7 : Kpt (Below w.heap.size w (x5.setCell ⟨x4.heap.size, i, none⟩ (.int .u8 y))) := ⟨hx5.out.setCell hlo.out _⟩; clear hg7 hB5 hx5 hb6) | (refine (?_ : wpList _ _ _ (Oper.mk none (Op.store 33 (.tmp 18) (.tmp 43)) _ _ _ _ :: _) _ _); refine wpList_store_bx rfl 33 (.tmp 18) (.tmp 43) rfl x4.heap.size #[.int .u8 0, .int .u8 0, .int .u8 0, .int .u8 0, .int .u8 0, .int .u8 0, .int .u8 0, .int .u8 0, .int .u8 0, .int .u8 0, .int .u8 0, .int .u8 0, .int .u8 0, .int .u8 0, .int .u8 0, .int .u8 0, .int .u16 0, .int .u16 0, .int .u32 0] V1 rfl rfl (bx_new x4 _ 33) (by rw [h1s.out]; rfl) in1.out one1.out rfl ?_; intro x5 hb5 hg5; have hB5 : Kpt (Bx x5 x1.heap.size V1) := ⟨(hb4.out.alloc _).grown hg5 (fun e => by have := hb4.out.lt; injection e with e; omega)⟩; have hx5 : Kpt (Below w.heap.size w x5) := ⟨(hx4.out.alloc hx4.out.size _).grown hg5 (by have := hx4.out.size; simp <;> omega) (fun q hq => by cases hq; exact hx4.out.size)⟩; have hc5 := hld.out i hi16 _ _ hb5; have hf5 := hb5.free i; have hb6 := Kpt.mk hb5; obtain ⟨x, hxx⟩ : ∃ x, x = d.getD i 0 := ⟨_, rfl⟩; rw [← hxx] at hc5; rw [← hxx] at hyx; replace hxx := Kpt.mk hxx; have hne : Kpt (x1.heap.size ≠ x4.heap.size) := ⟨by have := hb4.out.lt; omega⟩; have hlo : Kpt (w.heap.size ≤ x4.heap.size) := ⟨hx4.out.size⟩; clear hb5 hg5 hb4 hx4) | (refine (?_ : wpList _ _ _ (Oper.mk (some 43) (Op.load 33 (.tmp 17)) _ _ _ _ :: _) _ _); refine wpList_load_bx rfl 33 (.tmp 17) rfl x1.heap.size V1 rfl hb4.out _ Try.underlying33 rfl in1.out ?_) | (go_at_call 11; have hm := hb3; refine (C1.out _).mono ?_; rintro e x4 ⟨rfl, hq⟩; have hb4 : Kpt (Bx x4 x1.heap.size V1) := ⟨hb3.out.below hq hb3.out.lt⟩; have hx4 : Kpt (Below w.heap.size w x4) := ⟨hx3.out.trans (hq.mono hx3.out.size)⟩; clear hq hm hb3 hx3) | (refine (?_ : wpList _ _ _ (Oper.mk (some 40) (Op.load 33 (.tmp 17)) _ _ _ _ :: _) _ _); refine wpList_load_bx rfl 33 (.tmp 17) rfl x1.heap.size V1 rfl hb3.out _ Try.underlying33 rfl in1.out ?_))
    go_ret
    exact ⟨rfl, hx9.out⟩
end Go.Proofs.Ytcnjnebhidfogaa
