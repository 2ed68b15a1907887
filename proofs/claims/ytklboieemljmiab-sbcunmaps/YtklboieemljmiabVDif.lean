/-
  The contract of differ.
-/
import Derived.Test.YtklboieemljmiabVAwk
import Derived.DeepKeys
namespace Go.Proofs.Ytklboieemljmiab
open Go.RowKit
set_option linter.unusedVariables false
set_option linter.unusedSimpArgs false
theorem items_any (w : World) (d : Nat) (xs ys : Array Value) (x y : Nat → Int) : ∀ is : List Nat, (∀ i ∈ is, xs[i]? = some (.int .u8 (x i)) ∧ ys[i]? = some (.int .u8 (y i))) → (Op.eqItems (d + 1) 5 1 xs ys is).run Try.prog w = .ok (is.all (fun i => x i == y i)) w
  | [], _ => by simp [Op.eqItems]
  | i :: is, h => by
    obtain ⟨h1, h2⟩ := h i (by simp)
    have hp := run_part_plain (P := Try.prog) w (e := 5) (off := i * 1) (xs := xs) (v := .int .u8 (x i)) (by kernel_rfl) (by rw [Nat.mul_one]; exact h1)
    have hq := run_part_plain (P := Try.prog) w (e := 5) (off := i * 1) (xs := ys) (v := .int .u8 (y i)) (by kernel_rfl) (by rw [Nat.mul_one]; exact h2)
    have he := run_equalIn_int (P := Try.prog) w d 5 .u8 .u8 (x i) (y i) Try.underlying5
    have ih := items_any w d xs ys x y is (fun j hj => h j (by simp [hj]))
    simp only [Op.eqItems, Sem.run_bind, hp, hq, he, Result.andThen_ok]
    by_cases e : x i = y i
    · simp [e, ih]
    · have e' : (x i == y i) = false := by simpa using e
      simp [e, e']
theorem cels_at (d : List Int) (hd : d.length = 16) (j : Nat) (hj : j < 16) : (cels d).toArray[j]? = some (.int .u8 (d.getD j 0)) := by
  simp only [List.getElem?_toArray]
  unfold cels
  rw [List.getElem?_map, List.getElem?_eq_getElem (by omega), List.getD_eq_getElem?_getD, List.getElem?_eq_getElem (by omega)]
  rfl
theorem list_same (x y : List Int) (hx : x.length = 16) (hy : y.length = 16) : (List.range 16).all (fun i => x.getD i 0 == y.getD i 0) = decide (x = y) := by
  by_cases e : x = y
  · subst e; simp
  · rw [decide_eq_false e, List.all_eq_false]
    apply Classical.byContradiction
    intro hn
    apply e
    refine List.ext_getElem (by omega) (fun i h1 h2 => ?_)
    apply Classical.byContradiction
    intro hne
    apply hn
    refine ⟨i, by rw [List.mem_range]; omega, ?_⟩
    simp only [List.getD_eq_getElem?_getD]
    rw [List.getElem?_eq_getElem h1, List.getElem?_eq_getElem h2]
    simpa using hne
theorem arr_eq (x y : List Int) (hx : x.length = 16) (hy : y.length = 16) (w : World) : (Op.equalIn 10000 76 (.agg (cels x).toArray) (.agg (cels y).toArray)).run Try.prog w = .ok (decide (x = y)) w := by
  obtain ⟨i, hi⟩ := info_of_underlying Try.underlying5
  rw [run_equalIn_array w 9999 _ _ Try.underlying76 hi, show Try.prog.cellsOf 5 = 1 from by kernel_rfl, ← list_same x y hx hy]
  exact items_any w 9998 (cels x).toArray (cels y).toArray (fun i => x.getD i 0) (fun i => y.getD i 0) (List.range 16) (fun j hj => ⟨cels_at x hx j (by simpa using hj), cels_at y hy j (by simpa using hj)⟩)
theorem exec_eql_arr {W : World} {o : Oper} {a : Act} (x y : Operand) (ho : o.op = .binOp .eql 76 x y 76) (V U : Array Value) (r : Bool) (h : ∀ w : World, (Op.equalIn 10000 76 (.agg V) (.agg U)).run Try.prog w = .ok r w) (hx : a.eval x = .agg V) (hy : a.eval y = .agg U) :
    (execOp a.eval o).run Try.prog W = .ok (.value (.bool r)) W := by
  unfold execOp
  simp only [ho, hx, hy]
  simp [run_eqGuard_agg (P := Try.prog) W .eql 76 x y V U (by kernel_rfl), run_eql_struct, h]
/-- Blocks of both rows at a place. -/
theorem bks_get {w : World} {a : Option Addr} {n cp : Nat} {bs : List Bk} (h : Bks w (.slice a n cp) bs) (hn : bs.length = n) (j : Nat) (hj : j < n) : ∃ b, bs[j]? = some b ∧ b.ok ∧ ∃ g o, a = some ⟨g, o, none⟩ ∧ g < w.heap.size ∧ w.rangeAt g (o + j * 19) b.cs := by
  obtain ⟨a', c', e, _, h⟩ := h
  have hb : bs[j]? = some bs[j] := List.getElem?_eq_getElem (by omega)
  obtain ⟨h1, g, o, h2, h3, h4⟩ := h j bs[j] hb
  simp only [Value.slice.injEq] at e
  exact ⟨bs[j], hb, h1, g, o, by rw [e.1]; exact h2, h3, h4⟩
theorem range_data {w : World} {g o : Nat} {b : Bk} (h : w.rangeAt g o b.cs) : w.rangeAt g o (cels b.d) := fun j u hu => by
  refine h j u ?_
  unfold Bk.cs
  rw [List.getElem?_append_left (List.getElem?_eq_some_iff.1 hu).1]
  exact hu
theorem range_byte {w : World} {g o : Nat} {d : List Int} (h : w.rangeAt g o (cels d)) (hd : d.length = 16) (j : Nat) (hj : j < 16) : w.cell? ⟨g, o + j, none⟩ = some (.int .u8 (d.getD j 0)) := h j _ (by
  unfold cels
  rw [List.getElem?_map, List.getElem?_eq_getElem (by omega), List.getD_eq_getElem?_getD, List.getElem?_eq_getElem (by omega)]
  rfl)
/-- The first place in which data are unlike. -/
def Dif (xs bs : List Bk) (k : Nat) : Prop := ∃ i j a b, k = i * 16 + j ∧ xs[i]? = some a ∧ bs[i]? = some b ∧ j < 16 ∧ a.d.getD j 0 ≠ b.d.getD j 0 ∧ (∀ q, q < j → a.d.getD q 0 = b.d.getD q 0) ∧ ∀ q x y, q < i → xs[q]? = some x → bs[q]? = some y → x.d = y.d

set_option maxRecDepth 100000 in
set_option maxHeartbeats 2000000 in
theorem differ_none (a1 a2 : Option Addr) (n c1 c2 : Nat) (xs bs : List Bk) (w : World) (h1 : Bks w (.slice a1 n c1) xs) (hn1 : xs.length = n) (h2 : Bks w (.slice a2 n c2) bs) (hn2 : bs.length = n) (hn : n ≤ 4096) (hd : ∀ j x y, j < n → xs[j]? = some x → bs[j]? = some y → x.d = y.d) :
    Calls Try.prog 66 #[.slice a1 n c1, .slice a2 n c2] w fun e w' => e = .returned (.tuple #[.int .i64 0, .bool false]) ∧ Below w.heap.size w w' := by
  have g1 := Kpt.mk (fun j hj => bks_get h1 hn1 j hj)
  have g2 := Kpt.mk (fun j hj => bks_get h2 hn2 j hj)
  replace hd := Kpt.mk hd
  clear h1 h2 hn1 hn2
  go_enter Try.func66, Try.ntmps66
  go_wp2_with fail
  go_loopw [10] (fun t wr => ∃ i : Nat, i ≤ n ∧ t = .int .i64 i ∧ Kpt (Below w.heap.size w wr)) (fun t _ => n - (intOf t).toNat)
  case atStart => exact ⟨0, Nat.zero_le _, rfl, ⟨Below.refl _ _⟩⟩
  case round =>
    obtain ⟨i, hi, rfl, hbe⟩ := hrel
    by_cases hlt : i < n
    · have e1 : (i : Int) < n := by omega
      obtain ⟨x, hx, hxok, gx, ox, rfl, hgx, hrx⟩ := g1.out i hlt
      obtain ⟨y, hy, hyok, gy, oy, rfl, hgy, hry⟩ := g2.out i hlt
      have rx := range_data (rangeAt_keep hrx (hbe.out.block gx hgx))
      have ry := range_data (rangeAt_keep hry (hbe.out.block gy hgy))
      have HQ := arr_eq x.d y.d hxok.len hyok.len
      have hbx := fun (W : World) (h : W.rangeAt gx (ox + i * 19) (cels x.d)) j hj => range_byte h hxok.len j hj
      have hby := fun (W : World) (h : W.rangeAt gy (oy + i * 19) (cels y.d)) j hj => range_byte h hyok.len j hj
      have lx := hxok.len
      have ly := hyok.len
      obtain ⟨LX, hLX⟩ : ∃ L, L = cels x.d := ⟨_, rfl⟩
      obtain ⟨LY, hLY⟩ : ∃ L, L = cels y.d := ⟨_, rfl⟩
      rw [← hLX] at rx HQ hbx
      rw [← hLY] at ry HQ hby
      have llx : LX.length = 16 := by rw [hLX]; simp [lx]
      have lly : LY.length = 16 := by rw [hLY]; simp [ly]
      obtain ⟨VX, hVX⟩ : ∃ V, V = LX.toArray := ⟨_, rfl⟩
      obtain ⟨VY, hVY⟩ : ∃ V, V = LY.toArray := ⟨_, rfl⟩
      rw [← hVX, ← hVY] at HQ
      replace HQ := Kpt.mk HQ
      replace rx := Kpt.mk rx
      replace ry := Kpt.mk ry
      replace hbx := Kpt.mk hbx
      replace hby := Kpt.mk hby
      replace llx := Kpt.mk llx
      replace lly := Kpt.mk lly
      replace hVX := Kpt.mk hVX
      replace hVY := Kpt.mk hVY
      replace hx := Kpt.mk hx
      replace hy := Kpt.mk hy
      clear hLX hLY lx ly hrx hry hxok hyok
      go_wp2_with fail
      have he : x.d = y.d := hd.out i x y hlt hx.out hy.out
      refine wp_region_any (by kernel_rfl) ?_
      refine wpAny_of_C (C := fun W => W.rangeAt gx (ox + i * 19) LX ∧ W.rangeAt gy (oy + i * 19) LY) _ _ _ _ ?_
      refine wpAnyC_take 0 (.slice (some ⟨gx, ox, none⟩) n c1) rfl (by kernel_rfl) (by kernel_rfl) (by kernel_rfl) (fun _ _ _ h => h) (wanted_free rfl _) (fun W hW => by go_simp) ?_
      try simp only [Act.put, List.getElem_toArray, List.getElem_cons_succ, List.getElem_cons_zero, List.setIfInBounds_toArray, List.set_cons_succ, List.set_cons_zero]
      refine wpAnyC_take 1 (.int .i64 i) rfl (by kernel_rfl) (by kernel_rfl) (by kernel_rfl) (fun _ _ _ h => h) (wanted_free rfl _) (fun W hW => by go_simp) ?_
      try simp only [Act.put, List.getElem_toArray, List.getElem_cons_succ, List.getElem_cons_zero, List.setIfInBounds_toArray, List.set_cons_succ, List.set_cons_zero]
      refine wpAnyC_take 2 (.pointer (some ⟨gx, ox + i * 19, none⟩)) rfl (by kernel_rfl) (by kernel_rfl) (by kernel_rfl) (fun _ _ _ h => h) (wanted_free rfl _) (fun W hW => by go_simp) ?_
      try simp only [Act.put, List.getElem_toArray, List.getElem_cons_succ, List.getElem_cons_zero, List.setIfInBounds_toArray, List.set_cons_succ, List.set_cons_zero]
      refine wpAnyC_take 3 (.pointer (some ⟨gx, ox + i * 19, none⟩)) rfl (by kernel_rfl) (by kernel_rfl) (by kernel_rfl) (fun _ _ _ h => h) (wanted_free rfl _) (fun W hW => by go_simp) ?_
      try simp only [Act.put, List.getElem_toArray, List.getElem_cons_succ, List.getElem_cons_zero, List.setIfInBounds_toArray, List.set_cons_succ, List.set_cons_zero]
      refine wpAnyC_take 4 (.agg VX) rfl (by kernel_rfl) (by kernel_rfl) (by kernel_rfl) (fun _ _ _ h => h) (wanted_free rfl _) (fun W hW => by rw [hVX.out]; exact exec_load_rg 76 (.tmp 16) rfl gx (ox + i * 19) LX rfl hW.1 _ Try.underlying76 rfl (by rw [llx.out]; exact infoA)) ?_
      try simp only [Act.put, List.getElem_toArray, List.getElem_cons_succ, List.getElem_cons_zero, List.setIfInBounds_toArray, List.set_cons_succ, List.set_cons_zero]
      refine wpAnyC_take 5 (.slice (some ⟨gy, oy, none⟩) n c2) rfl (by kernel_rfl) (by kernel_rfl) (by kernel_rfl) (fun _ _ _ h => h) (wanted_free rfl _) (fun W hW => by go_simp) ?_
      try simp only [Act.put, List.getElem_toArray, List.getElem_cons_succ, List.getElem_cons_zero, List.setIfInBounds_toArray, List.set_cons_succ, List.set_cons_zero]
      refine wpAnyC_take 6 (.int .i64 i) rfl (by kernel_rfl) (by kernel_rfl) (by kernel_rfl) (fun _ _ _ h => h) (wanted_free rfl _) (fun W hW => by go_simp) ?_
      try simp only [Act.put, List.getElem_toArray, List.getElem_cons_succ, List.getElem_cons_zero, List.setIfInBounds_toArray, List.set_cons_succ, List.set_cons_zero]
      refine wpAnyC_take 7 (.pointer (some ⟨gy, oy + i * 19, none⟩)) rfl (by kernel_rfl) (by kernel_rfl) (by kernel_rfl) (fun _ _ _ h => h) (wanted_free rfl _) (fun W hW => by go_simp) ?_
      try simp only [Act.put, List.getElem_toArray, List.getElem_cons_succ, List.getElem_cons_zero, List.setIfInBounds_toArray, List.set_cons_succ, List.set_cons_zero]
      refine wpAnyC_take 8 (.pointer (some ⟨gy, oy + i * 19, none⟩)) rfl (by kernel_rfl) (by kernel_rfl) (by kernel_rfl) (fun _ _ _ h => h) (wanted_free rfl _) (fun W hW => by go_simp) ?_
      try simp only [Act.put, List.getElem_toArray, List.getElem_cons_succ, List.getElem_cons_zero, List.setIfInBounds_toArray, List.set_cons_succ, List.set_cons_zero]
      refine wpAnyC_take 9 (.agg VY) rfl (by kernel_rfl) (by kernel_rfl) (by kernel_rfl) (fun _ _ _ h => h) (wanted_free rfl _) (fun W hW => by rw [hVY.out]; exact exec_load_rg 76 (.tmp 21) rfl gy (oy + i * 19) LY rfl hW.2 _ Try.underlying76 rfl (by rw [lly.out]; exact infoA)) ?_
      try simp only [Act.put, List.getElem_toArray, List.getElem_cons_succ, List.getElem_cons_zero, List.setIfInBounds_toArray, List.set_cons_succ, List.set_cons_zero]
      refine wpAnyC_take 10 (.bool true) rfl (by kernel_rfl) (by kernel_rfl) (by kernel_rfl) (fun _ _ _ h => h) (wanted_free rfl _) (fun W hW => exec_eql_arr (.tmp 17) (.tmp 22) rfl VX VY true (fun w => by have := HQ.out w; rw [decide_eq_true he] at this; exact this) rfl rfl) ?_
      try simp only [Act.put, List.getElem_toArray, List.getElem_cons_succ, List.getElem_cons_zero, List.setIfInBounds_toArray, List.set_cons_succ, List.set_cons_zero]
      refine wpAnyC_done (⟨rx.out, ry.out⟩) (by kernel_rfl) ?_
      go_wp2
      go_roundw
      case rel => exact ⟨i + 1, by omega, by go_num, ⟨hbe.out.trans (below_drewN (Below.refl _ _) 1 |>.mono hbe.out.size)⟩⟩
      case measure => simp [intOf]; omega
    · have e1 : ¬ (i : Int) < n := by omega
      go_wp2
      go_ret2
      exact ⟨rfl, hbe.out⟩

set_option maxRecDepth 100000 in
set_option maxHeartbeats 2000000 in
theorem differ_at (a1 a2 : Option Addr) (n c1 c2 : Nat) (xs bs : List Bk) (w : World) (h1 : Bks w (.slice a1 n c1) xs) (hn1 : xs.length = n) (h2 : Bks w (.slice a2 n c2) bs) (hn2 : bs.length = n) (hn : n ≤ 4096) (pl : Nat) (hd : Dif xs bs pl) :
    Calls Try.prog 66 #[.slice a1 n c1, .slice a2 n c2] w fun e w' => e = .returned (.tuple #[.int .i64 pl, .bool true]) ∧ Below w.heap.size w w' := by
  have g1 := Kpt.mk (fun j hj => bks_get h1 hn1 j hj)
  have g2 := Kpt.mk (fun j hj => bks_get h2 hn2 j hj)
  obtain ⟨pi, pj, A, B, hpl, hA, hB, hpj, hne, heq, hall⟩ := hd
  have hpi : pi < n := by rw [← hn1]; exact (List.getElem?_eq_some_iff.1 hA).1
  have hne := Kpt.mk hne
  have heq := Kpt.mk heq
  have hall := Kpt.mk hall
  have hA := Kpt.mk hA
  have hB := Kpt.mk hB
  replace hpl := Kpt.mk hpl
  clear h1 h2 hn1 hn2
  go_enter Try.func66, Try.ntmps66
  go_wp2_with fail
  go_loopw [10] (fun t wr => ∃ i : Nat, i ≤ pi ∧ t = .int .i64 i ∧ Kpt (Below w.heap.size w wr)) (fun t _ => n - (intOf t).toNat)
  case atStart => exact ⟨0, Nat.zero_le _, rfl, ⟨Below.refl _ _⟩⟩
  case round =>
    obtain ⟨i, hi, rfl, hbe⟩ := hrel
    · have hlt : i < n := by omega
      have e1 : (i : Int) < n := by omega
      obtain ⟨x, hx, hxok, gx, ox, rfl, hgx, hrx⟩ := g1.out i hlt
      obtain ⟨y, hy, hyok, gy, oy, rfl, hgy, hry⟩ := g2.out i hlt
      have rx := range_data (rangeAt_keep hrx (hbe.out.block gx hgx))
      have ry := range_data (rangeAt_keep hry (hbe.out.block gy hgy))
      have HQ := arr_eq x.d y.d hxok.len hyok.len
      have hbx := fun (W : World) (h : W.rangeAt gx (ox + i * 19) (cels x.d)) j hj => range_byte h hxok.len j hj
      have hby := fun (W : World) (h : W.rangeAt gy (oy + i * 19) (cels y.d)) j hj => range_byte h hyok.len j hj
      have lx := hxok.len
      have ly := hyok.len
      obtain ⟨LX, hLX⟩ : ∃ L, L = cels x.d := ⟨_, rfl⟩
      obtain ⟨LY, hLY⟩ : ∃ L, L = cels y.d := ⟨_, rfl⟩
      rw [← hLX] at rx HQ hbx
      rw [← hLY] at ry HQ hby
      have llx : LX.length = 16 := by rw [hLX]; simp [lx]
      have lly : LY.length = 16 := by rw [hLY]; simp [ly]
      obtain ⟨VX, hVX⟩ : ∃ V, V = LX.toArray := ⟨_, rfl⟩
      obtain ⟨VY, hVY⟩ : ∃ V, V = LY.toArray := ⟨_, rfl⟩
      rw [← hVX, ← hVY] at HQ
      replace HQ := Kpt.mk HQ
      replace rx := Kpt.mk rx
      replace ry := Kpt.mk ry
      replace hbx := Kpt.mk hbx
      replace hby := Kpt.mk hby
      replace llx := Kpt.mk llx
      replace lly := Kpt.mk lly
      replace hVX := Kpt.mk hVX
      replace hVY := Kpt.mk hVY
      replace hx := Kpt.mk hx
      replace hy := Kpt.mk hy
      clear hLX hLY lx ly hrx hry hxok hyok
      go_wp2_with fail
      by_cases hip : i < pi
      · have he : x.d = y.d := hall.out i x y hip hx.out hy.out
        refine wp_region_any (by kernel_rfl) ?_
        refine wpAny_of_C (C := fun W => W.rangeAt gx (ox + i * 19) LX ∧ W.rangeAt gy (oy + i * 19) LY) _ _ _ _ ?_
        refine wpAnyC_take 0 (.slice (some ⟨gx, ox, none⟩) n c1) rfl (by kernel_rfl) (by kernel_rfl) (by kernel_rfl) (fun _ _ _ h => h) (wanted_free rfl _) (fun W hW => by go_simp) ?_
        try simp only [Act.put, List.getElem_toArray, List.getElem_cons_succ, List.getElem_cons_zero, List.setIfInBounds_toArray, List.set_cons_succ, List.set_cons_zero]
        refine wpAnyC_take 1 (.int .i64 i) rfl (by kernel_rfl) (by kernel_rfl) (by kernel_rfl) (fun _ _ _ h => h) (wanted_free rfl _) (fun W hW => by go_simp) ?_
        try simp only [Act.put, List.getElem_toArray, List.getElem_cons_succ, List.getElem_cons_zero, List.setIfInBounds_toArray, List.set_cons_succ, List.set_cons_zero]
        refine wpAnyC_take 2 (.pointer (some ⟨gx, ox + i * 19, none⟩)) rfl (by kernel_rfl) (by kernel_rfl) (by kernel_rfl) (fun _ _ _ h => h) (wanted_free rfl _) (fun W hW => by go_simp) ?_
        try simp only [Act.put, List.getElem_toArray, List.getElem_cons_succ, List.getElem_cons_zero, List.setIfInBounds_toArray, List.set_cons_succ, List.set_cons_zero]
        refine wpAnyC_take 3 (.pointer (some ⟨gx, ox + i * 19, none⟩)) rfl (by kernel_rfl) (by kernel_rfl) (by kernel_rfl) (fun _ _ _ h => h) (wanted_free rfl _) (fun W hW => by go_simp) ?_
        try simp only [Act.put, List.getElem_toArray, List.getElem_cons_succ, List.getElem_cons_zero, List.setIfInBounds_toArray, List.set_cons_succ, List.set_cons_zero]
        refine wpAnyC_take 4 (.agg VX) rfl (by kernel_rfl) (by kernel_rfl) (by kernel_rfl) (fun _ _ _ h => h) (wanted_free rfl _) (fun W hW => by rw [hVX.out]; exact exec_load_rg 76 (.tmp 16) rfl gx (ox + i * 19) LX rfl hW.1 _ Try.underlying76 rfl (by rw [llx.out]; exact infoA)) ?_
        try simp only [Act.put, List.getElem_toArray, List.getElem_cons_succ, List.getElem_cons_zero, List.setIfInBounds_toArray, List.set_cons_succ, List.set_cons_zero]
        refine wpAnyC_take 5 (.slice (some ⟨gy, oy, none⟩) n c2) rfl (by kernel_rfl) (by kernel_rfl) (by kernel_rfl) (fun _ _ _ h => h) (wanted_free rfl _) (fun W hW => by go_simp) ?_
        try simp only [Act.put, List.getElem_toArray, List.getElem_cons_succ, List.getElem_cons_zero, List.setIfInBounds_toArray, List.set_cons_succ, List.set_cons_zero]
        refine wpAnyC_take 6 (.int .i64 i) rfl (by kernel_rfl) (by kernel_rfl) (by kernel_rfl) (fun _ _ _ h => h) (wanted_free rfl _) (fun W hW => by go_simp) ?_
        try simp only [Act.put, List.getElem_toArray, List.getElem_cons_succ, List.getElem_cons_zero, List.setIfInBounds_toArray, List.set_cons_succ, List.set_cons_zero]
        refine wpAnyC_take 7 (.pointer (some ⟨gy, oy + i * 19, none⟩)) rfl (by kernel_rfl) (by kernel_rfl) (by kernel_rfl) (fun _ _ _ h => h) (wanted_free rfl _) (fun W hW => by go_simp) ?_
        try simp only [Act.put, List.getElem_toArray, List.getElem_cons_succ, List.getElem_cons_zero, List.setIfInBounds_toArray, List.set_cons_succ, List.set_cons_zero]
        refine wpAnyC_take 8 (.pointer (some ⟨gy, oy + i * 19, none⟩)) rfl (by kernel_rfl) (by kernel_rfl) (by kernel_rfl) (fun _ _ _ h => h) (wanted_free rfl _) (fun W hW => by go_simp) ?_
        try simp only [Act.put, List.getElem_toArray, List.getElem_cons_succ, List.getElem_cons_zero, List.setIfInBounds_toArray, List.set_cons_succ, List.set_cons_zero]
        refine wpAnyC_take 9 (.agg VY) rfl (by kernel_rfl) (by kernel_rfl) (by kernel_rfl) (fun _ _ _ h => h) (wanted_free rfl _) (fun W hW => by rw [hVY.out]; exact exec_load_rg 76 (.tmp 21) rfl gy (oy + i * 19) LY rfl hW.2 _ Try.underlying76 rfl (by rw [lly.out]; exact infoA)) ?_
        try simp only [Act.put, List.getElem_toArray, List.getElem_cons_succ, List.getElem_cons_zero, List.setIfInBounds_toArray, List.set_cons_succ, List.set_cons_zero]
        refine wpAnyC_take 10 (.bool true) rfl (by kernel_rfl) (by kernel_rfl) (by kernel_rfl) (fun _ _ _ h => h) (wanted_free rfl _) (fun W hW => exec_eql_arr (.tmp 17) (.tmp 22) rfl VX VY true (fun w => by have := HQ.out w; rw [decide_eq_true he] at this; exact this) rfl rfl) ?_
        try simp only [Act.put, List.getElem_toArray, List.getElem_cons_succ, List.getElem_cons_zero, List.setIfInBounds_toArray, List.set_cons_succ, List.set_cons_zero]
        refine wpAnyC_done (⟨rx.out, ry.out⟩) (by kernel_rfl) ?_
        go_wp2
        go_roundw
        case rel => exact ⟨i + 1, by omega, by go_num, ⟨hbe.out.trans (below_drewN (Below.refl _ _) 1 |>.mono hbe.out.size)⟩⟩
        case measure => simp [intOf]; omega
      · have ei : i = pi := by omega
        subst ei
        have exA : x = A := by have := hx.out.symm.trans hA.out; simpa using this
        have eyB : y = B := by have := hy.out.symm.trans hB.out; simpa using this
        subst exA eyB
        have he : ¬ x.d = y.d := fun h => hne.out (by rw [h])
        refine wp_region_any (by kernel_rfl) ?_
        refine wpAny_of_C (C := fun W => W.rangeAt gx (ox + i * 19) LX ∧ W.rangeAt gy (oy + i * 19) LY) _ _ _ _ ?_
        refine wpAnyC_take 0 (.slice (some ⟨gx, ox, none⟩) n c1) rfl (by kernel_rfl) (by kernel_rfl) (by kernel_rfl) (fun _ _ _ h => h) (wanted_free rfl _) (fun W hW => by go_simp) ?_
        try simp only [Act.put, List.getElem_toArray, List.getElem_cons_succ, List.getElem_cons_zero, List.setIfInBounds_toArray, List.set_cons_succ, List.set_cons_zero]
        refine wpAnyC_take 1 (.int .i64 i) rfl (by kernel_rfl) (by kernel_rfl) (by kernel_rfl) (fun _ _ _ h => h) (wanted_free rfl _) (fun W hW => by go_simp) ?_
        try simp only [Act.put, List.getElem_toArray, List.getElem_cons_succ, List.getElem_cons_zero, List.setIfInBounds_toArray, List.set_cons_succ, List.set_cons_zero]
        refine wpAnyC_take 2 (.pointer (some ⟨gx, ox + i * 19, none⟩)) rfl (by kernel_rfl) (by kernel_rfl) (by kernel_rfl) (fun _ _ _ h => h) (wanted_free rfl _) (fun W hW => by go_simp) ?_
        try simp only [Act.put, List.getElem_toArray, List.getElem_cons_succ, List.getElem_cons_zero, List.setIfInBounds_toArray, List.set_cons_succ, List.set_cons_zero]
        refine wpAnyC_take 3 (.pointer (some ⟨gx, ox + i * 19, none⟩)) rfl (by kernel_rfl) (by kernel_rfl) (by kernel_rfl) (fun _ _ _ h => h) (wanted_free rfl _) (fun W hW => by go_simp) ?_
        try simp only [Act.put, List.getElem_toArray, List.getElem_cons_succ, List.getElem_cons_zero, List.setIfInBounds_toArray, List.set_cons_succ, List.set_cons_zero]
        refine wpAnyC_take 4 (.agg VX) rfl (by kernel_rfl) (by kernel_rfl) (by kernel_rfl) (fun _ _ _ h => h) (wanted_free rfl _) (fun W hW => by rw [hVX.out]; exact exec_load_rg 76 (.tmp 16) rfl gx (ox + i * 19) LX rfl hW.1 _ Try.underlying76 rfl (by rw [llx.out]; exact infoA)) ?_
        try simp only [Act.put, List.getElem_toArray, List.getElem_cons_succ, List.getElem_cons_zero, List.setIfInBounds_toArray, List.set_cons_succ, List.set_cons_zero]
        refine wpAnyC_take 5 (.slice (some ⟨gy, oy, none⟩) n c2) rfl (by kernel_rfl) (by kernel_rfl) (by kernel_rfl) (fun _ _ _ h => h) (wanted_free rfl _) (fun W hW => by go_simp) ?_
        try simp only [Act.put, List.getElem_toArray, List.getElem_cons_succ, List.getElem_cons_zero, List.setIfInBounds_toArray, List.set_cons_succ, List.set_cons_zero]
        refine wpAnyC_take 6 (.int .i64 i) rfl (by kernel_rfl) (by kernel_rfl) (by kernel_rfl) (fun _ _ _ h => h) (wanted_free rfl _) (fun W hW => by go_simp) ?_
        try simp only [Act.put, List.getElem_toArray, List.getElem_cons_succ, List.getElem_cons_zero, List.setIfInBounds_toArray, List.set_cons_succ, List.set_cons_zero]
        refine wpAnyC_take 7 (.pointer (some ⟨gy, oy + i * 19, none⟩)) rfl (by kernel_rfl) (by kernel_rfl) (by kernel_rfl) (fun _ _ _ h => h) (wanted_free rfl _) (fun W hW => by go_simp) ?_
        try simp only [Act.put, List.getElem_toArray, List.getElem_cons_succ, List.getElem_cons_zero, List.setIfInBounds_toArray, List.set_cons_succ, List.set_cons_zero]
        refine wpAnyC_take 8 (.pointer (some ⟨gy, oy + i * 19, none⟩)) rfl (by kernel_rfl) (by kernel_rfl) (by kernel_rfl) (fun _ _ _ h => h) (wanted_free rfl _) (fun W hW => by go_simp) ?_
        try simp only [Act.put, List.getElem_toArray, List.getElem_cons_succ, List.getElem_cons_zero, List.setIfInBounds_toArray, List.set_cons_succ, List.set_cons_zero]
        refine wpAnyC_take 9 (.agg VY) rfl (by kernel_rfl) (by kernel_rfl) (by kernel_rfl) (fun _ _ _ h => h) (wanted_free rfl _) (fun W hW => by rw [hVY.out]; exact exec_load_rg 76 (.tmp 21) rfl gy (oy + i * 19) LY rfl hW.2 _ Try.underlying76 rfl (by rw [lly.out]; exact infoA)) ?_
        try simp only [Act.put, List.getElem_toArray, List.getElem_cons_succ, List.getElem_cons_zero, List.setIfInBounds_toArray, List.set_cons_succ, List.set_cons_zero]
        refine wpAnyC_take 10 (.bool false) rfl (by kernel_rfl) (by kernel_rfl) (by kernel_rfl) (fun _ _ _ h => h) (wanted_free rfl _) (fun W hW => exec_eql_arr (.tmp 17) (.tmp 22) rfl VX VY false (fun w => by have := HQ.out w; rw [decide_eq_false he] at this; exact this) rfl rfl) ?_
        try simp only [Act.put, List.getElem_toArray, List.getElem_cons_succ, List.getElem_cons_zero, List.setIfInBounds_toArray, List.set_cons_succ, List.set_cons_zero]
        refine wpAnyC_done (⟨rx.out, ry.out⟩) (by kernel_rfl) ?_
        have hgx' : gx < wr.heap.size := Nat.lt_of_lt_of_le hgx hbe.out.size
        have hgy' : gy < wr.heap.size := Nat.lt_of_lt_of_le hgy hbe.out.size
        clear he HQ
        go_wp2_with fail
        go_loopw [24] (fun t w8 => ∃ j : Nat, j ≤ pj ∧ t = .int .i64 j ∧ Kpt (Below wr.heap.size wr w8)) (fun t _ => 16 - (intOf t).toNat)
        case atStart => exact ⟨0, Nat.zero_le _, rfl, ⟨below_drewN (Below.refl _ _) 1⟩⟩
        case round =>
          obtain ⟨j, hj, rfl, hb8⟩ := hrel
          have hj16 : j < 16 := by omega
          have e2 : (j : Int) < 16 := by omega
          have r8x := Kpt.mk (rangeAt_keep rx.out (hb8.out.block gx hgx'))
          have r8y := Kpt.mk (rangeAt_keep ry.out (hb8.out.block gy hgy'))
          obtain ⟨vx, hvx⟩ : ∃ v, v = x.d.getD j 0 := ⟨_, rfl⟩
          obtain ⟨vy, hvy⟩ : ∃ v, v = y.d.getD j 0 := ⟨_, rfl⟩
          have hcx := fun W h => hbx.out W h j hj16
          have hcy := fun W h => hby.out W h j hj16
          rw [← hvx] at hcx
          rw [← hvy] at hcy
          replace hcx := Kpt.mk hcx
          replace hcy := Kpt.mk hcy
          replace hvx := Kpt.mk hvx
          replace hvy := Kpt.mk hvy
          by_cases hjp : j < pj
          · have hv : vx = vy := by rw [hvx.out, hvy.out]; exact heq.out j hjp
            subst hv
            clear hvx hvy
            go_wp2_with fail
            refine wp_region_any (by kernel_rfl) ?_
            refine wpAny_of_C (C := fun W => W.rangeAt gx (ox + i * 19) LX ∧ W.rangeAt gy (oy + i * 19) LY) _ _ _ _ ?_
            refine wpAnyC_take 0 (.slice (some ⟨gx, ox, none⟩) n c1) rfl (by kernel_rfl) (by kernel_rfl) (by kernel_rfl) (fun _ _ _ h => h) (wanted_free rfl _) (fun W hW => by go_simp) ?_
            try simp only [Act.put, List.getElem_toArray, List.getElem_cons_succ, List.getElem_cons_zero, List.setIfInBounds_toArray, List.set_cons_succ, List.set_cons_zero]
            refine wpAnyC_take 1 (.int .i64 i) rfl (by kernel_rfl) (by kernel_rfl) (by kernel_rfl) (fun _ _ _ h => h) (wanted_free rfl _) (fun W hW => by go_simp) ?_
            try simp only [Act.put, List.getElem_toArray, List.getElem_cons_succ, List.getElem_cons_zero, List.setIfInBounds_toArray, List.set_cons_succ, List.set_cons_zero]
            refine wpAnyC_take 2 (.int .i64 j) rfl (by kernel_rfl) (by kernel_rfl) (by kernel_rfl) (fun _ _ _ h => h) (wanted_free rfl _) (fun W hW => by go_simp) ?_
            try simp only [Act.put, List.getElem_toArray, List.getElem_cons_succ, List.getElem_cons_zero, List.setIfInBounds_toArray, List.set_cons_succ, List.set_cons_zero]
            refine wpAnyC_take 3 (.pointer (some ⟨gx, ox + i * 19, none⟩)) rfl (by kernel_rfl) (by kernel_rfl) (by kernel_rfl) (fun _ _ _ h => h) (wanted_free rfl _) (fun W hW => by go_simp) ?_
            try simp only [Act.put, List.getElem_toArray, List.getElem_cons_succ, List.getElem_cons_zero, List.setIfInBounds_toArray, List.set_cons_succ, List.set_cons_zero]
            refine wpAnyC_take 4 (.pointer (some ⟨gx, ox + i * 19, none⟩)) rfl (by kernel_rfl) (by kernel_rfl) (by kernel_rfl) (fun _ _ _ h => h) (wanted_free rfl _) (fun W hW => by go_simp) ?_
            try simp only [Act.put, List.getElem_toArray, List.getElem_cons_succ, List.getElem_cons_zero, List.setIfInBounds_toArray, List.set_cons_succ, List.set_cons_zero]
            refine wpAnyC_take 5 (.pointer (some ⟨gx, ox + i * 19 + j, none⟩)) rfl (by kernel_rfl) (by kernel_rfl) (by kernel_rfl) (fun _ _ _ h => h) (wanted_free rfl _) (fun W hW => by go_simp) ?_
            try simp only [Act.put, List.getElem_toArray, List.getElem_cons_succ, List.getElem_cons_zero, List.setIfInBounds_toArray, List.set_cons_succ, List.set_cons_zero]
            refine wpAnyC_take 6 (.int .u8 vx) rfl (by kernel_rfl) (by kernel_rfl) (by kernel_rfl) (fun _ _ _ h => h) (wanted_free rfl _) (fun W hW => by have hh := hcx.out W hW.1; go_simp) ?_
            try simp only [Act.put, List.getElem_toArray, List.getElem_cons_succ, List.getElem_cons_zero, List.setIfInBounds_toArray, List.set_cons_succ, List.set_cons_zero]
            refine wpAnyC_take 7 (.slice (some ⟨gy, oy, none⟩) n c2) rfl (by kernel_rfl) (by kernel_rfl) (by kernel_rfl) (fun _ _ _ h => h) (wanted_free rfl _) (fun W hW => by go_simp) ?_
            try simp only [Act.put, List.getElem_toArray, List.getElem_cons_succ, List.getElem_cons_zero, List.setIfInBounds_toArray, List.set_cons_succ, List.set_cons_zero]
            refine wpAnyC_take 8 (.int .i64 i) rfl (by kernel_rfl) (by kernel_rfl) (by kernel_rfl) (fun _ _ _ h => h) (wanted_free rfl _) (fun W hW => by go_simp) ?_
            try simp only [Act.put, List.getElem_toArray, List.getElem_cons_succ, List.getElem_cons_zero, List.setIfInBounds_toArray, List.set_cons_succ, List.set_cons_zero]
            refine wpAnyC_take 9 (.int .i64 j) rfl (by kernel_rfl) (by kernel_rfl) (by kernel_rfl) (fun _ _ _ h => h) (wanted_free rfl _) (fun W hW => by go_simp) ?_
            try simp only [Act.put, List.getElem_toArray, List.getElem_cons_succ, List.getElem_cons_zero, List.setIfInBounds_toArray, List.set_cons_succ, List.set_cons_zero]
            refine wpAnyC_take 10 (.pointer (some ⟨gy, oy + i * 19, none⟩)) rfl (by kernel_rfl) (by kernel_rfl) (by kernel_rfl) (fun _ _ _ h => h) (wanted_free rfl _) (fun W hW => by go_simp) ?_
            try simp only [Act.put, List.getElem_toArray, List.getElem_cons_succ, List.getElem_cons_zero, List.setIfInBounds_toArray, List.set_cons_succ, List.set_cons_zero]
            refine wpAnyC_take 11 (.pointer (some ⟨gy, oy + i * 19, none⟩)) rfl (by kernel_rfl) (by kernel_rfl) (by kernel_rfl) (fun _ _ _ h => h) (wanted_free rfl _) (fun W hW => by go_simp) ?_
            try simp only [Act.put, List.getElem_toArray, List.getElem_cons_succ, List.getElem_cons_zero, List.setIfInBounds_toArray, List.set_cons_succ, List.set_cons_zero]
            refine wpAnyC_take 12 (.pointer (some ⟨gy, oy + i * 19 + j, none⟩)) rfl (by kernel_rfl) (by kernel_rfl) (by kernel_rfl) (fun _ _ _ h => h) (wanted_free rfl _) (fun W hW => by go_simp) ?_
            try simp only [Act.put, List.getElem_toArray, List.getElem_cons_succ, List.getElem_cons_zero, List.setIfInBounds_toArray, List.set_cons_succ, List.set_cons_zero]
            refine wpAnyC_take 13 (.int .u8 vx) rfl (by kernel_rfl) (by kernel_rfl) (by kernel_rfl) (fun _ _ _ h => h) (wanted_free rfl _) (fun W hW => by have hh := hcy.out W hW.2; go_simp) ?_
            try simp only [Act.put, List.getElem_toArray, List.getElem_cons_succ, List.getElem_cons_zero, List.setIfInBounds_toArray, List.set_cons_succ, List.set_cons_zero]
            refine wpAnyC_take 14 (.bool false) rfl (by kernel_rfl) (by kernel_rfl) (by kernel_rfl) (fun _ _ _ h => h) (wanted_free rfl _) (fun W hW => by go_simp) ?_
            try simp only [Act.put, List.getElem_toArray, List.getElem_cons_succ, List.getElem_cons_zero, List.setIfInBounds_toArray, List.set_cons_succ, List.set_cons_zero]
            refine wpAnyC_done (⟨r8x.out, r8y.out⟩) (by kernel_rfl) ?_
            go_wp2
            go_roundw
            case rel => exact ⟨j + 1, by omega, by go_num, ⟨hb8.out.trans (below_drewN (Below.refl _ _) 1 |>.mono hb8.out.size)⟩⟩
            case measure => simp [intOf]; omega
          · have ej : j = pj := by omega
            subst ej
            have hv : ¬ vx = vy := by rw [hvx.out, hvy.out]; exact hne.out
            have hv2 : (vx != vy) = true := by simpa using hv
            have ep : IntKind.i64.wrap ((i : Int) * 16 + j) = (pl : Int) := by rw [IntKind.wrap_i64, hpl.out]; omega
            clear hvx hvy
            go_wp2_with fail
            refine wp_region_any (by kernel_rfl) ?_
            refine wpAny_of_C (C := fun W => W.rangeAt gx (ox + i * 19) LX ∧ W.rangeAt gy (oy + i * 19) LY) _ _ _ _ ?_
            refine wpAnyC_take 0 (.slice (some ⟨gx, ox, none⟩) n c1) rfl (by kernel_rfl) (by kernel_rfl) (by kernel_rfl) (fun _ _ _ h => h) (wanted_free rfl _) (fun W hW => by go_simp) ?_
            try simp only [Act.put, List.getElem_toArray, List.getElem_cons_succ, List.getElem_cons_zero, List.setIfInBounds_toArray, List.set_cons_succ, List.set_cons_zero]
            refine wpAnyC_take 1 (.int .i64 i) rfl (by kernel_rfl) (by kernel_rfl) (by kernel_rfl) (fun _ _ _ h => h) (wanted_free rfl _) (fun W hW => by go_simp) ?_
            try simp only [Act.put, List.getElem_toArray, List.getElem_cons_succ, List.getElem_cons_zero, List.setIfInBounds_toArray, List.set_cons_succ, List.set_cons_zero]
            refine wpAnyC_take 2 (.int .i64 j) rfl (by kernel_rfl) (by kernel_rfl) (by kernel_rfl) (fun _ _ _ h => h) (wanted_free rfl _) (fun W hW => by go_simp) ?_
            try simp only [Act.put, List.getElem_toArray, List.getElem_cons_succ, List.getElem_cons_zero, List.setIfInBounds_toArray, List.set_cons_succ, List.set_cons_zero]
            refine wpAnyC_take 3 (.pointer (some ⟨gx, ox + i * 19, none⟩)) rfl (by kernel_rfl) (by kernel_rfl) (by kernel_rfl) (fun _ _ _ h => h) (wanted_free rfl _) (fun W hW => by go_simp) ?_
            try simp only [Act.put, List.getElem_toArray, List.getElem_cons_succ, List.getElem_cons_zero, List.setIfInBounds_toArray, List.set_cons_succ, List.set_cons_zero]
            refine wpAnyC_take 4 (.pointer (some ⟨gx, ox + i * 19, none⟩)) rfl (by kernel_rfl) (by kernel_rfl) (by kernel_rfl) (fun _ _ _ h => h) (wanted_free rfl _) (fun W hW => by go_simp) ?_
            try simp only [Act.put, List.getElem_toArray, List.getElem_cons_succ, List.getElem_cons_zero, List.setIfInBounds_toArray, List.set_cons_succ, List.set_cons_zero]
            refine wpAnyC_take 5 (.pointer (some ⟨gx, ox + i * 19 + j, none⟩)) rfl (by kernel_rfl) (by kernel_rfl) (by kernel_rfl) (fun _ _ _ h => h) (wanted_free rfl _) (fun W hW => by go_simp) ?_
            try simp only [Act.put, List.getElem_toArray, List.getElem_cons_succ, List.getElem_cons_zero, List.setIfInBounds_toArray, List.set_cons_succ, List.set_cons_zero]
            refine wpAnyC_take 6 (.int .u8 vx) rfl (by kernel_rfl) (by kernel_rfl) (by kernel_rfl) (fun _ _ _ h => h) (wanted_free rfl _) (fun W hW => by have hh := hcx.out W hW.1; go_simp) ?_
            try simp only [Act.put, List.getElem_toArray, List.getElem_cons_succ, List.getElem_cons_zero, List.setIfInBounds_toArray, List.set_cons_succ, List.set_cons_zero]
            refine wpAnyC_take 7 (.slice (some ⟨gy, oy, none⟩) n c2) rfl (by kernel_rfl) (by kernel_rfl) (by kernel_rfl) (fun _ _ _ h => h) (wanted_free rfl _) (fun W hW => by go_simp) ?_
            try simp only [Act.put, List.getElem_toArray, List.getElem_cons_succ, List.getElem_cons_zero, List.setIfInBounds_toArray, List.set_cons_succ, List.set_cons_zero]
            refine wpAnyC_take 8 (.int .i64 i) rfl (by kernel_rfl) (by kernel_rfl) (by kernel_rfl) (fun _ _ _ h => h) (wanted_free rfl _) (fun W hW => by go_simp) ?_
            try simp only [Act.put, List.getElem_toArray, List.getElem_cons_succ, List.getElem_cons_zero, List.setIfInBounds_toArray, List.set_cons_succ, List.set_cons_zero]
            refine wpAnyC_take 9 (.int .i64 j) rfl (by kernel_rfl) (by kernel_rfl) (by kernel_rfl) (fun _ _ _ h => h) (wanted_free rfl _) (fun W hW => by go_simp) ?_
            try simp only [Act.put, List.getElem_toArray, List.getElem_cons_succ, List.getElem_cons_zero, List.setIfInBounds_toArray, List.set_cons_succ, List.set_cons_zero]
            refine wpAnyC_take 10 (.pointer (some ⟨gy, oy + i * 19, none⟩)) rfl (by kernel_rfl) (by kernel_rfl) (by kernel_rfl) (fun _ _ _ h => h) (wanted_free rfl _) (fun W hW => by go_simp) ?_
            try simp only [Act.put, List.getElem_toArray, List.getElem_cons_succ, List.getElem_cons_zero, List.setIfInBounds_toArray, List.set_cons_succ, List.set_cons_zero]
            refine wpAnyC_take 11 (.pointer (some ⟨gy, oy + i * 19, none⟩)) rfl (by kernel_rfl) (by kernel_rfl) (by kernel_rfl) (fun _ _ _ h => h) (wanted_free rfl _) (fun W hW => by go_simp) ?_
            try simp only [Act.put, List.getElem_toArray, List.getElem_cons_succ, List.getElem_cons_zero, List.setIfInBounds_toArray, List.set_cons_succ, List.set_cons_zero]
            refine wpAnyC_take 12 (.pointer (some ⟨gy, oy + i * 19 + j, none⟩)) rfl (by kernel_rfl) (by kernel_rfl) (by kernel_rfl) (fun _ _ _ h => h) (wanted_free rfl _) (fun W hW => by go_simp) ?_
            try simp only [Act.put, List.getElem_toArray, List.getElem_cons_succ, List.getElem_cons_zero, List.setIfInBounds_toArray, List.set_cons_succ, List.set_cons_zero]
            refine wpAnyC_take 13 (.int .u8 vy) rfl (by kernel_rfl) (by kernel_rfl) (by kernel_rfl) (fun _ _ _ h => h) (wanted_free rfl _) (fun W hW => by have hh := hcy.out W hW.2; go_simp) ?_
            try simp only [Act.put, List.getElem_toArray, List.getElem_cons_succ, List.getElem_cons_zero, List.setIfInBounds_toArray, List.set_cons_succ, List.set_cons_zero]
            refine wpAnyC_take 14 (.bool true) rfl (by kernel_rfl) (by kernel_rfl) (by kernel_rfl) (fun _ _ _ h => h) (wanted_free rfl _) (fun W hW => by go_simp) ?_
            try simp only [Act.put, List.getElem_toArray, List.getElem_cons_succ, List.getElem_cons_zero, List.setIfInBounds_toArray, List.set_cons_succ, List.set_cons_zero]
            refine wpAnyC_done (⟨r8x.out, r8y.out⟩) (by kernel_rfl) ?_
            go_wp2
            go_ret2
            exact ⟨by first | rfl | (rw [hpl.out]; simp), hbe.out.trans ((hb8.out.trans (below_drewN (Below.refl _ _) 1 |>.mono hb8.out.size)).mono hbe.out.size)⟩

end Go.Proofs.Ytklboieemljmiab
