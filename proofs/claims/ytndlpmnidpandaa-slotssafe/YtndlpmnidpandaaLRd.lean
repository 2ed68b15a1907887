/-
  Slots: read of a file.
-/
import Derived.Test.YtndlpmnidpandaaLBx
namespace Go.Proofs.Ytndlpmnidpandaa
open Go.RowKit
set_option linter.unusedVariables false
set_option linter.unusedSimpArgs false

theorem size_end0 : (⟨#[46, 48]⟩ : ByteArray).size = 2 := rfl
theorem size_end1 : (⟨#[46, 49]⟩ : ByteArray).size = 2 := rfl
theorem cast0 : ((0 : Nat) : Int) = 0 := rfl
theorem cast4116 : ((4116 : Nat) : Int) = 4116 := rfl
def zeroL : Array Value := #[.bool false, .int .u64 0, .slice none 0 0]
theorem zeroL1 : zeroL.all (·.oneCell') = true := by simp [zeroL, Value.oneCell']
theorem zeroLi : (Try.prog.info? 86).map (fun i => i.zero) = some (some (.agg zeroL)) := by kernel_rfl
theorem infoL : (Try.prog.info? 86).map (·.size) = some 3 := by kernel_rfl
theorem below_drawn (w : World) (k : Nat) : Below w.heap.size w { w with drawn := k } := ⟨rfl, rfl, rfl, Nat.le_refl _, fun _ _ => rfl⟩
theorem wd_drawn {w : World} {B : Nat} {tag : Tags} {st : St} (h : Wd w B tag st) (k : Nat) : Wd { w with drawn := k } B tag st := h.below (below_drawn w k)
theorem step_drawn {w w1 : World} {tag tag1 : Tags} {X : Tag → Prop} (h : Step w w1 tag tag1 X) (k : Nat) : Step w { w1 with drawn := k } tag tag1 X := h.trans (step_below (below_drawn w1 k) tag1 X)
theorem bx_drawn {w : World} {b : Nat} {cs : Array Value} (h : Bx w b cs) (k : Nat) : Bx { w with drawn := k } b cs := ⟨h.lt, h.cells, h.free⟩
theorem sl_drawn {w : World} {S B : Nat} {tag : Tags} {f : ByteArray} {kn : Bool} {g nx : Int} (h : Sl w S B tag f kn g nx) (k : Nat) : Sl { w with drawn := k } S B tag f kn g nx := ⟨bx_drawn h.bx k, h.bare⟩

set_option maxRecDepth 100000 in
set_option maxHeartbeats 1000000 in
theorem sread_none0 (S B : Nat) (f : ByteArray) (kn : Bool) (g nx : Int) (tag : Tags) (st : St) (w : World) (hS : Sl w S B tag f kn g nx)
    (h : Wd w B tag st) (hc : st.cnt < 549755813888) (hf : st.fails st.ops = false) (h1 : 1 ≤ f.size) (h2 : f.size ≤ 30) (hs : st.seen (f ++ ⟨#[46, 48]⟩) = none) :
    Calls Try.prog 38 #[.pointer (some ⟨S, 0, none⟩), .int .i64 0] w fun e w' => e = .returned (.tuple #[.agg zeroL, .int .i64 0]) ∧ Wd w' B tag { st with ops := st.ops + 1, cnt := st.cnt + 1 } ∧ Step w w' tag tag (fun _ => True) := by
  have HE : Kpt (∀ W, Calls Try.prog 32 #[.int .i64 0] W fun e w' => e = .returned (.string ⟨#[46, 48]⟩) ∧ w' = W) := ⟨ending_0⟩
  have hfs : ¬ 9223372036854775807 < f.size + 2 := by omega
  have hsz : (f ++ ⟨#[46, 48]⟩).size = f.size + 2 := by rw [ByteArray.size_append, size_end0]
  have hSl := hS.bx.lt
  have HR : Kpt (∀ W, Wd W B tag st → Calls Try.prog 21 #[.pointer (some ⟨B, 0, none⟩), .string (f ++ ⟨#[46, 48]⟩), .int .i64 0, .int .i64 4116] W fun e w' => e = .returned (.tuple #[.slice none 0 0, .int .i64 8]) ∧
      Wd w' B tag { st with ops := st.ops + 1, cnt := st.cnt + 1 } ∧ Step W w' tag tag (fun _ => True)) := ⟨fun W hW => by
    have hx := read_none W B tag st hW hc hf (f ++ ⟨#[46, 48]⟩) (by rw [hsz]; omega) (by rw [hsz]; omega) 0 4116 hs
    rw [cast0, cast4116] at hx
    exact hx⟩
  replace hS := Kpt.mk hS
  have hW0 := Kpt.mk h
  clear hc hf hsz h hs
  go_enter Try.func38, Try.ntmps38
  go_wp2_with (refine wpList_var rfl 86 rfl zeroL zeroLi ?_; intro b4 w1 hl4 hX4 hB4)
  have hW1 := Kpt.mk (hW0.out.below hB4)
  have hS1 := Kpt.mk (hS.out.below hB4)
  have ht4 := wd_none hW0.out hl4
  have hs1 := Kpt.mk (step_below hB4 tag (fun _ => True))
  have hC0 : w1.cell? ⟨S, 0, none⟩ = some (.pointer (some ⟨B, 0, none⟩)) ∧ w1.cell? ⟨S, 1, none⟩ = some (.string f) := ⟨hS1.out.at.1, hS1.out.at.2.1⟩
  replace hX4 := Kpt.mk hX4
  clear hB4 hS hW0
  refine wp_region_any (by kernel_rfl) ?_
  refine wpAny_of_C (C := fun W => W.cell? ⟨S, 0, none⟩ = some (.pointer (some ⟨B, 0, none⟩)) ∧ W.cell? ⟨S, 1, none⟩ = some (.string f)) _ _ _ _ ?_
  refine wpAnyC_take 0 (.pointer (some ⟨S, 0, none⟩)) rfl (by kernel_rfl) (by kernel_rfl) (by kernel_rfl) (fun _ _ _ h => h) (wanted_free rfl _) (fun W hW => by go_simp) ?_
  try simp only [Act.put, List.getElem_toArray, List.getElem_cons_succ, List.getElem_cons_zero, List.setIfInBounds_toArray, List.set_cons_succ, List.set_cons_zero]
  refine wpAnyC_take 1 (.pointer (some ⟨S, 0, none⟩)) rfl (by kernel_rfl) (by kernel_rfl) (by kernel_rfl) (fun _ _ _ h => h) (wanted_free rfl _) (fun W hW => by go_simp) ?_
  try simp only [Act.put, List.getElem_toArray, List.getElem_cons_succ, List.getElem_cons_zero, List.setIfInBounds_toArray, List.set_cons_succ, List.set_cons_zero]
  refine wpAnyC_take 2 (.pointer (some ⟨S, 0, none⟩)) rfl (by kernel_rfl) (by kernel_rfl) (by kernel_rfl) (fun _ _ _ h => h) (wanted_free rfl _) (fun W hW => by go_simp) ?_
  try simp only [Act.put, List.getElem_toArray, List.getElem_cons_succ, List.getElem_cons_zero, List.setIfInBounds_toArray, List.set_cons_succ, List.set_cons_zero]
  refine wpAnyC_take 3 (.pointer (some ⟨B, 0, none⟩)) rfl (by kernel_rfl) (by kernel_rfl) (by kernel_rfl) (fun _ _ _ h => h) (wanted_free rfl _) (fun W hW => by have h := hW.1; go_simp) ?_
  try simp only [Act.put, List.getElem_toArray, List.getElem_cons_succ, List.getElem_cons_zero, List.setIfInBounds_toArray, List.set_cons_succ, List.set_cons_zero]
  refine wpAnyC_take 4 (.pointer (some ⟨S, 0, none⟩)) rfl (by kernel_rfl) (by kernel_rfl) (by kernel_rfl) (fun _ _ _ h => h) (wanted_free rfl _) (fun W hW => by go_simp) ?_
  try simp only [Act.put, List.getElem_toArray, List.getElem_cons_succ, List.getElem_cons_zero, List.setIfInBounds_toArray, List.set_cons_succ, List.set_cons_zero]
  refine wpAnyC_take 5 (.pointer (some ⟨S, 0, none⟩)) rfl (by kernel_rfl) (by kernel_rfl) (by kernel_rfl) (fun _ _ _ h => h) (wanted_free rfl _) (fun W hW => by go_simp) ?_
  try simp only [Act.put, List.getElem_toArray, List.getElem_cons_succ, List.getElem_cons_zero, List.setIfInBounds_toArray, List.set_cons_succ, List.set_cons_zero]
  refine wpAnyC_take 6 (.pointer (some ⟨S, 1, none⟩)) rfl (by kernel_rfl) (by kernel_rfl) (by kernel_rfl) (fun _ _ _ h => h) (wanted_free rfl _) (fun W hW => by go_simp) ?_
  try simp only [Act.put, List.getElem_toArray, List.getElem_cons_succ, List.getElem_cons_zero, List.setIfInBounds_toArray, List.set_cons_succ, List.set_cons_zero]
  refine wpAnyC_take 7 (.string f) rfl (by kernel_rfl) (by kernel_rfl) (by kernel_rfl) (fun _ _ _ h => h) (wanted_free rfl _) (fun W hW => by have h := hW.2; go_simp) ?_
  try simp only [Act.put, List.getElem_toArray, List.getElem_cons_succ, List.getElem_cons_zero, List.setIfInBounds_toArray, List.set_cons_succ, List.set_cons_zero]
  refine wpAnyC_take 8 (.int .i64 0) rfl (by kernel_rfl) (by kernel_rfl) (by kernel_rfl) (fun _ _ _ h => h) (wanted_free rfl _) (fun W hW => by go_simp) ?_
  try simp only [Act.put, List.getElem_toArray, List.getElem_cons_succ, List.getElem_cons_zero, List.setIfInBounds_toArray, List.set_cons_succ, List.set_cons_zero]
  refine wpAnyC_one 9 (hC0) rfl (by kernel_rfl) (wanted_free rfl _) (fun KA hKA => ?_)
  go_simp
  refine (HE.out _).mono ?_
  rintro e y1 ⟨rfl, h9⟩
  have h9s := h9.symm
  subst h9s
  refine hKA _ _ ?_
  clear hKA KA
  try simp only [Act.put, List.getElem_toArray, List.getElem_cons_succ, List.getElem_cons_zero, List.setIfInBounds_toArray, List.set_cons_succ, List.set_cons_zero]
  refine wpAnyC_take 10 (.string (f ++ ⟨#[46, 48]⟩)) rfl (by kernel_rfl) (by kernel_rfl) (by kernel_rfl) (fun _ _ _ h => h) (wanted_free rfl _) (fun W hW => by go_simp) ?_
  try simp only [Act.put, List.getElem_toArray, List.getElem_cons_succ, List.getElem_cons_zero, List.setIfInBounds_toArray, List.set_cons_succ, List.set_cons_zero]
  refine wpAnyC_one 11 (hC0) rfl (by kernel_rfl) (wanted_free rfl _) (fun KA hKA => ?_)
  go_simp
  refine (HR.out _ (wd_drawn hW1.out _)).mono ?_
  rintro e y2 ⟨rfl, hw2, hst2⟩
  have hs2 := Kpt.mk ((step_drawn hs1.out _).trans hst2)
  have hX2 := Kpt.mk ((bx_drawn hX4.out _).step hst2 ht4)
  have hS2 := Kpt.mk ((sl_drawn hS1.out _).step hst2)
  have hC2 : y2.cell? ⟨S, 0, none⟩ = some (.pointer (some ⟨B, 0, none⟩)) ∧ y2.cell? ⟨S, 1, none⟩ = some (.string f) := ⟨hS2.out.at.1, hS2.out.at.2.1⟩
  replace hw2 := Kpt.mk hw2
  clear hst2 hs1 hX4 hS1 hW1
  refine hKA _ _ ?_
  clear hKA KA
  try simp only [Act.put, List.getElem_toArray, List.getElem_cons_succ, List.getElem_cons_zero, List.setIfInBounds_toArray, List.set_cons_succ, List.set_cons_zero]
  refine wpAnyC_take 12 (.tuple #[.slice none 0 0, .int .i64 8]) rfl (by kernel_rfl) (by kernel_rfl) (by kernel_rfl) (fun _ _ _ h => h) (wanted_free rfl _) (fun W hW => by go_simp) ?_
  try simp only [Act.put, List.getElem_toArray, List.getElem_cons_succ, List.getElem_cons_zero, List.setIfInBounds_toArray, List.set_cons_succ, List.set_cons_zero]
  refine wpAnyC_take 13 (.slice none 0 0) rfl (by kernel_rfl) (by kernel_rfl) (by kernel_rfl) (fun _ _ _ h => h) (wanted_free rfl _) (fun W hW => by go_simp) ?_
  try simp only [Act.put, List.getElem_toArray, List.getElem_cons_succ, List.getElem_cons_zero, List.setIfInBounds_toArray, List.set_cons_succ, List.set_cons_zero]
  refine wpAnyC_take 14 (.int .i64 8) rfl (by kernel_rfl) (by kernel_rfl) (by kernel_rfl) (fun _ _ _ h => h) (wanted_free rfl _) (fun W hW => by go_simp) ?_
  try simp only [Act.put, List.getElem_toArray, List.getElem_cons_succ, List.getElem_cons_zero, List.setIfInBounds_toArray, List.set_cons_succ, List.set_cons_zero]
  refine wpAnyC_take 15 (.slice none 0 0) rfl (by kernel_rfl) (by kernel_rfl) (by kernel_rfl) (fun _ _ _ h => h) (wanted_free rfl _) (fun W hW => by go_simp) ?_
  try simp only [Act.put, List.getElem_toArray, List.getElem_cons_succ, List.getElem_cons_zero, List.setIfInBounds_toArray, List.set_cons_succ, List.set_cons_zero]
  refine wpAnyC_take 16 (.int .i64 8) rfl (by kernel_rfl) (by kernel_rfl) (by kernel_rfl) (fun _ _ _ h => h) (wanted_free rfl _) (fun W hW => by go_simp) ?_
  try simp only [Act.put, List.getElem_toArray, List.getElem_cons_succ, List.getElem_cons_zero, List.setIfInBounds_toArray, List.set_cons_succ, List.set_cons_zero]
  refine wpAnyC_done (hC2) (by kernel_rfl) ?_
  go_wp2_with (refine wpList_store_bx rfl 86 _ _ rfl b4 zeroL zeroL rfl rfl hX2.out rfl infoL zeroL1 rfl ?_; intro w3 hX3 hg3)
  refine bodyPost_ret (v := .tuple #[.agg zeroL, .int .i64 0]) (by simp [results, Try.results38, asAddr, Act.put, run_res hX3 86 _ Try.underlying86 rfl infoL]) rfl ⟨rfl, hw2.out.own hg3 ht4, hs2.out.own hg3 hl4⟩

set_option maxRecDepth 100000 in
set_option maxHeartbeats 1000000 in
theorem sread_bad0 (S B : Nat) (f : ByteArray) (kn : Bool) (g nx : Int) (tag : Tags) (st : St) (w : World) (hS : Sl w S B tag f kn g nx)
    (h : Wd w B tag st) (hc : st.cnt < 549755813888) (hf : st.fails st.ops = false) (h1 : 1 ≤ f.size) (h2 : f.size ≤ 30) (zs : List Int) (hs : st.seen (f ++ ⟨#[46, 48]⟩) = some zs) (hby : Bytes zs) (hd : decO (zs.take 4116) = none) :
    Calls Try.prog 38 #[.pointer (some ⟨S, 0, none⟩), .int .i64 0] w fun e w' => e = .returned (.tuple #[.agg zeroL, .int .i64 0]) ∧ Wd w' B tag { st with ops := st.ops + 1, cnt := st.cnt + 1 } ∧ Step w w' tag tag (fun _ => True) := by
  have hzl : (zs.take 4116).length ≤ 4116 := by rw [List.length_take]; omega
  have hbt : Kpt (Bytes (zs.take 4116)) := ⟨Bytes.take hby 4116⟩
  obtain ⟨Z, hZ⟩ : ∃ Z, Z = zs.take 4116 := ⟨_, rfl⟩
  have HE : Kpt (∀ W, Calls Try.prog 32 #[.int .i64 0] W fun e w' => e = .returned (.string ⟨#[46, 48]⟩) ∧ w' = W) := ⟨ending_0⟩
  have hfs : ¬ 9223372036854775807 < f.size + 2 := by omega
  have hsz : (f ++ ⟨#[46, 48]⟩).size = f.size + 2 := by rw [ByteArray.size_append, size_end0]
  have hSl := hS.bx.lt
  have HR : Kpt (∀ W, Wd W B tag st → Calls Try.prog 21 #[.pointer (some ⟨B, 0, none⟩), .string (f ++ ⟨#[46, 48]⟩), .int .i64 0, .int .i64 4116] W fun e w' => ∃ a c, e = .returned (.tuple #[.slice a (zs.take 4116).length c, .int .i64 0]) ∧
      Wd w' B tag { st with ops := st.ops + 1, cnt := st.cnt + 1 } ∧ Step W w' tag tag (fun _ => True) ∧ Row w' (.slice a (zs.take 4116).length c) (zs.take 4116)) := ⟨fun W hW => by
    have hx := read_ok W B tag st hW hc hf (f ++ ⟨#[46, 48]⟩) (by rw [hsz]; omega) (by rw [hsz]; omega) 0 4116 (by decide) (by decide) zs hs
    rw [cast0, cast4116] at hx
    refine hx.mono ?_
    rintro e w2 ⟨v, rfl, hw, hst, hrow, hown⟩
    obtain ⟨a, c, rfl, _⟩ := rd_shape hrow.rd
    exact ⟨a, c, rfl, hw, hst, hrow⟩⟩
  rw [← hZ] at hzl hbt HR hd
  obtain ⟨n, hn⟩ : ∃ n, n = Z.length := ⟨_, rfl⟩
  rw [← hn] at HR hzl
  replace hn := Kpt.mk hn
  replace hd := Kpt.mk hd
  have hnm : n ≤ maxLen := by unfold maxLen; omega
  clear hby hZ
  replace hS := Kpt.mk hS
  have hW0 := Kpt.mk h
  clear hc hf hsz h hs zs
  go_enter Try.func38, Try.ntmps38
  go_wp2_with (refine wpList_var rfl 86 rfl zeroL zeroLi ?_; intro b4 w1 hl4 hX4 hB4)
  have hW1 := Kpt.mk (hW0.out.below hB4)
  have hS1 := Kpt.mk (hS.out.below hB4)
  have ht4 := wd_none hW0.out hl4
  have hs1 := Kpt.mk (step_below hB4 tag (fun _ => True))
  have hC0 : w1.cell? ⟨S, 0, none⟩ = some (.pointer (some ⟨B, 0, none⟩)) ∧ w1.cell? ⟨S, 1, none⟩ = some (.string f) := ⟨hS1.out.at.1, hS1.out.at.2.1⟩
  replace hX4 := Kpt.mk hX4
  clear hB4 hS hW0
  refine wp_region_any (by kernel_rfl) ?_
  refine wpAny_of_C (C := fun W => W.cell? ⟨S, 0, none⟩ = some (.pointer (some ⟨B, 0, none⟩)) ∧ W.cell? ⟨S, 1, none⟩ = some (.string f)) _ _ _ _ ?_
  refine wpAnyC_take 0 (.pointer (some ⟨S, 0, none⟩)) rfl (by kernel_rfl) (by kernel_rfl) (by kernel_rfl) (fun _ _ _ h => h) (wanted_free rfl _) (fun W hW => by go_simp) ?_
  try simp only [Act.put, List.getElem_toArray, List.getElem_cons_succ, List.getElem_cons_zero, List.setIfInBounds_toArray, List.set_cons_succ, List.set_cons_zero]
  refine wpAnyC_take 1 (.pointer (some ⟨S, 0, none⟩)) rfl (by kernel_rfl) (by kernel_rfl) (by kernel_rfl) (fun _ _ _ h => h) (wanted_free rfl _) (fun W hW => by go_simp) ?_
  try simp only [Act.put, List.getElem_toArray, List.getElem_cons_succ, List.getElem_cons_zero, List.setIfInBounds_toArray, List.set_cons_succ, List.set_cons_zero]
  refine wpAnyC_take 2 (.pointer (some ⟨S, 0, none⟩)) rfl (by kernel_rfl) (by kernel_rfl) (by kernel_rfl) (fun _ _ _ h => h) (wanted_free rfl _) (fun W hW => by go_simp) ?_
  try simp only [Act.put, List.getElem_toArray, List.getElem_cons_succ, List.getElem_cons_zero, List.setIfInBounds_toArray, List.set_cons_succ, List.set_cons_zero]
  refine wpAnyC_take 3 (.pointer (some ⟨B, 0, none⟩)) rfl (by kernel_rfl) (by kernel_rfl) (by kernel_rfl) (fun _ _ _ h => h) (wanted_free rfl _) (fun W hW => by have h := hW.1; go_simp) ?_
  try simp only [Act.put, List.getElem_toArray, List.getElem_cons_succ, List.getElem_cons_zero, List.setIfInBounds_toArray, List.set_cons_succ, List.set_cons_zero]
  refine wpAnyC_take 4 (.pointer (some ⟨S, 0, none⟩)) rfl (by kernel_rfl) (by kernel_rfl) (by kernel_rfl) (fun _ _ _ h => h) (wanted_free rfl _) (fun W hW => by go_simp) ?_
  try simp only [Act.put, List.getElem_toArray, List.getElem_cons_succ, List.getElem_cons_zero, List.setIfInBounds_toArray, List.set_cons_succ, List.set_cons_zero]
  refine wpAnyC_take 5 (.pointer (some ⟨S, 0, none⟩)) rfl (by kernel_rfl) (by kernel_rfl) (by kernel_rfl) (fun _ _ _ h => h) (wanted_free rfl _) (fun W hW => by go_simp) ?_
  try simp only [Act.put, List.getElem_toArray, List.getElem_cons_succ, List.getElem_cons_zero, List.setIfInBounds_toArray, List.set_cons_succ, List.set_cons_zero]
  refine wpAnyC_take 6 (.pointer (some ⟨S, 1, none⟩)) rfl (by kernel_rfl) (by kernel_rfl) (by kernel_rfl) (fun _ _ _ h => h) (wanted_free rfl _) (fun W hW => by go_simp) ?_
  try simp only [Act.put, List.getElem_toArray, List.getElem_cons_succ, List.getElem_cons_zero, List.setIfInBounds_toArray, List.set_cons_succ, List.set_cons_zero]
  refine wpAnyC_take 7 (.string f) rfl (by kernel_rfl) (by kernel_rfl) (by kernel_rfl) (fun _ _ _ h => h) (wanted_free rfl _) (fun W hW => by have h := hW.2; go_simp) ?_
  try simp only [Act.put, List.getElem_toArray, List.getElem_cons_succ, List.getElem_cons_zero, List.setIfInBounds_toArray, List.set_cons_succ, List.set_cons_zero]
  refine wpAnyC_take 8 (.int .i64 0) rfl (by kernel_rfl) (by kernel_rfl) (by kernel_rfl) (fun _ _ _ h => h) (wanted_free rfl _) (fun W hW => by go_simp) ?_
  try simp only [Act.put, List.getElem_toArray, List.getElem_cons_succ, List.getElem_cons_zero, List.setIfInBounds_toArray, List.set_cons_succ, List.set_cons_zero]
  refine wpAnyC_one 9 (hC0) rfl (by kernel_rfl) (wanted_free rfl _) (fun KA hKA => ?_)
  go_simp
  refine (HE.out _).mono ?_
  rintro e y1 ⟨rfl, h9⟩
  have h9s := h9.symm
  subst h9s
  refine hKA _ _ ?_
  clear hKA KA
  try simp only [Act.put, List.getElem_toArray, List.getElem_cons_succ, List.getElem_cons_zero, List.setIfInBounds_toArray, List.set_cons_succ, List.set_cons_zero]
  refine wpAnyC_take 10 (.string (f ++ ⟨#[46, 48]⟩)) rfl (by kernel_rfl) (by kernel_rfl) (by kernel_rfl) (fun _ _ _ h => h) (wanted_free rfl _) (fun W hW => by go_simp) ?_
  try simp only [Act.put, List.getElem_toArray, List.getElem_cons_succ, List.getElem_cons_zero, List.setIfInBounds_toArray, List.set_cons_succ, List.set_cons_zero]
  refine wpAnyC_one 11 (hC0) rfl (by kernel_rfl) (wanted_free rfl _) (fun KA hKA => ?_)
  go_simp
  refine (HR.out _ (wd_drawn hW1.out _)).mono ?_
  rintro e y2 ⟨a, c, rfl, hw2, hst2, hr2⟩
  have hs2 := Kpt.mk ((step_drawn hs1.out _).trans hst2)
  have hX2 := Kpt.mk ((bx_drawn hX4.out _).step hst2 ht4)
  have hS2 := Kpt.mk ((sl_drawn hS1.out _).step hst2)
  have hC2 : y2.cell? ⟨S, 0, none⟩ = some (.pointer (some ⟨B, 0, none⟩)) ∧ y2.cell? ⟨S, 1, none⟩ = some (.string f) := ⟨hS2.out.at.1, hS2.out.at.2.1⟩
  replace hw2 := Kpt.mk hw2
  clear hst2 hs1 hX4 hS1 hW1
  replace hr2 := Kpt.mk hr2
  refine hKA _ _ ?_
  clear hKA KA
  try simp only [Act.put, List.getElem_toArray, List.getElem_cons_succ, List.getElem_cons_zero, List.setIfInBounds_toArray, List.set_cons_succ, List.set_cons_zero]
  refine wpAnyC_take 12 (.tuple #[.slice a n c, .int .i64 0]) rfl (by kernel_rfl) (by kernel_rfl) (by kernel_rfl) (fun _ _ _ h => h) (wanted_free rfl _) (fun W hW => by go_simp) ?_
  try simp only [Act.put, List.getElem_toArray, List.getElem_cons_succ, List.getElem_cons_zero, List.setIfInBounds_toArray, List.set_cons_succ, List.set_cons_zero]
  refine wpAnyC_take 13 (.slice a n c) rfl (by kernel_rfl) (by kernel_rfl) (by kernel_rfl) (fun _ _ _ h => h) (wanted_free rfl _) (fun W hW => by go_simp) ?_
  try simp only [Act.put, List.getElem_toArray, List.getElem_cons_succ, List.getElem_cons_zero, List.setIfInBounds_toArray, List.set_cons_succ, List.set_cons_zero]
  refine wpAnyC_take 14 (.int .i64 0) rfl (by kernel_rfl) (by kernel_rfl) (by kernel_rfl) (fun _ _ _ h => h) (wanted_free rfl _) (fun W hW => by go_simp) ?_
  try simp only [Act.put, List.getElem_toArray, List.getElem_cons_succ, List.getElem_cons_zero, List.setIfInBounds_toArray, List.set_cons_succ, List.set_cons_zero]
  refine wpAnyC_take 15 (.slice a n c) rfl (by kernel_rfl) (by kernel_rfl) (by kernel_rfl) (fun _ _ _ h => h) (wanted_free rfl _) (fun W hW => by go_simp) ?_
  try simp only [Act.put, List.getElem_toArray, List.getElem_cons_succ, List.getElem_cons_zero, List.setIfInBounds_toArray, List.set_cons_succ, List.set_cons_zero]
  refine wpAnyC_take 16 (.int .i64 0) rfl (by kernel_rfl) (by kernel_rfl) (by kernel_rfl) (fun _ _ _ h => h) (wanted_free rfl _) (fun W hW => by go_simp) ?_
  try simp only [Act.put, List.getElem_toArray, List.getElem_cons_succ, List.getElem_cons_zero, List.setIfInBounds_toArray, List.set_cons_succ, List.set_cons_zero]
  refine wpAnyC_done (hC2) (by kernel_rfl) ?_
  have hD : Kpt (Calls Try.prog 9 #[.slice a n c] y2 fun e w' => ∃ er : Int, e = .returned (.tuple #[.int .u64 0, .slice none 0 0, .int .i64 er]) ∧ (er = 3 ∨ er = 5) ∧ Below y2.heap.size y2 w') := ⟨dec_no a n c Z y2 hr2.out.rd hn.out.symm hnm hbt.out hd.out⟩
  go_wp2_with (first | (refine wpList_store_bx rfl 86 _ _ rfl b4 zeroL zeroL rfl rfl hX3.out rfl infoL zeroL1 rfl ?_; intro w4 hX4 hg4) | (go_at_call 9; refine hD.out.mono ?_; rintro e w3 ⟨er, rfl, her, hB3⟩; have hX3 := Kpt.mk (hX2.out.below hB3 hX2.out.lt); have hw3 := Kpt.mk (hw2.out.below hB3); have hs3 := Kpt.mk (hs2.out.trans (step_below hB3 tag _)); clear hB3 hD; rcases her with rfl | rfl))
  all_goals
    refine bodyPost_ret (v := .tuple #[.agg zeroL, .int .i64 0]) (by simp [results, Try.results38, asAddr, Act.put, run_res hX4 86 _ Try.underlying86 rfl infoL]) rfl ⟨rfl, hw3.out.own hg4 ht4, hs3.out.own hg4 hl4⟩

set_option maxRecDepth 100000 in
set_option maxHeartbeats 1000000 in
theorem sread_good0 (S B : Nat) (f : ByteArray) (kn : Bool) (g nx : Int) (tag : Tags) (st : St) (w : World) (hS : Sl w S B tag f kn g nx)
    (h : Wd w B tag st) (hc : st.cnt < 549755813888) (hf : st.fails st.ops = false) (h1 : 1 ≤ f.size) (h2 : f.size ≤ 30) (zs : List Int) (hs : st.seen (f ++ ⟨#[46, 48]⟩) = some zs) (hby : Bytes zs) (gn : Int) (p : List Int) (hd : decO (zs.take 4116) = some (gn, p)) :
    Calls Try.prog 38 #[.pointer (some ⟨S, 0, none⟩), .int .i64 0] w fun e w' => (∃ a c, e = .returned (.tuple #[.agg #[.bool true, .int .u64 gn, .slice a p.length c], .int .i64 0]) ∧ Row w' (.slice a p.length c) p ∧ ∀ g, (Value.slice a p.length c).ownBlock = some g → w.heap.size ≤ g) ∧ Wd w' B tag { st with ops := st.ops + 1, cnt := st.cnt + 1 } ∧ Step w w' tag tag (fun _ => True) := by
  have hzl : (zs.take 4116).length ≤ 4116 := by rw [List.length_take]; omega
  have hbt : Kpt (Bytes (zs.take 4116)) := ⟨Bytes.take hby 4116⟩
  obtain ⟨Z, hZ⟩ : ∃ Z, Z = zs.take 4116 := ⟨_, rfl⟩
  have HE : Kpt (∀ W, Calls Try.prog 32 #[.int .i64 0] W fun e w' => e = .returned (.string ⟨#[46, 48]⟩) ∧ w' = W) := ⟨ending_0⟩
  have hfs : ¬ 9223372036854775807 < f.size + 2 := by omega
  have hsz : (f ++ ⟨#[46, 48]⟩).size = f.size + 2 := by rw [ByteArray.size_append, size_end0]
  have hSl := hS.bx.lt
  have HR : Kpt (∀ W, Wd W B tag st → Calls Try.prog 21 #[.pointer (some ⟨B, 0, none⟩), .string (f ++ ⟨#[46, 48]⟩), .int .i64 0, .int .i64 4116] W fun e w' => ∃ a c, e = .returned (.tuple #[.slice a (zs.take 4116).length c, .int .i64 0]) ∧
      Wd w' B tag { st with ops := st.ops + 1, cnt := st.cnt + 1 } ∧ Step W w' tag tag (fun _ => True) ∧ Row w' (.slice a (zs.take 4116).length c) (zs.take 4116)) := ⟨fun W hW => by
    have hx := read_ok W B tag st hW hc hf (f ++ ⟨#[46, 48]⟩) (by rw [hsz]; omega) (by rw [hsz]; omega) 0 4116 (by decide) (by decide) zs hs
    rw [cast0, cast4116] at hx
    refine hx.mono ?_
    rintro e w2 ⟨v, rfl, hw, hst, hrow, hown⟩
    obtain ⟨a, c, rfl, _⟩ := rd_shape hrow.rd
    exact ⟨a, c, rfl, hw, hst, hrow⟩⟩
  rw [← hZ] at hzl hbt HR hd
  obtain ⟨n, hn⟩ : ∃ n, n = Z.length := ⟨_, rfl⟩
  rw [← hn] at HR hzl
  replace hn := Kpt.mk hn
  replace hd := Kpt.mk hd
  have hnm : n ≤ maxLen := by unfold maxLen; omega
  clear hby hZ
  replace hS := Kpt.mk hS
  have hW0 := Kpt.mk h
  clear hc hf hsz h hs zs
  obtain ⟨m, hm⟩ : ∃ m, m = p.length := ⟨_, rfl⟩
  rw [← hm]
  replace hm := Kpt.mk hm
  go_enter Try.func38, Try.ntmps38
  go_wp2_with (refine wpList_var rfl 86 rfl zeroL zeroLi ?_; intro b4 w1 hl4 hX4 hB4)
  have hW1 := Kpt.mk (hW0.out.below hB4)
  have hS1 := Kpt.mk (hS.out.below hB4)
  have ht4 := wd_none hW0.out hl4
  have hs1 := Kpt.mk (step_below hB4 tag (fun _ => True))
  have hC0 : w1.cell? ⟨S, 0, none⟩ = some (.pointer (some ⟨B, 0, none⟩)) ∧ w1.cell? ⟨S, 1, none⟩ = some (.string f) := ⟨hS1.out.at.1, hS1.out.at.2.1⟩
  replace hX4 := Kpt.mk hX4
  clear hB4 hS hW0
  refine wp_region_any (by kernel_rfl) ?_
  refine wpAny_of_C (C := fun W => W.cell? ⟨S, 0, none⟩ = some (.pointer (some ⟨B, 0, none⟩)) ∧ W.cell? ⟨S, 1, none⟩ = some (.string f)) _ _ _ _ ?_
  refine wpAnyC_take 0 (.pointer (some ⟨S, 0, none⟩)) rfl (by kernel_rfl) (by kernel_rfl) (by kernel_rfl) (fun _ _ _ h => h) (wanted_free rfl _) (fun W hW => by go_simp) ?_
  try simp only [Act.put, List.getElem_toArray, List.getElem_cons_succ, List.getElem_cons_zero, List.setIfInBounds_toArray, List.set_cons_succ, List.set_cons_zero]
  refine wpAnyC_take 1 (.pointer (some ⟨S, 0, none⟩)) rfl (by kernel_rfl) (by kernel_rfl) (by kernel_rfl) (fun _ _ _ h => h) (wanted_free rfl _) (fun W hW => by go_simp) ?_
  try simp only [Act.put, List.getElem_toArray, List.getElem_cons_succ, List.getElem_cons_zero, List.setIfInBounds_toArray, List.set_cons_succ, List.set_cons_zero]
  refine wpAnyC_take 2 (.pointer (some ⟨S, 0, none⟩)) rfl (by kernel_rfl) (by kernel_rfl) (by kernel_rfl) (fun _ _ _ h => h) (wanted_free rfl _) (fun W hW => by go_simp) ?_
  try simp only [Act.put, List.getElem_toArray, List.getElem_cons_succ, List.getElem_cons_zero, List.setIfInBounds_toArray, List.set_cons_succ, List.set_cons_zero]
  refine wpAnyC_take 3 (.pointer (some ⟨B, 0, none⟩)) rfl (by kernel_rfl) (by kernel_rfl) (by kernel_rfl) (fun _ _ _ h => h) (wanted_free rfl _) (fun W hW => by have h := hW.1; go_simp) ?_
  try simp only [Act.put, List.getElem_toArray, List.getElem_cons_succ, List.getElem_cons_zero, List.setIfInBounds_toArray, List.set_cons_succ, List.set_cons_zero]
  refine wpAnyC_take 4 (.pointer (some ⟨S, 0, none⟩)) rfl (by kernel_rfl) (by kernel_rfl) (by kernel_rfl) (fun _ _ _ h => h) (wanted_free rfl _) (fun W hW => by go_simp) ?_
  try simp only [Act.put, List.getElem_toArray, List.getElem_cons_succ, List.getElem_cons_zero, List.setIfInBounds_toArray, List.set_cons_succ, List.set_cons_zero]
  refine wpAnyC_take 5 (.pointer (some ⟨S, 0, none⟩)) rfl (by kernel_rfl) (by kernel_rfl) (by kernel_rfl) (fun _ _ _ h => h) (wanted_free rfl _) (fun W hW => by go_simp) ?_
  try simp only [Act.put, List.getElem_toArray, List.getElem_cons_succ, List.getElem_cons_zero, List.setIfInBounds_toArray, List.set_cons_succ, List.set_cons_zero]
  refine wpAnyC_take 6 (.pointer (some ⟨S, 1, none⟩)) rfl (by kernel_rfl) (by kernel_rfl) (by kernel_rfl) (fun _ _ _ h => h) (wanted_free rfl _) (fun W hW => by go_simp) ?_
  try simp only [Act.put, List.getElem_toArray, List.getElem_cons_succ, List.getElem_cons_zero, List.setIfInBounds_toArray, List.set_cons_succ, List.set_cons_zero]
  refine wpAnyC_take 7 (.string f) rfl (by kernel_rfl) (by kernel_rfl) (by kernel_rfl) (fun _ _ _ h => h) (wanted_free rfl _) (fun W hW => by have h := hW.2; go_simp) ?_
  try simp only [Act.put, List.getElem_toArray, List.getElem_cons_succ, List.getElem_cons_zero, List.setIfInBounds_toArray, List.set_cons_succ, List.set_cons_zero]
  refine wpAnyC_take 8 (.int .i64 0) rfl (by kernel_rfl) (by kernel_rfl) (by kernel_rfl) (fun _ _ _ h => h) (wanted_free rfl _) (fun W hW => by go_simp) ?_
  try simp only [Act.put, List.getElem_toArray, List.getElem_cons_succ, List.getElem_cons_zero, List.setIfInBounds_toArray, List.set_cons_succ, List.set_cons_zero]
  refine wpAnyC_one 9 (hC0) rfl (by kernel_rfl) (wanted_free rfl _) (fun KA hKA => ?_)
  go_simp
  refine (HE.out _).mono ?_
  rintro e y1 ⟨rfl, h9⟩
  have h9s := h9.symm
  subst h9s
  refine hKA _ _ ?_
  clear hKA KA
  try simp only [Act.put, List.getElem_toArray, List.getElem_cons_succ, List.getElem_cons_zero, List.setIfInBounds_toArray, List.set_cons_succ, List.set_cons_zero]
  refine wpAnyC_take 10 (.string (f ++ ⟨#[46, 48]⟩)) rfl (by kernel_rfl) (by kernel_rfl) (by kernel_rfl) (fun _ _ _ h => h) (wanted_free rfl _) (fun W hW => by go_simp) ?_
  try simp only [Act.put, List.getElem_toArray, List.getElem_cons_succ, List.getElem_cons_zero, List.setIfInBounds_toArray, List.set_cons_succ, List.set_cons_zero]
  refine wpAnyC_one 11 (hC0) rfl (by kernel_rfl) (wanted_free rfl _) (fun KA hKA => ?_)
  go_simp
  refine (HR.out _ (wd_drawn hW1.out _)).mono ?_
  rintro e y2 ⟨a, c, rfl, hw2, hst2, hr2⟩
  have hs2 := Kpt.mk ((step_drawn hs1.out _).trans hst2)
  have hX2 := Kpt.mk ((bx_drawn hX4.out _).step hst2 ht4)
  have hS2 := Kpt.mk ((sl_drawn hS1.out _).step hst2)
  have hC2 : y2.cell? ⟨S, 0, none⟩ = some (.pointer (some ⟨B, 0, none⟩)) ∧ y2.cell? ⟨S, 1, none⟩ = some (.string f) := ⟨hS2.out.at.1, hS2.out.at.2.1⟩
  replace hw2 := Kpt.mk hw2
  clear hst2 hs1 hX4 hS1 hW1
  replace hr2 := Kpt.mk hr2
  refine hKA _ _ ?_
  clear hKA KA
  try simp only [Act.put, List.getElem_toArray, List.getElem_cons_succ, List.getElem_cons_zero, List.setIfInBounds_toArray, List.set_cons_succ, List.set_cons_zero]
  refine wpAnyC_take 12 (.tuple #[.slice a n c, .int .i64 0]) rfl (by kernel_rfl) (by kernel_rfl) (by kernel_rfl) (fun _ _ _ h => h) (wanted_free rfl _) (fun W hW => by go_simp) ?_
  try simp only [Act.put, List.getElem_toArray, List.getElem_cons_succ, List.getElem_cons_zero, List.setIfInBounds_toArray, List.set_cons_succ, List.set_cons_zero]
  refine wpAnyC_take 13 (.slice a n c) rfl (by kernel_rfl) (by kernel_rfl) (by kernel_rfl) (fun _ _ _ h => h) (wanted_free rfl _) (fun W hW => by go_simp) ?_
  try simp only [Act.put, List.getElem_toArray, List.getElem_cons_succ, List.getElem_cons_zero, List.setIfInBounds_toArray, List.set_cons_succ, List.set_cons_zero]
  refine wpAnyC_take 14 (.int .i64 0) rfl (by kernel_rfl) (by kernel_rfl) (by kernel_rfl) (fun _ _ _ h => h) (wanted_free rfl _) (fun W hW => by go_simp) ?_
  try simp only [Act.put, List.getElem_toArray, List.getElem_cons_succ, List.getElem_cons_zero, List.setIfInBounds_toArray, List.set_cons_succ, List.set_cons_zero]
  refine wpAnyC_take 15 (.slice a n c) rfl (by kernel_rfl) (by kernel_rfl) (by kernel_rfl) (fun _ _ _ h => h) (wanted_free rfl _) (fun W hW => by go_simp) ?_
  try simp only [Act.put, List.getElem_toArray, List.getElem_cons_succ, List.getElem_cons_zero, List.setIfInBounds_toArray, List.set_cons_succ, List.set_cons_zero]
  refine wpAnyC_take 16 (.int .i64 0) rfl (by kernel_rfl) (by kernel_rfl) (by kernel_rfl) (fun _ _ _ h => h) (wanted_free rfl _) (fun W hW => by go_simp) ?_
  try simp only [Act.put, List.getElem_toArray, List.getElem_cons_succ, List.getElem_cons_zero, List.setIfInBounds_toArray, List.set_cons_succ, List.set_cons_zero]
  refine wpAnyC_done (hC2) (by kernel_rfl) ?_
  have hD : Kpt (Calls Try.prog 9 #[.slice a n c] y2 fun e w' => ∃ a2 c2, e = .returned (.tuple #[.int .u64 gn, .slice a2 m c2, .int .i64 0]) ∧ Row w' (.slice a2 m c2) p ∧ (∀ g, (Value.slice a2 m c2).ownBlock = some g → y2.heap.size ≤ g) ∧ Below y2.heap.size y2 w') := ⟨(dec_yes a n c Z y2 hr2.out.rd hn.out.symm hnm hbt.out gn p hd.out).mono (fun e w' h => by
    obtain ⟨v, h1, h2, h3, h4⟩ := h
    obtain ⟨a2, c2, rfl, _⟩ := rd_shape h2.rd
    rw [← hm.out] at h1 h2 h3
    exact ⟨a2, c2, h1, h2, h3, h4⟩)⟩
  go_wp2_with (first | (refine wpList_store_bx rfl 86 _ _ rfl b4 zeroL #[.bool true, .int .u64 gn, .slice a2 m c2] rfl rfl hX3.out rfl infoL (by simp [Value.oneCell']) rfl ?_; intro w4 hX4 hg4) | (go_at_call 9; refine hD.out.mono ?_; rintro e w3 ⟨a2, c2, rfl, hr3, hlo3, hB3⟩; have hX3 := Kpt.mk (hX2.out.below hB3 hX2.out.lt); have hw3 := Kpt.mk (hw2.out.below hB3); have hs3 := Kpt.mk (hs2.out.trans (step_below hB3 tag _)); have hlt3 := hX2.out.lt; replace hr3 := Kpt.mk hr3; replace hlo3 := Kpt.mk hlo3; clear hB3 hD))
  refine bodyPost_ret (v := .tuple #[.agg #[.bool true, .int .u64 gn, .slice a2 m c2], .int .i64 0]) (by simp [results, Try.results38, asAddr, Act.put, run_res hX4 86 _ Try.underlying86 rfl infoL]) rfl ⟨⟨a2, c2, rfl, ?_, ?_⟩, hw3.out.own hg4 ht4, hs3.out.own hg4 hl4⟩
  · exact hr3.out.of_block (fun q hq => hg4.block q (hr3.out.lt hq) (fun e => by cases e; have := hlo3.out _ hq; omega))
  · intro q hq
    have := hlo3.out q hq
    have := hs2.out.size
    omega

set_option maxRecDepth 100000 in
set_option maxHeartbeats 1000000 in
theorem sread_none1 (S B : Nat) (f : ByteArray) (kn : Bool) (g nx : Int) (tag : Tags) (st : St) (w : World) (hS : Sl w S B tag f kn g nx)
    (h : Wd w B tag st) (hc : st.cnt < 549755813888) (hf : st.fails st.ops = false) (h1 : 1 ≤ f.size) (h2 : f.size ≤ 30) (hs : st.seen (f ++ ⟨#[46, 49]⟩) = none) :
    Calls Try.prog 38 #[.pointer (some ⟨S, 0, none⟩), .int .i64 1] w fun e w' => e = .returned (.tuple #[.agg zeroL, .int .i64 0]) ∧ Wd w' B tag { st with ops := st.ops + 1, cnt := st.cnt + 1 } ∧ Step w w' tag tag (fun _ => True) := by
  have HE : Kpt (∀ W, Calls Try.prog 32 #[.int .i64 1] W fun e w' => e = .returned (.string ⟨#[46, 49]⟩) ∧ w' = W) := ⟨ending_1⟩
  have hfs : ¬ 9223372036854775807 < f.size + 2 := by omega
  have hsz : (f ++ ⟨#[46, 49]⟩).size = f.size + 2 := by rw [ByteArray.size_append, size_end1]
  have hSl := hS.bx.lt
  have HR : Kpt (∀ W, Wd W B tag st → Calls Try.prog 21 #[.pointer (some ⟨B, 0, none⟩), .string (f ++ ⟨#[46, 49]⟩), .int .i64 0, .int .i64 4116] W fun e w' => e = .returned (.tuple #[.slice none 0 0, .int .i64 8]) ∧
      Wd w' B tag { st with ops := st.ops + 1, cnt := st.cnt + 1 } ∧ Step W w' tag tag (fun _ => True)) := ⟨fun W hW => by
    have hx := read_none W B tag st hW hc hf (f ++ ⟨#[46, 49]⟩) (by rw [hsz]; omega) (by rw [hsz]; omega) 0 4116 hs
    rw [cast0, cast4116] at hx
    exact hx⟩
  replace hS := Kpt.mk hS
  have hW0 := Kpt.mk h
  clear hc hf hsz h hs
  go_enter Try.func38, Try.ntmps38
  go_wp2_with (refine wpList_var rfl 86 rfl zeroL zeroLi ?_; intro b4 w1 hl4 hX4 hB4)
  have hW1 := Kpt.mk (hW0.out.below hB4)
  have hS1 := Kpt.mk (hS.out.below hB4)
  have ht4 := wd_none hW0.out hl4
  have hs1 := Kpt.mk (step_below hB4 tag (fun _ => True))
  have hC0 : w1.cell? ⟨S, 0, none⟩ = some (.pointer (some ⟨B, 0, none⟩)) ∧ w1.cell? ⟨S, 1, none⟩ = some (.string f) := ⟨hS1.out.at.1, hS1.out.at.2.1⟩
  replace hX4 := Kpt.mk hX4
  clear hB4 hS hW0
  refine wp_region_any (by kernel_rfl) ?_
  refine wpAny_of_C (C := fun W => W.cell? ⟨S, 0, none⟩ = some (.pointer (some ⟨B, 0, none⟩)) ∧ W.cell? ⟨S, 1, none⟩ = some (.string f)) _ _ _ _ ?_
  refine wpAnyC_take 0 (.pointer (some ⟨S, 0, none⟩)) rfl (by kernel_rfl) (by kernel_rfl) (by kernel_rfl) (fun _ _ _ h => h) (wanted_free rfl _) (fun W hW => by go_simp) ?_
  try simp only [Act.put, List.getElem_toArray, List.getElem_cons_succ, List.getElem_cons_zero, List.setIfInBounds_toArray, List.set_cons_succ, List.set_cons_zero]
  refine wpAnyC_take 1 (.pointer (some ⟨S, 0, none⟩)) rfl (by kernel_rfl) (by kernel_rfl) (by kernel_rfl) (fun _ _ _ h => h) (wanted_free rfl _) (fun W hW => by go_simp) ?_
  try simp only [Act.put, List.getElem_toArray, List.getElem_cons_succ, List.getElem_cons_zero, List.setIfInBounds_toArray, List.set_cons_succ, List.set_cons_zero]
  refine wpAnyC_take 2 (.pointer (some ⟨S, 0, none⟩)) rfl (by kernel_rfl) (by kernel_rfl) (by kernel_rfl) (fun _ _ _ h => h) (wanted_free rfl _) (fun W hW => by go_simp) ?_
  try simp only [Act.put, List.getElem_toArray, List.getElem_cons_succ, List.getElem_cons_zero, List.setIfInBounds_toArray, List.set_cons_succ, List.set_cons_zero]
  refine wpAnyC_take 3 (.pointer (some ⟨B, 0, none⟩)) rfl (by kernel_rfl) (by kernel_rfl) (by kernel_rfl) (fun _ _ _ h => h) (wanted_free rfl _) (fun W hW => by have h := hW.1; go_simp) ?_
  try simp only [Act.put, List.getElem_toArray, List.getElem_cons_succ, List.getElem_cons_zero, List.setIfInBounds_toArray, List.set_cons_succ, List.set_cons_zero]
  refine wpAnyC_take 4 (.pointer (some ⟨S, 0, none⟩)) rfl (by kernel_rfl) (by kernel_rfl) (by kernel_rfl) (fun _ _ _ h => h) (wanted_free rfl _) (fun W hW => by go_simp) ?_
  try simp only [Act.put, List.getElem_toArray, List.getElem_cons_succ, List.getElem_cons_zero, List.setIfInBounds_toArray, List.set_cons_succ, List.set_cons_zero]
  refine wpAnyC_take 5 (.pointer (some ⟨S, 0, none⟩)) rfl (by kernel_rfl) (by kernel_rfl) (by kernel_rfl) (fun _ _ _ h => h) (wanted_free rfl _) (fun W hW => by go_simp) ?_
  try simp only [Act.put, List.getElem_toArray, List.getElem_cons_succ, List.getElem_cons_zero, List.setIfInBounds_toArray, List.set_cons_succ, List.set_cons_zero]
  refine wpAnyC_take 6 (.pointer (some ⟨S, 1, none⟩)) rfl (by kernel_rfl) (by kernel_rfl) (by kernel_rfl) (fun _ _ _ h => h) (wanted_free rfl _) (fun W hW => by go_simp) ?_
  try simp only [Act.put, List.getElem_toArray, List.getElem_cons_succ, List.getElem_cons_zero, List.setIfInBounds_toArray, List.set_cons_succ, List.set_cons_zero]
  refine wpAnyC_take 7 (.string f) rfl (by kernel_rfl) (by kernel_rfl) (by kernel_rfl) (fun _ _ _ h => h) (wanted_free rfl _) (fun W hW => by have h := hW.2; go_simp) ?_
  try simp only [Act.put, List.getElem_toArray, List.getElem_cons_succ, List.getElem_cons_zero, List.setIfInBounds_toArray, List.set_cons_succ, List.set_cons_zero]
  refine wpAnyC_take 8 (.int .i64 1) rfl (by kernel_rfl) (by kernel_rfl) (by kernel_rfl) (fun _ _ _ h => h) (wanted_free rfl _) (fun W hW => by go_simp) ?_
  try simp only [Act.put, List.getElem_toArray, List.getElem_cons_succ, List.getElem_cons_zero, List.setIfInBounds_toArray, List.set_cons_succ, List.set_cons_zero]
  refine wpAnyC_one 9 (hC0) rfl (by kernel_rfl) (wanted_free rfl _) (fun KA hKA => ?_)
  go_simp
  refine (HE.out _).mono ?_
  rintro e y1 ⟨rfl, h9⟩
  have h9s := h9.symm
  subst h9s
  refine hKA _ _ ?_
  clear hKA KA
  try simp only [Act.put, List.getElem_toArray, List.getElem_cons_succ, List.getElem_cons_zero, List.setIfInBounds_toArray, List.set_cons_succ, List.set_cons_zero]
  refine wpAnyC_take 10 (.string (f ++ ⟨#[46, 49]⟩)) rfl (by kernel_rfl) (by kernel_rfl) (by kernel_rfl) (fun _ _ _ h => h) (wanted_free rfl _) (fun W hW => by go_simp) ?_
  try simp only [Act.put, List.getElem_toArray, List.getElem_cons_succ, List.getElem_cons_zero, List.setIfInBounds_toArray, List.set_cons_succ, List.set_cons_zero]
  refine wpAnyC_one 11 (hC0) rfl (by kernel_rfl) (wanted_free rfl _) (fun KA hKA => ?_)
  go_simp
  refine (HR.out _ (wd_drawn hW1.out _)).mono ?_
  rintro e y2 ⟨rfl, hw2, hst2⟩
  have hs2 := Kpt.mk ((step_drawn hs1.out _).trans hst2)
  have hX2 := Kpt.mk ((bx_drawn hX4.out _).step hst2 ht4)
  have hS2 := Kpt.mk ((sl_drawn hS1.out _).step hst2)
  have hC2 : y2.cell? ⟨S, 0, none⟩ = some (.pointer (some ⟨B, 0, none⟩)) ∧ y2.cell? ⟨S, 1, none⟩ = some (.string f) := ⟨hS2.out.at.1, hS2.out.at.2.1⟩
  replace hw2 := Kpt.mk hw2
  clear hst2 hs1 hX4 hS1 hW1
  refine hKA _ _ ?_
  clear hKA KA
  try simp only [Act.put, List.getElem_toArray, List.getElem_cons_succ, List.getElem_cons_zero, List.setIfInBounds_toArray, List.set_cons_succ, List.set_cons_zero]
  refine wpAnyC_take 12 (.tuple #[.slice none 0 0, .int .i64 8]) rfl (by kernel_rfl) (by kernel_rfl) (by kernel_rfl) (fun _ _ _ h => h) (wanted_free rfl _) (fun W hW => by go_simp) ?_
  try simp only [Act.put, List.getElem_toArray, List.getElem_cons_succ, List.getElem_cons_zero, List.setIfInBounds_toArray, List.set_cons_succ, List.set_cons_zero]
  refine wpAnyC_take 13 (.slice none 0 0) rfl (by kernel_rfl) (by kernel_rfl) (by kernel_rfl) (fun _ _ _ h => h) (wanted_free rfl _) (fun W hW => by go_simp) ?_
  try simp only [Act.put, List.getElem_toArray, List.getElem_cons_succ, List.getElem_cons_zero, List.setIfInBounds_toArray, List.set_cons_succ, List.set_cons_zero]
  refine wpAnyC_take 14 (.int .i64 8) rfl (by kernel_rfl) (by kernel_rfl) (by kernel_rfl) (fun _ _ _ h => h) (wanted_free rfl _) (fun W hW => by go_simp) ?_
  try simp only [Act.put, List.getElem_toArray, List.getElem_cons_succ, List.getElem_cons_zero, List.setIfInBounds_toArray, List.set_cons_succ, List.set_cons_zero]
  refine wpAnyC_take 15 (.slice none 0 0) rfl (by kernel_rfl) (by kernel_rfl) (by kernel_rfl) (fun _ _ _ h => h) (wanted_free rfl _) (fun W hW => by go_simp) ?_
  try simp only [Act.put, List.getElem_toArray, List.getElem_cons_succ, List.getElem_cons_zero, List.setIfInBounds_toArray, List.set_cons_succ, List.set_cons_zero]
  refine wpAnyC_take 16 (.int .i64 8) rfl (by kernel_rfl) (by kernel_rfl) (by kernel_rfl) (fun _ _ _ h => h) (wanted_free rfl _) (fun W hW => by go_simp) ?_
  try simp only [Act.put, List.getElem_toArray, List.getElem_cons_succ, List.getElem_cons_zero, List.setIfInBounds_toArray, List.set_cons_succ, List.set_cons_zero]
  refine wpAnyC_done (hC2) (by kernel_rfl) ?_
  go_wp2_with (refine wpList_store_bx rfl 86 _ _ rfl b4 zeroL zeroL rfl rfl hX2.out rfl infoL zeroL1 rfl ?_; intro w3 hX3 hg3)
  refine bodyPost_ret (v := .tuple #[.agg zeroL, .int .i64 0]) (by simp [results, Try.results38, asAddr, Act.put, run_res hX3 86 _ Try.underlying86 rfl infoL]) rfl ⟨rfl, hw2.out.own hg3 ht4, hs2.out.own hg3 hl4⟩

set_option maxRecDepth 100000 in
set_option maxHeartbeats 1000000 in
theorem sread_bad1 (S B : Nat) (f : ByteArray) (kn : Bool) (g nx : Int) (tag : Tags) (st : St) (w : World) (hS : Sl w S B tag f kn g nx)
    (h : Wd w B tag st) (hc : st.cnt < 549755813888) (hf : st.fails st.ops = false) (h1 : 1 ≤ f.size) (h2 : f.size ≤ 30) (zs : List Int) (hs : st.seen (f ++ ⟨#[46, 49]⟩) = some zs) (hby : Bytes zs) (hd : decO (zs.take 4116) = none) :
    Calls Try.prog 38 #[.pointer (some ⟨S, 0, none⟩), .int .i64 1] w fun e w' => e = .returned (.tuple #[.agg zeroL, .int .i64 0]) ∧ Wd w' B tag { st with ops := st.ops + 1, cnt := st.cnt + 1 } ∧ Step w w' tag tag (fun _ => True) := by
  have hzl : (zs.take 4116).length ≤ 4116 := by rw [List.length_take]; omega
  have hbt : Kpt (Bytes (zs.take 4116)) := ⟨Bytes.take hby 4116⟩
  obtain ⟨Z, hZ⟩ : ∃ Z, Z = zs.take 4116 := ⟨_, rfl⟩
  have HE : Kpt (∀ W, Calls Try.prog 32 #[.int .i64 1] W fun e w' => e = .returned (.string ⟨#[46, 49]⟩) ∧ w' = W) := ⟨ending_1⟩
  have hfs : ¬ 9223372036854775807 < f.size + 2 := by omega
  have hsz : (f ++ ⟨#[46, 49]⟩).size = f.size + 2 := by rw [ByteArray.size_append, size_end1]
  have hSl := hS.bx.lt
  have HR : Kpt (∀ W, Wd W B tag st → Calls Try.prog 21 #[.pointer (some ⟨B, 0, none⟩), .string (f ++ ⟨#[46, 49]⟩), .int .i64 0, .int .i64 4116] W fun e w' => ∃ a c, e = .returned (.tuple #[.slice a (zs.take 4116).length c, .int .i64 0]) ∧
      Wd w' B tag { st with ops := st.ops + 1, cnt := st.cnt + 1 } ∧ Step W w' tag tag (fun _ => True) ∧ Row w' (.slice a (zs.take 4116).length c) (zs.take 4116)) := ⟨fun W hW => by
    have hx := read_ok W B tag st hW hc hf (f ++ ⟨#[46, 49]⟩) (by rw [hsz]; omega) (by rw [hsz]; omega) 0 4116 (by decide) (by decide) zs hs
    rw [cast0, cast4116] at hx
    refine hx.mono ?_
    rintro e w2 ⟨v, rfl, hw, hst, hrow, hown⟩
    obtain ⟨a, c, rfl, _⟩ := rd_shape hrow.rd
    exact ⟨a, c, rfl, hw, hst, hrow⟩⟩
  rw [← hZ] at hzl hbt HR hd
  obtain ⟨n, hn⟩ : ∃ n, n = Z.length := ⟨_, rfl⟩
  rw [← hn] at HR hzl
  replace hn := Kpt.mk hn
  replace hd := Kpt.mk hd
  have hnm : n ≤ maxLen := by unfold maxLen; omega
  clear hby hZ
  replace hS := Kpt.mk hS
  have hW0 := Kpt.mk h
  clear hc hf hsz h hs zs
  go_enter Try.func38, Try.ntmps38
  go_wp2_with (refine wpList_var rfl 86 rfl zeroL zeroLi ?_; intro b4 w1 hl4 hX4 hB4)
  have hW1 := Kpt.mk (hW0.out.below hB4)
  have hS1 := Kpt.mk (hS.out.below hB4)
  have ht4 := wd_none hW0.out hl4
  have hs1 := Kpt.mk (step_below hB4 tag (fun _ => True))
  have hC0 : w1.cell? ⟨S, 0, none⟩ = some (.pointer (some ⟨B, 0, none⟩)) ∧ w1.cell? ⟨S, 1, none⟩ = some (.string f) := ⟨hS1.out.at.1, hS1.out.at.2.1⟩
  replace hX4 := Kpt.mk hX4
  clear hB4 hS hW0
  refine wp_region_any (by kernel_rfl) ?_
  refine wpAny_of_C (C := fun W => W.cell? ⟨S, 0, none⟩ = some (.pointer (some ⟨B, 0, none⟩)) ∧ W.cell? ⟨S, 1, none⟩ = some (.string f)) _ _ _ _ ?_
  refine wpAnyC_take 0 (.pointer (some ⟨S, 0, none⟩)) rfl (by kernel_rfl) (by kernel_rfl) (by kernel_rfl) (fun _ _ _ h => h) (wanted_free rfl _) (fun W hW => by go_simp) ?_
  try simp only [Act.put, List.getElem_toArray, List.getElem_cons_succ, List.getElem_cons_zero, List.setIfInBounds_toArray, List.set_cons_succ, List.set_cons_zero]
  refine wpAnyC_take 1 (.pointer (some ⟨S, 0, none⟩)) rfl (by kernel_rfl) (by kernel_rfl) (by kernel_rfl) (fun _ _ _ h => h) (wanted_free rfl _) (fun W hW => by go_simp) ?_
  try simp only [Act.put, List.getElem_toArray, List.getElem_cons_succ, List.getElem_cons_zero, List.setIfInBounds_toArray, List.set_cons_succ, List.set_cons_zero]
  refine wpAnyC_take 2 (.pointer (some ⟨S, 0, none⟩)) rfl (by kernel_rfl) (by kernel_rfl) (by kernel_rfl) (fun _ _ _ h => h) (wanted_free rfl _) (fun W hW => by go_simp) ?_
  try simp only [Act.put, List.getElem_toArray, List.getElem_cons_succ, List.getElem_cons_zero, List.setIfInBounds_toArray, List.set_cons_succ, List.set_cons_zero]
  refine wpAnyC_take 3 (.pointer (some ⟨B, 0, none⟩)) rfl (by kernel_rfl) (by kernel_rfl) (by kernel_rfl) (fun _ _ _ h => h) (wanted_free rfl _) (fun W hW => by have h := hW.1; go_simp) ?_
  try simp only [Act.put, List.getElem_toArray, List.getElem_cons_succ, List.getElem_cons_zero, List.setIfInBounds_toArray, List.set_cons_succ, List.set_cons_zero]
  refine wpAnyC_take 4 (.pointer (some ⟨S, 0, none⟩)) rfl (by kernel_rfl) (by kernel_rfl) (by kernel_rfl) (fun _ _ _ h => h) (wanted_free rfl _) (fun W hW => by go_simp) ?_
  try simp only [Act.put, List.getElem_toArray, List.getElem_cons_succ, List.getElem_cons_zero, List.setIfInBounds_toArray, List.set_cons_succ, List.set_cons_zero]
  refine wpAnyC_take 5 (.pointer (some ⟨S, 0, none⟩)) rfl (by kernel_rfl) (by kernel_rfl) (by kernel_rfl) (fun _ _ _ h => h) (wanted_free rfl _) (fun W hW => by go_simp) ?_
  try simp only [Act.put, List.getElem_toArray, List.getElem_cons_succ, List.getElem_cons_zero, List.setIfInBounds_toArray, List.set_cons_succ, List.set_cons_zero]
  refine wpAnyC_take 6 (.pointer (some ⟨S, 1, none⟩)) rfl (by kernel_rfl) (by kernel_rfl) (by kernel_rfl) (fun _ _ _ h => h) (wanted_free rfl _) (fun W hW => by go_simp) ?_
  try simp only [Act.put, List.getElem_toArray, List.getElem_cons_succ, List.getElem_cons_zero, List.setIfInBounds_toArray, List.set_cons_succ, List.set_cons_zero]
  refine wpAnyC_take 7 (.string f) rfl (by kernel_rfl) (by kernel_rfl) (by kernel_rfl) (fun _ _ _ h => h) (wanted_free rfl _) (fun W hW => by have h := hW.2; go_simp) ?_
  try simp only [Act.put, List.getElem_toArray, List.getElem_cons_succ, List.getElem_cons_zero, List.setIfInBounds_toArray, List.set_cons_succ, List.set_cons_zero]
  refine wpAnyC_take 8 (.int .i64 1) rfl (by kernel_rfl) (by kernel_rfl) (by kernel_rfl) (fun _ _ _ h => h) (wanted_free rfl _) (fun W hW => by go_simp) ?_
  try simp only [Act.put, List.getElem_toArray, List.getElem_cons_succ, List.getElem_cons_zero, List.setIfInBounds_toArray, List.set_cons_succ, List.set_cons_zero]
  refine wpAnyC_one 9 (hC0) rfl (by kernel_rfl) (wanted_free rfl _) (fun KA hKA => ?_)
  go_simp
  refine (HE.out _).mono ?_
  rintro e y1 ⟨rfl, h9⟩
  have h9s := h9.symm
  subst h9s
  refine hKA _ _ ?_
  clear hKA KA
  try simp only [Act.put, List.getElem_toArray, List.getElem_cons_succ, List.getElem_cons_zero, List.setIfInBounds_toArray, List.set_cons_succ, List.set_cons_zero]
  refine wpAnyC_take 10 (.string (f ++ ⟨#[46, 49]⟩)) rfl (by kernel_rfl) (by kernel_rfl) (by kernel_rfl) (fun _ _ _ h => h) (wanted_free rfl _) (fun W hW => by go_simp) ?_
  try simp only [Act.put, List.getElem_toArray, List.getElem_cons_succ, List.getElem_cons_zero, List.setIfInBounds_toArray, List.set_cons_succ, List.set_cons_zero]
  refine wpAnyC_one 11 (hC0) rfl (by kernel_rfl) (wanted_free rfl _) (fun KA hKA => ?_)
  go_simp
  refine (HR.out _ (wd_drawn hW1.out _)).mono ?_
  rintro e y2 ⟨a, c, rfl, hw2, hst2, hr2⟩
  have hs2 := Kpt.mk ((step_drawn hs1.out _).trans hst2)
  have hX2 := Kpt.mk ((bx_drawn hX4.out _).step hst2 ht4)
  have hS2 := Kpt.mk ((sl_drawn hS1.out _).step hst2)
  have hC2 : y2.cell? ⟨S, 0, none⟩ = some (.pointer (some ⟨B, 0, none⟩)) ∧ y2.cell? ⟨S, 1, none⟩ = some (.string f) := ⟨hS2.out.at.1, hS2.out.at.2.1⟩
  replace hw2 := Kpt.mk hw2
  clear hst2 hs1 hX4 hS1 hW1
  replace hr2 := Kpt.mk hr2
  refine hKA _ _ ?_
  clear hKA KA
  try simp only [Act.put, List.getElem_toArray, List.getElem_cons_succ, List.getElem_cons_zero, List.setIfInBounds_toArray, List.set_cons_succ, List.set_cons_zero]
  refine wpAnyC_take 12 (.tuple #[.slice a n c, .int .i64 0]) rfl (by kernel_rfl) (by kernel_rfl) (by kernel_rfl) (fun _ _ _ h => h) (wanted_free rfl _) (fun W hW => by go_simp) ?_
  try simp only [Act.put, List.getElem_toArray, List.getElem_cons_succ, List.getElem_cons_zero, List.setIfInBounds_toArray, List.set_cons_succ, List.set_cons_zero]
  refine wpAnyC_take 13 (.slice a n c) rfl (by kernel_rfl) (by kernel_rfl) (by kernel_rfl) (fun _ _ _ h => h) (wanted_free rfl _) (fun W hW => by go_simp) ?_
  try simp only [Act.put, List.getElem_toArray, List.getElem_cons_succ, List.getElem_cons_zero, List.setIfInBounds_toArray, List.set_cons_succ, List.set_cons_zero]
  refine wpAnyC_take 14 (.int .i64 0) rfl (by kernel_rfl) (by kernel_rfl) (by kernel_rfl) (fun _ _ _ h => h) (wanted_free rfl _) (fun W hW => by go_simp) ?_
  try simp only [Act.put, List.getElem_toArray, List.getElem_cons_succ, List.getElem_cons_zero, List.setIfInBounds_toArray, List.set_cons_succ, List.set_cons_zero]
  refine wpAnyC_take 15 (.slice a n c) rfl (by kernel_rfl) (by kernel_rfl) (by kernel_rfl) (fun _ _ _ h => h) (wanted_free rfl _) (fun W hW => by go_simp) ?_
  try simp only [Act.put, List.getElem_toArray, List.getElem_cons_succ, List.getElem_cons_zero, List.setIfInBounds_toArray, List.set_cons_succ, List.set_cons_zero]
  refine wpAnyC_take 16 (.int .i64 0) rfl (by kernel_rfl) (by kernel_rfl) (by kernel_rfl) (fun _ _ _ h => h) (wanted_free rfl _) (fun W hW => by go_simp) ?_
  try simp only [Act.put, List.getElem_toArray, List.getElem_cons_succ, List.getElem_cons_zero, List.setIfInBounds_toArray, List.set_cons_succ, List.set_cons_zero]
  refine wpAnyC_done (hC2) (by kernel_rfl) ?_
  have hD : Kpt (Calls Try.prog 9 #[.slice a n c] y2 fun e w' => ∃ er : Int, e = .returned (.tuple #[.int .u64 0, .slice none 0 0, .int .i64 er]) ∧ (er = 3 ∨ er = 5) ∧ Below y2.heap.size y2 w') := ⟨dec_no a n c Z y2 hr2.out.rd hn.out.symm hnm hbt.out hd.out⟩
  go_wp2_with (first | (refine wpList_store_bx rfl 86 _ _ rfl b4 zeroL zeroL rfl rfl hX3.out rfl infoL zeroL1 rfl ?_; intro w4 hX4 hg4) | (go_at_call 9; refine hD.out.mono ?_; rintro e w3 ⟨er, rfl, her, hB3⟩; have hX3 := Kpt.mk (hX2.out.below hB3 hX2.out.lt); have hw3 := Kpt.mk (hw2.out.below hB3); have hs3 := Kpt.mk (hs2.out.trans (step_below hB3 tag _)); clear hB3 hD; rcases her with rfl | rfl))
  all_goals
    refine bodyPost_ret (v := .tuple #[.agg zeroL, .int .i64 0]) (by simp [results, Try.results38, asAddr, Act.put, run_res hX4 86 _ Try.underlying86 rfl infoL]) rfl ⟨rfl, hw3.out.own hg4 ht4, hs3.out.own hg4 hl4⟩

set_option maxRecDepth 100000 in
set_option maxHeartbeats 1000000 in
theorem sread_good1 (S B : Nat) (f : ByteArray) (kn : Bool) (g nx : Int) (tag : Tags) (st : St) (w : World) (hS : Sl w S B tag f kn g nx)
    (h : Wd w B tag st) (hc : st.cnt < 549755813888) (hf : st.fails st.ops = false) (h1 : 1 ≤ f.size) (h2 : f.size ≤ 30) (zs : List Int) (hs : st.seen (f ++ ⟨#[46, 49]⟩) = some zs) (hby : Bytes zs) (gn : Int) (p : List Int) (hd : decO (zs.take 4116) = some (gn, p)) :
    Calls Try.prog 38 #[.pointer (some ⟨S, 0, none⟩), .int .i64 1] w fun e w' => (∃ a c, e = .returned (.tuple #[.agg #[.bool true, .int .u64 gn, .slice a p.length c], .int .i64 0]) ∧ Row w' (.slice a p.length c) p ∧ ∀ g, (Value.slice a p.length c).ownBlock = some g → w.heap.size ≤ g) ∧ Wd w' B tag { st with ops := st.ops + 1, cnt := st.cnt + 1 } ∧ Step w w' tag tag (fun _ => True) := by
  have hzl : (zs.take 4116).length ≤ 4116 := by rw [List.length_take]; omega
  have hbt : Kpt (Bytes (zs.take 4116)) := ⟨Bytes.take hby 4116⟩
  obtain ⟨Z, hZ⟩ : ∃ Z, Z = zs.take 4116 := ⟨_, rfl⟩
  have HE : Kpt (∀ W, Calls Try.prog 32 #[.int .i64 1] W fun e w' => e = .returned (.string ⟨#[46, 49]⟩) ∧ w' = W) := ⟨ending_1⟩
  have hfs : ¬ 9223372036854775807 < f.size + 2 := by omega
  have hsz : (f ++ ⟨#[46, 49]⟩).size = f.size + 2 := by rw [ByteArray.size_append, size_end1]
  have hSl := hS.bx.lt
  have HR : Kpt (∀ W, Wd W B tag st → Calls Try.prog 21 #[.pointer (some ⟨B, 0, none⟩), .string (f ++ ⟨#[46, 49]⟩), .int .i64 0, .int .i64 4116] W fun e w' => ∃ a c, e = .returned (.tuple #[.slice a (zs.take 4116).length c, .int .i64 0]) ∧
      Wd w' B tag { st with ops := st.ops + 1, cnt := st.cnt + 1 } ∧ Step W w' tag tag (fun _ => True) ∧ Row w' (.slice a (zs.take 4116).length c) (zs.take 4116)) := ⟨fun W hW => by
    have hx := read_ok W B tag st hW hc hf (f ++ ⟨#[46, 49]⟩) (by rw [hsz]; omega) (by rw [hsz]; omega) 0 4116 (by decide) (by decide) zs hs
    rw [cast0, cast4116] at hx
    refine hx.mono ?_
    rintro e w2 ⟨v, rfl, hw, hst, hrow, hown⟩
    obtain ⟨a, c, rfl, _⟩ := rd_shape hrow.rd
    exact ⟨a, c, rfl, hw, hst, hrow⟩⟩
  rw [← hZ] at hzl hbt HR hd
  obtain ⟨n, hn⟩ : ∃ n, n = Z.length := ⟨_, rfl⟩
  rw [← hn] at HR hzl
  replace hn := Kpt.mk hn
  replace hd := Kpt.mk hd
  have hnm : n ≤ maxLen := by unfold maxLen; omega
  clear hby hZ
  replace hS := Kpt.mk hS
  have hW0 := Kpt.mk h
  clear hc hf hsz h hs zs
  obtain ⟨m, hm⟩ : ∃ m, m = p.length := ⟨_, rfl⟩
  rw [← hm]
  replace hm := Kpt.mk hm
  go_enter Try.func38, Try.ntmps38
  go_wp2_with (refine wpList_var rfl 86 rfl zeroL zeroLi ?_; intro b4 w1 hl4 hX4 hB4)
  have hW1 := Kpt.mk (hW0.out.below hB4)
  have hS1 := Kpt.mk (hS.out.below hB4)
  have ht4 := wd_none hW0.out hl4
  have hs1 := Kpt.mk (step_below hB4 tag (fun _ => True))
  have hC0 : w1.cell? ⟨S, 0, none⟩ = some (.pointer (some ⟨B, 0, none⟩)) ∧ w1.cell? ⟨S, 1, none⟩ = some (.string f) := ⟨hS1.out.at.1, hS1.out.at.2.1⟩
  replace hX4 := Kpt.mk hX4
  clear hB4 hS hW0
  refine wp_region_any (by kernel_rfl) ?_
  refine wpAny_of_C (C := fun W => W.cell? ⟨S, 0, none⟩ = some (.pointer (some ⟨B, 0, none⟩)) ∧ W.cell? ⟨S, 1, none⟩ = some (.string f)) _ _ _ _ ?_
  refine wpAnyC_take 0 (.pointer (some ⟨S, 0, none⟩)) rfl (by kernel_rfl) (by kernel_rfl) (by kernel_rfl) (fun _ _ _ h => h) (wanted_free rfl _) (fun W hW => by go_simp) ?_
  try simp only [Act.put, List.getElem_toArray, List.getElem_cons_succ, List.getElem_cons_zero, List.setIfInBounds_toArray, List.set_cons_succ, List.set_cons_zero]
  refine wpAnyC_take 1 (.pointer (some ⟨S, 0, none⟩)) rfl (by kernel_rfl) (by kernel_rfl) (by kernel_rfl) (fun _ _ _ h => h) (wanted_free rfl _) (fun W hW => by go_simp) ?_
  try simp only [Act.put, List.getElem_toArray, List.getElem_cons_succ, List.getElem_cons_zero, List.setIfInBounds_toArray, List.set_cons_succ, List.set_cons_zero]
  refine wpAnyC_take 2 (.pointer (some ⟨S, 0, none⟩)) rfl (by kernel_rfl) (by kernel_rfl) (by kernel_rfl) (fun _ _ _ h => h) (wanted_free rfl _) (fun W hW => by go_simp) ?_
  try simp only [Act.put, List.getElem_toArray, List.getElem_cons_succ, List.getElem_cons_zero, List.setIfInBounds_toArray, List.set_cons_succ, List.set_cons_zero]
  refine wpAnyC_take 3 (.pointer (some ⟨B, 0, none⟩)) rfl (by kernel_rfl) (by kernel_rfl) (by kernel_rfl) (fun _ _ _ h => h) (wanted_free rfl _) (fun W hW => by have h := hW.1; go_simp) ?_
  try simp only [Act.put, List.getElem_toArray, List.getElem_cons_succ, List.getElem_cons_zero, List.setIfInBounds_toArray, List.set_cons_succ, List.set_cons_zero]
  refine wpAnyC_take 4 (.pointer (some ⟨S, 0, none⟩)) rfl (by kernel_rfl) (by kernel_rfl) (by kernel_rfl) (fun _ _ _ h => h) (wanted_free rfl _) (fun W hW => by go_simp) ?_
  try simp only [Act.put, List.getElem_toArray, List.getElem_cons_succ, List.getElem_cons_zero, List.setIfInBounds_toArray, List.set_cons_succ, List.set_cons_zero]
  refine wpAnyC_take 5 (.pointer (some ⟨S, 0, none⟩)) rfl (by kernel_rfl) (by kernel_rfl) (by kernel_rfl) (fun _ _ _ h => h) (wanted_free rfl _) (fun W hW => by go_simp) ?_
  try simp only [Act.put, List.getElem_toArray, List.getElem_cons_succ, List.getElem_cons_zero, List.setIfInBounds_toArray, List.set_cons_succ, List.set_cons_zero]
  refine wpAnyC_take 6 (.pointer (some ⟨S, 1, none⟩)) rfl (by kernel_rfl) (by kernel_rfl) (by kernel_rfl) (fun _ _ _ h => h) (wanted_free rfl _) (fun W hW => by go_simp) ?_
  try simp only [Act.put, List.getElem_toArray, List.getElem_cons_succ, List.getElem_cons_zero, List.setIfInBounds_toArray, List.set_cons_succ, List.set_cons_zero]
  refine wpAnyC_take 7 (.string f) rfl (by kernel_rfl) (by kernel_rfl) (by kernel_rfl) (fun _ _ _ h => h) (wanted_free rfl _) (fun W hW => by have h := hW.2; go_simp) ?_
  try simp only [Act.put, List.getElem_toArray, List.getElem_cons_succ, List.getElem_cons_zero, List.setIfInBounds_toArray, List.set_cons_succ, List.set_cons_zero]
  refine wpAnyC_take 8 (.int .i64 1) rfl (by kernel_rfl) (by kernel_rfl) (by kernel_rfl) (fun _ _ _ h => h) (wanted_free rfl _) (fun W hW => by go_simp) ?_
  try simp only [Act.put, List.getElem_toArray, List.getElem_cons_succ, List.getElem_cons_zero, List.setIfInBounds_toArray, List.set_cons_succ, List.set_cons_zero]
  refine wpAnyC_one 9 (hC0) rfl (by kernel_rfl) (wanted_free rfl _) (fun KA hKA => ?_)
  go_simp
  refine (HE.out _).mono ?_
  rintro e y1 ⟨rfl, h9⟩
  have h9s := h9.symm
  subst h9s
  refine hKA _ _ ?_
  clear hKA KA
  try simp only [Act.put, List.getElem_toArray, List.getElem_cons_succ, List.getElem_cons_zero, List.setIfInBounds_toArray, List.set_cons_succ, List.set_cons_zero]
  refine wpAnyC_take 10 (.string (f ++ ⟨#[46, 49]⟩)) rfl (by kernel_rfl) (by kernel_rfl) (by kernel_rfl) (fun _ _ _ h => h) (wanted_free rfl _) (fun W hW => by go_simp) ?_
  try simp only [Act.put, List.getElem_toArray, List.getElem_cons_succ, List.getElem_cons_zero, List.setIfInBounds_toArray, List.set_cons_succ, List.set_cons_zero]
  refine wpAnyC_one 11 (hC0) rfl (by kernel_rfl) (wanted_free rfl _) (fun KA hKA => ?_)
  go_simp
  refine (HR.out _ (wd_drawn hW1.out _)).mono ?_
  rintro e y2 ⟨a, c, rfl, hw2, hst2, hr2⟩
  have hs2 := Kpt.mk ((step_drawn hs1.out _).trans hst2)
  have hX2 := Kpt.mk ((bx_drawn hX4.out _).step hst2 ht4)
  have hS2 := Kpt.mk ((sl_drawn hS1.out _).step hst2)
  have hC2 : y2.cell? ⟨S, 0, none⟩ = some (.pointer (some ⟨B, 0, none⟩)) ∧ y2.cell? ⟨S, 1, none⟩ = some (.string f) := ⟨hS2.out.at.1, hS2.out.at.2.1⟩
  replace hw2 := Kpt.mk hw2
  clear hst2 hs1 hX4 hS1 hW1
  replace hr2 := Kpt.mk hr2
  refine hKA _ _ ?_
  clear hKA KA
  try simp only [Act.put, List.getElem_toArray, List.getElem_cons_succ, List.getElem_cons_zero, List.setIfInBounds_toArray, List.set_cons_succ, List.set_cons_zero]
  refine wpAnyC_take 12 (.tuple #[.slice a n c, .int .i64 0]) rfl (by kernel_rfl) (by kernel_rfl) (by kernel_rfl) (fun _ _ _ h => h) (wanted_free rfl _) (fun W hW => by go_simp) ?_
  try simp only [Act.put, List.getElem_toArray, List.getElem_cons_succ, List.getElem_cons_zero, List.setIfInBounds_toArray, List.set_cons_succ, List.set_cons_zero]
  refine wpAnyC_take 13 (.slice a n c) rfl (by kernel_rfl) (by kernel_rfl) (by kernel_rfl) (fun _ _ _ h => h) (wanted_free rfl _) (fun W hW => by go_simp) ?_
  try simp only [Act.put, List.getElem_toArray, List.getElem_cons_succ, List.getElem_cons_zero, List.setIfInBounds_toArray, List.set_cons_succ, List.set_cons_zero]
  refine wpAnyC_take 14 (.int .i64 0) rfl (by kernel_rfl) (by kernel_rfl) (by kernel_rfl) (fun _ _ _ h => h) (wanted_free rfl _) (fun W hW => by go_simp) ?_
  try simp only [Act.put, List.getElem_toArray, List.getElem_cons_succ, List.getElem_cons_zero, List.setIfInBounds_toArray, List.set_cons_succ, List.set_cons_zero]
  refine wpAnyC_take 15 (.slice a n c) rfl (by kernel_rfl) (by kernel_rfl) (by kernel_rfl) (fun _ _ _ h => h) (wanted_free rfl _) (fun W hW => by go_simp) ?_
  try simp only [Act.put, List.getElem_toArray, List.getElem_cons_succ, List.getElem_cons_zero, List.setIfInBounds_toArray, List.set_cons_succ, List.set_cons_zero]
  refine wpAnyC_take 16 (.int .i64 0) rfl (by kernel_rfl) (by kernel_rfl) (by kernel_rfl) (fun _ _ _ h => h) (wanted_free rfl _) (fun W hW => by go_simp) ?_
  try simp only [Act.put, List.getElem_toArray, List.getElem_cons_succ, List.getElem_cons_zero, List.setIfInBounds_toArray, List.set_cons_succ, List.set_cons_zero]
  refine wpAnyC_done (hC2) (by kernel_rfl) ?_
  have hD : Kpt (Calls Try.prog 9 #[.slice a n c] y2 fun e w' => ∃ a2 c2, e = .returned (.tuple #[.int .u64 gn, .slice a2 m c2, .int .i64 0]) ∧ Row w' (.slice a2 m c2) p ∧ (∀ g, (Value.slice a2 m c2).ownBlock = some g → y2.heap.size ≤ g) ∧ Below y2.heap.size y2 w') := ⟨(dec_yes a n c Z y2 hr2.out.rd hn.out.symm hnm hbt.out gn p hd.out).mono (fun e w' h => by
    obtain ⟨v, h1, h2, h3, h4⟩ := h
    obtain ⟨a2, c2, rfl, _⟩ := rd_shape h2.rd
    rw [← hm.out] at h1 h2 h3
    exact ⟨a2, c2, h1, h2, h3, h4⟩)⟩
  go_wp2_with (first | (refine wpList_store_bx rfl 86 _ _ rfl b4 zeroL #[.bool true, .int .u64 gn, .slice a2 m c2] rfl rfl hX3.out rfl infoL (by simp [Value.oneCell']) rfl ?_; intro w4 hX4 hg4) | (go_at_call 9; refine hD.out.mono ?_; rintro e w3 ⟨a2, c2, rfl, hr3, hlo3, hB3⟩; have hX3 := Kpt.mk (hX2.out.below hB3 hX2.out.lt); have hw3 := Kpt.mk (hw2.out.below hB3); have hs3 := Kpt.mk (hs2.out.trans (step_below hB3 tag _)); have hlt3 := hX2.out.lt; replace hr3 := Kpt.mk hr3; replace hlo3 := Kpt.mk hlo3; clear hB3 hD))
  refine bodyPost_ret (v := .tuple #[.agg #[.bool true, .int .u64 gn, .slice a2 m c2], .int .i64 0]) (by simp [results, Try.results38, asAddr, Act.put, run_res hX4 86 _ Try.underlying86 rfl infoL]) rfl ⟨⟨a2, c2, rfl, ?_, ?_⟩, hw3.out.own hg4 ht4, hs3.out.own hg4 hl4⟩
  · exact hr3.out.of_block (fun q hq => hg4.block q (hr3.out.lt hq) (fun e => by cases e; have := hlo3.out _ hq; omega))
  · intro q hq
    have := hlo3.out q hq
    have := hs2.out.size
    omega
end Go.Proofs.Ytndlpmnidpandaa
