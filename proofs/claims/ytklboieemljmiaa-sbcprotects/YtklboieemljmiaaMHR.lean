/-
  PiHonest: blocks with a byte turned. The document's Unpack. The document's Unpack.
-/
import Derived.Test.YtklboieemljmiaaMH
import Derived.Test.YtklboieemljmiaaMB
namespace Go.Proofs.Ytklboieemljmiaa
open Go.RowKit
set_option linter.unusedVariables false
set_option linter.unusedSimpArgs false

theorem bx_cellP {W : World} {B : Nat} (b : Bk) (h : b.ok) (hx : Bx W B b.vals) (i : Nat) (hi : i < 16) : W.cell? ⟨B, i, none⟩ = some (.int .u8 (b.d.getD i 0)) := by
  rw [hx.cells i (by rw [Bk.size h]; omega)]
  exact vals_data b h i hi
theorem bx_turn {W : World} {B : Nat} (b : Bk) (h : b.ok) (hx : Bx W B b.vals) (i : Nat) (hi : i < 16) (y : Int) : Bx (W.setCell ⟨B, i, none⟩ (.int .u8 y)) B (Bk.vals ⟨b.d.set i y, b.g, b.a, b.r⟩) := by
  have hs := Bk.size h
  have hsz : (Bk.vals ⟨b.d.set i y, b.g, b.a, b.r⟩).size = 19 := by simp [Bk.vals, Bk.cs, h.len]
  have hg := grown_setCellK W ⟨B, i, none⟩ (.int .u8 y)
  have hc := bx_cellP b h hx i hi
  refine ⟨Nat.lt_of_lt_of_le hx.lt hg.size, fun j hj => ?_, fun j => by rw [World.frozen?_setCell]; exact hx.free j⟩
  by_cases hij : i = j
  · subst hij
    rw [World.cell?_setCell_same _ _ _ hc]
    simp only [Bk.vals, Bk.cs, List.getElem?_toArray]
    rw [List.getElem?_append_left (by simp [h.len]; exact hi)]
    simp [cels, h.len, hi]
  · rw [World.cell?_setCell_other _ _ _ _ (fun e => hij (congrArg Addr.off e)), hx.cells j (by rw [hs]; omega)]
    simp only [Bk.vals, Bk.cs, List.getElem?_toArray]
    by_cases hj16 : j < 16
    · rw [List.getElem?_append_left (by simp [h.len]; exact hj16), List.getElem?_append_left (by simp [h.len]; exact hj16)]
      simp [cels, List.getElem?_set, hij]
    · rw [List.getElem?_append_right (by simp [h.len]; omega), List.getElem?_append_right (by simp [h.len]; omega)]
      simp [h.len]
end Go.Proofs.Ytklboieemljmiaa

namespace Go.Proofs.Ytklboieemljmiaa
open Go.RowKit
set_option linter.unusedVariables false
set_option linter.unusedSimpArgs false
theorem list19 (cs : List Value) (hl : cs.length = 19) : ∃ c0 c1 c2 c3 c4 c5 c6 c7 c8 c9 c10 c11 c12 c13 c14 c15 t0 t1 t2, cs = [c0, c1, c2, c3, c4, c5, c6, c7, c8, c9, c10, c11, c12, c13, c14, c15, t0, t1, t2] := by
  match cs, hl with
  | [c0, c1, c2, c3, c4, c5, c6, c7, c8, c9, c10, c11, c12, c13, c14, c15, t0, t1, t2], _ => exact ⟨_, _, _, _, _, _, _, _, _, _, _, _, _, _, _, _, _, _, _, rfl⟩

theorem rnum_any (b off len cap i n : Nat) (zs : List Int) (w : World) (hl : len ≤ maxLen) (hn1 : 1 ≤ n) (hn2 : n ≤ 8) (hi : i + n ≤ len) (hb : B.Bytes zs)
    (hc : ∀ j, j < len → w.cell? ⟨b, off + j, none⟩ = some (.int .u8 (zs.getD j 0))) :
    Calls Try.prog 23 #[.slice (some ⟨b, off, none⟩) len cap, .int .i64 i, .int .i64 n] w fun e w' => e = .returned (.int .u64 (B.num zs i n)) ∧ w' = w := by
  have h := B.rget_ok b off len cap i n zs w hl hn1 hn2 hi hb hc
  go_enter Try.func23, Try.ntmps23
  go_wp2_with (go_at_call 30; refine h.mono ?_; rintro e w' ⟨rfl, rfl⟩)
  go_ret
  exact ⟨rfl, rfl⟩
theorem bx_set3 {w : World} {b : Nat} {ds : List Int} {x y z x' y' z' : Value} (h : Bx w b (cels ds ++ [x, y, z]).toArray) (hd : ds.length = 16) : Bx (w.setCells b 16 [x', y', z']) b (cels ds ++ [x', y', z']).toArray := by
  have hl : (cels ds).length = 16 := by simp [hd]
  have hg := grown_setCells b [x', y', z'] 16 w
  refine ⟨Nat.lt_of_lt_of_le h.lt hg.size, fun j hj => ?_, fun j => ?_⟩
  · have hj19 : j < 19 := by simpa [hl] using hj
    by_cases h16 : j < 16
    · rw [World.cell?_setCells_out b [x', y', z'] 16 w ⟨b, j, none⟩ (fun _ _ => .inl h16), h.cells j (by simp [hl]; omega), List.getElem?_toArray, List.getElem?_toArray, List.getElem?_append_left (by omega), List.getElem?_append_left (by omega)]
    · have hin := World.cell?_setCells_in b [x', y', z'] 16 w (fun i hi => by
        have hi3 : i < 3 := by simpa using hi
        rw [h.cells (16 + i) (by simp [hl]; omega), List.getElem?_toArray, List.getElem?_append_right (by omega), hl, List.getElem?_eq_getElem (by simp; omega)]
        rfl) (j - 16) (by simp; omega)
      rw [show 16 + (j - 16) = j from by omega] at hin
      rw [hin, List.getElem?_toArray, List.getElem?_append_right (by omega), hl, List.getElem?_eq_getElem (by simp; omega)]
  · rw [World.frozen?_setCells]; exact h.free j
def part (D : List Int) (i : Nat) : Bk := ⟨D.take i ++ List.replicate (16 - i) 0, 0, 0, 0⟩
theorem part_ok (D : List Int) (i : Nat) (hD : D.length = 16) (hb : ∀ x ∈ D, 0 ≤ x ∧ x ≤ 255) (hi : i ≤ 16) : (part D i).ok := by
  refine ⟨?_, fun x hx => ?_, by simp [part], by simp [part], by simp [part]⟩
  · simp [part, hD]; omega
  · simp only [part, List.mem_append, List.mem_replicate] at hx
    rcases hx with hx | ⟨_, rfl⟩
    · exact hb x (List.mem_of_mem_take hx)
    · exact ⟨by decide, by decide⟩
theorem part_step (D : List Int) (i : Nat) (hD : D.length = 16) (hi : i < 16) : (part D i).d.set i (D.getD i 0) = (part D (i + 1)).d := by
  simp only [part]
  have hl : (D.take i).length = i := by simp [hD]; omega
  rw [List.set_append, if_neg (by omega), hl, Nat.sub_self, show 16 - i = (16 - (i + 1)) + 1 by omega, List.replicate_succ, List.set_cons_zero, take_step D i (by omega), List.append_assoc]
  rfl
theorem part_full (D : List Int) (hD : D.length = 16) : (part D 16).d = D := by simp [part]; exact List.take_of_length_le (by omega)
/-- A block more behind a row of one's own. -/
theorem wpList_append_blk {w : World} {ops : Array Oper} {rest : List Oper} {o : Oper} {a : Act} {Q : Exit → Act → World → Prop} (hgd : o.guard = none) (d s : Operand)
    (ho : o.op = .call { callee := .builtin .append, args := #[d, s], argTypes := #[46, 46] })
    (base : Nat) (v : Value) (k : Nat) (xs : List Value) (b : Bk) (hok : b.ok) (g : Nat) (hd : a.eval d = v) (hs : a.eval s = .slice (some ⟨g, 0, none⟩) 1 1) (hown : w.ownsRow base 76 19 v k xs) (hr : w.rangeAt g 0 b.cs) (hlen : (k + 1) * 24 ≤ 140737488355328) (hb : base ≤ w.heap.size)
    (h : ∀ v' w', Kpt (w'.ownsRow base 76 19 v' (k + 1) (xs ++ b.cs)) → Kpt (w.grownBy w' v.ownBlock) → wpList Try.prog ops Q rest (a.put o.dst v') w') : wpList Try.prog ops Q (o :: rest) a w := by
  obtain ⟨i0, hi0, hz0, hz1, hz2⟩ := info_parts infoB3
  refine wpList_append_own _ hgd d s 46 ho base 76 i0 (.agg zeroB) 19 24 Try.underlying46 hi0 hz0 hz1 hz2 rfl (by decide) v k xs hd hown ⟨g, 0, none⟩ 1 1 b.cs hs (by rw [cs_len b hok]) (fun j u hu => by rw [Go.WideShapes.add_plain]; exact hr j u hu) (fun u hu => ?_) (by unfold maxLen; omega) hlen hb ?_
  · have h1 := Bk.one b
    rw [Array.all_eq_true] at h1
    obtain ⟨i, hi, rfl⟩ := List.getElem_of_mem hu
    have := h1 i (by simpa [Bk.vals] using hi)
    simpa [Bk.vals] using this
  · intro v' w' h2 h3 _
    exact h v' w' ⟨h2⟩ ⟨h3⟩
theorem ownB_of_block {w w' : World} {b n : Nat} {v : Value} {zs : List Value} (h : w.ownsRow b 76 19 v n zs) (hb : ∀ g, v.ownBlock = some g → w'.heap[g]? = w.heap[g]?) : w'.ownsRow b 76 19 v n zs := by
  refine ⟨h.1, ?_⟩
  rcases h.2 with hn | ⟨g, cap, cur, rfl, h0, hgg, rest⟩
  · exact .inl hn
  · exact .inr ⟨g, cap, cur, rfl, h0, (hb g rfl).trans hgg, rest⟩
theorem fold19 (V : Array Value) (h : V.size = 19) : Array.foldl (fun (cs : Array Value) (x : Value × Nat) => cs.setIfInBounds x.snd x.fst) #[.int .u8 0, .int .u8 0, .int .u8 0, .int .u8 0, .int .u8 0, .int .u8 0, .int .u8 0, .int .u8 0, .int .u8 0, .int .u8 0, .int .u8 0, .int .u8 0, .int .u8 0, .int .u8 0, .int .u8 0, .int .u8 0, .int .u16 0, .int .u16 0, .int .u32 0] V.zipIdx 0 19 = V := by
  obtain ⟨l⟩ := V
  obtain ⟨c0, c1, c2, c3, c4, c5, c6, c7, c8, c9, c10, c11, c12, c13, c14, c15, t0, t1, t2, rfl⟩ := list19 l (by simpa using h)
  simp
end Go.Proofs.Ytklboieemljmiaa

namespace Go.Proofs.Ytklboieemljmiaa
open Go.RowKit
set_option linter.unusedVariables false
set_option linter.unusedSimpArgs false

theorem runpack_no_true (a : Option Addr) (n cp : Nat) (w : World) (hn : n ≤ maxLen) (hm : n % 24 ≠ 0) :
    Calls Try.prog 16 #[.slice a n cp, .bool true] w fun e w' => e = .returned (.tuple #[.slice none 0 0, .bool false]) ∧ w' = w := by
  unfold maxLen at hn
  have e1 : ((n : Int) % 24 != 0) = true := by simp; omega
  go_enter Try.func16, Try.ntmps16
  go_wp2
  go_ret2
  exact ⟨rfl, rfl⟩

set_option maxRecDepth 100000 in
set_option maxHeartbeats 4000000 in
theorem runpack_true (a : Option Addr) (n cp m : Nat) (zs : List Int) (w : World) (hr : RdAt w (.slice a n cp) zs) (hl : zs.length = n) (hm : n = m * 24) (hb : Bytes zs) (hn : m * 24 ≤ 140737488355328) :
    Calls Try.prog 16 #[.slice a n cp, .bool true] w fun e w' => ∃ v, e = .returned (.tuple #[v, .bool true]) ∧ w'.ownsRow w.heap.size 76 19 v m (unL true zs m) ∧ Below w.heap.size w w' := by
  have hlz : zs.length = m * sz true := by rw [hl, hm]; rfl
  have e1 : ((n : Int) % 24 != 0) = false := by simp; omega
  have hn63 : (n : Int) ≤ 140737488355328 := by omega
  have hok := Kpt.mk (fun k hk => unB_ok true zs k m hb hlz hk)
  have hcell : Kpt (∀ j, j < n → ∃ b off, a = some ⟨b, off, none⟩ ∧ b < w.heap.size ∧ ∀ j, j < n → w.cell? ⟨b, off + j, none⟩ = some (.int .u8 (zs.getD j 0))) := ⟨fun j hj => by
    have hlt := fun g hg => hr.lt (g := g) (by omega) hg
    obtain ⟨a', c', e, h1, h2, h3⟩ := hr
    simp only [Value.slice.injEq] at e
    obtain ⟨rfl, _, _⟩ := e
    rcases h3 with h3 | ⟨b, off, rfl, h3⟩
    · omega
    · refine ⟨b, off, rfl, hlt b rfl, fun j hj => h3 j _ ?_⟩
      rw [cels, List.getElem?_map, List.getElem?_eq_getElem (by omega), List.getD_eq_getElem?_getD, List.getElem?_eq_getElem (by omega)]
      rfl⟩
  replace hlz := Kpt.mk hlz
  replace hl := Kpt.mk hl
  replace hb := Kpt.mk hb
  replace hm := Kpt.mk hm
  clear hr
  go_enter Try.func16, Try.ntmps16
  go_wp2_with fail
  go_loopw [7, 8] (fun s t wr => ∃ (k : Nat) (v : Value), k ≤ m ∧ v = s ∧ t = .int .i64 ((k * 24 : Nat) : Int) ∧ Kpt (wr.ownsRow w.heap.size 76 19 v k (unL true zs k)) ∧ Kpt (Below w.heap.size w wr)) (fun _ t _ => n - (intOf t).toNat)
  case atStart => exact ⟨0, _, Nat.zero_le _, rfl, rfl, ⟨World.ownsRow_nil _ _ _ _⟩, ⟨Below.refl _ _⟩⟩
  case round =>
    obtain ⟨k, v, hk, rfl, rfl, ho, hB⟩ := hrel
    by_cases hlt : k < m
    · obtain ⟨b, off, rfl, hbl, hsrc⟩ := hcell.out (k * 24) (by have := hm.out; omega)
      obtain ⟨q, hq⟩ : ∃ q, q = k * 24 := ⟨_, rfl⟩
      have hqn : q + 24 ≤ n := by have := hm.out; omega
      have el : (q : Int) < n := by omega
      have hq1 : Kpt ((k + 1) * 24 = q + 24) := ⟨by omega⟩
      rw [← hq]
      have hkK := hok.out k hlt
      obtain ⟨D, hD⟩ : ∃ D, D = (unB true zs k).d := ⟨_, rfl⟩
      have hDl : Kpt (D.length = 16) := ⟨by rw [hD]; exact hkK.len⟩
      have hDb : Kpt (∀ x ∈ D, 0 ≤ x ∧ x ≤ 255) := ⟨by rw [hD]; exact hkK.byte⟩
      have hDe : Kpt (∀ i, i < 16 → D.getD i 0 = zs.getD (q + i) 0) := ⟨fun i hi => by
        rw [hD, hq]
        simp only [unB, if_true, Bool.false_eq_true, if_false]
        simp [List.getD_eq_getElem?_getD, List.getElem?_take, List.getElem?_drop, hi]⟩
      obtain ⟨Bn, hBn⟩ : ∃ B, B = wr.heap.size := ⟨_, rfl⟩
      have hX0 : Kpt (Bx (wr.alloc (.cells #[.int .u8 0, .int .u8 0, .int .u8 0, .int .u8 0, .int .u8 0, .int .u8 0, .int .u8 0, .int .u8 0, .int .u8 0, .int .u8 0, .int .u8 0, .int .u8 0, .int .u8 0, .int .u8 0, .int .u8 0, .int .u8 0, .int .u16 0, .int .u16 0, .int .u32 0] 76)) Bn (Bk.vals (part D 0))) := ⟨by rw [hBn]; exact bx_new wr _ 76⟩
      have hO0 : Kpt ((wr.alloc (.cells #[.int .u8 0, .int .u8 0, .int .u8 0, .int .u8 0, .int .u8 0, .int .u8 0, .int .u8 0, .int .u8 0, .int .u8 0, .int .u8 0, .int .u8 0, .int .u8 0, .int .u8 0, .int .u8 0, .int .u8 0, .int .u8 0, .int .u16 0, .int .u16 0, .int .u32 0] 76)).ownsRow w.heap.size 76 19 v k (unL true zs k)) := ⟨ownB_of_block ho.out (fun g hg => Below.heap_alloc _ _ _ (World.ownsRow.lt ho.out g hg).2)⟩
      have hb0 : Kpt (Below w.heap.size w (wr.alloc (.cells #[.int .u8 0, .int .u8 0, .int .u8 0, .int .u8 0, .int .u8 0, .int .u8 0, .int .u8 0, .int .u8 0, .int .u8 0, .int .u8 0, .int .u8 0, .int .u8 0, .int .u8 0, .int .u8 0, .int .u8 0, .int .u8 0, .int .u16 0, .int .u16 0, .int .u32 0] 76))) := ⟨hB.out.alloc hB.out.size _⟩
      have hBlo : w.heap.size ≤ Bn := by rw [hBn]; exact hB.out.size
      have hown : Kpt (∀ g, v.ownBlock = some g → w.heap.size ≤ g ∧ g < Bn) := ⟨fun g hg => by rw [hBn]; exact World.ownsRow.lt ho.out g hg⟩
      have hsw : Kpt (∀ W, Below w.heap.size w W → ∀ j, j < n → W.cell? ⟨b, off + j, none⟩ = some (.int .u8 (zs.getD j 0))) := ⟨fun W hW j hj => (hW.cell (p := ⟨b, off + j, none⟩) hbl).trans (hsrc j hj)⟩
      have hsn : Kpt (unL true zs (k + 1) = unL true zs k ++ (unB true zs k).cs) := ⟨rfl⟩
      replace hq := Kpt.mk hq
      replace hD := Kpt.mk hD
      replace hkK := Kpt.mk hkK
      clear ho hB hsrc
      go_wp2_with fail
      rw [← hBn]
      replace hBn := Kpt.mk hBn
      go_loopw [10] (fun t wr => ∃ i : Nat, i ≤ 16 ∧ t = .int .i64 i ∧ Kpt (Bx wr Bn (Bk.vals (part D i))) ∧ Kpt (wr.ownsRow w.heap.size 76 19 v k (unL true zs k)) ∧ Kpt (Below w.heap.size w wr)) (fun t _ => 16 - (intOf t).toNat)
      case atStart => exact ⟨0, Nat.zero_le _, rfl, hX0, hO0, hb0⟩
      case round =>
        obtain ⟨i, hi, rfl, hX, hO, hBe⟩ := hrel
        clear hX0 hO0 hb0
        have hbB : b < Bn := Nat.lt_of_lt_of_le hbl hBlo
        by_cases hi16 : i < 16
        · have hx := hsw.out _ hBe.out (q + i) (by omega)
          have hxd := hDe.out i hi16
          rw [← hxd] at hx
          have hst := Kpt.mk (bx_turn (part D i) (part_ok D i hDl.out hDb.out (by omega)) hX.out i hi16 (D.getD i 0))
          rw [part_step D i hDl.out hi16] at hst
          have hcx := bx_cellP (part D i) (part_ok D i hDl.out hDb.out (by omega)) hX.out i hi16
          have hfx := hX.out.free i
          obtain ⟨x, hxx⟩ : ∃ x, x = D.getD i 0 := ⟨_, rfl⟩
          rw [← hxx] at hx hst
          have hO2 : Kpt ((wr.setCell ⟨Bn, i, none⟩ (.int .u8 x)).ownsRow w.heap.size 76 19 v k (unL true zs k)) := ⟨ownB_of_block hO.out (fun g hg => Below.heap_setCell _ _ _ _ (fun e => by have := (hown.out g hg).2; simp at e; omega))⟩
          have hb2 : Kpt (Below w.heap.size w (wr.setCell ⟨Bn, i, none⟩ (.int .u8 x))) := ⟨hBe.out.setCell hBlo _⟩
          obtain ⟨y, hy⟩ : ∃ y, y = (part D i).d.getD i 0 := ⟨_, rfl⟩
          rw [← hy] at hcx
          clear hxx hy hX hO hBe hxd
          go_wp2
          go_roundw
          case rel => exact ⟨i + 1, by omega, by go_num, hst, hO2, hb2⟩
          case measure => simp [intOf]; omega
        · obtain rfl : i = 16 := by omega
          have hpf : Kpt (Bk.vals (part D 16) = (cels D ++ [Value.int .u16 0, Value.int .u16 0, Value.int .u32 0]).toArray) := ⟨by rw [Bk.vals, Bk.cs, part_full D hDl.out]; rfl⟩
          rw [hpf.out] at hX
          have hcs := Kpt.mk (fun j hj => hsw.out _ hBe.out j hj)
          have hzb : Kpt (B.Bytes zs) := ⟨hb.out⟩
          have hnm : Kpt (n ≤ maxLen) := ⟨by unfold maxLen; omega⟩
          have N1 := Kpt.mk (rnum_any b off n cp (q + 16) 2 zs wr hnm.out (by decide) (by decide) (by omega) hzb.out hcs.out)
          have N2 := Kpt.mk (rnum_any b off n cp (q + 18) 2 zs wr hnm.out (by decide) (by decide) (by omega) hzb.out hcs.out)
          have N3 := Kpt.mk (rnum_any b off n cp (q + 20) 4 zs wr hnm.out (by decide) (by decide) (by omega) hzb.out hcs.out)
          have hue : Kpt ((unB true zs k).cs = cels D ++ [.int .u16 (B.num zs (q + 16) 2), .int .u16 (B.num zs (q + 18) 2), .int .u32 (B.num zs (q + 20) 4)]) := ⟨by
            have u1 : (unB true zs k).g = B.num zs (q + 16) 2 := by simp only [unB, if_true, B.num, hq.out, Nat.add_zero, Nat.add_assoc, Nat.reduceAdd]; omega
            have u2 : (unB true zs k).a = B.num zs (q + 18) 2 := by simp only [unB, if_true, B.num, hq.out, Nat.add_zero, Nat.add_assoc, Nat.reduceAdd]; omega
            have u3 : (unB true zs k).r = B.num zs (q + 20) 4 := by simp only [unB, if_true, B.num, hq.out, Nat.add_zero, Nat.add_assoc, Nat.reduceAdd]; omega
            rw [Bk.cs, u1, u2, u3, ← hD.out]⟩
          have bn1 := B.num_bd zs (q + 16) hzb.out 2
          have bn2 := B.num_bd zs (q + 18) hzb.out 2
          have bn3 := B.num_bd zs (q + 20) hzb.out 4
          simp only [Nat.reducePow, Int.reducePow] at bn1 bn2 bn3
          generalize B.num zs (q + 16) 2 = n1 at *
          generalize B.num zs (q + 18) 2 = n2 at *
          generalize B.num zs (q + 20) 4 = n3 at *
          have p1 : IntKind.u16.wrap n1 = n1 := by rw [IntKind.wrap_u16]; omega
          have p2 : IntKind.u16.wrap n2 = n2 := by rw [IntKind.wrap_u16]; omega
          have p3 : IntKind.u32.wrap n3 = n3 := by rw [IntKind.wrap_u32]; omega
          have hX3 := Kpt.mk (bx_set3 (x' := .int .u16 n1) (y' := .int .u16 n2) (z' := .int .u32 n3) hX.out hDl.out)
          have hth : Kpt (wr.there Bn 16 3) := ⟨fun j hj => by have := hX.out.there (16 + j) (by simp [hDl.out]; omega); simpa using this⟩
          have hg3 := grown_setCells Bn [.int .u16 n1, .int .u16 n2, .int .u32 n3] 16 wr
          have hO3 : Kpt ((wr.setCells Bn 16 [.int .u16 n1, .int .u16 n2, .int .u32 n3]).ownsRow w.heap.size 76 19 v k (unL true zs k)) := ⟨ownB_of_block hO.out (fun g hg => hg3.block g (World.ownsRow.lt hO.out g hg).2 (fun e => by injection e with e; have := (hown.out g hg).2; omega))⟩
          have hb3 : Kpt (Below w.heap.size w (wr.setCells Bn 16 [.int .u16 n1, .int .u16 n2, .int .u32 n3])) := ⟨hBe.out.grown hg3 hBe.out.size (fun z hz => by cases hz; exact hBlo)⟩
          obtain ⟨x3, hx3⟩ : ∃ x3, x3 = wr.setCells Bn 16 [.int .u16 n1, .int .u16 n2, .int .u32 n3] := ⟨_, rfl⟩
          rw [← hx3] at hX3 hO3 hb3
          rw [← hue.out] at hX3
          replace hx3 := Kpt.mk hx3
          have m0 : Kpt True := ⟨trivial⟩
          clear hcs hg3 hX hO
          have hin : Kpt ((Try.prog.info? 76).map (·.size) = some (unB true zs k).cs.toArray.size) := ⟨by rw [List.size_toArray, cs_len _ hkK.out]; exact infoB⟩
          obtain ⟨V, hV⟩ : ∃ V, V = (unB true zs k).cs.toArray := ⟨_, rfl⟩
          have hVl : Kpt (V.toList = (unB true zs k).cs) := ⟨by rw [hV]⟩
          have hVs : V.size = 19 := by rw [hV, List.size_toArray, cs_len _ hkK.out]
          have hfold := fold19 V hVs
          rw [← hV] at hin hX3
          have hrn : Kpt (∀ W : World, (W.alloc (.cells V 76)).rangeAt W.heap.size 0 (unB true zs k).cs) := ⟨fun W => by rw [← hVl.out]; exact (bx_new W V 76).range⟩
          have hoA : Kpt ((x3.alloc (.cells V 76)).ownsRow w.heap.size 76 19 v k (unL true zs k)) := ⟨ownB_of_block hO3.out (fun g hg => Below.heap_alloc _ _ _ (World.ownsRow.lt hO3.out g hg).2)⟩
          have hbA : Kpt (Below w.heap.size w (x3.alloc (.cells V 76))) := ⟨hb3.out.alloc hb3.out.size _⟩
          clear hV
          go_wp2_with (first | (refine (?_ : wpList _ _ _ (Oper.mk none (Op.store 74 (.tmp 54) (.tmp 53)) _ _ _ _ :: _) _ _); go_must (refine wpList_store_mid rfl 74 (.tmp 54) (.tmp 53) rfl Bn 16 #[.int .u16 n1, .int .u16 n2, .int .u32 n3] rfl rfl hth.out infoT (tup_one _ _ _) ?_; (try rw [show (#[.int .u16 n1, .int .u16 n2, .int .u32 n3] : Array Value).toList = [.int .u16 n1, .int .u16 n2, .int .u32 n3] from rfl]); rw [← hx3.out]; have mS : Kpt True := ⟨trivial⟩)) | (go_at_call 23; have hmm := m2; go_must (refine (N3.out).mono ?_; rintro e w9 ⟨rfl, e9⟩; subst e9; clear hmm m2)) | (go_at_call 23; have hmm := m1; go_must (refine (N2.out).mono ?_; rintro e w9 ⟨rfl, e9⟩; subst e9; clear hmm m1; have m2 : Kpt True := ⟨trivial⟩)) | (go_at_call 23; have hmm := m0; go_must (refine (N1.out).mono ?_; rintro e w9 ⟨rfl, e9⟩; subst e9; clear hmm m0; have m1 : Kpt True := ⟨trivial⟩)) | (at_builtin; have hmm := mS; go_must (refine wpList_append_blk rfl (.tmp 55) (.tmp 57) rfl w.heap.size v k (unL true zs k) (unB true zs k) hkK.out x3.heap.size rfl rfl hoA.out (hrn.out _) (by omega) hbA.out.size ?_; intro v' x5 ho5 hg5; have hb5 : Kpt (Below w.heap.size w x5) := ⟨hbA.out.grown hg5.out hbA.out.size (fun z hz => (hown.out z hz).1)⟩; clear hmm hg5)) | (refine (?_ : wpList _ _ _ (Oper.mk (some 56) (Op.load 76 (.tmp 9)) _ _ _ _ :: _) _ _); go_must (refine wpList_load_bx rfl 76 (.tmp 9) rfl Bn V rfl hX3.out _ Try.underlying76 rfl hin.out ?_)))
          go_roundw
          case rel => exact ⟨k + 1, _, by omega, rfl, by rw [hq1.out]; go_num, ⟨by rw [hsn.out]; exact ho5.out⟩, hb5⟩
          case measure => simp [intOf]; omega
    · obtain rfl : k = m := by omega
      have el : ¬ ((k * 24 : Nat) : Int) < n := by have := hm.out; omega
      go_wp2
      go_ret2
      exact ⟨v, rfl, ho.out, hB.out⟩

theorem runpack_no_false (a : Option Addr) (n cp : Nat) (w : World) (hn : n ≤ maxLen) (hm : n % 16 ≠ 0) :
    Calls Try.prog 16 #[.slice a n cp, .bool false] w fun e w' => e = .returned (.tuple #[.slice none 0 0, .bool false]) ∧ w' = w := by
  unfold maxLen at hn
  have e1 : ((n : Int) % 16 != 0) = true := by simp; omega
  go_enter Try.func16, Try.ntmps16
  go_wp2
  go_ret2
  exact ⟨rfl, rfl⟩

set_option maxRecDepth 100000 in
set_option maxHeartbeats 4000000 in
theorem runpack_false (a : Option Addr) (n cp m : Nat) (zs : List Int) (w : World) (hr : RdAt w (.slice a n cp) zs) (hl : zs.length = n) (hm : n = m * 16) (hb : Bytes zs) (hn : m * 24 ≤ 140737488355328) :
    Calls Try.prog 16 #[.slice a n cp, .bool false] w fun e w' => ∃ v, e = .returned (.tuple #[v, .bool true]) ∧ w'.ownsRow w.heap.size 76 19 v m (unL false zs m) ∧ Below w.heap.size w w' := by
  have hlz : zs.length = m * sz false := by rw [hl, hm]; rfl
  have e1 : ((n : Int) % 16 != 0) = false := by simp; omega
  have hn63 : (n : Int) ≤ 140737488355328 := by omega
  have hok := Kpt.mk (fun k hk => unB_ok false zs k m hb hlz hk)
  have hcell : Kpt (∀ j, j < n → ∃ b off, a = some ⟨b, off, none⟩ ∧ b < w.heap.size ∧ ∀ j, j < n → w.cell? ⟨b, off + j, none⟩ = some (.int .u8 (zs.getD j 0))) := ⟨fun j hj => by
    have hlt := fun g hg => hr.lt (g := g) (by omega) hg
    obtain ⟨a', c', e, h1, h2, h3⟩ := hr
    simp only [Value.slice.injEq] at e
    obtain ⟨rfl, _, _⟩ := e
    rcases h3 with h3 | ⟨b, off, rfl, h3⟩
    · omega
    · refine ⟨b, off, rfl, hlt b rfl, fun j hj => h3 j _ ?_⟩
      rw [cels, List.getElem?_map, List.getElem?_eq_getElem (by omega), List.getD_eq_getElem?_getD, List.getElem?_eq_getElem (by omega)]
      rfl⟩
  replace hlz := Kpt.mk hlz
  replace hl := Kpt.mk hl
  replace hb := Kpt.mk hb
  replace hm := Kpt.mk hm
  clear hr
  go_enter Try.func16, Try.ntmps16
  go_wp2_with fail
  go_loopw [7, 8] (fun s t wr => ∃ (k : Nat) (v : Value), k ≤ m ∧ v = s ∧ t = .int .i64 ((k * 16 : Nat) : Int) ∧ Kpt (wr.ownsRow w.heap.size 76 19 v k (unL false zs k)) ∧ Kpt (Below w.heap.size w wr)) (fun _ t _ => n - (intOf t).toNat)
  case atStart => exact ⟨0, _, Nat.zero_le _, rfl, rfl, ⟨World.ownsRow_nil _ _ _ _⟩, ⟨Below.refl _ _⟩⟩
  case round =>
    obtain ⟨k, v, hk, rfl, rfl, ho, hB⟩ := hrel
    by_cases hlt : k < m
    · obtain ⟨b, off, rfl, hbl, hsrc⟩ := hcell.out (k * 16) (by have := hm.out; omega)
      obtain ⟨q, hq⟩ : ∃ q, q = k * 16 := ⟨_, rfl⟩
      have hqn : q + 16 ≤ n := by have := hm.out; omega
      have el : (q : Int) < n := by omega
      have hq1 : Kpt ((k + 1) * 16 = q + 16) := ⟨by omega⟩
      rw [← hq]
      have hkK := hok.out k hlt
      obtain ⟨D, hD⟩ : ∃ D, D = (unB false zs k).d := ⟨_, rfl⟩
      have hDl : Kpt (D.length = 16) := ⟨by rw [hD]; exact hkK.len⟩
      have hDb : Kpt (∀ x ∈ D, 0 ≤ x ∧ x ≤ 255) := ⟨by rw [hD]; exact hkK.byte⟩
      have hDe : Kpt (∀ i, i < 16 → D.getD i 0 = zs.getD (q + i) 0) := ⟨fun i hi => by
        rw [hD, hq]
        simp only [unB, if_true, Bool.false_eq_true, if_false]
        simp [List.getD_eq_getElem?_getD, List.getElem?_take, List.getElem?_drop, hi]⟩
      obtain ⟨Bn, hBn⟩ : ∃ B, B = wr.heap.size := ⟨_, rfl⟩
      have hX0 : Kpt (Bx (wr.alloc (.cells #[.int .u8 0, .int .u8 0, .int .u8 0, .int .u8 0, .int .u8 0, .int .u8 0, .int .u8 0, .int .u8 0, .int .u8 0, .int .u8 0, .int .u8 0, .int .u8 0, .int .u8 0, .int .u8 0, .int .u8 0, .int .u8 0, .int .u16 0, .int .u16 0, .int .u32 0] 76)) Bn (Bk.vals (part D 0))) := ⟨by rw [hBn]; exact bx_new wr _ 76⟩
      have hO0 : Kpt ((wr.alloc (.cells #[.int .u8 0, .int .u8 0, .int .u8 0, .int .u8 0, .int .u8 0, .int .u8 0, .int .u8 0, .int .u8 0, .int .u8 0, .int .u8 0, .int .u8 0, .int .u8 0, .int .u8 0, .int .u8 0, .int .u8 0, .int .u8 0, .int .u16 0, .int .u16 0, .int .u32 0] 76)).ownsRow w.heap.size 76 19 v k (unL false zs k)) := ⟨ownB_of_block ho.out (fun g hg => Below.heap_alloc _ _ _ (World.ownsRow.lt ho.out g hg).2)⟩
      have hb0 : Kpt (Below w.heap.size w (wr.alloc (.cells #[.int .u8 0, .int .u8 0, .int .u8 0, .int .u8 0, .int .u8 0, .int .u8 0, .int .u8 0, .int .u8 0, .int .u8 0, .int .u8 0, .int .u8 0, .int .u8 0, .int .u8 0, .int .u8 0, .int .u8 0, .int .u8 0, .int .u16 0, .int .u16 0, .int .u32 0] 76))) := ⟨hB.out.alloc hB.out.size _⟩
      have hBlo : w.heap.size ≤ Bn := by rw [hBn]; exact hB.out.size
      have hown : Kpt (∀ g, v.ownBlock = some g → w.heap.size ≤ g ∧ g < Bn) := ⟨fun g hg => by rw [hBn]; exact World.ownsRow.lt ho.out g hg⟩
      have hsw : Kpt (∀ W, Below w.heap.size w W → ∀ j, j < n → W.cell? ⟨b, off + j, none⟩ = some (.int .u8 (zs.getD j 0))) := ⟨fun W hW j hj => (hW.cell (p := ⟨b, off + j, none⟩) hbl).trans (hsrc j hj)⟩
      have hsn : Kpt (unL false zs (k + 1) = unL false zs k ++ (unB false zs k).cs) := ⟨rfl⟩
      replace hq := Kpt.mk hq
      replace hD := Kpt.mk hD
      replace hkK := Kpt.mk hkK
      clear ho hB hsrc
      go_wp2_with fail
      rw [← hBn]
      replace hBn := Kpt.mk hBn
      go_loopw [10] (fun t wr => ∃ i : Nat, i ≤ 16 ∧ t = .int .i64 i ∧ Kpt (Bx wr Bn (Bk.vals (part D i))) ∧ Kpt (wr.ownsRow w.heap.size 76 19 v k (unL false zs k)) ∧ Kpt (Below w.heap.size w wr)) (fun t _ => 16 - (intOf t).toNat)
      case atStart => exact ⟨0, Nat.zero_le _, rfl, hX0, hO0, hb0⟩
      case round =>
        obtain ⟨i, hi, rfl, hX, hO, hBe⟩ := hrel
        clear hX0 hO0 hb0
        have hbB : b < Bn := Nat.lt_of_lt_of_le hbl hBlo
        by_cases hi16 : i < 16
        · have hx := hsw.out _ hBe.out (q + i) (by omega)
          have hxd := hDe.out i hi16
          rw [← hxd] at hx
          have hst := Kpt.mk (bx_turn (part D i) (part_ok D i hDl.out hDb.out (by omega)) hX.out i hi16 (D.getD i 0))
          rw [part_step D i hDl.out hi16] at hst
          have hcx := bx_cellP (part D i) (part_ok D i hDl.out hDb.out (by omega)) hX.out i hi16
          have hfx := hX.out.free i
          obtain ⟨x, hxx⟩ : ∃ x, x = D.getD i 0 := ⟨_, rfl⟩
          rw [← hxx] at hx hst
          have hO2 : Kpt ((wr.setCell ⟨Bn, i, none⟩ (.int .u8 x)).ownsRow w.heap.size 76 19 v k (unL false zs k)) := ⟨ownB_of_block hO.out (fun g hg => Below.heap_setCell _ _ _ _ (fun e => by have := (hown.out g hg).2; simp at e; omega))⟩
          have hb2 : Kpt (Below w.heap.size w (wr.setCell ⟨Bn, i, none⟩ (.int .u8 x))) := ⟨hBe.out.setCell hBlo _⟩
          obtain ⟨y, hy⟩ : ∃ y, y = (part D i).d.getD i 0 := ⟨_, rfl⟩
          rw [← hy] at hcx
          clear hxx hy hX hO hBe hxd
          go_wp2
          go_roundw
          case rel => exact ⟨i + 1, by omega, by go_num, hst, hO2, hb2⟩
          case measure => simp [intOf]; omega
        · obtain rfl : i = 16 := by omega
          have hpf : Kpt (Bk.vals (part D 16) = (cels D ++ [Value.int .u16 0, Value.int .u16 0, Value.int .u32 0]).toArray) := ⟨by rw [Bk.vals, Bk.cs, part_full D hDl.out]; rfl⟩
          rw [hpf.out] at hX
          have hue : Kpt ((unB false zs k).cs = cels D ++ [.int .u16 0, .int .u16 0, .int .u32 0]) := ⟨by rw [Bk.cs, hD.out]; simp [unB]⟩
          rw [← hue.out] at hX
          have mS : Kpt True := ⟨trivial⟩
          have hin : Kpt ((Try.prog.info? 76).map (·.size) = some (unB false zs k).cs.toArray.size) := ⟨by rw [List.size_toArray, cs_len _ hkK.out]; exact infoB⟩
          obtain ⟨V, hV⟩ : ∃ V, V = (unB false zs k).cs.toArray := ⟨_, rfl⟩
          have hVl : Kpt (V.toList = (unB false zs k).cs) := ⟨by rw [hV]⟩
          have hVs : V.size = 19 := by rw [hV, List.size_toArray, cs_len _ hkK.out]
          have hfold := fold19 V hVs
          rw [← hV] at hin hX
          have hrn : Kpt (∀ W : World, (W.alloc (.cells V 76)).rangeAt W.heap.size 0 (unB false zs k).cs) := ⟨fun W => by rw [← hVl.out]; exact (bx_new W V 76).range⟩
          have hoA : Kpt ((wr.alloc (.cells V 76)).ownsRow w.heap.size 76 19 v k (unL false zs k)) := ⟨ownB_of_block hO.out (fun g hg => Below.heap_alloc _ _ _ (World.ownsRow.lt hO.out g hg).2)⟩
          have hbA : Kpt (Below w.heap.size w (wr.alloc (.cells V 76))) := ⟨hBe.out.alloc hBe.out.size _⟩
          clear hV
          go_wp2_with (first | (at_builtin; have hmm := mS; go_must (refine wpList_append_blk rfl (.tmp 55) (.tmp 57) rfl w.heap.size v k (unL false zs k) (unB false zs k) hkK.out wr.heap.size rfl rfl hoA.out (hrn.out _) (by omega) hbA.out.size ?_; intro v' x5 ho5 hg5; have hb5 : Kpt (Below w.heap.size w x5) := ⟨hbA.out.grown hg5.out hbA.out.size (fun z hz => (hown.out z hz).1)⟩; clear hmm hg5)) | (refine (?_ : wpList _ _ _ (Oper.mk (some 56) (Op.load 76 (.tmp 9)) _ _ _ _ :: _) _ _); go_must (refine wpList_load_bx rfl 76 (.tmp 9) rfl Bn V rfl hX.out _ Try.underlying76 rfl hin.out ?_)))
          go_roundw
          case rel => exact ⟨k + 1, _, by omega, rfl, by rw [hq1.out]; go_num, ⟨by rw [hsn.out]; exact ho5.out⟩, hb5⟩
          case measure => simp [intOf]; omega
    · obtain rfl : k = m := by omega
      have el : ¬ ((k * 16 : Nat) : Int) < n := by have := hm.out; omega
      go_wp2
      go_ret2
      exact ⟨v, rfl, ho.out, hB.out⟩
end Go.Proofs.Ytklboieemljmiaa
