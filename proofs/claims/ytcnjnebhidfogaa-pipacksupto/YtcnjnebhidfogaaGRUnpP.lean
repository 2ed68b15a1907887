/-
  The document's Unpack.
-/
import Derived.Test.YtcnjnebhidfogaaGRPack
import Derived.Test.YtcnjnebhidfogaaGGet
import Derived.Test.YtcnjnebhidfogaaGHonP
namespace Go.Proofs.Ytcnjnebhidfogaa
open Go.RowKit
set_option linter.unusedVariables false
set_option linter.unusedSimpArgs false

theorem rnum_any (b off len cap i n : Nat) (zs : List Int) (w : World) (hl : len ≤ maxLen) (hn1 : 1 ≤ n) (hn2 : n ≤ 8) (hi : i + n ≤ len) (hb : B.Bytes zs)
    (hc : ∀ j, j < len → w.cell? ⟨b, off + j, none⟩ = some (.int .u8 (zs.getD j 0))) :
    Calls Try.prog 28 #[.slice (some ⟨b, off, none⟩) len cap, .int .i64 i, .int .i64 n] w fun e w' => e = .returned (.int .u64 (B.num zs i n)) ∧ w' = w := by
  have h := B.rget_ok b off len cap i n zs w hl hn1 hn2 hi hb hc
  go_enter Try.func28, Try.ntmps28
  go_wp2_with (go_at_call 32; refine h.mono ?_; rintro e w' ⟨rfl, rfl⟩)
  go_ret
  exact ⟨rfl, rfl⟩
theorem bx_set3 {w : World} {b : Nat} {ds : List Int} {x y z x' y' z' : Value} (h : Bx w b (cels ds ++ [x, y, z]).toArray) (hd : ds.length = 16) : Bx (w.setCells b 16 [x', y', z']) b (cels ds ++ [x', y', z']).toArray := by
  have hl : (cels ds).length = 16 := by simp [hd]
  have hg := grown_setCells b [x', y', z'] 16 w
  refine ⟨Nat.lt_of_lt_of_le h.lt hg.size, fun j hj => ?_, fun j => ?_⟩
  · have hj19 : j < 19 := by simpa [hl] using hj
    by_cases h16 : j < 16
    · rw [World.cell?_setCells_out b [x', y', z'] 16 w ⟨b, j, none⟩ (fun _ _ => .inl h16), h.cells j (by simp [hl]; omega), List.getElem?_toArray, List.getElem?_toArray, List.getElem?_append_left (by omega), List.getElem?_append_left (by omega)]
    · have hin := World.cell?_setCells_in b [x', y', z'] 16 w (fun i hi => by
        have hi3 : i < 3 := by simpa using hi
        rw [h.cells (16 + i) (by simp [hl]; omega), List.getElem?_toArray, List.getElem?_append_right (by omega), hl, List.getElem?_eq_getElem (by simp; omega)]
        rfl) (j - 16) (by simp; omega)
      rw [show 16 + (j - 16) = j from by omega] at hin
      rw [hin, List.getElem?_toArray, List.getElem?_append_right (by omega), hl, List.getElem?_eq_getElem (by simp; omega)]
  · rw [World.frozen?_setCells]; exact h.free j
def part (D : List Int) (i : Nat) : Bk := ⟨D.take i ++ List.replicate (16 - i) 0, 0, 0, 0⟩
theorem part_ok (D : List Int) (i : Nat) (hD : D.length = 16) (hb : ∀ x ∈ D, 0 ≤ x ∧ x ≤ 255) (hi : i ≤ 16) : (part D i).ok := by
  refine ⟨?_, fun x hx => ?_, by simp [part], by simp [part], by simp [part]⟩
  · simp [part, hD]; omega
  · simp only [part, List.mem_append, List.mem_replicate] at hx
    rcases hx with hx | ⟨_, rfl⟩
    · exact hb x (List.mem_of_mem_take hx)
    · exact ⟨by decide, by decide⟩
theorem part_step (D : List Int) (i : Nat) (hD : D.length = 16) (hi : i < 16) : (part D i).d.set i (D.getD i 0) = (part D (i + 1)).d := by
  simp only [part]
  have hl : (D.take i).length = i := by simp [hD]; omega
  rw [List.set_append, if_neg (by omega), hl, Nat.sub_self, show 16 - i = (16 - (i + 1)) + 1 by omega, List.replicate_succ, List.set_cons_zero, take_step D i (by omega), List.append_assoc]
  rfl
theorem part_full (D : List Int) (hD : D.length = 16) : (part D 16).d = D := by simp [part]; exact List.take_of_length_le (by omega)
/-- A block more behind a row of one's own. -/
theorem wpList_append_blk {w : World} {ops : Array Oper} {rest : List Oper} {o : Oper} {a : Act} {Q : Exit → Act → World → Prop} (hgd : o.guard = none) (d s : Operand)
    (ho : o.op = .call { callee := .builtin .append, args := #[d, s], argTypes := #[39, 39] })
    (base : Nat) (v : Value) (k : Nat) (xs : List Value) (b : Bk) (hok : b.ok) (g : Nat) (hd : a.eval d = v) (hs : a.eval s = .slice (some ⟨g, 0, none⟩) 1 1) (hown : w.ownsRow base 33 19 v k xs) (hr : w.rangeAt g 0 b.cs) (hlen : (k + 1) * 24 ≤ 140737488355328) (hb : base ≤ w.heap.size)
    (h : ∀ v' w', Kpt (w'.ownsRow base 33 19 v' (k + 1) (xs ++ b.cs)) → Kpt (w.grownBy w' v.ownBlock) → wpList Try.prog ops Q rest (a.put o.dst v') w') : wpList Try.prog ops Q (o :: rest) a w := by
  obtain ⟨i0, hi0, hz0, hz1, hz2⟩ := info_parts infoB3
  refine wpList_append_own _ hgd d s 39 ho base 33 i0 (.agg zeroB) 19 24 Try.underlying39 hi0 hz0 hz1 hz2 rfl (by decide) v k xs hd hown ⟨g, 0, none⟩ 1 1 b.cs hs (by rw [cs_len b hok]) (fun j u hu => by rw [Go.WideShapes.add_plain]; exact hr j u hu) (fun u hu => ?_) (by unfold maxLen; omega) hlen hb ?_
  · have h1 := Bk.one b
    rw [Array.all_eq_true] at h1
    obtain ⟨i, hi, rfl⟩ := List.getElem_of_mem hu
    have := h1 i (by simpa [Bk.vals] using hi)
    simpa [Bk.vals] using this
  · intro v' w' h2 h3 _
    exact h v' w' ⟨h2⟩ ⟨h3⟩
theorem ownB_of_block {w w' : World} {b n : Nat} {v : Value} {zs : List Value} (h : w.ownsRow b 33 19 v n zs) (hb : ∀ g, v.ownBlock = some g → w'.heap[g]? = w.heap[g]?) : w'.ownsRow b 33 19 v n zs := by
  refine ⟨h.1, ?_⟩
  rcases h.2 with hn | ⟨g, cap, cur, rfl, h0, hgg, rest⟩
  · exact .inl hn
  · exact .inr ⟨g, cap, cur, rfl, h0, (hb g rfl).trans hgg, rest⟩
theorem fold19 (V : Array Value) (h : V.size = 19) : Array.foldl (fun (cs : Array Value) (x : Value × Nat) => cs.setIfInBounds x.snd x.fst) #[.int .u8 0, .int .u8 0, .int .u8 0, .int .u8 0, .int .u8 0, .int .u8 0, .int .u8 0, .int .u8 0, .int .u8 0, .int .u8 0, .int .u8 0, .int .u8 0, .int .u8 0, .int .u8 0, .int .u8 0, .int .u8 0, .int .u16 0, .int .u16 0, .int .u32 0] V.zipIdx 0 19 = V := by
  obtain ⟨l⟩ := V
  obtain ⟨c0, c1, c2, c3, c4, c5, c6, c7, c8, c9, c10, c11, c12, c13, c14, c15, t0, t1, t2, rfl⟩ := list19 l (by simpa using h)
  simp
end Go.Proofs.Ytcnjnebhidfogaa
