/-
  text: rows of pairs that are read; Find.
-/
import Derived.Test.YtplifodddfjhdaaGreatDoorXBox
namespace Go.Proofs.YtplifodddfjhdaaGreatDoor
open Go.RowKit
set_option linter.unusedVariables false
set_option linter.unusedSimpArgs false

/-- A pair's cells. -/
def pcs (p : ByteArray × ByteArray) : List Value := [.string p.1, .string p.2]
/-- Pairs that can be read. -/
def PsAt (w : World) (v : Value) (ps : List (ByteArray × ByteArray)) : Prop :=
  ∃ a c, v = .slice a ps.length c ∧ (a = none → ps.length = 0 ∧ c = 0) ∧ ps.length ≤ c ∧ (ps.length = 0 ∨ ∃ b off, a = some ⟨b, off, none⟩ ∧ b < w.heap.size ∧ ∀ j p, ps[j]? = some p → w.rangeAt b (off + j * 2) (pcs p))
theorem PsAt.bel {w w' : World} {v : Value} {ps : List (ByteArray × ByteArray)} (h : PsAt w v ps) (hb : Below w.heap.size w w') : PsAt w' v ps := by
  obtain ⟨a, c, rfl, h1, h2, h3⟩ := h
  refine ⟨a, c, rfl, h1, h2, ?_⟩
  rcases h3 with h3 | ⟨b, off, rfl, hlt, hc⟩
  · exact .inl h3
  · refine .inr ⟨b, off, rfl, Nat.lt_of_lt_of_le hlt hb.size, fun j p hp i u hu => ?_⟩
    rw [hb.cell (p := ⟨b, off + j * 2 + i, none⟩) hlt]
    exact hc j p hp i u hu
theorem ps_nil (w : World) : PsAt w (.slice none 0 0) [] := ⟨none, 0, rfl, fun _ => ⟨rfl, rfl⟩, Nat.le_refl _, .inl rfl⟩
theorem PsAt.take {w : World} {a : Option Addr} {n c : Nat} {ps : List (ByteArray × ByteArray)} (h : PsAt w (.slice a n c) ps) (k : Nat) (hk : k ≤ n) : PsAt w (.slice a k c) (ps.take k) := by
  obtain ⟨a', c', hv, h1, h2, h3⟩ := h
  simp only [Value.slice.injEq] at hv
  obtain ⟨rfl, rfl, rfl⟩ := hv
  have hl : (ps.take k).length = k := by rw [List.length_take]; omega
  refine ⟨a, c, by rw [hl], (fun h => ⟨by have := (h1 h).1; omega, (h1 h).2⟩), by omega, ?_⟩
  rcases h3 with h3 | ⟨b, off, rfl, hlt, hc⟩
  · exact .inl (by omega)
  · refine .inr ⟨b, off, rfl, hlt, fun j p hp => hc j p ?_⟩
    rw [List.getElem?_take] at hp
    by_cases hj : j < k
    · rw [if_pos hj] at hp; exact hp
    · rw [if_neg hj] at hp; cases hp
theorem sizePr : (Tryz.prog.info? 41).map (·.size) = some 2 := by kernel_rfl
theorem zeroPr : (Tryz.prog.info? 41).map (fun i => i.zero) = some (some (.agg #[.string ⟨#[]⟩, .string ⟨#[]⟩])) := by kernel_rfl
theorem bx_two {w : World} {b : Nat} {x y : Value} (h : Bx w b #[x, y]) : w.cell? ⟨b, 0, none⟩ = some x ∧ w.cell? ⟨b, 1, none⟩ = some y := ⟨h.cells 0 (by simp), h.cells 1 (by simp)⟩
theorem toList_ne {a b : ByteArray} (h : ¬ a = b) : (a.toList == b.toList) = false := beq_eq_false_iff_ne.2 fun e => h (by
  rw [ByteArray.toList_eq, ByteArray.toList_eq] at e
  obtain ⟨d1⟩ := a
  obtain ⟨d2⟩ := b
  congr
  exact Array.toList_inj.1 e)

theorem pr_one (K V : ByteArray) : (#[Value.string K, Value.string V].all (·.oneCell')) = true := by simp [Value.oneCell']

/-- The value of the first pair with a key. -/
def findP : List (ByteArray × ByteArray) → ByteArray → Option ByteArray
  | [], _ => none
  | p :: l, x => if p.1 = x then some p.2 else findP l x
theorem findP_skip (x : ByteArray) : ∀ (ps : List (ByteArray × ByteArray)) (k : Nat), (∀ j p, j < k → ps[j]? = some p → ¬ p.1 = x) → findP ps x = findP (ps.drop k) x
  | ps, 0, _ => by simp
  | [], k + 1, _ => by simp
  | p :: l, k + 1, h => by
    rw [findP, if_neg (h 0 p (by omega) rfl), List.drop_succ_cons]
    exact findP_skip x l k (fun j q hj hq => h (j + 1) q (by omega) hq)
theorem findP_hit (x : ByteArray) (ps : List (ByteArray × ByteArray)) (k : Nat) (p : ByteArray × ByteArray) (hk : ps[k]? = some p) (hx : p.1 = x) (h : ∀ j q, j < k → ps[j]? = some q → ¬ q.1 = x) : findP ps x = some p.2 := by
  rw [findP_skip x ps k h]
  obtain ⟨hlt, rfl⟩ := List.getElem?_eq_some_iff.1 hk
  rw [List.drop_eq_getElem_cons hlt, findP, if_pos hx]
theorem findP_none (x : ByteArray) (ps : List (ByteArray × ByteArray)) (h : ∀ j q, j < ps.length → ps[j]? = some q → ¬ q.1 = x) : findP ps x = none := by
  rw [findP_skip x ps ps.length h, List.drop_length]
  rfl
def findV (o : Option ByteArray) : ByteArray := o.getD ⟨#[]⟩

set_option maxRecDepth 100000 in
set_option maxHeartbeats 1000000 in
theorem find_any (a : Option Addr) (n c : Nat) (ps : List (ByteArray × ByteArray)) (x : ByteArray) (w : World) (hr : PsAt w (.slice a n c) ps) (hn : n ≤ maxLen) :
    Calls Tryz.prog 39 #[.slice a n c, .string x] w fun e w' => e = .returned (.tuple #[.string (findV (findP ps x)), .bool (findP ps x).isSome]) ∧ Below w.heap.size w w' := by
  have hl : ps.length = n := by obtain ⟨a', c', hv, _⟩ := hr; simp only [Value.slice.injEq] at hv; exact hv.2.1.symm
  have hrB : Kpt (∀ W, Below w.heap.size w W → PsAt W (.slice a n c) ps) := ⟨fun W h => hr.bel h⟩
  unfold maxLen at hn
  have hl' := Kpt.mk hl
  clear hr hl
  go_enter Tryz.func39, Tryz.ntmps39
  go_wp2
  go_loopw [10] (fun t wr => ∃ k : Nat, k ≤ n ∧ t = .int .i64 k ∧ Kpt (Below w.heap.size w wr) ∧ Kpt (∀ j p, j < k → ps[j]? = some p → ¬ p.1 = x)) (fun t _ => n - (intOf t).toNat)
  case atStart => exact ⟨0, by omega, rfl, ⟨Below.refl _ _⟩, ⟨fun j p hj => by omega⟩⟩
  case round =>
    obtain ⟨k, hk, rfl, hbk, hno⟩ := hrel
    by_cases hlt : k < n
    · have hltI : (k : Int) < n := by omega
      obtain ⟨p, hp⟩ : ∃ p, ps[k]? = some p := ⟨_, List.getElem?_eq_getElem (by rw [hl'.out]; exact hlt)⟩
      obtain ⟨b, off, rfl, hcell⟩ : ∃ b off, a = some ⟨b, off, none⟩ ∧ Kpt (wr.rangeAt b (off + k * 2) (pcs p)) := by
        obtain ⟨a', c', hv, h1, h2, h3⟩ := hrB.out wr hbk.out
        simp only [Value.slice.injEq] at hv
        obtain ⟨rfl, -, -⟩ := hv
        rcases h3 with h3 | ⟨b, off, rfl, -, hc⟩
        · have := hl'.out; omega
        · exact ⟨b, off, rfl, ⟨hc k p hp⟩⟩
      have hp' := Kpt.mk hp
      clear hp
      obtain ⟨K, V⟩ := p
      by_cases hKx : K = x
      · subst hKx
        have hf := Kpt.mk (findP_hit K ps k (K, V) hp'.out rfl hno.out)
        go_wp2_with (first
          | (refine (?_ : wpList _ _ _ (Oper.mk none (Op.store _ _ _) _ _ _ _ :: _) _ _); go_must (refine wpList_store_bx rfl 41 (.tmp 7) (.tmp 13) rfl B1 #[.string ⟨#[]⟩, .string ⟨#[]⟩] #[.string K, .string V] rfl rfl hX1.out rfl sizePr (pr_one K V) rfl ?_; intro w2 hX2 hg2; have hb2 : Kpt (Below w.heap.size w w2) := ⟨hb1.out.grown hg2 hb1.out.size (fun k h => by cases h; exact hB1.out)⟩; have hcc := bx_two hX2; clear hX2 hg2))
          | (refine wpList_var rfl 41 rfl #[.string ⟨#[]⟩, .string ⟨#[]⟩] zeroPr ?_; intro B1 w1 hB1 hX1 hbe1; have hb1 : Kpt (Below w.heap.size w w1) := ⟨hbk.out.trans (hbe1.mono hbk.out.size)⟩; replace hB1 : Kpt (w.heap.size ≤ B1) := ⟨Nat.le_trans hbk.out.size hB1⟩; replace hX1 := Kpt.mk hX1; clear hbe1)
          | (refine wpList_load_mid rfl 41 (.tmp 12) rfl b (off + k * 2) rfl [.string K, .string V] _ hcell.out Tryz.underlying41 rfl sizePr ?_))
        go_ret2
        exact ⟨by rw [hf.out]; rfl, hb2.out⟩
      · have hne := toList_ne hKx
        have hno2 : Kpt (∀ j p, j < k + 1 → ps[j]? = some p → ¬ p.1 = x) := ⟨fun j p hj hpj => by
          by_cases hjk : j < k
          · exact hno.out j p hjk hpj
          · obtain rfl : j = k := by omega
            rw [hp'.out] at hpj
            cases hpj
            exact hKx⟩
        clear hKx
        go_wp2_with (first
          | (refine (?_ : wpList _ _ _ (Oper.mk none (Op.store _ _ _) _ _ _ _ :: _) _ _); go_must (refine wpList_store_bx rfl 41 (.tmp 7) (.tmp 13) rfl B1 #[.string ⟨#[]⟩, .string ⟨#[]⟩] #[.string K, .string V] rfl rfl hX1.out rfl sizePr (pr_one K V) rfl ?_; intro w2 hX2 hg2; have hb2 : Kpt (Below w.heap.size w w2) := ⟨hb1.out.grown hg2 hb1.out.size (fun k h => by cases h; exact hB1.out)⟩; have hcc := bx_two hX2; clear hX2 hg2))
          | (refine wpList_var rfl 41 rfl #[.string ⟨#[]⟩, .string ⟨#[]⟩] zeroPr ?_; intro B1 w1 hB1 hX1 hbe1; have hb1 : Kpt (Below w.heap.size w w1) := ⟨hbk.out.trans (hbe1.mono hbk.out.size)⟩; replace hB1 : Kpt (w.heap.size ≤ B1) := ⟨Nat.le_trans hbk.out.size hB1⟩; replace hX1 := Kpt.mk hX1; clear hbe1)
          | (refine wpList_load_mid rfl 41 (.tmp 12) rfl b (off + k * 2) rfl [.string K, .string V] _ hcell.out Tryz.underlying41 rfl sizePr ?_))
        go_roundw
        case rel => exact ⟨k + 1, by omega, by go_num, hb2, hno2⟩
        case measure => simp [intOf]; omega
    · have hltI : ¬ (k : Int) < n := by omega
      have hf := Kpt.mk (findP_none x ps (fun j q hj => hno.out j q (by have := hl'.out; omega)))
      go_wp2
      go_ret2
      exact ⟨by rw [hf.out]; rfl, hbk.out⟩
end Go.Proofs.YtplifodddfjhdaaGreatDoor
