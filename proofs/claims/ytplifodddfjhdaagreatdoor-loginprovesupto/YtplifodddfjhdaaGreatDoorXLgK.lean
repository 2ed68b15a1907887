/-
  login: keys that have no answer.
-/
import Derived.Test.YtplifodddfjhdaaGreatDoorXLgF
namespace Go.Proofs.YtplifodddfjhdaaGreatDoor
open Go.RowKit
set_option linter.unusedVariables false
set_option linter.unusedSimpArgs false

/-- A key that is looked for, beside having no answer. -/
def ign (K : ByteArray) : Prop := K = kIni ∨ K = kSes ∨ K = kTgt
theorem app_nil (w : World) (ty : TypeId) : (Builtin.append_ #[37, 37] ty #[.slice none 0 0, .slice none 0 0]).run Tryz.prog w = .ok (.slice none 0 0) w := by
  have hs := sizePr
  cases hi : Tryz.prog.info? 41 with
  | none => rw [hi] at hs; cases hs
  | some i => simp [Builtin.append_, run_underlying Tryz.underlying37, sizeOf, typeInfo, hi, storeCells, Builtin.lenOf, Builtin.firstCells, loadCells]

set_option maxRecDepth 100000 in
set_option maxHeartbeats 2000000 in
theorem akey_ign (L : Nat) (K V rs : ByteArray) (hK : ign K) (w : World) :
    Calls Tryz.prog 40 #[.pointer (some ⟨L, 0, none⟩), .agg #[.string K, .string V], .string rs] w fun e w' => e = .returned (.tuple #[.slice none 0 0, .bool true]) ∧ Below w.heap.size w w' := by
  rcases hK with rfl | rfl | rfl
  all_goals
    (try unfold kIni); (try unfold kSes); (try unfold kTgt)
    go_enter Tryz.func40, Tryz.ntmps40
    go_wp2
    go_ret2
    exact ⟨rfl, (Below.refl _ _).alloc (Nat.le_refl _) _⟩

set_option maxRecDepth 100000 in
set_option maxHeartbeats 2000000 in
theorem akeys_ign (L : Nat) (a : Option Addr) (n c : Nat) (ps : List (ByteArray × ByteArray)) (w : World) (hr : PsAt w (.slice a n c) ps) (hn : n ≤ maxLen) (hig : ∀ p ∈ ps, ign p.1) :
    Calls Tryz.prog 29 #[.pointer (some ⟨L, 0, none⟩), .slice a n c] w fun e w' => e = .returned (.tuple #[.slice none 0 0, .bool true]) ∧ Below w.heap.size w w' := by
  have hl : ps.length = n := by obtain ⟨a', c', hv, _⟩ := hr; simp only [Value.slice.injEq] at hv; exact hv.2.1.symm
  have hrB : Kpt (∀ W, Below w.heap.size w W → PsAt W (.slice a n c) ps) := ⟨fun W h => hr.bel h⟩
  have hf := Kpt.mk (find_any a n c ps kRsp w hr hn)
  unfold kRsp at hf
  obtain ⟨rs, hrs⟩ : ∃ x, x = findV (findP ps ⟨#[67, 72, 65, 80, 95, 82]⟩) := ⟨_, rfl⟩
  obtain ⟨rb, hrb⟩ : ∃ x, x = (findP ps ⟨#[67, 72, 65, 80, 95, 82]⟩).isSome := ⟨_, rfl⟩
  rw [← hrs, ← hrb] at hf
  have kap := app_nil
  unfold maxLen at hn
  have hl' := Kpt.mk hl
  have hig' := Kpt.mk hig
  clear hr hl hig hrs hrb
  go_enter Tryz.func29, Tryz.ntmps29
  go_wp2_with (go_at_call 39; go_must (refine hf.out.mono ?_; rintro e w1 ⟨rfl, hb1⟩; replace hb1 := Kpt.mk hb1))
  go_loopw [8, 20] (fun t8 t wr => t8 = .slice none 0 0 ∧ ∃ k : Nat, k ≤ n ∧ t = .int .i64 k ∧ Kpt (Below w.heap.size w wr)) (fun _ t _ => n - (intOf t).toNat)
  case atStart => exact ⟨rfl, 0, by omega, rfl, hb1⟩
  case round =>
    obtain ⟨rfl, k, hk, rfl, hbk⟩ := hrel
    clear hb1
    by_cases hlt : k < n
    · have hltI : (k : Int) < n := by omega
      obtain ⟨p, hp⟩ : ∃ p, ps[k]? = some p := ⟨_, List.getElem?_eq_getElem (by rw [hl'.out]; exact hlt)⟩
      obtain ⟨b, off, rfl, hcell⟩ : ∃ b off, a = some ⟨b, off, none⟩ ∧ Kpt (wr.rangeAt b (off + k * 2) (pcs p)) := by
        obtain ⟨a', c', hv, h1, h2, h3⟩ := hrB.out wr hbk.out
        simp only [Value.slice.injEq] at hv
        obtain ⟨rfl, -, -⟩ := hv
        rcases h3 with h3 | ⟨b, off, rfl, -, hc⟩
        · have := hl'.out; omega
        · exact ⟨b, off, rfl, ⟨hc k p hp⟩⟩
      have hgn := Kpt.mk (hig'.out p (List.mem_of_getElem? hp))
      clear hp
      obtain ⟨K, V⟩ := p
      go_wp2_with (first
        | (go_at_call 40; go_must (refine (akey_ign L K V rs hgn.out _).mono ?_; rintro e w4 ⟨rfl, hb4⟩; have hb5 : Kpt (Below w.heap.size w w4) := ⟨hb2.out.trans (hb4.mono hb2.out.size)⟩; clear hb4))
        | (refine (?_ : wpList _ _ _ (Oper.mk _ (Op.load 41 (Operand.tmp 10)) _ _ _ _ :: _) _ _); go_must (refine wpList_load_bx rfl 41 (.tmp 10) rfl B1 #[.string K, .string V] rfl hX2.out _ Tryz.underlying41 rfl sizePr ?_))
        | (refine (?_ : wpList _ _ _ (Oper.mk none (Op.store _ _ _) _ _ _ _ :: _) _ _); go_must (refine wpList_store_bx rfl 41 (.tmp 10) (.tmp 23) rfl B1 #[.string ⟨#[]⟩, .string ⟨#[]⟩] #[.string K, .string V] rfl rfl hX1.out rfl sizePr (pr_one K V) rfl ?_; intro w2 hX2 hg2; have hb2 : Kpt (Below w.heap.size w w2) := ⟨hb1.out.grown hg2 hb1.out.size (fun k h => by cases h; exact hB1.out)⟩; replace hX2 := Kpt.mk hX2; clear hg2))
        | (refine wpList_var rfl 41 rfl #[.string ⟨#[]⟩, .string ⟨#[]⟩] zeroPr ?_; intro B1 w1 hB1 hX1 hbe1; have hb1 : Kpt (Below w.heap.size w w1) := ⟨hbk.out.trans (hbe1.mono hbk.out.size)⟩; replace hB1 : Kpt (w.heap.size ≤ B1) := ⟨Nat.le_trans hbk.out.size hB1⟩; replace hX1 := Kpt.mk hX1; clear hbe1)
        | (refine (?_ : wpList _ _ _ (Oper.mk _ (Op.load 41 (Operand.tmp 22)) _ _ _ _ :: _) _ _); go_must (refine wpList_load_mid rfl 41 (.tmp 22) rfl b (off + k * 2) rfl [.string K, .string V] _ hcell.out Tryz.underlying41 rfl sizePr ?_)))
      go_roundw
      case rel => exact ⟨rfl, k + 1, by omega, by go_num, hb5⟩
      case measure => simp [intOf]; omega
    · have hltI : ¬ (k : Int) < n := by omega
      go_wp2
      go_ret2
      exact ⟨rfl, hbk.out⟩
end Go.Proofs.YtplifodddfjhdaaGreatDoor
