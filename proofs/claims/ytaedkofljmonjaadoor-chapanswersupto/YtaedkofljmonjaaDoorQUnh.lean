/-
  A text of digits as bytes: what it says, and the contracts of the program's and of the document's function.
-/
import Derived.Test.YtaedkofljmonjaaDoorQIdx
import Derived.Test.YtaedkofljmonjaaDoorQHex
namespace Go.Proofs.YtaedkofljmonjaaDoor
open Go.RowKit
set_option linter.unusedVariables false
set_option linter.unusedSimpArgs false

def unL : List Int → Option (List Int)
  | [] => some []
  | [_] => none
  | a :: b :: r => if digI a < 0 ∨ digI b < 0 then none else (unL r).map (fun o => (16 * digI a + digI b) :: o)
/-- The bytes that a text says. -/
def unx (ss : List Int) : Option (List Int) :=
  if 2 ≤ ss.length ∧ ss.getD 0 0 = 48 ∧ (ss.getD 1 0 = 120 ∨ ss.getD 1 0 = 88) ∧ ss.length % 2 = 0 then unL (ss.drop 2) else none

theorem unL_bytes : ∀ (n : Nat) (l o : List Int), l.length ≤ n → unL l = some o → Bytes o
  | _, [], o, _, h => by simp [unL] at h; subst h; exact Bytes.nil
  | _, [_], o, _, h => by simp [unL] at h
  | 0, a :: b :: r, o, hn, h => by simp at hn
  | n + 1, a :: b :: r, o, hn, h => by
    unfold unL at h
    by_cases hd : digI a < 0 ∨ digI b < 0
    · rw [if_pos hd] at h; cases h
    · rw [if_neg hd] at h
      cases hr : unL r with
      | none => rw [hr] at h; cases h
      | some o' =>
        rw [hr] at h
        simp only [Option.map_some, Option.some.injEq] at h
        subst h
        have h1 := digI_le a
        have h2 := digI_le b
        exact Bytes.cons (by omega) (unL_bytes n r o' (by simp at hn; omega) hr)
theorem unx_bytes {ss o : List Int} (h : unx ss = some o) : Bytes o := by
  unfold unx at h
  split at h
  · exact unL_bytes _ _ _ (Nat.le_refl _) h
  · cases h
theorem str_nums (S : ByteArray) : strOfNums (nums S) = S := by
  apply ByteArray.ext
  apply Array.ext'
  rw [strOfNums_data]
  unfold nums
  rw [List.map_map]
  refine (List.map_congr_left fun b _ => ?_).trans (List.map_id _)
  simp
theorem drop_two (ss : List Int) (k : Nat) (h : 2 + 2 * k + 1 < ss.length) : ss.drop (2 + 2 * k) = ss.getD (2 + 2 * k) 0 :: ss.getD (2 + 2 * k + 1) 0 :: ss.drop (2 + 2 * (k + 1)) := by
  rw [List.drop_eq_getElem_cons (by omega), List.drop_eq_getElem_cons (by omega)]
  simp [List.getD_eq_getElem?_getD, List.getElem?_eq_getElem (show 2 + 2 * k < ss.length by omega), List.getElem?_eq_getElem h, show 2 + 2 * k + 1 + 1 = 2 + 2 * (k + 1) by omega]
theorem unL_no {ss out : List Int} {k : Nat} (h : 2 + 2 * k + 1 < ss.length) (hu : unL (ss.drop 2) = (unL (ss.drop (2 + 2 * k))).map (out ++ ·)) (hd : digI (ss.getD (2 + 2 * k) 0) < 0 ∨ digI (ss.getD (2 + 2 * k + 1) 0) < 0) : unL (ss.drop 2) = none := by
  rw [hu, drop_two ss k h, unL, if_pos hd]; rfl
theorem unL_yes {ss out : List Int} {k : Nat} (h : 2 + 2 * k + 1 < ss.length) (hu : unL (ss.drop 2) = (unL (ss.drop (2 + 2 * k))).map (out ++ ·)) (hd : ¬ (digI (ss.getD (2 + 2 * k) 0) < 0 ∨ digI (ss.getD (2 + 2 * k + 1) 0) < 0)) :
    unL (ss.drop 2) = (unL (ss.drop (2 + 2 * (k + 1)))).map ((out ++ [16 * digI (ss.getD (2 + 2 * k) 0) + digI (ss.getD (2 + 2 * k + 1) 0)]) ++ ·) := by
  rw [hu, drop_two ss k h, unL, if_neg hd]
  cases unL (ss.drop (2 + 2 * (k + 1))) with
  | none => rfl
  | some o => simp
theorem or_all : ∀ a b : Fin 16, bits BinOp.or IntKind.i64 ((a.val : Int) * 16) (b.val : Int) = 16 * (a.val : Int) + (b.val : Int) := by decide +kernel
theorem or_dig (a b : Int) (ha : 0 ≤ a ∧ a ≤ 15) (hb : 0 ≤ b ∧ b ≤ 15) : bits BinOp.or IntKind.i64 (a * 16) b = 16 * a + b := by
  have := or_all ⟨a.toNat, by omega⟩ ⟨b.toNat, by omega⟩
  simp only [show ((a.toNat : Nat) : Int) = a by omega, show ((b.toNat : Nat) : Int) = b by omega] at this
  exact this

/-- What the two functions answer. -/
def UnO (w w' : World) (o : Option (List Int)) (v : Value) (e : Int) : Prop :=
  match o with
  | none => v = .slice none 0 0 ∧ e = 13
  | some l => w'.ownsRow w.heap.size 5 1 v l.length (cels l) ∧ e = 0

theorem hpx (ss : List Int) (x : UInt8) (hb : Bytes ss) (hl : 2 ≤ ss.length) : (((strOfNums ss).extract 0 2).toList == [48, x]) = decide (ss.getD 0 0 = 48 ∧ ss.getD 1 0 = (x.toNat : Int)) := by
  match ss, hl with
  | a :: b :: r, _ =>
    have ha := hb 0
    have hbb := hb 1
    have hx := x.toNat_lt
    simp only [List.getD_cons_zero, List.getD_cons_succ] at ha hbb ⊢
    rw [str_extract, Lib.strOfNums_toList]
    show ([UInt8.ofNat a.toNat, UInt8.ofNat b.toNat] == [48, x]) = _
    by_cases h : a = 48 ∧ b = (x.toNat : Int)
    · obtain ⟨rfl, rfl⟩ := h
      simp
    · rw [decide_eq_false h]
      refine beq_false_of_ne fun hq => h ?_
      simp only [List.cons.injEq, and_true] at hq
      have h1 := congrArg UInt8.toNat hq.1
      have h2 := congrArg UInt8.toNat hq.2
      rw [u8_of ha] at h1
      rw [u8_of hbb] at h2
      have h3 : (48 : UInt8).toNat = 48 := rfl
      omega

theorem hasp_any (ss : List Int) (x : UInt8) (w : World) (hb : Bytes ss) (hm : ss.length ≤ 140737488355328) :
    Calls Tryd.prog 23 #[.string (strOfNums ss), .string ⟨#[48, x]⟩] w fun e w' => e = .returned (.bool (decide (2 ≤ ss.length ∧ ss.getD 0 0 = 48 ∧ ss.getD 1 0 = (x.toNat : Int)))) ∧ w' = w := by
  have hsz := str_size ss
  have hB : 2 ≤ ss.length → decide (2 ≤ ss.length ∧ ss.getD 0 0 = 48 ∧ ss.getD 1 0 = (x.toNat : Int)) = (((strOfNums ss).extract 0 2).toList == [48, x]) := fun h => by rw [hpx ss x hb h]; simp [h]
  have hN : ¬ 2 ≤ ss.length → decide (2 ≤ ss.length ∧ ss.getD 0 0 = 48 ∧ ss.getD 1 0 = (x.toNat : Int)) = false := fun h => by simp [h]
  generalize decide (2 ≤ ss.length ∧ ss.getD 0 0 = 48 ∧ ss.getD 1 0 = (x.toNat : Int)) = D at hB hN ⊢
  generalize strOfNums ss = S at hsz hB ⊢
  generalize ss.length = n at hsz hB hN hm
  clear hb
  have hsl : Calls Tryd.prog 32 #[.string S, .string ⟨#[48, x]⟩] w fun e w' => e = .returned (.bool D) ∧ w' = w := by
    by_cases h2 : 2 ≤ n
    · have hd := Kpt.mk (hB h2)
      clear hB hN
      go_enter Tryd.func32, Tryd.ntmps32
      go_wp2
      go_ret
      exact ⟨by rw [hd.out]; rfl, rfl⟩
    · have hd := Kpt.mk (hN h2)
      clear hB hN
      go_enter Tryd.func32, Tryd.ntmps32
      go_wp2
      go_ret
      exact ⟨by rw [hd.out]; rfl, rfl⟩
  clear hB hN hsz
  replace hsl := Kpt.mk hsl
  go_enter Tryd.func23, Tryd.ntmps23
  go_wp2_with (go_at_call 32; go_must (refine hsl.out.mono ?_; rintro e w ⟨rfl, rfl⟩))
  go_ret
  exact ⟨rfl, rfl⟩

theorem below_undrewN {n k : Nat} {a b : World} (h : Below n (a.drewN k) b) : Below n a b := ⟨h.os, h.tape, h.output, h.size, h.block⟩

set_option maxRecDepth 100000 in
set_option maxHeartbeats 2000000 in
theorem unhex_any (ss : List Int) (w : World) (hb : Bytes ss) (hm : ss.length ≤ 140737488355328) :
    Calls Tryd.prog 10 #[.string (strOfNums ss)] w fun e w' => ∃ v er, e = .returned (.tuple #[v, .int .i64 er]) ∧ UnO w w' (unx ss) v er ∧ Below w.heap.size w w' := by
  have hsz := str_size ss
  have hat : ∀ k (h : k < (strOfNums ss).size), ((strOfNums ss)[k].toNat : Int) = ss.getD k 0 := fun k h => by rw [← nums_at _ _ h, nums_str ss hb]
  have hp1 := Kpt.mk (fun w => hasp_any ss 120 w hb hm)
  have hp2 := Kpt.mk (fun w => hasp_any ss 88 w hb hm)
  generalize strOfNums ss = S at hsz hat hp1 hp2 ⊢
  obtain ⟨n, hn⟩ : ∃ n, n = ss.length := ⟨_, rfl⟩
  rw [← hn] at hsz hm
  replace hn := Kpt.mk hn
  replace hat := Kpt.mk hat
  obtain ⟨c0, hc0⟩ : ∃ c, ss.getD 0 0 = c := ⟨_, rfl⟩
  obtain ⟨c1, hc1⟩ : ∃ c, ss.getD 1 0 = c := ⟨_, rfl⟩
  have hux : Kpt (unx ss = if 2 ≤ n ∧ c0 = 48 ∧ (c1 = 120 ∨ c1 = 88) ∧ n % 2 = 0 then unL (ss.drop 2) else none) := ⟨by unfold unx; rw [← hn.out, hc0, hc1]⟩
  have hq1 : Kpt (∀ w, Calls Tryd.prog 23 #[.string S, .string ⟨#[48, 120]⟩] w fun e w' => e = .returned (.bool (decide (2 ≤ n ∧ c0 = 48 ∧ c1 = 120))) ∧ w' = w) := ⟨fun w => by have := hp1.out w; rw [← hn.out, hc0, hc1] at this; exact this⟩
  have hq2 : Kpt (∀ w, Calls Tryd.prog 23 #[.string S, .string ⟨#[48, 88]⟩] w fun e w' => e = .returned (.bool (decide (2 ≤ n ∧ c0 = 48 ∧ c1 = 88))) ∧ w' = w) := ⟨fun w => by have := hp2.out w; rw [← hn.out, hc0, hc1] at this; exact this⟩
  clear hp1 hp2
  replace hc0 := Kpt.mk hc0
  replace hc1 := Kpt.mk hc1
  replace hb := Kpt.mk hb
  by_cases p1 : 2 ≤ n ∧ c0 = 48 ∧ c1 = 120
  · have hq1t : Kpt (∀ w, Calls Tryd.prog 23 #[.string S, .string ⟨#[48, 120]⟩] w fun e w' => e = .returned (.bool true) ∧ w' = w) := ⟨fun w => by have := hq1.out w; rw [decide_eq_true p1] at this; exact this⟩
    by_cases pe : n % 2 = 0
    · have hcond : Kpt (2 ≤ n ∧ c0 = 48 ∧ (c1 = 120 ∨ c1 = 88) ∧ n % 2 = 0) := ⟨p1.1, p1.2.1, .inl p1.2.2, pe⟩
      have pe2 : (n : Int) % 2 = 0 := by omega
      have n2 := p1.1
      clear hq1 hq2 p1 pe
      go_enter Tryd.func10, Tryd.ntmps10
      go_wp2_with (first | (go_at_call_of 23 (Value.string ⟨#[48, 120]⟩); go_must (refine (hq1t.out _).mono ?_; rintro e w ⟨rfl, rfl⟩)))
      clear pe2
      go_loopw [4, 5] (fun x t wr => ∃ (k i : Nat) (out : List Int), i ≤ n ∧ t = .int .i64 (i : Int) ∧ Kpt (i = 2 + 2 * k) ∧ Kpt (wr.ownsRow w.heap.size 5 1 x k (cels out)) ∧ Kpt (out.length = k) ∧ Kpt (unL (ss.drop 2) = (unL (ss.drop (2 + 2 * k))).map (out ++ ·)) ∧ Kpt (Below w.heap.size w wr)) (fun _ t _ => n - (intOf t).toNat)
      case atStart => exact ⟨0, 2, [], by omega, rfl, ⟨rfl⟩, ⟨World.ownsRow_nil _ _ 5 1⟩, ⟨rfl⟩, ⟨by simp⟩, ⟨Below.refl _ _⟩⟩
      case round =>
        obtain ⟨k, i, out, hk, rfl, hi, ho, hol, hu, hbe⟩ := hrel
        by_cases hlt : i < n
        · have hlt1 : i + 1 < n := by have := hi.out; have := hcond.out.2.2.2; omega
          have hd1 := hb.out (2 + 2 * k)
          have hd2 := hb.out (2 + 2 * k + 1)
          have hx1 := hat.out i (by omega)
          have hx2 := hat.out (i + 1) (by omega)
          rw [show ss.getD i 0 = ss.getD (2 + 2 * k) 0 by rw [hi.out]] at hx1
          rw [show ss.getD (i + 1) 0 = ss.getD (2 + 2 * k + 1) 0 by rw [hi.out]] at hx2
          have hlt1' := Kpt.mk (show 2 + 2 * k + 1 < ss.length by have := hn.out; have := hi.out; omega)
          have hno := Kpt.mk (unL_no hlt1'.out hu.out)
          have hyes := Kpt.mk (unL_yes hlt1'.out hu.out)
          generalize ss.getD (2 + 2 * k) 0 = y1 at hd1 hx1 hno hyes
          generalize ss.getD (2 + 2 * k + 1) 0 = y2 at hd2 hx2 hno hyes
          have q1 := Kpt.mk (fun w => digit_any y1 w hd1.1 hd1.2)
          have q2 := Kpt.mk (fun w => digit_any y2 w hd2.1 hd2.2)
          have l1 := digI_le y1
          have l2 := digI_le y2
          have hor := Kpt.mk (or_dig (digI y1) (digI y2))
          generalize digI y1 = d1 at q1 l1 hor hno hyes
          generalize digI y2 = d2 at q2 l2 hor hno hyes
          go_wp2
          go_quiet ((first | (go_at_call_of 24 (Value.int .u8 y1); exact Calls.quiet_of_same (q1.out _)) | (go_at_call_of 24 (Value.int .u8 y2); exact Calls.quiet_of_same (q2.out _))))
          by_cases hn1 : d1 < 0
          · have hN := Kpt.mk (hno.out (.inl hn1))
            clear hor hyes hno
            go_wp2
            go_ret2
            exact ⟨_, _, rfl, by rw [hux.out, if_pos hcond.out, hN.out]; exact ⟨rfl, rfl⟩, below_drewN hbe.out _⟩
          · by_cases hn2 : d2 < 0
            · have hN := Kpt.mk (hno.out (.inr hn2))
              clear hor hyes hno
              go_wp2
              go_ret2
              exact ⟨_, _, rfl, by rw [hux.out, if_pos hcond.out, hN.out]; exact ⟨rfl, rfl⟩, below_drewN hbe.out _⟩
            · have hY := Kpt.mk (hyes.out (by omega))
              have hor' := hor.out ⟨by omega, l1.2⟩ ⟨by omega, l2.2⟩
              clear hor hyes hno
              go_wp2_with (first
                | (refine (?_ : wpList _ _ _ (Oper.mk (some 50) _ _ _ _ _ :: _) _ _); go_must (refine wpList_append_new rfl (.tmp 43) (.tmp 49) rfl w.heap.size u4 (.slice (some ⟨g5, 0, none⟩) 1 1) out [16 * d1 + d2] k (k + 1) rfl rfl ho5b.out (own_rd ho5.out) (by simp) hol.out (by simp) (by have := hi.out; omega) (by have := hb5.out.size; omega) ?_; intro g6 cap6 w6 ho6 hg6 hgr6; have hb6 : Kpt (Below w.heap.size w w6) := ⟨hb5.out.grown hgr6.out hb5.out.size (fun q e => (World.ownsRow.lt ho5b.out q e).1)⟩; clear hgr6 ho5b ho5 hb5))
                | (refine (?_ : wpList _ _ _ (Oper.mk (some 49) _ _ _ _ _ :: _) _ _); go_must (refine wpList_built rfl 1 [16 * d1 + d2] (by kernel_rfl) rfl (by decide) ?_; intro g5 w5 hg5 ho5 hbe5; have ho5b : Kpt (w5.ownsRow w.heap.size 5 1 u4 k (cels out)) := ⟨own_of_block ho.out (fun q e => (below_undrewN hbe5).block q (World.ownsRow.lt ho.out q e).2)⟩; have hb5 : Kpt (Below w.heap.size w w5) := ⟨hbe.out.trans ((below_undrewN hbe5).mono hbe.out.size)⟩; replace ho5 := Kpt.mk ho5; clear hbe5 hg5)))
              go_roundw
              case rel => exact ⟨k + 1, i + 2, out ++ [16 * d1 + d2], by omega, by simp, ⟨by have := hi.out; omega⟩, ⟨ho6.out⟩, ⟨by simp [hol.out]⟩, hY, hb6⟩
              case measure => simp [intOf]; omega
        · have hkn : Kpt (2 + 2 * k = n) := ⟨by have := hi.out; have := hcond.out.2.2.2; omega⟩
          obtain rfl : i = n := by omega
          have hfin : Kpt (unx ss = some out) := ⟨by rw [hux.out, if_pos hcond.out, hu.out, List.drop_eq_nil_of_le (by have := hn.out; have := hkn.out; omega)]; simp [unL]⟩
          go_wp2
          go_ret2
          exact ⟨_, _, rfl, by rw [hfin.out]; exact ⟨by rw [hol.out]; exact ho.out, rfl⟩, hbe.out⟩
    · have pe2 : (n : Int) % 2 = 1 := by omega
      clear hq1 hq2
      go_enter Tryd.func10, Tryd.ntmps10
      go_wp2_with (first | (go_at_call_of 23 (Value.string ⟨#[48, 120]⟩); go_must (refine (hq1t.out _).mono ?_; rintro e w ⟨rfl, rfl⟩)))
      go_ret2
      exact ⟨_, _, rfl, by rw [hux.out, if_neg (by omega)]; exact ⟨rfl, rfl⟩, Below.refl _ _⟩
  · have hq1t : Kpt (∀ w, Calls Tryd.prog 23 #[.string S, .string ⟨#[48, 120]⟩] w fun e w' => e = .returned (.bool false) ∧ w' = w) := ⟨fun w => by have := hq1.out w; rw [decide_eq_false p1] at this; exact this⟩
    by_cases p2 : 2 ≤ n ∧ c0 = 48 ∧ c1 = 88
    · have hq2t : Kpt (∀ w, Calls Tryd.prog 23 #[.string S, .string ⟨#[48, 88]⟩] w fun e w' => e = .returned (.bool true) ∧ w' = w) := ⟨fun w => by have := hq2.out w; rw [decide_eq_true p2] at this; exact this⟩
      by_cases pe : n % 2 = 0
      · have hcond : Kpt (2 ≤ n ∧ c0 = 48 ∧ (c1 = 120 ∨ c1 = 88) ∧ n % 2 = 0) := ⟨p2.1, p2.2.1, .inr p2.2.2, pe⟩
        have pe2 : (n : Int) % 2 = 0 := by omega
        have n2 := p2.1
        clear hq1 hq2 p1 p2 pe
        go_enter Tryd.func10, Tryd.ntmps10
        go_wp2_with (first | (go_at_call_of 23 (Value.string ⟨#[48, 120]⟩); go_must (refine (hq1t.out _).mono ?_; rintro e w ⟨rfl, rfl⟩)) | (go_at_call_of 23 (Value.string ⟨#[48, 88]⟩); go_must (refine (hq2t.out _).mono ?_; rintro e w ⟨rfl, rfl⟩)))
        clear pe2
        go_loopw [4, 5] (fun x t wr => ∃ (k i : Nat) (out : List Int), i ≤ n ∧ t = .int .i64 (i : Int) ∧ Kpt (i = 2 + 2 * k) ∧ Kpt (wr.ownsRow w.heap.size 5 1 x k (cels out)) ∧ Kpt (out.length = k) ∧ Kpt (unL (ss.drop 2) = (unL (ss.drop (2 + 2 * k))).map (out ++ ·)) ∧ Kpt (Below w.heap.size w wr)) (fun _ t _ => n - (intOf t).toNat)
        case atStart => exact ⟨0, 2, [], by omega, rfl, ⟨rfl⟩, ⟨World.ownsRow_nil _ _ 5 1⟩, ⟨rfl⟩, ⟨by simp⟩, ⟨Below.refl _ _⟩⟩
        case round =>
          obtain ⟨k, i, out, hk, rfl, hi, ho, hol, hu, hbe⟩ := hrel
          by_cases hlt : i < n
          · have hlt1 : i + 1 < n := by have := hi.out; have := hcond.out.2.2.2; omega
            have hd1 := hb.out (2 + 2 * k)
            have hd2 := hb.out (2 + 2 * k + 1)
            have hx1 := hat.out i (by omega)
            have hx2 := hat.out (i + 1) (by omega)
            rw [show ss.getD i 0 = ss.getD (2 + 2 * k) 0 by rw [hi.out]] at hx1
            rw [show ss.getD (i + 1) 0 = ss.getD (2 + 2 * k + 1) 0 by rw [hi.out]] at hx2
            have hlt1' := Kpt.mk (show 2 + 2 * k + 1 < ss.length by have := hn.out; have := hi.out; omega)
            have hno := Kpt.mk (unL_no hlt1'.out hu.out)
            have hyes := Kpt.mk (unL_yes hlt1'.out hu.out)
            generalize ss.getD (2 + 2 * k) 0 = y1 at hd1 hx1 hno hyes
            generalize ss.getD (2 + 2 * k + 1) 0 = y2 at hd2 hx2 hno hyes
            have q1 := Kpt.mk (fun w => digit_any y1 w hd1.1 hd1.2)
            have q2 := Kpt.mk (fun w => digit_any y2 w hd2.1 hd2.2)
            have l1 := digI_le y1
            have l2 := digI_le y2
            have hor := Kpt.mk (or_dig (digI y1) (digI y2))
            generalize digI y1 = d1 at q1 l1 hor hno hyes
            generalize digI y2 = d2 at q2 l2 hor hno hyes
            go_wp2
            go_quiet ((first | (go_at_call_of 24 (Value.int .u8 y1); exact Calls.quiet_of_same (q1.out _)) | (go_at_call_of 24 (Value.int .u8 y2); exact Calls.quiet_of_same (q2.out _))))
            by_cases hn1 : d1 < 0
            · have hN := Kpt.mk (hno.out (.inl hn1))
              clear hor hyes hno
              go_wp2
              go_ret2
              exact ⟨_, _, rfl, by rw [hux.out, if_pos hcond.out, hN.out]; exact ⟨rfl, rfl⟩, below_drewN hbe.out _⟩
            · by_cases hn2 : d2 < 0
              · have hN := Kpt.mk (hno.out (.inr hn2))
                clear hor hyes hno
                go_wp2
                go_ret2
                exact ⟨_, _, rfl, by rw [hux.out, if_pos hcond.out, hN.out]; exact ⟨rfl, rfl⟩, below_drewN hbe.out _⟩
              · have hY := Kpt.mk (hyes.out (by omega))
                have hor' := hor.out ⟨by omega, l1.2⟩ ⟨by omega, l2.2⟩
                clear hor hyes hno
                go_wp2_with (first
                  | (refine (?_ : wpList _ _ _ (Oper.mk (some 50) _ _ _ _ _ :: _) _ _); go_must (refine wpList_append_new rfl (.tmp 43) (.tmp 49) rfl w.heap.size u4 (.slice (some ⟨g5, 0, none⟩) 1 1) out [16 * d1 + d2] k (k + 1) rfl rfl ho5b.out (own_rd ho5.out) (by simp) hol.out (by simp) (by have := hi.out; omega) (by have := hb5.out.size; omega) ?_; intro g6 cap6 w6 ho6 hg6 hgr6; have hb6 : Kpt (Below w.heap.size w w6) := ⟨hb5.out.grown hgr6.out hb5.out.size (fun q e => (World.ownsRow.lt ho5b.out q e).1)⟩; clear hgr6 ho5b ho5 hb5))
                  | (refine (?_ : wpList _ _ _ (Oper.mk (some 49) _ _ _ _ _ :: _) _ _); go_must (refine wpList_built rfl 1 [16 * d1 + d2] (by kernel_rfl) rfl (by decide) ?_; intro g5 w5 hg5 ho5 hbe5; have ho5b : Kpt (w5.ownsRow w.heap.size 5 1 u4 k (cels out)) := ⟨own_of_block ho.out (fun q e => (below_undrewN hbe5).block q (World.ownsRow.lt ho.out q e).2)⟩; have hb5 : Kpt (Below w.heap.size w w5) := ⟨hbe.out.trans ((below_undrewN hbe5).mono hbe.out.size)⟩; replace ho5 := Kpt.mk ho5; clear hbe5 hg5)))
                go_roundw
                case rel => exact ⟨k + 1, i + 2, out ++ [16 * d1 + d2], by omega, by simp, ⟨by have := hi.out; omega⟩, ⟨ho6.out⟩, ⟨by simp [hol.out]⟩, hY, hb6⟩
                case measure => simp [intOf]; omega
          · have hkn : Kpt (2 + 2 * k = n) := ⟨by have := hi.out; have := hcond.out.2.2.2; omega⟩
            obtain rfl : i = n := by omega
            have hfin : Kpt (unx ss = some out) := ⟨by rw [hux.out, if_pos hcond.out, hu.out, List.drop_eq_nil_of_le (by have := hn.out; have := hkn.out; omega)]; simp [unL]⟩
            go_wp2
            go_ret2
            exact ⟨_, _, rfl, by rw [hfin.out]; exact ⟨by rw [hol.out]; exact ho.out, rfl⟩, hbe.out⟩
      · have pe2 : (n : Int) % 2 = 1 := by omega
        clear hq1 hq2
        go_enter Tryd.func10, Tryd.ntmps10
        go_wp2_with (first | (go_at_call_of 23 (Value.string ⟨#[48, 120]⟩); go_must (refine (hq1t.out _).mono ?_; rintro e w ⟨rfl, rfl⟩)) | (go_at_call_of 23 (Value.string ⟨#[48, 88]⟩); go_must (refine (hq2t.out _).mono ?_; rintro e w ⟨rfl, rfl⟩)))
        go_ret2
        exact ⟨_, _, rfl, by rw [hux.out, if_neg (by omega)]; exact ⟨rfl, rfl⟩, Below.refl _ _⟩
    · have hq2t : Kpt (∀ w, Calls Tryd.prog 23 #[.string S, .string ⟨#[48, 88]⟩] w fun e w' => e = .returned (.bool false) ∧ w' = w) := ⟨fun w => by have := hq2.out w; rw [decide_eq_false p2] at this; exact this⟩
      clear hq1 hq2
      go_enter Tryd.func10, Tryd.ntmps10
      go_wp2_with (first | (go_at_call_of 23 (Value.string ⟨#[48, 120]⟩); go_must (refine (hq1t.out _).mono ?_; rintro e w ⟨rfl, rfl⟩)) | (go_at_call_of 23 (Value.string ⟨#[48, 88]⟩); go_must (refine (hq2t.out _).mono ?_; rintro e w ⟨rfl, rfl⟩)))
      go_ret2
      exact ⟨_, _, rfl, by rw [hux.out, if_neg (by omega)]; exact ⟨rfl, rfl⟩, Below.refl _ _⟩

end Go.Proofs.YtaedkofljmonjaaDoor
