/-
  sess: SessOrders' walk.
-/
import Derived.Test.YtdplndlmdhpfaaaEOin
import Derived.Deep.DeepCutAuto
import Derived.Deep.LoopGhost
namespace Go.Proofs.Ytdplndlmdhpfaaa
open Go.RowKit
set_option linter.unusedVariables false
set_option linter.unusedSimpArgs false

/-- What In of a command within the window comes to. -/
theorem in_ord (S : Nat) (s : Se) (first : Int) (nx : Nat) (ks : List Nat) (k : Nat) (w : World) (h : Oh w w S s s first nx ks) (hk : k < 16) (hks : ∀ j ∈ ks, nx < j ∧ j < 16) (hnd : ks.Nodup) (hlk : ks.length ≤ 99) (hnx : nx ≤ 16) :
    Calls Try.prog 11 #[.pointer (some ⟨S, 0, none⟩), .agg (opd first k).v] w fun e w' => ∃ tv nx' ks' s3 zs, e = .returned (.tuple #[.slice none 0 0, tv]) ∧ Oh w w' S s s3 first nx' ks' ∧ Tr w w' S s3 nx nx' tv zs ∧ ks'.Nodup ∧ (∀ j ∈ ks', nx' < j ∧ j < 16) ∧ ks'.length ≤ ks.length + 1 ∧ nx ≤ nx' ∧ nx' ≤ 16 ∧ (∀ j, (j < nx' ∨ j ∈ ks') ↔ ((j < nx ∨ j ∈ ks) ∨ j = k)) ∧ (¬ (k ∉ ks ∧ nx ≤ k) → nx' = nx) := by
  have hnn : nx ∉ ks := fun hx => by have := (hks nx hx).1; omega
  have stay : ∀ w', Below w.heap.size w w' → (k < nx ∨ k ∈ ks) → ∃ tv nx' ks' s3 zs, (Ending.returned (.tuple #[.slice none 0 0, .slice none 0 0]) : Ending) = .returned (.tuple #[.slice none 0 0, tv]) ∧ Oh w w' S s s3 first nx' ks' ∧ Tr w w' S s3 nx nx' tv zs ∧ ks'.Nodup ∧ (∀ j ∈ ks', nx' < j ∧ j < 16) ∧ ks'.length ≤ ks.length + 1 ∧ nx ≤ nx' ∧ nx' ≤ 16 ∧ (∀ j, (j < nx' ∨ j ∈ ks') ↔ ((j < nx ∨ j ∈ ks) ∨ j = k)) ∧ (¬ (k ∉ ks ∧ nx ≤ k) → nx' = nx) := fun w' hb hor =>
    ⟨_, nx, ks, s, [], rfl, h.below hb, ⟨OwnR.nil _ _ _, by simp, fun j z hz => by simp at hz, fun b hb => by simp [Value.ownBlock] at hb⟩, hnd, hks, by omega, Nat.le_refl _, hnx, fun j => ⟨fun hj => .inl hj, fun hj => by rcases hj with hj | rfl; exact hj; exact hor⟩, fun _ => rfl⟩
  by_cases h1 : k < nx
  · refine (in_far S s (hds first ks) ((ocs nx).map Cm.v) [] (opd first k) w h.lo.ss rfl h.over ?_).mono ?_
    · show 16 ≤ ((first + (k : Int)) % 4294967296 - s.next) % 4294967296
      rw [h.next]
      omega
    · rintro e w' ⟨rfl, hb⟩
      exact stay w' hb (.inl h1)
  · by_cases h2 : k ∈ ks
    · refine (in_dup S s first nx ks k w h hk (fun j hj => (hks j hj).2) hlk (by omega) h2).mono ?_
      rintro e w' ⟨rfl, hb⟩
      exact stay w' hb (.inr h2)
    · refine (in_new S s first nx ks k w h hk (fun j hj => (hks j hj).2) hlk (by omega) h2 hnd (fun j hj => Nat.le_of_lt (hks j hj).1)).mono ?_
      rintro e w' ⟨tv, nx', ks', s3, zs, rfl, hO, hT, g1, g2, g3, g4, g5, g6⟩
      have hall : ∀ j ∈ ks ++ [k], j < 16 := fun j hj => by rcases List.mem_append.1 hj with hj | hj; exact (hks j hj).2; simp at hj; omega
      have hn16 : nx' ≤ 16 := by
        by_cases hx : nx' ≤ 16
        · exact hx
        · have := hall 16 (g1 16 hnx (by omega)); omega
      refine ⟨tv, nx', ks', s3, zs, rfl, hO, hT, g3, fun j hj => ?_, g6, g5, hn16, fun j => ?_, fun hx => absurd ⟨h2, by omega⟩ hx⟩
      · have hj2 := (g2 j).1 hj
        have hne : j ≠ nx' := fun e => g4 (by rw [← e]; exact hj2.1)
        exact ⟨by omega, hall j hj2.1⟩
      · rw [g2 j]
        constructor
        · rintro (hj | ⟨hj, _⟩)
          · by_cases hjn : j < nx
            · exact .inl (.inl hjn)
            · rcases List.mem_append.1 (g1 j (by omega) hj) with hj | hj
              · exact .inl (.inr hj)
              · simp at hj; exact .inr hj
          · rcases List.mem_append.1 hj with hj | hj
            · exact .inl (.inr hj)
            · simp at hj; exact .inr hj
        · intro hj
          by_cases hjn : j < nx'
          · exact .inl hjn
          · refine .inr ⟨?_, by omega⟩
            rcases hj with (hj | hj) | rfl
            · omega
            · exact List.mem_append_left _ hj
            · simp

/-- Sixteen bools in a block. -/
structure Cb (W : World) (B : Nat) (cm : Nat → Bool) : Prop where
  lt : B < W.heap.size
  cells : ∀ j, j < 16 → W.cell? ⟨B, j, none⟩ = some (.bool (cm j))
  free : ∀ j, W.frozen? ⟨B, j, none⟩ = false
theorem Cb.block {W W' : World} {B : Nat} {cm : Nat → Bool} (h : Cb W B cm) (hs : W.heap.size ≤ W'.heap.size) (hb : W'.heap[B]? = W.heap[B]?) : Cb W' B cm :=
  ⟨Nat.lt_of_lt_of_le h.lt hs, fun j hj => (World.cell?_of_block (a := ⟨B, j, none⟩) hb).trans (h.cells j hj), fun j => (World.frozen?_of_block (a := ⟨B, j, none⟩) hb).trans (h.free j)⟩
theorem Cb.set {W : World} {B k : Nat} {cm : Nat → Bool} (h : Cb W B cm) (hk : k < 16) : Cb (W.setCell ⟨B, k, none⟩ (.bool true)) B (fun j => if j = k then true else cm j) := by
  have hg := grown_setCellK W ⟨B, k, none⟩ (.bool true)
  refine ⟨Nat.lt_of_lt_of_le h.lt hg.size, fun j hj => ?_, fun j => ?_⟩
  · by_cases e : j = k
    · subst e
      rw [if_pos rfl]
      exact World.cell?_setCell_same' W _ _ (by rw [h.cells j hj]; rfl)
    · rw [if_neg e, ← h.cells j hj]
      exact World.cell?_setCell_other _ _ _ _ (fun x => e (by cases x; rfl))
  · rw [← h.free j]; exact World.frozen?_setCells B [.bool true] k W _
def zB16 : Array Value := #[.bool false, .bool false, .bool false, .bool false, .bool false, .bool false, .bool false, .bool false, .bool false, .bool false, .bool false, .bool false, .bool false, .bool false, .bool false, .bool false]
theorem zBool : (Try.prog.info? 30).map (fun i => i.zero) = some (some (.agg zB16)) := by kernel_rfl
theorem cb_new {W : World} {B : Nat} (h : Bx W B zB16) : Cb W B (fun _ => false) := ⟨h.lt, fun j hj => by
  rw [h.cells j (by simp [zB16]; omega)]
  have : j = 0 ∨ j = 1 ∨ j = 2 ∨ j = 3 ∨ j = 4 ∨ j = 5 ∨ j = 6 ∨ j = 7 ∨ j = 8 ∨ j = 9 ∨ j = 10 ∨ j = 11 ∨ j = 12 ∨ j = 13 ∨ j = 14 ∨ j = 15 := by omega
  rcases this with rfl | rfl | rfl | rfl | rfl | rfl | rfl | rfl | rfl | rfl | rfl | rfl | rfl | rfl | rfl | rfl <;> rfl, h.free⟩

/-- How it stands between two commands. -/
structure Ow (w3 W : World) (S B : Nat) (s0 : Se) (first : Int) (nx i : Nat) (ks : List Nat) (s : Se) (cm : Nat → Bool) : Prop where
  oh : Oh w3 W S s0 s first nx ks
  cb : Cb W B cm
  bx : ¬ s.X S B
  nd : ks.Nodup
  hks : ∀ j ∈ ks, nx < j ∧ j < 16
  hnx : nx ≤ 16
  hlen : ks.length ≤ i
  hcm : ∀ j, j < 16 → (cm j = true ↔ (j < nx ∨ j ∈ ks))
theorem own_new {S m : Nat} {s : Se} {first : Int} (hS : m ≤ S) (b : Nat) (hb : (s.new first).X S b) : m ≤ b := by
  rcases hb with e | e | e | e
  · rw [e]; exact hS
  all_goals simp [Se.new, Value.ownBlock] at e

set_option maxRecDepth 100000 in
set_option maxHeartbeats 16000000 in
theorem orders_any (first : Int) (a : Option Addr) (n c : Nat) (zs : List Int) (w : World) (hrd : RdAt w (.slice a n c) zs) (hzn : zs.length = n) (hnm : n ≤ maxLen) (hby : Bytes zs) (hf : 0 ≤ first ∧ first < 4294967296) :
    Calls Try.prog 3 #[.int .u32 first, .slice a n c] w fun e w' => e = .returned (.bool true) ∧ Below w.heap.size w w' := by
  have hA : Kpt (∀ W : World, Calls Try.prog 8 #[] W fun e w' => e = .returned (.bool true) ∧ Below W.heap.size W w') := ⟨awake_any⟩
  have hP : Kpt (∀ W : World, Calls Try.prog 10 #[] W fun e w' => e = .returned (.agg plainS.prm) ∧ Below W.heap.size W w') := ⟨plain_any⟩
  have hN : Kpt (∀ W : World, Calls Try.prog 9 #[.agg plainS.prm, .slice none 0 0, .int .u32 first] W fun e w' => (∃ S, e = .returned (.pointer (some ⟨S, 0, none⟩)) ∧ W.heap.size ≤ S ∧ Ss w' S (plainS.new first) [] [] []) ∧ Below W.heap.size W w') := ⟨fun W => new_nil plainS first W⟩
  replace hrd := Kpt.mk hrd
  replace hby := Kpt.mk hby
  replace hzn := Kpt.mk hzn
  have hnM : (n : Int) ≤ 9223372036854775807 := by unfold maxLen at hnm; omega
  go_enter Try.func3, Try.ntmps3
  go_wp2_with (first
    | (go_at_call 8; go_must (refine (hA.out _).mono ?_; rintro e w1 ⟨rfl, hb1⟩; replace hb1 := Kpt.mk hb1))
    | (go_at_call 10; go_must (refine (hP.out _).mono ?_; rintro e w2 ⟨rfl, hb2'⟩; have hb2 := Kpt.mk (hb1.out.trans (hb2'.mono hb1.out.size)); clear hb2'))
    | (go_at_call 9; go_must (refine (hN.out _).mono ?_; rintro e w3 ⟨⟨S, rfl, hSl, hS⟩, hb3'⟩; have hb3 := Kpt.mk (hb2.out.trans (hb3'.mono hb2.out.size)); have hSw := Kpt.mk (Nat.le_trans hb2.out.size hSl); replace hS := Kpt.mk hS; clear hb3' hSl))
    | (refine (?_ : wpList _ _ _ (Oper.mk _ (Op.alloc 30) _ _ _ _ :: _) _ _); go_must (refine wpList_var rfl 30 rfl _ zBool ?_; intro B w4 hB hBx hb4; have hB4 := Kpt.mk hB; have hc4 := Kpt.mk (cb_new hBx); have hb4K := Kpt.mk hb4; clear hB hBx hb4)))
  have hstart : Kpt (Ow w3 w4 S B (plainS.new first) first 0 0 [] (plainS.new first) (fun _ => false)) := ⟨⟨⟨(Lo.start hS.out).below hb4K.out, by show first = (first + ((0 : Nat) : Int)) % 4294967296; omega, rfl, rfl⟩, hc4.out, fun e => by have := hS.out.lt _ e; have := hB4.out; omega, List.nodup_nil, fun j hj => by simp at hj, by omega, by simp, fun j hj => by simp⟩⟩
  have hBk : Kpt (∀ (W : World) (s3 : Se), St S w3 W (plainS.new first) s3 → Below w.heap.size w W) := ⟨fun W s3 t => hb3.out.trans (t.fr.below hb3.out.size (fun b hb => own_new hSw.out b hb))⟩
  clear hA hP hN hc4
  go_loopg [7, 8] 60 (fun g t7 t8 wr => ∃ (nx i : Nat) (ks : List Nat) (s : Se) (cm : Nat → Bool), t7 = .int .i64 nx ∧ t8 = .int .i64 i ∧ i ≤ n ∧ i + g = 60 ∧ Kpt (Ow w3 wr S B (plainS.new first) first nx i ks s cm))
  case atStart => exact ⟨0, 0, [], _, _, rfl, rfl, Nat.zero_le _, rfl, hstart⟩
  case round =>
    obtain ⟨nx, i, ks, s, cm, rfl, rfl, hin, hig, hW⟩ := hrel
    have hbw := Kpt.mk (hBk.out _ _ hW.out.oh.lo.st)
    by_cases hi1 : i < n
    · have e1 : (i : Int) < n := by omega
      by_cases hi2 : i < 60
      · have e2 : (i : Int) < 60 := by omega
        obtain ⟨wo, hwo⟩ : ∃ x, x = wr := ⟨_, rfl⟩
        subst hwo
        obtain ⟨ob, oo, rfl, hoc⟩ : ∃ b o, a = some ⟨b, o, none⟩ ∧ wo.cell? ⟨b, o + i, none⟩ = some (.int .u8 (zs.getD i 0)) := by
          obtain ⟨a', c', hv, _, _, h3⟩ := id (hrd.out.bel hbw.out)
          simp only [Value.slice.injEq] at hv
          obtain ⟨rfl, _, rfl⟩ := hv
          rcases h3 with h3 | ⟨b, o, rfl, hc⟩
          · have := hzn.out; omega
          · exact ⟨b, o, rfl, (rd_cells (hrd.out.bel hbw.out)).2 i hi1⟩
        have hob := hby.out i
        obtain ⟨x, hx⟩ : ∃ x, x = zs.getD i 0 := ⟨_, rfl⟩
        rw [← hx] at hoc hob
        clear hx
        obtain ⟨k, hk⟩ : ∃ k : Nat, x % 16 = (k : Int) := ⟨(x % 16).toNat, by omega⟩
        have hk16 : k < 16 := by omega
        have h1 : IntKind.u32.wrap (100 + (k : Int)) = 100 + (k : Int) := by rw [IntKind.wrap_u32]; omega
        have h2 : IntKind.u32.wrap (k : Int) = (k : Int) := by rw [IntKind.wrap_u32]; omega
        obtain ⟨A, hA⟩ : ∃ A, A = (first + (k : Int)) % 4294967296 := ⟨_, rfl⟩
        have h3 : IntKind.u32.wrap (first + (k : Int)) = A := by rw [IntKind.wrap_u32, hA]
        have hcap : (n : Int) ≤ c := by
          obtain ⟨a', c', hv, _, hl, _⟩ := hrd.out
          simp only [Value.slice.injEq] at hv
          obtain ⟨_, _, rfl⟩ := hv
          have := hzn.out
          omega
        have hR : Kpt (∀ W : World, Calls Try.prog 12 #[.int .u32 (100 + (k : Int)), .int .u32 A, .int .u32 0] W fun e w' => e = .returned (.agg (opd first k).v) ∧ Below W.heap.size W w') := ⟨fun W => by rw [hA]; exact read_any (100 + (k : Int)) ((first + (k : Int)) % 4294967296) 0 W⟩
        replace hA := Kpt.mk hA
        have hIn : Kpt (∀ W, Below wo.heap.size wo W → Calls Try.prog 11 #[.pointer (some ⟨S, 0, none⟩), .agg (opd first k).v] W fun e w' => ∃ tv nx' ks' s3 zs, e = .returned (.tuple #[.slice none 0 0, tv]) ∧ Oh W w' S s s3 first nx' ks' ∧ Tr W w' S s3 nx nx' tv zs ∧ ks'.Nodup ∧ (∀ j ∈ ks', nx' < j ∧ j < 16) ∧ ks'.length ≤ ks.length + 1 ∧ nx ≤ nx' ∧ nx' ≤ 16 ∧ (∀ j, (j < nx' ∨ j ∈ ks') ↔ ((j < nx ∨ j ∈ ks) ∨ j = k)) ∧ (¬ (k ∉ ks ∧ nx ≤ k) → nx' = nx)) := ⟨fun W hb => in_ord S s first nx ks k W ⟨Lo.start (hW.out.oh.lo.ss.below hb), hW.out.oh.next, hW.out.oh.over, hW.out.oh.dis⟩ hk16 hW.out.hks hW.out.nd (by have := hW.out.hlen; omega) hW.out.hnx⟩
        go_upto_region 11 with (first
          | (go_at_call 12; go_must (refine (hR.out _).mono ?_; rintro e w6 ⟨rfl, hb6⟩; replace hb6 := Kpt.mk hb6))
          | (go_at_call 11; go_must (refine (hIn.out _ hb6.out).mono ?_; rintro e w7 ⟨tv, nx', ks', s3, ts, rfl, hO7, hT7, hnd7, hks7, hlen7, hge7, hle7, hcm7, hst7⟩; replace hO7 := Kpt.mk hO7; replace hT7 := Kpt.mk hT7; replace hnd7 := Kpt.mk hnd7; replace hks7 := Kpt.mk hks7; replace hcm7 := Kpt.mk hcm7; replace hst7 := Kpt.mk hst7; replace hlen7 := Kpt.mk hlen7)))
        have hst67 : St S wo w7 s s3 := (St.of_below s hb6.out).trans hO7.out.lo.st
        have hc7 := Kpt.mk (hW.out.cb.block hst67.fr.size (hst67.fr.block B hW.out.cb.lt hW.out.bx))
        have hx7 : Kpt (¬ s3.X S B) := ⟨fun e => by rcases hst67.new B e with e | e; exact hW.out.bx e; have := hW.out.cb.lt; omega⟩
        have hO3 : Kpt (Oh w3 w7 S (plainS.new first) s3 first nx' ks') := ⟨⟨⟨hO7.out.lo.ss, hW.out.oh.lo.st.trans hst67, fun x hx => by simp at hx, List.nodup_nil⟩, hO7.out.next, hO7.out.over, hO7.out.dis⟩⟩
        obtain ⟨f, hfe⟩ : ∃ f, f = (!cm k && decide (nx ≤ k)) := ⟨_, rfl⟩
        replace hfe := Kpt.mk hfe
        have cbk := hc7.out.cells k hk16
        have hkn : (k : Int) < 16 := by omega
        clear hst67
        go_cut [12] from 19 to 110 (fun t12 wc => t12 = .bool f ∧ wc = w7)
        case first =>
          obtain ⟨ck, hck⟩ : ∃ ck, ck = cm k := ⟨_, rfl⟩
          have hfe2 := hfe.out
          rw [← hck] at cbk hfe2
          clear hck hfe
          cases ck
          · by_cases hnk : nx ≤ k
            · have hnk2 : (nx : Int) ≤ k := by omega
              have hfv : Kpt (f = true) := ⟨by rw [hfe2]; simp [hnk]⟩
              clear hfe2
              go_wp2_with fail
              go_meet
              exact ⟨by rw [hfv.out], rfl⟩
            · have hnk2 : ¬ (nx : Int) ≤ k := by omega
              have hfv : Kpt (f = false) := ⟨by rw [hfe2]; simp [hnk]⟩
              clear hfe2
              go_wp2_with fail
              go_meet
              exact ⟨by rw [hfv.out], rfl⟩
          · have hfv : Kpt (f = false) := ⟨by rw [hfe2]; simp⟩
            clear hfe2
            go_wp2_with fail
            go_meet
            exact ⟨by rw [hfv.out], rfl⟩
        case rest =>
          obtain ⟨rfl, hwc⟩ := hcut
          rw [hwc]
          clear hwc hIn hR hoc h1 h2 h3
          obtain ⟨ta, tc, htv, hsh⟩ := hT7.out.own.shape
          obtain ⟨m, hm⟩ : ∃ m, m = ts.length := ⟨_, rfl⟩
          rw [← hm] at htv
          subst htv
          have hmx : m + nx = nx' := by rw [hm]; exact hT7.out.len
          have htc : Kpt (∀ j, j < m → ∃ g, ta = some ⟨g, 0, none⟩ ∧ (m : Int) ≤ tc ∧ w7.cell? ⟨g, j * 8, none⟩ = some (.int .u32 (100 + ((nx + j : Nat) : Int))) ∧ g ≠ B ∧ g < w7.heap.size) := ⟨fun j hj => by
            rcases hsh with ⟨_, _, hz⟩ | ⟨g, rfl, hg, hc1, _, _, hr⟩
            · omega
            · have hjz : j < ts.length := by omega
              have hz := List.getElem?_eq_getElem hjz
              have h1 := hr j _ hz 0 _ (by rw [Array.getElem?_toList]; exact hT7.out.tags j _ hz)
              have h2 := (hT7.out.off g rfl).2
              have h3 := hW.out.cb.lt
              have h4 := hb6.out.size
              refine ⟨g, rfl, by omega, ?_, by omega, hg⟩
              rw [Nat.add_zero] at h1
              rw [h1]
              congr 2
              omega⟩
          replace hm := Kpt.mk hm
          clear hsh
          have hc8 := Kpt.mk (hc7.out.set hk16)
          have fk := hc7.out.free k
          obtain ⟨cm', hcm'⟩ : ∃ c : Nat → Bool, c = fun j => if j = k then true else cm j := ⟨_, rfl⟩
          rw [← hcm'] at hc8
          have hcm8 : Kpt (∀ j, j < 16 → (cm' j = true ↔ (j < nx' ∨ j ∈ ks'))) := ⟨fun j hj => by
            rw [hcm7.out j, hcm', ← hW.out.hcm j hj]
            by_cases e : j = k
            · simp [e]
            · simp [e]⟩
          clear hcm'
          have hgB := Kpt.mk (grown_setCellK w7 ⟨B, k, none⟩ (.bool true))
          go_wp2_with fail
          obtain ⟨w8, hw8⟩ : ∃ x, x = w7.setCell ⟨B, k, none⟩ (.bool true) := ⟨_, rfl⟩
          rw [← hw8] at hc8 hgB ⊢
          clear hw8 cbk fk
          have hS8 : Kpt (Ss w8 S s3 (hds first ks') ((ocs nx').map Cm.v) []) := ⟨hO3.out.lo.ss.frame (Y := fun b => b = B) (Fr.of_grown hgB.out (fun b e => by injection e with e; exact e.symm)) (fun b hb e => hx7.out (e ▸ hb))⟩
          have hst8 : Kpt (St S w3 w8 (plainS.new first) s3) := ⟨⟨hO3.out.lo.st.fr.trans (Fr.of_grown (X := fun b => b = B) hgB.out (fun b e => by injection e with e; exact e.symm)) (fun b e => .inr (by rw [e]; exact hB4.out)), hO3.out.lo.st.new⟩⟩
          have hW8 : Kpt (Ow w3 w8 S B (plainS.new first) first nx' (i + 1) ks' s3 cm') := ⟨⟨⟨⟨hS8.out, hst8.out, fun x hx => by simp at hx, List.nodup_nil⟩, hO3.out.next, hO3.out.over, hO3.out.dis⟩, hc8.out, hx7.out, hnd7.out, hks7.out, hle7, by have := hlen7.out; have := hW.out.hlen; omega, hcm8.out⟩⟩
          have hnxt := Kpt.mk hO3.out.next
          have htc8 : Kpt (∀ j, j < m → ∃ g, ta = some ⟨g, 0, none⟩ ∧ (m : Int) ≤ tc ∧ w8.cell? ⟨g, j * 8, none⟩ = some (.int .u32 (100 + ((nx + j : Nat) : Int)))) := ⟨fun j hj => by
            obtain ⟨g, e1, e2, e3, e4, e5⟩ := htc.out j hj
            exact ⟨g, e1, e2, (far_cell hgB.out ⟨g, j * 8, none⟩ e5 (fun e => e4 (by injection e with e; exact e.symm))).trans e3⟩⟩
          have hfr : Kpt (f = false → m = 0) := ⟨fun hf0 => by
            have hnf : ¬ (k ∉ ks ∧ nx ≤ k) := fun hx => by
              have h1 : cm k = false := by
                cases hcc : cm k
                · rfl
                · rcases (hW.out.hcm k hk16).1 hcc with h | h
                  · omega
                  · exact absurd h hx.1
              rw [hfe.out, h1] at hf0
              simp [hx.2] at hf0
            have := hst7.out hnf
            omega⟩
          clear hfe hc7 hT7 hO7 htc hW hbw hb6 hO3
          go_loopg [7, 13] m (fun g t7 t13 wx => ∃ (j N : Nat), t7 = .int .i64 (N : Int) ∧ t13 = .int .i64 j ∧ j + g = m ∧ N = nx + j ∧ wx = w8)
          case atStart => exact ⟨0, nx, rfl, rfl, by omega, rfl, rfl⟩
          case round =>
            obtain ⟨j, N, rfl, rfl, hjg, hN, rfl⟩ := hrel
            have hNK := Kpt.mk hN
            clear hN
            by_cases hjm : j < m
            · obtain ⟨g, rfl, hmt, htg⟩ := htc8.out j hjm
              rw [← hNK.out] at htg
              have e3 : (j : Int) < m := by omega
              have hN15 : N < 16 := by have := hNK.out; omega
              have e4 : ¬ (15 : Int) < N := by omega
              have e5 : decide ((15 : Int) < N) = false := by simp; omega
              have cN : wr.cell? ⟨B, N, none⟩ = some (.bool true) := by rw [hc8.out.cells N hN15, (hcm8.out N hN15).2 (.inl (by have := hNK.out; omega))]
              have e6 : (N : Int) < 16 := by omega
              have e7 : IntKind.u32.wrap (100 + (N : Int)) = 100 + (N : Int) := by rw [IntKind.wrap_u32]; omega
              go_wp2_with fail
              go_roundg (m - j - 1)
              case measure => omega
              case rel => exact ⟨j + 1, N + 1, by go_num, by go_num, by omega, by have := hNK.out; omega, rfl⟩
            · have e3 : ¬ (j : Int) < m := by omega
              have hNn : N = nx' := by have := hNK.out; omega
              have e7 : IntKind.u32.wrap (N : Int) = (N : Int) := by rw [IntKind.wrap_u32]; omega
              obtain ⟨D, hD⟩ : ∃ D, D = (first + (N : Int)) % 4294967296 := ⟨_, rfl⟩
              have e8 : IntKind.u32.wrap (first + (N : Int)) = D := by rw [IntKind.wrap_u32, hD]
              have hnD : Kpt (s3.next = D) := ⟨by rw [hnxt.out, hD, hNn]⟩
              replace hD := Kpt.mk hD
              have hNnK := Kpt.mk hNn
              clear hNn
              have hfin : Kpt (∃ (nx2 i2 : Nat) (ks2 : List Nat) (s2 : Se) (cm2 : Nat → Bool), Value.int .i64 (N : Int) = .int .i64 nx2 ∧ Value.int .i64 ((i : Int) + 1) = .int .i64 i2 ∧ i2 ≤ n ∧ i2 + (60 - i - 1) = 60 ∧ Kpt (Ow w3 wr S B (plainS.new first) first nx2 i2 ks2 s2 cm2)) := ⟨nx', i + 1, ks', s3, cm', by rw [hNnK.out], by go_num, by omega, by omega, hW8⟩
              by_cases hN16 : N < 16
              · have e9 : (N : Int) < 16 := by omega
                have e10 : decide ((N : Int) < 16) = true := by simp; omega
                have cN : wr.cell? ⟨B, N, none⟩ = some (.bool false) := by
                  rw [hc8.out.cells N hN16]
                  cases hcc : cm' N
                  · rfl
                  · rcases (hcm8.out N hN16).1 hcc with h | h
                    · have := hNnK.out; omega
                    · have := (hks7.out N h).1; have := hNnK.out; omega
                cases f
                · have hm0 : m = 0 := hfr.out rfl
                  have hm1 : (m : Int) = 0 := by omega
                  have hm2 : ((m : Int) != 0) = false := by simp [hm0]
                  clear hm0
                  go_wp2_with (go_at_call 13; go_must (refine (next_any _ _ _ _ _ _ hS8.out).mono ?_; rintro e wz ⟨rfl, hwz⟩; rw [hwz, hnD.out]; clear hwz))
                  go_roundg (60 - i - 1)
                  case measure => omega
                  case rel => exact hfin.out
                · go_wp2_with (go_at_call 13; go_must (refine (next_any _ _ _ _ _ _ hS8.out).mono ?_; rintro e wz ⟨rfl, hwz⟩; rw [hwz, hnD.out]; clear hwz))
                  go_roundg (60 - i - 1)
                  case measure => omega
                  case rel => exact hfin.out
              · have e9 : ¬ (N : Int) < 16 := by omega
                have e10 : decide ((N : Int) < 16) = false := by simp; omega
                cases f
                · have hm0 : m = 0 := hfr.out rfl
                  have hm1 : (m : Int) = 0 := by omega
                  have hm2 : ((m : Int) != 0) = false := by simp [hm0]
                  clear hm0
                  go_wp2_with (go_at_call 13; go_must (refine (next_any _ _ _ _ _ _ hS8.out).mono ?_; rintro e wz ⟨rfl, hwz⟩; rw [hwz, hnD.out]; clear hwz))
                  go_roundg (60 - i - 1)
                  case measure => omega
                  case rel => exact hfin.out
                · go_wp2_with (go_at_call 13; go_must (refine (next_any _ _ _ _ _ _ hS8.out).mono ?_; rintro e wz ⟨rfl, hwz⟩; rw [hwz, hnD.out]; clear hwz))
                  go_roundg (60 - i - 1)
                  case measure => omega
                  case rel => exact hfin.out
      · have e2 : ¬ (i : Int) < 60 := by omega
        go_wp2_with fail
        go_ret
        exact ⟨rfl, hbw.out⟩
    · have e1 : ¬ (i : Int) < n := by omega
      go_wp2_with fail
      go_ret
      exact ⟨rfl, hbw.out⟩
end Go.Proofs.Ytdplndlmdhpfaaa
