/-
  The document's preempt, behind its looks.
-/
import Derived.Test.YtikndkmpedoooaaPX5
namespace Go.Proofs.Ytikndkmpedoooaa
open Go.RowKit
set_option linter.unusedVariables false
set_option linter.unusedSimpArgs false

/-- Has one of the first k that key? -/
def anyTo (f : Nat → Int) (ac : Int) (k : Nat) : Bool := (List.range k).any (fun i => decide (f i = ac))
theorem anyTo_step (f : Nat → Int) (ac : Int) (k : Nat) : anyTo f ac (k + 1) = (anyTo f ac k || decide (f k = ac)) := by
  unfold anyTo
  rw [List.range_succ, List.any_append]
  simp
theorem has_any (t : Tb) (ac : Int) : t.has ac = anyTo t.ks ac 8 := rfl
set_option maxRecDepth 100000 in
set_option maxHeartbeats 4000000 in
theorem rpre_conf (C : Nat) (t : Tb) (x : Int) (n : Nat) (o : Ou) (w : World) (h : RTab w C t x) (hg : t.good) (hn : n < 8) (hac : o.ac ≠ 0) (htk : t.taken o.ac = false) (hha : t.has o.ac = false) :
    Calls Try.prog 47 #[.pointer (some ⟨C, 0, none⟩), .int .i64 n, .agg o.rvals] w fun e w' => RDone w w' C e (t.preemptR o) (t.preemptE n o) (t.preempt n o) := by
  have hR : t.preemptR o = (24, 0) := by unfold Tb.preemptR; rw [if_neg (by simp [hac]), if_neg (by simp [htk]), if_pos ⟨hac, hha⟩]
  rw [hR, show t.preemptE n o = [] from by unfold Tb.preemptE; rw [hR]; rw [if_pos (by simp)], show t.preempt n o = t from by unfold Tb.preempt; rw [hR]; rw [if_pos (by simp)]]
  have hnt := nt_of htk
  have hlt := h.lt
  have hK := Kpt.mk h
  have c8 := h.c8
  have c9 := h.c9
  have hkd0 := hg.ok.kd0
  have hgn := hg.gn0
  have hn8 : (n : Int) < 8 := by omega
  have hxo := h.hold
  have hone := hg.one
  have hkey := Kpt.mk h.key
  obtain ⟨sv, ty, ky, ac, ap⟩ := o
  simp only [Ou.rvals] at *
  have HY := fun k W => Kpt.mk (risTy_any k W)
  have HA := fun W => Kpt.mk (risAll_any t.kd W)
  have hne : C ≠ w.heap.size := by omega
  clear htk
  unfold Nt at hnt
  rcases hnt with hk0 | ⟨hk0, hal, _⟩ | ⟨hk0, hal, hko⟩
  case inl =>
    rw [hk0] at c8
    clear HA
    have HA := fun W => Kpt.mk (risAll_any 0 W)
    have z1 : ((ac : Int) == 0) = false := by simp [hac]
    have z2 : ((ac : Int) != 0) = true := by simp [hac]
    replace hac := Kpt.mk hac
    clear hxo hone
    go_enter Try.func47, Try.ntmps47
    go_wp2_with (go_at_call 33; go_must (refine (HA _).out.mono ?_; rintro e w0 ⟨rfl, rfl⟩))
    go_quiet ((go_at_call 33; exact Calls.quiet_of_same (HA _).out))
    go_wp2_with fail
    go_loopw [10, 11] (fun r i wr => ∃ k : Nat, k ≤ 8 ∧ r = .bool (false || anyTo t.ks ac k) ∧ i = .int .i64 k ∧ Kpt (∃ q, wr = (w.alloc (.cells #[.int .i64 sv, .int .i64 ty, .int .u64 ky, .int .u64 ac, .bool ap] 52)).drewN q)) (fun _ i _ => 8 - (intOf i).toNat)
    case atStart => exact ⟨0, by omega, by simp [anyTo], rfl, ⟨_, rfl⟩⟩
    case round =>
      obtain ⟨k, hk8, rfl, rfl, hq⟩ := hrel
      obtain ⟨q, hq'⟩ := hq.out
      subst hq'
      by_cases hlt2 : k < 8
      · have e1 : (k : Int) < 8 := by omega
        have hck := hkey.out k hlt2
        have hst := Kpt.mk (anyTo_step t.ks ac k)
        generalize anyTo t.ks ac k = ak at *
        by_cases he : t.ks k = ac
        · have heb : ((t.ks k : Int) == ac) = true := by simp [he]
          replace he := Kpt.mk he
          generalize t.ks k = y at *
          go_wp2_with fail
          go_quiet (fail)
          go_wp2
          go_roundw
          case rel => exact ⟨k + 1, by omega, by rw [hst.out]; simp [he.out], by go_num, ⟨_, by first | rfl | rw [World.drewN_drewN]⟩⟩
          case measure => simp [intOf]; omega
        · have heb : ((t.ks k : Int) == ac) = false := by simp [he]
          replace he := Kpt.mk he
          generalize t.ks k = y at *
          go_wp2_with fail
          go_quiet (fail)
          go_wp2
          go_roundw
          case rel => exact ⟨k + 1, by omega, by rw [hst.out]; simp [he.out], by go_num, ⟨_, by first | rfl | rw [World.drewN_drewN]⟩⟩
          case measure => simp [intOf]; omega
      · have e1 : ¬ (k : Int) < 8 := by omega
        have ek : k = 8 := by omega
        have hfa : Kpt (anyTo t.ks ac k = t.has ac) := ⟨by rw [ek]; rfl⟩
        rw [hfa.out, hha]
        go_wp2
        go_ret3
        exact ⟨_, _, rfl, own_nil _ _ _ _, (hK.out.alloc _).drewN _, grown_trans (grown_alloc _ _ _) (grown_drewN _ _ _)⟩
  case inr.inl =>
    have hkb : ((t.kd : Int) != 0) = true := by simp [hk0]
    rw [hal] at HA
    have z1 : ((ac : Int) == 0) = false := by simp [hac]
    have z2 : ((ac : Int) != 0) = true := by simp [hac]
    replace hac := Kpt.mk hac
    clear hxo hone
    go_enter Try.func47, Try.ntmps47
    go_wp2_with (go_at_call 33; go_must (refine (HA _).out.mono ?_; rintro e w0 ⟨rfl, rfl⟩))
    go_quiet ((go_at_call 33; exact Calls.quiet_of_same (HA _).out))
    go_wp2_with fail
    go_loopw [10, 11] (fun r i wr => ∃ k : Nat, k ≤ 8 ∧ r = .bool (false || anyTo t.ks ac k) ∧ i = .int .i64 k ∧ Kpt (∃ q, wr = (w.alloc (.cells #[.int .i64 sv, .int .i64 ty, .int .u64 ky, .int .u64 ac, .bool ap] 52)).drewN q)) (fun _ i _ => 8 - (intOf i).toNat)
    case atStart => exact ⟨0, by omega, by simp [anyTo], rfl, ⟨_, rfl⟩⟩
    case round =>
      obtain ⟨k, hk8, rfl, rfl, hq⟩ := hrel
      obtain ⟨q, hq'⟩ := hq.out
      subst hq'
      by_cases hlt2 : k < 8
      · have e1 : (k : Int) < 8 := by omega
        have hck := hkey.out k hlt2
        have hst := Kpt.mk (anyTo_step t.ks ac k)
        generalize anyTo t.ks ac k = ak at *
        by_cases he : t.ks k = ac
        · have heb : ((t.ks k : Int) == ac) = true := by simp [he]
          replace he := Kpt.mk he
          generalize t.ks k = y at *
          go_wp2_with fail
          go_quiet (fail)
          go_wp2
          go_roundw
          case rel => exact ⟨k + 1, by omega, by rw [hst.out]; simp [he.out], by go_num, ⟨_, by first | rfl | rw [World.drewN_drewN]⟩⟩
          case measure => simp [intOf]; omega
        · have heb : ((t.ks k : Int) == ac) = false := by simp [he]
          replace he := Kpt.mk he
          generalize t.ks k = y at *
          go_wp2_with fail
          go_quiet (fail)
          go_wp2
          go_roundw
          case rel => exact ⟨k + 1, by omega, by rw [hst.out]; simp [he.out], by go_num, ⟨_, by first | rfl | rw [World.drewN_drewN]⟩⟩
          case measure => simp [intOf]; omega
      · have e1 : ¬ (k : Int) < 8 := by omega
        have ek : k = 8 := by omega
        have hfa : Kpt (anyTo t.ks ac k = t.has ac) := ⟨by rw [ek]; rfl⟩
        rw [hfa.out, hha]
        go_wp2
        go_ret3
        exact ⟨_, _, rfl, own_nil _ _ _ _, (hK.out.alloc _).drewN _, grown_trans (grown_alloc _ _ _) (grown_drewN _ _ _)⟩
  case inr.inr =>
    have hkb : ((t.kd : Int) != 0) = true := by simp [hk0]
    rw [hal] at HA
    obtain ⟨o1, o2, o3⟩ := hone hk0 hal
    have hxe := hxo hk0 hal
    obtain ⟨p, hp⟩ : ∃ p : Nat, x = p := ⟨x.toNat, by omega⟩
    have hp8 : p < 8 := by omega
    have hkp := hkey.out p hp8
    have htp : t.ho.toNat = p := by omega
    rw [htp] at hko o3
    subst hp
    have hp8i : (p : Int) < 8 := by omega
    have z1 : ((ac : Int) == 0) = false := by simp [hac]
    have z2 : ((ac : Int) != 0) = true := by simp [hac]
    have hkob : ((t.ks p : Int) == ac) = false := by simp [hko]
    replace hko := Kpt.mk hko
    replace hac := Kpt.mk hac
    clear hxo hone
    go_enter Try.func47, Try.ntmps47
    go_wp2_with (go_at_call 33; go_must (refine (HA _).out.mono ?_; rintro e w0 ⟨rfl, rfl⟩))
    go_quiet ((go_at_call 33; exact Calls.quiet_of_same (HA _).out))
    go_wp2_with fail
    go_loopw [10, 11] (fun r i wr => ∃ k : Nat, k ≤ 8 ∧ r = .bool (false || anyTo t.ks ac k) ∧ i = .int .i64 k ∧ Kpt (∃ q, wr = (w.alloc (.cells #[.int .i64 sv, .int .i64 ty, .int .u64 ky, .int .u64 ac, .bool ap] 52)).drewN q)) (fun _ i _ => 8 - (intOf i).toNat)
    case atStart => exact ⟨0, by omega, by simp [anyTo], rfl, ⟨_, rfl⟩⟩
    case round =>
      obtain ⟨k, hk8, rfl, rfl, hq⟩ := hrel
      obtain ⟨q, hq'⟩ := hq.out
      subst hq'
      by_cases hlt2 : k < 8
      · have e1 : (k : Int) < 8 := by omega
        have hck := hkey.out k hlt2
        have hst := Kpt.mk (anyTo_step t.ks ac k)
        generalize anyTo t.ks ac k = ak at *
        by_cases he : t.ks k = ac
        · have heb : ((t.ks k : Int) == ac) = true := by simp [he]
          replace he := Kpt.mk he
          generalize t.ks k = y at *
          go_wp2_with fail
          go_quiet (fail)
          go_wp2
          go_roundw
          case rel => exact ⟨k + 1, by omega, by rw [hst.out]; simp [he.out], by go_num, ⟨_, by first | rfl | rw [World.drewN_drewN]⟩⟩
          case measure => simp [intOf]; omega
        · have heb : ((t.ks k : Int) == ac) = false := by simp [he]
          replace he := Kpt.mk he
          generalize t.ks k = y at *
          go_wp2_with fail
          go_quiet (fail)
          go_wp2
          go_roundw
          case rel => exact ⟨k + 1, by omega, by rw [hst.out]; simp [he.out], by go_num, ⟨_, by first | rfl | rw [World.drewN_drewN]⟩⟩
          case measure => simp [intOf]; omega
      · have e1 : ¬ (k : Int) < 8 := by omega
        have ek : k = 8 := by omega
        have hfa : Kpt (anyTo t.ks ac k = t.has ac) := ⟨by rw [ek]; rfl⟩
        rw [hfa.out, hha]
        go_wp2
        go_ret3
        exact ⟨_, _, rfl, own_nil _ _ _ _, (hK.out.alloc _).drewN _, grown_trans (grown_alloc _ _ _) (grown_drewN _ _ _)⟩

end Go.Proofs.Ytikndkmpedoooaa
