/-
  The document's preempt: the reservation is taken (same).
-/
import Derived.Test.YtikndkmpedoooaaPX7
namespace Go.Proofs.Ytikndkmpedoooaa
open Go.RowKit
set_option linter.unusedVariables false
set_option linter.unusedSimpArgs false

set_option maxRecDepth 100000 in
set_option maxHeartbeats 4000000 in
theorem rpre_doneS (C : Nat) (t : Tb) (x : Int) (n : Nat) (o : Ou) (w : World) (h : RTab w C t x) (hg : t.good) (hn : n < 8) (htk : t.taken o.ac = true) (hty : isTy o.ty = true) (hha : o.ac = 0 ∨ t.has o.ac = true) (h5 : 5 ≤ t.kd) (hne2 : t.kd = o.ty) :
    Calls Try.prog 47 #[.pointer (some ⟨C, 0, none⟩), .int .i64 n, .agg o.rvals] w fun e w' => RDone w w' C e (t.preemptR o) (t.preemptE n o) (t.preempt n o) := by
  have hR : t.preemptR o = (0, 0) := by unfold Tb.preemptR; rw [if_neg (by simp [htk]), if_neg (by simp [htk, hty]), if_neg (by rcases hha with e | e <;> simp [e])]
  rw [hR, show t.preemptE n o = rmL n o.ac t.regs from by unfold Tb.preemptE; rw [hR]; simp [htk, hne2], show t.preempt n o = { t.rmG n o with kd := o.ty, ho := n } from by unfold Tb.preempt; rw [hR]; simp [htk]]
  have hnt := tk_of htk
  have hlt := h.lt
  have hK := Kpt.mk h
  have c8 := h.c8
  have c9 := h.c9
  have hkd0 := hg.ok.kd0
  have hgn := hg.gn0
  have hn8 : (n : Int) < 8 := by omega
  have hxo := h.hold
  have hone := hg.one
  have hkey := Kpt.mk h.key
  obtain ⟨sv, ty, ky, ac, ap⟩ := o
  simp only [Ou.rvals] at *
  have HY := fun k W => Kpt.mk (risTy_any k W)
  have HA := fun W => Kpt.mk (risAll_any t.kd W)
  have hne : C ≠ w.heap.size := by omega
  clear htk
  rcases hnt with ⟨hk0, hal, hac⟩ | ⟨hk0, hal, hko⟩
  case inl =>
    replace hne2 := Kpt.mk hne2
    have hkb : ((t.kd : Int) != 0) = true := by simp [hk0]
    rw [hal] at HA
    have z1 : ((ac : Int) == 0) = true := by simp [hac]
    have z2 : ((ac : Int) != 0) = false := by simp [hac]
    replace hac := Kpt.mk hac
    clear hxo hone
    go_enter Try.func47, Try.ntmps47
    go_wp2_with (go_at_call 33; go_must (refine (HA _).out.mono ?_; rintro e w0 ⟨rfl, rfl⟩))
    go_quiet ((go_at_call 33; exact Calls.quiet_of_same (HA _).out))
    go_wp2_with fail
    refine (HY _ _).out.mono ?_
    rintro e w0 ⟨rfl, rfl⟩
    rw [hty]
    go_wp2_with fail
    go_loopw [10, 11] (fun r i wr => ∃ k : Nat, k ≤ 8 ∧ r = .bool (true || anyTo t.ks ac k) ∧ i = .int .i64 k ∧ Kpt (∃ q, wr = (w.alloc (.cells #[.int .i64 sv, .int .i64 ty, .int .u64 ky, .int .u64 ac, .bool ap] 52)).drewN q)) (fun _ i _ => 8 - (intOf i).toNat)
    case atStart => exact ⟨0, by omega, by simp [anyTo], rfl, ⟨_, rfl⟩⟩
    case round =>
      obtain ⟨k, hk8, rfl, rfl, hq⟩ := hrel
      obtain ⟨q, hq'⟩ := hq.out
      subst hq'
      by_cases hlt2 : k < 8
      · have e1 : (k : Int) < 8 := by omega
        have hck := hkey.out k hlt2
        have hst := Kpt.mk (anyTo_step t.ks ac k)
        generalize anyTo t.ks ac k = ak at *
        by_cases he : t.ks k = ac
        · have heb : ((t.ks k : Int) == ac) = true := by simp [he]
          replace he := Kpt.mk he
          generalize t.ks k = y at *
          go_wp2_with fail
          go_quiet (fail)
          go_wp2
          go_roundw
          case rel => exact ⟨k + 1, by omega, by rw [hst.out]; simp [he.out], by go_num, ⟨_, by first | rfl | rw [World.drewN_drewN]⟩⟩
          case measure => simp [intOf]; omega
        · have heb : ((t.ks k : Int) == ac) = false := by simp [he]
          replace he := Kpt.mk he
          generalize t.ks k = y at *
          go_wp2_with fail
          go_quiet (fail)
          go_wp2
          go_roundw
          case rel => exact ⟨k + 1, by omega, by rw [hst.out]; simp [he.out], by go_num, ⟨_, by first | rfl | rw [World.drewN_drewN]⟩⟩
          case measure => simp [intOf]; omega
      · have e1 : ¬ (k : Int) < 8 := by omega
        have ek : k = 8 := by omega
        have hfa : Kpt (anyTo t.ks ac k = t.has ac) := ⟨by rw [ek]; rfl⟩
        rw [Bool.true_or]
        go_wp2_with fail
        obtain ⟨W1, hW1⟩ : ∃ W1 : World, W1 = (w.alloc (.cells #[.int .i64 sv, .int .i64 ty, .int .u64 ky, .int .u64 ac, .bool ap] 52)).drewN q := ⟨_, rfl⟩
        rw [← hW1]
        have hT1 : Kpt (RTab W1 C t x) := ⟨by rw [hW1]; exact (hK.out.alloc _).drewN q⟩
        have hG1 : Kpt (w.grownBy W1 (some C)) := ⟨by rw [hW1]; exact grown_trans (grown_alloc _ _ _) (grown_drewN _ _ _)⟩
        have hs1 : W1.heap.size = w.heap.size + 1 := by rw [hW1]; simp
        have b1 : Kpt (W1.cell? ⟨w.heap.size, 1, none⟩ = some (.int .i64 ty)) := ⟨by rw [hW1]; simp⟩
        have b3 : Kpt (W1.cell? ⟨w.heap.size, 3, none⟩ = some (.int .u64 ac)) := ⟨by rw [hW1]; simp⟩
        have hC1 : C < W1.heap.size := hT1.out.lt
        have hbox : Kpt (∀ W, W1.grownBy W (some C) → W.cell? ⟨w.heap.size, 1, none⟩ = some (.int .i64 ty) ∧ W.cell? ⟨w.heap.size, 3, none⟩ = some (.int .u64 ac)) := ⟨fun W hW => by
          have hbk := hW.block w.heap.size (by omega) (fun e => hne (by simpa using e.symm))
          exact ⟨(World.cell?_of_block (w := W1) (w' := W) (a := ⟨w.heap.size, 1, none⟩) hbk).trans b1.out, (World.cell?_of_block (w := W1) (w' := W) (a := ⟨w.heap.size, 3, none⟩) hbk).trans b3.out⟩⟩
        clear hW1 c8 c9 hK
        go_loopw [12, 13] (fun r i wr => ∃ (k : Nat) (xx : Value), k ≤ 8 ∧ r = xx ∧ i = .int .i64 k ∧ Kpt (Own .i64 57 W1.heap.size wr xx (rmE t.ks n ac k)) ∧ Kpt (RTab wr C { t with ks := rmF t.ks n ac k } x) ∧ Kpt (W1.grownBy wr (some C))) (fun _ i _ => 8 - (intOf i).toNat)
        case atStart => exact ⟨0, _, by omega, rfl, rfl, ⟨own_nil _ _ _ _⟩, ⟨by rw [rmF_zero]; exact hT1.out⟩, ⟨grown_refl _ _⟩⟩
        case round =>
          obtain ⟨k, xx, hk8, hx0, rfl, hO, hT, hG⟩ := hrel
          replace hx0 := hx0.symm
          subst hx0
          by_cases hlt3 : k < 8
          case pos =>
            have e1 : (k : Int) < 8 := by omega
            have hck := hT.out.key k hlt3
            rw [show ({ t with ks := rmF t.ks n ac k } : Tb).ks k = t.ks k from rmF_at t.ks n ac k] at hck
            have hfk := hT.out.free k
            have hst : Kpt (rmE t.ks n ac (k + 1) = rmE t.ks n ac k ++ if t.ks k ≠ 0 ∧ rmP n ac ((k : Int), t.ks k) = true then [((k : Int), 10757)] else []) := ⟨rfl⟩
            have hsk := Kpt.mk (rmF_step t.ks n ac k)
            have hll := Kpt.mk (rmE_len t.ks n ac k)
            obtain ⟨g1, g3⟩ := hbox.out wr hG.out
            have hwl : w.heap.size < wr.heap.size := by have := hG.out.size; omega
            have hs11 : W1.heap.size ≤ wr.heap.size := hG.out.size
            have hCw : C < wr.heap.size := by omega
            have hbk : Kpt (∀ g, xx.ownBlock = some g → ∀ (o1 : Obj) (q : Nat), (((wr.drewN q).setCell ⟨C, k, none⟩ (.int .u64 0)).alloc o1).heap[g]? = wr.heap[g]?) := ⟨fun g hg o1 q => by
              have h1 := hO.out.lt hg
              exact (Below.heap_alloc _ _ _ (by simp; omega)).trans (Below.heap_setCell _ _ _ _ (fun e => by simp at e; omega))⟩
            have hrp : Kpt (rmP n ac ((k : Int), t.ks k) = decide ((k : Int) ≠ n ∧ (ac = 0 ∨ t.ks k = ac))) := ⟨rfl⟩
            generalize t.ks k = y at *
            by_cases hkn : k = n
            case pos =>
              subst hkn
              have hkb : ((k : Int) != (k : Int)) = false := by simp
              go_wp2_with fail
              go_quiet (fail)
              go_wp2
              go_roundw
              case rel => exact ⟨k + 1, xx, by omega, rfl, by go_num, ⟨by rw [hst.out, if_neg (no_rm_self), List.append_nil]; exact hO.out.of_block (fun _ _ => rfl)⟩, ⟨by rw [hsk.out, if_neg (no_rm_self)]; exact hT.out.drewN _⟩, ⟨grown_trans hG.out (grown_drewN _ _ _)⟩⟩
              case measure => simp [intOf]; omega
            case neg =>
            have hkb : ((k : Int) != (n : Int)) = true := by simp; omega
            by_cases hy0 : y = 0
            case pos =>
              subst hy0
              go_wp2_with fail
              go_quiet (fail)
              go_wp2
              go_roundw
              case rel => exact ⟨k + 1, xx, by omega, rfl, by go_num, ⟨by rw [hst.out, if_neg (no_rm_zero), List.append_nil]; exact hO.out.of_block (fun _ _ => rfl)⟩, ⟨by rw [hsk.out, if_neg (no_rm_zero)]; exact hT.out.drewN _⟩, ⟨grown_trans hG.out (grown_drewN _ _ _)⟩⟩
              case measure => simp [intOf]; omega
            case neg =>
            have hyb : ((y : Int) != 0) = true := by simp [hy0]
            replace hy0 := Kpt.mk hy0
            have hTs := Kpt.mk (fun q => (hT.out.drewN q).setKey k hlt3 0)
            go_wp2_with fail
            go_quiet (fail)
            go_wp2_with (at_builtin; go_must (refine wpList_append_row (κ := .i64) Try.underlying48 Try.infoREV rfl (by decide) rfl (.tmp 133) (.tmp 136) rfl W1.heap.size xx _ (rmE t.ks n ac k) [((k : Int), 10757)] rfl rfl (rowOf_at .i64 _ ((k : Int), 10757) _ wr.heap.size (by simp)) (hO.out.of_block (fun g hg => hbk.out g hg _ _)) (by have := hll.out; simp; omega) (by simp; omega) ?_; intro v' w3 ho3 hg3 hor))
            have hTT : Kpt (RTab w3 C _ _) := ⟨((hTs.out _).alloc _).grown hg3.out (fun e => by have := (hO.out.lt e).1; omega)⟩
            have hGG : Kpt (W1.grownBy w3 (some C)) := ⟨grown_via1 hG.out _ hg3.out (fun g hg => (hO.out.lt hg).1)⟩
            go_wp2
            go_roundw
            case rel => exact ⟨k + 1, v', by omega, rfl, by go_num, ⟨by rw [hst.out, if_pos (yes_rm hy0.out (by omega) (.inl hac.out))]; exact ho3.out⟩, ⟨by rw [hsk.out, if_pos (yes_rm hy0.out (by omega) (.inl hac.out))]; exact hTT.out⟩, hGG⟩
            case measure => simp [intOf]; omega
          case neg =>
            have e1 : ¬ (k : Int) < 8 := by omega
            have ek : k = 8 := by omega
            have hTR : Kpt (RTab wr C (t.rm n ac) x) := ⟨hT.out.congr (fun j hj => by show (if rmP n ac ((j : Int), t.ks j) = true then 0 else t.ks j) = rmF t.ks n ac k j; unfold rmF; have : j < k := (by omega); simp [this]) rfl rfl rfl hT.out.hold⟩
            have hOR : Kpt (Own .i64 57 W1.heap.size wr xx (rmL n ac t.regs)) := ⟨by have := hO.out; rw [rmE_eq, ek] at this; exact this⟩
            obtain ⟨g1, g3⟩ := hbox.out wr hG.out
            have d8 : wr.cell? ⟨C, 8, none⟩ = some (.int .i64 t.kd) := hTR.out.c8
            have d9 := hTR.out.c9
            have d10 : wr.cell? ⟨C, 10, none⟩ = some (.int .u32 t.gn) := hTR.out.c10
            have df := hTR.out.free
            have dlt := hTR.out.lt
            have hwl : w.heap.size < wr.heap.size := by have := hG.out.size; omega
            have hGw : Kpt (w.grownBy wr (some C)) := ⟨grown_trans hG1.out hG.out⟩
            have hs11 : Kpt (W1.heap.size ≤ wr.heap.size) := ⟨hG.out.size⟩
            clear hT hO hG hT1 hG1
            have hTk : RTab ((wr.setCell ⟨C, 8, none⟩ (.int .i64 ty)).setCell ⟨C, 9, none⟩ (.int .i64 n)) C { t.rm n ac with kd := ty, ho := n } n := hTR.out.setKH ty n n (fun _ _ => rfl)
            have hGk : Kpt (w.grownBy ((wr.setCell ⟨C, 8, none⟩ (.int .i64 ty)).setCell ⟨C, 9, none⟩ (.int .i64 n)) (some C)) := ⟨grown_trans hGw.out (grown_trans (grown_setCell _ ⟨C, 8, none⟩ _) (grown_setCell _ ⟨C, 9, none⟩ _))⟩
            have hOk : Kpt (Own .i64 57 W1.heap.size ((wr.setCell ⟨C, 8, none⟩ (.int .i64 ty)).setCell ⟨C, 9, none⟩ (.int .i64 n)) xx (rmL n ac t.regs)) := ⟨hOR.out.of_block (fun g hg => by
              have hgC : g ≠ C := fun e => by have := (hOR.out.lt hg).1; omega
              exact (Below.heap_setCell _ _ _ _ (fun e => hgC (by simpa using e))).trans (Below.heap_setCell _ _ _ _ (fun e => hgC (by simpa using e))))⟩
            have hF : Kpt (RTab (((wr.setCell ⟨C, 8, none⟩ (.int .i64 ty)).setCell ⟨C, 9, none⟩ (.int .i64 n)).setCell ⟨C, 10, none⟩ (.int .u32 ((t.gn + 1) % 4294967296))) C { t.rmG n ⟨sv, ty, ky, ac, ap⟩ with kd := ty, ho := n } n) := ⟨hTk.setGn _⟩
            clear hTk
            generalize t.gn = gn at *
            generalize t.kd = kd at *
            have hne3 := hne2.out.symm
            clear hne2
            subst hne3
            go_wp2
            go_ret3
            exact ⟨xx, n, rfl, (hOk.out.lower (base' := w.heap.size) (by omega)).of_block (fun g hg => by have hgC : g ≠ C := (fun e => by have := (hOk.out.lt hg).1; omega); exact Below.heap_setCell _ _ _ _ (fun e => hgC (by simpa using e))), hF.out, grown_trans hGk.out (grown_setCell _ ⟨C, 10, none⟩ _)⟩
  case inr =>
    replace hne2 := Kpt.mk hne2
    have hkb : ((t.kd : Int) != 0) = true := by simp [hk0]
    rw [hal] at HA
    obtain ⟨o1, o2, o3⟩ := hone hk0 hal
    have hxe := hxo hk0 hal
    obtain ⟨p, hp⟩ : ∃ p : Nat, x = p := ⟨x.toNat, by omega⟩
    have hp8 : p < 8 := by omega
    have hkp := hkey.out p hp8
    have htp : t.ho.toNat = p := by omega
    rw [htp] at hko o3
    subst hp
    have hp8i : (p : Int) < 8 := by omega
    have hac : ac ≠ 0 := by rw [← hko]; exact o3
    rw [hko] at hkp
    have hha2 : t.has ac = true := hha.resolve_left hac
    replace hko := Kpt.mk hko
    replace o3 := Kpt.mk o3
    have z1 : ((ac : Int) == 0) = false := by simp [hac]
    have z2 : ((ac : Int) != 0) = true := by simp [hac]
    replace hac := Kpt.mk hac
    clear hxo hone
    go_enter Try.func47, Try.ntmps47
    go_wp2_with (go_at_call 33; go_must (refine (HA _).out.mono ?_; rintro e w0 ⟨rfl, rfl⟩))
    go_quiet ((go_at_call 33; exact Calls.quiet_of_same (HA _).out))
    go_wp2_with fail
    refine (HY _ _).out.mono ?_
    rintro e w0 ⟨rfl, rfl⟩
    rw [hty]
    go_wp2_with fail
    go_loopw [10, 11] (fun r i wr => ∃ k : Nat, k ≤ 8 ∧ r = .bool (false || anyTo t.ks ac k) ∧ i = .int .i64 k ∧ Kpt (∃ q, wr = (w.alloc (.cells #[.int .i64 sv, .int .i64 ty, .int .u64 ky, .int .u64 ac, .bool ap] 52)).drewN q)) (fun _ i _ => 8 - (intOf i).toNat)
    case atStart => exact ⟨0, by omega, by simp [anyTo], rfl, ⟨_, rfl⟩⟩
    case round =>
      obtain ⟨k, hk8, rfl, rfl, hq⟩ := hrel
      obtain ⟨q, hq'⟩ := hq.out
      subst hq'
      by_cases hlt2 : k < 8
      · have e1 : (k : Int) < 8 := by omega
        have hck := hkey.out k hlt2
        have hst := Kpt.mk (anyTo_step t.ks ac k)
        generalize anyTo t.ks ac k = ak at *
        by_cases he : t.ks k = ac
        · have heb : ((t.ks k : Int) == ac) = true := by simp [he]
          replace he := Kpt.mk he
          generalize t.ks k = y at *
          go_wp2_with fail
          go_quiet (fail)
          go_wp2
          go_roundw
          case rel => exact ⟨k + 1, by omega, by rw [hst.out]; simp [he.out], by go_num, ⟨_, by first | rfl | rw [World.drewN_drewN]⟩⟩
          case measure => simp [intOf]; omega
        · have heb : ((t.ks k : Int) == ac) = false := by simp [he]
          replace he := Kpt.mk he
          generalize t.ks k = y at *
          go_wp2_with fail
          go_quiet (fail)
          go_wp2
          go_roundw
          case rel => exact ⟨k + 1, by omega, by rw [hst.out]; simp [he.out], by go_num, ⟨_, by first | rfl | rw [World.drewN_drewN]⟩⟩
          case measure => simp [intOf]; omega
      · have e1 : ¬ (k : Int) < 8 := by omega
        have ek : k = 8 := by omega
        have hfa : Kpt (anyTo t.ks ac k = t.has ac) := ⟨by rw [ek]; rfl⟩
        rw [hfa.out, hha2]
        go_wp2_with fail
        obtain ⟨W1, hW1⟩ : ∃ W1 : World, W1 = (w.alloc (.cells #[.int .i64 sv, .int .i64 ty, .int .u64 ky, .int .u64 ac, .bool ap] 52)).drewN q := ⟨_, rfl⟩
        rw [← hW1]
        have hT1 : Kpt (RTab W1 C t (p : Int)) := ⟨by rw [hW1]; exact (hK.out.alloc _).drewN q⟩
        have hG1 : Kpt (w.grownBy W1 (some C)) := ⟨by rw [hW1]; exact grown_trans (grown_alloc _ _ _) (grown_drewN _ _ _)⟩
        have hs1 : W1.heap.size = w.heap.size + 1 := by rw [hW1]; simp
        have b1 : Kpt (W1.cell? ⟨w.heap.size, 1, none⟩ = some (.int .i64 ty)) := ⟨by rw [hW1]; simp⟩
        have b3 : Kpt (W1.cell? ⟨w.heap.size, 3, none⟩ = some (.int .u64 ac)) := ⟨by rw [hW1]; simp⟩
        have hC1 : C < W1.heap.size := hT1.out.lt
        have hbox : Kpt (∀ W, W1.grownBy W (some C) → W.cell? ⟨w.heap.size, 1, none⟩ = some (.int .i64 ty) ∧ W.cell? ⟨w.heap.size, 3, none⟩ = some (.int .u64 ac)) := ⟨fun W hW => by
          have hbk := hW.block w.heap.size (by omega) (fun e => hne (by simpa using e.symm))
          exact ⟨(World.cell?_of_block (w := W1) (w' := W) (a := ⟨w.heap.size, 1, none⟩) hbk).trans b1.out, (World.cell?_of_block (w := W1) (w' := W) (a := ⟨w.heap.size, 3, none⟩) hbk).trans b3.out⟩⟩
        clear hW1 c8 c9 hK
        go_loopw [12, 13] (fun r i wr => ∃ (k : Nat) (xx : Value), k ≤ 8 ∧ r = xx ∧ i = .int .i64 k ∧ Kpt (Own .i64 57 W1.heap.size wr xx (rmE t.ks n ac k)) ∧ Kpt (RTab wr C { t with ks := rmF t.ks n ac k } (p : Int)) ∧ Kpt (W1.grownBy wr (some C))) (fun _ i _ => 8 - (intOf i).toNat)
        case atStart => exact ⟨0, _, by omega, rfl, rfl, ⟨own_nil _ _ _ _⟩, ⟨by rw [rmF_zero]; exact hT1.out⟩, ⟨grown_refl _ _⟩⟩
        case round =>
          obtain ⟨k, xx, hk8, hx0, rfl, hO, hT, hG⟩ := hrel
          replace hx0 := hx0.symm
          subst hx0
          by_cases hlt3 : k < 8
          case pos =>
            have e1 : (k : Int) < 8 := by omega
            have hck := hT.out.key k hlt3
            rw [show ({ t with ks := rmF t.ks n ac k } : Tb).ks k = t.ks k from rmF_at t.ks n ac k] at hck
            have hfk := hT.out.free k
            have hst : Kpt (rmE t.ks n ac (k + 1) = rmE t.ks n ac k ++ if t.ks k ≠ 0 ∧ rmP n ac ((k : Int), t.ks k) = true then [((k : Int), 10757)] else []) := ⟨rfl⟩
            have hsk := Kpt.mk (rmF_step t.ks n ac k)
            have hll := Kpt.mk (rmE_len t.ks n ac k)
            obtain ⟨g1, g3⟩ := hbox.out wr hG.out
            have hwl : w.heap.size < wr.heap.size := by have := hG.out.size; omega
            have hs11 : W1.heap.size ≤ wr.heap.size := hG.out.size
            have hCw : C < wr.heap.size := by omega
            have hbk : Kpt (∀ g, xx.ownBlock = some g → ∀ (o1 : Obj) (q : Nat), (((wr.drewN q).setCell ⟨C, k, none⟩ (.int .u64 0)).alloc o1).heap[g]? = wr.heap[g]?) := ⟨fun g hg o1 q => by
              have h1 := hO.out.lt hg
              exact (Below.heap_alloc _ _ _ (by simp; omega)).trans (Below.heap_setCell _ _ _ _ (fun e => by simp at e; omega))⟩
            have hrp : Kpt (rmP n ac ((k : Int), t.ks k) = decide ((k : Int) ≠ n ∧ (ac = 0 ∨ t.ks k = ac))) := ⟨rfl⟩
            generalize t.ks k = y at *
            by_cases hkn : k = n
            case pos =>
              subst hkn
              have hkb : ((k : Int) != (k : Int)) = false := by simp
              go_wp2_with fail
              go_quiet (fail)
              go_wp2
              go_roundw
              case rel => exact ⟨k + 1, xx, by omega, rfl, by go_num, ⟨by rw [hst.out, if_neg (no_rm_self), List.append_nil]; exact hO.out.of_block (fun _ _ => rfl)⟩, ⟨by rw [hsk.out, if_neg (no_rm_self)]; exact hT.out.drewN _⟩, ⟨grown_trans hG.out (grown_drewN _ _ _)⟩⟩
              case measure => simp [intOf]; omega
            case neg =>
            have hkb : ((k : Int) != (n : Int)) = true := by simp; omega
            by_cases hy0 : y = 0
            case pos =>
              subst hy0
              go_wp2_with fail
              go_quiet (fail)
              go_wp2
              go_roundw
              case rel => exact ⟨k + 1, xx, by omega, rfl, by go_num, ⟨by rw [hst.out, if_neg (no_rm_zero), List.append_nil]; exact hO.out.of_block (fun _ _ => rfl)⟩, ⟨by rw [hsk.out, if_neg (no_rm_zero)]; exact hT.out.drewN _⟩, ⟨grown_trans hG.out (grown_drewN _ _ _)⟩⟩
              case measure => simp [intOf]; omega
            case neg =>
            have hyb : ((y : Int) != 0) = true := by simp [hy0]
            by_cases hya : y = ac
            case pos =>
              have heb : ((y : Int) == ac) = true := by simp [hya]
              replace hya := Kpt.mk hya
              replace hy0 := Kpt.mk hy0
              have hTs := Kpt.mk (fun q => (hT.out.drewN q).setKey k hlt3 0)
              go_wp2_with fail
              go_quiet (fail)
              go_wp2_with (at_builtin; go_must (refine wpList_append_row (κ := .i64) Try.underlying48 Try.infoREV rfl (by decide) rfl (.tmp 133) (.tmp 136) rfl W1.heap.size xx _ (rmE t.ks n ac k) [((k : Int), 10757)] rfl rfl (rowOf_at .i64 _ ((k : Int), 10757) _ wr.heap.size (by simp)) (hO.out.of_block (fun g hg => hbk.out g hg _ _)) (by have := hll.out; simp; omega) (by simp; omega) ?_; intro v' w3 ho3 hg3 hor))
              have hTT : Kpt (RTab w3 C _ _) := ⟨((hTs.out _).alloc _).grown hg3.out (fun e => by have := (hO.out.lt e).1; omega)⟩
              have hGG : Kpt (W1.grownBy w3 (some C)) := ⟨grown_via1 hG.out _ hg3.out (fun g hg => (hO.out.lt hg).1)⟩
              go_wp2
              go_roundw
              case rel => exact ⟨k + 1, v', by omega, rfl, by go_num, ⟨by rw [hst.out, if_pos (yes_rm hy0.out (by omega) (.inr hya.out))]; exact ho3.out⟩, ⟨by rw [hsk.out, if_pos (yes_rm hy0.out (by omega) (.inr hya.out))]; exact hTT.out⟩, hGG⟩
              case measure => simp [intOf]; omega
            case neg =>
              have heb : ((y : Int) == ac) = false := by simp [hya]
              replace hya := Kpt.mk hya
              go_wp2_with fail
              go_quiet (fail)
              go_wp2
              go_roundw
              case rel => exact ⟨k + 1, xx, by omega, rfl, by go_num, ⟨by rw [hst.out, if_neg (no_rm hac.out hya.out), List.append_nil]; exact hO.out.of_block (fun _ _ => rfl)⟩, ⟨by rw [hsk.out, if_neg (no_rm hac.out hya.out)]; exact hT.out.drewN _⟩, ⟨grown_trans hG.out (grown_drewN _ _ _)⟩⟩
              case measure => simp [intOf]; omega
          case neg =>
            have e1 : ¬ (k : Int) < 8 := by omega
            have ek : k = 8 := by omega
            have hTR : Kpt (RTab wr C (t.rm n ac) (p : Int)) := ⟨hT.out.congr (fun j hj => by show (if rmP n ac ((j : Int), t.ks j) = true then 0 else t.ks j) = rmF t.ks n ac k j; unfold rmF; have : j < k := (by omega); simp [this]) rfl rfl rfl hT.out.hold⟩
            have hOR : Kpt (Own .i64 57 W1.heap.size wr xx (rmL n ac t.regs)) := ⟨by have := hO.out; rw [rmE_eq, ek] at this; exact this⟩
            obtain ⟨g1, g3⟩ := hbox.out wr hG.out
            have d8 : wr.cell? ⟨C, 8, none⟩ = some (.int .i64 t.kd) := hTR.out.c8
            have d9 := hTR.out.c9
            have d10 : wr.cell? ⟨C, 10, none⟩ = some (.int .u32 t.gn) := hTR.out.c10
            have df := hTR.out.free
            have dlt := hTR.out.lt
            have hwl : w.heap.size < wr.heap.size := by have := hG.out.size; omega
            have hGw : Kpt (w.grownBy wr (some C)) := ⟨grown_trans hG1.out hG.out⟩
            have hs11 : Kpt (W1.heap.size ≤ wr.heap.size) := ⟨hG.out.size⟩
            clear hT hO hG hT1 hG1
            have hTk : RTab ((wr.setCell ⟨C, 8, none⟩ (.int .i64 ty)).setCell ⟨C, 9, none⟩ (.int .i64 n)) C { t.rm n ac with kd := ty, ho := n } n := hTR.out.setKH ty n n (fun _ _ => rfl)
            have hGk : Kpt (w.grownBy ((wr.setCell ⟨C, 8, none⟩ (.int .i64 ty)).setCell ⟨C, 9, none⟩ (.int .i64 n)) (some C)) := ⟨grown_trans hGw.out (grown_trans (grown_setCell _ ⟨C, 8, none⟩ _) (grown_setCell _ ⟨C, 9, none⟩ _))⟩
            have hOk : Kpt (Own .i64 57 W1.heap.size ((wr.setCell ⟨C, 8, none⟩ (.int .i64 ty)).setCell ⟨C, 9, none⟩ (.int .i64 n)) xx (rmL n ac t.regs)) := ⟨hOR.out.of_block (fun g hg => by
              have hgC : g ≠ C := fun e => by have := (hOR.out.lt hg).1; omega
              exact (Below.heap_setCell _ _ _ _ (fun e => hgC (by simpa using e))).trans (Below.heap_setCell _ _ _ _ (fun e => hgC (by simpa using e))))⟩
            have hF : Kpt (RTab (((wr.setCell ⟨C, 8, none⟩ (.int .i64 ty)).setCell ⟨C, 9, none⟩ (.int .i64 n)).setCell ⟨C, 10, none⟩ (.int .u32 ((t.gn + 1) % 4294967296))) C { t.rmG n ⟨sv, ty, ky, ac, ap⟩ with kd := ty, ho := n } n) := ⟨hTk.setGn _⟩
            clear hTk
            generalize t.gn = gn at *
            generalize t.kd = kd at *
            have hne3 := hne2.out.symm
            clear hne2
            subst hne3
            go_wp2
            go_ret3
            exact ⟨xx, n, rfl, (hOk.out.lower (base' := w.heap.size) (by omega)).of_block (fun g hg => by have hgC : g ≠ C := (fun e => by have := (hOk.out.lt hg).1; omega); exact Below.heap_setCell _ _ _ _ (fun e => hgC (by simpa using e))), hF.out, grown_trans hGk.out (grown_setCell _ ⟨C, 10, none⟩ _)⟩

end Go.Proofs.Ytikndkmpedoooaa
