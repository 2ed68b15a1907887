/-
  text: the document's First.
-/
import Derived.Test.YtplifodddfjhdabDoorXFsts
import Derived.Test.YtplifodddfjhdabDoorXFnl
namespace Go.Proofs.YtplifodddfjhdabDoor
open Go.RowKit
set_option linter.unusedVariables false
set_option linter.unusedSimpArgs false

theorem idx_at : ∀ (l : List Int) (c : Int) (m : Nat), (∀ j, j < m → l.getD j 0 ≠ c) → m < l.length → l.getD m 0 = c → idxL l c = some m
  | [], c, m, _, h, _ => by simp at h
  | z :: l, c, 0, _, _, h => by
    have : z = c := by simpa using h
    simp [idxL, this]
  | z :: l, c, m + 1, hn, hl, h => by
    have h0 : ¬ z = c := by have := hn 0 (by omega); simpa using this
    have := idx_at l c m (fun j hj => by have := hn (j + 1) (by omega); simpa using this) (by simpa using hl) (by simpa using h)
    simp [idxL, h0, this]
theorem idx_no : ∀ (l : List Int) (c : Int), (∀ j, j < l.length → l.getD j 0 ≠ c) → idxL l c = none
  | [], c, _ => rfl
  | z :: l, c, hn => by
    have h0 : ¬ z = c := by have := hn 0 (by simp); simpa using this
    have := idx_no l c (fun j hj => by have := hn (j + 1) (by simpa using hj); simpa using this)
    simp [idxL, h0, this]
theorem drop_getX (l : List Int) (k j : Nat) : (l.drop k).getD j 0 = l.getD (k + j) 0 := by
  rw [List.getD_eq_getElem?_getD, List.getD_eq_getElem?_getD, List.getElem?_drop]
/-- The piece that ends at a comma, or at the end. -/
theorem piece_eq (S : ByteArray) (fr i : Nat) (h : fr ≤ i) : S.extract fr i = strOfNums (((nums S).drop fr).take (i - fr)) := by
  apply nums_inj
  rw [nums_ext, nums_str _ ((nums_byte S).drop fr |>.take _), List.drop_take]
theorem pcs_comma (S : ByteArray) (fr i : Nat) (h : fr ≤ i) (hi : i < S.size) (hn : ∀ j, fr ≤ j → j < i → (nums S).getD j 0 ≠ 44) (hc : (nums S).getD i 0 = 44) :
    pcsS ((nums S).drop fr) = S.extract fr i :: pcsS ((nums S).drop (i + 1)) := by
  have hx : idxL ((nums S).drop fr) 44 = some (i - fr) := idx_at _ _ _ (fun j hj => by rw [drop_getX]; exact hn _ (by omega) (by omega)) (by rw [List.length_drop, nums_len]; omega) (by rw [drop_getX, show fr + (i - fr) = i by omega]; exact hc)
  unfold pcsS
  rw [pcsL_some hx, List.map_cons, piece_eq S fr i h, List.drop_drop, show fr + (i - fr + 1) = i + 1 by omega]
theorem pcs_end (S : ByteArray) (fr : Nat) (h : fr ≤ S.size) (hn : ∀ j, fr ≤ j → j < S.size → (nums S).getD j 0 ≠ 44) :
    pcsS ((nums S).drop fr) = [S.extract fr S.size] := by
  have hx : idxL ((nums S).drop fr) 44 = none := idx_no _ _ (fun j hj => by rw [List.length_drop, nums_len] at hj; rw [drop_getX]; exact hn _ (by omega) (by omega))
  unfold pcsS
  rw [pcsL_none hx, List.map_cons, List.map_nil, piece_eq S fr S.size h, List.take_of_length_le (by rw [List.length_drop, nums_len]; omega)]
theorem not_in {os : List ByteArray} {x : ByteArray} (h : ∀ j, j < os.length → ¬ os.getD j ByteArray.empty = x) : ¬ Lib.containsS os x = true := fun hc => by
  have := (Lib.containsS_iff os x).1 hc
  obtain ⟨j, hj, rfl⟩ := List.getElem_of_mem this
  exact h j hj (by rw [List.getD_eq_getElem?_getD, List.getElem?_eq_getElem hj]; rfl)
theorem is_in {os : List ByteArray} {x : ByteArray} {j : Nat} (hj : j < os.length) (h : os.getD j ByteArray.empty = x) : Lib.containsS os x = true := by
  rw [Lib.containsS_iff, ← h, List.getD_eq_getElem?_getD, List.getElem?_eq_getElem hj]
  exact List.getElem_mem hj

set_option maxRecDepth 100000 in
set_option maxHeartbeats 4000000 in
theorem rfirst_any (S : ByteArray) (hl : S.size ≤ 281474976710656) (a : Option Addr) (n c : Nat) (os : List ByteArray) (w : World) (hst : StAt w (.slice a n c) os) (hn : n ≤ maxLen) :
    Calls Tryd.prog 8 #[.string S, .slice a n c] w fun e w' => e = .returned (.string (firstP os (pcsS (nums S)))) ∧ Sm w w' := by
  have hlen : os.length = n := by obtain ⟨a', c', hv, _⟩ := hst; simp only [Value.slice.injEq] at hv; exact hv.2.1.symm
  have hcell : Kpt (∀ W, Sm w W → ∀ j, j < n → ∃ b off, a = some ⟨b, off, none⟩ ∧ W.cell? ⟨b, off + j, none⟩ = some (.string (os.getD j ByteArray.empty))) := ⟨fun W hW j hj => by
    obtain ⟨a', c', hv, _, h2⟩ := hst
    simp only [Value.slice.injEq] at hv
    obtain ⟨rfl, -, -⟩ := hv
    rcases h2 with h2 | ⟨b, off, rfl, hlt, hc⟩
    · omega
    · exact ⟨b, off, rfl, by rw [← hc j (by omega)]; exact World.cell?_of_block (by rw [hW.heap])⟩⟩
  have hlen' := Kpt.mk hlen
  unfold maxLen at hn
  clear hst hlen
  go_enter Tryd.func8, Tryd.ntmps8
  go_wp2
  go_loopw [5, 6] (fun t5 t6 wr => ∃ fr i : Nat, t5 = .int .i64 fr ∧ t6 = .int .i64 i ∧ i ≤ S.size + 1 ∧ fr ≤ i ∧ Kpt (Sm w wr) ∧ Kpt (i ≤ S.size → (∀ j, fr ≤ j → j < i → (nums S).getD j 0 ≠ 44) ∧ firstP os (pcsS (nums S)) = firstP os (pcsS ((nums S).drop fr))) ∧ Kpt (i = S.size + 1 → firstP os (pcsS (nums S)) = ⟨#[82, 101, 106, 101, 99, 116]⟩)) (fun _ t _ => S.size + 1 - (intOf t).toNat)
  case atStart => exact ⟨0, 0, rfl, rfl, by omega, by omega, ⟨Sm.refl _⟩, ⟨fun _ => ⟨fun j _ hj => by omega, rfl⟩⟩, ⟨fun h => by omega⟩⟩
  case round =>
    obtain ⟨fr, i, rfl, rfl, hi, hfr, hsm, hA, hB⟩ := hrel
    by_cases hlast : i = S.size + 1
    · subst hlast
      have hE := Kpt.mk (hB.out rfl)
      have hI : ¬ ((S.size + 1 : Nat) : Int) ≤ S.size := by omega
      clear hA hB
      go_wp2
      go_ret
      exact ⟨by rw [hE.out]; rfl, hsm.out⟩
    · have hle : i ≤ S.size := by omega
      have hleI : (i : Int) ≤ S.size := by omega
      obtain ⟨hno, hq⟩ := hA.out hle
      replace hno := Kpt.mk hno
      replace hq := Kpt.mk hq
      clear hA hB
      by_cases hgo : ∃ h : i < S.size, ¬ S[i].toNat = 44
      · obtain ⟨hlt, h44⟩ := hgo
        have hltI : (i : Int) < S.size := by omega
        have h44I : ¬ ((S[i].toNat : Nat) : Int) = 44 := by omega
        have hno2 : Kpt (∀ j, fr ≤ j → j < i + 1 → (nums S).getD j 0 ≠ 44) := ⟨fun j h1 h2 => by
          by_cases hj : j < i
          · exact hno.out j h1 hj
          · obtain rfl : j = i := by omega
            rw [nums_at S j hlt]; exact h44I⟩
        go_wp2
        go_roundw
        case rel => exact ⟨fr, i + 1, rfl, by go_num, by omega, by omega, hsm, ⟨fun _ => ⟨hno2.out, hq.out⟩⟩, ⟨fun h => by omega⟩⟩
        case measure => simp [intOf]; omega
      · by_cases hend : i = S.size
        · have hltI : ¬ (i : Int) < S.size := by omega
          obtain rfl : i = S.size := by omega
          have hp := Kpt.mk (pcs_end S fr hfr hno.out)
          obtain ⟨pc, hpc⟩ : ∃ pc, pc = S.extract fr S.size := ⟨_, rfl⟩
          rw [← hpc] at hp
          have hfrI : (fr : Int) ≤ S.size := by omega
          replace hpc := hpc.symm
          clear hgo
          go_wp2
          go_loopw [7] (fun t wr => ∃ j : Nat, j ≤ n ∧ t = .int .i64 j ∧ Kpt (Sm w wr) ∧ Kpt (∀ m, m < j → ¬ os.getD m ByteArray.empty = pc)) (fun t _ => n - (intOf t).toNat)
          case atStart => exact ⟨0, by omega, rfl, hsm, ⟨fun m hm => by omega⟩⟩
          case round =>
            obtain ⟨j, hj, rfl, hsj, hnj⟩ := hrel
            clear hsm
            by_cases hjn : j < n
            · have hjI : (j : Int) < n := by omega
              obtain ⟨b, off, rfl, hcj⟩ := hcell.out _ hsj.out j hjn
              obtain ⟨x, hx⟩ : ∃ x, x = os.getD j ByteArray.empty := ⟨_, rfl⟩
              rw [← hx] at hcj
              by_cases hxp : x = pc
              · have hin := Kpt.mk (is_in (by rw [hlen'.out]; exact hjn) (hx.symm.trans hxp))
                have hkx : Kpt (x = pc) := ⟨hxp⟩
                have heq : (x.toList == pc.toList) = true := by rw [hxp]; exact beq_self_eq_true _
                have hcd : wr.drew.cell? ⟨b, off + j, none⟩ = some (.string x) := hcj
                clear hx hxp
                go_wp2_with fail
                go_region
                go_wp2
                go_ret
                exact ⟨by rw [hq.out, hp.out, firstP, if_pos hin.out]; exact congrArg (fun s => Ending.returned (.string s)) hkx.out, hsj.out.trans ⟨rfl, ⟨rfl, rfl, rfl, Nat.le_refl _, fun _ _ => rfl⟩⟩⟩
              · have hne := toList_ne hxp
                have hn2 : Kpt (∀ m, m < j + 1 → ¬ os.getD m ByteArray.empty = pc) := ⟨fun m hm => by
                  by_cases hmj : m < j
                  · exact hnj.out m hmj
                  · obtain rfl : m = j := by omega
                    rw [← hx]; exact hxp⟩
                clear hx hxp
                go_wp2_with fail
                go_region
                go_wp2
                go_roundw
                case rel => exact ⟨j + 1, by omega, by go_num, ⟨hsj.out.trans ⟨rfl, ⟨rfl, rfl, rfl, Nat.le_refl _, fun _ _ => rfl⟩⟩⟩, hn2⟩
                case measure => simp [intOf]; omega
            · have hjI : ¬ (j : Int) < n := by omega
              have hni := Kpt.mk (not_in (os := os) (x := pc) (fun m hm => hnj.out m (by have := hlen'.out; omega)))
              go_wp2
              go_roundw
              case rel => exact ⟨S.size + 1, S.size + 1, by go_num, by go_num, by omega, by omega, hsj, ⟨fun h => by omega⟩, ⟨fun _ => by rw [hq.out, hp.out]; exact firstP_none (fun y hy => by rw [List.mem_singleton.1 hy]; exact hni.out)⟩⟩
              case measure => simp [intOf]
        · have hlt : i < S.size := by omega
          have h44 : S[i].toNat = 44 := Classical.byContradiction fun h => hgo ⟨hlt, h⟩
          have hltI : (i : Int) < S.size := by omega
          have h44I : ((S[i].toNat : Nat) : Int) = 44 := by omega
          have hp := Kpt.mk (pcs_comma S fr i hfr hlt hno.out (by rw [nums_at S i hlt]; exact h44I))
          obtain ⟨pc, hpc⟩ : ∃ pc, pc = S.extract fr i := ⟨_, rfl⟩
          rw [← hpc] at hp
          have hfrI : (fr : Int) ≤ i := by omega
          replace hpc := hpc.symm
          clear hgo
          go_wp2
          go_loopw [7] (fun t wr => ∃ j : Nat, j ≤ n ∧ t = .int .i64 j ∧ Kpt (Sm w wr) ∧ Kpt (∀ m, m < j → ¬ os.getD m ByteArray.empty = pc)) (fun t _ => n - (intOf t).toNat)
          case atStart => exact ⟨0, by omega, rfl, hsm, ⟨fun m hm => by omega⟩⟩
          case round =>
            obtain ⟨j, hj, rfl, hsj, hnj⟩ := hrel
            clear hsm
            by_cases hjn : j < n
            · have hjI : (j : Int) < n := by omega
              obtain ⟨b, off, rfl, hcj⟩ := hcell.out _ hsj.out j hjn
              obtain ⟨x, hx⟩ : ∃ x, x = os.getD j ByteArray.empty := ⟨_, rfl⟩
              rw [← hx] at hcj
              by_cases hxp : x = pc
              · have hin := Kpt.mk (is_in (by rw [hlen'.out]; exact hjn) (hx.symm.trans hxp))
                have hkx : Kpt (x = pc) := ⟨hxp⟩
                have heq : (x.toList == pc.toList) = true := by rw [hxp]; exact beq_self_eq_true _
                have hcd : wr.drew.cell? ⟨b, off + j, none⟩ = some (.string x) := hcj
                clear hx hxp
                go_wp2_with fail
                go_region
                go_wp2
                go_ret
                exact ⟨by rw [hq.out, hp.out, firstP, if_pos hin.out]; exact congrArg (fun s => Ending.returned (.string s)) hkx.out, hsj.out.trans ⟨rfl, ⟨rfl, rfl, rfl, Nat.le_refl _, fun _ _ => rfl⟩⟩⟩
              · have hne := toList_ne hxp
                have hn2 : Kpt (∀ m, m < j + 1 → ¬ os.getD m ByteArray.empty = pc) := ⟨fun m hm => by
                  by_cases hmj : m < j
                  · exact hnj.out m hmj
                  · obtain rfl : m = j := by omega
                    rw [← hx]; exact hxp⟩
                clear hx hxp
                go_wp2_with fail
                go_region
                go_wp2
                go_roundw
                case rel => exact ⟨j + 1, by omega, by go_num, ⟨hsj.out.trans ⟨rfl, ⟨rfl, rfl, rfl, Nat.le_refl _, fun _ _ => rfl⟩⟩⟩, hn2⟩
                case measure => simp [intOf]; omega
            · have hjI : ¬ (j : Int) < n := by omega
              have hni := Kpt.mk (not_in (os := os) (x := pc) (fun m hm => hnj.out m (by have := hlen'.out; omega)))
              go_wp2
              go_roundw
              case rel => exact ⟨i + 1, i + 1, by go_num, by go_num, by omega, by omega, hsj, ⟨fun _ => ⟨fun j h1 h2 => by omega, by rw [hq.out, hp.out, firstP, if_neg hni.out]⟩⟩, ⟨fun h => by omega⟩⟩
              case measure => simp [intOf]; omega
end Go.Proofs.YtplifodddfjhdabDoor
