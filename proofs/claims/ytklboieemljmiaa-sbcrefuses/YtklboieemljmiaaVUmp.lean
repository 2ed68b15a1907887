/-
  Unmap of one descriptor.
-/
import Derived.Test.YtklboieemljmiaaVRow
import Derived.Test.YtklboieemljmiaaVAct
namespace Go.Proofs.Ytklboieemljmiaa
open Go.RowKit
set_option linter.unusedVariables false
set_option linter.unusedSimpArgs false

theorem infoPrt : (Try.prog.info? 124).map (fun i => (i.zero, i.size, i.bytes)) = some (some (.agg #[.int .u64 0, .int .u64 0]), 2, 16) := by kernel_rfl
theorem sizePrt : (Try.prog.info? 124).map (·.size) = some 2 := by kernel_rfl
theorem zeroPrt : (Try.prog.info? 124).map (fun i => i.zero) = some (some (.agg #[.int .u64 0, .int .u64 0])) := by kernel_rfl

set_option maxRecDepth 100000 in
set_option maxHeartbeats 1000000 in
theorem parts_one (w : World) (WB : Nat) (tag : Tags) (st : St) (f : ByteArray) (S D N : Nat) (k : Int) (ca : Bool) (h : Dv w WB tag st f S D N k ca) (hN : N ≤ 4096) (b off cp l n : Nat) (zs : List Int) (hb : Bytes zs) (hbl : b < w.heap.size)
    (hc : ∀ j, j < 24 → w.cell? ⟨b, off + j, none⟩ = some (.int .u8 (zs.getD j 0))) (hl : B.num zs 8 8 = l) (hn : B.num zs 16 4 = n) (hin : l + n ≤ N) (hn2 : n ≤ 256) :
    Calls Try.prog 66 #[.pointer (some ⟨D, 0, none⟩), .slice (some ⟨b, off, none⟩) 24 cp] w fun e w' => ∃ v, e = .returned (.tuple #[v, .agg noS.vals]) ∧ OwnR 124 2 w' v [#[.int .u64 l, .int .u64 n]] ∧ (∀ g, v.ownBlock = some g → w.heap.size ≤ g) ∧ Below w.heap.size w w' := by
  have H1 := Kpt.mk (fun W (hW : Below w.heap.size w W) => B.get_ok b off 24 cp 8 8 zs W (by decide) (by decide) (by decide) (by decide) hb (fun j hj => (World.cell?_of_block (w := w) (w' := W) (a := ⟨b, off + j, none⟩) (hW.block b hbl)).trans (hc j hj)))
  have H2 := Kpt.mk (fun W (hW : Below w.heap.size w W) => B.get_ok b off 24 cp 16 4 zs W (by decide) (by decide) (by decide) (by decide) hb (fun j hj => (World.cell?_of_block (w := w) (w' := W) (a := ⟨b, off + j, none⟩) (hW.block b hbl)).trans (hc j hj)))
  rw [hl] at H1
  rw [hn] at H2
  have HH := Kpt.mk (fun W (hW : Below w.heap.size w W) => dhas_all W WB tag st f S D N k ca l n (h.below hW) hN (by omega) (by omega))
  have hd : decide ((l : Int) + n ≤ N) = true := decide_eq_true (by omega)
  rw [hd] at HH
  have en : IntKind.u64.wrap (n : Int) = n := by rw [IntKind.wrap_u64]; omega
  have e256 : ¬ (256 : Int) < n := by omega
  have F := Kpt.mk h.fx
  clear hd h hc hl hn hin
  go_enter Try.func66, Try.ntmps66
  go_wp2_with (first
    | (refine wpList_var rfl 32 rfl zeroS zeroSi ?_; intro br w1 hl_ hX_ h_; have Or := Kpt.mk hX_; have hb1 := Kpt.mk h_; have hr1 := Kpt.mk hl_; clear hl_ hX_ h_)
    | fail)
  go_loopg [6, 7, 8, 9, 10, 11, 12] 1 (fun i r6 r7 r8 r9 r10 r11 r12 wv => (i = 1 ∧ r6 = .slice none 0 0 ∧ r7 = .int .u64 0 ∧ r8 = .int .i64 8 ∧ Kpt (wv = w1)) ∨ (i = 0 ∧ ∃ g c, r6 = .slice g 1 c ∧ r8 = .int .i64 24 ∧ Kpt (OwnR 124 2 wv (.slice g 1 c) [#[.int .u64 l, .int .u64 n]] ∧ (∀ q, (Value.slice g 1 c).ownBlock = some q → w.heap.size ≤ q ∧ q ≠ br)) ∧ Kpt (Bx wv br zeroS) ∧ Kpt (Below w.heap.size w wv)))
  case atStart => exact .inl ⟨rfl, rfl, rfl, rfl, ⟨rfl⟩⟩
  case round =>
    rcases hrel with ⟨rfl, rfl, rfl, rfl, hw⟩ | ⟨rfl, g, c, rfl, rfl, ho, hX, hbb⟩
    · have hwe := hw.out
      subst hwe
      go_wp2_with (first
        | (refine (?_ : wpList _ _ _ (Oper.mk (some 52) _ _ _ _ _ :: _) _ _); go_must (refine wpList_append_row rfl 120 124 2 16 _ Try.underlying120 infoPrt rfl (by decide) (by decide) (.tmp 47) (.tmp 51) rfl (.slice none 0 0) _ [] [#[.int .u64 l, .int .u64 n]] rfl rfl (OwnR.nil _ _ _) hR.out Nat.one_pos (by simp) ?_; intro v7 w7 ho hg hn; have hO7 : Kpt (Bx w7 br zeroS) := ⟨hO6.out.grown hg.out (fun e => by cases e)⟩; have hb7 : Kpt (Below w.heap.size w w7) := ⟨hb6.out.grown hg.out hb6.out.size (fun q e => by cases e)⟩; have hv7 : Kpt (∀ q, v7.ownBlock = some q → w.heap.size ≤ q ∧ q ≠ br) := ⟨fun q e => hn.out.elim (fun h => by rw [h] at e; cases e) (fun h => by rw [h] at e; have := Option.some.inj e; have := hb6.out.size; have := hO6.out.lt; omega)⟩; obtain ⟨g, c, hv, -⟩ := ho.out.shape; have hv' : v7 = .slice g 1 c := hv; subst hv'; clear hv hn hg hO6 hb6 hR))
        | (refine (?_ : wpList _ _ _ (Oper.mk (some 51) _ _ _ _ _ :: _) _ _); go_must (refine wpList_build1 rfl 120 124 2 16 _ Try.underlying120 infoPrt (by decide) (by decide) (.tmp 50) rfl #[.int .u64 l, .int .u64 n] rfl rfl ?_; intro q w6 hq hX hbe hcell; have hR := Kpt.mk (Bx.one (k := 2) hX ⟨rfl, by simp [Value.oneCell']⟩); have hO6 : Kpt (Bx w6 br zeroS) := ⟨Or.out.below hbe Or.out.lt⟩; have hb6 : Kpt (Below w.heap.size w w6) := ⟨hb1.out.trans (hbe.mono hb1.out.size)⟩; clear hq hX hbe hcell))
        | (go_at_call 71; have hm := m1; go_must (refine (H2.out _ hb1.out).mono ?_; rintro e w3 ⟨rfl, rfl⟩; clear hm m1))
        | (go_at_call 71; go_must (refine (H1.out _ hb1.out).mono ?_; rintro e w2 ⟨rfl, rfl⟩; have m1 : Kpt True := ⟨trivial⟩))
        | (go_at_call 34; go_must (refine (HH.out _ hb1.out).mono ?_; rintro e w4 ⟨rfl, rfl⟩))
        | fail)
      go_roundg 0
      case measure => omega
      case rel => exact .inr ⟨rfl, g, c, rfl, rfl, ⟨ho.out, hv7.out⟩, hO7, hb7⟩
    · go_wp2_with (first
        | (refine (?_ : wpList _ _ _ (Oper.mk none (Op.store 32 _ _) _ _ _ _ :: _) _ _); go_must (refine wpList_store_bx rfl 32 _ _ rfl br _ (noS).vals rfl rfl hX.out rfl infoS (Sn.vals_one _) rfl ?_; intro w9 hX9 hg9; have hO9 := Kpt.mk hX9; have hb9 : Kpt (Below w.heap.size w w9) := ⟨hbb.out.grown hg9 hbb.out.size (fun q e => by rw [← Option.some.inj e]; exact hr1.out)⟩; have ho9 : Kpt (OwnR 124 2 w9 (.slice g 1 c) [#[.int .u64 l, .int .u64 n]]) := ⟨ho.out.1.of_block (fun q e => hg9.block q (ho.out.1.lt e) (fun e2 => (ho.out.2 q e).2 (Option.some.inj e2)))⟩; clear hX9 hg9))
        | fail)
      refine bodyPost_ret (v := .tuple #[.slice g 1 c, .agg (noS).vals]) (by simp [results, Try.results66, asAddr, Act.put, res_run hO9.out]) rfl ⟨_, rfl, ho9.out, fun q e => (ho.out.2 q e).1, hb9.out⟩
end Go.Proofs.Ytklboieemljmiaa
