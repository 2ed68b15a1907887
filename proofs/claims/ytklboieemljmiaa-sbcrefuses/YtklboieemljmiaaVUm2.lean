/-
  The contract of unmap of many descriptors, weakly.
-/
import Derived.Test.YtklboieemljmiaaVPa
import Derived.Test.YtklboieemljmiaaVUm1
import Derived.Test.YtklboieemljmiaaVCd
import Derived.Test.YtklboieemljmiaaVCn
namespace Go.Proofs.Ytklboieemljmiaa
open Go.RowKit
set_option linter.unusedVariables false
set_option linter.unusedSimpArgs false
theorem Fine.up2 {m m' : Nat} {st : St} {f : ByteArray} (h : Fine m st f) (hm : m ≤ m') : Fine m' st f := ⟨Nat.le_trans h.cnt hm, Nat.le_trans h.wl hm, h.fails, h.wrs, h.good⟩
theorem OwnR.sl {ty k : Nat} {w : World} {a : Option Addr} {n c : Nat} {zs : List (Array Value)} (h : OwnR ty k w (.slice a n c) zs) : (n : Int) ≤ c := by
  obtain ⟨a', c', e, hs⟩ := h.shape
  simp only [Value.slice.injEq] at e
  obtain ⟨rfl, rfl, rfl⟩ := e
  rcases hs with ⟨_, h1, h2⟩ | ⟨g, _, _, h1, _⟩ <;> omega
theorem Fine.un {m : Nat} {st : St} {f : ByteArray} (h : Fine m st f) (l n : Nat) : Fine (m + 2 * n + 1) (emF st f l n true) f := by
  obtain ⟨h1, h2, h3, h4⟩ := un_ops st f l n
  have hv := (un_view st f l h.good n).1
  have hwr := un_wrs st f l h.wrs n
  have hc := h.cnt
  have hl := h.wl
  unfold emF
  rw [if_pos (by simp [settled])]
  exact ⟨by omega, by omega, by rw [h3]; exact h.fails, hwr, hv⟩
theorem sumP_take (ps : List (Nat × Nat)) : ∀ (j : Nat) (p : Nat × Nat), ps[j]? = some p → sumP (ps.take (j + 1)) = sumP (ps.take j) + p.2 := fun j p hp => by
  obtain ⟨hj, e⟩ := List.getElem?_eq_some_iff.1 hp
  rw [List.take_succ_eq_append_getElem hj, sumP_app, e]
theorem sumP_le (ps : List (Nat × Nat)) (j : Nat) : sumP (ps.take j) ≤ sumP ps := by
  induction ps generalizing j with
  | nil => simp [sumP]
  | cons p ps ih =>
    cases j with
    | zero => simp [sumP]
    | succ j => simp only [List.take_succ_cons, sumP]; have := ih j; omega
/-- Descriptors in a row of one's own, beside a device. -/
structure Pr (w W : World) (tag' : Tags) (va : Option Addr) (ps : List (Nat × Nat)) : Prop where
  ex : 0 < ps.length → ∃ gv, va = some ⟨gv, 0, none⟩ ∧ gv < W.heap.size ∧ w.heap.size ≤ gv ∧ tag' gv = none ∧ ∀ j p, ps[j]? = some p → W.rangeAt gv (j * 2) (partV p).toList
theorem Pr.below {w W W' : World} {tag' : Tags} {va : Option Addr} {ps : List (Nat × Nat)} (h : Pr w W tag' va ps) (hb : Below W.heap.size W W') : Pr w W' tag' va ps := ⟨fun h0 => by
  obtain ⟨gv, e, h1, h2, h3, h4⟩ := h.ex h0
  exact ⟨gv, e, Nat.lt_of_lt_of_le h1 hb.size, h2, h3, fun j p hp => rangeAt_keep (h4 j p hp) (hb.block gv h1)⟩⟩
theorem Pr.call {w W W' : World} {tag' tag2 : Tags} {X : Tag → Prop} {va : Option Addr} {ps : List (Nat × Nat)} (h : Pr w W tag' va ps) (s : Step W W' tag' tag2 X) : Pr w W' tag2 va ps := ⟨fun h0 => by
  obtain ⟨gv, e, h1, h2, h3, h4⟩ := h.ex h0
  exact ⟨gv, e, Nat.lt_of_lt_of_le h1 s.size, h2, s.bare gv h1 h3, fun j p hp => rangeAt_keep (h4 j p hp) (s.block gv h1 (fun t _ e => by rw [h3] at e; cases e))⟩⟩
theorem Pr.other {w W W' : World} {tag' : Tags} {va : Option Addr} {ps : List (Nat × Nat)} {b : Nat} (h : Pr w W tag' va ps) (hg : W.grownBy W' (some b)) (hne : ∀ g, va = some ⟨g, 0, none⟩ → b ≠ g) : Pr w W' tag' va ps := ⟨fun h0 => by
  obtain ⟨gv, e, h1, h2, h3, h4⟩ := h.ex h0
  exact ⟨gv, e, Nat.lt_of_lt_of_le h1 hg.size, h2, h3, fun j p hp => rangeAt_keep (h4 j p hp) (hg.block gv h1 (fun e2 => hne gv e (Option.some.inj e2).symm))⟩⟩
theorem pr_new {W : World} {tag : Tags} {va : Option Addr} {vc lo : Nat} {ps : List (Nat × Nat)} (h : OwnR 124 2 W (.slice va ps.length vc) (ps.map partV)) (h0 : 0 < ps.length) (hv : ∀ g, (Value.slice va ps.length vc).ownBlock = some g → lo ≤ g ∧ tag g = none) : ∃ gv, va = some ⟨gv, 0, none⟩ ∧ gv < W.heap.size ∧ lo ≤ gv ∧ tag gv = none ∧ ∀ j p, ps[j]? = some p → W.rangeAt gv (j * 2) (partV p).toList := by
  obtain ⟨a, c, e, hs⟩ := h.shape
  simp only [Value.slice.injEq] at e
  obtain ⟨rfl, e2, rfl⟩ := e
  rcases hs with ⟨_, _, h2⟩ | ⟨g, h1, h2, _, _, _, h5⟩
  · rw [List.length_map] at h2; omega
  · subst h1
    exact ⟨g, rfl, h2, (hv g rfl).1, (hv g rfl).2, fun j p hp => h5 j _ (by rw [List.getElem?_map, hp]; rfl)⟩
/-- What such a command comes to. -/
def Wk (w : World) (B : Nat) (tag : Tags) (st : St) (f : ByteArray) (s : Sn) (w' : World) : Prop := (s.key = 5 ∧ Aft w w' B tag st) ∨ (s.key ≠ 5 ∧ ∃ st2, Aft w w' B tag st2)
/-- What parts comes to. -/
def PartsX (W : World) (N : Nat) (e : Ending) (w' : World) : Prop := ∃ va vn vc s ps, e = .returned (.tuple #[.slice va vn vc, .agg (Sn.vals s)]) ∧ Below W.heap.size W w' ∧ ((vn : Nat) : Int) ≤ (vc : Nat) ∧ (0 < (ps : List (Nat × Nat)).length → ∃ gv, va = some ⟨gv, 0, none⟩ ∧ gv < w'.heap.size ∧ W.heap.size ≤ gv ∧ ∀ j p, ps[j]? = some p → w'.rangeAt gv (j * 2) (partV p).toList) ∧ (∀ p ∈ ps, p.1 + p.2 ≤ N) ∧ sumP ps ≤ 256 ∧ ps.length ≤ 9000 ∧ (s.key = 5 ∨ (s = noS ∧ vn = ps.length))
set_option maxRecDepth 100000 in
set_option maxHeartbeats 3000000 in
theorem unmap_many (w : World) (B : Nat) (tag : Tags) (st : St) (f : ByteArray) (S D N : Nat) (k : Int) (M : Nat) (a : Option Addr) (n cp : Nat) (h : Dv w B tag st f S D N k true) (hf1 : 1 ≤ f.size) (hf2 : f.size ≤ 32) (hN : N ≤ 4096) (hF : Fine M st f) (hM : M ≤ 1000) (hm : 0 < n)
    (HF : ∀ W, Below w.heap.size w W → Calls Try.prog 64 #[.slice a n cp] W fun e w' => e = .returned (.bool true) ∧ w' = W)
    (HP : ∀ W, Below w.heap.size w W → Calls Try.prog 66 #[.pointer (some ⟨D, 0, none⟩), .slice a n cp] W fun e w' => PartsX W N e w') :
    Calls Try.prog 47 #[.pointer (some ⟨D, 0, none⟩), .slice a n cp] w fun e w' => ∃ s st2, e = .returned (.agg (Sn.vals s)) ∧ Aft w w' B tag st2 ∧ (s.key = 5 → st2 = st) := by
  have e0 : ((n : Int) == 0) = false := by simp; omega
  have HK := Kpt.mk (fun W tag' st' l x (h : Dv W B tag' st' f S D N k true) (hF' : Fine 100000 st' f) (hin : l + x ≤ N) => dempty_ok W B tag' st' f S D N k true l x h hf1 hf2 hN (by have := hF'.cnt; omega) (by have := hF'.wl; omega) hF'.fails hF'.wrs hin)
  have HE := Kpt.mk (fun W s => ended_any s W)
  replace HF := Kpt.mk HF
  replace HP := Kpt.mk HP
  have hSl := h.sto.lt
  have hDl := h.bx.lt
  have F := Kpt.mk h.fx
  have hb := Kpt.mk (Below.refl w.heap.size w)
  replace h := Kpt.mk h
  replace hF := Kpt.mk hF
  go_enter Try.func47, Try.ntmps47
  go_upto_region 6 with (first
      | (have hm := m4; refine wpList_store_bx rfl 32 _ _ rfl b_y _ (s).vals rfl rfl Oy.out.bx rfl infoS (Sn.vals_one _) rfl ?_; intro w10 hX_ hg_; replace hb := Kpt.mk (hb.out.trans (Below.ofGrown hg_ hb.out.size Oy.out.lo)); replace Or := Kpt.mk (Or.out.other hg_ (by omega)); replace P0 : Kpt (Pr w w10 tag va ps) := ⟨⟨fun h0 => (P0.out.other hg_ (fun g e => hyne.out g e h0)).ex h0⟩⟩; replace F := Kpt.mk (F.out.own Oy.out hg_ hSl hDl); replace Oy := Kpt.mk (Oy.out.set hX_); clear hX_ hg_; clear hm m4; have m5 : Kpt True := ⟨trivial⟩)
      | (have hm := m3; refine wpList_var rfl 32 rfl zeroS zeroSi ?_; intro b_y w_y hl_ hX_ h_; have q_r_y : br < b_y := Nat.lt_of_lt_of_le Or.out.bx.lt hl_; have hyne : Kpt (∀ g, va = some ⟨g, 0, none⟩ → 0 < ps.length → b_y ≠ g) := ⟨fun g e h0 e2 => by obtain ⟨gv, e3, h1, _⟩ := P0.out.ex h0; rw [e] at e3; have h4 : g = gv := congrArg Addr.block (Option.some.inj e3); omega⟩; have Oy := Kpt.mk (F.out.new hl_ hX_); replace Or := Kpt.mk (Or.out.below h_); replace P0 := Kpt.mk (P0.out.below h_); replace F := Kpt.mk (F.out.below h_); replace hb := Kpt.mk (hb.out.trans (h_.mono hb.out.size)); clear hl_ hX_ h_; clear hm m3; have m4 : Kpt True := ⟨trivial⟩)
      | (go_at_call 66; have hm := m2; go_must (refine (HP.out _ hb.out).mono ?_; rintro e w7 ⟨va, vn, vc, s, ps, rfl, h_, hsl, hpr_, hin_, hs_, hl_, hor_⟩; have hin := Kpt.mk hin_; have hs := Kpt.mk hs_; have hL := Kpt.mk hl_; have hor := Kpt.mk hor_; have P0 : Kpt (Pr w w7 tag va ps) := ⟨⟨fun h0 => (hpr_ h0).elim (fun gv h => ⟨gv, h.1, h.2.1, Nat.le_trans hb.out.size h.2.2.1, wd_none F.out.dv.wd h.2.2.1, h.2.2.2⟩)⟩⟩; replace Or := Kpt.mk (Or.out.below h_); replace F := Kpt.mk (F.out.below h_); replace hb := Kpt.mk (hb.out.trans (h_.mono hb.out.size)); clear h_ hpr_ hin_ hs_ hl_ hor_; clear hm m2; have m3 : Kpt True := ⟨trivial⟩))
      | (go_at_call 64; have hm := m1; go_must (refine (HF.out _ hb.out).mono ?_; rintro e w6 ⟨rfl, rfl⟩; clear hm m1; have m2 : Kpt True := ⟨trivial⟩))
      | (refine wpList_var rfl 32 rfl zeroS zeroSi ?_; intro br w_r hl_ hX_ h_; have Or := Kpt.mk (F.out.new hl_ hX_); replace F := Kpt.mk (F.out.below h_); replace hb := Kpt.mk (hb.out.trans (h_.mono hb.out.size)); clear hl_ hX_ h_; have m1 : Kpt True := ⟨trivial⟩)
      | fail)
  rcases hor.out with hk5 | ⟨rfl, rfl⟩
  · have HEs := Kpt.mk (fun W => HE.out W s)
    rw [show (s.key != 0) = true from by rw [hk5]; rfl] at HEs
    have hk := Kpt.mk hk5
    clear hk5 hor HE HK HP HF
    go_wp2_with (first
      | (refine (?_ : wpList _ _ _ (Oper.mk none (Op.store 32 (.tmp 4) _) _ _ _ _ :: _) _ _); go_must (refine wpList_store_bx rfl 32 _ _ rfl br _ (s).vals rfl rfl Or.out.bx rfl infoS (Sn.vals_one _) rfl ?_; intro w12 hX_ hg_; replace F := Kpt.mk (F.out.own Or.out hg_ hSl hDl); replace Or := Kpt.mk (Or.out.set hX_); clear hX_ hg_))
      | (go_at_call 22; go_must (refine (HEs.out _).mono ?_; rintro e w11 ⟨rfl, h_⟩; replace hb := Kpt.mk (hb.out.trans (h_.mono hb.out.size)); replace Or := Kpt.mk (Or.out.below h_); replace Oy := Kpt.mk (Oy.out.below h_); replace P0 := Kpt.mk (P0.out.below h_); replace F := Kpt.mk (F.out.below h_); clear h_))
      | (refine wpList_load_bx rfl 32 _ rfl b_y (s).vals rfl Oy.out.bx _ Try.underlying32 rfl infoS ?_)
      | fail)
    refine bodyPost_ret (v := .agg (s).vals) (by simp [results, Try.results47, asAddr, Act.put, res_run Or.out.bx]) rfl ⟨s, st, rfl, ⟨_, F.out.dv.wd, F.out.st⟩, fun _ => rfl⟩
  have HEs := Kpt.mk (fun W => HE.out W noS)
  rw [show (noS.key != 0) = false from rfl] at HEs
  clear hor HE
  go_wp2_with (first
      | (go_at_call 22; go_must (refine (HEs.out _).mono ?_; rintro e w11 ⟨rfl, h_⟩; replace hb := Kpt.mk (hb.out.trans (h_.mono hb.out.size)); replace Or := Kpt.mk (Or.out.below h_); replace Oy := Kpt.mk (Oy.out.below h_); replace P0 := Kpt.mk (P0.out.below h_); replace F := Kpt.mk (F.out.below h_); clear h_))
      | (refine wpList_load_bx rfl 32 _ rfl b_y (noS).vals rfl Oy.out.bx _ Try.underlying32 rfl infoS ?_)
      | fail)
  go_loopg [8, 9, 29] ps.length (fun i r8 r9 r29 wv => ∃ (j : Nat) (tag' : Tags) (st' : St), r29 = .int .i64 (j : Int) ∧ j + i = ps.length ∧ Kpt (Fine (M + 2 * sumP (ps.take j) + j) st' f) ∧ Kpt (Fx w wv B tag tag' st' f S D N k true) ∧ Kpt (Ow w wv tag' br zeroS) ∧ Kpt (Pr w wv tag' va ps))
  case atStart => exact ⟨0, tag, st, rfl, by omega, ⟨by simpa [sumP] using hF.out⟩, F, Or, P0⟩
  case round =>
    clear F Or P0 Oy hb
    obtain ⟨j, tag', st', rfl, hji, hFj, F, Or, P0⟩ := hrel
    by_cases hj : j < ps.length
    · have e1 : (j : Int) < ps.length := by omega
      have hj9 : (j : Int) ≤ 9000 := by have := hL.out; omega
      have hj0 : (0 : Int) ≤ j := by omega
      obtain ⟨gv, rfl, hgl0, hglo, hgt, hgr0⟩ := P0.out.ex (by omega)
      obtain ⟨p, hp⟩ : ∃ p, ps[j]? = some p := ⟨ps[j], List.getElem?_eq_getElem hj⟩
      have hin1 : p.1 + p.2 ≤ N := hin.out p (List.mem_of_getElem? hp)
      have hgr := hgr0 j p hp
      obtain ⟨x, y⟩ := p
      have hst := sumP_take ps j _ hp
      have hle := sumP_le ps (j + 1)
      have hFs : Kpt (Fine 100000 st' f) := ⟨hFj.out.up2 (by have := hs.out; have := hL.out; simp only at hst; omega)⟩
      have hFn : Kpt (Fine (M + 2 * sumP (ps.take (j + 1)) + (j + 1)) (emF st' f x y true) f) := ⟨(hFj.out.un x y).up2 (by simp only at hst; omega)⟩
      have ey : IntKind.i64.wrap (y : Int) = y := by rw [IntKind.wrap_i64]; simp only at hin1; omega
      simp only at hin1
      replace hgr : wr.rangeAt gv (j * 2) [.int .u64 (x : Int), .int .u64 (y : Int)] := hgr
      clear hgr0 hst hle hp
      have m20 : Kpt True := ⟨trivial⟩
      go_wp2_with (first
      | (go_at_call 22; have hm := m26; go_must (refine (HEs.out _).mono ?_; rintro e w25 ⟨rfl, h_⟩; replace Or := Kpt.mk (Or.out.below h_); replace Op := Kpt.mk (Op.out.below h_); replace Oz := Kpt.mk (Oz.out.below h_); replace P0 := Kpt.mk (P0.out.below h_); replace F := Kpt.mk (F.out.below h_); clear h_; clear hm m26; have m27 : Kpt True := ⟨trivial⟩))
      | (have hm := m25; refine wpList_store_bx rfl 32 _ _ rfl bz _ (noS).vals rfl rfl Oz.out.bx rfl infoS (Sn.vals_one _) rfl ?_; intro w24 hX_ hg_; replace Or := Kpt.mk (Or.out.other hg_ (by omega)); replace Op := Kpt.mk (Op.out.other hg_ (by omega)); replace P0 := Kpt.mk (P0.out.other hg_ q_z.out); replace F := Kpt.mk (F.out.own Oz.out hg_ hSl hDl); replace Oz := Kpt.mk (Oz.out.set hX_); clear hX_ hg_; clear hm m25; have m26 : Kpt True := ⟨trivial⟩)
      | (have hm := m24; refine wpList_var rfl 32 rfl zeroS zeroSi ?_; intro bz w_z hl_ hX_ h_; have q_r_z : br < bz := Nat.lt_of_lt_of_le Or.out.bx.lt hl_; have q_p_z : bp < bz := Nat.lt_of_lt_of_le Op.out.bx.lt hl_; have h5 : gv < bz := (by obtain ⟨g, e, h1, _⟩ := P0.out.ex (by omega); have h4 : gv = g := congrArg Addr.block (Option.some.inj e); omega); have q_z : Kpt (∀ g, (some (⟨gv, 0, none⟩ : Addr)) = some ⟨g, 0, none⟩ → bz ≠ g) := ⟨fun g e e2 => by have h4 : gv = g := congrArg Addr.block (Option.some.inj e); omega⟩; have Oz := Kpt.mk (F.out.new hl_ hX_); replace Or := Kpt.mk (Or.out.below h_); replace Op := Kpt.mk (Op.out.below h_); replace P0 := Kpt.mk (P0.out.below h_); replace F := Kpt.mk (F.out.below h_); clear hl_ hX_ h_; clear hm m24; have m25 : Kpt True := ⟨trivial⟩)
      | (go_at_call 62; have hm := m23; clear c0 c1; go_must (refine (HK.out _ _ _ x y F.out.dv hFs.out hin1).mono ?_; rintro e w22 ⟨rfl, tag2, hW_, s_⟩; replace Or := Kpt.mk (Or.out.call s_); replace Op := Kpt.mk (Op.out.call s_); replace P0 := Kpt.mk (P0.out.call s_); replace F := Kpt.mk (F.out.call hW_ s_); clear hW_ s_; clear hm m23; have m24 : Kpt True := ⟨trivial⟩))
      | (have hm := m22; refine wpList_store_bx rfl 124 _ _ rfl bp _ #[.int .u64 (x : Int), .int .u64 (y : Int)] rfl rfl Op.out.bx rfl sizePrt (by simp [Value.oneCell']) rfl ?_; intro w21 hX_ hg_; replace Or := Kpt.mk (Or.out.other hg_ (by omega)); replace P0 := Kpt.mk (P0.out.other hg_ q_p.out); replace F := Kpt.mk (F.out.own Op.out hg_ hSl hDl); replace Op := Kpt.mk (Op.out.set hX_); have c0 : w21.cell? ⟨bp, 0, none⟩ = some (.int .u64 (x : Int)) := (by simpa using Op.out.bx.range 0 _ rfl); have c1 : w21.cell? ⟨bp, 1, none⟩ = some (.int .u64 (y : Int)) := (by simpa using Op.out.bx.range 1 _ rfl); clear hX_ hg_; clear hm m22; have m23 : Kpt True := ⟨trivial⟩)
      | (have hm := m21; refine wpList_var rfl 124 rfl #[.int .u64 0, .int .u64 0] zeroPrt ?_; intro bp w_p hl_ hX_ h_; have q_r_p : br < bp := Nat.lt_of_lt_of_le Or.out.bx.lt hl_; have h4 : gv < bp := Nat.lt_of_lt_of_le hgl0 hl_; have q_p : Kpt (∀ g, (some (⟨gv, 0, none⟩ : Addr)) = some ⟨g, 0, none⟩ → bp ≠ g) := ⟨fun g e e2 => by have h4 : gv = g := congrArg Addr.block (Option.some.inj e); omega⟩; have Op := Kpt.mk (F.out.new hl_ hX_); replace Or := Kpt.mk (Or.out.below h_); replace P0 := Kpt.mk (P0.out.below h_); replace F := Kpt.mk (F.out.below h_); clear hl_ hX_ h_ hgr; clear hm m21; have m22 : Kpt True := ⟨trivial⟩)
      | (have hm := m20; refine (?_ : wpList _ _ _ (Oper.mk (some 32) _ _ _ _ _ :: _) _ _); go_must (refine wpList_load_mid rfl 124 _ rfl gv (j * 2) rfl [.int .u64 (x : Int), .int .u64 (y : Int)] _ hgr Try.underlying124 rfl sizePrt ?_; clear hm m20; have m21 : Kpt True := ⟨trivial⟩))
      | (refine wpList_load_bx rfl 32 _ rfl bz (noS).vals rfl Oz.out.bx _ Try.underlying32 rfl infoS ?_)
      | fail)
      go_roundg (ps.length - (j + 1))
      case measure => omega
      case rel => exact ⟨j + 1, _, _, by go_num, by omega, hFn, F, Or, P0⟩
    · have e1 : ¬ (j : Int) < ps.length := by omega
      have m40 : Kpt True := ⟨trivial⟩
      go_wp2_with (first
      | (have hm := m40; refine wpList_store_bx rfl 32 _ _ rfl br _ (noS).vals rfl rfl Or.out.bx rfl infoS (Sn.vals_one _) rfl ?_; intro w41 hX_ hg_; replace F := Kpt.mk (F.out.own Or.out hg_ hSl hDl); replace Or := Kpt.mk (Or.out.set hX_); clear hX_ hg_; clear hm m40; have m41 : Kpt True := ⟨trivial⟩)
      | fail)
      refine bodyPost_ret (v := .agg noS.vals) (by simp [results, Try.results47, asAddr, Act.put, res_run Or.out.bx]) rfl ⟨noS, rfl, _, ⟨_, F.out.dv.wd, F.out.st⟩, fun e => absurd e (by decide)⟩
end Go.Proofs.Ytklboieemljmiaa
