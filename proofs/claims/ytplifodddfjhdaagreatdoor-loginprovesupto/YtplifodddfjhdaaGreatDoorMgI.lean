/-
  login: one round of the statement, call by call. login: the statement that a user proves who it is: the walk. login: bytes that came in.
-/
import Derived.Test.YtplifodddfjhdaaGreatDoorMgH
import Derived.Test.YtplifodddfjhdaaGreatDoorMgE
import Derived.Test.YtplifodddfjhdaaGreatDoorXLgA
import Derived.Test.YtplifodddfjhdaaGreatDoorXLgO
import Derived.WideShapes
namespace Go.Proofs.YtplifodddfjhdaaGreatDoor
open Go.RowKit
set_option linter.unusedVariables false
set_option linter.unusedSimpArgs false

def cfgV (A U : Nat) : Array Value := #[.slice (some ⟨A, 0, none⟩) 1 1, .slice (some ⟨U, 0, none⟩) 1 1, .bool false]
/-- What came in. -/
structure Hy (w : World) (id : Int) (pa : Option Addr) (pn pc : Nat) (zs : List Int) (S : ByteArray) : Prop where
  id : 0 ≤ id ∧ id ≤ 255
  r : RdAt w (.slice pa pn pc) zs
  z : Bytes zs
  m : pn + S.size ≤ 1048576
  gl : Gl w
  gq : Gq w
/-- A config, its target, its user. -/
structure Cf (w W : World) (A U C : Nat) (N S : ByteArray) : Prop where
  t : Bx W A #[.string ⟨#[116]⟩]
  u : Bx W U #[.string N, .string S]
  c : Bx W C (cfgV A U)
  b : Below w.heap.size w W
variable {w W W' : World} {A U C L : Nat} {N S T : ByteArray} {id : Int} {pa : Option Addr} {pn pc : Nat} {zs : List Int} {ta : Option Addr} {tc g uc : Nat} {ca : Option Addr} {cc : Nat}
theorem Cf.below (k : Cf w W A U C N S) (h : Below W.heap.size W W') : Cf w W' A U C N S := ⟨k.t.below h k.t.lt, k.u.below h k.u.lt, k.c.below h k.c.lt, k.b.trans (h.mono k.b.size)⟩
theorem Cf.turn (k : Cf w W A U C N S) (o : A < L ∧ U < L ∧ C < L ∧ w.heap.size ≤ L) (h : W.grownBy W' (some L)) : Cf w W' A U C N S :=
  ⟨k.t.grown h (fun e => by have := Option.some.inj e; omega), k.u.grown h (fun e => by have := Option.some.inj e; omega), k.c.grown h (fun e => by have := Option.some.inj e; omega), k.b.grown h k.b.size (fun q e => by have := Option.some.inj e; omega)⟩
theorem Cf.rd (k : Cf w W A U C N S) (y : Hy w id pa pn pc zs S) : RdAt W (.slice pa pn pc) zs := y.r.bel k.b
theorem Cf.gl (k : Cf w W A U C N S) (y : Hy w id pa pn pc zs S) : Gl W := y.gl.below k.b
theorem Cf.gq (k : Cf w W A U C N S) (y : Hy w id pa pn pc zs S) : Gq W := y.gq.bel k.b
theorem pn_le (y : Hy w id pa pn pc zs S) : pn ≤ 1048576 := by have := y.m; omega
theorem zs_len (y : Hy w id pa pn pc zs S) : zs.length = pn := by obtain ⟨a', c', e, _⟩ := y.r; simp only [Value.slice.injEq] at e; exact e.2.1.symm

theorem st_lt {W : World} {a : Option Addr} {c : Nat} (h : StAt W (.slice a 1 c) [vT]) : ∀ x, a = some x → x.block < W.heap.size := fun x e => by
  obtain ⟨a', c', e2, _, h3⟩ := h
  simp only [Value.slice.injEq] at e2
  rcases h3 with h3 | ⟨b, off, e3, h4, _⟩
  · simp at h3
  · rw [← e2.1, e] at e3
    cases e3
    exact h4
theorem st_oneV (W : World) (g : Nat) (h : Bx W g #[.string vT]) : StAt W (.slice (some ⟨g, 0, none⟩) 1 1) [vT] := st_one W g vT h
theorem l_new (y : Hy w id pa pn pc zs S) (k : Cf w W A U C N S) :
    Calls Tryz.prog 7 #[.agg (cfgV A U), .int .u8 id, .slice pa pn pc] W fun e w' => (∃ L ta tc g uc ca cc, e = .returned (.pointer (some ⟨L, 0, none⟩)) ∧ Np w' L (lgU id (.slice ta 1 tc) (.slice (some ⟨g, 0, none⟩) 1 uc) (.slice ca pn cc)) ta tc g uc ca pn cc zs N S id ∧ (A < L ∧ U < L ∧ C < L ∧ w.heap.size ≤ L)) ∧ Cf w w' A U C N S ∧ Below W.heap.size W w' := by
  have hU : W.rangeAt U 0 [.string N, .string S] := k.u.range
  refine (new_all id (some ⟨A, 0, none⟩) 1 1 [vT] U 0 1 N S pa pn pc zs W (st_oneV W A k.t) (by omega) k.u.lt hU (k.rd y) (by have := pn_le y; omega)).mono ?_
  rintro e w' ⟨⟨L, ta, tc, g, uc, ca, cc, rfl, z1, z2, z3, z4, z5, z6, z7, z8, z9, z10, z11, z12⟩, hb⟩
  have hlt := z2.lt
  have h1 := k.t.lt
  have h2 := k.u.lt
  have h3 := k.c.lt
  have h4 := k.b.size
  exact ⟨⟨L, ta, tc, g, uc, ca, cc, rfl, ⟨z2, z3, z6, z9, z4, fun x e => st_lt z3 x e, z7, z10, z12, rfl, rfl, rfl, rfl⟩, by omega, by omega, by omega, by omega⟩, k.below hb, hb⟩
theorem l_hello (W : World) :
    Calls Tryz.prog 20 #[.slice (some ⟨W.heap.size, 0, none⟩) 1 1] (W.alloc (.cells #[.string ⟨#[65, 117, 116, 104, 77, 101, 116, 104, 111, 100]⟩, .string ⟨#[78, 111, 110, 101, 44, 67, 72, 65, 80]⟩] 41)) fun e w' => ∃ ga gc, e = .returned (.slice ga 3 gc) ∧ PsAt w' (.slice ga 3 gc) keysA ∧ Newer ga W.heap.size ∧ Below W.heap.size W w' := by
  have hp : PsAt (W.alloc (.cells #[.string ⟨#[65, 117, 116, 104, 77, 101, 116, 104, 111, 100]⟩, .string ⟨#[78, 111, 110, 101, 44, 67, 72, 65, 80]⟩] 41)) (.slice (some ⟨W.heap.size, 0, none⟩) 1 1) [(kAut, vNC)] := ps_bx (ps := [(kAut, vNC)]) (bx_new W #[.string ⟨#[65, 117, 116, 104, 77, 101, 116, 104, 111, 100]⟩, .string ⟨#[78, 111, 110, 101, 44, 67, 72, 65, 80]⟩] 41)
  refine (hello_any _ 1 1 _ _ hp (by omega)).mono ?_
  rintro e w' ⟨ga, gc, rfl, ho, hb⟩
  obtain ⟨p1, xa, xc, hv, _, _, p4, _⟩ := psB_of ho
  simp only [Value.slice.injEq] at hv
  obtain ⟨rfl, _, rfl⟩ := hv
  exact ⟨ga, gc, rfl, p1, fun x e => by have := p4 x e; simp at this; omega, ((Below.refl W.heap.size W).alloc (Nat.le_refl _) _).trans (hb.mono (by simp))⟩
theorem l_one (y : Hy w id pa pn pc zs S) (k : Cf w W A U C N S) (p : Np W L (lgU id (.slice ta 1 tc) (.slice (some ⟨g, 0, none⟩) 1 uc) (.slice ca pn cc)) ta tc g uc ca pn cc zs N S id) (o : A < L ∧ U < L ∧ C < L ∧ w.heap.size ≤ L) (ga : Option Addr) (gc : Nat) (hp : PsAt W (.slice ga 3 gc) keysA) (ho : Off ga L) :
    Calls Tryz.prog 11 #[.pointer (some ⟨L, 0, none⟩), .agg #[.int .u8 0, .int .u8 0, .bool false, .slice ga 3 gc]] W fun e w' => (∃ va vn vc, e = .returned (.tuple #[.agg (ansT 0 (.slice va vn vc)), .int .i64 0])) ∧ Np w' L (sA id (.slice ta 1 tc) (.slice (some ⟨g, 0, none⟩) 1 uc) (.slice ca pn cc)) ta tc g uc ca pn cc zs N S id ∧ Cf w w' A U C N S ∧ W.grownBy w' (some L) :=
  (pv1 y.id p ga gc hp ho y.z (by have := pn_le y; omega) (fun W' h => (k.turn o h).gl y)).mono fun e w' ⟨h1, h2, h3⟩ => ⟨h1, h2, k.turn o h3, h3⟩
theorem l_two (ask : Bool) (y : Hy w id pa pn pc zs S) (k : Cf w W A U C N S) (p : Np W L (sA id (.slice ta 1 tc) (.slice (some ⟨g, 0, none⟩) 1 uc) (.slice ca pn cc)) ta tc g uc ca pn cc zs N S id) (o : A < L ∧ U < L ∧ C < L ∧ w.heap.size ≤ L) :
    Calls Tryz.prog 11 #[.pointer (some ⟨L, 0, none⟩), .agg #[.int .u8 0, .int .u8 1, .bool ask, .slice (some ⟨W.heap.size, 0, none⟩) 1 1]] (W.alloc (.cells #[.string ⟨#[67, 72, 65, 80, 95, 65]⟩, .string ⟨#[55, 44, 53]⟩] 41)) fun e w' => (∃ va vn vc, e = .returned (.tuple #[.agg (ansV 0 0 false (.slice va vn vc)), .int .i64 0]) ∧ PsAt w' (.slice va vn vc) (ansC (decS id.toNat) zs) ∧ vc ≤ maxLen ∧ Newer va W.heap.size) ∧ Np w' L (sB id (.slice ta 1 tc) (.slice (some ⟨g, 0, none⟩) 1 uc) (.slice ca pn cc)) ta tc g uc ca pn cc zs N S id ∧ Cf w w' A U C N S ∧ W.grownBy w' (some L) := by
  have b1 : Below W.heap.size W (W.alloc (.cells #[.string ⟨#[67, 72, 65, 80, 95, 65]⟩, .string ⟨#[55, 44, 53]⟩] 41)) := (Below.refl _ _).alloc (Nat.le_refl _) _
  have hp : PsAt (W.alloc (.cells #[.string ⟨#[67, 72, 65, 80, 95, 65]⟩, .string ⟨#[55, 44, 53]⟩] 41)) (.slice (some ⟨W.heap.size, 0, none⟩) 1 1) [(kCA, v75)] := ps_bx (ps := [(kCA, v75)]) (bx_new W #[.string ⟨#[67, 72, 65, 80, 95, 65]⟩, .string ⟨#[55, 44, 53]⟩] 41)
  have hlt := p.lg.lt
  refine (pv2 ask y.id (p.below b1) _ 1 hp (fun x e => by cases e; exact fun e => by simp at e; omega) y.z (by have := pn_le y; omega) (fun W' h => ((k.below b1).turn o h).gl y)).mono ?_
  rintro e w' ⟨⟨va, vn, vc, rfl, h2, h3, h4⟩, h5, h6⟩
  exact ⟨⟨va, vn, vc, rfl, h2, h3, fun x e => by have := h4 x e; simp at this; omega⟩, h5, (k.below b1).turn o h6, grown_tr (grown_of_below b1 _) h6⟩
theorem l_off {x : Option Addr} {n : Nat} (h : x = some ⟨n, 0, none⟩) (hl : L < n) : Off x L := fun y e => by rw [h] at e; cases e; exact fun e => by simp at e; omega
theorem l_keys (W : World) (N R : ByteArray) : PsAt (W.alloc (.cells #[.string ⟨#[67, 72, 65, 80, 95, 78]⟩, .string N, .string ⟨#[67, 72, 65, 80, 95, 82]⟩, .string R] 41)) (.slice (some ⟨W.heap.size, 0, none⟩) 2 2) [(kCN, N), (kRsp, R)] := ps_bx (ps := [(kCN, N), (kRsp, R)]) (bx_new W #[.string ⟨#[67, 72, 65, 80, 95, 78]⟩, .string N, .string ⟨#[67, 72, 65, 80, 95, 82]⟩, .string R] 41)
theorem l_three (y : Hy w id pa pn pc zs S) (k : Cf w W A U C N S) (p : Np W L (sB id (.slice ta 1 tc) (.slice (some ⟨g, 0, none⟩) 1 uc) (.slice ca pn cc)) ta tc g uc ca pn cc zs N S id) (o : A < L ∧ U < L ∧ C < L ∧ w.heap.size ≤ L) (hq : rspS id T zs = rspS id S zs) :
    Calls Tryz.prog 11 #[.pointer (some ⟨L, 0, none⟩), .agg #[.int .u8 0, .int .u8 3, .bool true, .slice (some ⟨W.heap.size, 0, none⟩) 2 2]] (W.alloc (.cells #[.string ⟨#[67, 72, 65, 80, 95, 78]⟩, .string N, .string ⟨#[67, 72, 65, 80, 95, 82]⟩, .string (rspS id T zs)] 41)) fun e w' => (∃ va vn vc, e = .returned (.tuple #[.agg (ansV 0 3 true (.slice va vn vc)), .int .i64 0])) ∧ Bx w' L (sCt id (.slice ta 1 tc) (.slice (some ⟨g, 0, none⟩) 1 uc) (.slice ca pn cc)).v ∧ Cf w w' A U C N S ∧ W.grownBy w' (some L) := by
  have b1 : Below W.heap.size W (W.alloc (.cells #[.string ⟨#[67, 72, 65, 80, 95, 78]⟩, .string N, .string ⟨#[67, 72, 65, 80, 95, 82]⟩, .string (rspS id T zs)] 41)) := (Below.refl _ _).alloc (Nat.le_refl _) _
  refine (pv3t y.id (p.below b1) (rspS id T zs) _ 2 (l_keys W N _) (l_off rfl p.lg.lt) y.z y.m (by rw [rsp_size]; omega) (fun W' h => ((k.below b1).turn o h).gq y) ((rsp_iff id T S zs).2 hq)).mono ?_
  rintro e w' ⟨⟨va, vn, vc, rfl⟩, h5, h6⟩
  exact ⟨⟨va, vn, vc, rfl⟩, h5, (k.below b1).turn o h6, grown_tr (grown_of_below b1 _) h6⟩
theorem l_threeN (y : Hy w id pa pn pc zs S) (k : Cf w W A U C N S) (p : Np W L (sB id (.slice ta 1 tc) (.slice (some ⟨g, 0, none⟩) 1 uc) (.slice ca pn cc)) ta tc g uc ca pn cc zs N S id) (o : A < L ∧ U < L ∧ C < L ∧ w.heap.size ≤ L) (hq : ¬ rspS id T zs = rspS id S zs) :
    Calls Tryz.prog 11 #[.pointer (some ⟨L, 0, none⟩), .agg #[.int .u8 0, .int .u8 3, .bool true, .slice (some ⟨W.heap.size, 0, none⟩) 2 2]] (W.alloc (.cells #[.string ⟨#[67, 72, 65, 80, 95, 78]⟩, .string N, .string ⟨#[67, 72, 65, 80, 95, 82]⟩, .string (rspS id T zs)] 41)) fun e w' => e = .returned (.tuple #[.agg (ansF 1), .int .i64 0]) ∧ Bx w' L (sNt id (.slice ta 1 tc) (.slice (some ⟨g, 0, none⟩) 1 uc) (.slice ca pn cc)).v ∧ Cf w w' A U C N S ∧ W.grownBy w' (some L) := by
  have b1 : Below W.heap.size W (W.alloc (.cells #[.string ⟨#[67, 72, 65, 80, 95, 78]⟩, .string N, .string ⟨#[67, 72, 65, 80, 95, 82]⟩, .string (rspS id T zs)] 41)) := (Below.refl _ _).alloc (Nat.le_refl _) _
  refine (pv3f y.id (p.below b1) (rspS id T zs) _ 2 (l_keys W N _) (l_off rfl p.lg.lt) y.z y.m (by rw [rsp_size]; omega) (fun W' h => ((k.below b1).turn o h).gq y) (fun h => hq ((rsp_iff id T S zs).1 h))).mono ?_
  rintro e w' ⟨rfl, h5, h6⟩
  exact ⟨rfl, h5, (k.below b1).turn o h6, grown_tr (grown_of_below b1 _) h6⟩
theorem l_answer (y : Hy w id pa pn pc zs S) (k : Cf w W A U C N S) (T : ByteArray) (hT : pn + T.size ≤ 1048576) :
    Calls Tryz.prog 10 #[.int .u8 id, .string T, .slice pa pn pc] W fun e w' => e = .returned (.string (rspS id T zs)) ∧ Cf w w' A U C N S ∧ Below W.heap.size W w' :=
  (ranswer_any id y.id T pa pn pc zs W (k.rd y) y.z hT).mono fun e w' ⟨h1, h2⟩ => ⟨h1, k.below h2, h2⟩
theorem l_findI (W : World) (va : Option Addr) (vn vc : Nat) (I : ByteArray) (zs : List Int) (hp : PsAt W (.slice va vn vc) (ansC I zs)) (hv : vc ≤ maxLen) :
    Calls Tryz.prog 21 #[.slice va vn vc, .string kCI] W fun e w' => e = .returned (.tuple #[.string I, .bool true]) ∧ w' = W := by
  have hle : vn ≤ maxLen := by obtain ⟨a', c', e, _, h, _⟩ := hp; simp only [Value.slice.injEq] at e; obtain ⟨_, e1, e2⟩ := e; omega
  have := rfind_any va vn vc (ansC I zs) kCI W hp hle
  rw [ansC_i] at this
  exact this
theorem l_findC (W : World) (va : Option Addr) (vn vc : Nat) (I : ByteArray) (zs : List Int) (hp : PsAt W (.slice va vn vc) (ansC I zs)) (hv : vc ≤ maxLen) :
    Calls Tryz.prog 21 #[.slice va vn vc, .string kCC] W fun e w' => e = .returned (.tuple #[.string (hexS zs), .bool true]) ∧ w' = W := by
  have hle : vn ≤ maxLen := by obtain ⟨a', c', e, _, h, _⟩ := hp; simp only [Value.slice.injEq] at e; obtain ⟨_, e1, e2⟩ := e; omega
  have := rfind_any va vn vc (ansC I zs) kCC W hp hle
  rw [ansC_c] at this
  exact this
theorem l_num (W : World) (hid : 0 ≤ id ∧ id ≤ 255) : Calls Tryz.prog 22 #[.string (decS id.toNat)] W fun e w' => e = .returned (.tuple #[.int .u64 id, .bool true]) ∧ w' = W := by
  have := num_dec id.toNat (by omega) W
  rw [Int.toNat_of_nonneg hid.1] at this
  exact this
theorem l_unhex (y : Hy w id pa pn pc zs S) (W : World) : Calls Tryz.prog 18 #[.string (hexS zs)] W fun e w' => ∃ v, e = .returned (.tuple #[v, .int .i64 0]) ∧ RdAt w' v zs ∧ Below W.heap.size W w' := by
  have := runhex_s (hexS zs) W (by rw [hexS_size, zs_len y]; have := pn_le y; omega)
  rw [unx_hexS zs y.z] at this
  exact this
end Go.Proofs.YtplifodddfjhdaaGreatDoor

namespace Go.Proofs.YtplifodddfjhdaaGreatDoor
open Go.RowKit
set_option linter.unusedVariables false
set_option linter.unusedSimpArgs false

theorem ps_ltL {w : World} {va : Option Addr} {vn vc : Nat} {ps : Prs} (h : PsAt w (.slice va vn vc) ps) (h0 : 0 < ps.length) : ∀ x, va = some x → x.block < w.heap.size := fun x e => by
  obtain ⟨a', c', e2, _, _, h3⟩ := h
  simp only [Value.slice.injEq] at e2
  rcases h3 with h3 | ⟨b, off, e3, h4, _⟩
  · omega
  · rw [← e2.1, e] at e3
    cases e3
    exact h4
theorem ne_lists {X Y : ByteArray} (h : ¬ X = Y) : (X.toList == Y.toList) = false := by
  refine beq_false_of_ne fun hq => h ?_
  apply ByteArray.ext
  apply Array.ext'
  rw [ByteArray.toList_eq, ByteArray.toList_eq] at hq
  exact hq
def cfgZ : Array Value := #[.slice none 0 0, .slice none 0 0, .bool false]
theorem zCfg : (Tryz.prog.info? 25).map (fun i => i.zero) = some (some (.agg cfgZ)) := by kernel_rfl
theorem cf_made {w : World} (w1 : World) {w3 w4 : World} {C : Nat} (N S : ByteArray) (hb1 : Below w.heap.size w w1) (hC : ((w1.alloc (.cells #[.string ⟨#[116]⟩] 9)).alloc (.cells #[.string N, .string S] 44)).heap.size ≤ C) (h3 : Below ((w1.alloc (.cells #[.string ⟨#[116]⟩] 9)).alloc (.cells #[.string N, .string S] 44)).heap.size ((w1.alloc (.cells #[.string ⟨#[116]⟩] 9)).alloc (.cells #[.string N, .string S] 44)) w3) (h4 : Bx w4 C (cfgV w1.heap.size (w1.heap.size + 1))) (hg : w3.grownBy w4 (some C)) : Cf w w4 w1.heap.size (w1.heap.size + 1) C N S := by
  have hT := (bx_new w1 #[.string ⟨#[116]⟩] 9).alloc (.cells #[.string N, .string S] 44)
  have hU := bx_new (w1.alloc (.cells #[.string ⟨#[116]⟩] 9)) #[.string N, .string S] 44
  have hs := hb1.size
  have hb3 := ((hb1.alloc hb1.size (.cells #[.string ⟨#[116]⟩] 9)).alloc (by simp; omega) (.cells #[.string N, .string S] 44)).trans (h3.mono (by simp; omega))
  rw [show (w1.alloc (.cells #[.string ⟨#[116]⟩] 9)).heap.size = w1.heap.size + 1 from by simp] at hU
  simp at hC
  exact ⟨(hT.below h3 hT.lt).grown hg (fun e => by have := Option.some.inj e; omega), (hU.below h3 hU.lt).grown hg (fun e => by have := Option.some.inj e; omega), h4, hb3.grown hg hb3.size (fun q e => by have := Option.some.inj e; omega)⟩

set_option maxRecDepth 100000 in
set_option maxHeartbeats 16000000 in
theorem proves_any (N S Wr : ByteArray) (id : Int) (pa : Option Addr) (pn pc : Nat) (zs : List Int) (ask : Bool) (w : World) (y : Hy w id pa pn pc zs S) (hW : pn + Wr.size ≤ 1048576) :
    Calls Tryz.prog 5 #[.string N, .string S, .string Wr, .int .u8 id, .slice pa pn pc, .bool ask] w fun e w' => e = .returned (.bool true) ∧ Below w.heap.size w w' := by
  have fW : Kpt (∀ W : World, Calls Tryz.prog 6 #[] W fun e w' => e = .returned (.bool true) ∧ Below W.heap.size W w') := ⟨awake_any⟩
  replace y := Kpt.mk y
  replace hW := Kpt.mk hW
  go_enter Tryz.func5, Tryz.ntmps5
  go_wp2_with (first
    | (refine (?_ : wpList _ _ _ (Oper.mk none (Op.store 25 (.tmp 13) _) _ _ _ _ :: _) _ _); go_must (refine wpList_store_bx rfl 25 (.tmp 13) (.tmp 41) rfl C cfgZ (cfgV w1.heap.size (w1.heap.size + 1)) rfl rfl hC3.out rfl szCfg (by simp [cfgV, Value.oneCell']) rfl ?_; intro w4 hC4 hg4; have hK := Kpt.mk (hf4.out w4 hC4 hg4); clear hC4 hg4 hf4))
    | (refine (?_ : wpList _ _ _ (Oper.mk (some 13) (Op.alloc 25) _ _ _ _ :: _) _ _); go_must (refine wpList_var rfl 25 rfl cfgZ zCfg ?_; intro C w3 hCl hCx hb3q; have hC3 := Kpt.mk hCx; have hf4 : Kpt (∀ w4, Bx w4 C (cfgV w1.heap.size (w1.heap.size + 1)) → w3.grownBy w4 (some C) → Cf w w4 w1.heap.size (w1.heap.size + 1) C N S) := ⟨fun w4 h4 hg => (cf_made w1 N S hb1.out hCl hb3q h4 hg)⟩; clear hCl hCx hb3q))
    | (go_at_call 6; go_must (refine (fW.out _).mono ?_; rintro e w1 ⟨rfl, hb1q⟩; have hb1 := Kpt.mk hb1q; clear hb1q)))
  clear fW hb1 hC3
  go_loopw [14] (fun t wr => ∃ k : Nat, k ≤ 2 ∧ t = .int .i64 k ∧ Kpt (Cf w wr w1.heap.size (w1.heap.size + 1) C N S)) (fun t _ => 2 - (intOf t).toNat)
  case atStart => exact ⟨0, by omega, rfl, hK⟩
  case round =>
    obtain ⟨k, hk, rfl, hKr⟩ := hrel
    clear hK
    by_cases hlt : k < 2
    · obtain rfl | rfl : k = 0 ∨ k = 1 := by omega
      ·
        have hTm : Kpt (pn + S.size ≤ 1048576) := ⟨y.out.m⟩
        go_upto_region 13 with (first
        | (refine (?_ : wpList _ _ _ (Oper.mk none (Op.store 46 (.tmp 19) _) _ _ _ _ :: _) _ _); go_must (refine wpList_store_bx rfl 46 (.tmp 19) (.tmp 70) rfl A2 ansZ (ansV 0 0 false (.slice va vn vc)) rfl rfl hX2.out rfl szAns (by simp [ansV, Value.oneCell']) rfl ?_; intro wg hY2 hgg; have hNg := Kpt.mk (Np.older hNe.out hNf.out hA2.out hgg); have hKg := Kpt.mk (hKf.out.turn hA2o.out hgg); have hY1 := Kpt.mk (hX1f.out.grown hgg (fun e => by have := Option.some.inj e; have := hX1e.out.lt; have := hA2.out; omega)); have hpg := Kpt.mk (hpf.out.grown (fun x e => by have := hva.out x e; have := hA2.out; omega) hgg); have c5 := hY2.cells 5 (by simp [ansV]); have c0 := hY2.cells 0 (by simp [ansV]); have c4 := hY2.cells 4 (by simp [ansV]); have d0 := hY1.out.cells 0 (by simp [ansT]); simp only [ansT, ansV, List.getElem?_toArray, List.getElem?_cons_succ, List.getElem?_cons_zero] at c0 c4 c5 d0; replace hY2 := Kpt.mk hY2; clear hgg hX2 hNe hNf hKf hKe hX1f hX1e hpf hpe hA2 hA2o hva))
        | (refine (?_ : wpList _ _ _ (Oper.mk (some 19) (Op.alloc 46) _ _ _ _ :: _) _ _); go_must (refine wpList_var rfl 46 rfl ansZ zAns ?_; intro A2 wf hA2l hA2x hbf; have hX2 := Kpt.mk hA2x; have hNf := Kpt.mk (hNe.out.below hbf); have hKf := Kpt.mk (hKe.out.below hbf); have hX1f := Kpt.mk (hX1e.out.below hbf hX1e.out.lt); have hpf := Kpt.mk (hpe.out.bel hbf); have hA2 := Kpt.mk hA2l; have hA2o : Kpt (w1.heap.size < A2 ∧ w1.heap.size + 1 < A2 ∧ C < A2 ∧ w.heap.size ≤ A2) := ⟨by have := hO.out; have := hNe.out.lg.lt; omega⟩; have hva : Kpt (∀ x, va = some x → x.block < we.heap.size) := ⟨ps_ltL hpe.out (by simp [ansC])⟩; clear hbf hA2l hA2x))
        | (go_at_call 11; have hm := m2; go_must (refine (l_two ask y.out hKd.out hNd.out hO.out).mono ?_; rintro e we ⟨⟨va, vn, vc, rfl, hpe, hvc, hvn⟩, hNe, hKe, hge⟩; have hX1e := Kpt.mk (hX1d.out.grown hge (fun e => by have := Option.some.inj e; have := hL1.out; omega)); replace hpe := Kpt.mk hpe; replace hvc := Kpt.mk hvc; replace hNe := Kpt.mk hNe; replace hKe := Kpt.mk hKe; clear hge hm m2 hvn hNd hKd hX1d))
        | (refine (?_ : wpList _ _ _ (Oper.mk none (Op.store 46 (.tmp 17) _) _ _ _ _ :: _) _ _); go_must (refine wpList_store_bx rfl 46 (.tmp 17) (.tmp 61) rfl A1 ansZ (ansT 0 (.slice vo vm vd)) rfl rfl hX1.out rfl szAns (by simp [ansT, Value.oneCell']) rfl ?_; intro wd hY1 hgd; have hNd := Kpt.mk (Np.older hNb.out hNc.out hA1.out hgd); have hKd := Kpt.mk (hKc.out.turn hA1o.out hgd); have hX1d := Kpt.mk hY1; have m2 : Kpt True := ⟨trivial⟩; clear hY1 hgd hX1 hNb hNc hKc hKb hA1 hA1o))
        | (refine (?_ : wpList _ _ _ (Oper.mk (some 17) (Op.alloc 46) _ _ _ _ :: _) _ _); go_must (refine wpList_var rfl 46 rfl ansZ zAns ?_; intro A1 wc hA1l hA1x hbc; have hX1 := Kpt.mk hA1x; have hNc := Kpt.mk (hNb.out.below hbc); have hKc := Kpt.mk (hKb.out.below hbc); have hA1 := Kpt.mk hA1l; have hL1 : Kpt (L < A1) := ⟨by have := hNb.out.lg.lt; omega⟩; have hA1o : Kpt (w1.heap.size < A1 ∧ w1.heap.size + 1 < A1 ∧ C < A1 ∧ w.heap.size ≤ A1) := ⟨by have := hO.out; have := hNb.out.lg.lt; omega⟩; clear hbc hA1l hA1x))
        | (go_at_call 11; have hm := m1; go_must (refine (l_one y.out hKh.out hNh.out hO.out ga gc hph.out hoh.out).mono ?_; rintro e wb ⟨⟨vo, vm, vd, rfl⟩, hNb, hKb, hgb⟩; replace hNb := Kpt.mk hNb; replace hKb := Kpt.mk hKb; clear hgb hm m1 hNh hKh hph hoh))
        | (go_at_call 20; go_must (refine (l_hello _).mono ?_; rintro e wh ⟨ga, gc, rfl, hph, hnh, hbh⟩; have hNh := Kpt.mk (hNa.out.below hbh); have hKh := Kpt.mk (hKa.out.below hbh); have hoh : Kpt (Off ga L) := ⟨fun x e => by have := hnh x e; have := hNa.out.lg.lt; omega⟩; replace hph := Kpt.mk hph; have m1 : Kpt True := ⟨trivial⟩; clear hbh hnh hNa hKa))
        | (go_at_call 7; go_must (refine (l_new y.out hKr.out).mono ?_; rintro e wa ⟨⟨L, ta, tc, g, uc, ca, cc, rfl, hNa, hO⟩, hKa, hba⟩; replace hNa := Kpt.mk hNa; replace hO := Kpt.mk hO; replace hKa := Kpt.mk hKa; clear hba))
        | (refine (?_ : wpList _ _ _ (Oper.mk _ (Op.load 25 _) _ _ _ _ :: _) _ _); go_must (refine wpList_load_bx rfl 25 (.tmp 13) rfl C (cfgV w1.heap.size (w1.heap.size + 1)) rfl hKr.out.c _ Tryz.underlying25 rfl szCfg ?_)))
        go_upto_region 17 with (first
        | (go_at_call 18; go_must (refine (l_unhex y.out _).mono ?_; rintro e wu ⟨v, rfl, hru, hbu⟩; have hNu := Kpt.mk (hNg.out.below hbu); have hKu := Kpt.mk (hKg.out.below hbu); have hZ1 := Kpt.mk (hY1.out.below hbu hY1.out.lt); have hZ2 := Kpt.mk (hY2.out.below hbu hY2.out.lt); have c0 := hZ2.out.cells 0 (by simp [ansV]); have c4 := hZ2.out.cells 4 (by simp [ansV]); have d0 := hZ1.out.cells 0 (by simp [ansT]); simp only [ansT, ansV, List.getElem?_toArray, List.getElem?_cons_succ, List.getElem?_cons_zero] at c0 c4 d0; have q1 := conv_rd hru; have q2 := conv_rd (hKu.out.rd y.out); clear hru hbu hNg hKg hY1 hY2))
        | (go_at_call 22; go_must (refine (l_num _ y.out.id).mono ?_; rintro e wx ⟨rfl, rfl⟩; clear c0 c4 c5 d0))
        | (go_at_call 21; have hm := m3; go_must (refine (l_findC _ va vn vc _ zs hpg.out hvc.out).mono ?_; rintro e wx ⟨rfl, rfl⟩; clear hm m3))
        | (go_at_call 21; go_must (refine (l_findI _ va vn vc _ zs hpg.out hvc.out).mono ?_; rintro e wx ⟨rfl, rfl⟩; have m3 : Kpt True := ⟨trivial⟩)))
        clear hpg hvc
        have hi1 := y.out.id.1
        have hi2 := y.out.id.2
        go_upto_region 19 with (fail)
        go_wp2_with (first
        | (refine (?_ : wpList _ _ _ (Oper.mk none (Op.store 46 (.tmp 32) _) _ _ _ _ :: _) _ _); go_must (refine wpList_store_bx rfl 46 (.tmp 32) (.tmp 182) rfl A4 ansZ ansZ rfl rfl hX4.out rfl szAns (by simp [ansZ, Value.oneCell']) rfl ?_; intro wz hY4 hgz; have hKz := Kpt.mk (hK4.out.turn hA4o.out hgz); clear hY4 hgz hX4 hK4 hA4o))
        | (refine (?_ : wpList _ _ _ (Oper.mk (some 32) (Op.alloc 46) _ _ _ _ :: _) _ _); go_must (refine wpList_var rfl 46 rfl ansZ zAns ?_; intro A4 w4z hA4l hA4x hb4z; have hX4 := Kpt.mk hA4x; have hK4 := Kpt.mk (hK3.out.below hb4z); have hA4o : Kpt (w1.heap.size < A4 ∧ w1.heap.size + 1 < A4 ∧ C < A4 ∧ w.heap.size ≤ A4) := ⟨by have := hO.out; have := hL3.out; omega⟩; clear hb4z hA4l hA4x hK3))
        | (go_at_call 11; have hm := m5; go_must (refine (step_over L _ rfl _ rfl _ hLl.out).mono ?_; rintro e w3z ⟨rfl, hb3z⟩; have hK3 := Kpt.mk (hKl.out.below hb3z); have hL3 : Kpt (L < w3z.heap.size) := ⟨by have := hLl.out.lt; have := hb3z.size; omega⟩; clear hb3z hm m5))
        | (go_at_call 15; go_must (refine (over_any L _ _ hLl.out).mono ?_; rintro e wx ⟨rfl, rfl⟩))
        | (go_at_call 14; go_must (refine (done_any L _ _ hLl.out).mono ?_; rintro e wx ⟨rfl, rfl⟩))
        | (go_at_call 10; have hm := m7; go_must (refine (l_answer y.out hKk2.out S y.out.m).mono ?_; rintro e wl ⟨rfl, hKl, hbl⟩; replace hKl := Kpt.mk hKl; have hLl := Kpt.mk (hLk2.out.below hbl hLk2.out.lt); have hY3l := Kpt.mk (hY3k.out.below hbl hY3k.out.lt); have e0 := hY3l.out.cells 0 (by simp [ansV]); simp only [ansV, List.getElem?_toArray, List.getElem?_cons_succ, List.getElem?_cons_zero] at e0; have m5 : Kpt True := ⟨trivial⟩; clear hbl hm m7 hKk2 hLk2 hY3k))
        | (go_at_call 10; have hm := m6; go_must (refine (l_answer y.out hKk.out S hTm.out).mono ?_; rintro e wk2 ⟨rfl, hKk2, hbk2⟩; replace hKk2 := Kpt.mk hKk2; have hLk2 := Kpt.mk (hLk.out.below hbk2 hLk.out.lt); have hY3k := Kpt.mk (hY3.out.below hbk2 hY3.out.lt); have m7 : Kpt True := ⟨trivial⟩; clear hbk2 hm m6 hKk hLk hY3))
        | (refine (?_ : wpList _ _ _ (Oper.mk none (Op.store 46 (.tmp 29) _) _ _ _ _ :: _) _ _); go_must (refine wpList_store_bx rfl 46 (.tmp 29) (.tmp 147) rfl A3 ansZ (ansV 0 3 true (.slice vo3 vm3 vd3)) rfl rfl hX3.out rfl szAns (by simp [ansV, Value.oneCell']) rfl ?_; intro wk hY3 hgk; have hKk := Kpt.mk (hK3j.out.turn hA3o.out hgk); have hLk := Kpt.mk (hL3j.out.grown hgk (fun e => by have := Option.some.inj e; have := hL3a.out; omega)); replace hY3 := Kpt.mk hY3; have m6 : Kpt True := ⟨trivial⟩; clear hgk hX3 hK3j hL3j hA3o hL3a))
        | (refine (?_ : wpList _ _ _ (Oper.mk (some 29) (Op.alloc 46) _ _ _ _ :: _) _ _); go_must (refine wpList_var rfl 46 rfl ansZ zAns ?_; intro A3 w3j hA3l hA3x hb3j; have hX3 := Kpt.mk hA3x; have hK3j := Kpt.mk (hKj.out.below hb3j); have hL3j := Kpt.mk (hLj.out.below hb3j hLj.out.lt); have hL3a : Kpt (L < A3) := ⟨by have := hLj.out.lt; omega⟩; have hA3o : Kpt (w1.heap.size < A3 ∧ w1.heap.size + 1 < A3 ∧ C < A3 ∧ w.heap.size ≤ A3) := ⟨by have := hO.out; have := hLj.out.lt; omega⟩; clear hb3j hA3l hA3x hKj hLj))
        | (go_at_call 11; have hm := m4; go_must (refine (l_three (T := S) y.out hKi.out hNi.out hO.out rfl).mono ?_; rintro e wj ⟨⟨vo3, vm3, vd3, rfl⟩, hLj, hKj, hgj⟩; replace hLj := Kpt.mk hLj; replace hKj := Kpt.mk hKj; clear hgj hm m4 hNi hKi))
        | (go_at_call 10; go_must (refine (l_answer y.out hKu.out S hTm.out).mono ?_; rintro e wi ⟨rfl, hKi, hbi⟩; have hNi := Kpt.mk (hNu.out.below hbi); replace hKi := Kpt.mk hKi; have m4 : Kpt True := ⟨trivial⟩; clear hbi hNu hKu hZ1 hZ2 c0 c4 d0 q1 q2)))
        go_roundw
        case rel => exact ⟨1, by omega, by go_num, hKz⟩
        case measure => simp [intOf]
      ·
        have hTm : Kpt (pn + Wr.size ≤ 1048576) := ⟨hW.out⟩
        go_upto_region 13 with (first
        | (refine (?_ : wpList _ _ _ (Oper.mk none (Op.store 46 (.tmp 19) _) _ _ _ _ :: _) _ _); go_must (refine wpList_store_bx rfl 46 (.tmp 19) (.tmp 70) rfl A2 ansZ (ansV 0 0 false (.slice va vn vc)) rfl rfl hX2.out rfl szAns (by simp [ansV, Value.oneCell']) rfl ?_; intro wg hY2 hgg; have hNg := Kpt.mk (Np.older hNe.out hNf.out hA2.out hgg); have hKg := Kpt.mk (hKf.out.turn hA2o.out hgg); have hY1 := Kpt.mk (hX1f.out.grown hgg (fun e => by have := Option.some.inj e; have := hX1e.out.lt; have := hA2.out; omega)); have hpg := Kpt.mk (hpf.out.grown (fun x e => by have := hva.out x e; have := hA2.out; omega) hgg); have c5 := hY2.cells 5 (by simp [ansV]); have c0 := hY2.cells 0 (by simp [ansV]); have c4 := hY2.cells 4 (by simp [ansV]); have d0 := hY1.out.cells 0 (by simp [ansT]); simp only [ansT, ansV, List.getElem?_toArray, List.getElem?_cons_succ, List.getElem?_cons_zero] at c0 c4 c5 d0; replace hY2 := Kpt.mk hY2; clear hgg hX2 hNe hNf hKf hKe hX1f hX1e hpf hpe hA2 hA2o hva))
        | (refine (?_ : wpList _ _ _ (Oper.mk (some 19) (Op.alloc 46) _ _ _ _ :: _) _ _); go_must (refine wpList_var rfl 46 rfl ansZ zAns ?_; intro A2 wf hA2l hA2x hbf; have hX2 := Kpt.mk hA2x; have hNf := Kpt.mk (hNe.out.below hbf); have hKf := Kpt.mk (hKe.out.below hbf); have hX1f := Kpt.mk (hX1e.out.below hbf hX1e.out.lt); have hpf := Kpt.mk (hpe.out.bel hbf); have hA2 := Kpt.mk hA2l; have hA2o : Kpt (w1.heap.size < A2 ∧ w1.heap.size + 1 < A2 ∧ C < A2 ∧ w.heap.size ≤ A2) := ⟨by have := hO.out; have := hNe.out.lg.lt; omega⟩; have hva : Kpt (∀ x, va = some x → x.block < we.heap.size) := ⟨ps_ltL hpe.out (by simp [ansC])⟩; clear hbf hA2l hA2x))
        | (go_at_call 11; have hm := m2; go_must (refine (l_two ask y.out hKd.out hNd.out hO.out).mono ?_; rintro e we ⟨⟨va, vn, vc, rfl, hpe, hvc, hvn⟩, hNe, hKe, hge⟩; have hX1e := Kpt.mk (hX1d.out.grown hge (fun e => by have := Option.some.inj e; have := hL1.out; omega)); replace hpe := Kpt.mk hpe; replace hvc := Kpt.mk hvc; replace hNe := Kpt.mk hNe; replace hKe := Kpt.mk hKe; clear hge hm m2 hvn hNd hKd hX1d))
        | (refine (?_ : wpList _ _ _ (Oper.mk none (Op.store 46 (.tmp 17) _) _ _ _ _ :: _) _ _); go_must (refine wpList_store_bx rfl 46 (.tmp 17) (.tmp 61) rfl A1 ansZ (ansT 0 (.slice vo vm vd)) rfl rfl hX1.out rfl szAns (by simp [ansT, Value.oneCell']) rfl ?_; intro wd hY1 hgd; have hNd := Kpt.mk (Np.older hNb.out hNc.out hA1.out hgd); have hKd := Kpt.mk (hKc.out.turn hA1o.out hgd); have hX1d := Kpt.mk hY1; have m2 : Kpt True := ⟨trivial⟩; clear hY1 hgd hX1 hNb hNc hKc hKb hA1 hA1o))
        | (refine (?_ : wpList _ _ _ (Oper.mk (some 17) (Op.alloc 46) _ _ _ _ :: _) _ _); go_must (refine wpList_var rfl 46 rfl ansZ zAns ?_; intro A1 wc hA1l hA1x hbc; have hX1 := Kpt.mk hA1x; have hNc := Kpt.mk (hNb.out.below hbc); have hKc := Kpt.mk (hKb.out.below hbc); have hA1 := Kpt.mk hA1l; have hL1 : Kpt (L < A1) := ⟨by have := hNb.out.lg.lt; omega⟩; have hA1o : Kpt (w1.heap.size < A1 ∧ w1.heap.size + 1 < A1 ∧ C < A1 ∧ w.heap.size ≤ A1) := ⟨by have := hO.out; have := hNb.out.lg.lt; omega⟩; clear hbc hA1l hA1x))
        | (go_at_call 11; have hm := m1; go_must (refine (l_one y.out hKh.out hNh.out hO.out ga gc hph.out hoh.out).mono ?_; rintro e wb ⟨⟨vo, vm, vd, rfl⟩, hNb, hKb, hgb⟩; replace hNb := Kpt.mk hNb; replace hKb := Kpt.mk hKb; clear hgb hm m1 hNh hKh hph hoh))
        | (go_at_call 20; go_must (refine (l_hello _).mono ?_; rintro e wh ⟨ga, gc, rfl, hph, hnh, hbh⟩; have hNh := Kpt.mk (hNa.out.below hbh); have hKh := Kpt.mk (hKa.out.below hbh); have hoh : Kpt (Off ga L) := ⟨fun x e => by have := hnh x e; have := hNa.out.lg.lt; omega⟩; replace hph := Kpt.mk hph; have m1 : Kpt True := ⟨trivial⟩; clear hbh hnh hNa hKa))
        | (go_at_call 7; go_must (refine (l_new y.out hKr.out).mono ?_; rintro e wa ⟨⟨L, ta, tc, g, uc, ca, cc, rfl, hNa, hO⟩, hKa, hba⟩; replace hNa := Kpt.mk hNa; replace hO := Kpt.mk hO; replace hKa := Kpt.mk hKa; clear hba))
        | (refine (?_ : wpList _ _ _ (Oper.mk _ (Op.load 25 _) _ _ _ _ :: _) _ _); go_must (refine wpList_load_bx rfl 25 (.tmp 13) rfl C (cfgV w1.heap.size (w1.heap.size + 1)) rfl hKr.out.c _ Tryz.underlying25 rfl szCfg ?_)))
        go_upto_region 17 with (first
        | (go_at_call 18; go_must (refine (l_unhex y.out _).mono ?_; rintro e wu ⟨v, rfl, hru, hbu⟩; have hNu := Kpt.mk (hNg.out.below hbu); have hKu := Kpt.mk (hKg.out.below hbu); have hZ1 := Kpt.mk (hY1.out.below hbu hY1.out.lt); have hZ2 := Kpt.mk (hY2.out.below hbu hY2.out.lt); have c0 := hZ2.out.cells 0 (by simp [ansV]); have c4 := hZ2.out.cells 4 (by simp [ansV]); have d0 := hZ1.out.cells 0 (by simp [ansT]); simp only [ansT, ansV, List.getElem?_toArray, List.getElem?_cons_succ, List.getElem?_cons_zero] at c0 c4 d0; have q1 := conv_rd hru; have q2 := conv_rd (hKu.out.rd y.out); clear hru hbu hNg hKg hY1 hY2))
        | (go_at_call 22; go_must (refine (l_num _ y.out.id).mono ?_; rintro e wx ⟨rfl, rfl⟩; clear c0 c4 c5 d0))
        | (go_at_call 21; have hm := m3; go_must (refine (l_findC _ va vn vc _ zs hpg.out hvc.out).mono ?_; rintro e wx ⟨rfl, rfl⟩; clear hm m3))
        | (go_at_call 21; go_must (refine (l_findI _ va vn vc _ zs hpg.out hvc.out).mono ?_; rintro e wx ⟨rfl, rfl⟩; have m3 : Kpt True := ⟨trivial⟩)))
        clear hpg hvc
        have hi1 := y.out.id.1
        have hi2 := y.out.id.2
        go_upto_region 19 with (fail)
        by_cases hq' : rspS id Wr zs = rspS id S zs
        · have hq := Kpt.mk hq'
          clear hq'
          go_wp2_with (first
        | (refine (?_ : wpList _ _ _ (Oper.mk none (Op.store 46 (.tmp 32) _) _ _ _ _ :: _) _ _); go_must (refine wpList_store_bx rfl 46 (.tmp 32) (.tmp 182) rfl A4 ansZ ansZ rfl rfl hX4.out rfl szAns (by simp [ansZ, Value.oneCell']) rfl ?_; intro wz hY4 hgz; have hKz := Kpt.mk (hK4.out.turn hA4o.out hgz); clear hY4 hgz hX4 hK4 hA4o))
        | (refine (?_ : wpList _ _ _ (Oper.mk (some 32) (Op.alloc 46) _ _ _ _ :: _) _ _); go_must (refine wpList_var rfl 46 rfl ansZ zAns ?_; intro A4 w4z hA4l hA4x hb4z; have hX4 := Kpt.mk hA4x; have hK4 := Kpt.mk (hK3.out.below hb4z); have hA4o : Kpt (w1.heap.size < A4 ∧ w1.heap.size + 1 < A4 ∧ C < A4 ∧ w.heap.size ≤ A4) := ⟨by have := hO.out; have := hL3.out; omega⟩; clear hb4z hA4l hA4x hK3))
        | (go_at_call 11; have hm := m5; go_must (refine (step_over L _ rfl _ rfl _ hLl.out).mono ?_; rintro e w3z ⟨rfl, hb3z⟩; have hK3 := Kpt.mk (hKl.out.below hb3z); have hL3 : Kpt (L < w3z.heap.size) := ⟨by have := hLl.out.lt; have := hb3z.size; omega⟩; clear hb3z hm m5))
        | (go_at_call 15; go_must (refine (over_any L _ _ hLl.out).mono ?_; rintro e wx ⟨rfl, rfl⟩))
        | (go_at_call 14; go_must (refine (done_any L _ _ hLl.out).mono ?_; rintro e wx ⟨rfl, rfl⟩))
        | (go_at_call 10; have hm := m7; go_must (refine (l_answer y.out hKk2.out S y.out.m).mono ?_; rintro e wl ⟨rfl, hKl, hbl⟩; replace hKl := Kpt.mk hKl; have hLl := Kpt.mk (hLk2.out.below hbl hLk2.out.lt); have hY3l := Kpt.mk (hY3k.out.below hbl hY3k.out.lt); have e0 := hY3l.out.cells 0 (by simp [ansV]); simp only [ansV, List.getElem?_toArray, List.getElem?_cons_succ, List.getElem?_cons_zero] at e0; have m5 : Kpt True := ⟨trivial⟩; have hqq := hq.out; clear hbl hm m7 hKk2 hLk2 hY3k))
        | (go_at_call 10; have hm := m6; go_must (refine (l_answer y.out hKk.out Wr hTm.out).mono ?_; rintro e wk2 ⟨rfl, hKk2, hbk2⟩; replace hKk2 := Kpt.mk hKk2; have hLk2 := Kpt.mk (hLk.out.below hbk2 hLk.out.lt); have hY3k := Kpt.mk (hY3.out.below hbk2 hY3.out.lt); have m7 : Kpt True := ⟨trivial⟩; clear hbk2 hm m6 hKk hLk hY3))
        | (refine (?_ : wpList _ _ _ (Oper.mk none (Op.store 46 (.tmp 29) _) _ _ _ _ :: _) _ _); go_must (refine wpList_store_bx rfl 46 (.tmp 29) (.tmp 147) rfl A3 ansZ (ansV 0 3 true (.slice vo3 vm3 vd3)) rfl rfl hX3.out rfl szAns (by simp [ansV, Value.oneCell']) rfl ?_; intro wk hY3 hgk; have hKk := Kpt.mk (hK3j.out.turn hA3o.out hgk); have hLk := Kpt.mk (hL3j.out.grown hgk (fun e => by have := Option.some.inj e; have := hL3a.out; omega)); replace hY3 := Kpt.mk hY3; have m6 : Kpt True := ⟨trivial⟩; clear hgk hX3 hK3j hL3j hA3o hL3a))
        | (refine (?_ : wpList _ _ _ (Oper.mk (some 29) (Op.alloc 46) _ _ _ _ :: _) _ _); go_must (refine wpList_var rfl 46 rfl ansZ zAns ?_; intro A3 w3j hA3l hA3x hb3j; have hX3 := Kpt.mk hA3x; have hK3j := Kpt.mk (hKj.out.below hb3j); have hL3j := Kpt.mk (hLj.out.below hb3j hLj.out.lt); have hL3a : Kpt (L < A3) := ⟨by have := hLj.out.lt; omega⟩; have hA3o : Kpt (w1.heap.size < A3 ∧ w1.heap.size + 1 < A3 ∧ C < A3 ∧ w.heap.size ≤ A3) := ⟨by have := hO.out; have := hLj.out.lt; omega⟩; clear hb3j hA3l hA3x hKj hLj))
        | (go_at_call 11; have hm := m4; go_must (refine (l_three (T := Wr) y.out hKi.out hNi.out hO.out hq.out).mono ?_; rintro e wj ⟨⟨vo3, vm3, vd3, rfl⟩, hLj, hKj, hgj⟩; replace hLj := Kpt.mk hLj; replace hKj := Kpt.mk hKj; clear hgj hm m4 hNi hKi))
        | (go_at_call 10; go_must (refine (l_answer y.out hKu.out Wr hTm.out).mono ?_; rintro e wi ⟨rfl, hKi, hbi⟩; have hNi := Kpt.mk (hNu.out.below hbi); replace hKi := Kpt.mk hKi; have m4 : Kpt True := ⟨trivial⟩; clear hbi hNu hKu hZ1 hZ2 c0 c4 d0 q1 q2)))
          go_roundw
          case rel => exact ⟨2, by omega, by go_num, hKz⟩
          case measure => simp [intOf]
        · have hq := Kpt.mk hq'
          clear hq'
          go_wp2_with (first
        | (refine (?_ : wpList _ _ _ (Oper.mk none (Op.store 46 (.tmp 32) _) _ _ _ _ :: _) _ _); go_must (refine wpList_store_bx rfl 46 (.tmp 32) (.tmp 182) rfl A4 ansZ ansZ rfl rfl hX4.out rfl szAns (by simp [ansZ, Value.oneCell']) rfl ?_; intro wz hY4 hgz; have hKz := Kpt.mk (hK4.out.turn hA4o.out hgz); clear hY4 hgz hX4 hK4 hA4o))
        | (refine (?_ : wpList _ _ _ (Oper.mk (some 32) (Op.alloc 46) _ _ _ _ :: _) _ _); go_must (refine wpList_var rfl 46 rfl ansZ zAns ?_; intro A4 w4z hA4l hA4x hb4z; have hX4 := Kpt.mk hA4x; have hK4 := Kpt.mk (hK3.out.below hb4z); have hA4o : Kpt (w1.heap.size < A4 ∧ w1.heap.size + 1 < A4 ∧ C < A4 ∧ w.heap.size ≤ A4) := ⟨by have := hO.out; have := hL3.out; omega⟩; clear hb4z hA4l hA4x hK3))
        | (go_at_call 11; have hm := m5; go_must (refine (step_over L _ rfl _ rfl _ hLl.out).mono ?_; rintro e w3z ⟨rfl, hb3z⟩; have hK3 := Kpt.mk (hKl.out.below hb3z); have hL3 : Kpt (L < w3z.heap.size) := ⟨by have := hLl.out.lt; have := hb3z.size; omega⟩; clear hb3z hm m5))
        | (go_at_call 15; go_must (refine (over_any L _ _ hLl.out).mono ?_; rintro e wx ⟨rfl, rfl⟩))
        | (go_at_call 14; go_must (refine (done_any L _ _ hLl.out).mono ?_; rintro e wx ⟨rfl, rfl⟩))
        | (go_at_call 10; have hm := m7; go_must (refine (l_answer y.out hKk2.out S y.out.m).mono ?_; rintro e wl ⟨rfl, hKl, hbl⟩; replace hKl := Kpt.mk hKl; have hLl := Kpt.mk (hLk2.out.below hbl hLk2.out.lt); have hY3l := Kpt.mk (hY3k.out.below hbl hY3k.out.lt); have e0 := hY3l.out.cells 0 (by simp [ansF]); simp only [ansF, List.getElem?_toArray, List.getElem?_cons_succ, List.getElem?_cons_zero] at e0; have m5 : Kpt True := ⟨trivial⟩; have hqq := hq.out; have hqb := ne_lists hqq; clear hbl hm m7 hKk2 hLk2 hY3k))
        | (go_at_call 10; have hm := m6; go_must (refine (l_answer y.out hKk.out Wr hTm.out).mono ?_; rintro e wk2 ⟨rfl, hKk2, hbk2⟩; replace hKk2 := Kpt.mk hKk2; have hLk2 := Kpt.mk (hLk.out.below hbk2 hLk.out.lt); have hY3k := Kpt.mk (hY3.out.below hbk2 hY3.out.lt); have m7 : Kpt True := ⟨trivial⟩; clear hbk2 hm m6 hKk hLk hY3))
        | (refine (?_ : wpList _ _ _ (Oper.mk none (Op.store 46 (.tmp 29) _) _ _ _ _ :: _) _ _); go_must (refine wpList_store_bx rfl 46 (.tmp 29) (.tmp 147) rfl A3 ansZ (ansF 1) rfl rfl hX3.out rfl szAns (by simp [ansF, Value.oneCell']) rfl ?_; intro wk hY3 hgk; have hKk := Kpt.mk (hK3j.out.turn hA3o.out hgk); have hLk := Kpt.mk (hL3j.out.grown hgk (fun e => by have := Option.some.inj e; have := hL3a.out; omega)); replace hY3 := Kpt.mk hY3; have m6 : Kpt True := ⟨trivial⟩; clear hgk hX3 hK3j hL3j hA3o hL3a))
        | (refine (?_ : wpList _ _ _ (Oper.mk (some 29) (Op.alloc 46) _ _ _ _ :: _) _ _); go_must (refine wpList_var rfl 46 rfl ansZ zAns ?_; intro A3 w3j hA3l hA3x hb3j; have hX3 := Kpt.mk hA3x; have hK3j := Kpt.mk (hKj.out.below hb3j); have hL3j := Kpt.mk (hLj.out.below hb3j hLj.out.lt); have hL3a : Kpt (L < A3) := ⟨by have := hLj.out.lt; omega⟩; have hA3o : Kpt (w1.heap.size < A3 ∧ w1.heap.size + 1 < A3 ∧ C < A3 ∧ w.heap.size ≤ A3) := ⟨by have := hO.out; have := hLj.out.lt; omega⟩; clear hb3j hA3l hA3x hKj hLj))
        | (go_at_call 11; have hm := m4; go_must (refine (l_threeN y.out hKi.out hNi.out hO.out hq.out).mono ?_; rintro e wj ⟨rfl, hLj, hKj, hgj⟩; replace hLj := Kpt.mk hLj; replace hKj := Kpt.mk hKj; clear hgj hm m4 hNi hKi))
        | (go_at_call 10; go_must (refine (l_answer y.out hKu.out Wr hTm.out).mono ?_; rintro e wi ⟨rfl, hKi, hbi⟩; have hNi := Kpt.mk (hNu.out.below hbi); replace hKi := Kpt.mk hKi; have m4 : Kpt True := ⟨trivial⟩; clear hbi hNu hKu hZ1 hZ2 c0 c4 d0 q1 q2)))
          go_roundw
          case rel => exact ⟨2, by omega, by go_num, hKz⟩
          case measure => simp [intOf]
    · obtain rfl : k = 2 := by omega
      go_wp2
      go_ret
      exact ⟨rfl, hKr.out.b⟩
end Go.Proofs.YtplifodddfjhdaaGreatDoor

namespace Go.Proofs.YtplifodddfjhdaaGreatDoor
open Go.RowKit
set_option linter.unusedVariables false
set_option linter.unusedSimpArgs false

theorem rd_isrow {w : World} {a : Option Addr} {n c : Nat} {zs : List Int} (h : (a = none ∧ n = 0 ∧ c = 0 ∧ zs = []) ∨ ∃ x, a = some x ∧ n ≤ c ∧ c ≤ 140737488351232 ∧ zs.length = c ∧ (∀ i, i < zs.length → w.cell? (x.add i) = some (.int .u8 (zs.getD i 0))) ∧ ∀ n ∈ zs, (Lit.int .u8 n).wf = true) :
    RdAt w (.slice a n c) (zs.take n) ∧ Bytes (zs.take n) ∧ n ≤ 140737488351232 ∧ (Value.slice a n c = .slice none 0 0 ∨ (∃ x, Value.slice a n c = .slice (some x) 0 0) ∨ ∃ b off n' c', Value.slice a n c = .slice (some ⟨b, off, none⟩) n' c') := by
  rcases h with ⟨rfl, rfl, rfl, rfl⟩ | ⟨x, rfl, h1, h2, h3, h4, h5⟩
  · exact ⟨rd_nil w, Bytes.nil, by omega, .inl rfl⟩
  · have hlen : (zs.take n).length = n := by rw [List.length_take]; omega
    have hb : Bytes (zs.take n) := bytes_of_mem fun y hy => by
      have := h5 y (List.mem_of_mem_take hy)
      simp [Lit.wf, IntKind.min, IntKind.max, IntKind.bits, IntKind.signed] at this
      omega
    have hsp : 0 < c → x.spot = none := fun hc => by
      have hc0 := h4 0 (by omega)
      simpa [Addr.add] using World.cell?_spot hc0
    refine ⟨⟨some x, c, by rw [hlen], (fun h => by cases h), by omega, ?_⟩, hb, by omega, ?_⟩
    · by_cases h0 : n = 0
      · exact .inl (by omega)
      · obtain ⟨b, off, spot⟩ := x
        obtain rfl : spot = none := hsp (by omega)
        refine .inr ⟨b, off, rfl, fun j u hu => ?_⟩
        have hj : j < n := by have := (List.getElem?_eq_some_iff.1 hu).1; simp at this; omega
        have := h4 j (by omega)
        rw [Go.WideShapes.add_plain] at this
        rw [this, ← hu]
        have hjz : j < zs.length := by omega
        simp [cels, List.getElem?_map, List.getElem?_take, hj, List.getElem?_eq_getElem hjz, List.getD_eq_getElem?_getD]
    · by_cases hc : 0 < c
      · obtain ⟨b, off, spot⟩ := x
        obtain rfl : spot = none := hsp hc
        exact .inr (.inr ⟨b, off, n, c, rfl⟩)
      · exact .inr (.inl ⟨x, by rw [show n = 0 by omega, show c = 0 by omega]⟩)
end Go.Proofs.YtplifodddfjhdaaGreatDoor
