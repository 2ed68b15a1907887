/-
  sess: commands in any order: what is held, what is open, what is to be done.
-/
import Derived.Test.YtdplndlmdhpfaaaEAwk
namespace Go.Proofs.Ytdplndlmdhpfaaa
open Go.RowKit
set_option linter.unusedVariables false
set_option linter.unusedSimpArgs false

def opd (first : Int) (k : Nat) : Pd := rdP (100 + k) ((first + k) % 4294967296) 0
def hds (first : Int) (ks : List Nat) : List (Array Value) := ks.map (fun k => (opd first k).v)
def ocs (nx : Nat) : List Cm := (List.range nx).map (fun k : Nat => (⟨100 + (k : Int), 0, true, 0⟩ : Cm))
theorem ocs_succ (first : Int) (nx : Nat) : ocs (nx + 1) = ocs nx ++ [(opd first nx).cm] := by
  unfold ocs
  rw [List.range_succ, List.map_append]
  rfl
theorem ocs_len (nx : Nat) : (ocs nx).length = nx := by simp [ocs]
theorem fidx_none (p : Array Value → Bool) : ∀ (ts : List (Array Value)) (i : Nat), (∀ t ∈ ts, p t = false) → fidx p ts i = -1
  | [], _, _ => rfl
  | t :: r, i, h => by
    unfold fidx
    rw [if_neg (by rw [h t (by simp)]; simp), fidx_none p r (i + 1) (fun x hx => h x (by simp [hx]))]
theorem ocs_free (nx : Nat) : fidx (isC (100 + nx)) ((ocs nx).map Cm.v) 0 = -1 := by
  refine fidx_none _ _ _ (fun t ht => ?_)
  obtain ⟨c, hc, rfl⟩ := List.mem_map.1 ht
  unfold ocs at hc
  obtain ⟨k, hk, rfl⟩ := List.mem_map.1 hc
  simp only [List.mem_range] at hk
  simp only [isC, tagOf_v]
  exact decide_eq_false (by omega)
theorem hds_get {first : Int} {ks : List Nat} {at_ k : Nat} (h : ks[at_]? = some k) : (hds first ks)[at_]? = some (opd first k).v := by
  unfold hds; rw [List.getElem?_map, h]; rfl
theorem hds_erase (first : Int) : ∀ (ks : List Nat) (i : Nat), (hds first ks).eraseIdx i = hds first (ks.eraseIdx i)
  | [], i => by simp [hds]
  | k :: ks, 0 => by simp [hds]
  | k :: ks, i + 1 => by
    have := hds_erase first ks i
    unfold hds at this ⊢
    simp only [List.map_cons, List.eraseIdx_cons_succ]
    rw [this]
theorem hds_len (first : Int) (ks : List Nat) : (hds first ks).length = ks.length := by simp [hds]
theorem hds_wide (first : Int) (ks : List Nat) : Wide 14 (hds first ks) := fun z hz => by
  obtain ⟨k, _, rfl⟩ := List.mem_map.1 hz
  exact Pd.one (p := opd first k) rfl
theorem erase_mem {ks : List Nat} {i k : Nat} (hnd : ks.Nodup) (h : ks[i]? = some k) (j : Nat) : j ∈ ks.eraseIdx i ↔ j ∈ ks ∧ j ≠ k := by
  rw [List.mem_eraseIdx_iff_getElem?]
  constructor
  · rintro ⟨q, hq, hj⟩
    refine ⟨List.mem_of_getElem? hj, fun e => hq ?_⟩
    subst e
    have h1 := (List.getElem?_eq_some_iff.1 hj).1
    exact (List.getElem?_inj h1 hnd).1 (hj.trans h.symm)
  · rintro ⟨hj, hne⟩
    obtain ⟨q, hq⟩ := List.mem_iff_getElem?.1 hj
    exact ⟨q, fun e => hne (by subst e; rw [h] at hq; injection hq with hq; exact hq.symm), hq⟩

/-- The tasks that were told so far. -/
structure Tr (w W : World) (S : Nat) (s : Se) (nx0 nx : Nat) (tv : Value) (zs : List (Array Value)) : Prop where
  own : OwnR 41 8 W tv zs
  len : zs.length + nx0 = nx
  tags : ∀ (j : Nat) (z : Array Value), zs[j]? = some z → z[0]? = some (Value.int .u32 (100 + nx0 + j))
  off : ∀ b, tv.ownBlock = some b → ¬ s.X S b ∧ w.heap.size ≤ b
theorem Tr.turn {w W W' : World} {S nx0 nx : Nat} {s s' : Se} {tv : Value} {zs : List (Array Value)} (h : Tr w W S s nx0 nx tv zs) (t : St S W W' s s') : Tr w W' S s' nx0 nx tv zs :=
  ⟨h.own.of_block (fun g hg => t.fr.block g (h.own.lt hg) (h.off g hg).1), h.len, h.tags, fun b hb => ⟨fun e => by rcases t.new b e with e | e; exact (h.off b hb).1 e; have := h.own.lt hb; omega, (h.off b hb).2⟩⟩
theorem Tr.below {w W W' : World} {S nx0 nx : Nat} {s : Se} {tv : Value} {zs : List (Array Value)} (h : Tr w W S s nx0 nx tv zs) (hb : Below W.heap.size W W') : Tr w W' S s nx0 nx tv zs := h.turn (St.of_below s hb)

/-- What a command in its turn comes to. -/
theorem do_ord (S : Nat) (s : Se) (H : List (Array Value)) (first : Int) (nx : Nat) (w : World) (h : Ss w S s H ((ocs nx).map Cm.v) []) (hds' : s.dis = false) (hn : nx ≤ 5000) :
    Calls Try.prog 24 #[.pointer (some ⟨S, 0, none⟩), .agg (opd first nx).v] w fun e w' => ∃ (u v2 : Value) (z : Array Value), e = .returned (.tuple #[.slice none 0 0, u]) ∧ Ss w' S { s with opn := v2 } H ((ocs (nx + 1)).map Cm.v) [] ∧ St S w w' s { s with opn := v2 } ∧ Got w' S { s with opn := v2 } 41 8 u [z] ∧ (∃ b, u = .slice (some ⟨b, 0, none⟩) 1 1 ∧ w.heap.size ≤ b) ∧ z[0]? = some (.int .u32 (100 + nx)) := by
  have hD : Dt (s.X S) w (opd first nx).da [] := ⟨rd_nil w, fun h0 => absurd h0 (by simp)⟩
  refine (do_beg S s H ((ocs nx).map Cm.v) [] (opd first nx) (fun v u W2 w' => v = .slice none 0 0 ∧ ∃ v2 cv ov, Ss w' S { s with opn := v2 } H ((ocs nx ++ [(opd first nx).cm]).map Cm.v) [] ∧ St S W2 w' s { s with opn := v2 } ∧ Ou W2 w' S { s with opn := v2 } u 41 ((opd first nx).tk cv ov).v ∧ Dt (({ s with opn := v2 } : Se).X S) w' cv (opd first nx).cdb ∧ Dt (({ s with opn := v2 } : Se).X S) w' ov []) w h rfl (fun W2 hb => ?_)).mono ?_
  · refine (begin_rd S s H (ocs nx) [] (opd first nx) none 0 W2 (h.below hb) (by rw [ocs_len]; exact hn) rfl (hD.below hb) hds' (ocs_free nx) rfl (by intro x hx; simp [opd, rdP, zP] at hx; omega)).mono ?_
    rintro e w' ⟨v, v2, cv, ov, rfl, h1, h2, h3, h4, h5⟩
    exact ⟨_, v, rfl, rfl, v2, cv, ov, h1, h2, h3, h4, h5⟩
  · rintro e w' ⟨v, u, W2, rfl, hb, rfl, v2, cv, ov, h1, h2, h3, h4, h5⟩
    obtain ⟨ca, cc, hcv⟩ := rd_len h4.rd
    obtain ⟨oa, oc, hov2⟩ := rd_len h5.rd
    obtain ⟨b, hbv, hb2, _⟩ := h3.at_
    exact ⟨u, v2, _, rfl, by rw [ocs_succ first nx]; exact h1, (St.of_below _ hb).trans h2, h3.got (Tk.one (t := (opd first nx).tk cv ov) hcv hov2), ⟨b, hbv, Nat.le_trans hb.size hb2⟩, rfl⟩
end Go.Proofs.Ytdplndlmdhpfaaa
