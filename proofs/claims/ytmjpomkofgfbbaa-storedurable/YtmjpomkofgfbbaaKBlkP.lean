/-
  StoreBlocks: what stands beside the store while a script goes on.
-/
import Derived.Test.YtmjpomkofgfbbaaKUnm
import Derived.Test.YtmjpomkofgfbbaaKSame
import Derived.Test.YtmjpomkofgfbbaaKTwoB
import Derived.Great.Walk
namespace Go.Proofs.Ytmjpomkofgfbbaa
open Go.RowKit
set_option linter.unusedVariables false
set_option linter.unusedSimpArgs false

theorem info69 : (Try.prog.info? 69).map (fun i => i.zero.map (fun z => z.cells.size)) = some (some 608) := by kernel_rfl
theorem alloc69 : ∃ Z : Array Value, Z.size = 608 ∧ ∀ (o : Oper) (a : Act) (w : World), o.op = .alloc 69 → (execOp a.eval o).run Try.prog w = .ok (.value (.pointer (some ⟨w.heap.size, 0, none⟩))) (w.alloc (.cells Z 69)) := by
  have h := info69
  cases hi : Try.prog.info? 69 with
  | none => rw [hi] at h; simp at h
  | some i =>
    rw [hi] at h
    cases hz : i.zero with
    | none => rw [Option.map_some, hz] at h; simp at h
    | some z =>
      rw [Option.map_some, hz] at h
      simp only [Option.map_some, Option.some.injEq] at h
      refine ⟨z.cells, h, fun o a w ho => ?_⟩
      unfold execOp
      simp only [ho]
      simp [Instr.alloc, zeroValue, typeInfo, hi, hz, newVar, newRow, newObj]
      rfl

set_option maxRecDepth 100000 in
theorem rempty_any (w : World) : Calls Try.prog 30 #[] w fun e w' => e = .returned (.agg emptyB.vals) ∧ Below w.heap.size w w' := by
  have hB0 := bx_new w zeroB 66
  have hv : emptyB.vals = #[.int .u8 0, .int .u8 0, .int .u8 0, .int .u8 0, .int .u8 0, .int .u8 0, .int .u8 0, .int .u8 0, .int .u8 0, .int .u8 0, .int .u8 0, .int .u8 0, .int .u8 0, .int .u8 0, .int .u8 0, .int .u8 0, .int .u16 65535, .int .u16 65535, .int .u32 4294967295] := rfl
  unfold zeroB at hB0
  replace hB0 := Kpt.mk hB0
  replace hv := Kpt.mk hv
  go_enter Try.func30, Try.ntmps30
  go_wp2_with (refine wpList_store_bx rfl 66 (.tmp 0) (.tmp 2) rfl w.heap.size _ emptyB.vals rfl (by rw [hv.out]; rfl) hB0.out rfl infoB emptyB.one rfl ?_; intro w2 hB2 hg2; have hb2 : Kpt (Below w.heap.size w w2) := ⟨((Below.refl _ _).alloc (Nat.le_refl _) _).grown hg2 (by simp) (fun k hk => by cases hk; exact Nat.le_refl _)⟩; replace hB2 := Kpt.mk hB2; clear hg2)
  refine bodyPost_ret (v := .agg emptyB.vals) (by simp [results, Try.results30, asAddr, run_res hB2.out 66 _ Try.underlying66 rfl infoB]) rfl ⟨rfl, hb2.out⟩

/-- A row of n blocks, of which one is laid anew. -/
def upd (bl : Nat → Bk) (j : Nat) (b : Bk) : Nat → Bk := fun i => if i = j then b else bl i
theorem Rw.upd {w : World} {tag : Tags} {g n : Nat} {bl : Nat → Bk} (h : Rw w tag g n n bl) (j : Nat) (b : Bk) (hj : j < n) (hb : b.ok) (hok : ∀ i, i < n → (bl i).ok) : Rw (w.setCells g (j * 19) b.cs) tag g n n (upd bl j b) := by
  have hg := grown_setCells g b.cs (j * 19) w
  have hc := cs_len b hb
  have hsub : w.there g (j * 19) b.cs.length := fun i hi => by
    have := h.there (j * 19 + i) (by rw [hc] at hi; omega)
    rw [Nat.zero_add] at this
    exact this
  refine ⟨Nat.lt_of_lt_of_le h.lt hg.size, h.bare, World.there_setCells h.there _ _ _, fun i hi => ?_⟩
  unfold Go.Proofs.Ytmjpomkofgfbbaa.upd
  by_cases e : i = j
  · subst e; rw [if_pos rfl]; exact World.rangeAt_setCells_same w g (i * 19) _ hsub
  · rw [if_neg e]
    have hci := cs_len (bl i) (hok i hi)
    refine World.rangeAt_setCells_apart (h.done i hi) g (j * 19) _ ?_
    rw [hci, hc]
    omega
theorem Rw.part {w : World} {tag : Tags} {g n k : Nat} {bl : Nat → Bk} (h : Rw w tag g n k bl) (b : Bk) (hk : k < n) (hb : b.ok) (hbk : bl k = b) (hok : ∀ i, i < k → (bl i).ok) : Rw (w.setCells g (k * 19) b.cs) tag g n (k + 1) bl := by
  have := h.set hk (by rw [hbk]; exact cs_len b hb) (fun j hj => cs_len _ (hok j hj))
  rw [hbk] at this
  exact this
theorem Rw.below {w w' : World} {tag : Tags} {g n k : Nat} {bl : Nat → Bk} (h : Rw w tag g n k bl) (s : Below w.heap.size w w') : Rw w' tag g n k bl := h.step (step_below s tag (fun _ => True))

/-- The store, its world and the row beside them (of which k blocks are laid), between calls. -/
structure Lp (w0 w : World) (B : Nat) (tag : Tags) (st : St) (S G k : Nat) (bl : Nat → Bk) : Prop where
  wd : Wd w B tag st
  sto : Sto w tag S B nmF 32 true
  row : Rw w tag G 32 k bl
  ok : ∀ i, i < 32 → (bl i).ok
  bel : Below w0.heap.size w0 w
  lo : ∀ i, i < w0.heap.size → tag i = none
  gl : w0.heap.size ≤ G
  ne : S ≠ G
theorem Lp.below {w0 w w' : World} {B : Nat} {tag : Tags} {st : St} {S G k : Nat} {bl : Nat → Bk} (h : Lp w0 w B tag st S G k bl) (hb : Below w.heap.size w w') : Lp w0 w' B tag st S G k bl :=
  ⟨h.wd.step (step_below hb tag (fun _ => False)), h.sto.below hb, h.row.below hb, h.ok, h.bel.trans (hb.mono h.bel.size), h.lo, h.gl, h.ne⟩
theorem Lp.step {w0 w w' : World} {B : Nat} {tag tag' : Tags} {st st' : St} {S G k : Nat} {bl : Nat → Bk} (h : Lp w0 w B tag st S G k bl) (hW : Wd w' B tag' st') (s : Step w w' tag tag' (fun _ => True)) : Lp w0 w' B tag' st' S G k bl := by
  obtain ⟨k1, k2⟩ := s.below (n := w0.heap.size) h.bel.size h.lo
  exact ⟨hW, h.sto.step s, h.row.step s, h.ok, h.bel.trans k1, k2, h.gl, h.ne⟩
theorem Lp.set {w0 w : World} {B : Nat} {tag : Tags} {st : St} {S G k k' : Nat} {bl bl' : Nat → Bk} (h : Lp w0 w B tag st S G k bl) (j : Nat) (b : Bk) (hr : Rw (w.setCells G (j * 19) b.cs) tag G 32 k' bl') (ho : ∀ i, i < 32 → (bl' i).ok) : Lp w0 (w.setCells G (j * 19) b.cs) B tag st S G k' bl' := by
  have hg := grown_setCells G b.cs (j * 19) w
  exact ⟨h.wd.own hg h.row.bare, h.sto.of_block (Nat.lt_of_lt_of_le h.sto.lt hg.size) h.sto.bare (hg.block S h.sto.lt (fun e => h.ne (by injection e))), hr, ho, h.bel.grown hg h.bel.size (fun q hq => by cases hq; exact h.gl), h.lo, h.gl, h.ne⟩
theorem Lp.upd {w0 w : World} {B : Nat} {tag : Tags} {st : St} {S G : Nat} {bl : Nat → Bk} (h : Lp w0 w B tag st S G 32 bl) (j : Nat) (b : Bk) (hj : j < 32) (hb : b.ok) : Lp w0 (w.setCells G (j * 19) b.cs) B tag st S G 32 (upd bl j b) :=
  h.set j b (h.row.upd j b hj hb h.ok) (fun i hi => by
    unfold Go.Proofs.Ytmjpomkofgfbbaa.upd
    split
    · exact hb
    · exact h.ok i hi)
theorem Lp.fill {w0 w : World} {B : Nat} {tag : Tags} {st : St} {S G k : Nat} (h : Lp w0 w B tag st S G k (fun _ => emptyB)) (hk : k < 32) : Lp w0 (w.setCells G (k * 19) emptyB.cs) B tag st S G (k + 1) (fun _ => emptyB) :=
  h.set k emptyB (h.row.part emptyB hk empty_ok rfl (fun _ _ => empty_ok)) h.ok
theorem Lp.there {w0 w : World} {B : Nat} {tag : Tags} {st : St} {S G k : Nat} {bl : Nat → Bk} (h : Lp w0 w B tag st S G k bl) (j : Nat) (hj : j < 32) : w.there G (j * 19) 19 := fun i hi => by
  have := h.row.there (j * 19 + i) (by omega)
  rw [Nat.zero_add] at this
  exact this
/-- The first k of some blocks laid from a place on. -/
def upds (bl : Nat → Bk) (at' : Nat) (us : List Bk) (k : Nat) : Nat → Bk := fun j => if at' ≤ j ∧ j < at' + k then us.getD (j - at') emptyB else bl j
theorem upds_step (bl : Nat → Bk) (at' : Nat) (us : List Bk) (k : Nat) (b : Bk) (hb : us[k]? = some b) : upd (upds bl at' us k) (at' + k) b = upds bl at' us (k + 1) := by
  funext j
  unfold upd upds
  by_cases e : j = at' + k
  · subst e
    rw [if_pos rfl, if_pos (by omega), show at' + k - at' = k by omega, List.getD_eq_getElem?_getD, hb]
    rfl
  · rw [if_neg e]
    by_cases e2 : at' ≤ j ∧ j < at' + k
    · rw [if_pos e2, if_pos (by omega)]
    · rw [if_neg e2, if_neg (by omega)]
/-- What the store's world may have behind i calls. -/
structure Fin (i : Nat) (st : St) : Prop where
  cnt : st.cnt ≤ 2100 * i
  wl : st.waits.length ≤ 32 * i
  fl : ∀ i, st.fails i = false
  wr : Wrs st.waits
  good : Good (st.seen nmF)
theorem fin0 : Fin 0 st0 := ⟨by decide, by decide, st0_fails, fun c hc => (by cases hc), good_none⟩
theorem Fin.synced {i : Nat} {s : St} (q : Bool) (hi : i < 60) (h1 : s.cnt ≤ 2100 * i + 64) (h2 : s.waits.length ≤ 32 * i + 32) (h3 : ∀ i, s.fails i = false) (h4 : Wrs s.waits) (h5 : Good (s.seen nmF)) : Fin (i + 1) (if q then s else syncSt s) := by
  split
  · exact ⟨by omega, by omega, h3, h4, h5⟩
  · exact ⟨by show s.cnt + 1 + s.waits.length ≤ _; omega, Nat.zero_le _, h3, (fun c hc => by cases hc), h5⟩
theorem Fin.write {i : Nat} {st : St} (h : Fin i st) (hi : i < 60) (lba : Nat) (bs : List Bk) (hok : ∀ b ∈ bs, b.ok) (q : Bool) (hl : bs.length ≤ 32) : Fin (i + 1) (if q then wrSt st nmF lba bs bs.length else syncSt (wrSt st nmF lba bs bs.length)) := by
  obtain ⟨h1, h2, h3, h4⟩ := wr_ops st nmF lba bs bs.length (Nat.le_refl _)
  have := h.cnt; have := h.wl
  exact Fin.synced q hi (by omega) (by omega) (fun j => by rw [h3]; exact h.fl j) (wr_wrs st nmF lba bs h.wr _) (wr_view st nmF lba bs h.good hok _ (Nat.le_refl _)).1
theorem Fin.unmap {i : Nat} {st : St} (h : Fin i st) (hi : i < 60) (lba n : Nat) (q : Bool) (hl : n ≤ 32) : Fin (i + 1) (if q then unSt st nmF lba n else syncSt (unSt st nmF lba n)) := by
  obtain ⟨h1, h2, h3, h4⟩ := un_ops st nmF lba n
  have := h.cnt; have := h.wl
  exact Fin.synced q hi (by omega) (by omega) (fun j => by rw [h3]; exact h.fl j) (un_wrs st nmF lba h.wr _) (un_view st nmF lba h.good _).1
theorem seen_if (q : Bool) (s : St) : (if q then s else syncSt s).seen = s.seen := by cases q <;> rfl
theorem upds_wr (bl : Nat → Bk) (st : St) (at' : Nat) (us : List Bk) (hG : Good (st.seen nmF)) (hok : ∀ b ∈ us, b.ok) (q : Bool) (h : ∀ j, j < 32 → bl j = blkAt (st.seen nmF) j) :
    ∀ j, j < 32 → upds bl at' us us.length j = blkAt ((if q then wrSt st nmF at' us us.length else syncSt (wrSt st nmF at' us us.length)).seen nmF) j := fun j hj => by
  rw [seen_if, (wr_view st nmF at' us hG hok _ (Nat.le_refl _)).2 j]
  unfold upds
  split
  · rfl
  · exact h j hj
theorem upds_un (bl : Nat → Bk) (st : St) (at' n : Nat) (hG : Good (st.seen nmF)) (q : Bool) (h : ∀ j, j < 32 → bl j = blkAt (st.seen nmF) j) :
    ∀ j, j < 32 → upds bl at' (List.replicate n emptyB) n j = blkAt ((if q then unSt st nmF at' n else syncSt (unSt st nmF at' n)).seen nmF) j := fun j hj => by
  rw [seen_if, (un_view st nmF at' hG _).2 j]
  unfold upds
  by_cases e : at' ≤ j ∧ j < at' + n
  · rw [if_pos e, if_pos e, List.getD_eq_getElem?_getD, List.getElem?_replicate, if_pos (by omega)]
    rfl
  · rw [if_neg e, if_neg e]
    exact h j hj

set_option maxRecDepth 100000 in
set_option maxHeartbeats 1000000 in
/-- Nothing is written. -/
theorem kwrite_zero (w : World) (B : Nat) (tag : Tags) (st : St) (S N lba : Nat) (f : ByteArray) (ca fua : Bool) (a : Option Addr) (c : Nat) (h : Wd w B tag st) (hs : Sto w tag S B f N ca) (hN : N ≤ 4096)
    (hc : st.cnt < 500000000000) (hcw : st.waits.length < 1000000) (hf : ∀ i, st.fails i = false) (hw : Wrs st.waits) (hin : lba ≤ N) :
    Calls Try.prog 16 #[.pointer (some ⟨S, 0, none⟩), .int .i64 lba, .slice a 0 c, .bool fua] w fun e w' => e = .returned (.tuple #[.int .i64 0, .int .i64 0]) ∧ ∃ tag', Wd w' B tag' st ∧ Step w w' tag tag' (fun _ => True) := by
  have HH := Kpt.mk (has_any w tag S B N f ca lba 0 hs hN (by omega) (by omega))
  rw [decide_eq_true (show 0 ≤ (lba : Int) ∧ (0 : Int) ≤ 0 ∧ (lba : Int) + 0 ≤ N from by omega)] at HH
  have hK := Kpt.mk h
  have hsK := Kpt.mk hs
  have HS := Kpt.mk (settle_any w B tag st S N 0 f ca fua h hs (by omega) (hf _) hw (by omega))
  rw [show settled ca fua 0 = true from by simp [settled], if_pos rfl] at HS
  clear h hs hf hw
  go_enter Try.func16, Try.ntmps16
  go_wp2_with (go_at_call 32; refine HH.out.mono ?_; rintro e w ⟨rfl, hw'⟩; subst hw')
  go_loopw [23] (fun t wr => t = .int .i64 0 ∧ wr = w) (fun t _ => 0)
  case atStart => exact ⟨rfl, rfl⟩
  case round =>
    obtain ⟨rfl, hwr⟩ := hrel
    subst hwr
    go_wp2_with (go_at_call 41; refine HS.out.mono ?_; rintro e w2 ⟨rfl, tag2, hW2, hSt2⟩; replace hW2 := Kpt.mk hW2; replace hSt2 := Kpt.mk hSt2)
    go_ret2
    exact ⟨rfl, tag2, hW2.out, hSt2.out⟩
theorem kwrite_gen (w : World) (B : Nat) (tag : Tags) (st : St) (S N lba : Nat) (f : ByteArray) (ca fua : Bool) (v : Value) (bs : List Bk) (h : Wd w B tag st) (hs : Sto w tag S B f N ca) (hf1 : 1 ≤ f.size) (hf2 : f.size ≤ 32) (hN : N ≤ 4096)
    (hc : st.cnt < 500000000000) (hcw : st.waits.length < 1000000) (hf : ∀ i, st.fails i = false) (hw : Wrs st.waits) (hv : Bks w v bs) (htag : 0 < bs.length → ∀ g, v.ownBlock = some g → tag g = none) (hin : lba + bs.length ≤ N) :
    Calls Try.prog 16 #[.pointer (some ⟨S, 0, none⟩), .int .i64 lba, v, .bool fua] w fun e w' => e = .returned (.tuple #[.int .i64 (bs.length : Nat), .int .i64 0]) ∧ ∃ tag', Wd w' B tag' (if settled ca fua bs.length then wrSt st f lba bs bs.length else syncSt (wrSt st f lba bs bs.length)) ∧ Step w w' tag tag' (fun _ => True) := by
  by_cases h0 : 0 < bs.length
  · exact kwrite_any w B tag st S N lba f ca fua v bs h hs hf1 hf2 hN hc hcw hf hw hv (htag h0) hin
  · obtain rfl : bs = [] := List.eq_nil_of_length_eq_zero (by omega)
    obtain ⟨a, c, rfl, _, _⟩ := hv
    exact kwrite_zero w B tag st S N lba f ca fua a c h hs hN hc hcw hf hw (by simpa using hin)
end Go.Proofs.Ytmjpomkofgfbbaa
