/-
  Write and Read of two stores beside each other.
-/
import Derived.Test.YtmjpomkofgfbbaaKTwo
namespace Go.Proofs.Ytmjpomkofgfbbaa
open Go.RowKit
set_option linter.unusedVariables false
set_option linter.unusedSimpArgs false

structure Fine (m : Nat) (st : St) : Prop where
  cnt : st.cnt ≤ m
  wl : st.waits.length ≤ m
  fl : ∀ i, st.fails i = false
  wr : Wrs st.waits
  good : Good (st.seen nmF)
theorem fine0 : Fine 0 st0 := ⟨by decide, by decide, st0_fails, fun c hc => (by cases hc), good_none⟩
theorem Fine.write {m : Nat} {st : St} (h : Fine m st) (lba : Nat) (bs : List Bk) (hok : ∀ b ∈ bs, b.ok) : Fine (m + 2 * bs.length) (wrSt st nmF lba bs bs.length) := by
  obtain ⟨o1, o2, o3, o4⟩ := wr_ops st nmF lba bs bs.length (Nat.le_refl _)
  have h1 := h.cnt
  have h2 := h.wl
  exact ⟨by omega, by omega, fun i => by rw [o3]; exact h.fl i, wr_wrs st nmF lba bs h.wr _, (wr_view st nmF lba bs h.good hok bs.length (Nat.le_refl _)).1⟩
theorem Fine.read {m : Nat} {st : St} (h : Fine m st) (n : Nat) : Fine (m + n) (rdSt st n) :=
  ⟨by have := h.cnt; simp only [rdSt]; omega, by have := h.wl; simp only [rdSt]; omega, h.fl, h.wr, h.good⟩

theorem Side.below {w w' : World} {n0 B : Nat} {tag : Tags} {st : St} {S : Nat} {ca : Bool} (h : Side w n0 B tag st S ca) (hb : Below w.heap.size w w') : Side w' n0 B tag st S ca :=
  ⟨h.wd.step (step_below hb tag (fun _ => False)), h.sto.below hb, h.lo⟩
theorem side_open {w2 : World} {n0 B : Nat} {tag : Tags} {ca : Bool} (hW : Wd w2 B tag st0) (lo : ∀ i, i < n0 → tag i = none) :
    Side (w2.alloc (.cells #[.pointer (some ⟨B, 0, none⟩), .string nmF, .int .i64 ((32 : Nat) : Int), .bool ca] 83)) n0 B tag st0 w2.heap.size ca ∧ Below w2.heap.size w2 (w2.alloc (.cells #[.pointer (some ⟨B, 0, none⟩), .string nmF, .int .i64 ((32 : Nat) : Int), .bool ca] 83)) := by
  have hb : Below w2.heap.size w2 (w2.alloc (.cells #[.pointer (some ⟨B, 0, none⟩), .string nmF, .int .i64 ((32 : Nat) : Int), .bool ca] 83)) := (Below.refl _ _).alloc (Nat.le_refl _) _
  exact ⟨⟨hW.step (step_below hb tag (fun _ => False)), sto_new w2 tag B 32 nmF ca (wd_none hW (Nat.le_refl _)), lo⟩, hb⟩

theorem two_write {w0 w : World} {n0 BA : Nat} {tagA : Tags} {stA : St} {SA BB : Nat} {tagB : Tags} {stB : St} {SB m : Nat} (h : Two w0 w n0 BA tagA stA SA BB tagB stB SB true) (hF : Fine m stA) (hm : m ≤ 10000) (lba : Nat) (v : Value) (bs : List Bk) (hv : Bks w v bs) (hvl : ∀ g, v.ownBlock = some g → g < n0) (hin : lba + bs.length ≤ 32) :
    Calls Try.prog 16 #[.pointer (some ⟨SA, 0, none⟩), .int .i64 lba, v, .bool false] w fun e w' => e = .returned (.tuple #[.int .i64 (bs.length : Nat), .int .i64 0]) ∧ ∃ tagA', Two w0 w' n0 BA tagA' (wrSt stA nmF lba bs bs.length) SA BB tagB stB SB true := by
  have h1 := hF.cnt
  have h2 := hF.wl
  refine (kwrite_any w BA tagA stA SA 32 lba nmF true false v bs h.a.wd h.a.sto (by decide) (by decide) (by decide) (by omega) (by omega) hF.fl hF.wr hv (fun g hg => h.a.lo g (hvl g hg)) hin).mono ?_
  rintro e w' ⟨rfl, tag', hW, hS⟩
  rw [show settled true false bs.length = true from by simp [settled], if_pos rfl] at hW
  exact ⟨rfl, tag', h.left hW hS⟩

theorem two_read {w0 w : World} {n0 BA : Nat} {tagA : Tags} {stA : St} {SA BB : Nat} {tagB : Tags} {stB : St} {SB m : Nat} (h : Two w0 w n0 BA tagA stA SA BB tagB stB SB true) (hF : Fine m stA) (hm : m ≤ 10000) (lba n : Nat) (hin : lba + n ≤ 32) :
    Calls Try.prog 13 #[.pointer (some ⟨SA, 0, none⟩), .int .i64 lba, .int .i64 n] w fun e w' => ∃ g, e = .returned (.tuple #[.slice (some ⟨g, 0, none⟩) n n, .int .i64 n, .int .i64 0]) ∧ Two w0 w' n0 BA tagA (rdSt stA n) SA BB tagB stB SB true ∧ Step w w' tagA tagA (fun _ => True) ∧ Hold w' tagA tagB g n (fun j => blkAt (stA.seen nmF) (lba + j)) := by
  have h1 := hF.cnt
  refine (kread_any w BA tagA stA SA 32 lba n nmF true h.a.wd h.a.sto (by decide) (by decide) (by decide) (by omega) hF.fl (fun zs hz => (hF.good zs hz).1) hin).mono ?_
  rintro e w' ⟨g, rfl, hW, hS, hR, hg⟩
  exact ⟨g, rfl, h.left hW hS, hS, Hold.of h hR hg⟩

theorem blk_ok {F : Option (List Int)} (h : Good F) (i : Nat) : (blkAt F i).ok := up_ok (bytesAt_ok (fun zs hz => (h zs hz).1) i).1
end Go.Proofs.Ytmjpomkofgfbbaa
