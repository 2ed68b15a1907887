/-
  The program's Size, appendTuple, Pack.
-/
import Derived.Test.YtcnjnebhidfogaaGChk
namespace Go.Proofs.Ytcnjnebhidfogaa
open Go.RowKit
set_option linter.unusedVariables false
set_option linter.unusedSimpArgs false

theorem grown_trans {w w1 w2 : World} {r : Option Nat} (h1 : w.grownBy w1 r) (h2 : w1.grownBy w2 r) : w.grownBy w2 r :=
  ⟨h2.os.trans h1.os, h2.tape.trans h1.tape, h2.output.trans h1.output, Nat.le_trans h1.size h2.size, fun j hj hk => (h2.block j (Nat.lt_of_lt_of_le hj h1.size) hk).trans (h1.block j hj hk)⟩
theorem grown_alloc (w : World) (o : Obj) (r : Option Nat) : w.grownBy (w.alloc o) r := ⟨rfl, rfl, rfl, by simp, fun j hj _ => Below.heap_alloc w o j hj⟩
theorem Below.by {w w1 w2 : World} {n : Nat} {r : Option Nat} (h : Below n w w1) (hg : w1.grownBy w2 r) (hn : n ≤ w1.heap.size) (hr : ∀ q, r = some q → n ≤ q) : Below n w w2 := h.grown hg hn (fun q hq => hr q hq)
theorem rangeAt_keep {w w' : World} {b o : Nat} {cs : List Value} (h : w.rangeAt b o cs) (hb : w'.heap[b]? = w.heap[b]?) : w'.rangeAt b o cs :=
  fun j v hv => (World.cell?_of_block (w := w) (a := ⟨b, o + j, none⟩) hb).trans (h j v hv)
theorem cs_len (b : Bk) (h : b.ok) : b.cs.length = 19 := by simp [Bk.cs, h.len]
theorem bx_rd {W : World} {B : Nat} (b : Bk) (h : b.ok) (hx : Bx W B b.vals) : RdAt W (.slice (some ⟨B, 0, none⟩) 16 16) b.d := by
  refine ⟨some ⟨B, 0, none⟩, 16, by rw [h.len], (fun e => by cases e), by rw [h.len]; exact Nat.le_refl _, .inr ⟨B, 0, rfl, fun j u hu => ?_⟩⟩
  have hj : j < 16 := by have := (List.getElem?_eq_some_iff.1 hu).1; simpa [h.len] using this
  rw [Nat.zero_add, hx.cells j (by rw [Bk.size h]; omega), vals_data b h j hj, ← hu]
  unfold cels
  rw [List.getElem?_map, List.getElem?_eq_getElem (by rw [h.len]; exact hj), List.getD_eq_getElem?_getD, List.getElem?_eq_getElem (by rw [h.len]; exact hj)]
  rfl

/-- A tuple's bytes. -/
def tupL (g a r : Int) : List Int := [g / 256, g % 256, a / 256, a % 256, r / 16777216, r / 65536 % 256, r / 256 % 256, r % 256]
/-- A block's bytes. -/
def pkL (c : Bool) (b : Bk) : List Int := b.d ++ if c = true then tupL b.g b.a b.r else []
def packL (c : Bool) (bs : List Bk) : List Int := (bs.map (pkL c)).flatten
def sz (c : Bool) : Nat := if c = true then 24 else 16
theorem pkL_len (c : Bool) (b : Bk) (h : b.ok) : (pkL c b).length = sz c := by cases c <;> simp [pkL, sz, tupL, h.len]
theorem packL_snoc (c : Bool) (bs : List Bk) (k : Nat) (b : Bk) (h : bs[k]? = some b) : packL c (bs.take (k + 1)) = packL c (bs.take k) ++ pkL c b := by
  obtain ⟨hk, e⟩ := List.getElem?_eq_some_iff.1 h
  rw [List.take_succ_eq_append_getElem hk, e]
  simp [packL]
theorem packL_len (c : Bool) (bs : List Bk) (h : ∀ b ∈ bs, b.ok) : (packL c bs).length = bs.length * sz c := by
  induction bs with
  | nil => simp [packL]
  | cons b bs ih =>
    have h1 := pkL_len c b (h b (by simp))
    have h2 := ih (fun x hx => h x (by simp [hx]))
    simp only [packL, List.map_cons, List.flatten_cons, List.length_append, List.length_cons] at *
    rw [h1, h2, Nat.add_mul]
    omega

theorem size_any (c : Bool) (w : World) : Calls Try.prog 15 #[.bool c] w fun e w' => e = .returned (.int .i64 (sz c : Int)) ∧ w' = w := by
  cases c <;>
  · go_enter Try.func15, Try.ntmps15
    go_wp2
    go_ret
    exact ⟨rfl, rfl⟩

set_option maxRecDepth 100000 in
set_option maxHeartbeats 1000000 in
theorem appendTuple_any (base g m cap : Nat) (zs : List Int) (x a r : Int) (w : World) (hown : w.ownsRow base 5 1 (.slice (some ⟨g, 0, none⟩) m cap) m (cels zs)) (hb : base ≤ w.heap.size) (hlen : m + 8 ≤ 140737488355328)
    (hx : 0 ≤ x ∧ x ≤ 65535) (ha : 0 ≤ a ∧ a ≤ 65535) (hr : 0 ≤ r ∧ r ≤ 4294967295) :
    Calls Try.prog 26 #[.slice (some ⟨g, 0, none⟩) m cap, .agg #[.int .u16 x, .int .u16 a, .int .u32 r]] w fun e w' => ∃ g' cap', e = .returned (.slice (some ⟨g', 0, none⟩) (m + 8) cap') ∧
      w'.ownsRow base 5 1 (.slice (some ⟨g', 0, none⟩) (m + 8) cap') (m + 8) (cels (zs ++ tupL x a r)) ∧ w.grownBy w' (some g) := by
  have hzl : zs.length = m := by have := hown.1; simpa using this
  have hgl := World.ownsRow.lt hown g rfl
  obtain ⟨W, hW⟩ : ∃ W, W = (w.alloc (.cells #[.int .u16 x, .int .u16 a, .int .u32 r] 28)) := ⟨_, rfl⟩
  have hWs : w.heap.size + 1 = W.heap.size := by rw [hW]; simp
  have hrd : Kpt (RdAt (W.alloc (.cells (cels (tupL x a r)).toArray 5)) (.slice (some ⟨w.heap.size + 1, 0, none⟩) 8 8) (tupL x a r)) := ⟨own_rd (own_alloc W (w.heap.size + 1) 8 0 (tupL x a r) hWs rfl (by decide) (Nat.zero_le _))⟩
  have ho2 : Kpt ((W.alloc (.cells (cels (tupL x a r)).toArray 5)).ownsRow base 5 1 (.slice (some ⟨g, 0, none⟩) m cap) m (cels zs)) := ⟨own_of_block hown (fun q hq => by cases hq; show (W.alloc _).heap[g]? = w.heap[g]?; rw [Below.heap_alloc _ _ g (by omega), hW, Below.heap_alloc _ _ g hgl.2])⟩
  have hgr : Kpt (w.grownBy (W.alloc (.cells (cels (tupL x a r)).toArray 5)) (some g)) := ⟨by rw [hW]; exact grown_trans (grown_alloc _ _ _) (grown_alloc _ _ _)⟩
  have hbW : base ≤ (W.alloc (.cells (cels (tupL x a r)).toArray 5)).heap.size := by simp; omega
  rw [hW] at hrd ho2 hgr hbW
  replace hzl := Kpt.mk hzl
  replace hbW := Kpt.mk hbW
  simp only [tupL, cels, List.map_cons, List.map_nil] at hrd ho2 hgr hbW
  clear hW hWs hown hgl
  go_enter Try.func26, Try.ntmps26
  go_wp2_with (at_builtin; go_must (refine wpList_append_new rfl (.tmp 5) (.tmp 35) rfl base _ _ zs (tupL x a r) m (m + 8) rfl rfl ho2.out hrd.out (by simp [tupL]) hzl.out rfl hlen hbW.out ?_; intro g4 k4 w4 ho4 hl4 hg4))
  go_ret
  exact ⟨g4, k4, rfl, ho4.out, grown_trans hgr.out hg4.out⟩

set_option maxRecDepth 100000 in
set_option maxHeartbeats 2000000 in
theorem pack_true (a : Option Addr) (n cp : Nat) (bs : List Bk) (w : World) (hbs : Bks w (.slice a n cp) bs) (hl : bs.length = n) (hn : n * 24 ≤ 140737488355328) :
    Calls Try.prog 16 #[.slice a n cp, .bool true] w fun e w' => ∃ g cap, e = .returned (.slice (some ⟨g, 0, none⟩) (n * 24) cap) ∧ w'.ownsRow w.heap.size 5 1 (.slice (some ⟨g, 0, none⟩) (n * 24) cap) (n * 24) (cels (packL true bs)) ∧ Below w.heap.size w w' := by
  obtain ⟨i0, hi0, hz0, hz1, hz2⟩ := info_parts Try.info5
  have hbk : ∀ j, j < n → ∃ b, bs[j]? = some b ∧ b.ok ∧ ∃ g o, a = some ⟨g, o, none⟩ ∧ g < w.heap.size ∧ w.rangeAt g (o + j * 19) b.cs := fun j hj => by
    obtain ⟨a', c', e, _, h⟩ := hbs
    have hj' : j < bs.length := by omega
    obtain ⟨h1, g, o, h2, h3, h4⟩ := h j bs[j] (List.getElem?_eq_getElem hj')
    simp only [Value.slice.injEq] at e
    exact ⟨bs[j], List.getElem?_eq_getElem hj', h1, g, o, e.1.trans h2, h3, h4⟩
  replace hbk := Kpt.mk hbk
  have hall : Kpt (∀ b ∈ bs, b.ok) := ⟨fun b hb => by
    obtain ⟨j, hj, rfl⟩ := List.getElem_of_mem hb
    obtain ⟨b', h1, h2, _⟩ := hbk.out j (by omega)
    rw [List.getElem?_eq_getElem hj] at h1
    cases h1
    exact h2⟩
  replace hl := Kpt.mk hl
  clear hbs
  have vm : IntKind.i64.wrap ((n : Int) * 24) = (n : Int) * 24 := by rw [IntKind.wrap_i64]; omega
  have hnn : (0 : Int) ≤ (n : Int) * 24 := by omega
  have hnb : (n : Int) * 24 ≤ 140737488355328 := by omega
  have KS : Kpt (∀ W, Calls Try.prog 15 #[.bool true] W fun e w' => e = .returned (.int .i64 24) ∧ w' = W) := ⟨fun W => size_any true W⟩
  go_enter Try.func16, Try.ntmps16
  go_wp2_with (first | (go_at_call 15; go_must (refine (KS.out _).mono ?_; rintro e w' ⟨rfl, rfl⟩)) | (at_make; go_must (refine wpList_make_own _ rfl _ _ 40 rfl w'.heap.size 5 i0 (.int .u8 0) 1 Try.underlying40 hi0 hz0 hz1 .i64 .i64 _ (n * 24) rfl rfl (by omega) (by rw [hz2]; omega) (by unfold maxLen; omega) (Nat.le_refl _) ?_; intro w1 hown1 hg1; replace hown1 := Kpt.mk hown1; have hb1 : Kpt (Below w'.heap.size w' w1) := ⟨(Below.refl _ _).grown hg1 (Nat.le_refl _) (fun k h => by cases h)⟩; clear hg1)))
  go_loopw [5, 16] (fun s t wr => ∃ k g cap : Nat, k ≤ n ∧ s = .slice (some ⟨g, 0, none⟩) (k * 24) cap ∧ t = .int .i64 k ∧ Kpt (wr.ownsRow w'.heap.size 5 1 (.slice (some ⟨g, 0, none⟩) (k * 24) cap) (k * 24) (cels (packL true (bs.take k)))) ∧ Kpt (Below w'.heap.size w' wr)) (fun _ t _ => n - (intOf t).toNat)
  case atStart => exact ⟨0, _, _, Nat.zero_le _, rfl, rfl, hown1, hb1⟩
  case round =>
    obtain ⟨k, g, cap, hk, rfl, rfl, ho, hB⟩ := hrel
    clear hown1 hb1
    by_cases hlt : k < n
    · obtain ⟨b, hbe, hok, g1, o1, rfl, hg1, hr1⟩ := hbk.out k hlt
      have e1 : (k : Int) < n := by omega
      have hr : Kpt (wr.rangeAt g1 (o1 + k * 19) b.cs) := ⟨rangeAt_keep hr1 (hB.out.block g1 hg1)⟩
      have hgl := World.ownsRow.lt ho.out g rfl
      have hin1 := Kpt.mk (show (Try.prog.info? 33).map (·.size) = some b.cs.length by rw [cs_len b hok]; exact infoB)
      have hin2 := Kpt.mk (show (Try.prog.info? 33).map (·.size) = some b.vals.size by rw [Bk.size hok]; exact infoB)
      have hs19 := Kpt.mk (Bk.size hok)
      have hone := Kpt.mk (Bk.one b)
      have hrdx := Kpt.mk (fun W B h => bx_rd (W := W) (B := B) b hok h)
      have htup := Kpt.mk (fun W B (h : Bx W B b.vals) => bx_tup h (Bk.size hok) (cs_tup b hok).1 (cs_tup b hok).2.1 (cs_tup b hok).2.2)
      have hnext : Kpt (packL true (bs.take (k + 1)) = packL true (bs.take k) ++ b.d ++ tupL b.g b.a b.r) := ⟨by rw [packL_snoc true bs k b hbe]; simp [pkL]⟩
      have hlk : Kpt ((packL true (bs.take k)).length = k * 24) := ⟨by rw [packL_len true _ (fun x hx => hall.out x (List.mem_of_mem_take hx))]; simp [sz, hl.out]; omega⟩
      have bg := hok.g
      have ba := hok.a
      have br := hok.r
      have hdl := Kpt.mk hok.len
      obtain ⟨V, hV⟩ : ∃ V, V = b.vals := ⟨_, rfl⟩
      have hVc : b.cs.toArray = V := hV.symm
      rw [← hV] at hin2 hs19 hone hrdx htup
      obtain ⟨Q, hQ⟩ : ∃ Q, Q = packL true (bs.take k) := ⟨_, rfl⟩
      rw [← hQ] at hlk hnext ho
      have hsz0 : w'.heap.size ≤ wr.heap.size := hB.out.size
      have hM : k * 24 + 24 = (k + 1) * 24 := by omega
      have hMb : k * 24 + 24 ≤ 140737488355328 := by omega
      obtain ⟨M, hMe⟩ : ∃ M, M = k * 24 := ⟨_, rfl⟩
      rw [← hMe] at hlk ho hM hMb ⊢
      replace hM := Kpt.mk hM
      clear hV hQ hMe hr1 hbe hok hg1
      go_wp2_with (first | (go_at_call 26; go_must (refine (appendTuple_any w'.heap.size g2 (M + 16) k2 (Q ++ b.d) b.g b.a b.r _ ho2.out (hx2.out.size) (by omega) bg ba br).mono ?_; rintro e x3 ⟨g3, k3, rfl, ho3, hg3⟩; have hx3 : Kpt (Below w'.heap.size w' x3) := ⟨hx2.out.grown hg3 hx2.out.size (fun q hq => by cases hq; exact hl2.out.1)⟩; replace ho3 := Kpt.mk ho3; clear hg3)) | (refine (?_ : wpList _ _ _ (Oper.mk (some 27) (Op.load 28 (.tmp 26)) _ _ _ _ :: _) _ _); go_must (refine wpList_load_mid rfl 28 (.tmp 26) rfl wr.heap.size 16 rfl [.int .u16 b.g, .int .u16 b.a, .int .u32 b.r] _ (htup.out _ _ hX2.out) Try.underlying28 rfl infoT ?_)) | (at_builtin; go_must (refine wpList_append_new rfl (.tmp 20) (.tmp 22) rfl w'.heap.size _ _ Q b.d M (M + 16) rfl rfl ho1.out (hrdx.out _ _ hX1.out) (by rw [hdl.out]; decide) hlk.out (by rw [hdl.out]) (by omega) hx1.out.size ?_; intro g2 k2 x2 ho2 hl2 hg2; have hx2 : Kpt (Below w'.heap.size w' x2) := ⟨hx1.out.grown hg2.out hx1.out.size (fun q hq => by cases hq; exact hgl.1)⟩; have hX2 : Kpt (Bx x2 wr.heap.size V) := ⟨hX1.out.grown hg2.out (fun (e : some g = some wr.heap.size) => by injection e with e; omega)⟩; clear hg2 ho1 hX1 hx1)) | (refine (?_ : wpList _ _ _ (Oper.mk none (Op.store 33 (.tmp 7) (.tmp 19)) _ _ _ _ :: _) _ _); go_must (refine wpList_store_bx rfl 33 (.tmp 7) (.tmp 19) rfl wr.heap.size #[.int .u8 0, .int .u8 0, .int .u8 0, .int .u8 0, .int .u8 0, .int .u8 0, .int .u8 0, .int .u8 0, .int .u8 0, .int .u8 0, .int .u8 0, .int .u8 0, .int .u8 0, .int .u8 0, .int .u8 0, .int .u8 0, .int .u16 0, .int .u16 0, .int .u32 0] V rfl rfl (bx_new wr _ 33) (by rw [hs19.out]; rfl) hin2.out hone.out rfl ?_; intro x1 hX1 hg1; have hx1 : Kpt (Below w'.heap.size w' x1) := ⟨(hB.out.alloc hsz0 _).grown hg1 (by simp; omega) (fun q hq => by cases hq; exact hsz0)⟩; have ho1 : Kpt (x1.ownsRow w'.heap.size 5 1 (.slice (some ⟨g, 0, none⟩) M cap) M (cels Q)) := ⟨own_of_block ho.out (fun q hq => by cases hq; rw [hg1.block g (by simp; omega) (fun (e : some g = some wr.heap.size) => by injection e with e; omega), Below.heap_alloc _ _ _ hgl.2])⟩; replace hX1 := Kpt.mk hX1; clear hg1 ho hB)) | (refine (?_ : wpList _ _ _ (Oper.mk (some 19) (Op.load 33 (.tmp 18)) _ _ _ _ :: _) _ _); go_must (refine wpList_load_mid rfl 33 (.tmp 18) rfl g1 (o1 + k * 19) rfl b.cs _ hr.out Try.underlying33 rfl hin1.out ?_)))
      go_roundw
      case rel => exact ⟨k + 1, g3, k3, by omega, by rw [← hM.out], by go_num, ⟨by rw [← hM.out, hnext.out]; exact ho3.out⟩, hx3⟩
      case measure => simp [intOf]; omega
    · have e1 : ¬ (k : Int) < n := by omega
      obtain rfl : k = n := by omega
      go_wp2
      go_ret
      exact ⟨g, cap, rfl, by have := ho.out; rw [List.take_of_length_le (by rw [hl.out]; exact Nat.le_refl _)] at this; exact this, hB.out⟩

set_option maxRecDepth 100000 in
set_option maxHeartbeats 2000000 in
theorem pack_false (a : Option Addr) (n cp : Nat) (bs : List Bk) (w : World) (hbs : Bks w (.slice a n cp) bs) (hl : bs.length = n) (hn : n * 24 ≤ 140737488355328) :
    Calls Try.prog 16 #[.slice a n cp, .bool false] w fun e w' => ∃ g cap, e = .returned (.slice (some ⟨g, 0, none⟩) (n * 16) cap) ∧ w'.ownsRow w.heap.size 5 1 (.slice (some ⟨g, 0, none⟩) (n * 16) cap) (n * 16) (cels (packL false bs)) ∧ Below w.heap.size w w' := by
  obtain ⟨i0, hi0, hz0, hz1, hz2⟩ := info_parts Try.info5
  have hbk : ∀ j, j < n → ∃ b, bs[j]? = some b ∧ b.ok ∧ ∃ g o, a = some ⟨g, o, none⟩ ∧ g < w.heap.size ∧ w.rangeAt g (o + j * 19) b.cs := fun j hj => by
    obtain ⟨a', c', e, _, h⟩ := hbs
    have hj' : j < bs.length := by omega
    obtain ⟨h1, g, o, h2, h3, h4⟩ := h j bs[j] (List.getElem?_eq_getElem hj')
    simp only [Value.slice.injEq] at e
    exact ⟨bs[j], List.getElem?_eq_getElem hj', h1, g, o, e.1.trans h2, h3, h4⟩
  replace hbk := Kpt.mk hbk
  have hall : Kpt (∀ b ∈ bs, b.ok) := ⟨fun b hb => by
    obtain ⟨j, hj, rfl⟩ := List.getElem_of_mem hb
    obtain ⟨b', h1, h2, _⟩ := hbk.out j (by omega)
    rw [List.getElem?_eq_getElem hj] at h1
    cases h1
    exact h2⟩
  replace hl := Kpt.mk hl
  clear hbs
  have vm : IntKind.i64.wrap ((n : Int) * 16) = (n : Int) * 16 := by rw [IntKind.wrap_i64]; omega
  have hnn : (0 : Int) ≤ (n : Int) * 16 := by omega
  have hnb : (n : Int) * 16 ≤ 140737488355328 := by omega
  have KS : Kpt (∀ W, Calls Try.prog 15 #[.bool false] W fun e w' => e = .returned (.int .i64 16) ∧ w' = W) := ⟨fun W => size_any false W⟩
  go_enter Try.func16, Try.ntmps16
  go_wp2_with (first | (go_at_call 15; go_must (refine (KS.out _).mono ?_; rintro e w' ⟨rfl, rfl⟩)) | (at_make; go_must (refine wpList_make_own _ rfl _ _ 40 rfl w'.heap.size 5 i0 (.int .u8 0) 1 Try.underlying40 hi0 hz0 hz1 .i64 .i64 _ (n * 16) rfl rfl (by omega) (by rw [hz2]; omega) (by unfold maxLen; omega) (Nat.le_refl _) ?_; intro w1 hown1 hg1; replace hown1 := Kpt.mk hown1; have hb1 : Kpt (Below w'.heap.size w' w1) := ⟨(Below.refl _ _).grown hg1 (Nat.le_refl _) (fun k h => by cases h)⟩; clear hg1)))
  go_loopw [5, 16] (fun s t wr => ∃ k g cap : Nat, k ≤ n ∧ s = .slice (some ⟨g, 0, none⟩) (k * 16) cap ∧ t = .int .i64 k ∧ Kpt (wr.ownsRow w'.heap.size 5 1 (.slice (some ⟨g, 0, none⟩) (k * 16) cap) (k * 16) (cels (packL false (bs.take k)))) ∧ Kpt (Below w'.heap.size w' wr)) (fun _ t _ => n - (intOf t).toNat)
  case atStart => exact ⟨0, _, _, Nat.zero_le _, rfl, rfl, hown1, hb1⟩
  case round =>
    obtain ⟨k, g, cap, hk, rfl, rfl, ho, hB⟩ := hrel
    clear hown1 hb1
    by_cases hlt : k < n
    · obtain ⟨b, hbe, hok, g1, o1, rfl, hg1, hr1⟩ := hbk.out k hlt
      have e1 : (k : Int) < n := by omega
      have hr : Kpt (wr.rangeAt g1 (o1 + k * 19) b.cs) := ⟨rangeAt_keep hr1 (hB.out.block g1 hg1)⟩
      have hgl := World.ownsRow.lt ho.out g rfl
      have hin1 := Kpt.mk (show (Try.prog.info? 33).map (·.size) = some b.cs.length by rw [cs_len b hok]; exact infoB)
      have hin2 := Kpt.mk (show (Try.prog.info? 33).map (·.size) = some b.vals.size by rw [Bk.size hok]; exact infoB)
      have hs19 := Kpt.mk (Bk.size hok)
      have hone := Kpt.mk (Bk.one b)
      have hrdx := Kpt.mk (fun W B h => bx_rd (W := W) (B := B) b hok h)
      have htup := Kpt.mk (fun W B (h : Bx W B b.vals) => bx_tup h (Bk.size hok) (cs_tup b hok).1 (cs_tup b hok).2.1 (cs_tup b hok).2.2)
      have hnext : Kpt (packL false (bs.take (k + 1)) = packL false (bs.take k) ++ b.d) := ⟨by rw [packL_snoc false bs k b hbe]; simp [pkL]⟩
      have hlk : Kpt ((packL false (bs.take k)).length = k * 16) := ⟨by rw [packL_len false _ (fun x hx => hall.out x (List.mem_of_mem_take hx))]; simp [sz, hl.out]; omega⟩
      have bg := hok.g
      have ba := hok.a
      have br := hok.r
      have hdl := Kpt.mk hok.len
      obtain ⟨V, hV⟩ : ∃ V, V = b.vals := ⟨_, rfl⟩
      have hVc : b.cs.toArray = V := hV.symm
      rw [← hV] at hin2 hs19 hone hrdx htup
      obtain ⟨Q, hQ⟩ : ∃ Q, Q = packL false (bs.take k) := ⟨_, rfl⟩
      rw [← hQ] at hlk hnext ho
      have hsz0 : w'.heap.size ≤ wr.heap.size := hB.out.size
      have hM : k * 16 + 16 = (k + 1) * 16 := by omega
      have hMb : k * 16 + 24 ≤ 140737488355328 := by omega
      obtain ⟨M, hMe⟩ : ∃ M, M = k * 16 := ⟨_, rfl⟩
      rw [← hMe] at hlk ho hM hMb ⊢
      replace hM := Kpt.mk hM
      clear hV hQ hMe hr1 hbe hok hg1
      go_wp2_with (first | (at_builtin; go_must (refine wpList_append_new rfl (.tmp 20) (.tmp 22) rfl w'.heap.size _ _ Q b.d M (M + 16) rfl rfl ho1.out (hrdx.out _ _ hX1.out) (by rw [hdl.out]; decide) hlk.out (by rw [hdl.out]) (by omega) hx1.out.size ?_; intro g2 k2 x2 ho2 hl2 hg2; have hx2 : Kpt (Below w'.heap.size w' x2) := ⟨hx1.out.grown hg2.out hx1.out.size (fun q hq => by cases hq; exact hgl.1)⟩; have hX2 : Kpt (Bx x2 wr.heap.size V) := ⟨hX1.out.grown hg2.out (fun (e : some g = some wr.heap.size) => by injection e with e; omega)⟩; clear hg2 ho1 hX1 hx1)) | (refine (?_ : wpList _ _ _ (Oper.mk none (Op.store 33 (.tmp 7) (.tmp 19)) _ _ _ _ :: _) _ _); go_must (refine wpList_store_bx rfl 33 (.tmp 7) (.tmp 19) rfl wr.heap.size #[.int .u8 0, .int .u8 0, .int .u8 0, .int .u8 0, .int .u8 0, .int .u8 0, .int .u8 0, .int .u8 0, .int .u8 0, .int .u8 0, .int .u8 0, .int .u8 0, .int .u8 0, .int .u8 0, .int .u8 0, .int .u8 0, .int .u16 0, .int .u16 0, .int .u32 0] V rfl rfl (bx_new wr _ 33) (by rw [hs19.out]; rfl) hin2.out hone.out rfl ?_; intro x1 hX1 hg1; have hx1 : Kpt (Below w'.heap.size w' x1) := ⟨(hB.out.alloc hsz0 _).grown hg1 (by simp; omega) (fun q hq => by cases hq; exact hsz0)⟩; have ho1 : Kpt (x1.ownsRow w'.heap.size 5 1 (.slice (some ⟨g, 0, none⟩) M cap) M (cels Q)) := ⟨own_of_block ho.out (fun q hq => by cases hq; rw [hg1.block g (by simp; omega) (fun (e : some g = some wr.heap.size) => by injection e with e; omega), Below.heap_alloc _ _ _ hgl.2])⟩; replace hX1 := Kpt.mk hX1; clear hg1 ho hB)) | (refine (?_ : wpList _ _ _ (Oper.mk (some 19) (Op.load 33 (.tmp 18)) _ _ _ _ :: _) _ _); go_must (refine wpList_load_mid rfl 33 (.tmp 18) rfl g1 (o1 + k * 19) rfl b.cs _ hr.out Try.underlying33 rfl hin1.out ?_)))
      go_roundw
      case rel => exact ⟨k + 1, g2, k2, by omega, by rw [← hM.out], by go_num, ⟨by rw [← hM.out, hnext.out]; exact ho2.out⟩, hx2⟩
      case measure => simp [intOf]; omega
    · have e1 : ¬ (k : Int) < n := by omega
      obtain rfl : k = n := by omega
      go_wp2
      go_ret
      exact ⟨g, cap, rfl, by have := ho.out; rw [List.take_of_length_le (by rw [hl.out]; exact Nat.le_refl _)] at this; exact this, hB.out⟩
end Go.Proofs.Ytcnjnebhidfogaa
