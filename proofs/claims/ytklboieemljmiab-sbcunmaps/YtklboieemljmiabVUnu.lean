/-
  SbcUnmaps: the walk.
-/
import Derived.Test.YtklboieemljmiabVUd
namespace Go.Proofs.Ytklboieemljmiab
open Go.RowKit
set_option linter.unusedVariables false
set_option linter.unusedSimpArgs false
def zeroC : Array Value := Cm.vals ⟨0, false, 0, 0, 0, false, 0, false, false, 0, 0, false, 0, 0, false⟩
theorem zeroCi : (Try.prog.info? 38).map (fun i => i.zero) = some (some (.agg zeroC)) := by kernel_rfl
theorem wrap64_inU (n : Int) (h : 0 ≤ n ∧ n ≤ 1000) : wrap64 n = n := by unfold wrap64; omega
theorem cm_one (c : Cm) : c.vals.all (·.oneCell') = true := by simp [Cm.vals, Value.oneCell']
theorem rd_byte {w : World} {g o n cp : Nat} {zs : List Int} (h : RdAt w (.slice (some ⟨g, o, none⟩) n cp) zs) (hl : zs.length = n) (j : Nat) (hj : j < n) : w.cell? ⟨g, o + j, none⟩ = some (.int .u8 (zs.getD j 0)) := by
  obtain ⟨sa, sc, e, _, _, h3⟩ := h
  simp only [Value.slice.injEq] at e
  rcases h3 with h3 | ⟨b, off, ha, hc⟩
  · omega
  · rw [ha] at e
    obtain ⟨e1, _, _⟩ := e
    cases e1
    refine hc j _ ?_
    unfold cels
    rw [List.getElem?_map, List.getElem?_eq_getElem (by omega), List.getD_eq_getElem?_getD, List.getElem?_eq_getElem (by omega)]
    rfl
set_option maxRecDepth 100000 in
set_option maxHeartbeats 6000000 in
theorem unmaps_u (ga oa len cap l q r m : Nat) (lb nb : Int) (Z : List Int) (w : World) (hlen : 256 ≤ len) (hcap : len ≤ cap) (hlm : len < 9223372036854775808) (hlb : 0 ≤ lb ∧ lb ≤ 255) (hnb : 0 ≤ nb ∧ nb ≤ 255) (hl : lb % 16 = l) (hq : (16 : Int) - l = q) (hr : nb % q = r) (hm : (1 : Int) + r = m) (hl15 : l ≤ 15) (hm1 : 1 ≤ m) (hlm16 : l + m ≤ 16) (hga : ga < w.heap.size) (hZ : RdAt w (.slice (some ⟨ga, oa, none⟩) 256 cap) Z) (hZl : Z.length = 256) (hZb : Bytes Z)
    (hZd : ∀ (W : World), Below w.heap.size w W → ∀ j, j < 256 → W.cell? ⟨ga, oa + j, none⟩ = some (.int .u8 (Z.getD j 0))) :
    Calls Try.prog 3 #[.slice (some ⟨ga, oa, none⟩) len cap, .int .u8 lb, .int .u8 nb, .bool false] w fun e w' => e = .returned (.bool true) ∧ Below w.heap.size w w' := by
  have HA := Kpt.mk (awake_any w)
  have HD := Kpt.mk (fun W => device_any 16 1 true W (by decide) (by decide))
  have f1 := s1U_fine Z hZb hZl
  have f2 := s2U_fine Z l m hZb hZl (by omega)
  have HW5 : Kpt (∀ W B tag S D, Dv W B tag st0 nmF S D 16 1 true → RdAt W (.slice (some ⟨ga, oa, none⟩) 256 cap) Z → Calls Try.prog 6 #[.pointer (some ⟨D, 0, none⟩), .agg (Cm.vals ⟨8, false, 0, 16, 0, false, 0, false, false, 0, 0, false, 0, 0, false⟩), .slice (some ⟨ga, oa, none⟩) 256 cap] W fun e w' => e = .returned (.agg (resV 0 noS (.slice none 0 0))) ∧ Aft W w' B tag (s1U Z)) :=
    ⟨fun W B tag S D h hr => doWrite_8 W B tag st0 nmF S D 16 1 true 0 16 256 cap _ Z ⟨8, false, 0, 16, 0, false, 0, false, false, 0, 0, false, 0, 0, false⟩ h (by decide) (by decide) (by decide) (by decide) (by decide) (fun _ => rfl) (fun c hc => by cases hc) (by decide) (by decide) rfl rfl rfl (by decide) hr hZl hZb rfl rfl⟩
  have HM : Kpt (∀ W B tag S D b, Dv W B tag (s1U Z) nmF S D 16 1 true → Bx W b (vU l m) → Calls Try.prog 6 #[.pointer (some ⟨D, 0, none⟩), .agg (Cm.vals ⟨13, false, 0, 0, 24, false, 0, false, false, 0, 0, false, 0, 0, false⟩), .slice (some ⟨b, 0, none⟩) 24 24] W fun e w' => e = .returned (.agg (resV 0 noS (.slice none 0 0))) ∧ Aft W w' B tag (s2U Z l m)) :=
    ⟨fun W B tag S D b h hX => doUnmap W B tag (s1U Z) nmF S D 16 1 true l m b 24 ⟨13, false, 0, 0, 24, false, 0, false, false, 0, 0, false, 0, 0, false⟩ h (by decide) (by decide) (by decide) (by have := f1.cnt; omega) (by have := f1.wl; omega) f1.fails f1.wrs (by decide) (by decide) rfl rfl (by omega) (by omega) hlm16 hX⟩
  obtain ⟨DL, hDL⟩ : ∃ x, x = packL false (rdL ((s2U Z l m).seen nmF) 0 16) := ⟨_, rfl⟩
  have hdd := s2U_data Z l m hZb hZl (by omega)
  rw [← hDL] at hdd
  have hDLl : DL.length = 256 := by rw [hDL, packL_len false _ (rdL_ok f2.good 0 16), rdL_len]; rfl
  have HR : Kpt (∀ W B tag S D, Dv W B tag (s2U Z l m) nmF S D 16 1 true → Calls Try.prog 6 #[.pointer (some ⟨D, 0, none⟩), .agg (Cm.vals ⟨7, false, 0, 16, 0, false, 0, false, false, 0, 0, false, 0, 0, false⟩), .slice none 0 0] W fun e w' => ∃ g cap, e = .returned (.agg (resV 0 noS (.slice (some ⟨g, 0, none⟩) 256 cap))) ∧ Got W w' B tag (rdSt (s2U Z l m) 16) g 256 cap DL) :=
    ⟨fun W B tag S D h => by
      have := doRead W B tag (s2U Z l m) nmF S D 16 1 true 0 16 ⟨7, false, 0, 16, 0, false, 0, false, false, 0, 0, false, 0, 0, false⟩ (.slice none 0 0) h (by decide) (by decide) (by decide) (by have := f2.cnt; omega) f2.fails f2.good (by decide) (by decide) (show (0 : Int) ≤ 0 by decide) (show (0 : Int) ≤ 4 by decide) (by decide) rfl rfl rfl (by decide) (s2U_look Z l m hZb hZl)
      rw [show packL ((0 : Int) != 0) (rdL ((s2U Z l m).seen nmF) 0 16) = DL from hDL.symm] at this
      exact this⟩
  simp only [Cm.vals] at HW5 HR
  obtain ⟨s1, hs1⟩ : ∃ s, s = s1U Z := ⟨_, rfl⟩
  obtain ⟨s2, hs2⟩ : ∃ s, s = s2U Z l m := ⟨_, rfl⟩
  rw [← hs1] at HW5 HM
  rw [← hs2] at HM HR
  have el8 : IntKind.u8.wrap (l : Int) = l := by rw [IntKind.wrap_u8]; omega
  have em8 : IntKind.u8.wrap (m : Int) = m := by rw [IntKind.wrap_u8]; omega
  have el : IntKind.u64.wrap (l : Int) = l := by rw [IntKind.wrap_u64]; omega
  have em : IntKind.u64.wrap (m : Int) = m := by rw [IntKind.wrap_u64]; omega
  have hm16 : (m : Int) ≤ 16 := by omega
  have hm16n : m ≤ 16 := by omega
  have hq0 : ¬ (q : Int) = 0 := by omega
  have bq0 : ((q : Int) == 0) = false := beq_eq_false_iff_ne.mpr hq0
  have h256 : ¬ (len : Int) < 256 := by omega
  obtain ⟨A, hA⟩ : ∃ A : Nat, (16 : Int) * l = A := ⟨16 * l, by omega⟩
  obtain ⟨sm, hsm⟩ : ∃ s : Nat, (l : Int) + m = s := ⟨l + m, by omega⟩
  obtain ⟨E, hE⟩ : ∃ E : Nat, (16 : Int) * sm = E := ⟨16 * sm, by omega⟩
  have hdd2 : Kpt (∀ x, x < 256 → DL.getD x 0 = if A ≤ x ∧ x < E then 0 else Z.getD x 0) := ⟨fun x hx => by rw [hdd x hx, show 16 * l = A by omega, show 16 * (l + m) = E by omega]⟩
  have hZK := Kpt.mk hZ
  have hZdK := Kpt.mk hZd
  clear f1 f2 hdd hDL hDLl hs1 hs2 hZ hZl hZb hZd hlm16
  go_enter Try.func3, Try.ntmps3
  go_upto_region 9 with (first
      | (have hm := m2; refine wpList_store_bx rfl 34 _ _ rfl ba _ (resV 0 noS (.slice none 0 0)) rfl rfl Oa.out.bx rfl infoR (resV_one _ _ _ _ _) rfl ?_; intro w3 hX_ hg_; replace IV := Kpt.mk (IV.out.other hg_ Oa.out.lo); replace F := Kpt.mk (F.out.own Oa.out hg_ hSl hDl); replace Oa := Kpt.mk (Oa.out.set hX_); clear hX_ hg_; clear hm m2; have m3 : Kpt True := ⟨trivial⟩)
      | (have hm := m1; refine wpList_var rfl 34 rfl zeroR zeroRi ?_; intro ba w_a hl_ hX_ h_; have Oa := Kpt.mk (F.out.new hl_ hX_); replace IV := Kpt.mk (IV.out.below h_); replace F := Kpt.mk (F.out.below h_); clear hl_ hX_ h_; clear hm m1; have m2 : Kpt True := ⟨trivial⟩)
      | (go_at_call 6; refine (HW5.out _ _ _ _ _ F.out.dv IV.out.rd).mono ?_; rintro e wA ⟨rfl, tagA, hW_, s_⟩; replace IV := Kpt.mk (IV.out.call s_); replace F := Kpt.mk (F.out.call hW_ s_); clear hW_ s_; have m1 : Kpt True := ⟨trivial⟩)
      | (go_at_call 5; go_must (refine (HD.out _).mono ?_; rintro e w2 ⟨D, B, S, tag, rfl, hdv, hb2, ht2⟩; have F := Kpt.mk hdv.fx; have hSl := hdv.sto.lt; have hDl := hdv.bx.lt; have hbT := Kpt.mk (And.intro (hb1.out.trans (hb2.mono hb1.out.size)) (fun i (hi : i < w.heap.size) => ht2 i (Nat.lt_of_lt_of_le hi hb1.out.size))); have IV : Kpt (Yi w2 w2 tag (some ⟨ga, oa, none⟩) 256 cap Z) := ⟨rd_below hZK.out hbT.out.1, fun g o e => by cases e; exact ⟨Nat.lt_of_lt_of_le hga hbT.out.1.size, hbT.out.2 _ hga⟩, Nat.le_refl _⟩; clear hdv hb2 ht2))
      | (go_at_call 4; go_must (refine HA.out.mono ?_; rintro e w1 ⟨rfl, hb1⟩; replace hb1 := Kpt.mk hb1))
      | fail)
  clear HA HD hZK
  go_upto_region 10 with fail
  have hvU : (#[.int .u8 0, .int .u8 22, .int .u8 0, .int .u8 16, .int .u8 0, .int .u8 0, .int .u8 0, .int .u8 0, .int .u8 0, .int .u8 0, .int .u8 0, .int .u8 0, .int .u8 0, .int .u8 0, .int .u8 0, .int .u8 (l : Int), .int .u8 0, .int .u8 0, .int .u8 0, .int .u8 (m : Int), .int .u8 0, .int .u8 0, .int .u8 0, .int .u8 0] : Array Value) = vU l m := rfl
  rw [hvU]
  obtain ⟨wq, hwq⟩ : ∃ W, W = w3.alloc (.cells (vU l m) 5) := ⟨_, rfl⟩
  rw [← hwq]
  have hal : Below w3.heap.size w3 wq := by rw [hwq]; exact (Below.refl _ _).alloc (Nat.le_refl _) _
  have hXq : Bx wq w3.heap.size (vU l m) := by rw [hwq]; exact bx_new _ _ _
  obtain ⟨bq, hbq⟩ : ∃ b, b = w3.heap.size := ⟨_, rfl⟩
  rw [← hbq] at hXq ⊢
  have hq_ : w3.heap.size ≤ bq := Nat.le_of_eq hbq.symm
  have q_a_q : ba < bq := Nat.lt_of_lt_of_le Oa.out.bx.lt hq_
  have Oq := Kpt.mk (F.out.new hq_ hXq)
  replace Oa := Kpt.mk (Oa.out.below hal)
  replace IV := Kpt.mk (IV.out.below hal)
  replace F := Kpt.mk (F.out.below hal)
  clear hvU hwq hal hXq hbq hq_
  go_wp2_with (first
      | (have hm := m11; refine wpList_store_bx rfl 34 _ _ rfl be _ (resV 0 noS (.slice (some ⟨gy, 0, none⟩) 256 cy)) rfl rfl Oe.out.bx rfl infoR (resV_one _ _ _ _ _) rfl ?_; intro w12 hX_ hg_; replace Oa := Kpt.mk (Oa.out.other hg_ (by omega)); replace Oq := Kpt.mk (Oq.out.other hg_ (by omega)); replace Ok := Kpt.mk (Ok.out.other hg_ (by omega)); replace Os := Kpt.mk (Os.out.other hg_ (by omega)); replace Ry := Kpt.mk (Ry.out.other hg_ (by omega)); replace IV := Kpt.mk (IV.out.other hg_ Oe.out.lo); replace F := Kpt.mk (F.out.own Oe.out hg_ hSl hDl); replace Oe := Kpt.mk (Oe.out.set hX_); clear hX_ hg_; clear hm m11; have m12 : Kpt True := ⟨trivial⟩; have re := (resV_at Oe.out.bx).1; have re9 := (resV_at Oe.out.bx).2.1; have le_ := Oe.out.bx.lt; have ra := (resV_at Oa.out.bx).1; have la := Oa.out.bx.lt; have rb := (resV_at Os.out.bx).1; have lb_ := Os.out.bx.lt)
      | (have hm := m10; refine wpList_var rfl 34 rfl zeroR zeroRi ?_; intro be w_e hl_ hX_ h_; have q_a_e : ba < be := Nat.lt_of_lt_of_le Oa.out.bx.lt hl_; have q_q_e : bq < be := Nat.lt_of_lt_of_le Oq.out.bx.lt hl_; have q_k_e : bk < be := Nat.lt_of_lt_of_le Ok.out.bx.lt hl_; have q_s_e : bs < be := Nat.lt_of_lt_of_le Os.out.bx.lt hl_; have q_y_e : gy < be := Nat.lt_of_lt_of_le Ry.out.lt hl_; have Oe := Kpt.mk (F.out.new hl_ hX_); replace Oa := Kpt.mk (Oa.out.below h_); replace Oq := Kpt.mk (Oq.out.below h_); replace Ok := Kpt.mk (Ok.out.below h_); replace Os := Kpt.mk (Os.out.below h_); replace Ry := Kpt.mk (Ry.out.below h_); replace IV := Kpt.mk (IV.out.below h_); replace F := Kpt.mk (F.out.below h_); clear hl_ hX_ h_; clear hm m10; have m11 : Kpt True := ⟨trivial⟩)
      | (go_at_call 6; have hm := m9; refine (HR.out _ _ _ _ _ F.out.dv).mono ?_; rintro e w10 ⟨gy, cy, rfl, tagY, hW_, s_, hrow_, hgn_⟩; have q_a_y : ba < gy := Nat.lt_of_lt_of_le Oa.out.bx.lt (own_lo hrow_).1; have q_q_y : bq < gy := Nat.lt_of_lt_of_le Oq.out.bx.lt (own_lo hrow_).1; have q_k_y : bk < gy := Nat.lt_of_lt_of_le Ok.out.bx.lt (own_lo hrow_).1; have q_s_y : bs < gy := Nat.lt_of_lt_of_le Os.out.bx.lt (own_lo hrow_).1; have Ry_ := Kpt.mk (Ob.mk (w := w2) (tag' := tagY) (own_base hrow_ F.out.st.size) hgn_); replace Oa := Kpt.mk (Oa.out.call s_); replace Oq := Kpt.mk (Oq.out.call s_); replace Ok := Kpt.mk (Ok.out.call s_); replace Os := Kpt.mk (Os.out.call s_); replace IV := Kpt.mk (IV.out.call s_); replace F := Kpt.mk (F.out.call hW_ s_); have Ry := Ry_; clear Ry_; clear hW_ s_ hrow_ hgn_; clear hm m9; have m10 : Kpt True := ⟨trivial⟩)
      | (have hm := m8; refine wpList_store_bx rfl 34 _ _ rfl bs _ (resV 0 noS (.slice none 0 0)) rfl rfl Os.out.bx rfl infoR (resV_one _ _ _ _ _) rfl ?_; intro w9 hX_ hg_; replace Oa := Kpt.mk (Oa.out.other hg_ (by omega)); replace Oq := Kpt.mk (Oq.out.other hg_ (by omega)); replace Ok := Kpt.mk (Ok.out.other hg_ (by omega)); replace IV := Kpt.mk (IV.out.other hg_ Os.out.lo); replace F := Kpt.mk (F.out.own Os.out hg_ hSl hDl); replace Os := Kpt.mk (Os.out.set hX_); clear hX_ hg_; clear hm m8; have m9 : Kpt True := ⟨trivial⟩)
      | (have hm := m7; refine wpList_var rfl 34 rfl zeroR zeroRi ?_; intro bs w_s hl_ hX_ h_; have q_a_s : ba < bs := Nat.lt_of_lt_of_le Oa.out.bx.lt hl_; have q_q_s : bq < bs := Nat.lt_of_lt_of_le Oq.out.bx.lt hl_; have q_k_s : bk < bs := Nat.lt_of_lt_of_le Ok.out.bx.lt hl_; have Os := Kpt.mk (F.out.new hl_ hX_); replace Oa := Kpt.mk (Oa.out.below h_); replace Oq := Kpt.mk (Oq.out.below h_); replace Ok := Kpt.mk (Ok.out.below h_); replace IV := Kpt.mk (IV.out.below h_); replace F := Kpt.mk (F.out.below h_); clear hl_ hX_ h_; clear hm m7; have m8 : Kpt True := ⟨trivial⟩)
      | (go_at_call 6; have hm := m6; refine (HM.out _ _ _ _ _ _ F.out.dv Oq.out.bx).mono ?_; rintro e wM ⟨rfl, tagM, hW_, s_⟩; replace Oa := Kpt.mk (Oa.out.call s_); replace Oq := Kpt.mk (Oq.out.call s_); replace Ok := Kpt.mk (Ok.out.call s_); replace IV := Kpt.mk (IV.out.call s_); replace F := Kpt.mk (F.out.call hW_ s_); clear hW_ s_; clear hm m6; have m7 : Kpt True := ⟨trivial⟩)
      | (have hm := m5; refine wpList_load_bx rfl 38 _ rfl bk (Cm.vals ⟨13, false, 0, 0, 24, false, 0, false, false, 0, 0, false, 0, 0, false⟩) rfl Ok.out.bx _ Try.underlying38 rfl infoC ?_; clear hm m5; have m6 : Kpt True := ⟨trivial⟩)
      | (have hm := m4; refine wpList_store_bx rfl 38 _ _ rfl bk _ (Cm.vals ⟨13, false, 0, 0, 24, false, 0, false, false, 0, 0, false, 0, 0, false⟩) rfl rfl Ok.out.bx rfl infoC (cm_one _) rfl ?_; intro w5 hX_ hg_; replace Oa := Kpt.mk (Oa.out.other hg_ (by omega)); replace Oq := Kpt.mk (Oq.out.other hg_ (by omega)); replace IV := Kpt.mk (IV.out.other hg_ Ok.out.lo); replace F := Kpt.mk (F.out.own Ok.out hg_ hSl hDl); replace Ok := Kpt.mk (Ok.out.set hX_); clear hX_ hg_; clear hm m4; have m5 : Kpt True := ⟨trivial⟩)
      | (have hm := m3; refine wpList_var rfl 38 rfl zeroC zeroCi ?_; intro bk w_k hl_ hX_ h_; have q_a_k : ba < bk := Nat.lt_of_lt_of_le Oa.out.bx.lt hl_; have q_q_k : bq < bk := Nat.lt_of_lt_of_le Oq.out.bx.lt hl_; have Ok := Kpt.mk (F.out.new hl_ hX_); replace Oa := Kpt.mk (Oa.out.below h_); replace Oq := Kpt.mk (Oq.out.below h_); replace IV := Kpt.mk (IV.out.below h_); replace F := Kpt.mk (F.out.below h_); clear hl_ hX_ h_; clear hm m3; have m4 : Kpt True := ⟨trivial⟩)
      | fail)
  have hbe : Kpt (Below w.heap.size w w12) := ⟨hbT.out.1.trans (F.out.st.belowT hbT.out.1.size hbT.out.2).1⟩
  have hYd := Kpt.mk (fun j hj => own_facts Ry.out.own j hj)
  have hZd := Kpt.mk (fun j hj => hZdK.out _ hbe.out j hj)
  have hgy := Ry.out.lt
  have hgz : ga < w12.heap.size := Nat.lt_of_lt_of_le hga hbe.out.size
  clear HW5 HM HR F IV Oa Os Oe Ok Oq Ry hbT hZdK ra la rb lb_ re 
  go_upto_region 19 with fail
  go_loopg [18, 19] 256 (fun i r18 r19 wv => ∃ x : Nat, r18 = .int .i64 (x : Int) ∧ x + i = 256 ∧ Kpt (wv = w12))
  case atStart => exact ⟨0, rfl, rfl, ⟨rfl⟩⟩
  case round =>
    obtain ⟨x, rfl, hxi, hwr⟩ := hrel
    obtain rfl := hwr.out
    clear hwr
    by_cases hlt : x < 256
    · have e1 : (x : Int) < 256 := by omega
      have e2 : (x : Int) < len := by omega
      have hv := hdd2.out x hlt
      have cy0 := hYd.out x hlt
      have cz0 := hZd.out x hlt
      obtain ⟨z, hz⟩ : ∃ z, z = Z.getD x 0 := ⟨_, rfl⟩
      rw [hv] at cy0
      rw [← hz] at cy0 cz0
      clear hz hv
      by_cases h1 : A ≤ x
      · have h1i : (A : Int) ≤ x := by omega
        by_cases h2 : x < E
        · have h2i : (x : Int) < E := by omega
          rw [if_pos ⟨h1, h2⟩] at cy0
          clear h1 h2
          go_wp2_with fail
          go_roundg (256 - (x + 1))
          case measure => omega
          case rel => exact ⟨x + 1, by go_num, by omega, ⟨rfl⟩⟩
        · have h2i : ¬ (x : Int) < E := by omega
          rw [if_neg (by omega)] at cy0
          clear h1 h2
          go_wp2_with fail
          go_roundg (256 - (x + 1))
          case measure => omega
          case rel => exact ⟨x + 1, by go_num, by omega, ⟨rfl⟩⟩
      · have h1i : ¬ (A : Int) ≤ x := by omega
        rw [if_neg (by omega)] at cy0
        clear h1
        go_wp2_with fail
        go_roundg (256 - (x + 1))
        case measure => omega
        case rel => exact ⟨x + 1, by go_num, by omega, ⟨rfl⟩⟩
    · have e1 : ¬ (x : Int) < 256 := by omega
      go_wp2_with fail
      go_ret
      exact ⟨rfl, hbe.out⟩
end Go.Proofs.Ytklboieemljmiab
