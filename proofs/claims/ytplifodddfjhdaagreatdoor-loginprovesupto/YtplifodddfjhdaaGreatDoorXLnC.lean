/-
  login: copies of users and of bytes.
-/
import Derived.Test.YtplifodddfjhdaaGreatDoorXLgH
namespace Go.Proofs.YtplifodddfjhdaaGreatDoor
open Go.RowKit Go.Lib
set_option linter.unusedVariables false
set_option linter.unusedSimpArgs false

def clU_ren : Go.Shelf.Ren := ⟨fun | 41 => 24 | n => n, fun | 22 => 23 | 23 => 44 | 4 => 4 | n => n, fun | n => n⟩
theorem clU : Go.Proofs.SlLaysE0.n41 Tryz.prog clU_ren := {
  mixed := by kernel_rfl
  f41 := ⟨Tryz.f24.name, by decide, Tryz.func24.trans (congrArg some (by kernel_rfl))⟩
  t4 := Tryz.underlying4
  a4 := Tryz.isAgg4
  z4 := Tryz.sizeOf4
  v4 := Tryz.zeroValue4
  t22 := Tryz.underlying23
  a22 := Tryz.isAgg23
  z22 := Tryz.sizeOf23
  v22 := Tryz.zeroValue23 }
def clB_ren : Go.Shelf.Ren := ⟨fun | 41 => 25 | n => n, fun | 22 => 26 | 23 => 5 | 4 => 4 | n => n, fun | n => n⟩
theorem clB : Go.Proofs.SlLaysE0.n41 Tryz.prog clB_ren := {
  mixed := by kernel_rfl
  f41 := ⟨Tryz.f25.name, by decide, Tryz.func25.trans (congrArg some (by kernel_rfl))⟩
  t4 := Tryz.underlying4
  a4 := Tryz.isAgg4
  z4 := Tryz.sizeOf4
  v4 := Tryz.zeroValue4
  t22 := Tryz.underlying26
  a22 := Tryz.isAgg26
  z22 := Tryz.sizeOf26
  v22 := Tryz.zeroValue26 }
theorem infoUs : (Tryz.prog.info? 44).map (fun i => (i.zero, i.size, i.bytes)) = some (some (.agg #[.string ⟨#[]⟩, .string ⟨#[]⟩]), 2, 32) := by kernel_rfl

/-- A copy of one user. -/
theorem cloneU_one (b off c : Nat) (N S : ByteArray) (w : World) (h : w.rangeAt b off [.string N, .string S]) :
    Calls Tryz.prog 24 #[.slice (some ⟨b, off, none⟩) 1 c] w fun e w' => (∃ g c', e = .returned (.slice (some ⟨g, 0, none⟩) 1 c') ∧ 1 ≤ c' ∧ w.heap.size ≤ g ∧ g < w'.heap.size ∧ w'.cell? ⟨g, 0, none⟩ = some (.string N) ∧ w'.cell? ⟨g, 1, none⟩ = some (.string S)) ∧ Below w.heap.size w w' := by
  obtain ⟨i0, hi0, hz0, hz1, hz2⟩ := info_parts infoUs
  refine (AnyE.slices_Clone clU i0 _ 2 32 hi0 hz0 hz1 hz2 rfl (by omega) (fun w => by simp [Go.sizeOf, typeInfo, clU_ren, hi0, hz1]) b off 1 c [.string N, .string S] w rfl (by unfold maxLen; omega) (by omega) (fun j u hu => h j u hu) (by intro u hu; simp at hu; rcases hu with rfl | rfl <;> rfl)).mono ?_
  rintro e w' ⟨v', rfl, ho, -, hb⟩
  refine ⟨?_, hb⟩
  rcases id ho.2 with ⟨_, h0⟩ | ⟨g, cap, cur, rfl, hbb, hg, hnc, _⟩
  · omega
  · exact ⟨g, cap, rfl, hnc, hbb, (Array.getElem?_eq_some_iff.1 hg).1, ho.cellAt 0 (by simp), ho.cellAt 1 (by simp)⟩

/-- A copy of bytes. -/
theorem cloneB_any (a : Option Addr) (n c : Nat) (zs : List Int) (w : World) (h : RdAt w (.slice a n c) zs) (hn : n ≤ 140737488355328) (hne : a = none ∨ 0 < n) :
    Calls Tryz.prog 25 #[.slice a n c] w fun e w' => (∃ a' c', e = .returned (.slice a' n c') ∧ RdAt w' (.slice a' n c') zs ∧ Newer a' w.heap.size ∧ ∀ x, a' = some x → x.block < w'.heap.size) ∧ Below w.heap.size w w' := by
  obtain ⟨a0, c0, hv, h1, h2, h3⟩ := id h
  simp only [Value.slice.injEq] at hv
  obtain ⟨rfl, hlen, rfl⟩ := hv
  cases a with
  | none =>
    obtain ⟨rfl, rfl⟩ : n = 0 ∧ c = 0 := by have := h1 rfl; omega
    refine (cloneB_nil w).mono ?_
    rintro e w' ⟨rfl, rfl⟩
    exact ⟨⟨none, 0, rfl, h, (fun x e => by cases e), fun x e => by cases e⟩, Below.refl _ _⟩
  | some x =>
    obtain ⟨i0, hi0, hz0, hz1, hz2⟩ := info_parts Tryz.info5
    rcases h3 with h3 | ⟨b, off, he, hc⟩
    · rcases hne with hne | hne
      · cases hne
      · omega
    · cases he
      refine (AnyE.slices_Clone clB i0 _ 1 1 hi0 hz0 hz1 hz2 rfl (by omega) (fun w => by simp [Go.sizeOf, typeInfo, clB_ren, hi0, hz1]) b off n c (cels zs) w (by simp [cels, hlen]) (by unfold maxLen; omega) (by omega) (fun j u hu => hc j u hu) (cels_one zs)).mono ?_
      rintro e w' ⟨v', rfl, ho, hnn, hb⟩
      refine ⟨?_, hb⟩
      rcases id ho.2 with ⟨e, h0⟩ | ⟨g, cap, cur, rfl, hbb, hg, hnc, _⟩
      · exact absurd e hnn
      · exact ⟨some ⟨g, 0, none⟩, cap, rfl, own_rd ho, (fun x e => by cases e; exact hbb), fun x e => by cases e; exact (Array.getElem?_eq_some_iff.1 hg).1⟩
end Go.Proofs.YtplifodddfjhdaaGreatDoor
