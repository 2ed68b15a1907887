/-
  A device, a sense, a command; the contracts of the small functions.
-/
import Derived.Test.YtklboieemljmiabMH
namespace Go.Proofs.Ytklboieemljmiab
open Go.RowKit
set_option linter.unusedVariables false
set_option linter.unusedSimpArgs false

/-- A sense. -/
structure Sn where
  key : Int
  code : Int
  info : Int
  hi : Bool
  field : Int
  bit : Int
  hf : Bool
  ic : Bool
def Sn.vals (s : Sn) : Array Value := #[.int .u8 s.key, .int .u16 s.code, .int .u64 s.info, .bool s.hi, .int .i64 s.field, .int .i64 s.bit, .bool s.hf, .bool s.ic]
def noS : Sn := ⟨0, 0, 0, false, 0, 0, false, false⟩
def plS (key code : Int) : Sn := ⟨key, code, 0, false, 0, 0, false, false⟩
def nuS (key code n : Int) : Sn := ⟨key, code, n, true, 0, 0, false, false⟩
def cmS (code f : Int) : Sn := ⟨5, code, 0, false, f, 7, true, true⟩
def paS (f : Int) : Sn := ⟨5, 9728, 0, false, f, -1, true, false⟩
def zeroS : Array Value := #[.int .u8 0, .int .u16 0, .int .u64 0, .bool false, .int .i64 0, .int .i64 0, .bool false, .bool false]
theorem noS_vals : noS.vals = zeroS := rfl
theorem infoS : (Try.prog.info? 32).map (·.size) = some 8 := by kernel_rfl
theorem Sn.vals_one (c : Sn) : c.vals.all (·.oneCell') = true := by simp [Sn.vals, Value.oneCell']
/-- A command. -/
structure Cm where
  kd : Int
  lg : Bool
  lba : Int
  bl : Int
  al : Int
  fua : Bool
  pr : Int
  um : Bool
  ev : Bool
  pg : Int
  ct : Int
  sv : Bool
  se : Int
  ty : Int
  bs : Bool
def Cm.vals (c : Cm) : Array Value := #[.int .u8 c.kd, .bool c.lg, .int .u64 c.lba, .int .u64 c.bl, .int .i64 c.al, .bool c.fua, .int .u8 c.pr, .bool c.um, .bool c.ev, .int .u8 c.pg, .int .u8 c.ct, .bool c.sv, .int .u8 c.se, .int .u8 c.ty, .bool c.bs]
theorem infoC : (Try.prog.info? 38).map (·.size) = some 15 := by kernel_rfl

theorem plain_any (k c : Int) (w : World) : Calls Try.prog 18 #[.int .u8 k, .int .u16 c] w fun e w' => e = .returned (.agg (plS k c).vals) ∧ Below w.heap.size w w' := by
  go_enter Try.func18, Try.ntmps18
  go_wp2
  refine bodyPost_ret (v := .agg (plS k c).vals) (by simp [results, Try.results18, go_sem, plS, Sn.vals]) rfl ⟨rfl, ?_⟩
  exact (Below.refl _ _).alloc (Nat.le_refl _) _
theorem numbered_any (k c n : Int) (w : World) : Calls Try.prog 22 #[.int .u8 k, .int .u16 c, .int .u64 n] w fun e w' => e = .returned (.agg (nuS k c n).vals) ∧ Below w.heap.size w w' := by
  go_enter Try.func22, Try.ntmps22
  go_wp2
  refine bodyPost_ret (v := .agg (nuS k c n).vals) (by simp [results, Try.results22, go_sem, nuS, Sn.vals]) rfl ⟨rfl, ?_⟩
  exact (Below.refl _ _).alloc (Nat.le_refl _) _
theorem inCmd_any (c f : Int) (w : World) : Calls Try.prog 20 #[.int .u16 c, .int .i64 f] w fun e w' => e = .returned (.agg (cmS c f).vals) ∧ Below w.heap.size w w' := by
  go_enter Try.func20, Try.ntmps20
  go_wp2
  refine bodyPost_ret (v := .agg (cmS c f).vals) (by simp [results, Try.results20, go_sem, cmS, Sn.vals]) rfl ⟨rfl, ?_⟩
  exact (Below.refl _ _).alloc (Nat.le_refl _) _
theorem inPar_any (f : Int) (w : World) : Calls Try.prog 69 #[.int .i64 f] w fun e w' => e = .returned (.agg (paS f).vals) ∧ Below w.heap.size w w' := by
  go_enter Try.func69, Try.ntmps69
  go_wp2
  refine bodyPost_ret (v := .agg (paS f).vals) (by simp [results, Try.results69, go_sem, paS, Sn.vals]) rfl ⟨rfl, ?_⟩
  exact (Below.refl _ _).alloc (Nat.le_refl _) _
/-- A result in a cell's block that was laid at first. -/
theorem wpList_res {w w0 : World} {ops : Array Oper} {rest : List Oper} {o : Oper} {a : Act} {Q : Exit → Act → World → Prop} (s : Sn) (b : Nat) (cs : Array Value) (x y : Operand) (hgd : o.guard = none) (ho : o.op = .store 32 x y)
    (hx : a.eval x = .pointer (some ⟨b, 0, none⟩)) (hy : a.eval y = .agg s.vals) (hB : Bx w b cs) (hl : 8 = cs.size) (hdst : o.dst = none) (hb : Below w0.heap.size w0 w) (hb0 : w0.heap.size ≤ b)
    (h : ∀ w', Bx w' b s.vals → Below w0.heap.size w0 w' → w.grownBy w' (some b) → wpList Try.prog ops Q rest a w') : wpList Try.prog ops Q (o :: rest) a w :=
  wpList_store_bx hgd 32 x y ho b cs s.vals hx hy hB hl infoS (Sn.vals_one s) hdst (fun w' h1 h2 => h w' h1 (hb.grown h2 hb.size (fun k hk => by cases hk; exact hb0)) h2)
theorem res_run {w : World} {b : Nat} {s : Sn} (hB : Bx w b s.vals) : (loadVar 32 ⟨b, 0, none⟩).run Try.prog w = .ok (.agg s.vals) w := run_res hB 32 _ Try.underlying32 rfl infoS
theorem wrong_any (w : World) : Calls Try.prog 51 #[] w fun e w' => e = .returned (.agg (plS 5 6656).vals) ∧ Below w.heap.size w w' := by
  have HP := Kpt.mk (fun W => plain_any 5 6656 W)
  obtain ⟨w1, hw1⟩ : ∃ w1, w1 = w.alloc (.cells zeroS 32) := ⟨_, rfl⟩
  have hB1 : Kpt (Bx w1 w.heap.size zeroS) := ⟨by rw [hw1]; exact bx_new w zeroS 32⟩
  have hb1 : Kpt (Below w.heap.size w w1) := ⟨by rw [hw1]; exact (Below.refl _ _).alloc (Nat.le_refl _) _⟩
  go_enter Try.func51, Try.ntmps51
  go_wp2_with fail
  rw [show w.alloc (.cells #[.int .u8 0, .int .u16 0, .int .u64 0, .bool false, .int .i64 0, .int .i64 0, .bool false, .bool false] 32) = w1 from hw1.symm]
  refine (HP.out w1).mono ?_
  rintro e w2 ⟨rfl, h2⟩
  have hB2 := hB1.out.below h2 hB1.out.lt
  have hb2 := hb1.out.trans (h2.mono hb1.out.size)
  clear hw1
  go_wp2_with (refine wpList_res (plS 5 6656) w.heap.size zeroS _ _ rfl rfl rfl rfl hB2 rfl rfl hb2 (Nat.le_refl _) ?_; intro w3 hB3 hb3 _)
  refine bodyPost_ret (v := .agg (plS 5 6656).vals) (by simp [results, Try.results51, asAddr, Act.put, res_run hB3]) rfl ⟨rfl, hb3⟩
end Go.Proofs.Ytklboieemljmiab
