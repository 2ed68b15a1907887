/-
  Read and Write of a store at any numbers; a store that there is not.
-/
import Derived.Test.YtmjpomkofgfbbaaKCach
namespace Go.Proofs.Ytmjpomkofgfbbaa
open Go.RowKit
set_option linter.unusedVariables false
set_option linter.unusedSimpArgs false

def rErr (N : Nat) (lba n : Int) : Int := if 0 ≤ lba ∧ 0 ≤ n ∧ lba + n ≤ N then 0 else 4

set_option maxHeartbeats 1000000 in
theorem kread_gen (w : World) (B : Nat) (tag : Tags) (st : St) (S N : Nat) (lba n : Int) (f : ByteArray) (ca : Bool) (h : Wd w B tag st) (hs : Sto w tag S B f N ca) (hf1 : 1 ≤ f.size) (hf2 : f.size ≤ 32) (hN : N ≤ 4096)
    (hc : st.cnt < 500000000000) (hf : ∀ i, st.fails i = false) (hby : ∀ zs, st.seen f = some zs → Byts zs) (hl : -9223372036854775808 ≤ lba ∧ lba < 9223372036854775808) (hn : -9223372036854775808 ≤ n ∧ n < 9223372036854775808) :
    Calls Try.prog 13 #[.pointer (some ⟨S, 0, none⟩), .int .i64 lba, .int .i64 n] w fun e w' => ∃ v k, e = .returned (.tuple #[v, .int .i64 k, .int .i64 (rErr N lba n)]) ∧ (∃ st', Wd w' B tag st' ∧ st'.seen = st.seen ∧ st'.waits = st.waits ∧ st'.fails = st.fails ∧ st'.cnt ≤ st.cnt + 4096) ∧ Step w w' tag tag (fun _ => True) := by
  by_cases hok : 0 ≤ lba ∧ 0 ≤ n ∧ lba + n ≤ N
  · have e1 : ((lba.toNat : Nat) : Int) = lba := Int.toNat_of_nonneg hok.1
    have e2 : ((n.toNat : Nat) : Int) = n := Int.toNat_of_nonneg hok.2.1
    have := kread_any w B tag st S N lba.toNat n.toNat f ca h hs hf1 hf2 hN hc hf hby (by omega)
    rw [e1, e2] at this
    unfold rErr
    rw [if_pos hok]
    refine this.mono ?_
    rintro e w' ⟨g, he, h1, h2, _⟩
    exact ⟨_, _, he, ⟨_, h1, rfl, rfl, rfl, by simp only [rdSt]; omega⟩, h2⟩
  · have HH := Kpt.mk (has_any w tag S B N f ca lba n hs hN hl hn)
    rw [decide_eq_false hok] at HH
    unfold rErr
    rw [if_neg hok]
    have hK := Kpt.mk h
    clear h hs hok hby hf
    go_enter Try.func13, Try.ntmps13
    go_wp2_with (go_at_call 32; refine HH.out.mono ?_; rintro e w ⟨rfl, hw'⟩; subst hw')
    go_ret3
    exact ⟨_, _, rfl, ⟨st, hK.out, rfl, rfl, rfl, by omega⟩, Step.refl _ _ _⟩

set_option maxHeartbeats 1000000 in
theorem kwrite_no (w : World) (B : Nat) (tag : Tags) (S N : Nat) (lba : Int) (f : ByteArray) (ca fua : Bool) (a : Option Addr) (n c : Nat) (hs : Sto w tag S B f N ca) (hN : N ≤ 4096)
    (hl : -9223372036854775808 ≤ lba ∧ lba < 9223372036854775808) (hn : n < 9223372036854775808) (hno : ¬ (0 ≤ lba ∧ lba + n ≤ N)) :
    Calls Try.prog 16 #[.pointer (some ⟨S, 0, none⟩), .int .i64 lba, .slice a n c, .bool fua] w fun e w' => e = .returned (.tuple #[.int .i64 0, .int .i64 4]) ∧ w' = w := by
  have HH := Kpt.mk (has_any w tag S B N f ca lba n hs hN hl (by omega))
  rw [decide_eq_false (fun h => hno ⟨h.1, h.2.2⟩)] at HH
  clear hs hno
  go_enter Try.func16, Try.ntmps16
  go_wp2_with (go_at_call 32; refine HH.out.mono ?_; rintro e w ⟨rfl, hw'⟩; subst hw')
  go_ret2
  exact ⟨rfl, rfl⟩

theorem kread_nil (w : World) (lba n : Int) : Calls Try.prog 13 #[.pointer none, .int .i64 lba, .int .i64 n] w fun e w' => e = .returned (.tuple #[.slice none 0 0, .int .i64 0, .int .i64 8]) ∧ w' = w := by
  go_enter Try.func13, Try.ntmps13
  go_wp2
  go_ret3
  exact ⟨rfl, rfl⟩
theorem ksync_nil (w : World) : Calls Try.prog 20 #[.pointer none] w fun e w' => e = .returned (.int .i64 8) ∧ w' = w := by
  go_enter Try.func20, Try.ntmps20
  go_wp2
  go_ret
  exact ⟨rfl, rfl⟩
theorem kblocks_nil (w : World) : Calls Try.prog 28 #[.pointer none] w fun e w' => e = .returned (.int .i64 0) ∧ w' = w := by
  go_enter Try.func28, Try.ntmps28
  go_wp2
  go_ret
  exact ⟨rfl, rfl⟩
theorem kcache_nil (w : World) : Calls Try.prog 27 #[.pointer none] w fun e w' => e = .returned (.bool false) ∧ w' = w := by
  go_enter Try.func27, Try.ntmps27
  go_wp2
  go_ret
  exact ⟨rfl, rfl⟩
end Go.Proofs.Ytmjpomkofgfbbaa
