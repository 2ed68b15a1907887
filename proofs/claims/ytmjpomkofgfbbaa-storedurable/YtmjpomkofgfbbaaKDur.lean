/-
  StoreDurable: the walk, whole.
-/
import Derived.Test.YtmjpomkofgfbbaaKDurA
import Derived.Test.YtmjpomkofgfbbaaKDurAf
import Derived.Test.YtmjpomkofgfbbaaKDurB
import Derived.Test.YtmjpomkofgfbbaaKDurBf
import Derived.Test.YtmjpomkofgfbbaaKDurC
import Derived.Test.YtmjpomkofgfbbaaKDurD
import Derived.Test.YtmjpomkofgfbbaaKDurE
import Derived.Test.YtmjpomkofgfbbaaKDurF
import Derived.Test.YtmjpomkofgfbbaaKDurG
import Derived.Test.YtmjpomkofgfbbaaKCach
namespace Go.Proofs.Ytmjpomkofgfbbaa
open Go.RowKit
set_option linter.unusedVariables false
set_option linter.unusedSimpArgs false

theorem durable_go (a1 a2 : Option Addr) (n1 c1 n2 c2 : Nat) (bs1 bs2 : List Bk) (fua sy ca : Bool) (keep cut : Int) (w : World) (l1 : bs1.length = n1) (hu : Bks w (.slice a1 n1 c1) bs1) (h1c : n1 ≤ c1) (l2 : bs2.length = n2) (hv : Bks w (.slice a2 n2 c2) bs2) (h2c : n2 ≤ c2)
    (o1 : ∀ g, (Value.slice a1 n1 c1).ownBlock = some g → g < w.heap.size) (o2 : ∀ g, (Value.slice a2 n2 c2).ownBlock = some g → g < w.heap.size) (kb : 0 ≤ keep ∧ keep ≤ 255) (cb : 0 ≤ cut ∧ cut ≤ 255) :
    Calls Try.prog 4 #[.slice a1 n1 c1, .slice a2 n2 c2, .bool fua, .bool sy, .bool ca, .int .u8 keep, .int .u8 cut] w fun e w' => e = .returned (.bool true) ∧ Below w.heap.size w w' := by
  obtain ⟨K, rfl⟩ := Int.eq_ofNat_of_zero_le kb.1
  obtain ⟨C, rfl⟩ := Int.eq_ofNat_of_zero_le cb.1
  obtain ⟨n, hn⟩ : ∃ n, n = min n1 30 := ⟨_, rfl⟩
  obtain ⟨k, hk⟩ : ∃ k, k = min n2 n := ⟨_, rfl⟩
  obtain ⟨cu, cul⟩ := hu.cut (w' := w) (Below.refl _ _) n (by omega)
  obtain ⟨cv, cvl⟩ := hv.cut (w' := w) (Below.refl _ _) k (by omega)
  have p1 : ∀ g, (Value.slice a1 n c1).ownBlock = some g → g < w.heap.size := fun g hg => o1 g ((own_len a1 n1 n c1).trans hg)
  have p2 : ∀ g, (Value.slice a2 k c2).ownBlock = some g → g < w.heap.size := fun g hg => o2 g ((own_len a2 n2 k c2).trans hg)
  have e1 : min (n1 : Int) 30 = (n : Int) := by omega
  have e2 : min (n2 : Int) (n : Int) = (k : Int) := by omega
  have x1 : n ≤ 30 := by omega
  have x2 : k ≤ n := by omega
  have x3 : n ≤ n1 := by omega
  have x4 : k ≤ n2 := by omega
  have x5 : K ≤ 255 := by omega
  have x6 : C ≤ 255 := by omega
  by_cases hp : 0 < n
  · cases fua <;> cases ca <;> cases sy
    · exact dur_b0 a1 a2 n1 c1 n2 c2 n k K C _ _ w cu cul cv cvl p1 p2 e1 e2 x1 x2 x3 h1c x4 h2c x5 x6 hp
    · exact dur_b1 a1 a2 n1 c1 n2 c2 n k K C _ _ w cu cul cv cvl p1 p2 e1 e2 x1 x2 x3 h1c x4 h2c x5 x6 hp
    · exact dur_c0 a1 a2 n1 c1 n2 c2 n k K C _ _ w cu cul cv cvl p1 p2 e1 e2 x1 x2 x3 h1c x4 h2c x5 x6 hp
    · exact dur_c1 a1 a2 n1 c1 n2 c2 n k K C _ _ w cu cul cv cvl p1 p2 e1 e2 x1 x2 x3 h1c x4 h2c x5 x6 hp
    · exact dur_a0f a1 a2 n1 c1 n2 c2 n k K C _ _ w cu cul cv cvl p1 p2 e1 e2 x1 x2 x3 h1c x4 h2c x5 x6 hp
    · exact dur_a1f a1 a2 n1 c1 n2 c2 n k K C _ _ w cu cul cv cvl p1 p2 e1 e2 x1 x2 x3 h1c x4 h2c x5 x6 hp
    · exact dur_a0t a1 a2 n1 c1 n2 c2 n k K C _ _ w cu cul cv cvl p1 p2 e1 e2 x1 x2 x3 h1c x4 h2c x5 x6 hp
    · exact dur_a1t a1 a2 n1 c1 n2 c2 n k K C _ _ w cu cul cv cvl p1 p2 e1 e2 x1 x2 x3 h1c x4 h2c x5 x6 hp
  · have hp0 : n = 0 := by omega
    cases fua <;> cases ca <;> cases sy
    · exact dur_z0ff a1 a2 n1 c1 n2 c2 n k K C _ _ w cu cul cv cvl p1 p2 e1 e2 x1 x2 x3 h1c x4 h2c x5 x6 hp0
    · exact dur_z1ff a1 a2 n1 c1 n2 c2 n k K C _ _ w cu cul cv cvl p1 p2 e1 e2 x1 x2 x3 h1c x4 h2c x5 x6 hp0
    · exact dur_z0ft a1 a2 n1 c1 n2 c2 n k K C _ _ w cu cul cv cvl p1 p2 e1 e2 x1 x2 x3 h1c x4 h2c x5 x6 hp0
    · exact dur_z1ft a1 a2 n1 c1 n2 c2 n k K C _ _ w cu cul cv cvl p1 p2 e1 e2 x1 x2 x3 h1c x4 h2c x5 x6 hp0
    · exact dur_z0tf a1 a2 n1 c1 n2 c2 n k K C _ _ w cu cul cv cvl p1 p2 e1 e2 x1 x2 x3 h1c x4 h2c x5 x6 hp0
    · exact dur_z1tf a1 a2 n1 c1 n2 c2 n k K C _ _ w cu cul cv cvl p1 p2 e1 e2 x1 x2 x3 h1c x4 h2c x5 x6 hp0
    · exact dur_z0tt a1 a2 n1 c1 n2 c2 n k K C _ _ w cu cul cv cvl p1 p2 e1 e2 x1 x2 x3 h1c x4 h2c x5 x6 hp0
    · exact dur_z1tt a1 a2 n1 c1 n2 c2 n k K C _ _ w cu cul cv cvl p1 p2 e1 e2 x1 x2 x3 h1c x4 h2c x5 x6 hp0
end Go.Proofs.Ytmjpomkofgfbbaa
