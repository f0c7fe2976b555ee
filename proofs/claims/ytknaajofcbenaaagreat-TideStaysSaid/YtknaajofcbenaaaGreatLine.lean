import Derived.Test.YtknaajofcbenaaaGreatBase
import Derived.WalkKit
import Derived.WalkSpells
import Derived.WalkLawsBesides
import Derived.Deep.QuietTactic
import Derived.BigQuiet
namespace Go.Proofs.YtknaajofcbenaaaGreat
open Go.RowKit

theorem mul_rng (a b A B : Int) (h0 : 0 ≤ a) (h1 : a ≤ A) (g0 : -B ≤ b) (g1 : b ≤ B) (hB : 0 ≤ B) : -(B * A) ≤ b * a ∧ b * a ≤ B * A := by
  have e1 := Int.mul_le_mul_of_nonneg_right g1 h0
  have e2 := Int.mul_le_mul_of_nonneg_left h1 hB
  have e3 := Int.mul_le_mul_of_nonneg_right g0 h0
  rw [Int.neg_mul] at e3
  omega

def onL (a b : Int × Int) (m : Int) : Int := (a.2 * (b.1 - a.1) + (b.2 - a.2) * (m - a.1)) / (b.1 - a.1)

theorem onL_nonneg (m0 h0 m1 h1 m : Int) (_ : m0 < m1) (d : m0 ≤ m) (e : m ≤ m1) (f0 : 0 ≤ h0) (g0 : 0 ≤ h1) : 0 ≤ h0 * (m1 - m0) + (h1 - h0) * (m - m0) := by
  have e1 : h0 * (m1 - m0) = h0 * (m1 - m) + h0 * (m - m0) := by rw [← Int.mul_add]; congr 1; omega
  have e2 : (h1 - h0) * (m - m0) = h1 * (m - m0) - h0 * (m - m0) := Int.sub_mul ..
  have e3 : 0 ≤ h0 * (m1 - m) := Int.mul_nonneg f0 (by omega)
  have e4 : 0 ≤ h1 * (m - m0) := Int.mul_nonneg g0 (by omega)
  omega

theorem onLine_c (m0 h0 m1 h1 m : Int) (w : World) (a : 0 ≤ m0) (b : m0 < m1) (c : m1 ≤ 1440) (d : m0 ≤ m) (e : m ≤ m1) (f0 : 0 ≤ h0) (f1 : h0 ≤ 999) (g0 : 0 ≤ h1) (g1 : h1 ≤ 999) :
    Calls Tryz.prog 138 #[.agg #[.int .i64 m0, .int .i64 h0], .agg #[.int .i64 m1, .int .i64 h1], .int .i64 m] w fun e w' => e = .returned (.int .i64 (onL (m0, h0) (m1, h1) m)) ∧ Up w w' := by
  have k1 := mul_rng (m1 - m0) h0 1440 999 (by omega) (by omega) (by omega) (by omega) (by omega)
  have k2 := mul_rng (m - m0) (h1 - h0) 1440 999 (by omega) (by omega) (by omega) (by omega) (by omega)
  have k3 := onL_nonneg m0 h0 m1 h1 m b d e f0 g0
  obtain ⟨k4, k5⟩ := k1
  obtain ⟨k6, k7⟩ := k2
  have k8 : 0 ≤ (h0 * (m1 - m0) + (h1 - h0) * (m - m0)) / (m1 - m0) := Int.ediv_nonneg k3 (by omega)
  have k9 : (h0 * (m1 - m0) + (h1 - h0) * (m - m0)) / (m1 - m0) ≤ 9223372036854775807 := by
    have := Int.ediv_le_self (m1 - m0) k3
    omega
  go_enter Tryz.func138, Tryz.ntmps138
  go_wp2
  go_quiet (fail)
  go_wp2
  go_ret
  exact ⟨rfl, by (repeat (first | exact Below.refl _ _ | (with_reducible refine Below.drewN' ?_ _) | (with_reducible refine Below.drew ?_) | (with_reducible refine Below.setCell ?_ (by first | exact Nat.le_refl _ | omega | (with_reducible (repeat (first | refine sz_alloc ?_ | refine sz_setCell ?_ | refine sz_drew ?_ | refine sz_drewN ?_)); first | exact Nat.le_refl _ | omega) | (simp only [World.size_alloc, World.size_setCell, World.size_drew, size_drewN']; omega)) _) | (with_reducible refine Below.alloc ?_ (by first | exact Nat.le_refl _ | omega | (with_reducible (repeat (first | refine sz_alloc ?_ | refine sz_setCell ?_ | refine sz_drew ?_ | refine sz_drewN ?_)); first | exact Nat.le_refl _ | omega) | (simp only [World.size_alloc, World.size_setCell, World.size_drew, size_drewN']; omega)) _) | assumption))⟩
end Go.Proofs.YtknaajofcbenaaaGreat
