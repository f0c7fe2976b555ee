import Derived.Test.YtknaajofcbenaaaGreatBase
import Derived.Test.YtknaajofcbenaaaGreatHeight
import Derived.Test.YtknaajofcbenaaaGreatChk2
import Derived.Test.YtknaajofcbenaaaGreatOn
import Derived.Test.YtknaajofcbenaaaGreatLower
import Derived.Test.YtknaajofcbenaaaGreatGates
import Derived.Test.YtknaajofcbenaaaGreatBegin
import Derived.Test.YtknaajofcbenaaaGreatBegin2
import Derived.Test.YtknaajofcbenaaaGreatState
import Derived.WalkKit
import Derived.WalkSpells
import Derived.WalkLawsBesides
import Derived.Deep.QuietTactic
import Derived.BigQuiet
import Derived.Lib.Hide
import Derived.Shelf.Abstract
import Derived.BigGuardPart
import Derived.RangeFuncNested
import Derived.RangeFuncBound
import Derived.RangeFuncCalls
import Derived.RangeFuncLeaves
import Derived.Shelf.RegionOpen
import Derived.OwnWalkIn
import Derived.TacticsInMore
import Derived.LoopNIn
import Derived.LoopIn
import Derived.StillTailTactics
import Derived.Deep.RegionHeld3
import Derived.StillTail
import Derived.RangeFuncWrites
import Derived.Laws.StructEq
import Derived.Deep.LoopGhost
import Derived.IntWalk
namespace Go.Proofs.YtknaajofcbenaaaGreat
open Go.RowKit Go.Shelf

def gateOf (s : Sd) (p : Nat) : Int := (gts s)[p]?.getD 0
/-- the state of a place at a minute -/
def st (s : Sd) (m : Int) (p : Nat) : Int := if gateOf s p < hgt s.table m + s.lo then 2 else if gateOf s p < hgt s.table m + s.hi then 1 else 0

section
variable {pT pF pS : Option Addr} {cT cF cS : Nat}

set_option maxRecDepth 100000 in
set_option maxHeartbeats 1000000 in
theorem state_c (bw : Nat) (s : Sd) (m : Int) (p : Nat) (w : World) (hw : IsWork w bw s pT pF pS cT cF cS) (ok : Ok s) (hm : firstM s.table ≤ m) (hp : p < 8) :
    Calls Tryz.prog 66 #[.pointer (some ⟨bw, 0, none⟩), .int .i64 m, .int .i64 p] w fun e w' => e = .returned (.int .i64 (st s m p)) ∧ Up w w' := by
  have HL := Lib.hid (fun W (u : Up w W) => level_c bw s m W (hw.sands.up u) ok hm)
  have c0 := hw.gates p hp
  change _ = some (Value.int .i64 (gateOf s p)) at c0
  have k1 : (p : Int) < 8 := by omega
  clear hw
  unfold st
  obtain ⟨g, hg⟩ : ∃ g, gateOf s p = g := ⟨_, rfl⟩
  obtain ⟨lo, hlo⟩ : ∃ lo, hgt s.table m + s.lo = lo := ⟨_, rfl⟩
  obtain ⟨hi, hhi⟩ : ∃ hi, hgt s.table m + s.hi = hi := ⟨_, rfl⟩
  rw [hg] at c0 ⊢
  rw [hlo, hhi] at HL ⊢
  have lb := cell_lt c0
  clear hg hlo hhi
  have HA : Calls Tryz.prog 115 #[.pointer (some ⟨bw, 0, none⟩), .int .i64 m] ((w.alloc (.cells #[.int .i64 0, .int .i64 0] 24)).drew) (fun e w1 => e = .returned (.agg #[.int .i64 lo, .int .i64 hi]) ∧ Up w w1 ∧ w1.cell? ⟨w.heap.size, 0, none⟩ = some (.int .i64 0) ∧ w1.cell? ⟨w.heap.size, 1, none⟩ = some (.int .i64 0) ∧ w1.frozen? ⟨w.heap.size, 0, none⟩ = false ∧ w1.frozen? ⟨w.heap.size, 1, none⟩ = false ∧ w.heap.size < w1.heap.size) := by
    have u0 : Up w ((w.alloc (.cells #[.int .i64 0, .int .i64 0] 24)).drew) := by (repeat (first | exact Below.refl _ _ | (with_reducible refine Below.drewN' ?_ _) | (with_reducible refine Below.drew ?_) | (with_reducible refine Below.setCell ?_ (by first | exact Nat.le_refl _ | omega | (with_reducible (repeat (first | refine sz_alloc ?_ | refine sz_setCell ?_ | refine sz_drew ?_ | refine sz_drewN ?_)); first | exact Nat.le_refl _ | omega) | (simp only [World.size_alloc, World.size_setCell, World.size_drew, size_drewN']; omega)) _) | (with_reducible refine Below.alloc ?_ (by first | exact Nat.le_refl _ | omega | (with_reducible (repeat (first | refine sz_alloc ?_ | refine sz_setCell ?_ | refine sz_drew ?_ | refine sz_drewN ?_)); first | exact Nat.le_refl _ | omega) | (simp only [World.size_alloc, World.size_setCell, World.size_drew, size_drewN']; omega)) _) | assumption))
    refine (HL.out _ u0).mono fun e w1 ⟨h, u1⟩ => ?_
    have hB : Blk w1 w.heap.size [.int .i64 0, .int .i64 0] 24 := ((Blk.new w _ _).drew).up u1
    exact ⟨h, Up.trans u0 u1, hB.cell 0, hB.cell 1, hB.free 0, hB.free 1, hB.lt⟩
  replace HA := Lib.hid HA
  go_enter Tryz.func66, Tryz.ntmps66
  go_wp2
  go_region_held3 (fun w' => w'.cell? ⟨bw, 5 + p, none⟩ = some (.int .i64 g) ∧ Up w w') (refine ⟨Up.cellAt (w := w) ?_ c0, ?_⟩ <;> (repeat (first | exact Below.refl _ _ | (with_reducible refine Below.drewN' ?_ _) | (with_reducible refine Below.drew ?_) | (with_reducible refine Below.setCell ?_ (by first | exact Nat.le_refl _ | omega | (with_reducible (repeat (first | refine sz_alloc ?_ | refine sz_setCell ?_ | refine sz_drew ?_ | refine sz_drewN ?_)); first | exact Nat.le_refl _ | omega) | (simp only [World.size_alloc, World.size_setCell, World.size_drew, size_drewN']; omega)) _) | (with_reducible refine Below.alloc ?_ (by first | exact Nat.le_refl _ | omega | (with_reducible (repeat (first | refine sz_alloc ?_ | refine sz_setCell ?_ | refine sz_drew ?_ | refine sz_drewN ?_)); first | exact Nat.le_refl _ | omega) | (simp only [World.size_alloc, World.size_setCell, World.size_drew, size_drewN']; omega)) _) | assumption)))
    (first
      | (go_at_call 115; with_reducible refine HA.out.mono ?_; rintro e w1 ⟨rfl, u1', z0, z1, y0, y1, lz⟩)
      | (go_at_call 115; with_reducible refine (HL.out w.drew (Below.refl _ _).drew).mono ?_; rintro e w1 ⟨rfl, u1⟩; have u1' : Up w w1 := Up.trans ((Below.refl _ _).drew) u1; have sz := u1'.size))
  all_goals go_wp2
  all_goals go_ret
  all_goals refine ⟨ret_int ?_, ?_⟩
  all_goals first | rfl | (repeat (first | exact Below.refl _ _ | (with_reducible refine Below.drewN' ?_ _) | (with_reducible refine Below.drew ?_) | (with_reducible refine Below.setCell ?_ (by first | exact Nat.le_refl _ | omega | (with_reducible (repeat (first | refine sz_alloc ?_ | refine sz_setCell ?_ | refine sz_drew ?_ | refine sz_drewN ?_)); first | exact Nat.le_refl _ | omega) | (simp only [World.size_alloc, World.size_setCell, World.size_drew, size_drewN']; omega)) _) | (with_reducible refine Below.alloc ?_ (by first | exact Nat.le_refl _ | omega | (with_reducible (repeat (first | refine sz_alloc ?_ | refine sz_setCell ?_ | refine sz_drew ?_ | refine sz_drewN ?_)); first | exact Nat.le_refl _ | omega) | (simp only [World.size_alloc, World.size_setCell, World.size_drew, size_drewN']; omega)) _) | assumption))
end
end Go.Proofs.YtknaajofcbenaaaGreat
