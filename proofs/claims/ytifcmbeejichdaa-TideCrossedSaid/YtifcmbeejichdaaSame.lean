import Derived.Test.YtifcmbeejichdaaBase
import Derived.Test.YtifcmbeejichdaaHeight
import Derived.Test.YtifcmbeejichdaaChk2
import Derived.Test.YtifcmbeejichdaaCheck
import Derived.Test.YtifcmbeejichdaaOn
import Derived.Test.YtifcmbeejichdaaLower
import Derived.Test.YtifcmbeejichdaaGates
import Derived.Test.YtifcmbeejichdaaBegin
import Derived.Test.YtifcmbeejichdaaSpans
import Derived.Test.YtifcmbeejichdaaFits
import Derived.Test.YtifcmbeejichdaaQue
import Derived.Test.YtifcmbeejichdaaLead
import Derived.Test.YtifcmbeejichdaaEqInt
import Derived.Test.YtifcmbeejichdaaEqW
import Derived.WalkKit
import Derived.WalkSpells
import Derived.WalkLawsBesides
import Derived.Deep.QuietTactic
import Derived.BigQuiet
import Derived.Lib.Hide
import Derived.Shelf.Abstract
import Derived.BigGuardPart
import Derived.RangeFuncNested
import Derived.RangeFuncBound
import Derived.RangeFuncCalls
import Derived.RangeFuncLeaves
import Derived.Shelf.RegionOpen
import Derived.OwnWalkIn
import Derived.TacticsInMore
import Derived.LoopNIn
import Derived.LoopIn
import Derived.StillTailTactics
import Derived.Deep.RegionHeld3
import Derived.StillTail
import Derived.RangeFuncWrites
import Derived.Laws.StructEq
import Derived.Deep.LoopGhost
import Derived.IntWalk
import Derived.RangeFuncBox
import Derived.ArgAppend
import Derived.Laws.CopyOwn
import Derived.OwnWalk
import Derived.Lib.SliceRun
import Derived.Maps.OwnOps
import Derived.Maps.OwnSet
import Derived.Deep.AppendSrc
import Derived.Deep.Upon
namespace Go.Proofs.Ytifcmbeejichdaa
open Go.RowKit Go.Shelf

def wideB (s : Sd) : Bool := decide (20 < s.table.length) || (decide (20 < s.floors.length) || decide (30 < s.sills.length))
section
variable {pT pF pS : Option Addr} {cT cF cS : Nat}
set_option maxRecDepth 100000 in
set_option maxHeartbeats 1000000 in
theorem wide_c (s : Sd) (w : World) : Calls Try.prog 17 #[sdVal s pT pF pS cT cF cS] w fun e w' => e = .returned (.bool (wideB s)) ∧ Up w w' := by
  have HB := Lib.hid (show wideB s = (decide (20 < s.table.length) || (decide (20 < s.floors.length) || decide (30 < s.sills.length))) by rfl)
  unfold sdVal
  go_enter Try.func17, Try.ntmps17
  by_cases h1 : 20 < s.table.length
  · have k1 : (20 : Int) < s.table.length := by omega
    go_wp2
    go_ret
    exact ⟨ret_bool (by rw [HB.out]; simp [h1]), by (repeat (first | exact Below.refl _ _ | (with_reducible refine Below.drewN' ?_ _) | (with_reducible refine Below.drew ?_) | (with_reducible refine Below.setCell ?_ (by first | exact Nat.le_refl _ | omega | (with_reducible (repeat (first | refine sz_alloc ?_ | refine sz_setCell ?_ | refine sz_drew ?_ | refine sz_drewN ?_)); first | exact Nat.le_refl _ | omega) | (simp only [World.size_alloc, World.size_setCell, World.size_drew, size_drewN']; omega)) _) | (with_reducible refine Below.alloc ?_ (by first | exact Nat.le_refl _ | omega | (with_reducible (repeat (first | refine sz_alloc ?_ | refine sz_setCell ?_ | refine sz_drew ?_ | refine sz_drewN ?_)); first | exact Nat.le_refl _ | omega) | (simp only [World.size_alloc, World.size_setCell, World.size_drew, size_drewN']; omega)) _) | assumption))⟩
  · have k1 : ¬ (20 : Int) < s.table.length := by omega
    by_cases h2 : 20 < s.floors.length
    · have k2 : (20 : Int) < s.floors.length := by omega
      go_wp2
      go_ret
      exact ⟨ret_bool (by rw [HB.out]; simp [h2]), by (repeat (first | exact Below.refl _ _ | (with_reducible refine Below.drewN' ?_ _) | (with_reducible refine Below.drew ?_) | (with_reducible refine Below.setCell ?_ (by first | exact Nat.le_refl _ | omega | (with_reducible (repeat (first | refine sz_alloc ?_ | refine sz_setCell ?_ | refine sz_drew ?_ | refine sz_drewN ?_)); first | exact Nat.le_refl _ | omega) | (simp only [World.size_alloc, World.size_setCell, World.size_drew, size_drewN']; omega)) _) | (with_reducible refine Below.alloc ?_ (by first | exact Nat.le_refl _ | omega | (with_reducible (repeat (first | refine sz_alloc ?_ | refine sz_setCell ?_ | refine sz_drew ?_ | refine sz_drewN ?_)); first | exact Nat.le_refl _ | omega) | (simp only [World.size_alloc, World.size_setCell, World.size_drew, size_drewN']; omega)) _) | assumption))⟩
    · have k2 : ¬ (20 : Int) < s.floors.length := by omega
      by_cases h3 : 30 < s.sills.length
      · have k3 : (30 : Int) < s.sills.length := by omega
        go_wp2
        go_ret
        exact ⟨ret_bool (by rw [HB.out]; simp [h3]), by (repeat (first | exact Below.refl _ _ | (with_reducible refine Below.drewN' ?_ _) | (with_reducible refine Below.drew ?_) | (with_reducible refine Below.setCell ?_ (by first | exact Nat.le_refl _ | omega | (with_reducible (repeat (first | refine sz_alloc ?_ | refine sz_setCell ?_ | refine sz_drew ?_ | refine sz_drewN ?_)); first | exact Nat.le_refl _ | omega) | (simp only [World.size_alloc, World.size_setCell, World.size_drew, size_drewN']; omega)) _) | (with_reducible refine Below.alloc ?_ (by first | exact Nat.le_refl _ | omega | (with_reducible (repeat (first | refine sz_alloc ?_ | refine sz_setCell ?_ | refine sz_drew ?_ | refine sz_drewN ?_)); first | exact Nat.le_refl _ | omega) | (simp only [World.size_alloc, World.size_setCell, World.size_drew, size_drewN']; omega)) _) | assumption))⟩
      · have k3 : ¬ (30 : Int) < s.sills.length := by omega
        go_wp2
        go_ret
        exact ⟨ret_bool (by rw [HB.out]; simp [h1, h2, h3]), by (repeat (first | exact Below.refl _ _ | (with_reducible refine Below.drewN' ?_ _) | (with_reducible refine Below.drew ?_) | (with_reducible refine Below.setCell ?_ (by first | exact Nat.le_refl _ | omega | (with_reducible (repeat (first | refine sz_alloc ?_ | refine sz_setCell ?_ | refine sz_drew ?_ | refine sz_drewN ?_)); first | exact Nat.le_refl _ | omega) | (simp only [World.size_alloc, World.size_setCell, World.size_drew, size_drewN']; omega)) _) | (with_reducible refine Below.alloc ?_ (by first | exact Nat.le_refl _ | omega | (with_reducible (repeat (first | refine sz_alloc ?_ | refine sz_setCell ?_ | refine sz_drew ?_ | refine sz_drewN ?_)); first | exact Nat.le_refl _ | omega) | (simp only [World.size_alloc, World.size_setCell, World.size_drew, size_drewN']; omega)) _) | assumption))⟩

variable {qT qF qS : Option Addr} {dT dF dS : Nat}
set_option maxRecDepth 100000 in
set_option maxHeartbeats 2000000 in
theorem same_c (s : Sd) (w : World) (h1 : Lists w s pT pF pS cT cF cS) (h2 : Lists w s qT qF qS dT dF dS) :
    Calls Try.prog 27 #[sdVal s pT pF pS cT cF cS, sdVal s qT qF qS dT dF dS] w fun e w' => e = .returned (.bool true) ∧ Up w w' := by
  have H1 := Lib.hid h1
  have H2 := Lib.hid h2
  have m1 := Nat.le_trans h1.ct h1.mt
  have m2 := Nat.le_trans h1.cf h1.mf
  have m3 := Nat.le_trans h1.cs h1.ms
  clear h1 h2
  unfold sdVal
  go_enter Try.func27, Try.ntmps27
  go_wp2_with fail
  refine Calls.world ?_
  intro w0 hw0
  have u0 : Up w w0 := by rw [hw0]; (repeat (first | exact Below.refl _ _ | (with_reducible refine Below.drewN' ?_ _) | (with_reducible refine Below.drew ?_) | (with_reducible refine Below.setCell ?_ (by first | exact Nat.le_refl _ | omega | (with_reducible (repeat (first | refine sz_alloc ?_ | refine sz_setCell ?_ | refine sz_drew ?_ | refine sz_drewN ?_)); first | exact Nat.le_refl _ | omega) | (simp only [World.size_alloc, World.size_setCell, World.size_drew, size_drewN']; omega)) _) | (with_reducible refine Below.alloc ?_ (by first | exact Nat.le_refl _ | omega | (with_reducible (repeat (first | refine sz_alloc ?_ | refine sz_setCell ?_ | refine sz_drew ?_ | refine sz_drewN ?_)); first | exact Nat.le_refl _ | omega) | (simp only [World.size_alloc, World.size_setCell, World.size_drew, size_drewN']; omega)) _) | assumption))
  have hA : Blk w0 w.heap.size (sdCells s pT pF pS cT cF cS) 28 := by rw [hw0]; exact (Blk.new w _ _).alloc _
  have hB : Blk w0 (w.heap.size + 1) (sdCells s qT qF qS dT dF dS) 28 := by rw [hw0]; exact Blk.new' _ (sdCells s qT qF qS dT dF dS) _ (by simp)
  clear hw0
  refine (eqWater_c s.table s.table _ _ _ _ w0 (H1.out.rt.up u0) (H2.out.rt.up u0) m1 m1).mono ?_
  rintro e w1 ⟨rfl, u1⟩
  rw [decide_eq_true (rfl : s.table = s.table)]
  have hA1 := hA.up u1
  have hB1 := hB.up u1
  have a1 := hA1.cell 1
  have a2 := hA1.cell 2
  have a3 := hA1.cell 3
  have b1 := hB1.cell 1
  have b2 := hB1.cell 2
  have b3 := hB1.cell 3
  simp only [sdCells, List.getElem?_cons_zero, List.getElem?_cons_succ] at a1 a2 a3 b1 b2 b3
  have U1 := Lib.hid (Up.trans u0 u1)
  have HA := Lib.hid hA1
  have HB := Lib.hid hB1
  clear hA hB hA1 hB1 u0 u1
  go_wp2_with fail
  refine (eqInt_c s.floors s.floors _ _ _ _ w1 (H1.out.rf.up U1.out) (H2.out.rf.up U1.out) m2 m2).mono ?_
  rintro e w2 ⟨rfl, u2⟩
  rw [decide_eq_true (rfl : s.floors = s.floors)]
  have a4 := (HA.out.up u2).cell 4
  have b4 := (HB.out.up u2).cell 4
  simp only [sdCells, List.getElem?_cons_zero, List.getElem?_cons_succ] at a4 b4
  have U2 := Lib.hid (Up.trans U1.out u2)
  clear u2 a1 a2 a3 b1 b2 b3
  go_wp2_with fail
  refine (eqSill_c s.sills s.sills _ _ _ _ w2 (H1.out.rs.up U2.out) (H2.out.rs.up U2.out) m3 m3).mono ?_
  rintro e w3 ⟨rfl, u3⟩
  rw [decide_eq_true (rfl : s.sills = s.sills)]
  have U3 := Lib.hid (Up.trans U2.out u3)
  clear u3 a4 b4
  go_wp2_with fail
  go_ret
  exact ⟨rfl, U3.out⟩
end
end Go.Proofs.Ytifcmbeejichdaa
