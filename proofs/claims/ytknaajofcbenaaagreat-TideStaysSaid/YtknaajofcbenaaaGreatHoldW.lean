import Derived.Test.YtknaajofcbenaaaGreatBase
import Derived.Test.YtknaajofcbenaaaGreatHeight
import Derived.Test.YtknaajofcbenaaaGreatOn
import Derived.Test.YtknaajofcbenaaaGreatStep
import Derived.Test.YtknaajofcbenaaaGreatLower
import Derived.Test.YtknaajofcbenaaaGreatGates
import Derived.Test.YtknaajofcbenaaaGreatSpans
import Derived.Test.YtknaajofcbenaaaGreatLead
import Derived.Test.YtknaajofcbenaaaGreatCounted
import Derived.WalkKit
import Derived.WalkSpells
import Derived.WalkLawsBesides
import Derived.Deep.QuietTactic
import Derived.BigQuiet
import Derived.Lib.Hide
import Derived.Shelf.Abstract
import Derived.BigGuardPart
import Derived.RangeFuncNested
import Derived.RangeFuncBound
import Derived.RangeFuncCalls
import Derived.RangeFuncLeaves
import Derived.Shelf.RegionOpen
import Derived.OwnWalkIn
import Derived.TacticsInMore
import Derived.LoopNIn
import Derived.LoopIn
import Derived.StillTailTactics
import Derived.Deep.RegionHeld3
import Derived.StillTail
import Derived.RangeFuncWrites
import Derived.Laws.StructEq
import Derived.Deep.LoopGhost
import Derived.IntWalk
import Derived.RangeFuncBox
import Derived.ArgAppend
import Derived.Laws.CopyOwn
import Derived.OwnWalk
import Derived.Lib.SliceRun
import Derived.Maps.OwnOps
import Derived.Maps.OwnSet
namespace Go.Proofs.YtknaajofcbenaaaGreat
open Go.RowKit Go.Shelf Go.Maps

def mayHold (ss ps : List Int) (i t : Nat) : Bool := decide ((i : Int) ∉ ss) && decide ((t : Int) ∉ ps)
theorem ownsMap_up {w w' : World} {b n : Nat} {D : DataW Unit} (h : w.ownsMap Tryz.prog 3 (plainElem Tryz.prog 3) b n D) (hu : Up w w') : w'.ownsMap Tryz.prog 3 (plainElem Tryz.prog 3) b n D :=
  h.kept (row := none) ⟨hu.os, hu.tape, hu.output, hu.size, fun k hk _ => hu.block k hk⟩ (by simp)

set_option maxRecDepth 100000 in
set_option maxHeartbeats 1000000 in
theorem wants_hold (ss ps : List Int) (b1 b2 m1 m2 n1 n2 : Nat) (D1 D2 : DataW Unit) (hc1 : CntIs D1 ss) (hc2 : CntIs D2 ps) (nS nF : Nat) (hS : nS ≤ 1000) (hF : nF ≤ 1000) (w : World) (h1 : w.cell? ⟨b1, 0, none⟩ = some (.map (some m1))) (h2 : w.cell? ⟨b2, 0, none⟩ = some (.map (some m2)))
    (o1 : w.ownsMap Tryz.prog 3 (plainElem Tryz.prog 3) m1 n1 D1) (o2 : w.ownsMap Tryz.prog 3 (plainElem Tryz.prog 3) m2 n2 D2) : Wants2 108 #[] #[.pointer (some ⟨b1, 0, none⟩), .pointer (some ⟨b2, 0, none⟩)] (mayHold ss ps) nS nF w := by
  intro i t W hi ht hu
  have o1' := ownsMap_up o1 hu
  have o2' := ownsMap_up o2 hu
  have c1 := hu.cellAt h1
  have c2 := hu.cellAt h2
  have k1 : keyOf Tryz.prog 3 (.int .i64 (i : Int)) = some (.int .i64 (i : Int)) := keyOf_int_mk Tryz.underlying3 (wf_small (by omega) (by omega))
  have k2 : keyOf Tryz.prog 3 (.int .i64 (t : Int)) = some (.int .i64 (t : Int)) := keyOf_int_mk Tryz.underlying3 (wf_small (by omega) (by omega))
  obtain ⟨cn, hcn⟩ : ∃ cn : Int, ((ss.count (i : Int) : Nat) : Int) = cn := ⟨_, rfl⟩
  obtain ⟨cm, hcm⟩ : ∃ cm : Int, ((ps.count (t : Int) : Nat) : Int) = cm := ⟨_, rfl⟩
  have A1 := Lib.hid (show D1.atKey (.int .i64 (i : Int)) (.lit (.int .i64 0)) = .lit (.int .i64 cn) by rw [hc1.count, hcn])
  have A2 := Lib.hid (show D2.atKey (.int .i64 (t : Int)) (.lit (.int .i64 0)) = .lit (.int .i64 cm) by rw [hc2.count, hcm])
  have HM := Lib.hid (show mayHold ss ps i t = (decide (cn = 0) && decide (cm = 0)) by
    have e1 : ((i : Int) ∉ ss) ↔ cn = 0 := by rw [← List.count_eq_zero]; omega
    have e2 : ((t : Int) ∉ ps) ↔ cm = 0 := by rw [← List.count_eq_zero]; omega
    unfold mayHold
    simp only [e1, e2])
  obtain ⟨x1, hr1, hat1, -⟩ := o1'.lookup_int law3 Tryz.underlying119 Tryz.underlying3 (zero3 _) k1
  obtain ⟨x2, hr2, hat2, -⟩ := o2'.lookup_int law3 Tryz.underlying119 Tryz.underlying3 (zero3 _) k2
  obtain rfl : cn = x1 := by rw [A1.out] at hat1; simpa using hat1
  obtain rfl : cm = x2 := by rw [A2.out] at hat2; simpa using hat2
  clear h1 h2 o1 o2 hcn hcm hat1 hat2 A1 A2 o1' o2' k1 k2
  change Calls Tryz.prog 108 #[.int .i64 i, .int .i64 t, .pointer (some ⟨b1, 0, none⟩), .pointer (some ⟨b2, 0, none⟩)] W _
  go_enter Tryz.func108, Tryz.ntmps108
  go_wp2
  all_goals go_ret
  all_goals exact ⟨ret_bool (by rw [HM.out]; (try simp [*]); (try rfl)), Below.refl _ _⟩
end Go.Proofs.YtknaajofcbenaaaGreat
