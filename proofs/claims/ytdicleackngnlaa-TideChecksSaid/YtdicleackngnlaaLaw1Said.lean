/- Proved: whatever sands and whatever minute are passed in, the law TideChecks returns true, and both arguments read behind the call as they read before it. Conditions: none but those that the given row states of itself. -/
import Derived.Test.YtdicleackngnlaaBase
import Derived.Test.YtdicleackngnlaaHeight
import Derived.Test.YtdicleackngnlaaChk2
import Derived.Test.YtdicleackngnlaaCheck
import Derived.Test.YtdicleackngnlaaOn
import Derived.Test.YtdicleackngnlaaLower
import Derived.Test.YtdicleackngnlaaGates
import Derived.Test.YtdicleackngnlaaBegin
import Derived.Test.YtdicleackngnlaaSpans
import Derived.Test.YtdicleackngnlaaFits
import Derived.Test.YtdicleackngnlaaQue
import Derived.Test.YtdicleackngnlaaLead
import Derived.Test.YtdicleackngnlaaWaysF
import Derived.Test.YtdicleackngnlaaAwake
import Derived.Test.YtdicleackngnlaaOwn
import Derived.Test.YtdicleackngnlaaSame
import Derived.Test.YtdicleackngnlaaFar
import Derived.Test.YtdicleackngnlaaPair
import Derived.Test.YtdicleackngnlaaLaw1
import Derived.Test.YtdicleackngnlaaPost
import Derived.Test.YtdicleackngnlaaOpen
import Derived.WalkKit
import Derived.WalkSpells
import Derived.WalkLawsBesides
import Derived.Deep.QuietTactic
import Derived.BigQuiet
import Derived.Lib.Hide
import Derived.Shelf.Abstract
import Derived.BigGuardPart
import Derived.RangeFuncNested
import Derived.RangeFuncBound
import Derived.RangeFuncCalls
import Derived.RangeFuncLeaves
import Derived.Shelf.RegionOpen
import Derived.OwnWalkIn
import Derived.TacticsInMore
import Derived.LoopNIn
import Derived.LoopIn
import Derived.StillTailTactics
import Derived.Deep.RegionHeld3
import Derived.StillTail
import Derived.RangeFuncWrites
import Derived.Laws.StructEq
import Derived.Deep.LoopGhost
import Derived.IntWalk
import Derived.RangeFuncBox
import Derived.ArgAppend
import Derived.Laws.CopyOwn
import Derived.OwnWalk
import Derived.Lib.SliceRun
import Derived.Maps.OwnOps
import Derived.Maps.OwnSet
import Derived.Deep.AppendSrc
import Derived.Deep.Upon
import Derived.Deep.Cut
import Derived.Deep.DeepCutAuto
import Derived.Carry
import Derived.ChangeSame
import Derived.SizedLaws
import Derived.ProofKit
import Derived.OpenShut
import Derived.JoinedOf
import Derived.Deep.Slices
namespace Go.Proofs.Ytdicleackngnlaa
open Go.ChangeShapes Go.WideShapes Go.ChangeAt Go.RowKit

section
variable {pT pF pS : Option Addr} {cT cF cS : Nat}
set_option maxRecDepth 100000 in
set_option maxHeartbeats 1000000 in
theorem checksWide_c (s : Sd) (m : Int) (w : World) (hl : Lists w s pT pF pS cT cF cS) (b1 : s.table.length * 16 ≤ 140737488355328) (b2 : s.floors.length * 8 ≤ 140737488355328) (b3 : s.sills.length * 24 ≤ 140737488355328) (hw : wideB s = true) :
    Calls Try.prog 3 #[sdVal s pT pF pS cT cF cS, .int .i64 m] w fun e w' => e = .returned (.bool true) ∧ Up w w' := by
  have HO := Lib.hid (fun W (u : Up w W) => own_c s W (hl.up u) b1 b2 b3)
  have HW := Lib.hid hw
  clear hl b1 b2 b3 hw
  unfold sdVal
  go_enter Try.func3, Try.ntmps3
  go_wp2_with fail
  refine (wide_c s _).mono ?_
  rw [HW.out]
  rintro e w1 ⟨rfl, u1⟩
  have hB : At5 w1 w.heap.size s pT pF pS cT cF cS := At5.of ((Blk.new w (sdCells s pT pF pS cT cF cS) 28).up u1)
  have U1 : Hid (Up w w1) := Up.trans (by (repeat (first | exact Below.refl _ _ | (with_reducible refine Below.drewN' ?_ _) | (with_reducible refine Below.drew ?_) | (with_reducible refine Below.setCell ?_ (by first | exact Nat.le_refl _ | omega | (with_reducible (repeat (first | refine sz_alloc ?_ | refine sz_setCell ?_ | refine sz_drew ?_ | refine sz_drewN ?_)); first | exact Nat.le_refl _ | omega) | (simp only [World.size_alloc, World.size_setCell, World.size_drew, size_drewN']; omega)) _) | (with_reducible refine Below.alloc ?_ (by first | exact Nat.le_refl _ | omega | (with_reducible (repeat (first | refine sz_alloc ?_ | refine sz_setCell ?_ | refine sz_drew ?_ | refine sz_drewN ?_)); first | exact Nat.le_refl _ | omega) | (simp only [World.size_alloc, World.size_setCell, World.size_drew, size_drewN']; omega)) _) | assumption))) u1
  obtain ⟨c0, c1, c2, c3, c4⟩ := hB
  clear u1
  go_wp2_with fail
  refine (HO.out _ U1.out).mono ?_
  rintro e w2 ⟨qT, qF, qS, dT, dF, dS, rfl, l2, u2, -⟩
  have L2 := Lib.hid l2
  have U2 := Lib.hid (Up.trans U1.out u2)
  clear c0 c1 c2 c3 c4 l2 u2 U1 HO
  unfold sdVal
  go_wp2_with fail
  refine (check_c s w2 _ _ _ _ _ _ L2.out).mono ?_
  rw [wide_chk HW.out]
  rintro e w3 ⟨rfl, u3⟩
  have U3 := Lib.hid (Up.trans U2.out u3)
  clear u3 U2 L2
  go_wp2_with fail
  refine (awake_c w3).mono ?_
  rintro e w4 ⟨rfl, u4⟩
  have U4 := Lib.hid (Up.trans U3.out u4)
  clear u4 U3
  go_wp2_with fail
  go_ret
  exact ⟨rfl, U4.out⟩

theorem tideChecks_c (s : Sd) (m : Int) (w : World) (hl : Lists w s pT pF pS cT cF cS) (b1 : s.table.length * 16 ≤ 140737488355328) (b2 : s.floors.length * 8 ≤ 140737488355328) (b3 : s.sills.length * 24 ≤ 140737488355328) :
    Calls Try.prog 3 #[sdVal s pT pF pS cT cF cS, .int .i64 m] w fun e w' => e = .returned (.bool true) ∧ Up w w' := by
  cases hw : wideB s
  · exact checks_c s m w hl b1 b2 b3 hw
  · exact checksWide_c s m w hl b1 b2 b3 hw
end

set_option maxRecDepth 100000 in
theorem checks_contract (H : Type) (enc : TypeId × Value → H) (W : World) (base : Nat) (args : Array Value) (ds gs : List (DataW H)) (before : List MemPlace)
    (hval : ∀ (j : Nat) t v, Try.f3.params[j]? = some t → args[j]? = some v → Value.okWide Try.prog W .any base t v)
    (hW : DataW.Whole enc Try.prog Try.f3.params.toList Rows.tideChecksSpec.vars false W args.toList ds gs before)
    (hsz0 : (DataW.weightsEach Try.prog (Try.f3.params.toList ++ Rows.tideChecksSpec.plain.varTypes Try.prog) (ds ++ gs)).all (· ≤ reachBytes) = true) :
    Calls Try.prog 3 args W fun e W' => ∃ v, e = .returned v ∧ Rows.tideChecksSpec.post enc Try.prog Try.f3 false true false false W args v W' := by
  have hW' := hW
  obtain ⟨p, q, hA0, hV, rfl, -, -⟩ := hW
  have hA : DataW.TrodAll enc Try.prog W 0 (fun _ => true) true Try.f3.params.toList args.toList ds p := hA0
  rw [Try.params3] at hA hval
  obtain ⟨v0, vs0, d0, ds0, p0, q0, hargs, rfl, rfl, h0, r0⟩ := trodAll_cons hA
  obtain ⟨v1, vs1, d1, ds1, p1, q1, rfl, rfl, rfl, h1, r1⟩ := trodAll_cons r0
  obtain ⟨rfl, rfl, rfl⟩ := trodAll_nil r1
  obtain rfl : args = #[v0, v1] := by cases args; simp_all
  obtain ⟨rfl, rfl⟩ := trodVars_none hV
  have hz : ∀ n ∈ DataW.weights Try.prog 28 d0, n ≤ reachBytes := fun n hn => by
    have := List.all_eq_true.1 hsz0 n (DataW.weights_mem_each (j := 0) (t := 28) rfl rfl n hn)
    simpa using this
  obtain ⟨s, pT, pF, pS, cT, cF, cS, rfl, hl, b1, b2, b3⟩ := open_sands (hval 0 _ v0 rfl rfl) h0 hz
  obtain ⟨m, rfl, rfl, rfl, -⟩ := open_int Try.underlying3 (hval 1 _ v1 rfl rfl) h1
  refine (tideChecks_c s m W hl b1 b2 b3).mono fun e W' ⟨he, hb⟩ => ?_
  exact ⟨_, he, law_post hW' rfl laidOut (by kernel_rfl) rfl Try.underlying4 ⟨rfl, rfl, rfl⟩ hb⟩

set_option maxRecDepth 100000 in
theorem checks_lifted (os : Os) (started : os.Started) (H : Type) (enc : TypeId × Value → H) :
    ReturnsInHanded {} Try.checked os 3 .any (Rows.tideChecksSpec.pre6 enc Try.prog Try.f3 Rows.tideChecksRow.domain false) (Rows.tideChecksSpec.post enc Try.prog Try.f3 false true false false) := by
  refine returnsInHanded_of_change_sized (C := Try.checked) own started (by kernel_rfl) Try.func3
    (ChangeSpec.witness6 (enc := enc) (C := Try.checked) false ⟨#[], #[.agg #[.slice none 0 0, .int .i64 0, .int .i64 0, .slice none 0 0, .slice none 0 0], .int .i64 0], []⟩ 8 (by kernel_rfl) (by kernel_rfl) (by kernel_rfl) (by kernel_rfl)) ?_
  intro W base args ds gs before hval hW _ hsz _
  exact checks_contract H enc W base args ds gs before hval hW hsz

theorem checks_holds : Rows.TideChecksSaid :=
  OpenClaim.holds_of_wide 3 Try.f3 rfl rfl rfl rfl rfl rfl rfl ⟨rfl, rfl, rfl, rfl, rfl⟩ rfl rfl rfl rfl rfl (by kernel_rfl) Try.func3 (by kernel_rfl)
    (of_decide_eq_true (by kernel_rfl)) (by unfold Func.isWrapper; first | (rw [if_pos (by decide +kernel)]; kernel_rfl) | (rw [if_neg (by decide +kernel)]; exact ⟨rfl, rfl⟩))
    (fun os started H enc _ => checks_lifted os started H enc)
#print axioms checks_holds
end Go.Proofs.Ytdicleackngnlaa
