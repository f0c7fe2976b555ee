import Derived.Test.YtcljkkojeleakaaBase
import Derived.Test.YtcljkkojeleakaaBegin
import Derived.Test.YtcljkkojeleakaaBegin2
import Derived.Test.YtcljkkojeleakaaOut1
import Derived.Test.YtcljkkojeleakaaAll
import Derived.Test.YtcljkkojeleakaaTurn
import Derived.Test.YtcljkkojeleakaaLooks3
import Derived.Test.YtcljkkojeleakaaWay
import Derived.Test.YtcljkkojeleakaaTwo
import Derived.WalkKit
import Derived.WalkSpells
import Derived.WalkLawsBesides
import Derived.Deep.QuietTactic
import Derived.BigQuiet
import Derived.Lib.Hide
import Derived.Shelf.Abstract
import Derived.BigGuardPart
import Derived.RangeFuncNested
import Derived.RangeFuncBound
import Derived.RangeFuncCalls
import Derived.RangeFuncLeaves
import Derived.Shelf.RegionOpen
import Derived.OwnWalkIn
import Derived.TacticsInMore
import Derived.LoopNIn
import Derived.LoopIn
import Derived.StillTailTactics
import Derived.Deep.RegionHeld3
import Derived.StillTail
import Derived.RangeFuncWrites
import Derived.Laws.StructEq
import Derived.Deep.LoopGhost
import Derived.IntWalk
import Derived.RangeFuncBox
import Derived.ArgAppend
import Derived.Laws.CopyOwn
import Derived.OwnWalk
import Derived.Lib.SliceRun
import Derived.Maps.OwnOps
import Derived.Maps.OwnSet
namespace Go.Proofs.Ytcljkkojeleakaa
open Go.RowKit Go.Shelf
set_option maxRecDepth 100000
theorem v_h1 : heightV two 91 = 175 ∧ errAt two 91 = 0 := by constructor <;> kernel_rfl
theorem v_h2 : heightV two 400 = 370 ∧ errAt two 400 = 0 := by constructor <;> kernel_rfl
theorem v_g : gateV two 1 = 220 ∧ errGate two 1 = 0 := by constructor <;> kernel_rfl
theorem v_t : turnV two 0 0 = 97 ∧ errTurn two 0 0 = 0 := by constructor <;> kernel_rfl
theorem v_w : wayV two 1 = [0, 1] := by kernel_rfl
theorem v_a : allV two 150 = [2, 1] ∧ errAt two 150 = 0 := by constructor <;> kernel_rfl
theorem v_l : looksV two [(120, 0, true)] = (1, 20) ∧ looksE two [(120, 0, true)] = 0 := by constructor <;> kernel_rfl
end Go.Proofs.Ytcljkkojeleakaa
