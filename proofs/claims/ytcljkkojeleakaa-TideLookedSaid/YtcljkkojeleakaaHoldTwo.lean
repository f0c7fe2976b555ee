import Derived.Test.YtcljkkojeleakaaBase
import Derived.Test.YtcljkkojeleakaaChk2
import Derived.Test.YtcljkkojeleakaaBegin
import Derived.Test.YtcljkkojeleakaaAll
import Derived.Test.YtcljkkojeleakaaQue
import Derived.Test.YtcljkkojeleakaaLead
import Derived.Test.YtcljkkojeleakaaWaysF
import Derived.Test.YtcljkkojeleakaaCounted
import Derived.Test.YtcljkkojeleakaaTwo
import Derived.Test.YtcljkkojeleakaaHold
import Derived.WalkKit
import Derived.WalkSpells
import Derived.WalkLawsBesides
import Derived.Deep.QuietTactic
import Derived.BigQuiet
import Derived.Lib.Hide
import Derived.Shelf.Abstract
import Derived.BigGuardPart
import Derived.RangeFuncNested
import Derived.RangeFuncBound
import Derived.RangeFuncCalls
import Derived.RangeFuncLeaves
import Derived.Shelf.RegionOpen
import Derived.OwnWalkIn
import Derived.TacticsInMore
import Derived.LoopNIn
import Derived.LoopIn
import Derived.StillTailTactics
import Derived.Deep.RegionHeld3
import Derived.StillTail
import Derived.RangeFuncWrites
import Derived.Laws.StructEq
import Derived.Deep.LoopGhost
import Derived.IntWalk
import Derived.RangeFuncBox
import Derived.ArgAppend
import Derived.Laws.CopyOwn
import Derived.OwnWalk
import Derived.Lib.SliceRun
import Derived.Maps.OwnOps
import Derived.Maps.OwnSet
namespace Go.Proofs.Ytcljkkojeleakaa
open Go.RowKit Go.Shelf
set_option maxRecDepth 100000 in
theorem v_hold : holdV two 1 [] [1] = 220 ∧ errHold two 1 [] [1] = 0 := by constructor <;> kernel_rfl
theorem hold_two (pT pF pS : Option Addr) (cT cF cS : Nat) (p : Option Addr) (c : Nat) (w : World) (hl : Lists w two pT pF pS cT cF cS) (h : Row w p 1 (ints [1])) :
    Calls Try.prog 37 #[sdVal two pT pF pS cT cF cS, .int .i64 1, .slice none 0 0, .slice p 1 c] w fun e w' => e = .returned (.tuple #[.int .i64 220, .int .i64 0]) ∧ Up w w' := by
  have k := Hold_c two 1 [] [1] none p 0 c w hl (Row.nil _ _ _) h (by decide) (by decide)
  rwa [v_hold.1, v_hold.2] at k
end Go.Proofs.Ytcljkkojeleakaa
