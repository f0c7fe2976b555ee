import Derived.Test.YtcljkkojeleakaaBase
import Derived.Test.YtcljkkojeleakaaChk2
import Derived.Test.YtcljkkojeleakaaCheck
import Derived.Test.YtcljkkojeleakaaOn
import Derived.Test.YtcljkkojeleakaaStep
import Derived.Test.YtcljkkojeleakaaLower
import Derived.Test.YtcljkkojeleakaaGates
import Derived.Test.YtcljkkojeleakaaBegin
import Derived.Test.YtcljkkojeleakaaOut1
import Derived.Test.YtcljkkojeleakaaAll
import Derived.Test.YtcljkkojeleakaaSpans
import Derived.Test.YtcljkkojeleakaaFits
import Derived.Test.YtcljkkojeleakaaTurn
import Derived.Test.YtcljkkojeleakaaLooks
import Derived.Test.YtcljkkojeleakaaLooks3
import Derived.Test.YtcljkkojeleakaaQue
import Derived.Test.YtcljkkojeleakaaLead
import Derived.Test.YtcljkkojeleakaaWaysF
import Derived.Test.YtcljkkojeleakaaWay
import Derived.Test.YtcljkkojeleakaaTwo
import Derived.Test.YtcljkkojeleakaaVals
import Derived.Test.YtcljkkojeleakaaEqInt
import Derived.Test.YtcljkkojeleakaaHoldTwo
import Derived.WalkKit
import Derived.WalkSpells
import Derived.WalkLawsBesides
import Derived.Deep.QuietTactic
import Derived.BigQuiet
import Derived.Lib.Hide
import Derived.Shelf.Abstract
import Derived.BigGuardPart
import Derived.RangeFuncNested
import Derived.RangeFuncBound
import Derived.RangeFuncCalls
import Derived.RangeFuncLeaves
import Derived.Shelf.RegionOpen
import Derived.OwnWalkIn
import Derived.TacticsInMore
import Derived.LoopNIn
import Derived.LoopIn
import Derived.StillTailTactics
import Derived.Deep.RegionHeld3
import Derived.StillTail
import Derived.RangeFuncWrites
import Derived.Laws.StructEq
import Derived.Deep.LoopGhost
import Derived.IntWalk
import Derived.RangeFuncBox
import Derived.ArgAppend
import Derived.Laws.CopyOwn
import Derived.OwnWalk
import Derived.Lib.SliceRun
import Derived.Maps.OwnOps
import Derived.Maps.OwnSet
namespace Go.Proofs.Ytcljkkojeleakaa
open Go.RowKit Go.Shelf

section
variable {pT pF pS : Option Addr} {cT cF cS : Nat}
theorem h91 (w : World) (hl : Lists w two pT pF pS cT cF cS) : Calls Try.prog 25 #[sdVal two pT pF pS cT cF cS, .int .i64 91] w fun e w' => e = .returned (.tuple #[.int .i64 175, .int .i64 0]) ∧ Up w w' := by
  have h := Height_c two 91 w hl
  rwa [v_h1.1, v_h1.2] at h
theorem h400 (w : World) (hl : Lists w two pT pF pS cT cF cS) : Calls Try.prog 25 #[sdVal two pT pF pS cT cF cS, .int .i64 400] w fun e w' => e = .returned (.tuple #[.int .i64 370, .int .i64 0]) ∧ Up w w' := by
  have h := Height_c two 400 w hl
  rwa [v_h2.1, v_h2.2] at h
theorem g1 (w : World) (hl : Lists w two pT pF pS cT cF cS) : Calls Try.prog 30 #[sdVal two pT pF pS cT cF cS, .int .i64 1] w fun e w' => e = .returned (.tuple #[.int .i64 220, .int .i64 0]) ∧ Up w w' := by
  have h := Gate_c two 1 w hl
  rwa [v_g.1, v_g.2] at h
theorem t00 (w : World) (hl : Lists w two pT pF pS cT cF cS) : Calls Try.prog 63 #[sdVal two pT pF pS cT cF cS, .int .i64 0, .int .i64 0] w fun e w' => e = .returned (.tuple #[.int .i64 97, .int .i64 0]) ∧ Up w w' := by
  have h := Turn_c two 0 0 w hl
  rwa [v_t.1, v_t.2] at h
theorem w1' (w : World) (hl : Lists w two pT pF pS cT cF cS) : Calls Try.prog 31 #[sdVal two pT pF pS cT cF cS, .int .i64 1] w fun e w' => ∃ p, e = .returned (.tuple #[.slice p 2 2, .int .i64 0]) ∧ Row w' p 1 (ints [0, 1]) ∧ Up w w' := by
  have h := Way_c two 1 w hl
  rw [v_w, v_g.2] at h
  exact h.mono fun e w' ⟨p, h1, h2, _, h3⟩ => ⟨p, h1, h2, h3⟩
theorem a150 (w : World) (hl : Lists w two pT pF pS cT cF cS) : Calls Try.prog 42 #[sdVal two pT pF pS cT cF cS, .int .i64 150] w fun e w' => ∃ p c, e = .returned (.tuple #[.slice p 2 c, .int .i64 0]) ∧ Row w' p 1 (ints [2, 1]) ∧ Up w w' := by
  have h := All_c two 150 w hl
  rw [v_a.1, v_a.2] at h
  exact h.mono fun e w' ⟨p, c, h1, _, _, h2, h3⟩ => ⟨p, c, h1, h2, h3⟩
theorem l1 (p : Option Addr) (c : Nat) (w : World) (hl : Lists w two pT pF pS cT cF cS) (hr : Row w p 3 (lrows [(120, 0, true)])) : Calls Try.prog 54 #[sdVal two pT pF pS cT cF cS, .slice p 1 c] w fun e w' => e = .returned (.tuple #[.agg #[.int .i64 1, .int .i64 20], .int .i64 0]) ∧ Up w w' := by
  have h := Looks_c two [(120, 0, true)] p c w hl hr (by decide)
  rwa [v_l.1, v_l.2] at h
end

set_option maxRecDepth 100000 in
set_option maxHeartbeats 4000000 in
theorem awake_c (w : World) : Calls Try.prog 20 #[] w fun e w' => e = .returned (.bool true) ∧ Up w w' := by
  go_enter Try.func20, Try.ntmps20
  go_wp2_with fail
  refine (two_c _).mono ?_
  rintro e w1 ⟨b1, rfl, k1, u1⟩
  go_wp2_with fail
  refine (h91 _ k1).mono ?_
  rintro e w2 ⟨rfl, u2⟩
  go_wp2_with fail
  refine (two_c _).mono ?_
  rintro e w3 ⟨b3, rfl, k3, u3⟩
  go_wp2_with fail
  refine (h400 _ k3).mono ?_
  rintro e w4 ⟨rfl, u4⟩
  have U4 := Lib.hid (Up.trans u1 (Up.trans u2 (Up.trans u3 u4)))
  clear u1 u2 u3 u4 k1 k3
  go_wp2_with fail
  refine (two_c _).mono ?_
  rintro e w5 ⟨b5, rfl, k5, u5⟩
  go_wp2_with fail
  refine (g1 _ k5).mono ?_
  rintro e w6 ⟨rfl, u6⟩
  go_wp2_with fail
  refine (two_c _).mono ?_
  rintro e w7 ⟨b7, rfl, k7, u7⟩
  go_wp2_with fail
  refine (t00 _ k7).mono ?_
  rintro e w8 ⟨rfl, u8⟩
  have U8 := Lib.hid (Up.trans U4.out (Up.trans u5 (Up.trans u6 (Up.trans u7 u8))))
  clear u5 u6 u7 u8 k5 k7 U4
  go_wp2_with fail
  refine (two_c _).mono ?_
  rintro e w9 ⟨b9, rfl, k9, u9⟩
  go_wp2_with fail
  refine (w1' _ k9).mono ?_
  rintro e w10 ⟨p10, rfl, r10, u10⟩
  have U10 := Lib.hid (Up.trans U8.out (Up.trans u9 u10))
  have R10 := Lib.hid r10
  clear u9 u10 k9 U8 r10
  go_wp2_with fail
  refine (two_c _).mono ?_
  rintro e w11 ⟨b11, rfl, k11, u11⟩
  have R11 := Lib.hid (R10.out.up u11)
  have U11 := Lib.hid (Up.trans U10.out u11)
  have K11 := Lib.hid k11
  clear u11 k11 R10 U10
  go_wp2_with fail
  refine Calls.world ?_
  intro w12 hw12
  have u12 : Up w11 w12 := by rw [hw12]; (repeat (first | exact Below.refl _ _ | (with_reducible refine Below.drewN' ?_ _) | (with_reducible refine Below.drew ?_) | (with_reducible refine Below.setCell ?_ (by first | exact Nat.le_refl _ | omega | (with_reducible (repeat (first | refine sz_alloc ?_ | refine sz_setCell ?_ | refine sz_drew ?_ | refine sz_drewN ?_)); first | exact Nat.le_refl _ | omega) | (simp only [World.size_alloc, World.size_setCell, World.size_drew, size_drewN']; omega)) _) | (with_reducible refine Below.alloc ?_ (by first | exact Nat.le_refl _ | omega | (with_reducible (repeat (first | refine sz_alloc ?_ | refine sz_setCell ?_ | refine sz_drew ?_ | refine sz_drewN ?_)); first | exact Nat.le_refl _ | omega) | (simp only [World.size_alloc, World.size_setCell, World.size_drew, size_drewN']; omega)) _) | assumption))
  have r12 : Row w12 (some ⟨w11.heap.size, 0, none⟩) 1 (ints [1]) := by rw [hw12]; exact Row.lit w11 [1] _
  clear hw12
  refine (hold_two _ _ _ _ _ _ _ _ w12 (K11.out.up u12) r12).mono ?_
  rintro e w13 ⟨rfl, u13⟩
  have R13 := Lib.hid ((R11.out.up u12).up u13)
  have U13 := Lib.hid (Up.trans U11.out (Up.trans u12 u13))
  clear u12 u13 r12 K11 R11 U11
  go_wp2_with fail
  refine (two_c _).mono ?_
  rintro e w14 ⟨b14, rfl, k14, u14⟩
  go_wp2_with fail
  refine (a150 _ k14).mono ?_
  rintro e w15 ⟨p15, c15, rfl, r15, u15⟩
  have R15 := Lib.hid ((R13.out.up u14).up u15)
  have S15 := Lib.hid r15
  have U15 := Lib.hid (Up.trans U13.out (Up.trans u14 u15))
  clear u14 u15 r15 k14 R13 U13
  go_wp2_with fail
  refine (two_c _).mono ?_
  rintro e w16 ⟨b16, rfl, k16, u16⟩
  have R16 := Lib.hid (R15.out.up u16)
  have S16 := Lib.hid (S15.out.up u16)
  have U16 := Lib.hid (Up.trans U15.out u16)
  have K16 := Lib.hid k16
  clear u16 k16 R15 S15 U15
  go_wp2_with fail
  refine Calls.world ?_
  intro w17 hw17
  have u17 : Up w16 w17 := by rw [hw17]; (repeat (first | exact Below.refl _ _ | (with_reducible refine Below.drewN' ?_ _) | (with_reducible refine Below.drew ?_) | (with_reducible refine Below.setCell ?_ (by first | exact Nat.le_refl _ | omega | (with_reducible (repeat (first | refine sz_alloc ?_ | refine sz_setCell ?_ | refine sz_drew ?_ | refine sz_drewN ?_)); first | exact Nat.le_refl _ | omega) | (simp only [World.size_alloc, World.size_setCell, World.size_drew, size_drewN']; omega)) _) | (with_reducible refine Below.alloc ?_ (by first | exact Nat.le_refl _ | omega | (with_reducible (repeat (first | refine sz_alloc ?_ | refine sz_setCell ?_ | refine sz_drew ?_ | refine sz_drewN ?_)); first | exact Nat.le_refl _ | omega) | (simp only [World.size_alloc, World.size_setCell, World.size_drew, size_drewN']; omega)) _) | assumption))
  have r17 : Row w17 (some ⟨w16.heap.size, 0, none⟩) 3 (lrows [(120, 0, true)]) := by rw [hw17]; exact Row.of_flat rfl (Blk.new w16 (lrows [(120, 0, true)]).flatten _)
  clear hw17
  refine (l1 _ _ w17 (K16.out.up u17) r17).mono ?_
  rintro e w18 ⟨rfl, u18⟩
  have R18 := Lib.hid ((R16.out.up u17).up u18)
  have S18 := Lib.hid ((S16.out.up u17).up u18)
  have U18 := Lib.hid (Up.trans U16.out (Up.trans u17 u18))
  clear u17 u18 r17 K16 R16 S16 U16
  go_wp2_with fail
  refine Calls.world ?_
  intro w19 hw19
  have u19 : Up w18 w19 := by rw [hw19]; (repeat (first | exact Below.refl _ _ | (with_reducible refine Below.drewN' ?_ _) | (with_reducible refine Below.drew ?_) | (with_reducible refine Below.setCell ?_ (by first | exact Nat.le_refl _ | omega | (with_reducible (repeat (first | refine sz_alloc ?_ | refine sz_setCell ?_ | refine sz_drew ?_ | refine sz_drewN ?_)); first | exact Nat.le_refl _ | omega) | (simp only [World.size_alloc, World.size_setCell, World.size_drew, size_drewN']; omega)) _) | (with_reducible refine Below.alloc ?_ (by first | exact Nat.le_refl _ | omega | (with_reducible (repeat (first | refine sz_alloc ?_ | refine sz_setCell ?_ | refine sz_drew ?_ | refine sz_drewN ?_)); first | exact Nat.le_refl _ | omega) | (simp only [World.size_alloc, World.size_setCell, World.size_drew, size_drewN']; omega)) _) | assumption))
  have hz : Blk w19 w18.heap.size [.int .i64 1, .int .i64 20] 24 := by rw [hw19]; exact (Blk.new w18 _ _).alloc _
  have r19 : Row w19 (some ⟨w18.heap.size + 1, 0, none⟩) 1 (ints [0, 1]) := by rw [hw19]; exact Row.of_flat rfl (Blk.new' (w18.alloc _) (ints [0, 1]).flatten _ (by simp))
  clear hw19
  refine (eqInt_c [0, 1] [0, 1] _ _ _ _ w19 (R18.out.up u19) r19 (by decide) (by decide)).mono ?_
  rintro e w20 ⟨rfl, u20⟩
  have S20 := Lib.hid ((S18.out.up u19).up u20)
  have U20 := Lib.hid (Up.trans U18.out (Up.trans u19 u20))
  have Z20 := Lib.hid (hz.up u20)
  clear u19 u20 hz r19 R18 S18 U18
  rw [show decide (([0, 1] : List Int) = [0, 1]) = true by decide]
  go_wp2_with fail
  refine Calls.world ?_
  intro w21 hw21
  have u21 : Up w20 w21 := by rw [hw21]; (repeat (first | exact Below.refl _ _ | (with_reducible refine Below.drewN' ?_ _) | (with_reducible refine Below.drew ?_) | (with_reducible refine Below.setCell ?_ (by first | exact Nat.le_refl _ | omega | (with_reducible (repeat (first | refine sz_alloc ?_ | refine sz_setCell ?_ | refine sz_drew ?_ | refine sz_drewN ?_)); first | exact Nat.le_refl _ | omega) | (simp only [World.size_alloc, World.size_setCell, World.size_drew, size_drewN']; omega)) _) | (with_reducible refine Below.alloc ?_ (by first | exact Nat.le_refl _ | omega | (with_reducible (repeat (first | refine sz_alloc ?_ | refine sz_setCell ?_ | refine sz_drew ?_ | refine sz_drewN ?_)); first | exact Nat.le_refl _ | omega) | (simp only [World.size_alloc, World.size_setCell, World.size_drew, size_drewN']; omega)) _) | assumption))
  have r21 : Row w21 (some ⟨w20.heap.size, 0, none⟩) 1 (ints [2, 1]) := by rw [hw21]; exact Row.of_flat rfl (Blk.new w20 (ints [2, 1]).flatten _)
  clear hw21
  refine (eqState_c [2, 1] [2, 1] _ _ _ _ w21 (S20.out.up u21) r21 (by decide) (by decide)).mono ?_
  rintro e w22 ⟨rfl, u22⟩
  have U22 := Lib.hid (Up.trans U20.out (Up.trans u21 u22))
  have z22 := (Z20.out.up u21).up u22
  have q0 := z22.cell 0
  have q1 := z22.cell 1
  simp only [List.getElem?_cons_zero, List.getElem?_cons_succ] at q0 q1
  clear u21 u22 r21 S20 U20 Z20 z22
  rw [show decide (([2, 1] : List Int) = [2, 1]) = true by decide]
  go_wp2_with fail
  go_ret
  exact ⟨rfl, U22.out⟩
end Go.Proofs.Ytcljkkojeleakaa
