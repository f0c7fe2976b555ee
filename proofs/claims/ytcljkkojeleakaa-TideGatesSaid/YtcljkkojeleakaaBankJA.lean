/- Plain facts: a bank holds just if the reference's crests without it are never; and how high it is. -/
import Derived.Test.YtcljkkojeleakaaBase
import Derived.Test.YtcljkkojeleakaaChk2
import Derived.Test.YtcljkkojeleakaaBegin
import Derived.Test.YtcljkkojeleakaaAll
import Derived.Test.YtcljkkojeleakaaQue
import Derived.Test.YtcljkkojeleakaaLead
import Derived.Test.YtcljkkojeleakaaWaysF
import Derived.Test.YtcljkkojeleakaaCounted
import Derived.Test.YtcljkkojeleakaaTwo
import Derived.Test.YtcljkkojeleakaaHold
import Derived.Test.YtcljkkojeleakaaCheck
import Derived.Test.YtcljkkojeleakaaOn
import Derived.Test.YtcljkkojeleakaaStep
import Derived.Test.YtcljkkojeleakaaLower
import Derived.Test.YtcljkkojeleakaaGates
import Derived.Test.YtcljkkojeleakaaOut1
import Derived.Test.YtcljkkojeleakaaSpans
import Derived.Test.YtcljkkojeleakaaFits
import Derived.Test.YtcljkkojeleakaaTurn
import Derived.Test.YtcljkkojeleakaaLooks
import Derived.Test.YtcljkkojeleakaaLooks3
import Derived.Test.YtcljkkojeleakaaWay
import Derived.Test.YtcljkkojeleakaaVals
import Derived.Test.YtcljkkojeleakaaEqInt
import Derived.Test.YtcljkkojeleakaaHeight
import Derived.Test.YtcljkkojeleakaaChk
import Derived.Test.YtcljkkojeleakaaRef
import Derived.Test.YtcljkkojeleakaaLine
import Derived.Test.YtcljkkojeleakaaBegin2
import Derived.Test.YtcljkkojeleakaaState2
import Derived.Test.YtcljkkojeleakaaSpans2
import Derived.Test.YtcljkkojeleakaaOwn
import Derived.Test.YtcljkkojeleakaaFar
import Derived.Test.YtcljkkojeleakaaMade
import Derived.Test.YtcljkkojeleakaaHgtPure
import Derived.Test.YtcljkkojeleakaaRound
import Derived.Test.YtcljkkojeleakaaLonger
import Derived.Test.YtcljkkojeleakaaDup
import Derived.WalkKit
import Derived.WalkSpells
import Derived.WalkLawsBesides
import Derived.Deep.QuietTactic
import Derived.BigQuiet
import Derived.Lib.Hide
import Derived.Shelf.Abstract
import Derived.BigGuardPart
import Derived.RangeFuncNested
import Derived.RangeFuncBound
import Derived.RangeFuncCalls
import Derived.RangeFuncLeaves
import Derived.Shelf.RegionOpen
import Derived.OwnWalkIn
import Derived.TacticsInMore
import Derived.LoopNIn
import Derived.LoopIn
import Derived.StillTailTactics
import Derived.Deep.RegionHeld3
import Derived.StillTail
import Derived.RangeFuncWrites
import Derived.Laws.StructEq
import Derived.Deep.LoopGhost
import Derived.IntWalk
import Derived.RangeFuncBox
import Derived.ArgAppend
import Derived.Laws.CopyOwn
import Derived.OwnWalk
import Derived.Lib.SliceRun
import Derived.Maps.OwnOps
import Derived.Maps.OwnSet
import Derived.Deep.AppendSrc
import Derived.Deep.Upon
import Derived.Laws.BitsAllLaws
import Derived.Deep.Cut
import Derived.Deep.DeepCutAuto
import Derived.Deep.CutRange
import Derived.Deep.CutBlock
namespace Go.Proofs.Ytcljkkojeleakaa
open Go.RowKit Go.Shelf
set_option maxRecDepth 100000 in
theorem v_hold : holdV two 1 [] [1] = 220 ∧ errHold two 1 [] [1] = 0 := by constructor <;> kernel_rfl
theorem hold_two (pT pF pS : Option Addr) (cT cF cS : Nat) (p : Option Addr) (c : Nat) (w : World) (hl : Lists w two pT pF pS cT cF cS) (h : Row w p 1 (ints [1])) :
    Calls Try.prog 37 #[sdVal two pT pF pS cT cF cS, .int .i64 1, .slice none 0 0, .slice p 1 c] w fun e w' => e = .returned (.tuple #[.int .i64 220, .int .i64 0]) ∧ Up w w' := by
  have k := Hold_c two 1 [] [1] none p 0 c w hl (Row.nil _ _ _) h (by decide) (by decide)
  rwa [v_hold.1, v_hold.2] at k
end Go.Proofs.Ytcljkkojeleakaa
namespace Go.Proofs.Ytcljkkojeleakaa
open Go.RowKit Go.Shelf

section
variable {pT pF pS : Option Addr} {cT cF cS : Nat}
theorem h91 (w : World) (hl : Lists w two pT pF pS cT cF cS) : Calls Try.prog 25 #[sdVal two pT pF pS cT cF cS, .int .i64 91] w fun e w' => e = .returned (.tuple #[.int .i64 175, .int .i64 0]) ∧ Up w w' := by
  have h := Height_c two 91 w hl
  rwa [v_h1.1, v_h1.2] at h
theorem h400 (w : World) (hl : Lists w two pT pF pS cT cF cS) : Calls Try.prog 25 #[sdVal two pT pF pS cT cF cS, .int .i64 400] w fun e w' => e = .returned (.tuple #[.int .i64 370, .int .i64 0]) ∧ Up w w' := by
  have h := Height_c two 400 w hl
  rwa [v_h2.1, v_h2.2] at h
theorem g1 (w : World) (hl : Lists w two pT pF pS cT cF cS) : Calls Try.prog 30 #[sdVal two pT pF pS cT cF cS, .int .i64 1] w fun e w' => e = .returned (.tuple #[.int .i64 220, .int .i64 0]) ∧ Up w w' := by
  have h := Gate_c two 1 w hl
  rwa [v_g.1, v_g.2] at h
theorem t00 (w : World) (hl : Lists w two pT pF pS cT cF cS) : Calls Try.prog 63 #[sdVal two pT pF pS cT cF cS, .int .i64 0, .int .i64 0] w fun e w' => e = .returned (.tuple #[.int .i64 97, .int .i64 0]) ∧ Up w w' := by
  have h := Turn_c two 0 0 w hl
  rwa [v_t.1, v_t.2] at h
theorem w1' (w : World) (hl : Lists w two pT pF pS cT cF cS) : Calls Try.prog 31 #[sdVal two pT pF pS cT cF cS, .int .i64 1] w fun e w' => ∃ p, e = .returned (.tuple #[.slice p 2 2, .int .i64 0]) ∧ Row w' p 1 (ints [0, 1]) ∧ Up w w' := by
  have h := Way_c two 1 w hl
  rw [v_w, v_g.2] at h
  exact h.mono fun e w' ⟨p, h1, h2, _, h3⟩ => ⟨p, h1, h2, h3⟩
theorem a150 (w : World) (hl : Lists w two pT pF pS cT cF cS) : Calls Try.prog 42 #[sdVal two pT pF pS cT cF cS, .int .i64 150] w fun e w' => ∃ p c, e = .returned (.tuple #[.slice p 2 c, .int .i64 0]) ∧ Row w' p 1 (ints [2, 1]) ∧ Up w w' := by
  have h := All_c two 150 w hl
  rw [v_a.1, v_a.2] at h
  exact h.mono fun e w' ⟨p, c, h1, _, _, h2, h3⟩ => ⟨p, c, h1, h2, h3⟩
theorem l1 (p : Option Addr) (c : Nat) (w : World) (hl : Lists w two pT pF pS cT cF cS) (hr : Row w p 3 (lrows [(120, 0, true)])) : Calls Try.prog 54 #[sdVal two pT pF pS cT cF cS, .slice p 1 c] w fun e w' => e = .returned (.tuple #[.agg #[.int .i64 1, .int .i64 20], .int .i64 0]) ∧ Up w w' := by
  have h := Looks_c two [(120, 0, true)] p c w hl hr (by decide)
  rwa [v_l.1, v_l.2] at h
end

set_option maxRecDepth 100000 in
set_option maxHeartbeats 4000000 in
theorem awake_c (w : World) : Calls Try.prog 20 #[] w fun e w' => e = .returned (.bool true) ∧ Up w w' := by
  go_enter Try.func20, Try.ntmps20
  go_wp2_with fail
  refine (two_c _).mono ?_
  rintro e w1 ⟨b1, rfl, k1, u1⟩
  go_wp2_with fail
  refine (h91 _ k1).mono ?_
  rintro e w2 ⟨rfl, u2⟩
  go_wp2_with fail
  refine (two_c _).mono ?_
  rintro e w3 ⟨b3, rfl, k3, u3⟩
  go_wp2_with fail
  refine (h400 _ k3).mono ?_
  rintro e w4 ⟨rfl, u4⟩
  have U4 := Lib.hid (Up.trans u1 (Up.trans u2 (Up.trans u3 u4)))
  clear u1 u2 u3 u4 k1 k3
  go_wp2_with fail
  refine (two_c _).mono ?_
  rintro e w5 ⟨b5, rfl, k5, u5⟩
  go_wp2_with fail
  refine (g1 _ k5).mono ?_
  rintro e w6 ⟨rfl, u6⟩
  go_wp2_with fail
  refine (two_c _).mono ?_
  rintro e w7 ⟨b7, rfl, k7, u7⟩
  go_wp2_with fail
  refine (t00 _ k7).mono ?_
  rintro e w8 ⟨rfl, u8⟩
  have U8 := Lib.hid (Up.trans U4.out (Up.trans u5 (Up.trans u6 (Up.trans u7 u8))))
  clear u5 u6 u7 u8 k5 k7 U4
  go_wp2_with fail
  refine (two_c _).mono ?_
  rintro e w9 ⟨b9, rfl, k9, u9⟩
  go_wp2_with fail
  refine (w1' _ k9).mono ?_
  rintro e w10 ⟨p10, rfl, r10, u10⟩
  have U10 := Lib.hid (Up.trans U8.out (Up.trans u9 u10))
  have R10 := Lib.hid r10
  clear u9 u10 k9 U8 r10
  go_wp2_with fail
  refine (two_c _).mono ?_
  rintro e w11 ⟨b11, rfl, k11, u11⟩
  have R11 := Lib.hid (R10.out.up u11)
  have U11 := Lib.hid (Up.trans U10.out u11)
  have K11 := Lib.hid k11
  clear u11 k11 R10 U10
  go_wp2_with fail
  refine Calls.world ?_
  intro w12 hw12
  have u12 : Up w11 w12 := by rw [hw12]; (repeat (first | exact Below.refl _ _ | (with_reducible refine Below.drewN' ?_ _) | (with_reducible refine Below.drew ?_) | (with_reducible refine Below.setCell ?_ (by first | exact Nat.le_refl _ | omega | (with_reducible (repeat (first | refine sz_alloc ?_ | refine sz_setCell ?_ | refine sz_drew ?_ | refine sz_drewN ?_)); first | exact Nat.le_refl _ | omega) | (simp only [World.size_alloc, World.size_setCell, World.size_drew, size_drewN']; omega)) _) | (with_reducible refine Below.alloc ?_ (by first | exact Nat.le_refl _ | omega | (with_reducible (repeat (first | refine sz_alloc ?_ | refine sz_setCell ?_ | refine sz_drew ?_ | refine sz_drewN ?_)); first | exact Nat.le_refl _ | omega) | (simp only [World.size_alloc, World.size_setCell, World.size_drew, size_drewN']; omega)) _) | assumption))
  have r12 : Row w12 (some ⟨w11.heap.size, 0, none⟩) 1 (ints [1]) := by rw [hw12]; exact Row.lit w11 [1] _
  clear hw12
  refine (hold_two _ _ _ _ _ _ _ _ w12 (K11.out.up u12) r12).mono ?_
  rintro e w13 ⟨rfl, u13⟩
  have R13 := Lib.hid ((R11.out.up u12).up u13)
  have U13 := Lib.hid (Up.trans U11.out (Up.trans u12 u13))
  clear u12 u13 r12 K11 R11 U11
  go_wp2_with fail
  refine (two_c _).mono ?_
  rintro e w14 ⟨b14, rfl, k14, u14⟩
  go_wp2_with fail
  refine (a150 _ k14).mono ?_
  rintro e w15 ⟨p15, c15, rfl, r15, u15⟩
  have R15 := Lib.hid ((R13.out.up u14).up u15)
  have S15 := Lib.hid r15
  have U15 := Lib.hid (Up.trans U13.out (Up.trans u14 u15))
  clear u14 u15 r15 k14 R13 U13
  go_wp2_with fail
  refine (two_c _).mono ?_
  rintro e w16 ⟨b16, rfl, k16, u16⟩
  have R16 := Lib.hid (R15.out.up u16)
  have S16 := Lib.hid (S15.out.up u16)
  have U16 := Lib.hid (Up.trans U15.out u16)
  have K16 := Lib.hid k16
  clear u16 k16 R15 S15 U15
  go_wp2_with fail
  refine Calls.world ?_
  intro w17 hw17
  have u17 : Up w16 w17 := by rw [hw17]; (repeat (first | exact Below.refl _ _ | (with_reducible refine Below.drewN' ?_ _) | (with_reducible refine Below.drew ?_) | (with_reducible refine Below.setCell ?_ (by first | exact Nat.le_refl _ | omega | (with_reducible (repeat (first | refine sz_alloc ?_ | refine sz_setCell ?_ | refine sz_drew ?_ | refine sz_drewN ?_)); first | exact Nat.le_refl _ | omega) | (simp only [World.size_alloc, World.size_setCell, World.size_drew, size_drewN']; omega)) _) | (with_reducible refine Below.alloc ?_ (by first | exact Nat.le_refl _ | omega | (with_reducible (repeat (first | refine sz_alloc ?_ | refine sz_setCell ?_ | refine sz_drew ?_ | refine sz_drewN ?_)); first | exact Nat.le_refl _ | omega) | (simp only [World.size_alloc, World.size_setCell, World.size_drew, size_drewN']; omega)) _) | assumption))
  have r17 : Row w17 (some ⟨w16.heap.size, 0, none⟩) 3 (lrows [(120, 0, true)]) := by rw [hw17]; exact Row.of_flat rfl (Blk.new w16 (lrows [(120, 0, true)]).flatten _)
  clear hw17
  refine (l1 _ _ w17 (K16.out.up u17) r17).mono ?_
  rintro e w18 ⟨rfl, u18⟩
  have R18 := Lib.hid ((R16.out.up u17).up u18)
  have S18 := Lib.hid ((S16.out.up u17).up u18)
  have U18 := Lib.hid (Up.trans U16.out (Up.trans u17 u18))
  clear u17 u18 r17 K16 R16 S16 U16
  go_wp2_with fail
  refine Calls.world ?_
  intro w19 hw19
  have u19 : Up w18 w19 := by rw [hw19]; (repeat (first | exact Below.refl _ _ | (with_reducible refine Below.drewN' ?_ _) | (with_reducible refine Below.drew ?_) | (with_reducible refine Below.setCell ?_ (by first | exact Nat.le_refl _ | omega | (with_reducible (repeat (first | refine sz_alloc ?_ | refine sz_setCell ?_ | refine sz_drew ?_ | refine sz_drewN ?_)); first | exact Nat.le_refl _ | omega) | (simp only [World.size_alloc, World.size_setCell, World.size_drew, size_drewN']; omega)) _) | (with_reducible refine Below.alloc ?_ (by first | exact Nat.le_refl _ | omega | (with_reducible (repeat (first | refine sz_alloc ?_ | refine sz_setCell ?_ | refine sz_drew ?_ | refine sz_drewN ?_)); first | exact Nat.le_refl _ | omega) | (simp only [World.size_alloc, World.size_setCell, World.size_drew, size_drewN']; omega)) _) | assumption))
  have hz : Blk w19 w18.heap.size [.int .i64 1, .int .i64 20] 24 := by rw [hw19]; exact (Blk.new w18 _ _).alloc _
  have r19 : Row w19 (some ⟨w18.heap.size + 1, 0, none⟩) 1 (ints [0, 1]) := by rw [hw19]; exact Row.of_flat rfl (Blk.new' (w18.alloc _) (ints [0, 1]).flatten _ (by simp))
  clear hw19
  refine (eqInt_c [0, 1] [0, 1] _ _ _ _ w19 (R18.out.up u19) r19 (by decide) (by decide)).mono ?_
  rintro e w20 ⟨rfl, u20⟩
  have S20 := Lib.hid ((S18.out.up u19).up u20)
  have U20 := Lib.hid (Up.trans U18.out (Up.trans u19 u20))
  have Z20 := Lib.hid (hz.up u20)
  clear u19 u20 hz r19 R18 S18 U18
  rw [show decide (([0, 1] : List Int) = [0, 1]) = true by decide]
  go_wp2_with fail
  refine Calls.world ?_
  intro w21 hw21
  have u21 : Up w20 w21 := by rw [hw21]; (repeat (first | exact Below.refl _ _ | (with_reducible refine Below.drewN' ?_ _) | (with_reducible refine Below.drew ?_) | (with_reducible refine Below.setCell ?_ (by first | exact Nat.le_refl _ | omega | (with_reducible (repeat (first | refine sz_alloc ?_ | refine sz_setCell ?_ | refine sz_drew ?_ | refine sz_drewN ?_)); first | exact Nat.le_refl _ | omega) | (simp only [World.size_alloc, World.size_setCell, World.size_drew, size_drewN']; omega)) _) | (with_reducible refine Below.alloc ?_ (by first | exact Nat.le_refl _ | omega | (with_reducible (repeat (first | refine sz_alloc ?_ | refine sz_setCell ?_ | refine sz_drew ?_ | refine sz_drewN ?_)); first | exact Nat.le_refl _ | omega) | (simp only [World.size_alloc, World.size_setCell, World.size_drew, size_drewN']; omega)) _) | assumption))
  have r21 : Row w21 (some ⟨w20.heap.size, 0, none⟩) 1 (ints [2, 1]) := by rw [hw21]; exact Row.of_flat rfl (Blk.new w20 (ints [2, 1]).flatten _)
  clear hw21
  refine (eqState_c [2, 1] [2, 1] _ _ _ _ w21 (S20.out.up u21) r21 (by decide) (by decide)).mono ?_
  rintro e w22 ⟨rfl, u22⟩
  have U22 := Lib.hid (Up.trans U20.out (Up.trans u21 u22))
  have z22 := (Z20.out.up u21).up u22
  have q0 := z22.cell 0
  have q1 := z22.cell 1
  simp only [List.getElem?_cons_zero, List.getElem?_cons_succ] at q0 q1
  clear u21 u22 r21 S20 U20 Z20 z22
  rw [show decide (([2, 1] : List Int) = [2, 1]) = true by decide]
  go_wp2_with fail
  go_ret
  exact ⟨rfl, U22.out⟩
end Go.Proofs.Ytcljkkojeleakaa
namespace Go.Proofs.Ytcljkkojeleakaa
open Go.RowKit Go.Shelf

theorem thing_eq (x : Int) (n : Nat) (hn : 1 ≤ n) : inB x (-1) ((n : Int) - 1) = (x == -1 || inB x 0 ((n : Int) - 1)) := by
  rw [Bool.eq_iff_iff, Bool.or_eq_true, inB_true, inB_true, beq_iff_eq]; omega
theorem all_take_succ' {α : Type} {l : List α} {f : α → Bool} {k : Nat} (h : k < l.length) (h1 : (l.take k).all f = true) (h2 : f l[k] = true) : (l.take (k + 1)).all f = true := by
  rw [List.take_add_one, List.getElem?_eq_getElem h, List.all_append, h1]; simp [h2]
theorem all_false_at {α : Type} {l : List α} {f : α → Bool} {k : Nat} (h : k < l.length) (h2 : f l[k] = false) : l.all f = false := by
  rw [List.all_eq_false]; exact ⟨l[k], List.getElem_mem h, by simp [h2]⟩

section
variable {pT pF pS : Option Addr} {cT cF cS : Nat}
set_option maxRecDepth 100000 in
set_option maxHeartbeats 8000000 in
theorem refCheck_c (s : Sd) (w : World) (hl : Lists w s pT pF pS cT cF cS) : Calls Try.prog 22 #[sdVal s pT pF pS cT cF cS] w fun e w' => e = .returned (.int .i64 (chk s)) ∧ Up w w' := by
  have HL := Lib.hid hl
  have m1 : (s.table.length : Int) ≤ 9223372036854775807 := by have := Nat.le_trans hl.ct hl.mt; simp only [maxLen] at this; omega
  have m2 : (s.floors.length : Int) ≤ 9223372036854775807 := by have := Nat.le_trans hl.cf hl.mf; simp only [maxLen] at this; omega
  have m3 : (s.sills.length : Int) ≤ 9223372036854775807 := by have := Nat.le_trans hl.cs hl.ms; simp only [maxLen] at this; omega
  clear hl
  unfold sdVal
  go_enter Try.func22, Try.ntmps22
  by_cases hco : okCounts s = false
  · have HX := Lib.hid (show chk s = 2 by unfold chk; rw [if_pos hco])
    unfold okCounts at hco
    cases hA : inB s.table.length 2 12
    · clear hco
      go_wp2_with (go_at_call 84; refine (off_c _ _ _ _).mono ?_; rintro e w' ⟨rfl, rfl⟩)
      go_ret
      exact ⟨by rw [HX.out]; rfl, by (repeat (first | exact Below.refl _ _ | (with_reducible refine Below.drewN' ?_ _) | (with_reducible refine Below.drew ?_) | (with_reducible refine Below.setCell ?_ (by first | exact Nat.le_refl _ | omega | (with_reducible (repeat (first | refine sz_alloc ?_ | refine sz_setCell ?_ | refine sz_drew ?_ | refine sz_drewN ?_)); first | exact Nat.le_refl _ | omega) | (simp only [World.size_alloc, World.size_setCell, World.size_drew, size_drewN']; omega)) _) | (with_reducible refine Below.alloc ?_ (by first | exact Nat.le_refl _ | omega | (with_reducible (repeat (first | refine sz_alloc ?_ | refine sz_setCell ?_ | refine sz_drew ?_ | refine sz_drewN ?_)); first | exact Nat.le_refl _ | omega) | (simp only [World.size_alloc, World.size_setCell, World.size_drew, size_drewN']; omega)) _) | assumption))⟩
    · cases hB : inB s.floors.length 1 8
      · clear hco
        go_wp2_with (go_at_call 84; refine (off_c _ _ _ _).mono ?_; rintro e w' ⟨rfl, rfl⟩)
        go_ret
        exact ⟨by rw [HX.out]; rfl, by (repeat (first | exact Below.refl _ _ | (with_reducible refine Below.drewN' ?_ _) | (with_reducible refine Below.drew ?_) | (with_reducible refine Below.setCell ?_ (by first | exact Nat.le_refl _ | omega | (with_reducible (repeat (first | refine sz_alloc ?_ | refine sz_setCell ?_ | refine sz_drew ?_ | refine sz_drewN ?_)); first | exact Nat.le_refl _ | omega) | (simp only [World.size_alloc, World.size_setCell, World.size_drew, size_drewN']; omega)) _) | (with_reducible refine Below.alloc ?_ (by first | exact Nat.le_refl _ | omega | (with_reducible (repeat (first | refine sz_alloc ?_ | refine sz_setCell ?_ | refine sz_drew ?_ | refine sz_drewN ?_)); first | exact Nat.le_refl _ | omega) | (simp only [World.size_alloc, World.size_setCell, World.size_drew, size_drewN']; omega)) _) | assumption))⟩
      · have hC : (16 : Int) < s.sills.length := by
          rw [hA, hB] at hco
          simp only [Bool.true_and, decide_eq_false_iff_not] at hco
          omega
        clear hco
        go_wp2_with (go_at_call 84; refine (off_c _ _ _ _).mono ?_; rintro e w' ⟨rfl, rfl⟩)
        go_ret
        exact ⟨by rw [HX.out]; rfl, by (repeat (first | exact Below.refl _ _ | (with_reducible refine Below.drewN' ?_ _) | (with_reducible refine Below.drew ?_) | (with_reducible refine Below.setCell ?_ (by first | exact Nat.le_refl _ | omega | (with_reducible (repeat (first | refine sz_alloc ?_ | refine sz_setCell ?_ | refine sz_drew ?_ | refine sz_drewN ?_)); first | exact Nat.le_refl _ | omega) | (simp only [World.size_alloc, World.size_setCell, World.size_drew, size_drewN']; omega)) _) | (with_reducible refine Below.alloc ?_ (by first | exact Nat.le_refl _ | omega | (with_reducible (repeat (first | refine sz_alloc ?_ | refine sz_setCell ?_ | refine sz_drew ?_ | refine sz_drewN ?_)); first | exact Nat.le_refl _ | omega) | (simp only [World.size_alloc, World.size_setCell, World.size_drew, size_drewN']; omega)) _) | assumption))⟩
  · have hco' : okCounts s = true := by simpa using hco
    unfold okCounts at hco'
    simp only [Bool.and_eq_true, decide_eq_true_eq] at hco'
    obtain ⟨⟨hA, hB⟩, hC⟩ := hco'
    have HX := Lib.hid (show chk s = if okNumbers s = false then 3 else if okOrder s = false then 4 else if s.sills.all (okThings s.floors.length) = false then 1 else if s.sills.all (fun x => x.1 != x.2.1) = false then 8 else 0 by unfold chk; rw [if_neg hco])
    have bA := inB_true.1 hA
    have bB := inB_true.1 hB
    clear hco m1 m2 m3
    have hC' : ¬ (16 : Int) < s.sills.length := by omega
    go_wp2_with (go_at_call 84; refine (off_c _ _ _ _).mono ?_; rintro e w' ⟨rfl, rfl⟩)
    clear hA hB hC'
    refine Code.wp_world ?_
    intro w1 hw1
    have u1 : Up w w1 := by rw [hw1]; (repeat (first | exact Below.refl _ _ | (with_reducible refine Below.drewN' ?_ _) | (with_reducible refine Below.drew ?_) | (with_reducible refine Below.setCell ?_ (by first | exact Nat.le_refl _ | omega | (with_reducible (repeat (first | refine sz_alloc ?_ | refine sz_setCell ?_ | refine sz_drew ?_ | refine sz_drewN ?_)); first | exact Nat.le_refl _ | omega) | (simp only [World.size_alloc, World.size_setCell, World.size_drew, size_drewN']; omega)) _) | (with_reducible refine Below.alloc ?_ (by first | exact Nat.le_refl _ | omega | (with_reducible (repeat (first | refine sz_alloc ?_ | refine sz_setCell ?_ | refine sz_drew ?_ | refine sz_drewN ?_)); first | exact Nat.le_refl _ | omega) | (simp only [World.size_alloc, World.size_setCell, World.size_drew, size_drewN']; omega)) _) | assumption))
    have hBk : Blk w1 w.heap.size (sdCells s pT pF pS cT cF cS) 37 := by rw [hw1]; exact Blk.new w _ _
    have HL1 := Lib.hid (HL.out.up u1)
    have HU1 := Lib.hid u1
    have c0 := hBk.cell 0
    have c1 := hBk.cell 1
    have c2 := hBk.cell 2
    have c3 := hBk.cell 3
    have c4 := hBk.cell 4
    simp only [sdCells, List.getElem?_cons_zero, List.getElem?_cons_succ] at c0 c1 c2 c3 c4
    clear hw1 u1 hBk HL
    go_loopw [4] (fun i wr => ∃ k : Nat, k ≤ s.table.length ∧ i = .int .i64 k ∧ (s.table.take k).all okWater = true ∧ wr = w1) (fun i _ => s.table.length - (intOf i).toNat)
    case atStart => exact ⟨0, Nat.zero_le _, rfl, rfl, rfl⟩
    case round =>
      obtain ⟨k, hk, rfl, ht, rfl⟩ := hrel
      have HT := Lib.hid ht
      clear ht
      by_cases hlt : k < s.table.length
      · obtain ⟨b, off, rfl, d0, d1⟩ := HL1.out.rt.pair k hlt
        have b1 : (k : Int) < (s.table.length : Int) := by omega
        have b2 : (0 : Int) ≤ k := by omega
        have sk : IntKind.i64.wrap ((k : Int) + 1) = (k : Int) + 1 := IntWalk.i64_in _ (by omega)
        have HN := Lib.hid (all_take_succ' (f := okWater) hlt HT.out)
        have HF := Lib.hid (fun h : okWater s.table[k] = false => show okNumbers s = false by unfold okNumbers; rw [all_false_at hlt h]; rfl)
        generalize s.table[k] = x at *
        obtain ⟨xa, xb⟩ := x
        dsimp only at d0 d1
        cases h1 : inB xa 0 1440
        · have HR := Lib.hid (show chk s = 3 by rw [HX.out, if_pos (HF.out (by unfold okWater; rw [h1]; rfl))])
          go_wp2_with (go_at_call 84; refine (off_c _ _ _ _).mono ?_; rintro e w' ⟨rfl, rfl⟩)
          go_ret
          exact ⟨by rw [HR.out]; rfl, HU1.out⟩
        · cases h2 : inB xb 0 999
          · have HR := Lib.hid (show chk s = 3 by rw [HX.out, if_pos (HF.out (by unfold okWater; rw [h1, h2]; rfl))])
            go_wp2_with (go_at_call 84; refine (off_c _ _ _ _).mono ?_; rintro e w' ⟨rfl, rfl⟩)
            go_ret
            exact ⟨by rw [HR.out]; rfl, HU1.out⟩
          · have HR := Lib.hid (HN.out (by unfold okWater; rw [h1, h2]; rfl))
            go_wp2_with (go_at_call 84; refine (off_c _ _ _ _).mono ?_; rintro e w' ⟨rfl, rfl⟩)
            go_roundw
            case rel => exact ⟨k + 1, hlt, by go_num, HR.out, by first | rfl | trivial⟩
            case measure => simp [intOf]; omega
      · obtain rfl : k = s.table.length := by omega
        rw [List.take_length] at HT
        clear hk hlt
        have HW := Lib.hid HT.out
        cases hlo : inB s.lo (-50) 50
        · have HR := Lib.hid (show chk s = 3 by rw [HX.out, if_pos (by unfold okNumbers; rw [hlo]; simp)])
          clear HT
          go_wp2_with (go_at_call 84; refine (off_c _ _ _ _).mono ?_; rintro e w' ⟨rfl, rfl⟩)
          go_ret
          exact ⟨by rw [HR.out]; rfl, HU1.out⟩
        · cases hhi : inB s.hi (-50) 50
          · have HR := Lib.hid (show chk s = 3 by rw [HX.out, if_pos (by unfold okNumbers; rw [hhi]; simp)])
            clear HT
            go_wp2_with (go_at_call 84; refine (off_c _ _ _ _).mono ?_; rintro e w' ⟨rfl, rfl⟩)
            go_ret
            exact ⟨by rw [HR.out]; rfl, HU1.out⟩
          · clear HT
            have HLO := Lib.hid hlo
            have HHI := Lib.hid hhi
            go_wp2_with (go_at_call 84; refine (off_c _ _ _ _).mono ?_; rintro e w' ⟨rfl, rfl⟩)
            clear hlo hhi
            go_loopw [5] (fun i wq => ∃ k : Nat, k ≤ s.floors.length ∧ i = .int .i64 k ∧ (s.floors.take k).all (fun x => inB x 0 999) = true ∧ wq = wr) (fun i _ => s.floors.length - (intOf i).toNat)
            case atStart => exact ⟨0, Nat.zero_le _, rfl, rfl, rfl⟩
            case round =>
              obtain ⟨k, hk, rfl, ht, rfl⟩ := hrel
              have HT := Lib.hid ht
              clear ht
              by_cases hlt : k < s.floors.length
              · obtain ⟨b, off, rfl, d0⟩ := HL1.out.rf.int k hlt
                have b1 : (k : Int) < (s.floors.length : Int) := by omega
                have b2 : (0 : Int) ≤ k := by omega
                have sk : IntKind.i64.wrap ((k : Int) + 1) = (k : Int) + 1 := IntWalk.i64_in _ (by omega)
                have HN := Lib.hid (all_take_succ' (f := fun x => inB x 0 999) hlt HT.out)
                have HF := Lib.hid (fun h : inB s.floors[k] 0 999 = false => show okNumbers s = false by unfold okNumbers; rw [all_false_at (f := fun x => inB x 0 999) hlt h]; simp)
                generalize s.floors[k] = x at *
                cases h1 : inB x 0 999
                · have HR := Lib.hid (show chk s = 3 by rw [HX.out, if_pos (HF.out h1)])
                  go_wp2_with (go_at_call 84; refine (off_c _ _ _ _).mono ?_; rintro e w' ⟨rfl, rfl⟩)
                  go_ret
                  exact ⟨by rw [HR.out]; rfl, HU1.out⟩
                · have HR := Lib.hid (HN.out h1)
                  go_wp2_with (go_at_call 84; refine (off_c _ _ _ _).mono ?_; rintro e w' ⟨rfl, rfl⟩)
                  go_roundw
                  case rel => exact ⟨k + 1, hlt, by go_num, HR.out, by first | rfl | trivial⟩
                  case measure => simp [intOf]; omega
              · obtain rfl : k = s.floors.length := by omega
                rw [List.take_length] at HT
                have HFl := Lib.hid HT.out
                clear HT hk hlt
                go_wp2_with fail
                go_loopw [6] (fun i wq => ∃ k : Nat, k ≤ s.sills.length ∧ i = .int .i64 k ∧ (s.sills.take k).all (fun x => inB x.2.2 0 999) = true ∧ wq = wr) (fun i _ => s.sills.length - (intOf i).toNat)
                case atStart => exact ⟨0, Nat.zero_le _, rfl, rfl, rfl⟩
                case round =>
                  obtain ⟨k, hk, rfl, ht, rfl⟩ := hrel
                  have HT := Lib.hid ht
                  clear ht
                  by_cases hlt : k < s.sills.length
                  · obtain ⟨b, off, rfl, d0, d1, d2⟩ := HL1.out.rs.triple k hlt
                    have b1 : (k : Int) < (s.sills.length : Int) := by omega
                    have b2 : (0 : Int) ≤ k := by omega
                    have sk : IntKind.i64.wrap ((k : Int) + 1) = (k : Int) + 1 := IntWalk.i64_in _ (by omega)
                    have HN := Lib.hid (all_take_succ' (f := fun x => inB x.2.2 0 999) hlt HT.out)
                    have HF := Lib.hid (fun h : inB s.sills[k].2.2 0 999 = false => show okNumbers s = false by unfold okNumbers; rw [all_false_at (f := fun x : Int × Int × Int => inB x.2.2 0 999) hlt h]; simp)
                    generalize s.sills[k] = x at *
                    obtain ⟨xa, xb, xc⟩ := x
                    dsimp only at d0 d1 d2
                    cases h1 : inB xc 0 999
                    · have HR := Lib.hid (show chk s = 3 by rw [HX.out, if_pos (HF.out h1)])
                      go_wp2_with (go_at_call 84; refine (off_c _ _ _ _).mono ?_; rintro e w' ⟨rfl, rfl⟩)
                      go_ret
                      exact ⟨by rw [HR.out]; rfl, HU1.out⟩
                    · have HR := Lib.hid (HN.out h1)
                      go_wp2_with (go_at_call 84; refine (off_c _ _ _ _).mono ?_; rintro e w' ⟨rfl, rfl⟩)
                      go_roundw
                      case rel => exact ⟨k + 1, hlt, by go_num, HR.out, by first | rfl | trivial⟩
                      case measure => simp [intOf]; omega
                  · obtain rfl : k = s.sills.length := by omega
                    rw [List.take_length] at HT
                    have HX2 := Lib.hid (show chk s = if okOrder s = false then 4 else if s.sills.all (okThings s.floors.length) = false then 1 else if s.sills.all (fun x => x.1 != x.2.1) = false then 8 else 0 by
                      rw [HX.out, if_neg]; unfold okNumbers; rw [HW.out, HLO.out, HHI.out, HFl.out, HT.out]; decide)
                    clear HT hk hlt HX HW HLO HHI HFl
                    go_wp2_with fail
                    go_loopw [7] (fun i wq => ∃ k : Nat, 1 ≤ k ∧ k ≤ s.table.length ∧ i = .int .i64 k ∧ ((List.range (k - 1)).all fun i => decide ((s.table.getD i (0, 0)).1 < (s.table.getD (i + 1) (0, 0)).1)) = true ∧ Up wr wq) (fun i _ => s.table.length - (intOf i).toNat)
                    case atStart => exact ⟨1, Nat.le_refl _, by omega, rfl, rfl, Below.refl _ _⟩
                    case round =>
                      obtain ⟨k, hk1, hk, rfl, ht, hu⟩ := hrel
                      have HT := Lib.hid ht
                      have HU := Lib.hid hu
                      have d0 := hu.cellAt c0
                      clear ht hu
                      by_cases hlt : k < s.table.length
                      · obtain ⟨b, off, rfl, x0, -⟩ := HL1.out.rt.pair k hlt
                        obtain ⟨b', off', e', y0, -⟩ := HL1.out.rt.pair (k - 1) (by omega)
                        simp only [Option.some.injEq, Addr.mk.injEq, and_true] at e'
                        obtain ⟨rfl, rfl⟩ := e'
                        have x1 := HU.out.cellAt x0
                        have y1 := HU.out.cellAt y0
                        have b1 : (k : Int) < (s.table.length : Int) := by omega
                        have b2 : (0 : Int) ≤ k := by omega
                        have b3 : (k : Int) - 1 < (s.table.length : Int) := by omega
                        have b4 : (0 : Int) ≤ (k : Int) - 1 := by omega
                        have b5 : ((k : Int) - 1).toNat = k - 1 := by omega
                        have sk : IntKind.i64.wrap ((k : Int) + 1) = (k : Int) + 1 := IntWalk.i64_in _ (by omega)
                        have sm : IntKind.i64.wrap ((k : Int) - 1) = (k : Int) - 1 := IntWalk.i64_in _ (by omega)
                        have hg : (s.table.getD (k - 1) (0, 0)).1 = s.table[k - 1].1 ∧ (s.table.getD (k - 1 + 1) (0, 0)).1 = s.table[k].1 := by
                          constructor
                          · rw [List.getD, List.getElem?_eq_getElem (by omega)]; rfl
                          · rw [show k - 1 + 1 = k by omega, List.getD, List.getElem?_eq_getElem hlt]; rfl
                        have HN := Lib.hid (fun h : s.table[k - 1].1 < s.table[k].1 => show ((List.range (k + 1 - 1)).all fun i => decide ((s.table.getD i (0, 0)).1 < (s.table.getD (i + 1) (0, 0)).1)) = true by
                          rw [show k + 1 - 1 = (k - 1) + 1 by omega, List.range_succ, List.all_append, HT.out]
                          simp only [List.all_cons, List.all_nil, Bool.and_true, Bool.true_and, decide_eq_true_eq]
                          rw [hg.1, hg.2]; exact h)
                        have HF := Lib.hid (fun h : ¬ s.table[k - 1].1 < s.table[k].1 => show okOrder s = false by
                          unfold okOrder ordB
                          rw [show ((List.range (s.table.length - 1)).all fun i => decide ((s.table.getD i (0, 0)).1 < (s.table.getD (i + 1) (0, 0)).1)) = false by
                            rw [List.all_eq_false]; exact ⟨k - 1, List.mem_range.2 (by omega), by rw [hg.1, hg.2]; simpa using h⟩]
                          rfl)
                        clear x0 y0 hg
                        generalize s.table[k].1 = x at *
                        generalize s.table[k - 1].1 = y at *
                        go_wp2_with fail
                        by_cases hxy : y < x
                        · have hxy' : ¬ x ≤ y := by omega
                          have HR := Lib.hid (HN.out (by omega))
                          go_quiet (fail)
                          go_wp2_with fail
                          go_roundw
                          case rel => exact ⟨k + 1, by omega, hlt, by go_num, HR.out, Below.drewN' HU.out _⟩
                          case measure => simp [intOf]; omega
                        · have hxy' : x ≤ y := by omega
                          have HR := Lib.hid (show chk s = 4 by rw [HX2.out, if_pos (HF.out (by omega))])
                          go_quiet (fail)
                          go_wp2_with fail
                          go_ret
                          exact ⟨by rw [HR.out]; rfl, Up.trans HU1.out (Below.drewN' HU.out _)⟩
                      · obtain rfl : k = s.table.length := by omega
                        have HU2 := Lib.hid (Up.trans HU1.out HU.out)
                        have HL2 := Lib.hid (HL1.out.up HU.out)
                        have d1 := HU.out.cellAt c1
                        have d2 := HU.out.cellAt c2
                        have d3 := HU.out.cellAt c3
                        have d4 := HU.out.cellAt c4
                        have HO := Lib.hid (show ordB s.table = true from HT.out)
                        clear c0 c1 c2 c3 c4 HU HU1 HL1 HT hk hlt
                        by_cases hw : s.hi < s.lo
                        · have HR := Lib.hid (show chk s = 4 by rw [HX2.out, if_pos (by unfold okOrder; rw [HO.out]; simp; omega)])
                          go_wp2_with fail
                          go_ret
                          exact ⟨by rw [HR.out]; rfl, HU2.out⟩
                        · have HX3 := Lib.hid (show chk s = if s.sills.all (okThings s.floors.length) = false then 1 else if s.sills.all (fun x => x.1 != x.2.1) = false then 8 else 0 by rw [HX2.out, if_neg (by unfold okOrder; rw [HO.out]; simp; omega)])
                          clear HX2 HO
                          go_wp2_with fail
                          go_loopw [8] (fun i wq => ∃ k : Nat, k ≤ s.sills.length ∧ i = .int .i64 k ∧ (s.sills.take k).all (okThings s.floors.length) = true ∧ wq = wr) (fun i _ => s.sills.length - (intOf i).toNat)
                          case atStart => exact ⟨0, Nat.zero_le _, rfl, rfl, rfl⟩
                          case round =>
                            obtain ⟨k, hk, rfl, ht, rfl⟩ := hrel
                            have HT := Lib.hid ht
                            clear ht
                            by_cases hlt : k < s.sills.length
                            · obtain ⟨b, off, rfl, x0, x1, x2⟩ := HL2.out.rs.triple k hlt
                              have b1 : (k : Int) < (s.sills.length : Int) := by omega
                              have b2 : (0 : Int) ≤ k := by omega
                              have sk : IntKind.i64.wrap ((k : Int) + 1) = (k : Int) + 1 := IntWalk.i64_in _ (by omega)
                              have sf : IntKind.i64.wrap ((s.floors.length : Int) - 1) = (s.floors.length : Int) - 1 := IntWalk.i64_in _ (by omega)
                              have HN := Lib.hid (all_take_succ' (f := okThings s.floors.length) hlt HT.out)
                              have HF := Lib.hid (fun h : okThings s.floors.length s.sills[k] = false => all_false_at (f := okThings s.floors.length) hlt h)
                              generalize s.sills[k] = x at *
                              obtain ⟨xa, xb, xc⟩ := x
                              dsimp only at x0 x1 x2
                              have HE := Lib.hid (show okThings s.floors.length (xa, xb, xc) = (inB xa (-1) ((s.floors.length : Int) - 1) && inB xb (-1) ((s.floors.length : Int) - 1)) by unfold okThings; rw [thing_eq xa _ (by omega), thing_eq xb _ (by omega)])
                              cases h1 : inB xa (-1) ((s.floors.length : Int) - 1)
                              · have HR := Lib.hid (show chk s = 1 by rw [HX3.out, if_pos (HF.out (by rw [HE.out, h1]; rfl))])
                                go_wp2_with (go_at_call 84; refine (off_c _ _ _ _).mono ?_; rintro e w' ⟨rfl, rfl⟩)
                                go_ret
                                exact ⟨by rw [HR.out]; rfl, HU2.out⟩
                              · cases h2 : inB xb (-1) ((s.floors.length : Int) - 1)
                                · have HR := Lib.hid (show chk s = 1 by rw [HX3.out, if_pos (HF.out (by rw [HE.out, h1, h2]; rfl))])
                                  go_wp2_with (go_at_call 84; refine (off_c _ _ _ _).mono ?_; rintro e w' ⟨rfl, rfl⟩)
                                  go_ret
                                  exact ⟨by rw [HR.out]; rfl, HU2.out⟩
                                · have HR := Lib.hid (HN.out (by rw [HE.out, h1, h2]; rfl))
                                  go_wp2_with (go_at_call 84; refine (off_c _ _ _ _).mono ?_; rintro e w' ⟨rfl, rfl⟩)
                                  go_roundw
                                  case rel => exact ⟨k + 1, hlt, by go_num, HR.out, by first | rfl | trivial⟩
                                  case measure => simp [intOf]; omega
                            · obtain rfl : k = s.sills.length := by omega
                              rw [List.take_length] at HT
                              have HX4 := Lib.hid (show chk s = if s.sills.all (fun x => x.1 != x.2.1) = false then 8 else 0 by rw [HX3.out, if_neg (by rw [HT.out]; decide)])
                              clear HT hk hlt HX3
                              go_wp2_with fail
                              go_loopw [9] (fun i wq => ∃ k : Nat, k ≤ s.sills.length ∧ i = .int .i64 k ∧ (s.sills.take k).all (fun x => x.1 != x.2.1) = true ∧ Up wr wq) (fun i _ => s.sills.length - (intOf i).toNat)
                              case atStart => exact ⟨0, Nat.zero_le _, rfl, rfl, Below.refl _ _⟩
                              case round =>
                                obtain ⟨k, hk, rfl, ht, hu⟩ := hrel
                                have HT := Lib.hid ht
                                have HU := Lib.hid hu
                                have e4 := hu.cellAt d4
                                clear ht hu
                                by_cases hlt : k < s.sills.length
                                · obtain ⟨b, off, rfl, x0, x1, x2⟩ := HL2.out.rs.triple k hlt
                                  have y0 := HU.out.cellAt x0
                                  have y1 := HU.out.cellAt x1
                                  have b1 : (k : Int) < (s.sills.length : Int) := by omega
                                  have b2 : (0 : Int) ≤ k := by omega
                                  have sk : IntKind.i64.wrap ((k : Int) + 1) = (k : Int) + 1 := IntWalk.i64_in _ (by omega)
                                  have HN := Lib.hid (all_take_succ' (f := fun x => x.1 != x.2.1) hlt HT.out)
                                  have HF := Lib.hid (fun h : (s.sills[k].1 != s.sills[k].2.1) = false => all_false_at (f := fun x : Int × Int × Int => x.1 != x.2.1) hlt h)
                                  clear x0 x1 x2
                                  generalize s.sills[k] = x at *
                                  obtain ⟨xa, xb, xc⟩ := x
                                  dsimp only at y0 y1
                                  go_wp2_with fail
                                  by_cases hxy : xa = xb
                                  · have HR := Lib.hid (show chk s = 8 by rw [HX4.out, if_pos (HF.out (by simp [hxy]))])
                                    go_quiet (fail)
                                    go_wp2_with fail
                                    go_ret
                                    exact ⟨by rw [HR.out]; rfl, Up.trans HU2.out (Below.drewN' HU.out _)⟩
                                  · have HR := Lib.hid (HN.out (by simp [hxy]))
                                    go_quiet (fail)
                                    go_wp2_with fail
                                    go_roundw
                                    case rel => exact ⟨k + 1, hlt, by go_num, HR.out, Below.drewN' HU.out _⟩
                                    case measure => simp [intOf]; omega
                                · obtain rfl : k = s.sills.length := by omega
                                  rw [List.take_length] at HT
                                  have HR := Lib.hid (show chk s = 0 by rw [HX4.out, if_neg (by rw [HT.out]; decide)])
                                  go_wp2_with fail
                                  go_ret
                                  exact ⟨by rw [HR.out]; rfl, Up.trans HU2.out HU.out⟩
end
end Go.Proofs.Ytcljkkojeleakaa
/- Plain facts for the law TideShifted: sands whose table is lifted and whose wind is let down by as much; a row of pairs changed in its place; sands that Made makes are right; the law's own first, last and line. -/
namespace Go.Proofs.Ytcljkkojeleakaa
section
open Go.RowKit

theorem chk_zero {s : Sd} (h : Ok s) : chk s = 0 := by
  obtain ⟨⟨t1, t2, t3, t4⟩, f0, f1, sl, lo0, hi1, lohi, fl, hs, good, two⟩ := h
  have h1 : okCounts s = true := by
    simp only [okCounts, Bool.and_eq_true, inB_true, decide_eq_true_eq]
    omega
  have h2 : okNumbers s = true := by
    simp only [okNumbers, Bool.and_eq_true, inB_true, List.all_eq_true, okWater]
    exact ⟨⟨⟨⟨fun x hx => ⟨⟨(t1 x hx).1, (t1 x hx).2.1⟩, (t1 x hx).2.2.1, (t1 x hx).2.2.2⟩, by omega, by omega⟩, by omega, by omega⟩, fl⟩, hs⟩
  have h3 : okOrder s = true := by
    simp only [okOrder, Bool.and_eq_true, decide_eq_true_eq]
    refine ⟨?_, lohi⟩
    unfold ordB
    rw [List.all_eq_true]
    intro i hi
    rw [List.mem_range] at hi
    have := t2 i (by omega)
    simpa [List.getD, List.getElem?_eq_getElem (show i + 1 < s.table.length by omega), List.getElem?_eq_getElem (show i < s.table.length by omega)] using this
  have h4 : s.sills.all (okThings s.floors.length) = true := by
    rw [List.all_eq_true]
    intro x hx
    have := good x hx
    simp only [okThings, Bool.and_eq_true, Bool.or_eq_true, beq_iff_eq, inB_true]
    omega
  have h5 : s.sills.all (fun x => x.1 != x.2.1) = true := by
    rw [List.all_eq_true]
    intro x hx
    simpa using two x hx
  unfold chk
  rw [if_neg (by rw [h1]; decide), if_neg (by rw [h2]; decide), if_neg (by rw [h3]; decide), if_neg (by rw [h4]; decide), if_neg (by rw [h5]; decide)]

/-- a point of the line, lifted -/
def lift (d : Int) (x : Int × Int) : Int × Int := (x.1, x.2 + d)
theorem onL_lift (d m : Int) (a b : Int × Int) (h : a.1 < b.1) : onL (lift d a) (lift d b) m = onL a b m + d := by
  unfold onL lift
  dsimp only
  rw [show (a.2 + d) * (b.1 - a.1) + (b.2 + d - (a.2 + d)) * (m - a.1) = a.2 * (b.1 - a.1) + (b.2 - a.2) * (m - a.1) + d * (b.1 - a.1) by
    rw [Int.add_mul, show b.2 + d - (a.2 + d) = b.2 - a.2 by omega]; omega]
  rw [Int.add_mul_ediv_right _ _ (by omega)]
theorem hgtFrom_lift (d m : Int) : ∀ (r : List (Int × Int)) (a : Int × Int), (∀ i (h : i + 1 < (a :: r).length), (a :: r)[i].1 < (a :: r)[i + 1].1) → hgtFrom (lift d a) (r.map (lift d)) m = hgtFrom a r m + d
  | [], a, _ => rfl
  | b :: r, a, h => by
    have h0 := h 0 (by simp)
    have hr := hgtFrom_lift d m r b (fun i hi => h (i + 1) (by simp only [List.length_cons] at hi ⊢; omega))
    have h0' : a.1 < b.1 := h0
    show (if m ≤ b.1 then onL (lift d a) (lift d b) m else hgtFrom (lift d b) (r.map (lift d)) m) = (if m ≤ b.1 then onL a b m else hgtFrom b r m) + d
    split
    · exact onL_lift d m a b h0'
    · exact hr
theorem hgt_lift (d m : Int) (l : List (Int × Int)) (h : ∀ i (h : i + 1 < l.length), l[i].1 < l[i + 1].1) (hl : 1 ≤ l.length) : hgt (l.map (lift d)) m = hgt l m + d := by
  match l, h, hl with
  | a :: r, h, _ => exact hgtFrom_lift d m r a h

theorem fixG_eq {s t : Sd} (h : ∀ g, lowered s g = lowered t g) : ∀ n g, fixG s n g = fixG t n g
  | 0, g => rfl
  | n + 1, g => by unfold fixG; rw [h g, fixG_eq h n]
theorem gts_eq {s t : Sd} (h1 : s.floors = t.floors) (h2 : s.sills = t.sills) : gts s = gts t := by
  obtain ⟨l, lo, hi, f, x⟩ := s
  obtain ⟨l', lo', hi', f', x'⟩ := t
  dsimp only at h1 h2
  subst h1 h2
  unfold gts
  generalize (9000 : Nat) = n
  exact fixG_eq (s := ⟨l, lo, hi, f, x⟩) (t := ⟨l', lo', hi', f, x⟩) (fun g => rfl) n top

/-- the wind let down, and the table lifted, by as much -/
def shifted (d : Int) (s : Sd) : Sd := ⟨s.table.map (lift d), s.lo - d, s.hi - d, s.floors, s.sills⟩
section
variable {s : Sd} {d : Int}
theorem shifted_ok (h : Ok s) (d0 : 0 ≤ d) (hd : ∀ x ∈ s.table, x.2 + d ≤ 999) (hlo : -50 ≤ s.lo - d) : Ok (shifted d s) := by
  obtain ⟨⟨t1, t2, t3, t4⟩, f0, f1, sl, lo0, hi1, lohi, fl, hs, good, two⟩ := h
  have hlen : (shifted d s).table.length = s.table.length := List.length_map ..
  refine ⟨⟨fun x hx => ?_, fun i hi => ?_, by omega, by omega⟩, f0, f1, sl, hlo, ?_, ?_, fl, hs, good, two⟩
  · obtain ⟨y, hy, rfl⟩ := List.mem_map.1 hx
    have h1 := t1 y hy
    have h2 := hd y hy
    show 0 ≤ y.1 ∧ y.1 ≤ 1440 ∧ 0 ≤ y.2 + d ∧ y.2 + d ≤ 999
    omega
  · have := t2 i (by omega)
    simpa [shifted, lift] using this
  · show s.hi - d ≤ 50; omega
  · show s.lo - d ≤ s.hi - d; omega
theorem shifted_first : firstM (shifted d s).table = firstM s.table := by
  unfold firstM shifted
  dsimp only
  rw [List.getElem?_map]
  cases s.table[0]? <;> rfl
theorem shifted_last : lastM (shifted d s).table = lastM s.table := by
  unfold lastM shifted
  dsimp only
  rw [List.length_map, List.getElem?_map]
  cases s.table[s.table.length - 1]? <;> rfl
theorem shifted_inDay (m : Int) : inDay (shifted d s) m = inDay s m := by
  unfold inDay
  rw [shifted_first, shifted_last]
theorem shifted_hgt (h : Ok s) (m : Int) : hgt (shifted d s).table m = hgt s.table m + d := hgt_lift d m s.table h.table.2.1 (by have := h.table.2.2.1; omega)
theorem shifted_st (h : Ok s) (m : Int) (p : Nat) : st (shifted d s) m p = st s m p := by
  have e : gateOf (shifted d s) p = gateOf s p := by unfold gateOf; rw [gts_eq (s := shifted d s) (t := s) rfl rfl]
  unfold st
  rw [e, shifted_hgt h]
  have h1 : (shifted d s).lo = s.lo - d := rfl
  have h2 : (shifted d s).hi = s.hi - d := rfl
  rw [h1, h2, show hgt s.table m + d + (s.lo - d) = hgt s.table m + s.lo by omega, show hgt s.table m + d + (s.hi - d) = hgt s.table m + s.hi by omega]
theorem shifted_errAt (h : Ok s) (h' : Ok (shifted d s)) (m : Int) : errAt (shifted d s) m = errAt s m := by
  unfold errAt
  rw [chk_zero h, chk_zero h', shifted_inDay]
theorem shifted_errFor (h : Ok s) (h' : Ok (shifted d s)) (p : Int) : errFor (shifted d s) p = errFor s p := by
  unfold errFor
  rw [chk_zero h, chk_zero h']
  rfl
theorem shifted_allV (h : Ok s) (h' : Ok (shifted d s)) (m : Int) : allV (shifted d s) m = allV s m := by
  unfold allV
  rw [shifted_errAt h h']
  have : allS (shifted d s) m = allS s m := by
    unfold allS
    show (List.range s.floors.length).map _ = _
    exact List.map_congr_left (fun p _ => shifted_st h m p)
  rw [this]
theorem shifted_levelV (h : Ok s) (h' : Ok (shifted d s)) (m : Int) : levelV (shifted d s) m = levelV s m := by
  unfold levelV
  rw [shifted_errAt h h', shifted_hgt h]
  have h1 : (shifted d s).lo = s.lo - d := rfl
  have h2 : (shifted d s).hi = s.hi - d := rfl
  rw [h1, h2, show hgt s.table m + d + (s.lo - d) = hgt s.table m + s.lo by omega, show hgt s.table m + d + (s.hi - d) = hgt s.table m + s.hi by omega]
theorem shifted_drySpans (h : Ok s) (ps : List Int) : drySpans (shifted d s) ps = drySpans s ps := by
  have e : dryB (shifted d s) ps = dryB s ps := by
    funext m
    unfold dryB fitB
    simp only [shifted_st h]
  unfold drySpans dayN
  rw [e, shifted_first, shifted_last]
theorem shifted_turnV (h : Ok s) (h' : Ok (shifted d s)) (p m : Int) : turnV (shifted d s) p m = turnV s p m := by
  unfold turnV
  rw [shifted_errFor h h', shifted_inDay, shifted_drySpans h]
theorem shifted_errTurn (h : Ok s) (h' : Ok (shifted d s)) (p m : Int) : errTurn (shifted d s) p m = errTurn s p m := by
  unfold errTurn
  rw [shifted_errFor h h', shifted_inDay, shifted_drySpans h]
end
end

section
open Go.RowKit Go.Shelf

theorem five {w : World} {B : Nat} {a b c d e : Value} {T : TypeId} (h : Blk w B [a, b, c, d, e] T) :
    w.cell? ⟨B, 0, none⟩ = some a ∧ w.cell? ⟨B, 1, none⟩ = some b ∧ w.cell? ⟨B, 2, none⟩ = some c ∧ w.cell? ⟨B, 3, none⟩ = some d ∧ w.cell? ⟨B, 4, none⟩ = some e :=
  ⟨h.cell 0, h.cell 1, h.cell 2, h.cell 3, h.cell 4⟩
/-- the value of shifted sands -/
def shVal (d : Int) (s : Sd) (pT pF pS : Option Addr) (cT cF cS : Nat) : Value :=
  .agg #[.slice pT s.table.length cT, .int .i64 (s.lo - d), .int .i64 (s.hi - d), .slice pF s.floors.length cF, .slice pS s.sills.length cS]
section
variable {s : Sd} {d y : Int} {pT pF pS : Option Addr} {cT cF cS : Nat} {w : World}
theorem shVal_eq : sdVal (shifted d s) pT pF pS cT cF cS = shVal d s pT pF pS cT cF cS := by
  unfold sdVal shVal shifted
  dsimp only
  rw [List.length_map]
theorem errAt_in (ok : Ok s) (h : inDay s y = true) : errAt s y = 0 := by unfold errAt; rw [if_pos (chk_zero ok), h]; rfl
theorem levelV_in (ok : Ok s) (h : inDay s y = true) : levelV s y = (hgt s.table y + s.lo, hgt s.table y + s.hi) := by unfold levelV; rw [if_pos (errAt_in ok h)]
theorem sAll_c (ok : Ok s) (h : inDay s y = true) (hl : Lists w s pT pF pS cT cF cS) :
    Calls Try.prog 42 #[sdVal s pT pF pS cT cF cS, .int .i64 y] w fun e w' => ∃ p c, e = .returned (.tuple #[.slice p (allV s y).length c, .int .i64 0]) ∧ (allV s y).length ≤ c ∧ c ≤ maxLen ∧ Row w' p 1 (ints (allV s y)) ∧ Up w w' := by
  have := All_c s y w hl
  rw [errAt_in ok h] at this
  exact this
theorem shAll_c (ok : Ok s) (ok' : Ok (shifted d s)) (h : inDay s y = true) (hl : Lists w (shifted d s) pT pF pS cT cF cS) :
    Calls Try.prog 42 #[shVal d s pT pF pS cT cF cS, .int .i64 y] w fun e w' => ∃ p c, e = .returned (.tuple #[.slice p (allV s y).length c, .int .i64 0]) ∧ (allV s y).length ≤ c ∧ c ≤ maxLen ∧ Row w' p 1 (ints (allV s y)) ∧ Up w w' := by
  have := sAll_c ok' (by rw [shifted_inDay]; exact h) hl
  rw [shVal_eq, shifted_allV ok ok'] at this
  exact this
theorem sLevel_c (ok : Ok s) (h : inDay s y = true) (hl : Lists w s pT pF pS cT cF cS) :
    Calls Try.prog 26 #[sdVal s pT pF pS cT cF cS, .int .i64 y] w fun e w' => e = .returned (.tuple #[.agg #[.int .i64 (hgt s.table y + s.lo), .int .i64 (hgt s.table y + s.hi)], .int .i64 0]) ∧ Up w w' := by
  have := Level_c s y w hl
  rw [errAt_in ok h, levelV_in ok h] at this
  exact this
theorem shLevel_c (ok : Ok s) (ok' : Ok (shifted d s)) (h : inDay s y = true) (hl : Lists w (shifted d s) pT pF pS cT cF cS) :
    Calls Try.prog 26 #[shVal d s pT pF pS cT cF cS, .int .i64 y] w fun e w' => e = .returned (.tuple #[.agg #[.int .i64 (hgt s.table y + s.lo), .int .i64 (hgt s.table y + s.hi)], .int .i64 0]) ∧ Up w w' := by
  have := Level_c (shifted d s) y w hl
  rw [shVal_eq, shifted_errAt ok ok', errAt_in ok h, shifted_levelV ok ok', levelV_in ok h] at this
  exact this
theorem shTurn_c (ok : Ok s) (ok' : Ok (shifted d s)) (x : Int) (hl : Lists w (shifted d s) pT pF pS cT cF cS) :
    Calls Try.prog 63 #[shVal d s pT pF pS cT cF cS, .int .i64 x, .int .i64 y] w fun e w' => e = .returned (.tuple #[.int .i64 (turnV s x y), .int .i64 (errTurn s x y)]) ∧ Up w w' := by
  have := Turn_c (shifted d s) x y w hl
  rw [shVal_eq, shifted_turnV ok ok', shifted_errTurn ok ok'] at this
  exact this
theorem errTurn_or (ok : Ok s) (x : Int) (hx : 0 ≤ x ∧ x < s.floors.length) (h : inDay s y = true) : errTurn s x y = 0 ∨ errTurn s x y = 6 := by
  have h1 : errFor s x = 0 := by
    unfold errFor
    rw [if_pos (chk_zero ok)]
    have : isPl s x = true := inB_true.2 (by omega)
    rw [this]; rfl
  unfold errTurn
  rw [if_pos h1, if_pos h]
  split
  · exact Or.inl rfl
  · exact Or.inr rfl
end
end

section
open Go.RowKit Go.Shelf

theorem flat_set : ∀ (l : List (Int × Int)) (k : Nat) (v : Int) (h : k < l.length), (pairs l).flatten.set (k * 2 + 1) (.int .i64 v) = (pairs (l.set k (l[k].1, v))).flatten
  | a :: r, 0, v, _ => rfl
  | a :: r, k + 1, v, h => by
    have hk : k < r.length := by simpa using h
    have ih := flat_set r k v hk
    show (.int .i64 a.1 :: .int .i64 a.2 :: (pairs r).flatten).set ((k + 1) * 2 + 1) (.int .i64 v) = .int .i64 a.1 :: .int .i64 a.2 :: (pairs (r.set k (r[k].1, v))).flatten
    rw [show (k + 1) * 2 + 1 = k * 2 + 1 + 1 + 1 by omega, List.set_cons_succ, List.set_cons_succ, ih]

/-- the first k lifted -/
def partly (d : Int) (l : List (Int × Int)) (k : Nat) : List (Int × Int) := (l.take k).map (lift d) ++ l.drop k
theorem partly_zero (d : Int) (l : List (Int × Int)) : partly d l 0 = l := by simp [partly]
theorem partly_all (d : Int) (l : List (Int × Int)) : partly d l l.length = l.map (lift d) := by simp [partly]
theorem partly_len (d : Int) (l : List (Int × Int)) (k : Nat) : (partly d l k).length = l.length := by
  unfold partly
  rw [List.length_append, List.length_map, List.length_take, List.length_drop]
  omega
theorem partly_at (d : Int) (l : List (Int × Int)) (k : Nat) (h : k < l.length) : (partly d l k)[k]'(by rw [partly_len]; exact h) = l[k] := by
  unfold partly
  rw [List.getElem_append_right (by rw [List.length_map, List.length_take]; omega)]
  simp only [List.length_map, List.length_take, List.getElem_drop]
  congr 1
  omega
theorem partly_step (d : Int) (l : List (Int × Int)) (k : Nat) (h : k < l.length) : (partly d l k).set k (l[k].1, l[k].2 + d) = partly d l (k + 1) := by
  unfold partly
  have e : ((l.take k).map (lift d)).length = k := by rw [List.length_map, List.length_take]; omega
  rw [List.set_append_right _ _ (by omega), e, Nat.sub_self, List.drop_eq_getElem_cons h, List.set_cons_zero]
  rw [List.take_succ_eq_append_getElem h, List.map_append, List.append_assoc]
  rfl

/-- a block of pairs: what its first cells are -/
def PairBlk (w : World) (g : Nat) (l : List (Int × Int)) : Prop := ∃ cur : List Value, Blk w g cur 103 ∧ cur.take (l.length * 2) = (pairs l).flatten
section
variable {w : World} {g n₀ k c : Nat} {l : List (Int × Int)} {d : Int} {p : Option Addr}
theorem PairBlk.cells (h : PairBlk w g l) (hk : k < l.length) : w.cell? ⟨g, k * 2, none⟩ = some (.int .i64 l[k].1) ∧ w.cell? ⟨g, k * 2 + 1, none⟩ = some (.int .i64 l[k].2) := by
  obtain ⟨cur, hb, ht⟩ := h
  have hx : (pairs l)[k]? = some [.int .i64 l[k].1, .int .i64 l[k].2] := by simp [pairs, hk]
  have c0 := flat_at 2 (pairs l) (flatOk_pairs l) k _ hx 0 (.int .i64 l[k].1) rfl
  have c1 := flat_at 2 (pairs l) (flatOk_pairs l) k _ hx 1 (.int .i64 l[k].2) rfl
  rw [← ht, List.getElem?_take_of_lt (by omega)] at c0 c1
  rw [hb.cell, hb.cell]
  exact ⟨c0, c1⟩
theorem PairBlk.free (h : PairBlk w g l) (i : Nat) : w.frozen? ⟨g, i, none⟩ = false := by
  obtain ⟨cur, hb, -⟩ := h
  exact hb.free i
theorem PairBlk.lt (h : PairBlk w g l) : g < w.heap.size := by
  obtain ⟨cur, hb, -⟩ := h
  exact hb.lt
theorem PairBlk.row (h : PairBlk w g l) : Row w (some ⟨g, 0, none⟩) 2 (pairs l) := by
  intro i row hi
  have hl : i < l.length := by have := (List.getElem?_eq_some_iff.1 hi).1; simpa [pairs] using this
  obtain ⟨cur, hb, ht⟩ := h
  refine ⟨g, 0, rfl, fun j x hj => ?_⟩
  have hr := flat_at 2 (pairs l) (flatOk_pairs l) i row hi j x hj
  have hj2 : j < 2 := by
    have h1 : row.length = 2 := by simp only [pairs, List.getElem?_map, Option.map_eq_some_iff] at hi; obtain ⟨y, -, rfl⟩ := hi; rfl
    have := (List.getElem?_eq_some_iff.1 hj).1
    omega
  rw [← ht, List.getElem?_take_of_lt (by omega)] at hr
  rw [hb.cell, Nat.zero_add]
  exact hr
theorem PairBlk.lift (h : PairBlk w g (partly d l k)) (hk : k < l.length) : PairBlk (w.setCell ⟨g, k * 2 + 1, none⟩ (.int .i64 (l[k].2 + d))) g (partly d l (k + 1)) := by
  obtain ⟨cur, hb, ht⟩ := h
  refine ⟨_, hb.set _ _, ?_⟩
  have hm : k < (partly d l k).length := by rw [partly_len]; exact hk
  rw [partly_len] at ht ⊢
  have hs := flat_set (partly d l k) k (l[k].2 + d) hm
  rw [partly_at d l k hk, partly_step d l k hk] at hs
  rw [← hs, ← ht, List.take_set]
theorem PairBlk.of (h : w.ownsRow n₀ 103 2 (.slice p l.length c) l.length (pairs l).flatten) (hl : 0 < l.length) : ∃ g, p = some ⟨g, 0, none⟩ ∧ n₀ ≤ g ∧ PairBlk w g l := by
  rcases h.2 with ⟨-, h0⟩ | ⟨g, cap, cur, h1, h2, h3, h4, h5, h6, h7⟩
  · omega
  · injection h1 with e1 e2 e3
    exact ⟨g, e1, h2, cur.toList, h3, h7⟩
/-- rows of another type lie elsewhere -/
theorem PairBlk.ne {E : TypeId} {m n : Nat} {q : Option Addr} {xs : List Value} (h : PairBlk w g l) (h' : w.ownsRow n₀ E m (.slice q n c) n xs) (hE : E ≠ 103) : ∀ b off, q = some ⟨b, off, none⟩ → b ≠ g := by
  intro b off e hb
  obtain ⟨cur, hc, -⟩ := h
  rcases h'.2 with ⟨h1, -⟩ | ⟨g', cap, cur', h1, h2, h3, h4⟩
  · injection h1 with e1 e2 e3
    rw [e1] at e; cases e
  · injection h1 with e1 e2 e3
    rw [e1] at e
    simp only [Option.some.injEq, Addr.mk.injEq] at e
    have hg : g' = g := by omega
    rw [hg] at h3
    have h5 := h3.symm.trans hc
    simp only [Option.some.injEq, Obj.cells.injEq] at h5
    exact hE h5.2.1
end
end

section
open Go.RowKit

theorem IsMade.ok {places sills : Nat} {s : Sd} (h : IsMade places sills s) (hp : places ≤ 8) (hs : sills ≤ 16) : Ok s := by
  obtain ⟨⟨a, ta, tb, tc, td⟩, t2, t4, lo, hi, f1, fn, fl, sn, sl⟩ := h
  refine ⟨⟨fun x hx => ?_, tb, t2, by omega⟩, f1, by omega, by omega, by omega, by omega, by omega, fun x hx => ?_, fun x hx => ?_, fun x hx => ?_, fun x hx => ?_⟩
  · have := ta x hx; omega
  · have := fl x hx; omega
  · have := (sl x hx).2.2.2; omega
  · obtain ⟨h1, h2, -, -⟩ := sl x hx; omega
  · exact (sl x hx).2.2.1
theorem IsMade.shift {places sills : Nat} {s : Sd} {d : Int} (h : IsMade places sills s) (hp : places ≤ 8) (hs : sills ≤ 16) (d0 : 0 ≤ d) (d1 : d ≤ 40) : Ok (shifted d s) := by
  refine shifted_ok (h.ok hp hs) d0 (fun x hx => ?_) (by have := h.lo; omega)
  obtain ⟨a, ta, -⟩ := h.table
  have := ta x hx; omega
end

section
open Go.RowKit Go.Shelf

section
variable {pT pF pS : Option Addr} {cT cF cS : Nat}
set_option maxRecDepth 100000 in
theorem firstL_c (s : Sd) (w : World) (hl : Lists w s pT pF pS cT cF cS) (h2 : 2 ≤ s.table.length) : Calls Try.prog 55 #[sdVal s pT pF pS cT cF cS] w fun e w' => e = .returned (.int .i64 (firstM s.table)) ∧ Up w w' := by
  obtain ⟨b, off, rfl, c0, -⟩ := hl.rt.pair 0 (by omega)
  have hb2 := cell_lt c0
  simp only [Nat.zero_mul, Nat.add_zero] at c0
  have E := Lib.hid (show firstM s.table = (s.table[0]'(by omega)).1 by simp [firstM, List.getElem?_eq_getElem (show 0 < s.table.length by omega)])
  have k : (0 : Int) < s.table.length := by omega
  clear hl
  unfold sdVal
  go_enter Try.func55, Try.ntmps55
  go_wp2
  go_ret
  exact ⟨ret_int E.out.symm, by (repeat (first | exact Below.refl _ _ | (with_reducible refine Below.drewN' ?_ _) | (with_reducible refine Below.drew ?_) | (with_reducible refine Below.setCell ?_ (by first | exact Nat.le_refl _ | omega | (with_reducible (repeat (first | refine sz_alloc ?_ | refine sz_setCell ?_ | refine sz_drew ?_ | refine sz_drewN ?_)); first | exact Nat.le_refl _ | omega) | (simp only [World.size_alloc, World.size_setCell, World.size_drew, size_drewN']; omega)) _) | (with_reducible refine Below.alloc ?_ (by first | exact Nat.le_refl _ | omega | (with_reducible (repeat (first | refine sz_alloc ?_ | refine sz_setCell ?_ | refine sz_drew ?_ | refine sz_drewN ?_)); first | exact Nat.le_refl _ | omega) | (simp only [World.size_alloc, World.size_setCell, World.size_drew, size_drewN']; omega)) _) | assumption))⟩

set_option maxRecDepth 100000 in
theorem lastL_c (s : Sd) (w : World) (hl : Lists w s pT pF pS cT cF cS) (h2 : 2 ≤ s.table.length) (h12 : s.table.length ≤ 12) : Calls Try.prog 56 #[sdVal s pT pF pS cT cF cS] w fun e w' => e = .returned (.int .i64 (lastM s.table)) ∧ Up w w' := by
  obtain ⟨b, off, rfl, c0, -⟩ := hl.rt.pair (s.table.length - 1) (by omega)
  have hb2 := cell_lt c0
  have E := Lib.hid (show lastM s.table = (s.table[s.table.length - 1]'(by omega)).1 by simp [lastM, List.getElem?_eq_getElem (show s.table.length - 1 < s.table.length by omega)])
  have k : (0 : Int) < s.table.length := by omega
  have k1 : ((s.table.length : Int) - 1) < s.table.length := by omega
  have k2 : (0 : Int) ≤ ((s.table.length : Int) - 1) := by omega
  have k3 : ((s.table.length : Int) - 1).toNat = s.table.length - 1 := by omega
  have s1 : IntKind.i64.wrap ((s.table.length : Int) - 1) = (s.table.length : Int) - 1 := IntWalk.i64_in _ (by omega)
  clear hl
  unfold sdVal
  go_enter Try.func56, Try.ntmps56
  go_wp2
  go_ret
  exact ⟨ret_int E.out.symm, by (repeat (first | exact Below.refl _ _ | (with_reducible refine Below.drewN' ?_ _) | (with_reducible refine Below.drew ?_) | (with_reducible refine Below.setCell ?_ (by first | exact Nat.le_refl _ | omega | (with_reducible (repeat (first | refine sz_alloc ?_ | refine sz_setCell ?_ | refine sz_drew ?_ | refine sz_drewN ?_)); first | exact Nat.le_refl _ | omega) | (simp only [World.size_alloc, World.size_setCell, World.size_drew, size_drewN']; omega)) _) | (with_reducible refine Below.alloc ?_ (by first | exact Nat.le_refl _ | omega | (with_reducible (repeat (first | refine sz_alloc ?_ | refine sz_setCell ?_ | refine sz_drew ?_ | refine sz_drewN ?_)); first | exact Nat.le_refl _ | omega) | (simp only [World.size_alloc, World.size_setCell, World.size_drew, size_drewN']; omega)) _) | assumption))⟩

/-- how the law rounds down -/
theorem round_down (a b : Int × Int) (m : Int) (h : a.1 < b.1) : (a.2 * (b.1 - a.1) + (b.2 - a.2) * (m - a.1) + 1000 * (b.1 - a.1)) / (b.1 - a.1) - 1000 = onL a b m := by
  unfold onL
  rw [Int.add_mul_ediv_right _ _ (by omega)]
  omega

set_option maxRecDepth 100000 in
set_option maxHeartbeats 1000000 in
theorem line_c (s : Sd) (m : Int) (w : World) (hl : Lists w s pT pF pS cT cF cS) (ok : okTable s.table) (hd : inDay s m = true) : Calls Try.prog 62 #[sdVal s pT pF pS cT cF cS, .int .i64 m] w fun e w' => e = .returned (.int .i64 (hgt s.table m)) ∧ Up w w' := by
  have HOK := Lib.hid ok
  obtain ⟨okx, oki, hl2, hl12⟩ := ok
  obtain ⟨d1, d2⟩ := inB_true.1 (show inB m (firstM s.table) (lastM s.table) = true from hd)
  have e1 : firstM s.table = (s.table[0]'(by omega)).1 := by simp [firstM, List.getElem?_eq_getElem (show 0 < s.table.length by omega)]
  have e2 : lastM s.table = (s.table[s.table.length - 1]'(by omega)).1 := by simp [lastM, List.getElem?_eq_getElem (show s.table.length - 1 < s.table.length by omega)]
  rw [e1] at d1
  rw [e2] at d2
  have hr := hl.rt
  have hc := hl.ct
  clear hl e1 e2 hd
  obtain ⟨l, lo, hi, fl, sl⟩ := s
  dsimp only at *
  have hl2' : 2 ≤ l.length := hl2
  have hl12' : l.length ≤ 12 := hl12
  obtain ⟨b, off, rfl, hc0, -⟩ := hr.pair 0 (by omega)
  have hbl := cell_lt hc0
  have kl : (0 : Int) < l.length := by omega
  clear hc0
  unfold sdVal
  go_enter Try.func62, Try.ntmps62
  go_wp2
  go_loopw [12] (fun i wr => ∃ k : Nat, k ≤ l.length ∧ i = .int .i64 k ∧ Up w wr ∧ Blk wr w.heap.size [.slice (some ⟨b, off, none⟩) l.length cT, .int .i64 lo, .int .i64 hi, .slice pF fl.length cF, .slice pS sl.length cS] 28 ∧ ∀ j (hj : j < l.length), j < k → l[j].1 < m) (fun i _ => l.length - (intOf i).toNat)
  case atStart => exact ⟨0, by omega, rfl, by (repeat (first | exact Below.refl _ _ | (with_reducible refine Below.drewN' ?_ _) | (with_reducible refine Below.drew ?_) | (with_reducible refine Below.setCell ?_ (by first | exact Nat.le_refl _ | omega | (with_reducible (repeat (first | refine sz_alloc ?_ | refine sz_setCell ?_ | refine sz_drew ?_ | refine sz_drewN ?_)); first | exact Nat.le_refl _ | omega) | (simp only [World.size_alloc, World.size_setCell, World.size_drew, size_drewN']; omega)) _) | (with_reducible refine Below.alloc ?_ (by first | exact Nat.le_refl _ | omega | (with_reducible (repeat (first | refine sz_alloc ?_ | refine sz_setCell ?_ | refine sz_drew ?_ | refine sz_drewN ?_)); first | exact Nat.le_refl _ | omega) | (simp only [World.size_alloc, World.size_setCell, World.size_drew, size_drewN']; omega)) _) | assumption)), Blk.new _ _ _, fun j _ h => by omega⟩
  case round =>
    obtain ⟨k, hk, rfl, hu, hB, hlow⟩ := hrel
    have HU := Lib.hid hu
    have HBk := Lib.hid hB
    have HLow := Lib.hid hlow
    have B0 := hB.cell 0
    have BL := hB.lt
    simp only [List.getElem?_cons_zero] at B0
    clear hu hB
    by_cases hlt : k < l.length
    · obtain ⟨b', off', e, hd0, hd1⟩ := hr.pair k hlt
      obtain ⟨rfl, rfl⟩ : b = b' ∧ off = off' := by simpa using e
      clear e
      have hd0' := HU.out.cellAt hd0
      have hd1' := HU.out.cellAt hd1
      have q1 : (k : Int) < l.length := by omega
      obtain ⟨x1, x2, x3, x4⟩ := okx l[k] (List.getElem_mem _)
      by_cases hm : l[k].1 = m
      · have HE : Hid (hgt l m = l[k].2) := Lib.hid (by rw [← hm]; exact hgt_knot HOK.out k hlt)
        go_wp2
        go_ret
        refine ⟨ret_int ?_, ?_⟩
        · rw [HE.out]
        · exact Up.trans HU.out (by (repeat (first | exact Below.refl _ _ | (with_reducible refine Below.drewN' ?_ _) | (with_reducible refine Below.drew ?_) | (with_reducible refine Below.setCell ?_ (by first | exact Nat.le_refl _ | omega | (with_reducible (repeat (first | refine sz_alloc ?_ | refine sz_setCell ?_ | refine sz_drew ?_ | refine sz_drewN ?_)); first | exact Nat.le_refl _ | omega) | (simp only [World.size_alloc, World.size_setCell, World.size_drew, size_drewN']; omega)) _) | (with_reducible refine Below.alloc ?_ (by first | exact Nat.le_refl _ | omega | (with_reducible (repeat (first | refine sz_alloc ?_ | refine sz_setCell ?_ | refine sz_drew ?_ | refine sz_drewN ?_)); first | exact Nat.le_refl _ | omega) | (simp only [World.size_alloc, World.size_setCell, World.size_drew, size_drewN']; omega)) _) | assumption)))
      · by_cases hg : m < l[k].1
        · have hk0 : 0 < k := by
            rcases Nat.eq_zero_or_pos k with h0 | h0
            · subst h0; omega
            · exact h0
          obtain ⟨i, rfl⟩ : ∃ i, k = i + 1 := ⟨k - 1, by omega⟩
          obtain ⟨b'', off'', e, ha0, ha1⟩ := hr.pair i (by omega)
          obtain ⟨rfl, rfl⟩ : b = b'' ∧ off = off'' := by simpa using e
          clear e
          have ha0' := HU.out.cellAt ha0
          have ha1' := HU.out.cellAt ha1
          obtain ⟨y1, y2, y3, y4⟩ := okx (l[i]'(by omega)) (List.getElem_mem _)
          have hlow' := hlow i (by omega) (by omega)
          have hlk := oki i hlt
          have HE : Hid (hgt l m = onL (l[i]'(by omega)) l[i + 1] m) := Lib.hid (hgt_seg l m i hlt (fun j hj _ h => hlow j hj (by omega)) (by omega))
          have k1 := mul_rng (l[i + 1].1 - (l[i]'(by omega)).1) (l[i]'(by omega)).2 1440 999 (by omega) (by omega) (by omega) (by omega) (by omega)
          have k2 := mul_rng (m - (l[i]'(by omega)).1) (l[i + 1].2 - (l[i]'(by omega)).2) 1440 999 (by omega) (by omega) (by omega) (by omega) (by omega)
          have k3 := onL_nonneg (l[i]'(by omega)).1 (l[i]'(by omega)).2 l[i + 1].1 l[i + 1].2 m hlk (by omega) (by omega) y3 x3
          have kr := round_down (l[i]'(by omega)) l[i + 1] m hlk
          generalize (l[i]'(by omega)).1 = m0 at *
          generalize (l[i]'(by omega)).2 = h0 at *
          generalize l[i + 1].1 = m1 at *
          generalize l[i + 1].2 = h1 at *
          obtain ⟨k4, k5⟩ := k1
          obtain ⟨k6, k7⟩ := k2
          have k8 : 0 ≤ (h0 * (m1 - m0) + (h1 - h0) * (m - m0) + 1000 * (m1 - m0)) / (m1 - m0) := Int.ediv_nonneg (by omega) (by omega)
          have k9 : (h0 * (m1 - m0) + (h1 - h0) * (m - m0) + 1000 * (m1 - m0)) / (m1 - m0) ≤ 9223372036854775807 := by
            have := Int.ediv_le_self (m1 - m0) (show 0 ≤ h0 * (m1 - m0) + (h1 - h0) * (m - m0) + 1000 * (m1 - m0) by omega)
            omega
          have s1 : IntKind.i64.wrap (((i + 1 : Nat) : Int) - 1) = (i : Int) := by rw [show ((i + 1 : Nat) : Int) - 1 = (i : Int) by omega]; exact IntWalk.i64_in _ (by omega)
          have q2 : (i : Int) < l.length := by omega
          have KR := Lib.hid (kr.trans HE.out.symm)
          have hbr := cell_lt ha0'
          clear hd0 hd1 ha0 ha1 hlow kr HE okx oki d1 d2
          go_wp2
          go_ret
          exact ⟨ret_int KR.out, Up.trans HU.out (by (repeat (first | exact Below.refl _ _ | (with_reducible refine Below.drewN' ?_ _) | (with_reducible refine Below.drew ?_) | (with_reducible refine Below.setCell ?_ (by first | exact Nat.le_refl _ | omega | (with_reducible (repeat (first | refine sz_alloc ?_ | refine sz_setCell ?_ | refine sz_drew ?_ | refine sz_drewN ?_)); first | exact Nat.le_refl _ | omega) | (simp only [World.size_alloc, World.size_setCell, World.size_drew, size_drewN']; omega)) _) | (with_reducible refine Below.alloc ?_ (by first | exact Nat.le_refl _ | omega | (with_reducible (repeat (first | refine sz_alloc ?_ | refine sz_setCell ?_ | refine sz_drew ?_ | refine sz_drewN ?_)); first | exact Nat.le_refl _ | omega) | (simp only [World.size_alloc, World.size_setCell, World.size_drew, size_drewN']; omega)) _) | assumption)))⟩
        · go_wp2
          go_roundw
          case rel =>
            refine ⟨k + 1, by omega, by go_num, Up.trans HU.out (by (repeat (first | exact Below.refl _ _ | (with_reducible refine Below.drewN' ?_ _) | (with_reducible refine Below.drew ?_) | (with_reducible refine Below.setCell ?_ (by first | exact Nat.le_refl _ | omega | (with_reducible (repeat (first | refine sz_alloc ?_ | refine sz_setCell ?_ | refine sz_drew ?_ | refine sz_drewN ?_)); first | exact Nat.le_refl _ | omega) | (simp only [World.size_alloc, World.size_setCell, World.size_drew, size_drewN']; omega)) _) | (with_reducible refine Below.alloc ?_ (by first | exact Nat.le_refl _ | omega | (with_reducible (repeat (first | refine sz_alloc ?_ | refine sz_setCell ?_ | refine sz_drew ?_ | refine sz_drewN ?_)); first | exact Nat.le_refl _ | omega) | (simp only [World.size_alloc, World.size_setCell, World.size_drew, size_drewN']; omega)) _) | assumption))), HBk.out.alloc _, fun j hj h => ?_⟩
            rcases Nat.lt_or_ge j k with h1 | h1
            · exact HLow.out j hj h1
            · obtain rfl : j = k := by omega
              omega
          case measure => simp [intOf]; omega
    · exfalso
      have := hlow (l.length - 1) (by omega) (by omega)
      omega
end
end
end Go.Proofs.Ytcljkkojeleakaa
/- Plain facts: the lowering of gates as a row of updates; gates of raised sands, and of sands with one sill more. -/
namespace Go.Proofs.Ytcljkkojeleakaa
section
open Go.RowKit

/-- what a sill lowers that leads on from a place: which gate, and to what at most -/
def up1 (F : List Int) (f : Int) (x : Int × Int × Int) : Option (Nat × Int) :=
  if 0 ≤ other x f ∧ (other x f).toNat < F.length then some ((other x f).toNat, grt [x.2.2, F[(other x f).toNat]?.getD 0]) else none
def ap1 (g : List Int) (u : Nat × Int) : List Int := g.set u.1 (min (g[u.1]?.getD 0) u.2)
def ap2 (f : Nat) (g : List Int) (u : Nat × Int) : List Int := g.set u.1 (min (g[u.1]?.getD 0) (grt [g[f]?.getD 0, u.2]))

/-- a lead as an update -/
def ofLead (s : Sd) (x : Lead s.sills.length s.floors.length) : Nat × Int := (x.1.2, grt [(s.sills[x.1.1]'x.2.1).2.2, s.floors[x.1.2]'x.2.2])
theorem lead1_up (s : Sd) (f : Int) (i : Nat) : (lead1 s.sills s.floors.length f i).map (ofLead s) = if i < s.sills.length then up1 s.floors f (s.sills[i]?.getD (0, 0, 0)) else none := by
  unfold lead1 up1
  by_cases hi : i < s.sills.length
  · rw [if_pos hi]
    have e : s.sills[i] = s.sills[i]?.getD (0, 0, 0) := by rw [List.getElem?_eq_getElem hi]; rfl
    by_cases h : 0 ≤ other (s.sills[i]?.getD (0, 0, 0)) f ∧ (other (s.sills[i]?.getD (0, 0, 0)) f).toNat < s.floors.length
    · rw [dif_pos ⟨hi, h⟩, if_pos h]
      simp only [Option.map_some, ofLead]
      rw [e, List.getElem?_eq_getElem h.2, Option.getD_some]
    · rw [dif_neg (fun h' => h h'.2), if_neg h]; rfl
  · rw [if_neg hi, dif_neg (fun h' => hi h'.1)]; rfl
theorem fm_congr {α β : Type} {l : List α} {f g : α → Option β} (h : ∀ x ∈ l, f x = g x) : l.filterMap f = l.filterMap g := by
  induction l with
  | nil => rfl
  | cons a r ih => rw [List.filterMap_cons, List.filterMap_cons, h a (by simp), ih (fun x hx => h x (by simp [hx]))]
theorem filterMap_range {α β : Type} (l : List α) (d : α) (q : α → Option β) : (List.range l.length).filterMap (fun i => if i < l.length then q (l[i]?.getD d) else none) = l.filterMap q := by
  have e : l = (List.range l.length).map (fun i => l[i]?.getD d) := by
    apply List.ext_getElem
    · simp
    · intro i h1 h2; simp [List.getElem?_eq_getElem h1]
  conv => rhs; rw [e]
  rw [List.filterMap_map]
  apply fm_congr
  intro i hi
  rw [List.mem_range] at hi
  simp [hi]
theorem leads_up (s : Sd) (f : Int) : (leads s.sills s.floors.length f s.sills.length).map (ofLead s) = s.sills.filterMap (up1 s.floors f) := by
  unfold leads
  rw [List.map_filterMap, ← filterMap_range s.sills (0, 0, 0)]
  apply fm_congr
  intro i _
  exact lead1_up s f i
theorem lowSea_up (s : Sd) (g : List Int) : lowSea s g = (s.sills.filterMap (up1 s.floors (-1))).foldl ap1 g := by
  unfold lowSea
  rw [← leads_up, List.foldl_map]
  rfl
theorem lowFrom_up (s : Sd) (f : Nat) (g : List Int) : lowFrom s g f = (s.sills.filterMap (up1 s.floors f)).foldl (ap2 f) g := by
  unfold lowFrom
  rw [← leads_up, List.foldl_map]
  rfl

theorem grt2 (a b : Int) : grt [a, b] = max (max 0 a) b := rfl

/-- gates that are as low, or lower -/
def Leq (g g' : List Int) : Prop := g.length = g'.length ∧ ∀ i : Nat, g[i]?.getD 0 ≤ g'[i]?.getD 0 ∧ (g[i]?.getD 0 < 1050 → g'[i]?.getD 0 < 1050)
theorem Leq.refl (g : List Int) : Leq g g := ⟨rfl, fun _ => ⟨Int.le_refl _, id⟩⟩
theorem Leq.set {a b : List Int} (h : Leq a b) (t : Nat) {c d : Int} (hc : c ≤ d) (hd : c < 1050 → d < 1050) : Leq (a.set t (min (a[t]?.getD 0) c)) (b.set t (min (b[t]?.getD 0) d)) := by
  refine ⟨by simp [h.1], fun i => ?_⟩
  have h1 := h.2 i
  have h0 := h.1
  rw [List.getElem?_set, List.getElem?_set]
  by_cases hi : t = i
  · subst hi
    by_cases hl : t < a.length
    · have hl' : t < b.length := by omega
      simp only [if_true, hl, hl', Option.getD_some]
      omega
    · have hl' : ¬ t < b.length := by omega
      simp [hl, hl']
  · rw [if_neg hi, if_neg hi]; exact h1

/-- sills of which some are higher, and floors -/
inductive HiS : List (Int × Int × Int) → List (Int × Int × Int) → Prop
  | nil : HiS [] []
  | cons {a b h h' : Int} {r r' : List (Int × Int × Int)} : h ≤ h' → h' ≤ 999 → HiS r r' → HiS ((a, b, h) :: r) ((a, b, h') :: r')
def HiF (F F' : List Int) : Prop := F.length = F'.length ∧ ∀ i : Nat, F[i]?.getD 0 ≤ F'[i]?.getD 0 ∧ F'[i]?.getD 0 ≤ 999
theorem HiS.refl : ∀ {l : List (Int × Int × Int)}, (∀ x ∈ l, x.2.2 ≤ 999) → HiS l l
  | [], _ => .nil
  | (a, b, h) :: r, k => .cons (Int.le_refl _) (k (a, b, h) (by simp)) (HiS.refl (fun x hx => k x (by simp [hx])))
theorem HiS.at : ∀ {l : List (Int × Int × Int)} (i : Nat) (d : Int) (hi : i < l.length), 0 ≤ d → (∀ x ∈ l, x.2.2 ≤ 999) → l[i].2.2 + d ≤ 999 → HiS l (l.set i (l[i].1, l[i].2.1, l[i].2.2 + d))
  | (a, b, h) :: r, 0, d, _, h0, k, k9 => .cons (show h ≤ h + d by omega) k9 (HiS.refl (fun x hx => k x (by simp [hx])))
  | (a, b, h) :: r, i + 1, d, hi, h0, k, k9 => by
    have hi' : i < r.length := by simpa using hi
    exact .cons (Int.le_refl _) (k (a, b, h) (by simp)) (HiS.at i d hi' h0 (fun x hx => k x (by simp [hx])) (by simpa using k9))
theorem HiF.refl {F : List Int} (h : ∀ x ∈ F, x ≤ 999) : HiF F F := ⟨rfl, fun i => ⟨Int.le_refl _, by
  by_cases hi : i < F.length
  · rw [List.getElem?_eq_getElem hi]; exact h _ (List.getElem_mem _)
  · rw [List.getElem?_eq_none (by omega)]; decide⟩⟩
theorem HiF.at {F : List Int} (i : Nat) (d : Int) (hi : i < F.length) (d0 : 0 ≤ d) (h : ∀ x ∈ F, x ≤ 999) (h9 : F[i] + d ≤ 999) : HiF F (F.set i (F[i] + d)) := by
  refine ⟨by simp, fun j => ?_⟩
  have k := (HiF.refl h).2 j
  rw [List.getElem?_set]
  by_cases hj : i = j
  · subst hj
    rw [if_pos rfl, if_pos hi, List.getElem?_eq_getElem hi]
    simp only [Option.getD_some]
    omega
  · rw [if_neg hj]; exact k

theorem hi_ap1 {F F' : List Int} (hF : HiF F F') (f : Int) {l l' : List (Int × Int × Int)} (hS : HiS l l') : ∀ {g g' : List Int}, Leq g g' → Leq ((l.filterMap (up1 F f)).foldl ap1 g) ((l'.filterMap (up1 F' f)).foldl ap1 g') := by
  induction hS with
  | nil => exact fun h => h
  | @cons a b h h' r r' hh h9 _ ih =>
    intro g g' hg
    have eo : other (a, b, h') f = other (a, b, h) f := rfl
    by_cases hc : 0 ≤ other (a, b, h) f ∧ (other (a, b, h) f).toNat < F.length
    · have e1 : up1 F f (a, b, h) = some ((other (a, b, h) f).toNat, grt [h, F[(other (a, b, h) f).toNat]?.getD 0]) := if_pos hc
      have e2 : up1 F' f (a, b, h') = some ((other (a, b, h) f).toNat, grt [h', F'[(other (a, b, h) f).toNat]?.getD 0]) := if_pos (by rw [← hF.1]; exact hc)
      rw [List.filterMap_cons_some e1, List.filterMap_cons_some e2, List.foldl_cons, List.foldl_cons]
      refine ih (hg.set _ ?_ ?_)
      · have := hF.2 (other (a, b, h) f).toNat
        simp only [grt2]; omega
      · have := hF.2 (other (a, b, h) f).toNat
        simp only [grt2]; omega
    · have e1 : up1 F f (a, b, h) = none := if_neg hc
      have e2 : up1 F' f (a, b, h') = none := if_neg (by rw [← hF.1]; exact hc)
      rw [List.filterMap_cons_none e1, List.filterMap_cons_none e2]
      exact ih hg
theorem hi_ap2 {F F' : List Int} (hF : HiF F F') (f : Nat) {l l' : List (Int × Int × Int)} (hS : HiS l l') : ∀ {g g' : List Int}, Leq g g' → Leq ((l.filterMap (up1 F f)).foldl (ap2 f) g) ((l'.filterMap (up1 F' f)).foldl (ap2 f) g') := by
  induction hS with
  | nil => exact fun h => h
  | @cons a b h h' r r' hh h9 _ ih =>
    intro g g' hg
    have eo : other (a, b, h') f = other (a, b, h) f := rfl
    by_cases hc : 0 ≤ other (a, b, h) f ∧ (other (a, b, h) f).toNat < F.length
    · have e1 : up1 F f (a, b, h) = some ((other (a, b, h) f).toNat, grt [h, F[(other (a, b, h) f).toNat]?.getD 0]) := if_pos hc
      have e2 : up1 F' f (a, b, h') = some ((other (a, b, h) f).toNat, grt [h', F'[(other (a, b, h) f).toNat]?.getD 0]) := if_pos (by rw [← hF.1]; exact hc)
      rw [List.filterMap_cons_some e1, List.filterMap_cons_some e2, List.foldl_cons, List.foldl_cons]
      have h1 := hF.2 (other (a, b, h) f).toNat
      have h2 := hg.2 f
      refine ih (hg.set _ ?_ ?_)
      · simp only [grt2]; omega
      · simp only [grt2]; omega
    · have e1 : up1 F f (a, b, h) = none := if_neg hc
      have e2 : up1 F' f (a, b, h') = none := if_neg (by rw [← hF.1]; exact hc)
      rw [List.filterMap_cons_none e1, List.filterMap_cons_none e2]
      exact ih hg
theorem hi_lowered {s t : Sd} (hF : HiF s.floors t.floors) (hS : HiS s.sills t.sills) {g g' : List Int} (hg : Leq g g') : Leq (lowered s g) (lowered t g') := by
  unfold lowered
  rw [← hF.1]
  have h0 : Leq (lowSea s g) (lowSea t g') := by rw [lowSea_up, lowSea_up]; exact hi_ap1 hF _ hS hg
  generalize lowSea s g = a at *
  generalize lowSea t g' = b at *
  generalize List.range s.floors.length = l
  induction l generalizing a b with
  | nil => exact h0
  | cons x r ih =>
    refine ih _ _ ?_
    rw [lowFrom_up, lowFrom_up]
    exact hi_ap2 hF _ hS h0

/-- lowered so many times -/
def iterG (s : Sd) : Nat → List Int → List Int
  | 0, g => g
  | n + 1, g => iterG s n (lowered s g)
theorem iterG_fix {s : Sd} {g : List Int} (h : lowered s g = g) : ∀ n, iterG s n g = g
  | 0 => rfl
  | n + 1 => by unfold iterG; rw [h]; exact iterG_fix h n
theorem fixG_iter (s : Sd) : ∀ n g, fixG s n g = iterG s n g
  | 0, g => rfl
  | n + 1, g => by
    unfold fixG
    split
    · next h => exact (iterG_fix h (n + 1)).symm
    · exact fixG_iter s n _
theorem hi_iter {s t : Sd} (hF : HiF s.floors t.floors) (hS : HiS s.sills t.sills) : ∀ n {g g' : List Int}, Leq g g' → Leq (iterG s n g) (iterG t n g')
  | 0, _, _, h => h
  | n + 1, _, _, h => hi_iter hF hS n (hi_lowered hF hS h)
theorem hi_gts {s t : Sd} (hF : HiF s.floors t.floors) (hS : HiS s.sills t.sills) : Leq (gts s) (gts t) := by
  unfold gts
  rw [fixG_iter, fixG_iter]
  exact hi_iter hF hS _ (Leq.refl _)

/-- with one sill more -/
def Geq (g g' : List Int) : Prop := g.length = g'.length ∧ ∀ i : Nat, g'[i]?.getD 0 ≤ g[i]?.getD 0
theorem Geq.set {a b : List Int} (h : Geq a b) (t : Nat) {c d : Int} (hc : d ≤ c) : Geq (a.set t (min (a[t]?.getD 0) c)) (b.set t (min (b[t]?.getD 0) d)) := by
  refine ⟨by simp [h.1], fun i => ?_⟩
  have h1 := h.2 i
  have h0 := h.1
  rw [List.getElem?_set, List.getElem?_set]
  by_cases hi : t = i
  · subst hi
    by_cases hl : t < a.length
    · have hl' : t < b.length := by omega
      simp only [if_true, hl, hl', Option.getD_some]
      omega
    · have hl' : ¬ t < b.length := by omega
      simp [hl, hl']
  · rw [if_neg hi, if_neg hi]; exact h1
theorem Geq.right {a b : List Int} (h : Geq a b) (t : Nat) (d : Int) : Geq a (b.set t (min (b[t]?.getD 0) d)) := by
  refine ⟨by simp [h.1], fun i => ?_⟩
  have h1 := h.2 i
  rw [List.getElem?_set]
  by_cases hi : t = i
  · subst hi
    by_cases hl : t < b.length
    · simp only [if_true, hl, Option.getD_some]
      omega
    · have hl' : ¬ t < a.length := by have := h.1; omega
      simp [hl, hl']
  · rw [if_neg hi]; exact h1
theorem more_ap1 (F : List Int) (f : Int) (l e : List (Int × Int × Int)) {g g' : List Int} (hg : Geq g g') : Geq ((l.filterMap (up1 F f)).foldl ap1 g) (((l ++ e).filterMap (up1 F f)).foldl ap1 g') := by
  rw [List.filterMap_append, List.foldl_append]
  have h0 : Geq ((l.filterMap (up1 F f)).foldl ap1 g) ((l.filterMap (up1 F f)).foldl ap1 g') := by
    generalize l.filterMap (up1 F f) = k
    induction k generalizing g g' with
    | nil => exact hg
    | cons x r ih => exact ih (hg.set _ (Int.le_refl _))
  generalize (l.filterMap (up1 F f)).foldl ap1 g = a at *
  generalize (l.filterMap (up1 F f)).foldl ap1 g' = b at *
  generalize e.filterMap (up1 F f) = k
  induction k generalizing b with
  | nil => exact h0
  | cons x r ih => exact ih _ (h0.right _ _)
theorem more_ap2 (F : List Int) (f : Nat) (l e : List (Int × Int × Int)) {g g' : List Int} (hg : Geq g g') : Geq ((l.filterMap (up1 F f)).foldl (ap2 f) g) (((l ++ e).filterMap (up1 F f)).foldl (ap2 f) g') := by
  rw [List.filterMap_append, List.foldl_append]
  have h0 : Geq ((l.filterMap (up1 F f)).foldl (ap2 f) g) ((l.filterMap (up1 F f)).foldl (ap2 f) g') := by
    generalize l.filterMap (up1 F f) = k
    induction k generalizing g g' with
    | nil => exact hg
    | cons x r ih =>
      refine ih (hg.set _ ?_)
      have := hg.2 f
      simp only [grt2]; omega
  generalize (l.filterMap (up1 F f)).foldl (ap2 f) g = a at *
  generalize (l.filterMap (up1 F f)).foldl (ap2 f) g' = b at *
  generalize e.filterMap (up1 F f) = k
  induction k generalizing b with
  | nil => exact h0
  | cons x r ih => exact ih _ (h0.right _ _)
theorem more_lowered {s t : Sd} {e : List (Int × Int × Int)} (hF : t.floors = s.floors) (hS : t.sills = s.sills ++ e) {g g' : List Int} (hg : Geq g g') : Geq (lowered s g) (lowered t g') := by
  unfold lowered
  rw [hF]
  have h0 : Geq (lowSea s g) (lowSea t g') := by rw [lowSea_up, lowSea_up, hF, hS]; exact more_ap1 _ _ _ _ hg
  generalize lowSea s g = a at *
  generalize lowSea t g' = b at *
  generalize List.range s.floors.length = l
  induction l generalizing a b with
  | nil => exact h0
  | cons x r ih =>
    refine ih _ _ ?_
    rw [lowFrom_up, lowFrom_up, hF, hS]
    exact more_ap2 _ _ _ _ h0
theorem more_iter {s t : Sd} {e : List (Int × Int × Int)} (hF : t.floors = s.floors) (hS : t.sills = s.sills ++ e) : ∀ n {g g' : List Int}, Geq g g' → Geq (iterG s n g) (iterG t n g')
  | 0, _, _, h => h
  | n + 1, _, _, h => more_iter hF hS n (more_lowered hF hS h)
theorem more_gts {s t : Sd} {e : List (Int × Int × Int)} (hF : t.floors = s.floors) (hS : t.sills = s.sills ++ e) : Geq (gts s) (gts t) := by
  unfold gts
  rw [fixG_iter, fixG_iter]
  exact more_iter hF hS _ ⟨rfl, fun _ => Int.le_refl _⟩

/-- no gate is above 1050 -/
theorem iter_less (s : Sd) : ∀ n {g : List Int}, Less top g → Less top (iterG s n g)
  | 0, _, h => h
  | n + 1, g, h => iter_less s n (h.trans (lowered_less s g (fun i => (h.2 i).1)))
theorem gts_le (s : Sd) (p : Nat) : 0 ≤ gateOf s p ∧ gateOf s p ≤ 1050 := by
  have h : Less top (gts s) := by
    unfold gts
    rw [fixG_iter]
    exact iter_less s _ (Less.refl top_nonneg)
  have h1 := h.2 p
  have h2 : top[p]?.getD 0 ≤ 1050 := by
    unfold top
    rw [List.getElem?_replicate]
    split <;> simp
  unfold gateOf
  omega
theorem hasWay_lt (s : Sd) (p : Nat) : hasWayB s p = decide (gateOf s p < 1050) := by
  have hg := gts_le s p
  unfold gateOf at hg ⊢
  unfold hasWayB
  generalize (gts s)[p]?.getD 0 = g at *
  by_cases h : g = 1050
  · subst h; rfl
  · rw [decide_eq_true (show g < 1050 by omega), bne_iff_ne]; exact h

section
variable {s t : Sd}
theorem errFor_in (ok : Ok s) {x : Int} (h : 0 ≤ x ∧ x < s.floors.length) : errFor s x = 0 := by
  unfold errFor
  rw [if_pos (chk_zero ok)]
  have : isPl s x = true := inB_true.2 (by omega)
  rw [this]; rfl
theorem errGate_in (ok : Ok s) {x : Int} (h : 0 ≤ x ∧ x < s.floors.length) : errGate s x = if gateOf s x.toNat < 1050 then 0 else 6 := by
  unfold errGate
  rw [if_pos (errFor_in ok h), hasWay_lt]
  by_cases h : gateOf s x.toNat < 1050 <;> simp [h]
theorem gateV_in (ok : Ok s) {x : Int} (h : 0 ≤ x ∧ x < s.floors.length) : gateV s x = if gateOf s x.toNat < 1050 then gateOf s x.toNat else 0 := by
  unfold gateV
  rw [errGate_in ok h]
  by_cases h : gateOf s x.toNat < 1050 <;> simp [h]
/-- raised: the same errors, no lesser gates, no greater states -/
theorem hi_gate (ok : Ok s) (ok' : Ok t) (hF : HiF s.floors t.floors) (hS : HiS s.sills t.sills) {x : Int} (h : 0 ≤ x ∧ x < s.floors.length) : errGate t x = errGate s x ∧ gateV s x ≤ gateV t x := by
  have h' : 0 ≤ x ∧ x < t.floors.length := by rw [← hF.1]; exact h
  have k := (hi_gts hF hS).2 x.toNat
  rw [errGate_in ok h, errGate_in ok' h', gateV_in ok h, gateV_in ok' h']
  unfold gateOf at *
  by_cases c : (gts s)[x.toNat]?.getD 0 < 1050
  · have c' := k.2 c
    rw [if_pos c, if_pos c', if_pos c, if_pos c']
    exact ⟨rfl, k.1⟩
  · have c' : ¬ (gts t)[x.toNat]?.getD 0 < 1050 := by omega
    rw [if_neg c, if_neg c', if_neg c, if_neg c']
    exact ⟨rfl, Int.le_refl _⟩
theorem hi_st (hF : HiF s.floors t.floors) (hS : HiS s.sills t.sills) (hT : t.table = s.table) (hl : t.lo = s.lo) (hh : t.hi = s.hi) (m : Int) (p : Nat) : st t m p ≤ st s m p := by
  have k := (hi_gts hF hS).2 p
  unfold st gateOf
  rw [hT, hl, hh]
  repeat' split
  all_goals omega
theorem more_gate {e : List (Int × Int × Int)} (ok : Ok s) (ok' : Ok t) (hF : t.floors = s.floors) (hS : t.sills = s.sills ++ e) {x : Int} (h : 0 ≤ x ∧ x < s.floors.length) : errGate s x = 0 → errGate t x = 0 ∧ gateV t x ≤ gateV s x := by
  have h' : 0 ≤ x ∧ x < t.floors.length := by rw [hF]; exact h
  have k := (more_gts hF hS).2 x.toNat
  rw [errGate_in ok h, errGate_in ok' h', gateV_in ok h, gateV_in ok' h']
  unfold gateOf at *
  by_cases c : (gts s)[x.toNat]?.getD 0 < 1050
  · have c' : (gts t)[x.toNat]?.getD 0 < 1050 := by omega
    rw [if_pos c, if_pos c', if_pos c, if_pos c']
    exact fun _ => ⟨rfl, k⟩
  · rw [if_neg c]
    exact fun h => by cases h
theorem more_st {e : List (Int × Int × Int)} (hF : t.floors = s.floors) (hS : t.sills = s.sills ++ e) (hT : t.table = s.table) (hl : t.lo = s.lo) (hh : t.hi = s.hi) (m : Int) (p : Nat) : st s m p ≤ st t m p := by
  have k := (more_gts hF hS).2 p
  unfold st gateOf
  rw [hT, hl, hh]
  repeat' split
  all_goals omega
end
end
end Go.Proofs.Ytcljkkojeleakaa
/- Plain facts: the gates that the law finds by itself, letting the water rise from height to height, are the gates of the layer. -/
namespace Go.Proofs.Ytcljkkojeleakaa
section
open Go.RowKit

/-! what no sill lowers any more -/
theorem fixG_fix (s : Sd) : ∀ (n : Nat) (g : List Int), (∀ i : Nat, 0 ≤ g[i]?.getD 0) → g.sum < n → lowered s (fixG s n g) = fixG s n g
  | 0, g, h0, hs => by
    have := (sum_less g g (Less.refl h0)).2.2
    omega
  | n + 1, g, h0, hs => by
    unfold fixG
    split
    · assumption
    · next hne =>
      have hl := lowered_less s g h0
      have := (sum_less g (lowered s g) hl).2.1 hne
      exact fixG_fix s n (lowered s g) (fun i => (hl.2 i).1) (by omega)
theorem gts_fix (s : Sd) : lowered s (gts s) = gts s := fixG_fix s 9000 top top_nonneg (by decide)

theorem ap1_down : ∀ (l : List (Nat × Int)) (g : List Int) (i : Nat), i < g.length → (l.foldl ap1 g)[i]?.getD 0 ≤ g[i]?.getD 0
  | [], _, _, _ => Int.le_refl _
  | u :: r, g, i, hi => by
    refine Int.le_trans (ap1_down r (ap1 g u) i (by simp [ap1, hi])) ?_
    unfold ap1
    rw [List.getElem?_set]
    split
    · next h => subst h; rw [if_pos hi, Option.getD_some]; omega
    · exact Int.le_refl _
theorem ap2_down (f : Nat) : ∀ (l : List (Nat × Int)) (g : List Int) (i : Nat), i < g.length → (l.foldl (ap2 f) g)[i]?.getD 0 ≤ g[i]?.getD 0
  | [], _, _, _ => Int.le_refl _
  | u :: r, g, i, hi => by
    refine Int.le_trans (ap2_down f r (ap2 f g u) i (by simp [ap2, hi])) ?_
    unfold ap2
    rw [List.getElem?_set]
    split
    · next h => subst h; rw [if_pos hi, Option.getD_some]; omega
    · exact Int.le_refl _
theorem ap1_hit : ∀ (l : List (Nat × Int)) (g : List Int) (u : Nat × Int), u ∈ l → u.1 < g.length → (l.foldl ap1 g)[u.1]?.getD 0 ≤ u.2
  | v :: r, g, u, hu, hl => by
    have hl' : u.1 < (ap1 g v).length := by simp [ap1, hl]
    rcases List.mem_cons.1 hu with rfl | hu
    · refine Int.le_trans (ap1_down r _ u.1 hl') ?_
      unfold ap1
      rw [List.getElem?_set_self hl, Option.getD_some]
      omega
    · exact ap1_hit r _ u hu hl'
theorem ap2_hit (f : Nat) : ∀ (l : List (Nat × Int)) (g : List Int) (u : Nat × Int), u ∈ l → u.1 < g.length → f < g.length → (l.foldl (ap2 f) g)[u.1]?.getD 0 ≤ max (max 0 (g[f]?.getD 0)) u.2
  | v :: r, g, u, hu, hl, hf => by
    have hl' : u.1 < (ap2 f g v).length := by simp [ap2, hl]
    rcases List.mem_cons.1 hu with rfl | hu
    · refine Int.le_trans (ap2_down f r _ u.1 hl') ?_
      unfold ap2
      rw [List.getElem?_set_self hl, Option.getD_some, grt2]
      omega
    · have h1 := ap2_hit f r _ u hu hl' (by simp [ap2, hf])
      have h2 := ap2_down f [v] g f hf
      simp only [List.foldl_cons, List.foldl_nil] at h2
      show (r.foldl (ap2 f) (ap2 f g v))[u.1]?.getD 0 ≤ _
      omega
theorem low_len (s : Sd) (l : List Nat) (g : List Int) (h : g.length = 8) : (l.foldl (lowFrom s) g).length = 8 := lowFroms_len s l g h
theorem froms_down (s : Sd) : ∀ (l : List Nat) (g : List Int), g.length = 8 → ∀ i, i < 8 → (l.foldl (lowFrom s) g)[i]?.getD 0 ≤ g[i]?.getD 0
  | [], _, _, _, _ => Int.le_refl _
  | f :: r, g, hg, i, hi => by
    have hl : (lowFrom s g f).length = 8 := low2_len s f _ _ hg
    refine Int.le_trans (froms_down s r (lowFrom s g f) hl i hi) ?_
    rw [lowFrom_up]
    exact ap2_down f _ g i (by omega)
theorem froms_hit (s : Sd) : ∀ (l : List Nat) (g : List Int), g.length = 8 → ∀ f ∈ l, f < 8 → ∀ u ∈ s.sills.filterMap (up1 s.floors f), u.1 < 8 → (l.foldl (lowFrom s) g)[u.1]?.getD 0 ≤ max (max 0 (g[f]?.getD 0)) u.2
  | e :: r, g, hg, f, hf, h8, u, hu, hu8 => by
    have hl : (lowFrom s g e).length = 8 := low2_len s e _ _ hg
    rcases List.mem_cons.1 hf with rfl | hf
    · refine Int.le_trans (froms_down s r _ hl u.1 hu8) ?_
      rw [lowFrom_up]
      exact ap2_hit f _ g u hu (by omega) (by omega)
    · have h1 := froms_hit s r _ hl f hf h8 u hu hu8
      have h2 : (lowFrom s g e)[f]?.getD 0 ≤ g[f]?.getD 0 := by rw [lowFrom_up]; exact ap2_down e _ g f (by omega)
      show (r.foldl (lowFrom s) (lowFrom s g e))[u.1]?.getD 0 ≤ _
      omega
/-- what a sill joins: no gate is above what lets water over it -/
theorem gate_sea (s : Sd) (h8 : s.floors.length ≤ 8) (x : Int × Int × Int) (hx : x ∈ s.sills) (b : Nat) (hb : other x (-1) = b) (hbl : b < s.floors.length) : gateOf s b ≤ max (max 0 x.2.2) (s.floors[b]?.getD 0) := by
  have hu : (b, grt [x.2.2, s.floors[b]?.getD 0]) ∈ s.sills.filterMap (up1 s.floors (-1)) := by
    refine List.mem_filterMap.2 ⟨x, hx, ?_⟩
    unfold up1
    rw [hb, if_pos ⟨by omega, by simpa using hbl⟩]
    rfl
  have h0 : (lowSea s (gts s))[b]?.getD 0 ≤ max (max 0 x.2.2) (s.floors[b]?.getD 0) := by
    rw [lowSea_up]
    exact ap1_hit _ _ _ hu (by rw [gts_len]; exact Nat.lt_of_lt_of_le hbl h8)
  have h1 := froms_down s (List.range s.floors.length) (lowSea s (gts s)) (low1_len s _ _ (gts_len s)) b (by omega)
  have h2 := gts_fix s
  unfold lowered at h2
  rw [h2] at h1
  unfold gateOf
  omega
theorem gate_from (s : Sd) (h8 : s.floors.length ≤ 8) (x : Int × Int × Int) (hx : x ∈ s.sills) (f b : Nat) (hf : f < s.floors.length) (hb : other x f = b) (hbl : b < s.floors.length) : gateOf s b ≤ max (max 0 (gateOf s f)) (max (max 0 x.2.2) (s.floors[b]?.getD 0)) := by
  have hu : (b, grt [x.2.2, s.floors[b]?.getD 0]) ∈ s.sills.filterMap (up1 s.floors f) := by
    refine List.mem_filterMap.2 ⟨x, hx, ?_⟩
    unfold up1
    rw [hb, if_pos ⟨by omega, by simpa using hbl⟩]
    rfl
  have hs : (lowSea s (gts s)).length = 8 := low1_len s _ _ (gts_len s)
  have h1 := froms_hit s (List.range s.floors.length) (lowSea s (gts s)) hs f (List.mem_range.2 hf) (by omega) _ hu (by simp only; omega)
  have h3 : (lowSea s (gts s))[f]?.getD 0 ≤ (gts s)[f]?.getD 0 := by rw [lowSea_up]; exact ap1_down _ _ f (by rw [gts_len]; omega)
  have h2 := gts_fix s
  unfold lowered at h2
  rw [h2] at h1
  simp only [grt2] at h1
  unfold gateOf
  omega

/-! invariants of lowering, by its updates -/
theorem inv_iter (s : Sd) (_h8 : s.floors.length ≤ 8) (I : List Int → Prop)
    (sea : ∀ (g : List Int) (x : Int × Int × Int) (b : Nat), g.length = 8 → x ∈ s.sills → other x (-1) = b → b < s.floors.length → I g → I (g.set b (min (g[b]?.getD 0) (max (max 0 x.2.2) (s.floors[b]?.getD 0)))))
    (from' : ∀ (g : List Int) (x : Int × Int × Int) (f b : Nat), g.length = 8 → x ∈ s.sills → f < s.floors.length → other x f = b → b < s.floors.length → I g → I (g.set b (min (g[b]?.getD 0) (max (max 0 (g[f]?.getD 0)) (max (max 0 x.2.2) (s.floors[b]?.getD 0))))))
    (h0 : I top) : I (gts s) := by
  have up : ∀ (f : Int) (x : Int × Int × Int) (u : Nat × Int), up1 s.floors f x = some u → other x f = u.1 ∧ u.1 < s.floors.length ∧ u.2 = max (max 0 x.2.2) (s.floors[u.1]?.getD 0) := by
    intro f x u hu
    unfold up1 at hu
    split at hu
    · next hc =>
      cases hu
      exact ⟨by simp only; omega, hc.2, rfl⟩
    · cases hu
  have h1 : ∀ (l : List (Int × Int × Int)) (g : List Int), (∀ x ∈ l, x ∈ s.sills) → g.length = 8 → I g → I ((l.filterMap (up1 s.floors (-1))).foldl ap1 g) := by
    intro l
    induction l with
    | nil => exact fun g _ _ h => h
    | cons x r ih =>
      intro g hx hl hI
      cases hu : up1 s.floors (-1) x with
      | none => rw [List.filterMap_cons_none hu]; exact ih g (fun y hy => hx y (by simp [hy])) hl hI
      | some u =>
        rw [List.filterMap_cons_some hu]
        obtain ⟨e1, e2, e3⟩ := up _ _ _ hu
        refine ih (ap1 g u) (fun y hy => hx y (by simp [hy])) (by simp [ap1, hl]) ?_
        unfold ap1
        rw [e3]
        exact sea g x u.1 hl (hx x (by simp)) e1 e2 hI
  have h2 : ∀ (f : Nat), f < s.floors.length → ∀ (l : List (Int × Int × Int)) (g : List Int), (∀ x ∈ l, x ∈ s.sills) → g.length = 8 → I g → I ((l.filterMap (up1 s.floors f)).foldl (ap2 f) g) := by
    intro f hf l
    induction l with
    | nil => exact fun g _ _ h => h
    | cons x r ih =>
      intro g hx hl hI
      cases hu : up1 s.floors f x with
      | none => rw [List.filterMap_cons_none hu]; exact ih g (fun y hy => hx y (by simp [hy])) hl hI
      | some u =>
        rw [List.filterMap_cons_some hu]
        obtain ⟨e1, e2, e3⟩ := up _ _ _ hu
        refine ih (ap2 f g u) (fun y hy => hx y (by simp [hy])) (by simp [ap2, hl]) ?_
        unfold ap2
        rw [e3, grt2]
        exact from' g x f u.1 hl (hx x (by simp)) hf e1 e2 hI
  have h3 : ∀ (l : List Nat) (g : List Int), (∀ f ∈ l, f < s.floors.length) → g.length = 8 → I g → I (l.foldl (lowFrom s) g) := by
    intro l
    induction l with
    | nil => exact fun g _ _ h => h
    | cons f r ih =>
      intro g hf hl hI
      refine ih (lowFrom s g f) (fun y hy => hf y (by simp [hy])) (low2_len s f _ _ hl) ?_
      rw [lowFrom_up]
      exact h2 f (hf f (by simp)) _ _ (fun _ h => h) hl hI
  have h4 : ∀ n (g : List Int), g.length = 8 → I g → I (iterG s n g) := by
    intro n
    induction n with
    | zero => exact fun g _ h => h
    | succ n ih =>
      intro g hl hI
      refine ih _ (lowered_len s g hl) ?_
      unfold lowered
      refine h3 _ _ (fun f hf => List.mem_range.1 hf) (low1_len s _ _ hl) ?_
      rw [lowSea_up]
      exact h1 _ _ (fun _ h => h) hl hI
  unfold gts
  rw [fixG_iter]
  exact h4 _ _ rfl h0

theorem set_get (g : List Int) (b i : Nat) (v : Int) (hb : b < g.length) : (g.set b v)[i]?.getD 0 = if b = i then v else g[i]?.getD 0 := by
  rw [List.getElem?_set]
  split
  · next h => first | rfl | (subst h; rw [if_pos hb]; rfl) | (subst h; simp [hb])
  · rfl
/-- low heights, low gates -/
theorem gate_low (s : Sd) (h8 : s.floors.length ≤ 8) (hF : ∀ x ∈ s.floors, 0 ≤ x ∧ x ≤ 50) (hS : ∀ x ∈ s.sills, x.2.2 ≤ 50) (p : Nat) (hp : p < 8) : gateOf s p ≤ 50 ∨ gateOf s p = 1050 := by
  have fl : ∀ b : Nat, s.floors[b]?.getD 0 ≤ 50 := fun b => by
    by_cases hb : b < s.floors.length
    · rw [List.getElem?_eq_getElem hb]; exact (hF _ (List.getElem_mem hb)).2
    · rw [List.getElem?_eq_none (by omega)]; decide
  have := inv_iter s h8 (fun g => ∀ i, i < 8 → g[i]?.getD 0 ≤ 50 ∨ g[i]?.getD 0 = 1050)
    (fun g x b hl hx hb hbl hI i hi => by
      have h1 := hI i hi
      have h2 := hI b (by omega)
      have h3 := fl b
      have h4 := hS x hx
      rw [set_get g b i _ (by omega)]
      split
      · omega
      · exact h1)
    (fun g x f b hl hx hf hb hbl hI i hi => by
      have h1 := hI i hi
      have h2 := hI b (by omega)
      have h3 := fl b
      have h4 := hS x hx
      have h5 := hI f (by omega)
      rw [set_get g b i _ (by omega)]
      split
      · omega
      · exact h1)
    (fun i hi => Or.inr (by unfold top; rw [List.getElem?_replicate, if_pos hi]; rfl))
  exact this p hp

/-! the law's own way -/
def rel1 (F : List Int) (h : Int) (g : List Int) (y : Int × Int × Int) : List Int :=
  if y.2.2 ≤ h ∧ y.2.1 ≠ -1 ∧ F[y.2.1.toNat]?.getD 0 ≤ h ∧ (y.1 = -1 ∨ g[y.1.toNat]?.getD 0 ≤ h) then g.set y.2.1.toNat (min (g[y.2.1.toNat]?.getD 0) h) else g
def turned (x : Int × Int × Int) : Int × Int × Int := (x.2.1, x.1, x.2.2)
def rel2 (F : List Int) (h : Int) (g : List Int) (x : Int × Int × Int) : List Int := rel1 F h (rel1 F h g x) (turned x)
def pass (s : Sd) (h : Int) (g : List Int) : List Int := s.sills.foldl (rel2 s.floors h) g
def passes (s : Sd) (h : Int) : Nat → List Int → List Int
  | 0, g => g
  | n + 1, g => passes s h n (pass s h g)
def lvls (s : Sd) : Nat → List Int
  | 0 => List.replicate s.floors.length 1000000
  | k + 1 => passes s k s.floors.length (lvls s k)

section
variable {F : List Int} {h : Int}
theorem rel1_len (g : List Int) (y : Int × Int × Int) : (rel1 F h g y).length = g.length := by
  unfold rel1; split
  · simp
  · rfl
theorem rel2_len (g : List Int) (y : Int × Int × Int) : (rel2 F h g y).length = g.length := by unfold rel2; rw [rel1_len, rel1_len]
/-- how many are above -/
def oc (h : Int) (g : List Int) : Nat := g.countP (fun v => decide (h < v))
theorem oc_set (h : Int) : ∀ (g : List Int) (b : Nat), b < g.length → h < g[b]?.getD 0 → oc h (g.set b (min (g[b]?.getD 0) h)) + 1 = oc h g
  | v :: r, 0, _, hv => by
    have hv' : h < v := by simpa using hv
    show oc h (min v h :: r) + 1 = oc h (v :: r)
    unfold oc
    rw [List.countP_cons, List.countP_cons, if_neg (by simp only [decide_eq_true_eq]; omega), if_pos (by simpa using hv')]
  | v :: r, b + 1, hb, hv => by
    have ih := oc_set h r b (by simpa using hb) (by simpa using hv)
    have e : (v :: r)[b + 1]?.getD 0 = r[b]?.getD 0 := by simp
    rw [e]
    show oc h (v :: r.set b _) + 1 = _
    unfold oc at ih ⊢
    rw [List.countP_cons, List.countP_cons]
    omega
theorem set_same (g : List Int) (b : Nat) (hb : b < g.length) (h : Int) (hv : g[b]?.getD 0 ≤ h) : g.set b (min (g[b]?.getD 0) h) = g := by
  rw [Int.min_eq_left hv, List.getElem?_eq_getElem hb, Option.getD_some, List.set_getElem_self]
theorem rel1_or (g : List Int) (y : Int × Int × Int) (hy : y.2.1 ≠ -1 → 0 ≤ y.2.1 ∧ y.2.1 < g.length) : rel1 F h g y = g ∨ oc h (rel1 F h g y) < oc h g := by
  unfold rel1
  split
  · next hc =>
    have hb : y.2.1.toNat < g.length := by have := hy hc.2.1; omega
    by_cases hv : g[y.2.1.toNat]?.getD 0 ≤ h
    · exact Or.inl (set_same g _ hb h hv)
    · have := oc_set h g _ hb (by omega)
      exact Or.inr (by omega)
  · exact Or.inl rfl
end
section
variable {α : Type} {f : List Int → α → List Int} {h : Int} {n : Nat} {P : α → Prop}
theorem fold_or (hf : ∀ g x, g.length = n → P x → (f g x).length = n ∧ (f g x = g ∨ oc h (f g x) < oc h g)) : ∀ (l : List α) (g : List Int), g.length = n → (∀ x ∈ l, P x) →
    (l.foldl f g).length = n ∧ (l.foldl f g = g ∧ (∀ x ∈ l, f g x = g) ∨ oc h (l.foldl f g) < oc h g)
  | [], g, hg, _ => ⟨hg, Or.inl ⟨rfl, by simp⟩⟩
  | x :: r, g, hg, hp => by
    obtain ⟨h1, h2⟩ := hf g x hg (hp x (by simp))
    obtain ⟨h3, h4⟩ := fold_or hf r (f g x) h1 (fun y hy => hp y (by simp [hy]))
    refine ⟨h3, ?_⟩
    rw [List.foldl_cons]
    rcases h2 with h2 | h2
    · rcases h4 with ⟨h4, h5⟩ | h4
      · refine Or.inl ⟨by rw [h4, h2], fun y hy => ?_⟩
        rcases List.mem_cons.1 hy with rfl | hy
        · exact h2
        · have := h5 y hy
          rw [h2] at this; exact this
      · exact Or.inr (by rw [h2] at h4 ⊢; exact h4)
    · rcases h4 with ⟨h4, h5⟩ | h4
      · exact Or.inr (by rw [h4]; exact h2)
      · exact Or.inr (by omega)
end
section
variable {s : Sd} {h : Int}
/-- an end of a sill is a place, or the Sea -/
def EndOk (n : Nat) (y : Int × Int × Int) : Prop := (y.1 = -1 ∨ 0 ≤ y.1 ∧ y.1 < n) ∧ (y.2.1 = -1 ∨ 0 ≤ y.2.1 ∧ y.2.1 < n) ∧ y.1 ≠ y.2.1
theorem EndOk.turned {n : Nat} {y : Int × Int × Int} (hy : EndOk n y) : EndOk n (turned y) := ⟨hy.2.1, hy.1, Ne.symm hy.2.2⟩
theorem EndOk.of (ok : Ok s) {x : Int × Int × Int} (hx : x ∈ s.sills) : EndOk s.floors.length x := ⟨(ok.good x hx).1, (ok.good x hx).2, ok.two x hx⟩
theorem rel2_or (g : List Int) (y : Int × Int × Int) (n : Nat) (hg : g.length = n) (hy : EndOk n y) : (rel2 s.floors h g y).length = n ∧ (rel2 s.floors h g y = g ∧ rel1 s.floors h g y = g ∧ rel1 s.floors h g (turned y) = g ∨ oc h (rel2 s.floors h g y) < oc h g) := by
  refine ⟨by rw [rel2_len]; exact hg, ?_⟩
  have h1 := rel1_or (F := s.floors) (h := h) g y (fun hn => by rcases hy.2.1 with e | e; exact absurd e hn; omega)
  have h2 := rel1_or (F := s.floors) (h := h) (rel1 s.floors h g y) (turned y) (fun hn => by rw [rel1_len]; rcases hy.1 with e | e; exact absurd e hn; exact ⟨e.1, by rw [hg]; exact e.2⟩)
  unfold rel2
  rcases h1 with h1 | h1
  · rcases h2 with h2 | h2
    · rw [h1] at h2 ⊢
      exact Or.inl ⟨h2, rfl, h2⟩
    · rw [h1] at h2 ⊢; exact Or.inr h2
  · rcases h2 with h2 | h2
    · exact Or.inr (by rw [h2]; exact h1)
    · exact Or.inr (by omega)
theorem pass_or (ok : Ok s) (g : List Int) (hg : g.length = s.floors.length) : (pass s h g).length = s.floors.length ∧ (pass s h g = g ∧ (∀ x ∈ s.sills, rel1 s.floors h g x = g ∧ rel1 s.floors h g (turned x) = g) ∨ oc h (pass s h g) < oc h g) := by
  obtain ⟨h1, h2⟩ := fold_or (h := h) (n := s.floors.length) (P := EndOk s.floors.length) (f := rel2 s.floors h) (fun g x hg hx => by
    obtain ⟨k1, k2⟩ := rel2_or (s := s) (h := h) g x _ hg hx
    refine ⟨k1, ?_⟩
    rcases k2 with k2 | k2
    · exact Or.inl k2.1
    · exact Or.inr k2) s.sills g hg (fun x hx => EndOk.of ok hx)
  refine ⟨h1, ?_⟩
  rcases h2 with ⟨h2, h3⟩ | h2
  · refine Or.inl ⟨h2, fun x hx => ?_⟩
    rcases (rel2_or (s := s) (h := h) g x _ hg (EndOk.of ok hx)).2 with k | k
    · exact k.2
    · rw [h3 x hx] at k; omega
  · exact Or.inr h2
theorem passes_len (ok : Ok s) : ∀ n (g : List Int), g.length = s.floors.length → (passes s h n g).length = s.floors.length
  | 0, _, hg => hg
  | n + 1, g, hg => passes_len ok n _ (pass_or ok g hg).1
theorem passes_fix (ok : Ok s) : ∀ n (g : List Int), g.length = s.floors.length → pass s h g = g → passes s h n g = g
  | 0, _, _, _ => rfl
  | n + 1, g, hg, hp => by
    unfold passes
    rw [hp]
    exact passes_fix ok n g hg hp
theorem passes_shut (ok : Ok s) : ∀ n (g : List Int), g.length = s.floors.length → oc h g ≤ n → pass s h (passes s h n g) = passes s h n g
  | 0, g, hg, ho => by
    rcases (pass_or (h := h) ok g hg).2 with k | k
    · exact k.1
    · omega
  | n + 1, g, hg, ho => by
    obtain ⟨h1, k⟩ := pass_or (h := h) ok g hg
    unfold passes
    rcases k with k | k
    · rw [k.1, passes_fix ok n g hg k.1]; exact k.1
    · exact passes_shut ok n _ h1 (by omega)

/-- sound at a height: what is known is the gate, and what is below is known -/
def Snd (s : Sd) (h : Int) (g : List Int) : Prop := ∀ p, p < s.floors.length → (g[p]?.getD 0 = 1000000 ∨ g[p]?.getD 0 = gateOf s p ∧ gateOf s p ≤ h) ∧ (gateOf s p < h → g[p]?.getD 0 = gateOf s p)
theorem other_to (ok : Ok s) {x : Int × Int × Int} (hx : x ∈ s.sills) {a b : Int} (hb : b ≠ -1) (hab : (a, b) = (x.1, x.2.1) ∨ (a, b) = (x.2.1, x.1)) : other x a = b := by
  have := ok.two x hx
  unfold other
  rcases hab with e | e
  · cases e; simp
  · cases e
    have : (x.2.1 == x.1) = false := by rw [beq_eq_false_iff_ne]; omega
    simp [this]
theorem gate_step (ok : Ok s) {x : Int × Int × Int} (hx : x ∈ s.sills) {a b : Int} (hb : 0 ≤ b ∧ b < s.floors.length) (ha : a = -1 ∨ 0 ≤ a ∧ a < s.floors.length) (hab : (a, b) = (x.1, x.2.1) ∨ (a, b) = (x.2.1, x.1)) (h0 : 0 ≤ h) (hh : x.2.2 ≤ h) (hF : s.floors[b.toNat]?.getD 0 ≤ h) (hg : a = -1 ∨ gateOf s a.toNat ≤ h) : gateOf s b.toNat ≤ h := by
  have ho := other_to ok hx (by omega) hab
  have e : ((b.toNat : Nat) : Int) = b := by omega
  rcases hg with hg | hg
  · subst hg
    have := gate_sea s ok.fl1 x hx b.toNat (by rw [e]; exact ho) (by omega)
    omega
  · rcases ha with ha | ha
    · subst ha
      have := gate_sea s ok.fl1 x hx b.toNat (by rw [e]; exact ho) (by omega)
      omega
    · have e2 : ((a.toNat : Nat) : Int) = a := by omega
      have := gate_from s ok.fl1 x hx a.toNat b.toNat (by omega) (by rw [e, e2]; exact ho) (by omega)
      omega
theorem snd_rel1 (ok : Ok s) {x : Int × Int × Int} (hx : x ∈ s.sills) (h0 : 0 ≤ h) (h9 : h ≤ 999) {g : List Int} (hl : g.length = s.floors.length) (hs : Snd s h g) (y : Int × Int × Int) (hy : y = x ∨ y = turned x) : Snd s h (rel1 s.floors h g y) := by
  have he : EndOk s.floors.length y := by
    rcases hy with rfl | rfl
    · exact EndOk.of ok hx
    · exact (EndOk.of ok hx).turned
  have hab : (y.1, y.2.1) = (x.1, x.2.1) ∨ (y.1, y.2.1) = (x.2.1, x.1) := by rcases hy with rfl | rfl; exact Or.inl rfl; exact Or.inr rfl
  have hyh : y.2.2 = x.2.2 := by rcases hy with rfl | rfl <;> rfl
  unfold rel1
  split
  · next hc =>
    obtain ⟨c1, c2, c3, c4⟩ := hc
    have hb : 0 ≤ y.2.1 ∧ y.2.1 < s.floors.length := by rcases he.2.1 with e | e; exact absurd e c2; exact e
    have hgb : gateOf s y.2.1.toNat ≤ h := by
      refine gate_step ok hx hb he.1 hab h0 (by omega) c3 ?_
      rcases c4 with c4 | c4
      · exact Or.inl c4
      · rcases he.1 with e | e
        · exact Or.inl e
        · refine Or.inr ?_
          have := (hs y.1.toNat (by omega)).1
          omega
    intro p hp
    have k := hs p hp
    rw [set_get g _ p _ (by omega)]
    split
    · next e =>
      subst e
      omega
    · exact k
  · exact hs
theorem snd_fold (ok : Ok s) (h0 : 0 ≤ h) (h9 : h ≤ 999) : ∀ (l : List (Int × Int × Int)) (g : List Int), (∀ x ∈ l, x ∈ s.sills) → g.length = s.floors.length → Snd s h g → Snd s h (l.foldl (rel2 s.floors h) g)
  | [], _, _, _, hs => hs
  | x :: r, g, hx, hl, hs => by
    have hm := hx x (by simp)
    refine snd_fold ok h0 h9 r _ (fun y hy => hx y (by simp [hy])) (by rw [rel2_len]; exact hl) ?_
    unfold rel2
    exact snd_rel1 ok hm h0 h9 (by rw [rel1_len]; exact hl) (snd_rel1 ok hm h0 h9 hl hs x (Or.inl rfl)) _ (Or.inr rfl)
theorem snd_passes (ok : Ok s) (h0 : 0 ≤ h) (h9 : h ≤ 999) : ∀ n (g : List Int), g.length = s.floors.length → Snd s h g → Snd s h (passes s h n g)
  | 0, _, _, hs => hs
  | n + 1, g, hl, hs => snd_passes ok h0 h9 n _ (pass_or ok g hl).1 (snd_fold ok h0 h9 _ _ (fun _ h => h) hl hs)
/-- what no pass changes any more has all gates that are not above -/
theorem shut_all (ok : Ok s) (h9 : h ≤ 999) {g : List Int} (hl : g.length = s.floors.length) (hp : pass s h g = g) (p : Nat) (hpl : p < s.floors.length) (hg : gateOf s p ≤ h) : g[p]?.getD 0 ≤ h := by
  have hall : ∀ x ∈ s.sills, rel1 s.floors h g x = g ∧ rel1 s.floors h g (turned x) = g := by
    rcases (pass_or (h := h) ok g hl).2 with k | k
    · exact k.2
    · rw [hp] at k; omega
  have key : ∀ x ∈ s.sills, ∀ a b : Int, (a, b) = (x.1, x.2.1) ∨ (a, b) = (x.2.1, x.1) → 0 ≤ b ∧ b < s.floors.length → x.2.2 ≤ h → s.floors[b.toNat]?.getD 0 ≤ h → (a = -1 ∨ g[a.toNat]?.getD 0 ≤ h) → g[b.toNat]?.getD 0 ≤ h := by
    intro x hx a b hab hb h1 h2 h3
    have hb' : b.toNat < g.length := by omega
    have hr : rel1 s.floors h g (a, b, x.2.2) = g := by
      rcases hab with e | e
      · cases e; exact (hall x hx).1
      · cases e; exact (hall x hx).2
    unfold rel1 at hr
    rw [if_pos ⟨h1, by simp only; omega, h2, h3⟩] at hr
    have e1 := congrArg (fun l => l[b.toNat]?.getD 0) hr
    simp only at e1
    rw [set_get g _ _ _ hb', if_pos rfl] at e1
    omega
  refine Decidable.byContradiction fun hc => ?_
  have := inv_iter s ok.fl1 (fun a => ∀ i, i < s.floors.length → h < g[i]?.getD 0 → h < a[i]?.getD 0)
    (fun a x b hl8 hx hb hbl hI i hi hgi => by
      rw [set_get a b i _ (by have := ok.fl1; omega)]
      split
      · next e =>
        subst e
        have h1 := hI b hi hgi
        have hne : ¬ (x.2.2 ≤ h ∧ s.floors[b]?.getD 0 ≤ h) := fun hcc => by
          have ho : (-1, (b : Int)) = (x.1, x.2.1) ∨ (-1, (b : Int)) = (x.2.1, x.1) := by
            unfold other at hb
            by_cases e1 : (-1 : Int) = x.1
            · rw [show ((-1 : Int) == x.1) = true from beq_iff_eq.2 e1] at hb
              exact Or.inl (by rw [← e1]; simp at hb; rw [hb])
            · rw [show ((-1 : Int) == x.1) = false from beq_eq_false_iff_ne.2 e1] at hb
              by_cases e2 : (-1 : Int) = x.2.1
              · rw [show ((-1 : Int) == x.2.1) = true from beq_iff_eq.2 e2] at hb
                exact Or.inr (by rw [← e2]; simp at hb; rw [hb])
              · rw [show ((-1 : Int) == x.2.1) = false from beq_eq_false_iff_ne.2 e2] at hb
                simp at hb
          have := key x hx (-1) b ho (by omega) hcc.1 (by simpa using hcc.2) (Or.inl rfl)
          simp only [Int.toNat_natCast] at this
          omega
        omega
      · exact hI i hi hgi)
    (fun a x f b hl8 hx hf hb hbl hI i hi hgi => by
      rw [set_get a b i _ (by have := ok.fl1; omega)]
      split
      · next e =>
        subst e
        have h1 := hI b hi hgi
        by_cases hgf : h < g[f]?.getD 0
        · have := hI f hf hgf
          omega
        · have hne : ¬ (x.2.2 ≤ h ∧ s.floors[b]?.getD 0 ≤ h) := fun hcc => by
            have ho : ((f : Int), (b : Int)) = (x.1, x.2.1) ∨ ((f : Int), (b : Int)) = (x.2.1, x.1) := by
              unfold other at hb
              by_cases e1 : (f : Int) = x.1
              · rw [show ((f : Int) == x.1) = true from beq_iff_eq.2 e1] at hb
                exact Or.inl (by rw [← e1]; simp at hb; rw [hb])
              · rw [show ((f : Int) == x.1) = false from beq_eq_false_iff_ne.2 e1] at hb
                by_cases e2 : (f : Int) = x.2.1
                · rw [show ((f : Int) == x.2.1) = true from beq_iff_eq.2 e2] at hb
                  exact Or.inr (by rw [← e2]; simp at hb; rw [hb])
                · rw [show ((f : Int) == x.2.1) = false from beq_eq_false_iff_ne.2 e2] at hb
                  simp at hb
            have := key x hx f b ho (by omega) hcc.1 (by simpa using hcc.2) (Or.inr (by simp only [Int.toNat_natCast]; omega))
            simp only [Int.toNat_natCast] at this
            omega
          omega
      · exact hI i hi hgi)
    (fun i hi _ => by
      have := ok.fl1
      unfold top
      rw [List.getElem?_replicate, if_pos (by omega)]
      show h < 1050
      omega)
  have h1 := this p hpl (by omega)
  unfold gateOf at hg
  omega
theorem lvls_len (ok : Ok s) : ∀ k, (lvls s k).length = s.floors.length
  | 0 => by simp [lvls]
  | k + 1 => passes_len ok _ _ (lvls_len ok k)
theorem lvls_is (ok : Ok s) : ∀ (k : Nat), k ≤ 1000 → ∀ p, p < s.floors.length → (lvls s k)[p]?.getD 0 = if gateOf s p < k then gateOf s p else 1000000
  | 0, _, p, hp => by
    have := (gts_le s p).1
    rw [if_neg (by omega)]
    unfold lvls
    rw [List.getElem?_replicate, if_pos hp]
    rfl
  | k + 1, hk, p, hp => by
    have ih := lvls_is ok k (by omega)
    have hl := lvls_len ok k
    have hs : Snd s k (lvls s k) := fun q hq => by
      have e := ih q hq
      by_cases c : gateOf s q < k
      · rw [if_pos c] at e
        exact ⟨Or.inr ⟨e, by omega⟩, fun _ => e⟩
      · rw [if_neg c] at e
        exact ⟨Or.inl e, fun h => absurd h c⟩
    have h1 := snd_passes ok (h := (k : Int)) (by omega) (by omega) s.floors.length _ hl hs
    have h2 := passes_shut (h := (k : Int)) ok s.floors.length (lvls s k) hl (by rw [← hl]; exact List.countP_le_length)
    have hl2 := passes_len (h := (k : Int)) ok s.floors.length _ hl
    show (passes s k s.floors.length (lvls s k))[p]?.getD 0 = _
    have h3 := shut_all ok (h := (k : Int)) (by omega) hl2 h2 p hp
    have h4 := (h1 p hp).1
    by_cases c : gateOf s p < ((k + 1 : Nat) : Int)
    · rw [if_pos c]
      have := h3 (by omega)
      omega
    · rw [if_neg c]
      omega
/-- the gates that the law finds -/
theorem lvls_gates (ok : Ok s) (hF : ∀ x ∈ s.floors, 0 ≤ x ∧ x ≤ 50) (hS : ∀ x ∈ s.sills, x.2.2 ≤ 50) (p : Nat) (hp : p < s.floors.length) : (lvls s 62)[p]?.getD 0 = if gateOf s p < 1050 then gateOf s p else 1000000 := by
  rw [lvls_is ok 62 (by omega) p hp]
  have := gate_low s ok.fl1 hF hS p (by have := ok.fl1; omega)
  by_cases c : gateOf s p < 1050
  · rw [if_pos c, if_pos (by omega)]
  · rw [if_neg c, if_neg (by omega)]
end
end
end Go.Proofs.Ytcljkkojeleakaa
/- Plain facts: where a list of sills leads from the Sea, and how high it is. -/
namespace Go.Proofs.Ytcljkkojeleakaa
open Go.RowKit
def sillAt (s : Sd) (i : Int) : Int × Int × Int := s.sills[i.toNat]?.getD (0, 0, 0)
def flAt (s : Sd) (t : Int) : Int := s.floors[t.toNat]?.getD 0
/-- from the end e, when the places M were met, with the crest c: the end and the crest, if the sills go on so -/
def folS (s : Sd) : List Int → List Int → Int → Int → Option (Int × Int)
  | [], _, e, c => some (e, c)
  | i :: r, M, e, c => if other (sillAt s i) e = -1 ∨ other (sillAt s i) e ∈ M then none else folS s r (M ++ [other (sillAt s i) e]) (other (sillAt s i) e) (max c (max (sillAt s i).2.2 (flAt s (other (sillAt s i) e))))
def folV (s : Sd) (way : List Int) : Int × Int := (folS s way [] (-1) 0).getD (-1, 0)
def errCrest (s : Sd) (x : Int) (way : List Int) : Int :=
  if errFor s x = 0 then (if way.all (isSi s) = true then (if (folV s way).1 = x then 0 else 8) else 1) else errFor s x
def crestV (s : Sd) (x : Int) (way : List Int) : Int := if errCrest s x way = 0 then (folV s way).2 else 0

variable {s : Sd}
theorem sillAt_nat (n : Nat) (h : n < s.sills.length) : sillAt s n = s.sills[n] := by
  unfold sillAt
  rw [Int.toNat_natCast, List.getElem?_eq_getElem h]
  rfl
theorem flAt_nat (n : Nat) (h : n < s.floors.length) : flAt s n = s.floors[n] := by
  unfold flAt
  rw [Int.toNat_natCast, List.getElem?_eq_getElem h]
  rfl
theorem other_rng (ok : Ok s) (n : Nat) (h : n < s.sills.length) (e : Int) : other s.sills[n] e = -1 ∨ ∃ t : Nat, other s.sills[n] e = t ∧ t < s.floors.length := by
  obtain ⟨e1, e2, -⟩ := EndOk.of ok (List.getElem_mem h)
  have key : ∀ y : Int, (y = -1 ∨ 0 ≤ y ∧ y < s.floors.length) → y = -1 ∨ ∃ t : Nat, y = t ∧ t < s.floors.length := fun y hy => by
    rcases hy with h | h
    · exact .inl h
    · exact .inr ⟨y.toNat, by omega, by omega⟩
  unfold other
  cases (e == s.sills[n].1) with
  | true => exact key _ e2
  | false =>
    cases (e == s.sills[n].2.1) with
    | true => exact key _ e1
    | false => exact .inl rfl
/-- the Boolean cells of the places that were met -/
def metB (M : List Int) : List Value := (List.range 8).map fun (i : Nat) => .bool (decide ((i : Int) ∈ M))
theorem metB_len (M : List Int) : (metB M).length = 8 := by simp [metB]
theorem metB_get (M : List Int) (n : Nat) (h : n < 8) : (metB M)[n]? = some (.bool (decide ((n : Int) ∈ M))) := by
  unfold metB
  rw [List.getElem?_map, List.getElem?_range h]
  rfl
theorem metB_set (M : List Int) (n : Nat) (h : n < 8) : (metB M).set n (.bool true) = metB (M ++ [(n : Int)]) := by
  apply List.ext_getElem?
  intro i
  rw [List.getElem?_set]
  split
  · next e =>
    subst e
    rw [if_pos (by rw [metB_len]; exact h), metB_get _ _ h]
    simp
  · next e =>
    by_cases hi : i < 8
    · rw [metB_get _ _ hi, metB_get _ _ hi]
      have : ((i : Int) ∈ M ++ [(n : Int)]) ↔ (i : Int) ∈ M := by
        rw [List.mem_append, List.mem_singleton]
        exact ⟨fun k => k.elim id (fun k => absurd k (by omega)), .inl⟩
      simp only [this]
    · rw [List.getElem?_eq_none (by rw [metB_len]; omega), List.getElem?_eq_none (by rw [metB_len]; omega)]
/-- a step of the search -/
theorem folS_stop {i : Int} {r M : List Int} {e c : Int} (h : other (sillAt s i) e = -1 ∨ other (sillAt s i) e ∈ M) : folS s (i :: r) M e c = none := by
  show (if _ then _ else _) = _
  rw [if_pos h]
theorem folS_go {i : Int} {r M : List Int} {e c : Int} (h : ¬ (other (sillAt s i) e = -1 ∨ other (sillAt s i) e ∈ M)) : folS s (i :: r) M e c = folS s r (M ++ [other (sillAt s i) e]) (other (sillAt s i) e) (max c (max (sillAt s i).2.2 (flAt s (other (sillAt s i) e)))) := by
  show (if _ then _ else _) = _
  rw [if_neg h]
end Go.Proofs.Ytcljkkojeleakaa
/- What the layer's functions follow and Crest return. -/
namespace Go.Proofs.Ytcljkkojeleakaa
open Go.RowKit Go.Shelf

section
variable {pT pF pS : Option Addr} {cT cF cS : Nat}
set_option maxRecDepth 100000 in
set_option maxHeartbeats 4000000 in
theorem follow_c (bw : Nat) (s : Sd) (way : List Int) (p : Option Addr) (c : Nat) (w : World) (ok : Ok s) (hw : SandsAt w bw 0 s pT pF pS cT cF cS) (hr : Row w p 1 (ints way)) (hm : way.length ≤ 10000) (ha : way.all (isSi s) = true) :
    Calls Try.prog 104 #[.pointer (some ⟨bw, 0, none⟩), .slice p way.length c] w fun e w' => e = .returned (.tuple #[.int .i64 (folV s way).1, .int .i64 (folV s way).2]) ∧ Up w w' := by
  have f8 := ok.fl1
  have s16 := ok.sl
  have OK := Lib.hid ok
  have HW := Lib.hid hw
  have HR := Lib.hid hr
  have HS := Lib.hid (fun W (u : Up w W) i t hI hT => step_c bw s W pT pF pS cT cF cS (hw.up u) (by simp [maxLen]; omega) (by simp [maxLen]; omega) i t hI hT)
  have GS : Hid (∀ i ∈ way, 0 ≤ i ∧ i < s.sills.length) := fun i hi => by have := inB_true.1 (List.all_eq_true.1 ha i hi); omega
  have lb := cell_lt hw.s3
  clear hw hr ha ok
  go_enter Try.func104, Try.ntmps104
  go_wp2_with fail
  have B8 : Hid (Blk (w.alloc (.cells #[.bool false, .bool false, .bool false, .bool false, .bool false, .bool false, .bool false, .bool false] 191)) w.heap.size (metB []) 191) := Lib.hid (Blk.new w (metB []) 191)
  have U0 : Hid (Up w (w.alloc (.cells #[.bool false, .bool false, .bool false, .bool false, .bool false, .bool false, .bool false, .bool false] 191))) := Lib.hid (by (repeat (first | exact Below.refl _ _ | (with_reducible refine Below.drewN' ?_ _) | (with_reducible refine Below.drew ?_) | (with_reducible refine Below.setCell ?_ (by first | exact Nat.le_refl _ | omega | (with_reducible (repeat (first | refine sz_alloc ?_ | refine sz_setCell ?_ | refine sz_drew ?_ | refine sz_drewN ?_)); first | exact Nat.le_refl _ | omega) | (simp only [World.size_alloc, World.size_setCell, World.size_drew, size_drewN']; omega)) _) | (with_reducible refine Below.alloc ?_ (by first | exact Nat.le_refl _ | omega | (with_reducible (repeat (first | refine sz_alloc ?_ | refine sz_setCell ?_ | refine sz_drew ?_ | refine sz_drewN ?_)); first | exact Nat.le_refl _ | omega) | (simp only [World.size_alloc, World.size_setCell, World.size_drew, size_drewN']; omega)) _) | assumption)))
  generalize (w.alloc (.cells #[.bool false, .bool false, .bool false, .bool false, .bool false, .bool false, .bool false, .bool false] 191)) = w0 at *
  have lw0 := B8.out.lt
  go_loopw [4, 5, 8, 9, 12] (fun e c _ _ i wr => ∃ (k : Nat) (M : List Int) (ev cv : Int), k ≤ way.length ∧ e = .int .i64 ev ∧ c = .int .i64 cv ∧ i = .int .i64 k ∧ folS s way [] (-1) 0 = folS s (way.drop k) M ev cv ∧ 0 ≤ cv ∧ Blk wr w.heap.size (metB M) 191 ∧ Up w wr) (fun _ _ _ _ i _ => way.length - (intOf i).toNat)
  case atStart => exact ⟨0, [], -1, 0, Nat.zero_le _, rfl, rfl, rfl, rfl, Int.le_refl _, B8.out, U0.out⟩
  case round =>
    obtain ⟨k, M, ev, cv, hk, rfl, rfl, rfl, ht, hc0, hb, hu⟩ := hrel
    have HT := Lib.hid ht
    have HU := Lib.hid hu
    have HB := Lib.hid hb
    clear ht hb B8 U0
    by_cases hlt : k < way.length
    · obtain ⟨b, off, rfl, d0⟩ := (HR.out.up hu).int k hlt
      have HD := Lib.hid (List.drop_eq_getElem_cons hlt)
      have hy := GS.out way[k] (List.getElem_mem hlt)
      have b1 : (k : Int) < (way.length : Int) := by omega
      generalize way[k] = y at *
      obtain ⟨n, rfl⟩ := Int.eq_ofNat_of_zero_le hy.1
      have hn : n < s.sills.length := by omega
      have b2 : (n : Int) < (s.sills.length : Int) := by omega
      obtain ⟨bs, os, rfl, e0, e1, e2⟩ := ((HW.out.up hu).rs).triple n hn
      have s4 := (HW.out.up hu).s4
      have HO := Lib.hid (other_rng OK.out n hn ev)
      have HSA := Lib.hid (sillAt_nat n hn)
      have HH := Lib.hid (OK.out.heights _ (List.getElem_mem hn))
      have HSW := Lib.hid (fun W (u : Up w W) t hT => HS.out W u n t hn hT)
      generalize s.sills[n] = sl at *
      obtain ⟨a, b', h⟩ := sl
      dsimp only at e0 e1 e2
      clear hy hu
      go_wp2_with fail
      refine (otherEnd_c a b' h ev _).mono ?_
      rintro e w2 ⟨rfl, hw2⟩
      have u2 : Up wr w2 := by rw [← hw2]; (repeat (first | exact Below.refl _ _ | (with_reducible refine Below.drewN' ?_ _) | (with_reducible refine Below.drew ?_) | (with_reducible refine Below.setCell ?_ (by first | exact Nat.le_refl _ | omega | (with_reducible (repeat (first | refine sz_alloc ?_ | refine sz_setCell ?_ | refine sz_drew ?_ | refine sz_drewN ?_)); first | exact Nat.le_refl _ | omega) | (simp only [World.size_alloc, World.size_setCell, World.size_drew, size_drewN']; omega)) _) | (with_reducible refine Below.alloc ?_ (by first | exact Nat.le_refl _ | omega | (with_reducible (repeat (first | refine sz_alloc ?_ | refine sz_setCell ?_ | refine sz_drew ?_ | refine sz_drewN ?_)); first | exact Nat.le_refl _ | omega) | (simp only [World.size_alloc, World.size_setCell, World.size_drew, size_drewN']; omega)) _) | assumption))
      have U2 := Lib.hid (Up.trans HU.out u2)
      have B2 := Lib.hid (HB.out.up u2)
      clear hw2 u2 e0 e1 e2 s4 d0 HB
      have HO' := HO.out
      have HG := Lib.hid (folS_go (s := s) (i := (n : Int)) (r := way.drop (k + 1)) (M := M) (e := ev) (c := cv))
      have HP := Lib.hid (folS_stop (s := s) (i := (n : Int)) (r := way.drop (k + 1)) (M := M) (e := ev) (c := cv))
      rw [HSA.out] at HG HP
      generalize other (a, b', h) ev = ov at *
      rcases HO' with rfl | ⟨t, rfl, ht⟩
      · have HX : Hid (folV s way = (-1, 0)) := by
          show _ = _
          unfold folV
          rw [HT.out, HD.out, HP.out (.inl rfl)]
          rfl
        go_wp2_with fail
        go_ret2
        rw [HX.out]
        exact ⟨rfl, U2.out⟩
      · have ht8 : t < 8 := by omega
        have g1 : ((t : Int) == -1) = false := beq_eq_false_iff_ne.2 (by omega)
        have g2 : (t : Int) < 8 := by omega
        have k1 := B2.out.cell t
        rw [metB_get _ _ ht8] at k1
        have k2 := B2.out.free
        have k3 := B2.out.lt
        by_cases hm : (t : Int) ∈ M
        · rw [decide_eq_true hm] at k1
          have HX : Hid (folV s way = (-1, 0)) := by
            show _ = _
            unfold folV
            rw [HT.out, HD.out, HP.out (.inr hm)]
            rfl
          clear hm
          go_wp2_with fail
          go_ret2
          rw [HX.out]
          exact ⟨rfl, U2.out⟩
        · rw [decide_eq_false hm] at k1
          have HX : Hid (folS s way [] (-1) 0 = folS s (way.drop (k + 1)) (M ++ [(t : Int)]) t (max cv (max h (flAt s t)))) := by
            show _ = _
            rw [HT.out, HD.out, HG.out (by rintro (h | h); omega; exact hm h)]
          rw [flAt_nat t ht] at HX
          clear hm HP HG
          go_wp2_with fail
          refine Calls.world ?_
          intro w3 hw3
          have B3 : Hid (Blk w3 w.heap.size (metB (M ++ [(t : Int)])) 191) := by
            show Blk _ _ _ _
            rw [← metB_set _ _ ht8, hw3]
            exact B2.out.set t _
          have U3 : Hid (Up w w3) := by
            show Up _ _
            rw [hw3]
            exact U2.out.setCell (by simp) _
          clear hw3 k1 k2 k3 B2 U2
          refine (HSW.out w3 U3.out t ht).mono ?_
          rintro e w4 ⟨rfl, u⟩
          have U4 := Lib.hid (Up.trans U3.out u)
          have B4 := Lib.hid (B3.out.up u)
          clear u B3 U3 HSW
          have HM : Hid (grt [cv, grt [h, s.floors[t]]] = max cv (max h s.floors[t])) := by
            show _ = _
            rw [grt2, grt2]
            have := HH.out
            omega
          have HN : Hid (0 ≤ max cv (max h s.floors[t])) := by
            show _ ≤ _
            omega
          generalize grt [h, s.floors[t]] = gv at *
          go_wp2_with fail
          refine (greatest_c (some ⟨w4.heap.size, 0, none⟩) 2 [cv, gv] _ (Row.lit w4 [cv, gv] _) (by simp [maxLen])).mono ?_
          rintro e w5 ⟨rfl, hw5⟩
          have u5 : Up w4 w5 := by rw [← hw5]; (repeat (first | exact Below.refl _ _ | (with_reducible refine Below.drewN' ?_ _) | (with_reducible refine Below.drew ?_) | (with_reducible refine Below.setCell ?_ (by first | exact Nat.le_refl _ | omega | (with_reducible (repeat (first | refine sz_alloc ?_ | refine sz_setCell ?_ | refine sz_drew ?_ | refine sz_drewN ?_)); first | exact Nat.le_refl _ | omega) | (simp only [World.size_alloc, World.size_setCell, World.size_drew, size_drewN']; omega)) _) | (with_reducible refine Below.alloc ?_ (by first | exact Nat.le_refl _ | omega | (with_reducible (repeat (first | refine sz_alloc ?_ | refine sz_setCell ?_ | refine sz_drew ?_ | refine sz_drewN ?_)); first | exact Nat.le_refl _ | omega) | (simp only [World.size_alloc, World.size_setCell, World.size_drew, size_drewN']; omega)) _) | assumption))
          have U5 := Lib.hid (Up.trans U4.out u5)
          have B5 := Lib.hid (B4.out.up u5)
          clear hw5 u5 B4 U4
          rw [HM.out]
          go_wp2_with fail
          go_roundw
          case rel =>
            try ((repeat apply Exists.intro); refine ⟨?_, rfl⟩)
            exact ⟨k + 1, M ++ [(t : Int)], t, _, hlt, rfl, rfl, by go_num, HX.out, HN.out, B5.out, U5.out⟩
          case measure => simp [intOf]; omega
    · obtain rfl : k = way.length := by omega
      have HX : Hid (folV s way = (ev, cv)) := by
        show _ = _
        unfold folV
        rw [HT.out, List.drop_eq_nil_of_le (Nat.le_refl _)]
        rfl
      clear hu
      go_wp2_with fail
      go_ret2
      rw [HX.out]
      exact ⟨rfl, HU.out⟩

set_option maxRecDepth 100000 in
set_option maxHeartbeats 4000000 in
theorem Crest_c (s : Sd) (x : Int) (way : List Int) (p : Option Addr) (c : Nat) (w : World) (hl : Lists w s pT pF pS cT cF cS) (h1 : Row w p 1 (ints way)) (l1 : way.length ≤ 10000) :
    Calls Try.prog 36 #[sdVal s pT pF pS cT cF cS, .int .i64 x, .slice p way.length c] w fun e w' => e = .returned (.tuple #[.int .i64 (crestV s x way), .int .i64 (errCrest s x way)]) ∧ Up w w' := by
  have HC := Lib.hid (fun W (u : Up w W) => beginFor_c s x W (hl.up u))
  have H1 := Lib.hid h1
  have HV : Hid (errCrest s x way ≠ 0 → crestV s x way = 0) := fun h => by unfold crestV; rw [if_neg h]
  have hml : way.length ≤ maxLen := by simp only [maxLen]; omega
  clear hl h1
  by_cases hE : errFor s x = 0
  · have hc : chk s = 0 := by
      unfold errFor at hE
      by_cases hk : chk s = 0
      · exact hk
      · rw [if_neg hk] at hE; exact absurd hE hk
    have hok := chk_ok hc
    have m2 := hok.fl1
    have m3 := hok.sl
    have HO := Lib.hid hok
    have HE := Lib.hid (show errCrest s x way = if way.all (isSi s) = true then (if (folV s way).1 = x then 0 else 8) else 1 by unfold errCrest; rw [if_pos hE])
    rw [hE] at HC
    clear hok hE hc
    unfold sdVal at *
    go_enter Try.func36, Try.ntmps36
    go_wp2_with fail
    refine (HC.out _ (by (repeat (first | exact Below.refl _ _ | (with_reducible refine Below.drewN' ?_ _) | (with_reducible refine Below.drew ?_) | (with_reducible refine Below.setCell ?_ (by first | exact Nat.le_refl _ | omega | (with_reducible (repeat (first | refine sz_alloc ?_ | refine sz_setCell ?_ | refine sz_drew ?_ | refine sz_drewN ?_)); first | exact Nat.le_refl _ | omega) | (simp only [World.size_alloc, World.size_setCell, World.size_drew, size_drewN']; omega)) _) | (with_reducible refine Below.alloc ?_ (by first | exact Nat.le_refl _ | omega | (with_reducible (repeat (first | refine sz_alloc ?_ | refine sz_setCell ?_ | refine sz_drew ?_ | refine sz_drewN ?_)); first | exact Nat.le_refl _ | omega) | (simp only [World.size_alloc, World.size_setCell, World.size_drew, size_drewN']; omega)) _) | assumption)))).mono ?_
    rintro e w1 ⟨q, rfl, u1, hok⟩
    obtain ⟨bw, rfl, hW⟩ := hok rfl
    have U1 := Lib.hid (Up.trans (show Up w (w.alloc (.cells (sdCells s pT pF pS cT cF cS).toArray 28)) by (repeat (first | exact Below.refl _ _ | (with_reducible refine Below.drewN' ?_ _) | (with_reducible refine Below.drew ?_) | (with_reducible refine Below.setCell ?_ (by first | exact Nat.le_refl _ | omega | (with_reducible (repeat (first | refine sz_alloc ?_ | refine sz_setCell ?_ | refine sz_drew ?_ | refine sz_drewN ?_)); first | exact Nat.le_refl _ | omega) | (simp only [World.size_alloc, World.size_setCell, World.size_drew, size_drewN']; omega)) _) | (with_reducible refine Below.alloc ?_ (by first | exact Nat.le_refl _ | omega | (with_reducible (repeat (first | refine sz_alloc ?_ | refine sz_setCell ?_ | refine sz_drew ?_ | refine sz_drewN ?_)); first | exact Nat.le_refl _ | omega) | (simp only [World.size_alloc, World.size_setCell, World.size_drew, size_drewN']; omega)) _) | assumption))) u1)
    have HW := Lib.hid hW
    clear hok hW u1 HC
    go_wp2_with fail
    refine (everyInt_c 103 #[.pointer (some ⟨bw, 0, none⟩)] #[] p c way (isSi s) _ (H1.out.up U1.out) hml en_isSill (fun y _ W u => (isSill_c bw _ _ _ y W (HW.out.up u).sands.s4 (by simp only [maxLen]; omega)).mono fun e w' ⟨h, k⟩ => ⟨h, k ▸ Below.refl _ _⟩)).mono ?_
    rintro e w2 ⟨rfl, u2⟩
    have U2 := Lib.hid (Up.trans U1.out u2)
    have HW2 := Lib.hid (HW.out.up u2)
    clear u2 HW
    cases ha : way.all (isSi s) with
    | false =>
      have HX := Lib.hid (show errCrest s x way = 1 by rw [HE.out, ha]; rfl)
      have HY := Lib.hid (HV.out (by rw [HX.out]; decide))
      clear ha
      go_wp2_with fail
      go_ret2
      rw [HX.out, HY.out]
      exact ⟨rfl, U2.out⟩
    | true =>
      have HX := Lib.hid (show errCrest s x way = if (folV s way).1 = x then 0 else 8 by rw [HE.out, ha]; rfl)
      have HA := Lib.hid ha
      clear ha
      go_wp2_with fail
      refine (follow_c bw s way p c w2 HO.out HW2.out.sands (H1.out.up U2.out) l1 HA.out).mono ?_
      rintro e w3 ⟨rfl, u3⟩
      have U3 := Lib.hid (Up.trans U2.out u3)
      clear u3
      have HF : Hid (∀ z, folV s way = z → z.1 = x → crestV s x way = z.2) := fun z hz hx => by
        subst hz
        unfold crestV
        rw [HX.out, if_pos hx]
        rfl
      generalize folV s way = z at *
      obtain ⟨ev, cv⟩ := z
      dsimp only at HX ⊢
      by_cases he : ev = x
      · have HX' := Lib.hid (show errCrest s x way = 0 by rw [HX.out, if_pos he])
        have HY := Lib.hid (HF.out _ rfl he)
        have n1 : (ev != x) = false := by rw [he]; simp
        clear he
        go_wp2_with fail
        go_ret2
        rw [HX'.out, HY.out]
        exact ⟨rfl, U3.out⟩
      · have HX' := Lib.hid (show errCrest s x way = 8 by rw [HX.out, if_neg he])
        have HY := Lib.hid (HV.out (by rw [HX'.out]; decide))
        have n1 : (ev != x) = true := by rw [bne_iff_ne]; exact he
        clear he
        go_wp2_with fail
        go_ret2
        rw [HX'.out, HY.out]
        exact ⟨rfl, U3.out⟩
  · have hne : (errFor s x != 0) = true := by rw [bne_iff_ne]; exact hE
    have HX := Lib.hid (show errCrest s x way = errFor s x by unfold errCrest; rw [if_neg hE])
    have HY := Lib.hid (HV.out (by rw [HX.out]; exact hE))
    clear hE
    unfold sdVal at *
    go_enter Try.func36, Try.ntmps36
    go_wp2_with fail
    refine (HC.out _ (by (repeat (first | exact Below.refl _ _ | (with_reducible refine Below.drewN' ?_ _) | (with_reducible refine Below.drew ?_) | (with_reducible refine Below.setCell ?_ (by first | exact Nat.le_refl _ | omega | (with_reducible (repeat (first | refine sz_alloc ?_ | refine sz_setCell ?_ | refine sz_drew ?_ | refine sz_drewN ?_)); first | exact Nat.le_refl _ | omega) | (simp only [World.size_alloc, World.size_setCell, World.size_drew, size_drewN']; omega)) _) | (with_reducible refine Below.alloc ?_ (by first | exact Nat.le_refl _ | omega | (with_reducible (repeat (first | refine sz_alloc ?_ | refine sz_setCell ?_ | refine sz_drew ?_ | refine sz_drewN ?_)); first | exact Nat.le_refl _ | omega) | (simp only [World.size_alloc, World.size_setCell, World.size_drew, size_drewN']; omega)) _) | assumption)))).mono ?_
    rintro e w1 ⟨q, rfl, u1, -⟩
    have U1 := Lib.hid (Up.trans (show Up w (w.alloc (.cells (sdCells s pT pF pS cT cF cS).toArray 28)) by (repeat (first | exact Below.refl _ _ | (with_reducible refine Below.drewN' ?_ _) | (with_reducible refine Below.drew ?_) | (with_reducible refine Below.setCell ?_ (by first | exact Nat.le_refl _ | omega | (with_reducible (repeat (first | refine sz_alloc ?_ | refine sz_setCell ?_ | refine sz_drew ?_ | refine sz_drewN ?_)); first | exact Nat.le_refl _ | omega) | (simp only [World.size_alloc, World.size_setCell, World.size_drew, size_drewN']; omega)) _) | (with_reducible refine Below.alloc ?_ (by first | exact Nat.le_refl _ | omega | (with_reducible (repeat (first | refine sz_alloc ?_ | refine sz_setCell ?_ | refine sz_drew ?_ | refine sz_drewN ?_)); first | exact Nat.le_refl _ | omega) | (simp only [World.size_alloc, World.size_setCell, World.size_drew, size_drewN']; omega)) _) | assumption))) u1)
    clear u1 HC
    go_wp2_with fail
    go_ret2
    rw [HX.out, HY.out]
    exact ⟨rfl, U1.out⟩
end
end Go.Proofs.Ytcljkkojeleakaa
/- Plain facts: the reference's least crests, by letting crests fall from sill to sill as many times as there are places. -/
namespace Go.Proofs.Ytcljkkojeleakaa
section
open Go.RowKit

/-- the crest over one sill more -/
def ovr (s : Sd) (g : List Int) (a b h : Int) : Int := max (max (if 0 ≤ a then g[a.toNat]?.getD 0 else 0) h) (s.floors[b.toNat]?.getD 0)
def relB (s : Sd) (ss ps : List Int) (i : Nat) (g : List Int) (a b h : Int) : List Int :=
  if 0 ≤ b ∧ (i : Int) ∉ ss ∧ b ∉ ps then g.set b.toNat (min (g[b.toNat]?.getD 0) (ovr s g a b h)) else g
def rsill (s : Sd) (ss ps : List Int) (g : List Int) (i : Nat) (x : Int × Int × Int) : List Int := relB s ss ps i (relB s ss ps i g x.1 x.2.1 x.2.2) x.2.1 x.1 x.2.2
def rpass (s : Sd) (ss ps : List Int) (g : List Int) : Nat → List Int
  | 0 => g
  | k + 1 => rsill s ss ps (rpass s ss ps g k) k (s.sills[k]?.getD (0, 0, 0))
def rounds (s : Sd) (ss ps : List Int) : Nat → List Int
  | 0 => List.replicate s.floors.length 5000
  | k + 1 => rpass s ss ps (rounds s ss ps k) s.sills.length
/-- the least crests without some sills and places -/
def lowR (s : Sd) (ss ps : List Int) : List Int := rounds s ss ps s.floors.length

section
variable {s : Sd} {ss ps : List Int} {c : Int}
theorem relB_len (i : Nat) (g : List Int) (a b h : Int) : (relB s ss ps i g a b h).length = g.length := by
  unfold relB
  split <;> simp
theorem rsill_len (g : List Int) (i : Nat) (x : Int × Int × Int) : (rsill s ss ps g i x).length = g.length := by unfold rsill; rw [relB_len, relB_len]
theorem rpass_len (g : List Int) : ∀ k, (rpass s ss ps g k).length = g.length
  | 0 => rfl
  | k + 1 => by unfold rpass; rw [rsill_len, rpass_len]
theorem rounds_len : ∀ k, (rounds s ss ps k).length = s.floors.length
  | 0 => by simp [rounds]
  | k + 1 => by unfold rounds; rw [rpass_len, rounds_len]

/-- what holds at the start, and with each sill, holds at the end -/
theorem rounds_inv (I : List Int → Prop) (h0 : I (List.replicate s.floors.length 5000))
    (step : ∀ (g : List Int) (i : Nat) (hi : i < s.sills.length) (a b : Int), g.length = s.floors.length → (a, b) = (s.sills[i].1, s.sills[i].2.1) ∨ (a, b) = (s.sills[i].2.1, s.sills[i].1) → I g → I (relB s ss ps i g a b s.sills[i].2.2)) : ∀ k, I (rounds s ss ps k)
  | 0 => h0
  | k + 1 => by
    have h := rounds_inv I h0 step k
    have hl := rounds_len (s := s) (ss := ss) (ps := ps) k
    unfold rounds
    generalize rounds s ss ps k = g at *
    have key : ∀ n, n ≤ s.sills.length → I (rpass s ss ps g n) := by
      intro n
      induction n with
      | zero => exact fun _ => h
      | succ n ih =>
        intro hn
        have h1 := ih (by omega)
        have l1 : (rpass s ss ps g n).length = s.floors.length := by rw [rpass_len, hl]
        unfold rpass rsill
        rw [List.getElem?_eq_getElem (show n < s.sills.length by omega), Option.getD_some]
        have h2 := step _ n (by omega) _ _ l1 (.inl rfl) h1
        exact step _ n (by omega) _ _ (by rw [relB_len]; exact l1) (.inr rfl) h2
    exact key _ (Nat.le_refl _)

/-- closed under what lets water of this height through -/
def ClE (s : Sd) (ss ps : List Int) (c : Int) (g : List Int) (i : Nat) (a b h : Int) : Prop :=
  0 ≤ b → (i : Int) ∉ ss → b ∉ ps → h ≤ c → s.floors[b.toNat]?.getD 0 ≤ c → (a = -1 ∨ g[a.toNat]?.getD 0 ≤ c) → g[b.toNat]?.getD 0 ≤ c
/-- the same are not above -/
def SameAt (c : Int) (g g' : List Int) : Prop := ∀ p : Nat, g'[p]?.getD 0 ≤ c ↔ g[p]?.getD 0 ≤ c
theorem SameAt.cl {g g' : List Int} (h : SameAt c g g') {i : Nat} {a b x : Int} (k : ClE s ss ps c g' i a b x) : ClE s ss ps c g i a b x := by
  intro h1 h2 h3 h4 h5 h6
  refine (h _).1 (k h1 h2 h3 h4 h5 ?_)
  rcases h6 with h6 | h6
  · exact .inl h6
  · exact .inr ((h _).2 h6)
theorem oc_le : ∀ (g g' : List Int), g'.length = g.length → (∀ p : Nat, p < g.length → g'[p]?.getD 0 ≤ g[p]?.getD 0) → oc c g' ≤ oc c g
  | [], [], _, _ => Nat.le_refl _
  | [], y :: r', h, _ => by simp at h
  | x :: r, [], h, _ => by simp at h
  | x :: r, y :: r', h, k => by
    have h0 := k 0 (by simp)
    simp only [List.getElem?_cons_zero, Option.getD_some] at h0
    have ih := oc_le r r' (by simpa using h) (fun p hp => by have := k (p + 1) (by simpa using hp); simpa using this)
    unfold oc at ih ⊢
    rw [List.countP_cons, List.countP_cons]
    by_cases e : c < y
    · rw [if_pos (by simpa using e), if_pos (by simp only [decide_eq_true_eq]; omega)]; omega
    · rw [if_neg (by simpa using e)]; omega
theorem oc_lt : ∀ (g g' : List Int) (b : Nat), g'.length = g.length → (∀ p : Nat, p < g.length → g'[p]?.getD 0 ≤ g[p]?.getD 0) → b < g.length → g'[b]?.getD 0 ≤ c → c < g[b]?.getD 0 → oc c g' < oc c g
  | [], _, _, _, _, hb, _, _ => by simp at hb
  | x :: r, [], _, h, _, _, _, _ => by simp at h
  | x :: r, y :: r', 0, h, k, _, h1, h2 => by
    have ih := oc_le (c := c) r r' (by simpa using h) (fun p hp => by have := k (p + 1) (by simpa using hp); simpa using this)
    simp only [List.getElem?_cons_zero, Option.getD_some] at h1 h2
    unfold oc at ih ⊢
    rw [List.countP_cons, List.countP_cons, if_neg (by simp only [decide_eq_true_eq]; omega), if_pos (by simpa using h2)]
    omega
  | x :: r, y :: r', b + 1, h, k, hb, h1, h2 => by
    have h0 := k 0 (by simp)
    simp only [List.getElem?_cons_zero, Option.getD_some] at h0
    have ih := oc_lt r r' b (by simpa using h) (fun p hp => by have := k (p + 1) (by simpa using hp); simpa using this) (by simpa using hb) (by simpa using h1) (by simpa using h2)
    unfold oc at ih ⊢
    rw [List.countP_cons, List.countP_cons]
    by_cases e : c < y
    · rw [if_pos (by simpa using e), if_pos (by simp only [decide_eq_true_eq]; omega)]; omega
    · rw [if_neg (by simpa using e)]; omega
theorem relB_down (i : Nat) (g : List Int) (a b h : Int) (p : Nat) (hb : b < g.length) : (relB s ss ps i g a b h)[p]?.getD 0 ≤ g[p]?.getD 0 := by
  unfold relB
  split
  · next hc =>
    rw [set_get g _ _ _ (by omega)]
    split
    · next e => subst e; omega
    · exact Int.le_refl _
  · exact Int.le_refl _
/-- one step: fewer are above, or the same; then the step is closed -/
theorem relB_or (c0 : 0 ≤ c) (i : Nat) (g : List Int) (a b h : Int) (ha : a = -1 ∨ 0 ≤ a) (hb : b < g.length) :
    oc c (relB s ss ps i g a b h) < oc c g ∨ (SameAt c g (relB s ss ps i g a b h) ∧ ClE s ss ps c g i a b h) := by
  by_cases hs : SameAt c g (relB s ss ps i g a b h)
  · right
    refine ⟨hs, fun h1 h2 h3 h4 h5 h6 => ?_⟩
    refine (hs b.toNat).1 ?_
    unfold relB
    rw [if_pos ⟨h1, h2, h3⟩, set_get g _ _ _ (by omega), if_pos rfl]
    have : ovr s g a b h ≤ c := by
      unfold ovr
      rcases h6 with rfl | h6
      · rw [if_neg (by decide)]; omega
      · split <;> omega
    omega
  · left
    have : ∃ p, ¬ ((relB s ss ps i g a b h)[p]?.getD 0 ≤ c ↔ g[p]?.getD 0 ≤ c) := Classical.not_forall.1 hs
    obtain ⟨p, hp⟩ := this
    have hd := relB_down (s := s) (ss := ss) (ps := ps) i g a b h p hb
    have h1 : (relB s ss ps i g a b h)[p]?.getD 0 ≤ c ∧ c < g[p]?.getD 0 := by
      by_cases e : g[p]?.getD 0 ≤ c
      · exact absurd ⟨fun _ => e, fun _ => by omega⟩ hp
      · refine ⟨?_, by omega⟩
        refine Decidable.byContradiction fun e' => hp ⟨fun k => absurd k e', fun k => absurd k e⟩
    have hpl : p < g.length := by
      refine Decidable.byContradiction fun e => ?_
      rw [List.getElem?_eq_none (show g.length ≤ p by omega)] at h1
      have := h1.2
      simp only [Option.getD_none] at this
      omega
    exact oc_lt g _ p (relB_len i g a b h) (fun q _ => relB_down i g a b h q hb) hpl h1.1 h1.2
/-- closed at all sills -/
def ClAll (s : Sd) (ss ps : List Int) (c : Int) (g : List Int) (n : Nat) : Prop := ∀ i (hi : i < s.sills.length), i < n → ClE s ss ps c g i s.sills[i].1 s.sills[i].2.1 s.sills[i].2.2 ∧ ClE s ss ps c g i s.sills[i].2.1 s.sills[i].1 s.sills[i].2.2
theorem SameAt.refl (g : List Int) : SameAt c g g := fun _ => Iff.rfl
theorem SameAt.trans {g g' g'' : List Int} (h : SameAt c g g') (k : SameAt c g' g'') : SameAt c g g'' := fun p => (k p).trans (h p)
theorem countP_same : ∀ {g g' : List Int}, g'.length = g.length → SameAt c g g' → oc c g' = oc c g
  | [], [], _, _ => rfl
  | [], y :: r', h, _ => by simp at h
  | x :: r, [], h, _ => by simp at h
  | x :: r, y :: r', h, k => by
    have h0 := k 0
    simp only [List.getElem?_cons_zero, Option.getD_some] at h0
    have ih := countP_same (g := r) (g' := r') (by simpa using h) (fun p => by have := k (p + 1); simpa using this)
    unfold oc at ih ⊢
    rw [List.countP_cons, List.countP_cons, ih]
    by_cases e : c < y
    · rw [if_pos (by simpa using e), if_pos (by simp only [decide_eq_true_eq]; omega)]
    · rw [if_neg (by simpa using e), if_neg (by simp only [decide_eq_true_eq]; omega)]
theorem rpass_or (ok : Ok s) (c0 : 0 ≤ c) (g : List Int) (hg : g.length = s.floors.length) : ∀ n, n ≤ s.sills.length → oc c (rpass s ss ps g n) < oc c g ∨ (SameAt c g (rpass s ss ps g n) ∧ ClAll s ss ps c g n)
  | 0, _ => .inr ⟨SameAt.refl _, fun i hi h => absurd h (by omega)⟩
  | n + 1, hn => by
    have ih := rpass_or ok c0 g hg n (by omega)
    have l1 := rpass_len (s := s) (ss := ss) (ps := ps) g n
    have hx := EndOk.of ok (List.getElem_mem (show n < s.sills.length by omega))
    obtain ⟨e1, e2, -⟩ := hx
    have hr : rpass s ss ps g (n + 1) = relB s ss ps n (relB s ss ps n (rpass s ss ps g n) s.sills[n].1 s.sills[n].2.1 s.sills[n].2.2) s.sills[n].2.1 s.sills[n].1 s.sills[n].2.2 := by
      show rsill s ss ps (rpass s ss ps g n) n (s.sills[n]?.getD (0, 0, 0)) = _
      rw [List.getElem?_eq_getElem (show n < s.sills.length by omega), Option.getD_some]
      rfl
    rw [hr]
    generalize rpass s ss ps g n = u at *
    have k1 := relB_or (s := s) (ss := ss) (ps := ps) c0 n u s.sills[n].1 s.sills[n].2.1 s.sills[n].2.2 (by omega) (by omega)
    have d1 := oc_le (c := c) u (relB s ss ps n u s.sills[n].1 s.sills[n].2.1 s.sills[n].2.2) (relB_len ..) (fun p _ => relB_down n u _ _ _ p (by omega))
    have l2 := relB_len (s := s) (ss := ss) (ps := ps) n u s.sills[n].1 s.sills[n].2.1 s.sills[n].2.2
    generalize relB s ss ps n u s.sills[n].1 s.sills[n].2.1 s.sills[n].2.2 = v at *
    have k2 := relB_or (s := s) (ss := ss) (ps := ps) c0 n v s.sills[n].2.1 s.sills[n].1 s.sills[n].2.2 (by omega) (by omega)
    have d2 := oc_le (c := c) v (relB s ss ps n v s.sills[n].2.1 s.sills[n].1 s.sills[n].2.2) (relB_len ..) (fun p _ => relB_down n v _ _ _ p (by omega))
    rcases ih with ih | ⟨ih1, ih2⟩
    · left; omega
    · rcases k1 with k1 | ⟨k1, k1'⟩
      · left
        have : oc c u = oc c g := countP_same l1 ih1
        omega
      · rcases k2 with k2 | ⟨k2, k2'⟩
        · left
          have e1 : oc c u = oc c g := countP_same l1 ih1
          have e2 : oc c v = oc c u := countP_same l2 k1
          omega
        · right
          refine ⟨(ih1.trans k1).trans k2, fun i hi h => ?_⟩
          by_cases e : i = n
          · subst e
            exact ⟨ih1.cl k1', (ih1.trans k1).cl k2'⟩
          · exact ih2 i hi (by omega)

/-- a closed step changes nothing at this height -/
theorem relB_same (i : Nat) (g : List Int) (a b h : Int) (ha : a = -1 ∨ 0 ≤ a) (hb : b < g.length) (k : ClE s ss ps c g i a b h) : SameAt c g (relB s ss ps i g a b h) := by
  intro p
  have hd := relB_down (s := s) (ss := ss) (ps := ps) i g a b h p hb
  refine ⟨fun h1 => ?_, fun h1 => by omega⟩
  unfold relB at h1
  split at h1
  · next hc =>
    rw [set_get g _ _ _ (by omega)] at h1
    split at h1
    · next e =>
      by_cases h2 : g[b.toNat]?.getD 0 ≤ c
      · rw [← e]; exact h2
      · have h3 : ovr s g a b h ≤ c := by omega
        unfold ovr at h3
        rw [← e]
        refine k hc.1 hc.2.1 hc.2.2 (by omega) (by omega) ?_
        rcases ha with ha | ha
        · exact .inl ha
        · rw [if_pos ha] at h3; exact .inr (by omega)
    · exact h1
  · exact h1
theorem rpass_same (ok : Ok s) (g : List Int) (hg : g.length = s.floors.length) (k : ClAll s ss ps c g s.sills.length) : ∀ n, n ≤ s.sills.length → SameAt c g (rpass s ss ps g n)
  | 0, _ => SameAt.refl _
  | n + 1, hn => by
    have ih := rpass_same ok g hg k n (by omega)
    have l1 := rpass_len (s := s) (ss := ss) (ps := ps) g n
    obtain ⟨e1, e2, -⟩ := EndOk.of ok (List.getElem_mem (show n < s.sills.length by omega))
    obtain ⟨k1, k2⟩ := k n (by omega) (by omega)
    have hr : rpass s ss ps g (n + 1) = relB s ss ps n (relB s ss ps n (rpass s ss ps g n) s.sills[n].1 s.sills[n].2.1 s.sills[n].2.2) s.sills[n].2.1 s.sills[n].1 s.sills[n].2.2 := by
      show rsill s ss ps (rpass s ss ps g n) n (s.sills[n]?.getD (0, 0, 0)) = _
      rw [List.getElem?_eq_getElem (show n < s.sills.length by omega), Option.getD_some]
      rfl
    rw [hr]
    generalize rpass s ss ps g n = u at *
    have sy : ∀ {x y : List Int}, SameAt c x y → SameAt c y x := fun h p => (h p).symm
    have j1 := relB_same n u s.sills[n].1 s.sills[n].2.1 s.sills[n].2.2 (by omega) (by omega) ((sy ih).cl k1)
    have l2 := relB_len (s := s) (ss := ss) (ps := ps) n u s.sills[n].1 s.sills[n].2.1 s.sills[n].2.2
    generalize relB s ss ps n u s.sills[n].1 s.sills[n].2.1 s.sills[n].2.2 = v at *
    have i2 := ih.trans j1
    exact i2.trans (relB_same n v s.sills[n].2.1 s.sills[n].1 s.sills[n].2.2 (by omega) (by omega) ((sy i2).cl k2))
theorem rounds_or (ok : Ok s) (c0 : 0 ≤ c) : ∀ k, ClAll s ss ps c (rounds s ss ps k) s.sills.length ∨ oc c (rounds s ss ps k) + k ≤ s.floors.length
  | 0 => by
    right
    unfold rounds oc
    have := List.countP_le_length (p := fun v => decide (c < v)) (l := List.replicate s.floors.length (5000 : Int))
    rw [List.length_replicate] at this
    omega
  | k + 1 => by
    have ih := rounds_or ok c0 k
    have hl := rounds_len (s := s) (ss := ss) (ps := ps) k
    have hr : rounds s ss ps (k + 1) = rpass s ss ps (rounds s ss ps k) s.sills.length := rfl
    rw [hr]
    generalize rounds s ss ps k = g at *
    have sy : ∀ {x y : List Int}, SameAt c x y → SameAt c y x := fun h p => (h p).symm
    rcases ih with ih | ih
    · left
      have j := rpass_same ok g hl ih _ (Nat.le_refl _)
      exact fun i hi h => ⟨(sy j).cl (ih i hi h).1, (sy j).cl (ih i hi h).2⟩
    · rcases rpass_or (ss := ss) (ps := ps) ok c0 g hl _ (Nat.le_refl _) with j | ⟨j1, j2⟩
      · right; omega
      · left
        exact fun i hi h => ⟨(sy j1).cl (j2 i hi h).1, (sy j1).cl (j2 i hi h).2⟩
theorem oc_zero : ∀ {g : List Int}, oc c g = 0 → ∀ p, p < g.length → g[p]?.getD 0 ≤ c
  | [], _, p, h => by simp at h
  | x :: r, h, p, hp => by
    unfold oc at h
    rw [List.countP_cons] at h
    have h1 : List.countP (fun v => decide (c < v)) r = 0 := by omega
    have h2 : ¬ c < x := fun e => by rw [if_pos (by simpa using e)] at h; omega
    cases p with
    | zero => simp; omega
    | succ p =>
      have := oc_zero (g := r) h1 p (by simpa using hp)
      simpa using this
/-- the least crests let no water through that they do not count -/
theorem low_closed (ok : Ok s) (c0 : 0 ≤ c) : ClAll s ss ps c (lowR s ss ps) s.sills.length := by
  have hl := rounds_len (s := s) (ss := ss) (ps := ps) s.floors.length
  rcases rounds_or (ss := ss) (ps := ps) ok c0 s.floors.length with h | h
  · exact h
  · have h0 : oc c (lowR s ss ps) = 0 := by unfold lowR; omega
    intro i hi _
    obtain ⟨e1, e2, -⟩ := EndOk.of ok (List.getElem_mem hi)
    have hl' : (lowR s ss ps).length = s.floors.length := hl
    exact ⟨fun b0 _ _ _ _ _ => oc_zero h0 _ (by omega), fun b0 _ _ _ _ _ => oc_zero h0 _ (by omega)⟩
theorem closed_all {h : Int} (ok : Ok s) (h9 : h < 1050) {g : List Int} (k : ClAll s [] [] h g s.sills.length) (p : Nat) (hpl : p < s.floors.length) (hg : gateOf s p ≤ h) : g[p]?.getD 0 ≤ h := by
  have key : ∀ x ∈ s.sills, ∀ a b : Int, (a, b) = (x.1, x.2.1) ∨ (a, b) = (x.2.1, x.1) → 0 ≤ b ∧ b < s.floors.length → x.2.2 ≤ h → s.floors[b.toNat]?.getD 0 ≤ h → (a = -1 ∨ g[a.toNat]?.getD 0 ≤ h) → g[b.toNat]?.getD 0 ≤ h := by
    intro x hx a b hab hb h1 h2 h3
    obtain ⟨i, hi, rfl⟩ := List.getElem_of_mem hx
    obtain ⟨k1, k2⟩ := k i hi hi
    rcases hab with e | e
    · cases e; exact k1 hb.1 (by simp) (by simp) h1 h2 h3
    · cases e; exact k2 hb.1 (by simp) (by simp) h1 h2 h3
  refine Decidable.byContradiction fun hc => ?_
  have := inv_iter s ok.fl1 (fun a => ∀ i, i < s.floors.length → h < g[i]?.getD 0 → h < a[i]?.getD 0)
    (fun a x b hl8 hx hb hbl hI i hi hgi => by
      rw [set_get a b i _ (by have := ok.fl1; omega)]
      split
      · next e =>
        subst e
        have h1 := hI b hi hgi
        have hne : ¬ (x.2.2 ≤ h ∧ s.floors[b]?.getD 0 ≤ h) := fun hcc => by
          have ho : (-1, (b : Int)) = (x.1, x.2.1) ∨ (-1, (b : Int)) = (x.2.1, x.1) := by
            unfold other at hb
            by_cases e1 : (-1 : Int) = x.1
            · rw [show ((-1 : Int) == x.1) = true from beq_iff_eq.2 e1] at hb
              exact Or.inl (by rw [← e1]; simp at hb; rw [hb])
            · rw [show ((-1 : Int) == x.1) = false from beq_eq_false_iff_ne.2 e1] at hb
              by_cases e2 : (-1 : Int) = x.2.1
              · rw [show ((-1 : Int) == x.2.1) = true from beq_iff_eq.2 e2] at hb
                exact Or.inr (by rw [← e2]; simp at hb; rw [hb])
              · rw [show ((-1 : Int) == x.2.1) = false from beq_eq_false_iff_ne.2 e2] at hb
                simp at hb
          have := key x hx (-1) b ho (by omega) hcc.1 (by simpa using hcc.2) (Or.inl rfl)
          simp only [Int.toNat_natCast] at this
          omega
        omega
      · exact hI i hi hgi)
    (fun a x f b hl8 hx hf hb hbl hI i hi hgi => by
      rw [set_get a b i _ (by have := ok.fl1; omega)]
      split
      · next e =>
        subst e
        have h1 := hI b hi hgi
        by_cases hgf : h < g[f]?.getD 0
        · have := hI f hf hgf
          omega
        · have hne : ¬ (x.2.2 ≤ h ∧ s.floors[b]?.getD 0 ≤ h) := fun hcc => by
            have ho : ((f : Int), (b : Int)) = (x.1, x.2.1) ∨ ((f : Int), (b : Int)) = (x.2.1, x.1) := by
              unfold other at hb
              by_cases e1 : (f : Int) = x.1
              · rw [show ((f : Int) == x.1) = true from beq_iff_eq.2 e1] at hb
                exact Or.inl (by rw [← e1]; simp at hb; rw [hb])
              · rw [show ((f : Int) == x.1) = false from beq_eq_false_iff_ne.2 e1] at hb
                by_cases e2 : (f : Int) = x.2.1
                · rw [show ((f : Int) == x.2.1) = true from beq_iff_eq.2 e2] at hb
                  exact Or.inr (by rw [← e2]; simp at hb; rw [hb])
                · rw [show ((f : Int) == x.2.1) = false from beq_eq_false_iff_ne.2 e2] at hb
                  simp at hb
            have := key x hx f b ho (by omega) hcc.1 (by simpa using hcc.2) (Or.inr (by simp only [Int.toNat_natCast]; omega))
            simp only [Int.toNat_natCast] at this
            omega
          omega
      · exact hI i hi hgi)
    (fun i hi _ => by
      have := ok.fl1
      unfold top
      rw [List.getElem?_replicate, if_pos (by omega)]
      show h < 1050
      omega)
  have h1 := this p hpl (by omega)
  unfold gateOf at hg
  omega

theorem low_le (ok : Ok s) : ∀ p, p < s.floors.length → (0 ≤ (lowR s ss ps)[p]?.getD 0 ∧ (lowR s ss ps)[p]?.getD 0 ≤ 999) ∨ (lowR s ss ps)[p]?.getD 0 = 5000 := by
  have := rounds_inv (s := s) (ss := ss) (ps := ps) (fun g => ∀ p, p < s.floors.length → (0 ≤ g[p]?.getD 0 ∧ g[p]?.getD 0 ≤ 999) ∨ g[p]?.getD 0 = 5000)
    (fun p hp => by right; rw [List.getElem?_replicate, if_pos hp]; rfl)
    (fun g i hi a b hl hab hI p hp => by
      obtain ⟨e1, e2, -⟩ := EndOk.of ok (List.getElem_mem hi)
      have hh := ok.heights _ (List.getElem_mem hi)
      unfold relB
      split
      · next hc =>
        have hb : 0 ≤ b ∧ b < s.floors.length := ⟨hc.1, by rcases hab with e | e <;> cases e <;> omega⟩
        have hf : 0 ≤ s.floors[b.toNat]?.getD 0 ∧ s.floors[b.toNat]?.getD 0 ≤ 999 := by
          rw [List.getElem?_eq_getElem (show b.toNat < s.floors.length by omega), Option.getD_some]
          exact ok.floors _ (List.getElem_mem _)
        rw [set_get g _ _ _ (by omega)]
        split
        · next e =>
          have h1 := hI b.toNat (by omega)
          have ha : a = -1 ∨ 0 ≤ a ∧ a < s.floors.length := by rcases hab with e | e <;> cases e <;> omega
          unfold ovr
          rcases ha with ha | ha
          · rw [if_neg (by omega)]; omega
          · rw [if_pos ha.1]
            have h2 := hI a.toNat (by omega)
            omega
        · exact hI p hp
      · exact hI p hp) s.floors.length
  exact this
/-- the reference's gate -/
def gateR (s : Sd) (q : Nat) : Int := if gateOf s q < 1050 then gateOf s q else 5000
theorem low_gate (ok : Ok s) (p : Nat) (hp : p < s.floors.length) : (lowR s [] [])[p]?.getD 0 = gateR s p := by
  have gl := fun q => gts_le s q
  have ge := rounds_inv (s := s) (ss := []) (ps := []) (fun g => ∀ q, q < s.floors.length → gateR s q ≤ g[q]?.getD 0)
    (fun q hq => by rw [List.getElem?_replicate, if_pos hq]; show gateR s q ≤ (5000 : Int); have := gl q; unfold gateR; split <;> omega)
    (fun g i hi a b hl hab hI q hq => by
      obtain ⟨e1, e2, -⟩ := EndOk.of ok (List.getElem_mem hi)
      have hh := ok.heights _ (List.getElem_mem hi)
      unfold relB
      split
      · next hc =>
        have hb : 0 ≤ b ∧ b < s.floors.length := ⟨hc.1, by rcases hab with e | e <;> cases e <;> omega⟩
        have ha : a = -1 ∨ 0 ≤ a ∧ a < s.floors.length := by rcases hab with e | e <;> cases e <;> omega
        have hf : 0 ≤ s.floors[b.toNat]?.getD 0 ∧ s.floors[b.toNat]?.getD 0 ≤ 999 := by
          rw [List.getElem?_eq_getElem (show b.toNat < s.floors.length by omega), Option.getD_some]
          exact ok.floors _ (List.getElem_mem _)
        rw [set_get g _ _ _ (by omega)]
        split
        · next e =>
          subst e
          have h1 := hI b.toNat hq
          have h2' := hI a.toNat
          have key : gateR s b.toNat ≤ ovr s g a b s.sills[i].2.2 := by
            unfold gateR at h2'
            unfold ovr gateR
            rcases ha with ha | ha
            · rw [if_neg (show ¬ 0 ≤ a by omega)]
              have := gate_step ok (List.getElem_mem hi) hb (.inl ha) hab (h := max (max 0 s.sills[i].2.2) (s.floors[b.toNat]?.getD 0)) (by omega) (by omega) (by omega) (.inl ha)
              rw [if_pos (show gateOf s b.toNat < 1050 by omega)]
              exact this
            · rw [if_pos ha.1]
              have h2 := h2' (by omega)
              by_cases hga : gateOf s a.toNat < 1050
              · rw [if_pos hga] at h2
                have g0 := (gl a.toNat).1
                have := gate_step ok (List.getElem_mem hi) hb (.inr ha) hab (h := max (max (gateOf s a.toNat) s.sills[i].2.2) (s.floors[b.toNat]?.getD 0)) (by omega) (by omega) (by omega) (.inr (by omega))
                rw [if_pos (show gateOf s b.toNat < 1050 by omega)]
                omega
              · rw [if_neg hga] at h2
                split <;> omega
          omega
        · exact hI q hq
      · exact hI q hq) s.floors.length p hp
  have g1 := gl p
  unfold gateR at ge ⊢
  split
  · next hlt =>
    rw [if_pos hlt] at ge
    have := closed_all ok hlt (low_closed (ss := []) (ps := []) (c := gateOf s p) ok g1.1) p hp (Int.le_refl _)
    unfold lowR at this ⊢
    omega
  · next hge =>
    rw [if_neg hge] at ge
    have := low_le (ss := []) (ps := []) ok p hp
    unfold lowR at this ⊢
    omega
end
end
end Go.Proofs.Ytcljkkojeleakaa
/- Rows that lie in a block of their own, from its first cell on: cells, and what a store changes. -/
namespace Go.Proofs.Ytcljkkojeleakaa
section
open Go.RowKit Go.Shelf

theorem flatten_set (k : Nat) : ∀ (rows : List (List Value)) (i j : Nat) (v : Value) (hi : i < rows.length), (∀ r ∈ rows, r.length = k) → j < k → rows.flatten.set (i * k + j) v = (rows.set i (rows[i].set j v)).flatten
  | a :: r, 0, j, v, _, hk, hj => by
    have ha := hk a (by simp)
    rw [Nat.zero_mul, Nat.zero_add, List.flatten_cons, List.set_append_left _ _ (by omega)]
    rfl
  | a :: r, i + 1, j, v, hi, hk, hj => by
    have ha := hk a (by simp)
    have hi' : i < r.length := by simpa using hi
    have ih := flatten_set k r i j v hi' (fun x hx => hk x (by simp [hx])) hj
    rw [List.flatten_cons, List.set_append_right _ _ (by rw [Nat.add_mul]; omega), show (i + 1) * k + j - a.length = i * k + j by rw [Nat.add_mul]; omega, ih]
    rfl
theorem flatten_len (k : Nat) : ∀ (rows : List (List Value)), (∀ r ∈ rows, r.length = k) → rows.flatten.length = rows.length * k
  | [], _ => by simp
  | a :: r, h => by
    rw [List.flatten_cons, List.length_append, flatten_len k r (fun x hx => h x (by simp [hx])), h a (by simp), List.length_cons, Nat.add_mul]
    omega

def RowBlk (w : World) (g : Nat) (T : TypeId) (k : Nat) (rows : List (List Value)) : Prop := (∀ r ∈ rows, r.length = k) ∧ ∃ cur : List Value, Blk w g cur T ∧ cur.take (rows.length * k) = rows.flatten
section
variable {w w' : World} {g k n₀ c : Nat} {T : TypeId} {p : Option Addr} {rows : List (List Value)}
theorem RowBlk.cell (h : RowBlk w g T k rows) {i j : Nat} {row : List Value} {x : Value} (hi : rows[i]? = some row) (hj : row[j]? = some x) : w.cell? ⟨g, i * k + j, none⟩ = some x := by
  obtain ⟨hk, cur, hb, ht⟩ := h
  have hil := (List.getElem?_eq_some_iff.1 hi).1
  have hr : row.length = k := hk row (List.mem_of_getElem? hi)
  have hjl : j < k := by have := (List.getElem?_eq_some_iff.1 hj).1; omega
  have hok : flatOk k rows = true := by unfold flatOk; simpa using hk
  have hf := flat_at k rows hok i row hi j x hj
  have hlt : i * k + j < rows.length * k := by
    have : (i + 1) * k ≤ rows.length * k := Nat.mul_le_mul_right _ (by omega)
    rw [Nat.add_mul] at this; omega
  rw [← ht, List.getElem?_take_of_lt hlt] at hf
  rw [hb.cell, hf]
theorem RowBlk.free (h : RowBlk w g T k rows) (i : Nat) : w.frozen? ⟨g, i, none⟩ = false := by
  obtain ⟨-, cur, hb, -⟩ := h
  exact hb.free i
theorem RowBlk.lt (h : RowBlk w g T k rows) : g < w.heap.size := by
  obtain ⟨-, cur, hb, -⟩ := h
  exact hb.lt
theorem RowBlk.row (h : RowBlk w g T k rows) : Row w (some ⟨g, 0, none⟩) k rows := fun i row hi => ⟨g, 0, rfl, fun j x hj => by rw [Nat.zero_add]; exact h.cell hi hj⟩
theorem RowBlk.up (h : RowBlk w g T k rows) (hu : Up w w') : RowBlk w' g T k rows := by
  obtain ⟨hk, cur, hb, ht⟩ := h
  exact ⟨hk, cur, hb.up hu, ht⟩
theorem RowBlk.other (h : RowBlk w g T k rows) {a : Addr} (ha : g ≠ a.block) (v : Value) : RowBlk (w.setCell a v) g T k rows := by
  obtain ⟨hk, cur, hb, ht⟩ := h
  exact ⟨hk, cur, hb.other ha v, ht⟩
theorem RowBlk.far {B n : Nat} (h : RowBlk w g T k rows) (hf : Far B n w w') (h1 : g < n) (h2 : g ≠ B) : RowBlk w' g T k rows := by
  obtain ⟨hk, cur, hb, ht⟩ := h
  exact ⟨hk, cur, hf.blk hb h1 h2, ht⟩
theorem RowBlk.set (h : RowBlk w g T k rows) {i j : Nat} (hi : i < rows.length) (hj : j < k) (v : Value) : RowBlk (w.setCell ⟨g, i * k + j, none⟩ v) g T k (rows.set i (rows[i].set j v)) := by
  obtain ⟨hk, cur, hb, ht⟩ := h
  refine ⟨fun r hr => ?_, _, hb.set _ _, ?_⟩
  · rcases List.mem_or_eq_of_mem_set hr with h1 | rfl
    · exact hk r h1
    · rw [List.length_set]; exact hk _ (List.getElem_mem _)
  · rw [List.length_set, ← flatten_set k rows i j v hi hk hj, ← ht, List.take_set]
theorem RowBlk.of (h : w.ownsRow n₀ T k (.slice p rows.length c) rows.length rows.flatten) (hk : ∀ r ∈ rows, r.length = k) (hl : 0 < rows.length) : ∃ g, p = some ⟨g, 0, none⟩ ∧ n₀ ≤ g ∧ RowBlk w g T k rows := by
  rcases h.2 with ⟨-, h0⟩ | ⟨g, cap, cur, h1, h2, h3, h4, h5, h6, h7⟩
  · omega
  · injection h1 with e1 e2 e3
    exact ⟨g, e1, h2, hk, cur.toList, h3, h7⟩
/-- rows of another type lie elsewhere -/
theorem RowBlk.ne {E : TypeId} {m n : Nat} {q : Option Addr} {xs : List Value} (h : RowBlk w g T k rows) (h' : w.ownsRow n₀ E m (.slice q n c) n xs) (hE : E ≠ T) : ∀ b off, q = some ⟨b, off, none⟩ → b ≠ g := by
  intro b off e hb
  obtain ⟨-, cur, hc, -⟩ := h
  rcases h'.2 with ⟨h1, -⟩ | ⟨g', cap, cur', h1, h2, h3, h4⟩
  · injection h1 with e1 e2 e3
    rw [e1] at e; cases e
  · injection h1 with e1 e2 e3
    rw [e1] at e
    simp only [Option.some.injEq, Addr.mk.injEq] at e
    have hg : g' = g := by omega
    rw [hg] at h3
    have h5 := h3.symm.trans hc
    simp only [Option.some.injEq, Obj.cells.injEq] at h5
    exact hE h5.2.1
theorem Blk.row {w : World} {B : Nat} {T : TypeId} (k : Nat) {rows : List (List Value)} (hk : ∀ r ∈ rows, r.length = k) (h : Blk w B rows.flatten T) : RowBlk w B T k rows :=
  ⟨hk, _, h, by rw [List.take_of_length_le (by rw [flatten_len k rows hk]; exact Nat.le_refl _)]⟩
/-- own rows lie below the heap's end -/
theorem ownsRow_lt {E : TypeId} {m n : Nat} {q : Option Addr} {xs : List Value} (h : w.ownsRow n₀ E m (.slice q n c) n xs) : ∀ b off, q = some ⟨b, off, none⟩ → n₀ ≤ b ∧ b < w.heap.size := by
  intro b off e
  rcases h.2 with ⟨h1, -⟩ | ⟨g', cap, cur', h1, h2, h3, h4⟩
  · injection h1 with e1 e2 e3
    rw [e1] at e; cases e
  · injection h1 with e1 e2 e3
    rw [e1] at e
    simp only [Option.some.injEq, Addr.mk.injEq] at e
    have hg : g' = b := by omega
    rw [hg] at h3 h2
    exact ⟨h2, (Array.getElem?_eq_some_iff.1 h3).1⟩
end
theorem triples_len (l : List (Int × Int × Int)) : ∀ r ∈ triples l, r.length = 3 := fun r hr => by
  simp only [triples, List.mem_map] at hr
  obtain ⟨x, -, rfl⟩ := hr; rfl
theorem pairs_len (l : List (Int × Int)) : ∀ r ∈ pairs l, r.length = 2 := fun r hr => by
  simp only [pairs, List.mem_map] at hr
  obtain ⟨x, -, rfl⟩ := hr; rfl
theorem ints_len (l : List Int) : ∀ r ∈ ints l, r.length = 1 := fun r hr => by
  simp only [ints, List.mem_map] at hr
  obtain ⟨x, -, rfl⟩ := hr; rfl
theorem triples_set (l : List (Int × Int × Int)) (i : Nat) (hi : i < l.length) (h : Int) : (triples l).set i (((triples l)[i]'(by simpa [triples] using hi)).set 2 (.int .i64 h)) = triples (l.set i (l[i].1, l[i].2.1, h)) := by
  unfold triples
  rw [List.map_set]
  simp
theorem ints_set (l : List Int) (i : Nat) (hi : i < l.length) (h : Int) : (ints l).set i (((ints l)[i]'(by simpa [ints] using hi)).set 0 (.int .i64 h)) = ints (l.set i h) := by
  unfold ints
  rw [List.map_set]
  simp
end
end Go.Proofs.Ytcljkkojeleakaa
/- The reference's least crests: what its functions over, least, Gate and Gates return. -/
namespace Go.Proofs.Ytcljkkojeleakaa
open Go.RowKit Go.Shelf

section
variable {pT pF pS : Option Addr} {cT cF cS : Nat}
set_option maxHeartbeats 400000 in
theorem has_c (l : List Int) (p : Option Addr) (c : Nat) (n : Int) (w : World) (hr : Row w p 1 (ints l)) (hm : l.length ≤ maxLen) :
    Calls Try.prog 99 #[.slice p l.length c, .int .i64 n] w fun e w' => e = .returned (.bool (decide (n ∈ l))) ∧ w = w' := by
  unfold maxLen at hm
  go_enter Try.func99, Try.ntmps99
  go_wp2
  go_loop [5] (fun i => ∃ k : Nat, k ≤ l.length ∧ i = .int .i64 k ∧ n ∉ l.take k) (fun i => l.length - (intOf i).toNat)
  case atStart => exact ⟨0, Nat.zero_le _, rfl, by simp⟩
  case round =>
    obtain ⟨k, hk, rfl, hn⟩ := hrel
    have HN := Lib.hid hn
    clear hn
    by_cases hlt : k < l.length
    · obtain ⟨b, off, rfl, hc0⟩ := hr.int k hlt
      have k1 : (k : Int) < l.length := by omega
      by_cases he : l[k] = n
      · have HE := Lib.hid he
        have he' : (l[k] == n) = true := by simpa using he
        clear he
        go_wp2
        go_ret
        exact ⟨ret_bool (decide_eq_true (by rw [← HE.out]; exact List.getElem_mem _)).symm, rfl⟩
      · have HE := Lib.hid he
        have he' : (l[k] == n) = false := by simpa using he
        clear he
        go_wp2
        go_round
        case rel =>
          refine ⟨k + 1, hlt, by go_num, ?_⟩
          rw [List.take_succ_eq_append_getElem hlt, List.mem_append, List.mem_singleton]
          rintro (h | h)
          · exact HN.out h
          · exact HE.out h.symm
        case measure => simp [intOf]; omega
    · obtain rfl : k = l.length := by omega
      have h := HN.out
      rw [List.take_length] at h
      have HH := Lib.hid h
      clear h
      go_wp2
      go_ret
      exact ⟨ret_bool (decide_eq_false HH.out).symm, rfl⟩

set_option maxRecDepth 100000 in
set_option maxHeartbeats 1000000 in
theorem over_c (s : Sd) (G : List Int) (g : Nat) (n c : Nat) (a b h : Int) (w : World) (hn : G.length = n) (hl : Lists w s pT pF pS cT cF cS) (hr : Row w (some ⟨g, 0, none⟩) 1 (ints G)) (ha : a = -1 ∨ 0 ≤ a ∧ a < n) (hb : 0 ≤ b ∧ b < s.floors.length) (_hf : s.floors.length ≤ 1000) (hn9 : n ≤ 1000) :
    Calls Try.prog 147 #[sdVal s pT pF pS cT cF cS, .slice (some ⟨g, 0, none⟩) n c, .int .i64 a, .int .i64 b, .int .i64 h] w fun e w' => e = .returned (.int .i64 (ovr s G a b h)) ∧ Up w w' := by
  subst hn
  obtain ⟨bn, rfl⟩ := Int.eq_ofNat_of_zero_le hb.1
  obtain ⟨gF, oF, rfl, e1⟩ := hl.rf.int bn (by omega)
  have e1' := (show Up w (w.alloc (.cells (sdCells s pT (some ⟨gF, oF, none⟩) pS cT cF cS).toArray 37)) by (repeat (first | exact Below.refl _ _ | (with_reducible refine Below.drewN' ?_ _) | (with_reducible refine Below.drew ?_) | (with_reducible refine Below.setCell ?_ (by first | exact Nat.le_refl _ | omega | (with_reducible (repeat (first | refine sz_alloc ?_ | refine sz_setCell ?_ | refine sz_drew ?_ | refine sz_drewN ?_)); first | exact Nat.le_refl _ | omega) | (simp only [World.size_alloc, World.size_setCell, World.size_drew, size_drewN']; omega)) _) | (with_reducible refine Below.alloc ?_ (by first | exact Nat.le_refl _ | omega | (with_reducible (repeat (first | refine sz_alloc ?_ | refine sz_setCell ?_ | refine sz_drew ?_ | refine sz_drewN ?_)); first | exact Nat.le_refl _ | omega) | (simp only [World.size_alloc, World.size_setCell, World.size_drew, size_drewN']; omega)) _) | assumption))).cellAt e1
  have lF := cell_lt e1
  have hb1 : (bn : Int) < s.floors.length := by omega
  have HF := Lib.hid (show s.floors[((bn : Int)).toNat]?.getD 0 = s.floors[bn]'(by omega) by rw [Int.toNat_natCast, List.getElem?_eq_getElem (by omega)]; rfl)
  have HU : Hid (Up w (w.alloc (.cells (sdCells s pT (some ⟨gF, oF, none⟩) pS cT cF cS).toArray 37))) := Lib.hid (by (repeat (first | exact Below.refl _ _ | (with_reducible refine Below.drewN' ?_ _) | (with_reducible refine Below.drew ?_) | (with_reducible refine Below.setCell ?_ (by first | exact Nat.le_refl _ | omega | (with_reducible (repeat (first | refine sz_alloc ?_ | refine sz_setCell ?_ | refine sz_drew ?_ | refine sz_drewN ?_)); first | exact Nat.le_refl _ | omega) | (simp only [World.size_alloc, World.size_setCell, World.size_drew, size_drewN']; omega)) _) | (with_reducible refine Below.alloc ?_ (by first | exact Nat.le_refl _ | omega | (with_reducible (repeat (first | refine sz_alloc ?_ | refine sz_setCell ?_ | refine sz_drew ?_ | refine sz_drewN ?_)); first | exact Nat.le_refl _ | omega) | (simp only [World.size_alloc, World.size_setCell, World.size_drew, size_drewN']; omega)) _) | assumption)))
  clear hl e1
  unfold sdCells at *
  unfold sdVal
  rcases ha with rfl | ⟨a0, a1⟩
  · have HO := Lib.hid (show ovr s G (-1) bn h = max (max 0 h) (s.floors[bn]'(by omega)) by unfold ovr; rw [if_neg (by decide), HF.out])
    generalize s.floors[bn] = fl at *
    by_cases h1 : 0 < h
    · by_cases h2 : h < fl
      · have HV := Lib.hid (show ovr s G (-1) bn h = fl by rw [HO.out]; omega)
        clear HO
        go_enter Try.func147, Try.ntmps147
        go_wp2
        go_ret
        exact ⟨by rw [HV.out]; rfl, HU.out⟩
      · have HV := Lib.hid (show ovr s G (-1) bn h = h by rw [HO.out]; omega)
        clear HO
        go_enter Try.func147, Try.ntmps147
        go_wp2
        go_ret
        exact ⟨by rw [HV.out]; rfl, HU.out⟩
    · by_cases h2 : 0 < fl
      · have HV := Lib.hid (show ovr s G (-1) bn h = fl by rw [HO.out]; omega)
        clear HO
        go_enter Try.func147, Try.ntmps147
        go_wp2
        go_ret
        exact ⟨by rw [HV.out]; rfl, HU.out⟩
      · have HV := Lib.hid (show ovr s G (-1) bn h = 0 by rw [HO.out]; omega)
        clear HO
        go_enter Try.func147, Try.ntmps147
        go_wp2
        go_ret
        exact ⟨by rw [HV.out]; rfl, HU.out⟩
  · obtain ⟨an, rfl⟩ := Int.eq_ofNat_of_zero_le a0
    have ha1 : an < G.length := by omega
    obtain ⟨g', o', hg, e2⟩ := hr.int an ha1
    simp only [Option.some.injEq, Addr.mk.injEq, and_true] at hg
    obtain ⟨rfl, rfl⟩ := hg
    rw [Nat.zero_add] at e2
    have lG := cell_lt e2
    have e2' := HU.out.cellAt e2
    have HO := Lib.hid (show ovr s G an bn h = max (max G[an] h) (s.floors[bn]'(by omega)) by unfold ovr; rw [if_pos (by omega), HF.out, Int.toNat_natCast, List.getElem?_eq_getElem ha1]; rfl)
    clear e2 hr
    generalize s.floors[bn] = fl at *
    generalize G[an] = cr at *
    by_cases h1 : cr < h
    · by_cases h2 : h < fl
      · have HV := Lib.hid (show ovr s G an bn h = fl by rw [HO.out]; omega)
        clear HO
        go_enter Try.func147, Try.ntmps147
        go_wp2
        go_ret
        exact ⟨by rw [HV.out]; rfl, HU.out⟩
      · have HV := Lib.hid (show ovr s G an bn h = h by rw [HO.out]; omega)
        clear HO
        go_enter Try.func147, Try.ntmps147
        go_wp2
        go_ret
        exact ⟨by rw [HV.out]; rfl, HU.out⟩
    · by_cases h2 : cr < fl
      · have HV := Lib.hid (show ovr s G an bn h = fl by rw [HO.out]; omega)
        clear HO
        go_enter Try.func147, Try.ntmps147
        go_wp2
        go_ret
        exact ⟨by rw [HV.out]; rfl, HU.out⟩
      · have HV := Lib.hid (show ovr s G an bn h = cr by rw [HO.out]; omega)
        clear HO
        go_enter Try.func147, Try.ntmps147
        go_wp2
        go_ret
        exact ⟨by rw [HV.out]; rfl, HU.out⟩

set_option maxRecDepth 100000 in
set_option maxHeartbeats 1000000 in
theorem refPlace_c (s : Sd) (x : Int) (w : World) (hl : Lists w s pT pF pS cT cF cS) :
    Calls Try.prog 28 #[sdVal s pT pF pS cT cF cS, .int .i64 x] w fun e w' => e = .returned (.int .i64 (bif isPl s x then 0 else 1)) ∧ Up w w' := by
  have m1 : (s.floors.length : Int) ≤ 9223372036854775807 := by have := Nat.le_trans hl.cf hl.mf; simp only [maxLen] at this; omega
  have s1 : IntKind.i64.wrap ((s.floors.length : Int) - 1) = (s.floors.length : Int) - 1 := IntWalk.i64_in _ (by omega)
  clear hl
  unfold sdVal
  go_enter Try.func28, Try.ntmps28
  go_wp2_with fail
  refine (off_c _ _ _ _).mono ?_
  rintro e w3 ⟨rfl, rfl⟩
  have hd : inB x 0 (s.floors.length - 1) = isPl s x := rfl
  rw [hd]
  clear hd
  cases hv : isPl s x
  all_goals
    have HD := Lib.hid hv
    clear hv
    go_wp2
    go_ret
    exact ⟨by rw [HD.out]; rfl, by (repeat (first | exact Below.refl _ _ | (with_reducible refine Below.drewN' ?_ _) | (with_reducible refine Below.drew ?_) | (with_reducible refine Below.setCell ?_ (by first | exact Nat.le_refl _ | omega | (with_reducible (repeat (first | refine sz_alloc ?_ | refine sz_setCell ?_ | refine sz_drew ?_ | refine sz_drewN ?_)); first | exact Nat.le_refl _ | omega) | (simp only [World.size_alloc, World.size_setCell, World.size_drew, size_drewN']; omega)) _) | (with_reducible refine Below.alloc ?_ (by first | exact Nat.le_refl _ | omega | (with_reducible (repeat (first | refine sz_alloc ?_ | refine sz_setCell ?_ | refine sz_drew ?_ | refine sz_drewN ?_)); first | exact Nat.le_refl _ | omega) | (simp only [World.size_alloc, World.size_setCell, World.size_drew, size_drewN']; omega)) _) | assumption))⟩

/-- a block of numbers that is stored into -/
abbrev IntBlk (w : World) (g : Nat) (l : List Int) : Prop := RowBlk w g 3 1 (ints l)
theorem IntBlk.at {w : World} {g : Nat} {l : List Int} (h : IntBlk w g l) (i : Nat) (hi : i < l.length) : w.cell? ⟨g, i, none⟩ = some (.int .i64 l[i]) := by
  have := RowBlk.cell h (i := i) (j := 0) (row := [.int .i64 l[i]]) (x := .int .i64 l[i]) (by simp [ints, hi]) rfl
  simpa using this
theorem IntBlk.put {w : World} {g : Nat} {l : List Int} (h : IntBlk w g l) (i : Nat) (hi : i < l.length) (v : Int) : IntBlk (w.setCell ⟨g, i, none⟩ (.int .i64 v)) g (l.set i v) := by
  have := RowBlk.set h (i := i) (j := 0) (by simp [ints, hi]) (by decide) (.int .i64 v)
  rw [ints_set l i hi v, Nat.mul_one, Nat.add_zero] at this
  exact this
theorem relB_ends {s : Sd} {ss ps : List Int} {i : Nat} {g : List Int} {a b h : Int} (hc : ¬ (0 ≤ b ∧ (i : Int) ∉ ss ∧ b ∉ ps)) : relB s ss ps i g a b h = g := by unfold relB; rw [if_neg hc]

set_option maxRecDepth 100000 in
set_option maxHeartbeats 4000000 in
theorem refLeast_c (s : Sd) (tp : Nat) (ss ps : List Int) (qS qP : Option Addr) (dS dP : Nat) (w : World) (ok : Ok s) (hl : Lists w s pT pF pS cT cF cS) (hs : Row w qS 1 (ints ss)) (hp : Row w qP 1 (ints ps)) (ls : ss.length ≤ maxLen) (lp : ps.length ≤ maxLen) (ht : tp < s.floors.length) :
    Calls Try.prog 92 #[sdVal s pT pF pS cT cF cS, .int .i64 tp, .slice qS ss.length dS, .slice qP ps.length dP] w fun e w' => e = .returned (.int .i64 ((lowR s ss ps)[tp]?.getD 0)) ∧ Up w w' := by
  have f8 := ok.fl1
  have s16 := ok.sl
  obtain ⟨i0, hi, hz0, hz1, hz2⟩ := info_parts info3
  have HH := Lib.hid (fun (l : List Int) (p : Option Addr) (c : Nat) (n : Int) (W : World) (hr : Row W p 1 (ints l)) (hm : l.length ≤ maxLen) => has_c l p c n W hr hm)
  have HL := Lib.hid hl
  have HS := Lib.hid hs
  have HP := Lib.hid hp
  have OK := Lib.hid ok
  clear hl hs hp ok
  unfold sdVal
  go_enter Try.func92, Try.ntmps92
  go_wp2_with fail
  have BS : Hid (Blk (w.alloc (.cells #[.slice pT s.table.length cT, .int .i64 s.lo, .int .i64 s.hi, .slice pF s.floors.length cF, .slice pS s.sills.length cS] 37)) w.heap.size (sdCells s pT pF pS cT cF cS) 37) := Lib.hid (Blk.new w (sdCells s pT pF pS cT cF cS) 37)
  have U0 : Hid (Up w (w.alloc (.cells #[.slice pT s.table.length cT, .int .i64 s.lo, .int .i64 s.hi, .slice pF s.floors.length cF, .slice pS s.sills.length cS] 37))) := Lib.hid (by (repeat (first | exact Below.refl _ _ | (with_reducible refine Below.drewN' ?_ _) | (with_reducible refine Below.drew ?_) | (with_reducible refine Below.setCell ?_ (by first | exact Nat.le_refl _ | omega | (with_reducible (repeat (first | refine sz_alloc ?_ | refine sz_setCell ?_ | refine sz_drew ?_ | refine sz_drewN ?_)); first | exact Nat.le_refl _ | omega) | (simp only [World.size_alloc, World.size_setCell, World.size_drew, size_drewN']; omega)) _) | (with_reducible refine Below.alloc ?_ (by first | exact Nat.le_refl _ | omega | (with_reducible (repeat (first | refine sz_alloc ?_ | refine sz_setCell ?_ | refine sz_drew ?_ | refine sz_drewN ?_)); first | exact Nat.le_refl _ | omega) | (simp only [World.size_alloc, World.size_setCell, World.size_drew, size_drewN']; omega)) _) | assumption)))
  generalize (w.alloc (.cells #[.slice pT s.table.length cT, .int .i64 s.lo, .int .i64 s.hi, .slice pF s.floors.length cF, .slice pS s.sills.length cS] 37)) = w0 at *
  have hbs : w.heap.size < w0.heap.size := BS.out.lt
  go_loopw [10, 9] (fun i v wr => ∃ k : Nat, k ≤ s.floors.length ∧ i = .int .i64 k ∧ wr.ownsRow w0.heap.size 3 1 v k (ints (List.replicate k 5000)).flatten ∧ Up w0 wr) (fun i _ _ => s.floors.length - (intOf i).toNat)
  case atStart => exact ⟨0, by omega, rfl, World.ownsRow_nil _ _ _ _, Below.refl _ _⟩
  case round =>
    obtain ⟨k, hk, rfl, hown, hu⟩ := hrel
    have HO := Lib.hid hown
    have HU := Lib.hid hu
    have hsz := hu.size
    obtain ⟨c0, c1, c2, c3, c4⟩ := five (BS.out.up hu)
    clear hown hu
    by_cases hlt : k < s.floors.length
    · have k1 : (k : Int) < s.floors.length := by omega
      go_wp2_with (at_builtin; refine wpList_append_own _ rfl _ _ 25 rfl w0.heap.size 3 i0 (.int .i64 0) 1 8 Try.underlying25 hi hz0 hz1 hz2 rfl (by decide) _ _ _ rfl (HO.out.alloc _) ⟨wr.heap.size, 0, none⟩ 1 1 [.int .i64 5000] rfl rfl (newsAt _ rfl [.int .i64 5000] _) (by simp [Value.oneCell']) (by simp [maxLen]; omega) (by omega) (sz_alloc hsz) ?_; intro v' w8 hown8 hgr8 hnn; clear hnn)
      have U8 := Lib.hid ((HU.out.alloc hsz _).grown hgr8 (sz_alloc hsz) (fun j e => (HO.out.lt j e).1))
      have O8 := Lib.hid hown8
      clear hown8 hgr8
      go_roundw
      case rel =>
        try ((repeat apply Exists.intro); refine ⟨?_, rfl⟩)
        refine ⟨k + 1, by omega, by go_num, ?_, U8.out⟩
        have e : (ints (List.replicate (k + 1) 5000)).flatten = (ints (List.replicate k 5000)).flatten ++ [.int .i64 5000] := by
          rw [List.replicate_succ']
          unfold ints
          rw [List.map_append, List.flatten_append]
          rfl
        rw [e]
        exact O8.out
      case measure => simp [intOf]; omega
    · obtain rfl : k = s.floors.length := by omega
      obtain ⟨q, d, rfl, a1, a2, hR, hge⟩ := Row.of_own (rows := ints (List.replicate s.floors.length 5000)) (flatOk_ints _) HO.out (by simp [ints])
      have hlen : (ints (List.replicate s.floors.length 5000)).length = s.floors.length := by simp [ints]
      obtain ⟨g, hg, hg0, rb⟩ := RowBlk.of (rows := ints (List.replicate s.floors.length 5000)) (p := q) (c := d) (by rw [hlen]; exact HO.out) (ints_len _) (by rw [hlen]; have := OK.out.fl0; omega)
      subst hg
      have RB := Lib.hid rb
      clear rb hR hge HO hi hz0 hz1 hz2 hlen hlt
      generalize wr = w1 at *
      have U1 := Lib.hid (Up.trans U0.out HU.out)
      have ok := OK.out
      go_wp2_with fail
      go_loopw [11] (fun r wr => ∃ k : Nat, k ≤ s.floors.length ∧ r = .int .i64 k ∧ IntBlk wr g (rounds s ss ps k) ∧ Up w0 wr) (fun r _ => s.floors.length - (intOf r).toNat)
      case atStart => exact ⟨0, by omega, rfl, RB.out, HU.out⟩
      case round =>
        obtain ⟨k, hk, rfl, hb, hu⟩ := hrel
        have HB := Lib.hid hb
        have HU2 := Lib.hid hu
        obtain ⟨c0, c1, c2, c3, c4⟩ := five (BS.out.up hu)
        clear hb hu
        by_cases hlt : k < s.floors.length
        · have k1 : (k : Int) < s.floors.length := by omega
          have HRK := Lib.hid (show rounds s ss ps (k + 1) = rpass s ss ps (rounds s ss ps k) s.sills.length from rfl)
          have hgl := rounds_len (s := s) (ss := ss) (ps := ps) k
          generalize rounds s ss ps k = G0 at *
          go_wp2_with fail
          go_loopw [12] (fun r wx => ∃ i : Nat, i ≤ s.sills.length ∧ r = .int .i64 i ∧ IntBlk wx g (rpass s ss ps G0 i) ∧ Up w0 wx) (fun r _ => s.sills.length - (intOf r).toNat)
          case atStart => exact ⟨0, by omega, rfl, HB.out, HU2.out⟩
          case round =>
            obtain ⟨i, hi, rfl, hb, hu⟩ := hrel
            have HB2 := Lib.hid hb
            have HU3 := Lib.hid hu
            clear hb hu c0 c1 c2 c3 c4
            obtain ⟨c0, c1, c2, c3, c4⟩ := five (BS.out.up HU3.out)
            by_cases hli : i < s.sills.length
            · have i1 : (i : Int) < s.sills.length := by omega
              obtain ⟨bs, os, rfl, d0, d1, d2⟩ := HL.out.rs.triple i hli
              have UW := Lib.hid (Up.trans U0.out HU3.out)
              have d0' := UW.out.cellAt d0
              have d1' := UW.out.cellAt d1
              have d2' := UW.out.cellAt d2
              obtain ⟨x1, x2, x3⟩ := EndOk.of ok (List.getElem_mem hli)
              have HRP := Lib.hid (show rpass s ss ps G0 (i + 1) = relB s ss ps i (relB s ss ps i (rpass s ss ps G0 i) s.sills[i].1 s.sills[i].2.1 s.sills[i].2.2) s.sills[i].2.1 s.sills[i].1 s.sills[i].2.2 by
                show rsill s ss ps (rpass s ss ps G0 i) i (s.sills[i]?.getD (0, 0, 0)) = _
                rw [List.getElem?_eq_getElem hli, Option.getD_some]
                rfl)
              have hpl : (rpass s ss ps G0 i).length = s.floors.length := by rw [rpass_len, hgl]
              generalize rpass s ss ps G0 i = G at *
              generalize s.sills[i] = x at *
              obtain ⟨a, b, h⟩ := x
              dsimp only at d0' d1' d2' x1 x2 x3 HRP
              clear d0 d1 d2
              go_upto_region 13 with fail
              have BX : Hid (Blk (wr.alloc (.cells #[.int .i64 a, .int .i64 b, .int .i64 h] 131)) wr.heap.size [.int .i64 a, .int .i64 b, .int .i64 h] 131) := Lib.hid (Blk.new wr [.int .i64 a, .int .i64 b, .int .i64 h] 131)
              have VA : Hid (Up wr (wr.alloc (.cells #[.int .i64 a, .int .i64 b, .int .i64 h] 131))) := Lib.hid (by (repeat (first | exact Below.refl _ _ | (with_reducible refine Below.drewN' ?_ _) | (with_reducible refine Below.drew ?_) | (with_reducible refine Below.setCell ?_ (by first | exact Nat.le_refl _ | omega | (with_reducible (repeat (first | refine sz_alloc ?_ | refine sz_setCell ?_ | refine sz_drew ?_ | refine sz_drewN ?_)); first | exact Nat.le_refl _ | omega) | (simp only [World.size_alloc, World.size_setCell, World.size_drew, size_drewN']; omega)) _) | (with_reducible refine Below.alloc ?_ (by first | exact Nat.le_refl _ | omega | (with_reducible (repeat (first | refine sz_alloc ?_ | refine sz_setCell ?_ | refine sz_drew ?_ | refine sz_drewN ?_)); first | exact Nat.le_refl _ | omega) | (simp only [World.size_alloc, World.size_setCell, World.size_drew, size_drewN']; omega)) _) | assumption)))
              have UA := Lib.hid (Up.trans HU3.out VA.out)
              have IA := Lib.hid (HB2.out.up VA.out)
              have gne : g ≠ wr.heap.size := by have := HB2.out.lt; omega
              clear HB2 HU3 VA UW d0' d1' d2' c0 c1 c2 c3 c4
              generalize (wr.alloc (.cells #[.int .i64 a, .int .i64 b, .int .i64 h] 131)) = wa at *
              generalize wr.heap.size = X at *
              have ha3 : a = -1 ∨ 0 ≤ a ∧ a < s.floors.length := x1
              have hb3 : b = -1 ∨ 0 ≤ b ∧ b < s.floors.length := x2

              have RS := Lib.hid (HS.out.up (Up.trans U0.out UA.out))
              have RP := Lib.hid (HP.out.up (Up.trans U0.out UA.out))
              have y0 := BX.out.cell 0
              have y1 := BX.out.cell 1
              have y2 := BX.out.cell 2
              have ly := BX.out.lt
              simp only [List.getElem?_cons_zero, List.getElem?_cons_succ] at y0 y1 y2
              go_cut [58] (fun c wx => c = .bool (decide (0 ≤ b ∧ (i : Int) ∉ ss ∧ b ∉ ps)) ∧ wa = wx)
              case first =>
                by_cases hb0 : 0 ≤ b
                · have hb5 : decide (0 ≤ b) = true := decide_eq_true hb0
                  go_wp2_with fail
                  refine (HH.out ss qS dS i wa RS.out ls).mono ?_
                  rintro e w' ⟨he, rfl⟩
                  by_cases h1 : (i : Int) ∈ ss
                  · rw [decide_eq_true h1] at he
                    subst he
                    have HV := Lib.hid (show decide (0 ≤ b ∧ (i : Int) ∉ ss ∧ b ∉ ps) = false from decide_eq_false (fun k => k.2.1 h1))
                    clear h1
                    go_wp2_with fail
                    go_meet
                    exact ⟨by rw [HV.out], rfl⟩
                  · rw [decide_eq_false h1] at he
                    subst he
                    have H1 := Lib.hid h1
                    clear h1
                    go_wp2_with fail
                    refine (HH.out ps qP dP b wa RP.out lp).mono ?_
                    rintro e w' ⟨he, rfl⟩
                    by_cases h2 : b ∈ ps
                    · rw [decide_eq_true h2] at he
                      subst he
                      have HV := Lib.hid (show decide (0 ≤ b ∧ (i : Int) ∉ ss ∧ b ∉ ps) = false from decide_eq_false (fun k => k.2.2 h2))
                      clear h2
                      go_wp2_with fail
                      go_meet
                      exact ⟨by rw [HV.out], rfl⟩
                    · rw [decide_eq_false h2] at he
                      subst he
                      have HV := Lib.hid (show decide (0 ≤ b ∧ (i : Int) ∉ ss ∧ b ∉ ps) = true from decide_eq_true ⟨hb0, H1.out, h2⟩)
                      clear h2
                      go_wp2_with fail
                      go_meet
                      exact ⟨by rw [HV.out], rfl⟩
                · have HV := Lib.hid (show decide (0 ≤ b ∧ (i : Int) ∉ ss ∧ b ∉ ps) = false from decide_eq_false (fun k => hb0 k.1))
                  have hb0' : b < 0 := by omega
                  have hb5 : decide (0 ≤ b) = false := decide_eq_false hb0
                  clear hb0
                  go_wp2_with fail
                  go_meet
                  exact ⟨by rw [HV.out], rfl⟩
              case rest =>
                obtain ⟨rfl, rfl⟩ := hcut
                go_upto_if 58 with fail
                go_cut [] (fun wx => IntBlk wx g (relB s ss ps i G a b h) ∧ Blk wx X [.int .i64 a, .int .i64 b, .int .i64 h] 131 ∧ Up w0 wx)
                case first =>
                  by_cases hc : 0 ≤ b ∧ (i : Int) ∉ ss ∧ b ∉ ps
                  · rw [decide_eq_true hc]
                    have hb4 : 0 ≤ b ∧ b < s.floors.length := by have := hc.1; omega
                    have HRB := Lib.hid (show relB s ss ps i G a b h = G.set b.toNat (min (G[b.toNat]?.getD 0) (ovr s G a b h)) by unfold relB; rw [if_pos hc])
                    clear hc
                    have HOV := Lib.hid (fun W (u : Up wa W) => over_c s G g s.floors.length d a b h W hpl (HL.out.up (Up.trans U0.out (Up.trans UA.out u))) (RowBlk.row (RowBlk.up IA.out u)) ha3 hb4 (by omega) (by omega))
                    obtain ⟨n, hn⟩ := Int.eq_ofNat_of_zero_le hb4.1
                    have hnl : n < G.length := by omega
                    have z0 := IntBlk.at IA.out n hnl
                    have HG := Lib.hid (show G[b.toNat]?.getD 0 = G[n] by rw [hn, Int.toNat_natCast, List.getElem?_eq_getElem hnl]; rfl)
                    have HN := Lib.hid (show b.toNat = n by omega)
                    obtain ⟨c0, c1, c2, c3, c4⟩ := five (BS.out.up UA.out)
                    have lg := IA.out.lt
                    have lb := (BS.out.up UA.out).lt
                    subst hn
                    have n1 : (n : Int) < s.floors.length := hb4.2
                    generalize ovr s G a n h = ov at *
                    generalize G[n] = lo at *
                    go_upto_region 14 with fail
                    refine region_tail (fun W' => W'.cell? ⟨X, 0, none⟩ = some (.int .i64 a) ∧ W'.cell? ⟨X, 1, none⟩ = some (.int .i64 (n : Int)) ∧ W'.cell? ⟨X, 2, none⟩ = some (.int .i64 h) ∧ W'.cell? ⟨g, n, none⟩ = some (.int .i64 lo) ∧ W'.cell? ⟨w.heap.size, 0, none⟩ = some (.slice pT s.table.length cT) ∧ W'.cell? ⟨w.heap.size, 1, none⟩ = some (.int .i64 s.lo) ∧ W'.cell? ⟨w.heap.size, 2, none⟩ = some (.int .i64 s.hi) ∧ W'.cell? ⟨w.heap.size, 3, none⟩ = some (.slice pF s.floors.length cF) ∧ W'.cell? ⟨w.heap.size, 4, none⟩ = some (.slice (some ⟨bs, os, none⟩) s.sills.length cS)) 18 mixed (by kernel_rfl) ⟨y0, y1, y2, z0, c0, c1, c2, c3, c4⟩ (fun hHeld => ?_)
                    refine wpAnyG_take 0 59 (v := ?_) rfl rfl (by kernel_rfl) (fun _ _ _ h => h) (Or.inl ⟨by rfl, ?_⟩) (by assumption) ?_
                    rotate_left
                    · (intro w' hSw; (try dsimp only at hSw); go_split_ands; go_simp; try with_reducible rfl)
                    try simp only [List.setIfInBounds_toArray, List.set_cons_zero, List.set_cons_succ]
                    refine wpAnyG_take 1 60 (v := ?_) rfl rfl (by kernel_rfl) (fun _ _ _ h => h) (Or.inl ⟨by rfl, ?_⟩) (by assumption) ?_
                    rotate_left
                    · (intro w' hSw; (try dsimp only at hSw); go_split_ands; go_simp; try with_reducible rfl)
                    try simp only [List.setIfInBounds_toArray, List.set_cons_zero, List.set_cons_succ]
                    refine wpAnyG_take 2 61 (v := ?_) rfl rfl (by kernel_rfl) (fun _ _ _ h => h) (Or.inl ⟨by rfl, ?_⟩) (by assumption) ?_
                    rotate_left
                    · (intro w' hSw; (try dsimp only at hSw); go_split_ands; go_simp; try with_reducible rfl)
                    try simp only [List.setIfInBounds_toArray, List.set_cons_zero, List.set_cons_succ]
                    refine wpAnyG_take 3 62 (v := ?_) rfl rfl (by kernel_rfl) (fun _ _ _ h => h) (Or.inl ⟨by rfl, ?_⟩) (by assumption) ?_
                    rotate_left
                    · (intro w' hSw; (try dsimp only at hSw); go_split_ands; go_simp; try with_reducible rfl)
                    try simp only [List.setIfInBounds_toArray, List.set_cons_zero, List.set_cons_succ]
                    refine wpAnyG_take 4 63 (v := ?_) rfl rfl (by kernel_rfl) (fun _ _ _ h => h) (Or.inl ⟨by rfl, ?_⟩) (by assumption) ?_
                    rotate_left
                    · (intro w' hSw; (try dsimp only at hSw); go_split_ands; go_simp; try with_reducible rfl)
                    try simp only [List.setIfInBounds_toArray, List.set_cons_zero, List.set_cons_succ]
                    refine wpAnyG_take 5 64 (v := ?_) rfl rfl (by kernel_rfl) (fun _ _ _ h => h) (Or.inl ⟨by rfl, ?_⟩) (by assumption) ?_
                    rotate_left
                    · (intro w' hSw; (try dsimp only at hSw); go_split_ands; go_simp; try with_reducible rfl)
                    try simp only [List.setIfInBounds_toArray, List.set_cons_zero, List.set_cons_succ]
                    refine wpAnyG_take 6 65 (v := ?_) rfl rfl (by kernel_rfl) (fun _ _ _ h => h) (Or.inl ⟨by rfl, ?_⟩) (by assumption) ?_
                    rotate_left
                    · (intro w' hSw; (try dsimp only at hSw); go_split_ands; go_simp; try with_reducible rfl)
                    try simp only [List.setIfInBounds_toArray, List.set_cons_zero, List.set_cons_succ]
                    refine wpAnyG_take 7 66 (v := ?_) rfl rfl (by kernel_rfl) (fun _ _ _ h => h) (Or.inl ⟨by rfl, ?_⟩) (by assumption) ?_
                    rotate_left
                    · (intro w' hSw; (try dsimp only at hSw); go_split_ands; go_simp; try with_reducible rfl)
                    try simp only [List.setIfInBounds_toArray, List.set_cons_zero, List.set_cons_succ]
                    refine wpAnyG_take 8 67 (v := ?_) rfl rfl (by kernel_rfl) (fun _ _ _ h => h) (Or.inl ⟨by rfl, ?_⟩) (by assumption) ?_
                    rotate_left
                    · (intro w' hSw; (try dsimp only at hSw); go_split_ands; go_simp; try with_reducible rfl)
                    try simp only [List.setIfInBounds_toArray, List.set_cons_zero, List.set_cons_succ]
                    refine wpAnyG_take 9 68 (v := ?_) rfl rfl (by kernel_rfl) (fun _ _ _ h => h) (Or.inl ⟨by rfl, ?_⟩) (by assumption) ?_
                    rotate_left
                    · (intro w' hSw; (try dsimp only at hSw); go_split_ands; go_simp; try with_reducible rfl)
                    try simp only [List.setIfInBounds_toArray, List.set_cons_zero, List.set_cons_succ]
                    refine wpAnyG_take 10 69 (v := ?_) rfl rfl (by kernel_rfl) (fun _ _ _ h => h) (Or.inl ⟨by rfl, ?_⟩) (by assumption) ?_
                    rotate_left
                    · (intro w' hSw; (try dsimp only at hSw); go_split_ands; go_simp; try with_reducible rfl)
                    try simp only [List.setIfInBounds_toArray, List.set_cons_zero, List.set_cons_succ]
                    refine wpAnyG_take 11 70 (v := ?_) rfl rfl (by kernel_rfl) (fun _ _ _ h => h) (Or.inl ⟨by rfl, ?_⟩) (by assumption) ?_
                    rotate_left
                    · (intro w' hSw; (try dsimp only at hSw); go_split_ands; go_simp; try with_reducible rfl)
                    try simp only [List.setIfInBounds_toArray, List.set_cons_zero, List.set_cons_succ]
                    refine wpAnyG_take 12 71 (v := ?_) rfl rfl (by kernel_rfl) (fun _ _ _ h => h) (Or.inl ⟨by rfl, ?_⟩) (by assumption) ?_
                    rotate_left
                    · (intro w' hSw; (try dsimp only at hSw); go_split_ands; go_simp; try with_reducible rfl)
                    try simp only [List.setIfInBounds_toArray, List.set_cons_zero, List.set_cons_succ]
                    refine wpAnyG_take 13 72 (v := ?_) rfl rfl (by kernel_rfl) (fun _ _ _ h => h) (Or.inl ⟨by rfl, ?_⟩) (by assumption) ?_
                    rotate_left
                    · (intro w' hSw; (try dsimp only at hSw); go_split_ands; go_simp; try with_reducible rfl)
                    try simp only [List.setIfInBounds_toArray, List.set_cons_zero, List.set_cons_succ]
                    refine wpAnyG_take 14 73 (v := ?_) rfl rfl (by kernel_rfl) (fun _ _ _ h => h) (Or.inl ⟨by rfl, ?_⟩) (by assumption) ?_
                    rotate_left
                    · (intro w' hSw; (try dsimp only at hSw); go_split_ands; go_simp; try with_reducible rfl)
                    try simp only [List.setIfInBounds_toArray, List.set_cons_zero, List.set_cons_succ]
                    refine wpAnyG_take 15 74 (v := ?_) rfl rfl (by kernel_rfl) (fun _ _ _ h => h) (Or.inl ⟨by rfl, ?_⟩) (by assumption) ?_
                    rotate_left
                    · (intro w' hSw; (try dsimp only at hSw); go_split_ands; go_simp; try with_reducible rfl)
                    try simp only [List.setIfInBounds_toArray, List.set_cons_zero, List.set_cons_succ]
                    refine wpAnyG_do 16 rfl (by kernel_rfl) (fun K hK => ?_)
                    rw [if_pos (by rfl)]
                    go_simp
                    refine (HOV.out _ ((Below.refl _ _).drew)).mono ?_
                    rintro e wv ⟨rfl, vv⟩
                    have vv' : Up wa wv := Up.trans ((Below.refl _ _).drew) vv
                    refine hK.out _ _ ⟨vv'.cellAt y0, vv'.cellAt y1, vv'.cellAt y2, vv'.cellAt z0, vv'.cellAt c0, vv'.cellAt c1, vv'.cellAt c2, vv'.cellAt c3, vv'.cellAt c4⟩ (fun hHeld => ?_)
                    clear hK K
                    have IV := Lib.hid (RowBlk.up IA.out vv')
                    have XV := Lib.hid (BX.out.up vv')
                    have UV := Lib.hid (Up.trans UA.out vv')
                    have lgv := IV.out.lt
                    have fgv := IV.out.free
                    have zv := vv'.cellAt z0
                    by_cases hmin : ov < lo
                    · have HMIN := Lib.hid (show min lo ov = ov by omega)
                      refine wpAnyG_take 17 76 (v := .int .i64 ov) rfl rfl (by kernel_rfl) (fun _ _ _ h => h) (Or.inl ⟨by rfl, ?_⟩) (by assumption) ?_
                      · intro w' _
                        go_simp
                      try simp only [List.setIfInBounds_toArray, List.set_cons_zero, List.set_cons_succ]
                      clear hHeld vv vv' z0 c0 c1 c2 c3 c4 y0 y1 y2 HOV
                      refine wpAnyG_tail (by kernel_rfl) ?_
                      change wpList _ _ _ [_, _] _ _
                      go_wp2_with fail
                      go_meet
                      refine ⟨?_, XV.out.other (by simp only []; omega) _, UV.out.setCell (by simp only []; omega) _⟩
                      rw [HRB.out, HG.out, HN.out, HMIN.out]
                      exact IntBlk.put IV.out n hnl ov
                    · have HMIN := Lib.hid (show min lo ov = lo by omega)
                      refine wpAnyG_take 17 76 (v := .int .i64 lo) rfl rfl (by kernel_rfl) (fun _ _ _ h => h) (Or.inl ⟨by rfl, ?_⟩) (by assumption) ?_
                      · intro w' _
                        go_simp
                      try simp only [List.setIfInBounds_toArray, List.set_cons_zero, List.set_cons_succ]
                      clear hHeld vv vv' z0 c0 c1 c2 c3 c4 y0 y1 y2 HOV
                      refine wpAnyG_tail (by kernel_rfl) ?_
                      change wpList _ _ _ [_, _] _ _
                      go_wp2_with fail
                      go_meet
                      refine ⟨?_, XV.out.other (by simp only []; omega) _, UV.out.setCell (by simp only []; omega) _⟩
                      rw [HRB.out, HG.out, HN.out, HMIN.out]
                      exact IntBlk.put IV.out n hnl lo
                  · rw [decide_eq_false hc]
                    have HRB := Lib.hid (relB_ends (s := s) (g := G) (a := a) (h := h) hc)
                    clear hc
                    go_wp2_with fail
                    go_meet
                    exact ⟨by rw [HRB.out]; exact IA.out, BX.out, UA.out⟩
                case rest =>
                  obtain ⟨hi4, hx4, hu4⟩ := hcut
                  have hpl4 : (relB s ss ps i G a b h).length = s.floors.length := by rw [relB_len]; exact hpl

                  clear IA UA BX RS RP y0 y1 y2 ly hpl
                  generalize hG1' : relB s ss ps i G a b h = G1 at *
                  have hG1 := Lib.hid hG1'
                  clear hG1'
                  have IA := Lib.hid hi4
                  have BX := Lib.hid hx4
                  have UA := Lib.hid hu4
                  have hpl := hpl4
                  clear hi4 hx4 hu4 hpl4
                  generalize wc = wb at *
                  go_upto_region 15 with fail

                  have RS := Lib.hid (HS.out.up (Up.trans U0.out UA.out))
                  have RP := Lib.hid (HP.out.up (Up.trans U0.out UA.out))
                  have y0 := BX.out.cell 0
                  have y1 := BX.out.cell 1
                  have y2 := BX.out.cell 2
                  have ly := BX.out.lt
                  simp only [List.getElem?_cons_zero, List.getElem?_cons_succ] at y0 y1 y2
                  go_cut [93] (fun c wx => c = .bool (decide (0 ≤ a ∧ (i : Int) ∉ ss ∧ a ∉ ps)) ∧ wb = wx)
                  case first =>
                    by_cases hb0 : 0 ≤ a
                    · have hb5 : decide (0 ≤ a) = true := decide_eq_true hb0
                      go_wp2_with fail
                      refine (HH.out ss qS dS i wb RS.out ls).mono ?_
                      rintro e w' ⟨he, rfl⟩
                      by_cases h1 : (i : Int) ∈ ss
                      · rw [decide_eq_true h1] at he
                        subst he
                        have HV := Lib.hid (show decide (0 ≤ a ∧ (i : Int) ∉ ss ∧ a ∉ ps) = false from decide_eq_false (fun k => k.2.1 h1))
                        clear h1
                        go_wp2_with fail
                        go_meet
                        exact ⟨by rw [HV.out], rfl⟩
                      · rw [decide_eq_false h1] at he
                        subst he
                        have H1 := Lib.hid h1
                        clear h1
                        go_wp2_with fail
                        refine (HH.out ps qP dP a wb RP.out lp).mono ?_
                        rintro e w' ⟨he, rfl⟩
                        by_cases h2 : a ∈ ps
                        · rw [decide_eq_true h2] at he
                          subst he
                          have HV := Lib.hid (show decide (0 ≤ a ∧ (i : Int) ∉ ss ∧ a ∉ ps) = false from decide_eq_false (fun k => k.2.2 h2))
                          clear h2
                          go_wp2_with fail
                          go_meet
                          exact ⟨by rw [HV.out], rfl⟩
                        · rw [decide_eq_false h2] at he
                          subst he
                          have HV := Lib.hid (show decide (0 ≤ a ∧ (i : Int) ∉ ss ∧ a ∉ ps) = true from decide_eq_true ⟨hb0, H1.out, h2⟩)
                          clear h2
                          go_wp2_with fail
                          go_meet
                          exact ⟨by rw [HV.out], rfl⟩
                    · have HV := Lib.hid (show decide (0 ≤ a ∧ (i : Int) ∉ ss ∧ a ∉ ps) = false from decide_eq_false (fun k => hb0 k.1))
                      have hb0' : a < 0 := by omega
                      have hb5 : decide (0 ≤ a) = false := decide_eq_false hb0
                      clear hb0
                      go_wp2_with fail
                      go_meet
                      exact ⟨by rw [HV.out], rfl⟩
                  case rest =>
                    obtain ⟨rfl, rfl⟩ := hcut
                    go_upto_if 93 with fail
                    have HRP2 := Lib.hid (show rpass s ss ps G0 (i + 1) = relB s ss ps i G1 b a h from HRP.out)
                    by_cases hc : 0 ≤ a ∧ (i : Int) ∉ ss ∧ a ∉ ps
                    · rw [decide_eq_true hc]
                      have hb4 : 0 ≤ a ∧ a < s.floors.length := by have := hc.1; omega
                      have HRB := Lib.hid (show relB s ss ps i G1 b a h = G1.set a.toNat (min (G1[a.toNat]?.getD 0) (ovr s G1 b a h)) by unfold relB; rw [if_pos hc])
                      clear hc
                      have HOV := Lib.hid (fun W (u : Up wb W) => over_c s G1 g s.floors.length d b a h W hpl (HL.out.up (Up.trans U0.out (Up.trans UA.out u))) (RowBlk.row (RowBlk.up IA.out u)) hb3 hb4 (by omega) (by omega))
                      obtain ⟨n, hn⟩ := Int.eq_ofNat_of_zero_le hb4.1
                      have hnl : n < G1.length := by omega
                      have z0 := IntBlk.at IA.out n hnl
                      have HG := Lib.hid (show G1[a.toNat]?.getD 0 = G1[n] by rw [hn, Int.toNat_natCast, List.getElem?_eq_getElem hnl]; rfl)
                      have HN := Lib.hid (show a.toNat = n by omega)
                      obtain ⟨c0, c1, c2, c3, c4⟩ := five (BS.out.up UA.out)
                      have lg := IA.out.lt
                      have lb := (BS.out.up UA.out).lt
                      subst hn
                      have n1 : (n : Int) < s.floors.length := hb4.2
                      generalize ovr s G1 b n h = ov at *
                      generalize G1[n] = lo at *
                      go_upto_region 16 with fail
                      refine region_tail (fun W' => W'.cell? ⟨X, 0, none⟩ = some (.int .i64 (n : Int)) ∧ W'.cell? ⟨X, 1, none⟩ = some (.int .i64 b) ∧ W'.cell? ⟨X, 2, none⟩ = some (.int .i64 h) ∧ W'.cell? ⟨g, n, none⟩ = some (.int .i64 lo) ∧ W'.cell? ⟨w.heap.size, 0, none⟩ = some (.slice pT s.table.length cT) ∧ W'.cell? ⟨w.heap.size, 1, none⟩ = some (.int .i64 s.lo) ∧ W'.cell? ⟨w.heap.size, 2, none⟩ = some (.int .i64 s.hi) ∧ W'.cell? ⟨w.heap.size, 3, none⟩ = some (.slice pF s.floors.length cF) ∧ W'.cell? ⟨w.heap.size, 4, none⟩ = some (.slice (some ⟨bs, os, none⟩) s.sills.length cS)) 18 mixed (by kernel_rfl) ⟨y0, y1, y2, z0, c0, c1, c2, c3, c4⟩ (fun hHeld => ?_)
                      refine wpAnyG_take 0 94 (v := ?_) rfl rfl (by kernel_rfl) (fun _ _ _ h => h) (Or.inl ⟨by rfl, ?_⟩) (by assumption) ?_
                      rotate_left
                      · (intro w' hSw; (try dsimp only at hSw); go_split_ands; go_simp; try with_reducible rfl)
                      try simp only [List.setIfInBounds_toArray, List.set_cons_zero, List.set_cons_succ]
                      refine wpAnyG_take 1 95 (v := ?_) rfl rfl (by kernel_rfl) (fun _ _ _ h => h) (Or.inl ⟨by rfl, ?_⟩) (by assumption) ?_
                      rotate_left
                      · (intro w' hSw; (try dsimp only at hSw); go_split_ands; go_simp; try with_reducible rfl)
                      try simp only [List.setIfInBounds_toArray, List.set_cons_zero, List.set_cons_succ]
                      refine wpAnyG_take 2 96 (v := ?_) rfl rfl (by kernel_rfl) (fun _ _ _ h => h) (Or.inl ⟨by rfl, ?_⟩) (by assumption) ?_
                      rotate_left
                      · (intro w' hSw; (try dsimp only at hSw); go_split_ands; go_simp; try with_reducible rfl)
                      try simp only [List.setIfInBounds_toArray, List.set_cons_zero, List.set_cons_succ]
                      refine wpAnyG_take 3 97 (v := ?_) rfl rfl (by kernel_rfl) (fun _ _ _ h => h) (Or.inl ⟨by rfl, ?_⟩) (by assumption) ?_
                      rotate_left
                      · (intro w' hSw; (try dsimp only at hSw); go_split_ands; go_simp; try with_reducible rfl)
                      try simp only [List.setIfInBounds_toArray, List.set_cons_zero, List.set_cons_succ]
                      refine wpAnyG_take 4 98 (v := ?_) rfl rfl (by kernel_rfl) (fun _ _ _ h => h) (Or.inl ⟨by rfl, ?_⟩) (by assumption) ?_
                      rotate_left
                      · (intro w' hSw; (try dsimp only at hSw); go_split_ands; go_simp; try with_reducible rfl)
                      try simp only [List.setIfInBounds_toArray, List.set_cons_zero, List.set_cons_succ]
                      refine wpAnyG_take 5 99 (v := ?_) rfl rfl (by kernel_rfl) (fun _ _ _ h => h) (Or.inl ⟨by rfl, ?_⟩) (by assumption) ?_
                      rotate_left
                      · (intro w' hSw; (try dsimp only at hSw); go_split_ands; go_simp; try with_reducible rfl)
                      try simp only [List.setIfInBounds_toArray, List.set_cons_zero, List.set_cons_succ]
                      refine wpAnyG_take 6 100 (v := ?_) rfl rfl (by kernel_rfl) (fun _ _ _ h => h) (Or.inl ⟨by rfl, ?_⟩) (by assumption) ?_
                      rotate_left
                      · (intro w' hSw; (try dsimp only at hSw); go_split_ands; go_simp; try with_reducible rfl)
                      try simp only [List.setIfInBounds_toArray, List.set_cons_zero, List.set_cons_succ]
                      refine wpAnyG_take 7 101 (v := ?_) rfl rfl (by kernel_rfl) (fun _ _ _ h => h) (Or.inl ⟨by rfl, ?_⟩) (by assumption) ?_
                      rotate_left
                      · (intro w' hSw; (try dsimp only at hSw); go_split_ands; go_simp; try with_reducible rfl)
                      try simp only [List.setIfInBounds_toArray, List.set_cons_zero, List.set_cons_succ]
                      refine wpAnyG_take 8 102 (v := ?_) rfl rfl (by kernel_rfl) (fun _ _ _ h => h) (Or.inl ⟨by rfl, ?_⟩) (by assumption) ?_
                      rotate_left
                      · (intro w' hSw; (try dsimp only at hSw); go_split_ands; go_simp; try with_reducible rfl)
                      try simp only [List.setIfInBounds_toArray, List.set_cons_zero, List.set_cons_succ]
                      refine wpAnyG_take 9 103 (v := ?_) rfl rfl (by kernel_rfl) (fun _ _ _ h => h) (Or.inl ⟨by rfl, ?_⟩) (by assumption) ?_
                      rotate_left
                      · (intro w' hSw; (try dsimp only at hSw); go_split_ands; go_simp; try with_reducible rfl)
                      try simp only [List.setIfInBounds_toArray, List.set_cons_zero, List.set_cons_succ]
                      refine wpAnyG_take 10 104 (v := ?_) rfl rfl (by kernel_rfl) (fun _ _ _ h => h) (Or.inl ⟨by rfl, ?_⟩) (by assumption) ?_
                      rotate_left
                      · (intro w' hSw; (try dsimp only at hSw); go_split_ands; go_simp; try with_reducible rfl)
                      try simp only [List.setIfInBounds_toArray, List.set_cons_zero, List.set_cons_succ]
                      refine wpAnyG_take 11 105 (v := ?_) rfl rfl (by kernel_rfl) (fun _ _ _ h => h) (Or.inl ⟨by rfl, ?_⟩) (by assumption) ?_
                      rotate_left
                      · (intro w' hSw; (try dsimp only at hSw); go_split_ands; go_simp; try with_reducible rfl)
                      try simp only [List.setIfInBounds_toArray, List.set_cons_zero, List.set_cons_succ]
                      refine wpAnyG_take 12 106 (v := ?_) rfl rfl (by kernel_rfl) (fun _ _ _ h => h) (Or.inl ⟨by rfl, ?_⟩) (by assumption) ?_
                      rotate_left
                      · (intro w' hSw; (try dsimp only at hSw); go_split_ands; go_simp; try with_reducible rfl)
                      try simp only [List.setIfInBounds_toArray, List.set_cons_zero, List.set_cons_succ]
                      refine wpAnyG_take 13 107 (v := ?_) rfl rfl (by kernel_rfl) (fun _ _ _ h => h) (Or.inl ⟨by rfl, ?_⟩) (by assumption) ?_
                      rotate_left
                      · (intro w' hSw; (try dsimp only at hSw); go_split_ands; go_simp; try with_reducible rfl)
                      try simp only [List.setIfInBounds_toArray, List.set_cons_zero, List.set_cons_succ]
                      refine wpAnyG_take 14 108 (v := ?_) rfl rfl (by kernel_rfl) (fun _ _ _ h => h) (Or.inl ⟨by rfl, ?_⟩) (by assumption) ?_
                      rotate_left
                      · (intro w' hSw; (try dsimp only at hSw); go_split_ands; go_simp; try with_reducible rfl)
                      try simp only [List.setIfInBounds_toArray, List.set_cons_zero, List.set_cons_succ]
                      refine wpAnyG_take 15 109 (v := ?_) rfl rfl (by kernel_rfl) (fun _ _ _ h => h) (Or.inl ⟨by rfl, ?_⟩) (by assumption) ?_
                      rotate_left
                      · (intro w' hSw; (try dsimp only at hSw); go_split_ands; go_simp; try with_reducible rfl)
                      try simp only [List.setIfInBounds_toArray, List.set_cons_zero, List.set_cons_succ]
                      refine wpAnyG_do 16 rfl (by kernel_rfl) (fun K hK => ?_)
                      rw [if_pos (by rfl)]
                      go_simp
                      refine (HOV.out _ ((Below.refl _ _).drew)).mono ?_
                      rintro e wv ⟨rfl, vv⟩
                      have vv' : Up wb wv := Up.trans ((Below.refl _ _).drew) vv
                      refine hK.out _ _ ⟨vv'.cellAt y0, vv'.cellAt y1, vv'.cellAt y2, vv'.cellAt z0, vv'.cellAt c0, vv'.cellAt c1, vv'.cellAt c2, vv'.cellAt c3, vv'.cellAt c4⟩ (fun hHeld => ?_)
                      clear hK K
                      have IV := Lib.hid (RowBlk.up IA.out vv')
                      have XV := Lib.hid (BX.out.up vv')
                      have UV := Lib.hid (Up.trans UA.out vv')
                      have lgv := IV.out.lt
                      have fgv := IV.out.free
                      have zv := vv'.cellAt z0
                      by_cases hmin : ov < lo
                      · have HMIN := Lib.hid (show min lo ov = ov by omega)
                        refine wpAnyG_take 17 111 (v := .int .i64 ov) rfl rfl (by kernel_rfl) (fun _ _ _ h => h) (Or.inl ⟨by rfl, ?_⟩) (by assumption) ?_
                        · intro w' _
                          go_simp
                        try simp only [List.setIfInBounds_toArray, List.set_cons_zero, List.set_cons_succ]
                        clear hHeld vv vv' z0 c0 c1 c2 c3 c4 y0 y1 y2 HOV
                        refine wpAnyG_tail (by kernel_rfl) ?_
                        change wpList _ _ _ [_, _] _ _
                        go_wp2_with fail
                        go_roundw
                        case rel =>
                          try ((repeat apply Exists.intro); refine ⟨?_, rfl⟩)
                          refine ⟨i + 1, by omega, by go_num, ?_, UV.out.setCell (by simp only []; omega) _⟩
                          rw [HRP2.out, HRB.out, HG.out, HN.out, HMIN.out]
                          exact IntBlk.put IV.out n hnl ov
                        case measure => simp [intOf]; omega
                      · have HMIN := Lib.hid (show min lo ov = lo by omega)
                        refine wpAnyG_take 17 111 (v := .int .i64 lo) rfl rfl (by kernel_rfl) (fun _ _ _ h => h) (Or.inl ⟨by rfl, ?_⟩) (by assumption) ?_
                        · intro w' _
                          go_simp
                        try simp only [List.setIfInBounds_toArray, List.set_cons_zero, List.set_cons_succ]
                        clear hHeld vv vv' z0 c0 c1 c2 c3 c4 y0 y1 y2 HOV
                        refine wpAnyG_tail (by kernel_rfl) ?_
                        change wpList _ _ _ [_, _] _ _
                        go_wp2_with fail
                        go_roundw
                        case rel =>
                          try ((repeat apply Exists.intro); refine ⟨?_, rfl⟩)
                          refine ⟨i + 1, by omega, by go_num, ?_, UV.out.setCell (by simp only []; omega) _⟩
                          rw [HRP2.out, HRB.out, HG.out, HN.out, HMIN.out]
                          exact IntBlk.put IV.out n hnl lo
                        case measure => simp [intOf]; omega
                    · rw [decide_eq_false hc]
                      have HRB := Lib.hid (relB_ends (s := s) (g := G1) (a := b) (h := h) hc)
                      clear hc
                      go_wp2_with fail
                      go_roundw
                      case rel =>
                        try ((repeat apply Exists.intro); refine ⟨?_, rfl⟩)
                        exact ⟨i + 1, by omega, by go_num, by rw [HRP2.out, HRB.out]; exact IA.out, UA.out⟩
                      case measure => simp [intOf]; omega

            · obtain rfl : i = s.sills.length := by omega
              go_wp2_with fail
              go_roundw
              case rel =>
                try ((repeat apply Exists.intro); refine ⟨?_, rfl⟩)
                exact ⟨k + 1, by omega, by go_num, by rw [HRK.out]; exact HB2.out, HU3.out⟩
              case measure => simp [intOf]; omega
        · obtain rfl : k = s.floors.length := by omega
          have hll := rounds_len (s := s) (ss := ss) (ps := ps) s.floors.length
          have z0 := IntBlk.at HB.out tp (by omega)
          have HF := Lib.hid (show (lowR s ss ps)[tp]?.getD 0 = (rounds s ss ps s.floors.length)[tp]'(by omega) by unfold lowR; rw [List.getElem?_eq_getElem (by omega)]; rfl)
          have t1 : (tp : Int) < s.floors.length := by omega
          have lg := HB.out.lt
          generalize (rounds s ss ps s.floors.length)[tp] = rr at *
          go_wp2_with fail
          go_ret
          exact ⟨by rw [HF.out]; rfl, Up.trans U0.out HU2.out⟩
end
end Go.Proofs.Ytcljkkojeleakaa
/- The reference's lists: are they of sills, does one say a thing twice. -/
namespace Go.Proofs.Ytcljkkojeleakaa
open Go.RowKit Go.Shelf

theorem all_drop {α : Type} {l : List α} {f : α → Bool} {k : Nat} (h : k < l.length) : (l.drop k).all f = (f l[k] && (l.drop (k + 1)).all f) := by
  rw [List.drop_eq_getElem_cons h]; rfl
section
variable {pT pF pS : Option Addr} {cT cF cS : Nat}
set_option maxRecDepth 100000 in
set_option maxHeartbeats 1000000 in
theorem listed_c (s : Sd) (l : List Int) (p : Option Addr) (c : Nat) (w : World) (hl : Lists w s pT pF pS cT cF cS) (hr : Row w p 1 (ints l)) (hm : l.length ≤ maxLen) :
    Calls Try.prog 98 #[sdVal s pT pF pS cT cF cS, .slice p l.length c] w fun e w' => e = .returned (.int .i64 (bif l.all (isSi s) then 0 else 1)) ∧ Up w w' := by
  have m1 : (s.sills.length : Int) ≤ 9223372036854775807 := by have := Nat.le_trans hl.cs hl.ms; simp only [maxLen] at this; omega
  have s1 : IntKind.i64.wrap ((s.sills.length : Int) - 1) = (s.sills.length : Int) - 1 := IntWalk.i64_in _ (by omega)
  unfold maxLen at hm
  have HR := Lib.hid hr
  clear hl hr
  unfold sdVal
  go_enter Try.func98, Try.ntmps98
  go_wp2_with fail
  have BS : Hid (Blk (w.alloc (.cells #[.slice pT s.table.length cT, .int .i64 s.lo, .int .i64 s.hi, .slice pF s.floors.length cF, .slice pS s.sills.length cS] 37)) w.heap.size (sdCells s pT pF pS cT cF cS) 37) := Lib.hid (Blk.new w (sdCells s pT pF pS cT cF cS) 37)
  have U0 : Hid (Up w (w.alloc (.cells #[.slice pT s.table.length cT, .int .i64 s.lo, .int .i64 s.hi, .slice pF s.floors.length cF, .slice pS s.sills.length cS] 37))) := Lib.hid (by (repeat (first | exact Below.refl _ _ | (with_reducible refine Below.drewN' ?_ _) | (with_reducible refine Below.drew ?_) | (with_reducible refine Below.setCell ?_ (by first | exact Nat.le_refl _ | omega | (with_reducible (repeat (first | refine sz_alloc ?_ | refine sz_setCell ?_ | refine sz_drew ?_ | refine sz_drewN ?_)); first | exact Nat.le_refl _ | omega) | (simp only [World.size_alloc, World.size_setCell, World.size_drew, size_drewN']; omega)) _) | (with_reducible refine Below.alloc ?_ (by first | exact Nat.le_refl _ | omega | (with_reducible (repeat (first | refine sz_alloc ?_ | refine sz_setCell ?_ | refine sz_drew ?_ | refine sz_drewN ?_)); first | exact Nat.le_refl _ | omega) | (simp only [World.size_alloc, World.size_setCell, World.size_drew, size_drewN']; omega)) _) | assumption)))
  generalize (w.alloc (.cells #[.slice pT s.table.length cT, .int .i64 s.lo, .int .i64 s.hi, .slice pF s.floors.length cF, .slice pS s.sills.length cS] 37)) = w0 at *
  go_loopw [5] (fun i wr => ∃ k : Nat, k ≤ l.length ∧ i = .int .i64 k ∧ l.all (isSi s) = (l.drop k).all (isSi s) ∧ Up w0 wr) (fun i _ => l.length - (intOf i).toNat)
  case atStart => exact ⟨0, Nat.zero_le _, rfl, rfl, Below.refl _ _⟩
  case round =>
    obtain ⟨k, hk, rfl, ht, hu⟩ := hrel
    have HT := Lib.hid ht
    have HU := Lib.hid hu
    clear ht
    by_cases hlt : k < l.length
    · obtain ⟨b, off, rfl, d0⟩ := (HR.out.up (Up.trans U0.out hu)).int k hlt
      have HD := Lib.hid (all_drop (f := isSi s) hlt)
      obtain ⟨-, -, -, -, c4⟩ := five (BS.out.up hu)
      have b1 : (k : Int) < (l.length : Int) := by omega
      generalize l[k] = x at *
      clear hu
      go_upto_region 4 with fail
      refine region_tail (fun W' => W'.cell? ⟨b, off + k, none⟩ = some (.int .i64 x) ∧ W'.cell? ⟨w.heap.size, 4, none⟩ = some (.slice pS s.sills.length cS)) 9 mixed (by kernel_rfl) ⟨d0, c4⟩ (fun hHeld => ?_)
      refine wpAnyG_take 0 12 (v := ?_) rfl rfl (by kernel_rfl) (fun _ _ _ h => h) (Or.inl ⟨by rfl, ?_⟩) (by assumption) ?_
      rotate_left
      · (intro w' hSw; (try dsimp only at hSw); go_split_ands; go_simp; try with_reducible rfl)
      try simp only [List.setIfInBounds_toArray, List.set_cons_zero, List.set_cons_succ]
      refine wpAnyG_take 1 13 (v := ?_) rfl rfl (by kernel_rfl) (fun _ _ _ h => h) (Or.inl ⟨by rfl, ?_⟩) (by assumption) ?_
      rotate_left
      · (intro w' hSw; (try dsimp only at hSw); go_split_ands; go_simp; try with_reducible rfl)
      try simp only [List.setIfInBounds_toArray, List.set_cons_zero, List.set_cons_succ]
      refine wpAnyG_take 2 14 (v := ?_) rfl rfl (by kernel_rfl) (fun _ _ _ h => h) (Or.inl ⟨by rfl, ?_⟩) (by assumption) ?_
      rotate_left
      · (intro w' hSw; (try dsimp only at hSw); go_split_ands; go_simp; try with_reducible rfl)
      try simp only [List.setIfInBounds_toArray, List.set_cons_zero, List.set_cons_succ]
      refine wpAnyG_take 3 15 (v := ?_) rfl rfl (by kernel_rfl) (fun _ _ _ h => h) (Or.inl ⟨by rfl, ?_⟩) (by assumption) ?_
      rotate_left
      · (intro w' hSw; (try dsimp only at hSw); go_split_ands; go_simp; try with_reducible rfl)
      try simp only [List.setIfInBounds_toArray, List.set_cons_zero, List.set_cons_succ]
      refine wpAnyG_take 4 16 (v := ?_) rfl rfl (by kernel_rfl) (fun _ _ _ h => h) (Or.inl ⟨by rfl, ?_⟩) (by assumption) ?_
      rotate_left
      · (intro w' hSw; (try dsimp only at hSw); go_split_ands; go_simp; try with_reducible rfl)
      try simp only [List.setIfInBounds_toArray, List.set_cons_zero, List.set_cons_succ]
      refine wpAnyG_take 5 17 (v := ?_) rfl rfl (by kernel_rfl) (fun _ _ _ h => h) (Or.inl ⟨by rfl, ?_⟩) (by assumption) ?_
      rotate_left
      · (intro w' hSw; (try dsimp only at hSw); go_split_ands; go_simp; try with_reducible rfl)
      try simp only [List.setIfInBounds_toArray, List.set_cons_zero, List.set_cons_succ]
      refine wpAnyG_take 6 18 (v := ?_) rfl rfl (by kernel_rfl) (fun _ _ _ h => h) (Or.inl ⟨by rfl, ?_⟩) (by assumption) ?_
      rotate_left
      · (intro w' hSw; (try dsimp only at hSw); go_split_ands; go_simp; try with_reducible rfl)
      try simp only [List.setIfInBounds_toArray, List.set_cons_zero, List.set_cons_succ]
      refine wpAnyG_take 7 19 (v := ?_) rfl rfl (by kernel_rfl) (fun _ _ _ h => h) (Or.inl ⟨by rfl, ?_⟩) (by assumption) ?_
      rotate_left
      · (intro w' hSw; (try dsimp only at hSw); go_split_ands; go_simp; try with_reducible rfl)
      try simp only [List.setIfInBounds_toArray, List.set_cons_zero, List.set_cons_succ]
      refine wpAnyG_do 8 rfl (by kernel_rfl) (fun K hK => ?_)
      rw [if_pos (by rfl)]
      go_simp
      refine (off_c _ _ _ _).mono ?_
      rintro e w' ⟨rfl, rfl⟩
      refine hK.out _ _ ⟨d0, c4⟩ (fun hHeld => ?_)
      clear hK K
      refine wpAnyG_tail (by kernel_rfl) ?_
      change wpList _ _ _ [] _ _
      clear hHeld d0 c4
      cases hx : inB x 0 ((s.sills.length : Int) - 1) with
      | true =>
        have HX := Lib.hid (show l.all (isSi s) = (l.drop (k + 1)).all (isSi s) by rw [HT.out, HD.out, show isSi s x = true from hx, Bool.true_and])
        clear hx
        go_wp2_with fail
        go_roundw
        case rel => exact ⟨k + 1, hlt, by go_num, HX.out, HU.out.drew⟩
        case measure => simp [intOf]; omega
      | false =>
        have HX := Lib.hid (show l.all (isSi s) = false by rw [HT.out, HD.out, show isSi s x = false from hx, Bool.false_and])
        clear hx
        go_wp2_with fail
        go_ret
        exact ⟨by rw [HX.out]; rfl, Up.trans U0.out HU.out.drew⟩
    · obtain rfl : k = l.length := by omega
      have HX := Lib.hid (show l.all (isSi s) = true by rw [HT.out, List.drop_eq_nil_of_le (Nat.le_refl _)]; rfl)
      go_wp2_with fail
      go_ret
      exact ⟨by rw [HX.out]; rfl, Up.trans U0.out HU.out⟩

theorem nodup_take {l : List Int} {k : Nat} (h : k < l.length) : (l.take (k + 1)).Nodup ↔ (l.take k).Nodup ∧ l[k] ∉ l.take k := by
  rw [List.take_succ_eq_append_getElem h, List.nodup_append]
  constructor
  · rintro ⟨h1, -, h3⟩
    exact ⟨h1, fun hm => h3 _ hm _ (by simp) rfl⟩
  · rintro ⟨h1, h2⟩
    exact ⟨h1, by simp, fun a ha b hb => by rw [List.mem_singleton] at hb; rintro rfl; exact h2 (hb ▸ ha)⟩
set_option maxRecDepth 100000 in
set_option maxHeartbeats 1000000 in
theorem repeats_c (l : List Int) (p : Option Addr) (c : Nat) (w : World) (hr : Row w p 1 (ints l)) (hm : l.length ≤ maxLen) :
    Calls Try.prog 100 #[.slice p l.length c] w fun e w' => e = .returned (.bool (!decide l.Nodup)) ∧ Up w w' := by
  unfold maxLen at hm
  have HR := Lib.hid hr
  clear hr
  go_enter Try.func100, Try.ntmps100
  go_wp2_with fail
  go_loopw [3] (fun i wr => ∃ k : Nat, k ≤ l.length ∧ i = .int .i64 k ∧ (l.take k).Nodup ∧ Up w wr) (fun i _ => l.length - (intOf i).toNat)
  case atStart => exact ⟨0, Nat.zero_le _, rfl, by simp, Below.refl _ _⟩
  case round =>
    obtain ⟨k, hk, rfl, ht, hu⟩ := hrel
    have HT := Lib.hid ht
    have HU := Lib.hid hu
    clear ht hu
    by_cases hlt : k < l.length
    · have b1 : (k : Int) < (l.length : Int) := by omega
      go_wp2_with fail
      go_loopw [4] (fun i wx => ∃ j : Nat, j ≤ k ∧ i = .int .i64 j ∧ l[k] ∉ l.take j ∧ Up w wx) (fun i _ => k - (intOf i).toNat)
      case atStart => exact ⟨0, Nat.zero_le _, rfl, by simp, HU.out⟩
      case round =>
        obtain ⟨j, hj, rfl, hn, hu⟩ := hrel
        have HN := Lib.hid hn
        have HU2 := Lib.hid hu
        clear hn
        by_cases hjk : j < k
        · have hjl : j < l.length := by omega
          obtain ⟨b, off, rfl, d0⟩ := (HR.out.up hu).int k hlt
          obtain ⟨b', off', he, d1⟩ := (HR.out.up hu).int j hjl
          obtain ⟨rfl, rfl⟩ : b = b' ∧ off = off' := by simpa using he
          have b2 : (j : Int) < (k : Int) := by omega
          have b3 : (j : Int) < (l.length : Int) := by omega
          clear he hu
          by_cases hxy : l[k] = l[j]
          · have HX : Hid (¬ l.Nodup) := fun hd => by
              exact List.pairwise_iff_getElem.1 hd j k hjl hlt hjk hxy.symm
            have hxy' : (l[k] == l[j]) = true := by simpa using hxy
            clear hxy
            go_wp2_with fail
            go_quiet (fail)
            go_wp2_with fail
            go_ret
            exact ⟨by rw [decide_eq_false HX.out]; rfl, Below.drewN' HU2.out _⟩
          · have HX : Hid (l[k] ∉ l.take (j + 1)) := by
              show _ ∉ _
              rw [List.take_succ_eq_append_getElem hjl, List.mem_append, List.mem_singleton]
              rintro (h | h)
              · exact HN.out h
              · exact hxy h
            have hxy' : (l[k] == l[j]) = false := by simpa using hxy
            clear hxy
            go_wp2_with fail
            go_quiet (fail)
            go_wp2_with fail
            go_roundw
            case rel => exact ⟨j + 1, by omega, by go_num, HX.out, Below.drewN' HU2.out _⟩
            case measure => simp [intOf]; omega
        · obtain rfl : j = k := by omega
          have HX := Lib.hid ((nodup_take hlt).2 ⟨HT.out, HN.out⟩)
          clear hu
          go_wp2_with fail
          go_roundw
          case rel => exact ⟨j + 1, by omega, by go_num, HX.out, HU2.out⟩
          case measure => simp [intOf]; omega
    · obtain rfl : k = l.length := by omega
      have HX : Hid l.Nodup := by have := HT.out; rwa [List.take_length] at this
      go_wp2_with fail
      go_ret
      exact ⟨by rw [decide_eq_true HX.out]; rfl, HU.out⟩
end
end Go.Proofs.Ytcljkkojeleakaa
/- The exported At: the state of a place at a minute, or the error. -/
namespace Go.Proofs.Ytcljkkojeleakaa
open Go.RowKit Go.Shelf

def errHere (s : Sd) (m x : Int) : Int := if errAt s m = 0 then (bif isPl s x then 0 else 1) else errAt s m
def atV (s : Sd) (m x : Int) : Int := if errHere s m x = 0 then st s m x.toNat else 0
section
variable {pT pF pS : Option Addr} {cT cF cS : Nat}

set_option maxRecDepth 100000 in
set_option maxHeartbeats 1000000 in
theorem At_c (s : Sd) (m x : Int) (w : World) (hl : Lists w s pT pF pS cT cF cS) :
    Calls Try.prog 41 #[sdVal s pT pF pS cT cF cS, .int .i64 m, .int .i64 x] w fun e w' => e = .returned (.tuple #[.int .i64 (atV s m x), .int .i64 (errHere s m x)]) ∧ Up w w' := by
  have HC := Lib.hid (fun W (u : Up w W) => beginAt_c s m W (hl.up u))
  unfold atV errHere
  clear hl
  by_cases hE : errAt s m = 0
  · obtain ⟨hc, hm, -⟩ := errAt_zero hE
    have hf8 := (chk_ok hc).fl1
    have HO := Lib.hid (chk_ok hc)
    rw [if_pos hE]
    rw [hE] at HC
    unfold sdVal at *
    cases hp : isPl s x with
    | false =>
      have hp' : inB x 0 (s.floors.length - 1) = false := hp
      go_enter Try.func41, Try.ntmps41
      go_wp2_with fail
      refine (HC.out _ (by (repeat (first | exact Below.refl _ _ | (with_reducible refine Below.drewN' ?_ _) | (with_reducible refine Below.drew ?_) | (with_reducible refine Below.setCell ?_ (by first | exact Nat.le_refl _ | omega | (with_reducible (repeat (first | refine sz_alloc ?_ | refine sz_setCell ?_ | refine sz_drew ?_ | refine sz_drewN ?_)); first | exact Nat.le_refl _ | omega) | (simp only [World.size_alloc, World.size_setCell, World.size_drew, size_drewN']; omega)) _) | (with_reducible refine Below.alloc ?_ (by first | exact Nat.le_refl _ | omega | (with_reducible (repeat (first | refine sz_alloc ?_ | refine sz_setCell ?_ | refine sz_drew ?_ | refine sz_drewN ?_)); first | exact Nat.le_refl _ | omega) | (simp only [World.size_alloc, World.size_setCell, World.size_drew, size_drewN']; omega)) _) | assumption)))).mono ?_
      rintro e w1 ⟨p, rfl, u1, hok⟩
      obtain ⟨bw, rfl, hW⟩ := hok rfl
      have U1 := Lib.hid (Up.trans (show Up w (w.alloc (.cells (sdCells s pT pF pS cT cF cS).toArray 28)) by (repeat (first | exact Below.refl _ _ | (with_reducible refine Below.drewN' ?_ _) | (with_reducible refine Below.drew ?_) | (with_reducible refine Below.setCell ?_ (by first | exact Nat.le_refl _ | omega | (with_reducible (repeat (first | refine sz_alloc ?_ | refine sz_setCell ?_ | refine sz_drew ?_ | refine sz_drewN ?_)); first | exact Nat.le_refl _ | omega) | (simp only [World.size_alloc, World.size_setCell, World.size_drew, size_drewN']; omega)) _) | (with_reducible refine Below.alloc ?_ (by first | exact Nat.le_refl _ | omega | (with_reducible (repeat (first | refine sz_alloc ?_ | refine sz_setCell ?_ | refine sz_drew ?_ | refine sz_drewN ?_)); first | exact Nat.le_refl _ | omega) | (simp only [World.size_alloc, World.size_setCell, World.size_drew, size_drewN']; omega)) _) | assumption))) u1)
      have HW := Lib.hid hW
      clear hok hW u1 HC
      go_wp2_with fail
      refine (isPlace_c bw _ _ _ x _ HW.out.sands.s3 (by simp only [maxLen]; omega)).mono ?_
      rintro e w2 ⟨he, rfl⟩
      rw [hp'] at he
      subst he
      go_wp2_with fail
      go_ret2
      exact ⟨rfl, U1.out⟩
    | true =>
      have hp' : inB x 0 (s.floors.length - 1) = true := hp
      obtain ⟨x0, x1⟩ := inB_true.1 hp'
      obtain ⟨k, rfl⟩ : ∃ k : Nat, x = k := ⟨x.toNat, by omega⟩
      go_enter Try.func41, Try.ntmps41
      go_wp2_with fail
      refine (HC.out _ (by (repeat (first | exact Below.refl _ _ | (with_reducible refine Below.drewN' ?_ _) | (with_reducible refine Below.drew ?_) | (with_reducible refine Below.setCell ?_ (by first | exact Nat.le_refl _ | omega | (with_reducible (repeat (first | refine sz_alloc ?_ | refine sz_setCell ?_ | refine sz_drew ?_ | refine sz_drewN ?_)); first | exact Nat.le_refl _ | omega) | (simp only [World.size_alloc, World.size_setCell, World.size_drew, size_drewN']; omega)) _) | (with_reducible refine Below.alloc ?_ (by first | exact Nat.le_refl _ | omega | (with_reducible (repeat (first | refine sz_alloc ?_ | refine sz_setCell ?_ | refine sz_drew ?_ | refine sz_drewN ?_)); first | exact Nat.le_refl _ | omega) | (simp only [World.size_alloc, World.size_setCell, World.size_drew, size_drewN']; omega)) _) | assumption)))).mono ?_
      rintro e w1 ⟨p, rfl, u1, hok⟩
      obtain ⟨bw, rfl, hW⟩ := hok rfl
      have U1 := Lib.hid (Up.trans (show Up w (w.alloc (.cells (sdCells s pT pF pS cT cF cS).toArray 28)) by (repeat (first | exact Below.refl _ _ | (with_reducible refine Below.drewN' ?_ _) | (with_reducible refine Below.drew ?_) | (with_reducible refine Below.setCell ?_ (by first | exact Nat.le_refl _ | omega | (with_reducible (repeat (first | refine sz_alloc ?_ | refine sz_setCell ?_ | refine sz_drew ?_ | refine sz_drewN ?_)); first | exact Nat.le_refl _ | omega) | (simp only [World.size_alloc, World.size_setCell, World.size_drew, size_drewN']; omega)) _) | (with_reducible refine Below.alloc ?_ (by first | exact Nat.le_refl _ | omega | (with_reducible (repeat (first | refine sz_alloc ?_ | refine sz_setCell ?_ | refine sz_drew ?_ | refine sz_drewN ?_)); first | exact Nat.le_refl _ | omega) | (simp only [World.size_alloc, World.size_setCell, World.size_drew, size_drewN']; omega)) _) | assumption))) u1)
      have HW := Lib.hid hW
      clear hok hW u1 HC
      go_wp2_with fail
      refine (isPlace_c bw _ _ _ (k : Int) _ HW.out.sands.s3 (by simp only [maxLen]; omega)).mono ?_
      rintro e w2 ⟨he, rfl⟩
      rw [hp'] at he
      subst he
      go_wp2_with fail
      refine (state_c bw s m k _ HW.out HO.out hm (by omega)).mono ?_
      rintro e w2 ⟨rfl, u2⟩
      have U2 := Lib.hid (Up.trans U1.out u2)
      clear u2
      go_wp2_with fail
      go_ret2
      exact ⟨rfl, U2.out⟩
  · have hne : (errAt s m != 0) = true := by rw [bne_iff_ne]; exact hE
    rw [if_neg hE, if_neg hE]
    clear hE
    unfold sdVal at *
    go_enter Try.func41, Try.ntmps41
    go_wp2_with fail
    refine (HC.out _ (by (repeat (first | exact Below.refl _ _ | (with_reducible refine Below.drewN' ?_ _) | (with_reducible refine Below.drew ?_) | (with_reducible refine Below.setCell ?_ (by first | exact Nat.le_refl _ | omega | (with_reducible (repeat (first | refine sz_alloc ?_ | refine sz_setCell ?_ | refine sz_drew ?_ | refine sz_drewN ?_)); first | exact Nat.le_refl _ | omega) | (simp only [World.size_alloc, World.size_setCell, World.size_drew, size_drewN']; omega)) _) | (with_reducible refine Below.alloc ?_ (by first | exact Nat.le_refl _ | omega | (with_reducible (repeat (first | refine sz_alloc ?_ | refine sz_setCell ?_ | refine sz_drew ?_ | refine sz_drewN ?_)); first | exact Nat.le_refl _ | omega) | (simp only [World.size_alloc, World.size_setCell, World.size_drew, size_drewN']; omega)) _) | assumption)))).mono ?_
    rintro e w1 ⟨p, rfl, u1, -⟩
    have U1 := Lib.hid (Up.trans (show Up w (w.alloc (.cells (sdCells s pT pF pS cT cF cS).toArray 28)) by (repeat (first | exact Below.refl _ _ | (with_reducible refine Below.drewN' ?_ _) | (with_reducible refine Below.drew ?_) | (with_reducible refine Below.setCell ?_ (by first | exact Nat.le_refl _ | omega | (with_reducible (repeat (first | refine sz_alloc ?_ | refine sz_setCell ?_ | refine sz_drew ?_ | refine sz_drewN ?_)); first | exact Nat.le_refl _ | omega) | (simp only [World.size_alloc, World.size_setCell, World.size_drew, size_drewN']; omega)) _) | (with_reducible refine Below.alloc ?_ (by first | exact Nat.le_refl _ | omega | (with_reducible (repeat (first | refine sz_alloc ?_ | refine sz_setCell ?_ | refine sz_drew ?_ | refine sz_drewN ?_)); first | exact Nat.le_refl _ | omega) | (simp only [World.size_alloc, World.size_setCell, World.size_drew, size_drewN']; omega)) _) | assumption))) u1)
    clear u1 HC
    go_wp2_with fail
    go_ret2
    exact ⟨rfl, U1.out⟩
end
end Go.Proofs.Ytcljkkojeleakaa
/- Plain facts: until when a run of minutes lasts; places that are reached over the sills that may be taken; a place behind another one has no lesser gate. -/
namespace Go.Proofs.Ytcljkkojeleakaa
section
open Go.RowKit

theorem turnIn_append (l r : List (Int × Int)) (m : Int) : turnIn (l ++ r) m = (turnIn l m).or (turnIn r m) := by
  induction l with
  | nil => simp [turnIn]
  | cons x l ih =>
    rw [List.cons_append, turnIn_cons, turnIn_cons, ih]
    split <;> simp
theorem turnIn_past {l : List (Int × Int)} {m : Int} (h : ∀ x ∈ l, x.2 < m) : turnIn l m = none := by
  induction l with
  | nil => rfl
  | cons x l ih =>
    have := h x (by simp)
    rw [turnIn_cons, if_neg (by omega), ih (fun y hy => h y (by simp [hy]))]

/-- a run from a minute on ends at t -/
def RunTo (f : Int → Bool) (e m t : Int) : Prop := m ≤ t ∧ t < e ∧ (∀ x, m ≤ x → x ≤ t → f x = true) ∧ (t + 1 < e → f (t + 1) = false)
structure SpI (f : Int → Bool) (a : Int) (k : Nat) (st : List (Int × Int) × Int × Bool) : Prop where
  run : st.2.2 = true → a ≤ st.2.1 ∧ st.2.1 < a + k ∧ ∀ x, st.2.1 ≤ x → x < a + k → f x = true
  ends : ∀ x ∈ st.1, x.2 + 1 < a + k ∧ (st.2.2 = true → x.2 < st.2.1)
  some' : ∀ m t, a ≤ m → m < a + k → turnIn st.1 m = some t → m ≤ t ∧ t + 1 < a + k ∧ (∀ x, m ≤ x → x ≤ t → f x = true) ∧ f (t + 1) = false
  none' : ∀ m, a ≤ m → m < a + k → turnIn st.1 m = none → f m = true → st.2.2 = true ∧ st.2.1 ≤ m
theorem spI (f : Int → Bool) (a : Int) : ∀ k, SpI f a k (spSt f a k)
  | 0 => ⟨(by intro h; cases h), (by simp [spSt]), fun m t h1 h2 => (by omega), fun m h1 h2 => (by omega)⟩
  | k + 1 => by
    have h := spI f a k
    obtain ⟨h1, h2, h3, h4⟩ := h
    unfold spSt
    generalize spSt f a k = st at *
    obtain ⟨l, fr, o⟩ := st
    dsimp only at h1 h2 h3 h4 ⊢
    have past : turnIn l (a + k) = none := turnIn_past (fun x hx => by have := (h2 x hx).1; omega)
    by_cases hf : f (a + k) = true
    · rw [if_pos hf]
      cases o with
      | true =>
        obtain ⟨r1, r2, r3⟩ := h1 rfl
        rw [if_pos rfl]
        refine ⟨fun _ => ⟨r1, by show fr < a + ((k + 1 : Nat) : Int); omega, fun x x1 x2 => ?_⟩, fun x hx => ?_, fun m t m1 m2 ht => ?_, fun m m1 m2 ht hm => ?_⟩
        · by_cases hx : x = a + k
          · rw [hx]; exact hf
          · exact r3 x x1 (by omega)
        · have := h2 x hx
          exact ⟨by omega, this.2⟩
        · by_cases hm : m = a + k
          · rw [hm] at ht; rw [show turnIn l (a + k) = none from past] at ht; cases ht
          · obtain ⟨t1, t2, t3, t4⟩ := h3 m t m1 (by omega) ht
            exact ⟨t1, by omega, t3, t4⟩
        · by_cases hm' : m = a + k
          · exact ⟨rfl, by show fr ≤ m; omega⟩
          · exact h4 m m1 (by omega) ht hm
      | false =>
        rw [if_neg (by decide)]
        refine ⟨fun _ => ⟨by show a ≤ a + (k : Int); omega, by show a + (k : Int) < a + ((k + 1 : Nat) : Int); omega, fun x x1 x2 => ?_⟩, fun x hx => ?_, fun m t m1 m2 ht => ?_, fun m m1 m2 ht hm => ?_⟩
        · have x1' : a + (k : Int) ≤ x := x1
          rw [show x = a + k by omega]; exact hf
        · have := (h2 x hx).1
          exact ⟨by omega, fun _ => by show x.2 < a + (k : Int); omega⟩
        · by_cases hm : m = a + k
          · rw [hm] at ht; rw [show turnIn l (a + k) = none from past] at ht; cases ht
          · obtain ⟨t1, t2, t3, t4⟩ := h3 m t m1 (by omega) ht
            exact ⟨t1, by omega, t3, t4⟩
        · by_cases hm' : m = a + k
          · exact ⟨rfl, by show a + (k : Int) ≤ m; omega⟩
          · have := (h4 m m1 (by omega) ht hm).1; cases this
    · rw [if_neg hf]
      have hf' : f (a + k) = false := by simpa using hf
      cases o with
      | true =>
        obtain ⟨r1, r2, r3⟩ := h1 rfl
        rw [if_pos rfl]
        have one : ∀ m, turnIn [(fr, a + (k : Int) - 1)] m = if fr ≤ m ∧ m ≤ a + k - 1 then some (a + (k : Int) - 1) else none := fun m => by rw [turnIn_cons]; rfl
        refine ⟨(by intro h; cases h), fun x hx => ?_, fun m t m1 m2 ht => ?_, fun m m1 m2 ht hm => ?_⟩
        · refine ⟨?_, (by intro h; cases h)⟩
          rw [List.mem_append, List.mem_singleton] at hx
          rcases hx with hx | rfl
          · have := (h2 x hx).1; omega
          · show a + (k : Int) - 1 + 1 < _; omega
        · have ht' : (turnIn l m).or (turnIn [(fr, a + (k : Int) - 1)] m) = some t := by rw [← turnIn_append]; exact ht
          have hk1 : m ≠ a + k ∨ m = a + k := by omega
          rcases hk1 with hm | hm
          · cases hl : turnIn l m with
            | some t' =>
              rw [hl, Option.some_or] at ht'
              cases ht'
              obtain ⟨t1, t2, t3, t4⟩ := h3 m t m1 (by omega) hl
              exact ⟨t1, by omega, t3, t4⟩
            | none =>
              rw [hl, Option.none_or, one] at ht'
              split at ht'
              · next hc =>
                cases ht'
                refine ⟨hc.2, by omega, fun x x1 x2 => r3 x (by omega) (by omega), ?_⟩
                rw [show a + (k : Int) - 1 + 1 = a + k by omega]; exact hf'
              · cases ht'
          · rw [hm, past, Option.none_or, one, if_neg (by omega)] at ht'; cases ht'
        · have ht' : (turnIn l m).or (turnIn [(fr, a + (k : Int) - 1)] m) = none := by rw [← turnIn_append]; exact ht
          have hk1 : m ≠ a + k ∨ m = a + k := by omega
          rcases hk1 with hm' | hm'
          · cases hl : turnIn l m with
            | some t' => rw [hl, Option.some_or] at ht'; cases ht'
            | none =>
              rw [hl, Option.none_or, one] at ht'
              have := h4 m m1 (by omega) hl hm
              rw [if_pos (by omega)] at ht'; cases ht'
          · rw [hm', hf'] at hm; cases hm
      | false =>
        rw [if_neg (by decide)]
        refine ⟨(by intro h; cases h), fun x hx => ⟨?_, (by intro h; cases h)⟩, fun m t m1 m2 ht => ?_, fun m m1 m2 ht hm => ?_⟩
        · have := (h2 x hx).1; omega
        · by_cases hm : m = a + k
          · rw [hm] at ht; rw [show turnIn l (a + k) = none from past] at ht; cases ht
          · obtain ⟨t1, t2, t3, t4⟩ := h3 m t m1 (by omega) ht
            exact ⟨t1, by omega, t3, t4⟩
        · by_cases hm' : m = a + k
          · rw [hm', hf'] at hm; cases hm
          · exact h4 m m1 (by omega) ht hm
theorem turn_run (f : Int → Bool) (a : Int) (n : Nat) (m : Int) (h0 : a ≤ m) (h1 : m < a + n) :
    (f m = true → ∃ t, turnIn (spansOf f a n) m = some t ∧ RunTo f (a + n) m t) ∧ (f m = false → turnIn (spansOf f a n) m = none) := by
  obtain ⟨i1, i2, i3, i4⟩ := spI f a n
  unfold spansOf
  generalize spSt f a n = st at *
  obtain ⟨l, fr, o⟩ := st
  dsimp only at i1 i2 i3 i4 ⊢
  have inl : ∀ t, turnIn l m = some t → RunTo f (a + n) m t := fun t ht => by
    obtain ⟨t1, t2, t3, t4⟩ := i3 m t h0 h1 ht
    exact ⟨t1, by omega, t3, fun _ => t4⟩
  cases o with
  | true =>
    obtain ⟨r1, r2, r3⟩ := i1 rfl
    rw [if_pos rfl, turnIn_append]
    have one : turnIn [(fr, a + (n : Int) - 1)] m = if fr ≤ m ∧ m ≤ a + n - 1 then some (a + (n : Int) - 1) else none := by rw [turnIn_cons]; rfl
    cases hl : turnIn l m with
    | some t =>
      have hr := inl t hl
      refine ⟨fun _ => ⟨t, by rw [Option.some_or], hr⟩, fun hm => ?_⟩
      rw [hr.2.2.1 m (Int.le_refl _) hr.1] at hm; cases hm
    | none =>
      rw [Option.none_or, one]
      refine ⟨fun hm => ?_, fun hm => ?_⟩
      · have := (i4 m h0 h1 hl hm).2
        refine ⟨a + n - 1, if_pos (by omega), by omega, by omega, fun x x1 x2 => r3 x (by omega) (by omega), fun h => by omega⟩
      · by_cases hc : fr ≤ m
        · rw [r3 m hc h1] at hm; cases hm
        · rw [if_neg (by omega)]
  | false =>
    rw [if_neg (by decide)]
    cases hl : turnIn l m with
    | some t =>
      have hr := inl t hl
      refine ⟨fun _ => ⟨t, rfl, hr⟩, fun hm => ?_⟩
      rw [hr.2.2.1 m (Int.le_refl _) hr.1] at hm; cases hm
    | none =>
      refine ⟨fun hm => ?_, fun _ => rfl⟩
      have := (i4 m h0 h1 hl hm).1; cases this
theorem RunTo.le {f g : Int → Bool} {e m t u : Int} (h : RunTo f e m t) (k : RunTo g e m u) (hfg : ∀ x, g x = true → f x = true) : u ≤ t := by
  obtain ⟨h1, h2, h3, h4⟩ := h
  obtain ⟨k1, k2, k3, k4⟩ := k
  by_cases hc : t < u
  · have := h4 (by omega)
    rw [hfg _ (k3 (t + 1) (by omega) (by omega))] at this; cases this
  · omega
theorem fitB_one (s : Sd) (p : Int) (pd : Int → Bool) (m : Int) : fitB s [p] pd m = pd (st s m p.toNat) := by simp [fitB]
section
variable {s : Sd}
/-- until when one can stay -/
theorem turn_in (ok : Ok s) {x : Int} (hx : 0 ≤ x ∧ x < s.floors.length) {m : Int} (hm : inDay s m = true) :
    (st s m x.toNat = 0 → errTurn s x m = 0 ∧ RunTo (fun y => st s y x.toNat == 0) (lastM s.table + 1) m (turnV s x m)) ∧ (st s m x.toNat ≠ 0 → errTurn s x m = 6) := by
  obtain ⟨f0, f1, f2⟩ := firstM_lt ok.table
  obtain ⟨m0, m1⟩ : firstM s.table ≤ m ∧ m ≤ lastM s.table := inB_true.1 hm
  have hd : firstM s.table + (dayN s : Int) = lastM s.table + 1 := by unfold dayN; omega
  have k := turn_run (dryB s [x]) (firstM s.table) (dayN s) m m0 (by omega)
  rw [hd] at k
  have e : dryB s [x] = fun y => st s y x.toNat == 0 := by funext y; unfold dryB; rw [fitB_one]
  unfold errTurn turnV drySpans
  rw [if_pos (errFor_in ok hx), if_pos hm, if_pos (errFor_in ok hx), if_pos hm]
  rw [e] at k ⊢
  refine ⟨fun h => ?_, fun h => ?_⟩
  · obtain ⟨t, ht, hr⟩ := k.1 (by simp [h])
    rw [ht]
    exact ⟨rfl, hr⟩
  · rw [k.2 (by simp [h])]
end

section
variable {s : Sd} {may : Nat → Nat → Bool}
theorem wayAt_nat (ws : Ways) (t : Nat) : wayAt ws (t : Int) = ws[t]?.getD none := rfl
/-- which places are reached -/
abbrev Got (ws : Ways) (t : Nat) : Prop := ∃ l, ws[t]? = some (some l)
theorem leadW_got {way : List Int} {nS nF : Nat} (st : Ways × List Int) (x : Lead nS nF) (t : Nat) (h : Got st.1 t) : Got (leadW may way st x).1 t := by
  unfold leadW
  split
  · next hc =>
    obtain ⟨l, hl⟩ := h
    by_cases e : x.1.2 = t
    · rw [e] at hc; rw [hl] at hc; exact absurd hc.1 (by simp)
    · exact ⟨l, by show (st.1.set _ _)[t]? = _; rw [List.getElem?_set_ne e]; exact hl⟩
  · exact h
theorem leadW_que {way : List Int} {nS nF : Nat} (st : Ways × List Int) (x : Lead nS nF) (t : Nat) (h : (t : Int) ∈ st.2) : (t : Int) ∈ (leadW may way st x).2 := by
  unfold leadW
  split
  · exact List.mem_append_left _ h
  · exact h
theorem leadW_new' {way : List Int} {nS nF : Nat} (st : Ways × List Int) (x : Lead nS nF) (t : Nat) (h : Got (leadW may way st x).1 t) : Got st.1 t ∨ (t : Int) ∈ (leadW may way st x).2 ∧ may x.1.1 t = true := by
  unfold leadW at h ⊢
  split at h
  · next hc =>
    rw [if_pos hc]
    by_cases e : x.1.2 = t
    · exact Or.inr ⟨by rw [← e]; simp, by rw [← e]; exact hc.2⟩
    · obtain ⟨l, hl⟩ := h
      rw [show (st.1.set x.1.2 (some (way ++ [(x.1.1 : Int)])))[t]? = st.1[t]? from List.getElem?_set_ne e] at hl
      exact Or.inl ⟨l, hl⟩
  · exact Or.inl h
theorem leadW_done {way : List Int} {nS nF : Nat} (st : Ways × List Int) (x : Lead nS nF) (h8 : nF ≤ 8) (hl : st.1.length = 8) (hm : may x.1.1 x.1.2 = true) : Got (leadW may way st x).1 x.1.2 := by
  have hx := x.2.2
  have hlt : x.1.2 < st.1.length := by omega
  unfold leadW
  split
  · exact ⟨_, by show (st.1.set _ _)[_]? = _; rw [List.getElem?_set_self hlt]⟩
  · next hc =>
    cases e : st.1[x.1.2] with
    | none => exact absurd ⟨by rw [List.getElem?_eq_getElem hlt, e], hm⟩ hc
    | some l => exact ⟨l, by rw [List.getElem?_eq_getElem hlt, e]⟩
theorem leadW_len {way : List Int} {nS nF : Nat} (st : Ways × List Int) (x : Lead nS nF) : (leadW may way st x).1.length = st.1.length := by
  unfold leadW
  split
  · simp
  · rfl
/-- behind a row of leads -/
theorem led_all {way : List Int} {nS nF : Nat} (h8 : nF ≤ 8) : ∀ (l : List (Lead nS nF)) (st : Ways × List Int), st.1.length = 8 →
    (l.foldl (leadW may way) st).1.length = 8 ∧ (∀ t, Got st.1 t → Got (l.foldl (leadW may way) st).1 t) ∧ (∀ t : Nat, (t : Int) ∈ st.2 → (t : Int) ∈ (l.foldl (leadW may way) st).2) ∧
    (∀ t, Got (l.foldl (leadW may way) st).1 t → Got st.1 t ∨ (t : Int) ∈ (l.foldl (leadW may way) st).2 ∧ ∃ i, may i t = true) ∧ (∀ x ∈ l, may x.1.1 x.1.2 = true → Got (l.foldl (leadW may way) st).1 x.1.2)
  | [], st, hl => ⟨hl, fun _ h => h, fun _ h => h, fun _ h => Or.inl h, fun x hx => by simp at hx⟩
  | y :: r, st, hl => by
    obtain ⟨h1, h2, h3, h4, h5⟩ := led_all (way := way) h8 r (leadW may way st y) (by rw [leadW_len]; exact hl)
    rw [List.foldl_cons]
    refine ⟨h1, fun t h => h2 t (leadW_got st y t h), fun t h => h3 t (leadW_que st y t h), fun t h => ?_, fun x hx hm => ?_⟩
    · rcases h4 t h with h | h
      · rcases leadW_new' st y t h with h | ⟨h, hm⟩
        · exact Or.inl h
        · exact Or.inr ⟨h3 t h, y.1.1, hm⟩
      · exact Or.inr h
    · rcases List.mem_cons.1 hx with rfl | hx
      · exact h2 _ (leadW_done st x h8 hl hm)
      · exact h5 x hx hm

/-- closed: what is led to from the Sea, or from places that were reached and are done, is reached -/
structure Shut (s : Sd) (may : Nat → Nat → Bool) (st : Ways × List Int) : Prop where
  len : st.1.length = 8
  sea : ∀ x ∈ leads s.sills s.floors.length (-1) s.sills.length, may x.1.1 x.1.2 = true → Got st.1 x.1.2
  on : ∀ f : Nat, Got st.1 f → (f : Int) ∈ st.2 ∨ ∀ x ∈ leads s.sills s.floors.length f s.sills.length, may x.1.1 x.1.2 = true → Got st.1 x.1.2
  may' : ∀ t, Got st.1 t → ∃ i, may i t = true
  few : st.2.length + nones st.1 ≤ 8
  nat : ∀ y ∈ st.2, 0 ≤ y ∧ y < s.floors.length
theorem Shut.start (h8 : s.floors.length ≤ 8) : Shut s may (ledW s may (-1) [] (List.replicate 8 none, [])) := by
  obtain ⟨h1, h2, h3, h4, h5⟩ := led_all (way := []) (may := may) h8 (leads s.sills s.floors.length (-1) s.sills.length) (List.replicate 8 none, []) rfl
  have no : ∀ t, ¬ Got (List.replicate 8 (none : Option (List Int))) t := fun t ⟨l, hl⟩ => by
    rw [List.getElem?_replicate] at hl
    split at hl <;> cases hl
  obtain ⟨k1, k2⟩ := foldW_keeps (may := may) (way := []) (leads s.sills s.floors.length (-1) s.sills.length) (List.replicate 8 none, [])
  refine ⟨h1, h5, fun f hf => ?_, fun t ht => ?_, ?_, fun y hy => ?_⟩
  · rcases h4 f hf with h | h
    · exact absurd h (no f)
    · exact Or.inl h.1
  · rcases h4 t ht with h | h
    · exact absurd h (no t)
    · exact h.2
  · unfold ledW
    rw [k1]
    decide
  · rcases k2 y hy with h | h
    · simp at h
    · exact h
theorem Shut.next (h8 : s.floors.length ≤ 8) {ws : Ways} {x : Int} {q : List Int} (h : Shut s may (ws, x :: q)) (way : List Int) : Shut s may (ledW s may x way (ws, q)) ∧ (ledW s may x way (ws, q)).2.length + nones (ledW s may x way (ws, q)).1 + 1 = (x :: q).length + nones ws := by
  obtain ⟨h1, h2, h3, h4, h5⟩ := led_all (way := way) (may := may) h8 (leads s.sills s.floors.length x s.sills.length) (ws, q) h.len
  obtain ⟨k1, k2⟩ := foldW_keeps (may := may) (way := way) (leads s.sills s.floors.length x s.sills.length) (ws, q)
  have hc : (ledW s may x way (ws, q)).2.length + nones (ledW s may x way (ws, q)).1 + 1 = (x :: q).length + nones ws := by
    unfold ledW
    rw [k1]
    simp only [List.length_cons]; omega
  have hx := h.nat x (by simp)
  refine ⟨⟨h1, fun y hy hm => h2 _ (h.sea y hy hm), fun f hf => ?_, fun t ht => ?_, ?_, fun y hy => ?_⟩, hc⟩
  · by_cases e : (f : Int) = x
    · subst e
      exact Or.inr (fun y hy hm => h5 y hy hm)
    · rcases h4 f hf with hg | hg
      · rcases h.on f hg with hq | hq
        · rcases List.mem_cons.1 hq with h' | h'
          · exact absurd h' e
          · exact Or.inl (h3 f h')
        · exact Or.inr (fun y hy hm => h2 _ (hq y hy hm))
      · exact Or.inl hg.1
  · rcases h4 t ht with hg | hg
    · exact h.may' t hg
    · exact hg.2
  · have := h.few
    simp only at this
    omega
  · rcases k2 y hy with hg | hg
    · exact h.nat y (by simp; exact Or.inr hg)
    · exact hg
theorem goW_shut (h8 : s.floors.length ≤ 8) : ∀ n (st : Ways × List Int), Shut s may st → st.2.length + nones st.1 ≤ n → Shut s may (goW s may n st) ∧ (goW s may n st).2 = []
  | 0, (ws, q), h, hn => by
    have : q = [] := List.length_eq_zero_iff.1 (by simp only at hn; omega)
    subst this
    exact ⟨h, rfl⟩
  | n + 1, (ws, []), h, _ => ⟨h, rfl⟩
  | n + 1, (ws, x :: q), h, hn => by
    obtain ⟨k1, k2⟩ := h.next h8 ((wayAt ws x).getD [])
    refine goW_shut h8 n _ k1 ?_
    simp only at hn
    omega
theorem waysOf_shut (h8 : s.floors.length ≤ 8) : (∀ x ∈ leads s.sills s.floors.length (-1) s.sills.length, may x.1.1 x.1.2 = true → Got (waysOf s may) x.1.2) ∧
    (∀ f : Nat, Got (waysOf s may) f → ∀ x ∈ leads s.sills s.floors.length f s.sills.length, may x.1.1 x.1.2 = true → Got (waysOf s may) x.1.2) ∧ (∀ t, Got (waysOf s may) t → ∃ i, may i t = true) := by
  obtain ⟨h, hq⟩ := goW_shut (s := s) (may := may) h8 8 _ (Shut.start h8) (Shut.start h8).few
  refine ⟨h.sea, fun f hf => ?_, h.may'⟩
  rcases h.on f hf with hm | hm
  · rw [hq] at hm; simp at hm
  · exact hm
end

section
variable {s : Sd}
/-- no lesser than the gate of q at places that are not reached without going over q -/
def Beh (U : Nat → Prop) (q : Nat) (g : List Int) : Prop := ∀ x, x < g.length → U x → g[q]?.getD 0 ≤ g[x]?.getD 0
theorem Beh.set {U : Nat → Prop} {q : Nat} {g : List Int} (h : Beh U q g) (t : Nat) (c : Int) (hc : t ≠ q → U t → g[q]?.getD 0 ≤ c) : Beh U q (g.set t (min (g[t]?.getD 0) c)) := by
  intro x hx hu
  rw [List.length_set] at hx
  have k := h x hx hu
  rw [List.getElem?_set, List.getElem?_set]
  by_cases e1 : t = q
  · subst e1
    by_cases e2 : t = x
    · subst e2; exact Int.le_refl _
    · rw [if_pos rfl, if_neg e2]
      by_cases hl : t < g.length
      · rw [if_pos hl, Option.getD_some]; omega
      · rw [if_neg hl]
        rw [List.getElem?_eq_none (by omega)] at k
        exact k
  · rw [if_neg e1]
    by_cases e2 : t = x
    · subst e2
      have := hc e1 hu
      rw [if_pos rfl, if_pos hx, Option.getD_some]; omega
    · rw [if_neg e2]; exact k
theorem beh_low1 {U : Nat → Prop} {q : Nat} : ∀ (l : List (Lead s.sills.length s.floors.length)) (g : List Int), (∀ x ∈ l, x.1.2 ≠ q → ¬ U x.1.2) → Beh U q g → Beh U q (l.foldl (low1 s) g)
  | [], _, _, h => h
  | x :: r, g, hu, h => beh_low1 r (low1 s g x) (fun y hy => hu y (by simp [hy])) (h.set _ _ (fun ht hU => absurd hU (hu x (by simp) ht)))
theorem beh_low2 {U : Nat → Prop} {q f : Nat} (hf : f < 8) : ∀ (l : List (Lead s.sills.length s.floors.length)) (g : List Int), g.length = 8 → (∀ x ∈ l, x.1.2 ≠ q → U x.1.2 → U f) → Beh U q g → Beh U q (l.foldl (low2 s f) g)
  | [], _, _, _, h => h
  | x :: r, g, hl, hu, h => beh_low2 hf r (low2 s f g x) (by simp [low2, hl]) (fun y hy => hu y (by simp [hy])) (h.set _ _ (fun ht hU => by
      have := h f (by omega) (hu x (by simp) ht hU)
      rw [grt2]; omega))
theorem beh_froms {U : Nat → Prop} {q : Nat} : ∀ (l : List Nat) (g : List Int), g.length = 8 → (∀ f ∈ l, f < 8 ∧ ∀ x ∈ leads s.sills s.floors.length f s.sills.length, x.1.2 ≠ q → U x.1.2 → U f) → Beh U q g → Beh U q (l.foldl (lowFrom s) g)
  | [], _, _, _, h => h
  | f :: r, g, hl, hu, h => beh_froms r (lowFrom s g f) (low2_len s f _ _ hl) (fun y hy => hu y (by simp [hy])) (beh_low2 (hu f (by simp)).1 _ _ hl (hu f (by simp)).2 h)
theorem behind_gts (h8 : s.floors.length ≤ 8) (q p : Nat) (hp : p < 8) (hn : ¬ Got (waysOf s (mayHold [] [(q : Int)])) p) : gateOf s q ≤ gateOf s p := by
  obtain ⟨w1, w2, w3⟩ := waysOf_shut (s := s) (may := mayHold [] [(q : Int)]) h8
  have may : ∀ i t, t ≠ q → mayHold [] [(q : Int)] i t = true := fun i t h => by simp [mayHold]; omega
  generalize hU : waysOf s (mayHold [] [(q : Int)]) = ws at *
  have key : ∀ n (g : List Int), g.length = 8 → Beh (fun x => ¬ Got ws x) q g → Beh (fun x => ¬ Got ws x) q (iterG s n g) ∧ (iterG s n g).length = 8 := by
    intro n
    induction n with
    | zero => exact fun g hl h => ⟨h, hl⟩
    | succ n ih =>
      intro g hl h
      refine ih (lowered s g) (lowered_len s g hl) ?_
      unfold lowered
      refine beh_froms _ _ (low1_len s _ _ hl) (fun f hf => ?_) (beh_low1 _ _ (fun x hx ht hu => hu (w1 x hx (may _ _ ht))) h)
      rw [List.mem_range] at hf
      exact ⟨by omega, fun x hx ht hu hf' => hu (w2 f hf' x hx (may _ _ ht))⟩
  have h9 := fun n => key n top rfl (fun x hx _ => by
    unfold top at *
    rw [List.length_replicate] at hx
    rw [List.getElem?_replicate, List.getElem?_replicate, if_pos hx]
    split <;> simp)
  unfold gateOf gts
  rw [fixG_iter]
  exact (h9 _).1 p (by rw [(h9 _).2]; exact hp) hn
theorem st_rng (s : Sd) (m : Int) (p : Nat) : st s m p = 0 ∨ st s m p = 1 ∨ st s m p = 2 := by
  unfold st
  repeat' split
  all_goals simp
theorem not_got {may : Nat → Nat → Bool} (h8 : s.floors.length ≤ 8) (t : Nat) (h : ∀ i, may i t = false) : ¬ Got (waysOf s may) t := fun hg => by
  obtain ⟨i, hi⟩ := (waysOf_shut (s := s) (may := may) h8).2.2 t hg
  rw [h i] at hi; cases hi
theorem way_none {ws : Ways} {t : Nat} : wayAt ws (t : Int) = none ↔ ¬ Got ws t := by
  rw [wayAt_nat]
  constructor
  · rintro h ⟨l, hl⟩; rw [hl] at h; cases h
  · intro h
    cases e : ws[t]? with
    | none => rfl
    | some o =>
      cases o with
      | none => rfl
      | some l => exact absurd ⟨l, e⟩ h
/-- a bank of one place alone -/
theorem hold_one (ok : Ok s) {p q : Nat} (hp : p < s.floors.length) (hq : q < s.floors.length) :
    (errHold s p [] [(q : Int)] = 0 ∨ errHold s p [] [(q : Int)] = 8) ∧ (p = q → errHold s p [] [(q : Int)] = 0) ∧
    (errHold s p [] [(q : Int)] = 0 → holdV s p [] [(q : Int)] = s.floors[q] ∧ gateOf s q ≤ gateOf s p) := by
  have h8 := ok.fl1
  have e : errHold s p [] [(q : Int)] = if wayAt (waysOf s (mayHold [] [(q : Int)])) (p : Int) = none then 0 else 8 := by
    unfold errHold
    rw [if_pos (errFor_in ok (by omega)), if_pos ⟨by simp, by
      rw [List.all_eq_true]; intro y hy
      simp only [List.mem_singleton] at hy
      subst hy
      exact inB_true.2 (by omega)⟩, if_pos ⟨by simp, by simp⟩]
    simp
  have hno : ∀ i, mayHold [] [(q : Int)] i q = false := fun i => by simp [mayHold]
  refine ⟨?_, fun h => ?_, fun h => ?_⟩
  · rw [e]; split
    · exact Or.inl rfl
    · exact Or.inr rfl
  · subst h
    rw [e, if_pos (way_none.2 (not_got h8 _ hno))]
  · have hn : wayAt (waysOf s (mayHold [] [(q : Int)])) (p : Int) = none := by
      rw [e] at h
      split at h
      · assumption
      · cases h
    refine ⟨?_, behind_gts h8 q p (by omega) (way_none.1 hn)⟩
    have hf := ok.floors s.floors[q] (List.getElem_mem hq)
    unfold holdV
    rw [if_pos h]
    simp only [leastF, leastS, List.foldl_cons, List.foldl_nil, Int.toNat_natCast, List.getElem?_eq_getElem hq, Option.getD_some]
    omega
theorem behind_st {p q : Nat} (h : gateOf s q ≤ gateOf s p) (m : Int) : st s m p ≤ st s m q := by
  unfold st
  repeat' split
  all_goals omega
theorem behind_gate (ok : Ok s) {p q : Nat} (hp : p < s.floors.length) (hq : q < s.floors.length) (h : gateOf s q ≤ gateOf s p) :
    (errGate s p = 0 ∨ errGate s p = 6) ∧ (errGate s p = 0 → errGate s q = 0 ∧ gateV s q ≤ gateV s p) := by
  rw [errGate_in ok (x := (p : Int)) (by omega), errGate_in ok (x := (q : Int)) (by omega), gateV_in ok (x := (p : Int)) (by omega), gateV_in ok (x := (q : Int)) (by omega)]
  simp only [Int.toNat_natCast]
  by_cases c : gateOf s p < 1050
  · have c' : gateOf s q < 1050 := by omega
    rw [if_pos c, if_pos c', if_pos c, if_pos c']
    exact ⟨Or.inl rfl, fun _ => ⟨rfl, h⟩⟩
  · rw [if_neg c]
    exact ⟨Or.inr rfl, fun h => by cases h⟩
theorem behind_turn (ok : Ok s) {p q : Nat} (hp : p < s.floors.length) (hq : q < s.floors.length) (h : gateOf s q ≤ gateOf s p) {m : Int} (hm : inDay s m = true) (hd : st s m q = 0) :
    errTurn s p m = 0 ∧ errTurn s q m = 0 ∧ turnV s q m ≤ turnV s p m := by
  have hp0 : st s m p = 0 := by
    have := behind_st h m
    rcases st_rng s m p with h | h | h <;> omega
  obtain ⟨a1, a2⟩ := (turn_in ok (x := (p : Int)) (by omega) hm).1 hp0
  obtain ⟨b1, b2⟩ := (turn_in ok (x := (q : Int)) (by omega) hm).1 hd
  refine ⟨a1, b1, a2.le b2 (fun x hx => ?_)⟩
  simp only [Int.toNat_natCast, beq_iff_eq] at hx ⊢
  have := behind_st h x
  rcases st_rng s x p with h | h | h <;> omega
theorem here_in (_ok : Ok s) {m : Int} (_hm : inDay s m = true) {p : Nat} (hp : p < s.floors.length) (hA : errAt s m = 0) : errHere s m p = 0 ∧ atV s m p = st s m p := by
  have e : errHere s m p = 0 := by
    unfold errHere
    rw [if_pos hA, show isPl s (p : Int) = true from inB_true.2 (by omega)]; rfl
  refine ⟨e, ?_⟩
  unfold atV
  rw [if_pos e]; rfl
end
end
end Go.Proofs.Ytcljkkojeleakaa
namespace Go.Proofs.Ytcljkkojeleakaa
section
open Go.RowKit
variable {s : Sd} {ss ps : List Int}
/-- what holds of what is led to from the Sea, and from where it holds, holds of all that is reached -/
theorem led_inv {P : Nat → Prop} {may : Nat → Nat → Bool} {way : List Int} {nS nF : Nat} : ∀ (l : List (Lead nS nF)) (st : Ways × List Int), (∀ x ∈ l, may x.1.1 x.1.2 = true → P x.1.2) → (∀ t, Got st.1 t → P t) → (∀ y ∈ st.2, ∃ f : Nat, y = f ∧ P f) →
    (∀ t, Got (l.foldl (leadW may way) st).1 t → P t) ∧ (∀ y ∈ (l.foldl (leadW may way) st).2, ∃ f : Nat, y = f ∧ P f)
  | [], st, _, h1, h2 => ⟨h1, h2⟩
  | x :: r, st, h, h1, h2 => by
    rw [List.foldl_cons]
    refine led_inv r _ (fun y hy => h y (by simp [hy])) ?_ ?_
    · intro t ht
      unfold leadW at ht
      split at ht
      · next hc =>
        by_cases e : x.1.2 = t
        · rw [← e]; exact h x (by simp) hc.2
        · obtain ⟨l, hl⟩ := ht
          rw [show (st.1.set x.1.2 (some (way ++ [(x.1.1 : Int)])))[t]? = st.1[t]? from List.getElem?_set_ne e] at hl
          exact h1 t ⟨l, hl⟩
      · exact h1 t ht
    · intro y hy
      unfold leadW at hy
      split at hy
      · next hc =>
        rcases List.mem_append.1 hy with hy | hy
        · exact h2 y hy
        · rw [List.mem_singleton] at hy
          exact ⟨x.1.2, hy, h x (by simp) hc.2⟩
      · exact h2 y hy
theorem goW_inv {P : Nat → Prop} {may : Nat → Nat → Bool} (hp : ∀ f : Nat, P f → ∀ x ∈ leads s.sills s.floors.length f s.sills.length, may x.1.1 x.1.2 = true → P x.1.2) : ∀ n (st : Ways × List Int), (∀ t, Got st.1 t → P t) → (∀ y ∈ st.2, ∃ f : Nat, y = f ∧ P f) → ∀ t, Got (goW s may n st).1 t → P t
  | 0, st, h1, _ => h1
  | _ + 1, (ws, []), h1, _ => h1
  | n + 1, (ws, x :: q), h1, h2 => by
    obtain ⟨f, rfl, hf⟩ := h2 x (by simp)
    obtain ⟨k1, k2⟩ := led_inv (way := (wayAt ws f).getD []) (leads s.sills s.floors.length f s.sills.length) (ws, q) (hp f hf) h1 (fun y hy => h2 y (by simp [hy]))
    exact goW_inv hp n _ k1 k2
theorem ways_inv {P : Nat → Prop} {may : Nat → Nat → Bool} (hs : ∀ x ∈ leads s.sills s.floors.length (-1) s.sills.length, may x.1.1 x.1.2 = true → P x.1.2)
    (hp : ∀ f : Nat, P f → ∀ x ∈ leads s.sills s.floors.length f s.sills.length, may x.1.1 x.1.2 = true → P x.1.2) : ∀ t, Got (waysOf s may) t → P t := by
  have no : ∀ t, ¬ Got (List.replicate 8 (none : Option (List Int))) t := fun t ⟨l, hl⟩ => by
    rw [List.getElem?_replicate] at hl
    split at hl <;> cases hl
  obtain ⟨k1, k2⟩ := led_inv (way := []) (leads s.sills s.floors.length (-1) s.sills.length) (List.replicate 8 none, []) hs (fun t h => absurd h (no t)) (by simp)
  exact goW_inv hp 8 _ k1 k2

/-- a lead is an end of its sill, from the other -/
theorem lead_ends {f : Int} {x : Lead s.sills.length s.floors.length} (h : x ∈ leads s.sills s.floors.length f s.sills.length) :
    ((f, (x.1.2 : Int)) = (s.sills[x.1.1].1, s.sills[x.1.1].2.1) ∨ (f, (x.1.2 : Int)) = (s.sills[x.1.1].2.1, s.sills[x.1.1].1)) := by
  unfold leads at h
  rw [List.mem_filterMap] at h
  obtain ⟨i, hi, h⟩ := h
  unfold lead1 at h
  split at h
  · next hc =>
    simp only [Option.some.injEq] at h
    subst h
    have hil := hc.1
    have h0 := hc.2.1
    simp only [List.getElem?_eq_getElem hil, Option.getD_some] at h0 ⊢
    unfold other at h0 ⊢
    by_cases e1 : f = s.sills[i].1
    · left
      subst e1
      simp only [beq_self_eq_true, cond_true] at h0 ⊢
      rw [Int.toNat_of_nonneg h0]
    · by_cases e2 : f = s.sills[i].2.1
      · right
        have e1' : (f == s.sills[i].1) = false := beq_eq_false_iff_ne.2 e1
        have e2' : (f == s.sills[i].2.1) = true := by rw [e2]; exact beq_self_eq_true _
        simp only [e1', e2', cond_false, cond_true] at h0 ⊢
        exact Prod.ext e2 (Int.toNat_of_nonneg h0)
      · have e1' : (f == s.sills[i].1) = false := beq_eq_false_iff_ne.2 e1
        have e2' : (f == s.sills[i].2.1) = false := beq_eq_false_iff_ne.2 e2
        simp only [e1', e2', cond_false] at h0
        omega
  · cases h
theorem lead_of (ok : Ok s) {i : Nat} (hi : i < s.sills.length) {a b : Int} (hab : (a, b) = (s.sills[i].1, s.sills[i].2.1) ∨ (a, b) = (s.sills[i].2.1, s.sills[i].1)) (hb : 0 ≤ b) :
    ∃ x ∈ leads s.sills s.floors.length a s.sills.length, x.1.1 = i ∧ (x.1.2 : Int) = b := by
  obtain ⟨e1, e2, e3⟩ := EndOk.of ok (List.getElem_mem hi)
  have ho : other s.sills[i] a = b ∧ b < s.floors.length := by
    unfold other
    rcases hab with hab | hab
    · simp only [Prod.mk.injEq] at hab
      obtain ⟨rfl, rfl⟩ := hab
      simp only [beq_self_eq_true, cond_true, true_and]
      omega
    · simp only [Prod.mk.injEq] at hab
      obtain ⟨rfl, rfl⟩ := hab
      rw [beq_eq_false_iff_ne.2 (Ne.symm e3)]
      simp only [beq_self_eq_true, cond_true, cond_false, true_and]
      omega
  refine ⟨⟨(i, b.toNat), hi, by omega⟩, ?_, rfl, by simp only []; omega⟩
  unfold leads
  rw [List.mem_filterMap]
  refine ⟨i, by simpa using hi, ?_⟩
  rw [lead1_some _ _ _ _ hi (by rw [ho.1]; exact hb) (by rw [ho.1]; exact ho.2)]
  simp [ho.1]

/-- without a bank, what is reached has a crest, and what isn't has none -/
theorem low_got (ok : Ok s) (p : Nat) (hp : p < s.floors.length) : (lowR s ss ps)[p]?.getD 0 = 5000 ↔ ¬ Got (waysOf s (mayHold ss ps)) p := by
  constructor
  · intro h hg
    have hc := low_closed (ss := ss) (ps := ps) (c := 4999) ok (by decide)
    have key : ∀ t, Got (waysOf s (mayHold ss ps)) t → t < s.floors.length ∧ (lowR s ss ps)[t]?.getD 0 ≤ 4999 := by
      have one : ∀ (f : Int) (x : Lead s.sills.length s.floors.length), x ∈ leads s.sills s.floors.length f s.sills.length → mayHold ss ps x.1.1 x.1.2 = true → (f = -1 ∨ (lowR s ss ps)[f.toNat]?.getD 0 ≤ 4999) → x.1.2 < s.floors.length ∧ (lowR s ss ps)[x.1.2]?.getD 0 ≤ 4999 := by
        intro f x hx hm hf
        refine ⟨x.2.2, ?_⟩
        obtain ⟨c1, c2⟩ := hc x.1.1 x.2.1 x.2.1
        unfold mayHold at hm
        simp only [Bool.and_eq_true, decide_eq_true_eq] at hm
        have hh := ok.heights _ (List.getElem_mem x.2.1)
        have hfl : s.floors[x.1.2]?.getD 0 ≤ 999 := by
          rw [List.getElem?_eq_getElem x.2.2]
          exact (ok.floors _ (List.getElem_mem _)).2
        rcases lead_ends hx with he | he
        · simp only [Prod.mk.injEq] at he
          rw [← he.1, ← he.2] at c1
          have := c1 (by omega) hm.1 hm.2 (by omega) (by rw [Int.toNat_natCast]; omega) hf
          rwa [Int.toNat_natCast] at this
        · simp only [Prod.mk.injEq] at he
          rw [← he.1, ← he.2] at c2
          have := c2 (by omega) hm.1 hm.2 (by omega) (by rw [Int.toNat_natCast]; omega) hf
          rwa [Int.toNat_natCast] at this
      exact ways_inv (fun x hx hm => one (-1) x hx hm (.inl rfl)) (fun f hf x hx hm => one f x hx hm (.inr (by rw [Int.toNat_natCast]; exact hf.2)))
    have := (key p hg).2
    omega
  · intro hg
    obtain ⟨w1, w2, -⟩ := waysOf_shut (s := s) (may := mayHold ss ps) ok.fl1
    generalize waysOf s (mayHold ss ps) = ws at *
    have key := rounds_inv (s := s) (ss := ss) (ps := ps) (fun g => ∀ p, p < s.floors.length → ¬ Got ws p → g[p]?.getD 0 = 5000)
      (fun p hp _ => by rw [List.getElem?_replicate, if_pos hp]; rfl)
      (fun g i hi a b hl hab hI p hp hn => by
        unfold relB
        split
        · next hc =>
          have hbl : b.toNat < g.length := by
            obtain ⟨e1, e2, -⟩ := EndOk.of ok (List.getElem_mem hi)
            rcases hab with h | h <;> simp only [Prod.mk.injEq] at h <;> omega
          rw [set_get g _ _ _ hbl]
          split
          · next e =>
            obtain ⟨x, hx, hx1, hx2⟩ := lead_of ok hi hab hc.1
            have hx3 : x.1.2 = p := by omega
            have hm : mayHold ss ps x.1.1 x.1.2 = true := by
              unfold mayHold
              rw [hx1, hx2]
              simp only [Bool.and_eq_true, decide_eq_true_eq]
              exact ⟨hc.2.1, hc.2.2⟩
            have h0 := hI p hp hn
            have hpb : b.toNat = p := by omega
            rw [hpb, h0]
            have : 5000 ≤ ovr s g a b s.sills[i].2.2 := by
              have ha : a = -1 ∨ 0 ≤ a ∧ a < s.floors.length := by
                obtain ⟨e1, e2, -⟩ := EndOk.of ok (List.getElem_mem hi)
                rcases hab with h | h <;> simp only [Prod.mk.injEq] at h <;> omega
              rcases ha with rfl | ⟨a0, a1⟩
              · exact absurd (by have := w1 x hx hm; rwa [hx3] at this) hn
              · obtain ⟨an, rfl⟩ := Int.eq_ofNat_of_zero_le a0
                by_cases hga : Got ws an
                · exact absurd (by have := w2 an hga x hx hm; rwa [hx3] at this) hn
                · have := hI an (by omega) hga
                  unfold ovr
                  rw [if_pos (by omega), Int.toNat_natCast, this]
                  omega
            omega
          · exact hI p hp hn
        · exact hI p hp hn) s.floors.length
    exact key p hp hg

/-- from a higher start -/
theorem leastF_min (h a : Int) : ∀ l, leastF s (min a h) l = min a (leastF s h l)
  | [] => rfl
  | x :: l => by
    show leastF s (min (min a h) (s.floors[x.toNat]?.getD 0)) l = min a (leastF s (min h (s.floors[x.toNat]?.getD 0)) l)
    rw [← leastF_min, show min (min a h) (s.floors[x.toNat]?.getD 0) = min a (min h (s.floors[x.toNat]?.getD 0)) by omega]
theorem leastS_min (h a : Int) : ∀ l, leastS s (min a h) l = min a (leastS s h l)
  | [] => rfl
  | x :: l => by
    show leastS s (min (min a h) (s.sills[x.toNat]?.getD (0, 0, 0)).2.2) l = min a (leastS s (min h (s.sills[x.toNat]?.getD (0, 0, 0)).2.2) l)
    rw [← leastS_min, show min (min a h) (s.sills[x.toNat]?.getD (0, 0, 0)).2.2 = min a (min h (s.sills[x.toNat]?.getD (0, 0, 0)).2.2) by omega]
theorem leastF_le (h : Int) : ∀ l, leastF s h l ≤ h
  | [] => Int.le_refl _
  | x :: l => by
    show leastF s (min h (s.floors[x.toNat]?.getD 0)) l ≤ h
    have := leastF_le (min h (s.floors[x.toNat]?.getD 0)) l
    omega
theorem leastS_le (h : Int) : ∀ l, leastS s h l ≤ h
  | [] => Int.le_refl _
  | x :: l => by
    show leastS s (min h (s.sills[x.toNat]?.getD (0, 0, 0)).2.2) l ≤ h
    have := leastS_le (min h (s.sills[x.toNat]?.getD (0, 0, 0)).2.2) l
    omega
/-- what the reference's Hold reckons: never, or the least of the bank -/
theorem leastR (ok : Ok s) (hs : ss.all (isSi s) = true) (hp : ps.all (isPl s) = true) : leastF s (leastS s 5000 ss) ps = if ss = [] ∧ ps = [] then 5000 else leastF s (leastS s 999 ss) ps := by
  have e : leastF s (leastS s 999 ss) ps = min 999 (leastF s (leastS s 5000 ss) ps) := by
    rw [← leastF_min, ← leastS_min]
    rfl
  split
  · next h =>
    obtain ⟨rfl, rfl⟩ := h
    rfl
  · next h =>
    rw [e]
    have : leastF s (leastS s 5000 ss) ps ≤ 999 := by
      cases ss with
      | cons i r =>
        have hi : isSi s i = true := by simp at hs; exact hs.1
        obtain ⟨h0, h1⟩ := inB_true.1 hi
        have hl : i.toNat < s.sills.length := by omega
        have hh := ok.heights _ (List.getElem_mem hl)
        have k1 := leastF_le (s := s) (leastS s 5000 (i :: r)) ps
        have k2 : leastS s 5000 (i :: r) = leastS s (min 5000 (s.sills[i.toNat]?.getD (0, 0, 0)).2.2) r := rfl
        have k3 := leastS_le (s := s) (min 5000 (s.sills[i.toNat]?.getD (0, 0, 0)).2.2) r
        rw [List.getElem?_eq_getElem hl, Option.getD_some] at k2 k3
        omega
      | nil =>
        cases ps with
        | nil => exact absurd ⟨rfl, rfl⟩ h
        | cons p r =>
          have hi : isPl s p = true := by simp at hp; exact hp.1
          obtain ⟨h0, h1⟩ := inB_true.1 hi
          have hl : p.toNat < s.floors.length := by omega
          have hh := ok.floors _ (List.getElem_mem hl)
          have k2 : leastF s (leastS s 5000 []) (p :: r) = leastF s (min (leastS s 5000 []) (s.floors[p.toNat]?.getD 0)) r := rfl
          have k3 := leastF_le (s := s) (min (leastS s 5000 []) (s.floors[p.toNat]?.getD 0)) r
          rw [List.getElem?_eq_getElem hl, Option.getD_some] at k2 k3
          omega
    omega
end
end Go.Proofs.Ytcljkkojeleakaa
