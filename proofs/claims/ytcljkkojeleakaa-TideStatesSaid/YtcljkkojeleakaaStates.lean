/- Proved: whatever sands, minute, place and state are passed in, the law TideStates returns true, and the arguments read behind the call as they read before it. Conditions: none but those that the given row states of itself. -/
import Derived.Test.YtcljkkojeleakaaTurn
import Derived.Test.YtcljkkojeleakaaBase
import Derived.Test.YtcljkkojeleakaaChk2
import Derived.Test.YtcljkkojeleakaaCheck
import Derived.Test.YtcljkkojeleakaaOn
import Derived.Test.YtcljkkojeleakaaStep
import Derived.Test.YtcljkkojeleakaaLower
import Derived.Test.YtcljkkojeleakaaGates
import Derived.Test.YtcljkkojeleakaaBegin
import Derived.Test.YtcljkkojeleakaaOut1
import Derived.Test.YtcljkkojeleakaaAll
import Derived.Test.YtcljkkojeleakaaSpans
import Derived.Test.YtcljkkojeleakaaFits
import Derived.Test.YtcljkkojeleakaaLooks
import Derived.Test.YtcljkkojeleakaaLooks3
import Derived.Test.YtcljkkojeleakaaQue
import Derived.Test.YtcljkkojeleakaaLead
import Derived.Test.YtcljkkojeleakaaWaysF
import Derived.Test.YtcljkkojeleakaaWay
import Derived.Test.YtcljkkojeleakaaTwo
import Derived.Test.YtcljkkojeleakaaVals
import Derived.Test.YtcljkkojeleakaaEqInt
import Derived.Test.YtcljkkojeleakaaHoldTwo
import Derived.Test.YtcljkkojeleakaaHeight
import Derived.Test.YtcljkkojeleakaaChk
import Derived.Test.YtcljkkojeleakaaRef
import Derived.Test.YtcljkkojeleakaaState2
import Derived.Test.YtcljkkojeleakaaBegin2
import Derived.Test.YtcljkkojeleakaaState
import Derived.Test.YtcljkkojeleakaaOwn
import Derived.Test.YtcljkkojeleakaaSame
import Derived.Test.YtcljkkojeleakaaRefHgt
import Derived.Test.YtcljkkojeleakaaFar
import Derived.Test.YtcljkkojeleakaaTheirs
import Derived.Test.YtcljkkojeleakaaDraw
import Derived.Test.YtcljkkojeleakaaPair
import Derived.Test.YtcljkkojeleakaaStatesA
import Derived.Test.YtcljkkojeleakaaPost
import Derived.WalkKit
import Derived.Laws.EntriesVeiled
import Derived.WalkSpells
import Derived.WalkLawsBesides
import Derived.Deep.QuietTactic
import Derived.BigQuiet
import Derived.Lib.Hide
import Derived.Shelf.Abstract
import Derived.BigGuardPart
import Derived.RangeFuncNested
import Derived.RangeFuncBound
import Derived.RangeFuncCalls
import Derived.RangeFuncLeaves
import Derived.Shelf.RegionOpen
import Derived.OwnWalkIn
import Derived.TacticsInMore
import Derived.LoopNIn
import Derived.LoopIn
import Derived.StillTailTactics
import Derived.Deep.RegionHeld3
import Derived.StillTail
import Derived.RangeFuncWrites
import Derived.Laws.StructEq
import Derived.Deep.LoopGhost
import Derived.IntWalk
import Derived.RangeFuncBox
import Derived.ArgAppend
import Derived.Laws.CopyOwn
import Derived.OwnWalk
import Derived.Lib.SliceRun
import Derived.Maps.OwnOps
import Derived.Maps.OwnSet
import Derived.Deep.AppendSrc
import Derived.Deep.Upon
import Derived.Deep.Cut
import Derived.Deep.DeepCutAuto
import Derived.Carry
import Derived.ChangeSame
import Derived.SizedLaws
import Derived.ProofKit
import Derived.OpenShut
import Derived.JoinedOf
import Derived.Deep.Slices
/- tide.Spans. -/
namespace Go.Proofs.Ytcljkkojeleakaa
open Go.RowKit Go.Shelf

def errSp (s : Sd) (x q : Int) : Int := if errFor s x = 0 then (if q = 0 ∨ q = 1 ∨ q = 2 then 0 else 8) else errFor s x
def spB (s : Sd) (x q : Int) : Int → Bool := fitB s [x] (fun y => y == q)
def spV (s : Sd) (x q : Int) : List (Int × Int) := if errSp s x q = 0 then spansOf (spB s x q) (firstM s.table) (dayN s) else []
theorem spans1_c (B : Nat) (q x : Int) (w : World) (h : w.cell? ⟨B, 0, none⟩ = some (.int .i64 q)) : Calls Try.prog 111 #[.int .i64 x, .pointer (some ⟨B, 0, none⟩)] w fun e w' => e = .returned (.bool (x == q)) ∧ w = w' := by
  go_enter Try.func111, Try.ntmps111
  go_wp2_with fail
  go_ret
  exact ⟨rfl, rfl⟩
theorem en_spans1 : Enters Try.prog 111 := enters_of Try.func111 (by kernel_rfl) rfl

section
variable {pT pF pS : Option Addr} {cT cF cS : Nat}
set_option maxRecDepth 100000 in
set_option maxHeartbeats 2000000 in
theorem Spans_c (s : Sd) (x q : Int) (w : World) (hl : Lists w s pT pF pS cT cF cS) :
    Calls Try.prog 43 #[sdVal s pT pF pS cT cF cS, .int .i64 x, .int .i64 q] w fun e w' => ∃ p c, e = .returned (.tuple #[.slice p (spV s x q).length c, .int .i64 (errSp s x q)]) ∧ (spV s x q).length ≤ c ∧ c ≤ maxLen ∧ Row w' p 2 (pairs (spV s x q)) ∧ Up w w' := by
  have HC := Lib.hid (fun W (u : Up w W) => beginFor_c s x W (hl.up u))
  clear hl
  by_cases hE : errFor s x = 0
  · have hc : chk s = 0 := by
      unfold errFor at hE
      by_cases hc : chk s = 0
      · exact hc
      · rw [if_neg hc] at hE; exact absurd hE hc
    have hok := chk_ok hc
    obtain ⟨hx0, hx8⟩ := errFor_zero hE
    have HK := Lib.hid hok
    have HX : Hid (errSp s x q = if q = 0 ∨ q = 1 ∨ q = 2 then 0 else 8) := by show _ = _; unfold errSp; rw [if_pos hE]
    rw [hE] at HC
    clear hok hc hE
    unfold sdVal at *
    go_enter Try.func43, Try.ntmps43
    go_wp2_with fail
    refine (HC.out _ (by (repeat (first | exact Below.refl _ _ | (with_reducible refine Below.drewN' ?_ _) | (with_reducible refine Below.drew ?_) | (with_reducible refine Below.setCell ?_ (by first | exact Nat.le_refl _ | omega | (with_reducible (repeat (first | refine sz_alloc ?_ | refine sz_setCell ?_ | refine sz_drew ?_ | refine sz_drewN ?_)); first | exact Nat.le_refl _ | omega) | (simp only [World.size_alloc, World.size_setCell, World.size_drew, size_drewN']; omega)) _) | (with_reducible refine Below.alloc ?_ (by first | exact Nat.le_refl _ | omega | (with_reducible (repeat (first | refine sz_alloc ?_ | refine sz_setCell ?_ | refine sz_drew ?_ | refine sz_drewN ?_)); first | exact Nat.le_refl _ | omega) | (simp only [World.size_alloc, World.size_setCell, World.size_drew, size_drewN']; omega)) _) | assumption)))).mono ?_
    rintro e w1 ⟨p, rfl, u1, hok⟩
    obtain ⟨bw, rfl, hW⟩ := hok rfl
    have hQ : Blk w1 (w.heap.size + 1) [.int .i64 q] 60 := (Blk.new' (w.alloc (.cells (sdCells s pT pF pS cT cF cS).toArray 28)) [.int .i64 q] _ (by simp)).up u1
    have U1 := Lib.hid (Up.trans (show Up w ((w.alloc (.cells (sdCells s pT pF pS cT cF cS).toArray 28)).alloc (.cells #[.int .i64 q] 60)) by (repeat (first | exact Below.refl _ _ | (with_reducible refine Below.drewN' ?_ _) | (with_reducible refine Below.drew ?_) | (with_reducible refine Below.setCell ?_ (by first | exact Nat.le_refl _ | omega | (with_reducible (repeat (first | refine sz_alloc ?_ | refine sz_setCell ?_ | refine sz_drew ?_ | refine sz_drewN ?_)); first | exact Nat.le_refl _ | omega) | (simp only [World.size_alloc, World.size_setCell, World.size_drew, size_drewN']; omega)) _) | (with_reducible refine Below.alloc ?_ (by first | exact Nat.le_refl _ | omega | (with_reducible (repeat (first | refine sz_alloc ?_ | refine sz_setCell ?_ | refine sz_drew ?_ | refine sz_drewN ?_)); first | exact Nat.le_refl _ | omega) | (simp only [World.size_alloc, World.size_setCell, World.size_drew, size_drewN']; omega)) _) | assumption))) u1)
    have HW := Lib.hid hW
    have HQ := Lib.hid hQ
    have q0 := hQ.cell 0
    simp only [List.getElem?_cons_zero] at q0
    clear hok hW u1 HC hQ
    by_cases hq : q = 0 ∨ q = 1 ∨ q = 2
    · have hx : Hid (errSp s x q = 0) := by show _ = _; rw [HX.out, if_pos hq]
      have hv : Hid (spV s x q = spansOf (spB s x q) (firstM s.table) (dayN s)) := by show _ = _; unfold spV; rw [if_pos hx.out]
      clear HX
      rcases hq with rfl | rfl | rfl
      all_goals
        go_wp2_with fail
        refine Calls.world ?_
        intro w3 hw3
        have u3 : Up w1 w3 := by rw [hw3]; (repeat (first | exact Below.refl _ _ | (with_reducible refine Below.drewN' ?_ _) | (with_reducible refine Below.drew ?_) | (with_reducible refine Below.setCell ?_ (by first | exact Nat.le_refl _ | omega | (with_reducible (repeat (first | refine sz_alloc ?_ | refine sz_setCell ?_ | refine sz_drew ?_ | refine sz_drewN ?_)); first | exact Nat.le_refl _ | omega) | (simp only [World.size_alloc, World.size_setCell, World.size_drew, size_drewN']; omega)) _) | (with_reducible refine Below.alloc ?_ (by first | exact Nat.le_refl _ | omega | (with_reducible (repeat (first | refine sz_alloc ?_ | refine sz_setCell ?_ | refine sz_drew ?_ | refine sz_drewN ?_)); first | exact Nat.le_refl _ | omega) | (simp only [World.size_alloc, World.size_setCell, World.size_drew, size_drewN']; omega)) _) | assumption))
        have hr : Row w3 (some ⟨w1.heap.size, 0, none⟩) 1 (ints [x]) := by rw [hw3]; exact (Row.lit w1 [x] _).up (by (repeat (first | exact Below.refl _ _ | (with_reducible refine Below.drewN' ?_ _) | (with_reducible refine Below.drew ?_) | (with_reducible refine Below.setCell ?_ (by first | exact Nat.le_refl _ | omega | (with_reducible (repeat (first | refine sz_alloc ?_ | refine sz_setCell ?_ | refine sz_drew ?_ | refine sz_drewN ?_)); first | exact Nat.le_refl _ | omega) | (simp only [World.size_alloc, World.size_setCell, World.size_drew, size_drewN']; omega)) _) | (with_reducible refine Below.alloc ?_ (by first | exact Nat.le_refl _ | omega | (with_reducible (repeat (first | refine sz_alloc ?_ | refine sz_setCell ?_ | refine sz_drew ?_ | refine sz_drewN ?_)); first | exact Nat.le_refl _ | omega) | (simp only [World.size_alloc, World.size_setCell, World.size_drew, size_drewN']; omega)) _) | assumption)))
        have q3 := (HQ.out.up u3).cell 0
        simp only [List.getElem?_cons_zero] at q3
        clear hw3
        refine (spans_c bw 111 #[] #[.pointer (some ⟨w.heap.size + 1, 0, none⟩)] (fun y => y == _) s [x] (some ⟨w1.heap.size, 0, none⟩) 1 w3 (HW.out.up u3) HK.out hr (fun p hp => by rw [List.mem_singleton.1 hp]; exact ⟨hx0, hx8⟩) (by simp [maxLen]) en_spans1 (fun y W uW => (spans1_c (w.heap.size + 1) _ y W (uW.cellAt q3)).mono fun _ _ ⟨h, k⟩ => ⟨h, k ▸ Below.refl _ _⟩)).mono ?_
        rintro e w4 ⟨p, c', rfl, q1, q2, q3', u4⟩
        have Q := Lib.hid q3'
        have U4 := Lib.hid (Up.trans U1.out (Up.trans u3 u4))
        clear q3' u3 u4 hr q3
        go_wp2_with fail
        go_ret2
        rw [hx.out, hv.out]
        exact ⟨p, c', rfl, q1, q2, Q.out, U4.out⟩
    · have hx : Hid (errSp s x q = 8) := by show _ = _; rw [HX.out, if_neg hq]
      have hv : Hid (spV s x q = []) := by show _ = _; unfold spV; rw [if_neg (by rw [hx.out]; decide)]
      have n0 : (q != 0) = true := bne_iff_ne.2 (fun e => hq (.inl e))
      have n1 : (q != 1) = true := bne_iff_ne.2 (fun e => hq (.inr (.inl e)))
      have n2 : (q != 2) = true := bne_iff_ne.2 (fun e => hq (.inr (.inr e)))
      clear hq HX
      go_wp2_with fail
      go_ret2
      rw [hx.out, hv.out]
      exact ⟨none, 0, rfl, by simp, by simp, Row.nil _ _ _, U1.out⟩
  · have hne : (errFor s x != 0) = true := by rw [bne_iff_ne]; exact hE
    have HX : Hid (errSp s x q = errFor s x) := by show _ = _; unfold errSp; rw [if_neg hE]
    have HV : Hid (spV s x q = []) := by show _ = _; unfold spV; rw [HX.out, if_neg hE]
    rw [HX.out, HV.out]
    have HE := Lib.hid hE
    clear hE
    unfold sdVal at *
    go_enter Try.func43, Try.ntmps43
    go_wp2_with fail
    refine (HC.out _ (by (repeat (first | exact Below.refl _ _ | (with_reducible refine Below.drewN' ?_ _) | (with_reducible refine Below.drew ?_) | (with_reducible refine Below.setCell ?_ (by first | exact Nat.le_refl _ | omega | (with_reducible (repeat (first | refine sz_alloc ?_ | refine sz_setCell ?_ | refine sz_drew ?_ | refine sz_drewN ?_)); first | exact Nat.le_refl _ | omega) | (simp only [World.size_alloc, World.size_setCell, World.size_drew, size_drewN']; omega)) _) | (with_reducible refine Below.alloc ?_ (by first | exact Nat.le_refl _ | omega | (with_reducible (repeat (first | refine sz_alloc ?_ | refine sz_setCell ?_ | refine sz_drew ?_ | refine sz_drewN ?_)); first | exact Nat.le_refl _ | omega) | (simp only [World.size_alloc, World.size_setCell, World.size_drew, size_drewN']; omega)) _) | assumption)))).mono ?_
    rintro e w1 ⟨p, rfl, u1, -⟩
    have U1 := Lib.hid (Up.trans (show Up w ((w.alloc (.cells (sdCells s pT pF pS cT cF cS).toArray 28)).alloc (.cells #[.int .i64 q] 60)) by (repeat (first | exact Below.refl _ _ | (with_reducible refine Below.drewN' ?_ _) | (with_reducible refine Below.drew ?_) | (with_reducible refine Below.setCell ?_ (by first | exact Nat.le_refl _ | omega | (with_reducible (repeat (first | refine sz_alloc ?_ | refine sz_setCell ?_ | refine sz_drew ?_ | refine sz_drewN ?_)); first | exact Nat.le_refl _ | omega) | (simp only [World.size_alloc, World.size_setCell, World.size_drew, size_drewN']; omega)) _) | (with_reducible refine Below.alloc ?_ (by first | exact Nat.le_refl _ | omega | (with_reducible (repeat (first | refine sz_alloc ?_ | refine sz_setCell ?_ | refine sz_drew ?_ | refine sz_drewN ?_)); first | exact Nat.le_refl _ | omega) | (simp only [World.size_alloc, World.size_setCell, World.size_drew, size_drewN']; omega)) _) | assumption))) u1)
    clear u1 HC
    go_wp2_with fail
    go_ret2
    exact ⟨none, 0, rfl, by simp, by simp, Row.nil _ _ _, U1.out⟩
end
end Go.Proofs.Ytcljkkojeleakaa
namespace Go.Proofs.Ytcljkkojeleakaa
open Go.RowKit Go.Shelf

section
variable {pT pF pS : Option Addr} {cT cF cS : Nat}
theorem h91 (w : World) (hl : Lists w two pT pF pS cT cF cS) : Calls Try.prog 25 #[sdVal two pT pF pS cT cF cS, .int .i64 91] w fun e w' => e = .returned (.tuple #[.int .i64 175, .int .i64 0]) ∧ Up w w' := by
  have h := Height_c two 91 w hl
  rwa [v_h1.1, v_h1.2] at h
theorem h400 (w : World) (hl : Lists w two pT pF pS cT cF cS) : Calls Try.prog 25 #[sdVal two pT pF pS cT cF cS, .int .i64 400] w fun e w' => e = .returned (.tuple #[.int .i64 370, .int .i64 0]) ∧ Up w w' := by
  have h := Height_c two 400 w hl
  rwa [v_h2.1, v_h2.2] at h
theorem g1 (w : World) (hl : Lists w two pT pF pS cT cF cS) : Calls Try.prog 30 #[sdVal two pT pF pS cT cF cS, .int .i64 1] w fun e w' => e = .returned (.tuple #[.int .i64 220, .int .i64 0]) ∧ Up w w' := by
  have h := Gate_c two 1 w hl
  rwa [v_g.1, v_g.2] at h
theorem t00 (w : World) (hl : Lists w two pT pF pS cT cF cS) : Calls Try.prog 63 #[sdVal two pT pF pS cT cF cS, .int .i64 0, .int .i64 0] w fun e w' => e = .returned (.tuple #[.int .i64 97, .int .i64 0]) ∧ Up w w' := by
  have h := Turn_c two 0 0 w hl
  rwa [v_t.1, v_t.2] at h
theorem w1' (w : World) (hl : Lists w two pT pF pS cT cF cS) : Calls Try.prog 31 #[sdVal two pT pF pS cT cF cS, .int .i64 1] w fun e w' => ∃ p, e = .returned (.tuple #[.slice p 2 2, .int .i64 0]) ∧ Row w' p 1 (ints [0, 1]) ∧ Up w w' := by
  have h := Way_c two 1 w hl
  rw [v_w, v_g.2] at h
  exact h.mono fun e w' ⟨p, h1, h2, _, h3⟩ => ⟨p, h1, h2, h3⟩
theorem a150 (w : World) (hl : Lists w two pT pF pS cT cF cS) : Calls Try.prog 42 #[sdVal two pT pF pS cT cF cS, .int .i64 150] w fun e w' => ∃ p c, e = .returned (.tuple #[.slice p 2 c, .int .i64 0]) ∧ Row w' p 1 (ints [2, 1]) ∧ Up w w' := by
  have h := All_c two 150 w hl
  rw [v_a.1, v_a.2] at h
  exact h.mono fun e w' ⟨p, c, h1, _, _, h2, h3⟩ => ⟨p, c, h1, h2, h3⟩
theorem l1 (p : Option Addr) (c : Nat) (w : World) (hl : Lists w two pT pF pS cT cF cS) (hr : Row w p 3 (lrows [(120, 0, true)])) : Calls Try.prog 54 #[sdVal two pT pF pS cT cF cS, .slice p 1 c] w fun e w' => e = .returned (.tuple #[.agg #[.int .i64 1, .int .i64 20], .int .i64 0]) ∧ Up w w' := by
  have h := Looks_c two [(120, 0, true)] p c w hl hr (by decide)
  rwa [v_l.1, v_l.2] at h
end

set_option maxRecDepth 100000 in
set_option maxHeartbeats 4000000 in
theorem awake_c (w : World) : Calls Try.prog 20 #[] w fun e w' => e = .returned (.bool true) ∧ Up w w' := by
  go_enter Try.func20, Try.ntmps20
  go_wp2_with fail
  refine (two_c _).mono ?_
  rintro e w1 ⟨b1, rfl, k1, u1⟩
  go_wp2_with fail
  refine (h91 _ k1).mono ?_
  rintro e w2 ⟨rfl, u2⟩
  go_wp2_with fail
  refine (two_c _).mono ?_
  rintro e w3 ⟨b3, rfl, k3, u3⟩
  go_wp2_with fail
  refine (h400 _ k3).mono ?_
  rintro e w4 ⟨rfl, u4⟩
  have U4 := Lib.hid (Up.trans u1 (Up.trans u2 (Up.trans u3 u4)))
  clear u1 u2 u3 u4 k1 k3
  go_wp2_with fail
  refine (two_c _).mono ?_
  rintro e w5 ⟨b5, rfl, k5, u5⟩
  go_wp2_with fail
  refine (g1 _ k5).mono ?_
  rintro e w6 ⟨rfl, u6⟩
  go_wp2_with fail
  refine (two_c _).mono ?_
  rintro e w7 ⟨b7, rfl, k7, u7⟩
  go_wp2_with fail
  refine (t00 _ k7).mono ?_
  rintro e w8 ⟨rfl, u8⟩
  have U8 := Lib.hid (Up.trans U4.out (Up.trans u5 (Up.trans u6 (Up.trans u7 u8))))
  clear u5 u6 u7 u8 k5 k7 U4
  go_wp2_with fail
  refine (two_c _).mono ?_
  rintro e w9 ⟨b9, rfl, k9, u9⟩
  go_wp2_with fail
  refine (w1' _ k9).mono ?_
  rintro e w10 ⟨p10, rfl, r10, u10⟩
  have U10 := Lib.hid (Up.trans U8.out (Up.trans u9 u10))
  have R10 := Lib.hid r10
  clear u9 u10 k9 U8 r10
  go_wp2_with fail
  refine (two_c _).mono ?_
  rintro e w11 ⟨b11, rfl, k11, u11⟩
  have R11 := Lib.hid (R10.out.up u11)
  have U11 := Lib.hid (Up.trans U10.out u11)
  have K11 := Lib.hid k11
  clear u11 k11 R10 U10
  go_wp2_with fail
  refine Calls.world ?_
  intro w12 hw12
  have u12 : Up w11 w12 := by rw [hw12]; (repeat (first | exact Below.refl _ _ | (with_reducible refine Below.drewN' ?_ _) | (with_reducible refine Below.drew ?_) | (with_reducible refine Below.setCell ?_ (by first | exact Nat.le_refl _ | omega | (with_reducible (repeat (first | refine sz_alloc ?_ | refine sz_setCell ?_ | refine sz_drew ?_ | refine sz_drewN ?_)); first | exact Nat.le_refl _ | omega) | (simp only [World.size_alloc, World.size_setCell, World.size_drew, size_drewN']; omega)) _) | (with_reducible refine Below.alloc ?_ (by first | exact Nat.le_refl _ | omega | (with_reducible (repeat (first | refine sz_alloc ?_ | refine sz_setCell ?_ | refine sz_drew ?_ | refine sz_drewN ?_)); first | exact Nat.le_refl _ | omega) | (simp only [World.size_alloc, World.size_setCell, World.size_drew, size_drewN']; omega)) _) | assumption))
  have r12 : Row w12 (some ⟨w11.heap.size, 0, none⟩) 1 (ints [1]) := by rw [hw12]; exact Row.lit w11 [1] _
  clear hw12
  refine (hold_two _ _ _ _ _ _ _ _ w12 (K11.out.up u12) r12).mono ?_
  rintro e w13 ⟨rfl, u13⟩
  have R13 := Lib.hid ((R11.out.up u12).up u13)
  have U13 := Lib.hid (Up.trans U11.out (Up.trans u12 u13))
  clear u12 u13 r12 K11 R11 U11
  go_wp2_with fail
  refine (two_c _).mono ?_
  rintro e w14 ⟨b14, rfl, k14, u14⟩
  go_wp2_with fail
  refine (a150 _ k14).mono ?_
  rintro e w15 ⟨p15, c15, rfl, r15, u15⟩
  have R15 := Lib.hid ((R13.out.up u14).up u15)
  have S15 := Lib.hid r15
  have U15 := Lib.hid (Up.trans U13.out (Up.trans u14 u15))
  clear u14 u15 r15 k14 R13 U13
  go_wp2_with fail
  refine (two_c _).mono ?_
  rintro e w16 ⟨b16, rfl, k16, u16⟩
  have R16 := Lib.hid (R15.out.up u16)
  have S16 := Lib.hid (S15.out.up u16)
  have U16 := Lib.hid (Up.trans U15.out u16)
  have K16 := Lib.hid k16
  clear u16 k16 R15 S15 U15
  go_wp2_with fail
  refine Calls.world ?_
  intro w17 hw17
  have u17 : Up w16 w17 := by rw [hw17]; (repeat (first | exact Below.refl _ _ | (with_reducible refine Below.drewN' ?_ _) | (with_reducible refine Below.drew ?_) | (with_reducible refine Below.setCell ?_ (by first | exact Nat.le_refl _ | omega | (with_reducible (repeat (first | refine sz_alloc ?_ | refine sz_setCell ?_ | refine sz_drew ?_ | refine sz_drewN ?_)); first | exact Nat.le_refl _ | omega) | (simp only [World.size_alloc, World.size_setCell, World.size_drew, size_drewN']; omega)) _) | (with_reducible refine Below.alloc ?_ (by first | exact Nat.le_refl _ | omega | (with_reducible (repeat (first | refine sz_alloc ?_ | refine sz_setCell ?_ | refine sz_drew ?_ | refine sz_drewN ?_)); first | exact Nat.le_refl _ | omega) | (simp only [World.size_alloc, World.size_setCell, World.size_drew, size_drewN']; omega)) _) | assumption))
  have r17 : Row w17 (some ⟨w16.heap.size, 0, none⟩) 3 (lrows [(120, 0, true)]) := by rw [hw17]; exact Row.of_flat rfl (Blk.new w16 (lrows [(120, 0, true)]).flatten _)
  clear hw17
  refine (l1 _ _ w17 (K16.out.up u17) r17).mono ?_
  rintro e w18 ⟨rfl, u18⟩
  have R18 := Lib.hid ((R16.out.up u17).up u18)
  have S18 := Lib.hid ((S16.out.up u17).up u18)
  have U18 := Lib.hid (Up.trans U16.out (Up.trans u17 u18))
  clear u17 u18 r17 K16 R16 S16 U16
  go_wp2_with fail
  refine Calls.world ?_
  intro w19 hw19
  have u19 : Up w18 w19 := by rw [hw19]; (repeat (first | exact Below.refl _ _ | (with_reducible refine Below.drewN' ?_ _) | (with_reducible refine Below.drew ?_) | (with_reducible refine Below.setCell ?_ (by first | exact Nat.le_refl _ | omega | (with_reducible (repeat (first | refine sz_alloc ?_ | refine sz_setCell ?_ | refine sz_drew ?_ | refine sz_drewN ?_)); first | exact Nat.le_refl _ | omega) | (simp only [World.size_alloc, World.size_setCell, World.size_drew, size_drewN']; omega)) _) | (with_reducible refine Below.alloc ?_ (by first | exact Nat.le_refl _ | omega | (with_reducible (repeat (first | refine sz_alloc ?_ | refine sz_setCell ?_ | refine sz_drew ?_ | refine sz_drewN ?_)); first | exact Nat.le_refl _ | omega) | (simp only [World.size_alloc, World.size_setCell, World.size_drew, size_drewN']; omega)) _) | assumption))
  have hz : Blk w19 w18.heap.size [.int .i64 1, .int .i64 20] 24 := by rw [hw19]; exact (Blk.new w18 _ _).alloc _
  have r19 : Row w19 (some ⟨w18.heap.size + 1, 0, none⟩) 1 (ints [0, 1]) := by rw [hw19]; exact Row.of_flat rfl (Blk.new' (w18.alloc _) (ints [0, 1]).flatten _ (by simp))
  clear hw19
  refine (eqInt_c [0, 1] [0, 1] _ _ _ _ w19 (R18.out.up u19) r19 (by decide) (by decide)).mono ?_
  rintro e w20 ⟨rfl, u20⟩
  have S20 := Lib.hid ((S18.out.up u19).up u20)
  have U20 := Lib.hid (Up.trans U18.out (Up.trans u19 u20))
  have Z20 := Lib.hid (hz.up u20)
  clear u19 u20 hz r19 R18 S18 U18
  rw [show decide (([0, 1] : List Int) = [0, 1]) = true by decide]
  go_wp2_with fail
  refine Calls.world ?_
  intro w21 hw21
  have u21 : Up w20 w21 := by rw [hw21]; (repeat (first | exact Below.refl _ _ | (with_reducible refine Below.drewN' ?_ _) | (with_reducible refine Below.drew ?_) | (with_reducible refine Below.setCell ?_ (by first | exact Nat.le_refl _ | omega | (with_reducible (repeat (first | refine sz_alloc ?_ | refine sz_setCell ?_ | refine sz_drew ?_ | refine sz_drewN ?_)); first | exact Nat.le_refl _ | omega) | (simp only [World.size_alloc, World.size_setCell, World.size_drew, size_drewN']; omega)) _) | (with_reducible refine Below.alloc ?_ (by first | exact Nat.le_refl _ | omega | (with_reducible (repeat (first | refine sz_alloc ?_ | refine sz_setCell ?_ | refine sz_drew ?_ | refine sz_drewN ?_)); first | exact Nat.le_refl _ | omega) | (simp only [World.size_alloc, World.size_setCell, World.size_drew, size_drewN']; omega)) _) | assumption))
  have r21 : Row w21 (some ⟨w20.heap.size, 0, none⟩) 1 (ints [2, 1]) := by rw [hw21]; exact Row.of_flat rfl (Blk.new w20 (ints [2, 1]).flatten _)
  clear hw21
  refine (eqState_c [2, 1] [2, 1] _ _ _ _ w21 (S20.out.up u21) r21 (by decide) (by decide)).mono ?_
  rintro e w22 ⟨rfl, u22⟩
  have U22 := Lib.hid (Up.trans U20.out (Up.trans u21 u22))
  have z22 := (Z20.out.up u21).up u22
  have q0 := z22.cell 0
  have q1 := z22.cell 1
  simp only [List.getElem?_cons_zero, List.getElem?_cons_succ] at q0 q1
  clear u21 u22 r21 S20 U20 Z20 z22
  rw [show decide (([2, 1] : List Int) = [2, 1]) = true by decide]
  go_wp2_with fail
  go_ret
  exact ⟨rfl, U22.out⟩
end Go.Proofs.Ytcljkkojeleakaa
namespace Go.Proofs.Ytcljkkojeleakaa
open Go.RowKit Go.Shelf

theorem thing_eq (x : Int) (n : Nat) (hn : 1 ≤ n) : inB x (-1) ((n : Int) - 1) = (x == -1 || inB x 0 ((n : Int) - 1)) := by
  rw [Bool.eq_iff_iff, Bool.or_eq_true, inB_true, inB_true, beq_iff_eq]; omega
theorem all_take_succ' {α : Type} {l : List α} {f : α → Bool} {k : Nat} (h : k < l.length) (h1 : (l.take k).all f = true) (h2 : f l[k] = true) : (l.take (k + 1)).all f = true := by
  rw [List.take_add_one, List.getElem?_eq_getElem h, List.all_append, h1]; simp [h2]
theorem all_false_at {α : Type} {l : List α} {f : α → Bool} {k : Nat} (h : k < l.length) (h2 : f l[k] = false) : l.all f = false := by
  rw [List.all_eq_false]; exact ⟨l[k], List.getElem_mem h, by simp [h2]⟩

section
variable {pT pF pS : Option Addr} {cT cF cS : Nat}
set_option maxRecDepth 100000 in
set_option maxHeartbeats 8000000 in
theorem refCheck_c (s : Sd) (w : World) (hl : Lists w s pT pF pS cT cF cS) : Calls Try.prog 22 #[sdVal s pT pF pS cT cF cS] w fun e w' => e = .returned (.int .i64 (chk s)) ∧ Up w w' := by
  have HL := Lib.hid hl
  have m1 : (s.table.length : Int) ≤ 9223372036854775807 := by have := Nat.le_trans hl.ct hl.mt; simp only [maxLen] at this; omega
  have m2 : (s.floors.length : Int) ≤ 9223372036854775807 := by have := Nat.le_trans hl.cf hl.mf; simp only [maxLen] at this; omega
  have m3 : (s.sills.length : Int) ≤ 9223372036854775807 := by have := Nat.le_trans hl.cs hl.ms; simp only [maxLen] at this; omega
  clear hl
  unfold sdVal
  go_enter Try.func22, Try.ntmps22
  by_cases hco : okCounts s = false
  · have HX := Lib.hid (show chk s = 2 by unfold chk; rw [if_pos hco])
    unfold okCounts at hco
    cases hA : inB s.table.length 2 12
    · clear hco
      go_wp2_with (go_at_call 84; refine (off_c _ _ _ _).mono ?_; rintro e w' ⟨rfl, rfl⟩)
      go_ret
      exact ⟨by rw [HX.out]; rfl, by (repeat (first | exact Below.refl _ _ | (with_reducible refine Below.drewN' ?_ _) | (with_reducible refine Below.drew ?_) | (with_reducible refine Below.setCell ?_ (by first | exact Nat.le_refl _ | omega | (with_reducible (repeat (first | refine sz_alloc ?_ | refine sz_setCell ?_ | refine sz_drew ?_ | refine sz_drewN ?_)); first | exact Nat.le_refl _ | omega) | (simp only [World.size_alloc, World.size_setCell, World.size_drew, size_drewN']; omega)) _) | (with_reducible refine Below.alloc ?_ (by first | exact Nat.le_refl _ | omega | (with_reducible (repeat (first | refine sz_alloc ?_ | refine sz_setCell ?_ | refine sz_drew ?_ | refine sz_drewN ?_)); first | exact Nat.le_refl _ | omega) | (simp only [World.size_alloc, World.size_setCell, World.size_drew, size_drewN']; omega)) _) | assumption))⟩
    · cases hB : inB s.floors.length 1 8
      · clear hco
        go_wp2_with (go_at_call 84; refine (off_c _ _ _ _).mono ?_; rintro e w' ⟨rfl, rfl⟩)
        go_ret
        exact ⟨by rw [HX.out]; rfl, by (repeat (first | exact Below.refl _ _ | (with_reducible refine Below.drewN' ?_ _) | (with_reducible refine Below.drew ?_) | (with_reducible refine Below.setCell ?_ (by first | exact Nat.le_refl _ | omega | (with_reducible (repeat (first | refine sz_alloc ?_ | refine sz_setCell ?_ | refine sz_drew ?_ | refine sz_drewN ?_)); first | exact Nat.le_refl _ | omega) | (simp only [World.size_alloc, World.size_setCell, World.size_drew, size_drewN']; omega)) _) | (with_reducible refine Below.alloc ?_ (by first | exact Nat.le_refl _ | omega | (with_reducible (repeat (first | refine sz_alloc ?_ | refine sz_setCell ?_ | refine sz_drew ?_ | refine sz_drewN ?_)); first | exact Nat.le_refl _ | omega) | (simp only [World.size_alloc, World.size_setCell, World.size_drew, size_drewN']; omega)) _) | assumption))⟩
      · have hC : (16 : Int) < s.sills.length := by
          rw [hA, hB] at hco
          simp only [Bool.true_and, decide_eq_false_iff_not] at hco
          omega
        clear hco
        go_wp2_with (go_at_call 84; refine (off_c _ _ _ _).mono ?_; rintro e w' ⟨rfl, rfl⟩)
        go_ret
        exact ⟨by rw [HX.out]; rfl, by (repeat (first | exact Below.refl _ _ | (with_reducible refine Below.drewN' ?_ _) | (with_reducible refine Below.drew ?_) | (with_reducible refine Below.setCell ?_ (by first | exact Nat.le_refl _ | omega | (with_reducible (repeat (first | refine sz_alloc ?_ | refine sz_setCell ?_ | refine sz_drew ?_ | refine sz_drewN ?_)); first | exact Nat.le_refl _ | omega) | (simp only [World.size_alloc, World.size_setCell, World.size_drew, size_drewN']; omega)) _) | (with_reducible refine Below.alloc ?_ (by first | exact Nat.le_refl _ | omega | (with_reducible (repeat (first | refine sz_alloc ?_ | refine sz_setCell ?_ | refine sz_drew ?_ | refine sz_drewN ?_)); first | exact Nat.le_refl _ | omega) | (simp only [World.size_alloc, World.size_setCell, World.size_drew, size_drewN']; omega)) _) | assumption))⟩
  · have hco' : okCounts s = true := by simpa using hco
    unfold okCounts at hco'
    simp only [Bool.and_eq_true, decide_eq_true_eq] at hco'
    obtain ⟨⟨hA, hB⟩, hC⟩ := hco'
    have HX := Lib.hid (show chk s = if okNumbers s = false then 3 else if okOrder s = false then 4 else if s.sills.all (okThings s.floors.length) = false then 1 else if s.sills.all (fun x => x.1 != x.2.1) = false then 8 else 0 by unfold chk; rw [if_neg hco])
    have bA := inB_true.1 hA
    have bB := inB_true.1 hB
    clear hco m1 m2 m3
    have hC' : ¬ (16 : Int) < s.sills.length := by omega
    go_wp2_with (go_at_call 84; refine (off_c _ _ _ _).mono ?_; rintro e w' ⟨rfl, rfl⟩)
    clear hA hB hC'
    refine Code.wp_world ?_
    intro w1 hw1
    have u1 : Up w w1 := by rw [hw1]; (repeat (first | exact Below.refl _ _ | (with_reducible refine Below.drewN' ?_ _) | (with_reducible refine Below.drew ?_) | (with_reducible refine Below.setCell ?_ (by first | exact Nat.le_refl _ | omega | (with_reducible (repeat (first | refine sz_alloc ?_ | refine sz_setCell ?_ | refine sz_drew ?_ | refine sz_drewN ?_)); first | exact Nat.le_refl _ | omega) | (simp only [World.size_alloc, World.size_setCell, World.size_drew, size_drewN']; omega)) _) | (with_reducible refine Below.alloc ?_ (by first | exact Nat.le_refl _ | omega | (with_reducible (repeat (first | refine sz_alloc ?_ | refine sz_setCell ?_ | refine sz_drew ?_ | refine sz_drewN ?_)); first | exact Nat.le_refl _ | omega) | (simp only [World.size_alloc, World.size_setCell, World.size_drew, size_drewN']; omega)) _) | assumption))
    have hBk : Blk w1 w.heap.size (sdCells s pT pF pS cT cF cS) 37 := by rw [hw1]; exact Blk.new w _ _
    have HL1 := Lib.hid (HL.out.up u1)
    have HU1 := Lib.hid u1
    have c0 := hBk.cell 0
    have c1 := hBk.cell 1
    have c2 := hBk.cell 2
    have c3 := hBk.cell 3
    have c4 := hBk.cell 4
    simp only [sdCells, List.getElem?_cons_zero, List.getElem?_cons_succ] at c0 c1 c2 c3 c4
    clear hw1 u1 hBk HL
    go_loopw [4] (fun i wr => ∃ k : Nat, k ≤ s.table.length ∧ i = .int .i64 k ∧ (s.table.take k).all okWater = true ∧ wr = w1) (fun i _ => s.table.length - (intOf i).toNat)
    case atStart => exact ⟨0, Nat.zero_le _, rfl, rfl, rfl⟩
    case round =>
      obtain ⟨k, hk, rfl, ht, rfl⟩ := hrel
      have HT := Lib.hid ht
      clear ht
      by_cases hlt : k < s.table.length
      · obtain ⟨b, off, rfl, d0, d1⟩ := HL1.out.rt.pair k hlt
        have b1 : (k : Int) < (s.table.length : Int) := by omega
        have b2 : (0 : Int) ≤ k := by omega
        have sk : IntKind.i64.wrap ((k : Int) + 1) = (k : Int) + 1 := IntWalk.i64_in _ (by omega)
        have HN := Lib.hid (all_take_succ' (f := okWater) hlt HT.out)
        have HF := Lib.hid (fun h : okWater s.table[k] = false => show okNumbers s = false by unfold okNumbers; rw [all_false_at hlt h]; rfl)
        generalize s.table[k] = x at *
        obtain ⟨xa, xb⟩ := x
        dsimp only at d0 d1
        cases h1 : inB xa 0 1440
        · have HR := Lib.hid (show chk s = 3 by rw [HX.out, if_pos (HF.out (by unfold okWater; rw [h1]; rfl))])
          go_wp2_with (go_at_call 84; refine (off_c _ _ _ _).mono ?_; rintro e w' ⟨rfl, rfl⟩)
          go_ret
          exact ⟨by rw [HR.out]; rfl, HU1.out⟩
        · cases h2 : inB xb 0 999
          · have HR := Lib.hid (show chk s = 3 by rw [HX.out, if_pos (HF.out (by unfold okWater; rw [h1, h2]; rfl))])
            go_wp2_with (go_at_call 84; refine (off_c _ _ _ _).mono ?_; rintro e w' ⟨rfl, rfl⟩)
            go_ret
            exact ⟨by rw [HR.out]; rfl, HU1.out⟩
          · have HR := Lib.hid (HN.out (by unfold okWater; rw [h1, h2]; rfl))
            go_wp2_with (go_at_call 84; refine (off_c _ _ _ _).mono ?_; rintro e w' ⟨rfl, rfl⟩)
            go_roundw
            case rel => exact ⟨k + 1, hlt, by go_num, HR.out, by first | rfl | trivial⟩
            case measure => simp [intOf]; omega
      · obtain rfl : k = s.table.length := by omega
        rw [List.take_length] at HT
        clear hk hlt
        have HW := Lib.hid HT.out
        cases hlo : inB s.lo (-50) 50
        · have HR := Lib.hid (show chk s = 3 by rw [HX.out, if_pos (by unfold okNumbers; rw [hlo]; simp)])
          clear HT
          go_wp2_with (go_at_call 84; refine (off_c _ _ _ _).mono ?_; rintro e w' ⟨rfl, rfl⟩)
          go_ret
          exact ⟨by rw [HR.out]; rfl, HU1.out⟩
        · cases hhi : inB s.hi (-50) 50
          · have HR := Lib.hid (show chk s = 3 by rw [HX.out, if_pos (by unfold okNumbers; rw [hhi]; simp)])
            clear HT
            go_wp2_with (go_at_call 84; refine (off_c _ _ _ _).mono ?_; rintro e w' ⟨rfl, rfl⟩)
            go_ret
            exact ⟨by rw [HR.out]; rfl, HU1.out⟩
          · clear HT
            have HLO := Lib.hid hlo
            have HHI := Lib.hid hhi
            go_wp2_with (go_at_call 84; refine (off_c _ _ _ _).mono ?_; rintro e w' ⟨rfl, rfl⟩)
            clear hlo hhi
            go_loopw [5] (fun i wq => ∃ k : Nat, k ≤ s.floors.length ∧ i = .int .i64 k ∧ (s.floors.take k).all (fun x => inB x 0 999) = true ∧ wq = wr) (fun i _ => s.floors.length - (intOf i).toNat)
            case atStart => exact ⟨0, Nat.zero_le _, rfl, rfl, rfl⟩
            case round =>
              obtain ⟨k, hk, rfl, ht, rfl⟩ := hrel
              have HT := Lib.hid ht
              clear ht
              by_cases hlt : k < s.floors.length
              · obtain ⟨b, off, rfl, d0⟩ := HL1.out.rf.int k hlt
                have b1 : (k : Int) < (s.floors.length : Int) := by omega
                have b2 : (0 : Int) ≤ k := by omega
                have sk : IntKind.i64.wrap ((k : Int) + 1) = (k : Int) + 1 := IntWalk.i64_in _ (by omega)
                have HN := Lib.hid (all_take_succ' (f := fun x => inB x 0 999) hlt HT.out)
                have HF := Lib.hid (fun h : inB s.floors[k] 0 999 = false => show okNumbers s = false by unfold okNumbers; rw [all_false_at (f := fun x => inB x 0 999) hlt h]; simp)
                generalize s.floors[k] = x at *
                cases h1 : inB x 0 999
                · have HR := Lib.hid (show chk s = 3 by rw [HX.out, if_pos (HF.out h1)])
                  go_wp2_with (go_at_call 84; refine (off_c _ _ _ _).mono ?_; rintro e w' ⟨rfl, rfl⟩)
                  go_ret
                  exact ⟨by rw [HR.out]; rfl, HU1.out⟩
                · have HR := Lib.hid (HN.out h1)
                  go_wp2_with (go_at_call 84; refine (off_c _ _ _ _).mono ?_; rintro e w' ⟨rfl, rfl⟩)
                  go_roundw
                  case rel => exact ⟨k + 1, hlt, by go_num, HR.out, by first | rfl | trivial⟩
                  case measure => simp [intOf]; omega
              · obtain rfl : k = s.floors.length := by omega
                rw [List.take_length] at HT
                have HFl := Lib.hid HT.out
                clear HT hk hlt
                go_wp2_with fail
                go_loopw [6] (fun i wq => ∃ k : Nat, k ≤ s.sills.length ∧ i = .int .i64 k ∧ (s.sills.take k).all (fun x => inB x.2.2 0 999) = true ∧ wq = wr) (fun i _ => s.sills.length - (intOf i).toNat)
                case atStart => exact ⟨0, Nat.zero_le _, rfl, rfl, rfl⟩
                case round =>
                  obtain ⟨k, hk, rfl, ht, rfl⟩ := hrel
                  have HT := Lib.hid ht
                  clear ht
                  by_cases hlt : k < s.sills.length
                  · obtain ⟨b, off, rfl, d0, d1, d2⟩ := HL1.out.rs.triple k hlt
                    have b1 : (k : Int) < (s.sills.length : Int) := by omega
                    have b2 : (0 : Int) ≤ k := by omega
                    have sk : IntKind.i64.wrap ((k : Int) + 1) = (k : Int) + 1 := IntWalk.i64_in _ (by omega)
                    have HN := Lib.hid (all_take_succ' (f := fun x => inB x.2.2 0 999) hlt HT.out)
                    have HF := Lib.hid (fun h : inB s.sills[k].2.2 0 999 = false => show okNumbers s = false by unfold okNumbers; rw [all_false_at (f := fun x : Int × Int × Int => inB x.2.2 0 999) hlt h]; simp)
                    generalize s.sills[k] = x at *
                    obtain ⟨xa, xb, xc⟩ := x
                    dsimp only at d0 d1 d2
                    cases h1 : inB xc 0 999
                    · have HR := Lib.hid (show chk s = 3 by rw [HX.out, if_pos (HF.out h1)])
                      go_wp2_with (go_at_call 84; refine (off_c _ _ _ _).mono ?_; rintro e w' ⟨rfl, rfl⟩)
                      go_ret
                      exact ⟨by rw [HR.out]; rfl, HU1.out⟩
                    · have HR := Lib.hid (HN.out h1)
                      go_wp2_with (go_at_call 84; refine (off_c _ _ _ _).mono ?_; rintro e w' ⟨rfl, rfl⟩)
                      go_roundw
                      case rel => exact ⟨k + 1, hlt, by go_num, HR.out, by first | rfl | trivial⟩
                      case measure => simp [intOf]; omega
                  · obtain rfl : k = s.sills.length := by omega
                    rw [List.take_length] at HT
                    have HX2 := Lib.hid (show chk s = if okOrder s = false then 4 else if s.sills.all (okThings s.floors.length) = false then 1 else if s.sills.all (fun x => x.1 != x.2.1) = false then 8 else 0 by
                      rw [HX.out, if_neg]; unfold okNumbers; rw [HW.out, HLO.out, HHI.out, HFl.out, HT.out]; decide)
                    clear HT hk hlt HX HW HLO HHI HFl
                    go_wp2_with fail
                    go_loopw [7] (fun i wq => ∃ k : Nat, 1 ≤ k ∧ k ≤ s.table.length ∧ i = .int .i64 k ∧ ((List.range (k - 1)).all fun i => decide ((s.table.getD i (0, 0)).1 < (s.table.getD (i + 1) (0, 0)).1)) = true ∧ Up wr wq) (fun i _ => s.table.length - (intOf i).toNat)
                    case atStart => exact ⟨1, Nat.le_refl _, by omega, rfl, rfl, Below.refl _ _⟩
                    case round =>
                      obtain ⟨k, hk1, hk, rfl, ht, hu⟩ := hrel
                      have HT := Lib.hid ht
                      have HU := Lib.hid hu
                      have d0 := hu.cellAt c0
                      clear ht hu
                      by_cases hlt : k < s.table.length
                      · obtain ⟨b, off, rfl, x0, -⟩ := HL1.out.rt.pair k hlt
                        obtain ⟨b', off', e', y0, -⟩ := HL1.out.rt.pair (k - 1) (by omega)
                        simp only [Option.some.injEq, Addr.mk.injEq, and_true] at e'
                        obtain ⟨rfl, rfl⟩ := e'
                        have x1 := HU.out.cellAt x0
                        have y1 := HU.out.cellAt y0
                        have b1 : (k : Int) < (s.table.length : Int) := by omega
                        have b2 : (0 : Int) ≤ k := by omega
                        have b3 : (k : Int) - 1 < (s.table.length : Int) := by omega
                        have b4 : (0 : Int) ≤ (k : Int) - 1 := by omega
                        have b5 : ((k : Int) - 1).toNat = k - 1 := by omega
                        have sk : IntKind.i64.wrap ((k : Int) + 1) = (k : Int) + 1 := IntWalk.i64_in _ (by omega)
                        have sm : IntKind.i64.wrap ((k : Int) - 1) = (k : Int) - 1 := IntWalk.i64_in _ (by omega)
                        have hg : (s.table.getD (k - 1) (0, 0)).1 = s.table[k - 1].1 ∧ (s.table.getD (k - 1 + 1) (0, 0)).1 = s.table[k].1 := by
                          constructor
                          · rw [List.getD, List.getElem?_eq_getElem (by omega)]; rfl
                          · rw [show k - 1 + 1 = k by omega, List.getD, List.getElem?_eq_getElem hlt]; rfl
                        have HN := Lib.hid (fun h : s.table[k - 1].1 < s.table[k].1 => show ((List.range (k + 1 - 1)).all fun i => decide ((s.table.getD i (0, 0)).1 < (s.table.getD (i + 1) (0, 0)).1)) = true by
                          rw [show k + 1 - 1 = (k - 1) + 1 by omega, List.range_succ, List.all_append, HT.out]
                          simp only [List.all_cons, List.all_nil, Bool.and_true, Bool.true_and, decide_eq_true_eq]
                          rw [hg.1, hg.2]; exact h)
                        have HF := Lib.hid (fun h : ¬ s.table[k - 1].1 < s.table[k].1 => show okOrder s = false by
                          unfold okOrder ordB
                          rw [show ((List.range (s.table.length - 1)).all fun i => decide ((s.table.getD i (0, 0)).1 < (s.table.getD (i + 1) (0, 0)).1)) = false by
                            rw [List.all_eq_false]; exact ⟨k - 1, List.mem_range.2 (by omega), by rw [hg.1, hg.2]; simpa using h⟩]
                          rfl)
                        clear x0 y0 hg
                        generalize s.table[k].1 = x at *
                        generalize s.table[k - 1].1 = y at *
                        go_wp2_with fail
                        by_cases hxy : y < x
                        · have hxy' : ¬ x ≤ y := by omega
                          have HR := Lib.hid (HN.out (by omega))
                          go_quiet (fail)
                          go_wp2_with fail
                          go_roundw
                          case rel => exact ⟨k + 1, by omega, hlt, by go_num, HR.out, Below.drewN' HU.out _⟩
                          case measure => simp [intOf]; omega
                        · have hxy' : x ≤ y := by omega
                          have HR := Lib.hid (show chk s = 4 by rw [HX2.out, if_pos (HF.out (by omega))])
                          go_quiet (fail)
                          go_wp2_with fail
                          go_ret
                          exact ⟨by rw [HR.out]; rfl, Up.trans HU1.out (Below.drewN' HU.out _)⟩
                      · obtain rfl : k = s.table.length := by omega
                        have HU2 := Lib.hid (Up.trans HU1.out HU.out)
                        have HL2 := Lib.hid (HL1.out.up HU.out)
                        have d1 := HU.out.cellAt c1
                        have d2 := HU.out.cellAt c2
                        have d3 := HU.out.cellAt c3
                        have d4 := HU.out.cellAt c4
                        have HO := Lib.hid (show ordB s.table = true from HT.out)
                        clear c0 c1 c2 c3 c4 HU HU1 HL1 HT hk hlt
                        by_cases hw : s.hi < s.lo
                        · have HR := Lib.hid (show chk s = 4 by rw [HX2.out, if_pos (by unfold okOrder; rw [HO.out]; simp; omega)])
                          go_wp2_with fail
                          go_ret
                          exact ⟨by rw [HR.out]; rfl, HU2.out⟩
                        · have HX3 := Lib.hid (show chk s = if s.sills.all (okThings s.floors.length) = false then 1 else if s.sills.all (fun x => x.1 != x.2.1) = false then 8 else 0 by rw [HX2.out, if_neg (by unfold okOrder; rw [HO.out]; simp; omega)])
                          clear HX2 HO
                          go_wp2_with fail
                          go_loopw [8] (fun i wq => ∃ k : Nat, k ≤ s.sills.length ∧ i = .int .i64 k ∧ (s.sills.take k).all (okThings s.floors.length) = true ∧ wq = wr) (fun i _ => s.sills.length - (intOf i).toNat)
                          case atStart => exact ⟨0, Nat.zero_le _, rfl, rfl, rfl⟩
                          case round =>
                            obtain ⟨k, hk, rfl, ht, rfl⟩ := hrel
                            have HT := Lib.hid ht
                            clear ht
                            by_cases hlt : k < s.sills.length
                            · obtain ⟨b, off, rfl, x0, x1, x2⟩ := HL2.out.rs.triple k hlt
                              have b1 : (k : Int) < (s.sills.length : Int) := by omega
                              have b2 : (0 : Int) ≤ k := by omega
                              have sk : IntKind.i64.wrap ((k : Int) + 1) = (k : Int) + 1 := IntWalk.i64_in _ (by omega)
                              have sf : IntKind.i64.wrap ((s.floors.length : Int) - 1) = (s.floors.length : Int) - 1 := IntWalk.i64_in _ (by omega)
                              have HN := Lib.hid (all_take_succ' (f := okThings s.floors.length) hlt HT.out)
                              have HF := Lib.hid (fun h : okThings s.floors.length s.sills[k] = false => all_false_at (f := okThings s.floors.length) hlt h)
                              generalize s.sills[k] = x at *
                              obtain ⟨xa, xb, xc⟩ := x
                              dsimp only at x0 x1 x2
                              have HE := Lib.hid (show okThings s.floors.length (xa, xb, xc) = (inB xa (-1) ((s.floors.length : Int) - 1) && inB xb (-1) ((s.floors.length : Int) - 1)) by unfold okThings; rw [thing_eq xa _ (by omega), thing_eq xb _ (by omega)])
                              cases h1 : inB xa (-1) ((s.floors.length : Int) - 1)
                              · have HR := Lib.hid (show chk s = 1 by rw [HX3.out, if_pos (HF.out (by rw [HE.out, h1]; rfl))])
                                go_wp2_with (go_at_call 84; refine (off_c _ _ _ _).mono ?_; rintro e w' ⟨rfl, rfl⟩)
                                go_ret
                                exact ⟨by rw [HR.out]; rfl, HU2.out⟩
                              · cases h2 : inB xb (-1) ((s.floors.length : Int) - 1)
                                · have HR := Lib.hid (show chk s = 1 by rw [HX3.out, if_pos (HF.out (by rw [HE.out, h1, h2]; rfl))])
                                  go_wp2_with (go_at_call 84; refine (off_c _ _ _ _).mono ?_; rintro e w' ⟨rfl, rfl⟩)
                                  go_ret
                                  exact ⟨by rw [HR.out]; rfl, HU2.out⟩
                                · have HR := Lib.hid (HN.out (by rw [HE.out, h1, h2]; rfl))
                                  go_wp2_with (go_at_call 84; refine (off_c _ _ _ _).mono ?_; rintro e w' ⟨rfl, rfl⟩)
                                  go_roundw
                                  case rel => exact ⟨k + 1, hlt, by go_num, HR.out, by first | rfl | trivial⟩
                                  case measure => simp [intOf]; omega
                            · obtain rfl : k = s.sills.length := by omega
                              rw [List.take_length] at HT
                              have HX4 := Lib.hid (show chk s = if s.sills.all (fun x => x.1 != x.2.1) = false then 8 else 0 by rw [HX3.out, if_neg (by rw [HT.out]; decide)])
                              clear HT hk hlt HX3
                              go_wp2_with fail
                              go_loopw [9] (fun i wq => ∃ k : Nat, k ≤ s.sills.length ∧ i = .int .i64 k ∧ (s.sills.take k).all (fun x => x.1 != x.2.1) = true ∧ Up wr wq) (fun i _ => s.sills.length - (intOf i).toNat)
                              case atStart => exact ⟨0, Nat.zero_le _, rfl, rfl, Below.refl _ _⟩
                              case round =>
                                obtain ⟨k, hk, rfl, ht, hu⟩ := hrel
                                have HT := Lib.hid ht
                                have HU := Lib.hid hu
                                have e4 := hu.cellAt d4
                                clear ht hu
                                by_cases hlt : k < s.sills.length
                                · obtain ⟨b, off, rfl, x0, x1, x2⟩ := HL2.out.rs.triple k hlt
                                  have y0 := HU.out.cellAt x0
                                  have y1 := HU.out.cellAt x1
                                  have b1 : (k : Int) < (s.sills.length : Int) := by omega
                                  have b2 : (0 : Int) ≤ k := by omega
                                  have sk : IntKind.i64.wrap ((k : Int) + 1) = (k : Int) + 1 := IntWalk.i64_in _ (by omega)
                                  have HN := Lib.hid (all_take_succ' (f := fun x => x.1 != x.2.1) hlt HT.out)
                                  have HF := Lib.hid (fun h : (s.sills[k].1 != s.sills[k].2.1) = false => all_false_at (f := fun x : Int × Int × Int => x.1 != x.2.1) hlt h)
                                  clear x0 x1 x2
                                  generalize s.sills[k] = x at *
                                  obtain ⟨xa, xb, xc⟩ := x
                                  dsimp only at y0 y1
                                  go_wp2_with fail
                                  by_cases hxy : xa = xb
                                  · have HR := Lib.hid (show chk s = 8 by rw [HX4.out, if_pos (HF.out (by simp [hxy]))])
                                    go_quiet (fail)
                                    go_wp2_with fail
                                    go_ret
                                    exact ⟨by rw [HR.out]; rfl, Up.trans HU2.out (Below.drewN' HU.out _)⟩
                                  · have HR := Lib.hid (HN.out (by simp [hxy]))
                                    go_quiet (fail)
                                    go_wp2_with fail
                                    go_roundw
                                    case rel => exact ⟨k + 1, hlt, by go_num, HR.out, Below.drewN' HU.out _⟩
                                    case measure => simp [intOf]; omega
                                · obtain rfl : k = s.sills.length := by omega
                                  rw [List.take_length] at HT
                                  have HR := Lib.hid (show chk s = 0 by rw [HX4.out, if_neg (by rw [HT.out]; decide)])
                                  go_wp2_with fail
                                  go_ret
                                  exact ⟨by rw [HR.out]; rfl, Up.trans HU2.out HU.out⟩
end
end Go.Proofs.Ytcljkkojeleakaa
/- The exported At: the state of a place at a minute, or the error. -/
namespace Go.Proofs.Ytcljkkojeleakaa
open Go.RowKit Go.Shelf

def errHere (s : Sd) (m x : Int) : Int := if errAt s m = 0 then (bif isPl s x then 0 else 1) else errAt s m
def atV (s : Sd) (m x : Int) : Int := if errHere s m x = 0 then st s m x.toNat else 0
section
variable {pT pF pS : Option Addr} {cT cF cS : Nat}

set_option maxRecDepth 100000 in
set_option maxHeartbeats 1000000 in
theorem At_c (s : Sd) (m x : Int) (w : World) (hl : Lists w s pT pF pS cT cF cS) :
    Calls Try.prog 41 #[sdVal s pT pF pS cT cF cS, .int .i64 m, .int .i64 x] w fun e w' => e = .returned (.tuple #[.int .i64 (atV s m x), .int .i64 (errHere s m x)]) ∧ Up w w' := by
  have HC := Lib.hid (fun W (u : Up w W) => beginAt_c s m W (hl.up u))
  unfold atV errHere
  clear hl
  by_cases hE : errAt s m = 0
  · obtain ⟨hc, hm, -⟩ := errAt_zero hE
    have hf8 := (chk_ok hc).fl1
    have HO := Lib.hid (chk_ok hc)
    rw [if_pos hE]
    rw [hE] at HC
    unfold sdVal at *
    cases hp : isPl s x with
    | false =>
      have hp' : inB x 0 (s.floors.length - 1) = false := hp
      go_enter Try.func41, Try.ntmps41
      go_wp2_with fail
      refine (HC.out _ (by (repeat (first | exact Below.refl _ _ | (with_reducible refine Below.drewN' ?_ _) | (with_reducible refine Below.drew ?_) | (with_reducible refine Below.setCell ?_ (by first | exact Nat.le_refl _ | omega | (with_reducible (repeat (first | refine sz_alloc ?_ | refine sz_setCell ?_ | refine sz_drew ?_ | refine sz_drewN ?_)); first | exact Nat.le_refl _ | omega) | (simp only [World.size_alloc, World.size_setCell, World.size_drew, size_drewN']; omega)) _) | (with_reducible refine Below.alloc ?_ (by first | exact Nat.le_refl _ | omega | (with_reducible (repeat (first | refine sz_alloc ?_ | refine sz_setCell ?_ | refine sz_drew ?_ | refine sz_drewN ?_)); first | exact Nat.le_refl _ | omega) | (simp only [World.size_alloc, World.size_setCell, World.size_drew, size_drewN']; omega)) _) | assumption)))).mono ?_
      rintro e w1 ⟨p, rfl, u1, hok⟩
      obtain ⟨bw, rfl, hW⟩ := hok rfl
      have U1 := Lib.hid (Up.trans (show Up w (w.alloc (.cells (sdCells s pT pF pS cT cF cS).toArray 28)) by (repeat (first | exact Below.refl _ _ | (with_reducible refine Below.drewN' ?_ _) | (with_reducible refine Below.drew ?_) | (with_reducible refine Below.setCell ?_ (by first | exact Nat.le_refl _ | omega | (with_reducible (repeat (first | refine sz_alloc ?_ | refine sz_setCell ?_ | refine sz_drew ?_ | refine sz_drewN ?_)); first | exact Nat.le_refl _ | omega) | (simp only [World.size_alloc, World.size_setCell, World.size_drew, size_drewN']; omega)) _) | (with_reducible refine Below.alloc ?_ (by first | exact Nat.le_refl _ | omega | (with_reducible (repeat (first | refine sz_alloc ?_ | refine sz_setCell ?_ | refine sz_drew ?_ | refine sz_drewN ?_)); first | exact Nat.le_refl _ | omega) | (simp only [World.size_alloc, World.size_setCell, World.size_drew, size_drewN']; omega)) _) | assumption))) u1)
      have HW := Lib.hid hW
      clear hok hW u1 HC
      go_wp2_with fail
      refine (isPlace_c bw _ _ _ x _ HW.out.sands.s3 (by simp only [maxLen]; omega)).mono ?_
      rintro e w2 ⟨he, rfl⟩
      rw [hp'] at he
      subst he
      go_wp2_with fail
      go_ret2
      exact ⟨rfl, U1.out⟩
    | true =>
      have hp' : inB x 0 (s.floors.length - 1) = true := hp
      obtain ⟨x0, x1⟩ := inB_true.1 hp'
      obtain ⟨k, rfl⟩ : ∃ k : Nat, x = k := ⟨x.toNat, by omega⟩
      go_enter Try.func41, Try.ntmps41
      go_wp2_with fail
      refine (HC.out _ (by (repeat (first | exact Below.refl _ _ | (with_reducible refine Below.drewN' ?_ _) | (with_reducible refine Below.drew ?_) | (with_reducible refine Below.setCell ?_ (by first | exact Nat.le_refl _ | omega | (with_reducible (repeat (first | refine sz_alloc ?_ | refine sz_setCell ?_ | refine sz_drew ?_ | refine sz_drewN ?_)); first | exact Nat.le_refl _ | omega) | (simp only [World.size_alloc, World.size_setCell, World.size_drew, size_drewN']; omega)) _) | (with_reducible refine Below.alloc ?_ (by first | exact Nat.le_refl _ | omega | (with_reducible (repeat (first | refine sz_alloc ?_ | refine sz_setCell ?_ | refine sz_drew ?_ | refine sz_drewN ?_)); first | exact Nat.le_refl _ | omega) | (simp only [World.size_alloc, World.size_setCell, World.size_drew, size_drewN']; omega)) _) | assumption)))).mono ?_
      rintro e w1 ⟨p, rfl, u1, hok⟩
      obtain ⟨bw, rfl, hW⟩ := hok rfl
      have U1 := Lib.hid (Up.trans (show Up w (w.alloc (.cells (sdCells s pT pF pS cT cF cS).toArray 28)) by (repeat (first | exact Below.refl _ _ | (with_reducible refine Below.drewN' ?_ _) | (with_reducible refine Below.drew ?_) | (with_reducible refine Below.setCell ?_ (by first | exact Nat.le_refl _ | omega | (with_reducible (repeat (first | refine sz_alloc ?_ | refine sz_setCell ?_ | refine sz_drew ?_ | refine sz_drewN ?_)); first | exact Nat.le_refl _ | omega) | (simp only [World.size_alloc, World.size_setCell, World.size_drew, size_drewN']; omega)) _) | (with_reducible refine Below.alloc ?_ (by first | exact Nat.le_refl _ | omega | (with_reducible (repeat (first | refine sz_alloc ?_ | refine sz_setCell ?_ | refine sz_drew ?_ | refine sz_drewN ?_)); first | exact Nat.le_refl _ | omega) | (simp only [World.size_alloc, World.size_setCell, World.size_drew, size_drewN']; omega)) _) | assumption))) u1)
      have HW := Lib.hid hW
      clear hok hW u1 HC
      go_wp2_with fail
      refine (isPlace_c bw _ _ _ (k : Int) _ HW.out.sands.s3 (by simp only [maxLen]; omega)).mono ?_
      rintro e w2 ⟨he, rfl⟩
      rw [hp'] at he
      subst he
      go_wp2_with fail
      refine (state_c bw s m k _ HW.out HO.out hm (by omega)).mono ?_
      rintro e w2 ⟨rfl, u2⟩
      have U2 := Lib.hid (Up.trans U1.out u2)
      clear u2
      go_wp2_with fail
      go_ret2
      exact ⟨rfl, U2.out⟩
  · have hne : (errAt s m != 0) = true := by rw [bne_iff_ne]; exact hE
    rw [if_neg hE, if_neg hE]
    clear hE
    unfold sdVal at *
    go_enter Try.func41, Try.ntmps41
    go_wp2_with fail
    refine (HC.out _ (by (repeat (first | exact Below.refl _ _ | (with_reducible refine Below.drewN' ?_ _) | (with_reducible refine Below.drew ?_) | (with_reducible refine Below.setCell ?_ (by first | exact Nat.le_refl _ | omega | (with_reducible (repeat (first | refine sz_alloc ?_ | refine sz_setCell ?_ | refine sz_drew ?_ | refine sz_drewN ?_)); first | exact Nat.le_refl _ | omega) | (simp only [World.size_alloc, World.size_setCell, World.size_drew, size_drewN']; omega)) _) | (with_reducible refine Below.alloc ?_ (by first | exact Nat.le_refl _ | omega | (with_reducible (repeat (first | refine sz_alloc ?_ | refine sz_setCell ?_ | refine sz_drew ?_ | refine sz_drewN ?_)); first | exact Nat.le_refl _ | omega) | (simp only [World.size_alloc, World.size_setCell, World.size_drew, size_drewN']; omega)) _) | assumption)))).mono ?_
    rintro e w1 ⟨p, rfl, u1, -⟩
    have U1 := Lib.hid (Up.trans (show Up w (w.alloc (.cells (sdCells s pT pF pS cT cF cS).toArray 28)) by (repeat (first | exact Below.refl _ _ | (with_reducible refine Below.drewN' ?_ _) | (with_reducible refine Below.drew ?_) | (with_reducible refine Below.setCell ?_ (by first | exact Nat.le_refl _ | omega | (with_reducible (repeat (first | refine sz_alloc ?_ | refine sz_setCell ?_ | refine sz_drew ?_ | refine sz_drewN ?_)); first | exact Nat.le_refl _ | omega) | (simp only [World.size_alloc, World.size_setCell, World.size_drew, size_drewN']; omega)) _) | (with_reducible refine Below.alloc ?_ (by first | exact Nat.le_refl _ | omega | (with_reducible (repeat (first | refine sz_alloc ?_ | refine sz_setCell ?_ | refine sz_drew ?_ | refine sz_drewN ?_)); first | exact Nat.le_refl _ | omega) | (simp only [World.size_alloc, World.size_setCell, World.size_drew, size_drewN']; omega)) _) | assumption))) u1)
    clear u1 HC
    go_wp2_with fail
    go_ret2
    exact ⟨rfl, U1.out⟩
end
end Go.Proofs.Ytcljkkojeleakaa
namespace Go.Proofs.Ytcljkkojeleakaa
open Go.RowKit Go.Shelf

set_option maxRecDepth 100000 in
set_option maxHeartbeats 1000000 in
theorem equalSpan_c (l r : List (Int × Int)) (p q : Option Addr) (c d : Nat) (w : World) (h1 : Row w p 2 (pairs l)) (h2 : Row w q 2 (pairs r)) (m1 : l.length ≤ maxLen) (m2 : r.length ≤ maxLen) :
    Calls Try.prog 115 #[.slice p l.length c, .slice q r.length d] w fun e w' => e = .returned (.bool (decide (l = r))) ∧ Up w w' := by
  have H1 := Lib.hid h1
  have H2 := Lib.hid h2
  unfold maxLen at m1 m2
  clear h1 h2
  go_enter Try.func115, Try.ntmps115
  by_cases hl : l.length = r.length
  · have hl' : (l.length : Int) = (r.length : Int) := by omega
    go_wp2_with fail
    go_loopw [13] (fun i wr => ∃ k : Nat, k ≤ l.length ∧ i = .int .i64 k ∧ (l = r ↔ l.drop k = r.drop k) ∧ Up w wr) (fun i _ => l.length - (intOf i).toNat)
    case atStart => exact ⟨0, Nat.zero_le _, rfl, Iff.rfl, Below.refl _ _⟩
    case round =>
      obtain ⟨k, hk, rfl, ht, hu⟩ := hrel
      have HT := Lib.hid ht
      have HU := Lib.hid hu
      clear ht
      by_cases hlt : k < l.length
      · have hlr : k < r.length := by omega
        obtain ⟨b, off, rfl, d0, d0'⟩ := H1.out.pair k hlt
        obtain ⟨b', off', rfl, d1, d1'⟩ := H2.out.pair k hlr
        have e0 := hu.cellAt d0
        have e1 := hu.cellAt d1
        have e0' := hu.cellAt d0'
        have e1' := hu.cellAt d1'
        have HD := Lib.hid (drop_eq_iff hl hlt hlr)
        clear d0 d1 d0' d1' hu
        generalize l[k] = x at *
        generalize r[k] = y at *
        obtain ⟨xa, xb⟩ := x
        obtain ⟨ya, yb⟩ := y
        dsimp only at e0 e1 e0' e1'
        have b1 : (k : Int) < (l.length : Int) := by omega
        have b2 : (k : Int) < (r.length : Int) := by omega
        go_wp2_with fail
        by_cases hxy : (xa, xb) = (ya, yb)
        · have HX := Lib.hid (show l = r ↔ l.drop (k + 1) = r.drop (k + 1) by rw [HT.out, HD.out]; simp [hxy])
          obtain ⟨rfl, rfl⟩ : xa = ya ∧ xb = yb := by simpa using hxy
          go_quiet (fail)
          go_wp2_with fail
          go_roundw
          case rel => exact ⟨k + 1, hlt, by go_num, HX.out, Below.drewN' HU.out _⟩
          case measure => simp [intOf]; omega
        · have HX : Hid (¬ l = r) := by rw [show l = r ↔ _ from HT.out, HD.out]; exact fun h => hxy h.1
          by_cases ha : xa = ya
          · subst ha
            have hb : ¬ xb = yb := fun e => hxy (by rw [e])
            clear hxy
            go_quiet (fail)
            go_wp2_with fail
            go_ret
            exact ⟨ret_bool (by simpa using HX.out), Below.drewN' HU.out _⟩
          · clear hxy
            go_quiet (fail)
            go_wp2_with fail
            go_ret
            exact ⟨ret_bool (by simpa using HX.out), Below.drewN' HU.out _⟩
      · obtain rfl : k = l.length := by omega
        have HX : Hid (l = r) := HT.out.2 (by rw [List.drop_eq_nil_of_le (Nat.le_refl _), List.drop_eq_nil_of_le (by omega)])
        go_wp2_with fail
        go_ret
        exact ⟨ret_bool (by simpa using HX.out), HU.out⟩
  · have hl' : ¬ (l.length : Int) = (r.length : Int) := by omega
    go_wp2_with fail
    go_ret
    exact ⟨ret_bool (by symm; rw [decide_eq_false_iff_not]; rintro rfl; exact hl rfl), Below.refl _ _⟩

theorem eqSpan_c (l r : List (Int × Int)) (p q : Option Addr) (c d : Nat) (w : World) (h1 : Row w p 2 (pairs l)) (h2 : Row w q 2 (pairs r)) (m1 : l.length ≤ maxLen) (m2 : r.length ≤ maxLen) :
    Calls Try.prog 46 #[.slice p l.length c, .slice q r.length d] w fun e w' => e = .returned (.bool (decide (l = r))) ∧ Up w w' := by
  have HE := Lib.hid (equalSpan_c l r p q c d w h1 h2 m1 m2)
  clear h1 h2
  go_enter Try.func46, Try.ntmps46
  go_wp2_with fail
  refine HE.out.mono ?_
  rintro e w1 ⟨rfl, u1⟩
  go_wp2_with fail
  go_ret
  exact ⟨rfl, u1⟩

end Go.Proofs.Ytcljkkojeleakaa
/- The law TideStates returns true, of sands that are not too wide. -/
namespace Go.Proofs.Ytcljkkojeleakaa
open Go.RowKit Go.Shelf

theorem stR_st {s : Sd} (ok : Ok s) (m : Int) (p : Nat) (h0 : 0 ≤ hgt s.table m) (h1 : hgt s.table m ≤ 999) : stR s (hgt s.table m) (gateR s p) = st s m p := by
  have b0 := ok.lo0
  have b1 := ok.hi1
  have b2 := ok.lohi
  have gl := gts_le s p
  unfold stR gateR st
  by_cases h : gateOf s p < 1050
  · rw [if_pos h]
  · rw [if_neg h, if_neg (by omega), if_neg (by omega), if_neg (by omega), if_neg (by omega)]
theorem gateR_rng (s : Sd) (p : Nat) : 0 ≤ gateR s p ∧ gateR s p ≤ 5000 := by
  have gl := gts_le s p
  unfold gateR
  split <;> omega
theorem gatesR_at (s : Sd) {p : Nat} (h : p < (gatesR s).length) : (gatesR s)[p] = gateR s p := by simp [gatesR]
theorem allV_in {s : Sd} {m : Int} (h : errAt s m = 0) : allV s m = (List.range s.floors.length).map (st s m) := by unfold allV; rw [if_pos h]; rfl
section
variable {pT pF pS : Option Addr} {cT cF cS : Nat}
set_option maxRecDepth 100000 in
set_option maxHeartbeats 4000000 in
theorem states_c (s : Sd) (m x q : Int) (w : World) (hl : Lists w s pT pF pS cT cF cS) (b1 : s.table.length * 16 ≤ 140737488355328) (b2 : s.floors.length * 8 ≤ 140737488355328) (b3 : s.sills.length * 24 ≤ 140737488355328) (hw : wideB s = false) :
    Calls Try.prog 6 #[sdVal s pT pF pS cT cF cS, .int .i64 m, .int .i64 x, .int .i64 q] w fun e w' => e = .returned (.bool true) ∧ Up w w' := by
  have HO := Lib.hid (fun W (u : Up w W) => own_c s W (hl.up u) b1 b2 b3)
  have HT := Lib.hid (fun W (u : Up w W) => theirs_c s W (hl.up u) b1 b2 b3)
  have HL := Lib.hid hl
  have HW := Lib.hid hw
  clear hl b1 b2 b3 hw
  unfold sdVal
  go_enter Try.func6, Try.ntmps6
  go_wp2_with fail
  refine (wide_c s _).mono ?_
  rw [HW.out]
  rintro e w1 ⟨rfl, u1⟩
  go_upto_region 3 with fail
  have hB : At5 w1 w.heap.size s pT pF pS cT cF cS := by
    have h := (Blk.new w (sdCells s pT pF pS cT cF cS) 28).up u1
    have c0 := h.cell 0
    have c1 := h.cell 1
    have c2 := h.cell 2
    have c3 := h.cell 3
    have c4 := h.cell 4
    simp only [sdCells, List.getElem?_cons_zero, List.getElem?_cons_succ] at c0 c1 c2 c3 c4
    exact ⟨c0, c1, c2, c3, c4⟩
  have HB := Lib.hid hB
  have U1 : Hid (Up w w1) := Up.trans (by (repeat (first | exact Below.refl _ _ | (with_reducible refine Below.drewN' ?_ _) | (with_reducible refine Below.drew ?_) | (with_reducible refine Below.setCell ?_ (by first | exact Nat.le_refl _ | omega | (with_reducible (repeat (first | refine sz_alloc ?_ | refine sz_setCell ?_ | refine sz_drew ?_ | refine sz_drewN ?_)); first | exact Nat.le_refl _ | omega) | (simp only [World.size_alloc, World.size_setCell, World.size_drew, size_drewN']; omega)) _) | (with_reducible refine Below.alloc ?_ (by first | exact Nat.le_refl _ | omega | (with_reducible (repeat (first | refine sz_alloc ?_ | refine sz_setCell ?_ | refine sz_drew ?_ | refine sz_drewN ?_)); first | exact Nat.le_refl _ | omega) | (simp only [World.size_alloc, World.size_setCell, World.size_drew, size_drewN']; omega)) _) | assumption))) u1
  have HO1 := Lib.hid (fun W (u : Up w1 W) => HO.out W (Up.trans U1.out u))
  have HT1 := Lib.hid (fun W (u : Up w1 W) => HT.out W (Up.trans U1.out u))
  clear hB u1 HO HT
  go_cut [9, 10] (fun a b wx => Both w1 wx s a b)
  case first =>
    refine region_inv 6 (fun done a W => ∃ v0 v1 v2 v3 v4 v5, a = ⟨#[.agg #[.slice pT s.table.length cT, .int .i64 s.lo, .int .i64 s.hi, .slice pF s.floors.length cF, .slice pS s.sills.length cS], .int .i64 m, .int .i64 x, .int .i64 q, .pointer (some ⟨w.heap.size, 0, none⟩), undef, undef, undef, .bool false, v4, v5, undef, undef, undef, undef, undef, undef, undef, undef, undef, undef, undef, undef, undef, undef, undef, undef, .agg #[.slice pT s.table.length cT, .int .i64 s.lo, .int .i64 s.hi, .slice pF s.floors.length cF, .slice pS s.sills.length cS], .bool false, undef, v0, v1, v2, v3, undef, undef, undef, undef, undef, undef, undef, undef, undef, undef, undef, undef, undef, undef, undef, undef, undef, undef, undef, undef, undef, undef, undef, undef, undef, undef, undef, undef, undef, undef, undef, undef, undef, undef, undef, undef, undef, undef, undef, undef, undef, undef, undef, undef, undef, undef, undef, undef, undef, undef, undef, undef, undef, undef, undef, undef, undef, undef, undef, undef, undef, undef, undef, undef, undef, undef, undef, undef, undef, undef, undef, undef, undef, undef, undef, undef, undef, undef, undef, undef, undef, undef, undef, undef, undef, undef, undef, undef, undef, undef, undef, undef, undef, undef, undef, undef, undef, undef, undef, undef, undef, undef, undef, undef, undef, undef, undef, undef, undef, undef, undef, undef, undef, undef, undef, undef, undef, undef, undef, undef, undef, undef, undef, undef, undef, undef, undef, undef, undef, undef, undef, undef, undef, undef, undef, undef, undef, undef], []⟩ ∧ Pair w1 s (.agg #[.slice pT s.table.length cT, .int .i64 s.lo, .int .i64 s.hi, .slice pF s.floors.length cF, .slice pS s.sills.length cS]) done W v0 v1 v2 v3 v4 v5) mixed (by kernel_rfl) ?_ ?_ ?_
    · exact ⟨_, _, _, _, _, _, rfl, Pair.start _ _ _⟩
    · intro done a W i o hi hd ho hall hinv
      obtain ⟨v0, v1, v2, v3, v4, v5, rfl, hC⟩ := hinv
      obtain ⟨c0, c1, c2, c3, c4⟩ := HB.out.up hC.up
      have HC := Lib.hid hC
      have HA := Lib.hid hall
      clear hC hall hd
      obtain rfl | rfl | rfl | rfl | rfl | rfl : i = 0 ∨ i = 1 ∨ i = 2 ∨ i = 3 ∨ i = 4 ∨ i = 5 := by omega
      · clear ho HA
        refine wpOp_step rfl (fun K hK => ?_)
        rw [if_pos (by rfl)]
        have HK := Lib.hid hK
        clear hK
        go_simp
        exact HK.out _ _ ⟨_, _, _, _, _, _, rfl, HC.out.load0⟩
      · have e0 : v0 = _ := HC.out.l0 (HA.out ⟨0, .data⟩ (by cases ho; simp) rfl)
        clear ho HA
        subst e0
        refine wpOp_step rfl (fun K hK => ?_)
        rw [if_pos (by rfl)]
        have HK := Lib.hid hK
        clear hK
        go_simp
        refine (HO1.out W HC.out.up).mono ?_
        rintro e w2 ⟨qT, qF, qS, dT, dF, dS, rfl, h1, h2, h3⟩
        exact HK.out _ _ ⟨_, _, _, _, _, _, rfl, HC.out.call1 h2 h1 h3⟩
      · clear ho HA
        refine wpOp_step rfl (fun K hK => ?_)
        rw [if_pos (by rfl)]
        have HK := Lib.hid hK
        clear hK
        go_simp
        exact HK.out _ _ ⟨_, _, _, _, _, _, rfl, HC.out.load2⟩
      · have e0 : v2 = _ := HC.out.l2 (HA.out ⟨2, .data⟩ (by cases ho; simp) rfl)
        clear ho HA
        subst e0
        refine wpOp_step rfl (fun K hK => ?_)
        rw [if_pos (by rfl)]
        have HK := Lib.hid hK
        clear hK
        go_simp
        refine (HT1.out W HC.out.up).mono ?_
        rintro e w2 ⟨qT, qF, qS, dT, dF, dS, rfl, h1, h2, h3⟩
        exact HK.out _ _ ⟨_, _, _, _, _, _, rfl, HC.out.call3 h2 h1 h3⟩
      · clear ho HA
        refine wpOp_step rfl (fun K hK => ?_)
        rw [if_pos (by rfl)]
        have HK := Lib.hid hK
        clear hK
        go_simp
        exact HK.out _ _ ⟨_, _, _, _, _, _, rfl, HC.out.alloc4⟩
      · clear ho HA
        refine wpOp_step rfl (fun K hK => ?_)
        rw [if_pos (by rfl)]
        have HK := Lib.hid hK
        clear hK
        go_simp
        exact HK.out _ _ ⟨_, _, _, _, _, _, rfl, HC.out.alloc5⟩
    · rintro a W ⟨v0, v1, v2, v3, v4, v5, rfl, hC⟩
      obtain ⟨u, -, -, h1, h3, h4, h5, -, -⟩ := hC
      obtain ⟨B5, rfl, k5, n5⟩ := h4 rfl
      obtain ⟨B6, rfl, k6, n6⟩ := h5 rfl
      obtain ⟨qT, qF, qS, dT, dF, dS, rfl, l1, o1, p1⟩ := h1 rfl
      obtain ⟨rT, rF, rS, gT, gF, gS, rfl, l3, o3, p3⟩ := h3 rfl
      change wpList _ _ _ [_, _] _ _
      have ne : B5 ≠ B6 := k5.ne k6 (by decide)
      have HBoth : Hid (Both w1 (fill (fill W B5 s qT qF qS dT dF dS) B6 s rT rF rS gT gF gS) s (.pointer (some ⟨B5, 0, none⟩)) (.pointer (some ⟨B6, 0, none⟩))) :=
        ⟨B5, B6, qT, qF, qS, dT, dF, dS, rT, rF, rS, gT, gF, gS, rfl, rfl, fill_up (fill_up u n5 _ _ _ _ _ _ _) n6 _ _ _ _ _ _ _, fill_lists (fill_lists l1 o1 _ _ _ _ _ _) p1 _ _ _ _ _ _, fill_lists (fill_lists l3 o3 _ _ _ _ _ _) p3 _ _ _ _ _ _,
          At5.of (fill_other (fill_blk k5 _ _ _ _ _ _ _) ne _ _ _ _ _ _ _), At5.of (fill_blk (fill_other k6 (Ne.symm ne) _ _ _ _ _ _ _) _ _ _ _ _ _ _)⟩
      have y0 := k5.cell 0
      have y1 := k5.cell 1
      have y2 := k5.cell 2
      have y3 := k5.cell 3
      have y4 := k5.cell 4
      have yf := k5.free
      have x0 := k6.cell 0
      have x1 := k6.cell 1
      have x2 := k6.cell 2
      have x3 := k6.cell 3
      have x4 := k6.cell 4
      have xf := k6.free
      simp only [zero5, List.getElem?_cons_zero, List.getElem?_cons_succ] at y0 y1 y2 y3 y4 x0 x1 x2 x3 x4
      have ne' := Ne.symm ne
      clear h1 h3 h4 h5 l1 l3 o1 o3 p1 p3 k5 k6 u n5 n6 HO1 HT1
      unfold sdVal
      dsimp only
      go_wp2_with fail
      go_meet
      exact HBoth.out
  case rest =>
    obtain ⟨B5, B6, qT, qF, qS, dT, dF, dS, rT, rF, rS, gT, gF, gS, rfl, rfl, u, l5, l6, a5, a6⟩ := hcut
    have L5 := Lib.hid l5
    have L6 := Lib.hid l6
    have A5 := Lib.hid a5
    have A6 := Lib.hid a6
    have A0 := Lib.hid (HB.out.up u)
    have U0 := Lib.hid (Up.trans U1.out u)
    clear l5 l6 a5 u U1 HB HO1 HT1 w1
    obtain ⟨e0, e1, e2, e3, e4⟩ := a6
    go_wp2_with fail
    refine (refCheck_c s wc L6.out).mono ?_
    rintro e x1 ⟨rfl, v1⟩
    have V1 := Lib.hid v1
    clear v1 e0 e1 e2 e3 e4
    obtain ⟨d0, d1, d2, d3, d4⟩ := A0.out.up V1.out
    go_upto_if 39 with fail
    have V1' := V1
    generalize wc = wq at *
    go_cut [11, 12, 13, 14] (fun a b c g wx => a = .int .i64 (errHere s m x) ∧ b = .int .i64 (errAt s m) ∧ c = .int .i64 (errSp s x q) ∧ (∃ qg k dg, g = .slice qg k dg ∧ (chk s = 0 → k = s.floors.length ∧ k ≤ dg ∧ dg ≤ maxLen ∧ Row wx qg 1 (ints (gatesR s)))) ∧ Up wq wx)
    case first =>
      clear d0 d1 d2 d3 d4
      by_cases hE : chk s = 0
      · have OK := Lib.hid (chk_ok hE)
        have n1 : (chk s == 0) = true := by rw [hE]; rfl
        have HE := Lib.hid hE
        have E4 : Hid (errFor s x = bif isPl s x then 0 else 1) := by show _ = _; unfold errFor; rw [if_pos hE]
        have E5 : Hid (errAt s m = bif inDay s m then 0 else 3) := by show _ = _; unfold errAt; rw [if_pos hE]
        clear hE
        obtain ⟨-, -, ht2, ht12⟩ := OK.out.table
        obtain ⟨c0, c1, c2, c3, c4⟩ := A6.out.up V1.out
        go_wp2_with fail
        refine (refGates_c s x1 OK.out (L6.out.up V1.out)).mono ?_
        rintro e x2 ⟨qg, dg, rfl, g1, g2, rg, v2⟩
        rw [gatesR_len] at g1 ⊢
        have G := Lib.hid (And.intro g1 g2)
        have RG := Lib.hid rg
        have V2 := Lib.hid (Up.trans V1.out v2)
        clear g1 g2 rg v2 c0 c1 c2 c3 c4
        obtain ⟨c0, c1, c2, c3, c4⟩ := A6.out.up V2.out
        go_wp2_with fail
        refine (refMinute_c s m x2 (L6.out.up V2.out) ht2 ht12).mono ?_
        rintro e x3 ⟨rfl, v3⟩
        have V3 := Lib.hid (Up.trans V2.out v3)
        have RG3 := Lib.hid (RG.out.up v3)
        clear v3 c0 c1 c2 c3 c4 RG V2 V1' V1
        obtain ⟨c0, c1, c2, c3, c4⟩ := A6.out.up V3.out
        cases hd : inDay s m
        · have HD := Lib.hid hd
          clear hd
          have E1 : Hid (errAt s m = 3) := by show _ = _; rw [E5.out, HD.out]; rfl
          have E2 : Hid (errHere s m x = 3) := by show _ = _; unfold errHere; rw [E1.out, if_neg (by decide)]
          go_wp2_with fail
          refine (refPlace_c s x _ (L6.out.up V3.out)).mono ?_
          rintro e x9 ⟨rfl, v9⟩
          have V9 := Lib.hid (Up.trans V3.out v9)
          have RG9 := Lib.hid (RG3.out.up v9)
          clear v9 c0 c1 c2 c3 c4
          cases hp : isPl s x
          · have HP := Lib.hid hp
            clear hp
            have E3 : Hid (errSp s x q = 1) := by show _ = _; unfold errSp; rw [E4.out, HP.out]; rfl
            go_wp2_with fail
            go_meet
            exact ⟨by rw [E2.out], by rw [E1.out], by rw [E3.out], ⟨qg, _, dg, rfl, fun _ => ⟨rfl, G.out.1, G.out.2, RG9.out⟩⟩, V9.out⟩
          · have HP := Lib.hid hp
            clear hp
            have E3' : Hid (errSp s x q = if q = 0 ∨ q = 1 ∨ q = 2 then 0 else 8) := by show _ = _; unfold errSp; rw [E4.out, HP.out]; rfl
            by_cases q0 : q < 0
            · have E3 : Hid (errSp s x q = 8) := by show _ = _; rw [E3'.out, if_neg (by omega)]
              have q1 : decide (q < 0) = true := decide_eq_true q0
              go_wp2_with fail
              go_meet
              exact ⟨by rw [E2.out], by rw [E1.out], by rw [E3.out], ⟨qg, _, dg, rfl, fun _ => ⟨rfl, G.out.1, G.out.2, RG9.out⟩⟩, V9.out⟩
            · have q1 : decide (q < 0) = false := decide_eq_false q0
              by_cases q2 : 2 < q
              · have E3 : Hid (errSp s x q = 8) := by show _ = _; rw [E3'.out, if_neg (by omega)]
                have q3 : decide (2 < q) = true := decide_eq_true q2
                go_wp2_with fail
                go_meet
                exact ⟨by rw [E2.out], by rw [E1.out], by rw [E3.out], ⟨qg, _, dg, rfl, fun _ => ⟨rfl, G.out.1, G.out.2, RG9.out⟩⟩, V9.out⟩
              · have E3 : Hid (errSp s x q = 0) := by show _ = _; rw [E3'.out, if_pos (by omega)]
                have q3 : decide (2 < q) = false := decide_eq_false q2
                go_wp2_with fail
                go_meet
                exact ⟨by rw [E2.out], by rw [E1.out], by rw [E3.out], ⟨qg, _, dg, rfl, fun _ => ⟨rfl, G.out.1, G.out.2, RG9.out⟩⟩, V9.out⟩
        · have HD := Lib.hid hd
          clear hd
          have E1 : Hid (errAt s m = 0) := by show _ = _; rw [E5.out, HD.out]; rfl
          have E2' : Hid (errHere s m x = bif isPl s x then 0 else 1) := by show _ = _; unfold errHere; rw [E1.out, if_pos rfl]
          go_wp2_with fail
          refine (refPlace_c s x _ (L6.out.up V3.out)).mono ?_
          rintro e x4 ⟨rfl, v4⟩
          have V4 := Lib.hid (Up.trans V3.out v4)
          have RG4 := Lib.hid (RG3.out.up v4)
          clear v4 c0 c1 c2 c3 c4
          obtain ⟨c0, c1, c2, c3, c4⟩ := A6.out.up V4.out
          go_wp2_with fail
          refine (refPlace_c s x _ (L6.out.up V4.out)).mono ?_
          rintro e x9 ⟨rfl, v9⟩
          have V9 := Lib.hid (Up.trans V4.out v9)
          have RG9 := Lib.hid (RG4.out.up v9)
          clear v9 c0 c1 c2 c3 c4
          cases hp : isPl s x
          · have HP := Lib.hid hp
            clear hp
            have E2 : Hid (errHere s m x = 1) := by show _ = _; rw [E2'.out, HP.out]; rfl
            have E3 : Hid (errSp s x q = 1) := by show _ = _; unfold errSp; rw [E4.out, HP.out]; rfl
            go_wp2_with fail
            go_meet
            exact ⟨by rw [E2.out], by rw [E1.out], by rw [E3.out], ⟨qg, _, dg, rfl, fun _ => ⟨rfl, G.out.1, G.out.2, RG9.out⟩⟩, V9.out⟩
          · have HP := Lib.hid hp
            clear hp
            have E2 : Hid (errHere s m x = 0) := by show _ = _; rw [E2'.out, HP.out]; rfl
            have E3' : Hid (errSp s x q = if q = 0 ∨ q = 1 ∨ q = 2 then 0 else 8) := by show _ = _; unfold errSp; rw [E4.out, HP.out]; rfl
            by_cases q0 : q < 0
            · have E3 : Hid (errSp s x q = 8) := by show _ = _; rw [E3'.out, if_neg (by omega)]
              have q1 : decide (q < 0) = true := decide_eq_true q0
              go_wp2_with fail
              go_meet
              exact ⟨by rw [E2.out], by rw [E1.out], by rw [E3.out], ⟨qg, _, dg, rfl, fun _ => ⟨rfl, G.out.1, G.out.2, RG9.out⟩⟩, V9.out⟩
            · have q1 : decide (q < 0) = false := decide_eq_false q0
              by_cases q2 : 2 < q
              · have E3 : Hid (errSp s x q = 8) := by show _ = _; rw [E3'.out, if_neg (by omega)]
                have q3 : decide (2 < q) = true := decide_eq_true q2
                go_wp2_with fail
                go_meet
                exact ⟨by rw [E2.out], by rw [E1.out], by rw [E3.out], ⟨qg, _, dg, rfl, fun _ => ⟨rfl, G.out.1, G.out.2, RG9.out⟩⟩, V9.out⟩
              · have E3 : Hid (errSp s x q = 0) := by show _ = _; rw [E3'.out, if_pos (by omega)]
                have q3 : decide (2 < q) = false := decide_eq_false q2
                go_wp2_with fail
                go_meet
                exact ⟨by rw [E2.out], by rw [E1.out], by rw [E3.out], ⟨qg, _, dg, rfl, fun _ => ⟨rfl, G.out.1, G.out.2, RG9.out⟩⟩, V9.out⟩
      · have HE := Lib.hid hE
        have n1 : (chk s == 0) = false := beq_eq_false_iff_ne.2 hE
        have E1 : Hid (errAt s m = chk s) := by show _ = _; unfold errAt; rw [if_neg hE]
        have E2 : Hid (errHere s m x = chk s) := by show _ = _; unfold errHere; rw [E1.out, if_neg hE]
        have E4 : Hid (errFor s x = chk s) := by show _ = _; unfold errFor; rw [if_neg hE]
        have E3 : Hid (errSp s x q = chk s) := by show _ = _; unfold errSp; rw [E4.out, if_neg hE]
        clear hE
        go_wp2_with fail
        go_meet
        exact ⟨by rw [E2.out], by rw [E1.out], by rw [E3.out], ⟨none, 0, 0, rfl, fun h => absurd h HE.out⟩, V1.out⟩
    case rest =>
      obtain ⟨rfl, rfl, rfl, ⟨qg, gk, dg, rfl, hg⟩, u8⟩ := hcut
      have V2 := Lib.hid u8
      have HG := Lib.hid hg
      clear u8 hg V1 V1' d0 d1 d2 d3 d4
      generalize wc = w2 at *
      obtain ⟨d0, d1, d2, d3, d4⟩ := A0.out.up V2.out
      obtain ⟨c0, c1, c2, c3, c4⟩ := A6.out.up V2.out
      go_upto_if 65 with fail
      go_cut [16, 17] (fun a _ wx => ∃ qa da, a = .slice qa (allV s m).length da ∧ Row wx qa 1 (ints (allV s m)) ∧ Up w2 wx)
      case first =>
        by_cases hu : errAt s m = 0
        · obtain ⟨hc, hm1, hm2⟩ := errAt_zero hu
          have ok := chk_ok hc
          obtain ⟨rfl, g1, g2, rg⟩ := HG.out hc
          have n1 : (errAt s m == 0) = true := by rw [hu]; rfl
          rw [n1]
          have HALL : Hid (allV s m = (List.range s.floors.length).map (st s m)) := Lib.hid (allV_in hu)
          have hh := hgt_rng ok.table m hm1
          have f0 := ok.fl0
          have f8 := ok.fl1
          have RG := Lib.hid rg
          obtain ⟨bg, og, rfl, -⟩ := rg.int 0 (by rw [gatesR_len]; exact f0)
          have HHT := Lib.hid (fun W (u : Up w2 W) => refHeight_c s m W (L6.out.up (Up.trans V2.out u)) ok.table hm1 hm2)
          have HST := Lib.hid (fun (p : Nat) W => refState_c (pT := rT) (pF := rF) (pS := rS) (cT := gT) (cF := gF) (cS := gS) s (hgt s.table m) (gateR s p) W ok hh.1 hh.2 (by have := gateR_rng s p; omega) (by have := gateR_rng s p; omega))
          have HSS := Lib.hid (fun (p : Nat) => stR_st ok m p hh.1 hh.2)
          have A6' := Lib.hid (A6.out.up V2.out)
          obtain ⟨i0, hi, hz0, hz1, hz2⟩ := info_parts info3
          clear hc hm1 hm2 ok g1 g2 rg hh hu HG
          go_wp2_with fail
          go_loopw [69, 16, 17] (fun i v _ wr => ∃ k : Nat, k ≤ s.floors.length ∧ i = .int .i64 k ∧ wr.ownsRow w2.heap.size 3 1 v k (ints ((List.range k).map (st s m))).flatten ∧ Up w2 wr) (fun i _ _ _ => s.floors.length - (intOf i).toNat)
          case atStart => exact ⟨0, by omega, rfl, World.ownsRow_nil _ _ _ _, Below.refl _ _⟩
          case round =>
            obtain ⟨k, hk, rfl, hown, hu⟩ := hrel
            have HO := Lib.hid hown
            have HU := Lib.hid hu
            clear hown hu c0 c1 c2 c3 c4 d0 d1 d2 d3 d4
            obtain ⟨c0, c1, c2, c3, c4⟩ := A6'.out.up HU.out
            have hsz := HU.out.size
            by_cases hlt : k < s.floors.length
            · have k1 : (k : Int) < s.floors.length := by omega
              have hkg : k < (gatesR s).length := by rw [gatesR_len]; exact hlt
              obtain ⟨bh, oh, he, hc1⟩ := RG.out.int k hkg
              obtain ⟨rfl, rfl⟩ : bg = bh ∧ og = oh := by simpa using he
              rw [gatesR_at s hkg] at hc1
              have hc := HU.out.cellAt hc1
              clear he hkg
              go_upto_region 21 with fail
              refine region_tail (fun W' => W'.cell? ⟨B6, 0, none⟩ = some (.slice rT s.table.length gT) ∧ W'.cell? ⟨B6, 1, none⟩ = some (.int .i64 s.lo) ∧ W'.cell? ⟨B6, 2, none⟩ = some (.int .i64 s.hi) ∧ W'.cell? ⟨B6, 3, none⟩ = some (.slice rF s.floors.length gF) ∧ W'.cell? ⟨B6, 4, none⟩ = some (.slice rS s.sills.length gS) ∧ W'.cell? ⟨bg, og + k, none⟩ = some (.int .i64 (gateR s k))) 12 mixed (by kernel_rfl) ⟨c0, c1, c2, c3, c4, hc⟩ (fun hHeld => ?_)
              refine wpAnyG_take 0 72 (v := ?_) rfl rfl (by kernel_rfl) (fun _ _ _ h => h) (Or.inl ⟨by rfl, ?_⟩) (by assumption) ?_
              rotate_left
              · (intro w' hSw; (try dsimp only at hSw); go_split_ands; go_simp; try with_reducible rfl)
              try simp only [List.setIfInBounds_toArray, List.set_cons_zero, List.set_cons_succ]
              refine wpAnyG_take 1 73 (v := ?_) rfl rfl (by kernel_rfl) (fun _ _ _ h => h) (Or.inl ⟨by rfl, ?_⟩) (by assumption) ?_
              rotate_left
              · (intro w' hSw; (try dsimp only at hSw); go_split_ands; go_simp; try with_reducible rfl)
              try simp only [List.setIfInBounds_toArray, List.set_cons_zero, List.set_cons_succ]
              refine wpAnyG_take 2 74 (v := ?_) rfl rfl (by kernel_rfl) (fun _ _ _ h => h) (Or.inl ⟨by rfl, ?_⟩) (by assumption) ?_
              rotate_left
              · (intro w' hSw; (try dsimp only at hSw); go_split_ands; go_simp; try with_reducible rfl)
              try simp only [List.setIfInBounds_toArray, List.set_cons_zero, List.set_cons_succ]
              refine wpAnyG_take 3 75 (v := ?_) rfl rfl (by kernel_rfl) (fun _ _ _ h => h) (Or.inl ⟨by rfl, ?_⟩) (by assumption) ?_
              rotate_left
              · (intro w' hSw; (try dsimp only at hSw); go_split_ands; go_simp; try with_reducible rfl)
              try simp only [List.setIfInBounds_toArray, List.set_cons_zero, List.set_cons_succ]
              refine wpAnyG_take 5 77 (v := ?_) rfl rfl (by kernel_rfl) (fun _ _ _ h => h) (Or.inl ⟨by rfl, ?_⟩) (by assumption) ?_
              rotate_left
              · (intro w' hSw; (try dsimp only at hSw); go_split_ands; go_simp; try with_reducible rfl)
              try simp only [List.setIfInBounds_toArray, List.set_cons_zero, List.set_cons_succ]
              refine wpAnyG_take 6 78 (v := ?_) rfl rfl (by kernel_rfl) (fun _ _ _ h => h) (Or.inl ⟨by rfl, ?_⟩) (by assumption) ?_
              rotate_left
              · (intro w' hSw; (try dsimp only at hSw); go_split_ands; go_simp; try with_reducible rfl)
              try simp only [List.setIfInBounds_toArray, List.set_cons_zero, List.set_cons_succ]
              refine wpAnyG_take 7 79 (v := ?_) rfl rfl (by kernel_rfl) (fun _ _ _ h => h) (Or.inl ⟨by rfl, ?_⟩) (by assumption) ?_
              rotate_left
              · (intro w' hSw; (try dsimp only at hSw); go_split_ands; go_simp; try with_reducible rfl)
              try simp only [List.setIfInBounds_toArray, List.set_cons_zero, List.set_cons_succ]
              refine wpAnyG_take 8 80 (v := ?_) rfl rfl (by kernel_rfl) (fun _ _ _ h => h) (Or.inl ⟨by rfl, ?_⟩) (by assumption) ?_
              rotate_left
              · (intro w' hSw; (try dsimp only at hSw); go_split_ands; go_simp; try with_reducible rfl)
              try simp only [List.setIfInBounds_toArray, List.set_cons_zero, List.set_cons_succ]
              refine wpAnyG_do 4 rfl (by kernel_rfl) (fun K hK => ?_)
              rw [if_pos (by rfl)]
              go_simp
              refine (HHT.out _ (Up.trans HU.out (by (repeat (first | exact Below.refl _ _ | (with_reducible refine Below.drewN' ?_ _) | (with_reducible refine Below.drew ?_) | (with_reducible refine Below.setCell ?_ (by first | exact Nat.le_refl _ | omega | (with_reducible (repeat (first | refine sz_alloc ?_ | refine sz_setCell ?_ | refine sz_drew ?_ | refine sz_drewN ?_)); first | exact Nat.le_refl _ | omega) | (simp only [World.size_alloc, World.size_setCell, World.size_drew, size_drewN']; omega)) _) | (with_reducible refine Below.alloc ?_ (by first | exact Nat.le_refl _ | omega | (with_reducible (repeat (first | refine sz_alloc ?_ | refine sz_setCell ?_ | refine sz_drew ?_ | refine sz_drewN ?_)); first | exact Nat.le_refl _ | omega) | (simp only [World.size_alloc, World.size_setCell, World.size_drew, size_drewN']; omega)) _) | assumption))))).mono ?_
              rintro e w4 ⟨rfl, u4⟩
              have v4 : Up wr w4 := Up.trans (by (repeat (first | exact Below.refl _ _ | (with_reducible refine Below.drewN' ?_ _) | (with_reducible refine Below.drew ?_) | (with_reducible refine Below.setCell ?_ (by first | exact Nat.le_refl _ | omega | (with_reducible (repeat (first | refine sz_alloc ?_ | refine sz_setCell ?_ | refine sz_drew ?_ | refine sz_drewN ?_)); first | exact Nat.le_refl _ | omega) | (simp only [World.size_alloc, World.size_setCell, World.size_drew, size_drewN']; omega)) _) | (with_reducible refine Below.alloc ?_ (by first | exact Nat.le_refl _ | omega | (with_reducible (repeat (first | refine sz_alloc ?_ | refine sz_setCell ?_ | refine sz_drew ?_ | refine sz_drewN ?_)); first | exact Nat.le_refl _ | omega) | (simp only [World.size_alloc, World.size_setCell, World.size_drew, size_drewN']; omega)) _) | assumption))) u4
              refine hK.out _ _ ⟨v4.cellAt c0, v4.cellAt c1, v4.cellAt c2, v4.cellAt c3, v4.cellAt c4, v4.cellAt hc⟩ (fun hHeld => ?_)
              clear hK K
              refine wpAnyG_do 9 rfl (by kernel_rfl) (fun K hK => ?_)
              rw [if_pos (by rfl)]
              go_simp
              refine (HST.out k _).mono ?_
              rintro e w5 ⟨rfl, u5⟩
              have v5 : Up wr w5 := Up.trans v4 u5
              rw [HSS.out k]
              refine hK.out _ _ ⟨v5.cellAt c0, v5.cellAt c1, v5.cellAt c2, v5.cellAt c3, v5.cellAt c4, v5.cellAt hc⟩ (fun hHeld => ?_)
              clear hK K
              refine wpAnyG_do 10 rfl (by kernel_rfl) (fun K hK => ?_)
              rw [if_pos (by rfl)]
              go_simp
              have hsz5 := v5.size
              have v6 : Up wr (w5.alloc (.cells #[.int .i64 (st s m k)] 3)) := Up.trans v5 (by (repeat (first | exact Below.refl _ _ | (with_reducible refine Below.drewN' ?_ _) | (with_reducible refine Below.drew ?_) | (with_reducible refine Below.setCell ?_ (by first | exact Nat.le_refl _ | omega | (with_reducible (repeat (first | refine sz_alloc ?_ | refine sz_setCell ?_ | refine sz_drew ?_ | refine sz_drewN ?_)); first | exact Nat.le_refl _ | omega) | (simp only [World.size_alloc, World.size_setCell, World.size_drew, size_drewN']; omega)) _) | (with_reducible refine Below.alloc ?_ (by first | exact Nat.le_refl _ | omega | (with_reducible (repeat (first | refine sz_alloc ?_ | refine sz_setCell ?_ | refine sz_drew ?_ | refine sz_drewN ?_)); first | exact Nat.le_refl _ | omega) | (simp only [World.size_alloc, World.size_setCell, World.size_drew, size_drewN']; omega)) _) | assumption)))
              have O6 := Lib.hid ((ownsRow_up HO.out v5).alloc (.cells #[.int .i64 (st s m k)] 3))
              refine hK.out _ _ ⟨v6.cellAt c0, v6.cellAt c1, v6.cellAt c2, v6.cellAt c3, v6.cellAt c4, v6.cellAt hc⟩ (fun hHeld => ?_)
              clear hK K
              refine wpAnyG_do 11 rfl (by kernel_rfl) (fun K hK => ?_)
              rw [if_pos (by rfl)]
              refine wp_append_own _ _ _ 25 rfl w2.heap.size 3 i0 (.int .i64 0) 1 8 Try.underlying25 hi hz0 hz1 hz2 rfl (by decide) _ k _ rfl O6.out ⟨w5.heap.size, 0, none⟩ 1 1 [.int .i64 (st s m k)] (by go_simp) rfl (newsAt w5 rfl [.int .i64 (st s m k)] _) (by simp [Value.oneCell']) (by simp [maxLen]; omega) (by omega) (sz_alloc (Nat.le_trans hsz hsz5)) ?_
              intro v' w8 hown8 hgr8 hnn
              clear hnn
              have v26 : Up w2 (w5.alloc (.cells #[.int .i64 (st s m k)] 3)) := Up.trans HU.out v6
              have u8 : Up w2 w8 := v26.grown hgr8 v26.size (fun j e => (O6.out.lt j e).1)
              have U8 := Lib.hid u8
              have O8 := Lib.hid hown8
              refine hK.out _ _ (by obtain ⟨a0, a1, a2, a3, a4⟩ := A6'.out.up u8; exact ⟨a0, a1, a2, a3, a4, u8.cellAt hc1⟩) (fun hHeld => ?_)
              clear hK K hown8 hgr8 v4 v5 v6 v26 hc1 u8 O6 HO c0 c1 c2 c3 c4 hc hHeld u4 u5
              try simp only [List.setIfInBounds_toArray, List.set_cons_zero, List.set_cons_succ]
              refine wpAnyG_tail (by kernel_rfl) ?_
              change wpList _ _ _ [_] _ _
              have sy : IntKind.i64.wrap ((k : Int) + 1) = k + 1 := IntWalk.i64_in _ (by omega)
              go_wp2_with fail
              go_roundw
              case rel =>
                try ((repeat apply Exists.intro); refine ⟨?_, rfl⟩)
                refine ⟨k + 1, by omega, by go_num, ?_, U8.out⟩
                have e : (ints ((List.range (k + 1)).map (st s m))).flatten = (ints ((List.range k).map (st s m))).flatten ++ [.int .i64 (st s m k)] := by
                  rw [List.range_succ, List.map_append]
                  unfold ints
                  rw [List.map_append, List.flatten_append]
                  rfl
                rw [e]
                exact O8.out
              case measure => simp [intOf]; omega
            · obtain rfl : k = s.floors.length := by omega
              obtain ⟨qa, da, rfl, a1, a2, hR, -⟩ := Row.of_own (rows := ints (allV s m)) (flatOk_ints _) (show wr.ownsRow w2.heap.size 3 1 _ _ (ints (allV s m)).flatten by rw [HALL.out]; exact HO.out) (by simp [ints, HALL.out])
              have hl : s.floors.length = (allV s m).length := by rw [HALL.out]; simp
              have HR := Lib.hid hR
              clear hR a1 a2 c0 c1 c2 c3 c4
              go_wp2_with fail
              go_meet
              exact ⟨qa, da, by rw [← hl], HR.out, HU.out⟩
        · have n1 : (errAt s m == 0) = false := beq_eq_false_iff_ne.2 hu
          have hl : Hid (allV s m = []) := Lib.hid (by unfold allV; rw [if_neg hu])
          clear hu
          go_wp2_with fail
          go_meet
          rw [hl.out]
          exact ⟨none, 0, rfl, Row.nil _ _ _, Below.refl _ _⟩
      case rest =>
        obtain ⟨qa, da, rfl, ra, u9⟩ := hcut
        have RA := Lib.hid ra
        have V3 := Lib.hid (Up.trans V2.out u9)
        have HG3 : Hid (chk s = 0 → gk = s.floors.length ∧ Row wc qg 1 (ints (gatesR s))) := Lib.hid (fun h => ⟨(HG.out h).1, (HG.out h).2.2.2.up u9⟩)
        clear ra u9 HG V2 c0 c1 c2 c3 c4 d0 d1 d2 d3 d4
        generalize wc = w3 at *
        obtain ⟨d0, d1, d2, d3, d4⟩ := A5.out.up V3.out
        go_upto_if 86 with fail
        go_cut [15] (fun a wx => a = .int .i64 (atV s m x) ∧ Up w3 wx)
        case first =>
          by_cases hw : errHere s m x = 0
          · have hu : errAt s m = 0 := by
              unfold errHere at hw
              by_cases h : errAt s m = 0
              · exact h
              · rw [if_neg h] at hw; exact absurd hw h
            have hp : isPl s x = true := by
              unfold errHere at hw
              rw [if_pos hu] at hw
              cases h : isPl s x
              · rw [h] at hw; exact absurd hw (by decide)
              · rfl
            obtain ⟨hp0, hp1⟩ := inB_true.1 hp
            obtain ⟨p, hxp⟩ : ∃ p : Nat, x = p := ⟨x.toNat, by omega⟩
            have hpl : p < s.floors.length := by omega
            have HV : Hid (atV s m x = st s m p) := by show _ = _; unfold atV; rw [if_pos hw, hxp]; rfl
            have n1 : (errHere s m x == 0) = true := by rw [hw]; rfl
            rw [n1]
            have hlen : (allV s m).length = s.floors.length := by rw [allV_in hu]; simp
            obtain ⟨ba, oa, rfl, hc⟩ := RA.out.int p (by rw [hlen]; exact hpl)
            have he : (allV s m)[p]'(by rw [hlen]; exact hpl) = st s m p := by simp [allV_in hu]
            rw [he] at hc
            have k1 : (p : Int) < (allV s m).length := by omega
            subst hxp
            clear he hlen hw hu hp hp0 hp1 hpl
            go_wp2_with fail
            go_meet
            exact ⟨by rw [HV.out], Below.refl _ _⟩
          · have n1 : (errHere s m x == 0) = false := beq_eq_false_iff_ne.2 hw
            rw [n1]
            have HV : Hid (atV s m x = 0) := by show _ = _; unfold atV; rw [if_neg hw]
            clear hw
            go_wp2_with fail
            go_meet
            exact ⟨by rw [HV.out], Below.refl _ _⟩
        case rest =>
          obtain ⟨rfl, u9⟩ := hcut
          have V4 := Lib.hid (Up.trans V3.out u9)
          have RA4 := Lib.hid (RA.out.up u9)
          have HG4 : Hid (chk s = 0 → gk = s.floors.length ∧ Row wc qg 1 (ints (gatesR s))) := Lib.hid (fun h => ⟨(HG3.out h).1, (HG3.out h).2.up u9⟩)
          clear u9 HG3 V3 RA d0 d1 d2 d3 d4
          generalize wc = w4 at *
          obtain ⟨d0, d1, d2, d3, d4⟩ := A5.out.up V4.out
          go_wp2_with fail
          refine (At_c s m x w4 (L5.out.up V4.out)).mono ?_
          rintro e w5 ⟨rfl, v5⟩
          have V5 := Lib.hid (Up.trans V4.out v5)
          have X5 := Lib.hid v5
          clear v5 d0 d1 d2 d3 d4
          obtain ⟨d0, d1, d2, d3, d4⟩ := A5.out.up V5.out
          go_wp2_with fail
          refine (All_c s m w5 (L5.out.up V5.out)).mono ?_
          rintro e w6 ⟨pa, ka, rfl, -, -, rb, v6⟩
          have V6 := Lib.hid (Up.trans V5.out v6)
          have X6 := Lib.hid (Up.trans X5.out v6)
          have RB := Lib.hid rb
          clear v6 rb V5 X5 d0 d1 d2 d3 d4
          obtain ⟨d0, d1, d2, d3, d4⟩ := A5.out.up V6.out
          go_wp2_with fail
          refine (Spans_c s x q w6 (L5.out.up V6.out)).mono ?_
          rintro e w7 ⟨ps, ks, rfl, s1, s2, rs, v7⟩
          have V7 := Lib.hid (Up.trans V6.out v7)
          have X7 := Lib.hid (Up.trans X6.out v7)
          have RB7 := Lib.hid (RB.out.up v7)
          have RA7 := Lib.hid (RA4.out.up X7.out)
          have RS := Lib.hid rs
          have HSL := Lib.hid (Nat.le_trans s1 s2)
          have HG7 : Hid (chk s = 0 → gk = s.floors.length ∧ Row w7 qg 1 (ints (gatesR s))) := Lib.hid (fun h => ⟨(HG4.out h).1, (HG4.out h).2.up X7.out⟩)
          clear v7 rs s1 s2 V6 X6 X7 RB RA4 HG4 V4 d0 d1 d2 d3 d4
          generalize hL : allV s m = L at *
          have hl9 : L.length ≤ 8 := by
            rw [← hL]
            by_cases hu : errAt s m = 0
            · rw [allV_in hu]; simp; exact (chk_ok (errAt_zero hu).1).fl1
            · unfold allV; rw [if_neg hu]; simp
          clear hL
          go_wp2_with fail
          go_loopw [138, 24, 25] (fun i _ _ wr => ∃ k : Nat, k ≤ L.length ∧ i = .int .i64 k ∧ Up w7 wr) (fun i _ _ _ => L.length - (intOf i).toNat)
          case atStart => exact ⟨0, by omega, rfl, Below.refl _ _⟩
          case round =>
            obtain ⟨k, hk, rfl, hu⟩ := hrel
            have HU := Lib.hid hu
            clear hu
            by_cases hlt : k < L.length
            · have k1 : (k : Int) < L.length := by omega
              obtain ⟨ba, oa, rfl, hc⟩ := (RA7.out.up HU.out).int k hlt
              obtain ⟨bb, ob, rfl, hc'⟩ := (RB7.out.up HU.out).int k hlt
              generalize L[k] = v at *
              have sy : IntKind.i64.wrap ((k : Int) + 1) = k + 1 := IntWalk.i64_in _ (by omega)
              go_wp2_with fail
              go_roundw
              case rel =>
                try ((repeat apply Exists.intro); refine ⟨?_, rfl⟩)
                exact ⟨k + 1, by omega, by go_num, HU.out⟩
              case measure => simp [intOf]; omega
            · obtain rfl : k = L.length := by omega
              have V8 := Lib.hid (Up.trans V7.out HU.out)
              have RS8 := Lib.hid (RS.out.up HU.out)
              have HG8 : Hid (chk s = 0 → gk = s.floors.length ∧ Row wr qg 1 (ints (gatesR s))) := Lib.hid (fun h => ⟨(HG7.out h).1, (HG7.out h).2.up HU.out⟩)
              clear HU V7 RS HG7 RA7 RB7
              go_upto_if 151 with fail
              generalize wr = w8 at *
              go_cut [26] (fun a wx => ∃ qs ds, a = .slice qs (spV s x q).length ds ∧ Row wx qs 2 (pairs (spV s x q)) ∧ Up w8 wx)
              case first =>
                by_cases hv : errSp s x q = 0
                · have hf : errFor s x = 0 := by
                    unfold errSp at hv
                    by_cases h : errFor s x = 0
                    · exact h
                    · rw [if_neg h] at hv; exact absurd hv h
                  have hc : chk s = 0 := by
                    unfold errFor at hf
                    by_cases hc : chk s = 0
                    · exact hc
                    · rw [if_neg hc] at hf; exact absurd hf hc
                  have hp : isPl s x = true := by
                    unfold errFor at hf
                    rw [if_pos hc] at hf
                    cases h : isPl s x
                    · rw [h] at hf; exact absurd hf (by decide)
                    · rfl
                  have ok := chk_ok hc
                  have OK := Lib.hid ok
                  obtain ⟨hp0, hp1⟩ := inB_true.1 hp
                  obtain ⟨p, hxp⟩ : ∃ p : Nat, x = p := ⟨x.toNat, by omega⟩
                  have hpl : p < s.floors.length := by omega
                  obtain ⟨rfl, rg⟩ := HG8.out hc
                  have HV : Hid (spV s x q = spansOf (spB s x q) (firstM s.table) (dayN s)) := by show _ = _; unfold spV; rw [if_pos hv]
                  have n1 : (errSp s x q == 0) = true := by rw [hv]; rfl
                  rw [n1]
                  have hpg : p < (gatesR s).length := by rw [gatesR_len]; exact hpl
                  obtain ⟨bg, og, rfl, hc0⟩ := rg.int p hpg
                  rw [gatesR_at s hpg] at hc0
                  have k1 : (p : Int) < s.floors.length := by omega
                  have HSAY := Lib.hid (fun W (u : Up w8 W) => refSays_c s (gateR s p) q W ok (L6.out.up (Up.trans V8.out u)) (by have := gateR_rng s p; omega) (by have := gateR_rng s p; omega))
                  have HSP : Hid (∀ (j : Nat), j < dayN s → spB s x q (firstM s.table + (j : Int)) = tr (saysR s (gateR s p) q) j) := by
                    intro j hj
                    have hd := firstM_lt ok.table
                    have hh := hgt_rng ok.table (firstM s.table + (j : Nat)) (by omega)
                    have hjl : j < (saysR s (gateR s p) q).length := by rw [saysR_len]; exact hj
                    rw [← tr_get hjl]
                    simp only [saysR, List.getElem_map, List.getElem_range]
                    unfold sayR spB fitB
                    rw [stR_st ok _ p hh.1 hh.2, hxp]
                    simp
                  have HSPN := Lib.hid (fun qq dd W (u : Up w8 W) (hr : Row W qq 1 (bools (saysR s (gateR s p) q))) => refSpans_c s (spB s x q) (saysR s (gateR s p) q) (dayN s) qq dd W (saysR_len _ _ _) rfl ok (L6.out.up (Up.trans V8.out u)) hr HSP.out)
                  subst hxp
                  obtain ⟨c0, c1, c2, c3, c4⟩ := A6.out.up V8.out
                  clear hpg rg hf hv hc hp hp0 hp1 hpl ok HG8
                  go_upto_region 38 with fail
                  refine region_tail (fun W' => W'.cell? ⟨B6, 0, none⟩ = some (.slice rT s.table.length gT) ∧ W'.cell? ⟨B6, 1, none⟩ = some (.int .i64 s.lo) ∧ W'.cell? ⟨B6, 2, none⟩ = some (.int .i64 s.hi) ∧ W'.cell? ⟨B6, 3, none⟩ = some (.slice rF s.floors.length gF) ∧ W'.cell? ⟨B6, 4, none⟩ = some (.slice rS s.sills.length gS) ∧ W'.cell? ⟨bg, og + p, none⟩ = some (.int .i64 (gateR s p))) 9 mixed (by kernel_rfl) ⟨c0, c1, c2, c3, c4, hc0⟩ (fun hHeld => ?_)
                  refine wpAnyG_take 0 152 (v := ?_) rfl rfl (by kernel_rfl) (fun _ _ _ h => h) (Or.inl ⟨by rfl, ?_⟩) (by assumption) ?_
                  rotate_left
                  · (intro w' hSw; (try dsimp only at hSw); go_split_ands; go_simp; try with_reducible rfl)
                  try simp only [List.setIfInBounds_toArray, List.set_cons_zero, List.set_cons_succ]
                  refine wpAnyG_take 1 153 (v := ?_) rfl rfl (by kernel_rfl) (fun _ _ _ h => h) (Or.inl ⟨by rfl, ?_⟩) (by assumption) ?_
                  rotate_left
                  · (intro w' hSw; (try dsimp only at hSw); go_split_ands; go_simp; try with_reducible rfl)
                  try simp only [List.setIfInBounds_toArray, List.set_cons_zero, List.set_cons_succ]
                  refine wpAnyG_take 2 154 (v := ?_) rfl rfl (by kernel_rfl) (fun _ _ _ h => h) (Or.inl ⟨by rfl, ?_⟩) (by assumption) ?_
                  rotate_left
                  · (intro w' hSw; (try dsimp only at hSw); go_split_ands; go_simp; try with_reducible rfl)
                  try simp only [List.setIfInBounds_toArray, List.set_cons_zero, List.set_cons_succ]
                  refine wpAnyG_take 3 155 (v := ?_) rfl rfl (by kernel_rfl) (fun _ _ _ h => h) (Or.inl ⟨by rfl, ?_⟩) (by assumption) ?_
                  rotate_left
                  · (intro w' hSw; (try dsimp only at hSw); go_split_ands; go_simp; try with_reducible rfl)
                  try simp only [List.setIfInBounds_toArray, List.set_cons_zero, List.set_cons_succ]
                  refine wpAnyG_take 4 156 (v := ?_) rfl rfl (by kernel_rfl) (fun _ _ _ h => h) (Or.inl ⟨by rfl, ?_⟩) (by assumption) ?_
                  rotate_left
                  · (intro w' hSw; (try dsimp only at hSw); go_split_ands; go_simp; try with_reducible rfl)
                  try simp only [List.setIfInBounds_toArray, List.set_cons_zero, List.set_cons_succ]
                  refine wpAnyG_take 5 157 (v := ?_) rfl rfl (by kernel_rfl) (fun _ _ _ h => h) (Or.inl ⟨by rfl, ?_⟩) (by assumption) ?_
                  rotate_left
                  · (intro w' hSw; (try dsimp only at hSw); go_split_ands; go_simp; try with_reducible rfl)
                  try simp only [List.setIfInBounds_toArray, List.set_cons_zero, List.set_cons_succ]
                  refine wpAnyG_take 6 158 (v := ?_) rfl rfl (by kernel_rfl) (fun _ _ _ h => h) (Or.inl ⟨by rfl, ?_⟩) (by assumption) ?_
                  rotate_left
                  · (intro w' hSw; (try dsimp only at hSw); go_split_ands; go_simp; try with_reducible rfl)
                  try simp only [List.setIfInBounds_toArray, List.set_cons_zero, List.set_cons_succ]
                  refine wpAnyG_do 7 rfl (by kernel_rfl) (fun K hK => ?_)
                  rw [if_pos (by rfl)]
                  go_simp
                  refine (HSAY.out _ (by (repeat (first | exact Below.refl _ _ | (with_reducible refine Below.drewN' ?_ _) | (with_reducible refine Below.drew ?_) | (with_reducible refine Below.setCell ?_ (by first | exact Nat.le_refl _ | omega | (with_reducible (repeat (first | refine sz_alloc ?_ | refine sz_setCell ?_ | refine sz_drew ?_ | refine sz_drewN ?_)); first | exact Nat.le_refl _ | omega) | (simp only [World.size_alloc, World.size_setCell, World.size_drew, size_drewN']; omega)) _) | (with_reducible refine Below.alloc ?_ (by first | exact Nat.le_refl _ | omega | (with_reducible (repeat (first | refine sz_alloc ?_ | refine sz_setCell ?_ | refine sz_drew ?_ | refine sz_drewN ?_)); first | exact Nat.le_refl _ | omega) | (simp only [World.size_alloc, World.size_setCell, World.size_drew, size_drewN']; omega)) _) | assumption)))).mono ?_
                  rintro e wa ⟨q1, d1, rfl, -, -, r1, u1⟩
                  have v1 : Up w8 wa := Up.trans (by (repeat (first | exact Below.refl _ _ | (with_reducible refine Below.drewN' ?_ _) | (with_reducible refine Below.drew ?_) | (with_reducible refine Below.setCell ?_ (by first | exact Nat.le_refl _ | omega | (with_reducible (repeat (first | refine sz_alloc ?_ | refine sz_setCell ?_ | refine sz_drew ?_ | refine sz_drewN ?_)); first | exact Nat.le_refl _ | omega) | (simp only [World.size_alloc, World.size_setCell, World.size_drew, size_drewN']; omega)) _) | (with_reducible refine Below.alloc ?_ (by first | exact Nat.le_refl _ | omega | (with_reducible (repeat (first | refine sz_alloc ?_ | refine sz_setCell ?_ | refine sz_drew ?_ | refine sz_drewN ?_)); first | exact Nat.le_refl _ | omega) | (simp only [World.size_alloc, World.size_setCell, World.size_drew, size_drewN']; omega)) _) | assumption))) u1
                  have R1 := Lib.hid r1
                  rw [saysR_len]
                  refine hK.out _ _ ⟨v1.cellAt c0, v1.cellAt c1, v1.cellAt c2, v1.cellAt c3, v1.cellAt c4, v1.cellAt hc0⟩ (fun hHeld => ?_)
                  clear hK K r1 u1
                  refine wpAnyG_do 8 rfl (by kernel_rfl) (fun K hK => ?_)
                  rw [if_pos (by rfl)]
                  go_simp
                  refine (HSPN.out q1 d1 wa v1 R1.out).mono ?_
                  rw [← HV.out]
                  rintro e wb ⟨q2, d2, rfl, -, -, r2, u2⟩
                  have v2 : Up w8 wb := Up.trans v1 u2
                  have R2 := Lib.hid r2
                  have Y2 := Lib.hid v2
                  refine hK.out _ _ ⟨v2.cellAt c0, v2.cellAt c1, v2.cellAt c2, v2.cellAt c3, v2.cellAt c4, v2.cellAt hc0⟩ (fun hHeld => ?_)
                  clear hK K r2 u2 v1 v2 c0 c1 c2 c3 c4 hc0 hHeld
                  refine wpAnyG_tail (by kernel_rfl) ?_
                  change wpList _ _ _ [_] _ _
                  go_wp2_with fail
                  go_meet
                  exact ⟨q2, d2, rfl, R2.out, Y2.out⟩
                · have n1 : (errSp s x q == 0) = false := beq_eq_false_iff_ne.2 hv
                  rw [n1]
                  have HV : Hid (spV s x q = []) := by show _ = _; unfold spV; rw [if_neg hv]
                  clear hv
                  go_wp2_with fail
                  go_meet
                  rw [HV.out]
                  exact ⟨none, 0, rfl, Row.nil _ _ _, Below.refl _ _⟩
              case rest =>
                obtain ⟨qs, ds, rfl, r2, u9⟩ := hcut
                have V9 := Lib.hid (Up.trans V8.out u9)
                have R2 := Lib.hid r2
                have RS9 := Lib.hid (RS8.out.up u9)
                clear r2 u9 V8 RS8 HG8
                generalize wc = w9 at *
                have HEQ := Lib.hid (eqSpan_c (spV s x q) (spV s x q) ps qs ks ds w9 RS9.out R2.out HSL.out HSL.out)
                rw [decide_eq_true (rfl : spV s x q = spV s x q)] at HEQ
                go_wp2_with fail
                refine HEQ.out.mono ?_
                rintro e z1 ⟨rfl, v⟩
                have Z1 := Lib.hid (Up.trans V9.out v)
                clear v
                obtain ⟨c0, c1, c2, c3, c4⟩ := A5.out.up Z1.out
                obtain ⟨d0, d1, d2, d3, d4⟩ := A0.out.up Z1.out
                go_wp2_with fail
                refine (same_c s z1 (L5.out.up Z1.out) (HL.out.up (Up.trans U0.out Z1.out))).mono ?_
                rintro e z2 ⟨rfl, v⟩
                have Z2 := Lib.hid (Up.trans U0.out (Up.trans Z1.out v))
                clear v Z1 c0 c1 c2 c3 c4 d0 d1 d2 d3 d4
                go_wp2_with fail
                refine (awake_c z2).mono ?_
                rintro e z3 ⟨rfl, v⟩
                have Z3 := Lib.hid (Up.trans Z2.out v)
                clear v Z2
                go_wp2_with fail
                go_ret
                exact ⟨rfl, Z3.out⟩
end
end Go.Proofs.Ytcljkkojeleakaa
/- Arguments of the laws on sands, opened. -/
namespace Go.Proofs.Ytcljkkojeleakaa
open Go.ChangeShapes Go.WideShapes Go.ChangeAt Go.RowKit

theorem own : ownKnob Try.prog.godebug = none := by kernel_rfl
theorem laidOut : laidOutB Try.prog = true := by kernel_rfl
theorem cellsWater : Try.prog.cellsOf 103 = 2 := by kernel_rfl
theorem cellsSill : Try.prog.cellsOf 97 = 3 := by kernel_rfl
theorem cellsInt : Try.prog.cellsOf 3 = 1 := by kernel_rfl
theorem cellsSands : Try.prog.cellsOf 28 = 5 := by kernel_rfl
theorem cellsSpan : Try.prog.cellsOf 24 = 2 := by kernel_rfl
theorem cellsT : Try.prog.cellsOf 22 = 1 := by kernel_rfl
theorem cellsF : Try.prog.cellsOf 25 = 1 := by kernel_rfl
theorem cellsS : Try.prog.cellsOf 26 = 1 := by kernel_rfl
theorem bytesWater : Try.prog.bytesOf 103 = 16 := by kernel_rfl
theorem bytesSill : Try.prog.bytesOf 97 = 24 := by kernel_rfl
theorem bytesInt : Try.prog.bytesOf 3 = 8 := by kernel_rfl

section
variable {H : Type} {enc : TypeId × Value → H} {w : World}

theorem el_water : ∀ fuel cs (y : DataW H × List MemPlace), DataW.trod enc Try.prog w 0 (fun _ => true) true fuel 103 cs = some y → AllInts 2 cs := fun _ _ _ h =>
  open_struct_row Try.underlying103 cellsWater (fun i f hf => by
    match i, hf with
    | 0, hf => cases hf; exact ⟨rfl, Try.underlying3, cellsInt⟩
    | 1, hf => cases hf; exact ⟨rfl, Try.underlying3, cellsInt⟩
    | i + 2, hf => simp at hf) h
theorem el_sill : ∀ fuel cs (y : DataW H × List MemPlace), DataW.trod enc Try.prog w 0 (fun _ => true) true fuel 97 cs = some y → AllInts 3 cs := fun _ _ _ h =>
  open_struct_row Try.underlying97 cellsSill (fun i f hf => by
    match i, hf with
    | 0, hf => cases hf; exact ⟨rfl, Try.underlying3, cellsInt⟩
    | 1, hf => cases hf; exact ⟨rfl, Try.underlying3, cellsInt⟩
    | 2, hf => cases hf; exact ⟨rfl, Try.underlying3, cellsInt⟩
    | i + 3, hf => simp at hf) h
theorem el_int : ∀ fuel cs (y : DataW H × List MemPlace), DataW.trod enc Try.prog w 0 (fun _ => true) true fuel 3 cs = some y → AllInts 1 cs := fun _ _ _ h => open_int_row Try.underlying3 h

theorem room_of {t e : TypeId} {d : DataW H} {cap len b : Nat} (ht : Try.prog.underlying t = some (.slice e)) (hb : Try.prog.bytesOf e = b) (hl : len ≤ cap)
    (hd : (d = .nil ∧ cap = 0) ∨ ∃ el sp, d = .slice el sp ∧ el.length + sp.length = cap) (hz : ∀ n ∈ DataW.weights Try.prog t d, n ≤ reachBytes) : len * b ≤ 140737488355328 := by
  rcases hd with ⟨rfl, rfl⟩ | ⟨el, sp, rfl, rfl⟩
  · have : len = 0 := by omega
    subst this; simp
  · have h := hz ((el.length + sp.length) * Try.prog.bytesOf e) (by simp [DataW.weights, ht])
    rw [hb] at h
    have h2 : len * b ≤ (el.length + sp.length) * b := Nat.mul_le_mul_right b hl
    simp only [reachBytes] at h
    omega

set_option maxRecDepth 100000 in
theorem open_sands {base : Nat} {v : Value} {d : DataW H} {p : List MemPlace} (hv : Value.okWide Try.prog w .any base 28 v) (h : DataW.Trod enc Try.prog w 0 (fun _ => true) true 28 v d p)
    (hz : ∀ n ∈ DataW.weights Try.prog 28 d, n ≤ reachBytes) :
    ∃ s pT pF pS cT cF cS, v = sdVal s pT pF pS cT cF cS ∧ Lists w s pT pF pS cT cF cS ∧ s.table.length * 16 ≤ 140737488355328 ∧ s.floors.length * 8 ≤ 140737488355328 ∧ s.sills.length * 24 ≤ 140737488355328 := by
  obtain ⟨cs, rfl, hsz⟩ := okWide_struct Try.underlying28 hv
  obtain ⟨l⟩ := cs
  match l, hsz.trans cellsSands with
  | [c0, c1, c2, c3, c4], _ =>
    obtain ⟨fuel, hf⟩ := h
    obtain ⟨xs, n, -, hx, -, hlen, hg⟩ := DataW.trod_struct Try.underlying28 hf
    match xs, hlen with
    | [y0, y1, y2, y3], _ =>
      have g0 : DataW.trod enc Try.prog w 0 (fun _ => true) true n 22 (([c0, c1, c2, c3, c4].drop 0).take (Try.prog.cellsOf 22)) = some y0 := hg 0 _ rfl
      rw [cellsT] at g0
      have g1 : DataW.trod enc Try.prog w 0 (fun _ => true) true n 24 (([c0, c1, c2, c3, c4].drop 1).take (Try.prog.cellsOf 24)) = some y1 := hg 1 _ rfl
      rw [cellsSpan] at g1
      have g2 : DataW.trod enc Try.prog w 0 (fun _ => true) true n 25 (([c0, c1, c2, c3, c4].drop 3).take (Try.prog.cellsOf 25)) = some y2 := hg 2 _ rfl
      rw [cellsF] at g2
      have g3 : DataW.trod enc Try.prog w 0 (fun _ => true) true n 26 (([c0, c1, c2, c3, c4].drop 4).take (Try.prog.cellsOf 26)) = some y3 := hg 3 _ rfl
      rw [cellsS] at g3
      simp only [List.drop_zero, List.drop_succ_cons, List.take_succ_cons, List.take_zero] at g0 g1 g2 g3
      simp only [Prod.mk.injEq] at hx
      obtain ⟨rfl, -⟩ := hx
      simp only [DataW.weights, Try.underlying28, List.map_cons, List.map_nil, DataW.weightsEach, List.append_nil, List.mem_append] at hz
      obtain ⟨pT, lT, cT, rT, rfl, a1, a2, rfl, a4, a5, a6⟩ := open_rows Try.underlying22 cellsWater (by decide) el_water g0
      obtain ⟨pF, lF, cF, rF, rfl, b1, b2, rfl, b4, b5, b6⟩ := open_rows Try.underlying25 cellsInt (by decide) el_int g2
      obtain ⟨pS, lS, cS, rS, rfl, e1, e2, rfl, e4, e5, e6⟩ := open_rows Try.underlying26 cellsSill (by decide) el_sill g3
      obtain ⟨lt, rfl⟩ := pairs_of a5
      obtain ⟨lf, rfl⟩ := ints_of b5
      obtain ⟨ls, rfl⟩ := triples_of e5
      obtain ⟨zs, k, -, -, -, zl, zg⟩ := DataW.trod_struct Try.underlying24 g1
      match zs, zl with
      | [z0, z1], _ =>
        have k0 : DataW.trod enc Try.prog w 0 (fun _ => true) true k 3 (([c1, c2].drop 0).take (Try.prog.cellsOf 3)) = some z0 := zg 0 _ rfl
        rw [cellsInt] at k0
        have k1 : DataW.trod enc Try.prog w 0 (fun _ => true) true k 3 (([c1, c2].drop 1).take (Try.prog.cellsOf 3)) = some z1 := zg 1 _ rfl
        rw [cellsInt] at k1
        simp only [List.drop_zero, List.drop_succ_cons, List.take_succ_cons, List.take_zero] at k0 k1
        obtain ⟨lo, hlo, -, -⟩ := DataW.trod_int Try.underlying3 k0
        obtain ⟨hi, hhi, -, -⟩ := DataW.trod_int Try.underlying3 k1
        simp only [List.cons.injEq, and_true] at hlo hhi
        subst hlo
        subst hhi
        have q0 : (pairs lt).length = lt.length := by simp [pairs]
        have q1 : (ints lf).length = lf.length := by simp [ints]
        have q2 : (triples ls).length = ls.length := by simp [triples]
        rw [q0] at a1
        rw [q1] at b1
        rw [q2] at e1
        refine ⟨⟨lt, lo, hi, lf, ls⟩, pT, pF, pS, cT, cF, cS, by simp only [sdVal, q0, q1, q2], ⟨a4, b4, e4, a1, b1, e1, a2, b2, e2⟩, ?_, ?_, ?_⟩
        · exact room_of Try.underlying22 bytesWater a1 a6 (fun n hn => hz n (.inl hn))
        · exact room_of Try.underlying25 bytesInt b1 b6 (fun n hn => hz n (.inr (.inr (.inl hn))))
        · exact room_of Try.underlying26 bytesSill e1 e6 (fun n hn => hz n (.inr (.inr (.inr hn))))
end
end Go.Proofs.Ytcljkkojeleakaa
namespace Go.Proofs.Ytcljkkojeleakaa
open Go.ChangeShapes Go.WideShapes Go.ChangeAt Go.RowKit

section
variable {pT pF pS : Option Addr} {cT cF cS : Nat}
set_option maxRecDepth 100000 in
set_option maxHeartbeats 1000000 in
theorem statesWide_c (s : Sd) (m x q : Int) (w : World) (hw : wideB s = true) :
    Calls Try.prog 6 #[sdVal s pT pF pS cT cF cS, .int .i64 m, .int .i64 x, .int .i64 q] w fun e w' => e = .returned (.bool true) ∧ Up w w' := by
  have HW := Lib.hid hw
  clear hw
  unfold sdVal
  go_enter Try.func6, Try.ntmps6
  go_wp2_with fail
  refine (wide_c s _).mono ?_
  rw [HW.out]
  rintro e w1 ⟨rfl, u1⟩
  have U1 : Hid (Up w w1) := Up.trans (by (repeat (first | exact Below.refl _ _ | (with_reducible refine Below.drewN' ?_ _) | (with_reducible refine Below.drew ?_) | (with_reducible refine Below.setCell ?_ (by first | exact Nat.le_refl _ | omega | (with_reducible (repeat (first | refine sz_alloc ?_ | refine sz_setCell ?_ | refine sz_drew ?_ | refine sz_drewN ?_)); first | exact Nat.le_refl _ | omega) | (simp only [World.size_alloc, World.size_setCell, World.size_drew, size_drewN']; omega)) _) | (with_reducible refine Below.alloc ?_ (by first | exact Nat.le_refl _ | omega | (with_reducible (repeat (first | refine sz_alloc ?_ | refine sz_setCell ?_ | refine sz_drew ?_ | refine sz_drewN ?_)); first | exact Nat.le_refl _ | omega) | (simp only [World.size_alloc, World.size_setCell, World.size_drew, size_drewN']; omega)) _) | assumption))) u1
  clear u1
  go_wp2_with fail
  refine (awake_c w1).mono ?_
  rintro e w4 ⟨rfl, u4⟩
  have U4 := Lib.hid (Up.trans U1.out u4)
  clear u4 U1
  go_wp2_with fail
  go_ret
  exact ⟨rfl, U4.out⟩

theorem tideStates_c (s : Sd) (m x q : Int) (w : World) (hl : Lists w s pT pF pS cT cF cS) (b1 : s.table.length * 16 ≤ 140737488355328) (b2 : s.floors.length * 8 ≤ 140737488355328) (b3 : s.sills.length * 24 ≤ 140737488355328) :
    Calls Try.prog 6 #[sdVal s pT pF pS cT cF cS, .int .i64 m, .int .i64 x, .int .i64 q] w fun e w' => e = .returned (.bool true) ∧ Up w w' := by
  cases hw : wideB s
  · exact states_c s m x q w hl b1 b2 b3 hw
  · exact statesWide_c s m x q w hw
end

set_option maxRecDepth 100000 in
theorem states_contract (H : Type) (enc : TypeId × Value → H) (W : World) (base : Nat) (args : Array Value) (ds gs : List (DataW H)) (before : List MemPlace)
    (hval : ∀ (j : Nat) t v, Try.f6.params[j]? = some t → args[j]? = some v → Value.okWide Try.prog W .any base t v)
    (hW : DataW.Whole enc Try.prog Try.f6.params.toList Rows.tideStatesSpec.vars false W args.toList ds gs before)
    (hsz0 : (DataW.weightsEach Try.prog (Try.f6.params.toList ++ Rows.tideStatesSpec.plain.varTypes Try.prog) (ds ++ gs)).all (· ≤ reachBytes) = true) :
    Calls Try.prog 6 args W fun e W' => ∃ v, e = .returned v ∧ Rows.tideStatesSpec.post enc Try.prog Try.f6 false true false false W args v W' := by
  have hW' := hW
  obtain ⟨p, q, hA0, hV, rfl, -, -⟩ := hW
  have hA : DataW.TrodAll enc Try.prog W 0 (fun _ => true) true Try.f6.params.toList args.toList ds p := hA0
  rw [Try.params6] at hA hval
  obtain ⟨v0, vs0, d0, ds0, p0, q0, hargs, rfl, rfl, h0, r0⟩ := trodAll_cons hA
  obtain ⟨v1, vs1, d1, ds1, p1, q1, rfl, rfl, rfl, h1, r1⟩ := trodAll_cons r0
  obtain ⟨v2, vs2, d2, ds2, p2, q2, rfl, rfl, rfl, h2, r2⟩ := trodAll_cons r1
  obtain ⟨v3, vs3, d3, ds3, p3, q3, rfl, rfl, rfl, h3, r3⟩ := trodAll_cons r2
  obtain ⟨rfl, rfl, rfl⟩ := trodAll_nil r3
  obtain rfl : args = #[v0, v1, v2, v3] := by cases args; simp_all
  obtain ⟨rfl, rfl⟩ := trodVars_none hV
  have hz : ∀ n ∈ DataW.weights Try.prog 28 d0, n ≤ reachBytes := fun n hn => by
    have := List.all_eq_true.1 hsz0 n (DataW.weights_mem_each (j := 0) (t := 28) rfl rfl n hn)
    simpa using this
  obtain ⟨s, pT, pF, pS, cT, cF, cS, rfl, hl, b1, b2, b3⟩ := open_sands (hval 0 _ v0 rfl rfl) h0 hz
  obtain ⟨m, rfl, rfl, rfl, -⟩ := open_int Try.underlying3 (hval 1 _ v1 rfl rfl) h1
  obtain ⟨x, rfl, rfl, rfl, -⟩ := open_int Try.underlying3 (hval 2 _ v2 rfl rfl) h2
  obtain ⟨q, rfl, rfl, rfl, -⟩ := open_int Try.underlying60 (hval 3 _ v3 rfl rfl) h3
  refine (tideStates_c s m x q W hl b1 b2 b3).mono fun e W' ⟨he, hb⟩ => ?_
  exact ⟨_, he, law_post hW' rfl laidOut (by kernel_rfl) rfl Try.underlying4 ⟨rfl, rfl, rfl⟩ hb⟩

set_option maxRecDepth 100000 in
theorem states_lifted (os : Os) (started : os.Started) (H : Type) (enc : TypeId × Value → H) :
    ReturnsInHanded {} Try.checked os 6 .any (Rows.tideStatesSpec.pre6 enc Try.prog Try.f6 Rows.tideStatesRow.domain false) (Rows.tideStatesSpec.post enc Try.prog Try.f6 false true false false) := by
  refine returnsInHanded_of_change_sized (C := Try.checked) own started (by kernel_rfl) Try.func6
    (ChangeSpec.witness6 (enc := enc) (C := Try.checked) false ⟨#[], #[.agg #[.slice none 0 0, .int .i64 0, .int .i64 0, .slice none 0 0, .slice none 0 0], .int .i64 0, .int .i64 0, .int .i64 0], []⟩ 8 (by kernel_rfl) (by kernel_rfl) (by kernel_rfl) (by kernel_rfl)) ?_
  intro W base args ds gs before hval hW _ hsz _
  exact states_contract H enc W base args ds gs before hval hW hsz

theorem states_holds : Rows.TideStatesSaid :=
  OpenClaim.holds_of_wide 6 Try.f6 rfl rfl rfl rfl rfl rfl rfl ⟨rfl, rfl, rfl, rfl, rfl⟩ rfl rfl rfl rfl rfl (by kernel_rfl) Try.func6 (by kernel_rfl)
    (of_decide_eq_true (by kernel_rfl)) (by unfold Func.isWrapper; first | (rw [if_pos (by decide +kernel)]; kernel_rfl) | (rw [if_neg (by decide +kernel)]; exact ⟨rfl, rfl⟩))
    (fun os started H enc _ => states_lifted os started H enc)
#print axioms states_holds
end Go.Proofs.Ytcljkkojeleakaa
