/- Proved: whatever sands and place are passed in, the law TideGates returns true, and the arguments read behind the call as they read before it. Conditions: none but those that the given row states of itself. -/
import Derived.Test.YtcljkkojeleakaaBase
import Derived.Test.YtcljkkojeleakaaHeight
import Derived.Test.YtcljkkojeleakaaChk
import Derived.Test.YtcljkkojeleakaaChk2
import Derived.Test.YtcljkkojeleakaaCheck
import Derived.Test.YtcljkkojeleakaaOn
import Derived.Test.YtcljkkojeleakaaLower
import Derived.Test.YtcljkkojeleakaaGates
import Derived.Test.YtcljkkojeleakaaBegin
import Derived.Test.YtcljkkojeleakaaBegin2
import Derived.Test.YtcljkkojeleakaaOut1
import Derived.Test.YtcljkkojeleakaaWay
import Derived.Test.YtcljkkojeleakaaSpans
import Derived.Test.YtcljkkojeleakaaFits
import Derived.Test.YtcljkkojeleakaaQue
import Derived.Test.YtcljkkojeleakaaLead
import Derived.Test.YtcljkkojeleakaaWaysF
import Derived.Test.YtcljkkojeleakaaBankJA
import Derived.Test.YtcljkkojeleakaaOwn
import Derived.Test.YtcljkkojeleakaaSame
import Derived.Test.YtcljkkojeleakaaRef
import Derived.Test.YtcljkkojeleakaaFar
import Derived.Test.YtcljkkojeleakaaTheirs
import Derived.Test.YtcljkkojeleakaaDraw
import Derived.Test.YtcljkkojeleakaaPair
import Derived.Test.YtcljkkojeleakaaHold
import Derived.Test.YtcljkkojeleakaaBankJB
import Derived.WalkKit
import Derived.WalkSpells
import Derived.WalkLawsBesides
import Derived.Deep.QuietTactic
import Derived.BigQuiet
import Derived.Lib.Hide
import Derived.Shelf.Abstract
import Derived.BigGuardPart
import Derived.RangeFuncNested
import Derived.RangeFuncBound
import Derived.RangeFuncCalls
import Derived.RangeFuncLeaves
import Derived.Shelf.RegionOpen
import Derived.OwnWalkIn
import Derived.TacticsInMore
import Derived.LoopNIn
import Derived.LoopIn
import Derived.StillTailTactics
import Derived.Deep.RegionHeld3
import Derived.StillTail
import Derived.RangeFuncWrites
import Derived.Laws.StructEq
import Derived.Deep.LoopGhost
import Derived.IntWalk
import Derived.RangeFuncBox
import Derived.ArgAppend
import Derived.Laws.CopyOwn
import Derived.OwnWalk
import Derived.Lib.SliceRun
import Derived.Maps.OwnOps
import Derived.Maps.OwnSet
import Derived.Deep.AppendSrc
import Derived.Deep.Upon
import Derived.Deep.Cut
import Derived.Deep.DeepCutAuto
import Derived.Carry
import Derived.ChangeSame
import Derived.SizedLaws
import Derived.ProofKit
import Derived.OpenShut
import Derived.JoinedOf
import Derived.Deep.Slices
/- The law TideGates returns true, of sands that are not too wide. -/
namespace Go.Proofs.Ytcljkkojeleakaa
open Go.RowKit Go.Shelf

theorem gates_facts {s : Sd} {x : Int} (hE : errGate s x = 0) : ∃ n : Nat, x = n ∧ Ok s ∧ n < s.floors.length ∧ errFor s n = 0 ∧ 0 ≤ gateOf s n ∧ gateOf s n < 1050 := by
  obtain ⟨h1, h2, h3, h4⟩ := errGate_zero' hE
  obtain ⟨n, rfl⟩ := Int.eq_ofNat_of_zero_le h3
  have ok := chk_ok h2
  have hp : isPl s n = true := by
    unfold errFor at h1
    rw [if_pos h2] at h1
    cases hp : isPl s n
    · rw [hp] at h1; cases h1
    · rfl
  have hn := inB_true.1 hp
  have gl := gts_le s n
  refine ⟨n, rfl, ok, by omega, h1, by omega, ?_⟩
  unfold errGate at hE
  rw [if_pos h1, Int.toNat_natCast] at hE
  have : hasWayB s n = true := by
    cases hw : hasWayB s n
    · rw [hw] at hE; cases hE
    · rfl
  unfold hasWayB at this
  rw [bne_iff_ne] at this
  unfold gateOf
  unfold gateOf at gl
  omega
theorem gate_value {s : Sd} {n : Nat} (hE : errFor s n = 0) : (gateOf s n < 1050 → errGate s n = 0 ∧ gateV s n = gateOf s n ∧ gateR s n = gateOf s n) ∧ (¬ gateOf s n < 1050 → errGate s n = 6 ∧ gateV s n = 0 ∧ gateR s n = 5000) := by
  have gl := gts_le s n
  constructor
  · intro h
    have e : errGate s n = 0 := by
      unfold errGate
      rw [if_pos hE, Int.toNat_natCast]
      have : hasWayB s n = true := by
        unfold hasWayB
        rw [bne_iff_ne]
        unfold gateOf at h
        omega
      rw [this]; rfl
    exact ⟨e, by unfold gateV; rw [if_pos e, Int.toNat_natCast], if_pos h⟩
  · intro h
    have e : errGate s n = 6 := by
      unfold errGate
      rw [if_pos hE, Int.toNat_natCast]
      have : hasWayB s n = false := by
        unfold hasWayB
        rw [bne_eq_false_iff_eq]
        unfold gateOf at h gl
        omega
      rw [this]; rfl
    exact ⟨e, by unfold gateV; rw [e]; rfl, if_neg h⟩
section
variable {pT pF pS : Option Addr} {cT cF cS : Nat}
set_option maxRecDepth 100000 in
set_option maxHeartbeats 4000000 in
theorem lawGates_c (s : Sd) (x : Int) (w : World) (hl : Lists w s pT pF pS cT cF cS) (b1 : s.table.length * 16 ≤ 140737488355328) (b2 : s.floors.length * 8 ≤ 140737488355328) (b3 : s.sills.length * 24 ≤ 140737488355328) (hw : wideB s = false) :
    Calls Try.prog 4 #[sdVal s pT pF pS cT cF cS, .int .i64 x] w fun e w' => e = .returned (.bool true) ∧ Up w w' := by
  have HO := Lib.hid (fun W (u : Up w W) => own_c s W (hl.up u) b1 b2 b3)
  have HT := Lib.hid (fun W (u : Up w W) => theirs_c s W (hl.up u) b1 b2 b3)
  have HL := Lib.hid hl
  have HW := Lib.hid hw
  clear hl b1 b2 b3 hw
  unfold sdVal
  go_enter Try.func4, Try.ntmps4
  go_wp2_with fail
  refine (wide_c s _).mono ?_
  rw [HW.out]
  rintro e w1 ⟨rfl, u1⟩
  go_upto_region 3 with fail
  have hB : At5 w1 w.heap.size s pT pF pS cT cF cS := At5.of ((Blk.new w (sdCells s pT pF pS cT cF cS) 28).up u1)
  have HB := Lib.hid hB
  have U1 : Hid (Up w w1) := Up.trans (by (repeat (first | exact Below.refl _ _ | (with_reducible refine Below.drewN' ?_ _) | (with_reducible refine Below.drew ?_) | (with_reducible refine Below.setCell ?_ (by first | exact Nat.le_refl _ | omega | (with_reducible (repeat (first | refine sz_alloc ?_ | refine sz_setCell ?_ | refine sz_drew ?_ | refine sz_drewN ?_)); first | exact Nat.le_refl _ | omega) | (simp only [World.size_alloc, World.size_setCell, World.size_drew, size_drewN']; omega)) _) | (with_reducible refine Below.alloc ?_ (by first | exact Nat.le_refl _ | omega | (with_reducible (repeat (first | refine sz_alloc ?_ | refine sz_setCell ?_ | refine sz_drew ?_ | refine sz_drewN ?_)); first | exact Nat.le_refl _ | omega) | (simp only [World.size_alloc, World.size_setCell, World.size_drew, size_drewN']; omega)) _) | assumption))) u1
  have HO1 := Lib.hid (fun W (u : Up w1 W) => HO.out W (Up.trans U1.out u))
  have HT1 := Lib.hid (fun W (u : Up w1 W) => HT.out W (Up.trans U1.out u))
  clear hB u1 HO HT
  go_cut [5, 6] (fun a b wx => Both w1 wx s a b)
  case first =>
    refine region_inv 6 (fun done a W => ∃ v0 v1 v2 v3 v4 v5, a = ⟨#[.agg #[.slice pT s.table.length cT, .int .i64 s.lo, .int .i64 s.hi, .slice pF s.floors.length cF, .slice pS s.sills.length cS], .int .i64 x, .pointer (some ⟨w.heap.size, 0, none⟩), undef, .bool false, v4, v5, undef, undef, undef, undef, undef, undef, undef, undef, undef, undef, undef, undef, undef, undef, undef, undef, .agg #[.slice pT s.table.length cT, .int .i64 s.lo, .int .i64 s.hi, .slice pF s.floors.length cF, .slice pS s.sills.length cS], .bool false, undef, v0, v1, v2, v3, undef, undef, undef, undef, undef, undef, undef, undef, undef, undef, undef, undef, undef, undef, undef, undef, undef, undef, undef, undef, undef, undef, undef, undef, undef, undef, undef, undef, undef, undef, undef, undef, undef, undef, undef, undef, undef, undef, undef, undef, undef, undef, undef, undef, undef, undef, undef, undef, undef, undef, undef, undef, undef, undef, undef, undef, undef, undef, undef, undef, undef, undef, undef, undef, undef, undef, undef, undef, undef, undef, undef, undef, undef, undef, undef, undef, undef, undef, undef, undef, undef, undef, undef, undef, undef, undef, undef, undef, undef, undef, undef, undef, undef, undef, undef, undef, undef, undef, undef, undef, undef, undef, undef, undef, undef, undef, undef, undef, undef, undef, undef, undef, undef, undef, undef, undef, undef, undef, undef, undef, undef, undef, undef, undef, undef, undef, undef, undef, undef, undef, undef, undef, undef, undef, undef, undef, undef, undef, undef, undef, undef, undef, undef, undef, undef], []⟩ ∧ Pair w1 s (.agg #[.slice pT s.table.length cT, .int .i64 s.lo, .int .i64 s.hi, .slice pF s.floors.length cF, .slice pS s.sills.length cS]) done W v0 v1 v2 v3 v4 v5) mixed (by kernel_rfl) ?_ ?_ ?_
    · exact ⟨_, _, _, _, _, _, rfl, Pair.start _ _ _⟩
    · intro done a W i o hi hd ho hall hinv
      obtain ⟨v0, v1, v2, v3, v4, v5, rfl, hC⟩ := hinv
      obtain ⟨c0, c1, c2, c3, c4⟩ := HB.out.up hC.up
      have HC := Lib.hid hC
      have HA := Lib.hid hall
      clear hC hall hd
      obtain rfl | rfl | rfl | rfl | rfl | rfl : i = 0 ∨ i = 1 ∨ i = 2 ∨ i = 3 ∨ i = 4 ∨ i = 5 := by omega
      · clear ho HA
        refine wpOp_step rfl (fun K hK => ?_)
        rw [if_pos (by rfl)]
        have HK := Lib.hid hK
        clear hK
        go_simp
        exact HK.out _ _ ⟨_, _, _, _, _, _, rfl, HC.out.load0⟩
      · have e0 : v0 = _ := HC.out.l0 (HA.out ⟨0, .data⟩ (by cases ho; simp) rfl)
        clear ho HA
        subst e0
        refine wpOp_step rfl (fun K hK => ?_)
        rw [if_pos (by rfl)]
        have HK := Lib.hid hK
        clear hK
        go_simp
        refine (HO1.out W HC.out.up).mono ?_
        rintro e w2 ⟨qT, qF, qS, dT, dF, dS, rfl, h1, h2, h3⟩
        exact HK.out _ _ ⟨_, _, _, _, _, _, rfl, HC.out.call1 h2 h1 h3⟩
      · clear ho HA
        refine wpOp_step rfl (fun K hK => ?_)
        rw [if_pos (by rfl)]
        have HK := Lib.hid hK
        clear hK
        go_simp
        exact HK.out _ _ ⟨_, _, _, _, _, _, rfl, HC.out.load2⟩
      · have e0 : v2 = _ := HC.out.l2 (HA.out ⟨2, .data⟩ (by cases ho; simp) rfl)
        clear ho HA
        subst e0
        refine wpOp_step rfl (fun K hK => ?_)
        rw [if_pos (by rfl)]
        have HK := Lib.hid hK
        clear hK
        go_simp
        refine (HT1.out W HC.out.up).mono ?_
        rintro e w2 ⟨qT, qF, qS, dT, dF, dS, rfl, h1, h2, h3⟩
        exact HK.out _ _ ⟨_, _, _, _, _, _, rfl, HC.out.call3 h2 h1 h3⟩
      · clear ho HA
        refine wpOp_step rfl (fun K hK => ?_)
        rw [if_pos (by rfl)]
        have HK := Lib.hid hK
        clear hK
        go_simp
        exact HK.out _ _ ⟨_, _, _, _, _, _, rfl, HC.out.alloc4⟩
      · clear ho HA
        refine wpOp_step rfl (fun K hK => ?_)
        rw [if_pos (by rfl)]
        have HK := Lib.hid hK
        clear hK
        go_simp
        exact HK.out _ _ ⟨_, _, _, _, _, _, rfl, HC.out.alloc5⟩
    · rintro a W ⟨v0, v1, v2, v3, v4, v5, rfl, hC⟩
      obtain ⟨u, -, -, h1, h3, h4, h5, -, -⟩ := hC
      obtain ⟨B5, rfl, k5, n5⟩ := h4 rfl
      obtain ⟨B6, rfl, k6, n6⟩ := h5 rfl
      obtain ⟨qT, qF, qS, dT, dF, dS, rfl, l1, o1, p1⟩ := h1 rfl
      obtain ⟨rT, rF, rS, gT, gF, gS, rfl, l3, o3, p3⟩ := h3 rfl
      change wpList _ _ _ [_, _] _ _
      have ne : B5 ≠ B6 := k5.ne k6 (by decide)
      have HBoth : Hid (Both w1 (fill (fill W B5 s qT qF qS dT dF dS) B6 s rT rF rS gT gF gS) s (.pointer (some ⟨B5, 0, none⟩)) (.pointer (some ⟨B6, 0, none⟩))) :=
        ⟨B5, B6, qT, qF, qS, dT, dF, dS, rT, rF, rS, gT, gF, gS, rfl, rfl, fill_up (fill_up u n5 _ _ _ _ _ _ _) n6 _ _ _ _ _ _ _, fill_lists (fill_lists l1 o1 _ _ _ _ _ _) p1 _ _ _ _ _ _, fill_lists (fill_lists l3 o3 _ _ _ _ _ _) p3 _ _ _ _ _ _,
          At5.of (fill_other (fill_blk k5 _ _ _ _ _ _ _) ne _ _ _ _ _ _ _), At5.of (fill_blk (fill_other k6 (Ne.symm ne) _ _ _ _ _ _ _) _ _ _ _ _ _ _)⟩
      have y0 := k5.cell 0
      have y1 := k5.cell 1
      have y2 := k5.cell 2
      have y3 := k5.cell 3
      have y4 := k5.cell 4
      have yf := k5.free
      have x0 := k6.cell 0
      have x1 := k6.cell 1
      have x2 := k6.cell 2
      have x3 := k6.cell 3
      have x4 := k6.cell 4
      have xf := k6.free
      simp only [zero5, List.getElem?_cons_zero, List.getElem?_cons_succ] at y0 y1 y2 y3 y4 x0 x1 x2 x3 x4
      have ne' := Ne.symm ne
      clear h1 h3 h4 h5 l1 l3 o1 o3 p1 p3 k5 k6 u n5 n6 HO1 HT1
      unfold sdVal
      dsimp only
      go_wp2_with fail
      go_meet
      exact HBoth.out
  case rest =>
    obtain ⟨B5, B6, qT, qF, qS, dT, dF, dS, rT, rF, rS, gT, gF, gS, rfl, rfl, u, l5, l6, a5, a6⟩ := hcut
    have L5 := Lib.hid l5
    have L6 := Lib.hid l6
    have A5 := Lib.hid a5
    have A6 := Lib.hid a6
    have A0 := Lib.hid (HB.out.up u)
    have U0 := Lib.hid (Up.trans U1.out u)
    clear l5 l6 a5 u U1 HB HO1 HT1 w1
    obtain ⟨e0, e1, e2, e3, e4⟩ := a6
    go_wp2_with fail
    refine (refCheck_c s wc L6.out).mono ?_
    rintro e x1 ⟨rfl, v1⟩
    have V1 := Lib.hid v1
    clear v1 e0 e1 e2 e3 e4
    go_upto_if 33 with fail
    generalize wc = wq at *
    go_cut [7] (fun a wx => a = .int .i64 (errFor s x) ∧ Up wq wx)
    case first =>
      by_cases hE : chk s = 0
      · have n1 : (chk s == 0) = true := by rw [hE]; rfl
        have HP := refPlace_c s x x1 (L6.out.up V1.out)
        rw [show (bif isPl s x then (0 : Int) else 1) = errFor s x by unfold errFor; rw [if_pos hE]] at HP
        have HP := Lib.hid HP
        clear hE
        obtain ⟨c0, c1, c2, c3, c4⟩ := A6.out.up V1.out
        go_wp2_with fail
        refine HP.out.mono ?_
        rintro e x2 ⟨rfl, v2⟩
        have V2 := Lib.hid (Up.trans V1.out v2)
        clear v2 c0 c1 c2 c3 c4
        go_wp2_with fail
        go_meet
        exact ⟨rfl, V2.out⟩
      · have n1 : (chk s == 0) = false := beq_eq_false_iff_ne.2 hE
        have HA : Hid (errFor s x = chk s) := by show _ = _; unfold errFor; rw [if_neg hE]
        clear hE
        go_wp2_with fail
        go_meet
        exact ⟨by rw [HA.out], V1.out⟩
    case rest =>
      obtain ⟨rfl, u8⟩ := hcut
      have V2 := Lib.hid u8
      clear u8 V1
      generalize wc = x2 at *
      go_upto_if 38 with fail
      go_cut [7, 8] (fun a b wx => a = .int .i64 (errGate s x) ∧ b = .int .i64 (gateV s x) ∧ Up wq wx)
      case first =>
        by_cases hE : errFor s x = 0
        · have n1 : (errFor s x == 0) = true := by rw [hE]; rfl
          have hc : chk s = 0 := by
            unfold errFor at hE
            by_cases hk : chk s = 0
            · exact hk
            · rw [if_neg hk] at hE; exact absurd hE hk
          have OK := Lib.hid (chk_ok hc)
          have hp : isPl s x = true := by
            unfold errFor at hE
            rw [if_pos hc] at hE
            cases hp : isPl s x
            · rw [hp] at hE; cases hE
            · rfl
          have hx := inB_true.1 hp
          obtain ⟨n, rfl⟩ := Int.eq_ofNat_of_zero_le hx.1
          have hn : n < s.floors.length := by omega
          have HGV := Lib.hid (gate_value hE)
          have HF0 := Lib.hid hE
          clear hE hc hp hx
          obtain ⟨c0, c1, c2, c3, c4⟩ := A6.out.up V2.out
          go_wp2_with fail
          refine (refGate_c s n x2 OK.out (L6.out.up V2.out) hn).mono ?_
          rintro e x3 ⟨rfl, v3⟩
          have V3 := Lib.hid (Up.trans V2.out v3)
          clear v3 c0 c1 c2 c3 c4
          have gl := gts_le s n
          by_cases hg : gateOf s n < 1050
          · obtain ⟨g1, g2, g3⟩ := HGV.out.1 hg
            have HG := Lib.hid (And.intro g1 g2)
            rw [g3]
            have n2 : (gateOf s n == 5000) = false := beq_eq_false_iff_ne.2 (by omega)
            clear g1 g2 g3 hg gl
            go_wp2_with fail
            go_meet
            rw [HG.out.1, HG.out.2, HF0.out]
            exact ⟨rfl, rfl, V3.out⟩
          · obtain ⟨g1, g2, g3⟩ := HGV.out.2 (by omega)
            have HG := Lib.hid (And.intro g1 g2)
            rw [g3]
            clear g1 g2 g3 hg gl
            go_wp2_with fail
            go_meet
            rw [HG.out.1, HG.out.2]
            exact ⟨rfl, rfl, V3.out⟩
        · have n1 : (errFor s x == 0) = false := beq_eq_false_iff_ne.2 hE
          have HA : Hid (errGate s x = errFor s x) := by show _ = _; unfold errGate; rw [if_neg hE]
          have HG : Hid (gateV s x = 0) := by show _ = _; unfold gateV; rw [HA.out, if_neg hE]
          clear hE
          go_wp2_with fail
          go_meet
          exact ⟨by rw [HA.out], by rw [HG.out], V2.out⟩
      case rest =>
        obtain ⟨rfl, rfl, u9⟩ := hcut
        have V3 := Lib.hid u9
        clear u9 V2
        generalize wc = x3 at *
        have HG1 := Lib.hid (fun W (u : Up wq W) => Gate_c s x W (L5.out.up u))
        have HG2 := Lib.hid (fun W (u : Up wq W) => Way_c s x W (L5.out.up u))
        have HG3 := Lib.hid (fun W (u : Up wq W) => Bank_c s x W (L5.out.up u))
        by_cases hE : errGate s x = 0
        · obtain ⟨n, rfl, ok, hn, hF, g0, g9⟩ := gates_facts hE
          obtain ⟨f1, f2, f3⟩ := wayV_fol ok hn g9 g0 hE
          obtain ⟨h1, h2⟩ := bank_holds ok hn hF g0 g9
          have hbx : bankX s n = bankV s (gateOf s n) := by unfold bankX; rw [if_pos hE, Int.toNat_natCast]
          rw [← hbx] at h1 h2
          have hgv := ((gate_value hF).1 g9).2.1
          have ec : errCrest s n (wayV s n) = 0 := by unfold errCrest; rw [if_pos hF, if_pos f1, f2, if_pos rfl]
          have vc : crestV s n (wayV s n) = gateOf s n := by unfold crestV; rw [if_pos ec, f2]
          have u1 : ((bankX s n).1).Pairwise (· < ·) := by rw [hbx]; exact markL_up _
          have u2 : ((bankX s n).2).Pairwise (· < ·) := by rw [hbx]; exact markL_up _
          have k1 : (bankX s n).1.length ≤ 16 := by
            rw [hbx]
            have := markL_len (bankW s (gateOf s n)).1
            have := (bank_sound ok g0).1.1
            have := ok.sl
            show (markL (bankW s (gateOf s n)).1).length ≤ 16
            omega
          have k2 : (bankX s n).2.length ≤ 8 := by
            rw [hbx]
            have := markL_len (bankW s (gateOf s n)).2
            have := (bank_sound ok g0).1.2.1
            have := ok.fl1
            show (markL (bankW s (gateOf s n)).2).length ≤ 8
            omega
          have HC := Lib.hid (fun W q d (u : Up wq W) (r : Row W q 1 (ints (wayV s n))) => refCrest_c s n (wayV s n) q d W (L6.out.up u) r (by omega))
          have HH := Lib.hid (fun W q1 d1 q2 d2 (u : Up wq W) (r1 : Row W q1 1 (ints (bankX s n).1)) (r2 : Row W q2 1 (ints (bankX s n).2)) => refHold_c s n (bankX s n).1 (bankX s n).2 q1 q2 d1 d2 W (L6.out.up u) r1 r2 (by omega) (by omega))
          rw [ec, vc] at HC
          rw [h1, h2] at HH
          rw [hE, hgv] at HG1
          rw [hE] at HG2 HG3
          rw [hE, hgv]
          have UP1 := Lib.hid u1
          have UP2 := Lib.hid u2
          clear hE ok hF g0 g9 f1 f2 h1 h2 hbx hgv ec vc u1 u2
          generalize gateOf s n = gv at *
          generalize wayV s n = wl at *
          generalize (bankX s n).1 = bs at *
          generalize (bankX s n).2 = bp at *
          have n1 : (gv != gv) = false := by simp
          have m1 : ¬ (8 : Int) < (wl.length : Int) := by omega
          have m2 : ¬ (16 : Int) < (bs.length : Int) := by omega
          have m3 : ¬ (8 : Int) < (bp.length : Int) := by omega
          obtain ⟨c0, c1, c2, c3, c4⟩ := A5.out.up V3.out
          go_wp2_with fail
          refine (HG1.out x3 V3.out).mono ?_
          rintro e x4 ⟨rfl, v⟩
          have V4 := Lib.hid (Up.trans V3.out v)
          clear v c0 c1 c2 c3 c4
          obtain ⟨c0, c1, c2, c3, c4⟩ := A5.out.up V4.out
          go_wp2_with fail
          refine (HG2.out x4 V4.out).mono ?_
          rintro e x5 ⟨pw, rfl, rw5, -, v⟩
          have V5 := Lib.hid (Up.trans V4.out v)
          have RW := Lib.hid rw5
          clear v c0 c1 c2 c3 c4 rw5
          obtain ⟨c0, c1, c2, c3, c4⟩ := A5.out.up V5.out
          go_wp2_with fail
          refine (HG3.out x5 V5.out).mono ?_
          rintro e x6 ⟨q1, d1, q2, d2, rfl, r1, r2, v⟩
          have V6 := Lib.hid (Up.trans V5.out v)
          have RW6 := Lib.hid (RW.out.up v)
          have R1 := Lib.hid r1
          have R2 := Lib.hid r2
          clear v c0 c1 c2 c3 c4 r1 r2 HG1 HG2 HG3 V3 V4 V5
          obtain ⟨c0, c1, c2, c3, c4⟩ := A6.out.up V6.out
          go_wp2_with fail
          refine (HC.out x6 pw _ V6.out RW6.out).mono ?_
          rintro e x7 ⟨rfl, v⟩
          have V7 := Lib.hid (Up.trans V6.out v)
          have R17 := Lib.hid (R1.out.up v)
          have R27 := Lib.hid (R2.out.up v)
          clear v c0 c1 c2 c3 c4 HC R1 R2
          obtain ⟨c0, c1, c2, c3, c4⟩ := A6.out.up V7.out
          go_wp2_with fail
          refine (HH.out x7 q1 d1 q2 d2 V7.out R17.out R27.out).mono ?_
          rintro e x8 ⟨rfl, v⟩
          have V8 := Lib.hid (Up.trans V7.out v)
          have R18 := Lib.hid (R17.out.up v)
          have R28 := Lib.hid (R27.out.up v)
          clear v c0 c1 c2 c3 c4 HH R17 R27 V7 V6 m1 m2 m3
          go_wp2_with fail
          have BY : Hid (Blk (x8.alloc (.cells #[.slice q1 bs.length d1, .slice q2 bp.length d2] 25)) x8.heap.size [.slice q1 bs.length d1, .slice q2 bp.length d2] 25) := Lib.hid (Blk.new x8 [.slice q1 bs.length d1, .slice q2 bp.length d2] _)
          have UY : Hid (Up x8 (x8.alloc (.cells #[.slice q1 bs.length d1, .slice q2 bp.length d2] 25))) := Lib.hid (by (repeat (first | exact Below.refl _ _ | (with_reducible refine Below.drewN' ?_ _) | (with_reducible refine Below.drew ?_) | (with_reducible refine Below.setCell ?_ (by first | exact Nat.le_refl _ | omega | (with_reducible (repeat (first | refine sz_alloc ?_ | refine sz_setCell ?_ | refine sz_drew ?_ | refine sz_drewN ?_)); first | exact Nat.le_refl _ | omega) | (simp only [World.size_alloc, World.size_setCell, World.size_drew, size_drewN']; omega)) _) | (with_reducible refine Below.alloc ?_ (by first | exact Nat.le_refl _ | omega | (with_reducible (repeat (first | refine sz_alloc ?_ | refine sz_setCell ?_ | refine sz_drew ?_ | refine sz_drewN ?_)); first | exact Nat.le_refl _ | omega) | (simp only [World.size_alloc, World.size_setCell, World.size_drew, size_drewN']; omega)) _) | assumption)))
          generalize (x8.alloc (.cells #[.slice q1 bs.length d1, .slice q2 bp.length d2] 25)) = wy at *
          have RY1 := Lib.hid (R18.out.up UY.out)
          have RY2 := Lib.hid (R28.out.up UY.out)
          go_loopw [21, 22, 144] (fun _ _ i wr => ∃ k : Nat, k ≤ 2 ∧ i = .int .i64 k ∧ Up wy wr) (fun _ _ i _ => 2 - (intOf i).toNat)
          case atStart => exact ⟨0, by decide, rfl, Below.refl _ _⟩
          case round =>
            obtain ⟨k, hk, rfl, hu⟩ := hrel
            have HU := Lib.hid hu
            have y0 := (BY.out.up hu).cell 0
            have y1 := (BY.out.up hu).cell 1
            have yl := (BY.out.up hu).lt
            simp only [List.getElem?_cons_zero, List.getElem?_cons_succ] at y0 y1
            clear hu
            obtain rfl | rfl | rfl : k = 0 ∨ k = 1 ∨ k = 2 := by omega
            · go_wp2_with fail
              go_loopw [22, 150] (fun _ i wr => ∃ j : Nat, j ≤ bs.length ∧ i = .int .i64 j ∧ Up wy wr) (fun _ i _ => bs.length - (intOf i).toNat)
              case atStart => exact ⟨0, Nat.zero_le _, rfl, HU.out⟩
              case round =>
                obtain ⟨j, hj, rfl, hu⟩ := hrel
                have HU2 := Lib.hid hu
                by_cases hlt : j < bs.length
                · have b1 : (j : Int) < (bs.length : Int) := by omega
                  by_cases hj0 : j = 0
                  · have g0 : decide ((0 : Int) < (j : Int)) = false := decide_eq_false (by omega)
                    have g1 : ¬ (0 : Int) < (j : Int) := by omega
                    have HJ := Lib.hid hj0
                    clear hj0 hu
                    go_upto_region 32 with fail
                    refine region_tail (fun _ => True) 14 mixed (by kernel_rfl) trivial (fun hHeld => ?_)
                    refine wpAnyG_take 0 153 (v := ?_) rfl rfl (by kernel_rfl) (fun _ _ _ h => h) (Or.inl ⟨by rfl, ?_⟩) (by assumption) ?_
                    rotate_left
                    · (intro w' hSw; (try dsimp only at hSw); go_split_ands; go_simp; try with_reducible rfl)
                    try simp only [List.setIfInBounds_toArray, List.set_cons_zero, List.set_cons_succ]
                    refine wpAnyG_take 1 154 (v := .bool false) rfl rfl (by kernel_rfl) (fun _ _ _ h => h) (Or.inl ⟨by rfl, ?_⟩) (by assumption) ?_
                    · intro w' _
                      go_simp
                      exact HJ.out
                    try simp only [List.setIfInBounds_toArray, List.set_cons_zero, List.set_cons_succ]
                    refine wpAnyG_take 2 155 (v := ?_) rfl rfl (by kernel_rfl) (fun _ _ _ h => h) (Or.inl ⟨by rfl, ?_⟩) (by assumption) ?_
                    rotate_left
                    · (intro w' hSw; (try dsimp only at hSw); go_split_ands; go_simp; try with_reducible rfl)
                    try simp only [List.setIfInBounds_toArray, List.set_cons_zero, List.set_cons_succ]
                    refine wpAnyG_take 3 156 (v := undef) rfl rfl (by kernel_rfl) (fun _ _ _ h => h) (Or.inr ⟨by rfl, rfl⟩) (by assumption) ?_
                    try simp only [List.setIfInBounds_toArray, List.set_cons_zero, List.set_cons_succ]
                    refine wpAnyG_take 4 157 (v := undef) rfl rfl (by kernel_rfl) (fun _ _ _ h => h) (Or.inr ⟨by rfl, rfl⟩) (by assumption) ?_
                    try simp only [List.setIfInBounds_toArray, List.set_cons_zero, List.set_cons_succ]
                    refine wpAnyG_take 5 158 (v := undef) rfl rfl (by kernel_rfl) (fun _ _ _ h => h) (Or.inr ⟨by rfl, rfl⟩) (by assumption) ?_
                    try simp only [List.setIfInBounds_toArray, List.set_cons_zero, List.set_cons_succ]
                    refine wpAnyG_take 6 159 (v := undef) rfl rfl (by kernel_rfl) (fun _ _ _ h => h) (Or.inr ⟨by rfl, rfl⟩) (by assumption) ?_
                    try simp only [List.setIfInBounds_toArray, List.set_cons_zero, List.set_cons_succ]
                    refine wpAnyG_take 7 160 (v := undef) rfl rfl (by kernel_rfl) (fun _ _ _ h => h) (Or.inr ⟨by rfl, rfl⟩) (by assumption) ?_
                    try simp only [List.setIfInBounds_toArray, List.set_cons_zero, List.set_cons_succ]
                    refine wpAnyG_take 8 161 (v := undef) rfl rfl (by kernel_rfl) (fun _ _ _ h => h) (Or.inr ⟨by rfl, rfl⟩) (by assumption) ?_
                    try simp only [List.setIfInBounds_toArray, List.set_cons_zero, List.set_cons_succ]
                    refine wpAnyG_take 9 162 (v := undef) rfl rfl (by kernel_rfl) (fun _ _ _ h => h) (Or.inr ⟨by rfl, rfl⟩) (by assumption) ?_
                    try simp only [List.setIfInBounds_toArray, List.set_cons_zero, List.set_cons_succ]
                    refine wpAnyG_take 10 163 (v := undef) rfl rfl (by kernel_rfl) (fun _ _ _ h => h) (Or.inr ⟨by rfl, rfl⟩) (by assumption) ?_
                    try simp only [List.setIfInBounds_toArray, List.set_cons_zero, List.set_cons_succ]
                    refine wpAnyG_take 11 164 (v := undef) rfl rfl (by kernel_rfl) (fun _ _ _ h => h) (Or.inr ⟨by rfl, rfl⟩) (by assumption) ?_
                    try simp only [List.setIfInBounds_toArray, List.set_cons_zero, List.set_cons_succ]
                    refine wpAnyG_take 12 165 (v := undef) rfl rfl (by kernel_rfl) (fun _ _ _ h => h) (Or.inr ⟨by rfl, rfl⟩) (by assumption) ?_
                    try simp only [List.setIfInBounds_toArray, List.set_cons_zero, List.set_cons_succ]
                    refine wpAnyG_take 13 166 (v := ?_) rfl rfl (by kernel_rfl) (fun _ _ _ h => h) (Or.inl ⟨by rfl, ?_⟩) (by assumption) ?_
                    rotate_left
                    · (intro w' hSw; (try dsimp only at hSw); go_split_ands; go_simp; try with_reducible rfl)
                    try simp only [List.setIfInBounds_toArray, List.set_cons_zero, List.set_cons_succ]
                    refine wpAnyG_tail (by kernel_rfl) ?_
                    change wpList _ _ _ [] _ _
                    clear hHeld
                    go_wp2_with fail
                    go_roundw
                    case rel =>
                      try ((repeat apply Exists.intro); refine ⟨?_, rfl⟩)
                      exact ⟨j + 1, hlt, by go_num, HU2.out.drew⟩
                    case measure => simp [intOf]; omega
                  · have g0 : decide ((0 : Int) < (j : Int)) = true := decide_eq_true (by omega)
                    have g1 : (0 : Int) < (j : Int) := by omega
                    have g2 : 0 < j := by omega
                    have s2 : IntKind.i64.wrap ((j : Int) - 1) = ((j - 1 : Nat) : Int) := by rw [IntWalk.i64_in _ (by omega)]; omega
                    have b2 : ((j - 1 : Nat) : Int) < (bs.length : Int) := by omega
                    obtain ⟨b, off, rfl, d0⟩ := (RY1.out.up hu).int j hlt
                    obtain ⟨b', off', he, d1⟩ := (RY1.out.up hu).int (j - 1) (by omega)
                    obtain ⟨rfl, rfl⟩ : b = b' ∧ off = off' := by simpa using he
                    have hlt2 : bs[j - 1] < bs[j] := List.pairwise_iff_getElem.1 UP1.out (j - 1) j (by omega) hlt (by omega)
                    generalize bs[j - 1] = ya at *
                    generalize bs[j] = yb at *
                    have q1 : ¬ yb ≤ ya := by omega
                    have q2 : decide (yb ≤ ya) = false := decide_eq_false q1
                    clear he hu hj0
                    go_upto_region 32 with fail
                    refine region_tail (fun W' => W'.cell? ⟨b, off + j, none⟩ = some (.int .i64 yb) ∧ W'.cell? ⟨b, off + (j - 1), none⟩ = some (.int .i64 ya)) 14 mixed (by kernel_rfl) ⟨d0, d1⟩ (fun hHeld => ?_)
                    refine wpAnyG_take 0 153 (v := ?_) rfl rfl (by kernel_rfl) (fun _ _ _ h => h) (Or.inl ⟨by rfl, ?_⟩) (by assumption) ?_
                    rotate_left
                    · (intro w' hSw; (try dsimp only at hSw); go_split_ands; go_simp; try with_reducible rfl)
                    try simp only [List.setIfInBounds_toArray, List.set_cons_zero, List.set_cons_succ]
                    refine wpAnyG_take 1 154 (v := .bool true) rfl rfl (by kernel_rfl) (fun _ _ _ h => h) (Or.inl ⟨by rfl, ?_⟩) (by assumption) ?_
                    · intro w' _
                      go_simp
                    try simp only [List.setIfInBounds_toArray, List.set_cons_zero, List.set_cons_succ]
                    refine wpAnyG_take 2 155 (v := ?_) rfl rfl (by kernel_rfl) (fun _ _ _ h => h) (Or.inl ⟨by rfl, ?_⟩) (by assumption) ?_
                    rotate_left
                    · (intro w' hSw; (try dsimp only at hSw); go_split_ands; go_simp; try with_reducible rfl)
                    try simp only [List.setIfInBounds_toArray, List.set_cons_zero, List.set_cons_succ]
                    refine wpAnyG_take 3 156 (v := ?_) rfl rfl (by kernel_rfl) (fun _ _ _ h => h) (Or.inl ⟨by rfl, ?_⟩) (by assumption) ?_
                    rotate_left
                    · (intro w' hSw; (try dsimp only at hSw); go_split_ands; go_simp; try with_reducible rfl)
                    try simp only [List.setIfInBounds_toArray, List.set_cons_zero, List.set_cons_succ]
                    refine wpAnyG_take 4 157 (v := ?_) rfl rfl (by kernel_rfl) (fun _ _ _ h => h) (Or.inl ⟨by rfl, ?_⟩) (by assumption) ?_
                    rotate_left
                    · (intro w' hSw; (try dsimp only at hSw); go_split_ands; go_simp; try with_reducible rfl)
                    try simp only [List.setIfInBounds_toArray, List.set_cons_zero, List.set_cons_succ]
                    refine wpAnyG_take 5 158 (v := ?_) rfl rfl (by kernel_rfl) (fun _ _ _ h => h) (Or.inl ⟨by rfl, ?_⟩) (by assumption) ?_
                    rotate_left
                    · (intro w' hSw; (try dsimp only at hSw); go_split_ands; go_simp; try with_reducible rfl)
                    try simp only [List.setIfInBounds_toArray, List.set_cons_zero, List.set_cons_succ]
                    refine wpAnyG_take 6 159 (v := ?_) rfl rfl (by kernel_rfl) (fun _ _ _ h => h) (Or.inl ⟨by rfl, ?_⟩) (by assumption) ?_
                    rotate_left
                    · (intro w' hSw; (try dsimp only at hSw); go_split_ands; go_simp; try with_reducible rfl)
                    try simp only [List.setIfInBounds_toArray, List.set_cons_zero, List.set_cons_succ]
                    refine wpAnyG_take 7 160 (v := ?_) rfl rfl (by kernel_rfl) (fun _ _ _ h => h) (Or.inl ⟨by rfl, ?_⟩) (by assumption) ?_
                    rotate_left
                    · (intro w' hSw; (try dsimp only at hSw); go_split_ands; go_simp; try with_reducible rfl)
                    try simp only [List.setIfInBounds_toArray, List.set_cons_zero, List.set_cons_succ]
                    refine wpAnyG_take 8 161 (v := ?_) rfl rfl (by kernel_rfl) (fun _ _ _ h => h) (Or.inl ⟨by rfl, ?_⟩) (by assumption) ?_
                    rotate_left
                    · (intro w' hSw; (try dsimp only at hSw); go_split_ands; go_simp; try with_reducible rfl)
                    try simp only [List.setIfInBounds_toArray, List.set_cons_zero, List.set_cons_succ]
                    refine wpAnyG_take 9 162 (v := ?_) rfl rfl (by kernel_rfl) (fun _ _ _ h => h) (Or.inl ⟨by rfl, ?_⟩) (by assumption) ?_
                    rotate_left
                    · (intro w' hSw; (try dsimp only at hSw); go_split_ands; go_simp; try with_reducible rfl)
                    try simp only [List.setIfInBounds_toArray, List.set_cons_zero, List.set_cons_succ]
                    refine wpAnyG_take 10 163 (v := ?_) rfl rfl (by kernel_rfl) (fun _ _ _ h => h) (Or.inl ⟨by rfl, ?_⟩) (by assumption) ?_
                    rotate_left
                    · (intro w' hSw; (try dsimp only at hSw); go_split_ands; go_simp; try with_reducible rfl)
                    try simp only [List.setIfInBounds_toArray, List.set_cons_zero, List.set_cons_succ]
                    refine wpAnyG_take 11 164 (v := ?_) rfl rfl (by kernel_rfl) (fun _ _ _ h => h) (Or.inl ⟨by rfl, ?_⟩) (by assumption) ?_
                    rotate_left
                    · (intro w' hSw; (try dsimp only at hSw); go_split_ands; go_simp; try with_reducible rfl)
                    try simp only [List.setIfInBounds_toArray, List.set_cons_zero, List.set_cons_succ]
                    refine wpAnyG_take 12 165 (v := ?_) rfl rfl (by kernel_rfl) (fun _ _ _ h => h) (Or.inl ⟨by rfl, ?_⟩) (by assumption) ?_
                    rotate_left
                    · (intro w' hSw; (try dsimp only at hSw); go_split_ands; go_simp; try with_reducible rfl)
                    try simp only [List.setIfInBounds_toArray, List.set_cons_zero, List.set_cons_succ]
                    refine wpAnyG_take 13 166 (v := ?_) rfl rfl (by kernel_rfl) (fun _ _ _ h => h) (Or.inl ⟨by rfl, ?_⟩) (by assumption) ?_
                    rotate_left
                    · (intro w' hSw; (try dsimp only at hSw); go_split_ands; go_simp; try with_reducible rfl)
                    try simp only [List.setIfInBounds_toArray, List.set_cons_zero, List.set_cons_succ]
                    refine wpAnyG_tail (by kernel_rfl) ?_
                    change wpList _ _ _ [] _ _
                    clear hHeld
                    go_wp2_with fail
                    go_roundw
                    case rel =>
                      try ((repeat apply Exists.intro); refine ⟨?_, rfl⟩)
                      exact ⟨j + 1, hlt, by go_num, HU2.out.drew⟩
                    case measure => simp [intOf]; omega
                · obtain rfl : j = bs.length := by omega
                  clear hu
                  go_wp2_with fail
                  go_roundw
                  case rel =>
                    try ((repeat apply Exists.intro); refine ⟨?_, rfl⟩)
                    exact ⟨1, by decide, rfl, HU2.out⟩
                  case measure => simp [intOf]
            · go_wp2_with fail
              go_loopw [22, 150] (fun _ i wr => ∃ j : Nat, j ≤ bp.length ∧ i = .int .i64 j ∧ Up wy wr) (fun _ i _ => bp.length - (intOf i).toNat)
              case atStart => exact ⟨0, Nat.zero_le _, rfl, HU.out⟩
              case round =>
                obtain ⟨j, hj, rfl, hu⟩ := hrel
                have HU2 := Lib.hid hu
                by_cases hlt : j < bp.length
                · have b1 : (j : Int) < (bp.length : Int) := by omega
                  by_cases hj0 : j = 0
                  · have g0 : decide ((0 : Int) < (j : Int)) = false := decide_eq_false (by omega)
                    have g1 : ¬ (0 : Int) < (j : Int) := by omega
                    have HJ := Lib.hid hj0
                    clear hj0 hu
                    go_upto_region 32 with fail
                    refine region_tail (fun _ => True) 14 mixed (by kernel_rfl) trivial (fun hHeld => ?_)
                    refine wpAnyG_take 0 153 (v := ?_) rfl rfl (by kernel_rfl) (fun _ _ _ h => h) (Or.inl ⟨by rfl, ?_⟩) (by assumption) ?_
                    rotate_left
                    · (intro w' hSw; (try dsimp only at hSw); go_split_ands; go_simp; try with_reducible rfl)
                    try simp only [List.setIfInBounds_toArray, List.set_cons_zero, List.set_cons_succ]
                    refine wpAnyG_take 1 154 (v := .bool false) rfl rfl (by kernel_rfl) (fun _ _ _ h => h) (Or.inl ⟨by rfl, ?_⟩) (by assumption) ?_
                    · intro w' _
                      go_simp
                      exact HJ.out
                    try simp only [List.setIfInBounds_toArray, List.set_cons_zero, List.set_cons_succ]
                    refine wpAnyG_take 2 155 (v := ?_) rfl rfl (by kernel_rfl) (fun _ _ _ h => h) (Or.inl ⟨by rfl, ?_⟩) (by assumption) ?_
                    rotate_left
                    · (intro w' hSw; (try dsimp only at hSw); go_split_ands; go_simp; try with_reducible rfl)
                    try simp only [List.setIfInBounds_toArray, List.set_cons_zero, List.set_cons_succ]
                    refine wpAnyG_take 3 156 (v := undef) rfl rfl (by kernel_rfl) (fun _ _ _ h => h) (Or.inr ⟨by rfl, rfl⟩) (by assumption) ?_
                    try simp only [List.setIfInBounds_toArray, List.set_cons_zero, List.set_cons_succ]
                    refine wpAnyG_take 4 157 (v := undef) rfl rfl (by kernel_rfl) (fun _ _ _ h => h) (Or.inr ⟨by rfl, rfl⟩) (by assumption) ?_
                    try simp only [List.setIfInBounds_toArray, List.set_cons_zero, List.set_cons_succ]
                    refine wpAnyG_take 5 158 (v := undef) rfl rfl (by kernel_rfl) (fun _ _ _ h => h) (Or.inr ⟨by rfl, rfl⟩) (by assumption) ?_
                    try simp only [List.setIfInBounds_toArray, List.set_cons_zero, List.set_cons_succ]
                    refine wpAnyG_take 6 159 (v := undef) rfl rfl (by kernel_rfl) (fun _ _ _ h => h) (Or.inr ⟨by rfl, rfl⟩) (by assumption) ?_
                    try simp only [List.setIfInBounds_toArray, List.set_cons_zero, List.set_cons_succ]
                    refine wpAnyG_take 7 160 (v := undef) rfl rfl (by kernel_rfl) (fun _ _ _ h => h) (Or.inr ⟨by rfl, rfl⟩) (by assumption) ?_
                    try simp only [List.setIfInBounds_toArray, List.set_cons_zero, List.set_cons_succ]
                    refine wpAnyG_take 8 161 (v := undef) rfl rfl (by kernel_rfl) (fun _ _ _ h => h) (Or.inr ⟨by rfl, rfl⟩) (by assumption) ?_
                    try simp only [List.setIfInBounds_toArray, List.set_cons_zero, List.set_cons_succ]
                    refine wpAnyG_take 9 162 (v := undef) rfl rfl (by kernel_rfl) (fun _ _ _ h => h) (Or.inr ⟨by rfl, rfl⟩) (by assumption) ?_
                    try simp only [List.setIfInBounds_toArray, List.set_cons_zero, List.set_cons_succ]
                    refine wpAnyG_take 10 163 (v := undef) rfl rfl (by kernel_rfl) (fun _ _ _ h => h) (Or.inr ⟨by rfl, rfl⟩) (by assumption) ?_
                    try simp only [List.setIfInBounds_toArray, List.set_cons_zero, List.set_cons_succ]
                    refine wpAnyG_take 11 164 (v := undef) rfl rfl (by kernel_rfl) (fun _ _ _ h => h) (Or.inr ⟨by rfl, rfl⟩) (by assumption) ?_
                    try simp only [List.setIfInBounds_toArray, List.set_cons_zero, List.set_cons_succ]
                    refine wpAnyG_take 12 165 (v := undef) rfl rfl (by kernel_rfl) (fun _ _ _ h => h) (Or.inr ⟨by rfl, rfl⟩) (by assumption) ?_
                    try simp only [List.setIfInBounds_toArray, List.set_cons_zero, List.set_cons_succ]
                    refine wpAnyG_take 13 166 (v := ?_) rfl rfl (by kernel_rfl) (fun _ _ _ h => h) (Or.inl ⟨by rfl, ?_⟩) (by assumption) ?_
                    rotate_left
                    · (intro w' hSw; (try dsimp only at hSw); go_split_ands; go_simp; try with_reducible rfl)
                    try simp only [List.setIfInBounds_toArray, List.set_cons_zero, List.set_cons_succ]
                    refine wpAnyG_tail (by kernel_rfl) ?_
                    change wpList _ _ _ [] _ _
                    clear hHeld
                    go_wp2_with fail
                    go_roundw
                    case rel =>
                      try ((repeat apply Exists.intro); refine ⟨?_, rfl⟩)
                      exact ⟨j + 1, hlt, by go_num, HU2.out.drew⟩
                    case measure => simp [intOf]; omega
                  · have g0 : decide ((0 : Int) < (j : Int)) = true := decide_eq_true (by omega)
                    have g1 : (0 : Int) < (j : Int) := by omega
                    have g2 : 0 < j := by omega
                    have s2 : IntKind.i64.wrap ((j : Int) - 1) = ((j - 1 : Nat) : Int) := by rw [IntWalk.i64_in _ (by omega)]; omega
                    have b2 : ((j - 1 : Nat) : Int) < (bp.length : Int) := by omega
                    obtain ⟨b, off, rfl, d0⟩ := (RY2.out.up hu).int j hlt
                    obtain ⟨b', off', he, d1⟩ := (RY2.out.up hu).int (j - 1) (by omega)
                    obtain ⟨rfl, rfl⟩ : b = b' ∧ off = off' := by simpa using he
                    have hlt2 : bp[j - 1] < bp[j] := List.pairwise_iff_getElem.1 UP2.out (j - 1) j (by omega) hlt (by omega)
                    generalize bp[j - 1] = ya at *
                    generalize bp[j] = yb at *
                    have q1 : ¬ yb ≤ ya := by omega
                    have q2 : decide (yb ≤ ya) = false := decide_eq_false q1
                    clear he hu hj0
                    go_upto_region 32 with fail
                    refine region_tail (fun W' => W'.cell? ⟨b, off + j, none⟩ = some (.int .i64 yb) ∧ W'.cell? ⟨b, off + (j - 1), none⟩ = some (.int .i64 ya)) 14 mixed (by kernel_rfl) ⟨d0, d1⟩ (fun hHeld => ?_)
                    refine wpAnyG_take 0 153 (v := ?_) rfl rfl (by kernel_rfl) (fun _ _ _ h => h) (Or.inl ⟨by rfl, ?_⟩) (by assumption) ?_
                    rotate_left
                    · (intro w' hSw; (try dsimp only at hSw); go_split_ands; go_simp; try with_reducible rfl)
                    try simp only [List.setIfInBounds_toArray, List.set_cons_zero, List.set_cons_succ]
                    refine wpAnyG_take 1 154 (v := .bool true) rfl rfl (by kernel_rfl) (fun _ _ _ h => h) (Or.inl ⟨by rfl, ?_⟩) (by assumption) ?_
                    · intro w' _
                      go_simp
                    try simp only [List.setIfInBounds_toArray, List.set_cons_zero, List.set_cons_succ]
                    refine wpAnyG_take 2 155 (v := ?_) rfl rfl (by kernel_rfl) (fun _ _ _ h => h) (Or.inl ⟨by rfl, ?_⟩) (by assumption) ?_
                    rotate_left
                    · (intro w' hSw; (try dsimp only at hSw); go_split_ands; go_simp; try with_reducible rfl)
                    try simp only [List.setIfInBounds_toArray, List.set_cons_zero, List.set_cons_succ]
                    refine wpAnyG_take 3 156 (v := ?_) rfl rfl (by kernel_rfl) (fun _ _ _ h => h) (Or.inl ⟨by rfl, ?_⟩) (by assumption) ?_
                    rotate_left
                    · (intro w' hSw; (try dsimp only at hSw); go_split_ands; go_simp; try with_reducible rfl)
                    try simp only [List.setIfInBounds_toArray, List.set_cons_zero, List.set_cons_succ]
                    refine wpAnyG_take 4 157 (v := ?_) rfl rfl (by kernel_rfl) (fun _ _ _ h => h) (Or.inl ⟨by rfl, ?_⟩) (by assumption) ?_
                    rotate_left
                    · (intro w' hSw; (try dsimp only at hSw); go_split_ands; go_simp; try with_reducible rfl)
                    try simp only [List.setIfInBounds_toArray, List.set_cons_zero, List.set_cons_succ]
                    refine wpAnyG_take 5 158 (v := ?_) rfl rfl (by kernel_rfl) (fun _ _ _ h => h) (Or.inl ⟨by rfl, ?_⟩) (by assumption) ?_
                    rotate_left
                    · (intro w' hSw; (try dsimp only at hSw); go_split_ands; go_simp; try with_reducible rfl)
                    try simp only [List.setIfInBounds_toArray, List.set_cons_zero, List.set_cons_succ]
                    refine wpAnyG_take 6 159 (v := ?_) rfl rfl (by kernel_rfl) (fun _ _ _ h => h) (Or.inl ⟨by rfl, ?_⟩) (by assumption) ?_
                    rotate_left
                    · (intro w' hSw; (try dsimp only at hSw); go_split_ands; go_simp; try with_reducible rfl)
                    try simp only [List.setIfInBounds_toArray, List.set_cons_zero, List.set_cons_succ]
                    refine wpAnyG_take 7 160 (v := ?_) rfl rfl (by kernel_rfl) (fun _ _ _ h => h) (Or.inl ⟨by rfl, ?_⟩) (by assumption) ?_
                    rotate_left
                    · (intro w' hSw; (try dsimp only at hSw); go_split_ands; go_simp; try with_reducible rfl)
                    try simp only [List.setIfInBounds_toArray, List.set_cons_zero, List.set_cons_succ]
                    refine wpAnyG_take 8 161 (v := ?_) rfl rfl (by kernel_rfl) (fun _ _ _ h => h) (Or.inl ⟨by rfl, ?_⟩) (by assumption) ?_
                    rotate_left
                    · (intro w' hSw; (try dsimp only at hSw); go_split_ands; go_simp; try with_reducible rfl)
                    try simp only [List.setIfInBounds_toArray, List.set_cons_zero, List.set_cons_succ]
                    refine wpAnyG_take 9 162 (v := ?_) rfl rfl (by kernel_rfl) (fun _ _ _ h => h) (Or.inl ⟨by rfl, ?_⟩) (by assumption) ?_
                    rotate_left
                    · (intro w' hSw; (try dsimp only at hSw); go_split_ands; go_simp; try with_reducible rfl)
                    try simp only [List.setIfInBounds_toArray, List.set_cons_zero, List.set_cons_succ]
                    refine wpAnyG_take 10 163 (v := ?_) rfl rfl (by kernel_rfl) (fun _ _ _ h => h) (Or.inl ⟨by rfl, ?_⟩) (by assumption) ?_
                    rotate_left
                    · (intro w' hSw; (try dsimp only at hSw); go_split_ands; go_simp; try with_reducible rfl)
                    try simp only [List.setIfInBounds_toArray, List.set_cons_zero, List.set_cons_succ]
                    refine wpAnyG_take 11 164 (v := ?_) rfl rfl (by kernel_rfl) (fun _ _ _ h => h) (Or.inl ⟨by rfl, ?_⟩) (by assumption) ?_
                    rotate_left
                    · (intro w' hSw; (try dsimp only at hSw); go_split_ands; go_simp; try with_reducible rfl)
                    try simp only [List.setIfInBounds_toArray, List.set_cons_zero, List.set_cons_succ]
                    refine wpAnyG_take 12 165 (v := ?_) rfl rfl (by kernel_rfl) (fun _ _ _ h => h) (Or.inl ⟨by rfl, ?_⟩) (by assumption) ?_
                    rotate_left
                    · (intro w' hSw; (try dsimp only at hSw); go_split_ands; go_simp; try with_reducible rfl)
                    try simp only [List.setIfInBounds_toArray, List.set_cons_zero, List.set_cons_succ]
                    refine wpAnyG_take 13 166 (v := ?_) rfl rfl (by kernel_rfl) (fun _ _ _ h => h) (Or.inl ⟨by rfl, ?_⟩) (by assumption) ?_
                    rotate_left
                    · (intro w' hSw; (try dsimp only at hSw); go_split_ands; go_simp; try with_reducible rfl)
                    try simp only [List.setIfInBounds_toArray, List.set_cons_zero, List.set_cons_succ]
                    refine wpAnyG_tail (by kernel_rfl) ?_
                    change wpList _ _ _ [] _ _
                    clear hHeld
                    go_wp2_with fail
                    go_roundw
                    case rel =>
                      try ((repeat apply Exists.intro); refine ⟨?_, rfl⟩)
                      exact ⟨j + 1, hlt, by go_num, HU2.out.drew⟩
                    case measure => simp [intOf]; omega
                · obtain rfl : j = bp.length := by omega
                  clear hu
                  go_wp2_with fail
                  go_roundw
                  case rel =>
                    try ((repeat apply Exists.intro); refine ⟨?_, rfl⟩)
                    exact ⟨2, by decide, rfl, HU2.out⟩
                  case measure => simp [intOf]
            · have V9 := Lib.hid (Up.trans V8.out (Up.trans UY.out HU.out))
              clear y0 y1 yl
              obtain ⟨c0, c1, c2, c3, c4⟩ := A5.out.up V9.out
              obtain ⟨d0, d1, d2, d3, d4⟩ := A0.out.up V9.out
              go_wp2_with fail
              refine (same_c s _ (L5.out.up V9.out) (HL.out.up (Up.trans U0.out V9.out))).mono ?_
              rintro e z2 ⟨rfl, v⟩
              have Z2 := Lib.hid (Up.trans U0.out (Up.trans V9.out v))
              clear v c0 c1 c2 c3 c4 d0 d1 d2 d3 d4
              go_wp2_with fail
              refine (awake_c z2).mono ?_
              rintro e z3 ⟨rfl, v⟩
              have Z3 := Lib.hid (Up.trans Z2.out v)
              clear v Z2
              go_wp2_with fail
              go_ret
              exact ⟨rfl, Z3.out⟩
        · have hv1 : wayV s x = [] := by unfold wayV; rw [if_neg hE]
          have hv2 : bankX s x = ([], []) := by unfold bankX; rw [if_neg hE]
          have hgv : gateV s x = 0 := by unfold gateV; rw [if_neg hE]
          rw [hgv] at HG1
          rw [hv1] at HG2
          rw [hv2] at HG3
          rw [hgv]
          have n1 : (errGate s x != errGate s x) = false := by simp
          have n2 : (errGate s x != 0) = true := by rw [bne_iff_ne]; exact hE
          have n3 : (errGate s x == 0) = false := beq_eq_false_iff_ne.2 hE
          clear hE hv1 hv2 hgv
          generalize errGate s x = eg at *
          simp only [List.length_nil] at HG2 HG3
          obtain ⟨c0, c1, c2, c3, c4⟩ := A5.out.up V3.out
          go_wp2_with fail
          refine (HG1.out x3 V3.out).mono ?_
          rintro e x4 ⟨rfl, v⟩
          have V4 := Lib.hid (Up.trans V3.out v)
          clear v c0 c1 c2 c3 c4
          obtain ⟨c0, c1, c2, c3, c4⟩ := A5.out.up V4.out
          go_wp2_with fail
          refine (HG2.out x4 V4.out).mono ?_
          rintro e x5 ⟨pw, rfl, -, -, v⟩
          have V5 := Lib.hid (Up.trans V4.out v)
          clear v c0 c1 c2 c3 c4
          obtain ⟨c0, c1, c2, c3, c4⟩ := A5.out.up V5.out
          go_wp2_with fail
          refine (HG3.out x5 V5.out).mono ?_
          rintro e x6 ⟨q1, d1, q2, d2, rfl, -, -, v⟩
          have V6 := Lib.hid (Up.trans V5.out v)
          clear v c0 c1 c2 c3 c4 HG1 HG2 HG3 V3 V4 V5
          obtain ⟨c0, c1, c2, c3, c4⟩ := A5.out.up V6.out
          obtain ⟨d0, d1', d2', d3, d4⟩ := A0.out.up V6.out
          go_wp2_with fail
          refine (same_c s x6 (L5.out.up V6.out) (HL.out.up (Up.trans U0.out V6.out))).mono ?_
          rintro e z2 ⟨rfl, v⟩
          have Z2 := Lib.hid (Up.trans U0.out (Up.trans V6.out v))
          clear v c0 c1 c2 c3 c4 d0 d1' d2' d3 d4
          go_wp2_with fail
          refine (awake_c z2).mono ?_
          rintro e z3 ⟨rfl, v⟩
          have Z3 := Lib.hid (Up.trans Z2.out v)
          clear v Z2
          go_wp2_with fail
          go_ret
          exact ⟨rfl, Z3.out⟩
end
end Go.Proofs.Ytcljkkojeleakaa
/- Plain: what a law that answers true, and leaves all that lay there as it lay, pays of its statement; arguments opened to lists. -/
namespace Go.Proofs.Ytcljkkojeleakaa
open Go.ChangeShapes Go.WideShapes Go.ChangeAt Go.RowKit

section
variable {H : Type} {enc : TypeId × Value → H} {P : Program}

def readAll (P : Program) (ts : List TypeId) : Bool := ts.all fun t => P.readableRec t && decide (t < P.types.size)

theorem trodAll_below (hl : laidOutB P = true) {W W' : World} (hb : Below W.heap.size W W') : ∀ (ts : List TypeId) (vs : List Value) (ds : List (DataW H)) (ps : List MemPlace), readAll P ts = true →
    DataW.TrodAll enc P W 0 (fun _ => true) true ts vs ds ps → (∀ x ∈ ps, x.block < W.heap.size) → DataW.TrodAll enc P W' 0 (fun b => decide (b < W.heap.size)) true ts vs ds ps
  | [], _, _, _, _, h, _ => by
    obtain ⟨rfl, rfl, rfl⟩ := trodAll_nil h
    exact trodAll_mk0
  | t :: ts, vs, ds, ps, hr, h, hlt => by
    obtain ⟨v, vs', d, ds', p, q, rfl, rfl, rfl, h0, r0⟩ := trodAll_cons h
    simp only [readAll, List.all_cons, Bool.and_eq_true, decide_eq_true_eq] at hr
    exact trodAll_cons_mk (Below.trod hl hr.1.1 hr.1.2 h0 hb (fun x hx => hlt x (by simp [hx]))) (trodAll_below hl hb ts _ _ _ hr.2 r0 (fun x hx => hlt x (by simp [hx])))

theorem law_post {f : Func} {s : ChangeSpec} {W W' : World} {args : Array Value} {ds gs : List (DataW H)} {before : List MemPlace} {tb : TypeId}
    (hW : DataW.Whole enc P f.params.toList s.vars false W args.toList ds gs before) (hv : s.vars = []) (hl : laidOutB P = true) (hr : readAll P f.params.toList = true)
    (hres : f.resultTypes = #[tb]) (hbool : P.underlying tb = some .bool)
    (hfn : (s.fn H ds).results = [.lit (.bool true)] ∧ (s.fn H ds).args = ds ∧ (s.fn H ds).vars = []) (hb : Below W.heap.size W W') :
    s.post enc P f false true false false W args (.bool true) W' := by
  have hW' := hW
  have hlt : ∀ p ∈ before, p.block < W.heap.size := fun p hp => hW'.lt p hp
  obtain ⟨p, q, hA, hV, rfl, -, -⟩ := hW
  rw [hv] at hV
  obtain ⟨rfl, rfl⟩ := trodVars_none hV
  obtain ⟨h1, h2, h3⟩ := hfn
  have e : ds ++ ([] : List (DataW H)) = ds := List.append_nil ds
  refine ⟨ds, [], p ++ [], [], p, [], hW', ?_, ?_, ?_, World.keptBut_mono (fun x hx => hx) (hb.frame _), fun h => by cases h⟩
  · rw [e, h1, hres]
    exact trodAll_cons_mk (shut_bool hbool true) trodAll_mk0
  · rw [e, h2]
    exact trodAll_below hl hb _ _ _ _ hr hA (fun x hx => hlt x (by simp [hx]))
  · rw [e, h3, hv]
    exact rfl

/-- a row of whole numbers -/
def AllInts (k : Nat) (r : List Value) : Prop := r.length = k ∧ ∀ c ∈ r, ∃ n, c = .int .i64 n

theorem open_int_row {w : World} {base : Nat} {spare : Nat → Bool} {held : Bool} {e : TypeId} {fuel : Nat} {cs : List Value} {y : DataW H × List MemPlace} (he : P.underlying e = some (.int .i64)) (h : DataW.trod enc P w base spare held fuel e cs = some y) : AllInts 1 cs := by
  obtain ⟨n, rfl, -, -⟩ := DataW.trod_int he h
  exact ⟨rfl, fun c hc => ⟨n, by simpa using hc⟩⟩

theorem open_struct_row {w : World} {base : Nat} {spare : Nat → Bool} {held : Bool} {e : TypeId} {fs : Array Field} {fuel : Nat} {cs : List Value} {y : DataW H × List MemPlace} (he : P.underlying e = some (.struct fs)) (hC : P.cellsOf e = fs.size)
    (hf : ∀ (i : Nat) (f : Field), fs[i]? = some f → f.offset = i ∧ P.underlying f.type = some (.int .i64) ∧ P.cellsOf f.type = 1) (h : DataW.trod enc P w base spare held fuel e cs = some y) : AllInts fs.size cs := by
  obtain ⟨xs, n, -, -, hl, hxl, hx⟩ := DataW.trod_struct he h
  rw [hC] at hl
  refine ⟨hl, fun c hc => ?_⟩
  obtain ⟨i, hi, rfl⟩ := List.getElem_of_mem hc
  have hif : i < fs.size := by omega
  obtain ⟨ho, hu, hc1⟩ := hf i fs[i] (Array.getElem?_eq_getElem hif)
  have h1 := hx i fs[i] (Array.getElem?_eq_getElem hif)
  rw [ho, hc1, List.drop_eq_getElem_cons hi, List.getElem?_eq_getElem (by omega)] at h1
  obtain ⟨m, hm, -, -⟩ := DataW.trod_int hu h1
  simp only [List.take_succ_cons, List.take_zero, List.cons.injEq, and_true] at hm
  exact ⟨m, hm⟩

theorem spot_of {w : World} {a : Addr} {v : Value} (h : w.cell? a = some v) : a.spot = none := by
  unfold World.cell? at h
  split at h
  · split at h
    · cases h
    · rename_i hs
      simpa using hs
  all_goals cases h

/-- a slice that came in, as rows of k cells -/
theorem open_rows {w : World} {t e : TypeId} {fuel k : Nat} {v : Value} {x : DataW H × List MemPlace} (ht : P.underlying t = some (.slice e)) (hC : P.cellsOf e = k) (hk : 0 < k)
    (hel : ∀ fuel cs y, DataW.trod enc P w 0 (fun _ => true) true fuel e cs = some y → AllInts k cs) (h : DataW.trod enc P w 0 (fun _ => true) true fuel t [v] = some x) :
    ∃ p len cap rows, v = .slice p len cap ∧ len ≤ cap ∧ cap ≤ maxLen ∧ rows.length = len ∧ Row w p k rows ∧ (∀ r ∈ rows, AllInts k r) ∧ ((x.1 = .nil ∧ cap = 0) ∨ ∃ el sp, x.1 = .slice el sp ∧ el.length + sp.length = cap) := by
  rcases Go.Deep.open_slice ht h with ⟨hv, rfl⟩ | ⟨a, len, cap, m, n, D, Pl, hv, -, hl, hm, hmm, rfl, hi⟩
  · simp only [List.cons.injEq, and_true] at hv
    exact ⟨none, 0, 0, [], hv, Nat.le_refl _, by simp [maxLen], rfl, fun i row hr => by simp at hr, fun r hr => by simp at hr, .inl ⟨rfl, rfl⟩⟩
  · simp only [List.cons.injEq, and_true] at hv
    simp only [if_true] at hmm
    subst hmm
    rw [hC] at hi
    have hch : ∀ i, ∃ cs, i < len → AllInts k cs ∧ ∀ j c, cs[j]? = some c → w.cell? (a.add (i * k + j)) = some c := fun i => by
      by_cases hlt : i < len
      · obtain ⟨cs, hc, ht'⟩ := hi i (by omega)
        obtain ⟨-, hcl, hat⟩ := World.cells?_some hc
        refine ⟨cs, fun _ => ⟨hel _ _ _ ht', fun j c hj => ?_⟩⟩
        have hjl : j < k := by have := (List.getElem?_eq_some_iff.1 hj).1; omega
        rw [← Go.Deep.add_add, hat j hjl, hj]
      · exact ⟨[], fun h => absurd h hlt⟩
    obtain ⟨f, hf⟩ := Classical.axiomOfChoice hch
    refine ⟨some a, len, m, (List.range len).map f, hv, hl, hm, by simp, fun i row hr => ?_, fun r hr => ?_, .inr ⟨_, _, rfl, by simp; omega⟩⟩
    · rw [List.getElem?_map] at hr
      by_cases hlt : i < len
      · rw [List.getElem?_range hlt] at hr
        simp only [Option.map_some, Option.some.injEq] at hr
        subst hr
        obtain ⟨⟨g1, g2⟩, g3⟩ := hf 0 (by omega)
        have h0 := g3 0 _ (List.getElem?_eq_getElem (by omega))
        have hs : a.spot = none := spot_of (by simpa [Addr.add] using h0)
        obtain ⟨b, off, sp⟩ := a
        simp only at hs
        subst hs
        refine ⟨b, off, rfl, fun j c hj => ?_⟩
        have := (hf i hlt).2 j c hj
        rwa [Addr.add_lit, ← Nat.add_assoc] at this
      · rw [List.getElem?_eq_none (by simp; omega)] at hr
        cases hr
    · simp only [List.mem_map, List.mem_range] at hr
      obtain ⟨i, hlt, rfl⟩ := hr
      exact (hf i hlt).1

theorem ints_of : ∀ {rows : List (List Value)}, (∀ r ∈ rows, AllInts 1 r) → ∃ l : List Int, rows = ints l
  | [], _ => ⟨[], rfl⟩
  | r :: rest, h => by
    obtain ⟨l, hl⟩ := ints_of (rows := rest) (fun r hr => h r (by simp [hr]))
    obtain ⟨h1, h2⟩ := h r (by simp)
    match r, h1, h2 with
    | [c], _, h2 =>
      obtain ⟨n, rfl⟩ := h2 c (by simp)
      exact ⟨n :: l, by rw [hl]; rfl⟩
theorem pairs_of : ∀ {rows : List (List Value)}, (∀ r ∈ rows, AllInts 2 r) → ∃ l : List (Int × Int), rows = pairs l
  | [], _ => ⟨[], rfl⟩
  | r :: rest, h => by
    obtain ⟨l, hl⟩ := pairs_of (rows := rest) (fun r hr => h r (by simp [hr]))
    obtain ⟨h1, h2⟩ := h r (by simp)
    match r, h1, h2 with
    | [c, d], _, h2 =>
      obtain ⟨n, rfl⟩ := h2 c (by simp)
      obtain ⟨m, rfl⟩ := h2 d (by simp)
      exact ⟨(n, m) :: l, by rw [hl]; rfl⟩
theorem triples_of : ∀ {rows : List (List Value)}, (∀ r ∈ rows, AllInts 3 r) → ∃ l : List (Int × Int × Int), rows = triples l
  | [], _ => ⟨[], rfl⟩
  | r :: rest, h => by
    obtain ⟨l, hl⟩ := triples_of (rows := rest) (fun r hr => h r (by simp [hr]))
    obtain ⟨h1, h2⟩ := h r (by simp)
    match r, h1, h2 with
    | [c, d, f], _, h2 =>
      obtain ⟨n, rfl⟩ := h2 c (by simp)
      obtain ⟨m, rfl⟩ := h2 d (by simp)
      obtain ⟨o, rfl⟩ := h2 f (by simp)
      exact ⟨(n, m, o) :: l, by rw [hl]; rfl⟩
end
end Go.Proofs.Ytcljkkojeleakaa
/- Arguments of the laws on sands, opened. -/
namespace Go.Proofs.Ytcljkkojeleakaa
open Go.ChangeShapes Go.WideShapes Go.ChangeAt Go.RowKit

theorem own : ownKnob Try.prog.godebug = none := by kernel_rfl
theorem laidOut : laidOutB Try.prog = true := by kernel_rfl
theorem cellsWater : Try.prog.cellsOf 103 = 2 := by kernel_rfl
theorem cellsSill : Try.prog.cellsOf 97 = 3 := by kernel_rfl
theorem cellsInt : Try.prog.cellsOf 3 = 1 := by kernel_rfl
theorem cellsSands : Try.prog.cellsOf 28 = 5 := by kernel_rfl
theorem cellsSpan : Try.prog.cellsOf 24 = 2 := by kernel_rfl
theorem cellsT : Try.prog.cellsOf 22 = 1 := by kernel_rfl
theorem cellsF : Try.prog.cellsOf 25 = 1 := by kernel_rfl
theorem cellsS : Try.prog.cellsOf 26 = 1 := by kernel_rfl
theorem bytesWater : Try.prog.bytesOf 103 = 16 := by kernel_rfl
theorem bytesSill : Try.prog.bytesOf 97 = 24 := by kernel_rfl
theorem bytesInt : Try.prog.bytesOf 3 = 8 := by kernel_rfl

section
variable {H : Type} {enc : TypeId × Value → H} {w : World}

theorem el_water : ∀ fuel cs (y : DataW H × List MemPlace), DataW.trod enc Try.prog w 0 (fun _ => true) true fuel 103 cs = some y → AllInts 2 cs := fun _ _ _ h =>
  open_struct_row Try.underlying103 cellsWater (fun i f hf => by
    match i, hf with
    | 0, hf => cases hf; exact ⟨rfl, Try.underlying3, cellsInt⟩
    | 1, hf => cases hf; exact ⟨rfl, Try.underlying3, cellsInt⟩
    | i + 2, hf => simp at hf) h
theorem el_sill : ∀ fuel cs (y : DataW H × List MemPlace), DataW.trod enc Try.prog w 0 (fun _ => true) true fuel 97 cs = some y → AllInts 3 cs := fun _ _ _ h =>
  open_struct_row Try.underlying97 cellsSill (fun i f hf => by
    match i, hf with
    | 0, hf => cases hf; exact ⟨rfl, Try.underlying3, cellsInt⟩
    | 1, hf => cases hf; exact ⟨rfl, Try.underlying3, cellsInt⟩
    | 2, hf => cases hf; exact ⟨rfl, Try.underlying3, cellsInt⟩
    | i + 3, hf => simp at hf) h
theorem el_int : ∀ fuel cs (y : DataW H × List MemPlace), DataW.trod enc Try.prog w 0 (fun _ => true) true fuel 3 cs = some y → AllInts 1 cs := fun _ _ _ h => open_int_row Try.underlying3 h

theorem room_of {t e : TypeId} {d : DataW H} {cap len b : Nat} (ht : Try.prog.underlying t = some (.slice e)) (hb : Try.prog.bytesOf e = b) (hl : len ≤ cap)
    (hd : (d = .nil ∧ cap = 0) ∨ ∃ el sp, d = .slice el sp ∧ el.length + sp.length = cap) (hz : ∀ n ∈ DataW.weights Try.prog t d, n ≤ reachBytes) : len * b ≤ 140737488355328 := by
  rcases hd with ⟨rfl, rfl⟩ | ⟨el, sp, rfl, rfl⟩
  · have : len = 0 := by omega
    subst this; simp
  · have h := hz ((el.length + sp.length) * Try.prog.bytesOf e) (by simp [DataW.weights, ht])
    rw [hb] at h
    have h2 : len * b ≤ (el.length + sp.length) * b := Nat.mul_le_mul_right b hl
    simp only [reachBytes] at h
    omega

set_option maxRecDepth 100000 in
theorem open_sands {base : Nat} {v : Value} {d : DataW H} {p : List MemPlace} (hv : Value.okWide Try.prog w .any base 28 v) (h : DataW.Trod enc Try.prog w 0 (fun _ => true) true 28 v d p)
    (hz : ∀ n ∈ DataW.weights Try.prog 28 d, n ≤ reachBytes) :
    ∃ s pT pF pS cT cF cS, v = sdVal s pT pF pS cT cF cS ∧ Lists w s pT pF pS cT cF cS ∧ s.table.length * 16 ≤ 140737488355328 ∧ s.floors.length * 8 ≤ 140737488355328 ∧ s.sills.length * 24 ≤ 140737488355328 := by
  obtain ⟨cs, rfl, hsz⟩ := okWide_struct Try.underlying28 hv
  obtain ⟨l⟩ := cs
  match l, hsz.trans cellsSands with
  | [c0, c1, c2, c3, c4], _ =>
    obtain ⟨fuel, hf⟩ := h
    obtain ⟨xs, n, -, hx, -, hlen, hg⟩ := DataW.trod_struct Try.underlying28 hf
    match xs, hlen with
    | [y0, y1, y2, y3], _ =>
      have g0 : DataW.trod enc Try.prog w 0 (fun _ => true) true n 22 (([c0, c1, c2, c3, c4].drop 0).take (Try.prog.cellsOf 22)) = some y0 := hg 0 _ rfl
      rw [cellsT] at g0
      have g1 : DataW.trod enc Try.prog w 0 (fun _ => true) true n 24 (([c0, c1, c2, c3, c4].drop 1).take (Try.prog.cellsOf 24)) = some y1 := hg 1 _ rfl
      rw [cellsSpan] at g1
      have g2 : DataW.trod enc Try.prog w 0 (fun _ => true) true n 25 (([c0, c1, c2, c3, c4].drop 3).take (Try.prog.cellsOf 25)) = some y2 := hg 2 _ rfl
      rw [cellsF] at g2
      have g3 : DataW.trod enc Try.prog w 0 (fun _ => true) true n 26 (([c0, c1, c2, c3, c4].drop 4).take (Try.prog.cellsOf 26)) = some y3 := hg 3 _ rfl
      rw [cellsS] at g3
      simp only [List.drop_zero, List.drop_succ_cons, List.take_succ_cons, List.take_zero] at g0 g1 g2 g3
      simp only [Prod.mk.injEq] at hx
      obtain ⟨rfl, -⟩ := hx
      simp only [DataW.weights, Try.underlying28, List.map_cons, List.map_nil, DataW.weightsEach, List.append_nil, List.mem_append] at hz
      obtain ⟨pT, lT, cT, rT, rfl, a1, a2, rfl, a4, a5, a6⟩ := open_rows Try.underlying22 cellsWater (by decide) el_water g0
      obtain ⟨pF, lF, cF, rF, rfl, b1, b2, rfl, b4, b5, b6⟩ := open_rows Try.underlying25 cellsInt (by decide) el_int g2
      obtain ⟨pS, lS, cS, rS, rfl, e1, e2, rfl, e4, e5, e6⟩ := open_rows Try.underlying26 cellsSill (by decide) el_sill g3
      obtain ⟨lt, rfl⟩ := pairs_of a5
      obtain ⟨lf, rfl⟩ := ints_of b5
      obtain ⟨ls, rfl⟩ := triples_of e5
      obtain ⟨zs, k, -, -, -, zl, zg⟩ := DataW.trod_struct Try.underlying24 g1
      match zs, zl with
      | [z0, z1], _ =>
        have k0 : DataW.trod enc Try.prog w 0 (fun _ => true) true k 3 (([c1, c2].drop 0).take (Try.prog.cellsOf 3)) = some z0 := zg 0 _ rfl
        rw [cellsInt] at k0
        have k1 : DataW.trod enc Try.prog w 0 (fun _ => true) true k 3 (([c1, c2].drop 1).take (Try.prog.cellsOf 3)) = some z1 := zg 1 _ rfl
        rw [cellsInt] at k1
        simp only [List.drop_zero, List.drop_succ_cons, List.take_succ_cons, List.take_zero] at k0 k1
        obtain ⟨lo, hlo, -, -⟩ := DataW.trod_int Try.underlying3 k0
        obtain ⟨hi, hhi, -, -⟩ := DataW.trod_int Try.underlying3 k1
        simp only [List.cons.injEq, and_true] at hlo hhi
        subst hlo
        subst hhi
        have q0 : (pairs lt).length = lt.length := by simp [pairs]
        have q1 : (ints lf).length = lf.length := by simp [ints]
        have q2 : (triples ls).length = ls.length := by simp [triples]
        rw [q0] at a1
        rw [q1] at b1
        rw [q2] at e1
        refine ⟨⟨lt, lo, hi, lf, ls⟩, pT, pF, pS, cT, cF, cS, by simp only [sdVal, q0, q1, q2], ⟨a4, b4, e4, a1, b1, e1, a2, b2, e2⟩, ?_, ?_, ?_⟩
        · exact room_of Try.underlying22 bytesWater a1 a6 (fun n hn => hz n (.inl hn))
        · exact room_of Try.underlying25 bytesInt b1 b6 (fun n hn => hz n (.inr (.inr (.inl hn))))
        · exact room_of Try.underlying26 bytesSill e1 e6 (fun n hn => hz n (.inr (.inr (.inr hn))))
end
end Go.Proofs.Ytcljkkojeleakaa
namespace Go.Proofs.Ytcljkkojeleakaa
open Go.ChangeShapes Go.WideShapes Go.ChangeAt Go.RowKit

section
variable {pT pF pS : Option Addr} {cT cF cS : Nat}
set_option maxRecDepth 100000 in
set_option maxHeartbeats 1000000 in
theorem lawGatesWide_c (s : Sd) (x : Int) (w : World) (hw : wideB s = true) :
    Calls Try.prog 4 #[sdVal s pT pF pS cT cF cS, .int .i64 x] w fun e w' => e = .returned (.bool true) ∧ Up w w' := by
  have HW := Lib.hid hw
  clear hw
  unfold sdVal
  go_enter Try.func4, Try.ntmps4
  go_wp2_with fail
  refine (wide_c s _).mono ?_
  rw [HW.out]
  rintro e w1 ⟨rfl, u1⟩
  have U1 : Hid (Up w w1) := Up.trans (by (repeat (first | exact Below.refl _ _ | (with_reducible refine Below.drewN' ?_ _) | (with_reducible refine Below.drew ?_) | (with_reducible refine Below.setCell ?_ (by first | exact Nat.le_refl _ | omega | (with_reducible (repeat (first | refine sz_alloc ?_ | refine sz_setCell ?_ | refine sz_drew ?_ | refine sz_drewN ?_)); first | exact Nat.le_refl _ | omega) | (simp only [World.size_alloc, World.size_setCell, World.size_drew, size_drewN']; omega)) _) | (with_reducible refine Below.alloc ?_ (by first | exact Nat.le_refl _ | omega | (with_reducible (repeat (first | refine sz_alloc ?_ | refine sz_setCell ?_ | refine sz_drew ?_ | refine sz_drewN ?_)); first | exact Nat.le_refl _ | omega) | (simp only [World.size_alloc, World.size_setCell, World.size_drew, size_drewN']; omega)) _) | assumption))) u1
  clear u1
  go_wp2_with fail
  refine (awake_c w1).mono ?_
  rintro e w4 ⟨rfl, u4⟩
  have U4 := Lib.hid (Up.trans U1.out u4)
  clear u4 U1
  go_wp2_with fail
  go_ret
  exact ⟨rfl, U4.out⟩

theorem tideGates_c (s : Sd) (x : Int) (w : World) (hl : Lists w s pT pF pS cT cF cS) (b1 : s.table.length * 16 ≤ 140737488355328) (b2 : s.floors.length * 8 ≤ 140737488355328) (b3 : s.sills.length * 24 ≤ 140737488355328) :
    Calls Try.prog 4 #[sdVal s pT pF pS cT cF cS, .int .i64 x] w fun e w' => e = .returned (.bool true) ∧ Up w w' := by
  cases hw : wideB s
  · exact lawGates_c s x w hl b1 b2 b3 hw
  · exact lawGatesWide_c s x w hw
end

set_option maxRecDepth 100000 in
theorem lawGates_contract (H : Type) (enc : TypeId × Value → H) (W : World) (base : Nat) (args : Array Value) (ds gs : List (DataW H)) (before : List MemPlace)
    (hval : ∀ (j : Nat) t v, Try.f4.params[j]? = some t → args[j]? = some v → Value.okWide Try.prog W .any base t v)
    (hW : DataW.Whole enc Try.prog Try.f4.params.toList Rows.tideGatesSpec.vars false W args.toList ds gs before)
    (hsz0 : (DataW.weightsEach Try.prog (Try.f4.params.toList ++ Rows.tideGatesSpec.plain.varTypes Try.prog) (ds ++ gs)).all (· ≤ reachBytes) = true) :
    Calls Try.prog 4 args W fun e W' => ∃ v, e = .returned v ∧ Rows.tideGatesSpec.post enc Try.prog Try.f4 false true false false W args v W' := by
  have hW' := hW
  obtain ⟨p, q, hA0, hV, rfl, -, -⟩ := hW
  have hA : DataW.TrodAll enc Try.prog W 0 (fun _ => true) true Try.f4.params.toList args.toList ds p := hA0
  rw [Try.params4] at hA hval
  obtain ⟨v0, vs0, d0, ds0, p0, q0, hargs, rfl, rfl, h0, r0⟩ := trodAll_cons hA
  obtain ⟨v1, vs1, d1, ds1, p1, q1, rfl, rfl, rfl, h1, r1⟩ := trodAll_cons r0
  obtain ⟨rfl, rfl, rfl⟩ := trodAll_nil r1
  obtain rfl : args = #[v0, v1] := by cases args; simp_all
  obtain ⟨rfl, rfl⟩ := trodVars_none hV
  have hz : ∀ n ∈ DataW.weights Try.prog 28 d0, n ≤ reachBytes := fun n hn => by
    have := List.all_eq_true.1 hsz0 n (DataW.weights_mem_each (j := 0) (t := 28) rfl rfl n hn)
    simpa using this
  obtain ⟨s, pT, pF, pS, cT, cF, cS, rfl, hl, b1, b2, b3⟩ := open_sands (hval 0 _ v0 rfl rfl) h0 hz
  obtain ⟨x, rfl, rfl, rfl, -⟩ := open_int Try.underlying3 (hval 1 _ v1 rfl rfl) h1
  refine (tideGates_c s x W hl b1 b2 b3).mono fun e W' ⟨he, hb⟩ => ?_
  exact ⟨_, he, law_post hW' rfl laidOut (by kernel_rfl) rfl Try.underlying4 ⟨rfl, rfl, rfl⟩ hb⟩

set_option maxRecDepth 100000 in
theorem gates_lifted (os : Os) (started : os.Started) (H : Type) (enc : TypeId × Value → H) :
    ReturnsInHanded {} Try.checked os 4 .any (Rows.tideGatesSpec.pre6 enc Try.prog Try.f4 Rows.tideGatesRow.domain false) (Rows.tideGatesSpec.post enc Try.prog Try.f4 false true false false) := by
  refine returnsInHanded_of_change_sized (C := Try.checked) own started (by kernel_rfl) Try.func4
    (ChangeSpec.witness6 (enc := enc) (C := Try.checked) false ⟨#[], #[.agg #[.slice none 0 0, .int .i64 0, .int .i64 0, .slice none 0 0, .slice none 0 0], .int .i64 0], []⟩ 8 (by kernel_rfl) (by kernel_rfl) (by kernel_rfl) (by kernel_rfl)) ?_
  intro W base args ds gs before hval hW _ hsz _
  exact lawGates_contract H enc W base args ds gs before hval hW hsz

theorem gates_holds : Rows.TideGatesSaid :=
  OpenClaim.holds_of_wide 4 Try.f4 rfl rfl rfl rfl rfl rfl rfl ⟨rfl, rfl, rfl, rfl, rfl⟩ rfl rfl rfl rfl rfl (by kernel_rfl) Try.func4 (by kernel_rfl)
    (of_decide_eq_true (by kernel_rfl)) (by unfold Func.isWrapper; first | (rw [if_pos (by decide +kernel)]; kernel_rfl) | (rw [if_neg (by decide +kernel)]; exact ⟨rfl, rfl⟩))
    (fun os started H enc _ => gates_lifted os started H enc)
#print axioms gates_holds
end Go.Proofs.Ytcljkkojeleakaa
