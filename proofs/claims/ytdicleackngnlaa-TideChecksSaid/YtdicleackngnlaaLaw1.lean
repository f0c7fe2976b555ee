import Derived.Test.YtdicleackngnlaaBase
import Derived.Test.YtdicleackngnlaaHeight
import Derived.Test.YtdicleackngnlaaChk
import Derived.Test.YtdicleackngnlaaChk2
import Derived.Test.YtdicleackngnlaaCheck
import Derived.Test.YtdicleackngnlaaOn
import Derived.Test.YtdicleackngnlaaLower
import Derived.Test.YtdicleackngnlaaGates
import Derived.Test.YtdicleackngnlaaBegin
import Derived.Test.YtdicleackngnlaaBegin2
import Derived.Test.YtdicleackngnlaaState
import Derived.Test.YtdicleackngnlaaOut1
import Derived.Test.YtdicleackngnlaaSpans
import Derived.Test.YtdicleackngnlaaFits
import Derived.Test.YtdicleackngnlaaQue
import Derived.Test.YtdicleackngnlaaLead
import Derived.Test.YtdicleackngnlaaWaysF
import Derived.Test.YtdicleackngnlaaAwake
import Derived.Test.YtdicleackngnlaaOwn
import Derived.Test.YtdicleackngnlaaSame
import Derived.Test.YtdicleackngnlaaRef
import Derived.Test.YtdicleackngnlaaRefChk
import Derived.Test.YtdicleackngnlaaRefHgt
import Derived.Test.YtdicleackngnlaaFar
import Derived.Test.YtdicleackngnlaaTheirs
import Derived.Test.YtdicleackngnlaaDraw
import Derived.Test.YtdicleackngnlaaPair
import Derived.WalkKit
import Derived.WalkSpells
import Derived.WalkLawsBesides
import Derived.Deep.QuietTactic
import Derived.BigQuiet
import Derived.Lib.Hide
import Derived.Shelf.Abstract
import Derived.BigGuardPart
import Derived.RangeFuncNested
import Derived.RangeFuncBound
import Derived.RangeFuncCalls
import Derived.RangeFuncLeaves
import Derived.Shelf.RegionOpen
import Derived.OwnWalkIn
import Derived.TacticsInMore
import Derived.LoopNIn
import Derived.LoopIn
import Derived.StillTailTactics
import Derived.Deep.RegionHeld3
import Derived.StillTail
import Derived.RangeFuncWrites
import Derived.Laws.StructEq
import Derived.Deep.LoopGhost
import Derived.IntWalk
import Derived.RangeFuncBox
import Derived.ArgAppend
import Derived.Laws.CopyOwn
import Derived.OwnWalk
import Derived.Lib.SliceRun
import Derived.Maps.OwnOps
import Derived.Maps.OwnSet
import Derived.Deep.AppendSrc
import Derived.Deep.Upon
import Derived.Deep.Cut
import Derived.Deep.DeepCutAuto
namespace Go.Proofs.Ytdicleackngnlaa
open Go.RowKit Go.Shelf

section
variable {pT pF pS : Option Addr} {cT cF cS : Nat}
set_option maxRecDepth 100000 in
set_option maxHeartbeats 4000000 in
theorem checks_c (s : Sd) (m : Int) (w : World) (hl : Lists w s pT pF pS cT cF cS) (b1 : s.table.length * 16 ≤ 140737488355328) (b2 : s.floors.length * 8 ≤ 140737488355328) (b3 : s.sills.length * 24 ≤ 140737488355328) (hw : wideB s = false) :
    Calls Try.prog 3 #[sdVal s pT pF pS cT cF cS, .int .i64 m] w fun e w' => e = .returned (.bool true) ∧ Up w w' := by
  have HO := Lib.hid (fun W (u : Up w W) => own_c s W (hl.up u) b1 b2 b3)
  have HT := Lib.hid (fun W (u : Up w W) => theirs_c s W (hl.up u) b1 b2 b3)
  have HL := Lib.hid hl
  have HW := Lib.hid hw
  clear hl b1 b2 b3 hw
  unfold sdVal
  go_enter Try.func3, Try.ntmps3
  go_wp2_with fail
  refine (wide_c s _).mono ?_
  rw [HW.out]
  rintro e w1 ⟨rfl, u1⟩
  go_upto_region 3 with fail
  have hB : At5 w1 w.heap.size s pT pF pS cT cF cS := by
    have h := (Blk.new w (sdCells s pT pF pS cT cF cS) 28).up u1
    have c0 := h.cell 0
    have c1 := h.cell 1
    have c2 := h.cell 2
    have c3 := h.cell 3
    have c4 := h.cell 4
    simp only [sdCells, List.getElem?_cons_zero, List.getElem?_cons_succ] at c0 c1 c2 c3 c4
    exact ⟨c0, c1, c2, c3, c4⟩
  have HB := Lib.hid hB
  have U1 : Hid (Up w w1) := Up.trans (by (repeat (first | exact Below.refl _ _ | (with_reducible refine Below.drewN' ?_ _) | (with_reducible refine Below.drew ?_) | (with_reducible refine Below.setCell ?_ (by first | exact Nat.le_refl _ | omega | (with_reducible (repeat (first | refine sz_alloc ?_ | refine sz_setCell ?_ | refine sz_drew ?_ | refine sz_drewN ?_)); first | exact Nat.le_refl _ | omega) | (simp only [World.size_alloc, World.size_setCell, World.size_drew, size_drewN']; omega)) _) | (with_reducible refine Below.alloc ?_ (by first | exact Nat.le_refl _ | omega | (with_reducible (repeat (first | refine sz_alloc ?_ | refine sz_setCell ?_ | refine sz_drew ?_ | refine sz_drewN ?_)); first | exact Nat.le_refl _ | omega) | (simp only [World.size_alloc, World.size_setCell, World.size_drew, size_drewN']; omega)) _) | assumption))) u1
  have HO1 := Lib.hid (fun W (u : Up w1 W) => HO.out W (Up.trans U1.out u))
  have HT1 := Lib.hid (fun W (u : Up w1 W) => HT.out W (Up.trans U1.out u))
  clear hB u1 HO HT
  go_cut [5, 6] (fun a b wx => Both w1 wx s a b)
  case first =>
    refine region_inv 6 (fun done a W => ∃ v0 v1 v2 v3 v4 v5, a = ⟨#[.agg #[.slice pT s.table.length cT, .int .i64 s.lo, .int .i64 s.hi, .slice pF s.floors.length cF, .slice pS s.sills.length cS], .int .i64 m, .pointer (some ⟨w.heap.size, 0, none⟩), undef, .bool false, v4, v5, undef, undef, undef, undef, undef, undef, undef, .agg #[.slice pT s.table.length cT, .int .i64 s.lo, .int .i64 s.hi, .slice pF s.floors.length cF, .slice pS s.sills.length cS], .bool false, undef, undef, undef, undef, undef, undef, undef, v0, v1, v2, v3, undef, undef, undef, undef, undef, undef, undef, undef, undef, undef, undef, undef, undef, undef, undef, undef, undef, undef, undef, undef, undef, undef, undef, undef, undef, undef, undef, undef, undef, undef, undef, undef, undef, undef, undef, undef, undef, undef, undef, undef, undef, undef, undef, undef, undef, undef, undef, undef, undef, undef, undef, undef, undef, undef, undef, undef, undef, undef, undef, undef, undef, undef, undef, undef, undef, undef], []⟩ ∧ Pair w1 s (.agg #[.slice pT s.table.length cT, .int .i64 s.lo, .int .i64 s.hi, .slice pF s.floors.length cF, .slice pS s.sills.length cS]) done W v0 v1 v2 v3 v4 v5) mixed (by kernel_rfl) ?_ ?_ ?_
    · exact ⟨_, _, _, _, _, _, rfl, Pair.start _ _ _⟩
    · intro done a W i o hi hd ho hall hinv
      obtain ⟨v0, v1, v2, v3, v4, v5, rfl, hC⟩ := hinv
      obtain ⟨c0, c1, c2, c3, c4⟩ := HB.out.up hC.up
      have HC := Lib.hid hC
      have HA := Lib.hid hall
      clear hC hall hd
      obtain rfl | rfl | rfl | rfl | rfl | rfl : i = 0 ∨ i = 1 ∨ i = 2 ∨ i = 3 ∨ i = 4 ∨ i = 5 := by omega
      · clear ho HA
        refine wpOp_step rfl (fun K hK => ?_)
        rw [if_pos (by rfl)]
        have HK := Lib.hid hK
        clear hK
        go_simp
        exact HK.out _ _ ⟨_, _, _, _, _, _, rfl, HC.out.load0⟩
      · have e0 : v0 = _ := HC.out.l0 (HA.out ⟨0, .data⟩ (by cases ho; simp) rfl)
        clear ho HA
        subst e0
        refine wpOp_step rfl (fun K hK => ?_)
        rw [if_pos (by rfl)]
        have HK := Lib.hid hK
        clear hK
        go_simp
        refine (HO1.out W HC.out.up).mono ?_
        rintro e w2 ⟨qT, qF, qS, dT, dF, dS, rfl, h1, h2, h3⟩
        exact HK.out _ _ ⟨_, _, _, _, _, _, rfl, HC.out.call1 h2 h1 h3⟩
      · clear ho HA
        refine wpOp_step rfl (fun K hK => ?_)
        rw [if_pos (by rfl)]
        have HK := Lib.hid hK
        clear hK
        go_simp
        exact HK.out _ _ ⟨_, _, _, _, _, _, rfl, HC.out.load2⟩
      · have e0 : v2 = _ := HC.out.l2 (HA.out ⟨2, .data⟩ (by cases ho; simp) rfl)
        clear ho HA
        subst e0
        refine wpOp_step rfl (fun K hK => ?_)
        rw [if_pos (by rfl)]
        have HK := Lib.hid hK
        clear hK
        go_simp
        refine (HT1.out W HC.out.up).mono ?_
        rintro e w2 ⟨qT, qF, qS, dT, dF, dS, rfl, h1, h2, h3⟩
        exact HK.out _ _ ⟨_, _, _, _, _, _, rfl, HC.out.call3 h2 h1 h3⟩
      · clear ho HA
        refine wpOp_step rfl (fun K hK => ?_)
        rw [if_pos (by rfl)]
        have HK := Lib.hid hK
        clear hK
        go_simp
        exact HK.out _ _ ⟨_, _, _, _, _, _, rfl, HC.out.alloc4⟩
      · clear ho HA
        refine wpOp_step rfl (fun K hK => ?_)
        rw [if_pos (by rfl)]
        have HK := Lib.hid hK
        clear hK
        go_simp
        exact HK.out _ _ ⟨_, _, _, _, _, _, rfl, HC.out.alloc5⟩
    · rintro a W ⟨v0, v1, v2, v3, v4, v5, rfl, hC⟩
      obtain ⟨u, -, -, h1, h3, h4, h5, -, -⟩ := hC
      obtain ⟨B5, rfl, k5, n5⟩ := h4 rfl
      obtain ⟨B6, rfl, k6, n6⟩ := h5 rfl
      obtain ⟨qT, qF, qS, dT, dF, dS, rfl, l1, o1, p1⟩ := h1 rfl
      obtain ⟨rT, rF, rS, gT, gF, gS, rfl, l3, o3, p3⟩ := h3 rfl
      change wpList _ _ _ [_, _] _ _
      have ne : B5 ≠ B6 := k5.ne k6 (by decide)
      have HBoth : Hid (Both w1 (fill (fill W B5 s qT qF qS dT dF dS) B6 s rT rF rS gT gF gS) s (.pointer (some ⟨B5, 0, none⟩)) (.pointer (some ⟨B6, 0, none⟩))) :=
        ⟨B5, B6, qT, qF, qS, dT, dF, dS, rT, rF, rS, gT, gF, gS, rfl, rfl, fill_up (fill_up u n5 _ _ _ _ _ _ _) n6 _ _ _ _ _ _ _, fill_lists (fill_lists l1 o1 _ _ _ _ _ _) p1 _ _ _ _ _ _, fill_lists (fill_lists l3 o3 _ _ _ _ _ _) p3 _ _ _ _ _ _,
          At5.of (fill_other (fill_blk k5 _ _ _ _ _ _ _) ne _ _ _ _ _ _ _), At5.of (fill_blk (fill_other k6 (Ne.symm ne) _ _ _ _ _ _ _) _ _ _ _ _ _ _)⟩
      have y0 := k5.cell 0
      have y1 := k5.cell 1
      have y2 := k5.cell 2
      have y3 := k5.cell 3
      have y4 := k5.cell 4
      have yf := k5.free
      have x0 := k6.cell 0
      have x1 := k6.cell 1
      have x2 := k6.cell 2
      have x3 := k6.cell 3
      have x4 := k6.cell 4
      have xf := k6.free
      simp only [zero5, List.getElem?_cons_zero, List.getElem?_cons_succ] at y0 y1 y2 y3 y4 x0 x1 x2 x3 x4
      have ne' := Ne.symm ne
      clear h1 h3 h4 h5 l1 l3 o1 o3 p1 p3 k5 k6 u n5 n6 HO1 HT1
      unfold sdVal
      dsimp only
      go_wp2_with fail
      go_meet
      exact HBoth.out
  case rest =>
    obtain ⟨B5, B6, qT, qF, qS, dT, dF, dS, rT, rF, rS, gT, gF, gS, rfl, rfl, u, l5, l6, a5, a6⟩ := hcut
    have L5 := Lib.hid l5
    have L6 := Lib.hid l6
    have A5 := Lib.hid a5
    have A6 := Lib.hid a6
    have A0 := Lib.hid (HB.out.up u)
    have U0 := Lib.hid (Up.trans U1.out u)
    clear l5 l6 a5 u U1 HB HO1 HT1 w1
    obtain ⟨e0, e1, e2, e3, e4⟩ := a6
    by_cases hE : chk s = 0
    · have HE := Lib.hid hE
      have OK := Lib.hid (chk_ok hE)
      obtain ⟨-, -, ht2, ht12⟩ := OK.out.table
      have ilo := OK.out.lo0
      have ihi := OK.out.hi1
      have ilh := OK.out.lohi
      cases hD : inDay s m
      · have HD := Lib.hid hD
        have E1 : Hid (errAt s m = 3) := by show _ = _; unfold errAt; rw [if_pos hE, hD]; rfl
        have E2 : Hid (heightV s m = 0) := by show _ = _; unfold heightV; rw [E1.out]; rfl
        have E3 : Hid (levelV s m = (0, 0)) := by show _ = _; unfold levelV; rw [E1.out]; rfl
        clear hE hD
        go_wp2_with fail
        refine (refCheck_c s wc L6.out).mono ?_
        rw [HE.out]
        rintro e x1 ⟨rfl, v1⟩
        obtain ⟨c0, c1, c2, c3, c4⟩ := A5.out.up v1
        have V1 := Lib.hid v1
        clear v1 e0 e1 e2 e3 e4
        go_wp2_with fail
        refine (check_c s x1 _ _ _ _ _ _ (L5.out.up V1.out)).mono ?_
        rw [HE.out]
        rintro e y2 ⟨rfl, v2⟩
        have W2 := Lib.hid (Up.trans V1.out v2)
        clear v2 V1 c0 c1 c2 c3 c4
        obtain ⟨c0, c1, c2, c3, c4⟩ := A6.out.up W2.out
        go_wp2_with fail
        refine (refMinute_c s m y2 (L6.out.up W2.out) ht2 ht12).mono ?_
        rw [HD.out]
        rintro e x2 ⟨rfl, v2⟩
        have V2 := Lib.hid (Up.trans W2.out v2)
        clear v2 W2 c0 c1 c2 c3 c4
        obtain ⟨c0, c1, c2, c3, c4⟩ := A5.out.up V2.out
        have lb := cell_lt c0
        go_wp2_with fail
        refine Calls.world ?_
        intro x3 hx3
        have u3 : Up x2 x3 := by rw [hx3]; (repeat (first | exact Below.refl _ _ | (with_reducible refine Below.drewN' ?_ _) | (with_reducible refine Below.drew ?_) | (with_reducible refine Below.setCell ?_ (by first | exact Nat.le_refl _ | omega | (with_reducible (repeat (first | refine sz_alloc ?_ | refine sz_setCell ?_ | refine sz_drew ?_ | refine sz_drewN ?_)); first | exact Nat.le_refl _ | omega) | (simp only [World.size_alloc, World.size_setCell, World.size_drew, size_drewN']; omega)) _) | (with_reducible refine Below.alloc ?_ (by first | exact Nat.le_refl _ | omega | (with_reducible (repeat (first | refine sz_alloc ?_ | refine sz_setCell ?_ | refine sz_drew ?_ | refine sz_drewN ?_)); first | exact Nat.le_refl _ | omega) | (simp only [World.size_alloc, World.size_setCell, World.size_drew, size_drewN']; omega)) _) | assumption))
        have hS : Blk x3 x2.heap.size [.int .i64 0, .int .i64 0] 24 := by rw [hx3]; exact Blk.new x2 [.int .i64 0, .int .i64 0] _
        clear hx3
        refine (Height_c s m x3 (L5.out.up (Up.trans V2.out u3))).mono ?_
        rw [E2.out, E1.out]
        rintro e x4 ⟨rfl, v4⟩
        have V4 := Lib.hid (Up.trans V2.out (Up.trans u3 v4))
        have HS := Lib.hid (hS.up v4)
        clear u3 v4 hS c0 c1 c2 c3 c4 lb
        obtain ⟨c0, c1, c2, c3, c4⟩ := A5.out.up V4.out
        go_wp2_with fail
        refine (Level_c s m x4 (L5.out.up V4.out)).mono ?_
        rw [E3.out, E1.out]
        rintro e x5 ⟨rfl, v5⟩
        dsimp only
        have V5 := Lib.hid (Up.trans V4.out v5)
        have hS5 := HS.out.up v5
        have s0 := hS5.cell 0
        have s1 := hS5.cell 1
        have sl := hS5.lt
        simp only [List.getElem?_cons_zero, List.getElem?_cons_succ] at s0 s1
        clear v5 hS5 HS V4 c0 c1 c2 c3 c4
        obtain ⟨c0, c1, c2, c3, c4⟩ := A5.out.up V5.out
        obtain ⟨d0, d1, d2, d3, d4⟩ := A0.out.up V5.out
        have lb := cell_lt c0
        have ld := cell_lt d0
        go_wp2_with fail
        refine Calls.world ?_
        intro x6 hx6
        have u6 : Up x5 x6 := by rw [hx6]; (repeat (first | exact Below.refl _ _ | (with_reducible refine Below.drewN' ?_ _) | (with_reducible refine Below.drew ?_) | (with_reducible refine Below.setCell ?_ (by first | exact Nat.le_refl _ | omega | (with_reducible (repeat (first | refine sz_alloc ?_ | refine sz_setCell ?_ | refine sz_drew ?_ | refine sz_drewN ?_)); first | exact Nat.le_refl _ | omega) | (simp only [World.size_alloc, World.size_setCell, World.size_drew, size_drewN']; omega)) _) | (with_reducible refine Below.alloc ?_ (by first | exact Nat.le_refl _ | omega | (with_reducible (repeat (first | refine sz_alloc ?_ | refine sz_setCell ?_ | refine sz_drew ?_ | refine sz_drewN ?_)); first | exact Nat.le_refl _ | omega) | (simp only [World.size_alloc, World.size_setCell, World.size_drew, size_drewN']; omega)) _) | assumption))
        clear hx6
        have V6 := Lib.hid (Up.trans V5.out u6)
        clear u6 V5 c0 c1 c2 c3 c4 d0 d1 d2 d3 d4 lb ld s0 s1 sl
        refine (same_c s x6 (L5.out.up V6.out) (HL.out.up (Up.trans U0.out V6.out))).mono ?_
        rintro e x7 ⟨rfl, v7⟩
        have V7 := Lib.hid (Up.trans U0.out (Up.trans V6.out v7))
        clear v7 V6
        go_wp2_with fail
        refine (awake_c x7).mono ?_
        rintro e x8 ⟨rfl, v8⟩
        have V8 := Lib.hid (Up.trans V7.out v8)
        clear v8 V7
        go_wp2_with fail
        go_ret
        exact ⟨rfl, V8.out⟩
      · have HD := Lib.hid hD
        have hm := inB_true.1 hD
        obtain ⟨hm1, hm2⟩ := hm
        have E1 : Hid (errAt s m = 0) := by show _ = _; unfold errAt; rw [if_pos hE, hD]; rfl
        have E2 : Hid (heightV s m = hgt s.table m) := by show _ = _; unfold heightV; rw [E1.out]; rfl
        have E3 : Hid (levelV s m = (hgt s.table m + s.lo, hgt s.table m + s.hi)) := by show _ = _; unfold levelV; rw [E1.out]; rfl
        have hr := hgt_rng OK.out.table m hm1
        have HR := Lib.hid (fun W (l : Lists W s rT rF rS gT gF gS) => refHeight_c s m W l OK.out.table hm1 hm2)
        generalize hgt s.table m = h at *
        obtain ⟨hr0, hr1⟩ := hr
        clear hE hD hm1 hm2
        go_wp2_with fail
        refine (refCheck_c s wc L6.out).mono ?_
        rw [HE.out]
        rintro e x1 ⟨rfl, v1⟩
        obtain ⟨c0, c1, c2, c3, c4⟩ := A5.out.up v1
        have V1 := Lib.hid v1
        clear v1 e0 e1 e2 e3 e4
        go_wp2_with fail
        refine (check_c s x1 _ _ _ _ _ _ (L5.out.up V1.out)).mono ?_
        rw [HE.out]
        rintro e y2 ⟨rfl, v2⟩
        have W2 := Lib.hid (Up.trans V1.out v2)
        clear v2 V1 c0 c1 c2 c3 c4
        obtain ⟨c0, c1, c2, c3, c4⟩ := A6.out.up W2.out
        go_wp2_with fail
        refine (refMinute_c s m y2 (L6.out.up W2.out) ht2 ht12).mono ?_
        rw [HD.out]
        rintro e x2 ⟨rfl, v2⟩
        have V2 := Lib.hid (Up.trans W2.out v2)
        clear v2 W2 c0 c1 c2 c3 c4
        obtain ⟨c0, c1, c2, c3, c4⟩ := A6.out.up V2.out
        have lb := cell_lt c0
        go_wp2_with fail
        refine Calls.world ?_
        intro x3 hx3
        have u3 : Up x2 x3 := by rw [hx3]; (repeat (first | exact Below.refl _ _ | (with_reducible refine Below.drewN' ?_ _) | (with_reducible refine Below.drew ?_) | (with_reducible refine Below.setCell ?_ (by first | exact Nat.le_refl _ | omega | (with_reducible (repeat (first | refine sz_alloc ?_ | refine sz_setCell ?_ | refine sz_drew ?_ | refine sz_drewN ?_)); first | exact Nat.le_refl _ | omega) | (simp only [World.size_alloc, World.size_setCell, World.size_drew, size_drewN']; omega)) _) | (with_reducible refine Below.alloc ?_ (by first | exact Nat.le_refl _ | omega | (with_reducible (repeat (first | refine sz_alloc ?_ | refine sz_setCell ?_ | refine sz_drew ?_ | refine sz_drewN ?_)); first | exact Nat.le_refl _ | omega) | (simp only [World.size_alloc, World.size_setCell, World.size_drew, size_drewN']; omega)) _) | assumption))
        have hS : Blk x3 x2.heap.size [.int .i64 0, .int .i64 0] 24 := by rw [hx3]; exact Blk.new x2 [.int .i64 0, .int .i64 0] _
        clear hx3
        refine (HR.out x3 (L6.out.up (Up.trans V2.out u3))).mono ?_
        rintro e z4 ⟨rfl, v4⟩
        have V4 := Lib.hid (Up.trans V2.out (Up.trans u3 v4))
        have hS4 := hS.up v4
        have HS := Lib.hid hS4
        clear u3 v4 hS c0 c1 c2 c3 c4 lb
        obtain ⟨c0, c1, c2, c3, c4⟩ := A5.out.up V4.out
        obtain ⟨d0, d1, d2, d3, d4⟩ := A0.out.up V4.out
        have s0 := hS4.cell 0
        have s1 := hS4.cell 1
        have sf := hS4.free
        have sl := hS4.lt
        have nb : B5 ≠ x2.heap.size := by have := cell_lt (A5.out.up V2.out).c0; omega
        have nb' := Ne.symm nb
        have lb := cell_lt c0
        simp only [List.getElem?_cons_zero, List.getElem?_cons_succ] at s0 s1
        have t1 : IntKind.i64.wrap (h + s.lo) = h + s.lo := IntWalk.i64_in _ (by omega)
        have t2 : IntKind.i64.wrap (h + s.hi) = h + s.hi := IntWalk.i64_in _ (by omega)
        clear hS4
        go_wp2_with fail
        refine Calls.world ?_
        intro z5 hz5
        have hs5 : Blk z5 x2.heap.size [.int .i64 (h + s.lo), .int .i64 (h + s.hi)] 24 := by rw [hz5]; exact (HS.out.set 0 _).set 1 _
        have u5 : Up wc z5 := by
          have hV := V2.out.size
          rw [hz5]; exact (V4.out.setCell (p := ⟨x2.heap.size, 0, none⟩) hV _).setCell (p := ⟨x2.heap.size, 1, none⟩) hV _
        clear hz5
        have Z5 := Lib.hid u5
        have HS5 := Lib.hid hs5
        clear t1 t2 hs5 u5 HS V4 c0 c1 c2 c3 c4 d0 d1 d2 d3 d4 s0 s1 sf sl lb nb nb'
        obtain ⟨c0, c1, c2, c3, c4⟩ := A5.out.up Z5.out
        refine (Height_c s m z5 (L5.out.up Z5.out)).mono ?_
        rw [E2.out, E1.out]
        rintro e x4 ⟨rfl, v4⟩
        have V4 := Lib.hid (Up.trans Z5.out v4)
        have HS := Lib.hid (HS5.out.up v4)
        clear v4 c0 c1 c2 c3 c4 Z5 HS5
        obtain ⟨c0, c1, c2, c3, c4⟩ := A5.out.up V4.out
        go_wp2_with fail
        refine (Level_c s m x4 (L5.out.up V4.out)).mono ?_
        rw [E3.out, E1.out]
        rintro e x5 ⟨rfl, v5⟩
        dsimp only
        have V5 := Lib.hid (Up.trans V4.out v5)
        have hS5 := HS.out.up v5
        have s0 := hS5.cell 0
        have s1 := hS5.cell 1
        have sl := hS5.lt
        simp only [List.getElem?_cons_zero, List.getElem?_cons_succ] at s0 s1
        clear v5 hS5 HS V4 c0 c1 c2 c3 c4
        obtain ⟨c0, c1, c2, c3, c4⟩ := A5.out.up V5.out
        obtain ⟨d0, d1, d2, d3, d4⟩ := A0.out.up V5.out
        have lb := cell_lt c0
        have ld := cell_lt d0
        go_wp2_with fail
        refine Calls.world ?_
        intro x6 hx6
        have u6 : Up x5 x6 := by rw [hx6]; (repeat (first | exact Below.refl _ _ | (with_reducible refine Below.drewN' ?_ _) | (with_reducible refine Below.drew ?_) | (with_reducible refine Below.setCell ?_ (by first | exact Nat.le_refl _ | omega | (with_reducible (repeat (first | refine sz_alloc ?_ | refine sz_setCell ?_ | refine sz_drew ?_ | refine sz_drewN ?_)); first | exact Nat.le_refl _ | omega) | (simp only [World.size_alloc, World.size_setCell, World.size_drew, size_drewN']; omega)) _) | (with_reducible refine Below.alloc ?_ (by first | exact Nat.le_refl _ | omega | (with_reducible (repeat (first | refine sz_alloc ?_ | refine sz_setCell ?_ | refine sz_drew ?_ | refine sz_drewN ?_)); first | exact Nat.le_refl _ | omega) | (simp only [World.size_alloc, World.size_setCell, World.size_drew, size_drewN']; omega)) _) | assumption))
        clear hx6
        have V6 := Lib.hid (Up.trans V5.out u6)
        clear u6 V5 c0 c1 c2 c3 c4 d0 d1 d2 d3 d4 lb ld s0 s1 sl
        refine (same_c s x6 (L5.out.up V6.out) (HL.out.up (Up.trans U0.out V6.out))).mono ?_
        rintro e x7 ⟨rfl, v7⟩
        have V7 := Lib.hid (Up.trans U0.out (Up.trans V6.out v7))
        clear v7 V6
        go_wp2_with fail
        refine (awake_c x7).mono ?_
        rintro e x8 ⟨rfl, v8⟩
        have V8 := Lib.hid (Up.trans V7.out v8)
        clear v8 V7
        go_wp2_with fail
        go_ret
        exact ⟨rfl, V8.out⟩
    · have HE := Lib.hid hE
      have n1 : (chk s == 0) = false := beq_eq_false_iff_ne.2 hE
      have E1 : Hid (errAt s m = chk s) := by show _ = _; unfold errAt; rw [if_neg hE]
      have E2 : Hid (heightV s m = 0) := by show _ = _; unfold heightV; rw [E1.out, if_neg hE]
      have E3 : Hid (levelV s m = (0, 0)) := by show _ = _; unfold levelV; rw [E1.out, if_neg hE]
      clear hE
      go_wp2_with fail
      refine (refCheck_c s wc L6.out).mono ?_
      rintro e x1 ⟨rfl, v1⟩
      obtain ⟨c0, c1, c2, c3, c4⟩ := A5.out.up v1
      have V1 := Lib.hid v1
      clear v1 e0 e1 e2 e3 e4
      go_wp2_with fail
      refine (check_c s x1 _ _ _ _ _ _ (L5.out.up V1.out)).mono ?_
      rintro e x2 ⟨rfl, v2⟩
      have V2 := Lib.hid (Up.trans V1.out v2)
      clear v2 V1 c0 c1 c2 c3 c4
      obtain ⟨c0, c1, c2, c3, c4⟩ := A5.out.up V2.out
      have lb := cell_lt c0
      generalize hc : chk s = c at *
      have HC := Lib.hid hc
      clear hc
      go_wp2_with fail
      refine Calls.world ?_
      intro x3 hx3
      have u3 : Up x2 x3 := by rw [hx3]; (repeat (first | exact Below.refl _ _ | (with_reducible refine Below.drewN' ?_ _) | (with_reducible refine Below.drew ?_) | (with_reducible refine Below.setCell ?_ (by first | exact Nat.le_refl _ | omega | (with_reducible (repeat (first | refine sz_alloc ?_ | refine sz_setCell ?_ | refine sz_drew ?_ | refine sz_drewN ?_)); first | exact Nat.le_refl _ | omega) | (simp only [World.size_alloc, World.size_setCell, World.size_drew, size_drewN']; omega)) _) | (with_reducible refine Below.alloc ?_ (by first | exact Nat.le_refl _ | omega | (with_reducible (repeat (first | refine sz_alloc ?_ | refine sz_setCell ?_ | refine sz_drew ?_ | refine sz_drewN ?_)); first | exact Nat.le_refl _ | omega) | (simp only [World.size_alloc, World.size_setCell, World.size_drew, size_drewN']; omega)) _) | assumption))
      have hS : Blk x3 x2.heap.size [.int .i64 0, .int .i64 0] 24 := by rw [hx3]; exact Blk.new x2 [.int .i64 0, .int .i64 0] _
      clear hx3
      refine (Height_c s m x3 (L5.out.up (Up.trans V2.out u3))).mono ?_
      rw [E2.out, E1.out]
      rintro e x4 ⟨rfl, v4⟩
      have V4 := Lib.hid (Up.trans V2.out (Up.trans u3 v4))
      have HS := Lib.hid (hS.up v4)
      clear u3 v4 hS c0 c1 c2 c3 c4 lb
      obtain ⟨c0, c1, c2, c3, c4⟩ := A5.out.up V4.out
      go_wp2_with fail
      refine (Level_c s m x4 (L5.out.up V4.out)).mono ?_
      rw [E3.out, E1.out]
      rintro e x5 ⟨rfl, v5⟩
      dsimp only
      have V5 := Lib.hid (Up.trans V4.out v5)
      have hS5 := HS.out.up v5
      have s0 := hS5.cell 0
      have s1 := hS5.cell 1
      have sl := hS5.lt
      simp only [List.getElem?_cons_zero, List.getElem?_cons_succ] at s0 s1
      clear v5 hS5 HS V4 c0 c1 c2 c3 c4
      obtain ⟨c0, c1, c2, c3, c4⟩ := A5.out.up V5.out
      obtain ⟨d0, d1, d2, d3, d4⟩ := A0.out.up V5.out
      have lb := cell_lt c0
      have ld := cell_lt d0
      go_wp2_with fail
      refine Calls.world ?_
      intro x6 hx6
      have u6 : Up x5 x6 := by rw [hx6]; (repeat (first | exact Below.refl _ _ | (with_reducible refine Below.drewN' ?_ _) | (with_reducible refine Below.drew ?_) | (with_reducible refine Below.setCell ?_ (by first | exact Nat.le_refl _ | omega | (with_reducible (repeat (first | refine sz_alloc ?_ | refine sz_setCell ?_ | refine sz_drew ?_ | refine sz_drewN ?_)); first | exact Nat.le_refl _ | omega) | (simp only [World.size_alloc, World.size_setCell, World.size_drew, size_drewN']; omega)) _) | (with_reducible refine Below.alloc ?_ (by first | exact Nat.le_refl _ | omega | (with_reducible (repeat (first | refine sz_alloc ?_ | refine sz_setCell ?_ | refine sz_drew ?_ | refine sz_drewN ?_)); first | exact Nat.le_refl _ | omega) | (simp only [World.size_alloc, World.size_setCell, World.size_drew, size_drewN']; omega)) _) | assumption))
      clear hx6
      have V6 := Lib.hid (Up.trans V5.out u6)
      clear u6 V5 c0 c1 c2 c3 c4 d0 d1 d2 d3 d4 lb ld s0 s1 sl
      refine (same_c s x6 (L5.out.up V6.out) (HL.out.up (Up.trans U0.out V6.out))).mono ?_
      rintro e x7 ⟨rfl, v7⟩
      have V7 := Lib.hid (Up.trans U0.out (Up.trans V6.out v7))
      clear v7 V6
      go_wp2_with fail
      refine (awake_c x7).mono ?_
      rintro e x8 ⟨rfl, v8⟩
      have V8 := Lib.hid (Up.trans V7.out v8)
      clear v8 V7
      go_wp2_with fail
      go_ret
      exact ⟨rfl, V8.out⟩
end
end Go.Proofs.Ytdicleackngnlaa
