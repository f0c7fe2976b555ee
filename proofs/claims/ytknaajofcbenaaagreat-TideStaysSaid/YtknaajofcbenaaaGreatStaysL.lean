/- The law TideStays returns true, of sands that are not too wide. -/
import Derived.Test.YtknaajofcbenaaaGreatStaysB
import Derived.Test.YtknaajofcbenaaaGreatRefChk
import Derived.Test.YtknaajofcbenaaaGreatStaysA
import Derived.Test.YtknaajofcbenaaaGreatEqInt
import Derived.Test.YtknaajofcbenaaaGreatDraw2
import Derived.Test.YtknaajofcbenaaaGreatDraw4
import Derived.WalkKit
import Derived.WalkSpells
import Derived.WalkLawsBesides
import Derived.Deep.QuietTactic
import Derived.BigQuiet
import Derived.Lib.Hide
import Derived.Shelf.Abstract
import Derived.BigGuardPart
import Derived.RangeFuncNested
import Derived.RangeFuncBound
import Derived.RangeFuncCalls
import Derived.RangeFuncLeaves
import Derived.Shelf.RegionOpen
import Derived.OwnWalkIn
import Derived.TacticsInMore
import Derived.LoopNIn
import Derived.LoopIn
import Derived.StillTailTactics
import Derived.Deep.RegionHeld3
import Derived.StillTail
import Derived.RangeFuncWrites
import Derived.Laws.StructEq
import Derived.Deep.LoopGhost
import Derived.IntWalk
import Derived.RangeFuncBox
import Derived.ArgAppend
import Derived.Laws.CopyOwn
import Derived.OwnWalk
import Derived.Lib.SliceRun
import Derived.Maps.OwnOps
import Derived.Maps.OwnSet
import Derived.Deep.AppendSrc
import Derived.Deep.Upon
import Derived.Deep.Cut
import Derived.Deep.DeepCutAuto
import Derived.Deep.CutBlock
namespace Go.Proofs.YtknaajofcbenaaaGreat
open Go.RowKit Go.Shelf

theorem floodV_len (s : Sd) (m : Int) : (floodV s m).2.length ≤ s.floors.length := by
  unfold floodV
  split
  · split
    · show ((dryL s m).filter _).length ≤ _
      refine Nat.le_trans (List.length_filter_le _ _) ?_
      unfold dryL
      refine Nat.le_trans (List.length_filter_le _ _) ?_
      rw [allP_len]
      exact Nat.le_refl _
    · exact Nat.zero_le _
  · exact Nat.zero_le _
section
variable {pT pF pS : Option Addr} {cT cF cS : Nat}
set_option maxRecDepth 100000 in
set_option maxHeartbeats 4000000 in
theorem stays_c (s : Sd) (m x : Int) (la : List Int) (qa : Option Addr) (da : Nat) (w : World) (hl : Lists w s pT pF pS cT cF cS) (ra : Row w qa 1 (ints la)) (b1 : s.table.length * 16 ≤ 140737488355328) (b2 : s.floors.length * 8 ≤ 140737488355328) (b3 : s.sills.length * 24 ≤ 140737488355328) (hw : wideB s = false) (ka : la.length ≤ 20) :
    Calls Tryz.prog 3 #[sdVal s pT pF pS cT cF cS, .int .i64 m, .int .i64 x, .slice qa la.length da] w fun e w' => e = .returned (.bool true) ∧ Up w w' := by
  have HO := Lib.hid (fun W (u : Up w W) => own_c s W (hl.up u) b1 b2 b3)
  have HT := Lib.hid (fun W (u : Up w W) => theirs_c s W (hl.up u) b1 b2 b3)
  have HL := Lib.hid hl
  have RA := Lib.hid ra
  have HW := Lib.hid hw
  have g1 : ¬ (20 : Int) < (la.length : Int) := by omega
  clear hl b1 b2 b3 hw ra
  unfold sdVal
  go_enter Tryz.func3, Tryz.ntmps3
  go_wp2_with fail
  refine (wide_c s _).mono ?_
  rw [HW.out]
  rintro e w1 ⟨rfl, u1⟩
  go_upto_region 3 with fail
  have hB : At5 w1 w.heap.size s pT pF pS cT cF cS := At5.of ((Blk.new w (sdCells s pT pF pS cT cF cS) 28).up u1)
  have HB := Lib.hid hB
  have U1 : Hid (Up w w1) := Up.trans (by (repeat (first | exact Below.refl _ _ | (with_reducible refine Below.drewN' ?_ _) | (with_reducible refine Below.drew ?_) | (with_reducible refine Below.setCell ?_ (by first | exact Nat.le_refl _ | omega | (with_reducible (repeat (first | refine sz_alloc ?_ | refine sz_setCell ?_ | refine sz_drew ?_ | refine sz_drewN ?_)); first | exact Nat.le_refl _ | omega) | (simp only [World.size_alloc, World.size_setCell, World.size_drew, size_drewN']; omega)) _) | (with_reducible refine Below.alloc ?_ (by first | exact Nat.le_refl _ | omega | (with_reducible (repeat (first | refine sz_alloc ?_ | refine sz_setCell ?_ | refine sz_drew ?_ | refine sz_drewN ?_)); first | exact Nat.le_refl _ | omega) | (simp only [World.size_alloc, World.size_setCell, World.size_drew, size_drewN']; omega)) _) | assumption))) u1
  have HO1 := Lib.hid (fun W (u : Up w1 W) => HO.out W (Up.trans U1.out u))
  have HT1 := Lib.hid (fun W (u : Up w1 W) => HT.out W (Up.trans U1.out u))
  have HDa := Lib.hid (fun W (u : Up w1 W) => dupInt_c la qa da W (RA.out.up (Up.trans U1.out u)) (by omega))
  clear hB u1 HO HT g1
  go_cut [9, 10, 11] (fun a b va wx => Both w1 wx s a b ∧ RowV wx va la)
  case first =>
    refine region_inv3 8 (fun done a W => ∃ V : Nat → Value, a = ⟨#[.agg #[.slice pT s.table.length cT, .int .i64 s.lo, .int .i64 s.hi, .slice pF s.floors.length cF, .slice pS s.sills.length cS], .int .i64 m, .int .i64 x, .slice qa la.length da, .pointer (some ⟨w.heap.size, 0, none⟩), undef, undef, undef, .bool false, V 6, V 7, undef, undef, undef, undef, undef, undef, undef, undef, undef, undef, undef, undef, undef, undef, undef, undef, undef, undef, undef, undef, undef, undef, .agg #[.slice pT s.table.length cT, .int .i64 s.lo, .int .i64 s.hi, .slice pF s.floors.length cF, .slice pS s.sills.length cS], .bool false, .bool false, .slice qa la.length da, .int .i64 la.length, .bool (decide ((20 : Int) < la.length)), .bool (decide ((20 : Int) < la.length)), undef, V 0, V 1, V 2, V 3, V 4, V 5, undef, undef, undef, undef, undef, undef, undef, undef, undef, undef, undef, undef, undef, undef, undef, undef, undef, undef, undef, undef, undef, undef, undef, undef, undef, undef, undef, undef, undef, undef, undef, undef, undef, undef, undef, undef, undef, undef, undef, undef, undef, undef, undef, undef, undef, undef, undef, undef, undef, undef, undef, undef, undef, undef, undef, undef, undef, undef, undef, undef, undef, undef, undef, undef, undef, undef, undef, undef, undef, undef, undef, undef, undef, undef, undef, undef, undef, undef, undef, undef, undef, undef, undef, undef, undef, undef, undef, undef, undef, undef, undef, undef, undef, undef, undef, undef, undef, undef, undef, undef, undef, undef, undef, undef, undef, undef, undef, undef, undef, undef, undef, undef, undef, undef, undef, undef, undef, undef, undef, undef, undef, undef, undef, undef, undef, undef, undef, undef, undef, undef, undef, undef, undef, undef, undef, undef, undef, undef, undef], []⟩ ∧ Trey w1 s (.agg #[.slice pT s.table.length cT, .int .i64 s.lo, .int .i64 s.hi, .slice pF s.floors.length cF, .slice pS s.sills.length cS]) (.slice qa la.length da) la done W V) mixed (by kernel_rfl) ?_ ?_ ?_
    · exact ⟨_, rfl, Trey.start _ _ _ _ _⟩
    · intro done a W i o hi hd ho hall hinv
      obtain ⟨V, rfl, hC⟩ := hinv
      obtain ⟨c0, c1, c2, c3, c4⟩ := HB.out.up hC.pair.up
      have HC := Lib.hid hC
      have HA := Lib.hid hall
      clear hC hall hd
      obtain rfl | rfl | rfl | rfl | rfl | rfl | rfl | rfl : i = 0 ∨ i = 1 ∨ i = 2 ∨ i = 3 ∨ i = 4 ∨ i = 5 ∨ i = 6 ∨ i = 7 := by omega
      · clear ho HA
        refine wpOp_step rfl (fun K hK => ?_)
        rw [if_pos (by rfl)]
        have HK := Lib.hid hK
        clear hK
        go_simp
        exact HK.out _ _ ⟨_, rfl, HC.out.load0⟩
      · have e0 := Lib.hid (HC.out.pair.l0 (HA.out ⟨0, .data⟩ (by cases ho; simp) rfl))
        clear ho HA
        refine wpOp_step rfl (fun K hK => ?_)
        rw [if_pos (by rfl)]
        have HK := Lib.hid hK
        clear hK
        go_simp
        have hcall := HO1.out W HC.out.pair.up
        rw [show sdVal s pT pF pS cT cF cS = V 0 from e0.out.symm] at hcall
        refine hcall.mono ?_
        rintro e w2 ⟨qT, qF, qS, dT, dF, dS, rfl, h1, h2, h3⟩
        exact HK.out _ _ ⟨_, rfl, HC.out.call1 h2 h1 h3⟩
      · clear ho HA
        refine wpOp_step rfl (fun K hK => ?_)
        rw [if_pos (by rfl)]
        have HK := Lib.hid hK
        clear hK
        go_simp
        exact HK.out _ _ ⟨_, rfl, HC.out.load2⟩
      · have e0 := Lib.hid (HC.out.pair.l2 (HA.out ⟨2, .data⟩ (by cases ho; simp) rfl))
        clear ho HA
        refine wpOp_step rfl (fun K hK => ?_)
        rw [if_pos (by rfl)]
        have HK := Lib.hid hK
        clear hK
        go_simp
        have hcall := HT1.out W HC.out.pair.up
        rw [show sdVal s pT pF pS cT cF cS = V 2 from e0.out.symm] at hcall
        refine hcall.mono ?_
        rintro e w2 ⟨qT, qF, qS, dT, dF, dS, rfl, h1, h2, h3⟩
        exact HK.out _ _ ⟨_, rfl, HC.out.call3 h2 h1 h3⟩
      · clear ho HA
        refine wpOp_step rfl (fun K hK => ?_)
        rw [if_pos (by rfl)]
        have HK := Lib.hid hK
        clear hK
        go_simp
        exact HK.out _ _ ⟨_, rfl, HC.out.mv4⟩
      · have e0 := Lib.hid (HC.out.a.1 (HA.out ⟨4, .data⟩ (by cases ho; simp) rfl))
        clear ho HA
        refine wpOp_step rfl (fun K hK => ?_)
        rw [if_pos (by rfl)]
        have HK := Lib.hid hK
        clear hK
        go_simp
        have hcall := HDa.out W HC.out.pair.up
        rw [show (Value.slice qa la.length da) = V 4 from e0.out.symm] at hcall
        refine hcall.mono ?_
        rintro e w2 ⟨q', d', rfl, -, -, r, hq, u⟩
        exact HK.out _ _ ⟨_, rfl, HC.out.dup5 u r hq⟩
      · clear ho HA
        refine wpOp_step rfl (fun K hK => ?_)
        rw [if_pos (by rfl)]
        have HK := Lib.hid hK
        clear hK
        go_simp
        exact HK.out _ _ ⟨_, rfl, HC.out.alloc6⟩
      · clear ho HA
        refine wpOp_step rfl (fun K hK => ?_)
        rw [if_pos (by rfl)]
        have HK := Lib.hid hK
        clear hK
        go_simp
        exact HK.out _ _ ⟨_, rfl, HC.out.alloc7⟩
    · rintro a W ⟨V, rfl, hC⟩
      obtain ⟨⟨u, -, -, h1, h3, h4, h5, -, -⟩, hA⟩ := hC
      replace hA := hA.2 rfl
      replace h1 := h1 rfl
      replace h3 := h3 rfl
      replace h4 := h4 rfl
      replace h5 := h5 rfl
      generalize V 0 = v0 at *
      generalize V 1 = v1 at *
      generalize V 2 = v2 at *
      generalize V 3 = v3 at *
      generalize V 4 = v4 at *
      generalize V 5 = v5 at *
      generalize V 6 = v6 at *
      generalize V 7 = v7 at *
      obtain ⟨B5, rfl, k5, n5⟩ := h4
      obtain ⟨B6, rfl, k6, n6⟩ := h5
      obtain ⟨qT, qF, qS, dT, dF, dS, rfl, l1, o1, p1⟩ := h1
      obtain ⟨rT, rF, rS, gT, gF, gS, rfl, l3, o3, p3⟩ := h3
      obtain ⟨ya, ea, rfl, r1, r2, r3⟩ := hA
      change wpList _ _ _ [_, _, _] _ _
      have ne : B5 ≠ B6 := k5.ne k6 (by decide)
      have HBoth : Hid (Both w1 (fill (fill W B5 s qT qF qS dT dF dS) B6 s rT rF rS gT gF gS) s (.pointer (some ⟨B5, 0, none⟩)) (.pointer (some ⟨B6, 0, none⟩))) :=
        ⟨B5, B6, qT, qF, qS, dT, dF, dS, rT, rF, rS, gT, gF, gS, rfl, rfl, fill_up (fill_up u n5 _ _ _ _ _ _ _) n6 _ _ _ _ _ _ _, fill_lists (fill_lists l1 o1 _ _ _ _ _ _) p1 _ _ _ _ _ _, fill_lists (fill_lists l3 o3 _ _ _ _ _ _) p3 _ _ _ _ _ _,
          At5.of (fill_other (fill_blk k5 _ _ _ _ _ _ _) ne _ _ _ _ _ _ _), At5.of (fill_blk (fill_other k6 (Ne.symm ne) _ _ _ _ _ _ _) _ _ _ _ _ _ _)⟩
      have HRows : Hid (RowV (fill (fill W B5 s qT qF qS dT dF dS) B6 s rT rF rS gT gF gS) (.slice ya la.length ea) la) :=
        ⟨_, _, rfl, (r1.fill r2 _ _ _ _ _ _ _).fill r3 _ _ _ _ _ _ _⟩
      have y0 := k5.cell 0
      have y1 := k5.cell 1
      have y2 := k5.cell 2
      have y3 := k5.cell 3
      have y4 := k5.cell 4
      have yf := k5.free
      have x0 := k6.cell 0
      have x1 := k6.cell 1
      have x2 := k6.cell 2
      have x3 := k6.cell 3
      have x4 := k6.cell 4
      have xf := k6.free
      simp only [zero5, List.getElem?_cons_zero, List.getElem?_cons_succ] at y0 y1 y2 y3 y4 x0 x1 x2 x3 x4
      have ne' := Ne.symm ne
      clear l1 l3 o1 o3 p1 p3 k5 k6 u n5 n6 HO1 HT1 HDa r1 r2 r3
      unfold sdVal
      dsimp only
      go_wp2_with fail
      go_meet
      exact ⟨HBoth.out, HRows.out⟩
  case rest =>
    obtain ⟨⟨B5, B6, qT, qF, qS, dT, dF, dS, rT, rF, rS, gT, gF, gS, rfl, rfl, u, l5, l6, a5, a6⟩, ⟨ya, ea, rfl, r1⟩⟩ := hcut
    have L5 := Lib.hid l5
    have L6 := Lib.hid l6
    have A5 := Lib.hid a5
    have A6 := Lib.hid a6
    have R1 := Lib.hid r1
    have A0 := Lib.hid (HB.out.up u)
    have U0 := Lib.hid (Up.trans U1.out u)
    clear l5 l6 a5 a6 u U1 HB HO1 HT1 w1 r1 HDa
    generalize wc = wq at *
    obtain ⟨c0, c1, c2, c3, c4⟩ := A6.out
    go_wp2_with fail
    refine (refCheck_c s wq L6.out).mono ?_
    rintro e x1 ⟨rfl, v1⟩
    have V1 := Lib.hid v1
    clear v1 c0 c1 c2 c3 c4
    go_upto_if 53 with fail
    have BX : Hid (Blk (x1.alloc (.cells #[.int .i64 0, .int .i64 0] 24)) x1.heap.size [.int .i64 0, .int .i64 0] 24) := Lib.hid (Blk.new x1 [.int .i64 0, .int .i64 0] _)
    have V2 : Hid (Up wq (x1.alloc (.cells #[.int .i64 0, .int .i64 0] 24))) := Lib.hid (Up.trans V1.out (by (repeat (first | exact Below.refl _ _ | (with_reducible refine Below.drewN' ?_ _) | (with_reducible refine Below.drew ?_) | (with_reducible refine Below.setCell ?_ (by first | exact Nat.le_refl _ | omega | (with_reducible (repeat (first | refine sz_alloc ?_ | refine sz_setCell ?_ | refine sz_drew ?_ | refine sz_drewN ?_)); first | exact Nat.le_refl _ | omega) | (simp only [World.size_alloc, World.size_setCell, World.size_drew, size_drewN']; omega)) _) | (with_reducible refine Below.alloc ?_ (by first | exact Nat.le_refl _ | omega | (with_reducible (repeat (first | refine sz_alloc ?_ | refine sz_setCell ?_ | refine sz_drew ?_ | refine sz_drewN ?_)); first | exact Nat.le_refl _ | omega) | (simp only [World.size_alloc, World.size_setCell, World.size_drew, size_drewN']; omega)) _) | assumption))))
    have XS := V1.out.size
    generalize (x1.alloc (.cells #[.int .i64 0, .int .i64 0] 24)) = x2 at *
    generalize x1.heap.size = X at *
    go_cut [12, 13, 14, 15, 16, 17, 19, 20, 21, 22, 24, 25] (fun a b c t n l _ _ _ _ _ _ wx => a = .int .i64 (errTurn s x m) ∧ b = .int .i64 (errFlood s m) ∧ c = .int .i64 (errLong s la) ∧ t = .int .i64 (turnV s x m) ∧ n = .int .i64 (floodV s m).1 ∧ (∃ q d, l = .slice q (floodV s m).2.length d ∧ Row wx q 1 (ints (floodV s m).2)) ∧ Blk wx X [.int .i64 (longestV s la).1, .int .i64 (longestV s la).2] 24 ∧ Up wq wx)
    case first =>
      by_cases hE : chk s = 0
      · have OK := Lib.hid (chk_ok hE)
        have n1 : (chk s == 0) = true := by rw [hE]; rfl
        have HE := Lib.hid hE
        have EF : Hid (errFor s x = bif isPl s x then 0 else 1) := by show _ = _; unfold errFor; rw [if_pos hE]
        have EA : Hid (errAt s m = bif inDay s m then 0 else 3) := by show _ = _; unfold errAt; rw [if_pos hE]
        clear hE
        obtain ⟨-, -, ht2, ht12⟩ := OK.out.table
        obtain ⟨c0, c1, c2, c3, c4⟩ := A6.out.up V2.out
        go_wp2_with fail
        refine (refGates_c s x2 OK.out (L6.out.up V2.out)).mono ?_
        rintro e x3 ⟨qg, dg, rfl, -, -, rg, v⟩
        rw [gatesR_len]
        have RG3 := Lib.hid rg
        have BX3 := Lib.hid (BX.out.up v)
        have V3 := Lib.hid (Up.trans V2.out v)
        clear rg v c0 c1 c2 c3 c4
        obtain ⟨c0, c1, c2, c3, c4⟩ := A6.out.up V3.out
        go_wp2_with fail
        refine (refMinute_c s m x3 (L6.out.up V3.out) ht2 ht12).mono ?_
        rintro e x4 ⟨rfl, v⟩
        have RG4 := Lib.hid (RG3.out.up v)
        have BX4 := Lib.hid (BX3.out.up v)
        have V4 := Lib.hid (Up.trans V3.out v)
        clear v c0 c1 c2 c3 c4 RG3 BX3
        obtain ⟨c0, c1, c2, c3, c4⟩ := A6.out.up V4.out
        go_wp2_with fail
        refine (refPlace_c s x x4 (L6.out.up V4.out)).mono ?_
        rintro e x5 ⟨rfl, v⟩
        have RG5 := Lib.hid (RG4.out.up v)
        have BX5 := Lib.hid (BX4.out.up v)
        have V5 := Lib.hid (Up.trans V4.out v)
        clear v c0 c1 c2 c3 c4 RG4 BX4
        go_upto_if 63 with fail
        focus
          go_cut [12] (fun a wx => a = .int .i64 (bif isPl s x then (bif inDay s m then 0 else 3) else 1) ∧ x5 = wx)
          case first =>
            cases hp : isPl s x
            · have HP := Lib.hid hp
              clear hp
              go_wp2_with fail
              go_meet
              rw [HP.out]
              exact ⟨rfl, rfl⟩
            · have HP := Lib.hid hp
              clear hp
              go_wp2_with fail
              go_meet
              rw [HP.out]
              exact ⟨rfl, rfl⟩
          case rest =>
            obtain ⟨rfl, rfl⟩ := hcut
            go_upto_if 66 with fail
            focus
              go_cut [12, 13, 15, 20, 21] (fun a b t _ _ wx => a = .int .i64 (errTurn s x m) ∧ b = .int .i64 (bif inDay s m then 0 else 3) ∧ t = .int .i64 (turnV s x m) ∧ Up x5 wx)
              case first =>
                cases hp : isPl s x
                · rw [hp] at EF
                  have EF1 : errFor s x = 1 := EF.out
                  have E1 : Hid (errTurn s x m = 1) := by show _ = _; unfold errTurn; rw [if_neg (by rw [EF1]; decide), EF1]
                  have T1 : Hid (turnV s x m = 0) := by show _ = _; unfold turnV; rw [if_neg (by rw [EF1]; decide)]
                  clear EF1
                  clear hp
                  go_wp2_with fail
                  go_meet
                  rw [E1.out, T1.out]
                  refine ⟨?_, ?_, ?_, ?_⟩
                  · exact rfl
                  · exact rfl
                  · exact rfl
                  · exact Below.refl _ _
                · rw [hp] at EF
                  cases hd : inDay s m
                  · have EF1 : errFor s x = 0 := EF.out
                    have E1 : Hid (errTurn s x m = 3) := by show _ = _; unfold errTurn; rw [if_pos EF1, if_neg (by rw [hd]; decide)]
                    have T1 : Hid (turnV s x m = 0) := by show _ = _; unfold turnV; rw [if_pos EF1, if_neg (by rw [hd]; decide)]
                    clear EF1
                    have HD := Lib.hid hd
                    clear hp hd
                    go_wp2_with fail
                    go_meet
                    rw [E1.out, T1.out, HD.out]
                    refine ⟨?_, ?_, ?_, ?_⟩
                    · exact rfl
                    · exact rfl
                    · exact rfl
                    · exact Below.refl _ _
                  · obtain ⟨p0, p1⟩ := inB_true.1 hp
                    obtain ⟨p, rfl⟩ := Int.eq_ofNat_of_zero_le p0
                    have hpf : p < s.floors.length := by omega
                    have pf : (p : Int) < s.floors.length := by omega
                    obtain ⟨m0, m1⟩ := inB_true.1 hd
                    obtain ⟨k, hk⟩ : ∃ k : Nat, m = firstM s.table + k := ⟨(m - firstM s.table).toNat, by omega⟩
                    have hkd : k < dayN s := by unfold dayN; omega
                    have dn9 : dayN s ≤ 2000 := by have := firstM_lt OK.out.table; unfold dayN; omega
                    have HNO := Lib.hid (fun (h : tr (saysR s (gateR s p) 0) k = false) => by have := run_no OK.out hpf hkd (by rw [← hk]; exact hd) h; rwa [← hk] at this)
                    have HYES := Lib.hid (fun (lo hi : Nat) (h : RunAt (saysR s (gateR s p) 0) k lo hi) => by have := run_yes OK.out hpf (by rw [← hk]; exact hd) h; rwa [← hk] at this)
                    have GR := gateR_in s p
                    have HSAY := Lib.hid (fun W (u : Up x5 W) => refSays_c s (gateR s p) 0 W OK.out (L6.out.up (Up.trans V5.out u)) (by omega) (by omega))
                    have HRUN := Lib.hid (fun q d W (u : Up x5 W) (r : Row W q 1 (bools (saysR s (gateR s p) 0))) => refRun_c s (saysR s (gateR s p) 0) (dayN s) q d k W (saysR_len _ _ _) OK.out (L6.out.up (Up.trans V5.out u)) r hkd dn9)
                    rw [← hk] at HRUN
                    obtain ⟨bg, og, rfl, cg⟩ := RG5.out.int p (by rw [gatesR_len]; exact hpf)
                    rw [gatesR_of] at cg
                    obtain ⟨c0, c1, c2, c3, c4⟩ := A6.out.up V5.out
                    have HDD := Lib.hid hd
                    clear hp hd p0 p1 m0 m1 hk hkd dn9 GR EF EA
                    go_wp2_with fail
                    refine region_inv4 14 (fun done a W => ∃ V : Nat → Value, a = ⟨#[.agg #[.slice pT s.table.length cT, .int .i64 s.lo, .int .i64 s.hi, .slice pF s.floors.length cF, .slice pS s.sills.length cS], .int .i64 m, .int .i64 (p : Int), .slice qa la.length da, .pointer (some ⟨w.heap.size, 0, none⟩), undef, undef, undef, .bool false, .pointer (some ⟨B5, 0, none⟩), .pointer (some ⟨B6, 0, none⟩), .slice ya la.length ea, .int .i64 (bif true then (bif true then 0 else 3) else 1), .int .i64 (bif true then 0 else 3), .int .i64 (chk s), .int .i64 0, .int .i64 0, .slice none 0 0, .pointer (some ⟨X, 0, none⟩), .slice (some ⟨bg, og, none⟩) s.floors.length dg, V 12, undef, undef, undef, undef, undef, undef, undef, undef, undef, undef, undef, undef, u33, u34, u35, u36, u37, u38, u39, u40, u41, u42, u43, u44, u45, u46, u47, u48, u49, u50, u51, u52, u53, u54, u55, u56, u57, u58, u59, u60, u61, u62, u63, u64, .int .i64 (bif true then (bif true then 0 else 3) else 1), .bool ((bif true then (bif true then 0 else 3) else 1) == 0), V 9, V 0, V 1, V 2, V 3, V 4, V 5, V 6, V 7, V 8, V 10, V 11, u79, u80, u81, u82, u83, u84, u85, u86, u87, u88, u89, u90, u91, u92, u93, u94, undef, undef, undef, u98, u99, u100, u101, u102, u103, u104, u105, u106, u107, u108, u109, u110, u111, u112, u113, u114, u115, u116, u117, u118, u119, u120, u121, u122, u123, u124, u125, u126, u127, u128, u129, u130, u131, u132, u133, u134, u135, u136, u137, u138, u139, u140, u141, u142, u143, u144, u145, u146, u147, u148, u149, u150, u151, u152, u153, u154, u155, u156, u157, u158, u159, u160, u161, u162, u163, u164, u165, u166, u167, u168, u169, u170, u171, u172, u173, u174, u175, u176, u177, u178, u179, u180, u181, u182, u183, u184, u185], []⟩ ∧ Rn x5 (firstM s.table) (saysR s (gateR s p) 0) (dayN s) k (P14 (.agg #[.slice rT s.table.length gT, .int .i64 s.lo, .int .i64 s.hi, .slice rF s.floors.length gF, .slice rS s.sills.length gS]) (.slice (some ⟨bg, og, none⟩) s.floors.length dg) p ⟨bg, og + p, none⟩ (gateR s p) m) done W V) mixed (by kernel_rfl) ?_ ?_ ?_
                    · exact ⟨fun i => if i = 0 then u68 else if i = 1 then u69 else if i = 2 then u70 else if i = 3 then u71 else if i = 4 then u72 else if i = 5 then u73 else if i = 6 then u74 else if i = 7 then u75 else if i = 8 then u76 else if i = 9 then u67 else if i = 10 then u77 else if i = 11 then u78 else undef, rfl, Rn.start _ _⟩
                    · intro done a W i o hi hd ho hall hinv
                      obtain ⟨V, rfl, hC⟩ := hinv
                      have x0 := hC.up.cellAt c0
                      have x1 := hC.up.cellAt c1
                      have x2 := hC.up.cellAt c2
                      have x3 := hC.up.cellAt c3
                      have x4 := hC.up.cellAt c4
                      have xg := hC.up.cellAt cg
                      have HC := Lib.hid hC
                      have HA := Lib.hid hall
                      have HD := Lib.hid hd
                      clear hC hall hd c0 c1 c2 c3 c4 cg
                      obtain rfl | rfl | rfl | rfl | rfl | rfl | rfl | rfl | rfl | rfl | rfl | rfl | rfl | rfl : i = 0 ∨ i = 1 ∨ i = 2 ∨ i = 3 ∨ i = 4 ∨ i = 5 ∨ i = 6 ∨ i = 7 ∨ i = 8 ∨ i = 9 ∨ i = 10 ∨ i = 11 ∨ i = 12 ∨ i = 13 := by omega
                      · clear ho HA
                        refine wpOp_step rfl (fun K hK => ?_)
                        rw [if_pos (by rfl)]
                        have HK := Lib.hid hK
                        clear hK
                        go_simp
                        exact HK.out _ _ ⟨putR V 0 (.agg #[.slice rT s.table.length gT, .int .i64 s.lo, .int .i64 s.hi, .slice rF s.floors.length gF, .slice rS s.sills.length gS]), rfl, HC.out.keep 0 (by decide) rfl⟩
                      · clear ho HA
                        refine wpOp_step rfl (fun K hK => ?_)
                        rw [if_pos (by rfl)]
                        have HK := Lib.hid hK
                        clear hK
                        go_simp
                        exact HK.out _ _ ⟨putR V 1 (.agg #[.slice rT s.table.length gT, .int .i64 s.lo, .int .i64 s.hi, .slice rF s.floors.length gF, .slice rS s.sills.length gS]), rfl, HC.out.keep 1 (by decide) rfl⟩
                      · clear ho HA
                        refine wpOp_step rfl (fun K hK => ?_)
                        rw [if_pos (by rfl)]
                        have HK := Lib.hid hK
                        clear hK
                        go_simp
                        exact HK.out _ _ ⟨putR V 2 (.slice (some ⟨bg, og, none⟩) s.floors.length dg), rfl, HC.out.keep 2 (by decide) rfl⟩
                      · clear ho HA
                        refine wpOp_step rfl (fun K hK => ?_)
                        rw [if_pos (by rfl)]
                        have HK := Lib.hid hK
                        clear hK
                        go_simp
                        exact HK.out _ _ ⟨putR V 3 (.int .i64 (p : Int)), rfl, HC.out.keep 3 (by decide) rfl⟩
                      · have e2 : V 2 = _ := HC.out.c 2 (HA.out ⟨2, .data⟩ (by cases ho; simp) rfl)
                        have e3 : V 3 = _ := HC.out.c 3 (HA.out ⟨3, .data⟩ (by cases ho; simp) rfl)
                        clear ho HA
                        refine wpOp_step rfl (fun K hK => ?_)
                        rw [if_pos (by rfl)]
                        have HK := Lib.hid hK
                        clear hK
                        go_simp
                        exact HK.out _ _ ⟨putR V 4 (.pointer (some ⟨bg, og + p, none⟩)), (by first | (simp only [putR, e2, e3]; rfl) | (simp only [e2, e3]; rfl)), HC.out.keep 4 (by decide) rfl⟩
                      · have e4 : V 4 = _ := HC.out.c 4 (HA.out ⟨4, .data⟩ (by cases ho; simp) rfl)
                        clear ho HA
                        refine wpOp_step rfl (fun K hK => ?_)
                        rw [if_pos (by rfl)]
                        have HK := Lib.hid hK
                        clear hK
                        go_simp
                        exact HK.out _ _ ⟨putR V 5 (.int .i64 (gateR s p)), (by first | (simp only [putR, e4]; rfl) | (simp only [e4]; rfl)), HC.out.keep 5 (by decide) rfl⟩
                      · have e1 : V 1 = _ := HC.out.c 1 (HA.out ⟨1, .data⟩ (by cases ho; simp) rfl)
                        have e5 : V 5 = _ := HC.out.c 5 (HA.out ⟨5, .data⟩ (by cases ho; simp) rfl)
                        have hd8 : done 8 = false := by
                          cases e : done 8
                          · rfl
                          · exact absurd (HC.out.o6 e) (by rw [HD.out]; decide)
                        clear ho HA
                        refine wpOp_step rfl (fun K hK => ?_)
                        rw [if_pos (by rfl)]
                        have HK := Lib.hid hK
                        clear hK
                        go_simp
                        have hcall := HSAY.out W HC.out.up
                        rw [saysR_len] at hcall
                        refine hcall.mono ?_
                        rintro e w2 ⟨q, d, rfl, -, -, r, u⟩
                        exact HK.out _ _ ⟨putR V 6 (.slice q (dayN s) d), (by first | (simp only [putR, e1, e5]; rfl) | (simp only [e1, e5]; rfl)), HC.out.call6 hd8 u r trivial⟩
                      · clear ho HA
                        refine wpOp_step rfl (fun K hK => ?_)
                        rw [if_pos (by rfl)]
                        have HK := Lib.hid hK
                        clear hK
                        go_simp
                        exact HK.out _ _ ⟨putR V 7 (.int .i64 m), rfl, HC.out.keep 7 (by decide) rfl⟩
                      · have e0 : V 0 = _ := HC.out.c 0 (HA.out ⟨0, .data⟩ (by cases ho; simp) rfl)
                        have e7 : V 7 = _ := HC.out.c 7 (HA.out ⟨7, .data⟩ (by cases ho; simp) rfl)
                        have hd6 : done 6 = true := HA.out ⟨6, .data⟩ (by cases ho; simp) rfl
                        obtain ⟨q, d, e6, r⟩ := HC.out.six HD.out hd6
                        clear ho HA
                        refine wpOp_step rfl (fun K hK => ?_)
                        rw [if_pos (by rfl)]
                        have HK := Lib.hid hK
                        clear hK
                        go_simp
                        have hcall := HRUN.out q d W HC.out.up r
                        refine hcall.mono ?_
                        rintro e w2 ⟨he, u⟩
                        obtain ⟨a', b', t', rfl, hr'⟩ := RunF.of he
                        exact HK.out _ _ ⟨putR V 8 (tupR a' b' t'), (by first | (simp only [putR, e0, e6, e7]; rfl) | (simp only [e0, e6, e7]; rfl)), HC.out.call8 HD.out hd6 u hr' trivial⟩
                      · have hd8 : done 8 = true := HA.out ⟨8, .data⟩ (by cases ho; simp) rfl
                        clear ho HA
                        refine wpOp_step rfl (fun K hK => ?_)
                        rw [if_pos (by rfl)]
                        have HK := Lib.hid hK
                        clear hK
                        go_simp
                        exact HK.out _ _ ⟨putR V 9 (V 8), rfl, HC.out.mv9 hd8 trivial⟩
                      · have hd9 : done 9 = true := HA.out ⟨9, .data⟩ (by cases ho; simp) rfl
                        obtain ⟨a', b', t', e9, hs⟩ := HC.out.ex10 hd9 HD.out (fun _ => trivial)
                        have HS := Lib.hid hs
                        unfold tupR at e9
                        clear hs
                        clear ho HA
                        refine wpOp_step rfl (fun K hK => ?_)
                        rw [if_pos (by rfl)]
                        have HK := Lib.hid hK
                        clear hK
                        go_simp
                        exact HK.out _ _ ⟨putR V 10 (.agg #[.int .i64 a', .int .i64 b']), (by first | (simp only [putR, e9]; rfl) | (simp only [e9]; rfl)), HS.out⟩
                      · have hd9 : done 9 = true := HA.out ⟨9, .data⟩ (by cases ho; simp) rfl
                        obtain ⟨a', b', t', e9, hs⟩ := HC.out.ex11 hd9 (fun _ => trivial)
                        have HS := Lib.hid hs
                        unfold tupR at e9
                        clear hs
                        clear ho HA
                        refine wpOp_step rfl (fun K hK => ?_)
                        rw [if_pos (by rfl)]
                        have HK := Lib.hid hK
                        clear hK
                        go_simp
                        exact HK.out _ _ ⟨putR V 11 (.bool t'), (by first | (simp only [putR, e9]; rfl) | (simp only [e9]; rfl)), HS.out⟩
                      · clear ho HA
                        refine wpOp_step rfl (fun K hK => ?_)
                        rw [if_pos (by rfl)]
                        have HK := Lib.hid hK
                        clear hK
                        go_simp
                        exact HK.out _ _ ⟨putR V 12 (.pointer (some ⟨W.heap.size, 0, none⟩)), rfl, HC.out.alloc12 HD.out (fun _ => trivial)⟩
                      · have hd12 : done 12 = true := HA.out ⟨12, .data⟩ (by cases ho; simp) rfl
                        have hd10 : done 10 = true := HA.out ⟨10, .data⟩ (by cases ho; simp) rfl
                        obtain ⟨a', b', Y, e10, e12, hb, hs⟩ := HC.out.store13 hd12 hd10 HD.out (fun _ => trivial)
                        have HS := Lib.hid hs
                        have y0 := hb.cell 0
                        have y1 := hb.cell 1
                        have yf := hb.free
                        have yl := hb.lt
                        simp only [List.getElem?_cons_zero, List.getElem?_cons_succ] at y0 y1
                        clear hs hb
                        clear ho HA
                        refine wpOp_step rfl (fun K hK => ?_)
                        rw [if_pos (by rfl)]
                        have HK := Lib.hid hK
                        clear hK
                        go_simp
                        exact HK.out _ _ ⟨V, (by simp only [e10, e12]; rfl), HS.out⟩
                    · rintro a W ⟨V, rfl, hC⟩
                      obtain ⟨ra', rb', t', Y, hrun, e11, e12, hb⟩ := hC.ends rfl rfl rfl rfl
                      have UY := Lib.hid hC.up
                      have HRN := Lib.hid hrun
                      have y0 := hb.cell 0
                      have y1 := hb.cell 1
                      have yl := hb.lt
                      simp only [List.getElem?_cons_zero, List.getElem?_cons_succ] at y0 y1
                      clear hC hrun hb c0 c1 c2 c3 c4 cg
                      change wpList _ _ _ [_] _ _
                      rw [e11, e12]
                      clear e11 e12
                      rcases HRN.out with ⟨rfl, rfl, rfl, h⟩ | ⟨rfl, lo, hi, h, rfl, rfl⟩
                      · obtain ⟨q1, q2⟩ := HNO.out h
                        have Q := Lib.hid (And.intro q1 q2)
                        clear q1 q2 h HRN
                        go_wp2_with fail
                        go_meet
                        rw [Q.out.1, Q.out.2, HDD.out]
                        refine ⟨?_, ?_, ?_, ?_⟩
                        · exact rfl
                        · exact rfl
                        · exact rfl
                        · exact UY.out
                      · obtain ⟨q1, q2⟩ := HYES.out lo hi h
                        have Q := Lib.hid (And.intro q1 q2)
                        clear q1 q2 h HRN
                        go_wp2_with fail
                        go_meet
                        rw [Q.out.1, Q.out.2, HDD.out]
                        refine ⟨?_, ?_, ?_, ?_⟩
                        · exact rfl
                        · exact rfl
                        · exact rfl
                        · exact UY.out
              case rest =>
                obtain ⟨rfl, rfl, rfl, v⟩ := hcut
                have RG6 := Lib.hid (RG5.out.up v)
                have BX6 := Lib.hid (BX5.out.up v)
                have V6 := Lib.hid (Up.trans V5.out v)
                clear v RG5 BX5 V5
                generalize wc = x6 at *
                go_upto_if 84 with fail
                focus
                  go_cut [13, 16, 17, 22] (fun b n l _ wx => b = .int .i64 (errFlood s m) ∧ n = .int .i64 (floodV s m).1 ∧ (∃ q d, l = .slice q (floodV s m).2.length d ∧ Row wx q 1 (ints (floodV s m).2) ∧ ∀ b off, q = some ⟨b, off, none⟩ → X < b) ∧ Up x6 wx)
                  case first =>
                    cases hd : inDay s m
                    · rw [hd] at EA
                      have EA1 : errAt s m = 3 := EA.out
                      have E1 : Hid (errFlood s m = 3) := by show _ = _; unfold errFlood; rw [if_neg (by rw [EA1]; decide), EA1]
                      have T1 : Hid (floodV s m = (0, [])) := by show _ = _; unfold floodV; rw [if_neg (by rw [EA1]; decide)]
                      clear EA1
                      clear hd
                      go_wp2_with fail
                      go_meet
                      rw [E1.out, T1.out]
                      exact ⟨rfl, rfl, ⟨none, 0, rfl, Row.nil _ _ _, (fun b off e => by cases e)⟩, Below.refl _ _⟩
                    · rw [hd] at EA
                      obtain ⟨m0, m1⟩ := inB_true.1 hd
                      have E1 := Lib.hid (show errFlood s m = if floodT s m = none then 6 else 0 by unfold errFlood; rw [if_pos (show errAt s m = 0 from EA.out)])
                      have T1 := Lib.hid (floodV_of (s := s) (m := m) (show errAt s m = 0 from EA.out))
                      have HFL := Lib.hid (fun W (u : Up x6 W) => refFlood_c s m s.floors.length qg dg W (gatesR_len s) OK.out (L6.out.up (Up.trans V6.out u)) (RG6.out.up u) m0 m1)
                      obtain ⟨c0, c1, c2, c3, c4⟩ := A6.out.up V6.out
                      clear hd m0 m1 EA
                      go_wp2_with fail
                      refine (HFL.out x6 (Below.refl _ _)).mono ?_
                      rintro e x7 ⟨qf, df, rfl, -, rf, qg', v⟩
                      have RF := Lib.hid rf
                      have QX := Lib.hid (fun b off e => Nat.lt_of_lt_of_le BX6.out.lt (qg' b off e))
                      clear qg'
                      have VV := Lib.hid v
                      clear rf v c0 c1 c2 c3 c4 HFL
                      cases hf : floodT s m with
                      | none =>
                        rw [hf] at E1
                        have E2 : Hid (errFlood s m = 6) := by show _ = _; rw [E1.out]; rfl
                        clear hf E1
                        go_wp2_with fail
                        go_meet
                        rw [E2.out, T1.out]
                        exact ⟨rfl, rfl, ⟨qf, df, rfl, RF.out, QX.out⟩, VV.out⟩
                      | some t =>
                        rw [hf] at E1
                        have E2 : Hid (errFlood s m = 0) := by show _ = _; rw [E1.out]; rfl
                        clear hf E1
                        go_wp2_with fail
                        go_meet
                        rw [E2.out, T1.out]
                        exact ⟨rfl, rfl, ⟨qf, df, rfl, RF.out, QX.out⟩, VV.out⟩
                  case rest =>
                    obtain ⟨rfl, rfl, ⟨qf, df, rfl, rf, qx⟩, v⟩ := hcut
                    have QX := Lib.hid qx
                    clear qx
                    have RG7 := Lib.hid (RG6.out.up v)
                    have BX7 := Lib.hid (BX6.out.up v)
                    have V7 := Lib.hid (Up.trans V6.out v)
                    have RF := Lib.hid rf
                    clear v RG6 BX6 V6 rf
                    generalize wc = x7 at *
                    go_wp2_with fail
                    go_loopw [14, 24, 97] (fun v _ i wx => ∃ n : Nat, n ≤ la.length ∧ i = .int .i64 n ∧ v = .int .i64 (if (la.take n).all (isPl s) = true then 0 else 1) ∧ Up x7 wx) (fun _ _ i _ => la.length - (intOf i).toNat)
                    case atStart => exact ⟨0, Nat.zero_le _, rfl, by rw [HE.out]; rfl, Below.refl _ _⟩
                    case round =>
                      obtain ⟨n, hn, rfl, rfl, hu⟩ := hrel
                      have HU := Lib.hid hu
                      clear hu
                      by_cases hlt : n < la.length
                      · have n2 : (n : Int) < la.length := by omega
                        obtain ⟨bq, oq, rfl, cq⟩ := (RA.out.up (Up.trans U0.out (Up.trans V7.out HU.out))).int n hlt
                        have hst : (la.take (n + 1)).all (isPl s) = ((la.take n).all (isPl s) && isPl s la[n]) := by
                          rw [take_snoc hlt, List.all_append]; simp
                        have HST := Lib.hid hst
                        generalize la[n] = y at *
                        clear hst
                        cases hb : (la.take n).all (isPl s) with
                        | false =>
                          rw [hb] at HST
                          have HS2 : Hid ((la.take (n + 1)).all (isPl s) = false) := by show _ = _; rw [HST.out]; rfl
                          clear hb HST
                          go_wp2_with fail
                          go_roundw
                          case rel =>
                            try ((repeat apply Exists.intro); refine ⟨?_, rfl⟩)
                            exact ⟨n + 1, by omega, by go_num, by rw [HS2.out], HU.out⟩
                          case measure => simp [intOf]; omega
                        | true =>
                          rw [hb] at HST
                          have HS2 : Hid ((la.take (n + 1)).all (isPl s) = isPl s y) := by show _ = _; rw [HST.out]; rfl
                          obtain ⟨c0, c1, c2, c3, c4⟩ := A6.out.up (Up.trans V7.out HU.out)
                          clear hb HST
                          go_wp2_with fail
                          refine (refPlace_c s y wr (L6.out.up (Up.trans V7.out HU.out))).mono ?_
                          rintro e wy ⟨rfl, v⟩
                          have VV := Lib.hid (Up.trans HU.out v)
                          clear v c0 c1 c2 c3 c4 HU
                          go_wp2_with fail
                          go_roundw
                          case rel =>
                            try ((repeat apply Exists.intro); refine ⟨?_, rfl⟩)
                            exact ⟨n + 1, by omega, by go_num, by rw [HS2.out]; cases isPl s y <;> rfl, VV.out⟩
                          case measure => simp [intOf]; omega
                      · obtain rfl : n = la.length := by omega
                        rw [List.take_length]
                        have RG8 := Lib.hid (RG7.out.up HU.out)
                        have BX8 := Lib.hid (BX7.out.up HU.out)
                        have V8 := Lib.hid (Up.trans V7.out HU.out)
                        have RF8 := Lib.hid (RF.out.up HU.out)
                        clear HU RG7 BX7 RF
                        have EL := Lib.hid (show errLong s la = if la.all (isPl s) = true then (if drySpans s la = [] then 6 else 0) else 1 by unfold errLong; rw [if_pos HE.out])
                        have TL := Lib.hid (show longestV s la = if errLong s la = 0 then longV (drySpans s la) else (0, 0) from rfl)
                        cases hall : la.all (isPl s) with
                        | false =>
                          rw [hall] at EL
                          have E3 : Hid (errLong s la = 1) := by show _ = _; rw [EL.out]; rfl
                          have T3 : Hid (longestV s la = (0, 0)) := by show _ = _; rw [TL.out, E3.out]; rfl
                          clear hall EL TL
                          go_wp2_with fail
                          go_meet
                          rw [E3.out, T3.out]
                          exact ⟨rfl, rfl, rfl, rfl, rfl, ⟨qf, df, rfl, RF8.out⟩, BX8.out, V8.out⟩
                        | true =>
                          rw [hall] at EL
                          have HPS := Lib.hid (fun p (hp : p ∈ la) => inB_true.1 (List.all_eq_true.1 hall p hp))
                          have HTG := Lib.hid (fun W (u : Up wr W) => refTogether_c s la s.floors.length qg qa dg da W (gatesR_len s) OK.out (L6.out.up (Up.trans V8.out u)) (RG8.out.up u) (RA.out.up (Up.trans U0.out (Up.trans V8.out u))) (fun p hp => by have := HPS.out p hp; omega) ka)
                          have HLG := Lib.hid (fun q d W (u : Up wr W) (r : Row W q 1 (bools (togR s la))) => refLongest_c s la (dayN s) q d W (togR_len _ _) OK.out (L6.out.up (Up.trans V8.out u)) r)
                          obtain ⟨c0, c1, c2, c3, c4⟩ := A6.out.up V8.out
                          clear hall
                          go_wp2_with fail
                          refine region_tail (fun W' => W'.cell? ⟨B6, 0, none⟩ = some (.slice rT s.table.length gT) ∧ W'.cell? ⟨B6, 1, none⟩ = some (.int .i64 s.lo) ∧ W'.cell? ⟨B6, 2, none⟩ = some (.int .i64 s.hi) ∧ W'.cell? ⟨B6, 3, none⟩ = some (.slice rF s.floors.length gF) ∧ W'.cell? ⟨B6, 4, none⟩ = some (.slice rS s.sills.length gS)) 10 mixed (by kernel_rfl) ⟨c0, c1, c2, c3, c4⟩ (fun hHeld => ?_)
                          refine wpAnyG_take 0 110 (v := ?_) rfl rfl (by kernel_rfl) (fun _ _ _ h => h) (Or.inl ⟨by rfl, ?_⟩) (by assumption) ?_
                          rotate_left
                          · (intro w' hSw; (try dsimp only at hSw); go_split_ands; go_simp; try with_reducible rfl)
                          try simp only [List.setIfInBounds_toArray, List.set_cons_zero, List.set_cons_succ]
                          refine wpAnyG_take 1 111 (v := ?_) rfl rfl (by kernel_rfl) (fun _ _ _ h => h) (Or.inl ⟨by rfl, ?_⟩) (by assumption) ?_
                          rotate_left
                          · (intro w' hSw; (try dsimp only at hSw); go_split_ands; go_simp; try with_reducible rfl)
                          try simp only [List.setIfInBounds_toArray, List.set_cons_zero, List.set_cons_succ]
                          refine wpAnyG_take 2 112 (v := ?_) rfl rfl (by kernel_rfl) (fun _ _ _ h => h) (Or.inl ⟨by rfl, ?_⟩) (by assumption) ?_
                          rotate_left
                          · (intro w' hSw; (try dsimp only at hSw); go_split_ands; go_simp; try with_reducible rfl)
                          try simp only [List.setIfInBounds_toArray, List.set_cons_zero, List.set_cons_succ]
                          refine wpAnyG_take 3 113 (v := ?_) rfl rfl (by kernel_rfl) (fun _ _ _ h => h) (Or.inl ⟨by rfl, ?_⟩) (by assumption) ?_
                          rotate_left
                          · (intro w' hSw; (try dsimp only at hSw); go_split_ands; go_simp; try with_reducible rfl)
                          try simp only [List.setIfInBounds_toArray, List.set_cons_zero, List.set_cons_succ]
                          refine wpAnyG_do 4 rfl (by kernel_rfl) (fun K hK => ?_)
                          rw [if_pos (by rfl)]
                          go_simp
                          refine (HTG.out _ (by (repeat (first | exact Below.refl _ _ | (with_reducible refine Below.drewN' ?_ _) | (with_reducible refine Below.drew ?_) | (with_reducible refine Below.setCell ?_ (by first | exact Nat.le_refl _ | omega | (with_reducible (repeat (first | refine sz_alloc ?_ | refine sz_setCell ?_ | refine sz_drew ?_ | refine sz_drewN ?_)); first | exact Nat.le_refl _ | omega) | (simp only [World.size_alloc, World.size_setCell, World.size_drew, size_drewN']; omega)) _) | (with_reducible refine Below.alloc ?_ (by first | exact Nat.le_refl _ | omega | (with_reducible (repeat (first | refine sz_alloc ?_ | refine sz_setCell ?_ | refine sz_drew ?_ | refine sz_drewN ?_)); first | exact Nat.le_refl _ | omega) | (simp only [World.size_alloc, World.size_setCell, World.size_drew, size_drewN']; omega)) _) | assumption)))).mono ?_
                          rintro e wa ⟨q1, d1, rfl, -, -, r1, v⟩
                          rw [togR_len]
                          have v1 : Up wr wa := Up.trans (by (repeat (first | exact Below.refl _ _ | (with_reducible refine Below.drewN' ?_ _) | (with_reducible refine Below.drew ?_) | (with_reducible refine Below.setCell ?_ (by first | exact Nat.le_refl _ | omega | (with_reducible (repeat (first | refine sz_alloc ?_ | refine sz_setCell ?_ | refine sz_drew ?_ | refine sz_drewN ?_)); first | exact Nat.le_refl _ | omega) | (simp only [World.size_alloc, World.size_setCell, World.size_drew, size_drewN']; omega)) _) | (with_reducible refine Below.alloc ?_ (by first | exact Nat.le_refl _ | omega | (with_reducible (repeat (first | refine sz_alloc ?_ | refine sz_setCell ?_ | refine sz_drew ?_ | refine sz_drewN ?_)); first | exact Nat.le_refl _ | omega) | (simp only [World.size_alloc, World.size_setCell, World.size_drew, size_drewN']; omega)) _) | assumption))) v
                          have RT := Lib.hid r1
                          refine hK.out _ _ ⟨v1.cellAt c0, v1.cellAt c1, v1.cellAt c2, v1.cellAt c3, v1.cellAt c4⟩ (fun hHeld => ?_)
                          clear hK K v r1
                          refine wpAnyG_do 5 rfl (by kernel_rfl) (fun K hK => ?_)
                          rw [if_pos (by rfl)]
                          go_simp
                          refine (HLG.out q1 d1 wa v1 RT.out).mono ?_
                          rintro e wb ⟨rfl, v⟩
                          obtain ⟨db, hdb⟩ : ∃ db, decide (drySpans s la ≠ []) = db := ⟨_, rfl⟩
                          obtain ⟨z, hz⟩ : ∃ z, longV (drySpans s la) = z := ⟨_, rfl⟩
                          rw [hdb, hz]
                          have HDB := Lib.hid hdb
                          have HZ := Lib.hid hz
                          clear hdb hz
                          have v2 : Up wr wb := Up.trans v1 v
                          refine hK.out _ _ ⟨v2.cellAt c0, v2.cellAt c1, v2.cellAt c2, v2.cellAt c3, v2.cellAt c4⟩ (fun hHeld => ?_)
                          clear hK K v
                          refine wpAnyG_take 6 109 (v := ?_) rfl rfl (by kernel_rfl) (fun _ _ _ h => h) (Or.inl ⟨by rfl, ?_⟩) (by assumption) ?_
                          rotate_left
                          · (intro w' hSw; (try dsimp only at hSw); go_split_ands; go_simp; try with_reducible rfl)
                          try simp only [List.setIfInBounds_toArray, List.set_cons_zero, List.set_cons_succ]
                          refine wpAnyG_take 7 116 (v := ?_) rfl rfl (by kernel_rfl) (fun _ _ _ h => h) (Or.inl ⟨by rfl, ?_⟩) (by assumption) ?_
                          rotate_left
                          · (intro w' hSw; (try dsimp only at hSw); go_split_ands; go_simp; try with_reducible rfl)
                          try simp only [List.setIfInBounds_toArray, List.set_cons_zero, List.set_cons_succ]
                          refine wpAnyG_take 8 117 (v := ?_) rfl rfl (by kernel_rfl) (fun _ _ _ h => h) (Or.inl ⟨by rfl, ?_⟩) (by assumption) ?_
                          rotate_left
                          · (intro w' hSw; (try dsimp only at hSw); go_split_ands; go_simp; try with_reducible rfl)
                          try simp only [List.setIfInBounds_toArray, List.set_cons_zero, List.set_cons_succ]
                          have V9 := Lib.hid (Up.trans V8.out v2)
                          have BX9 := Lib.hid (BX8.out.up v2)
                          have RF9 := Lib.hid (RF8.out.up v2)
                          have key : ∀ W', Up wq W' → W'.cell? ⟨B6, 0, none⟩ = some (.slice rT s.table.length gT) ∧ W'.cell? ⟨B6, 1, none⟩ = some (.int .i64 s.lo) ∧ W'.cell? ⟨B6, 2, none⟩ = some (.int .i64 s.hi) ∧ W'.cell? ⟨B6, 3, none⟩ = some (.slice rF s.floors.length gF) ∧ W'.cell? ⟨B6, 4, none⟩ = some (.slice rS s.sills.length gS) := fun W' u => by
                            obtain ⟨c0, c1, c2, c3, c4⟩ := A6.out.up u
                            exact ⟨c0, c1, c2, c3, c4⟩
                          have KEY := Lib.hid key
                          clear key hHeld c0 c1 c2 c3 c4 v1 v2 RT V8 BX8 RF8 HTG HLG
                          have y0 := BX9.out.cell 0
                          have y1 := BX9.out.cell 1
                          have yf := BX9.out.free
                          have yl := BX9.out.lt
                          simp only [List.getElem?_cons_zero, List.getElem?_cons_succ] at y0 y1
                          refine wpAnyG_do 9 rfl (by kernel_rfl) (fun K hK => ?_)
                          rw [if_pos (by rfl)]
                          go_simp
                          have VS : Up wq ((wb.setCell ⟨X, 0, none⟩ (.int .i64 z.1)).setCell ⟨X, 1, none⟩ (.int .i64 z.2)) := (V9.out.setCell (by simp only []; omega) _).setCell (by simp only []; omega) _
                          have RFS : Row ((wb.setCell ⟨X, 0, none⟩ (.int .i64 z.1)).setCell ⟨X, 1, none⟩ (.int .i64 z.2)) qf 1 (ints (floodV s m).2) := (RF9.out.other (fun b off e => by have := QX.out b off e; simp only []; omega) _).other (fun b off e => by have := QX.out b off e; simp only []; omega) _
                          have BXS := (BX9.out.set 0 (.int .i64 z.1)).set 1 (.int .i64 z.2)
                          simp only [List.set_cons_zero, List.set_cons_succ] at BXS
                          have VSH := Lib.hid VS
                          have RFSH := Lib.hid RFS
                          have BXSH := Lib.hid BXS
                          clear VS RFS BXS
                          refine hK.out _ _ (KEY.out _ VSH.out) (fun hHeld => ?_)
                          clear hK K hHeld KEY y0 y1 yf yl
                          generalize ((wb.setCell ⟨X, 0, none⟩ (.int .i64 z.1)).setCell ⟨X, 1, none⟩ (.int .i64 z.2)) = ws at *
                          refine wpAnyG_tail (by kernel_rfl) ?_
                          change wpList _ _ _ [_] _ _
                          cases db with
                          | false =>
                            have h0 : drySpans s la = [] := by simpa using HDB.out
                            have E3 : Hid (errLong s la = 6) := by show _ = _; rw [EL.out]; simp [h0]
                            have T3 : Hid (longestV s la = z) := by show _ = _; rw [TL.out, E3.out, ← HZ.out, h0]; rfl
                            clear h0 EL TL HDB
                            go_wp2_with fail
                            go_meet
                            rw [E3.out, T3.out]
                            exact ⟨rfl, rfl, rfl, rfl, rfl, ⟨qf, df, rfl, RFSH.out⟩, BXSH.out, VSH.out⟩
                          | true =>
                            have h0 : ¬ drySpans s la = [] := by simpa using HDB.out
                            have E3 : Hid (errLong s la = 0) := by show _ = _; rw [EL.out]; simp [h0]
                            have T3 : Hid (longestV s la = z) := by show _ = _; rw [TL.out, if_pos E3.out, HZ.out]
                            clear h0 EL TL HDB
                            go_wp2_with fail
                            go_meet
                            rw [E3.out, T3.out]
                            exact ⟨rfl, rfl, rfl, rfl, rfl, ⟨qf, df, rfl, RFSH.out⟩, BXSH.out, VSH.out⟩
      · have HE := Lib.hid hE
        have n1 : (chk s == 0) = false := beq_eq_false_iff_ne.2 hE
        have E4 : errFor s x = chk s := by unfold errFor; rw [if_neg hE]
        have E5 : errAt s m = chk s := by unfold errAt; rw [if_neg hE]
        have hE' : ¬ errFor s x = 0 := by rw [E4]; exact hE
        have hA' : ¬ errAt s m = 0 := by rw [E5]; exact hE
        have E1 : Hid (errTurn s x m = chk s) := by show _ = _; unfold errTurn; rw [if_neg hE', E4]
        have E2 : Hid (errFlood s m = chk s) := by show _ = _; unfold errFlood; rw [if_neg hA', E5]
        have E3 : Hid (errLong s la = chk s) := by show _ = _; unfold errLong; rw [if_neg hE]
        have T1 : Hid (turnV s x m = 0) := by show _ = _; unfold turnV; rw [if_neg hE']
        have T2 : Hid (floodV s m = (0, [])) := by show _ = _; unfold floodV; rw [if_neg hA']
        have T3 : Hid (longestV s la = (0, 0)) := by show _ = _; unfold longestV; rw [E3.out, if_neg hE]
        clear hE E4 E5 hE' hA'
        go_wp2_with fail
        go_meet
        rw [E1.out, E2.out, E3.out, T1.out, T2.out, T3.out]
        exact ⟨rfl, rfl, rfl, rfl, rfl, ⟨none, 0, rfl, Row.nil _ _ _⟩, BX.out, V2.out⟩
    case rest =>
      obtain ⟨rfl, rfl, rfl, rfl, rfl, ⟨qf, df, rfl, rf⟩, bx, v⟩ := hcut
      have RF := Lib.hid rf
      have BXr := Lib.hid bx
      have W0 := Lib.hid v
      clear rf bx v BX V2 V1
      generalize wc = y0 at *
      have fl := floodV_len s m
      have ml := L5.out.mf
      have mc := L5.out.cf
      have HT1 := Lib.hid (fun W (u : Up wq W) => Turn_c s x m W (L5.out.up u))
      have HF1 := Lib.hid (fun W (u : Up wq W) => Flood_c s m W (L5.out.up u))
      have HL1 := Lib.hid (fun W (u : Up wq W) => Longest_c s la ya ea W (L5.out.up u) (R1.out.up u) (by omega))
      have HQ2 := Lib.hid (fun W (u : Up wq W) => eqInt_c la la ya qa ea da W (R1.out.up u) (RA.out.up (Up.trans U0.out u)) (by simp only [maxLen]; omega) (by simp only [maxLen]; omega))
      have HQ1 := Lib.hid (fun p c W (r : Row W p 1 (ints (floodV s m).2)) (r' : Row W qf 1 (ints (floodV s m).2)) => eqInt_c (floodV s m).2 (floodV s m).2 p qf c df W r r' (by omega) (by omega))
      rw [decide_eq_true (rfl : la = la)] at HQ2
      rw [decide_eq_true (rfl : (floodV s m).2 = (floodV s m).2)] at HQ1
      clear fl ml mc
      generalize floodV s m = fz at *
      generalize longestV s la = lz at *
      generalize errTurn s x m = xt at *
      generalize errFlood s m = xf at *
      generalize errLong s la = xl at *
      generalize turnV s x m = vt at *
      have n1 : (xt == xt) = true := by simp
      have n2 : (xf == xf) = true := by simp
      have n3 : (xl == xl) = true := by simp
      have n4 : (vt == vt) = true := by simp
      have n5 : (fz.1 == fz.1) = true := by simp
      have n6 : (lz.1 == lz.1) = true := by simp
      have n7 : (lz.2 == lz.2) = true := by simp
      obtain ⟨c0, c1, c2, c3, c4⟩ := A5.out.up W0.out
      go_wp2_with fail
      refine (HT1.out y0 W0.out).mono ?_
      rintro e y1 ⟨rfl, v⟩
      have W1 := Lib.hid (Up.trans W0.out v)
      have RF1 := Lib.hid (RF.out.up v)
      have BX1 := Lib.hid (BXr.out.up v)
      clear v c0 c1 c2 c3 c4 HT1 W0 RF BXr
      obtain ⟨c0, c1, c2, c3, c4⟩ := A5.out.up W1.out
      go_wp2_with fail
      refine (HF1.out y1 W1.out).mono ?_
      rintro e y2 ⟨q2, d2, rfl, r2, v⟩
      have W2 := Lib.hid (Up.trans W1.out v)
      have RF2 := Lib.hid (RF1.out.up v)
      have BX2 := Lib.hid (BX1.out.up v)
      have RQ2 := Lib.hid r2
      clear v c0 c1 c2 c3 c4 HF1 W1 RF1 BX1 r2
      obtain ⟨c0, c1, c2, c3, c4⟩ := A5.out.up W2.out
      go_wp2_with fail
      refine (HL1.out y2 W2.out).mono ?_
      rintro e y3 ⟨rfl, v⟩
      have W3 := Lib.hid (Up.trans W2.out v)
      have RF3 := Lib.hid (RF2.out.up v)
      have BX3 := Lib.hid (BX2.out.up v)
      have RQ3 := Lib.hid (RQ2.out.up v)
      clear v c0 c1 c2 c3 c4 HL1 W2 RF2 BX2 RQ2
      have y0' := BX3.out.cell 0
      have y1' := BX3.out.cell 1
      have yl := BX3.out.lt
      simp only [List.getElem?_cons_zero, List.getElem?_cons_succ] at y0' y1'
      obtain ⟨c0, c1, c2, c3, c4⟩ := A5.out.up W3.out
      obtain ⟨d0, d1, d2', d3, d4⟩ := A0.out.up W3.out
      have uy : Up y3 (y3.alloc (.cells #[.int .i64 lz.1, .int .i64 lz.2] 24)) := by (repeat (first | exact Below.refl _ _ | (with_reducible refine Below.drewN' ?_ _) | (with_reducible refine Below.drew ?_) | (with_reducible refine Below.setCell ?_ (by first | exact Nat.le_refl _ | omega | (with_reducible (repeat (first | refine sz_alloc ?_ | refine sz_setCell ?_ | refine sz_drew ?_ | refine sz_drewN ?_)); first | exact Nat.le_refl _ | omega) | (simp only [World.size_alloc, World.size_setCell, World.size_drew, size_drewN']; omega)) _) | (with_reducible refine Below.alloc ?_ (by first | exact Nat.le_refl _ | omega | (with_reducible (repeat (first | refine sz_alloc ?_ | refine sz_setCell ?_ | refine sz_drew ?_ | refine sz_drewN ?_)); first | exact Nat.le_refl _ | omega) | (simp only [World.size_alloc, World.size_setCell, World.size_drew, size_drewN']; omega)) _) | assumption))
      have A5l : B5 < y3.heap.size := cell_lt c0
      have A0l : w.heap.size < y3.heap.size := cell_lt d0
      have NB4 := Lib.hid (Blk.new y3 [.int .i64 lz.1, .int .i64 lz.2] 24)
      have BX4 := Lib.hid (BX3.out.up uy)
      have RF4 := Lib.hid (RF3.out.up uy)
      have RQ4 := Lib.hid (RQ3.out.up uy)
      have W4 := Lib.hid (Up.trans W3.out uy)
      clear uy RF3 RQ3
      go_wp2_with fail
      refine (HQ1.out q2 d2 _ RQ4.out RF4.out).mono ?_
      rintro e y5 ⟨rfl, v⟩
      have W5 := Lib.hid (Up.trans W4.out v)
      have NB5 := NB4.out.up v
      have BX5 := BX4.out.up v
      clear v c0 c1 c2 c3 c4 d0 d1 d2' d3 d4 HQ1 RQ4 RF4 W4 NB4 BX4 y0' y1' yl A5l A0l
      have y0' := BX5.cell 0
      have y1' := BX5.cell 1
      have z0 := NB5.cell 0
      have z1 := NB5.cell 1
      simp only [List.getElem?_cons_zero, List.getElem?_cons_succ] at y0' y1' z0 z1
      obtain ⟨c0, c1, c2, c3, c4⟩ := A5.out.up W5.out
      obtain ⟨d0, d1, d2', d3, d4⟩ := A0.out.up W5.out
      clear NB5 BX5
      go_wp2_with fail
      refine (same_c s y5 (L5.out.up W5.out) (HL.out.up (Up.trans U0.out W5.out))).mono ?_
      rintro e y6 ⟨rfl, v⟩
      have W6 := Lib.hid (Up.trans W5.out v)
      clear v W5 c0 c1 c2 c3 c4 d0 d1 d2' d3 d4 y0' y1' z0 z1
      go_wp2_with fail
      refine (HQ2.out y6 W6.out).mono ?_
      rintro e y7 ⟨rfl, v⟩
      have W7 := Lib.hid (Up.trans U0.out (Up.trans W6.out v))
      clear v W6 HQ2
      go_wp2_with fail
      refine (awake_c y7).mono ?_
      rintro e y8 ⟨rfl, v⟩
      have W8 := Lib.hid (Up.trans W7.out v)
      clear v W7
      go_wp2_with fail
      go_ret
      exact ⟨rfl, W8.out⟩
end
end Go.Proofs.YtknaajofcbenaaaGreat
