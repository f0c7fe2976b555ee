/- What the layer's Bank and the reference's Gate return. -/
import Derived.Test.YtcljkkojeleakaaBankJA
import Derived.Test.YtcljkkojeleakaaLooks3
import Derived.Test.YtcljkkojeleakaaSpans2
import Derived.Test.YtcljkkojeleakaaRefHgt
import Derived.Test.YtcljkkojeleakaaWay
import Derived.Test.YtcljkkojeleakaaLead
import Derived.Test.YtcljkkojeleakaaDup
import Derived.Test.YtcljkkojeleakaaBase
import Derived.Test.YtcljkkojeleakaaHeight
import Derived.Test.YtcljkkojeleakaaOn
import Derived.Test.YtcljkkojeleakaaRound
import Derived.Test.YtcljkkojeleakaaDraw
import Derived.Test.YtcljkkojeleakaaOut1
import Derived.Deep.Cut
import Derived.Deep.DeepCutAuto
import Derived.WalkKit
import Derived.WalkSpells
import Derived.WalkLawsBesides
import Derived.Deep.QuietTactic
import Derived.BigQuiet
import Derived.Lib.Hide
import Derived.Shelf.Abstract
import Derived.BigGuardPart
import Derived.RangeFuncNested
import Derived.RangeFuncBound
import Derived.RangeFuncCalls
import Derived.RangeFuncLeaves
import Derived.Shelf.RegionOpen
import Derived.OwnWalkIn
import Derived.TacticsInMore
import Derived.LoopNIn
import Derived.LoopIn
import Derived.StillTailTactics
import Derived.Deep.RegionHeld3
import Derived.StillTail
import Derived.RangeFuncWrites
import Derived.Laws.StructEq
import Derived.Deep.LoopGhost
import Derived.IntWalk
import Derived.RangeFuncBox
import Derived.Deep.CutRange
import Derived.Deep.CutBlock
import Derived.Laws.OwnMore
import Derived.ArgAppend
import Derived.Laws.CopyOwn
import Derived.OwnWalk
import Derived.Lib.SliceRun
import Derived.Deep.AppendSrc
/- The reference's Hold: what its function returns. -/
namespace Go.Proofs.Ytcljkkojeleakaa
open Go.RowKit Go.Shelf

section
variable {pT pF pS : Option Addr} {cT cF cS : Nat}
set_option maxRecDepth 100000 in
set_option maxHeartbeats 4000000 in
theorem refHold_c (s : Sd) (x : Int) (ss ps : List Int) (p1 p2 : Option Addr) (c1 c2 : Nat) (w : World) (hl : Lists w s pT pF pS cT cF cS) (h1 : Row w p1 1 (ints ss)) (h2 : Row w p2 1 (ints ps)) (l1 : ss.length ≤ 10000) (l2 : ps.length ≤ 10000) :
    Calls Try.prog 34 #[sdVal s pT pF pS cT cF cS, .int .i64 x, .slice p1 ss.length c1, .slice p2 ps.length c2] w fun e w' => e = .returned (.tuple #[.int .i64 (holdV s x ss ps), .int .i64 (errHold s x ss ps)]) ∧ Up w w' := by
  have hml : ∀ k : Nat, k ≤ 10000 → k ≤ maxLen := fun k hk => by simp only [maxLen]; omega
  have M1 := Lib.hid (hml _ l1)
  have M2 := Lib.hid (hml _ l2)
  have HL := Lib.hid hl
  have H1 := Lib.hid h1
  have H2 := Lib.hid h2
  have HV : Hid (errHold s x ss ps ≠ 0 → holdV s x ss ps = 0) := fun h => by unfold holdV; rw [if_neg h]
  clear hl h1 h2 hml
  unfold sdVal
  go_enter Try.func34, Try.ntmps34
  go_wp2_with fail
  have BS : Hid (Blk (w.alloc (.cells #[.slice pT s.table.length cT, .int .i64 s.lo, .int .i64 s.hi, .slice pF s.floors.length cF, .slice pS s.sills.length cS] 37)) w.heap.size (sdCells s pT pF pS cT cF cS) 37) := Lib.hid (Blk.new w (sdCells s pT pF pS cT cF cS) 37)
  have U0 : Hid (Up w (w.alloc (.cells #[.slice pT s.table.length cT, .int .i64 s.lo, .int .i64 s.hi, .slice pF s.floors.length cF, .slice pS s.sills.length cS] 37))) := Lib.hid (by (repeat (first | exact Below.refl _ _ | (with_reducible refine Below.drewN' ?_ _) | (with_reducible refine Below.drew ?_) | (with_reducible refine Below.setCell ?_ (by first | exact Nat.le_refl _ | omega | (with_reducible (repeat (first | refine sz_alloc ?_ | refine sz_setCell ?_ | refine sz_drew ?_ | refine sz_drewN ?_)); first | exact Nat.le_refl _ | omega) | (simp only [World.size_alloc, World.size_setCell, World.size_drew, size_drewN']; omega)) _) | (with_reducible refine Below.alloc ?_ (by first | exact Nat.le_refl _ | omega | (with_reducible (repeat (first | refine sz_alloc ?_ | refine sz_setCell ?_ | refine sz_drew ?_ | refine sz_drewN ?_)); first | exact Nat.le_refl _ | omega) | (simp only [World.size_alloc, World.size_setCell, World.size_drew, size_drewN']; omega)) _) | assumption)))
  generalize (w.alloc (.cells #[.slice pT s.table.length cT, .int .i64 s.lo, .int .i64 s.hi, .slice pF s.floors.length cF, .slice pS s.sills.length cS] 37)) = w0 at *
  refine (refCheck_c s _ (HL.out.up U0.out)).mono ?_
  rintro e w1 ⟨rfl, u⟩
  have U1 := Lib.hid (Up.trans U0.out u)
  have B1 := Lib.hid (BS.out.up u)
  clear u BS U0
  by_cases hE : chk s = 0
  · have OK := Lib.hid (chk_ok hE)
    have n1 : (chk s != 0) = false := by rw [hE]; rfl
    have HF : Hid (errFor s x = bif isPl s x then 0 else 1) := by show _ = _; unfold errFor; rw [if_pos hE]
    clear hE
    obtain ⟨c0, c1', c2', c3, c4⟩ := five B1.out
    go_wp2_with fail
    refine (refPlace_c s x _ (HL.out.up U1.out)).mono ?_
    rintro e w2 ⟨rfl, u⟩
    have U2 := Lib.hid (Up.trans U1.out u)
    have B2 := Lib.hid (B1.out.up u)
    clear u B1 U1 c0 c1' c2' c3 c4 n1
    cases hp : isPl s x with
    | false =>
      have HE : Hid (errHold s x ss ps = 1) := by
        show _ = _
        unfold errHold
        rw [HF.out, hp]
        rfl
      have HZ := Lib.hid (HV.out (by rw [HE.out]; decide))
      clear hp
      go_wp2_with fail
      go_ret2
      rw [HE.out, HZ.out]
      exact ⟨rfl, U2.out⟩
    | true =>
      have hx := inB_true.1 hp
      obtain ⟨n, rfl⟩ := Int.eq_ofNat_of_zero_le hx.1
      have hn : n < s.floors.length := by omega
      have HF0 : Hid (errFor s n = 0) := by show _ = _; rw [HF.out, hp]; rfl
      have HE : Hid (errHold s n ss ps = if ss.all (isSi s) = true ∧ ps.all (isPl s) = true then (if ss.Nodup ∧ ps.Nodup then (if wayAt (waysOf s (mayHold ss ps)) n = none then (if ss = [] ∧ ps = [] then 6 else 0) else 8) else 5) else 1) := by show _ = _; unfold errHold; rw [if_pos HF0.out]
      clear hp hx
      obtain ⟨c0, c1', c2', c3, c4⟩ := five B2.out
      go_wp2_with fail
      refine (listed_c s ss p1 c1 _ (HL.out.up U2.out) (H1.out.up U2.out) M1.out).mono ?_
      rintro e w3 ⟨rfl, u⟩
      have U3 := Lib.hid (Up.trans U2.out u)
      have B3 := Lib.hid (B2.out.up u)
      clear u B2 U2 c0 c1' c2' c3 c4
      cases ha : ss.all (isSi s) with
      | false =>
        have HE1 : Hid (errHold s n ss ps = 1) := by
          show _ = _
          rw [HE.out, ha, if_neg (by simp)]
        have HZ := Lib.hid (HV.out (by rw [HE1.out]; decide))
        clear ha
        go_wp2_with fail
        go_ret2
        rw [HE1.out, HZ.out]
        exact ⟨rfl, U3.out⟩
      | true =>
        have HA := Lib.hid ha
        have GS : Hid (∀ i ∈ ss, 0 ≤ i ∧ i < s.sills.length) := fun i hi => by have := inB_true.1 (List.all_eq_true.1 ha i hi); omega
        clear ha
        go_wp2_with fail
        go_loopw [13, 14] (fun i v wr => ∃ k : Nat, k ≤ ps.length ∧ i = .int .i64 k ∧ ps.all (isPl s) = (ps.drop k).all (isPl s) ∧ Up w3 wr) (fun i _ _ => ps.length - (intOf i).toNat)
        case atStart => exact ⟨0, Nat.zero_le _, rfl, rfl, Below.refl _ _⟩
        case round =>
          obtain ⟨k, hk, rfl, ht, hu⟩ := hrel
          have HT := Lib.hid ht
          have HU := Lib.hid hu
          clear ht
          by_cases hlt : k < ps.length
          · obtain ⟨b, off, rfl, d0⟩ := (H2.out.up (Up.trans U3.out hu)).int k hlt
            have HD := Lib.hid (all_drop (f := isPl s) hlt)
            obtain ⟨c0, c1', c2', c3, c4⟩ := five (B3.out.up hu)
            have b1 : (k : Int) < (ps.length : Int) := by omega
            generalize ps[k] = y at *
            clear hu
            go_upto_region 13 with fail
            refine region_tail (fun W' => W'.cell? ⟨b, off + k, none⟩ = some (.int .i64 y) ∧ W'.cell? ⟨w.heap.size, 0, none⟩ = some (.slice pT s.table.length cT) ∧ W'.cell? ⟨w.heap.size, 1, none⟩ = some (.int .i64 s.lo) ∧ W'.cell? ⟨w.heap.size, 2, none⟩ = some (.int .i64 s.hi) ∧ W'.cell? ⟨w.heap.size, 3, none⟩ = some (.slice pF s.floors.length cF) ∧ W'.cell? ⟨w.heap.size, 4, none⟩ = some (.slice pS s.sills.length cS)) 6 mixed (by kernel_rfl) ⟨d0, c0, c1', c2', c3, c4⟩ (fun hHeld => ?_)
            refine wpAnyG_take 0 41 (v := ?_) rfl rfl (by kernel_rfl) (fun _ _ _ h => h) (Or.inl ⟨by rfl, ?_⟩) (by assumption) ?_
            rotate_left
            · (intro w' hSw; (try dsimp only at hSw); go_split_ands; go_simp; try with_reducible rfl)
            try simp only [List.setIfInBounds_toArray, List.set_cons_zero, List.set_cons_succ]
            refine wpAnyG_take 1 42 (v := ?_) rfl rfl (by kernel_rfl) (fun _ _ _ h => h) (Or.inl ⟨by rfl, ?_⟩) (by assumption) ?_
            rotate_left
            · (intro w' hSw; (try dsimp only at hSw); go_split_ands; go_simp; try with_reducible rfl)
            try simp only [List.setIfInBounds_toArray, List.set_cons_zero, List.set_cons_succ]
            refine wpAnyG_take 2 43 (v := ?_) rfl rfl (by kernel_rfl) (fun _ _ _ h => h) (Or.inl ⟨by rfl, ?_⟩) (by assumption) ?_
            rotate_left
            · (intro w' hSw; (try dsimp only at hSw); go_split_ands; go_simp; try with_reducible rfl)
            try simp only [List.setIfInBounds_toArray, List.set_cons_zero, List.set_cons_succ]
            refine wpAnyG_take 3 44 (v := ?_) rfl rfl (by kernel_rfl) (fun _ _ _ h => h) (Or.inl ⟨by rfl, ?_⟩) (by assumption) ?_
            rotate_left
            · (intro w' hSw; (try dsimp only at hSw); go_split_ands; go_simp; try with_reducible rfl)
            try simp only [List.setIfInBounds_toArray, List.set_cons_zero, List.set_cons_succ]
            refine wpAnyG_take 4 45 (v := ?_) rfl rfl (by kernel_rfl) (fun _ _ _ h => h) (Or.inl ⟨by rfl, ?_⟩) (by assumption) ?_
            rotate_left
            · (intro w' hSw; (try dsimp only at hSw); go_split_ands; go_simp; try with_reducible rfl)
            try simp only [List.setIfInBounds_toArray, List.set_cons_zero, List.set_cons_succ]
            refine wpAnyG_do 5 rfl (by kernel_rfl) (fun K hK => ?_)
            rw [if_pos (by rfl)]
            go_simp
            refine (refPlace_c s y _ (HL.out.up (Up.trans U3.out (Up.trans HU.out ((Below.refl _ _).drew))))).mono ?_
            rintro e wa ⟨rfl, v6⟩
            have v6' : Up wr wa := Up.trans ((Below.refl _ _).drew) v6
            refine hK.out _ _ ⟨v6'.cellAt d0, v6'.cellAt c0, v6'.cellAt c1', v6'.cellAt c2', v6'.cellAt c3, v6'.cellAt c4⟩ (fun hHeld => ?_)
            clear hK K
            have UA := Lib.hid (Up.trans HU.out v6')
            clear hHeld c0 c1' c2' c3 c4 d0 v6 v6'
            refine wpAnyG_tail (by kernel_rfl) ?_
            change wpList _ _ _ [_] _ _
            cases hy : isPl s y with
            | true =>
              have HX := Lib.hid (show ps.all (isPl s) = (ps.drop (k + 1)).all (isPl s) by rw [HT.out, HD.out, hy, Bool.true_and])
              clear hy
              go_wp2_with fail
              go_roundw
              case rel =>
                try ((repeat apply Exists.intro); refine ⟨?_, rfl⟩)
                exact ⟨k + 1, hlt, by go_num, HX.out, UA.out⟩
              case measure => simp [intOf]; omega
            | false =>
              have HE1 : Hid (errHold s n ss ps = 1) := by
                show _ = _
                rw [HE.out, HT.out, HD.out, hy, if_neg (by simp)]
              have HZ := Lib.hid (HV.out (by rw [HE1.out]; decide))
              clear hy
              go_wp2_with fail
              go_ret2
              rw [HE1.out, HZ.out]
              exact ⟨rfl, Up.trans U3.out UA.out⟩
          · obtain rfl : k = ps.length := by omega
            have HB := Lib.hid (show ps.all (isPl s) = true by rw [HT.out, List.drop_eq_nil_of_le (Nat.le_refl _)]; rfl)
            have GP : Hid (∀ i ∈ ps, 0 ≤ i ∧ i < s.floors.length) := fun i hi => by have := inB_true.1 (List.all_eq_true.1 HB.out i hi); omega
            have HE2 : Hid (errHold s n ss ps = if ss.Nodup ∧ ps.Nodup then (if wayAt (waysOf s (mayHold ss ps)) n = none then (if ss = [] ∧ ps = [] then 6 else 0) else 8) else 5) := by show _ = _; rw [HE.out, if_pos ⟨HA.out, HB.out⟩]
            have U4 := Lib.hid (Up.trans U3.out HU.out)
            have B4 := Lib.hid (B3.out.up HU.out)
            clear HT HE hu hk hlt U3 B3 HU
            generalize wr = w4 at *
            go_wp2_with fail
            refine (repeats_c ss p1 c1 _ (H1.out.up U4.out) M1.out).mono ?_
            rintro e w5 ⟨he, u⟩
            have U5 := Lib.hid (Up.trans U4.out u)
            have B5 := Lib.hid (B4.out.up u)
            clear u U4 B4
            by_cases hd1 : ss.Nodup
            · rw [decide_eq_true hd1, Bool.not_true] at he
              subst he
              have HD1 := Lib.hid hd1
              clear hd1
              go_wp2_with fail
              refine (repeats_c ps p2 c2 _ (H2.out.up U5.out) M2.out).mono ?_
              rintro e w6 ⟨he, u⟩
              have U6 := Lib.hid (Up.trans U5.out u)
              have B6 := Lib.hid (B5.out.up u)
              clear u U5 B5
              by_cases hd2 : ps.Nodup
              · rw [decide_eq_true hd2, Bool.not_true] at he
                subst he
                have HE3 : Hid (errHold s n ss ps = if wayAt (waysOf s (mayHold ss ps)) n = none then (if ss = [] ∧ ps = [] then 6 else 0) else 8) := by show _ = _; rw [HE2.out, if_pos ⟨HD1.out, hd2⟩]
                clear hd2 HE2
                obtain ⟨c0, c1', c2', c3, c4⟩ := five B6.out
                go_wp2_with fail
                refine (refLeast_c s n ss ps p1 p2 c1 c2 _ OK.out (HL.out.up U6.out) (H1.out.up U6.out) (H2.out.up U6.out) M1.out M2.out hn).mono ?_
                rintro e w7 ⟨rfl, u⟩
                have U7 := Lib.hid (Up.trans U6.out u)
                have B7 := Lib.hid (B6.out.up u)
                clear u U6 B6 c0 c1' c2' c3 c4
                have HLG := Lib.hid (low_got (ss := ss) (ps := ps) OK.out n hn)
                by_cases hlow : (lowR s ss ps)[n]?.getD 0 = 5000
                · have n2 : ((lowR s ss ps)[n]?.getD 0 != 5000) = false := by rw [hlow]; rfl
                  have HE4 : Hid (errHold s n ss ps = if ss = [] ∧ ps = [] then 6 else 0) := by show _ = _; rw [HE3.out, if_pos (way_none.2 (HLG.out.1 hlow))]
                  clear hlow HE3 HLG
                  generalize (lowR s ss ps)[n]?.getD 0 = lw at *
                  go_wp2_with fail
                  go_loopw [15, 16] (fun v i wr => ∃ (k : Nat) (z : Int), k ≤ ss.length ∧ v = .int .i64 z ∧ i = .int .i64 k ∧ leastS s 5000 ss = leastS s z (ss.drop k) ∧ Up w7 wr) (fun _ i _ => ss.length - (intOf i).toNat)
                  case atStart => exact ⟨0, 5000, Nat.zero_le _, rfl, rfl, rfl, Below.refl _ _⟩
                  case round =>
                    obtain ⟨k, z, hk, rfl, rfl, ht, hu⟩ := hrel
                    have HT := Lib.hid ht
                    have HU := Lib.hid hu
                    clear ht
                    by_cases hlt : k < ss.length
                    · obtain ⟨b, off, rfl, d0⟩ := (H1.out.up (Up.trans U7.out hu)).int k hlt
                      have HD := Lib.hid (List.drop_eq_getElem_cons hlt)
                      have hy := GS.out ss[k] (List.getElem_mem hlt)
                      obtain ⟨c0, c1', c2', c3, c4⟩ := five (B7.out.up hu)
                      have b1 : (k : Int) < (ss.length : Int) := by omega
                      generalize ss[k] = y at *
                      obtain ⟨m, rfl⟩ := Int.eq_ofNat_of_zero_le hy.1
                      have hm : m < s.sills.length := by omega
                      obtain ⟨bs, os, rfl, -, -, d2⟩ := ((HL.out.up (Up.trans U7.out hu)).rs).triple m hm
                      have HN := Lib.hid (show leastS s z ((m : Int) :: ss.drop (k + 1)) = leastS s (min z (s.sills[m]).2.2) (ss.drop (k + 1)) by
                        show leastS s (min z (s.sills[((m : Int)).toNat]?.getD (0, 0, 0)).2.2) _ = _
                        rw [Int.toNat_natCast, List.getElem?_eq_getElem hm, Option.getD_some])
                      generalize (s.sills[m]).2.2 = h at *
                      have b2 : (m : Int) < (s.sills.length : Int) := by omega
                      clear hu hy
                      go_upto_region 24 with fail
                      refine region_tail (fun W' => W'.cell? ⟨b, off + k, none⟩ = some (.int .i64 (m : Int)) ∧ W'.cell? ⟨bs, os + m * 3 + 2, none⟩ = some (.int .i64 h) ∧ W'.cell? ⟨w.heap.size, 0, none⟩ = some (.slice pT s.table.length cT) ∧ W'.cell? ⟨w.heap.size, 1, none⟩ = some (.int .i64 s.lo) ∧ W'.cell? ⟨w.heap.size, 2, none⟩ = some (.int .i64 s.hi) ∧ W'.cell? ⟨w.heap.size, 3, none⟩ = some (.slice pF s.floors.length cF) ∧ W'.cell? ⟨w.heap.size, 4, none⟩ = some (.slice (some ⟨bs, os, none⟩) s.sills.length cS)) 11 mixed (by kernel_rfl) ⟨d0, d2, c0, c1', c2', c3, c4⟩ (fun hHeld => ?_)
                      refine wpAnyG_take 0 68 (v := ?_) rfl rfl (by kernel_rfl) (fun _ _ _ h => h) (Or.inl ⟨by rfl, ?_⟩) (by assumption) ?_
                      rotate_left
                      · (intro w' hSw; (try dsimp only at hSw); go_split_ands; go_simp; try with_reducible rfl)
                      try simp only [List.setIfInBounds_toArray, List.set_cons_zero, List.set_cons_succ]
                      refine wpAnyG_take 1 69 (v := ?_) rfl rfl (by kernel_rfl) (fun _ _ _ h => h) (Or.inl ⟨by rfl, ?_⟩) (by assumption) ?_
                      rotate_left
                      · (intro w' hSw; (try dsimp only at hSw); go_split_ands; go_simp; try with_reducible rfl)
                      try simp only [List.setIfInBounds_toArray, List.set_cons_zero, List.set_cons_succ]
                      refine wpAnyG_take 2 70 (v := ?_) rfl rfl (by kernel_rfl) (fun _ _ _ h => h) (Or.inl ⟨by rfl, ?_⟩) (by assumption) ?_
                      rotate_left
                      · (intro w' hSw; (try dsimp only at hSw); go_split_ands; go_simp; try with_reducible rfl)
                      try simp only [List.setIfInBounds_toArray, List.set_cons_zero, List.set_cons_succ]
                      refine wpAnyG_take 3 71 (v := ?_) rfl rfl (by kernel_rfl) (fun _ _ _ h => h) (Or.inl ⟨by rfl, ?_⟩) (by assumption) ?_
                      rotate_left
                      · (intro w' hSw; (try dsimp only at hSw); go_split_ands; go_simp; try with_reducible rfl)
                      try simp only [List.setIfInBounds_toArray, List.set_cons_zero, List.set_cons_succ]
                      refine wpAnyG_take 4 72 (v := ?_) rfl rfl (by kernel_rfl) (fun _ _ _ h => h) (Or.inl ⟨by rfl, ?_⟩) (by assumption) ?_
                      rotate_left
                      · (intro w' hSw; (try dsimp only at hSw); go_split_ands; go_simp; try with_reducible rfl)
                      try simp only [List.setIfInBounds_toArray, List.set_cons_zero, List.set_cons_succ]
                      refine wpAnyG_take 5 73 (v := ?_) rfl rfl (by kernel_rfl) (fun _ _ _ h => h) (Or.inl ⟨by rfl, ?_⟩) (by assumption) ?_
                      rotate_left
                      · (intro w' hSw; (try dsimp only at hSw); go_split_ands; go_simp; try with_reducible rfl)
                      try simp only [List.setIfInBounds_toArray, List.set_cons_zero, List.set_cons_succ]
                      refine wpAnyG_take 6 74 (v := ?_) rfl rfl (by kernel_rfl) (fun _ _ _ h => h) (Or.inl ⟨by rfl, ?_⟩) (by assumption) ?_
                      rotate_left
                      · (intro w' hSw; (try dsimp only at hSw); go_split_ands; go_simp; try with_reducible rfl)
                      try simp only [List.setIfInBounds_toArray, List.set_cons_zero, List.set_cons_succ]
                      refine wpAnyG_take 7 75 (v := ?_) rfl rfl (by kernel_rfl) (fun _ _ _ h => h) (Or.inl ⟨by rfl, ?_⟩) (by assumption) ?_
                      rotate_left
                      · (intro w' hSw; (try dsimp only at hSw); go_split_ands; go_simp; try with_reducible rfl)
                      try simp only [List.setIfInBounds_toArray, List.set_cons_zero, List.set_cons_succ]
                      refine wpAnyG_take 8 76 (v := ?_) rfl rfl (by kernel_rfl) (fun _ _ _ h => h) (Or.inl ⟨by rfl, ?_⟩) (by assumption) ?_
                      rotate_left
                      · (intro w' hSw; (try dsimp only at hSw); go_split_ands; go_simp; try with_reducible rfl)
                      try simp only [List.setIfInBounds_toArray, List.set_cons_zero, List.set_cons_succ]
                      refine wpAnyG_take 9 77 (v := ?_) rfl rfl (by kernel_rfl) (fun _ _ _ h => h) (Or.inl ⟨by rfl, ?_⟩) (by assumption) ?_
                      rotate_left
                      · (intro w' hSw; (try dsimp only at hSw); go_split_ands; go_simp; try with_reducible rfl)
                      try simp only [List.setIfInBounds_toArray, List.set_cons_zero, List.set_cons_succ]
                      by_cases hmin : h < z
                      · have HMIN := Lib.hid (show min z h = h by omega)
                        refine wpAnyG_take 10 78 (v := .int .i64 h) rfl rfl (by kernel_rfl) (fun _ _ _ h => h) (Or.inl ⟨by rfl, ?_⟩) (by assumption) ?_
                        · intro w' _
                          go_simp
                        try simp only [List.setIfInBounds_toArray, List.set_cons_zero, List.set_cons_succ]
                        have UA := Lib.hid (HU.out.drew)
                        clear hHeld c0 c1' c2' c3 c4 d0 d2
                        refine wpAnyG_tail (by kernel_rfl) ?_
                        change wpList _ _ _ [_] _ _
                        go_wp2_with fail
                        go_roundw
                        case rel =>
                          try ((repeat apply Exists.intro); refine ⟨?_, rfl⟩)
                          exact ⟨k + 1, h, hlt, rfl, by go_num, by rw [HT.out, HD.out, HN.out, HMIN.out], UA.out⟩
                        case measure => simp [intOf]; omega
                      · have HMIN := Lib.hid (show min z h = z by omega)
                        refine wpAnyG_take 10 78 (v := .int .i64 z) rfl rfl (by kernel_rfl) (fun _ _ _ h => h) (Or.inl ⟨by rfl, ?_⟩) (by assumption) ?_
                        · intro w' _
                          go_simp
                        try simp only [List.setIfInBounds_toArray, List.set_cons_zero, List.set_cons_succ]
                        have UA := Lib.hid (HU.out.drew)
                        clear hHeld c0 c1' c2' c3 c4 d0 d2
                        refine wpAnyG_tail (by kernel_rfl) ?_
                        change wpList _ _ _ [_] _ _
                        go_wp2_with fail
                        go_roundw
                        case rel =>
                          try ((repeat apply Exists.intro); refine ⟨?_, rfl⟩)
                          exact ⟨k + 1, z, hlt, rfl, by go_num, by rw [HT.out, HD.out, HN.out, HMIN.out], UA.out⟩
                        case measure => simp [intOf]; omega
                    · obtain rfl : k = ss.length := by omega
                      have HS := Lib.hid (show leastS s 5000 ss = z by rw [HT.out, List.drop_eq_nil_of_le (Nat.le_refl _)]; rfl)
                      have U8 := Lib.hid (Up.trans U7.out HU.out)
                      have B8 := Lib.hid (B7.out.up HU.out)
                      have HR := Lib.hid (leastR OK.out HA.out HB.out)
                      clear HT hu hk hlt U7 B7 HU
                      generalize wr = w8 at *
                      go_wp2_with fail
                      go_loopw [15, 17] (fun v i wr => ∃ (k : Nat) (y : Int), k ≤ ps.length ∧ v = .int .i64 y ∧ i = .int .i64 k ∧ leastF s z ps = leastF s y (ps.drop k) ∧ Up w8 wr) (fun _ i _ => ps.length - (intOf i).toNat)
                      case atStart => exact ⟨0, z, Nat.zero_le _, rfl, rfl, rfl, Below.refl _ _⟩
                      case round =>
                        obtain ⟨k, q, hk, rfl, rfl, ht, hu⟩ := hrel
                        have HT := Lib.hid ht
                        have HU := Lib.hid hu
                        clear ht
                        by_cases hlt : k < ps.length
                        · obtain ⟨b, off, rfl, d0⟩ := (H2.out.up (Up.trans U8.out hu)).int k hlt
                          have HD := Lib.hid (List.drop_eq_getElem_cons hlt)
                          have hy := GP.out ps[k] (List.getElem_mem hlt)
                          obtain ⟨c0, c1', c2', c3, c4⟩ := five (B8.out.up hu)
                          have b1 : (k : Int) < (ps.length : Int) := by omega
                          generalize ps[k] = y at *
                          obtain ⟨m, rfl⟩ := Int.eq_ofNat_of_zero_le hy.1
                          have hm : m < s.floors.length := by omega
                          obtain ⟨bs, os, rfl, d2⟩ := ((HL.out.up (Up.trans U8.out hu)).rf).int m hm
                          have HN := Lib.hid (show leastF s q ((m : Int) :: ps.drop (k + 1)) = leastF s (min q (s.floors[m])) (ps.drop (k + 1)) by
                            show leastF s (min q (s.floors[((m : Int)).toNat]?.getD 0)) _ = _
                            rw [Int.toNat_natCast, List.getElem?_eq_getElem hm, Option.getD_some])
                          generalize s.floors[m] = h at *
                          have b2 : (m : Int) < (s.floors.length : Int) := by omega
                          clear hu hy
                          go_upto_region 28 with fail
                          refine region_tail (fun W' => W'.cell? ⟨b, off + k, none⟩ = some (.int .i64 (m : Int)) ∧ W'.cell? ⟨bs, os + m, none⟩ = some (.int .i64 h) ∧ W'.cell? ⟨w.heap.size, 0, none⟩ = some (.slice pT s.table.length cT) ∧ W'.cell? ⟨w.heap.size, 1, none⟩ = some (.int .i64 s.lo) ∧ W'.cell? ⟨w.heap.size, 2, none⟩ = some (.int .i64 s.hi) ∧ W'.cell? ⟨w.heap.size, 3, none⟩ = some (.slice (some ⟨bs, os, none⟩) s.floors.length cF) ∧ W'.cell? ⟨w.heap.size, 4, none⟩ = some (.slice pS s.sills.length cS)) 10 mixed (by kernel_rfl) ⟨d0, d2, c0, c1', c2', c3, c4⟩ (fun hHeld => ?_)
                          refine wpAnyG_take 0 85 (v := ?_) rfl rfl (by kernel_rfl) (fun _ _ _ h => h) (Or.inl ⟨by rfl, ?_⟩) (by assumption) ?_
                          rotate_left
                          · (intro w' hSw; (try dsimp only at hSw); go_split_ands; go_simp; try with_reducible rfl)
                          try simp only [List.setIfInBounds_toArray, List.set_cons_zero, List.set_cons_succ]
                          refine wpAnyG_take 1 86 (v := ?_) rfl rfl (by kernel_rfl) (fun _ _ _ h => h) (Or.inl ⟨by rfl, ?_⟩) (by assumption) ?_
                          rotate_left
                          · (intro w' hSw; (try dsimp only at hSw); go_split_ands; go_simp; try with_reducible rfl)
                          try simp only [List.setIfInBounds_toArray, List.set_cons_zero, List.set_cons_succ]
                          refine wpAnyG_take 2 87 (v := ?_) rfl rfl (by kernel_rfl) (fun _ _ _ h => h) (Or.inl ⟨by rfl, ?_⟩) (by assumption) ?_
                          rotate_left
                          · (intro w' hSw; (try dsimp only at hSw); go_split_ands; go_simp; try with_reducible rfl)
                          try simp only [List.setIfInBounds_toArray, List.set_cons_zero, List.set_cons_succ]
                          refine wpAnyG_take 3 88 (v := ?_) rfl rfl (by kernel_rfl) (fun _ _ _ h => h) (Or.inl ⟨by rfl, ?_⟩) (by assumption) ?_
                          rotate_left
                          · (intro w' hSw; (try dsimp only at hSw); go_split_ands; go_simp; try with_reducible rfl)
                          try simp only [List.setIfInBounds_toArray, List.set_cons_zero, List.set_cons_succ]
                          refine wpAnyG_take 4 89 (v := ?_) rfl rfl (by kernel_rfl) (fun _ _ _ h => h) (Or.inl ⟨by rfl, ?_⟩) (by assumption) ?_
                          rotate_left
                          · (intro w' hSw; (try dsimp only at hSw); go_split_ands; go_simp; try with_reducible rfl)
                          try simp only [List.setIfInBounds_toArray, List.set_cons_zero, List.set_cons_succ]
                          refine wpAnyG_take 5 90 (v := ?_) rfl rfl (by kernel_rfl) (fun _ _ _ h => h) (Or.inl ⟨by rfl, ?_⟩) (by assumption) ?_
                          rotate_left
                          · (intro w' hSw; (try dsimp only at hSw); go_split_ands; go_simp; try with_reducible rfl)
                          try simp only [List.setIfInBounds_toArray, List.set_cons_zero, List.set_cons_succ]
                          refine wpAnyG_take 6 91 (v := ?_) rfl rfl (by kernel_rfl) (fun _ _ _ h => h) (Or.inl ⟨by rfl, ?_⟩) (by assumption) ?_
                          rotate_left
                          · (intro w' hSw; (try dsimp only at hSw); go_split_ands; go_simp; try with_reducible rfl)
                          try simp only [List.setIfInBounds_toArray, List.set_cons_zero, List.set_cons_succ]
                          refine wpAnyG_take 7 92 (v := ?_) rfl rfl (by kernel_rfl) (fun _ _ _ h => h) (Or.inl ⟨by rfl, ?_⟩) (by assumption) ?_
                          rotate_left
                          · (intro w' hSw; (try dsimp only at hSw); go_split_ands; go_simp; try with_reducible rfl)
                          try simp only [List.setIfInBounds_toArray, List.set_cons_zero, List.set_cons_succ]
                          refine wpAnyG_take 8 93 (v := ?_) rfl rfl (by kernel_rfl) (fun _ _ _ h => h) (Or.inl ⟨by rfl, ?_⟩) (by assumption) ?_
                          rotate_left
                          · (intro w' hSw; (try dsimp only at hSw); go_split_ands; go_simp; try with_reducible rfl)
                          try simp only [List.setIfInBounds_toArray, List.set_cons_zero, List.set_cons_succ]
                          by_cases hmin : h < q
                          · have HMIN := Lib.hid (show min q h = h by omega)
                            refine wpAnyG_take 9 94 (v := .int .i64 h) rfl rfl (by kernel_rfl) (fun _ _ _ h => h) (Or.inl ⟨by rfl, ?_⟩) (by assumption) ?_
                            · intro w' _
                              go_simp
                            try simp only [List.setIfInBounds_toArray, List.set_cons_zero, List.set_cons_succ]
                            have UA := Lib.hid (HU.out.drew)
                            clear hHeld c0 c1' c2' c3 c4 d0 d2
                            refine wpAnyG_tail (by kernel_rfl) ?_
                            change wpList _ _ _ [_] _ _
                            go_wp2_with fail
                            go_roundw
                            case rel =>
                              try ((repeat apply Exists.intro); refine ⟨?_, rfl⟩)
                              exact ⟨k + 1, h, hlt, rfl, by go_num, by rw [HT.out, HD.out, HN.out, HMIN.out], UA.out⟩
                            case measure => simp [intOf]; omega
                          · have HMIN := Lib.hid (show min q h = q by omega)
                            refine wpAnyG_take 9 94 (v := .int .i64 q) rfl rfl (by kernel_rfl) (fun _ _ _ h => h) (Or.inl ⟨by rfl, ?_⟩) (by assumption) ?_
                            · intro w' _
                              go_simp
                            try simp only [List.setIfInBounds_toArray, List.set_cons_zero, List.set_cons_succ]
                            have UA := Lib.hid (HU.out.drew)
                            clear hHeld c0 c1' c2' c3 c4 d0 d2
                            refine wpAnyG_tail (by kernel_rfl) ?_
                            change wpList _ _ _ [_] _ _
                            go_wp2_with fail
                            go_roundw
                            case rel =>
                              try ((repeat apply Exists.intro); refine ⟨?_, rfl⟩)
                              exact ⟨k + 1, q, hlt, rfl, by go_num, by rw [HT.out, HD.out, HN.out, HMIN.out], UA.out⟩
                            case measure => simp [intOf]; omega
                        · obtain rfl : k = ps.length := by omega
                          have HQ : Hid (q = if ss = [] ∧ ps = [] then 5000 else leastF s (leastS s 999 ss) ps) := by
                            show _ = _
                            rw [← HR.out, HS.out, HT.out, List.drop_eq_nil_of_le (Nat.le_refl _)]
                            rfl
                          have U9 := Lib.hid (Up.trans U8.out HU.out)
                          clear HT hu hk hlt HR HS
                          by_cases hnil : ss = [] ∧ ps = []
                          · have HE5 : Hid (errHold s n ss ps = 6) := by show _ = _; rw [HE4.out, if_pos hnil]
                            have HZ := Lib.hid (HV.out (by rw [HE5.out]; decide))
                            have hq : q = 5000 := by rw [HQ.out, if_pos hnil]
                            have hq' : (q == 5000) = true := by rw [hq]; rfl
                            clear hnil hq
                            go_wp2_with fail
                            go_ret2
                            rw [HE5.out, HZ.out]
                            exact ⟨rfl, U9.out⟩
                          · have HE5 : Hid (errHold s n ss ps = 0) := by show _ = _; rw [HE4.out, if_neg hnil]
                            have HZ : Hid (holdV s n ss ps = q) := by show _ = _; unfold holdV; rw [if_pos HE5.out, HQ.out, if_neg hnil]
                            have h9 : q ≤ 999 := by
                              rw [HQ.out, if_neg hnil]
                              exact Int.le_trans (leastF_le _ _) (leastS_le _ _)
                            have hq' : (q == 5000) = false := beq_eq_false_iff_ne.2 (by omega)
                            clear hnil h9
                            go_wp2_with fail
                            go_ret2
                            rw [HE5.out, HZ.out]
                            exact ⟨rfl, U9.out⟩
                · have n2 : ((lowR s ss ps)[n]?.getD 0 != 5000) = true := by rw [bne_iff_ne]; exact hlow
                  have HE4 : Hid (errHold s n ss ps = 8) := by
                    show _ = _
                    rw [HE3.out, if_neg]
                    intro hh
                    exact hlow (HLG.out.2 (way_none.1 hh))
                  have HZ := Lib.hid (HV.out (by rw [HE4.out]; decide))
                  clear hlow
                  go_wp2_with fail
                  go_ret2
                  rw [HE4.out, HZ.out]
                  exact ⟨rfl, U7.out⟩
              · rw [decide_eq_false hd2, Bool.not_false] at he
                subst he
                have HE3 : Hid (errHold s n ss ps = 5) := by show _ = _; rw [HE2.out, if_neg (fun h => hd2 h.2)]
                have HZ := Lib.hid (HV.out (by rw [HE3.out]; decide))
                clear hd2
                go_wp2_with fail
                go_ret2
                rw [HE3.out, HZ.out]
                exact ⟨rfl, U6.out⟩
            · rw [decide_eq_false hd1, Bool.not_false] at he
              subst he
              have HE3 : Hid (errHold s n ss ps = 5) := by show _ = _; rw [HE2.out, if_neg (fun h => hd1 h.1)]
              have HZ := Lib.hid (HV.out (by rw [HE3.out]; decide))
              clear hd1
              go_wp2_with fail
              go_ret2
              rw [HE3.out, HZ.out]
              exact ⟨rfl, U5.out⟩
  · have n1 : (chk s != 0) = true := by rw [bne_iff_ne]; exact hE
    have HE : Hid (errHold s x ss ps = chk s) := by
      have k : errFor s x = chk s := by unfold errFor; rw [if_neg hE]
      show _ = _
      unfold errHold
      rw [k, if_neg hE]
    have HZ := Lib.hid (HV.out (by rw [HE.out]; exact hE))
    clear hE
    go_wp2_with fail
    go_ret2
    rw [HE.out, HZ.out]
    exact ⟨rfl, U1.out⟩
end
end Go.Proofs.Ytcljkkojeleakaa
/- The reference's Crest: what its function returns. -/
namespace Go.Proofs.Ytcljkkojeleakaa
open Go.RowKit Go.Shelf

/-- a row's block is another one than a block of another type -/
theorem own_ne {w : World} {n₀ k n : Nat} {T T' : TypeId} {v : Value} {xs : List Value} (h : w.ownsRow n₀ T k v n xs) {B : Nat} {cs : List Value} (hB : Blk w B cs T') (ht : T' ≠ T) : v.ownBlock ≠ some B := by
  intro e
  have h' : w.heap[B]? = some (.cells cs.toArray T' (0, 0)) := hB
  rcases h.2 with ⟨rfl, _⟩ | ⟨g, cap, cur, rfl, _, hc, _⟩
  · simp [Value.ownBlock] at e
  · simp [Value.ownBlock] at e
    subst e
    rw [h'] at hc
    simp only [Option.some.injEq, Obj.cells.injEq] at hc
    exact ht hc.2.1
/-- where a sill leads, as the reference finds it -/
def nxt (a b e : Int) : Int := if b = e then a else if a = e then b else -2
theorem nxt_other {a b h e : Int} (hab : a ≠ b) : (nxt a b e = -2 ∧ other (a, b, h) e = -1) ∨ nxt a b e = other (a, b, h) e := by
  unfold nxt other
  by_cases h1 : b = e
  · subst h1
    right
    have : (b == a) = false := beq_eq_false_iff_ne.2 (Ne.symm hab)
    simp [this]
  · by_cases h2 : a = e
    · subst h2
      right
      simp [h1]
    · left
      have e1 : (e == a) = false := beq_eq_false_iff_ne.2 (Ne.symm h2)
      have e2 : (e == b) = false := beq_eq_false_iff_ne.2 (Ne.symm h1)
      simp [h1, h2, e1, e2]

section
variable {pT pF pS : Option Addr} {cT cF cS : Nat}
set_option maxRecDepth 100000 in
set_option maxHeartbeats 4000000 in
theorem refCrest_c (s : Sd) (x : Int) (way : List Int) (p : Option Addr) (c : Nat) (w : World) (hl : Lists w s pT pF pS cT cF cS) (h1 : Row w p 1 (ints way)) (l1 : way.length ≤ 10000) :
    Calls Try.prog 33 #[sdVal s pT pF pS cT cF cS, .int .i64 x, .slice p way.length c] w fun e w' => e = .returned (.tuple #[.int .i64 (crestV s x way), .int .i64 (errCrest s x way)]) ∧ Up w w' := by
  have M1 : Hid (way.length ≤ maxLen) := by show _ ≤ _; simp only [maxLen]; omega
  obtain ⟨i0, hi, hz0, hz1, hz2⟩ := info_parts info3
  have HL := Lib.hid hl
  have H1 := Lib.hid h1
  have HH := Lib.hid (fun (l : List Int) (p : Option Addr) (c : Nat) (n : Int) (W : World) (hr : Row W p 1 (ints l)) (hm : l.length ≤ maxLen) => has_c l p c n W hr hm)
  have HV : Hid (errCrest s x way ≠ 0 → crestV s x way = 0) := fun h => by unfold crestV; rw [if_neg h]
  clear hl h1
  unfold sdVal
  go_enter Try.func33, Try.ntmps33
  go_wp2_with fail
  have BS : Hid (Blk (w.alloc (.cells #[.slice pT s.table.length cT, .int .i64 s.lo, .int .i64 s.hi, .slice pF s.floors.length cF, .slice pS s.sills.length cS] 37)) w.heap.size (sdCells s pT pF pS cT cF cS) 37) := Lib.hid (Blk.new w (sdCells s pT pF pS cT cF cS) 37)
  have U0 : Hid (Up w (w.alloc (.cells #[.slice pT s.table.length cT, .int .i64 s.lo, .int .i64 s.hi, .slice pF s.floors.length cF, .slice pS s.sills.length cS] 37))) := Lib.hid (by (repeat (first | exact Below.refl _ _ | (with_reducible refine Below.drewN' ?_ _) | (with_reducible refine Below.drew ?_) | (with_reducible refine Below.setCell ?_ (by first | exact Nat.le_refl _ | omega | (with_reducible (repeat (first | refine sz_alloc ?_ | refine sz_setCell ?_ | refine sz_drew ?_ | refine sz_drewN ?_)); first | exact Nat.le_refl _ | omega) | (simp only [World.size_alloc, World.size_setCell, World.size_drew, size_drewN']; omega)) _) | (with_reducible refine Below.alloc ?_ (by first | exact Nat.le_refl _ | omega | (with_reducible (repeat (first | refine sz_alloc ?_ | refine sz_setCell ?_ | refine sz_drew ?_ | refine sz_drewN ?_)); first | exact Nat.le_refl _ | omega) | (simp only [World.size_alloc, World.size_setCell, World.size_drew, size_drewN']; omega)) _) | assumption)))
  generalize (w.alloc (.cells #[.slice pT s.table.length cT, .int .i64 s.lo, .int .i64 s.hi, .slice pF s.floors.length cF, .slice pS s.sills.length cS] 37)) = w0 at *
  refine (refCheck_c s _ (HL.out.up U0.out)).mono ?_
  rintro e w1 ⟨rfl, u⟩
  have U1 := Lib.hid (Up.trans U0.out u)
  have B1 := Lib.hid (BS.out.up u)
  clear u BS U0
  by_cases hE : chk s = 0
  · have OK := Lib.hid (chk_ok hE)
    have n1 : (chk s != 0) = false := by rw [hE]; rfl
    have HF : Hid (errFor s x = bif isPl s x then 0 else 1) := by show _ = _; unfold errFor; rw [if_pos hE]
    clear hE
    obtain ⟨c0, c1', c2', c3, c4⟩ := five B1.out
    go_wp2_with fail
    refine (refPlace_c s x _ (HL.out.up U1.out)).mono ?_
    rintro e w2 ⟨rfl, u⟩
    have U2 := Lib.hid (Up.trans U1.out u)
    have B2 := Lib.hid (B1.out.up u)
    clear u B1 U1 c0 c1' c2' c3 c4 n1
    cases hp : isPl s x with
    | false =>
      have HE : Hid (errCrest s x way = 1) := by
        show _ = _
        unfold errCrest
        rw [HF.out, hp]
        rfl
      have HZ := Lib.hid (HV.out (by rw [HE.out]; decide))
      clear hp
      go_wp2_with fail
      go_ret2
      rw [HE.out, HZ.out]
      exact ⟨rfl, U2.out⟩
    | true =>
      have hx := inB_true.1 hp
      obtain ⟨n, rfl⟩ := Int.eq_ofNat_of_zero_le hx.1
      have hn : n < s.floors.length := by omega
      have HF0 : Hid (errFor s n = 0) := by show _ = _; rw [HF.out, hp]; rfl
      have HE : Hid (errCrest s n way = if way.all (isSi s) = true then (if (folV s way).1 = n then 0 else 8) else 1) := by show _ = _; unfold errCrest; rw [if_pos HF0.out]
      clear hp hx
      obtain ⟨c0, c1', c2', c3, c4⟩ := five B2.out
      go_wp2_with fail
      refine (listed_c s way p c _ (HL.out.up U2.out) (H1.out.up U2.out) M1.out).mono ?_
      rintro e w3 ⟨rfl, u⟩
      have U3 := Lib.hid (Up.trans U2.out u)
      have B3 := Lib.hid (B2.out.up u)
      clear u B2 U2 c0 c1' c2' c3 c4
      cases ha : way.all (isSi s) with
      | false =>
        have HE1 : Hid (errCrest s n way = 1) := by
          show _ = _
          rw [HE.out, ha, if_neg (by simp)]
        have HZ := Lib.hid (HV.out (by rw [HE1.out]; decide))
        clear ha
        go_wp2_with fail
        go_ret2
        rw [HE1.out, HZ.out]
        exact ⟨rfl, U3.out⟩
      | true =>
        have HE1 : Hid (errCrest s n way = if (folV s way).1 = n then 0 else 8) := by show _ = _; rw [HE.out, if_pos ha]
        have GS : Hid (∀ i ∈ way, 0 ≤ i ∧ i < s.sills.length) := fun i hi => by have := inB_true.1 (List.all_eq_true.1 ha i hi); omega
        have HZ8 : Hid ((folV s way).1 = -1 → errCrest s n way = 8 ∧ crestV s n way = 0) := fun h => by
          have e8 : errCrest s n way = 8 := by rw [HE1.out, if_neg (by rw [h]; omega)]
          exact ⟨e8, HV.out (by rw [e8]; decide)⟩
        clear ha HE
        go_wp2_with fail
        have O0 : Hid ((w3.alloc (.cells #[.int .i64 (-1)] 3)).ownsRow w3.heap.size 3 1 (.slice (some ⟨w3.heap.size, 0, none⟩) 1 1) 1 (ints [-1]).flatten) := World.ownsRow_lit w3 #[.int .i64 (-1)] 1 (Nat.le_refl _) (by simp [maxLen]) rfl
        have V0 : Hid (Up w3 (w3.alloc (.cells #[.int .i64 (-1)] 3))) := Lib.hid (by (repeat (first | exact Below.refl _ _ | (with_reducible refine Below.drewN' ?_ _) | (with_reducible refine Below.drew ?_) | (with_reducible refine Below.setCell ?_ (by first | exact Nat.le_refl _ | omega | (with_reducible (repeat (first | refine sz_alloc ?_ | refine sz_setCell ?_ | refine sz_drew ?_ | refine sz_drewN ?_)); first | exact Nat.le_refl _ | omega) | (simp only [World.size_alloc, World.size_setCell, World.size_drew, size_drewN']; omega)) _) | (with_reducible refine Below.alloc ?_ (by first | exact Nat.le_refl _ | omega | (with_reducible (repeat (first | refine sz_alloc ?_ | refine sz_setCell ?_ | refine sz_drew ?_ | refine sz_drewN ?_)); first | exact Nat.le_refl _ | omega) | (simp only [World.size_alloc, World.size_setCell, World.size_drew, size_drewN']; omega)) _) | assumption)))
        generalize (w3.alloc (.cells #[.int .i64 (-1)] 3)) = w4 at *
        go_loopw [11, 12, 13, 14, 15, 16] (fun a c v i _ _ wr => ∃ (k : Nat) (M : List Int) (ev cv : Int), k ≤ way.length ∧ a = .int .i64 ev ∧ c = .int .i64 cv ∧ i = .int .i64 k ∧ folS s way [] (-1) 0 = folS s (way.drop k) M ev cv ∧ M.length = k ∧ wr.ownsRow w3.heap.size 3 1 v (k + 1) (ints (-1 :: M)).flatten ∧ Up w3 wr) (fun _ _ _ i _ _ _ => way.length - (intOf i).toNat)
        case atStart => exact ⟨0, [], -1, 0, Nat.zero_le _, rfl, rfl, rfl, rfl, rfl, O0.out, V0.out⟩
        case round =>
          obtain ⟨k, M, ev, cv, hk, rfl, rfl, rfl, ht, hM, hown, hu⟩ := hrel
          have HT := Lib.hid ht
          have HU := Lib.hid hu
          have HO := Lib.hid hown
          have HM := Lib.hid hM
          clear ht hown hM O0 V0
          by_cases hlt : k < way.length
          · obtain ⟨b, off, rfl, d0⟩ := (H1.out.up (Up.trans U3.out hu)).int k hlt
            have HD := Lib.hid (List.drop_eq_getElem_cons hlt)
            have hy := GS.out way[k] (List.getElem_mem hlt)
            have b1 : (k : Int) < (way.length : Int) := by omega
            generalize way[k] = y at *
            obtain ⟨m, rfl⟩ := Int.eq_ofNat_of_zero_le hy.1
            have hm : m < s.sills.length := by omega
            have b2 : (m : Int) < (s.sills.length : Int) := by omega
            obtain ⟨bs, os, rfl, e0, e1, e2⟩ := ((HL.out.up (Up.trans U3.out hu)).rs).triple m hm
            obtain ⟨c0, c1', c2', c3, c4⟩ := five (B3.out.up hu)
            have HR := Lib.hid (other_rng OK.out m hm ev)
            have HSA := Lib.hid (sillAt_nat m hm)
            have HTW := Lib.hid (OK.out.two _ (List.getElem_mem hm))
            generalize s.sills[m] = sl at *
            obtain ⟨a, b', h⟩ := sl
            dsimp only at e0 e1 e2 HTW
            have lb := cell_lt d0
            have le := cell_lt e0
            have lc := cell_lt c4
            clear hy
            go_wp2_with fail
            go_region
            go_upto_if 52 with fail
            refine Code.wp_world ?_
            intro w5 hw5
            have BX : Hid (Blk w5 wr.heap.size [.int .i64 a, .int .i64 b', .int .i64 h] 131) := by
              show Blk _ _ _ _
              rw [hw5]
              exact (Blk.new wr [.int .i64 a, .int .i64 b', .int .i64 h] 131).drew
            have u5 : Up wr w5 := by rw [hw5]; (repeat (first | exact Below.refl _ _ | (with_reducible refine Below.drewN' ?_ _) | (with_reducible refine Below.drew ?_) | (with_reducible refine Below.setCell ?_ (by first | exact Nat.le_refl _ | omega | (with_reducible (repeat (first | refine sz_alloc ?_ | refine sz_setCell ?_ | refine sz_drew ?_ | refine sz_drewN ?_)); first | exact Nat.le_refl _ | omega) | (simp only [World.size_alloc, World.size_setCell, World.size_drew, size_drewN']; omega)) _) | (with_reducible refine Below.alloc ?_ (by first | exact Nat.le_refl _ | omega | (with_reducible (repeat (first | refine sz_alloc ?_ | refine sz_setCell ?_ | refine sz_drew ?_ | refine sz_drewN ?_)); first | exact Nat.le_refl _ | omega) | (simp only [World.size_alloc, World.size_setCell, World.size_drew, size_drewN']; omega)) _) | assumption))
            have O5 : Hid (World.ownsRow w5 w3.heap.size 3 1 u13 (k + 1) (ints (-1 :: M)).flatten) := by
              show World.ownsRow _ _ _ _ _ _ _
              rw [hw5]
              exact (HO.out.alloc _).drew
            have U5 := Lib.hid (Up.trans HU.out u5)
            clear hw5 u5 hu HO HU e0 e1 e2 d0 c0 c1' c2' c3 c4 lb le lc
            have HN := Lib.hid (nxt_other (a := a) (b := b') (h := h) (e := ev) HTW.out)
            have HG := Lib.hid (folS_go (s := s) (i := (m : Int)) (r := way.drop (k + 1)) (M := M) (e := ev) (c := cv))
            have HP := Lib.hid (folS_stop (s := s) (i := (m : Int)) (r := way.drop (k + 1)) (M := M) (e := ev) (c := cv))
            rw [HSA.out] at HG HP
            generalize wr.heap.size = X at *
            have y0 := BX.out.cell 0
            have y1 := BX.out.cell 1
            have lx := BX.out.lt
            simp only [List.getElem?_cons_zero, List.getElem?_cons_succ] at y0 y1
            go_cut [16] (fun nv wx => nv = .int .i64 (if a = ev then b' else -2) ∧ w5 = wx)
            case first =>
              by_cases g : a = ev
              · have g1 : (a == ev) = true := by rw [g]; exact beq_self_eq_true _
                have HQ := Lib.hid (show (if a = ev then b' else -2) = b' from if_pos g)
                clear g
                go_wp2_with fail
                go_meet
                exact ⟨by rw [HQ.out], rfl⟩
              · have g1 : (a == ev) = false := beq_eq_false_iff_ne.2 g
                have HQ := Lib.hid (show (if a = ev then b' else -2) = -2 from if_neg g)
                clear g
                go_wp2_with fail
                go_meet
                exact ⟨by rw [HQ.out], rfl⟩
            case rest =>
              obtain ⟨rfl, rfl⟩ := hcut
              have HNX := Lib.hid (fun g : ¬ b' = ev => show nxt a b' ev = (if a = ev then b' else -2) from if_neg g)
              generalize (if a = ev then b' else -2) = nx1 at *
              go_upto_if 58 with fail
              go_cut [16] (fun nv wx => nv = .int .i64 (nxt a b' ev) ∧ w5 = wx)
              case first =>
                by_cases g : b' = ev
                · have g1 : (b' == ev) = true := by rw [g]; exact beq_self_eq_true _
                  have HQ := Lib.hid (show nxt a b' ev = a from if_pos g)
                  clear g
                  go_wp2_with fail
                  go_meet
                  exact ⟨by rw [HQ.out], rfl⟩
                · have g1 : (b' == ev) = false := beq_eq_false_iff_ne.2 g
                  have HQ := Lib.hid (HNX.out g)
                  clear g
                  go_wp2_with fail
                  go_meet
                  exact ⟨by rw [HQ.out], rfl⟩
              case rest =>
                obtain ⟨rfl, rfl⟩ := hcut
                have HN' := HN.out
                have HR' := HR.out
                generalize nxt a b' ev = nx at *
                generalize other (a, b', h) ev = ov at *
                have hmk := HM.out
                obtain ⟨q, d, rfl, -, -, hR, -⟩ := Row.of_own (rows := ints (-1 :: M)) (flatOk_ints _) O5.out (by simp [ints, hmk])
                have HHW := Lib.hid (fun (v : Int) => HH.out (-1 :: M) q d v w5 hR (by simp [maxLen]; omega))
                rw [show (-1 :: M).length = k + 1 by simp [hmk]] at HHW
                clear hR hmk
                rcases HN' with ⟨rfl, ho⟩ | rfl
                · have HX : Hid (folV s way = (-1, 0)) := by
                    show _ = _
                    unfold folV
                    rw [HT.out, HD.out, HP.out (.inl ho)]
                    rfl
                  have HE8 := Lib.hid (HZ8.out (by rw [HX.out]))
                  clear ho
                  go_wp2_with fail
                  go_ret2
                  rw [HE8.out.1, HE8.out.2]
                  exact ⟨rfl, Up.trans U3.out U5.out⟩
                · rcases HR' with rfl | ⟨t, rfl, ht⟩
                  · have HX : Hid (folV s way = (-1, 0)) := by
                      show _ = _
                      unfold folV
                      rw [HT.out, HD.out, HP.out (.inl rfl)]
                      rfl
                    have HE8 := Lib.hid (HZ8.out (by rw [HX.out]))
                    go_wp2_with fail
                    refine (HHW.out (-1)).mono ?_
                    rintro e w' ⟨he, rfl⟩
                    rw [decide_eq_true (by simp : (-1 : Int) ∈ -1 :: M)] at he
                    subst he
                    go_wp2_with fail
                    go_ret2
                    rw [HE8.out.1, HE8.out.2]
                    exact ⟨rfl, Up.trans U3.out U5.out⟩
                  · have g2 : ((t : Int) == -2) = false := beq_eq_false_iff_ne.2 (by omega)
                    by_cases hmt : (t : Int) ∈ M
                    · have HX : Hid (folV s way = (-1, 0)) := by
                        show _ = _
                        unfold folV
                        rw [HT.out, HD.out, HP.out (.inr hmt)]
                        rfl
                      have HE8 := Lib.hid (HZ8.out (by rw [HX.out]))
                      go_wp2_with fail
                      refine (HHW.out t).mono ?_
                      rintro e w' ⟨he, rfl⟩
                      rw [decide_eq_true (List.mem_cons_of_mem _ hmt)] at he
                      subst he
                      clear hmt
                      go_wp2_with fail
                      go_ret2
                      rw [HE8.out.1, HE8.out.2]
                      exact ⟨rfl, Up.trans U3.out U5.out⟩
                    · have HX : Hid (folS s way [] (-1) 0 = folS s (way.drop (k + 1)) (M ++ [(t : Int)]) t (max cv (max h (flAt s t)))) := by
                        show _ = _
                        rw [HT.out, HD.out, HG.out (by rintro (h | h); omega; exact hmt h)]
                      rw [flAt_nat t ht] at HX
                      have hnm : (t : Int) ∉ -1 :: M := by
                        rw [List.mem_cons]
                        rintro (h | h)
                        · omega
                        · exact hmt h
                      go_wp2_with fail
                      refine (HHW.out t).mono ?_
                      rintro e w' ⟨he, rfl⟩
                      rw [decide_eq_false hnm] at he
                      subst he
                      clear hmt hnm HHW y0 y1 HP HG
                      have hsz := U5.out.size
                      obtain ⟨bf, of', rfl, -⟩ := ((HL.out.up (Up.trans U3.out U5.out)).rf).int t ht
                      have t1 : (t : Int) < s.floors.length := by omega
                      go_wp2_with (at_builtin; refine wpList_append_own _ rfl _ _ 25 rfl w3.heap.size 3 i0 (.int .i64 0) 1 8 Try.underlying25 hi hz0 hz1 hz2 rfl (by decide) _ _ _ rfl (O5.out.alloc _) ⟨w5.heap.size, 0, none⟩ 1 1 [.int .i64 t] rfl rfl (newsAt _ rfl [.int .i64 t] _) (by simp [Value.oneCell']) (by simp [maxLen]; omega) (by omega) (sz_alloc hsz) ?_; intro v' w8 hown8 hgr8 hnn; clear hnn)
                      have U8 := Lib.hid ((U5.out.alloc hsz _).grown hgr8 (sz_alloc hsz) (fun j e => (O5.out.lt j e).1))
                      have BX8 := Lib.hid ((BX.out.alloc _).grown hgr8 (fun e => own_ne O5.out BX.out (by decide) e.symm))
                      have O8 := Lib.hid hown8
                      clear hown8 hgr8 lx
                      have y2 := BX8.out.cell 2
                      have ly := BX8.out.lt
                      simp only [List.getElem?_cons_zero, List.getElem?_cons_succ] at y2
                      obtain ⟨c0, c1', c2', c3, c4⟩ := five (B3.out.up U8.out)
                      have lc := cell_lt c3
                      obtain ⟨bf', of'', hbf, f0⟩ := ((HL.out.up (Up.trans U3.out U8.out)).rf).int t ht
                      obtain ⟨rfl, rfl⟩ : bf = bf' ∧ of' = of'' := by simpa using hbf
                      have lf := cell_lt f0
                      clear hbf c0 c1' c2' c4
                      go_region
                      go_wp2_with fail
                      go_roundw
                      case rel =>
                        try ((repeat apply Exists.intro); refine ⟨?_, rfl⟩)
                        refine ⟨k + 1, M ++ [(t : Int)], t, _, hlt, rfl, rfl, by go_num, ?_, by simp [HM.out], ?_, U8.out.drew⟩
                        · rw [HX.out]
                          congr 1
                          rw [show max cv (max h s.floors[t]) = max (max cv h) s.floors[t] by omega]
                          simp only [Int.max_def]
                          repeat' split
                          all_goals omega
                        · have e : (ints (-1 :: (M ++ [(t : Int)]))).flatten = (ints (-1 :: M)).flatten ++ [.int .i64 t] := by
                            rw [← List.cons_append]
                            unfold ints
                            rw [List.map_append, List.flatten_append]
                            rfl
                          rw [e]
                          exact O8.out.drew
                      case measure => simp [intOf]; omega
          · obtain rfl : k = way.length := by omega
            have HX : Hid (folV s way = (ev, cv)) := by
              show _ = _
              unfold folV
              rw [HT.out, List.drop_eq_nil_of_le (Nat.le_refl _)]
              rfl
            have U9 := Lib.hid (Up.trans U3.out HU.out)
            clear hu hlt HT HO
            by_cases he : ev = n
            · have HE2 : Hid (errCrest s n way = 0) := by show _ = _; rw [HE1.out, HX.out, if_pos he]
              have HZ : Hid (crestV s n way = cv) := by show _ = _; unfold crestV; rw [if_pos HE2.out, HX.out]
              have g1 : (ev != (n : Int)) = false := by rw [he]; simp
              clear he
              go_wp2_with fail
              go_ret2
              rw [HE2.out, HZ.out]
              exact ⟨rfl, U9.out⟩
            · have HE2 : Hid (errCrest s n way = 8) := by show _ = _; rw [HE1.out, HX.out, if_neg he]
              have HZ := Lib.hid (HV.out (by rw [HE2.out]; decide))
              have g1 : (ev != (n : Int)) = true := by rw [bne_iff_ne]; exact he
              clear he
              go_wp2_with fail
              go_ret2
              rw [HE2.out, HZ.out]
              exact ⟨rfl, U9.out⟩
  · have n1 : (chk s != 0) = true := by rw [bne_iff_ne]; exact hE
    have HE : Hid (errCrest s x way = chk s) := by
      have k : errFor s x = chk s := by unfold errFor; rw [if_neg hE]
      show _ = _
      unfold errCrest
      rw [k, if_neg hE]
    have HZ := Lib.hid (HV.out (by rw [HE.out]; exact hE))
    clear hE
    go_wp2_with fail
    go_ret2
    rw [HE.out, HZ.out]
    exact ⟨rfl, U1.out⟩
end
end Go.Proofs.Ytcljkkojeleakaa
/- Plain facts: the look that settles most. -/
namespace Go.Proofs.Ytcljkkojeleakaa
section
open Go.RowKit

/-- how many truths a look leaves at most, whatever is seen -/
def askMost (s : Sd) (m : Int) (p : Nat) : Int := max (siz (truV s (m, (p : Int), true))) (siz (s.lo, s.hi) - siz (truV s (m, (p : Int), true)))
def askOne (s : Sd) (m : Int) (z : Lk × Int) (p : Nat) : Lk × Int := if z.1 = (0, 0, false) ∨ askMost s m p < z.2 then ((m, (p : Int), true), askMost s m p) else z
def askRow (s : Sd) (m : Int) (z : Lk × Int) : Nat → Lk × Int
  | 0 => z
  | k + 1 => askOne s m (askRow s m z k) k
def askAll (s : Sd) : Nat → Lk × Int
  | 0 => ((0, 0, false), siz (s.lo, s.hi))
  | k + 1 => askRow s (firstM s.table + k) (askAll s k) s.floors.length
def askE (s : Sd) : Int := if chk s = 0 then (if siz (s.lo, s.hi) = 1 then 6 else 0) else chk s
def askV (s : Sd) : Lk × Int := if askE s = 0 then askAll s (dayN s) else ((0, 0, false), 0)

/-- the best of what has been looked at: the first of those that leave fewest -/
def Best (s : Sd) (seen : Int → Nat → Prop) (z : Lk × Int) : Prop :=
  (z = ((0, 0, false), siz (s.lo, s.hi)) ∧ ∀ m p, ¬ seen m p) ∨
  ∃ (m : Int) (p : Nat), z = ((m, (p : Int), true), askMost s m p) ∧ seen m p ∧ ∀ m' p', seen m' p' → askMost s m p ≤ askMost s m' p' ∧ (askMost s m p = askMost s m' p' → m < m' ∨ m = m' ∧ p ≤ p')

theorem Best.one {s : Sd} {seen seen' : Int → Nat → Prop} {z : Lk × Int} {m : Int} {p : Nat} (h : Best s seen z) (h1 : ∀ m' p', seen' m' p' ↔ seen m' p' ∨ m' = m ∧ p' = p) (h2 : ∀ m' p', seen m' p' → m' < m ∨ m' = m ∧ p' < p) :
    Best s seen' (askOne s m z p) := by
  rcases h with ⟨rfl, h0⟩ | ⟨m0, p0, rfl, hs, hb⟩
  · unfold askOne
    rw [if_pos (Or.inl rfl)]
    refine .inr ⟨m, p, rfl, (h1 _ _).2 (.inr ⟨rfl, rfl⟩), fun m' p' h => ?_⟩
    rcases (h1 _ _).1 h with h | ⟨rfl, rfl⟩
    · exact absurd h (h0 _ _)
    · exact ⟨Int.le_refl _, fun _ => .inr ⟨rfl, Nat.le_refl _⟩⟩
  · unfold askOne
    by_cases hc : askMost s m p < askMost s m0 p0
    · rw [if_pos (Or.inr hc)]
      refine .inr ⟨m, p, rfl, (h1 _ _).2 (.inr ⟨rfl, rfl⟩), fun m' p' h => ?_⟩
      rcases (h1 _ _).1 h with h | ⟨rfl, rfl⟩
      · have := (hb m' p' h).1
        exact ⟨by omega, fun e => by omega⟩
      · exact ⟨Int.le_refl _, fun _ => .inr ⟨rfl, Nat.le_refl _⟩⟩
    · rw [if_neg (fun h => by rcases h with h | h <;> first | (exact hc h) | (exact absurd (congrArg (fun t => t.2.2) h) (by simp)))]
      refine .inr ⟨m0, p0, rfl, (h1 _ _).2 (.inl hs), fun m' p' h => ?_⟩
      rcases (h1 _ _).1 h with h | ⟨rfl, rfl⟩
      · exact hb m' p' h
      · have := h2 m0 p0 hs
        exact ⟨by omega, fun _ => by omega⟩

theorem askRow_best {s : Sd} {seen : Int → Nat → Prop} {z : Lk × Int} {m : Int} (h : Best s seen z) (h2 : ∀ m' p', seen m' p' → m' < m) : ∀ k, Best s (fun m' p' => seen m' p' ∨ m' = m ∧ p' < k) (askRow s m z k)
  | 0 => by
    have : (fun m' p' => seen m' p' ∨ m' = m ∧ p' < 0) = seen := by funext a b; simp
    rw [this]; exact h
  | k + 1 => by
    refine (askRow_best h h2 k).one (fun m' p' => ?_) (fun m' p' h => ?_)
    · constructor
      · rintro (h | ⟨h, h'⟩)
        · exact .inl (.inl h)
        · by_cases e : p' = k
          · exact .inr ⟨h, e⟩
          · exact .inl (.inr ⟨h, by omega⟩)
      · rintro ((h | ⟨h, h'⟩) | ⟨h, h'⟩)
        · exact .inl h
        · exact .inr ⟨h, by omega⟩
        · exact .inr ⟨h, by omega⟩
    · rcases h with h | ⟨h, h'⟩
      · exact .inl (h2 _ _ h)
      · exact .inr ⟨h, h'⟩

theorem askAll_best (s : Sd) : ∀ k : Nat, Best s (fun m' p' => firstM s.table ≤ m' ∧ m' < firstM s.table + k ∧ p' < s.floors.length) (askAll s k)
  | 0 => .inl ⟨rfl, fun m p h => by omega⟩
  | k + 1 => by
    have h := askRow_best (m := firstM s.table + k) (askAll_best s k) (fun m' p' h => h.2.1) s.floors.length
    have e : (fun m' p' => (firstM s.table ≤ m' ∧ m' < firstM s.table + (k : Int) ∧ p' < s.floors.length) ∨ m' = firstM s.table + (k : Int) ∧ p' < s.floors.length) = (fun m' p' => firstM s.table ≤ m' ∧ m' < firstM s.table + ((k + 1 : Nat) : Int) ∧ p' < s.floors.length) := by
      funext a b
      apply propext
      constructor
      · rintro (⟨h1, h2, h3⟩ | ⟨h1, h2⟩)
        · exact ⟨h1, by omega, h3⟩
        · exact ⟨by omega, by omega, h2⟩
      · rintro ⟨h1, h2, h3⟩
        by_cases e : a = firstM s.table + k
        · exact .inr ⟨e, h3⟩
        · exact .inl ⟨h1, by omega, h3⟩
    rw [e] at h
    exact h

theorem siz_wind {s : Sd} (ok : Ok s) : siz (s.lo, s.hi) = s.hi - s.lo + 1 := by
  have := ok.lohi
  unfold siz
  dsimp only
  omega
/-- a look and its contrary part the truths -/
theorem siz_part {s : Sd} (ok : Ok s) (m p : Int) : siz (truV s (m, p, true)) + siz (truV s (m, p, false)) = siz (s.lo, s.hi) := by
  have b0 := ok.lo0
  have b1 := ok.hi1
  have b2 := ok.lohi
  rw [siz_wind ok]
  unfold truV siz com
  simp only [if_pos, Bool.false_eq_true, if_false]
  omega
theorem siz_nonneg (a : Int × Int) : 0 ≤ siz a := by unfold siz; omega
theorem truV_com {s : Sd} (x : Lk) : com (s.lo, s.hi) (truV s x) = truV s x := by
  unfold truV com
  split <;> (refine Prod.ext ?_ ?_ <;> dsimp only <;> omega)
theorem truV_in {s : Sd} (x : Lk) : s.lo ≤ (truV s x).1 ∧ (truV s x).2 ≤ s.hi := by
  unfold truV com
  split <;> dsimp only <;> omega
theorem askMost_two {s : Sd} (ok : Ok s) (m : Int) (p : Nat) : askMost s m p = max (siz (truV s (m, (p : Int), true))) (siz (truV s (m, (p : Int), false))) := by
  have := siz_part ok m p
  unfold askMost
  rw [show siz (s.lo, s.hi) - siz (truV s (m, (p : Int), true)) = siz (truV s (m, (p : Int), false)) by omega]
theorem ask_best {s : Sd} (ok : Ok s) : ∃ m p, askAll s (dayN s) = ((m, ((p : Nat) : Int), true), askMost s m p) ∧ inDay s m = true ∧ p < s.floors.length ∧
    ∀ m' p', inDay s m' = true → p' < s.floors.length → askMost s m p ≤ askMost s m' p' ∧ (askMost s m p = askMost s m' p' → m < m' ∨ m = m' ∧ p ≤ p') := by
  obtain ⟨f0, f1, f2⟩ := firstM_lt ok.table
  have hn : ((dayN s : Nat) : Int) = lastM s.table - firstM s.table + 1 := by unfold dayN; omega
  have hfl := ok.fl0
  rcases askAll_best s (dayN s) with ⟨-, h⟩ | ⟨m, p, h1, ⟨h2, h3, h4⟩, h5⟩
  · exact absurd ⟨Int.le_refl _, by omega, hfl⟩ (h (firstM s.table) 0)
  · refine ⟨m, p, h1, inB_true.2 ⟨h2, by omega⟩, h4, fun m' p' hm hp => h5 m' p' ?_⟩
    obtain ⟨i1, i2⟩ := inB_true.1 hm
    exact ⟨i1, by omega, hp⟩
theorem looks_one {s : Sd} (ok : Ok s) {m : Int} (hm : inDay s m = true) {p : Nat} (hp : p < s.floors.length) (b : Bool) :
    looksE s [(m, (p : Int), b)] = (if siz (truV s (m, (p : Int), b)) = 0 then 7 else 0) ∧ looksV s [(m, (p : Int), b)] = (if siz (truV s (m, (p : Int), b)) = 0 then (0, 0) else truV s (m, (p : Int), b)) := by
  have e1 : errLooks s [(m, (p : Int), b)] = 0 := by
    unfold errLooks
    rw [if_pos (chk_zero ok), if_neg (by simp)]
    simp only [lkErr]
    rw [hm, show isPl s (p : Int) = true from inB_true.2 ⟨by omega, by omega⟩]
    rfl
  have e2 : lkOf s (s.lo, s.hi) [(m, (p : Int), b)] = truV s (m, (p : Int), b) := by
    unfold lkOf
    simp only [List.foldl_cons, List.foldl_nil]
    exact truV_com _
  have e3 : looksE s [(m, (p : Int), b)] = (if siz (truV s (m, (p : Int), b)) = 0 then 7 else 0) := by
    unfold looksE
    rw [if_pos e1, e2]
  refine ⟨e3, ?_⟩
  unfold looksV
  rw [e3, e2]
  split
  · rw [if_neg (by decide)]
  · rw [if_pos rfl]
end
end Go.Proofs.Ytcljkkojeleakaa
/- The look that settles most: what the layer's search returns. -/
namespace Go.Proofs.Ytcljkkojeleakaa
open Go.RowKit Go.Shelf

def lkc (x : Lk) : List Value := [.int .i64 x.1, .int .i64 x.2.1, .bool x.2.2]
/-- none yet, or one that was wet -/
def AskOr (z : Lk × Int) : Prop := z.1 = (0, 0, false) ∨ z.1.2.2 = true
theorem askOne_or {s : Sd} {m : Int} {z : Lk × Int} {p : Nat} (h : AskOr z) : AskOr (askOne s m z p) := by
  unfold askOne
  split
  · exact .inr rfl
  · exact h
theorem askRow_or {s : Sd} {m : Int} {z : Lk × Int} (h : AskOr z) : ∀ k, AskOr (askRow s m z k)
  | 0 => h
  | k + 1 => askOne_or (askRow_or h k)
theorem askAll_or (s : Sd) : ∀ k, AskOr (askAll s k)
  | 0 => .inl rfl
  | k + 1 => askRow_or (askAll_or s k) _
theorem askMost_rng {s : Sd} (ok : Ok s) (m : Int) (p : Nat) : 0 ≤ askMost s m p ∧ askMost s m p ≤ 101 ∧ 0 ≤ siz (truV s (m, (p : Int), true)) ∧ siz (truV s (m, (p : Int), true)) ≤ 101 ∧ 0 ≤ siz (s.lo, s.hi) ∧ siz (s.lo, s.hi) ≤ 101 := by
  have h1 := siz_part ok m p
  have h2 := siz_wind ok
  have h3 := siz_nonneg (truV s (m, (p : Int), true))
  have h4 := siz_nonneg (truV s (m, (p : Int), false))
  have b0 := ok.lo0
  have b1 := ok.hi1
  unfold askMost
  omega
theorem askOne_rng {s : Sd} (ok : Ok s) {m : Int} {z : Lk × Int} {p : Nat} (h : 0 ≤ z.2 ∧ z.2 ≤ 101) : 0 ≤ (askOne s m z p).2 ∧ (askOne s m z p).2 ≤ 101 := by
  have := askMost_rng ok m p
  unfold askOne
  split
  · exact ⟨this.1, this.2.1⟩
  · exact h
theorem askRow_rng {s : Sd} (ok : Ok s) {m : Int} {z : Lk × Int} (h : 0 ≤ z.2 ∧ z.2 ≤ 101) : ∀ k, 0 ≤ (askRow s m z k).2 ∧ (askRow s m z k).2 ≤ 101
  | 0 => h
  | k + 1 => askOne_rng ok (askRow_rng ok h k)
theorem askAll_rng {s : Sd} (ok : Ok s) : ∀ k, 0 ≤ (askAll s k).2 ∧ (askAll s k).2 ≤ 101
  | 0 => by have := askMost_rng ok 0 0; exact ⟨this.2.2.2.2.1, this.2.2.2.2.2⟩
  | k + 1 => askRow_rng ok (askAll_rng ok k) _
section
variable {pT pF pS : Option Addr} {cT cF cS : Nat}
theorem size_t {a : Int × Int} (h : Near a) (w : World) : Calls Try.prog 117 #[.agg #[.int .i64 a.1, .int .i64 a.2]] w fun e w' => e = .returned (.int .i64 (siz a)) ∧ Up w w' := by
  obtain ⟨h1, h2, h3, h4⟩ := h
  exact size_c a.1 a.2 w (by omega) (by omega) (by omega) (by omega)
theorem wind_near {s : Sd} (ok : Ok s) : Near (s.lo, s.hi) := by have b0 := ok.lo0; have b1 := ok.hi1; have b2 := ok.lohi; exact ⟨by dsimp only; omega, by dsimp only; omega, by dsimp only; omega, by dsimp only; omega⟩

set_option maxRecDepth 100000 in
set_option maxHeartbeats 2000000 in
theorem ask_c (bw : Nat) (s : Sd) (w : World) (hw : IsWork w bw s pT pF pS cT cF cS) (ok : Ok s) :
    Calls Try.prog 118 #[.pointer (some ⟨bw, 0, none⟩)] w fun e w' => e = .returned (.tuple #[.agg #[.int .i64 (askAll s (dayN s)).1.1, .int .i64 (askAll s (dayN s)).1.2.1, .bool (askAll s (dayN s)).1.2.2], .int .i64 (askAll s (dayN s)).2]) ∧ Up w w' := by
  obtain ⟨hf0, hfl, hl9⟩ := firstM_lt ok.table
  obtain ⟨-, -, ht2, ht12⟩ := ok.table
  have hn : ((dayN s : Nat) : Int) = lastM s.table - firstM s.table + 1 := by unfold dayN; omega
  have hn9 : dayN s ≤ 1441 := by omega
  have s1 : IntKind.i64.wrap (lastM s.table - firstM s.table) = lastM s.table - firstM s.table := IntWalk.i64_in _ (by omega)
  have s2 : IntKind.i64.wrap (lastM s.table - firstM s.table + 1) = (dayN s : Nat) := by rw [IntWalk.i64_in _ (by omega)]; omega
  have hf8 := ok.fl1
  have HFI := Lib.hid (fun W (u : Up w W) => first_c bw s W (hw.sands.up u) ht2)
  have HLA := Lib.hid (fun W (u : Up w W) => last_c bw s W (hw.sands.up u) ht2 ht12)
  have HTR := Lib.hid (fun m (p : Nat) W (u : Up w W) (hm : firstM s.table ≤ m) (hp : p < 8) => truths_c bw s m p true W (hw.up u) ok hm hp)
  have hsz0 := fun W => size_t (w := W) (wind_near ok)
  obtain ⟨al, hal⟩ : ∃ al, siz (s.lo, s.hi) = al := ⟨_, rfl⟩
  rw [hal] at hsz0
  have HSZ := Lib.hid hsz0
  have HAL := Lib.hid hal
  clear hsz0 hal
  have OK := Lib.hid ok
  have q1 := hw.sands.s1
  have q2 := hw.sands.s2
  have q3 := hw.sands.s3
  have lb := cell_lt q1
  clear hw ok
  go_enter Try.func118, Try.ntmps118
  go_wp2_with fail
  refine Calls.world ?_
  intro w0 hw0
  have u0 : Up w w0 := by rw [hw0]; (repeat (first | exact Below.refl _ _ | (with_reducible refine Below.drewN' ?_ _) | (with_reducible refine Below.drew ?_) | (with_reducible refine Below.setCell ?_ (by first | exact Nat.le_refl _ | omega | (with_reducible (repeat (first | refine sz_alloc ?_ | refine sz_setCell ?_ | refine sz_drew ?_ | refine sz_drewN ?_)); first | exact Nat.le_refl _ | omega) | (simp only [World.size_alloc, World.size_setCell, World.size_drew, size_drewN']; omega)) _) | (with_reducible refine Below.alloc ?_ (by first | exact Nat.le_refl _ | omega | (with_reducible (repeat (first | refine sz_alloc ?_ | refine sz_setCell ?_ | refine sz_drew ?_ | refine sz_drewN ?_)); first | exact Nat.le_refl _ | omega) | (simp only [World.size_alloc, World.size_setCell, World.size_drew, size_drewN']; omega)) _) | assumption))
  have hR : Blk w0 w.heap.size [.int .i64 0, .int .i64 0, .bool false] 80 := by rw [hw0]; exact Blk.new _ _ _
  clear hw0
  refine (HSZ.out w0).mono ?_
  rintro e w1 ⟨rfl, u1⟩
  have U1 := Lib.hid (Up.trans u0 u1)
  have R1 := Lib.hid (hR.up u1)
  have lR := R1.out.lt
  clear u0 u1 hR
  go_wp2_with fail
  refine Calls.world ?_
  intro w2 hw2
  have u2 : Up w1 w2 := by rw [hw2]; (repeat (first | exact Below.refl _ _ | (with_reducible refine Below.drewN' ?_ _) | (with_reducible refine Below.drew ?_) | (with_reducible refine Below.setCell ?_ (by first | exact Nat.le_refl _ | omega | (with_reducible (repeat (first | refine sz_alloc ?_ | refine sz_setCell ?_ | refine sz_drew ?_ | refine sz_drewN ?_)); first | exact Nat.le_refl _ | omega) | (simp only [World.size_alloc, World.size_setCell, World.size_drew, size_drewN']; omega)) _) | (with_reducible refine Below.alloc ?_ (by first | exact Nat.le_refl _ | omega | (with_reducible (repeat (first | refine sz_alloc ?_ | refine sz_setCell ?_ | refine sz_drew ?_ | refine sz_drewN ?_)); first | exact Nat.le_refl _ | omega) | (simp only [World.size_alloc, World.size_setCell, World.size_drew, size_drewN']; omega)) _) | assumption))
  have hB : Blk w2 w1.heap.size [.int .i64 0, .int .i64 0, .bool false] 80 := by rw [hw2]; exact Blk.new _ _ _
  clear hw2
  refine (HLA.out w2 (Up.trans U1.out u2)).mono ?_
  rintro e w3 ⟨rfl, u3⟩
  have U3 := Lib.hid (Up.trans U1.out (Up.trans u2 u3))
  have R3 := Lib.hid (R1.out.up (Up.trans u2 u3))
  have B3 := Lib.hid (hB.up u3)
  clear u2 u3 hB U1 R1
  go_wp2_with fail
  refine (HFI.out w3 U3.out).mono ?_
  rintro e w4 ⟨rfl, u4⟩
  have U4 := Lib.hid (Up.trans U3.out u4)
  have R4 := Lib.hid (R3.out.up u4)
  have B4 := Lib.hid (B3.out.up u4)
  clear u4 U3 R3 B3
  obtain ⟨Bb, hBb⟩ : ∃ Bb, w1.heap.size = Bb := ⟨_, rfl⟩
  rw [hBb] at B4 lR ⊢
  clear hBb w1
  go_wp2_with fail
  rw [← hn]
  obtain ⟨n, hnn⟩ : ∃ n, dayN s = n := ⟨_, rfl⟩
  obtain ⟨a, ha⟩ : ∃ a, firstM s.table = a := ⟨_, rfl⟩
  rw [hnn] at hn hn9
  rw [ha] at hn hf0 hfl HFI HTR
  have HQ := Lib.hid (show lastM s.table = a + n - 1 by omega)
  have HL9 := Lib.hid hl9
  have HA := Lib.hid ha
  have HN := Lib.hid hnn
  simp only [hnn]
  clear s1 s2 hn hnn ha hfl hl9
  go_loopw [25, 6] (fun i f wr => ∃ k : Nat, k ≤ n ∧ i = .int .i64 k ∧ f = .int .i64 (askAll s k).2 ∧ Blk wr Bb (lkc (askAll s k).1) 80 ∧ Blk wr w.heap.size [.int .i64 0, .int .i64 0, .bool false] 80 ∧ Up w wr) (fun i _ _ => n - (intOf i).toNat)
  case atStart => exact ⟨0, Nat.zero_le _, rfl, by rw [← HAL.out]; rfl, B4.out, R4.out, U4.out⟩
  case round =>
    obtain ⟨k, hk, rfl, rfl, hb, hr, hu⟩ := hrel
    have HB := Lib.hid hb
    have HR := Lib.hid hr
    have HU := Lib.hid hu
    have q3' := hu.cellAt q3
    have lb' := cell_lt q3'
    clear hb hr hu
    by_cases hlt : k < n
    · have k1 : (k : Int) < n := by omega
      have b1 : a + k ≤ 1441 := by have := HL9.out; have := HQ.out; omega
      have hz := askAll_or s k
      have hzr := askAll_rng OK.out k
      have HE := Lib.hid (show askAll s (k + 1) = askRow s (a + k) (askAll s k) s.floors.length by rw [← HA.out]; rfl)
      generalize askAll s k = z at *
      have HZ := Lib.hid hz
      have HZR := Lib.hid hzr
      clear hz hzr
      go_wp2_with fail
      go_loopw [34, 6] (fun j f wy => ∃ p : Nat, p ≤ s.floors.length ∧ j = .int .i64 p ∧ f = .int .i64 (askRow s (a + k) z p).2 ∧ Blk wy Bb (lkc (askRow s (a + k) z p).1) 80 ∧ Blk wy w.heap.size [.int .i64 0, .int .i64 0, .bool false] 80 ∧ Up w wy) (fun j _ _ => s.floors.length - (intOf j).toNat)
      case atStart => exact ⟨0, Nat.zero_le _, rfl, rfl, HB.out, HR.out, HU.out⟩
      case round =>
        obtain ⟨p, hp, rfl, rfl, hb, hr, hu⟩ := hrel
        have Hb := Lib.hid hb
        have Hr := Lib.hid hr
        have Hu := Lib.hid hu
        clear hb hr hu
        by_cases hlp : p < s.floors.length
        · have p1 : (p : Int) < s.floors.length := by omega
          have hz := askRow_or (s := s) (m := a + k) HZ.out p
          have hzr := askRow_rng OK.out (m := a + k) HZR.out p
          have HE2 := Lib.hid (show askRow s (a + k) z (p + 1) = askOne s (a + k) (askRow s (a + k) z p) p from rfl)
          generalize askRow s (a + k) z p = y at *
          obtain ⟨⟨ym, yp, yw⟩, yn⟩ := y
          dsimp only at hzr
          have HY := Lib.hid hz
          have mr := askMost_rng OK.out (a + k) p
          rw [HAL.out] at mr
          have NT := Lib.hid (truV_near OK.out (a + k, (p : Int), true) (by rw [HA.out]; show a ≤ a + (k : Int); omega))
          have MS := Lib.hid (show askMost s (a + k) p = max (siz (truV s (a + k, (p : Int), true))) (al - siz (truV s (a + k, (p : Int), true))) by rw [← HAL.out]; rfl)
          have HT := Lib.hid (fun W (u : Up w W) => HTR.out (a + k) p W u (by omega) (by omega))
          generalize truV s (a + k, (p : Int), true) = tv at *
          clear hz
          have s3 : IntKind.i64.wrap (a + k) = a + k := IntWalk.i64_in _ (by omega)
          go_wp2_with fail
          refine (HFI.out _ Hu.out).mono ?_
          rintro e w5 ⟨rfl, u5⟩
          have U5 := Lib.hid (Up.trans Hu.out u5)
          have R5 := Lib.hid (Hr.out.up u5)
          have B5 := Lib.hid (Hb.out.up u5)
          clear u5 Hu Hr Hb
          go_wp2_with fail
          refine Calls.world ?_
          intro w6 hw6
          have u6 : Up w5 w6 := by rw [hw6]; (repeat (first | exact Below.refl _ _ | (with_reducible refine Below.drewN' ?_ _) | (with_reducible refine Below.drew ?_) | (with_reducible refine Below.setCell ?_ (by first | exact Nat.le_refl _ | omega | (with_reducible (repeat (first | refine sz_alloc ?_ | refine sz_setCell ?_ | refine sz_drew ?_ | refine sz_drewN ?_)); first | exact Nat.le_refl _ | omega) | (simp only [World.size_alloc, World.size_setCell, World.size_drew, size_drewN']; omega)) _) | (with_reducible refine Below.alloc ?_ (by first | exact Nat.le_refl _ | omega | (with_reducible (repeat (first | refine sz_alloc ?_ | refine sz_setCell ?_ | refine sz_drew ?_ | refine sz_drewN ?_)); first | exact Nat.le_refl _ | omega) | (simp only [World.size_alloc, World.size_setCell, World.size_drew, size_drewN']; omega)) _) | assumption))
          have L6 : Blk w6 w5.heap.size [.int .i64 (a + k), .int .i64 p, .bool true] 80 := by rw [hw6]; exact Blk.new _ _ _
          clear hw6
          refine (HT.out w6 (Up.trans U5.out u6)).mono ?_
          rintro e w7 ⟨rfl, u7⟩
          go_wp2_with fail
          refine (size_t NT.out w7).mono ?_
          rintro e w8 ⟨rfl, u8⟩
          have L8 := Lib.hid (L6.up (Up.trans u7 u8))
          have U8 := Lib.hid (Up.trans U5.out (Up.trans u6 (Up.trans u7 u8)))
          have R8 := Lib.hid (R5.out.up (Up.trans u6 (Up.trans u7 u8)))
          have B8 := Lib.hid (B5.out.up (Up.trans u6 (Up.trans u7 u8)))
          have sz5 : w5.heap.size ≠ Bb := by have := B5.out.lt; omega
          clear u6 u7 u8 L6 U5 R5 B5 HT NT s3
          generalize siz tv = g at *
          obtain ⟨X, hX⟩ : ∃ X, w5.heap.size = X := ⟨_, rfl⟩
          rw [hX] at L8 sz5 ⊢
          clear hX w5 w6 w7
          have s4 : IntKind.i64.wrap (al - g) = al - g := IntWalk.i64_in _ (by omega)
          have x0 := L8.out.cell 0
          have x1 := L8.out.cell 1
          have x2 := L8.out.cell 2
          have y0 := B8.out.cell 0
          have y1 := B8.out.cell 1
          have y2 := B8.out.cell 2
          have yf := B8.out.free
          have yl := B8.out.lt
          simp only [lkc, List.getElem?_cons_zero, List.getElem?_cons_succ] at x0 x1 x2 y0 y1 y2
          by_cases hm : g < al - g
          · have MM := Lib.hid (show askMost s (a + k) p = al - g by rw [MS.out]; omega)
            rcases HY.out with hy | hy
            · simp only [Prod.mk.injEq] at hy
              obtain ⟨rfl, rfl, rfl⟩ := hy
              have HE3 := Lib.hid (show askRow s (a + k) z (p + 1) = ((a + k, (p : Int), true), al - g) by rw [HE2.out]; unfold askOne; rw [if_pos (.inl rfl), MM.out])
              go_wp2_with fail
              go_roundw
              case rel =>
                refine ⟨p + 1, by omega, by go_num, by rw [HE3.out], ?_, (R8.out.other (by simp only []; omega) _ |>.other (by simp only []; omega) _).other (by simp only []; omega) _, ((U8.out.setCell (by simp only []; omega) _).setCell (by simp only []; omega) _).setCell (by simp only []; omega) _⟩
                rw [HE3.out]
                have h := ((B8.out.set 0 (.int .i64 (a + k))).set 1 (.int .i64 p)).set 2 (.bool true)
                simpa only [lkc, List.set_cons_zero, List.set_cons_succ] using h
              case measure => simp [intOf]; omega
            · have hy' : yw = true := hy
              subst hy'
              by_cases hc : al - g < yn
              · have HE3 := Lib.hid (show askRow s (a + k) z (p + 1) = ((a + k, (p : Int), true), al - g) by rw [HE2.out]; unfold askOne; rw [MM.out, if_pos (.inr hc)])
                go_wp2_with fail
                go_roundw
                case rel =>
                  refine ⟨p + 1, by omega, by go_num, by rw [HE3.out], ?_, (R8.out.other (by simp only []; omega) _ |>.other (by simp only []; omega) _).other (by simp only []; omega) _, ((U8.out.setCell (by simp only []; omega) _).setCell (by simp only []; omega) _).setCell (by simp only []; omega) _⟩
                  rw [HE3.out]
                  have h := ((B8.out.set 0 (.int .i64 (a + k))).set 1 (.int .i64 p)).set 2 (.bool true)
                  simpa only [lkc, List.set_cons_zero, List.set_cons_succ] using h
                case measure => simp [intOf]; omega
              · have HE3 := Lib.hid (show askRow s (a + k) z (p + 1) = ((ym, yp, true), yn) by rw [HE2.out]; unfold askOne; rw [MM.out, if_neg (fun h => by rcases h with h | h <;> first | (exact hc h) | (exact absurd (congrArg (fun t => t.2.2) h) (by simp)))])
                go_wp2_with fail
                go_roundw
                case rel => exact ⟨p + 1, by omega, by go_num, by rw [HE3.out], by rw [HE3.out]; exact B8.out, R8.out, U8.out⟩
                case measure => simp [intOf]; omega
          · have MM := Lib.hid (show askMost s (a + k) p = g by rw [MS.out]; omega)
            rcases HY.out with hy | hy
            · simp only [Prod.mk.injEq] at hy
              obtain ⟨rfl, rfl, rfl⟩ := hy
              have HE3 := Lib.hid (show askRow s (a + k) z (p + 1) = ((a + k, (p : Int), true), g) by rw [HE2.out]; unfold askOne; rw [if_pos (.inl rfl), MM.out])
              go_wp2_with fail
              go_roundw
              case rel =>
                refine ⟨p + 1, by omega, by go_num, by rw [HE3.out], ?_, (R8.out.other (by simp only []; omega) _ |>.other (by simp only []; omega) _).other (by simp only []; omega) _, ((U8.out.setCell (by simp only []; omega) _).setCell (by simp only []; omega) _).setCell (by simp only []; omega) _⟩
                rw [HE3.out]
                have h := ((B8.out.set 0 (.int .i64 (a + k))).set 1 (.int .i64 p)).set 2 (.bool true)
                simpa only [lkc, List.set_cons_zero, List.set_cons_succ] using h
              case measure => simp [intOf]; omega
            · have hy' : yw = true := hy
              subst hy'
              by_cases hc : g < yn
              · have HE3 := Lib.hid (show askRow s (a + k) z (p + 1) = ((a + k, (p : Int), true), g) by rw [HE2.out]; unfold askOne; rw [MM.out, if_pos (.inr hc)])
                go_wp2_with fail
                go_roundw
                case rel =>
                  refine ⟨p + 1, by omega, by go_num, by rw [HE3.out], ?_, (R8.out.other (by simp only []; omega) _ |>.other (by simp only []; omega) _).other (by simp only []; omega) _, ((U8.out.setCell (by simp only []; omega) _).setCell (by simp only []; omega) _).setCell (by simp only []; omega) _⟩
                  rw [HE3.out]
                  have h := ((B8.out.set 0 (.int .i64 (a + k))).set 1 (.int .i64 p)).set 2 (.bool true)
                  simpa only [lkc, List.set_cons_zero, List.set_cons_succ] using h
                case measure => simp [intOf]; omega
              · have HE3 := Lib.hid (show askRow s (a + k) z (p + 1) = ((ym, yp, true), yn) by rw [HE2.out]; unfold askOne; rw [MM.out, if_neg (fun h => by rcases h with h | h <;> first | (exact hc h) | (exact absurd (congrArg (fun t => t.2.2) h) (by simp)))])
                go_wp2_with fail
                go_roundw
                case rel => exact ⟨p + 1, by omega, by go_num, by rw [HE3.out], by rw [HE3.out]; exact B8.out, R8.out, U8.out⟩
                case measure => simp [intOf]; omega
        · obtain rfl : p = s.floors.length := by omega
          go_wp2_with fail
          go_roundw
          case rel => exact ⟨k + 1, by omega, by go_num, by rw [HE.out], by rw [HE.out]; exact Hb.out, Hr.out, Hu.out⟩
          case measure => simp [intOf]; omega
    · obtain rfl : k = n := by omega
      have y0 := HB.out.cell 0
      have y1 := HB.out.cell 1
      have y2 := HB.out.cell 2
      have r0 := HR.out.cell 0
      have r1 := HR.out.cell 1
      have r2 := HR.out.cell 2
      have rf := HR.out.free
      have rl := HR.out.lt
      generalize hz : askAll s k = z at *
      obtain ⟨⟨zm, zp, zw⟩, zn⟩ := z
      have HZ0 := Lib.hid hz
      clear hz
      simp only [lkc, List.getElem?_cons_zero, List.getElem?_cons_succ] at y0 y1 y2 r0 r1 r2
      go_wp2_with fail
      have h := ((HR.out.set 0 (.int .i64 zm)).set 1 (.int .i64 zp)).set 2 (.bool zw)
      have p0 := h.cell 0
      have p1 := h.cell 1
      have p2 := h.cell 2
      simp only [List.set_cons_zero, List.set_cons_succ, List.getElem?_cons_zero, List.getElem?_cons_succ] at p0 p1 p2
      have pl := h.lt
      refine bodyPost_ret (v := .tuple #[.agg #[.int .i64 zm, .int .i64 zp, .bool zw], .int .i64 zn]) (by simp [results, Try.f118, go_sem, p0, p1, p2]) rfl ⟨by rw [HN.out, HZ0.out], ?_⟩
      exact ((HU.out.setCell (by simp only []; omega) _).setCell (by simp only []; omega) _).setCell (by simp only []; omega) _

set_option maxRecDepth 100000 in
set_option maxHeartbeats 1000000 in
theorem Ask_c (s : Sd) (w : World) (hl : Lists w s pT pF pS cT cF cS) :
    Calls Try.prog 48 #[sdVal s pT pF pS cT cF cS] w fun e w' => e = .returned (.tuple #[.agg #[.int .i64 (askV s).1.1, .int .i64 (askV s).1.2.1, .bool (askV s).1.2.2], .int .i64 (askV s).2, .int .i64 (askE s)]) ∧ Up w w' := by
  have HC := Lib.hid (fun W (u : Up w W) => begin_c s W pT pF pS cT cF cS (hl.up u))
  clear hl
  by_cases hc : chk s = 0
  · have OK := Lib.hid (chk_ok hc)
    have HE := Lib.hid (show askE s = if siz (s.lo, s.hi) = 1 then 6 else 0 by unfold askE; rw [if_pos hc])
    rw [hc] at HC
    clear hc
    unfold sdVal at *
    go_enter Try.func48, Try.ntmps48
    go_wp2_with fail
    refine Calls.world ?_
    intro w0 hw0
    have u0 : Up w w0 := by rw [hw0]; (repeat (first | exact Below.refl _ _ | (with_reducible refine Below.drewN' ?_ _) | (with_reducible refine Below.drew ?_) | (with_reducible refine Below.setCell ?_ (by first | exact Nat.le_refl _ | omega | (with_reducible (repeat (first | refine sz_alloc ?_ | refine sz_setCell ?_ | refine sz_drew ?_ | refine sz_drewN ?_)); first | exact Nat.le_refl _ | omega) | (simp only [World.size_alloc, World.size_setCell, World.size_drew, size_drewN']; omega)) _) | (with_reducible refine Below.alloc ?_ (by first | exact Nat.le_refl _ | omega | (with_reducible (repeat (first | refine sz_alloc ?_ | refine sz_setCell ?_ | refine sz_drew ?_ | refine sz_drewN ?_)); first | exact Nat.le_refl _ | omega) | (simp only [World.size_alloc, World.size_setCell, World.size_drew, size_drewN']; omega)) _) | assumption))
    have hR : Blk w0 (w.heap.size + 1) [.int .i64 0, .int .i64 0, .bool false] 80 := by rw [hw0]; exact Blk.new' _ [.int .i64 0, .int .i64 0, .bool false] _ (by simp)
    clear hw0
    refine (HC.out _ u0).mono ?_
    rintro e w1 ⟨p, rfl, u1, hok⟩
    obtain ⟨bw, rfl, hW⟩ := hok rfl
    have U1 := Lib.hid (Up.trans u0 u1)
    have HW := Lib.hid hW
    have HB := Lib.hid (hR.up u1)
    have d1 := hW.sands.s1
    have d2 := hW.sands.s2
    clear hok hW u1 u0 HC hR
    go_wp2_with fail
    refine (size_t (wind_near OK.out) _).mono ?_
    rintro e w2 ⟨rfl, u2⟩
    have U2 := Lib.hid (Up.trans U1.out u2)
    have HW2 := Lib.hid (HW.out.up u2)
    have hB := HB.out.up u2
    have q0 := hB.cell 0
    have q1 := hB.cell 1
    have q2 := hB.cell 2
    have fr := hB.free
    have lB := hB.lt
    simp only [List.getElem?_cons_zero, List.getElem?_cons_succ] at q0 q1 q2
    have HB2 := Lib.hid hB
    clear hB u2 d1 d2 HB HW U1
    by_cases h1 : siz (s.lo, s.hi) = 1
    · have HV := Lib.hid (show askV s = ((0, 0, false), 0) by unfold askV; rw [HE.out, if_pos h1, if_neg (by decide)])
      rw [if_pos h1] at HE
      go_wp2_with fail
      have h := ((HB2.out.set 0 (.int .i64 0)).set 1 (.int .i64 0)).set 2 (.bool false)
      have p0 := h.cell 0
      have p1 := h.cell 1
      have p2 := h.cell 2
      simp only [List.set_cons_zero, List.set_cons_succ, List.getElem?_cons_zero, List.getElem?_cons_succ] at p0 p1 p2
      refine bodyPost_ret (v := .tuple #[.agg #[.int .i64 0, .int .i64 0, .bool false], .int .i64 0, .int .i64 6]) (by simp [results, Try.f48, go_sem, p0, p1, p2]) rfl ⟨by rw [HV.out, HE.out], ?_⟩
      exact ((U2.out.setCell (by simp only []; omega) _).setCell (by simp only []; omega) _).setCell (by simp only []; omega) _
    · have HV := Lib.hid (show askV s = askAll s (dayN s) by unfold askV; rw [HE.out, if_neg h1, if_pos rfl])
      rw [if_neg h1] at HE
      have h1' : (siz (s.lo, s.hi) == 1) = false := by simpa using h1
      go_wp2_with fail
      refine (ask_c bw s _ HW2.out OK.out).mono ?_
      rintro e w3 ⟨rfl, u3⟩
      rw [← HV.out]
      generalize hz : askV s = z at *
      obtain ⟨⟨zm, zp, zw⟩, zn⟩ := z
      have U3 := Lib.hid (Up.trans U2.out u3)
      have hB := HB2.out.up u3
      have q0' := hB.cell 0
      have q1' := hB.cell 1
      have q2' := hB.cell 2
      have fr' := hB.free
      have lB' := hB.lt
      simp only [List.getElem?_cons_zero, List.getElem?_cons_succ] at q0' q1' q2'
      have HB3 := Lib.hid hB
      have HZ := Lib.hid hz
      clear hB u3 q0 q1 q2 fr HV hz
      go_wp2_with fail
      have h := (((HB3.out.set 0 (.int .i64 zm)).set 1 (.int .i64 zp)).set 2 (.bool zw)).alloc (.cells #[.int .i64 zm, .int .i64 zp, .bool zw] 80)
      have p0 := h.cell 0
      have p1 := h.cell 1
      have p2 := h.cell 2
      simp only [List.set_cons_zero, List.set_cons_succ, List.getElem?_cons_zero, List.getElem?_cons_succ] at p0 p1 p2
      refine bodyPost_ret (v := .tuple #[.agg #[.int .i64 zm, .int .i64 zp, .bool zw], .int .i64 zn, .int .i64 0]) (by simp [results, Try.f48, go_sem, p0, p1, p2]) rfl ⟨by rw [HE.out, HZ.out], ?_⟩
      have hU := U3.out
      (repeat (first | exact Below.refl _ _ | (with_reducible refine Below.drewN' ?_ _) | (with_reducible refine Below.drew ?_) | (with_reducible refine Below.setCell ?_ (by first | exact Nat.le_refl _ | omega | (with_reducible (repeat (first | refine sz_alloc ?_ | refine sz_setCell ?_ | refine sz_drew ?_ | refine sz_drewN ?_)); first | exact Nat.le_refl _ | omega) | (simp only [World.size_alloc, World.size_setCell, World.size_drew, size_drewN']; omega)) _) | (with_reducible refine Below.alloc ?_ (by first | exact Nat.le_refl _ | omega | (with_reducible (repeat (first | refine sz_alloc ?_ | refine sz_setCell ?_ | refine sz_drew ?_ | refine sz_drewN ?_)); first | exact Nat.le_refl _ | omega) | (simp only [World.size_alloc, World.size_setCell, World.size_drew, size_drewN']; omega)) _) | assumption))
  · have hne : (chk s != 0) = true := by rw [bne_iff_ne]; exact hc
    have HE := Lib.hid (show askE s = chk s by unfold askE; rw [if_neg hc])
    have HV := Lib.hid (show askV s = ((0, 0, false), 0) by unfold askV; rw [HE.out, if_neg hc])
    clear hc
    unfold sdVal at *
    go_enter Try.func48, Try.ntmps48
    go_wp2_with fail
    refine Calls.world ?_
    intro w0 hw0
    have u0 : Up w w0 := by rw [hw0]; (repeat (first | exact Below.refl _ _ | (with_reducible refine Below.drewN' ?_ _) | (with_reducible refine Below.drew ?_) | (with_reducible refine Below.setCell ?_ (by first | exact Nat.le_refl _ | omega | (with_reducible (repeat (first | refine sz_alloc ?_ | refine sz_setCell ?_ | refine sz_drew ?_ | refine sz_drewN ?_)); first | exact Nat.le_refl _ | omega) | (simp only [World.size_alloc, World.size_setCell, World.size_drew, size_drewN']; omega)) _) | (with_reducible refine Below.alloc ?_ (by first | exact Nat.le_refl _ | omega | (with_reducible (repeat (first | refine sz_alloc ?_ | refine sz_setCell ?_ | refine sz_drew ?_ | refine sz_drewN ?_)); first | exact Nat.le_refl _ | omega) | (simp only [World.size_alloc, World.size_setCell, World.size_drew, size_drewN']; omega)) _) | assumption))
    have hR : Blk w0 (w.heap.size + 1) [.int .i64 0, .int .i64 0, .bool false] 80 := by rw [hw0]; exact Blk.new' _ [.int .i64 0, .int .i64 0, .bool false] _ (by simp)
    clear hw0
    refine (HC.out _ u0).mono ?_
    rintro e w1 ⟨p, rfl, u1, -⟩
    have U1 := Lib.hid (Up.trans u0 u1)
    have hB := hR.up u1
    have q0 := hB.cell 0
    have q1 := hB.cell 1
    have q2 := hB.cell 2
    have fr := hB.free
    have lB := hB.lt
    simp only [List.getElem?_cons_zero, List.getElem?_cons_succ] at q0 q1 q2
    have HB := Lib.hid hB
    clear u1 u0 HC hR hB
    go_wp2_with fail
    have h := ((HB.out.set 0 (.int .i64 0)).set 1 (.int .i64 0)).set 2 (.bool false)
    have p0 := h.cell 0
    have p1 := h.cell 1
    have p2 := h.cell 2
    simp only [List.set_cons_zero, List.set_cons_succ, List.getElem?_cons_zero, List.getElem?_cons_succ] at p0 p1 p2
    refine bodyPost_ret (v := .tuple #[.agg #[.int .i64 0, .int .i64 0, .bool false], .int .i64 0, .int .i64 (chk s)]) (by simp [results, Try.f48, go_sem, p0, p1, p2]) rfl ⟨by rw [HV.out, HE.out], ?_⟩
    exact ((U1.out.setCell (by simp only []; omega) _).setCell (by simp only []; omega) _).setCell (by simp only []; omega) _
end
end Go.Proofs.Ytcljkkojeleakaa
/- The reference's Gate, Gates, Heights and Ask. -/
namespace Go.Proofs.Ytcljkkojeleakaa
open Go.RowKit Go.Shelf

section
variable {pT pF pS : Option Addr} {cT cF cS : Nat}
set_option maxRecDepth 100000 in
set_option maxHeartbeats 1000000 in
theorem refGate_c (s : Sd) (p : Nat) (w : World) (ok : Ok s) (hl : Lists w s pT pF pS cT cF cS) (hp : p < s.floors.length) :
    Calls Try.prog 29 #[sdVal s pT pF pS cT cF cS, .int .i64 p] w fun e w' => e = .returned (.int .i64 (gateR s p)) ∧ Up w w' := by
  have HG := Lib.hid (low_gate ok p hp)
  have HL := Lib.hid (fun W (u : Up w W) => refLeast_c s p [] [] none none 0 0 W ok (hl.up u) (Row.nil _ _ _) (Row.nil _ _ _) (by simp) (by simp) hp)
  clear hl
  unfold sdVal at *
  go_enter Try.func29, Try.ntmps29
  go_wp2_with fail
  refine (HL.out _ (by (repeat (first | exact Below.refl _ _ | (with_reducible refine Below.drewN' ?_ _) | (with_reducible refine Below.drew ?_) | (with_reducible refine Below.setCell ?_ (by first | exact Nat.le_refl _ | omega | (with_reducible (repeat (first | refine sz_alloc ?_ | refine sz_setCell ?_ | refine sz_drew ?_ | refine sz_drewN ?_)); first | exact Nat.le_refl _ | omega) | (simp only [World.size_alloc, World.size_setCell, World.size_drew, size_drewN']; omega)) _) | (with_reducible refine Below.alloc ?_ (by first | exact Nat.le_refl _ | omega | (with_reducible (repeat (first | refine sz_alloc ?_ | refine sz_setCell ?_ | refine sz_drew ?_ | refine sz_drewN ?_)); first | exact Nat.le_refl _ | omega) | (simp only [World.size_alloc, World.size_setCell, World.size_drew, size_drewN']; omega)) _) | assumption)))).mono ?_
  rintro e w1 ⟨rfl, u1⟩
  rw [HG.out]
  have U1 := Lib.hid (Up.trans (show Up w (w.alloc (.cells (sdCells s pT pF pS cT cF cS).toArray 37)) by (repeat (first | exact Below.refl _ _ | (with_reducible refine Below.drewN' ?_ _) | (with_reducible refine Below.drew ?_) | (with_reducible refine Below.setCell ?_ (by first | exact Nat.le_refl _ | omega | (with_reducible (repeat (first | refine sz_alloc ?_ | refine sz_setCell ?_ | refine sz_drew ?_ | refine sz_drewN ?_)); first | exact Nat.le_refl _ | omega) | (simp only [World.size_alloc, World.size_setCell, World.size_drew, size_drewN']; omega)) _) | (with_reducible refine Below.alloc ?_ (by first | exact Nat.le_refl _ | omega | (with_reducible (repeat (first | refine sz_alloc ?_ | refine sz_setCell ?_ | refine sz_drew ?_ | refine sz_drewN ?_)); first | exact Nat.le_refl _ | omega) | (simp only [World.size_alloc, World.size_setCell, World.size_drew, size_drewN']; omega)) _) | assumption))) u1)
  clear u1
  go_wp2_with fail
  go_ret
  exact ⟨rfl, U1.out⟩

/-- the gates of all places as the reference has them -/
def gatesR (s : Sd) : List Int := (List.range s.floors.length).map (gateR s)
theorem gatesR_len (s : Sd) : (gatesR s).length = s.floors.length := by simp [gatesR]
set_option maxRecDepth 100000 in
set_option maxHeartbeats 1000000 in
theorem refGates_c (s : Sd) (w : World) (ok : Ok s) (hl : Lists w s pT pF pS cT cF cS) :
    Calls Try.prog 39 #[sdVal s pT pF pS cT cF cS] w fun e w' => ∃ q d, e = .returned (.slice q (gatesR s).length d) ∧ (gatesR s).length ≤ d ∧ d ≤ maxLen ∧ Row w' q 1 (ints (gatesR s)) ∧ Up w w' := by
  have f8 := ok.fl1
  have HL := Lib.hid (fun (p : Nat) W (u : Up w W) (hp : p < s.floors.length) => refGate_c s p W ok (hl.up u) hp)
  obtain ⟨i0, hi, hz0, hz1, hz2⟩ := info_parts info3
  clear hl
  rw [gatesR_len]
  unfold sdVal at *
  go_enter Try.func39, Try.ntmps39
  go_wp2_with fail
  have BS : Hid (Blk (w.alloc (.cells #[.slice pT s.table.length cT, .int .i64 s.lo, .int .i64 s.hi, .slice pF s.floors.length cF, .slice pS s.sills.length cS] 37)) w.heap.size (sdCells s pT pF pS cT cF cS) 37) := Lib.hid (Blk.new w (sdCells s pT pF pS cT cF cS) 37)
  have U0 : Hid (Up w (w.alloc (.cells #[.slice pT s.table.length cT, .int .i64 s.lo, .int .i64 s.hi, .slice pF s.floors.length cF, .slice pS s.sills.length cS] 37))) := Lib.hid (by (repeat (first | exact Below.refl _ _ | (with_reducible refine Below.drewN' ?_ _) | (with_reducible refine Below.drew ?_) | (with_reducible refine Below.setCell ?_ (by first | exact Nat.le_refl _ | omega | (with_reducible (repeat (first | refine sz_alloc ?_ | refine sz_setCell ?_ | refine sz_drew ?_ | refine sz_drewN ?_)); first | exact Nat.le_refl _ | omega) | (simp only [World.size_alloc, World.size_setCell, World.size_drew, size_drewN']; omega)) _) | (with_reducible refine Below.alloc ?_ (by first | exact Nat.le_refl _ | omega | (with_reducible (repeat (first | refine sz_alloc ?_ | refine sz_setCell ?_ | refine sz_drew ?_ | refine sz_drewN ?_)); first | exact Nat.le_refl _ | omega) | (simp only [World.size_alloc, World.size_setCell, World.size_drew, size_drewN']; omega)) _) | assumption)))
  generalize (w.alloc (.cells #[.slice pT s.table.length cT, .int .i64 s.lo, .int .i64 s.hi, .slice pF s.floors.length cF, .slice pS s.sills.length cS] 37)) = w0 at *
  go_loopw [4, 3] (fun i v wr => ∃ k : Nat, k ≤ s.floors.length ∧ i = .int .i64 k ∧ wr.ownsRow w0.heap.size 3 1 v k (ints ((List.range k).map (gateR s))).flatten ∧ Up w0 wr) (fun i _ _ => s.floors.length - (intOf i).toNat)
  case atStart => exact ⟨0, by omega, rfl, World.ownsRow_nil _ _ _ _, Below.refl _ _⟩
  case round =>
    obtain ⟨k, hk, rfl, hown, hu⟩ := hrel
    have HO := Lib.hid hown
    have HU := Lib.hid hu
    obtain ⟨c0, c1, c2, c3, c4⟩ := five (BS.out.up hu)
    clear hown hu
    by_cases hlt : k < s.floors.length
    · have k1 : (k : Int) < s.floors.length := by omega
      go_wp2_with fail
      refine (HL.out k wr (Up.trans U0.out HU.out) hlt).mono ?_
      rintro e w2 ⟨rfl, u2⟩
      have O2 := Lib.hid (ownsRow_up HO.out u2)
      have U2 := Lib.hid (Up.trans HU.out u2)
      have hsz := U2.out.size
      clear u2 HO HU c0 c1 c2 c3 c4
      go_wp2_with (at_builtin; refine wpList_append_own _ rfl _ _ 25 rfl w0.heap.size 3 i0 (.int .i64 0) 1 8 Try.underlying25 hi hz0 hz1 hz2 rfl (by decide) _ _ _ rfl (O2.out.alloc _) ⟨w2.heap.size, 0, none⟩ 1 1 [.int .i64 (gateR s k)] rfl rfl (newsAt _ rfl [.int .i64 (gateR s k)] _) (by simp [Value.oneCell']) (by simp [maxLen]; omega) (by omega) (sz_alloc hsz) ?_; intro v' w8 hown8 hgr8 hnn; clear hnn)
      have U8 := Lib.hid ((U2.out.alloc hsz _).grown hgr8 (sz_alloc hsz) (fun j e => (O2.out.lt j e).1))
      have O8 := Lib.hid hown8
      clear hown8 hgr8
      go_roundw
      case rel =>
        try ((repeat apply Exists.intro); refine ⟨?_, rfl⟩)
        refine ⟨k + 1, by omega, by go_num, ?_, U8.out⟩
        have e : (ints ((List.range (k + 1)).map (gateR s))).flatten = (ints ((List.range k).map (gateR s))).flatten ++ [.int .i64 (gateR s k)] := by
          rw [List.range_succ, List.map_append]
          unfold ints
          rw [List.map_append, List.flatten_append]
          rfl
        rw [e]
        exact O8.out
      case measure => simp [intOf]; omega
    · obtain rfl : k = s.floors.length := by omega
      obtain ⟨q, d, rfl, a1, a2, hR, -⟩ := Row.of_own (rows := ints (gatesR s)) (flatOk_ints _) HO.out (by simp [ints, gatesR])
      go_wp2_with fail
      go_ret
      exact ⟨q, d, rfl, a1, a2, hR, Up.trans U0.out HU.out⟩

/-- the heights of all minutes of the day -/
def heightsR (s : Sd) : List Int := (List.range (dayN s)).map fun i => hgt s.table (firstM s.table + (i : Nat))
theorem heightsR_len (s : Sd) : (heightsR s).length = dayN s := by simp [heightsR]
set_option maxRecDepth 100000 in
set_option maxHeartbeats 1000000 in
theorem refHeights_c (s : Sd) (w : World) (ok : Ok s) (hl : Lists w s pT pF pS cT cF cS) :
    Calls Try.prog 114 #[sdVal s pT pF pS cT cF cS] w fun e w' => ∃ q d, e = .returned (.slice q (heightsR s).length d) ∧ (heightsR s).length ≤ d ∧ d ≤ maxLen ∧ Row w' q 1 (ints (heightsR s)) ∧ (∀ b off, q = some ⟨b, off, none⟩ → w.heap.size ≤ b) ∧ Up w w' := by
  obtain ⟨f0, f1, f2⟩ := firstM_lt ok.table
  have hn : ((dayN s : Nat) : Int) = lastM s.table - firstM s.table + 1 := by unfold dayN; omega
  have HF := Lib.hid (fun W (u : Up w W) => refFirst_c s W (hl.up u) ok.table.2.2.1)
  have HA := Lib.hid (fun W (u : Up w W) => refLast_c s W (hl.up u) ok.table.2.2.1 ok.table.2.2.2)
  have HH := Lib.hid (fun m W (u : Up w W) (h1 : firstM s.table ≤ m) (h2 : m ≤ lastM s.table) => refHeight_c s m W (hl.up u) ok.table h1 h2)
  obtain ⟨i0, hi, hz0, hz1, hz2⟩ := info_parts info3
  clear hl ok
  rw [heightsR_len]
  unfold sdVal at *
  go_enter Try.func114, Try.ntmps114
  go_wp2_with fail
  have BS : Hid (Blk (w.alloc (.cells #[.slice pT s.table.length cT, .int .i64 s.lo, .int .i64 s.hi, .slice pF s.floors.length cF, .slice pS s.sills.length cS] 37)) w.heap.size (sdCells s pT pF pS cT cF cS) 37) := Lib.hid (Blk.new w (sdCells s pT pF pS cT cF cS) 37)
  have U0 : Hid (Up w (w.alloc (.cells #[.slice pT s.table.length cT, .int .i64 s.lo, .int .i64 s.hi, .slice pF s.floors.length cF, .slice pS s.sills.length cS] 37))) := Lib.hid (by (repeat (first | exact Below.refl _ _ | (with_reducible refine Below.drewN' ?_ _) | (with_reducible refine Below.drew ?_) | (with_reducible refine Below.setCell ?_ (by first | exact Nat.le_refl _ | omega | (with_reducible (repeat (first | refine sz_alloc ?_ | refine sz_setCell ?_ | refine sz_drew ?_ | refine sz_drewN ?_)); first | exact Nat.le_refl _ | omega) | (simp only [World.size_alloc, World.size_setCell, World.size_drew, size_drewN']; omega)) _) | (with_reducible refine Below.alloc ?_ (by first | exact Nat.le_refl _ | omega | (with_reducible (repeat (first | refine sz_alloc ?_ | refine sz_setCell ?_ | refine sz_drew ?_ | refine sz_drewN ?_)); first | exact Nat.le_refl _ | omega) | (simp only [World.size_alloc, World.size_setCell, World.size_drew, size_drewN']; omega)) _) | assumption)))
  generalize (w.alloc (.cells #[.slice pT s.table.length cT, .int .i64 s.lo, .int .i64 s.hi, .slice pF s.floors.length cF, .slice pS s.sills.length cS] 37)) = w0 at *
  refine (HF.out w0 U0.out).mono ?_
  rintro e w1 ⟨rfl, u1⟩
  have U1 := Lib.hid u1
  have hs1 := u1.size
  clear u1
  go_wp2_with fail
  go_loopw [4, 3] (fun i v wr => ∃ k : Nat, k ≤ dayN s ∧ i = .int .i64 (firstM s.table + k) ∧ wr.ownsRow w0.heap.size 3 1 v k (ints ((List.range k).map fun i => hgt s.table (firstM s.table + (i : Nat)))).flatten ∧ Up w0 wr) (fun i _ _ => (lastM s.table + 1 - intOf i).toNat)
  case atStart => exact ⟨0, by omega, by simp, World.ownsRow_nil _ _ _ _, U1.out⟩
  case round =>
    obtain ⟨k, hk, rfl, hown, hu⟩ := hrel
    have HO := Lib.hid hown
    have HU := Lib.hid hu
    obtain ⟨c0, c1, c2, c3, c4⟩ := five (BS.out.up hu)
    clear hown hu
    go_wp2_with fail
    refine (HA.out wr (Up.trans U0.out HU.out)).mono ?_
    rintro e w2 ⟨rfl, u2⟩
    have O2 := Lib.hid (ownsRow_up HO.out u2)
    have U2 := Lib.hid (Up.trans HU.out u2)
    clear u2 HO HU c0 c1 c2 c3 c4
    obtain ⟨c0, c1, c2, c3, c4⟩ := five (BS.out.up U2.out)
    by_cases hlt : k < dayN s
    · have k1 : firstM s.table + (k : Int) ≤ lastM s.table := by omega
      go_wp2_with fail
      refine (HH.out (firstM s.table + k) w2 (Up.trans U0.out U2.out) (by omega) k1).mono ?_
      rintro e w3 ⟨rfl, u3⟩
      have O3 := Lib.hid (ownsRow_up O2.out u3)
      have U3 := Lib.hid (Up.trans U2.out u3)
      have hsz := U3.out.size
      clear u3 O2 U2 c0 c1 c2 c3 c4
      have sy : IntKind.i64.wrap (firstM s.table + k + 1) = firstM s.table + k + 1 := IntWalk.i64_in _ (by omega)
      go_wp2_with (at_builtin; refine wpList_append_own _ rfl _ _ 25 rfl w0.heap.size 3 i0 (.int .i64 0) 1 8 Try.underlying25 hi hz0 hz1 hz2 rfl (by decide) _ _ _ rfl (O3.out.alloc _) ⟨w3.heap.size, 0, none⟩ 1 1 [.int .i64 (hgt s.table (firstM s.table + k))] rfl rfl (newsAt _ rfl [.int .i64 (hgt s.table (firstM s.table + k))] _) (by simp [Value.oneCell']) (by simp [maxLen]; omega) (by omega) (sz_alloc hsz) ?_; intro v' w8 hown8 hgr8 hnn; clear hnn)
      have U8 := Lib.hid ((U3.out.alloc hsz _).grown hgr8 (sz_alloc hsz) (fun j e => (O3.out.lt j e).1))
      have O8 := Lib.hid hown8
      clear hown8 hgr8
      go_roundw
      case rel =>
        try ((repeat apply Exists.intro); refine ⟨?_, rfl⟩)
        refine ⟨k + 1, by omega, by rw [show firstM s.table + (k : Int) + 1 = firstM s.table + ((k + 1 : Nat) : Int) by omega], ?_, U8.out⟩
        have e : (ints ((List.range (k + 1)).map fun i => hgt s.table (firstM s.table + (i : Nat)))).flatten = (ints ((List.range k).map fun i => hgt s.table (firstM s.table + (i : Nat)))).flatten ++ [.int .i64 (hgt s.table (firstM s.table + k))] := by
          rw [List.range_succ, List.map_append]
          unfold ints
          rw [List.map_append, List.flatten_append]
          rfl
        rw [e]
        exact O8.out
      case measure => simp [intOf]; omega
    · obtain rfl : k = dayN s := by omega
      obtain ⟨q, d, rfl, a1, a2, hR, hge⟩ := Row.of_own (rows := ints (heightsR s)) (flatOk_ints _) O2.out (by simp [ints, heightsR])
      have k1 : ¬ firstM s.table + ((dayN s : Nat) : Int) ≤ lastM s.table := by omega
      clear hn
      go_wp2_with fail
      go_ret
      exact ⟨q, d, rfl, a1, a2, hR, fun b off e => Nat.le_trans U0.out.size (hge b off e), Up.trans U0.out U2.out⟩

def rAskOne (s : Sd) (m : Int) (z : Lk × Int) (p : Nat) : Lk × Int := if askMost s m p < z.2 then ((m, (p : Int), true), askMost s m p) else z
def rAskRow (s : Sd) (m : Int) (z : Lk × Int) : Nat → Lk × Int
  | 0 => z
  | k + 1 => rAskOne s m (rAskRow s m z k) k
def rAskAll (s : Sd) : Nat → Lk × Int
  | 0 => ((0, 0, false), siz (s.lo, s.hi) + 1)
  | k + 1 => rAskRow s (firstM s.table + k) (rAskAll s k) s.floors.length
/-- both searches have found the same, or nothing yet -/
def AskEq (s : Sd) (z y : Lk × Int) : Prop := (z = y ∧ z.1.2.2 = true) ∨ (z = ((0, 0, false), siz (s.lo, s.hi)) ∧ y = ((0, 0, false), siz (s.lo, s.hi) + 1))
theorem askMost_le {s : Sd} (ok : Ok s) (m : Int) (p : Nat) : askMost s m p ≤ siz (s.lo, s.hi) := by
  have h1 := siz_part ok m p
  have h3 := siz_nonneg (truV s (m, (p : Int), true))
  have h4 := siz_nonneg (truV s (m, (p : Int), false))
  unfold askMost
  omega
theorem askEq_one {s : Sd} (ok : Ok s) {m : Int} {z y : Lk × Int} (h : AskEq s z y) (p : Nat) : AskEq s (askOne s m z p) (rAskOne s m y p) := by
  have hle := askMost_le ok m p
  rcases h with ⟨rfl, hw⟩ | ⟨rfl, rfl⟩
  · left
    unfold askOne rAskOne
    by_cases hc : askMost s m p < z.2
    · rw [if_pos (.inr hc), if_pos hc]; exact ⟨rfl, rfl⟩
    · rw [if_neg (fun h => by rcases h with h | h; · rw [h] at hw; cases hw
                              · exact hc h), if_neg hc]
      exact ⟨rfl, hw⟩
  · left
    unfold askOne rAskOne
    rw [if_pos (.inl rfl), if_pos (by dsimp only; omega)]
    exact ⟨rfl, rfl⟩
theorem askEq_row {s : Sd} (ok : Ok s) {m : Int} {z y : Lk × Int} (h : AskEq s z y) : ∀ k, AskEq s (askRow s m z k) (rAskRow s m y k)
  | 0 => h
  | k + 1 => askEq_one ok (askEq_row ok h k) k
theorem askEq_all {s : Sd} (ok : Ok s) : ∀ k, AskEq s (askAll s k) (rAskAll s k)
  | 0 => .inr ⟨rfl, rfl⟩
  | k + 1 => askEq_row ok (askEq_all ok k) _
theorem ask_same {s : Sd} (ok : Ok s) : rAskAll s (dayN s) = askAll s (dayN s) := by
  obtain ⟨m, p, h, -⟩ := ask_best ok
  rcases askEq_all ok (dayN s) with ⟨h1, -⟩ | ⟨h1, -⟩
  · exact h1.symm
  · rw [h] at h1
    exact absurd (congrArg (fun t => t.1.2.2) h1) (by simp)
theorem rAskRow_rng {s : Sd} (ok : Ok s) {m : Int} {z : Lk × Int} (h : 0 ≤ z.2 ∧ z.2 ≤ 102) : ∀ k, 0 ≤ (rAskRow s m z k).2 ∧ (rAskRow s m z k).2 ≤ 102
  | 0 => h
  | k + 1 => by
    have ih := rAskRow_rng ok h (m := m) k
    have := askMost_rng ok m k
    unfold rAskRow rAskOne
    split
    · exact ⟨this.1, by dsimp only; omega⟩
    · exact ih
theorem rAskAll_rng {s : Sd} (ok : Ok s) : ∀ k, 0 ≤ (rAskAll s k).2 ∧ (rAskAll s k).2 ≤ 102
  | 0 => by have := askMost_rng ok 0 0; exact ⟨by show 0 ≤ siz (s.lo, s.hi) + 1; omega, by show siz (s.lo, s.hi) + 1 ≤ 102; omega⟩
  | k + 1 => rAskRow_rng ok (rAskAll_rng ok k) _
/-- how many truths say that it is wet -/
theorem Far.cell {B n₀ : Nat} {w w' : World} (h : Far B n₀ w w') {b o : Nat} (h1 : b < n₀) (h2 : b ≠ B) : w'.cell? ⟨b, o, none⟩ = w.cell? ⟨b, o, none⟩ := World.cell?_of_block (h.block b h1 h2)
theorem Far.below2 {B n₀ : Nat} {w w' : World} (h : Far B n₀ w w') (hb : B < n₀) : Below B w w' := h.below (Nat.le_refl _) (by omega)
theorem yes_siz {s : Sd} (ok : Ok s) (m : Int) (p : Nat) (h0 : 0 ≤ hgt s.table m) (h1 : hgt s.table m ≤ 999) : max 0 (s.hi + 1 - max s.lo (gateR s p - hgt s.table m + 1)) = siz (truV s (m, (p : Int), true)) := by
  have b0 := ok.lo0
  have b1 := ok.hi1
  have b2 := ok.lohi
  have gl := gts_le s p
  unfold gateR siz truV com
  simp only [if_true, Int.toNat_natCast]
  split <;> omega
set_option maxRecDepth 100000 in
set_option maxHeartbeats 3000000 in
theorem refAsk_c (s : Sd) (n : Nat) (q : Option Addr) (d : Nat) (w : World) (hn : (gatesR s).length = n) (ok : Ok s) (hl : Lists w s pT pF pS cT cF cS) (hr : Row w q 1 (ints (gatesR s))) :
    Calls Try.prog 47 #[sdVal s pT pF pS cT cF cS, .slice q n d] w fun e w' => e = .returned (.tuple #[.agg #[.int .i64 (askAll s (dayN s)).1.1, .int .i64 (askAll s (dayN s)).1.2.1, .bool (askAll s (dayN s)).1.2.2], .int .i64 (askAll s (dayN s)).2]) ∧ Up w w' := by
  have hnl : n = s.floors.length := by rw [← hn, gatesR_len]
  subst hnl
  obtain ⟨f0, f1, f2⟩ := firstM_lt ok.table
  have hdn : ((dayN s : Nat) : Int) = lastM s.table - firstM s.table + 1 := by unfold dayN; omega
  have f8 := ok.fl1
  have b0 := ok.lo0
  have b1 := ok.hi1
  have b2 := ok.lohi
  have HF := Lib.hid (fun W (u : Up w W) => refFirst_c s W (hl.up u) ok.table.2.2.1)
  have HH := Lib.hid (fun W (u : Up w W) => refHeights_c s W ok (hl.up u))
  have HR := Lib.hid hr
  have OK := Lib.hid ok
  have SAME := Lib.hid (ask_same ok)
  have s1 : IntKind.i64.wrap (s.hi - s.lo) = s.hi - s.lo := IntWalk.i64_in _ (by omega)
  have s2 : IntKind.i64.wrap (s.hi - s.lo + 1) = s.hi - s.lo + 1 := IntWalk.i64_in _ (by omega)
  have s3 : IntKind.i64.wrap (s.hi - s.lo + 1 + 1) = s.hi - s.lo + 1 + 1 := IntWalk.i64_in _ (by omega)
  clear hl hr ok hn
  unfold sdVal at *
  go_enter Try.func47, Try.ntmps47
  go_wp2_with fail
  refine Calls.world ?_
  intro w0 hw0
  have u0 : Up w w0 := by rw [hw0]; (repeat (first | exact Below.refl _ _ | (with_reducible refine Below.drewN' ?_ _) | (with_reducible refine Below.drew ?_) | (with_reducible refine Below.setCell ?_ (by first | exact Nat.le_refl _ | omega | (with_reducible (repeat (first | refine sz_alloc ?_ | refine sz_setCell ?_ | refine sz_drew ?_ | refine sz_drewN ?_)); first | exact Nat.le_refl _ | omega) | (simp only [World.size_alloc, World.size_setCell, World.size_drew, size_drewN']; omega)) _) | (with_reducible refine Below.alloc ?_ (by first | exact Nat.le_refl _ | omega | (with_reducible (repeat (first | refine sz_alloc ?_ | refine sz_setCell ?_ | refine sz_drew ?_ | refine sz_drewN ?_)); first | exact Nat.le_refl _ | omega) | (simp only [World.size_alloc, World.size_setCell, World.size_drew, size_drewN']; omega)) _) | assumption))
  have hS : Blk w0 w.heap.size (sdCells s pT pF pS cT cF cS) 37 := by rw [hw0]; exact ((Blk.new w (sdCells s pT pF pS cT cF cS) _).alloc _).alloc _
  have hR : Blk w0 (w.heap.size + 1) [.int .i64 0, .int .i64 0, .bool false] 77 := by rw [hw0]; exact (Blk.new' _ [.int .i64 0, .int .i64 0, .bool false] _ (by simp)).alloc _
  have hB : Blk w0 (w.heap.size + 1 + 1) [.int .i64 0, .int .i64 0, .bool false] 77 := by rw [hw0]; exact Blk.new' _ [.int .i64 0, .int .i64 0, .bool false] _ (by simp)
  clear hw0
  refine (HH.out w0 u0).mono ?_
  rintro e w1 ⟨qh, dh, rfl, -, -, rh, hfr, u1⟩
  have U1 := Lib.hid (Up.trans u0 u1)
  have S1 := Lib.hid (hS.up u1)
  have R1 := Lib.hid (hR.up u1)
  have B1 := Lib.hid (hB.up u1)
  have HB0 := hB.lt
  have RH := Lib.hid rh
  rw [heightsR_len]
  have hal : siz (s.lo, s.hi) = s.hi - s.lo + 1 := siz_wind OK.out
  have HALL := Lib.hid hal
  clear u0 u1 hS hR hB rh s1 s2 s3 hal
  have hl0 : w.heap.size + 1 + 1 < w0.heap.size := HB0
  obtain ⟨bh, oh, rfl, -⟩ := RH.out.int 0 (by rw [heightsR_len]; omega)
  obtain ⟨bg, og, rfl, -⟩ := HR.out.int 0 (by rw [gatesR_len]; have := OK.out.fl0; omega)
  have hbw : w.heap.size + 1 + 1 < w1.heap.size := B1.out.lt
  have HDN := Lib.hid hdn
  clear hdn
  obtain ⟨dn, hdd⟩ : ∃ dn, dayN s = dn := ⟨_, rfl⟩
  have HDD := Lib.hid hdd
  rw [hdd] at HDN ⊢
  have hd9 : dn ≤ 1441 := by have := HDN.out; omega
  clear hdd
  go_wp2_with fail
  go_loopw [10, 8] (fun i f wr => ∃ k : Nat, k ≤ dn ∧ i = .int .i64 k ∧ f = .int .i64 (rAskAll s k).2 ∧ Blk wr (w.heap.size + 1 + 1) (lkc (rAskAll s k).1) 77 ∧ Blk wr (w.heap.size + 1) [.int .i64 0, .int .i64 0, .bool false] 77 ∧ Blk wr w.heap.size (sdCells s pT pF pS cT cF cS) 37 ∧ Far (w.heap.size + 1 + 1) w1.heap.size w1 wr) (fun i _ _ => dn - (intOf i).toNat)
  case atStart => exact ⟨0, by omega, rfl, by rw [show (rAskAll s 0).2 = s.hi - s.lo + 1 + 1 by rw [← HALL.out]; rfl], B1.out, R1.out, S1.out, Far.refl _ _ _⟩
  case round =>
    obtain ⟨k, hk, rfl, rfl, hb, hr, hs, hd⟩ := hrel
    have HB := Lib.hid hb
    have HRr := Lib.hid hr
    have HSr := Lib.hid hs
    have HD := Lib.hid hd
    clear hb hr hs hd
    by_cases hlt : k < dn
    · have k1 : (k : Int) < dn := by omega
      have hzr := rAskAll_rng OK.out k
      have HE := Lib.hid (show rAskAll s (k + 1) = rAskRow s (firstM s.table + k) (rAskAll s k) s.floors.length from rfl)
      generalize rAskAll s k = z at *
      have HZR := Lib.hid hzr
      clear hzr
      go_wp2_with fail
      go_loopw [11, 8] (fun j f wy => ∃ p : Nat, p ≤ s.floors.length ∧ j = .int .i64 p ∧ f = .int .i64 (rAskRow s (firstM s.table + k) z p).2 ∧ Blk wy (w.heap.size + 1 + 1) (lkc (rAskRow s (firstM s.table + k) z p).1) 77 ∧ Blk wy (w.heap.size + 1) [.int .i64 0, .int .i64 0, .bool false] 77 ∧ Blk wy w.heap.size (sdCells s pT pF pS cT cF cS) 37 ∧ Far (w.heap.size + 1 + 1) w1.heap.size w1 wy) (fun j _ _ => s.floors.length - (intOf j).toNat)
      case atStart => exact ⟨0, Nat.zero_le _, rfl, rfl, HB.out, HRr.out, HSr.out, HD.out⟩
      case round =>
        obtain ⟨p, hp, rfl, rfl, hb, hr, hs, hd⟩ := hrel
        have Hb := Lib.hid hb
        have Hr := Lib.hid hr
        have Hs := Lib.hid hs
        have Hd := Lib.hid hd
        clear hb hr hs hd HB HRr HSr HD
        by_cases hlp : p < s.floors.length
        · have p1 : (p : Int) < s.floors.length := by omega
          have hzr := rAskRow_rng OK.out (m := firstM s.table + k) HZR.out p
          have HE2 := Lib.hid (show rAskRow s (firstM s.table + k) z (p + 1) = rAskOne s (firstM s.table + k) (rAskRow s (firstM s.table + k) z p) p from rfl)
          generalize rAskRow s (firstM s.table + k) z p = y at *
          obtain ⟨⟨ym, yp, yw⟩, yn⟩ := y
          dsimp only at hzr
          obtain ⟨c0, c1, c2, c3, c4⟩ := five Hs.out
          have hm0 : firstM s.table ≤ firstM s.table + (k : Int) := by omega
          have hmr := hgt_rng OK.out.table (firstM s.table + k) hm0
          have mr := askMost_rng OK.out (firstM s.table + k) p
          have YS := Lib.hid (yes_siz OK.out (firstM s.table + k) p hmr.1 hmr.2)
          have MS := Lib.hid (show askMost s (firstM s.table + k) p = max (siz (truV s (firstM s.table + k, (p : Int), true))) (siz (s.lo, s.hi) - siz (truV s (firstM s.table + k, (p : Int), true))) from rfl)
          have yle : siz (truV s (firstM s.table + k, (p : Int), true)) ≤ siz (s.lo, s.hi) := by have h1 := siz_part OK.out (firstM s.table + k) p; have h2 := siz_nonneg (truV s (firstM s.table + k, (p : Int), false)); omega
          have gl := gts_le s p
          have GR : 0 ≤ gateR s p ∧ gateR s p ≤ 5000 := by unfold gateR; split <;> omega
          have hfb := hfr bh oh rfl
          obtain ⟨hx1, hx2⟩ : bh < w1.heap.size ∧ w1.cell? ⟨bh, oh + k, none⟩ = some (.int .i64 (hgt s.table (firstM s.table + k))) := by
            obtain ⟨b', o', e1, e2⟩ := RH.out.int k (by rw [heightsR_len, HDD.out]; omega)
            simp only [Option.some.injEq, Addr.mk.injEq, and_true] at e1
            obtain ⟨rfl, rfl⟩ := e1
            simp only [heightsR, List.getElem_map, List.getElem_range] at e2
            exact ⟨cell_lt e2, e2⟩
          obtain ⟨hy1, hy2⟩ : bg < w.heap.size ∧ w.cell? ⟨bg, og + p, none⟩ = some (.int .i64 (gateR s p)) := by
            obtain ⟨b', o', e1, e2⟩ := HR.out.int p (by rw [gatesR_len]; omega)
            simp only [Option.some.injEq, Addr.mk.injEq, and_true] at e1
            obtain ⟨rfl, rfl⟩ := e1
            simp only [gatesR, List.getElem_map, List.getElem_range] at e2
            exact ⟨cell_lt e2, e2⟩
          have hx3 := (Hd.out.cell hx1 (by omega)).trans hx2
          have hy3 := (Hd.out.cell (b := bg) (by have := U1.out.size; omega) (by omega)).trans (U1.out.cellAt hy2)
          have lx := cell_lt hx3
          have ly := cell_lt hy3
          generalize hgt s.table (firstM s.table + (k : Int)) = hh at *
          generalize gateR s p = gg at *
          generalize siz (truV s (firstM s.table + (k : Int), (p : Int), true)) = yes at *
          clear hx2 hy2 gl
          go_wp2_with fail
          go_loopw [13, 12] (fun v y wz => ∃ t : Int, v = .int .i64 t ∧ s.lo ≤ t ∧ t ≤ s.hi + 1 ∧ y = .int .i64 (max 0 (t - max s.lo (gg - hh + 1))) ∧ Up wr wz) (fun v _ _ => (s.hi + 1 - intOf v).toNat)
          case atStart => exact ⟨s.lo, rfl, Int.le_refl _, by omega, by rw [show max 0 (s.lo - max s.lo (gg - hh + 1)) = 0 by omega], Below.refl _ _⟩
          case round =>
            obtain ⟨t, rfl, t0, t1, rfl, hu⟩ := hrel
            have e0 := hu.cellAt c0
            have e1 := hu.cellAt c1
            have e2 := hu.cellAt c2
            have e3 := hu.cellAt c3
            have e4 := hu.cellAt c4
            have ex := hu.cellAt hx3
            have ey := hu.cellAt hy3
            have le := cell_lt ex
            have lf := cell_lt ey
            have HU := Lib.hid hu
            clear hu c0 c1 c2 c3 c4 hx3 hy3
            by_cases ht : t ≤ s.hi
            · have s4 : IntKind.i64.wrap (hh + t) = hh + t := IntWalk.i64_in _ (by omega)
              have st1 : IntKind.i64.wrap (t + 1) = t + 1 := IntWalk.i64_in _ (by omega)
              obtain ⟨yy, hyy⟩ : ∃ yy, max 0 (t - max s.lo (gg - hh + 1)) = yy := ⟨_, rfl⟩
              have HYY := Lib.hid hyy
              have yr : 0 ≤ yy ∧ yy ≤ 200 := by omega
              have sy1 : IntKind.i64.wrap (yy + 1) = yy + 1 := IntWalk.i64_in _ (by omega)
              rw [hyy]
              clear hyy
              by_cases hw : gg < hh + t
              · have HV := Lib.hid (show max 0 (t + 1 - max s.lo (gg - hh + 1)) = yy + 1 by have := HYY.out; omega)
                go_wp2_with fail
                go_quiet (fail)
                go_wp2
                go_roundw
                case rel =>
                  try ((repeat apply Exists.intro); refine ⟨?_, rfl⟩)
                  exact ⟨t + 1, rfl, by omega, by omega, by rw [HV.out], by have hU := HU.out; (repeat (first | exact Below.refl _ _ | (with_reducible refine Below.drewN' ?_ _) | (with_reducible refine Below.drew ?_) | (with_reducible refine Below.setCell ?_ (by first | exact Nat.le_refl _ | omega | (with_reducible (repeat (first | refine sz_alloc ?_ | refine sz_setCell ?_ | refine sz_drew ?_ | refine sz_drewN ?_)); first | exact Nat.le_refl _ | omega) | (simp only [World.size_alloc, World.size_setCell, World.size_drew, size_drewN']; omega)) _) | (with_reducible refine Below.alloc ?_ (by first | exact Nat.le_refl _ | omega | (with_reducible (repeat (first | refine sz_alloc ?_ | refine sz_setCell ?_ | refine sz_drew ?_ | refine sz_drewN ?_)); first | exact Nat.le_refl _ | omega) | (simp only [World.size_alloc, World.size_setCell, World.size_drew, size_drewN']; omega)) _) | assumption))⟩
                case measure => simp [intOf]; omega
              · have HV := Lib.hid (show max 0 (t + 1 - max s.lo (gg - hh + 1)) = yy by have := HYY.out; omega)
                go_wp2_with fail
                go_quiet (fail)
                go_wp2
                go_roundw
                case rel =>
                  try ((repeat apply Exists.intro); refine ⟨?_, rfl⟩)
                  exact ⟨t + 1, rfl, by omega, by omega, by rw [HV.out], by have hU := HU.out; (repeat (first | exact Below.refl _ _ | (with_reducible refine Below.drewN' ?_ _) | (with_reducible refine Below.drew ?_) | (with_reducible refine Below.setCell ?_ (by first | exact Nat.le_refl _ | omega | (with_reducible (repeat (first | refine sz_alloc ?_ | refine sz_setCell ?_ | refine sz_drew ?_ | refine sz_drewN ?_)); first | exact Nat.le_refl _ | omega) | (simp only [World.size_alloc, World.size_setCell, World.size_drew, size_drewN']; omega)) _) | (with_reducible refine Below.alloc ?_ (by first | exact Nat.le_refl _ | omega | (with_reducible (repeat (first | refine sz_alloc ?_ | refine sz_setCell ?_ | refine sz_drew ?_ | refine sz_drewN ?_)); first | exact Nat.le_refl _ | omega) | (simp only [World.size_alloc, World.size_setCell, World.size_drew, size_drewN']; omega)) _) | assumption))⟩
                case measure => simp [intOf]; omega
            · obtain rfl : t = s.hi + 1 := by omega
              rw [YS.out]
              have Bq := Lib.hid (Hb.out.up HU.out)
              have Rq := Lib.hid (Hr.out.up HU.out)
              have Sq := Lib.hid (Hs.out.up HU.out)
              have Dq := Lib.hid (Hd.out.trans (Far.of (HU.out.mono Hd.out.size)))
              generalize wr = wq at *
              have hal := HALL.out
              have s5 : IntKind.i64.wrap (s.hi - s.lo + 1 - yes) = s.hi - s.lo + 1 - yes := IntWalk.i64_in _ (by omega)
              have mr5 : 0 ≤ yes ∧ yes ≤ s.hi - s.lo + 1 := by omega
              rw [hal] at mr
              clear hal
              by_cases hm : yes < s.hi - s.lo + 1 - yes
              · have MM := Lib.hid (show askMost s (firstM s.table + k) p = s.hi - s.lo + 1 - yes by rw [MS.out, HALL.out]; omega)
                by_cases hc : s.hi - s.lo + 1 - yes < yn
                · have HE3 := Lib.hid (show rAskRow s (firstM s.table + k) z (p + 1) = ((firstM s.table + k, (p : Int), true), s.hi - s.lo + 1 - yes) by rw [HE2.out]; unfold rAskOne; rw [MM.out, if_pos hc])
                  go_wp2_with fail
                  refine (HF.out wq (Below.trans U1.out (Dq.out.below (by omega) (by omega)))).mono ?_
                  rintro e wt ⟨rfl, ut⟩
                  have Bt := Lib.hid (Bq.out.up ut)
                  have Rt := Lib.hid (Rq.out.up ut)
                  have St := Lib.hid (Sq.out.up ut)
                  have Dt := Lib.hid (Dq.out.trans (Far.of (ut.mono Dq.out.size)))
                  have y0 := Bt.out.cell 0
                  have y1 := Bt.out.cell 1
                  have y2 := Bt.out.cell 2
                  have yf := Bt.out.free
                  have yl := Bt.out.lt
                  have s6 : IntKind.i64.wrap (firstM s.table + k) = firstM s.table + k := IntWalk.i64_in _ (by omega)
                  simp only [lkc, List.getElem?_cons_zero, List.getElem?_cons_succ] at y0 y1 y2
                  clear ut
                  go_wp2_with fail
                  go_roundw
                  case rel =>
                    try ((repeat apply Exists.intro); refine ⟨?_, rfl⟩)
                    refine ⟨p + 1, by omega, by go_num, by rw [HE3.out], ?_, ((Rt.out.other (by simp only []; omega) _).other (by simp only []; omega) _).other (by simp only []; omega) _, ((St.out.other (by simp only []; omega) _).other (by simp only []; omega) _).other (by simp only []; omega) _, ((Dt.out.setIn _ _).setIn _ _).setIn _ _⟩
                    rw [HE3.out]
                    have h := ((Bt.out.set 0 (.int .i64 (firstM s.table + k))).set 1 (.int .i64 p)).set 2 (.bool true)
                    simpa only [lkc, List.set_cons_zero, List.set_cons_succ] using h
                  case measure => simp [intOf]; omega
                · have HE3 := Lib.hid (show rAskRow s (firstM s.table + k) z (p + 1) = ((ym, yp, yw), yn) by rw [HE2.out]; unfold rAskOne; rw [MM.out, if_neg hc])
                  go_wp2_with fail
                  go_roundw
                  case rel =>
                    try ((repeat apply Exists.intro); refine ⟨?_, rfl⟩)
                    exact ⟨p + 1, by omega, by go_num, by rw [HE3.out], by rw [HE3.out]; exact Bq.out, Rq.out, Sq.out, Dq.out⟩
                  case measure => simp [intOf]; omega
              · have MM := Lib.hid (show askMost s (firstM s.table + k) p = yes by rw [MS.out, HALL.out]; omega)
                by_cases hc : yes < yn
                · have HE3 := Lib.hid (show rAskRow s (firstM s.table + k) z (p + 1) = ((firstM s.table + k, (p : Int), true), yes) by rw [HE2.out]; unfold rAskOne; rw [MM.out, if_pos hc])
                  go_wp2_with fail
                  refine (HF.out wq (Below.trans U1.out (Dq.out.below (by omega) (by omega)))).mono ?_
                  rintro e wt ⟨rfl, ut⟩
                  have Bt := Lib.hid (Bq.out.up ut)
                  have Rt := Lib.hid (Rq.out.up ut)
                  have St := Lib.hid (Sq.out.up ut)
                  have Dt := Lib.hid (Dq.out.trans (Far.of (ut.mono Dq.out.size)))
                  have y0 := Bt.out.cell 0
                  have y1 := Bt.out.cell 1
                  have y2 := Bt.out.cell 2
                  have yf := Bt.out.free
                  have yl := Bt.out.lt
                  have s6 : IntKind.i64.wrap (firstM s.table + k) = firstM s.table + k := IntWalk.i64_in _ (by omega)
                  simp only [lkc, List.getElem?_cons_zero, List.getElem?_cons_succ] at y0 y1 y2
                  clear ut
                  go_wp2_with fail
                  go_roundw
                  case rel =>
                    try ((repeat apply Exists.intro); refine ⟨?_, rfl⟩)
                    refine ⟨p + 1, by omega, by go_num, by rw [HE3.out], ?_, ((Rt.out.other (by simp only []; omega) _).other (by simp only []; omega) _).other (by simp only []; omega) _, ((St.out.other (by simp only []; omega) _).other (by simp only []; omega) _).other (by simp only []; omega) _, ((Dt.out.setIn _ _).setIn _ _).setIn _ _⟩
                    rw [HE3.out]
                    have h := ((Bt.out.set 0 (.int .i64 (firstM s.table + k))).set 1 (.int .i64 p)).set 2 (.bool true)
                    simpa only [lkc, List.set_cons_zero, List.set_cons_succ] using h
                  case measure => simp [intOf]; omega
                · have HE3 := Lib.hid (show rAskRow s (firstM s.table + k) z (p + 1) = ((ym, yp, yw), yn) by rw [HE2.out]; unfold rAskOne; rw [MM.out, if_neg hc])
                  go_wp2_with fail
                  go_roundw
                  case rel =>
                    try ((repeat apply Exists.intro); refine ⟨?_, rfl⟩)
                    exact ⟨p + 1, by omega, by go_num, by rw [HE3.out], by rw [HE3.out]; exact Bq.out, Rq.out, Sq.out, Dq.out⟩
                  case measure => simp [intOf]; omega
        · obtain rfl : p = s.floors.length := by omega
          go_wp2_with fail
          go_roundw
          case rel =>
            try ((repeat apply Exists.intro); refine ⟨?_, rfl⟩)
            exact ⟨k + 1, by omega, by go_num, by rw [HE.out], by rw [HE.out]; exact Hb.out, Hr.out, Hs.out, Hd.out⟩
          case measure => simp [intOf]; omega
    · obtain rfl : k = dn := by omega
      have hz : rAskAll s k = askAll s (dayN s) := by rw [← SAME.out, HDD.out]
      rw [hz] at HB
      rw [hz]
      generalize hzz : askAll s (dayN s) = z at *
      obtain ⟨⟨zm, zp, zw⟩, zn⟩ := z
      have y0 := HB.out.cell 0
      have y1 := HB.out.cell 1
      have y2 := HB.out.cell 2
      have r0 := HRr.out.cell 0
      have r1 := HRr.out.cell 1
      have r2 := HRr.out.cell 2
      have rf := HRr.out.free
      have rl := HRr.out.lt
      simp only [lkc, List.getElem?_cons_zero, List.getElem?_cons_succ] at y0 y1 y2 r0 r1 r2
      have UW := Lib.hid (Below.trans U1.out (HD.out.below (b := w.heap.size) (by omega) (by omega)))
      have HZZ := Lib.hid hzz
      clear hz hzz
      go_wp2_with fail
      have h := ((HRr.out.set 0 (.int .i64 zm)).set 1 (.int .i64 zp)).set 2 (.bool zw)
      have p0 := h.cell 0
      have p1 := h.cell 1
      have p2 := h.cell 2
      simp only [List.set_cons_zero, List.set_cons_succ, List.getElem?_cons_zero, List.getElem?_cons_succ] at p0 p1 p2
      refine bodyPost_ret (v := .tuple #[.agg #[.int .i64 zm, .int .i64 zp, .bool zw], .int .i64 zn]) (by simp [results, Try.f47, go_sem, p0, p1, p2]) rfl ⟨?_, ?_⟩
      · first | rfl | rw [HZZ.out]
      · exact ((UW.out.setCell (by simp only []; omega) _).setCell (by simp only []; omega) _).setCell (by simp only []; omega) _
end
end Go.Proofs.Ytcljkkojeleakaa
/- Plain facts: the gate of a place is the crest of the way to it that is found, and the height of the bank that is found. -/
namespace Go.Proofs.Ytcljkkojeleakaa
open Go.RowKit
section
variable {s : Sd}
/-- a lead has its sill, and leads to the sill's other end -/
theorem lead_other {f : Int} {x : Lead s.sills.length s.floors.length} (h : x ∈ leads s.sills s.floors.length f s.sills.length) : other (s.sills[x.1.1]'x.2.1) f = (x.1.2 : Int) := by
  unfold leads at h
  rw [List.mem_filterMap] at h
  obtain ⟨i, -, h⟩ := h
  unfold lead1 at h
  split at h
  · next hc =>
    simp only [Option.some.injEq] at h
    subst h
    have h0 := hc.2.1
    simp only [List.getElem?_eq_getElem hc.1, Option.getD_some] at h0 ⊢
    rw [Int.toNat_of_nonneg h0]
  · cases h
theorem lead_to {i : Nat} (hi : i < s.sills.length) {f : Int} {b : Nat} (hb : other s.sills[i] f = b) (hl : b < s.floors.length) : ∃ x ∈ leads s.sills s.floors.length f s.sills.length, x.1 = (i, b) := by
  refine ⟨⟨(i, b), hi, hl⟩, ?_, rfl⟩
  unfold leads
  rw [List.mem_filterMap]
  refine ⟨i, by simpa using hi, ?_⟩
  rw [lead1_some _ _ _ _ hi (by omega) (by omega)]
  simp [hb]
theorem stepV_eq {i t : Nat} (hi : i < s.sills.length) (ht : t < s.floors.length) : stepV s i t = max (max 0 (s.sills[i]).2.2) s.floors[t] := by
  unfold stepV
  rw [grt2, List.getElem?_eq_getElem hi, List.getElem?_eq_getElem ht]
  rfl
theorem gate_lead (ok : Ok s) {f : Int} (hf : f = -1 ∨ ∃ n : Nat, f = n ∧ n < s.floors.length) {x : Lead s.sills.length s.floors.length} (hx : x ∈ leads s.sills s.floors.length f s.sills.length) {h : Int} (h0 : 0 ≤ h) (hs : stepV s x.1.1 x.1.2 ≤ h) (hg : f = -1 ∨ gateOf s f.toNat ≤ h) : gateOf s x.1.2 ≤ h := by
  have ho := lead_other hx
  rw [stepV_eq x.2.1 x.2.2] at hs
  have e : s.floors[x.1.2]?.getD 0 = s.floors[x.1.2]'x.2.2 := by rw [List.getElem?_eq_getElem x.2.2]; rfl
  rcases hf with rfl | ⟨n, rfl, hn⟩
  · have := gate_sea s ok.fl1 _ (List.getElem_mem x.2.1) x.1.2 ho x.2.2
    omega
  · have := gate_from s ok.fl1 _ (List.getElem_mem x.2.1) n x.1.2 hn ho x.2.2
    rw [Int.toNat_natCast] at hg
    have : gateOf s n ≤ h := by
      rcases hg with hg | hg
      · omega
      · exact hg
    omega

/-- a place whose gate is not above h is reached over steps that are not -/
theorem way_got (ok : Ok s) {h : Int} (h9 : h < 1050) (p : Nat) (hp : p < s.floors.length) (hg : gateOf s p ≤ h) : Got (waysOf s (mayGate s h)) p := by
  obtain ⟨w1, w2, -⟩ := waysOf_shut (s := s) (may := mayGate s h) ok.fl1
  have f8 := ok.fl1
  generalize waysOf s (mayGate s h) = ws at *
  have key := inv_iter s ok.fl1 (fun g => ∀ p, p < s.floors.length → ¬ Got ws p → h < g[p]?.getD 0)
    (fun g x b hl hx hb hbl hI q hq hn => by
      rw [set_get g b q _ (by omega)]
      split
      · next e =>
        subst e
        obtain ⟨i, hi, rfl⟩ := List.getElem_of_mem hx
        obtain ⟨y, hy, hy1⟩ := lead_to hi hb hbl
        have hnm : mayGate s h i b = false := by
          cases hm : mayGate s h i b
          · rfl
          · exact absurd (by have := w1 y hy (by rw [hy1]; exact hm); rwa [hy1] at this) hn
        unfold mayGate at hnm
        rw [decide_eq_false_iff_not, stepV_eq hi hbl] at hnm
        have := hI b hq hn
        rw [List.getElem?_eq_getElem hbl, Option.getD_some]
        omega
      · exact hI q hq hn)
    (fun g x f b hl hx hf hb hbl hI q hq hn => by
      rw [set_get g b q _ (by omega)]
      split
      · next e =>
        subst e
        obtain ⟨i, hi, rfl⟩ := List.getElem_of_mem hx
        obtain ⟨y, hy, hy1⟩ := lead_to hi hb hbl
        have := hI b hq hn
        rw [List.getElem?_eq_getElem hbl, Option.getD_some]
        by_cases hgf : Got ws f
        · have hnm : mayGate s h i b = false := by
            cases hm : mayGate s h i b
            · rfl
            · exact absurd (by have := w2 f hgf y hy (by rw [hy1]; exact hm); rwa [hy1] at this) hn
          unfold mayGate at hnm
          rw [decide_eq_false_iff_not, stepV_eq hi hbl] at hnm
          omega
        · have := hI f hf hgf
          omega
      · exact hI q hq hn)
    (fun q hq hn => by
      unfold top
      rw [List.getElem?_replicate, if_pos (by omega)]
      exact h9)
  by_cases hgp : Got ws p
  · exact hgp
  · have := key p hp hgp
    unfold gateOf at hg
    omega
theorem gate_got (ok : Ok s) {h : Int} (h0 : 0 ≤ h) (p : Nat) (hg : Got (waysOf s (mayGate s h)) p) : p < s.floors.length ∧ gateOf s p ≤ h := by
  refine ways_inv (P := fun t => t < s.floors.length ∧ gateOf s t ≤ h) (fun x hx hm => ⟨x.2.2, ?_⟩) (fun f hf x hx hm => ⟨x.2.2, ?_⟩) p hg
  · exact gate_lead ok (.inl rfl) hx h0 (of_decide_eq_true hm) (.inl rfl)
  · exact gate_lead ok (.inr ⟨f, rfl, hf.1⟩) hx h0 (of_decide_eq_true hm) (.inr (by rw [Int.toNat_natCast]; exact hf.2))

/-! ways -/
/-- the sills l lead to e over the places M, with the crest c -/
def FolTo (s : Sd) (l M : List Int) (e c : Int) : Prop := ∀ r, folS s (l ++ r) [] (-1) 0 = folS s r M e c
theorem FolTo.nil : FolTo s [] [] (-1) 0 := fun _ => rfl
theorem FolTo.snoc {l M : List Int} {e c : Int} (h : FolTo s l M e c) {i t : Nat} (hi : i < s.sills.length) (ht : t < s.floors.length) (ho : other s.sills[i] e = t) (hM : (t : Int) ∉ M) : FolTo s (l ++ [(i : Int)]) (M ++ [(t : Int)]) t (max c (max (s.sills[i]).2.2 s.floors[t])) := by
  intro r
  rw [List.append_assoc, h, List.singleton_append, folS_go (by rw [sillAt_nat i hi, ho]; rintro (h | h); omega; exact hM h), sillAt_nat i hi, ho, flAt_nat t ht]
theorem FolTo.val {l M : List Int} {e c : Int} (h : FolTo s l M e c) : folV s l = (e, c) := by
  have := h []
  rw [List.append_nil] at this
  unfold folV
  rw [this]
  rfl
/-- the crest of a list of sills is not below the gate of the place to which they lead -/
theorem fol_gate (ok : Ok s) : ∀ (l M : List Int) (e c : Int), l.all (isSi s) = true → 0 ≤ c → (e = -1 ∨ ∃ n : Nat, e = n ∧ n < s.floors.length ∧ gateOf s n ≤ c) → ∀ e' c', folS s l M e c = some (e', c') → c ≤ c' ∧ (e' = -1 ∨ ∃ n : Nat, e' = n ∧ n < s.floors.length ∧ gateOf s n ≤ c')
  | [], M, e, c, _, _, h, e', c', hr => by
    have : some (e, c) = some (e', c') := hr
    simp only [Option.some.injEq, Prod.mk.injEq] at this
    obtain ⟨rfl, rfl⟩ := this
    exact ⟨Int.le_refl _, h⟩
  | i :: r, M, e, c, ha, c0, h, e', c', hr => by
    by_cases hs : other (sillAt s i) e = -1 ∨ other (sillAt s i) e ∈ M
    · rw [folS_stop hs] at hr; cases hr
    · rw [folS_go hs] at hr
      simp only [List.all_cons, Bool.and_eq_true] at ha
      obtain ⟨i0, i1⟩ := inB_true.1 ha.1
      obtain ⟨n, rfl⟩ := Int.eq_ofNat_of_zero_le i0
      have hn : n < s.sills.length := by omega
      rw [sillAt_nat n hn] at hs hr
      rcases other_rng ok n hn e with ho | ⟨t, ho, ht⟩
      · exact absurd (.inl ho) hs
      · rw [ho, flAt_nat t ht] at hr
        obtain ⟨x, hx, hx1⟩ := lead_to hn ho ht
        have hx2 : x.1.1 = n := by rw [hx1]
        have hx3 : x.1.2 = t := by rw [hx1]
        have hh := ok.heights _ (List.getElem_mem hn)
        have hgt : gateOf s t ≤ max c (max (s.sills[n]).2.2 s.floors[t]) := by
          suffices hq : gateOf s x.1.2 ≤ max c (max (s.sills[n]).2.2 s.floors[t]) by rw [hx3] at hq; exact hq
          refine gate_lead ok ?_ hx (by omega) (by rw [hx2, hx3, stepV_eq hn ht]; omega) ?_
          · rcases h with h | ⟨m, h1, h2, -⟩
            · exact .inl h
            · exact .inr ⟨m, h1, h2⟩
          · rcases h with h | ⟨m, h1, -, h2⟩
            · exact .inl h
            · exact .inr (by rw [h1, Int.toNat_natCast]; omega)
        have := fol_gate ok r _ _ _ ha.2 (by omega) (.inr ⟨t, rfl, ht, hgt⟩) e' c' hr
        exact ⟨by omega, this.2⟩
theorem crest_gate (ok : Ok s) {p : Nat} {l : List Int} (ha : l.all (isSi s) = true) (he : (folV s l).1 = p) : gateOf s p ≤ (folV s l).2 := by
  unfold folV at *
  cases hf : folS s l [] (-1) 0 with
  | none =>
    rw [hf] at he
    have he' : (-1 : Int) = p := he
    omega
  | some z =>
    obtain ⟨e', c'⟩ := z
    rw [hf, Option.getD_some] at he
    rw [Option.getD_some]
    obtain ⟨-, h⟩ := fol_gate ok l [] (-1) 0 ha (by decide) (.inl rfl) e' c' hf
    dsimp only at he ⊢
    rcases h with h | ⟨n, h1, -, h3⟩
    · omega
    · obtain rfl : n = p := by omega
      exact h3
/-- what a way that was found is -/
def Fine (s : Sd) (h : Int) (ws : Ways) (t : Int) (l : List Int) : Prop :=
  ∃ M c, FolTo s l M t c ∧ 0 ≤ c ∧ c ≤ h ∧ l.all (isSi s) = true ∧ M.Nodup ∧ M.length = l.length ∧ ∀ y ∈ M, ∃ n : Nat, y = n ∧ n < s.floors.length ∧ Got ws n
theorem Fine.mono {h : Int} {ws ws' : Ways} {t : Int} {l : List Int} (k : Fine s h ws t l) (hg : ∀ n, Got ws n → Got ws' n) : Fine s h ws' t l := by
  obtain ⟨M, c, h1, h2, h3, h4, h5, h6, h7⟩ := k
  exact ⟨M, c, h1, h2, h3, h4, h5, h6, fun y hy => by obtain ⟨n, e1, e2, e3⟩ := h7 y hy; exact ⟨n, e1, e2, hg n e3⟩⟩
theorem led_fine (ok : Ok s) {h : Int} {f : Int} {way : List Int} : ∀ (l : List (Lead s.sills.length s.floors.length)) (st : Ways × List Int), (∀ x ∈ l, x ∈ leads s.sills s.floors.length f s.sills.length) → Fine s h st.1 f way →
    (∀ (t : Nat) l', st.1[t]? = some (some l') → Fine s h st.1 t l') → (∀ y ∈ st.2, ∃ n : Nat, y = n ∧ Got st.1 n) → ∀ Q, Q = l.foldl (leadW (mayGate s h) way) st →
    (∀ (t : Nat) l', Q.1[t]? = some (some l') → Fine s h Q.1 t l') ∧ (∀ y ∈ Q.2, ∃ n : Nat, y = n ∧ Got Q.1 n)
  | [], st, _, _, h2, h3, _, rfl => ⟨h2, h3⟩
  | x :: r, st, hx, h1, h2, h3, Q, hQ => by
    rw [List.foldl_cons] at hQ
    have hgot := fun t => leadW_got (may := mayGate s h) (way := way) st x t
    refine led_fine ok r _ (fun y hy => hx y (by simp [hy])) (h1.mono hgot) (fun t l' hl => ?_) (fun y hy => ?_) Q hQ
    · by_cases hc : st.1[x.1.2]? = some none ∧ mayGate s h x.1.1 x.1.2 = true
      · by_cases e : x.1.2 = t
        · have e1 : (leadW (mayGate s h) way st x).1 = st.1.set x.1.2 (some (way ++ [(x.1.1 : Int)])) := by unfold leadW; rw [if_pos hc]
          have hlt : x.1.2 < st.1.length := by
            have := (List.getElem?_eq_some_iff.1 hc.1).1
            exact this
          have hl2 := hl
          rw [e1, ← e, List.getElem?_set_self hlt] at hl2
          simp only [Option.some.injEq] at hl2
          subst hl2
          obtain ⟨M, c, k1, k2, k3, k4, k5, k6, k7⟩ := h1
          have ho := lead_other (hx x (by simp))
          have hM : (x.1.2 : Int) ∉ M := fun hm => by
            obtain ⟨n, e1, -, l, hl⟩ := k7 _ hm
            have : n = x.1.2 := by omega
            rw [this, hc.1] at hl
            cases hl
          have hst := of_decide_eq_true (p := stepV s x.1.1 x.1.2 ≤ h) hc.2
          rw [stepV_eq x.2.1 x.2.2] at hst
          rw [← e]
          refine ⟨M ++ [(x.1.2 : Int)], _, k1.snoc x.2.1 x.2.2 ho hM, by omega, by omega, ?_, ?_, by simp [k6], ?_⟩
          · rw [List.all_append, k4]
            simp [isSi, inB]
            have := x.2.1
            omega
          · rw [List.nodup_append]
            refine ⟨k5, by simp, fun a ha b hb => ?_⟩
            rw [List.mem_singleton] at hb
            rintro rfl
            exact hM (hb ▸ ha)
          · intro y hy
            rcases List.mem_append.1 hy with hy | hy
            · obtain ⟨n, e1, e2, e3⟩ := k7 y hy
              exact ⟨n, e1, e2, hgot n e3⟩
            · rw [List.mem_singleton] at hy
              refine ⟨x.1.2, hy, x.2.2, ?_⟩
              rw [e]
              exact ⟨_, hl⟩
        · have hl2 : st.1[t]? = some (some l') := by
            unfold leadW at hl
            rw [if_pos hc, show (st.1.set x.1.2 (some (way ++ [(x.1.1 : Int)])))[t]? = st.1[t]? from List.getElem?_set_ne e] at hl
            exact hl
          exact (h2 t l' hl2).mono hgot
      · unfold leadW at hl ⊢
        rw [if_neg hc] at hl ⊢
        exact h2 t l' hl
    · by_cases hc : st.1[x.1.2]? = some none ∧ mayGate s h x.1.1 x.1.2 = true
      · have e1 : (leadW (mayGate s h) way st x) = (st.1.set x.1.2 (some (way ++ [(x.1.1 : Int)])), st.2 ++ [(x.1.2 : Int)]) := by unfold leadW; rw [if_pos hc]
        have hy2 := hy
        rw [e1] at hy2
        rcases List.mem_append.1 hy2 with hy2 | hy2
        · obtain ⟨n, k1, k2⟩ := h3 y hy2
          exact ⟨n, k1, hgot n k2⟩
        · rw [List.mem_singleton] at hy2
          refine ⟨x.1.2, hy2, ?_⟩
          rw [e1]
          exact ⟨_, List.getElem?_set_self (List.getElem?_eq_some_iff.1 hc.1).1⟩
      · have e1 : (leadW (mayGate s h) way st x) = st := by unfold leadW; rw [if_neg hc]
        rw [e1] at hy ⊢
        exact h3 y hy
theorem goW_fine (ok : Ok s) {h : Int} : ∀ n (st : Ways × List Int), (∀ (t : Nat) l', st.1[t]? = some (some l') → Fine s h st.1 t l') → (∀ y ∈ st.2, ∃ n : Nat, y = n ∧ Got st.1 n) → ∀ Q, Q = goW s (mayGate s h) n st → ∀ (t : Nat) l', Q.1[t]? = some (some l') → Fine s h Q.1 t l'
  | 0, st, h1, _, _, rfl => h1
  | _ + 1, (ws, []), h1, _, _, rfl => h1
  | n + 1, (ws, x :: q), h1, h2, Q, hQ => by
    obtain ⟨f, rfl, l, hf⟩ := h2 x (by simp)
    have hw : wayAt ws (f : Int) = some l := by rw [wayAt_nat, hf]; rfl
    have k0 : Fine s h ws f ((wayAt ws (f : Int)).getD []) := by rw [hw]; exact h1 f l hf
    obtain ⟨k1, k2⟩ := led_fine ok (leads s.sills s.floors.length f s.sills.length) (ws, q) (fun _ h => h) k0 h1 (fun y hy => h2 y (by simp [hy])) _ rfl
    exact goW_fine ok n _ k1 k2 Q hQ
theorem ways_fine (ok : Ok s) {h : Int} (h0 : 0 ≤ h) (t : Nat) (l : List Int) (hl : (waysOf s (mayGate s h))[t]? = some (some l)) : Fine s h (waysOf s (mayGate s h)) t l := by
  have no : ∀ (t : Nat) l', (List.replicate 8 (none : Option (List Int)))[t]? ≠ some (some l') := fun t l' hl => by
    rw [List.getElem?_replicate] at hl
    split at hl <;> cases hl
  obtain ⟨k1, k2⟩ := led_fine ok (h := h) (f := -1) (way := []) (leads s.sills s.floors.length (-1) s.sills.length) (List.replicate 8 none, []) (fun _ h => h)
    ⟨[], 0, FolTo.nil, Int.le_refl _, h0, rfl, by simp, rfl, by simp⟩ (fun t l' h => absurd h (no t l')) (by simp) _ rfl
  exact goW_fine ok 8 _ k1 k2 _ rfl t l hl
theorem few_nat : ∀ (n : Nat) (M : List Int), M.Nodup → (∀ y ∈ M, ∃ k : Nat, y = k ∧ k < n) → M.length ≤ n
  | 0, M, _, hm => by
    cases M with
    | nil => exact Nat.le_refl _
    | cons y r => obtain ⟨k, -, hk⟩ := hm y (by simp); omega
  | n + 1, M, hd, hm => by
    by_cases h : (n : Int) ∈ M
    · have := few_nat n (M.erase (n : Int)) (hd.erase _) (fun y hy => by
        rw [hd.mem_erase_iff] at hy
        obtain ⟨k, rfl, hk⟩ := hm y hy.2
        have := hy.1
        exact ⟨k, rfl, by omega⟩)
      rw [List.length_erase_of_mem h] at this
      omega
    · have := few_nat n M hd (fun y hy => by
        obtain ⟨k, rfl, hk⟩ := hm y hy
        refine ⟨k, rfl, ?_⟩
        by_cases e : k = n
        · subst e; exact absurd hy h
        · omega)
      omega
/-- the way that is found to a place that has one -/
theorem wayV_fol (ok : Ok s) {p : Nat} (hp : p < s.floors.length) (hg : gateOf s p < 1050) (g0 : 0 ≤ gateOf s p) (he : errGate s p = 0) : (wayV s p).all (isSi s) = true ∧ folV s (wayV s p) = ((p : Int), gateOf s p) ∧ (wayV s p).length ≤ 8 := by
  obtain ⟨l, hl⟩ := way_got ok hg p hp (Int.le_refl _)
  have e : wayV s p = l := by
    unfold wayV
    rw [if_pos he, Int.toNat_natCast, wayAt_nat, hl]
    rfl
  obtain ⟨M, c, h1, h2, h3, h4, h5, h6, h7⟩ := ways_fine ok g0 p l hl
  have hv := h1.val
  have hc := crest_gate ok (p := p) h4 (by rw [hv])
  rw [hv] at hc
  dsimp only at hc
  have f8 := ok.fl1
  have := few_nat s.floors.length M h5 (fun y hy => by obtain ⟨n, e1, e2, -⟩ := h7 y hy; exact ⟨n, e1, e2⟩)
  rw [e]
  exact ⟨h4, by rw [hv]; congr 1; omega, by omega⟩
end
end Go.Proofs.Ytcljkkojeleakaa
/- Plain facts: the bank that is found holds off all ways to a place, and is as high as its gate; no bank is higher. -/
namespace Go.Proofs.Ytcljkkojeleakaa
open Go.RowKit
section
variable {s : Sd}
theorem errHold_ok {x : Int} {ss ps : List Int} (he : errFor s x = 0) (h1 : ss.all (isSi s) = true) (h2 : ps.all (isPl s) = true) (h3 : ss.Nodup) (h4 : ps.Nodup) (h5 : wayAt (waysOf s (mayHold ss ps)) x = none) (h6 : ¬ (ss = [] ∧ ps = [])) : errHold s x ss ps = 0 := by
  unfold errHold
  rw [if_pos he, if_pos ⟨h1, h2⟩, if_pos ⟨h3, h4⟩, if_pos h5, if_neg h6]
theorem of_errHold {x : Int} {ss ps : List Int} (h : errHold s x ss ps = 0) : errFor s x = 0 ∧ ss.all (isSi s) = true ∧ ps.all (isPl s) = true ∧ ss.Nodup ∧ ps.Nodup ∧ wayAt (waysOf s (mayHold ss ps)) x = none ∧ ¬ (ss = [] ∧ ps = []) := by
  unfold errHold at h
  split at h
  · next he =>
    split at h
    · next h1 =>
      split at h
      · next h2 =>
        split at h
        · next h3 =>
          split at h
          · cases h
          · next h4 => exact ⟨he, h1.1, h1.2, h2.1, h2.2, h3, h4⟩
        · cases h
      · cases h
    · cases h
  · next he => exact absurd h he
theorem leastS_ge {c h : Int} : ∀ l, c ≤ h → (∀ i ∈ l, c ≤ (s.sills[(i : Int).toNat]?.getD (0, 0, 0)).2.2) → c ≤ leastS s h l
  | [], hc, _ => hc
  | i :: r, hc, hl => by
    show c ≤ leastS s (min h (s.sills[i.toNat]?.getD (0, 0, 0)).2.2) r
    have := hl i (by simp)
    exact leastS_ge r (by omega) (fun j hj => hl j (by simp [hj]))
theorem leastF_ge {c h : Int} : ∀ l, c ≤ h → (∀ i ∈ l, c ≤ s.floors[(i : Int).toNat]?.getD 0) → c ≤ leastF s h l
  | [], hc, _ => hc
  | i :: r, hc, hl => by
    show c ≤ leastF s (min h (s.floors[i.toNat]?.getD 0)) r
    have := hl i (by simp)
    exact leastF_ge r (by omega) (fun j hj => hl j (by simp [hj]))
theorem leastS_mem {h : Int} : ∀ l, ∀ i ∈ l, leastS s h l ≤ (s.sills[(i : Int).toNat]?.getD (0, 0, 0)).2.2
  | i :: r, j, hj => by
    show leastS s (min h (s.sills[i.toNat]?.getD (0, 0, 0)).2.2) r ≤ _
    rcases List.mem_cons.1 hj with rfl | hj
    · have := leastS_le (s := s) (min h (s.sills[j.toNat]?.getD (0, 0, 0)).2.2) r
      omega
    · exact leastS_mem r j hj
theorem leastF_mem {h : Int} : ∀ l, ∀ i ∈ l, leastF s h l ≤ s.floors[(i : Int).toNat]?.getD 0
  | i :: r, j, hj => by
    show leastF s (min h (s.floors[i.toNat]?.getD 0)) r ≤ _
    rcases List.mem_cons.1 hj with rfl | hj
    · have := leastF_le (s := s) (min h (s.floors[j.toNat]?.getD 0)) r
      omega
    · exact leastF_mem r j hj
theorem got_more {may may' : Nat → Nat → Bool} (f8 : s.floors.length ≤ 8) (h : ∀ i t, i < s.sills.length → t < s.floors.length → may i t = true → may' i t = true) (t : Nat) (hg : Got (waysOf s may) t) : Got (waysOf s may') t := by
  obtain ⟨w1, w2, -⟩ := waysOf_shut (s := s) (may := may') f8
  exact ways_inv (P := Got (waysOf s may')) (fun x hx hm => w1 x hx (h _ _ x.2.1 x.2.2 hm)) (fun f hf x hx hm => w2 f hf x hx (h _ _ x.2.1 x.2.2 hm)) t hg
/-- no bank is higher than the gate -/
theorem hold_le (ok : Ok s) {p : Nat} (hp : p < s.floors.length) {ss ps : List Int} (h : errHold s p ss ps = 0) : holdV s p ss ps ≤ gateOf s p := by
  obtain ⟨h1, h2, h3, -, -, h6, -⟩ := of_errHold h
  have hv : holdV s p ss ps = leastF s (leastS s 999 ss) ps := by unfold holdV; rw [if_pos h]
  rw [hv]
  have h9 : leastF s (leastS s 999 ss) ps ≤ 999 := Int.le_trans (leastF_le _ _) (leastS_le _ _)
  by_cases hc : leastF s (leastS s 999 ss) ps ≤ gateOf s p
  · exact hc
  · refine absurd (got_more ok.fl1 ?_ p (way_got ok (h := gateOf s p) (by omega) p hp (Int.le_refl _))) (way_none.1 h6)
    intro i t hi ht hm
    have hst := of_decide_eq_true (p := stepV s i t ≤ gateOf s p) hm
    rw [stepV_eq hi ht] at hst
    unfold mayHold
    rw [Bool.and_eq_true, decide_eq_true_eq, decide_eq_true_eq]
    constructor
    · intro hm
      have k1 := leastS_mem (s := s) (h := 999) ss i hm
      have k2 := leastF_le (s := s) (leastS s 999 ss) ps
      rw [Int.toNat_natCast, List.getElem?_eq_getElem hi, Option.getD_some] at k1
      omega
    · intro hm
      have k1 := leastF_mem (s := s) (h := leastS s 999 ss) ps t hm
      rw [Int.toNat_natCast, List.getElem?_eq_getElem ht, Option.getD_some] at k1
      omega
/-- without a bank, just the places without a way are not reached -/
theorem hold_nil (ok : Ok s) {p : Nat} (hp : p < s.floors.length) (he : errFor s p = 0) : errHold s p [] [] = if gateOf s p < 1050 then 8 else 6 := by
  unfold errHold
  rw [if_pos he, if_pos ⟨rfl, rfl⟩, if_pos ⟨List.nodup_nil, List.nodup_nil⟩]
  split
  · next h =>
    rw [if_pos ⟨rfl, rfl⟩, if_neg]
    intro hg
    refine way_none.1 h (got_more ok.fl1 (fun i t _ _ _ => by simp [mayHold]) p (way_got ok (h := gateOf s p) hg p hp (Int.le_refl _)))
  · next h =>
    rw [if_pos]
    have hg : Got (waysOf s (mayHold [] [])) p := by
      by_cases k : Got (waysOf s (mayHold [] [])) p
      · exact k
      · exact absurd (way_none.2 k) h
    have := gate_got ok (h := 999) (by decide) p (got_more ok.fl1 (fun i t hi ht _ => by
      unfold mayGate
      rw [decide_eq_true_eq, stepV_eq hi ht]
      have := ok.heights _ (List.getElem_mem hi)
      have := ok.floors _ (List.getElem_mem ht)
      omega) p hg)
    omega

/-! the bank that is found -/
def bank1 (s : Sd) (h : Int) (st : List Bool × List Bool) (x : Lead s.sills.length s.floors.length) : List Bool × List Bool :=
  if gateOf s x.1.2 < h then st else if h ≤ (s.sills[x.1.1]'x.2.1).2.2 then (st.1.set x.1.1 true, st.2) else (st.1, st.2.set x.1.2 true)
def leaveW (s : Sd) (h : Int) (st : List Bool × List Bool) (f : Int) : List Bool × List Bool := (leads s.sills s.floors.length f s.sills.length).foldl (bank1 s h) st
def leaveP (s : Sd) (h : Int) (st : List Bool × List Bool) (p : Nat) : List Bool × List Bool := if gateOf s p < h then leaveW s h st p else st
def bankW (s : Sd) (h : Int) : List Bool × List Bool := (List.range s.floors.length).foldl (leaveP s h) (leaveW s h (List.replicate s.sills.length false, List.replicate s.floors.length false) (-1))
def markL (l : List Bool) : List Int := ((List.range l.length).filter fun i => l[i]?.getD false).map fun (i : Nat) => (i : Int)
def bankV (s : Sd) (h : Int) : List Int × List Int := (markL (bankW s h).1, markL (bankW s h).2)

def Sound (s : Sd) (h : Int) (st : List Bool × List Bool) : Prop :=
  st.1.length = s.sills.length ∧ st.2.length = s.floors.length ∧ (∀ i : Nat, st.1[i]? = some true → h ≤ (s.sills[i]?.getD (0, 0, 0)).2.2) ∧ (∀ t : Nat, st.2[t]? = some true → h ≤ s.floors[t]?.getD 0)
def Mark (st : List Bool × List Bool) (x : Nat × Nat) : Prop := st.1[x.1]? = some true ∨ st.2[x.2]? = some true
theorem set_true {l : List Bool} {j i : Nat} (h : l[i]? = some true) : (l.set j true)[i]? = some true := by
  rw [List.getElem?_set]
  split
  · next e =>
    subst e
    rw [if_pos (List.getElem?_eq_some_iff.1 h).1]
  · exact h
theorem bank1_mono {h : Int} {st : List Bool × List Bool} (x : Lead s.sills.length s.floors.length) {y : Nat × Nat} (k : Mark st y) : Mark (bank1 s h st x) y := by
  unfold bank1
  split
  · exact k
  · split
    · exact k.imp set_true id
    · exact k.imp id set_true
theorem leave_mono {h : Int} {y : Nat × Nat} : ∀ (l : List (Lead s.sills.length s.floors.length)) (st : List Bool × List Bool), Mark st y → Mark (l.foldl (bank1 s h) st) y
  | [], _, k => k
  | x :: r, st, k => leave_mono r _ (bank1_mono x k)
theorem bank1_sound (ok : Ok s) {h : Int} (h0 : 0 ≤ h) {f : Int} (hf : f = -1 ∨ ∃ n : Nat, f = n ∧ n < s.floors.length) (hg : f = -1 ∨ gateOf s f.toNat < h) {st : List Bool × List Bool} (k : Sound s h st) {x : Lead s.sills.length s.floors.length} (hx : x ∈ leads s.sills s.floors.length f s.sills.length) : Sound s h (bank1 s h st x) ∧ (h ≤ gateOf s x.1.2 → Mark (bank1 s h st x) x.1) := by
  obtain ⟨k1, k2, k3, k4⟩ := k
  have l1 := x.2.1
  have l2 := x.2.2
  have hst : ∀ (l : List Bool) (j i : Nat), (l.set j true)[i]? = some true → j = i ∨ l[i]? = some true := fun l j i hh => by
    rw [List.getElem?_set] at hh
    split at hh
    · next e => exact .inl e
    · exact .inr hh
  unfold bank1
  split
  · next hc => exact ⟨⟨k1, k2, k3, k4⟩, fun hh => by omega⟩
  · next hc =>
    split
    · next hs =>
      refine ⟨⟨by simp [k1], k2, fun i hi => ?_, k4⟩, fun _ => .inl ?_⟩
      · rcases hst _ _ _ hi with rfl | hi
        · rw [List.getElem?_eq_getElem l1]; exact hs
        · exact k3 i hi
      · show (st.1.set _ true)[_]? = _
        rw [List.getElem?_set_self (by rw [k1]; exact l1)]
    · next hs =>
      refine ⟨⟨k1, by simp [k2], k3, fun t ht => ?_⟩, fun _ => .inr ?_⟩
      · rcases hst _ _ _ ht with rfl | ht
        · rw [List.getElem?_eq_getElem l2, Option.getD_some]
          have hh := ok.heights _ (List.getElem_mem l1)
          by_cases hfl : h ≤ s.floors[x.1.2]'l2
          · exact hfl
          · have := gate_lead ok hf hx (h := h - 1) (by omega) (by rw [stepV_eq l1 l2]; omega) (by rcases hg with e | e; exact .inl e; exact .inr (by omega))
            omega
        · exact k4 t ht
      · show (st.2.set _ true)[_]? = _
        rw [List.getElem?_set_self (by rw [k2]; exact l2)]
theorem leave_sound (ok : Ok s) {h : Int} (h0 : 0 ≤ h) {f : Int} (hf : f = -1 ∨ ∃ n : Nat, f = n ∧ n < s.floors.length) (hg : f = -1 ∨ gateOf s f.toNat < h) : ∀ (l : List (Lead s.sills.length s.floors.length)) (st : List Bool × List Bool), Sound s h st → (∀ x ∈ l, x ∈ leads s.sills s.floors.length f s.sills.length) →
    Sound s h (l.foldl (bank1 s h) st) ∧ ∀ x ∈ l, h ≤ gateOf s x.1.2 → Mark (l.foldl (bank1 s h) st) x.1
  | [], st, k, _ => ⟨k, fun x hx => by simp at hx⟩
  | y :: r, st, k, hl => by
    obtain ⟨k1, k2⟩ := bank1_sound ok h0 hf hg k (hl y (by simp))
    obtain ⟨k3, k4⟩ := leave_sound ok h0 hf hg r _ k1 (fun x hx => hl x (by simp [hx]))
    refine ⟨k3, fun x hx hx2 => ?_⟩
    rcases List.mem_cons.1 hx with rfl | hx
    · exact leave_mono r _ (k2 hx2)
    · exact k4 x hx hx2
/-- where the places with lower gates are left -/
theorem bank_sound (ok : Ok s) {h : Int} (h0 : 0 ≤ h) : Sound s h (bankW s h) ∧ ∀ (f : Int), (f = -1 ∨ ∃ n : Nat, f = n ∧ n < s.floors.length ∧ gateOf s n < h) → ∀ x ∈ leads s.sills s.floors.length f s.sills.length, h ≤ gateOf s x.1.2 → Mark (bankW s h) x.1 := by
  have st0 : Sound s h (List.replicate s.sills.length false, List.replicate s.floors.length false) := by
    refine ⟨by simp, by simp, fun i hi => ?_, fun i hi => ?_⟩ <;>
    · rw [List.getElem?_replicate] at hi
      split at hi <;> cases hi
  obtain ⟨a1, a2⟩ := leave_sound ok h0 (f := -1) (.inl rfl) (.inl rfl) _ _ st0 (fun _ h => h)
  have mono : ∀ (l : List Nat) (st : List Bool × List Bool) (y : Nat × Nat), Mark st y → Mark (l.foldl (leaveP s h) st) y := by
    intro l
    induction l with
    | nil => exact fun _ _ k => k
    | cons p r ih =>
      intro st y k
      refine ih _ y ?_
      unfold leaveP
      split
      · exact leave_mono _ _ k
      · exact k
  have key : ∀ (l : List Nat) (st : List Bool × List Bool), (∀ p ∈ l, p < s.floors.length) → Sound s h st → Sound s h (l.foldl (leaveP s h) st) ∧ ∀ p ∈ l, gateOf s p < h → ∀ x ∈ leads s.sills s.floors.length p s.sills.length, h ≤ gateOf s x.1.2 → Mark (l.foldl (leaveP s h) st) x.1 := by
    intro l
    induction l with
    | nil => exact fun _ _ k => ⟨k, fun p hp => by simp at hp⟩
    | cons p r ih =>
      intro st hl k
      have hone : Sound s h (leaveP s h st p) ∧ (gateOf s p < h → ∀ x ∈ leads s.sills s.floors.length p s.sills.length, h ≤ gateOf s x.1.2 → Mark (leaveP s h st p) x.1) := by
        unfold leaveP
        split
        · next hc =>
          obtain ⟨b1, b2⟩ := leave_sound ok h0 (f := p) (.inr ⟨p, rfl, hl p (by simp)⟩) (.inr (by rw [Int.toNat_natCast]; exact hc)) _ _ k (fun _ h => h)
          exact ⟨b1, fun _ => b2⟩
        · next hc => exact ⟨k, fun hh => absurd hh hc⟩
      obtain ⟨c1, c2⟩ := ih (leaveP s h st p) (fun q hq => hl q (by simp [hq])) hone.1
      refine ⟨c1, fun q hq hg x hx hx2 => ?_⟩
      rcases List.mem_cons.1 hq with rfl | hq
      · exact mono r _ _ (hone.2 hg x hx hx2)
      · exact c2 q hq hg x hx hx2
  obtain ⟨d1, d2⟩ := key (List.range s.floors.length) _ (fun p hp => List.mem_range.1 hp) a1
  refine ⟨d1, fun f hf x hx hx2 => ?_⟩
  rcases hf with rfl | ⟨n, rfl, h1, h2⟩
  · exact mono _ _ _ (a2 x hx hx2)
  · exact d2 n (List.mem_range.2 h1) h2 x hx hx2
theorem mem_markL {l : List Bool} {i : Nat} : (i : Int) ∈ markL l ↔ l[i]? = some true := by
  unfold markL
  rw [List.mem_map]
  constructor
  · rintro ⟨j, hj, e⟩
    obtain rfl : j = i := by omega
    rw [List.mem_filter, List.mem_range] at hj
    rw [List.getElem?_eq_getElem hj.1] at hj ⊢
    rw [Option.getD_some] at hj
    rw [hj.2]
  · intro h
    refine ⟨i, ?_, rfl⟩
    rw [List.mem_filter, List.mem_range, h]
    exact ⟨(List.getElem?_eq_some_iff.1 h).1, rfl⟩
theorem markL_lt {l : List Bool} : ∀ y ∈ markL l, ∃ i : Nat, y = i ∧ i < l.length := by
  intro y hy
  unfold markL at hy
  obtain ⟨i, hi, rfl⟩ := List.mem_map.1 hy
  exact ⟨i, rfl, List.mem_range.1 (List.mem_filter.1 hi).1⟩
theorem markL_up (l : List Bool) : (markL l).Pairwise (· < ·) := by
  unfold markL
  rw [List.pairwise_map]
  refine List.Pairwise.imp ?_ (List.Pairwise.filter _ List.pairwise_lt_range)
  intro a b h
  omega
theorem markL_nodup (l : List Bool) : (markL l).Nodup := (markL_up l).imp (fun h => by omega)
theorem markL_len (l : List Bool) : (markL l).length ≤ l.length := by
  unfold markL
  rw [List.length_map]
  exact Nat.le_trans (List.length_filter_le _ _) (by simp)
/-- the bank of a place with a way: it holds, and is as high as the gate -/
theorem bank_holds (ok : Ok s) {p : Nat} (hp : p < s.floors.length) (he : errFor s p = 0) (g0 : 0 ≤ gateOf s p) (hg : gateOf s p < 1050) :
    errHold s p (bankV s (gateOf s p)).1 (bankV s (gateOf s p)).2 = 0 ∧ holdV s p (bankV s (gateOf s p)).1 (bankV s (gateOf s p)).2 = gateOf s p := by
  obtain ⟨⟨k1, k2, k3, k4⟩, k5⟩ := bank_sound ok g0
  have e1 : (bankV s (gateOf s p)).1 = markL (bankW s (gateOf s p)).1 := rfl
  have e2 : (bankV s (gateOf s p)).2 = markL (bankW s (gateOf s p)).2 := rfl
  rw [e1, e2]
  generalize bankW s (gateOf s p) = st at *
  have hno : ¬ Got (waysOf s (mayHold (markL st.1) (markL st.2))) p := by
    intro h
    have : p < s.floors.length ∧ gateOf s p < gateOf s p := by
      refine ways_inv (P := fun t => t < s.floors.length ∧ gateOf s t < gateOf s p) (fun x hx hm => ⟨x.2.2, ?_⟩) (fun f hf x hx hm => ⟨x.2.2, ?_⟩) p h
      · unfold mayHold at hm
        simp only [Bool.and_eq_true, decide_eq_true_eq, mem_markL] at hm
        by_cases hc : gateOf s x.1.2 < gateOf s p
        · exact hc
        · rcases k5 (-1) (.inl rfl) x hx (by omega) with k | k
          · exact absurd k hm.1
          · exact absurd k hm.2
      · unfold mayHold at hm
        simp only [Bool.and_eq_true, decide_eq_true_eq, mem_markL] at hm
        by_cases hc : gateOf s x.1.2 < gateOf s p
        · exact hc
        · rcases k5 f (.inr ⟨f, rfl, hf.1, hf.2⟩) x hx (by omega) with k | k
          · exact absurd k hm.1
          · exact absurd k hm.2
    omega
  have hE : errHold s p (markL st.1) (markL st.2) = 0 := by
    refine errHold_ok he ?_ ?_ (markL_nodup _) (markL_nodup _) (way_none.2 hno) ?_
    · rw [List.all_eq_true]
      intro y hy
      obtain ⟨i, rfl, hi⟩ := markL_lt y hy
      exact inB_true.2 (by omega)
    · rw [List.all_eq_true]
      intro y hy
      obtain ⟨i, rfl, hi⟩ := markL_lt y hy
      exact inB_true.2 (by omega)
    · rintro ⟨h1, h2⟩
      rw [h1, h2] at hno
      exact hno (got_more ok.fl1 (fun i t _ _ _ => by simp [mayHold]) p (way_got ok (h := gateOf s p) hg p hp (Int.le_refl _)))
  refine ⟨hE, ?_⟩
  have hle := hold_le ok hp hE
  have hv : holdV s p (markL st.1) (markL st.2) = leastF s (leastS s 999 (markL st.1)) (markL st.2) := by unfold holdV; rw [if_pos hE]
  have h9 := gate_got ok (h := 999) (by decide) p (got_more ok.fl1 (fun i t hi ht _ => by
    unfold mayGate
    rw [decide_eq_true_eq, stepV_eq hi ht]
    have := ok.heights _ (List.getElem_mem hi)
    have := ok.floors _ (List.getElem_mem ht)
    omega) p (way_got ok (h := gateOf s p) hg p hp (Int.le_refl _)))
  have hge : gateOf s p ≤ leastF s (leastS s 999 (markL st.1)) (markL st.2) := by
    refine leastF_ge _ (leastS_ge _ h9.2 ?_) ?_
    · intro y hy
      obtain ⟨i, rfl, -⟩ := markL_lt y hy
      rw [Int.toNat_natCast]
      exact k3 i (mem_markL.1 hy)
    · intro y hy
      obtain ⟨i, rfl, -⟩ := markL_lt y hy
      rw [Int.toNat_natCast]
      exact k4 i (mem_markL.1 hy)
  omega
end
end Go.Proofs.Ytcljkkojeleakaa
/- The reference's State. -/
namespace Go.Proofs.Ytcljkkojeleakaa
open Go.RowKit Go.Shelf

/-- what the reference's State answers -/
def stR (s : Sd) (h g : Int) : Int := if g < h + s.lo then 2 else if g < h + s.hi then 1 else 0
section
variable {pT pF pS : Option Addr} {cT cF cS : Nat}
set_option maxRecDepth 100000 in
set_option maxHeartbeats 1000000 in
theorem refState_c (s : Sd) (h g : Int) (w : World) (ok : Ok s) (h0 : 0 ≤ h) (h1 : h ≤ 999) (g0 : -100000 ≤ g) (g1 : g ≤ 100000) :
    Calls Try.prog 40 #[sdVal s pT pF pS cT cF cS, .int .i64 h, .int .i64 g] w fun e w' => e = .returned (.int .i64 (stR s h g)) ∧ Up w w' := by
  have b0 := ok.lo0
  have b1 := ok.hi1
  have b2 := ok.lohi
  clear ok
  unfold sdVal
  go_enter Try.func40, Try.ntmps40
  go_wp2_with fail
  have BS : Hid (Blk (w.alloc (.cells #[.slice pT s.table.length cT, .int .i64 s.lo, .int .i64 s.hi, .slice pF s.floors.length cF, .slice pS s.sills.length cS] 37)) w.heap.size (sdCells s pT pF pS cT cF cS) 37) := Lib.hid (Blk.new w (sdCells s pT pF pS cT cF cS) 37)
  have U0 : Hid (Up w (w.alloc (.cells #[.slice pT s.table.length cT, .int .i64 s.lo, .int .i64 s.hi, .slice pF s.floors.length cF, .slice pS s.sills.length cS] 37))) := Lib.hid (by (repeat (first | exact Below.refl _ _ | (with_reducible refine Below.drewN' ?_ _) | (with_reducible refine Below.drew ?_) | (with_reducible refine Below.setCell ?_ (by first | exact Nat.le_refl _ | omega | (with_reducible (repeat (first | refine sz_alloc ?_ | refine sz_setCell ?_ | refine sz_drew ?_ | refine sz_drewN ?_)); first | exact Nat.le_refl _ | omega) | (simp only [World.size_alloc, World.size_setCell, World.size_drew, size_drewN']; omega)) _) | (with_reducible refine Below.alloc ?_ (by first | exact Nat.le_refl _ | omega | (with_reducible (repeat (first | refine sz_alloc ?_ | refine sz_setCell ?_ | refine sz_drew ?_ | refine sz_drewN ?_)); first | exact Nat.le_refl _ | omega) | (simp only [World.size_alloc, World.size_setCell, World.size_drew, size_drewN']; omega)) _) | assumption)))
  generalize (w.alloc (.cells #[.slice pT s.table.length cT, .int .i64 s.lo, .int .i64 s.hi, .slice pF s.floors.length cF, .slice pS s.sills.length cS] 37)) = w0 at *
  go_loopw [9, 8, 7] (fun i va vb wr => ∃ x a b : Int, i = .int .i64 x ∧ va = .int .i64 a ∧ vb = .int .i64 b ∧ s.lo ≤ x ∧ x ≤ s.hi + 1 ∧ a = max 0 (x - max s.lo (g - h + 1)) ∧ b = x - s.lo - a ∧ Up w0 wr) (fun i _ _ _ => (s.hi + 1 - intOf i).toNat)
  case atStart => exact ⟨s.lo, 0, 0, rfl, rfl, rfl, by omega, by omega, by omega, by omega, Below.refl _ _⟩
  case round =>
    obtain ⟨x, a, b, rfl, rfl, rfl, x0, x1, ha, hb, hu⟩ := hrel
    have HU := Lib.hid hu
    obtain ⟨c0, c1, c2, c3, c4⟩ := five (BS.out.up hu)
    clear hu
    have a0 : 0 ≤ a := by omega
    have a1 : a ≤ 101 := by omega
    have d0 : 0 ≤ b := by omega
    have d1 : b ≤ 101 := by omega
    by_cases hlt : x ≤ s.hi
    · have sx : IntKind.i64.wrap (h + x) = h + x := IntWalk.i64_in _ (by omega)
      have sy : IntKind.i64.wrap (x + 1) = x + 1 := IntWalk.i64_in _ (by omega)
      by_cases hg : g < h + x
      · have sw : IntKind.i64.wrap (a + 1) = a + 1 := IntWalk.i64_in _ (by omega)
        have r1 : a + 1 = max 0 (x + 1 - max s.lo (g - h + 1)) := by omega
        have r2 : b = x + 1 - s.lo - (a + 1) := by omega
        have R := Lib.hid (And.intro r1 r2)
        clear ha hb r1 r2
        go_wp2_with fail
        go_roundw
        case rel =>
          try ((repeat apply Exists.intro); refine ⟨?_, rfl⟩)
          exact ⟨x + 1, a + 1, b, rfl, rfl, rfl, by omega, by omega, R.out.1, R.out.2, HU.out⟩
        case measure => simp [intOf]; omega
      · have sw : IntKind.i64.wrap (b + 1) = b + 1 := IntWalk.i64_in _ (by omega)
        have r1 : a = max 0 (x + 1 - max s.lo (g - h + 1)) := by omega
        have r2 : b + 1 = x + 1 - s.lo - a := by omega
        have R := Lib.hid (And.intro r1 r2)
        clear ha hb r1 r2
        go_wp2_with fail
        go_roundw
        case rel =>
          try ((repeat apply Exists.intro); refine ⟨?_, rfl⟩)
          exact ⟨x + 1, a, b + 1, rfl, rfl, rfl, by omega, by omega, R.out.1, R.out.2, HU.out⟩
        case measure => simp [intOf]; omega
    · by_cases ha0 : a = 0
      · have hr : Hid (stR s h g = 0) := by show _ = _; unfold stR; rw [if_neg (by omega), if_neg (by omega)]
        have hn : (a == 0) = true := by rw [ha0]; rfl
        clear ha hb ha0
        go_wp2_with fail
        go_ret
        exact ⟨by rw [hr.out]; rfl, Up.trans U0.out HU.out⟩
      · have hn : (a == 0) = false := beq_eq_false_iff_ne.2 ha0
        by_cases hb0 : b = 0
        · have hr : Hid (stR s h g = 2) := by show _ = _; unfold stR; rw [if_pos (by omega)]
          have hn2 : (b == 0) = true := by rw [hb0]; rfl
          clear ha hb hb0
          go_wp2_with fail
          go_ret
          exact ⟨by rw [hr.out]; rfl, Up.trans U0.out HU.out⟩
        · have hr : Hid (stR s h g = 1) := by show _ = _; unfold stR; rw [if_neg (by omega), if_pos (by omega)]
          have hn2 : (b == 0) = false := beq_eq_false_iff_ne.2 hb0
          clear ha hb
          go_wp2_with fail
          go_ret
          exact ⟨by rw [hr.out]; rfl, Up.trans U0.out HU.out⟩
end
end Go.Proofs.Ytcljkkojeleakaa
/- The reference's Says. -/
namespace Go.Proofs.Ytcljkkojeleakaa
open Go.RowKit Go.Shelf

/-- rows of truths -/
def bools (l : List Bool) : List (List Value) := l.map fun b => [.bool b]
theorem flatOk_bools (l : List Bool) : flatOk 1 (bools l) = true := by simp [flatOk, bools]
theorem Row.bool {w : World} {p : Option Addr} {l : List Bool} (h : Row w p 1 (bools l)) (i : Nat) (hi : i < l.length) :
    ∃ b off, p = some ⟨b, off, none⟩ ∧ w.cell? ⟨b, off + i, none⟩ = some (.bool l[i]) := by
  obtain ⟨b, off, hp, hc⟩ := h i [.bool l[i]] (by simp [bools, hi])
  exact ⟨b, off, hp, by simpa using hc 0 _ rfl⟩
theorem infoB : (Try.prog.info? 4).map (fun i => (i.zero, i.size, i.bytes)) = some (some (.bool false), 1, 1) := by kernel_rfl

/-- whether the reference has the state x in the minute that is i behind the first -/
def sayR (s : Sd) (g x : Int) (i : Nat) : Bool := stR s (hgt s.table (firstM s.table + (i : Nat))) g == x
def saysR (s : Sd) (g x : Int) : List Bool := (List.range (dayN s)).map (sayR s g x)
theorem saysR_len (s : Sd) (g x : Int) : (saysR s g x).length = dayN s := by simp [saysR]
section
variable {pT pF pS : Option Addr} {cT cF cS : Nat}
set_option maxRecDepth 100000 in
set_option maxHeartbeats 1000000 in
theorem refSays_c (s : Sd) (g x : Int) (w : World) (ok : Ok s) (hl : Lists w s pT pF pS cT cF cS) (g0 : -100000 ≤ g) (g1 : g ≤ 100000) :
    Calls Try.prog 45 #[sdVal s pT pF pS cT cF cS, .int .i64 g, .int .i64 x] w fun e w' => ∃ q d, e = .returned (.slice q (saysR s g x).length d) ∧ (saysR s g x).length ≤ d ∧ d ≤ maxLen ∧ Row w' q 1 (bools (saysR s g x)) ∧ Up w w' := by
  obtain ⟨f0, f1, f2⟩ := firstM_lt ok.table
  have hn : ((dayN s : Nat) : Int) = lastM s.table - firstM s.table + 1 := by unfold dayN; omega
  have HH := Lib.hid (fun W (u : Up w W) => refHeights_c s W ok (hl.up u))
  have HS := Lib.hid (fun (i : Nat) W => refState_c (pT := pT) (pF := pF) (pS := pS) (cT := cT) (cF := cF) (cS := cS) s (hgt s.table (firstM s.table + (i : Nat))) g W ok (hgt_rng ok.table _ (by omega)).1 (hgt_rng ok.table _ (by omega)).2 g0 g1)
  obtain ⟨i0, hi, hz0, hz1, hz2⟩ := info_parts infoB
  clear hl ok
  rw [saysR_len]
  unfold sdVal at *
  go_enter Try.func45, Try.ntmps45
  go_wp2_with fail
  have BS : Hid (Blk (w.alloc (.cells #[.slice pT s.table.length cT, .int .i64 s.lo, .int .i64 s.hi, .slice pF s.floors.length cF, .slice pS s.sills.length cS] 37)) w.heap.size (sdCells s pT pF pS cT cF cS) 37) := Lib.hid (Blk.new w (sdCells s pT pF pS cT cF cS) 37)
  have U0 : Hid (Up w (w.alloc (.cells #[.slice pT s.table.length cT, .int .i64 s.lo, .int .i64 s.hi, .slice pF s.floors.length cF, .slice pS s.sills.length cS] 37))) := Lib.hid (by (repeat (first | exact Below.refl _ _ | (with_reducible refine Below.drewN' ?_ _) | (with_reducible refine Below.drew ?_) | (with_reducible refine Below.setCell ?_ (by first | exact Nat.le_refl _ | omega | (with_reducible (repeat (first | refine sz_alloc ?_ | refine sz_setCell ?_ | refine sz_drew ?_ | refine sz_drewN ?_)); first | exact Nat.le_refl _ | omega) | (simp only [World.size_alloc, World.size_setCell, World.size_drew, size_drewN']; omega)) _) | (with_reducible refine Below.alloc ?_ (by first | exact Nat.le_refl _ | omega | (with_reducible (repeat (first | refine sz_alloc ?_ | refine sz_setCell ?_ | refine sz_drew ?_ | refine sz_drewN ?_)); first | exact Nat.le_refl _ | omega) | (simp only [World.size_alloc, World.size_setCell, World.size_drew, size_drewN']; omega)) _) | assumption)))
  generalize (w.alloc (.cells #[.slice pT s.table.length cT, .int .i64 s.lo, .int .i64 s.hi, .slice pF s.floors.length cF, .slice pS s.sills.length cS] 37)) = w0 at *
  refine (HH.out w0 U0.out).mono ?_
  rintro e w1 ⟨qh, dh, rfl, -, -, rh, -, u1⟩
  have U1 := Lib.hid u1
  have RH := Lib.hid rh
  have hs1 := u1.size
  rw [heightsR_len]
  clear u1 rh
  obtain ⟨dn, hdd⟩ : ∃ dn, dayN s = dn := ⟨_, rfl⟩
  have HDD := Lib.hid hdd
  rw [hdd] at hn ⊢
  have hd9 : dn ≤ 1441 := by omega
  clear hdd hn
  go_wp2_with fail
  go_loopw [9, 7] (fun i v wr => ∃ k : Nat, k ≤ dn ∧ i = .int .i64 k ∧ wr.ownsRow w1.heap.size 4 1 v k (bools ((List.range k).map (sayR s g x))).flatten ∧ Up w1 wr) (fun i _ _ => dn - (intOf i).toNat)
  case atStart => exact ⟨0, by omega, rfl, World.ownsRow_nil _ _ _ _, Below.refl _ _⟩
  case round =>
    obtain ⟨k, hk, rfl, hown, hu⟩ := hrel
    have HO := Lib.hid hown
    have HU := Lib.hid hu
    obtain ⟨c0, c1, c2, c3, c4⟩ := five (BS.out.up (Up.trans U1.out hu))
    clear hown hu
    by_cases hlt : k < dn
    · have k1 : (k : Int) < dn := by omega
      obtain ⟨bh, oh, rfl, hc1⟩ := RH.out.int k (by rw [heightsR_len, HDD.out]; exact hlt)
      have hv : (heightsR s)[k]'(by rw [heightsR_len, HDD.out]; exact hlt) = hgt s.table (firstM s.table + (k : Nat)) := by simp [heightsR]
      rw [hv] at hc1
      have hc := HU.out.cellAt hc1
      clear hv
      have SY := Lib.hid (show (stR s (hgt s.table (firstM s.table + (k : Nat))) g == x) = sayR s g x k from rfl)
      have HSk := Lib.hid (HS.out k)
      generalize stR s (hgt s.table (firstM s.table + (k : Nat))) g = sv at *
      generalize hgt s.table (firstM s.table + (k : Nat)) = hv at *
      have k1 : (k : Int) < dn := by omega
      have hsz := HU.out.size
      go_upto_region 6 with fail
      refine region_tail (fun W' => W'.cell? ⟨w.heap.size, 0, none⟩ = some (.slice pT s.table.length cT) ∧ W'.cell? ⟨w.heap.size, 1, none⟩ = some (.int .i64 s.lo) ∧ W'.cell? ⟨w.heap.size, 2, none⟩ = some (.int .i64 s.hi) ∧ W'.cell? ⟨w.heap.size, 3, none⟩ = some (.slice pF s.floors.length cF) ∧ W'.cell? ⟨w.heap.size, 4, none⟩ = some (.slice pS s.sills.length cS) ∧ W'.cell? ⟨bh, oh + k, none⟩ = some (.int .i64 hv)) 12 mixed (by kernel_rfl) ⟨c0, c1, c2, c3, c4, hc⟩ (fun hHeld => ?_)
      refine wpAnyG_take 0 18 (v := ?_) rfl rfl (by kernel_rfl) (fun _ _ _ h => h) (Or.inl ⟨by rfl, ?_⟩) (by assumption) ?_
      rotate_left
      · (intro w' hSw; (try dsimp only at hSw); go_split_ands; go_simp; try with_reducible rfl)
      try simp only [List.setIfInBounds_toArray, List.set_cons_zero, List.set_cons_succ]
      refine wpAnyG_take 1 19 (v := ?_) rfl rfl (by kernel_rfl) (fun _ _ _ h => h) (Or.inl ⟨by rfl, ?_⟩) (by assumption) ?_
      rotate_left
      · (intro w' hSw; (try dsimp only at hSw); go_split_ands; go_simp; try with_reducible rfl)
      try simp only [List.setIfInBounds_toArray, List.set_cons_zero, List.set_cons_succ]
      refine wpAnyG_take 2 20 (v := ?_) rfl rfl (by kernel_rfl) (fun _ _ _ h => h) (Or.inl ⟨by rfl, ?_⟩) (by assumption) ?_
      rotate_left
      · (intro w' hSw; (try dsimp only at hSw); go_split_ands; go_simp; try with_reducible rfl)
      try simp only [List.setIfInBounds_toArray, List.set_cons_zero, List.set_cons_succ]
      refine wpAnyG_take 3 21 (v := ?_) rfl rfl (by kernel_rfl) (fun _ _ _ h => h) (Or.inl ⟨by rfl, ?_⟩) (by assumption) ?_
      rotate_left
      · (intro w' hSw; (try dsimp only at hSw); go_split_ands; go_simp; try with_reducible rfl)
      try simp only [List.setIfInBounds_toArray, List.set_cons_zero, List.set_cons_succ]
      refine wpAnyG_take 4 22 (v := ?_) rfl rfl (by kernel_rfl) (fun _ _ _ h => h) (Or.inl ⟨by rfl, ?_⟩) (by assumption) ?_
      rotate_left
      · (intro w' hSw; (try dsimp only at hSw); go_split_ands; go_simp; try with_reducible rfl)
      try simp only [List.setIfInBounds_toArray, List.set_cons_zero, List.set_cons_succ]
      refine wpAnyG_take 5 23 (v := ?_) rfl rfl (by kernel_rfl) (fun _ _ _ h => h) (Or.inl ⟨by rfl, ?_⟩) (by assumption) ?_
      rotate_left
      · (intro w' hSw; (try dsimp only at hSw); go_split_ands; go_simp; try with_reducible rfl)
      try simp only [List.setIfInBounds_toArray, List.set_cons_zero, List.set_cons_succ]
      refine wpAnyG_take 6 24 (v := ?_) rfl rfl (by kernel_rfl) (fun _ _ _ h => h) (Or.inl ⟨by rfl, ?_⟩) (by assumption) ?_
      rotate_left
      · (intro w' hSw; (try dsimp only at hSw); go_split_ands; go_simp; try with_reducible rfl)
      try simp only [List.setIfInBounds_toArray, List.set_cons_zero, List.set_cons_succ]
      refine wpAnyG_take 8 26 (v := ?_) rfl rfl (by kernel_rfl) (fun _ _ _ h => h) (Or.inl ⟨by rfl, ?_⟩) (by assumption) ?_
      rotate_left
      · (intro w' hSw; (try dsimp only at hSw); go_split_ands; go_simp; try with_reducible rfl)
      try simp only [List.setIfInBounds_toArray, List.set_cons_zero, List.set_cons_succ]
      refine wpAnyG_do 7 rfl (by kernel_rfl) (fun K hK => ?_)
      rw [if_pos (by rfl)]
      go_simp
      refine (HSk.out _).mono ?_
      rintro e w2 ⟨rfl, u2⟩
      have v2 : Up wr w2 := Up.trans (by (repeat (first | exact Below.refl _ _ | (with_reducible refine Below.drewN' ?_ _) | (with_reducible refine Below.drew ?_) | (with_reducible refine Below.setCell ?_ (by first | exact Nat.le_refl _ | omega | (with_reducible (repeat (first | refine sz_alloc ?_ | refine sz_setCell ?_ | refine sz_drew ?_ | refine sz_drewN ?_)); first | exact Nat.le_refl _ | omega) | (simp only [World.size_alloc, World.size_setCell, World.size_drew, size_drewN']; omega)) _) | (with_reducible refine Below.alloc ?_ (by first | exact Nat.le_refl _ | omega | (with_reducible (repeat (first | refine sz_alloc ?_ | refine sz_setCell ?_ | refine sz_drew ?_ | refine sz_drewN ?_)); first | exact Nat.le_refl _ | omega) | (simp only [World.size_alloc, World.size_setCell, World.size_drew, size_drewN']; omega)) _) | assumption))) u2
      refine hK.out _ _ ⟨v2.cellAt c0, v2.cellAt c1, v2.cellAt c2, v2.cellAt c3, v2.cellAt c4, v2.cellAt hc⟩ (fun hHeld => ?_)
      clear hK K
      refine wpAnyG_take 9 27 (v := .bool (sv == x)) rfl rfl (by kernel_rfl) (fun _ _ _ h => h) (Or.inl ⟨by rfl, ?_⟩) (by assumption) ?_
      · intro w' _
        go_simp
      try simp only [List.setIfInBounds_toArray, List.set_cons_zero, List.set_cons_succ]
      refine wpAnyG_do 10 rfl (by kernel_rfl) (fun K hK => ?_)
      rw [if_pos (by rfl)]
      go_simp
      have U2 := Lib.hid (Up.trans HU.out v2)
      have hsz2 := v2.size
      have v3 : Up wr (w2.alloc (.cells #[.bool (sv == x)] 4)) := Up.trans v2 (by (repeat (first | exact Below.refl _ _ | (with_reducible refine Below.drewN' ?_ _) | (with_reducible refine Below.drew ?_) | (with_reducible refine Below.setCell ?_ (by first | exact Nat.le_refl _ | omega | (with_reducible (repeat (first | refine sz_alloc ?_ | refine sz_setCell ?_ | refine sz_drew ?_ | refine sz_drewN ?_)); first | exact Nat.le_refl _ | omega) | (simp only [World.size_alloc, World.size_setCell, World.size_drew, size_drewN']; omega)) _) | (with_reducible refine Below.alloc ?_ (by first | exact Nat.le_refl _ | omega | (with_reducible (repeat (first | refine sz_alloc ?_ | refine sz_setCell ?_ | refine sz_drew ?_ | refine sz_drewN ?_)); first | exact Nat.le_refl _ | omega) | (simp only [World.size_alloc, World.size_setCell, World.size_drew, size_drewN']; omega)) _) | assumption)))
      have O3 := Lib.hid ((ownsRow_up HO.out v2).alloc (.cells #[.bool (sv == x)] 4))
      refine hK.out _ _ ⟨v3.cellAt c0, v3.cellAt c1, v3.cellAt c2, v3.cellAt c3, v3.cellAt c4, v3.cellAt hc⟩ (fun hHeld => ?_)
      clear hK K
      refine wpAnyG_do 11 rfl (by kernel_rfl) (fun K hK => ?_)
      rw [if_pos (by rfl)]
      refine wp_append_own _ _ _ 72 rfl w1.heap.size 4 i0 (.bool false) 1 1 Try.underlying72 hi hz0 hz1 hz2 rfl (by decide) _ k _ rfl O3.out ⟨w2.heap.size, 0, none⟩ 1 1 [.bool (sv == x)] (by go_simp) rfl (newsAt w2 rfl [.bool (sv == x)] _) (by simp [Value.oneCell']) (by simp [maxLen]; omega) (by omega) (sz_alloc (Nat.le_trans hsz hsz2)) ?_
      intro v' w8 hown8 hgr8 hnn
      clear hnn
      have v31 : Up w1 (w2.alloc (.cells #[.bool (sv == x)] 4)) := Up.trans HU.out v3
      have u8 : Up w1 w8 := v31.grown hgr8 v31.size (fun j e => (O3.out.lt j e).1)
      have U8 := Lib.hid u8
      have O8 := Lib.hid hown8
      refine hK.out _ _ (by obtain ⟨a0, a1, a2, a3, a4⟩ := five (BS.out.up (Up.trans U1.out u8)); exact ⟨a0, a1, a2, a3, a4, u8.cellAt hc1⟩) (fun hHeld => ?_)
      clear hK K hown8 hgr8 v2 v3 v31 hc1 u8 O3 HO c0 c1 c2 c3 c4 hc HSk hHeld
      try simp only [List.setIfInBounds_toArray, List.set_cons_zero, List.set_cons_succ]
      refine wpAnyG_tail (by kernel_rfl) ?_
      change wpList _ _ _ [_] _ _
      have sy : IntKind.i64.wrap ((k : Int) + 1) = k + 1 := IntWalk.i64_in _ (by omega)
      go_wp2_with fail
      go_roundw
      case rel =>
        try ((repeat apply Exists.intro); refine ⟨?_, rfl⟩)
        refine ⟨k + 1, by omega, by go_num, ?_, U8.out⟩
        have e : (bools ((List.range (k + 1)).map (sayR s g x))).flatten = (bools ((List.range k).map (sayR s g x))).flatten ++ [.bool (sv == x)] := by
          rw [List.range_succ, List.map_append]
          unfold bools
          rw [List.map_append, List.flatten_append, SY.out]
          rfl
        rw [e]
        exact O8.out
      case measure => simp [intOf]; omega
    · obtain rfl : dn = k := by omega
      obtain ⟨q, d, rfl, a1, a2, hR, hge⟩ := Row.of_own (rows := bools (saysR s g x)) (flatOk_bools _) (show wr.ownsRow w1.heap.size 4 1 _ _ (bools (saysR s g x)).flatten by unfold saysR; rw [HDD.out]; exact HO.out) (by simp [bools, saysR, HDD.out])
      go_wp2_with fail
      go_ret
      rw [HDD.out]
      exact ⟨q, d, rfl, a1, a2, hR, Up.trans U0.out (Up.trans U1.out HU.out)⟩
end
end Go.Proofs.Ytcljkkojeleakaa
/- What the layer's bank does with each place with a lower gate: the sills and places where it is left. -/
namespace Go.Proofs.Ytcljkkojeleakaa
open Go.RowKit Go.Shelf
attribute [local go_sem] Oper.semAt_some

def boolCells (l : List Bool) : List Value := l.map Value.bool
theorem boolCells_set (l : List Bool) (i : Nat) (v : Bool) : (boolCells l).set i (.bool v) = boolCells (l.set i v) := by unfold boolCells; rw [List.map_set]
/-- a bank that is being found: the layer's work, the height, what is marked -/
structure BankAt (W : World) (bw bp bh b3 b4 gA gB : Nat) (h : Int) (nS nF : Nat) (A B : List Bool) : Prop where
  p : Blk W bp [.pointer (some ⟨bw, 0, none⟩)] 134
  h : Blk W bh [.int .i64 h] 3
  c3 : Blk W b3 [.slice (some ⟨gA, 0, none⟩) nS nS] 72
  c4 : Blk W b4 [.slice (some ⟨gB, 0, none⟩) nF nF] 72
  a : Blk W gA (boolCells A) 4
  b : Blk W gB (boolCells B) 4
  ne : gA ≠ gB
section
variable {W W' : World} {bw bp bh b3 b4 gA gB nS nF : Nat} {h : Int} {A B : List Bool}
theorem BankAt.up (k : BankAt W bw bp bh b3 b4 gA gB h nS nF A B) (u : Up W W') : BankAt W' bw bp bh b3 b4 gA gB h nS nF A B :=
  ⟨k.p.up u, k.h.up u, k.c3.up u, k.c4.up u, k.a.up u, k.b.up u, k.ne⟩
theorem BankAt.own (k : BankAt W bw bp bh b3 b4 gA gB h nS nF A B) (o : OwnStep W W') : BankAt W' bw bp bh b3 b4 gA gB h nS nF A B :=
  ⟨k.p.own o, k.h.own o, k.c3.own o, k.c4.own o, k.a.own o, k.b.own o, k.ne⟩
theorem BankAt.setA (k : BankAt W bw bp bh b3 b4 gA gB h nS nF A B) (i : Nat) : BankAt (W.setCell ⟨gA, i, none⟩ (.bool true)) bw bp bh b3 b4 gA gB h nS nF (A.set i true) B :=
  ⟨k.p.other (k.p.ne k.a (by decide)) _, k.h.other (k.h.ne k.a (by decide)) _, k.c3.other (k.c3.ne k.a (by decide)) _, k.c4.other (k.c4.ne k.a (by decide)) _, by rw [← boolCells_set]; exact k.a.set i _, k.b.other (Ne.symm k.ne) _, k.ne⟩
theorem BankAt.setB (k : BankAt W bw bp bh b3 b4 gA gB h nS nF A B) (i : Nat) : BankAt (W.setCell ⟨gB, i, none⟩ (.bool true)) bw bp bh b3 b4 gA gB h nS nF A (B.set i true) :=
  ⟨k.p.other (k.p.ne k.b (by decide)) _, k.h.other (k.h.ne k.b (by decide)) _, k.c3.other (k.c3.ne k.b (by decide)) _, k.c4.other (k.c4.ne k.b (by decide)) _, k.a.other k.ne _, by rw [← boolCells_set]; exact k.b.set i _, k.ne⟩
end
theorem bank1_len {s : Sd} {h : Int} (st : List Bool × List Bool) (x : Lead s.sills.length s.floors.length) : (bank1 s h st x).1.length = st.1.length ∧ (bank1 s h st x).2.length = st.2.length := by
  unfold bank1
  split
  · exact ⟨rfl, rfl⟩
  · split
    · exact ⟨by simp, rfl⟩
    · exact ⟨rfl, by simp⟩
theorem banks_len {s : Sd} {h : Int} : ∀ (l : List (Lead s.sills.length s.floors.length)) (st : List Bool × List Bool), (l.foldl (bank1 s h) st).1.length = st.1.length ∧ (l.foldl (bank1 s h) st).2.length = st.2.length
  | [], _ => ⟨rfl, rfl⟩
  | x :: r, st => by
    obtain ⟨h1, h2⟩ := bank1_len (h := h) st x
    obtain ⟨h3, h4⟩ := banks_len r (bank1 s h st x)
    exact ⟨h3.trans h1, h4.trans h2⟩

section
variable {pT pF pS : Option Addr} {cT cF cS : Nat}
set_option maxRecDepth 100000 in
set_option maxHeartbeats 2000000 in
theorem leave_c (bw : Nat) (s : Sd) (w0 w : World) (hw : IsWork w0 bw s pT pF pS cT cF cS) (hu : Up w0 w) (m2 : s.floors.length ≤ 8) (m3 : s.sills.length ≤ 16) (hg : goodSills s.sills s.floors.length) (h : Int)
    (bp bh b3 b4 gA gB : Nat) (f : Int) (A B : List Bool) (lA : A.length = s.sills.length) (lB : B.length = s.floors.length) (hB : BankAt w bw bp bh b3 b4 gA gB h s.sills.length s.floors.length A B)
    (gp : w0.heap.size ≤ gA) (gq : w0.heap.size ≤ gB) :
    Calls Try.prog 153 #[.int .i64 f, .pointer (some ⟨bp, 0, none⟩), .pointer (some ⟨bh, 0, none⟩), .pointer (some ⟨b3, 0, none⟩), .pointer (some ⟨b4, 0, none⟩)] w fun e w' => e = .returned (.tuple #[]) ∧
      Below w0.heap.size w w' ∧ BankAt w' bw bp bh b3 b4 gA gB h s.sills.length s.floors.length (leaveW s h (A, B) f).1 (leaveW s h (A, B) f).2 := by
  have c0 := hB.p.cell 0
  have lbp := hB.p.lt
  simp only [List.getElem?_cons_zero] at c0
  refine callsIn_wide (n := 9).1 ?_
  refine callsIn_of_wp_marks Try.func153 rfl trivial ?_ rfl
  simp only [Try.ntmps153, List.size_toArray, List.length_cons, List.length_nil, Nat.reduceAdd, Nat.reduceSub, Array.replicate_succ, Array.replicate_zero, List.push_toArray, List.append_toArray, List.nil_append, List.cons_append]
  gi_wp2_with (refine ⟨trivial, ?_⟩; gi_at_call 150; refine (callsIn_wide.2 (on_c _ _ _)).mono ?_; rintro e w' ⟨rfl, rfl⟩)
  obtain ⟨w1, hw1⟩ : ∃ w1, ((w.alloc (.cells #[.pointer (some ⟨bw, 0, none⟩)] 134)).alloc (.cells #[.int .i64 f] 3)) = w1 := ⟨_, rfl⟩
  have hsz1 : w1.heap.size = w.heap.size + 2 := by rw [← hw1]; simp
  have hu1 : Up w w1 := by rw [← hw1]; (repeat (first | exact Below.refl _ _ | (with_reducible refine Below.drewN' ?_ _) | (with_reducible refine Below.drew ?_) | (with_reducible refine Below.setCell ?_ (by first | exact Nat.le_refl _ | omega | (with_reducible (repeat (first | refine sz_alloc ?_ | refine sz_setCell ?_ | refine sz_drew ?_ | refine sz_drewN ?_)); first | exact Nat.le_refl _ | omega) | (simp only [World.size_alloc, World.size_setCell, World.size_drew, size_drewN']; omega)) _) | (with_reducible refine Below.alloc ?_ (by first | exact Nat.le_refl _ | omega | (with_reducible (repeat (first | refine sz_alloc ?_ | refine sz_setCell ?_ | refine sz_drew ?_ | refine sz_drewN ?_)); first | exact Nat.le_refl _ | omega) | (simp only [World.size_alloc, World.size_setCell, World.size_drew, size_drewN']; omega)) _) | assumption))
  have hb1 : Blk w1 w.heap.size [.pointer (some ⟨bw, 0, none⟩)] 134 := by rw [← hw1]; exact (Blk.new w [.pointer (some ⟨bw, 0, none⟩)] _).alloc _
  have hb2 : Blk w1 (w.heap.size + 1) [.int .i64 f] 3 := by rw [← hw1]; exact Blk.new' _ [.int .i64 f] _ (by simp)
  rw [hw1]
  clear hw1
  have hw' := (hw.sands.up hu).up hu1
  have hns := hu.size
  have lA0 := hB.a.lt
  have lB0 := hB.b.lt
  refine wpIn_rangeFunc_ownG rfl (by decide) (gf := 162) (lb := #[.pointer (some ⟨w.heap.size, 0, none⟩), .pointer (some ⟨w.heap.size + 1, 0, none⟩)]) rfl trivial en_on1
    (on_stops 8 (by decide) (fun k => k < w0.heap.size ∨ k = w.heap.size + 1) (w.heap.size) (w.heap.size + 1) bw pS cS s.sills s.floors.length f hg (by simp [maxLen]; omega) w1
      (fun k hk => by omega) (by right; rfl) (fun h b off e => Or.inl (hw.sands.sills_lt h e)) (hb1.cell 0) (hb2.cell 0) hw'.s4 hw'.rs) Keep.trans (keepK_b (fun k hk => by omega)) (Below.refl _ _) (fun _ => rfl)
    (fun pre' W => BankAt W bw bp bh b3 b4 gA gB h s.sills.length s.floors.length (pre'.foldl (bank1 s h) (A, B)).1 (pre'.foldl (bank1 s h) (A, B)).2 ∧ Below w0.heap.size w W ∧ w.heap.size + 2 ≤ W.heap.size)
    (fun _ _ _ => False) (fun pre' X Y row hh hgr hr => by
      obtain ⟨k1, k7, k8⟩ := hh
      have ho : OwnStep X Y := ⟨row, hgr, fun r e => (hr r e).2⟩
      exact ⟨k1.own ho, k7.grown hgr (Nat.le_trans hns k7.size) (fun k e => by have := (hr k e).1; omega), Nat.le_trans k8 hgr.size⟩)
    (fun _ _ _ _ _ hs _ _ => hs) ⟨hB.up hu1, Below.mono hu1 hns, by omega⟩
    (fun x => { tmps := #[.int .i64 f, .pointer (some ⟨bp, 0, none⟩), .pointer (some ⟨bh, 0, none⟩), .pointer (some ⟨b3, 0, none⟩), .pointer (some ⟨b4, 0, none⟩), undef,
      .int .i64 (x.1.1 : Int), .int .i64 (x.1.2 : Int), .pointer (some ⟨bw, 0, none⟩), .int .i64 f, .func (.func 162) #[] #[.pointer (some ⟨w.heap.size, 0, none⟩), .pointer (some ⟨w.heap.size + 1, 0, none⟩)],
      .int .i64 (x.1.1 : Int), .int .i64 (x.1.2 : Int), undef, undef, undef, undef, undef, undef, undef, undef, undef, undef, undef, undef, undef, undef, undef, undef, undef, undef, undef, undef, undef, undef, undef, undef, undef], defers := [] }) ?assign ?body ?done ?stop
  case assign =>
    intro l x W K hK
    gi_wp2
    exact hK
  case body =>
    rintro l pre' x W ⟨k1, k7, k8⟩ _
    obtain ⟨⟨i, tq⟩, hi, hto⟩ := x
    dsimp only at hi hto ⊢
    obtain ⟨st, hst⟩ : ∃ st, pre'.foldl (bank1 s h) (A, B) = st := ⟨_, rfl⟩
    rw [hst] at k1
    have hln : st.1.length = s.sills.length ∧ st.2.length = s.floors.length := by
      have := banks_len (h := h) pre' (A, B)
      rw [hst] at this
      exact ⟨this.1.trans lA, this.2.trans lB⟩
    have HS := Lib.hid (show (pre' ++ [(⟨(i, tq), hi, hto⟩ : Lead s.sills.length s.floors.length)]).foldl (bank1 s h) (A, B) = bank1 s h st (⟨(i, tq), hi, hto⟩ : Lead s.sills.length s.floors.length) by rw [List.foldl_append, hst]; rfl)
    have to8 : tq < 8 := by omega
    have to8' : (tq : Int) < 8 := by omega
    have to0 : (0 : Int) ≤ tq := by omega
    have wk := hw.up (Below.trans hu k7)
    have gt := wk.gates tq to8
    have HG := Lib.hid (show (gts s)[tq]?.getD 0 = gateOf s tq from rfl)
    generalize (gts s)[tq]?.getD 0 = gv at *
    have c1 := k1.p.cell 0
    have c2 := k1.h.cell 0
    have l1 := k1.p.lt
    have l2 := k1.h.lt
    simp only [List.getElem?_cons_zero] at c1 c2
    have K1 := Lib.hid k1
    have K7 := Lib.hid k7
    have WK := Lib.hid wk
    clear k1 k7 wk hw' hb1 hb2 hB lA lB hst
    by_cases hlow : gv < h
    · have HE := Lib.hid (HS.out.trans (show bank1 s h st _ = st by unfold bank1; rw [if_pos (by rw [← HG.out]; exact hlow)]))
      gi_wp2_with fail
      refine region_tail_round (fun W' => W'.cell? ⟨bp, 0, none⟩ = some (.pointer (some ⟨bw, 0, none⟩)) ∧ W'.cell? ⟨bh, 0, none⟩ = some (.int .i64 h) ∧ W'.cell? ⟨bw, 5 + tq, none⟩ = some (.int .i64 gv)) 8 mixed (by kernel_rfl) (fun _ _ h => h) ⟨c1, c2, gt⟩ (fun hHeld => ?_)
      refine wpAnyG_take 0 13 (v := ?_) rfl rfl (by kernel_rfl) (fun _ _ _ h => h) (Or.inl ⟨by rfl, ?_⟩) (by assumption) ?_
      rotate_left
      · (intro w' hSw; (try dsimp only at hSw); go_split_ands; go_simp; try with_reducible rfl)
      try simp only [List.setIfInBounds_toArray, List.set_cons_zero, List.set_cons_succ]
      refine wpAnyG_take 1 14 (v := ?_) rfl rfl (by kernel_rfl) (fun _ _ _ h => h) (Or.inl ⟨by rfl, ?_⟩) (by assumption) ?_
      rotate_left
      · (intro w' hSw; (try dsimp only at hSw); go_split_ands; go_simp; try with_reducible rfl)
      try simp only [List.setIfInBounds_toArray, List.set_cons_zero, List.set_cons_succ]
      refine wpAnyG_take 2 15 (v := ?_) rfl rfl (by kernel_rfl) (fun _ _ _ h => h) (Or.inl ⟨by rfl, ?_⟩) (by assumption) ?_
      rotate_left
      · (intro w' hSw; (try dsimp only at hSw); go_split_ands; go_simp; try with_reducible rfl)
      try simp only [List.setIfInBounds_toArray, List.set_cons_zero, List.set_cons_succ]
      refine wpAnyG_take 3 16 (v := ?_) rfl rfl (by kernel_rfl) (fun _ _ _ h => h) (Or.inl ⟨by rfl, ?_⟩) (by assumption) ?_
      rotate_left
      · (intro w' hSw; (try dsimp only at hSw); go_split_ands; go_simp; try with_reducible rfl)
      try simp only [List.setIfInBounds_toArray, List.set_cons_zero, List.set_cons_succ]
      refine wpAnyG_take 4 17 (v := ?_) rfl rfl (by kernel_rfl) (fun _ _ _ h => h) (Or.inl ⟨by rfl, ?_⟩) (by assumption) ?_
      rotate_left
      · (intro w' hSw; (try dsimp only at hSw); go_split_ands; go_simp; try with_reducible rfl)
      try simp only [List.setIfInBounds_toArray, List.set_cons_zero, List.set_cons_succ]
      refine wpAnyG_take 5 18 (v := ?_) rfl rfl (by kernel_rfl) (fun _ _ _ h => h) (Or.inl ⟨by rfl, ?_⟩) (by assumption) ?_
      rotate_left
      · (intro w' hSw; (try dsimp only at hSw); go_split_ands; go_simp; try with_reducible rfl)
      try simp only [List.setIfInBounds_toArray, List.set_cons_zero, List.set_cons_succ]
      refine wpAnyG_take 6 19 (v := ?_) rfl rfl (by kernel_rfl) (fun _ _ _ h => h) (Or.inl ⟨by rfl, ?_⟩) (by assumption) ?_
      rotate_left
      · (intro w' hSw; (try dsimp only at hSw); go_split_ands; go_simp; try with_reducible rfl)
      try simp only [List.setIfInBounds_toArray, List.set_cons_zero, List.set_cons_succ]
      refine wpAnyG_take 7 20 (v := ?_) rfl rfl (by kernel_rfl) (fun _ _ _ h => h) (Or.inl ⟨by rfl, ?_⟩) (by assumption) ?_
      rotate_left
      · (intro w' hSw; (try dsimp only at hSw); go_split_ands; go_simp; try with_reducible rfl)
      try simp only [List.setIfInBounds_toArray, List.set_cons_zero, List.set_cons_succ]
      refine wpAnyG_tail (by kernel_rfl) ?_
      change wpList _ _ _ [] _ _
      go_wp2_with fail
      gi_wp2_with fail
      have ud : Up W W.drew := (Below.refl _ _).drew
      refine ⟨KeepsFrom.of_up ud, Keep.of_below ud (fun k hk => by omega), ?_⟩
      dsimp only
      rw [HE.out]
      exact ⟨K1.out.up ud, K7.out.drew, k8⟩
    · obtain ⟨bs, os, rfl, -, -, e2⟩ := WK.out.sands.rs.triple i hi
      have s4 := WK.out.sands.s4
      have HB1 := Lib.hid (show bank1 s h st (⟨(i, tq), hi, hto⟩ : Lead s.sills.length s.floors.length) = if h ≤ (s.sills[i]).2.2 then (st.1.set i true, st.2) else (st.1, st.2.set tq true) by unfold bank1; rw [if_neg (by rw [← HG.out]; exact hlow)])
      generalize (s.sills[i]).2.2 = hs at *
      have i1 : (i : Int) < (s.sills.length : Int) := by omega
      have t1 : (tq : Int) < (s.floors.length : Int) := by omega
      gi_wp2_with fail
      refine region_tail_round (fun W' => W'.cell? ⟨bp, 0, none⟩ = some (.pointer (some ⟨bw, 0, none⟩)) ∧ W'.cell? ⟨bh, 0, none⟩ = some (.int .i64 h) ∧ W'.cell? ⟨bw, 5 + tq, none⟩ = some (.int .i64 gv)) 8 mixed (by kernel_rfl) (fun _ _ h => h) ⟨c1, c2, gt⟩ (fun hHeld => ?_)
      refine wpAnyG_take 0 13 (v := ?_) rfl rfl (by kernel_rfl) (fun _ _ _ h => h) (Or.inl ⟨by rfl, ?_⟩) (by assumption) ?_
      rotate_left
      · (intro w' hSw; (try dsimp only at hSw); go_split_ands; go_simp; try with_reducible rfl)
      try simp only [List.setIfInBounds_toArray, List.set_cons_zero, List.set_cons_succ]
      refine wpAnyG_take 1 14 (v := ?_) rfl rfl (by kernel_rfl) (fun _ _ _ h => h) (Or.inl ⟨by rfl, ?_⟩) (by assumption) ?_
      rotate_left
      · (intro w' hSw; (try dsimp only at hSw); go_split_ands; go_simp; try with_reducible rfl)
      try simp only [List.setIfInBounds_toArray, List.set_cons_zero, List.set_cons_succ]
      refine wpAnyG_take 2 15 (v := ?_) rfl rfl (by kernel_rfl) (fun _ _ _ h => h) (Or.inl ⟨by rfl, ?_⟩) (by assumption) ?_
      rotate_left
      · (intro w' hSw; (try dsimp only at hSw); go_split_ands; go_simp; try with_reducible rfl)
      try simp only [List.setIfInBounds_toArray, List.set_cons_zero, List.set_cons_succ]
      refine wpAnyG_take 3 16 (v := ?_) rfl rfl (by kernel_rfl) (fun _ _ _ h => h) (Or.inl ⟨by rfl, ?_⟩) (by assumption) ?_
      rotate_left
      · (intro w' hSw; (try dsimp only at hSw); go_split_ands; go_simp; try with_reducible rfl)
      try simp only [List.setIfInBounds_toArray, List.set_cons_zero, List.set_cons_succ]
      refine wpAnyG_take 4 17 (v := ?_) rfl rfl (by kernel_rfl) (fun _ _ _ h => h) (Or.inl ⟨by rfl, ?_⟩) (by assumption) ?_
      rotate_left
      · (intro w' hSw; (try dsimp only at hSw); go_split_ands; go_simp; try with_reducible rfl)
      try simp only [List.setIfInBounds_toArray, List.set_cons_zero, List.set_cons_succ]
      refine wpAnyG_take 5 18 (v := ?_) rfl rfl (by kernel_rfl) (fun _ _ _ h => h) (Or.inl ⟨by rfl, ?_⟩) (by assumption) ?_
      rotate_left
      · (intro w' hSw; (try dsimp only at hSw); go_split_ands; go_simp; try with_reducible rfl)
      try simp only [List.setIfInBounds_toArray, List.set_cons_zero, List.set_cons_succ]
      refine wpAnyG_take 6 19 (v := ?_) rfl rfl (by kernel_rfl) (fun _ _ _ h => h) (Or.inl ⟨by rfl, ?_⟩) (by assumption) ?_
      rotate_left
      · (intro w' hSw; (try dsimp only at hSw); go_split_ands; go_simp; try with_reducible rfl)
      try simp only [List.setIfInBounds_toArray, List.set_cons_zero, List.set_cons_succ]
      refine wpAnyG_take 7 20 (v := ?_) rfl rfl (by kernel_rfl) (fun _ _ _ h => h) (Or.inl ⟨by rfl, ?_⟩) (by assumption) ?_
      rotate_left
      · (intro w' hSw; (try dsimp only at hSw); go_split_ands; go_simp; try with_reducible rfl)
      try simp only [List.setIfInBounds_toArray, List.set_cons_zero, List.set_cons_succ]
      refine wpAnyG_tail (by kernel_rfl) ?_
      change wpList _ _ _ [] _ _
      clear hHeld
      go_wp2_with fail
      gi_wp2_with fail
      have ud : Up W W.drew := (Below.refl _ _).drew
      refine region_tail_round (fun W' => W'.cell? ⟨bp, 0, none⟩ = some (.pointer (some ⟨bw, 0, none⟩)) ∧ W'.cell? ⟨bh, 0, none⟩ = some (.int .i64 h) ∧ W'.cell? ⟨bw, 4, none⟩ = some (.slice (some ⟨bs, os, none⟩) s.sills.length cS) ∧ W'.cell? ⟨bs, os + i * 3 + 2, none⟩ = some (.int .i64 hs)) 11 mixed (by kernel_rfl) (fun _ _ h => h) ⟨c1, c2, s4, e2⟩ (fun hHeld => ?_)
      refine wpAnyG_take 0 21 (v := ?_) rfl rfl (by kernel_rfl) (fun _ _ _ h => h) (Or.inl ⟨by rfl, ?_⟩) (by assumption) ?_
      rotate_left
      · (intro w' hSw; (try dsimp only at hSw); go_split_ands; go_simp; try with_reducible rfl)
      try simp only [List.setIfInBounds_toArray, List.set_cons_zero, List.set_cons_succ]
      refine wpAnyG_take 1 22 (v := ?_) rfl rfl (by kernel_rfl) (fun _ _ _ h => h) (Or.inl ⟨by rfl, ?_⟩) (by assumption) ?_
      rotate_left
      · (intro w' hSw; (try dsimp only at hSw); go_split_ands; go_simp; try with_reducible rfl)
      try simp only [List.setIfInBounds_toArray, List.set_cons_zero, List.set_cons_succ]
      refine wpAnyG_take 2 23 (v := ?_) rfl rfl (by kernel_rfl) (fun _ _ _ h => h) (Or.inl ⟨by rfl, ?_⟩) (by assumption) ?_
      rotate_left
      · (intro w' hSw; (try dsimp only at hSw); go_split_ands; go_simp; try with_reducible rfl)
      try simp only [List.setIfInBounds_toArray, List.set_cons_zero, List.set_cons_succ]
      refine wpAnyG_take 3 24 (v := ?_) rfl rfl (by kernel_rfl) (fun _ _ _ h => h) (Or.inl ⟨by rfl, ?_⟩) (by assumption) ?_
      rotate_left
      · (intro w' hSw; (try dsimp only at hSw); go_split_ands; go_simp; try with_reducible rfl)
      try simp only [List.setIfInBounds_toArray, List.set_cons_zero, List.set_cons_succ]
      refine wpAnyG_take 4 25 (v := ?_) rfl rfl (by kernel_rfl) (fun _ _ _ h => h) (Or.inl ⟨by rfl, ?_⟩) (by assumption) ?_
      rotate_left
      · (intro w' hSw; (try dsimp only at hSw); go_split_ands; go_simp; try with_reducible rfl)
      try simp only [List.setIfInBounds_toArray, List.set_cons_zero, List.set_cons_succ]
      refine wpAnyG_take 5 26 (v := ?_) rfl rfl (by kernel_rfl) (fun _ _ _ h => h) (Or.inl ⟨by rfl, ?_⟩) (by assumption) ?_
      rotate_left
      · (intro w' hSw; (try dsimp only at hSw); go_split_ands; go_simp; try with_reducible rfl)
      try simp only [List.setIfInBounds_toArray, List.set_cons_zero, List.set_cons_succ]
      refine wpAnyG_take 6 27 (v := ?_) rfl rfl (by kernel_rfl) (fun _ _ _ h => h) (Or.inl ⟨by rfl, ?_⟩) (by assumption) ?_
      rotate_left
      · (intro w' hSw; (try dsimp only at hSw); go_split_ands; go_simp; try with_reducible rfl)
      try simp only [List.setIfInBounds_toArray, List.set_cons_zero, List.set_cons_succ]
      refine wpAnyG_take 7 28 (v := ?_) rfl rfl (by kernel_rfl) (fun _ _ _ h => h) (Or.inl ⟨by rfl, ?_⟩) (by assumption) ?_
      rotate_left
      · (intro w' hSw; (try dsimp only at hSw); go_split_ands; go_simp; try with_reducible rfl)
      try simp only [List.setIfInBounds_toArray, List.set_cons_zero, List.set_cons_succ]
      refine wpAnyG_take 8 29 (v := ?_) rfl rfl (by kernel_rfl) (fun _ _ _ h => h) (Or.inl ⟨by rfl, ?_⟩) (by assumption) ?_
      rotate_left
      · (intro w' hSw; (try dsimp only at hSw); go_split_ands; go_simp; try with_reducible rfl)
      try simp only [List.setIfInBounds_toArray, List.set_cons_zero, List.set_cons_succ]
      refine wpAnyG_take 9 30 (v := ?_) rfl rfl (by kernel_rfl) (fun _ _ _ h => h) (Or.inl ⟨by rfl, ?_⟩) (by assumption) ?_
      rotate_left
      · (intro w' hSw; (try dsimp only at hSw); go_split_ands; go_simp; try with_reducible rfl)
      try simp only [List.setIfInBounds_toArray, List.set_cons_zero, List.set_cons_succ]
      refine wpAnyG_take 10 31 (v := ?_) rfl rfl (by kernel_rfl) (fun _ _ _ h => h) (Or.inl ⟨by rfl, ?_⟩) (by assumption) ?_
      rotate_left
      · (intro w' hSw; (try dsimp only at hSw); go_split_ands; go_simp; try with_reducible rfl)
      try simp only [List.setIfInBounds_toArray, List.set_cons_zero, List.set_cons_succ]
      refine wpAnyG_tail (by kernel_rfl) ?_
      change wpList _ _ _ [] _ _
      clear hHeld
      have u2 : Up W W.drew.drew := ud.drew
      have K2 := Lib.hid (K1.out.up u2)
      have K8 := Lib.hid (K7.out.drew.drew)
      have hz : w.heap.size + 2 ≤ W.drew.drew.heap.size := k8
      generalize W.drew.drew = W2 at *
      by_cases hh : h ≤ hs
      · have HE := Lib.hid (HS.out.trans (HB1.out.trans (if_pos hh)))
        have c3 := K2.out.c3.cell 0
        have l3 := K2.out.c3.lt
        have ca := K2.out.a.cell i
        have la := K2.out.a.lt
        have fa := K2.out.a.free
        rw [show (boolCells st.1)[i]? = some (.bool (st.1[i]'(by omega))) by unfold boolCells; rw [List.getElem?_map, List.getElem?_eq_getElem (by omega)]; rfl] at ca
        simp only [List.getElem?_cons_zero] at c3
        clear c1 c2 gt s4 e2 HB1
        go_wp2_with fail
        gi_wp2_with fail
        refine ⟨(KeepsFrom.of_up u2).trans ((KeepsOthers.setCell _ _ _).from _), (Keep.of_below u2 (fun k hk => by omega)).trans (Keep.setCell _ _ _ _ (fun hk => by simp only at hk; omega)), ?_⟩
        dsimp only
        rw [HE.out]
        exact ⟨K2.out.setA i, K8.out.setCell (by simp only []; omega) _, by rw [World.size_setCell]; exact hz⟩
      · have HE := Lib.hid (HS.out.trans (HB1.out.trans (if_neg hh)))
        have c3 := K2.out.c4.cell 0
        have l3 := K2.out.c4.lt
        have ca := K2.out.b.cell tq
        have la := K2.out.b.lt
        have fa := K2.out.b.free
        rw [show (boolCells st.2)[tq]? = some (.bool (st.2[tq]'(by omega))) by unfold boolCells; rw [List.getElem?_map, List.getElem?_eq_getElem (by omega)]; rfl] at ca
        simp only [List.getElem?_cons_zero] at c3
        clear c1 c2 gt s4 e2 HB1
        go_wp2_with fail
        gi_wp2_with fail
        refine ⟨(KeepsFrom.of_up u2).trans ((KeepsOthers.setCell _ _ _).from _), (Keep.of_below u2 (fun k hk => by omega)).trans (Keep.setCell _ _ _ _ (fun hk => by simp only at hk; omega)), ?_⟩
        dsimp only
        rw [HE.out]
        exact ⟨K2.out.setB tq, K8.out.setCell (by simp only []; omega) _, by rw [World.size_setCell]; exact hz⟩
  case done =>
    rintro D ys W hD rfl ⟨k1, k7, k8⟩ hK
    gi_wp2_with fail
    refine leaves_marks [D] _ (by simp) (fun D' hD' => by rw [List.mem_singleton.1 hD']; exact hK) (fun w' hg => ?_)
    have ho : OwnStep W w' := ⟨some D, ⟨hg.os, hg.tape, hg.output, by rw [hg.size]; exact Nat.le_refl _, fun k _ hk => hg.block k (fun h => hk (by rw [List.mem_singleton.1 h]))⟩, fun r e => by
      simp only [Option.some.injEq] at e
      subst e
      exact ⟨_, hK, rfl⟩⟩
    refine ⟨.tuple #[], ?_, rfl, Below.trans k7 (hg.below _ (fun D' hD' => by rw [List.mem_singleton.1 hD']; omega)), k1.own ho⟩
    exact results_none rfl _ _ _
  case stop =>
    rintro D c pre' W _ _ h
    exact h.elim
end
end Go.Proofs.Ytcljkkojeleakaa
/- What the layer's function marked returns. -/
namespace Go.Proofs.Ytcljkkojeleakaa
open Go.RowKit Go.Shelf

theorem mark_take {l : List Bool} {k : Nat} (h : k < l.length) : markL (l.take (k + 1)) = markL (l.take k) ++ (if l[k] = true then [(k : Int)] else []) := by
  unfold markL
  have e1 : (l.take (k + 1)).length = k + 1 := by rw [List.length_take]; omega
  have e2 : (l.take k).length = k := by rw [List.length_take]; omega
  rw [e1, e2, List.range_succ, List.filter_append, List.map_append]
  have f1 : (List.range k).filter (fun i => (l.take (k + 1))[i]?.getD false) = (List.range k).filter (fun i => (l.take k)[i]?.getD false) := by
    refine List.filter_congr (fun i hi => ?_)
    rw [List.mem_range] at hi
    rw [List.getElem?_take, List.getElem?_take, if_pos (by omega), if_pos hi]
  rw [f1]
  congr 1
  have e3 : (l.take (k + 1))[k]?.getD false = l[k] := by rw [List.getElem?_take, if_pos (by omega), List.getElem?_eq_getElem h]; rfl
  simp only [List.filter_cons, e3, List.filter_nil]
  split
  · rfl
  · rfl
theorem markL_take_le (l : List Bool) (k : Nat) : (markL (l.take k)).length ≤ k := Nat.le_trans (markL_len _) (by rw [List.length_take]; omega)
set_option maxRecDepth 100000 in
set_option maxHeartbeats 1000000 in
theorem marked_c (l : List Bool) (p : Option Addr) (c : Nat) (w : World) (hr : Row w p 1 (bools l)) (hm : l.length ≤ 100) :
    Calls Try.prog 154 #[.slice p l.length c] w fun e w' => ∃ q d, e = .returned (.slice q (markL l).length d) ∧ (markL l).length ≤ d ∧ d ≤ maxLen ∧ Row w' q 1 (ints (markL l)) ∧ Up w w' := by
  obtain ⟨i0, hi, hz0, hz1, hz2⟩ := info_parts info3
  have HR := Lib.hid hr
  clear hr
  go_enter Try.func154, Try.ntmps154
  go_wp2_with fail
  go_loopw [3, 4, 5, 8] (fun v _ _ i wr => ∃ k : Nat, k ≤ l.length ∧ i = .int .i64 k ∧ wr.ownsRow w.heap.size 3 1 v (markL (l.take k)).length (ints (markL (l.take k))).flatten ∧ Up w wr) (fun _ _ _ i _ => l.length - (intOf i).toNat)
  case atStart => exact ⟨0, Nat.zero_le _, rfl, World.ownsRow_nil _ _ _ _, Below.refl _ _⟩
  case round =>
    obtain ⟨k, hk, rfl, hown, hu⟩ := hrel
    have HO := Lib.hid hown
    have HU := Lib.hid hu
    have hsz := hu.size
    by_cases hlt : k < l.length
    · obtain ⟨b, off, rfl, d0⟩ := (HR.out.up hu).bool k hlt
      have HM := Lib.hid (mark_take hlt)
      have hle := markL_take_le l k
      have b1 : (k : Int) < (l.length : Int) := by omega
      clear hu hown
      cases hv : l[k] with
      | true =>
        rw [hv] at d0 HM
        rw [if_pos rfl] at HM
        have HV := Lib.hid hv
        clear hv
        generalize markL (l.take k) = ml at *
        go_wp2_with (at_builtin; refine wpList_append_own _ rfl _ _ 25 rfl w.heap.size 3 i0 (.int .i64 0) 1 8 Try.underlying25 hi hz0 hz1 hz2 rfl (by decide) _ _ _ rfl (HO.out.alloc _) ⟨wr.heap.size, 0, none⟩ 1 1 [.int .i64 k] rfl rfl (newsAt _ rfl [.int .i64 k] _) (by simp [Value.oneCell']) (by simp [maxLen]; omega) (by omega) (sz_alloc hsz) ?_; intro v' w8 hown8 hgr8 hnn; clear hnn)
        have U8 := Lib.hid ((HU.out.alloc hsz _).grown hgr8 (sz_alloc hsz) (fun j e => (HO.out.lt j e).1))
        have O8 := Lib.hid hown8
        clear hown8 hgr8
        go_roundw
        case rel =>
          try ((repeat apply Exists.intro); refine ⟨?_, rfl⟩)
          refine ⟨k + 1, hlt, by go_num, ?_, U8.out⟩
          rw [HM.out]
          have e : (ints (ml ++ [(k : Int)])).flatten = (ints ml).flatten ++ [.int .i64 k] := by
            unfold ints
            rw [List.map_append, List.flatten_append]
            rfl
          rw [e, List.length_append]
          exact O8.out
        case measure => simp [intOf]; omega
      | false =>
        rw [hv] at d0 HM
        rw [if_neg (by decide), List.append_nil] at HM
        clear hv
        go_wp2_with fail
        go_roundw
        case rel =>
          try ((repeat apply Exists.intro); refine ⟨?_, rfl⟩)
          exact ⟨k + 1, hlt, by go_num, by rw [HM.out]; exact HO.out, HU.out⟩
        case measure => simp [intOf]; omega
    · obtain rfl : k = l.length := by omega
      rw [List.take_length] at HO
      obtain ⟨q, d, rfl, a1, a2, hR, -⟩ := Row.of_own (rows := ints (markL l)) (flatOk_ints _) HO.out (by simp [ints])
      have RR := Lib.hid hR
      clear hR hown hu HO
      go_wp2_with fail
      go_ret
      exact ⟨q, d, rfl, a1, a2, RR.out, HU.out⟩
end Go.Proofs.Ytcljkkojeleakaa
/- As Draw: but an operation of the tail may wait for one of the head by way of another one of the tail. -/
namespace Go.Proofs.Ytcljkkojeleakaa
open Go.RowKit Go.Shelf

/-- each operation from N on waits for each before N, at once or by way of others -/
def tailWaits3 (md : Region.Mode) (ops : Array Oper) (N : Nat) : Bool :=
  (List.range ops.size).all fun t => decide (t < N) || (List.range N).all fun j => waitsT md ops ops.size 6 t j

theorem head_of_ready3 {md : Region.Mode} {ops : Array Oper} {N : Nat} {listed : Array Bool} {i j : Nat} (ht : tailWaits3 md ops N = true) (hcl : Closed md ops (fun j => listed.getD j false)) (hi : i < N) (hun : listed.getD i false = false) (hj : j ∈ Region.ready md ops listed) : j < N := by
  rcases Nat.lt_or_ge j N with h | h
  · exact h
  · exfalso
    obtain ⟨_, oj, hoj, hall⟩ := mem_ready.1 hj
    have hjs : j < ops.size := (Array.getElem?_eq_some_iff.1 hoj).1
    have h1 := List.all_eq_true.1 ht j (List.mem_range.2 hjs)
    simp only [Bool.or_eq_true, decide_eq_true_eq] at h1
    have h2 := h1.resolve_left (by omega)
    have h3 := List.all_eq_true.1 h2 i (List.mem_range.2 hi)
    have one : ∀ k, Region.waitsFor md ops j k = true → listed.getD k false = true := fun k hk => by
      obtain ⟨o', ho', e, he, hb, hon⟩ := Region.waitsFor_spec hk
      have : o' = oj := Option.some.inj (ho'.symm.trans hoj)
      subst this
      rw [← hon]
      exact hall e he hb
    simp only [waitsT, Bool.or_eq_true, List.any_eq_true, Bool.and_eq_true] at h3
    rcases h3 with h3 | ⟨k, -, h4, h5⟩
    · rw [one i h3] at hun; cases hun
    · have h6 : listed.getD i false = true := hcl.all (N := ops.size) 5 k i (one k h4) (by simp only [waitsT, Bool.or_eq_true, List.any_eq_true, Bool.and_eq_true]; exact h5)
      rw [h6] at hun; cases hun

section
variable {P : Program} {Q : Exit → Act → World → Prop} {N : Nat}

theorem inv_G3 {md : Region.Mode} {ops : Array Oper} {R : Array Bool → Act → World → Prop} (Inv : (Nat → Bool) → Act → World → Prop) (hb : backward ops = true) (ht : tailWaits3 md ops N = true) (hN : N ≤ ops.size)
    (step : ∀ (done : Nat → Bool) (a : Act) (w : World) (i : Nat) (o : Oper), i < N → done i = false → ops[i]? = some o → (∀ e ∈ o.after, Region.binds md e = true → done e.on = true) → Inv done a w → wpOp P ops Q i (fun a' w' => Inv (upd done i) a' w') a w)
    (hR : ∀ (listed : Array Bool) (a : Act) (w : World), listed.size = ops.size → (∀ j, listed.getD j false = decide (j < N)) → Inv (fun j => decide (j < N)) a w → R listed a w) :
    ∀ (f : Nat) (listed : Array Bool) (a : Act) (w : World), listed.size = ops.size → (∀ j, N ≤ j → listed.getD j false = false) → cnt (fun j => listed.getD j false) N = f → Closed md ops (fun j => listed.getD j false) → Inv (fun j => listed.getD j false) a w →
      wpAnyG P md ops Q (fun _ => True) N R f listed a w
  | 0, listed, a, w, hs, hf, hc, _, hi => by
    have hall := cnt_zero hc
    have hg : ∀ j, listed.getD j false = decide (j < N) := fun j => by
      by_cases h : j < N
      · rw [hall j h]; simp [h]
      · rw [hf j (by omega)]; simp [h]
    refine ⟨hall, hR listed a w hs hg ?_⟩
    rw [show (fun j => listed.getD j false) = (fun j => decide (j < N)) from funext hg] at hi
    exact hi
  | f + 1, listed, a, w, hs, hf, hc, hcl, hi => by
    obtain ⟨j, hj, hun, hbefore⟩ := cnt_first (g := fun j => listed.getD j false) (n := N) (by omega)
    have hjs : j < ops.size := by omega
    have hready : j ∈ Region.ready md ops listed := by
      refine mem_ready.2 ⟨?_, ops[j], Array.getElem?_eq_getElem hjs, fun e he _ => ?_⟩
      · have hun' : listed.getD j false = false := hun
        rw [Array.getD_eq_getD_getElem?] at hun' ⊢
        rw [Array.getElem?_eq_getElem (by omega)] at hun' ⊢
        exact hun'
      · have h1 := List.all_eq_true.1 hb j (List.mem_range.2 hjs)
        rw [Array.getElem?_eq_getElem hjs] at h1
        have h2 := (Array.all_eq_true_iff_forall_mem.1 h1) e he
        simp only [decide_eq_true_eq] at h2
        exact hbefore _ h2
    refine ⟨fun h0 => (by rw [h0] at hready; cases hready), fun i hir => ?_⟩
    have hiN := head_of_ready3 ht hcl hj hun hir
    obtain ⟨hiun, o, ho, hall⟩ := mem_ready.1 hir
    have hiun' : listed.getD i false = false := getD_both hiun
    refine ⟨hiN, wpOp_mono (fun a' w' h' => ⟨trivial, ?_⟩) (step (fun j => listed.getD j false) a w i o hiN hiun' ho hall hi)⟩
    have hset : (fun j => (listed.setIfInBounds i true).getD j false) = upd (fun j => listed.getD j false) i := by
      funext k
      by_cases hk : i = k
      · subst hk
        have : i < (listed.setIfInBounds i true).size := by simp; omega
        rw [Array.getD_eq_getD_getElem?, Array.getElem?_eq_getElem this]
        simp [upd]
      · rw [getD_set_ne false hk]
        have : (k == i) = false := by rw [beq_eq_false_iff_ne]; omega
        simp [upd, this]
    refine inv_G3 Inv hb ht hN step hR f _ a' w' (by simpa using hs) (fun k hk => ?_) ?_ ?_ ?_
    · rw [getD_set_ne false (by omega)]; exact hf k hk
    · rw [hset]
      have := cnt_set (fun j => listed.getD j false) i hiun' N hiN
      omega
    · rw [hset]
      intro k ok hok hk e he hb
      have hk' : listed.getD k false = true ∨ k = i := by simpa [upd] using hk
      have : listed.getD e.on false = true := by
        rcases hk' with hk' | rfl
        · exact hcl k ok hok hk' e he hb
        · have : ok = o := Option.some.inj (hok.symm.trans ho)
          subst this
          exact hall e he hb
      simp [upd, this]
    · rw [hset]; exact h'

/-- the order is right for the rule: the first N, in whatever order, then the others as they stand -/
def drawOk3 (md : Region.Mode) (l : List Oper) (N : Nat) : Bool :=
  decide (N ≤ l.length) && backward l.toArray && tailWaits3 md l.toArray N && (headDone N (List.replicate N true ++ List.replicate (l.length - N) false).toArray && Region.seqB md l.toArray (l.drop N).length N (List.replicate N true ++ List.replicate (l.length - N) false).toArray)

theorem region_inv3 {id : Nat} {l : List Oper} {a : Act} {w : World} (N : Nat) (Inv : (Nat → Bool) → Act → World → Prop) (hm : P.follows .mixedOrders = true) (hd : drawOk3 .any l N = true)
    (start : Inv (fun _ => false) a w.drew)
    (step : ∀ (done : Nat → Bool) (a : Act) (w : World) (i : Nat) (o : Oper), i < N → done i = false → l.toArray[i]? = some o → (∀ e ∈ o.after, Region.binds .any e = true → done e.on = true) → Inv done a w → wpOp P l.toArray Q i (fun a' w' => Inv (upd done i) a' w') a w)
    (tail : ∀ a w, Inv (fun j => decide (j < N)) a w → wpList P l.toArray Q (l.drop N) a w) : (Code.region id l.toArray true).wp P Q a w := by
  unfold drawOk3 at hd
  simp only [Bool.and_eq_true, decide_eq_true_eq] at hd
  obtain ⟨⟨⟨hN, hb⟩, ht⟩, hh, hseq⟩ := hd
  refine region_tail (fun _ => True) N hm (by simpa using hN) trivial (fun _ => ?_)
  refine inv_G3 Inv hb ht (by simpa using hN) step (fun listed a w hs hg hi => ?_) N _ a w.drew (by simp) (fun j _ => none_listed _ j) ?_ (fun i o _ hi => ?_) ?_
  · rw [listed_eq (n := l.length) (by simpa using hs) hN hg]
    have := wpAnyG_tail (P := P) (Q := Q) (S := fun _ => True) (a := a) (w := w) (by rw [Bool.and_eq_true]; exact ⟨hh, hseq⟩) (tail a w hi)
    exact this.2
  · have : (fun j => (Array.replicate l.toArray.size false).getD j false) = fun _ => false := by funext j; exact none_listed _ j
    rw [this]; exact cnt_none N
  · have hi' : (Array.replicate l.toArray.size false).getD i false = true := hi
    rw [none_listed] at hi'; cases hi'
  · have : (fun j => (Array.replicate l.toArray.size false).getD j false) = fun _ => false := by funext j; exact none_listed _ j
    rw [this]; exact start
end
end Go.Proofs.Ytcljkkojeleakaa
/- What the layer's functions bank and Bank return. -/
namespace Go.Proofs.Ytcljkkojeleakaa
open Go.RowKit Go.Shelf

theorem made_falses (n : Nat) : madeCells #[Value.bool false] n = (boolCells (List.replicate n false)).toArray := by
  unfold boolCells
  rw [List.map_replicate]
  apply Array.ext'
  simp [madeCells, Nat.mod_one, List.map_const']
/-- how far a drawn region of plain operations and new blocks has come -/
structure Drawn (w1 : World) (isP : Nat → Bool) (E : List Value) (val : Nat → Nat → Value) (cs : Nat → List Value) (T : Nat → TypeId) (done : Nat → Bool) (W : World) (V : List Value) : Prop where
  up : Up w1 W
  pure : ∀ (i : Nat) (v : Value), V[i]? = some v → isP i = true → done i = true → v = E[i]?.getD undef
  made : ∃ B : Nat → Nat, (∀ i, done i = true → isP i = false → V[i]? = some (val i (B i)) ∧ Blk W (B i) (cs i) (T i) ∧ w1.heap.size ≤ B i) ∧ ∀ i j, done i = true → done j = true → isP i = false → isP j = false → i ≠ j → B i ≠ B j
section
variable {w1 W : World} {isP : Nat → Bool} {E : List Value} {val : Nat → Nat → Value} {cs : Nat → List Value} {T : Nat → TypeId} {done : Nat → Bool} {V : List Value}
theorem upd_or' {i k : Nat} (h : upd done i k = true) : k = i ∨ k ≠ i ∧ done k = true := by
  by_cases e : k = i
  · exact Or.inl e
  · refine Or.inr ⟨e, ?_⟩
    have : (k == i) = false := by rw [beq_eq_false_iff_ne]; exact e
    simpa [upd, this] using h
theorem Drawn.start (w : World) (V : List Value) : Drawn w isP E val cs T (fun _ => false) w.drew V :=
  ⟨(Below.refl _ _).drew, fun _ _ _ _ h => (by cases h), ⟨fun _ => 0, fun _ h => (by cases h), fun _ _ h => (by cases h)⟩⟩
theorem Drawn.pureStep (h : Drawn w1 isP E val cs T done W V) (i : Nat) (hp : isP i = true) (v : Value) (hv : v = E[i]?.getD undef) : Drawn w1 isP E val cs T (upd done i) W (V.set i v) := by
  obtain ⟨B, b1, b2⟩ := h.made
  refine ⟨h.up, fun k u hk hpk hd => ?_, ⟨B, fun k hd hpk => ?_, fun k j hk hj pk pj => ?_⟩⟩
  · rcases upd_or' hd with rfl | ⟨e, hd⟩
    · rw [List.getElem?_set] at hk
      rw [if_pos rfl] at hk
      split at hk
      · cases hk; exact hv
      · cases hk
    · rw [List.getElem?_set_ne (Ne.symm e)] at hk
      exact h.pure k u hk hpk hd
  · rcases upd_or' hd with rfl | ⟨e, hd⟩
    · rw [hp] at hpk; cases hpk
    · rw [List.getElem?_set_ne (Ne.symm e)]
      exact b1 k hd hpk
  · rcases upd_or' hk with rfl | ⟨-, hk⟩
    · rw [hp] at pk; cases pk
    · rcases upd_or' hj with rfl | ⟨-, hj⟩
      · rw [hp] at pj; cases pj
      · exact b2 k j hk hj pk pj
theorem Drawn.mkStep (h : Drawn w1 isP E val cs T done W V) (i : Nat) (hp : isP i = false) (hi : i < V.length := by simp) : Drawn w1 isP E val cs T (upd done i) (W.alloc (.cells (cs i).toArray (T i))) (V.set i (val i W.heap.size)) := by
  obtain ⟨B, b1, b2⟩ := h.made
  refine ⟨Up.trans h.up (by (repeat (first | exact Below.refl _ _ | (with_reducible refine Below.drewN' ?_ _) | (with_reducible refine Below.drew ?_) | (with_reducible refine Below.setCell ?_ (by first | exact Nat.le_refl _ | omega | (with_reducible (repeat (first | refine sz_alloc ?_ | refine sz_setCell ?_ | refine sz_drew ?_ | refine sz_drewN ?_)); first | exact Nat.le_refl _ | omega) | (simp only [World.size_alloc, World.size_setCell, World.size_drew, size_drewN']; omega)) _) | (with_reducible refine Below.alloc ?_ (by first | exact Nat.le_refl _ | omega | (with_reducible (repeat (first | refine sz_alloc ?_ | refine sz_setCell ?_ | refine sz_drew ?_ | refine sz_drewN ?_)); first | exact Nat.le_refl _ | omega) | (simp only [World.size_alloc, World.size_setCell, World.size_drew, size_drewN']; omega)) _) | assumption))), fun k u hk hpk hd => ?_, ⟨fun k => if k = i then W.heap.size else B k, fun k hd hpk => ?_, fun k j hk hj pk pj hne => ?_⟩⟩
  · rcases upd_or' hd with rfl | ⟨e, hd⟩
    · rw [hp] at hpk; cases hpk
    · rw [List.getElem?_set_ne (Ne.symm e)] at hk
      exact h.pure k u hk hpk hd
  · rcases upd_or' hd with rfl | ⟨e, hd⟩
    · dsimp only
      rw [if_pos rfl, List.getElem?_set_self hi]
      exact ⟨rfl, Blk.new W (cs k) (T k), h.up.size⟩
    · dsimp only
      rw [if_neg e, List.getElem?_set_ne (Ne.symm e)]
      obtain ⟨c1, c2, c3⟩ := b1 k hd hpk
      exact ⟨c1, c2.alloc _, c3⟩
  · dsimp only
    rcases upd_or' hk with ek | ⟨ek, hk'⟩
    · rcases upd_or' hj with ej | ⟨ej, hj'⟩
      · exact absurd (ek.trans ej.symm) hne
      · rw [if_pos ek, if_neg ej]
        have := (b1 j hj' pj).2.1.lt
        omega
    · rcases upd_or' hj with ej | ⟨ej, hj'⟩
      · rw [if_pos ej, if_neg ek]
        have := (b1 k hk' pk).2.1.lt
        omega
      · rw [if_neg ek, if_neg ej]
        exact b2 k j hk' hj' pk pj hne
end

def mkVal (nS nF : Nat) (i b : Nat) : Value := if i = 6 then .slice (some ⟨b, 0, none⟩) nS nS else if i = 13 then .slice (some ⟨b, 0, none⟩) nF nF else .pointer (some ⟨b, 0, none⟩)
def mkCs (nS nF : Nat) (i : Nat) : List Value := if i = 6 then boolCells (List.replicate nS false) else if i = 13 then boolCells (List.replicate nF false) else [.slice none 0 0]
def mkT (i : Nat) : TypeId := if i = 6 then 4 else if i = 13 then 4 else 72
def plainB (i : Nat) : Bool := !(i == 6 || i == 13 || i == 14 || i == 15)
def mkCs1 (nS nF gA : Nat) (i : Nat) : List Value := if i = 14 then [.slice (some ⟨gA, 0, none⟩) nS nS] else mkCs nS nF i
theorem Drawn.cast {w1 W : World} {isP : Nat → Bool} {E : List Value} {val : Nat → Nat → Value} {cs cs' : Nat → List Value} {T : Nat → TypeId} {done : Nat → Bool} {V : List Value} (h : Drawn w1 isP E val cs T done W V) (hc : ∀ i, done i = true → isP i = false → cs' i = cs i) : Drawn w1 isP E val cs' T done W V := by
  obtain ⟨B, b1, b2⟩ := h.made
  refine ⟨h.up, h.pure, B, fun i hd hp => ?_, b2⟩
  rw [hc i hd hp]
  exact b1 i hd hp
def BInv (w1 : World) (nS nF : Nat) (E : List Value) (done : Nat → Bool) (W : World) (V : List Value) : Prop :=
  (done 16 = false ∧ Drawn w1 plainB E (mkVal nS nF) (mkCs nS nF) mkT done W V) ∨
  (done 16 = true ∧ done 6 = true ∧ done 14 = true ∧ ∃ gA, V[6]? = some (mkVal nS nF 6 gA) ∧ Drawn w1 plainB E (mkVal nS nF) (mkCs1 nS nF gA) mkT done W V)
section
variable {w1 W : World} {nS nF : Nat} {E : List Value} {done : Nat → Bool} {V : List Value}
theorem upd_ne' {i k : Nat} (h : k ≠ i) : upd done i k = done k := by
  have : (k == i) = false := by rw [beq_eq_false_iff_ne]; exact h
  simp [upd, this]
theorem BInv.up (h : BInv w1 nS nF E done W V) : Up w1 W := by
  rcases h with ⟨-, h⟩ | ⟨-, -, -, gA, -, h⟩ <;> exact h.up
theorem BInv.pure (h : BInv w1 nS nF E done W V) (i : Nat) (v : Value) (hv : V[i]? = some v) (hp : plainB i = true) (hd : done i = true) : v = E[i]?.getD undef := by
  rcases h with ⟨-, h⟩ | ⟨-, -, -, gA, -, h⟩ <;> exact h.pure i v hv hp hd
theorem BInv.start (w : World) (V : List Value) : BInv w nS nF E (fun _ => false) w.drew V := .inl ⟨rfl, Drawn.start _ _⟩
theorem BInv.pureStep (h : BInv w1 nS nF E done W V) (i : Nat) (hp : plainB i = true) (v : Value) (hv : v = E[i]?.getD undef) (hi : i ≠ 16 := by decide) : BInv w1 nS nF E (upd done i) W (V.set i v) := by
  have h6 : i ≠ 6 := by rintro rfl; cases hp
  have h14 : i ≠ 14 := by rintro rfl; cases hp
  rcases h with ⟨h0, h⟩ | ⟨h0, h1, h2, gA, h3, h⟩
  · exact .inl ⟨by rw [upd_ne' (Ne.symm hi)]; exact h0, h.pureStep i hp v hv⟩
  · exact .inr ⟨by rw [upd_ne' (Ne.symm hi)]; exact h0, by rw [upd_ne' (Ne.symm h6)]; exact h1, by rw [upd_ne' (Ne.symm h14)]; exact h2, gA, by rw [List.getElem?_set_ne h6]; exact h3, h.pureStep i hp v hv⟩
theorem BInv.mkStep (h : BInv w1 nS nF E done W V) (i : Nat) (hp : plainB i = false) (hd : done i = false) (hi : i < V.length := by simp) : BInv w1 nS nF E (upd done i) (W.alloc (.cells (mkCs nS nF i).toArray (mkT i))) (V.set i (mkVal nS nF i W.heap.size)) := by
  have h16 : i ≠ 16 := by rintro rfl; cases hp
  rcases h with ⟨h0, h⟩ | ⟨h0, h1, h2, gA, h3, h⟩
  · exact .inl ⟨by rw [upd_ne' (Ne.symm h16)]; exact h0, h.mkStep i hp hi⟩
  · have h6 : i ≠ 6 := by rintro rfl; rw [h1] at hd; cases hd
    have h14 : i ≠ 14 := by rintro rfl; rw [h2] at hd; cases hd
    refine .inr ⟨by rw [upd_ne' (Ne.symm h16)]; exact h0, by rw [upd_ne' (Ne.symm h6)]; exact h1, by rw [upd_ne' (Ne.symm h14)]; exact h2, gA, by rw [List.getElem?_set_ne h6]; exact h3, ?_⟩
    have := h.mkStep i hp hi
    rwa [show mkCs1 nS nF gA i = mkCs nS nF i from if_neg h14] at this
/-- the first store: what it finds -/
theorem BInv.at16 (h : BInv w1 nS nF E done W V) (hd : done 16 = false) (d6 : done 6 = true) (d14 : done 14 = true) (hV : V[16]? = none := by rfl) : ∃ gA b6, V[6]? = some (.slice (some ⟨gA, 0, none⟩) nS nS) ∧ V[14]? = some (.pointer (some ⟨b6, 0, none⟩)) ∧ Blk W b6 [.slice none 0 0] 72 ∧
    BInv w1 nS nF E (upd done 16) (W.setCell ⟨b6, 0, none⟩ (.slice (some ⟨gA, 0, none⟩) nS nS)) V := by
  rcases h with ⟨-, h⟩ | ⟨h0, -⟩
  · obtain ⟨B, b1, b2⟩ := h.made
    obtain ⟨x1, x2, x3⟩ := b1 6 d6 rfl
    obtain ⟨y1, y2, y3⟩ := b1 14 d14 rfl
    refine ⟨B 6, B 14, x1, y1, y2, .inr ⟨by simp [upd], by rw [upd_ne' (by decide)]; exact d6, by rw [upd_ne' (by decide)]; exact d14, B 6, x1, ?_⟩⟩
    refine ⟨h.up.setCell (p := ⟨B 14, 0, none⟩) y3 _, fun k u hk hpk hdk => ?_, B, fun k hk hpk => ?_, fun k j hk hj pk pj hne => ?_⟩
    · rcases upd_or' hdk with rfl | ⟨e, hdk⟩
      · rw [hV] at hk; cases hk
      · exact h.pure k u hk hpk hdk
    · have h16 : k ≠ 16 := by rintro rfl; cases hpk
      rw [upd_ne' h16] at hk
      obtain ⟨c1, c2, c3⟩ := b1 k hk hpk
      refine ⟨c1, ?_, c3⟩
      by_cases e : k = 14
      · subst e
        exact c2.set 0 _
      · rw [show mkCs1 nS nF (B 6) k = mkCs nS nF k from if_neg e]
        exact c2.other (b2 k 14 hk d14 hpk rfl e) _
    · have h1 : k ≠ 16 := by rintro rfl; cases pk
      have h2 : j ≠ 16 := by rintro rfl; cases pj
      rw [upd_ne' h1] at hk
      rw [upd_ne' h2] at hj
      exact b2 k j hk hj pk pj hne
  · rw [hd] at h0; cases h0
end

section
variable {pT pF pS : Option Addr} {cT cF cS : Nat}
theorem bools_flat (l : List Bool) : (bools l).flatten = boolCells l := by
  unfold bools boolCells
  induction l with
  | nil => rfl
  | cons a r ih => simp [ih]
theorem Blk.bools {W : World} {g : Nat} {l : List Bool} (h : Blk W g (boolCells l) 4) : Row W (some ⟨g, 0, none⟩) 1 (bools l) :=
  RowBlk.row (Blk.row 1 (rows := Go.Proofs.Ytcljkkojeleakaa.bools l) (fun r hr => by
    simp only [Go.Proofs.Ytcljkkojeleakaa.bools, List.mem_map] at hr
    obtain ⟨x, -, rfl⟩ := hr; rfl) (by rw [bools_flat]; exact h))
set_option maxRecDepth 100000 in
set_option maxHeartbeats 4000000 in
theorem bank_c (bw : Nat) (s : Sd) (w : World) (hw : IsWork w bw s pT pF pS cT cF cS) (ok : Ok s) (h : Int) :
    Calls Try.prog 97 #[.pointer (some ⟨bw, 0, none⟩), .int .i64 h] w fun e w' => ∃ q1 d1 q2 d2, e = .returned (.tuple #[.slice q1 (bankV s h).1.length d1, .slice q2 (bankV s h).2.length d2]) ∧ Row w' q1 1 (ints (bankV s h).1) ∧ Row w' q2 1 (ints (bankV s h).2) ∧ Up w w' := by
  have f8 := ok.fl1
  have s16 := ok.sl
  have good := ok.good
  obtain ⟨i0, hi, hz0, hz1, hz2⟩ := info_parts infoB
  have HMS := Lib.hid (fun (u : World) => show (Instr.makeSlice 72 (.int .i64 (s.sills.length : Int)) (.int .i64 (s.sills.length : Int))).run Try.prog u =
      .ok (.slice (some ⟨u.heap.size, 0, none⟩) s.sills.length s.sills.length) (u.alloc (.cells (boolCells (List.replicate s.sills.length false)).toArray 4)) by
    have h := run_make (P := Try.prog) u 72 4 i0 (.bool false) Try.underlying72 hi hz0 .i64 .i64 (s.sills.length : Int) (s.sills.length : Int) (by omega) (by omega) (by rw [hz2]; omega) (by omega)
    rw [Int.toNat_natCast, hz1, Nat.mul_one] at h
    rw [← made_falses]
    exact h)
  have HMF := Lib.hid (fun (u : World) => show (Instr.makeSlice 72 (.int .i64 (s.floors.length : Int)) (.int .i64 (s.floors.length : Int))).run Try.prog u =
      .ok (.slice (some ⟨u.heap.size, 0, none⟩) s.floors.length s.floors.length) (u.alloc (.cells (boolCells (List.replicate s.floors.length false)).toArray 4)) by
    have h := run_make (P := Try.prog) u 72 4 i0 (.bool false) Try.underlying72 hi hz0 .i64 .i64 (s.floors.length : Int) (s.floors.length : Int) (by omega) (by omega) (by rw [hz2]; omega) (by omega)
    rw [Int.toNat_natCast, hz1, Nat.mul_one] at h
    rw [← made_falses]
    exact h)
  clear hi hz0 hz1 hz2
  have HW := Lib.hid hw
  have hb0 := cell_lt hw.sands.s3
  clear hw
  go_enter Try.func97, Try.ntmps97
  go_upto_region 1 with fail
  have BP : Hid (Blk ((w.alloc (.cells #[.pointer (some ⟨bw, 0, none⟩)] 134)).alloc (.cells #[.int .i64 h] 3)) w.heap.size [.pointer (some ⟨bw, 0, none⟩)] 134) := Lib.hid ((Blk.new w [.pointer (some ⟨bw, 0, none⟩)] _).alloc _)
  have BH : Hid (Blk ((w.alloc (.cells #[.pointer (some ⟨bw, 0, none⟩)] 134)).alloc (.cells #[.int .i64 h] 3)) (w.heap.size + 1) [.int .i64 h] 3) := Lib.hid (Blk.new' _ [.int .i64 h] _ (by simp))
  have U1 : Hid (Up w ((w.alloc (.cells #[.pointer (some ⟨bw, 0, none⟩)] 134)).alloc (.cells #[.int .i64 h] 3))) := Lib.hid (by (repeat (first | exact Below.refl _ _ | (with_reducible refine Below.drewN' ?_ _) | (with_reducible refine Below.drew ?_) | (with_reducible refine Below.setCell ?_ (by first | exact Nat.le_refl _ | omega | (with_reducible (repeat (first | refine sz_alloc ?_ | refine sz_setCell ?_ | refine sz_drew ?_ | refine sz_drewN ?_)); first | exact Nat.le_refl _ | omega) | (simp only [World.size_alloc, World.size_setCell, World.size_drew, size_drewN']; omega)) _) | (with_reducible refine Below.alloc ?_ (by first | exact Nat.le_refl _ | omega | (with_reducible (repeat (first | refine sz_alloc ?_ | refine sz_setCell ?_ | refine sz_drew ?_ | refine sz_drewN ?_)); first | exact Nat.le_refl _ | omega) | (simp only [World.size_alloc, World.size_setCell, World.size_drew, size_drewN']; omega)) _) | assumption)))
  have hs1 : w.heap.size ≤ ((w.alloc (.cells #[.pointer (some ⟨bw, 0, none⟩)] 134)).alloc (.cells #[.int .i64 h] 3)).heap.size := by simp; omega
  generalize ((w.alloc (.cells #[.pointer (some ⟨bw, 0, none⟩)] 134)).alloc (.cells #[.int .i64 h] 3)) = w1 at *
  go_cut [6, 7] (fun a b wx => ∃ b6 b7 gA gB, a = .pointer (some ⟨b6, 0, none⟩) ∧ b = .pointer (some ⟨b7, 0, none⟩) ∧ BankAt wx bw w.heap.size (w.heap.size + 1) b6 b7 gA gB h s.sills.length s.floors.length (List.replicate s.sills.length false) (List.replicate s.floors.length false) ∧ w.heap.size ≤ gA ∧ w.heap.size ≤ gB ∧ Up w wx)
  case first =>
    refine region_inv 17 (fun done a W => ∃ v0 v1 v2 v3 v4 v5 v6 v7 v8 v9 v10 v11 v12 v13 v14 v15, a = ⟨#[.pointer (some ⟨bw, 0, none⟩), .int .i64 h, .pointer (some ⟨w.heap.size, 0, none⟩), .pointer (some ⟨w.heap.size + 1, 0, none⟩), .slice none 0 0, .slice none 0 0, v14, v15, undef, undef, v0, v1, v2, v3, v4, v5, v6, v7, v8, v9, v10, v11, v12, v13, undef, undef, undef, undef, undef, undef, undef, undef, undef, undef, undef, undef, undef, undef, undef, undef, undef, undef, undef, undef, undef, undef, undef, undef, undef, undef, undef, undef], []⟩ ∧ BInv w1 s.sills.length s.floors.length [.pointer (some ⟨bw, 0, none⟩), .pointer (some ⟨bw, 0, none⟩), .pointer (some ⟨bw, 0, none⟩), .pointer (some ⟨bw, 4, none⟩), .slice pS s.sills.length cS, .int .i64 s.sills.length, undef, .pointer (some ⟨bw, 0, none⟩), .pointer (some ⟨bw, 0, none⟩), .pointer (some ⟨bw, 0, none⟩), .pointer (some ⟨bw, 3, none⟩), .slice pF s.floors.length cF, .int .i64 s.floors.length, undef, undef, undef] done W [v0, v1, v2, v3, v4, v5, v6, v7, v8, v9, v10, v11, v12, v13, v14, v15]) mixed (by kernel_rfl) ?_ ?_ ?_
    · exact ⟨_, _, _, _, _, _, _, _, _, _, _, _, _, _, _, _, rfl, BInv.start _ _⟩
    · intro done a W i o hi hd ho hall hinv
      obtain ⟨v0, v1, v2, v3, v4, v5, v6, v7, v8, v9, v10, v11, v12, v13, v14, v15, rfl, hC⟩ := hinv
      have HC := Lib.hid hC
      have HA := Lib.hid hall
      have HD := Lib.hid hd
      have wk := HW.out.up (Up.trans U1.out hC.up)
      have c1 := (BP.out.up hC.up).cell 0
      have c3 := wk.sands.s3
      have c4 := wk.sands.s4
      simp only [List.getElem?_cons_zero] at c1
      clear hC hall hd wk
      obtain rfl | rfl | rfl | rfl | rfl | rfl | rfl | rfl | rfl | rfl | rfl | rfl | rfl | rfl | rfl | rfl | rfl : i = 0 ∨ i = 1 ∨ i = 2 ∨ i = 3 ∨ i = 4 ∨ i = 5 ∨ i = 6 ∨ i = 7 ∨ i = 8 ∨ i = 9 ∨ i = 10 ∨ i = 11 ∨ i = 12 ∨ i = 13 ∨ i = 14 ∨ i = 15 ∨ i = 16 := by omega
      · clear ho HA
        refine wpOp_step rfl (fun K hK => ?_)
        rw [if_pos (by rfl)]
        have HK := Lib.hid hK
        clear hK
        go_simp
        exact HK.out _ _ ⟨_, _, _, _, _, _, _, _, _, _, _, _, _, _, _, _, rfl, HC.out.pureStep 0 rfl _ rfl⟩
      · have e0 : v0 = .pointer (some ⟨bw, 0, none⟩) := HC.out.pure 0 _ rfl rfl (HA.out ⟨0, .data⟩ (by cases ho; simp) rfl)
        clear ho HA
        subst e0
        refine wpOp_step rfl (fun K hK => ?_)
        rw [if_pos (by rfl)]
        have HK := Lib.hid hK
        clear hK
        go_simp
        exact HK.out _ _ ⟨_, _, _, _, _, _, _, _, _, _, _, _, _, _, _, _, rfl, HC.out.pureStep 1 rfl _ rfl⟩
      · have e1 : v1 = .pointer (some ⟨bw, 0, none⟩) := HC.out.pure 1 _ rfl rfl (HA.out ⟨1, .data⟩ (by cases ho; simp) rfl)
        clear ho HA
        subst e1
        refine wpOp_step rfl (fun K hK => ?_)
        rw [if_pos (by rfl)]
        have HK := Lib.hid hK
        clear hK
        go_simp
        exact HK.out _ _ ⟨_, _, _, _, _, _, _, _, _, _, _, _, _, _, _, _, rfl, HC.out.pureStep 2 rfl _ rfl⟩
      · have e2 : v2 = .pointer (some ⟨bw, 0, none⟩) := HC.out.pure 2 _ rfl rfl (HA.out ⟨2, .data⟩ (by cases ho; simp) rfl)
        clear ho HA
        subst e2
        refine wpOp_step rfl (fun K hK => ?_)
        rw [if_pos (by rfl)]
        have HK := Lib.hid hK
        clear hK
        go_simp
        exact HK.out _ _ ⟨_, _, _, _, _, _, _, _, _, _, _, _, _, _, _, _, rfl, HC.out.pureStep 3 rfl _ rfl⟩
      · have e3 : v3 = .pointer (some ⟨bw, 4, none⟩) := HC.out.pure 3 _ rfl rfl (HA.out ⟨3, .data⟩ (by cases ho; simp) rfl)
        clear ho HA
        subst e3
        refine wpOp_step rfl (fun K hK => ?_)
        rw [if_pos (by rfl)]
        have HK := Lib.hid hK
        clear hK
        go_simp
        exact HK.out _ _ ⟨_, _, _, _, _, _, _, _, _, _, _, _, _, _, _, _, rfl, HC.out.pureStep 4 rfl _ rfl⟩
      · have e4 : v4 = .slice pS s.sills.length cS := HC.out.pure 4 _ rfl rfl (HA.out ⟨4, .data⟩ (by cases ho; simp) rfl)
        clear ho HA
        subst e4
        refine wpOp_step rfl (fun K hK => ?_)
        rw [if_pos (by rfl)]
        have HK := Lib.hid hK
        clear hK
        go_simp
        exact HK.out _ _ ⟨_, _, _, _, _, _, _, _, _, _, _, _, _, _, _, _, rfl, HC.out.pureStep 5 rfl _ rfl⟩
      · have e5 : v5 = .int .i64 s.sills.length := HC.out.pure 5 _ rfl rfl (HA.out ⟨5, .data⟩ (by cases ho; simp) rfl)
        clear ho HA
        subst e5
        have hmk := HMS.out W
        refine wpOp_step rfl (fun K hK => ?_)
        rw [if_pos (by rfl)]
        have HK := Lib.hid hK
        clear hK
        go_simp
        exact HK.out _ _ ⟨_, _, _, _, _, _, _, _, _, _, _, _, _, _, _, _, rfl, HC.out.mkStep 6 rfl HD.out⟩
      · clear ho HA
        refine wpOp_step rfl (fun K hK => ?_)
        rw [if_pos (by rfl)]
        have HK := Lib.hid hK
        clear hK
        go_simp
        exact HK.out _ _ ⟨_, _, _, _, _, _, _, _, _, _, _, _, _, _, _, _, rfl, HC.out.pureStep 7 rfl _ rfl⟩
      · have e7 : v7 = .pointer (some ⟨bw, 0, none⟩) := HC.out.pure 7 _ rfl rfl (HA.out ⟨7, .data⟩ (by cases ho; simp) rfl)
        clear ho HA
        subst e7
        refine wpOp_step rfl (fun K hK => ?_)
        rw [if_pos (by rfl)]
        have HK := Lib.hid hK
        clear hK
        go_simp
        exact HK.out _ _ ⟨_, _, _, _, _, _, _, _, _, _, _, _, _, _, _, _, rfl, HC.out.pureStep 8 rfl _ rfl⟩
      · have e8 : v8 = .pointer (some ⟨bw, 0, none⟩) := HC.out.pure 8 _ rfl rfl (HA.out ⟨8, .data⟩ (by cases ho; simp) rfl)
        clear ho HA
        subst e8
        refine wpOp_step rfl (fun K hK => ?_)
        rw [if_pos (by rfl)]
        have HK := Lib.hid hK
        clear hK
        go_simp
        exact HK.out _ _ ⟨_, _, _, _, _, _, _, _, _, _, _, _, _, _, _, _, rfl, HC.out.pureStep 9 rfl _ rfl⟩
      · have e9 : v9 = .pointer (some ⟨bw, 0, none⟩) := HC.out.pure 9 _ rfl rfl (HA.out ⟨9, .data⟩ (by cases ho; simp) rfl)
        clear ho HA
        subst e9
        refine wpOp_step rfl (fun K hK => ?_)
        rw [if_pos (by rfl)]
        have HK := Lib.hid hK
        clear hK
        go_simp
        exact HK.out _ _ ⟨_, _, _, _, _, _, _, _, _, _, _, _, _, _, _, _, rfl, HC.out.pureStep 10 rfl _ rfl⟩
      · have e10 : v10 = .pointer (some ⟨bw, 3, none⟩) := HC.out.pure 10 _ rfl rfl (HA.out ⟨10, .data⟩ (by cases ho; simp) rfl)
        clear ho HA
        subst e10
        refine wpOp_step rfl (fun K hK => ?_)
        rw [if_pos (by rfl)]
        have HK := Lib.hid hK
        clear hK
        go_simp
        exact HK.out _ _ ⟨_, _, _, _, _, _, _, _, _, _, _, _, _, _, _, _, rfl, HC.out.pureStep 11 rfl _ rfl⟩
      · have e11 : v11 = .slice pF s.floors.length cF := HC.out.pure 11 _ rfl rfl (HA.out ⟨11, .data⟩ (by cases ho; simp) rfl)
        clear ho HA
        subst e11
        refine wpOp_step rfl (fun K hK => ?_)
        rw [if_pos (by rfl)]
        have HK := Lib.hid hK
        clear hK
        go_simp
        exact HK.out _ _ ⟨_, _, _, _, _, _, _, _, _, _, _, _, _, _, _, _, rfl, HC.out.pureStep 12 rfl _ rfl⟩
      · have e12 : v12 = .int .i64 s.floors.length := HC.out.pure 12 _ rfl rfl (HA.out ⟨12, .data⟩ (by cases ho; simp) rfl)
        clear ho HA
        subst e12
        have hmk := HMF.out W
        refine wpOp_step rfl (fun K hK => ?_)
        rw [if_pos (by rfl)]
        have HK := Lib.hid hK
        clear hK
        go_simp
        exact HK.out _ _ ⟨_, _, _, _, _, _, _, _, _, _, _, _, _, _, _, _, rfl, HC.out.mkStep 13 rfl HD.out⟩
      · clear ho HA
        refine wpOp_step rfl (fun K hK => ?_)
        rw [if_pos (by rfl)]
        have HK := Lib.hid hK
        clear hK
        go_simp
        exact HK.out _ _ ⟨_, _, _, _, _, _, _, _, _, _, _, _, _, _, _, _, rfl, HC.out.mkStep 14 rfl HD.out⟩
      · clear ho HA
        refine wpOp_step rfl (fun K hK => ?_)
        rw [if_pos (by rfl)]
        have HK := Lib.hid hK
        clear hK
        go_simp
        exact HK.out _ _ ⟨_, _, _, _, _, _, _, _, _, _, _, _, _, _, _, _, rfl, HC.out.mkStep 15 rfl HD.out⟩
      · have d6 := HA.out ⟨6, .data⟩ (by cases ho; simp) rfl
        have d14 := HA.out ⟨14, .data⟩ (by cases ho; simp) rfl
        obtain ⟨gA, b6, e6, e14, z2, hN⟩ := HC.out.at16 HD.out d6 d14
        replace e6 : v6 = _ := Option.some.inj e6
        replace e14 : v14 = _ := Option.some.inj e14
        have HN := Lib.hid hN
        have k0 := z2.cell 0
        have kf := z2.free
        have kl := z2.lt
        simp only [List.getElem?_cons_zero] at k0
        clear ho HA hN z2
        subst e6 e14
        refine wpOp_step rfl (fun K hK => ?_)
        rw [if_pos (by rfl)]
        have HK := Lib.hid hK
        clear hK
        go_simp
        exact HK.out _ _ ⟨_, _, _, _, _, _, _, _, _, _, _, _, _, _, _, _, rfl, HN.out⟩
    · rintro a W ⟨v0, v1, v2, v3, v4, v5, v6, v7, v8, v9, v10, v11, v12, v13, v14, v15, rfl, hC⟩
      rcases hC with ⟨h0, -⟩ | ⟨-, -, -, gA, e6, hC⟩
      · cases h0
      obtain ⟨B, b1, b2⟩ := hC.made
      have hu := hC.up
      obtain ⟨x1, x2, x3⟩ := b1 6 rfl rfl
      obtain ⟨y1, y2, y3⟩ := b1 13 rfl rfl
      obtain ⟨z1, z2, z3⟩ := b1 14 rfl rfl
      obtain ⟨t1, t2, t3⟩ := b1 15 rfl rfl
      have n1 := b2 6 13 rfl rfl rfl rfl (by decide)
      have n2 := b2 14 15 rfl rfl rfl rfl (by decide)
      rw [e6] at x1
      replace x1 : gA = B 6 := by
        have := Option.some.inj x1
        simp only [mkVal, if_pos, Value.slice.injEq, Option.some.injEq, Addr.mk.injEq, and_true] at this
        exact this
      replace e6 : v6 = .slice (some ⟨gA, 0, none⟩) s.sills.length s.sills.length := Option.some.inj e6
      replace y1 : v13 = .slice (some ⟨B 13, 0, none⟩) s.floors.length s.floors.length := Option.some.inj y1
      replace z1 : v14 = .pointer (some ⟨B 14, 0, none⟩) := Option.some.inj z1
      replace t1 : v15 = .pointer (some ⟨B 15, 0, none⟩) := Option.some.inj t1
      replace x2 : Blk W (B 6) (boolCells (List.replicate s.sills.length false)) 4 := x2
      replace y2 : Blk W (B 13) (boolCells (List.replicate s.floors.length false)) 4 := y2
      replace z2 : Blk W (B 14) [.slice (some ⟨gA, 0, none⟩) s.sills.length s.sills.length] 72 := z2
      replace t2 : Blk W (B 15) [.slice none 0 0] 72 := t2
      subst e6 y1 z1 t1
      rw [← x1] at x2 n1 x3
      clear b1 b2 hC x1
      generalize B 13 = gB at *
      generalize B 14 = b6 at *
      generalize B 15 = b7 at *
      change wpList _ _ _ [_] _ _
      have HBK : Hid (BankAt (W.setCell ⟨b7, 0, none⟩ (.slice (some ⟨gB, 0, none⟩) s.floors.length s.floors.length)) bw w.heap.size (w.heap.size + 1) b6 b7 gA gB h s.sills.length s.floors.length (List.replicate s.sills.length false) (List.replicate s.floors.length false)) := by
        have p1 := BP.out.up hu
        have p2 := BH.out.up hu
        exact ⟨p1.other (p1.ne t2 (by decide)) _, p2.other (p2.ne t2 (by decide)) _, z2.other n2 _, t2.set 0 _, x2.other (x2.ne t2 (by decide)) _, y2.other (y2.ne t2 (by decide)) _, n1⟩
      have HU : Hid (Up w (W.setCell ⟨b7, 0, none⟩ (.slice (some ⟨gB, 0, none⟩) s.floors.length s.floors.length))) :=
        (Up.trans U1.out hu).setCell (p := ⟨b7, 0, none⟩) (by simp only []; omega) _
      have k0 := z2.cell 0
      have kf := z2.free
      have kl := z2.lt
      have m0 := t2.cell 0
      have mf := t2.free
      have ml := t2.lt
      simp only [List.getElem?_cons_zero] at k0 m0
      have n2' := Ne.symm n2
      clear x2 y2 z2 t2 hu HMS HMF
      go_wp2_with fail
      go_meet
      exact ⟨b6, b7, gA, gB, rfl, rfl, HBK.out, by omega, by omega, HU.out⟩
  case rest =>
    obtain ⟨b6, b7, gA, gB, rfl, rfl, hbk, ga, gb, hu⟩ := hcut
    have BK := Lib.hid hbk
    have U2 := Lib.hid hu
    clear hbk hu BP BH U1 hs1 HMS HMF
    generalize wc = w2 at *
    have HL := Lib.hid (fun (W : World) (u : Up w W) (f : Int) (A B : List Bool) (lA : A.length = s.sills.length) (lB : B.length = s.floors.length) (hB : BankAt W bw w.heap.size (w.heap.size + 1) b6 b7 gA gB h s.sills.length s.floors.length A B) => leave_c bw s w W HW.out u f8 s16 good h w.heap.size (w.heap.size + 1) b6 b7 gA gB f A B lA lB hB ga gb)
    have lr : (List.replicate s.sills.length false).length = s.sills.length ∧ (List.replicate s.floors.length false).length = s.floors.length := ⟨by simp, by simp⟩
    go_wp2_with fail
    refine (HL.out w2 U2.out (-1) _ _ lr.1 lr.2 BK.out).mono ?_
    rintro e w3 ⟨rfl, u3, hbk⟩
    have U3 : Hid (Up w w3) := Below.trans U2.out u3
    have B3 := Lib.hid hbk
    have LN : Hid ((leaveW s h (List.replicate s.sills.length false, List.replicate s.floors.length false) (-1)).1.length = s.sills.length ∧ (leaveW s h (List.replicate s.sills.length false, List.replicate s.floors.length false) (-1)).2.length = s.floors.length) := by
      obtain ⟨e1, e2⟩ := banks_len (h := h) (leads s.sills s.floors.length (-1) s.sills.length) (List.replicate s.sills.length false, List.replicate s.floors.length false)
      exact ⟨e1.trans lr.1, e2.trans lr.2⟩
    have HBW : Hid (bankW s h = (List.range s.floors.length).foldl (leaveP s h) (leaveW s h (List.replicate s.sills.length false, List.replicate s.floors.length false) (-1))) := rfl
    generalize leaveW s h (List.replicate s.sills.length false, List.replicate s.floors.length false) (-1) = st0 at *
    clear hbk u3 BK U2 lr
    have c1 := B3.out.p.cell 0
    have s3 := (HW.out.up U3.out).sands.s3
    simp only [List.getElem?_cons_zero] at c1
    go_wp2_with fail
    go_loopw [9, 33] (fun _ i wr => ∃ (k : Nat) (st : List Bool × List Bool), k ≤ s.floors.length ∧ i = .int .i64 k ∧ st = (List.range k).foldl (leaveP s h) st0 ∧ st.1.length = s.sills.length ∧ st.2.length = s.floors.length ∧ BankAt wr bw w.heap.size (w.heap.size + 1) b6 b7 gA gB h s.sills.length s.floors.length st.1 st.2 ∧ Up w wr) (fun _ i _ => s.floors.length - (intOf i).toNat)
    case atStart => exact ⟨0, st0, Nat.zero_le _, rfl, rfl, LN.out.1, LN.out.2, B3.out, U3.out⟩
    case round =>
      obtain ⟨k, st, hk, rfl, hst, l1, l2, hb, hu⟩ := hrel
      have HST := Lib.hid hst
      have BK := Lib.hid hb
      have HU := Lib.hid hu
      have L12 := Lib.hid (And.intro l1 l2)
      clear hst hb c1 s3 l1 l2
      by_cases hlt : k < s.floors.length
      · have k1 : (k : Int) < s.floors.length := by omega
        have k8 : (k : Int) < 8 := by omega
        have c1 := BK.out.p.cell 0
        have c2 := BK.out.h.cell 0
        have c3 := (HW.out.up hu).gates k (by omega)
        simp only [List.getElem?_cons_zero] at c1 c2
        have HG := Lib.hid (show (gts s)[k]?.getD 0 = gateOf s k from rfl)
        have HN := Lib.hid (show (List.range (k + 1)).foldl (leaveP s h) st0 = leaveP s h st k by rw [List.range_succ, List.foldl_append, ← HST.out]; rfl)
        generalize (gts s)[k]?.getD 0 = gv at *
        clear hu
        by_cases hlow : gv < h
        · have HP : Hid (leaveP s h st k = leaveW s h st k) := by
            show _ = _
            unfold leaveP
            rw [if_pos (by rw [← HG.out]; exact hlow)]
          have l1 := BK.out.p.lt
          have l2 := BK.out.h.lt
          go_wp2_with fail
          go_quiet (fail)
          go_wp2_with fail
          refine (HL.out _ (Below.drewN' HU.out _) k st.1 st.2 L12.out.1 L12.out.2 (BK.out.up (Below.drewN' (Below.refl _ _) _))).mono ?_
          rintro e w5 ⟨rfl, u5, hb5⟩
          have U5 : Hid (Up w w5) := Below.trans (Below.drewN' HU.out _) u5
          have B5 := Lib.hid hb5
          obtain ⟨e1, e2⟩ := banks_len (h := h) (leads s.sills s.floors.length k s.sills.length) (st.1, st.2)
          have LL : Hid ((leaveW s h st k).1.length = s.sills.length ∧ (leaveW s h st k).2.length = s.floors.length) := ⟨e1.trans L12.out.1, e2.trans L12.out.2⟩
          clear hb5 u5 e1 e2
          go_wp2_with fail
          go_roundw
          case rel =>
            try ((repeat apply Exists.intro); refine ⟨?_, rfl⟩)
            exact ⟨k + 1, leaveW s h st k, hlt, by go_num, by rw [HN.out, HP.out], LL.out.1, LL.out.2, B5.out, U5.out⟩
          case measure => simp [intOf]; omega
        · have HP : Hid (leaveP s h st k = st) := by
            show _ = _
            unfold leaveP
            rw [if_neg (by rw [← HG.out]; exact hlow)]
          have l1 := BK.out.p.lt
          have l2 := BK.out.h.lt
          go_wp2_with fail
          go_quiet (fail)
          go_wp2_with fail
          go_roundw
          case rel =>
            try ((repeat apply Exists.intro); refine ⟨?_, rfl⟩)
            exact ⟨k + 1, st, hlt, by go_num, by rw [HN.out, HP.out], L12.out.1, L12.out.2, BK.out.up (Below.drewN' (Below.refl _ _) _), Below.drewN' HU.out _⟩
          case measure => simp [intOf]; omega
      · obtain rfl : k = s.floors.length := by omega
        have HF : Hid (bankW s h = st) := by show _ = _; rw [HBW.out, HST.out]
        have HV1 : Hid ((bankV s h).1 = markL st.1) := by show _ = _; unfold bankV; rw [HF.out]
        have HV2 : Hid ((bankV s h).2 = markL st.2) := by show _ = _; unfold bankV; rw [HF.out]
        have c1 := BK.out.c3.cell 0
        have c2 := BK.out.c4.cell 0
        simp only [List.getElem?_cons_zero] at c1 c2
        have l1 := BK.out.c3.lt
        have l2 := BK.out.c4.lt
        clear hu
        go_upto_region 10 with fail
        refine region_tail (fun W' => W'.cell? ⟨b6, 0, none⟩ = some (.slice (some ⟨gA, 0, none⟩) s.sills.length s.sills.length) ∧ W'.cell? ⟨b7, 0, none⟩ = some (.slice (some ⟨gB, 0, none⟩) s.floors.length s.floors.length)) 6 mixed (by kernel_rfl) ⟨c1, c2⟩ (fun hHeld => ?_)
        refine wpAnyG_take 0 48 (v := ?_) rfl rfl (by kernel_rfl) (fun _ _ _ h => h) (Or.inl ⟨by rfl, ?_⟩) (by assumption) ?_
        rotate_left
        · (intro w' hSw; (try dsimp only at hSw); go_split_ands; go_simp; try with_reducible rfl)
        try simp only [List.setIfInBounds_toArray, List.set_cons_zero, List.set_cons_succ]
        refine wpAnyG_take 2 50 (v := ?_) rfl rfl (by kernel_rfl) (fun _ _ _ h => h) (Or.inl ⟨by rfl, ?_⟩) (by assumption) ?_
        rotate_left
        · (intro w' hSw; (try dsimp only at hSw); go_split_ands; go_simp; try with_reducible rfl)
        try simp only [List.setIfInBounds_toArray, List.set_cons_zero, List.set_cons_succ]
        refine wpAnyG_do 1 rfl (by kernel_rfl) (fun K hK => ?_)
        rw [if_pos (by rfl)]
        go_simp
        have hM1 := marked_c st.1 (some ⟨gA, 0, none⟩) s.sills.length wr.drew (BK.out.a.up (Below.refl _ _).drew).bools (by rw [L12.out.1]; omega)
        rw [L12.out.1] at hM1
        refine hM1.mono ?_
        rintro e wa ⟨q1, d1, rfl, -, -, r1, v1⟩
        have v1' : Up wr wa := Up.trans ((Below.refl _ _).drew) v1
        refine hK.out _ _ ⟨v1'.cellAt c1, v1'.cellAt c2⟩ (fun hHeld => ?_)
        clear hK K hM1
        refine wpAnyG_do 3 rfl (by kernel_rfl) (fun K hK => ?_)
        rw [if_pos (by rfl)]
        go_simp
        have hM2 := marked_c st.2 (some ⟨gB, 0, none⟩) s.floors.length wa (BK.out.b.up v1').bools (by rw [L12.out.2]; omega)
        rw [L12.out.2] at hM2
        refine hM2.mono ?_
        rintro e wb ⟨q2, d2, rfl, -, -, r2, v2⟩
        have v2' : Up wr wb := Up.trans v1' v2
        refine hK.out _ _ ⟨v2'.cellAt c1, v2'.cellAt c2⟩ (fun hHeld => ?_)
        clear hK K hM2
        refine wpAnyG_take 4 4 (v := ?_) rfl rfl (by kernel_rfl) (fun _ _ _ h => h) (Or.inl ⟨by rfl, ?_⟩) (by assumption) ?_
        rotate_left
        · (intro w' hSw; (try dsimp only at hSw); go_split_ands; go_simp; try with_reducible rfl)
        try simp only [List.setIfInBounds_toArray, List.set_cons_zero, List.set_cons_succ]
        refine wpAnyG_take 5 5 (v := ?_) rfl rfl (by kernel_rfl) (fun _ _ _ h => h) (Or.inl ⟨by rfl, ?_⟩) (by assumption) ?_
        rotate_left
        · (intro w' hSw; (try dsimp only at hSw); go_split_ands; go_simp; try with_reducible rfl)
        try simp only [List.setIfInBounds_toArray, List.set_cons_zero, List.set_cons_succ]
        refine wpAnyG_tail (by kernel_rfl) ?_
        change wpList _ _ _ [] _ _
        have R1 := Lib.hid (r1.up v2)
        have R2 := Lib.hid r2
        have U9 := Lib.hid (Up.trans HU.out v2')
        clear hHeld r1 r2 v1 v2 v1' v2' c1 c2
        go_wp2_with fail
        go_ret2
        rw [HV1.out, HV2.out]
        exact ⟨q1, d1, q2, d2, rfl, R1.out, R2.out, U9.out⟩
end
end Go.Proofs.Ytcljkkojeleakaa
namespace Go.Proofs.Ytcljkkojeleakaa
open Go.RowKit Go.Shelf
def bankX (s : Sd) (x : Int) : List Int × List Int := if errGate s x = 0 then bankV s (gateOf s x.toNat) else ([], [])
section
variable {pT pF pS : Option Addr} {cT cF cS : Nat}
set_option maxRecDepth 100000 in
set_option maxHeartbeats 4000000 in
theorem Bank_c (s : Sd) (x : Int) (w : World) (hl : Lists w s pT pF pS cT cF cS) :
    Calls Try.prog 32 #[sdVal s pT pF pS cT cF cS, .int .i64 x] w fun e w' => ∃ q1 d1 q2 d2, e = .returned (.tuple #[.slice q1 (bankX s x).1.length d1, .slice q2 (bankX s x).2.length d2, .int .i64 (errGate s x)]) ∧ Row w' q1 1 (ints (bankX s x).1) ∧ Row w' q2 1 (ints (bankX s x).2) ∧ Up w w' := by
  have HC := Lib.hid (fun W (u : Up w W) => beginGate_c s x W (hl.up u))
  clear hl
  by_cases hE : errGate s x = 0
  · obtain ⟨-, hc, hx0, hx8⟩ := errGate_zero' hE
    have hok := chk_ok hc
    obtain ⟨n, rfl⟩ := Int.eq_ofNat_of_zero_le hx0
    have HV := Lib.hid (show bankX s n = bankV s (gateOf s n) by unfold bankX; rw [if_pos hE, Int.toNat_natCast])
    rw [hE] at HC ⊢
    have HO := Lib.hid hok
    clear hok hE hc
    unfold sdVal at *
    go_enter Try.func32, Try.ntmps32
    go_wp2_with fail
    refine (HC.out _ (by (repeat (first | exact Below.refl _ _ | (with_reducible refine Below.drewN' ?_ _) | (with_reducible refine Below.drew ?_) | (with_reducible refine Below.setCell ?_ (by first | exact Nat.le_refl _ | omega | (with_reducible (repeat (first | refine sz_alloc ?_ | refine sz_setCell ?_ | refine sz_drew ?_ | refine sz_drewN ?_)); first | exact Nat.le_refl _ | omega) | (simp only [World.size_alloc, World.size_setCell, World.size_drew, size_drewN']; omega)) _) | (with_reducible refine Below.alloc ?_ (by first | exact Nat.le_refl _ | omega | (with_reducible (repeat (first | refine sz_alloc ?_ | refine sz_setCell ?_ | refine sz_drew ?_ | refine sz_drewN ?_)); first | exact Nat.le_refl _ | omega) | (simp only [World.size_alloc, World.size_setCell, World.size_drew, size_drewN']; omega)) _) | assumption)))).mono ?_
    rintro e w1 ⟨p, rfl, u1, hok⟩
    obtain ⟨bw, rfl, hW⟩ := hok rfl
    have U1 := Lib.hid (Up.trans (show Up w (w.alloc (.cells (sdCells s pT pF pS cT cF cS).toArray 28)) by (repeat (first | exact Below.refl _ _ | (with_reducible refine Below.drewN' ?_ _) | (with_reducible refine Below.drew ?_) | (with_reducible refine Below.setCell ?_ (by first | exact Nat.le_refl _ | omega | (with_reducible (repeat (first | refine sz_alloc ?_ | refine sz_setCell ?_ | refine sz_drew ?_ | refine sz_drewN ?_)); first | exact Nat.le_refl _ | omega) | (simp only [World.size_alloc, World.size_setCell, World.size_drew, size_drewN']; omega)) _) | (with_reducible refine Below.alloc ?_ (by first | exact Nat.le_refl _ | omega | (with_reducible (repeat (first | refine sz_alloc ?_ | refine sz_setCell ?_ | refine sz_drew ?_ | refine sz_drewN ?_)); first | exact Nat.le_refl _ | omega) | (simp only [World.size_alloc, World.size_setCell, World.size_drew, size_drewN']; omega)) _) | assumption))) u1)
    have HW := Lib.hid hW
    have c0 := hW.gates n (by omega)
    change _ = some (Value.int .i64 (gateOf s n)) at c0
    have lb := cell_lt c0
    have k1 : (n : Int) < 8 := by omega
    clear hok hW u1 HC
    go_wp2_with fail
    refine (bank_c bw s w1 HW.out HO.out (gateOf s n)).mono ?_
    rintro e w2 ⟨q1, d1, q2, d2, rfl, r1, r2, u2⟩
    have R1 := Lib.hid r1
    have R2 := Lib.hid r2
    have U2 := Lib.hid (Up.trans U1.out u2)
    clear r1 r2 u2
    go_wp2_with fail
    refine bodyPost_ret (v := .tuple #[.slice q1 (bankV s (gateOf s n)).1.length d1, .slice q2 (bankV s (gateOf s n)).2.length d2, .int .i64 0]) (by simp [results, Try.f32, go_sem]) rfl ?_
    rw [HV.out]
    exact ⟨q1, d1, q2, d2, rfl, R1.out, R2.out, U2.out⟩
  · have hne : (errGate s x != 0) = true := by rw [bne_iff_ne]; exact hE
    have HV := Lib.hid (show bankX s x = ([], []) by unfold bankX; rw [if_neg hE])
    clear hE
    unfold sdVal at *
    go_enter Try.func32, Try.ntmps32
    go_wp2_with fail
    refine (HC.out _ (by (repeat (first | exact Below.refl _ _ | (with_reducible refine Below.drewN' ?_ _) | (with_reducible refine Below.drew ?_) | (with_reducible refine Below.setCell ?_ (by first | exact Nat.le_refl _ | omega | (with_reducible (repeat (first | refine sz_alloc ?_ | refine sz_setCell ?_ | refine sz_drew ?_ | refine sz_drewN ?_)); first | exact Nat.le_refl _ | omega) | (simp only [World.size_alloc, World.size_setCell, World.size_drew, size_drewN']; omega)) _) | (with_reducible refine Below.alloc ?_ (by first | exact Nat.le_refl _ | omega | (with_reducible (repeat (first | refine sz_alloc ?_ | refine sz_setCell ?_ | refine sz_drew ?_ | refine sz_drewN ?_)); first | exact Nat.le_refl _ | omega) | (simp only [World.size_alloc, World.size_setCell, World.size_drew, size_drewN']; omega)) _) | assumption)))).mono ?_
    rintro e w1 ⟨p, rfl, u1, -⟩
    have U1 := Lib.hid (Up.trans (show Up w (w.alloc (.cells (sdCells s pT pF pS cT cF cS).toArray 28)) by (repeat (first | exact Below.refl _ _ | (with_reducible refine Below.drewN' ?_ _) | (with_reducible refine Below.drew ?_) | (with_reducible refine Below.setCell ?_ (by first | exact Nat.le_refl _ | omega | (with_reducible (repeat (first | refine sz_alloc ?_ | refine sz_setCell ?_ | refine sz_drew ?_ | refine sz_drewN ?_)); first | exact Nat.le_refl _ | omega) | (simp only [World.size_alloc, World.size_setCell, World.size_drew, size_drewN']; omega)) _) | (with_reducible refine Below.alloc ?_ (by first | exact Nat.le_refl _ | omega | (with_reducible (repeat (first | refine sz_alloc ?_ | refine sz_setCell ?_ | refine sz_drew ?_ | refine sz_drewN ?_)); first | exact Nat.le_refl _ | omega) | (simp only [World.size_alloc, World.size_setCell, World.size_drew, size_drewN']; omega)) _) | assumption))) u1)
    clear u1 HC
    go_wp2_with fail
    refine bodyPost_ret (v := .tuple #[.slice none 0 0, .slice none 0 0, .int .i64 (errGate s x)]) (by simp [results, Try.f32, go_sem]) rfl ?_
    rw [HV.out]
    exact ⟨none, 0, none, 0, rfl, Row.nil _ _ _, Row.nil _ _ _, U1.out⟩

end
end Go.Proofs.Ytcljkkojeleakaa
