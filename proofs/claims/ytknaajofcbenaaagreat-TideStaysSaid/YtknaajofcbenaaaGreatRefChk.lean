import Derived.Test.YtknaajofcbenaaaGreatBase
import Derived.Test.YtknaajofcbenaaaGreatHeight
import Derived.Test.YtknaajofcbenaaaGreatChk
import Derived.Test.YtknaajofcbenaaaGreatChk2
import Derived.Test.YtknaajofcbenaaaGreatCheck
import Derived.Test.YtknaajofcbenaaaGreatOn
import Derived.Test.YtknaajofcbenaaaGreatLower
import Derived.Test.YtknaajofcbenaaaGreatGates
import Derived.Test.YtknaajofcbenaaaGreatBegin
import Derived.Test.YtknaajofcbenaaaGreatSpans
import Derived.Test.YtknaajofcbenaaaGreatFits
import Derived.Test.YtknaajofcbenaaaGreatQue
import Derived.Test.YtknaajofcbenaaaGreatLead
import Derived.Test.YtknaajofcbenaaaGreatRef
import Derived.WalkKit
import Derived.WalkSpells
import Derived.WalkLawsBesides
import Derived.Deep.QuietTactic
import Derived.BigQuiet
import Derived.Lib.Hide
import Derived.Shelf.Abstract
import Derived.BigGuardPart
import Derived.RangeFuncNested
import Derived.RangeFuncBound
import Derived.RangeFuncCalls
import Derived.RangeFuncLeaves
import Derived.Shelf.RegionOpen
import Derived.OwnWalkIn
import Derived.TacticsInMore
import Derived.LoopNIn
import Derived.LoopIn
import Derived.StillTailTactics
import Derived.Deep.RegionHeld3
import Derived.StillTail
import Derived.RangeFuncWrites
import Derived.Laws.StructEq
import Derived.Deep.LoopGhost
import Derived.IntWalk
import Derived.RangeFuncBox
import Derived.ArgAppend
import Derived.Laws.CopyOwn
import Derived.OwnWalk
import Derived.Lib.SliceRun
import Derived.Maps.OwnOps
import Derived.Maps.OwnSet
import Derived.Deep.AppendSrc
import Derived.Deep.Upon
namespace Go.Proofs.YtknaajofcbenaaaGreat
open Go.RowKit Go.Shelf

theorem thing_eq (x : Int) (n : Nat) (hn : 1 ≤ n) : inB x (-1) ((n : Int) - 1) = (x == -1 || inB x 0 ((n : Int) - 1)) := by
  rw [Bool.eq_iff_iff, Bool.or_eq_true, inB_true, inB_true, beq_iff_eq]; omega
theorem all_take_succ' {α : Type} {l : List α} {f : α → Bool} {k : Nat} (h : k < l.length) (h1 : (l.take k).all f = true) (h2 : f l[k] = true) : (l.take (k + 1)).all f = true := by
  rw [List.take_add_one, List.getElem?_eq_getElem h, List.all_append, h1]; simp [h2]
theorem all_false_at {α : Type} {l : List α} {f : α → Bool} {k : Nat} (h : k < l.length) (h2 : f l[k] = false) : l.all f = false := by
  rw [List.all_eq_false]; exact ⟨l[k], List.getElem_mem h, by simp [h2]⟩

section
variable {pT pF pS : Option Addr} {cT cF cS : Nat}
set_option maxRecDepth 100000 in
set_option maxHeartbeats 8000000 in
theorem refCheck_c (s : Sd) (w : World) (hl : Lists w s pT pF pS cT cF cS) : Calls Tryz.prog 11 #[sdVal s pT pF pS cT cF cS] w fun e w' => e = .returned (.int .i64 (chk s)) ∧ Up w w' := by
  have HL := Lib.hid hl
  have m1 : (s.table.length : Int) ≤ 9223372036854775807 := by have := Nat.le_trans hl.ct hl.mt; simp only [maxLen] at this; omega
  have m2 : (s.floors.length : Int) ≤ 9223372036854775807 := by have := Nat.le_trans hl.cf hl.mf; simp only [maxLen] at this; omega
  have m3 : (s.sills.length : Int) ≤ 9223372036854775807 := by have := Nat.le_trans hl.cs hl.ms; simp only [maxLen] at this; omega
  clear hl
  unfold sdVal
  go_enter Tryz.func11, Tryz.ntmps11
  by_cases hco : okCounts s = false
  · have HX := Lib.hid (show chk s = 2 by unfold chk; rw [if_pos hco])
    unfold okCounts at hco
    cases hA : inB s.table.length 2 12
    · clear hco
      go_wp2_with (go_at_call 49; refine (off_c _ _ _ _).mono ?_; rintro e w' ⟨rfl, rfl⟩)
      go_ret
      exact ⟨by rw [HX.out]; rfl, by (repeat (first | exact Below.refl _ _ | (with_reducible refine Below.drewN' ?_ _) | (with_reducible refine Below.drew ?_) | (with_reducible refine Below.setCell ?_ (by first | exact Nat.le_refl _ | omega | (with_reducible (repeat (first | refine sz_alloc ?_ | refine sz_setCell ?_ | refine sz_drew ?_ | refine sz_drewN ?_)); first | exact Nat.le_refl _ | omega) | (simp only [World.size_alloc, World.size_setCell, World.size_drew, size_drewN']; omega)) _) | (with_reducible refine Below.alloc ?_ (by first | exact Nat.le_refl _ | omega | (with_reducible (repeat (first | refine sz_alloc ?_ | refine sz_setCell ?_ | refine sz_drew ?_ | refine sz_drewN ?_)); first | exact Nat.le_refl _ | omega) | (simp only [World.size_alloc, World.size_setCell, World.size_drew, size_drewN']; omega)) _) | assumption))⟩
    · cases hB : inB s.floors.length 1 8
      · clear hco
        go_wp2_with (go_at_call 49; refine (off_c _ _ _ _).mono ?_; rintro e w' ⟨rfl, rfl⟩)
        go_ret
        exact ⟨by rw [HX.out]; rfl, by (repeat (first | exact Below.refl _ _ | (with_reducible refine Below.drewN' ?_ _) | (with_reducible refine Below.drew ?_) | (with_reducible refine Below.setCell ?_ (by first | exact Nat.le_refl _ | omega | (with_reducible (repeat (first | refine sz_alloc ?_ | refine sz_setCell ?_ | refine sz_drew ?_ | refine sz_drewN ?_)); first | exact Nat.le_refl _ | omega) | (simp only [World.size_alloc, World.size_setCell, World.size_drew, size_drewN']; omega)) _) | (with_reducible refine Below.alloc ?_ (by first | exact Nat.le_refl _ | omega | (with_reducible (repeat (first | refine sz_alloc ?_ | refine sz_setCell ?_ | refine sz_drew ?_ | refine sz_drewN ?_)); first | exact Nat.le_refl _ | omega) | (simp only [World.size_alloc, World.size_setCell, World.size_drew, size_drewN']; omega)) _) | assumption))⟩
      · have hC : (16 : Int) < s.sills.length := by
          rw [hA, hB] at hco
          simp only [Bool.true_and, decide_eq_false_iff_not] at hco
          omega
        clear hco
        go_wp2_with (go_at_call 49; refine (off_c _ _ _ _).mono ?_; rintro e w' ⟨rfl, rfl⟩)
        go_ret
        exact ⟨by rw [HX.out]; rfl, by (repeat (first | exact Below.refl _ _ | (with_reducible refine Below.drewN' ?_ _) | (with_reducible refine Below.drew ?_) | (with_reducible refine Below.setCell ?_ (by first | exact Nat.le_refl _ | omega | (with_reducible (repeat (first | refine sz_alloc ?_ | refine sz_setCell ?_ | refine sz_drew ?_ | refine sz_drewN ?_)); first | exact Nat.le_refl _ | omega) | (simp only [World.size_alloc, World.size_setCell, World.size_drew, size_drewN']; omega)) _) | (with_reducible refine Below.alloc ?_ (by first | exact Nat.le_refl _ | omega | (with_reducible (repeat (first | refine sz_alloc ?_ | refine sz_setCell ?_ | refine sz_drew ?_ | refine sz_drewN ?_)); first | exact Nat.le_refl _ | omega) | (simp only [World.size_alloc, World.size_setCell, World.size_drew, size_drewN']; omega)) _) | assumption))⟩
  · have hco' : okCounts s = true := by simpa using hco
    unfold okCounts at hco'
    simp only [Bool.and_eq_true, decide_eq_true_eq] at hco'
    obtain ⟨⟨hA, hB⟩, hC⟩ := hco'
    have HX := Lib.hid (show chk s = if okNumbers s = false then 3 else if okOrder s = false then 4 else if s.sills.all (okThings s.floors.length) = false then 1 else if s.sills.all (fun x => x.1 != x.2.1) = false then 8 else 0 by unfold chk; rw [if_neg hco])
    have bA := inB_true.1 hA
    have bB := inB_true.1 hB
    clear hco m1 m2 m3
    have hC' : ¬ (16 : Int) < s.sills.length := by omega
    go_wp2_with (go_at_call 49; refine (off_c _ _ _ _).mono ?_; rintro e w' ⟨rfl, rfl⟩)
    clear hA hB hC'
    refine Code.wp_world ?_
    intro w1 hw1
    have u1 : Up w w1 := by rw [hw1]; (repeat (first | exact Below.refl _ _ | (with_reducible refine Below.drewN' ?_ _) | (with_reducible refine Below.drew ?_) | (with_reducible refine Below.setCell ?_ (by first | exact Nat.le_refl _ | omega | (with_reducible (repeat (first | refine sz_alloc ?_ | refine sz_setCell ?_ | refine sz_drew ?_ | refine sz_drewN ?_)); first | exact Nat.le_refl _ | omega) | (simp only [World.size_alloc, World.size_setCell, World.size_drew, size_drewN']; omega)) _) | (with_reducible refine Below.alloc ?_ (by first | exact Nat.le_refl _ | omega | (with_reducible (repeat (first | refine sz_alloc ?_ | refine sz_setCell ?_ | refine sz_drew ?_ | refine sz_drewN ?_)); first | exact Nat.le_refl _ | omega) | (simp only [World.size_alloc, World.size_setCell, World.size_drew, size_drewN']; omega)) _) | assumption))
    have hBk : Blk w1 w.heap.size (sdCells s pT pF pS cT cF cS) 35 := by rw [hw1]; exact Blk.new w _ _
    have HL1 := Lib.hid (HL.out.up u1)
    have HU1 := Lib.hid u1
    have c0 := hBk.cell 0
    have c1 := hBk.cell 1
    have c2 := hBk.cell 2
    have c3 := hBk.cell 3
    have c4 := hBk.cell 4
    simp only [sdCells, List.getElem?_cons_zero, List.getElem?_cons_succ] at c0 c1 c2 c3 c4
    clear hw1 u1 hBk HL
    go_loopw [4] (fun i wr => ∃ k : Nat, k ≤ s.table.length ∧ i = .int .i64 k ∧ (s.table.take k).all okWater = true ∧ wr = w1) (fun i _ => s.table.length - (intOf i).toNat)
    case atStart => exact ⟨0, Nat.zero_le _, rfl, rfl, rfl⟩
    case round =>
      obtain ⟨k, hk, rfl, ht, rfl⟩ := hrel
      have HT := Lib.hid ht
      clear ht
      by_cases hlt : k < s.table.length
      · obtain ⟨b, off, rfl, d0, d1⟩ := HL1.out.rt.pair k hlt
        have b1 : (k : Int) < (s.table.length : Int) := by omega
        have b2 : (0 : Int) ≤ k := by omega
        have sk : IntKind.i64.wrap ((k : Int) + 1) = (k : Int) + 1 := IntWalk.i64_in _ (by omega)
        have HN := Lib.hid (all_take_succ' (f := okWater) hlt HT.out)
        have HF := Lib.hid (fun h : okWater s.table[k] = false => show okNumbers s = false by unfold okNumbers; rw [all_false_at hlt h]; rfl)
        generalize s.table[k] = x at *
        obtain ⟨xa, xb⟩ := x
        dsimp only at d0 d1
        cases h1 : inB xa 0 1440
        · have HR := Lib.hid (show chk s = 3 by rw [HX.out, if_pos (HF.out (by unfold okWater; rw [h1]; rfl))])
          go_wp2_with (go_at_call 49; refine (off_c _ _ _ _).mono ?_; rintro e w' ⟨rfl, rfl⟩)
          go_ret
          exact ⟨by rw [HR.out]; rfl, HU1.out⟩
        · cases h2 : inB xb 0 999
          · have HR := Lib.hid (show chk s = 3 by rw [HX.out, if_pos (HF.out (by unfold okWater; rw [h1, h2]; rfl))])
            go_wp2_with (go_at_call 49; refine (off_c _ _ _ _).mono ?_; rintro e w' ⟨rfl, rfl⟩)
            go_ret
            exact ⟨by rw [HR.out]; rfl, HU1.out⟩
          · have HR := Lib.hid (HN.out (by unfold okWater; rw [h1, h2]; rfl))
            go_wp2_with (go_at_call 49; refine (off_c _ _ _ _).mono ?_; rintro e w' ⟨rfl, rfl⟩)
            go_roundw
            case rel => exact ⟨k + 1, hlt, by go_num, HR.out, by first | rfl | trivial⟩
            case measure => simp [intOf]; omega
      · obtain rfl : k = s.table.length := by omega
        rw [List.take_length] at HT
        clear hk hlt
        have HW := Lib.hid HT.out
        cases hlo : inB s.lo (-50) 50
        · have HR := Lib.hid (show chk s = 3 by rw [HX.out, if_pos (by unfold okNumbers; rw [hlo]; simp)])
          clear HT
          go_wp2_with (go_at_call 49; refine (off_c _ _ _ _).mono ?_; rintro e w' ⟨rfl, rfl⟩)
          go_ret
          exact ⟨by rw [HR.out]; rfl, HU1.out⟩
        · cases hhi : inB s.hi (-50) 50
          · have HR := Lib.hid (show chk s = 3 by rw [HX.out, if_pos (by unfold okNumbers; rw [hhi]; simp)])
            clear HT
            go_wp2_with (go_at_call 49; refine (off_c _ _ _ _).mono ?_; rintro e w' ⟨rfl, rfl⟩)
            go_ret
            exact ⟨by rw [HR.out]; rfl, HU1.out⟩
          · clear HT
            have HLO := Lib.hid hlo
            have HHI := Lib.hid hhi
            go_wp2_with (go_at_call 49; refine (off_c _ _ _ _).mono ?_; rintro e w' ⟨rfl, rfl⟩)
            clear hlo hhi
            go_loopw [5] (fun i wq => ∃ k : Nat, k ≤ s.floors.length ∧ i = .int .i64 k ∧ (s.floors.take k).all (fun x => inB x 0 999) = true ∧ wq = wr) (fun i _ => s.floors.length - (intOf i).toNat)
            case atStart => exact ⟨0, Nat.zero_le _, rfl, rfl, rfl⟩
            case round =>
              obtain ⟨k, hk, rfl, ht, rfl⟩ := hrel
              have HT := Lib.hid ht
              clear ht
              by_cases hlt : k < s.floors.length
              · obtain ⟨b, off, rfl, d0⟩ := HL1.out.rf.int k hlt
                have b1 : (k : Int) < (s.floors.length : Int) := by omega
                have b2 : (0 : Int) ≤ k := by omega
                have sk : IntKind.i64.wrap ((k : Int) + 1) = (k : Int) + 1 := IntWalk.i64_in _ (by omega)
                have HN := Lib.hid (all_take_succ' (f := fun x => inB x 0 999) hlt HT.out)
                have HF := Lib.hid (fun h : inB s.floors[k] 0 999 = false => show okNumbers s = false by unfold okNumbers; rw [all_false_at (f := fun x => inB x 0 999) hlt h]; simp)
                generalize s.floors[k] = x at *
                cases h1 : inB x 0 999
                · have HR := Lib.hid (show chk s = 3 by rw [HX.out, if_pos (HF.out h1)])
                  go_wp2_with (go_at_call 49; refine (off_c _ _ _ _).mono ?_; rintro e w' ⟨rfl, rfl⟩)
                  go_ret
                  exact ⟨by rw [HR.out]; rfl, HU1.out⟩
                · have HR := Lib.hid (HN.out h1)
                  go_wp2_with (go_at_call 49; refine (off_c _ _ _ _).mono ?_; rintro e w' ⟨rfl, rfl⟩)
                  go_roundw
                  case rel => exact ⟨k + 1, hlt, by go_num, HR.out, by first | rfl | trivial⟩
                  case measure => simp [intOf]; omega
              · obtain rfl : k = s.floors.length := by omega
                rw [List.take_length] at HT
                have HFl := Lib.hid HT.out
                clear HT hk hlt
                go_wp2_with fail
                go_loopw [6] (fun i wq => ∃ k : Nat, k ≤ s.sills.length ∧ i = .int .i64 k ∧ (s.sills.take k).all (fun x => inB x.2.2 0 999) = true ∧ wq = wr) (fun i _ => s.sills.length - (intOf i).toNat)
                case atStart => exact ⟨0, Nat.zero_le _, rfl, rfl, rfl⟩
                case round =>
                  obtain ⟨k, hk, rfl, ht, rfl⟩ := hrel
                  have HT := Lib.hid ht
                  clear ht
                  by_cases hlt : k < s.sills.length
                  · obtain ⟨b, off, rfl, d0, d1, d2⟩ := HL1.out.rs.triple k hlt
                    have b1 : (k : Int) < (s.sills.length : Int) := by omega
                    have b2 : (0 : Int) ≤ k := by omega
                    have sk : IntKind.i64.wrap ((k : Int) + 1) = (k : Int) + 1 := IntWalk.i64_in _ (by omega)
                    have HN := Lib.hid (all_take_succ' (f := fun x => inB x.2.2 0 999) hlt HT.out)
                    have HF := Lib.hid (fun h : inB s.sills[k].2.2 0 999 = false => show okNumbers s = false by unfold okNumbers; rw [all_false_at (f := fun x : Int × Int × Int => inB x.2.2 0 999) hlt h]; simp)
                    generalize s.sills[k] = x at *
                    obtain ⟨xa, xb, xc⟩ := x
                    dsimp only at d0 d1 d2
                    cases h1 : inB xc 0 999
                    · have HR := Lib.hid (show chk s = 3 by rw [HX.out, if_pos (HF.out h1)])
                      go_wp2_with (go_at_call 49; refine (off_c _ _ _ _).mono ?_; rintro e w' ⟨rfl, rfl⟩)
                      go_ret
                      exact ⟨by rw [HR.out]; rfl, HU1.out⟩
                    · have HR := Lib.hid (HN.out h1)
                      go_wp2_with (go_at_call 49; refine (off_c _ _ _ _).mono ?_; rintro e w' ⟨rfl, rfl⟩)
                      go_roundw
                      case rel => exact ⟨k + 1, hlt, by go_num, HR.out, by first | rfl | trivial⟩
                      case measure => simp [intOf]; omega
                  · obtain rfl : k = s.sills.length := by omega
                    rw [List.take_length] at HT
                    have HX2 := Lib.hid (show chk s = if okOrder s = false then 4 else if s.sills.all (okThings s.floors.length) = false then 1 else if s.sills.all (fun x => x.1 != x.2.1) = false then 8 else 0 by
                      rw [HX.out, if_neg]; unfold okNumbers; rw [HW.out, HLO.out, HHI.out, HFl.out, HT.out]; decide)
                    clear HT hk hlt HX HW HLO HHI HFl
                    go_wp2_with fail
                    go_loopw [7] (fun i wq => ∃ k : Nat, 1 ≤ k ∧ k ≤ s.table.length ∧ i = .int .i64 k ∧ ((List.range (k - 1)).all fun i => decide ((s.table.getD i (0, 0)).1 < (s.table.getD (i + 1) (0, 0)).1)) = true ∧ Up wr wq) (fun i _ => s.table.length - (intOf i).toNat)
                    case atStart => exact ⟨1, Nat.le_refl _, by omega, rfl, rfl, Below.refl _ _⟩
                    case round =>
                      obtain ⟨k, hk1, hk, rfl, ht, hu⟩ := hrel
                      have HT := Lib.hid ht
                      have HU := Lib.hid hu
                      have d0 := hu.cellAt c0
                      clear ht hu
                      by_cases hlt : k < s.table.length
                      · obtain ⟨b, off, rfl, x0, -⟩ := HL1.out.rt.pair k hlt
                        obtain ⟨b', off', e', y0, -⟩ := HL1.out.rt.pair (k - 1) (by omega)
                        simp only [Option.some.injEq, Addr.mk.injEq, and_true] at e'
                        obtain ⟨rfl, rfl⟩ := e'
                        have x1 := HU.out.cellAt x0
                        have y1 := HU.out.cellAt y0
                        have b1 : (k : Int) < (s.table.length : Int) := by omega
                        have b2 : (0 : Int) ≤ k := by omega
                        have b3 : (k : Int) - 1 < (s.table.length : Int) := by omega
                        have b4 : (0 : Int) ≤ (k : Int) - 1 := by omega
                        have b5 : ((k : Int) - 1).toNat = k - 1 := by omega
                        have sk : IntKind.i64.wrap ((k : Int) + 1) = (k : Int) + 1 := IntWalk.i64_in _ (by omega)
                        have sm : IntKind.i64.wrap ((k : Int) - 1) = (k : Int) - 1 := IntWalk.i64_in _ (by omega)
                        have hg : (s.table.getD (k - 1) (0, 0)).1 = s.table[k - 1].1 ∧ (s.table.getD (k - 1 + 1) (0, 0)).1 = s.table[k].1 := by
                          constructor
                          · rw [List.getD, List.getElem?_eq_getElem (by omega)]; rfl
                          · rw [show k - 1 + 1 = k by omega, List.getD, List.getElem?_eq_getElem hlt]; rfl
                        have HN := Lib.hid (fun h : s.table[k - 1].1 < s.table[k].1 => show ((List.range (k + 1 - 1)).all fun i => decide ((s.table.getD i (0, 0)).1 < (s.table.getD (i + 1) (0, 0)).1)) = true by
                          rw [show k + 1 - 1 = (k - 1) + 1 by omega, List.range_succ, List.all_append, HT.out]
                          simp only [List.all_cons, List.all_nil, Bool.and_true, Bool.true_and, decide_eq_true_eq]
                          rw [hg.1, hg.2]; exact h)
                        have HF := Lib.hid (fun h : ¬ s.table[k - 1].1 < s.table[k].1 => show okOrder s = false by
                          unfold okOrder ordB
                          rw [show ((List.range (s.table.length - 1)).all fun i => decide ((s.table.getD i (0, 0)).1 < (s.table.getD (i + 1) (0, 0)).1)) = false by
                            rw [List.all_eq_false]; exact ⟨k - 1, List.mem_range.2 (by omega), by rw [hg.1, hg.2]; simpa using h⟩]
                          rfl)
                        clear x0 y0 hg
                        generalize s.table[k].1 = x at *
                        generalize s.table[k - 1].1 = y at *
                        go_wp2_with fail
                        by_cases hxy : y < x
                        · have hxy' : ¬ x ≤ y := by omega
                          have HR := Lib.hid (HN.out (by omega))
                          go_quiet (fail)
                          go_wp2_with fail
                          go_roundw
                          case rel => exact ⟨k + 1, by omega, hlt, by go_num, HR.out, Below.drewN' HU.out _⟩
                          case measure => simp [intOf]; omega
                        · have hxy' : x ≤ y := by omega
                          have HR := Lib.hid (show chk s = 4 by rw [HX2.out, if_pos (HF.out (by omega))])
                          go_quiet (fail)
                          go_wp2_with fail
                          go_ret
                          exact ⟨by rw [HR.out]; rfl, Up.trans HU1.out (Below.drewN' HU.out _)⟩
                      · obtain rfl : k = s.table.length := by omega
                        have HU2 := Lib.hid (Up.trans HU1.out HU.out)
                        have HL2 := Lib.hid (HL1.out.up HU.out)
                        have d1 := HU.out.cellAt c1
                        have d2 := HU.out.cellAt c2
                        have d3 := HU.out.cellAt c3
                        have d4 := HU.out.cellAt c4
                        have HO := Lib.hid (show ordB s.table = true from HT.out)
                        clear c0 c1 c2 c3 c4 HU HU1 HL1 HT hk hlt
                        by_cases hw : s.hi < s.lo
                        · have HR := Lib.hid (show chk s = 4 by rw [HX2.out, if_pos (by unfold okOrder; rw [HO.out]; simp; omega)])
                          go_wp2_with fail
                          go_ret
                          exact ⟨by rw [HR.out]; rfl, HU2.out⟩
                        · have HX3 := Lib.hid (show chk s = if s.sills.all (okThings s.floors.length) = false then 1 else if s.sills.all (fun x => x.1 != x.2.1) = false then 8 else 0 by rw [HX2.out, if_neg (by unfold okOrder; rw [HO.out]; simp; omega)])
                          clear HX2 HO
                          go_wp2_with fail
                          go_loopw [8] (fun i wq => ∃ k : Nat, k ≤ s.sills.length ∧ i = .int .i64 k ∧ (s.sills.take k).all (okThings s.floors.length) = true ∧ wq = wr) (fun i _ => s.sills.length - (intOf i).toNat)
                          case atStart => exact ⟨0, Nat.zero_le _, rfl, rfl, rfl⟩
                          case round =>
                            obtain ⟨k, hk, rfl, ht, rfl⟩ := hrel
                            have HT := Lib.hid ht
                            clear ht
                            by_cases hlt : k < s.sills.length
                            · obtain ⟨b, off, rfl, x0, x1, x2⟩ := HL2.out.rs.triple k hlt
                              have b1 : (k : Int) < (s.sills.length : Int) := by omega
                              have b2 : (0 : Int) ≤ k := by omega
                              have sk : IntKind.i64.wrap ((k : Int) + 1) = (k : Int) + 1 := IntWalk.i64_in _ (by omega)
                              have sf : IntKind.i64.wrap ((s.floors.length : Int) - 1) = (s.floors.length : Int) - 1 := IntWalk.i64_in _ (by omega)
                              have HN := Lib.hid (all_take_succ' (f := okThings s.floors.length) hlt HT.out)
                              have HF := Lib.hid (fun h : okThings s.floors.length s.sills[k] = false => all_false_at (f := okThings s.floors.length) hlt h)
                              generalize s.sills[k] = x at *
                              obtain ⟨xa, xb, xc⟩ := x
                              dsimp only at x0 x1 x2
                              have HE := Lib.hid (show okThings s.floors.length (xa, xb, xc) = (inB xa (-1) ((s.floors.length : Int) - 1) && inB xb (-1) ((s.floors.length : Int) - 1)) by unfold okThings; rw [thing_eq xa _ (by omega), thing_eq xb _ (by omega)])
                              cases h1 : inB xa (-1) ((s.floors.length : Int) - 1)
                              · have HR := Lib.hid (show chk s = 1 by rw [HX3.out, if_pos (HF.out (by rw [HE.out, h1]; rfl))])
                                go_wp2_with (go_at_call 49; refine (off_c _ _ _ _).mono ?_; rintro e w' ⟨rfl, rfl⟩)
                                go_ret
                                exact ⟨by rw [HR.out]; rfl, HU2.out⟩
                              · cases h2 : inB xb (-1) ((s.floors.length : Int) - 1)
                                · have HR := Lib.hid (show chk s = 1 by rw [HX3.out, if_pos (HF.out (by rw [HE.out, h1, h2]; rfl))])
                                  go_wp2_with (go_at_call 49; refine (off_c _ _ _ _).mono ?_; rintro e w' ⟨rfl, rfl⟩)
                                  go_ret
                                  exact ⟨by rw [HR.out]; rfl, HU2.out⟩
                                · have HR := Lib.hid (HN.out (by rw [HE.out, h1, h2]; rfl))
                                  go_wp2_with (go_at_call 49; refine (off_c _ _ _ _).mono ?_; rintro e w' ⟨rfl, rfl⟩)
                                  go_roundw
                                  case rel => exact ⟨k + 1, hlt, by go_num, HR.out, by first | rfl | trivial⟩
                                  case measure => simp [intOf]; omega
                            · obtain rfl : k = s.sills.length := by omega
                              rw [List.take_length] at HT
                              have HX4 := Lib.hid (show chk s = if s.sills.all (fun x => x.1 != x.2.1) = false then 8 else 0 by rw [HX3.out, if_neg (by rw [HT.out]; decide)])
                              clear HT hk hlt HX3
                              go_wp2_with fail
                              go_loopw [9] (fun i wq => ∃ k : Nat, k ≤ s.sills.length ∧ i = .int .i64 k ∧ (s.sills.take k).all (fun x => x.1 != x.2.1) = true ∧ Up wr wq) (fun i _ => s.sills.length - (intOf i).toNat)
                              case atStart => exact ⟨0, Nat.zero_le _, rfl, rfl, Below.refl _ _⟩
                              case round =>
                                obtain ⟨k, hk, rfl, ht, hu⟩ := hrel
                                have HT := Lib.hid ht
                                have HU := Lib.hid hu
                                have e4 := hu.cellAt d4
                                clear ht hu
                                by_cases hlt : k < s.sills.length
                                · obtain ⟨b, off, rfl, x0, x1, x2⟩ := HL2.out.rs.triple k hlt
                                  have y0 := HU.out.cellAt x0
                                  have y1 := HU.out.cellAt x1
                                  have b1 : (k : Int) < (s.sills.length : Int) := by omega
                                  have b2 : (0 : Int) ≤ k := by omega
                                  have sk : IntKind.i64.wrap ((k : Int) + 1) = (k : Int) + 1 := IntWalk.i64_in _ (by omega)
                                  have HN := Lib.hid (all_take_succ' (f := fun x => x.1 != x.2.1) hlt HT.out)
                                  have HF := Lib.hid (fun h : (s.sills[k].1 != s.sills[k].2.1) = false => all_false_at (f := fun x : Int × Int × Int => x.1 != x.2.1) hlt h)
                                  clear x0 x1 x2
                                  generalize s.sills[k] = x at *
                                  obtain ⟨xa, xb, xc⟩ := x
                                  dsimp only at y0 y1
                                  go_wp2_with fail
                                  by_cases hxy : xa = xb
                                  · have HR := Lib.hid (show chk s = 8 by rw [HX4.out, if_pos (HF.out (by simp [hxy]))])
                                    go_quiet (fail)
                                    go_wp2_with fail
                                    go_ret
                                    exact ⟨by rw [HR.out]; rfl, Up.trans HU2.out (Below.drewN' HU.out _)⟩
                                  · have HR := Lib.hid (HN.out (by simp [hxy]))
                                    go_quiet (fail)
                                    go_wp2_with fail
                                    go_roundw
                                    case rel => exact ⟨k + 1, hlt, by go_num, HR.out, Below.drewN' HU.out _⟩
                                    case measure => simp [intOf]; omega
                                · obtain rfl : k = s.sills.length := by omega
                                  rw [List.take_length] at HT
                                  have HR := Lib.hid (show chk s = 0 by rw [HX4.out, if_neg (by rw [HT.out]; decide)])
                                  go_wp2_with fail
                                  go_ret
                                  exact ⟨by rw [HR.out]; rfl, Up.trans HU2.out HU.out⟩
end
end Go.Proofs.YtknaajofcbenaaaGreat
