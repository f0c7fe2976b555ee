import Derived.Test.YtknaajofcbenaaaGreatBase
import Derived.Test.YtknaajofcbenaaaGreatLine
import Derived.Test.YtknaajofcbenaaaGreatHeight
import Derived.Test.YtknaajofcbenaaaGreatChk2
import Derived.Test.YtknaajofcbenaaaGreatCheck
import Derived.Test.YtknaajofcbenaaaGreatOn
import Derived.Test.YtknaajofcbenaaaGreatLower
import Derived.Test.YtknaajofcbenaaaGreatGates
import Derived.Test.YtknaajofcbenaaaGreatBegin
import Derived.Test.YtknaajofcbenaaaGreatBegin2
import Derived.Test.YtknaajofcbenaaaGreatState
import Derived.Test.YtknaajofcbenaaaGreatSpans
import Derived.Test.YtknaajofcbenaaaGreatFits
import Derived.Test.YtknaajofcbenaaaGreatQue
import Derived.Test.YtknaajofcbenaaaGreatLead
import Derived.Test.YtknaajofcbenaaaGreatHgtPure
import Derived.WalkKit
import Derived.WalkSpells
import Derived.WalkLawsBesides
import Derived.Deep.QuietTactic
import Derived.BigQuiet
import Derived.Lib.Hide
import Derived.Shelf.Abstract
import Derived.BigGuardPart
import Derived.RangeFuncNested
import Derived.RangeFuncBound
import Derived.RangeFuncCalls
import Derived.RangeFuncLeaves
import Derived.Shelf.RegionOpen
import Derived.OwnWalkIn
import Derived.TacticsInMore
import Derived.LoopNIn
import Derived.LoopIn
import Derived.StillTailTactics
import Derived.Deep.RegionHeld3
import Derived.StillTail
import Derived.RangeFuncWrites
import Derived.Laws.StructEq
import Derived.Deep.LoopGhost
import Derived.IntWalk
import Derived.RangeFuncBox
import Derived.ArgAppend
import Derived.Laws.CopyOwn
import Derived.OwnWalk
import Derived.Lib.SliceRun
import Derived.Maps.OwnOps
import Derived.Maps.OwnSet
import Derived.Deep.AppendSrc
import Derived.Deep.Upon
namespace Go.Proofs.YtknaajofcbenaaaGreat
open Go.RowKit Go.Shelf

section
variable {pT pF pS : Option Addr} {cT cF cS : Nat}
set_option maxRecDepth 100000 in
set_option maxHeartbeats 8000000 in
theorem refHeight_c (s : Sd) (m : Int) (w : World) (hl : Lists w s pT pF pS cT cF cS) (ok : okTable s.table) (hm : firstM s.table ≤ m) (hm' : m ≤ lastM s.table) :
    Calls Tryz.prog 55 #[sdVal s pT pF pS cT cF cS, .int .i64 m] w fun e w' => e = .returned (.int .i64 (hgt s.table m)) ∧ Up w w' := by
  have HL := Lib.hid hl
  have OK := Lib.hid ok
  obtain ⟨-, -, l2, l12⟩ := ok
  have e0 : firstM s.table = (s.table[0]'(by omega)).1 := by simp [firstM, List.getElem?_eq_getElem (show 0 < s.table.length by omega)]
  have e1 : lastM s.table = (s.table[s.table.length - 1]'(by omega)).1 := by simp [lastM, List.getElem?_eq_getElem (show s.table.length - 1 < s.table.length by omega)]
  have HF := Lib.hid (e0 ▸ hm)
  have HG := Lib.hid (e1 ▸ hm')
  clear hl hm hm' e0 e1
  unfold sdVal
  go_enter Tryz.func55, Tryz.ntmps55
  go_wp2_with fail
  refine Code.wp_world ?_
  intro w1 hw1
  have u1 : Up w w1 := by rw [hw1]; (repeat (first | exact Below.refl _ _ | (with_reducible refine Below.drewN' ?_ _) | (with_reducible refine Below.drew ?_) | (with_reducible refine Below.setCell ?_ (by first | exact Nat.le_refl _ | omega | (with_reducible (repeat (first | refine sz_alloc ?_ | refine sz_setCell ?_ | refine sz_drew ?_ | refine sz_drewN ?_)); first | exact Nat.le_refl _ | omega) | (simp only [World.size_alloc, World.size_setCell, World.size_drew, size_drewN']; omega)) _) | (with_reducible refine Below.alloc ?_ (by first | exact Nat.le_refl _ | omega | (with_reducible (repeat (first | refine sz_alloc ?_ | refine sz_setCell ?_ | refine sz_drew ?_ | refine sz_drewN ?_)); first | exact Nat.le_refl _ | omega) | (simp only [World.size_alloc, World.size_setCell, World.size_drew, size_drewN']; omega)) _) | assumption))
  have hBk : Blk w1 w.heap.size (sdCells s pT pF pS cT cF cS) 35 := by rw [hw1]; exact Blk.new w _ _
  have HL1 := Lib.hid (HL.out.up u1)
  have HU1 := Lib.hid u1
  have c0 := hBk.cell 0
  simp only [sdCells, List.getElem?_cons_zero] at c0
  clear hw1 u1 hBk HL
  go_loopw [5] (fun i wr => ∃ k : Nat, k ≤ s.table.length ∧ i = .int .i64 k ∧ (∀ j (h : j < s.table.length), j < k → s.table[j].1 ≠ m) ∧ wr = w1) (fun i _ => s.table.length - (intOf i).toNat)
  case atStart => exact ⟨0, Nat.zero_le _, rfl, fun j _ h => by omega, rfl⟩
  case round =>
    obtain ⟨k, hk, rfl, ht, rfl⟩ := hrel
    have HT := Lib.hid ht
    clear ht
    by_cases hlt : k < s.table.length
    · obtain ⟨b, off, rfl, d0, d1⟩ := HL1.out.rt.pair k hlt
      have b1 : (k : Int) < (s.table.length : Int) := by omega
      have b2 : (0 : Int) ≤ k := by omega
      have sk : IntKind.i64.wrap ((k : Int) + 1) = (k : Int) + 1 := IntWalk.i64_in _ (by omega)
      by_cases he : s.table[k].1 = m
      · have HR := Lib.hid (show hgt s.table m = s.table[k].2 by rw [← he]; exact hgt_knot OK.out k hlt)
        generalize s.table[k] = x at *
        obtain ⟨xa, xb⟩ := x
        dsimp only at d0 d1 he HR
        subst he
        go_wp2_with fail
        go_ret
        exact ⟨by rw [HR.out]; rfl, HU1.out⟩
      · have HN : Hid (∀ j (h : j < s.table.length), j < k + 1 → s.table[j].1 ≠ m) := fun j h hj => by
          by_cases e : j = k
          · subst e; exact he
          · exact HT.out j h (by omega)
        generalize s.table[k] = x at *
        obtain ⟨xa, xb⟩ := x
        dsimp only at d0 d1 he
        go_wp2_with fail
        go_roundw
        case rel => exact ⟨k + 1, hlt, by go_num, HN.out, by first | rfl | trivial⟩
        case measure => simp [intOf]; omega
    · obtain rfl : k = s.table.length := by omega
      have HNE := Lib.hid (fun (j : Nat) (h : j < s.table.length) => HT.out j h h)
      clear HT hk hlt
      go_wp2_with fail
      go_loopw [6] (fun i wq => ∃ k : Nat, k + 1 < s.table.length ∧ i = .int .i64 k ∧ (∀ j (h : j < s.table.length), j ≤ k → s.table[j].1 < m) ∧ wq = wr) (fun i _ => s.table.length - (intOf i).toNat)
      case atStart => exact ⟨0, by omega, rfl, fun j h hj => by
        have : j = 0 := by omega
        subst this
        have := HNE.out 0 h
        have := HF.out
        omega, rfl⟩
      case round =>
        obtain ⟨k, hk, rfl, ht, rfl⟩ := hrel
        have HT := Lib.hid ht
        clear ht
        obtain ⟨b, off, rfl, d0, d1⟩ := HL1.out.rt.pair (k + 1) hk
        have b1 : (k : Int) + 1 < (s.table.length : Int) := by omega
        have b2 : (0 : Int) ≤ (k : Int) + 1 := by omega
        have b3 : ((k : Int) + 1).toNat = k + 1 := by omega
        have sk : IntKind.i64.wrap ((k : Int) + 1) = (k : Int) + 1 := IntWalk.i64_in _ (by omega)
        by_cases he : s.table[k + 1].1 < m
        · have hk2 : k + 1 + 1 < s.table.length := by
            rcases Nat.lt_or_ge (k + 1 + 1) s.table.length with h | h
            · exact h
            · have e : s.table.length - 1 = k + 1 := by omega
              have := HG.out
              simp only [e] at this
              omega
          have HN : Hid (∀ j (h : j < s.table.length), j ≤ k + 1 → s.table[j].1 < m) := fun j h hj => by
            by_cases e : j = k + 1
            · subst e; exact he
            · exact HT.out j h (by omega)
          generalize s.table[k + 1] = x at *
          obtain ⟨xa, xb⟩ := x
          dsimp only at d0 d1 he
          go_wp2_with fail
          go_roundw
          case rel => exact ⟨k + 1, hk2, by go_num, HN.out, by first | rfl | trivial⟩
          case measure => simp [intOf]; omega
        · have HS := Lib.hid (hgt_seg s.table m k hk (fun j hj _ hjk => HT.out j hj hjk) (by omega))
          obtain ⟨b', off', e', y0, y1⟩ := HL1.out.rt.pair k (by omega)
          simp only [Option.some.injEq, Addr.mk.injEq, and_true] at e'
          obtain ⟨rfl, rfl⟩ := e'
          have okA := OK.out.1 _ (List.getElem_mem (show k < s.table.length by omega))
          have okB := OK.out.1 _ (List.getElem_mem hk)
          have hAB := OK.out.2.1 k hk
          have hAm := HT.out k (by omega) (Nat.le_refl _)
          generalize s.table[k] = x at *
          generalize s.table[k + 1] = y at *
          obtain ⟨xa, xb⟩ := x
          obtain ⟨ya, yb⟩ := y
          dsimp only at d0 d1 he y0 y1 okA okB hAB hAm
          have b5 : (k : Int) < (s.table.length : Int) := by omega
          have b6 : (0 : Int) ≤ k := by omega
          clear HT HNE
          have lb1 := cell_lt c0
          have lb2 := cell_lt d0
          go_wp2_with fail
          go_region
          · go_wp2_with fail
            all_goals
              refine Code.wp_world ?_
              intro w2 hw2
              have u2 : Up wr w2 := by rw [hw2]; (repeat (first | exact Below.refl _ _ | (with_reducible refine Below.drewN' ?_ _) | (with_reducible refine Below.drew ?_) | (with_reducible refine Below.setCell ?_ (by first | exact Nat.le_refl _ | omega | (with_reducible (repeat (first | refine sz_alloc ?_ | refine sz_setCell ?_ | refine sz_drew ?_ | refine sz_drewN ?_)); first | exact Nat.le_refl _ | omega) | (simp only [World.size_alloc, World.size_setCell, World.size_drew, size_drewN']; omega)) _) | (with_reducible refine Below.alloc ?_ (by first | exact Nat.le_refl _ | omega | (with_reducible (repeat (first | refine sz_alloc ?_ | refine sz_setCell ?_ | refine sz_drew ?_ | refine sz_drewN ?_)); first | exact Nat.le_refl _ | omega) | (simp only [World.size_alloc, World.size_setCell, World.size_drew, size_drewN']; omega)) _) | assumption))
              have hA : Blk w2 wr.heap.size [.int .i64 xa, .int .i64 xb] 98 := by rw [hw2]; exact ((Blk.new wr [.int .i64 xa, .int .i64 xb] _).alloc _).drew
              have hB : Blk w2 (wr.heap.size + 1) [.int .i64 ya, .int .i64 yb] 98 := by rw [hw2]; exact (Blk.new' _ [.int .i64 ya, .int .i64 yb] _ (by simp)).drew
              clear hw2
              have a0 := hA.cell 0
              have a1 := hA.cell 1
              have e0 := hB.cell 0
              have e1 := hB.cell 1
              simp only [List.getElem?_cons_zero, List.getElem?_cons_succ] at a0 a1 e0 e1
              have HU2 := Lib.hid (Up.trans HU1.out u2)
              have hrng := onL_rng (xa, xb) (ya, yb) m hAB (by dsimp only; omega) (by dsimp only; omega) (by dsimp only; omega) (by dsimp only; omega) (by dsimp only; omega) (by dsimp only; omega)
              have HST := Lib.hid (onL_start (xa, xb) (ya, yb) m (by dsimp only; omega) (by dsimp only; omega))
              have q2 := mul_rng (m - xa) (yb - xb) 1440 999 (by omega) (by omega) (by omega) (by omega) (by omega)
              rw [Int.mul_comm] at q2
              have sQ : IntKind.i64.wrap ((yb - xb) * (m - xa)) = (yb - xb) * (m - xa) := IntWalk.i64_in _ (by omega)
              have s3 : IntKind.i64.wrap (ya - xa) = ya - xa := IntWalk.i64_in _ (by omega)
              have s4 : IntKind.i64.wrap (yb - xb) = yb - xb := IntWalk.i64_in _ (by omega)
              have s5 : IntKind.i64.wrap (m - xa) = m - xa := IntWalk.i64_in _ (by omega)
              clear hA hB u2 d0 d1 y0 y1 c0 sk
              go_loopw [9] (fun v wq => ∃ n : Int, v = .int .i64 n ∧ (n - xb) * (ya - xa) ≤ (yb - xb) * (m - xa) ∧ 0 ≤ n ∧ n ≤ 999 ∧ wq = w2) (fun v _ => (1000 - intOf v).toNat)
              case atStart =>
                refine ⟨_, rfl, ?_, by omega, by omega, rfl⟩
                first
                  | (have h := HST.out; rw [show min (xa, xb).2 (ya, yb).2 = xb from Int.min_eq_left (by dsimp only; omega)] at h; exact h)
                  | (have h := HST.out; rw [show min (xa, xb).2 (ya, yb).2 = yb from Int.min_eq_right (by dsimp only; omega)] at h; exact h)
              case round =>
                obtain ⟨n, rfl, hn, hn0, hn9, rfl⟩ := hrel
                have q1 := mul_rng (ya - xa) (n + 1 - xb) 1440 1000 (by omega) (by omega) (by omega) (by omega) (by omega)
                rw [Int.mul_comm] at q1
                have sP : IntKind.i64.wrap ((n + 1 - xb) * (ya - xa)) = (n + 1 - xb) * (ya - xa) := IntWalk.i64_in _ (by omega)
                have s1 : IntKind.i64.wrap (n + 1) = n + 1 := IntWalk.i64_in _ (by omega)
                have s2 : IntKind.i64.wrap (n + 1 - xb) = n + 1 - xb := IntWalk.i64_in _ (by omega)
                by_cases hle : (n + 1 - xb) * (ya - xa) ≤ (yb - xb) * (m - xa)
                · have hmo := Lib.hid (onL_more (xa, xb) (ya, yb) m n hAB hle)
                  have HLE := Lib.hid hle
                  clear hn q1 q2
                  go_wp2_with fail
                  go_roundw
                  case rel => exact ⟨n + 1, rfl, HLE.out, by omega, by have := hmo.out; omega, by first | rfl | trivial⟩
                  case measure => simp [intOf]; omega
                · have HR := Lib.hid (show hgt s.table m = n by rw [HS.out]; exact onL_great (xa, xb) (ya, yb) m n hAB hn hle)
                  clear hn q1 q2
                  go_wp2_with fail
                  go_ret
                  exact ⟨by rw [HR.out]; rfl, HU2.out⟩
          · go_wp2_with fail
            all_goals
              refine Code.wp_world ?_
              intro w2 hw2
              have u2 : Up wr w2 := by rw [hw2]; (repeat (first | exact Below.refl _ _ | (with_reducible refine Below.drewN' ?_ _) | (with_reducible refine Below.drew ?_) | (with_reducible refine Below.setCell ?_ (by first | exact Nat.le_refl _ | omega | (with_reducible (repeat (first | refine sz_alloc ?_ | refine sz_setCell ?_ | refine sz_drew ?_ | refine sz_drewN ?_)); first | exact Nat.le_refl _ | omega) | (simp only [World.size_alloc, World.size_setCell, World.size_drew, size_drewN']; omega)) _) | (with_reducible refine Below.alloc ?_ (by first | exact Nat.le_refl _ | omega | (with_reducible (repeat (first | refine sz_alloc ?_ | refine sz_setCell ?_ | refine sz_drew ?_ | refine sz_drewN ?_)); first | exact Nat.le_refl _ | omega) | (simp only [World.size_alloc, World.size_setCell, World.size_drew, size_drewN']; omega)) _) | assumption))
              have hA : Blk w2 (wr.heap.size + 1) [.int .i64 xa, .int .i64 xb] 98 := by rw [hw2]; exact (Blk.new' _ [.int .i64 xa, .int .i64 xb] _ (by simp)).drew
              have hB : Blk w2 wr.heap.size [.int .i64 ya, .int .i64 yb] 98 := by rw [hw2]; exact ((Blk.new wr [.int .i64 ya, .int .i64 yb] _).alloc _).drew
              clear hw2
              have a0 := hA.cell 0
              have a1 := hA.cell 1
              have e0 := hB.cell 0
              have e1 := hB.cell 1
              simp only [List.getElem?_cons_zero, List.getElem?_cons_succ] at a0 a1 e0 e1
              have HU2 := Lib.hid (Up.trans HU1.out u2)
              have hrng := onL_rng (xa, xb) (ya, yb) m hAB (by dsimp only; omega) (by dsimp only; omega) (by dsimp only; omega) (by dsimp only; omega) (by dsimp only; omega) (by dsimp only; omega)
              have HST := Lib.hid (onL_start (xa, xb) (ya, yb) m (by dsimp only; omega) (by dsimp only; omega))
              have q2 := mul_rng (m - xa) (yb - xb) 1440 999 (by omega) (by omega) (by omega) (by omega) (by omega)
              rw [Int.mul_comm] at q2
              have sQ : IntKind.i64.wrap ((yb - xb) * (m - xa)) = (yb - xb) * (m - xa) := IntWalk.i64_in _ (by omega)
              have s3 : IntKind.i64.wrap (ya - xa) = ya - xa := IntWalk.i64_in _ (by omega)
              have s4 : IntKind.i64.wrap (yb - xb) = yb - xb := IntWalk.i64_in _ (by omega)
              have s5 : IntKind.i64.wrap (m - xa) = m - xa := IntWalk.i64_in _ (by omega)
              clear hA hB u2 d0 d1 y0 y1 c0 sk
              go_loopw [9] (fun v wq => ∃ n : Int, v = .int .i64 n ∧ (n - xb) * (ya - xa) ≤ (yb - xb) * (m - xa) ∧ 0 ≤ n ∧ n ≤ 999 ∧ wq = w2) (fun v _ => (1000 - intOf v).toNat)
              case atStart =>
                refine ⟨_, rfl, ?_, by omega, by omega, rfl⟩
                first
                  | (have h := HST.out; rw [show min (xa, xb).2 (ya, yb).2 = xb from Int.min_eq_left (by dsimp only; omega)] at h; exact h)
                  | (have h := HST.out; rw [show min (xa, xb).2 (ya, yb).2 = yb from Int.min_eq_right (by dsimp only; omega)] at h; exact h)
              case round =>
                obtain ⟨n, rfl, hn, hn0, hn9, rfl⟩ := hrel
                have q1 := mul_rng (ya - xa) (n + 1 - xb) 1440 1000 (by omega) (by omega) (by omega) (by omega) (by omega)
                rw [Int.mul_comm] at q1
                have sP : IntKind.i64.wrap ((n + 1 - xb) * (ya - xa)) = (n + 1 - xb) * (ya - xa) := IntWalk.i64_in _ (by omega)
                have s1 : IntKind.i64.wrap (n + 1) = n + 1 := IntWalk.i64_in _ (by omega)
                have s2 : IntKind.i64.wrap (n + 1 - xb) = n + 1 - xb := IntWalk.i64_in _ (by omega)
                by_cases hle : (n + 1 - xb) * (ya - xa) ≤ (yb - xb) * (m - xa)
                · have hmo := Lib.hid (onL_more (xa, xb) (ya, yb) m n hAB hle)
                  have HLE := Lib.hid hle
                  clear hn q1 q2
                  go_wp2_with fail
                  go_roundw
                  case rel => exact ⟨n + 1, rfl, HLE.out, by omega, by have := hmo.out; omega, by first | rfl | trivial⟩
                  case measure => simp [intOf]; omega
                · have HR := Lib.hid (show hgt s.table m = n by rw [HS.out]; exact onL_great (xa, xb) (ya, yb) m n hAB hn hle)
                  clear hn q1 q2
                  go_wp2_with fail
                  go_ret
                  exact ⟨by rw [HR.out]; rfl, HU2.out⟩
end
end Go.Proofs.YtknaajofcbenaaaGreat
