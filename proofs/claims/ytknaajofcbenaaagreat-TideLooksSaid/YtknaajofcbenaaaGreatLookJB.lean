/- The reference's ahead. -/
import Derived.Test.YtknaajofcbenaaaGreatBase
import Derived.Test.YtknaajofcbenaaaGreatLine
import Derived.Test.YtknaajofcbenaaaGreatHeight
import Derived.Test.YtknaajofcbenaaaGreatChk2
import Derived.Test.YtknaajofcbenaaaGreatCheck
import Derived.Test.YtknaajofcbenaaaGreatOn
import Derived.Test.YtknaajofcbenaaaGreatLower
import Derived.Test.YtknaajofcbenaaaGreatGates
import Derived.Test.YtknaajofcbenaaaGreatBegin
import Derived.Test.YtknaajofcbenaaaGreatBegin2
import Derived.Test.YtknaajofcbenaaaGreatState
import Derived.Test.YtknaajofcbenaaaGreatSpans
import Derived.Test.YtknaajofcbenaaaGreatFits
import Derived.Test.YtknaajofcbenaaaGreatQue
import Derived.Test.YtknaajofcbenaaaGreatLead
import Derived.Test.YtknaajofcbenaaaGreatHgtPure
import Derived.Test.YtknaajofcbenaaaGreatAskP
import Derived.Test.YtknaajofcbenaaaGreatLookJA
import Derived.Test.YtknaajofcbenaaaGreatSetP
import Derived.Test.YtknaajofcbenaaaGreatLooks3
import Derived.Test.YtknaajofcbenaaaGreatDup
import Derived.Test.YtknaajofcbenaaaGreatWaysF
import Derived.Test.YtknaajofcbenaaaGreatOwn
import Derived.Test.YtknaajofcbenaaaGreatFar
import Derived.Test.YtknaajofcbenaaaGreatRound
import Derived.Test.YtknaajofcbenaaaGreatChk
import Derived.Test.YtknaajofcbenaaaGreatClaD
import Derived.WalkKit
import Derived.WalkSpells
import Derived.WalkLawsBesides
import Derived.Deep.QuietTactic
import Derived.BigQuiet
import Derived.Lib.Hide
import Derived.Shelf.Abstract
import Derived.BigGuardPart
import Derived.RangeFuncNested
import Derived.RangeFuncBound
import Derived.RangeFuncCalls
import Derived.RangeFuncLeaves
import Derived.Shelf.RegionOpen
import Derived.OwnWalkIn
import Derived.TacticsInMore
import Derived.LoopNIn
import Derived.LoopIn
import Derived.StillTailTactics
import Derived.Deep.RegionHeld3
import Derived.StillTail
import Derived.RangeFuncWrites
import Derived.Laws.StructEq
import Derived.Deep.LoopGhost
import Derived.IntWalk
import Derived.RangeFuncBox
import Derived.ArgAppend
import Derived.Laws.CopyOwn
import Derived.OwnWalk
import Derived.Lib.SliceRun
import Derived.Maps.OwnOps
import Derived.Maps.OwnSet
import Derived.Deep.AppendSrc
import Derived.Deep.Upon
import Derived.Deep.Cut
import Derived.Deep.DeepCutAuto
import Derived.Deep.CutRange
import Derived.Deep.CutBlock
namespace Go.Proofs.YtknaajofcbenaaaGreat
open Go.RowKit Go.Shelf

section
variable {pT pF pS : Option Addr} {cT cF cS : Nat}
set_option maxRecDepth 100000 in
set_option maxHeartbeats 8000000 in
theorem refHeight_c (s : Sd) (m : Int) (w : World) (hl : Lists w s pT pF pS cT cF cS) (ok : okTable s.table) (hm : firstM s.table ≤ m) (hm' : m ≤ lastM s.table) :
    Calls Tryz.prog 55 #[sdVal s pT pF pS cT cF cS, .int .i64 m] w fun e w' => e = .returned (.int .i64 (hgt s.table m)) ∧ Up w w' := by
  have HL := Lib.hid hl
  have OK := Lib.hid ok
  obtain ⟨-, -, l2, l12⟩ := ok
  have e0 : firstM s.table = (s.table[0]'(by omega)).1 := by simp [firstM, List.getElem?_eq_getElem (show 0 < s.table.length by omega)]
  have e1 : lastM s.table = (s.table[s.table.length - 1]'(by omega)).1 := by simp [lastM, List.getElem?_eq_getElem (show s.table.length - 1 < s.table.length by omega)]
  have HF := Lib.hid (e0 ▸ hm)
  have HG := Lib.hid (e1 ▸ hm')
  clear hl hm hm' e0 e1
  unfold sdVal
  go_enter Tryz.func55, Tryz.ntmps55
  go_wp2_with fail
  refine Code.wp_world ?_
  intro w1 hw1
  have u1 : Up w w1 := by rw [hw1]; (repeat (first | exact Below.refl _ _ | (with_reducible refine Below.drewN' ?_ _) | (with_reducible refine Below.drew ?_) | (with_reducible refine Below.setCell ?_ (by first | exact Nat.le_refl _ | omega | (with_reducible (repeat (first | refine sz_alloc ?_ | refine sz_setCell ?_ | refine sz_drew ?_ | refine sz_drewN ?_)); first | exact Nat.le_refl _ | omega) | (simp only [World.size_alloc, World.size_setCell, World.size_drew, size_drewN']; omega)) _) | (with_reducible refine Below.alloc ?_ (by first | exact Nat.le_refl _ | omega | (with_reducible (repeat (first | refine sz_alloc ?_ | refine sz_setCell ?_ | refine sz_drew ?_ | refine sz_drewN ?_)); first | exact Nat.le_refl _ | omega) | (simp only [World.size_alloc, World.size_setCell, World.size_drew, size_drewN']; omega)) _) | assumption))
  have hBk : Blk w1 w.heap.size (sdCells s pT pF pS cT cF cS) 35 := by rw [hw1]; exact Blk.new w _ _
  have HL1 := Lib.hid (HL.out.up u1)
  have HU1 := Lib.hid u1
  have c0 := hBk.cell 0
  simp only [sdCells, List.getElem?_cons_zero] at c0
  clear hw1 u1 hBk HL
  go_loopw [5] (fun i wr => ∃ k : Nat, k ≤ s.table.length ∧ i = .int .i64 k ∧ (∀ j (h : j < s.table.length), j < k → s.table[j].1 ≠ m) ∧ wr = w1) (fun i _ => s.table.length - (intOf i).toNat)
  case atStart => exact ⟨0, Nat.zero_le _, rfl, fun j _ h => by omega, rfl⟩
  case round =>
    obtain ⟨k, hk, rfl, ht, rfl⟩ := hrel
    have HT := Lib.hid ht
    clear ht
    by_cases hlt : k < s.table.length
    · obtain ⟨b, off, rfl, d0, d1⟩ := HL1.out.rt.pair k hlt
      have b1 : (k : Int) < (s.table.length : Int) := by omega
      have b2 : (0 : Int) ≤ k := by omega
      have sk : IntKind.i64.wrap ((k : Int) + 1) = (k : Int) + 1 := IntWalk.i64_in _ (by omega)
      by_cases he : s.table[k].1 = m
      · have HR := Lib.hid (show hgt s.table m = s.table[k].2 by rw [← he]; exact hgt_knot OK.out k hlt)
        generalize s.table[k] = x at *
        obtain ⟨xa, xb⟩ := x
        dsimp only at d0 d1 he HR
        subst he
        go_wp2_with fail
        go_ret
        exact ⟨by rw [HR.out]; rfl, HU1.out⟩
      · have HN : Hid (∀ j (h : j < s.table.length), j < k + 1 → s.table[j].1 ≠ m) := fun j h hj => by
          by_cases e : j = k
          · subst e; exact he
          · exact HT.out j h (by omega)
        generalize s.table[k] = x at *
        obtain ⟨xa, xb⟩ := x
        dsimp only at d0 d1 he
        go_wp2_with fail
        go_roundw
        case rel => exact ⟨k + 1, hlt, by go_num, HN.out, by first | rfl | trivial⟩
        case measure => simp [intOf]; omega
    · obtain rfl : k = s.table.length := by omega
      have HNE := Lib.hid (fun (j : Nat) (h : j < s.table.length) => HT.out j h h)
      clear HT hk hlt
      go_wp2_with fail
      go_loopw [6] (fun i wq => ∃ k : Nat, k + 1 < s.table.length ∧ i = .int .i64 k ∧ (∀ j (h : j < s.table.length), j ≤ k → s.table[j].1 < m) ∧ wq = wr) (fun i _ => s.table.length - (intOf i).toNat)
      case atStart => exact ⟨0, by omega, rfl, fun j h hj => by
        have : j = 0 := by omega
        subst this
        have := HNE.out 0 h
        have := HF.out
        omega, rfl⟩
      case round =>
        obtain ⟨k, hk, rfl, ht, rfl⟩ := hrel
        have HT := Lib.hid ht
        clear ht
        obtain ⟨b, off, rfl, d0, d1⟩ := HL1.out.rt.pair (k + 1) hk
        have b1 : (k : Int) + 1 < (s.table.length : Int) := by omega
        have b2 : (0 : Int) ≤ (k : Int) + 1 := by omega
        have b3 : ((k : Int) + 1).toNat = k + 1 := by omega
        have sk : IntKind.i64.wrap ((k : Int) + 1) = (k : Int) + 1 := IntWalk.i64_in _ (by omega)
        by_cases he : s.table[k + 1].1 < m
        · have hk2 : k + 1 + 1 < s.table.length := by
            rcases Nat.lt_or_ge (k + 1 + 1) s.table.length with h | h
            · exact h
            · have e : s.table.length - 1 = k + 1 := by omega
              have := HG.out
              simp only [e] at this
              omega
          have HN : Hid (∀ j (h : j < s.table.length), j ≤ k + 1 → s.table[j].1 < m) := fun j h hj => by
            by_cases e : j = k + 1
            · subst e; exact he
            · exact HT.out j h (by omega)
          generalize s.table[k + 1] = x at *
          obtain ⟨xa, xb⟩ := x
          dsimp only at d0 d1 he
          go_wp2_with fail
          go_roundw
          case rel => exact ⟨k + 1, hk2, by go_num, HN.out, by first | rfl | trivial⟩
          case measure => simp [intOf]; omega
        · have HS := Lib.hid (hgt_seg s.table m k hk (fun j hj _ hjk => HT.out j hj hjk) (by omega))
          obtain ⟨b', off', e', y0, y1⟩ := HL1.out.rt.pair k (by omega)
          simp only [Option.some.injEq, Addr.mk.injEq, and_true] at e'
          obtain ⟨rfl, rfl⟩ := e'
          have okA := OK.out.1 _ (List.getElem_mem (show k < s.table.length by omega))
          have okB := OK.out.1 _ (List.getElem_mem hk)
          have hAB := OK.out.2.1 k hk
          have hAm := HT.out k (by omega) (Nat.le_refl _)
          generalize s.table[k] = x at *
          generalize s.table[k + 1] = y at *
          obtain ⟨xa, xb⟩ := x
          obtain ⟨ya, yb⟩ := y
          dsimp only at d0 d1 he y0 y1 okA okB hAB hAm
          have b5 : (k : Int) < (s.table.length : Int) := by omega
          have b6 : (0 : Int) ≤ k := by omega
          clear HT HNE
          have lb1 := cell_lt c0
          have lb2 := cell_lt d0
          go_wp2_with fail
          go_region
          · go_wp2_with fail
            all_goals
              refine Code.wp_world ?_
              intro w2 hw2
              have u2 : Up wr w2 := by rw [hw2]; (repeat (first | exact Below.refl _ _ | (with_reducible refine Below.drewN' ?_ _) | (with_reducible refine Below.drew ?_) | (with_reducible refine Below.setCell ?_ (by first | exact Nat.le_refl _ | omega | (with_reducible (repeat (first | refine sz_alloc ?_ | refine sz_setCell ?_ | refine sz_drew ?_ | refine sz_drewN ?_)); first | exact Nat.le_refl _ | omega) | (simp only [World.size_alloc, World.size_setCell, World.size_drew, size_drewN']; omega)) _) | (with_reducible refine Below.alloc ?_ (by first | exact Nat.le_refl _ | omega | (with_reducible (repeat (first | refine sz_alloc ?_ | refine sz_setCell ?_ | refine sz_drew ?_ | refine sz_drewN ?_)); first | exact Nat.le_refl _ | omega) | (simp only [World.size_alloc, World.size_setCell, World.size_drew, size_drewN']; omega)) _) | assumption))
              have hA : Blk w2 wr.heap.size [.int .i64 xa, .int .i64 xb] 98 := by rw [hw2]; exact ((Blk.new wr [.int .i64 xa, .int .i64 xb] _).alloc _).drew
              have hB : Blk w2 (wr.heap.size + 1) [.int .i64 ya, .int .i64 yb] 98 := by rw [hw2]; exact (Blk.new' _ [.int .i64 ya, .int .i64 yb] _ (by simp)).drew
              clear hw2
              have a0 := hA.cell 0
              have a1 := hA.cell 1
              have e0 := hB.cell 0
              have e1 := hB.cell 1
              simp only [List.getElem?_cons_zero, List.getElem?_cons_succ] at a0 a1 e0 e1
              have HU2 := Lib.hid (Up.trans HU1.out u2)
              have hrng := onL_rng (xa, xb) (ya, yb) m hAB (by dsimp only; omega) (by dsimp only; omega) (by dsimp only; omega) (by dsimp only; omega) (by dsimp only; omega) (by dsimp only; omega)
              have HST := Lib.hid (onL_start (xa, xb) (ya, yb) m (by dsimp only; omega) (by dsimp only; omega))
              have q2 := mul_rng (m - xa) (yb - xb) 1440 999 (by omega) (by omega) (by omega) (by omega) (by omega)
              rw [Int.mul_comm] at q2
              have sQ : IntKind.i64.wrap ((yb - xb) * (m - xa)) = (yb - xb) * (m - xa) := IntWalk.i64_in _ (by omega)
              have s3 : IntKind.i64.wrap (ya - xa) = ya - xa := IntWalk.i64_in _ (by omega)
              have s4 : IntKind.i64.wrap (yb - xb) = yb - xb := IntWalk.i64_in _ (by omega)
              have s5 : IntKind.i64.wrap (m - xa) = m - xa := IntWalk.i64_in _ (by omega)
              clear hA hB u2 d0 d1 y0 y1 c0 sk
              go_loopw [9] (fun v wq => ∃ n : Int, v = .int .i64 n ∧ (n - xb) * (ya - xa) ≤ (yb - xb) * (m - xa) ∧ 0 ≤ n ∧ n ≤ 999 ∧ wq = w2) (fun v _ => (1000 - intOf v).toNat)
              case atStart =>
                refine ⟨_, rfl, ?_, by omega, by omega, rfl⟩
                first
                  | (have h := HST.out; rw [show min (xa, xb).2 (ya, yb).2 = xb from Int.min_eq_left (by dsimp only; omega)] at h; exact h)
                  | (have h := HST.out; rw [show min (xa, xb).2 (ya, yb).2 = yb from Int.min_eq_right (by dsimp only; omega)] at h; exact h)
              case round =>
                obtain ⟨n, rfl, hn, hn0, hn9, rfl⟩ := hrel
                have q1 := mul_rng (ya - xa) (n + 1 - xb) 1440 1000 (by omega) (by omega) (by omega) (by omega) (by omega)
                rw [Int.mul_comm] at q1
                have sP : IntKind.i64.wrap ((n + 1 - xb) * (ya - xa)) = (n + 1 - xb) * (ya - xa) := IntWalk.i64_in _ (by omega)
                have s1 : IntKind.i64.wrap (n + 1) = n + 1 := IntWalk.i64_in _ (by omega)
                have s2 : IntKind.i64.wrap (n + 1 - xb) = n + 1 - xb := IntWalk.i64_in _ (by omega)
                by_cases hle : (n + 1 - xb) * (ya - xa) ≤ (yb - xb) * (m - xa)
                · have hmo := Lib.hid (onL_more (xa, xb) (ya, yb) m n hAB hle)
                  have HLE := Lib.hid hle
                  clear hn q1 q2
                  go_wp2_with fail
                  go_roundw
                  case rel => exact ⟨n + 1, rfl, HLE.out, by omega, by have := hmo.out; omega, by first | rfl | trivial⟩
                  case measure => simp [intOf]; omega
                · have HR := Lib.hid (show hgt s.table m = n by rw [HS.out]; exact onL_great (xa, xb) (ya, yb) m n hAB hn hle)
                  clear hn q1 q2
                  go_wp2_with fail
                  go_ret
                  exact ⟨by rw [HR.out]; rfl, HU2.out⟩
          · go_wp2_with fail
            all_goals
              refine Code.wp_world ?_
              intro w2 hw2
              have u2 : Up wr w2 := by rw [hw2]; (repeat (first | exact Below.refl _ _ | (with_reducible refine Below.drewN' ?_ _) | (with_reducible refine Below.drew ?_) | (with_reducible refine Below.setCell ?_ (by first | exact Nat.le_refl _ | omega | (with_reducible (repeat (first | refine sz_alloc ?_ | refine sz_setCell ?_ | refine sz_drew ?_ | refine sz_drewN ?_)); first | exact Nat.le_refl _ | omega) | (simp only [World.size_alloc, World.size_setCell, World.size_drew, size_drewN']; omega)) _) | (with_reducible refine Below.alloc ?_ (by first | exact Nat.le_refl _ | omega | (with_reducible (repeat (first | refine sz_alloc ?_ | refine sz_setCell ?_ | refine sz_drew ?_ | refine sz_drewN ?_)); first | exact Nat.le_refl _ | omega) | (simp only [World.size_alloc, World.size_setCell, World.size_drew, size_drewN']; omega)) _) | assumption))
              have hA : Blk w2 (wr.heap.size + 1) [.int .i64 xa, .int .i64 xb] 98 := by rw [hw2]; exact (Blk.new' _ [.int .i64 xa, .int .i64 xb] _ (by simp)).drew
              have hB : Blk w2 wr.heap.size [.int .i64 ya, .int .i64 yb] 98 := by rw [hw2]; exact ((Blk.new wr [.int .i64 ya, .int .i64 yb] _).alloc _).drew
              clear hw2
              have a0 := hA.cell 0
              have a1 := hA.cell 1
              have e0 := hB.cell 0
              have e1 := hB.cell 1
              simp only [List.getElem?_cons_zero, List.getElem?_cons_succ] at a0 a1 e0 e1
              have HU2 := Lib.hid (Up.trans HU1.out u2)
              have hrng := onL_rng (xa, xb) (ya, yb) m hAB (by dsimp only; omega) (by dsimp only; omega) (by dsimp only; omega) (by dsimp only; omega) (by dsimp only; omega) (by dsimp only; omega)
              have HST := Lib.hid (onL_start (xa, xb) (ya, yb) m (by dsimp only; omega) (by dsimp only; omega))
              have q2 := mul_rng (m - xa) (yb - xb) 1440 999 (by omega) (by omega) (by omega) (by omega) (by omega)
              rw [Int.mul_comm] at q2
              have sQ : IntKind.i64.wrap ((yb - xb) * (m - xa)) = (yb - xb) * (m - xa) := IntWalk.i64_in _ (by omega)
              have s3 : IntKind.i64.wrap (ya - xa) = ya - xa := IntWalk.i64_in _ (by omega)
              have s4 : IntKind.i64.wrap (yb - xb) = yb - xb := IntWalk.i64_in _ (by omega)
              have s5 : IntKind.i64.wrap (m - xa) = m - xa := IntWalk.i64_in _ (by omega)
              clear hA hB u2 d0 d1 y0 y1 c0 sk
              go_loopw [9] (fun v wq => ∃ n : Int, v = .int .i64 n ∧ (n - xb) * (ya - xa) ≤ (yb - xb) * (m - xa) ∧ 0 ≤ n ∧ n ≤ 999 ∧ wq = w2) (fun v _ => (1000 - intOf v).toNat)
              case atStart =>
                refine ⟨_, rfl, ?_, by omega, by omega, rfl⟩
                first
                  | (have h := HST.out; rw [show min (xa, xb).2 (ya, yb).2 = xb from Int.min_eq_left (by dsimp only; omega)] at h; exact h)
                  | (have h := HST.out; rw [show min (xa, xb).2 (ya, yb).2 = yb from Int.min_eq_right (by dsimp only; omega)] at h; exact h)
              case round =>
                obtain ⟨n, rfl, hn, hn0, hn9, rfl⟩ := hrel
                have q1 := mul_rng (ya - xa) (n + 1 - xb) 1440 1000 (by omega) (by omega) (by omega) (by omega) (by omega)
                rw [Int.mul_comm] at q1
                have sP : IntKind.i64.wrap ((n + 1 - xb) * (ya - xa)) = (n + 1 - xb) * (ya - xa) := IntWalk.i64_in _ (by omega)
                have s1 : IntKind.i64.wrap (n + 1) = n + 1 := IntWalk.i64_in _ (by omega)
                have s2 : IntKind.i64.wrap (n + 1 - xb) = n + 1 - xb := IntWalk.i64_in _ (by omega)
                by_cases hle : (n + 1 - xb) * (ya - xa) ≤ (yb - xb) * (m - xa)
                · have hmo := Lib.hid (onL_more (xa, xb) (ya, yb) m n hAB hle)
                  have HLE := Lib.hid hle
                  clear hn q1 q2
                  go_wp2_with fail
                  go_roundw
                  case rel => exact ⟨n + 1, rfl, HLE.out, by omega, by have := hmo.out; omega, by first | rfl | trivial⟩
                  case measure => simp [intOf]; omega
                · have HR := Lib.hid (show hgt s.table m = n by rw [HS.out]; exact onL_great (xa, xb) (ya, yb) m n hAB hn hle)
                  clear hn q1 q2
                  go_wp2_with fail
                  go_ret
                  exact ⟨by rw [HR.out]; rfl, HU2.out⟩
end
end Go.Proofs.YtknaajofcbenaaaGreat
/- The look that settles most: what the layer's search returns. -/
namespace Go.Proofs.YtknaajofcbenaaaGreat
open Go.RowKit Go.Shelf

def lkc (x : Lk) : List Value := [.int .i64 x.1, .int .i64 x.2.1, .bool x.2.2]
/-- none yet, or one that was wet -/
def AskOr (z : Lk × Int) : Prop := z.1 = (0, 0, false) ∨ z.1.2.2 = true
theorem askOne_or {s : Sd} {m : Int} {z : Lk × Int} {p : Nat} (h : AskOr z) : AskOr (askOne s m z p) := by
  unfold askOne
  split
  · exact .inr rfl
  · exact h
theorem askRow_or {s : Sd} {m : Int} {z : Lk × Int} (h : AskOr z) : ∀ k, AskOr (askRow s m z k)
  | 0 => h
  | k + 1 => askOne_or (askRow_or h k)
theorem askAll_or (s : Sd) : ∀ k, AskOr (askAll s k)
  | 0 => .inl rfl
  | k + 1 => askRow_or (askAll_or s k) _
theorem askMost_rng {s : Sd} (ok : Ok s) (m : Int) (p : Nat) : 0 ≤ askMost s m p ∧ askMost s m p ≤ 101 ∧ 0 ≤ siz (truV s (m, (p : Int), true)) ∧ siz (truV s (m, (p : Int), true)) ≤ 101 ∧ 0 ≤ siz (s.lo, s.hi) ∧ siz (s.lo, s.hi) ≤ 101 := by
  have h1 := siz_part ok m p
  have h2 := siz_wind ok
  have h3 := siz_nonneg (truV s (m, (p : Int), true))
  have h4 := siz_nonneg (truV s (m, (p : Int), false))
  have b0 := ok.lo0
  have b1 := ok.hi1
  unfold askMost
  omega
theorem askOne_rng {s : Sd} (ok : Ok s) {m : Int} {z : Lk × Int} {p : Nat} (h : 0 ≤ z.2 ∧ z.2 ≤ 101) : 0 ≤ (askOne s m z p).2 ∧ (askOne s m z p).2 ≤ 101 := by
  have := askMost_rng ok m p
  unfold askOne
  split
  · exact ⟨this.1, this.2.1⟩
  · exact h
theorem askRow_rng {s : Sd} (ok : Ok s) {m : Int} {z : Lk × Int} (h : 0 ≤ z.2 ∧ z.2 ≤ 101) : ∀ k, 0 ≤ (askRow s m z k).2 ∧ (askRow s m z k).2 ≤ 101
  | 0 => h
  | k + 1 => askOne_rng ok (askRow_rng ok h k)
theorem askAll_rng {s : Sd} (ok : Ok s) : ∀ k, 0 ≤ (askAll s k).2 ∧ (askAll s k).2 ≤ 101
  | 0 => by have := askMost_rng ok 0 0; exact ⟨this.2.2.2.2.1, this.2.2.2.2.2⟩
  | k + 1 => askRow_rng ok (askAll_rng ok k) _
section
variable {pT pF pS : Option Addr} {cT cF cS : Nat}
theorem size_t {a : Int × Int} (h : Near a) (w : World) : Calls Tryz.prog 74 #[.agg #[.int .i64 a.1, .int .i64 a.2]] w fun e w' => e = .returned (.int .i64 (siz a)) ∧ Up w w' := by
  obtain ⟨h1, h2, h3, h4⟩ := h
  exact size_c a.1 a.2 w (by omega) (by omega) (by omega) (by omega)
theorem wind_near {s : Sd} (ok : Ok s) : Near (s.lo, s.hi) := by have b0 := ok.lo0; have b1 := ok.hi1; have b2 := ok.lohi; exact ⟨by dsimp only; omega, by dsimp only; omega, by dsimp only; omega, by dsimp only; omega⟩

set_option maxRecDepth 100000 in
set_option maxHeartbeats 2000000 in
theorem ask_c (bw : Nat) (s : Sd) (w : World) (hw : IsWork w bw s pT pF pS cT cF cS) (ok : Ok s) :
    Calls Tryz.prog 120 #[.pointer (some ⟨bw, 0, none⟩)] w fun e w' => e = .returned (.tuple #[.agg #[.int .i64 (askAll s (dayN s)).1.1, .int .i64 (askAll s (dayN s)).1.2.1, .bool (askAll s (dayN s)).1.2.2], .int .i64 (askAll s (dayN s)).2]) ∧ Up w w' := by
  obtain ⟨hf0, hfl, hl9⟩ := firstM_lt ok.table
  obtain ⟨-, -, ht2, ht12⟩ := ok.table
  have hn : ((dayN s : Nat) : Int) = lastM s.table - firstM s.table + 1 := by unfold dayN; omega
  have hn9 : dayN s ≤ 1441 := by omega
  have s1 : IntKind.i64.wrap (lastM s.table - firstM s.table) = lastM s.table - firstM s.table := IntWalk.i64_in _ (by omega)
  have s2 : IntKind.i64.wrap (lastM s.table - firstM s.table + 1) = (dayN s : Nat) := by rw [IntWalk.i64_in _ (by omega)]; omega
  have hf8 := ok.fl1
  have HFI := Lib.hid (fun W (u : Up w W) => first_c bw s W (hw.sands.up u) ht2)
  have HLA := Lib.hid (fun W (u : Up w W) => last_c bw s W (hw.sands.up u) ht2 ht12)
  have HTR := Lib.hid (fun m (p : Nat) W (u : Up w W) (hm : firstM s.table ≤ m) (hp : p < 8) => truths_c bw s m p true W (hw.up u) ok hm hp)
  have hsz0 := fun W => size_t (w := W) (wind_near ok)
  obtain ⟨al, hal⟩ : ∃ al, siz (s.lo, s.hi) = al := ⟨_, rfl⟩
  rw [hal] at hsz0
  have HSZ := Lib.hid hsz0
  have HAL := Lib.hid hal
  clear hsz0 hal
  have OK := Lib.hid ok
  have q1 := hw.sands.s1
  have q2 := hw.sands.s2
  have q3 := hw.sands.s3
  have lb := cell_lt q1
  clear hw ok
  go_enter Tryz.func120, Tryz.ntmps120
  go_wp2_with fail
  refine Calls.world ?_
  intro w0 hw0
  have u0 : Up w w0 := by rw [hw0]; (repeat (first | exact Below.refl _ _ | (with_reducible refine Below.drewN' ?_ _) | (with_reducible refine Below.drew ?_) | (with_reducible refine Below.setCell ?_ (by first | exact Nat.le_refl _ | omega | (with_reducible (repeat (first | refine sz_alloc ?_ | refine sz_setCell ?_ | refine sz_drew ?_ | refine sz_drewN ?_)); first | exact Nat.le_refl _ | omega) | (simp only [World.size_alloc, World.size_setCell, World.size_drew, size_drewN']; omega)) _) | (with_reducible refine Below.alloc ?_ (by first | exact Nat.le_refl _ | omega | (with_reducible (repeat (first | refine sz_alloc ?_ | refine sz_setCell ?_ | refine sz_drew ?_ | refine sz_drewN ?_)); first | exact Nat.le_refl _ | omega) | (simp only [World.size_alloc, World.size_setCell, World.size_drew, size_drewN']; omega)) _) | assumption))
  have hR : Blk w0 w.heap.size [.int .i64 0, .int .i64 0, .bool false] 62 := by rw [hw0]; exact Blk.new _ _ _
  clear hw0
  refine (HSZ.out w0).mono ?_
  rintro e w1 ⟨rfl, u1⟩
  have U1 := Lib.hid (Up.trans u0 u1)
  have R1 := Lib.hid (hR.up u1)
  have lR := R1.out.lt
  clear u0 u1 hR
  go_wp2_with fail
  refine Calls.world ?_
  intro w2 hw2
  have u2 : Up w1 w2 := by rw [hw2]; (repeat (first | exact Below.refl _ _ | (with_reducible refine Below.drewN' ?_ _) | (with_reducible refine Below.drew ?_) | (with_reducible refine Below.setCell ?_ (by first | exact Nat.le_refl _ | omega | (with_reducible (repeat (first | refine sz_alloc ?_ | refine sz_setCell ?_ | refine sz_drew ?_ | refine sz_drewN ?_)); first | exact Nat.le_refl _ | omega) | (simp only [World.size_alloc, World.size_setCell, World.size_drew, size_drewN']; omega)) _) | (with_reducible refine Below.alloc ?_ (by first | exact Nat.le_refl _ | omega | (with_reducible (repeat (first | refine sz_alloc ?_ | refine sz_setCell ?_ | refine sz_drew ?_ | refine sz_drewN ?_)); first | exact Nat.le_refl _ | omega) | (simp only [World.size_alloc, World.size_setCell, World.size_drew, size_drewN']; omega)) _) | assumption))
  have hB : Blk w2 w1.heap.size [.int .i64 0, .int .i64 0, .bool false] 62 := by rw [hw2]; exact Blk.new _ _ _
  clear hw2
  refine (HLA.out w2 (Up.trans U1.out u2)).mono ?_
  rintro e w3 ⟨rfl, u3⟩
  have U3 := Lib.hid (Up.trans U1.out (Up.trans u2 u3))
  have R3 := Lib.hid (R1.out.up (Up.trans u2 u3))
  have B3 := Lib.hid (hB.up u3)
  clear u2 u3 hB U1 R1
  go_wp2_with fail
  refine (HFI.out w3 U3.out).mono ?_
  rintro e w4 ⟨rfl, u4⟩
  have U4 := Lib.hid (Up.trans U3.out u4)
  have R4 := Lib.hid (R3.out.up u4)
  have B4 := Lib.hid (B3.out.up u4)
  clear u4 U3 R3 B3
  obtain ⟨Bb, hBb⟩ : ∃ Bb, w1.heap.size = Bb := ⟨_, rfl⟩
  rw [hBb] at B4 lR ⊢
  clear hBb w1
  go_wp2_with fail
  rw [← hn]
  obtain ⟨n, hnn⟩ : ∃ n, dayN s = n := ⟨_, rfl⟩
  obtain ⟨a, ha⟩ : ∃ a, firstM s.table = a := ⟨_, rfl⟩
  rw [hnn] at hn hn9
  rw [ha] at hn hf0 hfl HFI HTR
  have HQ := Lib.hid (show lastM s.table = a + n - 1 by omega)
  have HL9 := Lib.hid hl9
  have HA := Lib.hid ha
  have HN := Lib.hid hnn
  simp only [hnn]
  clear s1 s2 hn hnn ha hfl hl9
  go_loopw [25, 6] (fun i f wr => ∃ k : Nat, k ≤ n ∧ i = .int .i64 k ∧ f = .int .i64 (askAll s k).2 ∧ Blk wr Bb (lkc (askAll s k).1) 62 ∧ Blk wr w.heap.size [.int .i64 0, .int .i64 0, .bool false] 62 ∧ Up w wr) (fun i _ _ => n - (intOf i).toNat)
  case atStart => exact ⟨0, Nat.zero_le _, rfl, by rw [← HAL.out]; rfl, B4.out, R4.out, U4.out⟩
  case round =>
    obtain ⟨k, hk, rfl, rfl, hb, hr, hu⟩ := hrel
    have HB := Lib.hid hb
    have HR := Lib.hid hr
    have HU := Lib.hid hu
    have q3' := hu.cellAt q3
    have lb' := cell_lt q3'
    clear hb hr hu
    by_cases hlt : k < n
    · have k1 : (k : Int) < n := by omega
      have b1 : a + k ≤ 1441 := by have := HL9.out; have := HQ.out; omega
      have hz := askAll_or s k
      have hzr := askAll_rng OK.out k
      have HE := Lib.hid (show askAll s (k + 1) = askRow s (a + k) (askAll s k) s.floors.length by rw [← HA.out]; rfl)
      generalize askAll s k = z at *
      have HZ := Lib.hid hz
      have HZR := Lib.hid hzr
      clear hz hzr
      go_wp2_with fail
      go_loopw [34, 6] (fun j f wy => ∃ p : Nat, p ≤ s.floors.length ∧ j = .int .i64 p ∧ f = .int .i64 (askRow s (a + k) z p).2 ∧ Blk wy Bb (lkc (askRow s (a + k) z p).1) 62 ∧ Blk wy w.heap.size [.int .i64 0, .int .i64 0, .bool false] 62 ∧ Up w wy) (fun j _ _ => s.floors.length - (intOf j).toNat)
      case atStart => exact ⟨0, Nat.zero_le _, rfl, rfl, HB.out, HR.out, HU.out⟩
      case round =>
        obtain ⟨p, hp, rfl, rfl, hb, hr, hu⟩ := hrel
        have Hb := Lib.hid hb
        have Hr := Lib.hid hr
        have Hu := Lib.hid hu
        clear hb hr hu
        by_cases hlp : p < s.floors.length
        · have p1 : (p : Int) < s.floors.length := by omega
          have hz := askRow_or (s := s) (m := a + k) HZ.out p
          have hzr := askRow_rng OK.out (m := a + k) HZR.out p
          have HE2 := Lib.hid (show askRow s (a + k) z (p + 1) = askOne s (a + k) (askRow s (a + k) z p) p from rfl)
          generalize askRow s (a + k) z p = y at *
          obtain ⟨⟨ym, yp, yw⟩, yn⟩ := y
          dsimp only at hzr
          have HY := Lib.hid hz
          have mr := askMost_rng OK.out (a + k) p
          rw [HAL.out] at mr
          have NT := Lib.hid (truV_near OK.out (a + k, (p : Int), true) (by rw [HA.out]; show a ≤ a + (k : Int); omega))
          have MS := Lib.hid (show askMost s (a + k) p = max (siz (truV s (a + k, (p : Int), true))) (al - siz (truV s (a + k, (p : Int), true))) by rw [← HAL.out]; rfl)
          have HT := Lib.hid (fun W (u : Up w W) => HTR.out (a + k) p W u (by omega) (by omega))
          generalize truV s (a + k, (p : Int), true) = tv at *
          clear hz
          have s3 : IntKind.i64.wrap (a + k) = a + k := IntWalk.i64_in _ (by omega)
          go_wp2_with fail
          refine (HFI.out _ Hu.out).mono ?_
          rintro e w5 ⟨rfl, u5⟩
          have U5 := Lib.hid (Up.trans Hu.out u5)
          have R5 := Lib.hid (Hr.out.up u5)
          have B5 := Lib.hid (Hb.out.up u5)
          clear u5 Hu Hr Hb
          go_wp2_with fail
          refine Calls.world ?_
          intro w6 hw6
          have u6 : Up w5 w6 := by rw [hw6]; (repeat (first | exact Below.refl _ _ | (with_reducible refine Below.drewN' ?_ _) | (with_reducible refine Below.drew ?_) | (with_reducible refine Below.setCell ?_ (by first | exact Nat.le_refl _ | omega | (with_reducible (repeat (first | refine sz_alloc ?_ | refine sz_setCell ?_ | refine sz_drew ?_ | refine sz_drewN ?_)); first | exact Nat.le_refl _ | omega) | (simp only [World.size_alloc, World.size_setCell, World.size_drew, size_drewN']; omega)) _) | (with_reducible refine Below.alloc ?_ (by first | exact Nat.le_refl _ | omega | (with_reducible (repeat (first | refine sz_alloc ?_ | refine sz_setCell ?_ | refine sz_drew ?_ | refine sz_drewN ?_)); first | exact Nat.le_refl _ | omega) | (simp only [World.size_alloc, World.size_setCell, World.size_drew, size_drewN']; omega)) _) | assumption))
          have L6 : Blk w6 w5.heap.size [.int .i64 (a + k), .int .i64 p, .bool true] 62 := by rw [hw6]; exact Blk.new _ _ _
          clear hw6
          refine (HT.out w6 (Up.trans U5.out u6)).mono ?_
          rintro e w7 ⟨rfl, u7⟩
          go_wp2_with fail
          refine (size_t NT.out w7).mono ?_
          rintro e w8 ⟨rfl, u8⟩
          have L8 := Lib.hid (L6.up (Up.trans u7 u8))
          have U8 := Lib.hid (Up.trans U5.out (Up.trans u6 (Up.trans u7 u8)))
          have R8 := Lib.hid (R5.out.up (Up.trans u6 (Up.trans u7 u8)))
          have B8 := Lib.hid (B5.out.up (Up.trans u6 (Up.trans u7 u8)))
          have sz5 : w5.heap.size ≠ Bb := by have := B5.out.lt; omega
          clear u6 u7 u8 L6 U5 R5 B5 HT NT s3
          generalize siz tv = g at *
          obtain ⟨X, hX⟩ : ∃ X, w5.heap.size = X := ⟨_, rfl⟩
          rw [hX] at L8 sz5 ⊢
          clear hX w5 w6 w7
          have s4 : IntKind.i64.wrap (al - g) = al - g := IntWalk.i64_in _ (by omega)
          have x0 := L8.out.cell 0
          have x1 := L8.out.cell 1
          have x2 := L8.out.cell 2
          have y0 := B8.out.cell 0
          have y1 := B8.out.cell 1
          have y2 := B8.out.cell 2
          have yf := B8.out.free
          have yl := B8.out.lt
          simp only [lkc, List.getElem?_cons_zero, List.getElem?_cons_succ] at x0 x1 x2 y0 y1 y2
          by_cases hm : g < al - g
          · have MM := Lib.hid (show askMost s (a + k) p = al - g by rw [MS.out]; omega)
            rcases HY.out with hy | hy
            · simp only [Prod.mk.injEq] at hy
              obtain ⟨rfl, rfl, rfl⟩ := hy
              have HE3 := Lib.hid (show askRow s (a + k) z (p + 1) = ((a + k, (p : Int), true), al - g) by rw [HE2.out]; unfold askOne; rw [if_pos (.inl rfl), MM.out])
              go_wp2_with fail
              go_roundw
              case rel =>
                refine ⟨p + 1, by omega, by go_num, by rw [HE3.out], ?_, (R8.out.other (by simp only []; omega) _ |>.other (by simp only []; omega) _).other (by simp only []; omega) _, ((U8.out.setCell (by simp only []; omega) _).setCell (by simp only []; omega) _).setCell (by simp only []; omega) _⟩
                rw [HE3.out]
                have h := ((B8.out.set 0 (.int .i64 (a + k))).set 1 (.int .i64 p)).set 2 (.bool true)
                simpa only [lkc, List.set_cons_zero, List.set_cons_succ] using h
              case measure => simp [intOf]; omega
            · have hy' : yw = true := hy
              subst hy'
              by_cases hc : al - g < yn
              · have HE3 := Lib.hid (show askRow s (a + k) z (p + 1) = ((a + k, (p : Int), true), al - g) by rw [HE2.out]; unfold askOne; rw [MM.out, if_pos (.inr hc)])
                go_wp2_with fail
                go_roundw
                case rel =>
                  refine ⟨p + 1, by omega, by go_num, by rw [HE3.out], ?_, (R8.out.other (by simp only []; omega) _ |>.other (by simp only []; omega) _).other (by simp only []; omega) _, ((U8.out.setCell (by simp only []; omega) _).setCell (by simp only []; omega) _).setCell (by simp only []; omega) _⟩
                  rw [HE3.out]
                  have h := ((B8.out.set 0 (.int .i64 (a + k))).set 1 (.int .i64 p)).set 2 (.bool true)
                  simpa only [lkc, List.set_cons_zero, List.set_cons_succ] using h
                case measure => simp [intOf]; omega
              · have HE3 := Lib.hid (show askRow s (a + k) z (p + 1) = ((ym, yp, true), yn) by rw [HE2.out]; unfold askOne; rw [MM.out, if_neg (fun h => by rcases h with h | h <;> first | (exact hc h) | (exact absurd (congrArg (fun t => t.2.2) h) (by simp)))])
                go_wp2_with fail
                go_roundw
                case rel => exact ⟨p + 1, by omega, by go_num, by rw [HE3.out], by rw [HE3.out]; exact B8.out, R8.out, U8.out⟩
                case measure => simp [intOf]; omega
          · have MM := Lib.hid (show askMost s (a + k) p = g by rw [MS.out]; omega)
            rcases HY.out with hy | hy
            · simp only [Prod.mk.injEq] at hy
              obtain ⟨rfl, rfl, rfl⟩ := hy
              have HE3 := Lib.hid (show askRow s (a + k) z (p + 1) = ((a + k, (p : Int), true), g) by rw [HE2.out]; unfold askOne; rw [if_pos (.inl rfl), MM.out])
              go_wp2_with fail
              go_roundw
              case rel =>
                refine ⟨p + 1, by omega, by go_num, by rw [HE3.out], ?_, (R8.out.other (by simp only []; omega) _ |>.other (by simp only []; omega) _).other (by simp only []; omega) _, ((U8.out.setCell (by simp only []; omega) _).setCell (by simp only []; omega) _).setCell (by simp only []; omega) _⟩
                rw [HE3.out]
                have h := ((B8.out.set 0 (.int .i64 (a + k))).set 1 (.int .i64 p)).set 2 (.bool true)
                simpa only [lkc, List.set_cons_zero, List.set_cons_succ] using h
              case measure => simp [intOf]; omega
            · have hy' : yw = true := hy
              subst hy'
              by_cases hc : g < yn
              · have HE3 := Lib.hid (show askRow s (a + k) z (p + 1) = ((a + k, (p : Int), true), g) by rw [HE2.out]; unfold askOne; rw [MM.out, if_pos (.inr hc)])
                go_wp2_with fail
                go_roundw
                case rel =>
                  refine ⟨p + 1, by omega, by go_num, by rw [HE3.out], ?_, (R8.out.other (by simp only []; omega) _ |>.other (by simp only []; omega) _).other (by simp only []; omega) _, ((U8.out.setCell (by simp only []; omega) _).setCell (by simp only []; omega) _).setCell (by simp only []; omega) _⟩
                  rw [HE3.out]
                  have h := ((B8.out.set 0 (.int .i64 (a + k))).set 1 (.int .i64 p)).set 2 (.bool true)
                  simpa only [lkc, List.set_cons_zero, List.set_cons_succ] using h
                case measure => simp [intOf]; omega
              · have HE3 := Lib.hid (show askRow s (a + k) z (p + 1) = ((ym, yp, true), yn) by rw [HE2.out]; unfold askOne; rw [MM.out, if_neg (fun h => by rcases h with h | h <;> first | (exact hc h) | (exact absurd (congrArg (fun t => t.2.2) h) (by simp)))])
                go_wp2_with fail
                go_roundw
                case rel => exact ⟨p + 1, by omega, by go_num, by rw [HE3.out], by rw [HE3.out]; exact B8.out, R8.out, U8.out⟩
                case measure => simp [intOf]; omega
        · obtain rfl : p = s.floors.length := by omega
          go_wp2_with fail
          go_roundw
          case rel => exact ⟨k + 1, by omega, by go_num, by rw [HE.out], by rw [HE.out]; exact Hb.out, Hr.out, Hu.out⟩
          case measure => simp [intOf]; omega
    · obtain rfl : k = n := by omega
      have y0 := HB.out.cell 0
      have y1 := HB.out.cell 1
      have y2 := HB.out.cell 2
      have r0 := HR.out.cell 0
      have r1 := HR.out.cell 1
      have r2 := HR.out.cell 2
      have rf := HR.out.free
      have rl := HR.out.lt
      generalize hz : askAll s k = z at *
      obtain ⟨⟨zm, zp, zw⟩, zn⟩ := z
      have HZ0 := Lib.hid hz
      clear hz
      simp only [lkc, List.getElem?_cons_zero, List.getElem?_cons_succ] at y0 y1 y2 r0 r1 r2
      go_wp2_with fail
      have h := ((HR.out.set 0 (.int .i64 zm)).set 1 (.int .i64 zp)).set 2 (.bool zw)
      have p0 := h.cell 0
      have p1 := h.cell 1
      have p2 := h.cell 2
      simp only [List.set_cons_zero, List.set_cons_succ, List.getElem?_cons_zero, List.getElem?_cons_succ] at p0 p1 p2
      have pl := h.lt
      refine bodyPost_ret (v := .tuple #[.agg #[.int .i64 zm, .int .i64 zp, .bool zw], .int .i64 zn]) (by simp [results, Tryz.f120, go_sem, p0, p1, p2]) rfl ⟨by rw [HN.out, HZ0.out], ?_⟩
      exact ((HU.out.setCell (by simp only []; omega) _).setCell (by simp only []; omega) _).setCell (by simp only []; omega) _

set_option maxRecDepth 100000 in
set_option maxHeartbeats 1000000 in
theorem Ask_c (s : Sd) (w : World) (hl : Lists w s pT pF pS cT cF cS) :
    Calls Tryz.prog 88 #[sdVal s pT pF pS cT cF cS] w fun e w' => e = .returned (.tuple #[.agg #[.int .i64 (askV s).1.1, .int .i64 (askV s).1.2.1, .bool (askV s).1.2.2], .int .i64 (askV s).2, .int .i64 (askE s)]) ∧ Up w w' := by
  have HC := Lib.hid (fun W (u : Up w W) => begin_c s W pT pF pS cT cF cS (hl.up u))
  clear hl
  by_cases hc : chk s = 0
  · have OK := Lib.hid (chk_ok hc)
    have HE := Lib.hid (show askE s = if siz (s.lo, s.hi) = 1 then 6 else 0 by unfold askE; rw [if_pos hc])
    rw [hc] at HC
    clear hc
    unfold sdVal at *
    go_enter Tryz.func88, Tryz.ntmps88
    go_wp2_with fail
    refine Calls.world ?_
    intro w0 hw0
    have u0 : Up w w0 := by rw [hw0]; (repeat (first | exact Below.refl _ _ | (with_reducible refine Below.drewN' ?_ _) | (with_reducible refine Below.drew ?_) | (with_reducible refine Below.setCell ?_ (by first | exact Nat.le_refl _ | omega | (with_reducible (repeat (first | refine sz_alloc ?_ | refine sz_setCell ?_ | refine sz_drew ?_ | refine sz_drewN ?_)); first | exact Nat.le_refl _ | omega) | (simp only [World.size_alloc, World.size_setCell, World.size_drew, size_drewN']; omega)) _) | (with_reducible refine Below.alloc ?_ (by first | exact Nat.le_refl _ | omega | (with_reducible (repeat (first | refine sz_alloc ?_ | refine sz_setCell ?_ | refine sz_drew ?_ | refine sz_drewN ?_)); first | exact Nat.le_refl _ | omega) | (simp only [World.size_alloc, World.size_setCell, World.size_drew, size_drewN']; omega)) _) | assumption))
    have hR : Blk w0 (w.heap.size + 1) [.int .i64 0, .int .i64 0, .bool false] 62 := by rw [hw0]; exact Blk.new' _ [.int .i64 0, .int .i64 0, .bool false] _ (by simp)
    clear hw0
    refine (HC.out _ u0).mono ?_
    rintro e w1 ⟨p, rfl, u1, hok⟩
    obtain ⟨bw, rfl, hW⟩ := hok rfl
    have U1 := Lib.hid (Up.trans u0 u1)
    have HW := Lib.hid hW
    have HB := Lib.hid (hR.up u1)
    have d1 := hW.sands.s1
    have d2 := hW.sands.s2
    clear hok hW u1 u0 HC hR
    go_wp2_with fail
    refine (size_t (wind_near OK.out) _).mono ?_
    rintro e w2 ⟨rfl, u2⟩
    have U2 := Lib.hid (Up.trans U1.out u2)
    have HW2 := Lib.hid (HW.out.up u2)
    have hB := HB.out.up u2
    have q0 := hB.cell 0
    have q1 := hB.cell 1
    have q2 := hB.cell 2
    have fr := hB.free
    have lB := hB.lt
    simp only [List.getElem?_cons_zero, List.getElem?_cons_succ] at q0 q1 q2
    have HB2 := Lib.hid hB
    clear hB u2 d1 d2 HB HW U1
    by_cases h1 : siz (s.lo, s.hi) = 1
    · have HV := Lib.hid (show askV s = ((0, 0, false), 0) by unfold askV; rw [HE.out, if_pos h1, if_neg (by decide)])
      rw [if_pos h1] at HE
      go_wp2_with fail
      have h := ((HB2.out.set 0 (.int .i64 0)).set 1 (.int .i64 0)).set 2 (.bool false)
      have p0 := h.cell 0
      have p1 := h.cell 1
      have p2 := h.cell 2
      simp only [List.set_cons_zero, List.set_cons_succ, List.getElem?_cons_zero, List.getElem?_cons_succ] at p0 p1 p2
      refine bodyPost_ret (v := .tuple #[.agg #[.int .i64 0, .int .i64 0, .bool false], .int .i64 0, .int .i64 6]) (by simp [results, Tryz.f88, go_sem, p0, p1, p2]) rfl ⟨by rw [HV.out, HE.out], ?_⟩
      exact ((U2.out.setCell (by simp only []; omega) _).setCell (by simp only []; omega) _).setCell (by simp only []; omega) _
    · have HV := Lib.hid (show askV s = askAll s (dayN s) by unfold askV; rw [HE.out, if_neg h1, if_pos rfl])
      rw [if_neg h1] at HE
      have h1' : (siz (s.lo, s.hi) == 1) = false := by simpa using h1
      go_wp2_with fail
      refine (ask_c bw s _ HW2.out OK.out).mono ?_
      rintro e w3 ⟨rfl, u3⟩
      rw [← HV.out]
      generalize hz : askV s = z at *
      obtain ⟨⟨zm, zp, zw⟩, zn⟩ := z
      have U3 := Lib.hid (Up.trans U2.out u3)
      have hB := HB2.out.up u3
      have q0' := hB.cell 0
      have q1' := hB.cell 1
      have q2' := hB.cell 2
      have fr' := hB.free
      have lB' := hB.lt
      simp only [List.getElem?_cons_zero, List.getElem?_cons_succ] at q0' q1' q2'
      have HB3 := Lib.hid hB
      have HZ := Lib.hid hz
      clear hB u3 q0 q1 q2 fr HV hz
      go_wp2_with fail
      have h := (((HB3.out.set 0 (.int .i64 zm)).set 1 (.int .i64 zp)).set 2 (.bool zw)).alloc (.cells #[.int .i64 zm, .int .i64 zp, .bool zw] 62)
      have p0 := h.cell 0
      have p1 := h.cell 1
      have p2 := h.cell 2
      simp only [List.set_cons_zero, List.set_cons_succ, List.getElem?_cons_zero, List.getElem?_cons_succ] at p0 p1 p2
      refine bodyPost_ret (v := .tuple #[.agg #[.int .i64 zm, .int .i64 zp, .bool zw], .int .i64 zn, .int .i64 0]) (by simp [results, Tryz.f88, go_sem, p0, p1, p2]) rfl ⟨by rw [HE.out, HZ.out], ?_⟩
      have hU := U3.out
      (repeat (first | exact Below.refl _ _ | (with_reducible refine Below.drewN' ?_ _) | (with_reducible refine Below.drew ?_) | (with_reducible refine Below.setCell ?_ (by first | exact Nat.le_refl _ | omega | (with_reducible (repeat (first | refine sz_alloc ?_ | refine sz_setCell ?_ | refine sz_drew ?_ | refine sz_drewN ?_)); first | exact Nat.le_refl _ | omega) | (simp only []; omega)) _) | (with_reducible refine Below.alloc ?_ (by first | exact Nat.le_refl _ | omega | (with_reducible (repeat (first | refine sz_alloc ?_ | refine sz_setCell ?_ | refine sz_drew ?_ | refine sz_drewN ?_)); first | exact Nat.le_refl _ | omega) | (simp only []; omega)) _) | assumption))
  · have hne : (chk s != 0) = true := by rw [bne_iff_ne]; exact hc
    have HE := Lib.hid (show askE s = chk s by unfold askE; rw [if_neg hc])
    have HV := Lib.hid (show askV s = ((0, 0, false), 0) by unfold askV; rw [HE.out, if_neg hc])
    clear hc
    unfold sdVal at *
    go_enter Tryz.func88, Tryz.ntmps88
    go_wp2_with fail
    refine Calls.world ?_
    intro w0 hw0
    have u0 : Up w w0 := by rw [hw0]; (repeat (first | exact Below.refl _ _ | (with_reducible refine Below.drewN' ?_ _) | (with_reducible refine Below.drew ?_) | (with_reducible refine Below.setCell ?_ (by first | exact Nat.le_refl _ | omega | (with_reducible (repeat (first | refine sz_alloc ?_ | refine sz_setCell ?_ | refine sz_drew ?_ | refine sz_drewN ?_)); first | exact Nat.le_refl _ | omega) | (simp only [World.size_alloc, World.size_setCell, World.size_drew, size_drewN']; omega)) _) | (with_reducible refine Below.alloc ?_ (by first | exact Nat.le_refl _ | omega | (with_reducible (repeat (first | refine sz_alloc ?_ | refine sz_setCell ?_ | refine sz_drew ?_ | refine sz_drewN ?_)); first | exact Nat.le_refl _ | omega) | (simp only [World.size_alloc, World.size_setCell, World.size_drew, size_drewN']; omega)) _) | assumption))
    have hR : Blk w0 (w.heap.size + 1) [.int .i64 0, .int .i64 0, .bool false] 62 := by rw [hw0]; exact Blk.new' _ [.int .i64 0, .int .i64 0, .bool false] _ (by simp)
    clear hw0
    refine (HC.out _ u0).mono ?_
    rintro e w1 ⟨p, rfl, u1, -⟩
    have U1 := Lib.hid (Up.trans u0 u1)
    have hB := hR.up u1
    have q0 := hB.cell 0
    have q1 := hB.cell 1
    have q2 := hB.cell 2
    have fr := hB.free
    have lB := hB.lt
    simp only [List.getElem?_cons_zero, List.getElem?_cons_succ] at q0 q1 q2
    have HB := Lib.hid hB
    clear u1 u0 HC hR hB
    go_wp2_with fail
    have h := ((HB.out.set 0 (.int .i64 0)).set 1 (.int .i64 0)).set 2 (.bool false)
    have p0 := h.cell 0
    have p1 := h.cell 1
    have p2 := h.cell 2
    simp only [List.set_cons_zero, List.set_cons_succ, List.getElem?_cons_zero, List.getElem?_cons_succ] at p0 p1 p2
    refine bodyPost_ret (v := .tuple #[.agg #[.int .i64 0, .int .i64 0, .bool false], .int .i64 0, .int .i64 (chk s)]) (by simp [results, Tryz.f88, go_sem, p0, p1, p2]) rfl ⟨by rw [HV.out, HE.out], ?_⟩
    exact ((U1.out.setCell (by simp only []; omega) _).setCell (by simp only []; omega) _).setCell (by simp only []; omega) _
end
end Go.Proofs.YtknaajofcbenaaaGreat
/- The reference's Gate, Gates, Heights and Ask. -/
namespace Go.Proofs.YtknaajofcbenaaaGreat
open Go.RowKit Go.Shelf

section
variable {pT pF pS : Option Addr} {cT cF cS : Nat}
set_option maxRecDepth 100000 in
set_option maxHeartbeats 1000000 in
theorem refGate_c (s : Sd) (p : Nat) (w : World) (ok : Ok s) (hl : Lists w s pT pF pS cT cF cS) (hp : p < s.floors.length) :
    Calls Tryz.prog 50 #[sdVal s pT pF pS cT cF cS, .int .i64 p] w fun e w' => e = .returned (.int .i64 (gateR s p)) ∧ Up w w' := by
  have HG := Lib.hid (low_gate ok p hp)
  have HL := Lib.hid (fun W (u : Up w W) => refLeast_c s p [] [] none none 0 0 W ok (hl.up u) (Row.nil _ _ _) (Row.nil _ _ _) (by simp) (by simp) hp)
  clear hl
  unfold sdVal at *
  go_enter Tryz.func50, Tryz.ntmps50
  go_wp2_with fail
  refine (HL.out _ (by (repeat (first | exact Below.refl _ _ | (with_reducible refine Below.drewN' ?_ _) | (with_reducible refine Below.drew ?_) | (with_reducible refine Below.setCell ?_ (by first | exact Nat.le_refl _ | omega | (with_reducible (repeat (first | refine sz_alloc ?_ | refine sz_setCell ?_ | refine sz_drew ?_ | refine sz_drewN ?_)); first | exact Nat.le_refl _ | omega) | (simp only [World.size_alloc, World.size_setCell, World.size_drew, size_drewN']; omega)) _) | (with_reducible refine Below.alloc ?_ (by first | exact Nat.le_refl _ | omega | (with_reducible (repeat (first | refine sz_alloc ?_ | refine sz_setCell ?_ | refine sz_drew ?_ | refine sz_drewN ?_)); first | exact Nat.le_refl _ | omega) | (simp only [World.size_alloc, World.size_setCell, World.size_drew, size_drewN']; omega)) _) | assumption)))).mono ?_
  rintro e w1 ⟨rfl, u1⟩
  rw [HG.out]
  have U1 := Lib.hid (Up.trans (show Up w (w.alloc (.cells (sdCells s pT pF pS cT cF cS).toArray 35)) by (repeat (first | exact Below.refl _ _ | (with_reducible refine Below.drewN' ?_ _) | (with_reducible refine Below.drew ?_) | (with_reducible refine Below.setCell ?_ (by first | exact Nat.le_refl _ | omega | (with_reducible (repeat (first | refine sz_alloc ?_ | refine sz_setCell ?_ | refine sz_drew ?_ | refine sz_drewN ?_)); first | exact Nat.le_refl _ | omega) | (simp only [World.size_alloc, World.size_setCell, World.size_drew, size_drewN']; omega)) _) | (with_reducible refine Below.alloc ?_ (by first | exact Nat.le_refl _ | omega | (with_reducible (repeat (first | refine sz_alloc ?_ | refine sz_setCell ?_ | refine sz_drew ?_ | refine sz_drewN ?_)); first | exact Nat.le_refl _ | omega) | (simp only [World.size_alloc, World.size_setCell, World.size_drew, size_drewN']; omega)) _) | assumption))) u1)
  clear u1
  go_wp2_with fail
  go_ret
  exact ⟨rfl, U1.out⟩

/-- the gates of all places as the reference has them -/
def gatesR (s : Sd) : List Int := (List.range s.floors.length).map (gateR s)
theorem gatesR_len (s : Sd) : (gatesR s).length = s.floors.length := by simp [gatesR]
set_option maxRecDepth 100000 in
set_option maxHeartbeats 1000000 in
theorem refGates_c (s : Sd) (w : World) (ok : Ok s) (hl : Lists w s pT pF pS cT cF cS) :
    Calls Tryz.prog 12 #[sdVal s pT pF pS cT cF cS] w fun e w' => ∃ q d, e = .returned (.slice q (gatesR s).length d) ∧ (gatesR s).length ≤ d ∧ d ≤ maxLen ∧ Row w' q 1 (ints (gatesR s)) ∧ Up w w' := by
  have f8 := ok.fl1
  have HL := Lib.hid (fun (p : Nat) W (u : Up w W) (hp : p < s.floors.length) => refGate_c s p W ok (hl.up u) hp)
  obtain ⟨i0, hi, hz0, hz1, hz2⟩ := info_parts info3
  clear hl
  rw [gatesR_len]
  unfold sdVal at *
  go_enter Tryz.func12, Tryz.ntmps12
  go_wp2_with fail
  have BS : Hid (Blk (w.alloc (.cells #[.slice pT s.table.length cT, .int .i64 s.lo, .int .i64 s.hi, .slice pF s.floors.length cF, .slice pS s.sills.length cS] 35)) w.heap.size (sdCells s pT pF pS cT cF cS) 35) := Lib.hid (Blk.new w (sdCells s pT pF pS cT cF cS) 35)
  have U0 : Hid (Up w (w.alloc (.cells #[.slice pT s.table.length cT, .int .i64 s.lo, .int .i64 s.hi, .slice pF s.floors.length cF, .slice pS s.sills.length cS] 35))) := Lib.hid (by (repeat (first | exact Below.refl _ _ | (with_reducible refine Below.drewN' ?_ _) | (with_reducible refine Below.drew ?_) | (with_reducible refine Below.setCell ?_ (by first | exact Nat.le_refl _ | omega | (with_reducible (repeat (first | refine sz_alloc ?_ | refine sz_setCell ?_ | refine sz_drew ?_ | refine sz_drewN ?_)); first | exact Nat.le_refl _ | omega) | (simp only [World.size_alloc, World.size_setCell, World.size_drew, size_drewN']; omega)) _) | (with_reducible refine Below.alloc ?_ (by first | exact Nat.le_refl _ | omega | (with_reducible (repeat (first | refine sz_alloc ?_ | refine sz_setCell ?_ | refine sz_drew ?_ | refine sz_drewN ?_)); first | exact Nat.le_refl _ | omega) | (simp only [World.size_alloc, World.size_setCell, World.size_drew, size_drewN']; omega)) _) | assumption)))
  generalize (w.alloc (.cells #[.slice pT s.table.length cT, .int .i64 s.lo, .int .i64 s.hi, .slice pF s.floors.length cF, .slice pS s.sills.length cS] 35)) = w0 at *
  go_loopw [4, 3] (fun i v wr => ∃ k : Nat, k ≤ s.floors.length ∧ i = .int .i64 k ∧ wr.ownsRow w0.heap.size 3 1 v k (ints ((List.range k).map (gateR s))).flatten ∧ Up w0 wr) (fun i _ _ => s.floors.length - (intOf i).toNat)
  case atStart => exact ⟨0, by omega, rfl, World.ownsRow_nil _ _ _ _, Below.refl _ _⟩
  case round =>
    obtain ⟨k, hk, rfl, hown, hu⟩ := hrel
    have HO := Lib.hid hown
    have HU := Lib.hid hu
    obtain ⟨c0, c1, c2, c3, c4⟩ := five (BS.out.up hu)
    clear hown hu
    by_cases hlt : k < s.floors.length
    · have k1 : (k : Int) < s.floors.length := by omega
      go_wp2_with fail
      refine (HL.out k wr (Up.trans U0.out HU.out) hlt).mono ?_
      rintro e w2 ⟨rfl, u2⟩
      have O2 := Lib.hid (ownsRow_up HO.out u2)
      have U2 := Lib.hid (Up.trans HU.out u2)
      have hsz := U2.out.size
      clear u2 HO HU c0 c1 c2 c3 c4
      go_wp2_with (at_builtin; refine wpList_append_own _ rfl _ _ 25 rfl w0.heap.size 3 i0 (.int .i64 0) 1 8 Tryz.underlying25 hi hz0 hz1 hz2 rfl (by decide) _ _ _ rfl (O2.out.alloc _) ⟨w2.heap.size, 0, none⟩ 1 1 [.int .i64 (gateR s k)] rfl rfl (newsAt _ rfl [.int .i64 (gateR s k)] _) (by simp [Value.oneCell']) (by simp [maxLen]; omega) (by omega) (sz_alloc hsz) ?_; intro v' w8 hown8 hgr8 hnn; clear hnn)
      have U8 := Lib.hid ((U2.out.alloc hsz _).grown hgr8 (sz_alloc hsz) (fun j e => (O2.out.lt j e).1))
      have O8 := Lib.hid hown8
      clear hown8 hgr8
      go_roundw
      case rel =>
        try ((repeat apply Exists.intro); refine ⟨?_, rfl⟩)
        refine ⟨k + 1, by omega, by go_num, ?_, U8.out⟩
        have e : (ints ((List.range (k + 1)).map (gateR s))).flatten = (ints ((List.range k).map (gateR s))).flatten ++ [.int .i64 (gateR s k)] := by
          rw [List.range_succ, List.map_append]
          unfold ints
          rw [List.map_append, List.flatten_append]
          rfl
        rw [e]
        exact O8.out
      case measure => simp [intOf]; omega
    · obtain rfl : k = s.floors.length := by omega
      obtain ⟨q, d, rfl, a1, a2, hR, -⟩ := Row.of_own (rows := ints (gatesR s)) (flatOk_ints _) HO.out (by simp [ints, gatesR])
      go_wp2_with fail
      go_ret
      exact ⟨q, d, rfl, a1, a2, hR, Up.trans U0.out HU.out⟩

/-- the heights of all minutes of the day -/
def heightsR (s : Sd) : List Int := (List.range (dayN s)).map fun i => hgt s.table (firstM s.table + (i : Nat))
theorem heightsR_len (s : Sd) : (heightsR s).length = dayN s := by simp [heightsR]
set_option maxRecDepth 100000 in
set_option maxHeartbeats 1000000 in
theorem refHeights_c (s : Sd) (w : World) (ok : Ok s) (hl : Lists w s pT pF pS cT cF cS) :
    Calls Tryz.prog 53 #[sdVal s pT pF pS cT cF cS] w fun e w' => ∃ q d, e = .returned (.slice q (heightsR s).length d) ∧ (heightsR s).length ≤ d ∧ d ≤ maxLen ∧ Row w' q 1 (ints (heightsR s)) ∧ (∀ b off, q = some ⟨b, off, none⟩ → w.heap.size ≤ b) ∧ Up w w' := by
  obtain ⟨f0, f1, f2⟩ := firstM_lt ok.table
  have hn : ((dayN s : Nat) : Int) = lastM s.table - firstM s.table + 1 := by unfold dayN; omega
  have HF := Lib.hid (fun W (u : Up w W) => refFirst_c s W (hl.up u) ok.table.2.2.1)
  have HA := Lib.hid (fun W (u : Up w W) => refLast_c s W (hl.up u) ok.table.2.2.1 ok.table.2.2.2)
  have HH := Lib.hid (fun m W (u : Up w W) (h1 : firstM s.table ≤ m) (h2 : m ≤ lastM s.table) => refHeight_c s m W (hl.up u) ok.table h1 h2)
  obtain ⟨i0, hi, hz0, hz1, hz2⟩ := info_parts info3
  clear hl ok
  rw [heightsR_len]
  unfold sdVal at *
  go_enter Tryz.func53, Tryz.ntmps53
  go_wp2_with fail
  have BS : Hid (Blk (w.alloc (.cells #[.slice pT s.table.length cT, .int .i64 s.lo, .int .i64 s.hi, .slice pF s.floors.length cF, .slice pS s.sills.length cS] 35)) w.heap.size (sdCells s pT pF pS cT cF cS) 35) := Lib.hid (Blk.new w (sdCells s pT pF pS cT cF cS) 35)
  have U0 : Hid (Up w (w.alloc (.cells #[.slice pT s.table.length cT, .int .i64 s.lo, .int .i64 s.hi, .slice pF s.floors.length cF, .slice pS s.sills.length cS] 35))) := Lib.hid (by (repeat (first | exact Below.refl _ _ | (with_reducible refine Below.drewN' ?_ _) | (with_reducible refine Below.drew ?_) | (with_reducible refine Below.setCell ?_ (by first | exact Nat.le_refl _ | omega | (with_reducible (repeat (first | refine sz_alloc ?_ | refine sz_setCell ?_ | refine sz_drew ?_ | refine sz_drewN ?_)); first | exact Nat.le_refl _ | omega) | (simp only [World.size_alloc, World.size_setCell, World.size_drew, size_drewN']; omega)) _) | (with_reducible refine Below.alloc ?_ (by first | exact Nat.le_refl _ | omega | (with_reducible (repeat (first | refine sz_alloc ?_ | refine sz_setCell ?_ | refine sz_drew ?_ | refine sz_drewN ?_)); first | exact Nat.le_refl _ | omega) | (simp only [World.size_alloc, World.size_setCell, World.size_drew, size_drewN']; omega)) _) | assumption)))
  generalize (w.alloc (.cells #[.slice pT s.table.length cT, .int .i64 s.lo, .int .i64 s.hi, .slice pF s.floors.length cF, .slice pS s.sills.length cS] 35)) = w0 at *
  refine (HF.out w0 U0.out).mono ?_
  rintro e w1 ⟨rfl, u1⟩
  have U1 := Lib.hid u1
  have hs1 := u1.size
  clear u1
  go_wp2_with fail
  go_loopw [4, 3] (fun i v wr => ∃ k : Nat, k ≤ dayN s ∧ i = .int .i64 (firstM s.table + k) ∧ wr.ownsRow w0.heap.size 3 1 v k (ints ((List.range k).map fun i => hgt s.table (firstM s.table + (i : Nat)))).flatten ∧ Up w0 wr) (fun i _ _ => (lastM s.table + 1 - intOf i).toNat)
  case atStart => exact ⟨0, by omega, by simp, World.ownsRow_nil _ _ _ _, U1.out⟩
  case round =>
    obtain ⟨k, hk, rfl, hown, hu⟩ := hrel
    have HO := Lib.hid hown
    have HU := Lib.hid hu
    obtain ⟨c0, c1, c2, c3, c4⟩ := five (BS.out.up hu)
    clear hown hu
    go_wp2_with fail
    refine (HA.out wr (Up.trans U0.out HU.out)).mono ?_
    rintro e w2 ⟨rfl, u2⟩
    have O2 := Lib.hid (ownsRow_up HO.out u2)
    have U2 := Lib.hid (Up.trans HU.out u2)
    clear u2 HO HU c0 c1 c2 c3 c4
    obtain ⟨c0, c1, c2, c3, c4⟩ := five (BS.out.up U2.out)
    by_cases hlt : k < dayN s
    · have k1 : firstM s.table + (k : Int) ≤ lastM s.table := by omega
      go_wp2_with fail
      refine (HH.out (firstM s.table + k) w2 (Up.trans U0.out U2.out) (by omega) k1).mono ?_
      rintro e w3 ⟨rfl, u3⟩
      have O3 := Lib.hid (ownsRow_up O2.out u3)
      have U3 := Lib.hid (Up.trans U2.out u3)
      have hsz := U3.out.size
      clear u3 O2 U2 c0 c1 c2 c3 c4
      have sy : IntKind.i64.wrap (firstM s.table + k + 1) = firstM s.table + k + 1 := IntWalk.i64_in _ (by omega)
      go_wp2_with (at_builtin; refine wpList_append_own _ rfl _ _ 25 rfl w0.heap.size 3 i0 (.int .i64 0) 1 8 Tryz.underlying25 hi hz0 hz1 hz2 rfl (by decide) _ _ _ rfl (O3.out.alloc _) ⟨w3.heap.size, 0, none⟩ 1 1 [.int .i64 (hgt s.table (firstM s.table + k))] rfl rfl (newsAt _ rfl [.int .i64 (hgt s.table (firstM s.table + k))] _) (by simp [Value.oneCell']) (by simp [maxLen]; omega) (by omega) (sz_alloc hsz) ?_; intro v' w8 hown8 hgr8 hnn; clear hnn)
      have U8 := Lib.hid ((U3.out.alloc hsz _).grown hgr8 (sz_alloc hsz) (fun j e => (O3.out.lt j e).1))
      have O8 := Lib.hid hown8
      clear hown8 hgr8
      go_roundw
      case rel =>
        try ((repeat apply Exists.intro); refine ⟨?_, rfl⟩)
        refine ⟨k + 1, by omega, by rw [show firstM s.table + (k : Int) + 1 = firstM s.table + ((k + 1 : Nat) : Int) by omega], ?_, U8.out⟩
        have e : (ints ((List.range (k + 1)).map fun i => hgt s.table (firstM s.table + (i : Nat)))).flatten = (ints ((List.range k).map fun i => hgt s.table (firstM s.table + (i : Nat)))).flatten ++ [.int .i64 (hgt s.table (firstM s.table + k))] := by
          rw [List.range_succ, List.map_append]
          unfold ints
          rw [List.map_append, List.flatten_append]
          rfl
        rw [e]
        exact O8.out
      case measure => simp [intOf]; omega
    · obtain rfl : k = dayN s := by omega
      obtain ⟨q, d, rfl, a1, a2, hR, hge⟩ := Row.of_own (rows := ints (heightsR s)) (flatOk_ints _) O2.out (by simp [ints, heightsR])
      have k1 : ¬ firstM s.table + ((dayN s : Nat) : Int) ≤ lastM s.table := by omega
      clear hn
      go_wp2_with fail
      go_ret
      exact ⟨q, d, rfl, a1, a2, hR, fun b off e => Nat.le_trans U0.out.size (hge b off e), Up.trans U0.out U2.out⟩

def rAskOne (s : Sd) (m : Int) (z : Lk × Int) (p : Nat) : Lk × Int := if askMost s m p < z.2 then ((m, (p : Int), true), askMost s m p) else z
def rAskRow (s : Sd) (m : Int) (z : Lk × Int) : Nat → Lk × Int
  | 0 => z
  | k + 1 => rAskOne s m (rAskRow s m z k) k
def rAskAll (s : Sd) : Nat → Lk × Int
  | 0 => ((0, 0, false), siz (s.lo, s.hi) + 1)
  | k + 1 => rAskRow s (firstM s.table + k) (rAskAll s k) s.floors.length
/-- both searches have found the same, or nothing yet -/
def AskEq (s : Sd) (z y : Lk × Int) : Prop := (z = y ∧ z.1.2.2 = true) ∨ (z = ((0, 0, false), siz (s.lo, s.hi)) ∧ y = ((0, 0, false), siz (s.lo, s.hi) + 1))
theorem askMost_le {s : Sd} (ok : Ok s) (m : Int) (p : Nat) : askMost s m p ≤ siz (s.lo, s.hi) := by
  have h1 := siz_part ok m p
  have h3 := siz_nonneg (truV s (m, (p : Int), true))
  have h4 := siz_nonneg (truV s (m, (p : Int), false))
  unfold askMost
  omega
theorem askEq_one {s : Sd} (ok : Ok s) {m : Int} {z y : Lk × Int} (h : AskEq s z y) (p : Nat) : AskEq s (askOne s m z p) (rAskOne s m y p) := by
  have hle := askMost_le ok m p
  rcases h with ⟨rfl, hw⟩ | ⟨rfl, rfl⟩
  · left
    unfold askOne rAskOne
    by_cases hc : askMost s m p < z.2
    · rw [if_pos (.inr hc), if_pos hc]; exact ⟨rfl, rfl⟩
    · rw [if_neg (fun h => by rcases h with h | h; · rw [h] at hw; cases hw
                              · exact hc h), if_neg hc]
      exact ⟨rfl, hw⟩
  · left
    unfold askOne rAskOne
    rw [if_pos (.inl rfl), if_pos (by dsimp only; omega)]
    exact ⟨rfl, rfl⟩
theorem askEq_row {s : Sd} (ok : Ok s) {m : Int} {z y : Lk × Int} (h : AskEq s z y) : ∀ k, AskEq s (askRow s m z k) (rAskRow s m y k)
  | 0 => h
  | k + 1 => askEq_one ok (askEq_row ok h k) k
theorem askEq_all {s : Sd} (ok : Ok s) : ∀ k, AskEq s (askAll s k) (rAskAll s k)
  | 0 => .inr ⟨rfl, rfl⟩
  | k + 1 => askEq_row ok (askEq_all ok k) _
theorem ask_same {s : Sd} (ok : Ok s) : rAskAll s (dayN s) = askAll s (dayN s) := by
  obtain ⟨m, p, h, -⟩ := ask_best ok
  rcases askEq_all ok (dayN s) with ⟨h1, -⟩ | ⟨h1, -⟩
  · exact h1.symm
  · rw [h] at h1
    exact absurd (congrArg (fun t => t.1.2.2) h1) (by simp)
theorem rAskRow_rng {s : Sd} (ok : Ok s) {m : Int} {z : Lk × Int} (h : 0 ≤ z.2 ∧ z.2 ≤ 102) : ∀ k, 0 ≤ (rAskRow s m z k).2 ∧ (rAskRow s m z k).2 ≤ 102
  | 0 => h
  | k + 1 => by
    have ih := rAskRow_rng ok h (m := m) k
    have := askMost_rng ok m k
    unfold rAskRow rAskOne
    split
    · exact ⟨this.1, by dsimp only; omega⟩
    · exact ih
theorem rAskAll_rng {s : Sd} (ok : Ok s) : ∀ k, 0 ≤ (rAskAll s k).2 ∧ (rAskAll s k).2 ≤ 102
  | 0 => by have := askMost_rng ok 0 0; exact ⟨by show 0 ≤ siz (s.lo, s.hi) + 1; omega, by show siz (s.lo, s.hi) + 1 ≤ 102; omega⟩
  | k + 1 => rAskRow_rng ok (rAskAll_rng ok k) _
/-- how many truths say that it is wet -/
theorem Far.cell {B n₀ : Nat} {w w' : World} (h : Far B n₀ w w') {b o : Nat} (h1 : b < n₀) (h2 : b ≠ B) : w'.cell? ⟨b, o, none⟩ = w.cell? ⟨b, o, none⟩ := World.cell?_of_block (h.block b h1 h2)
theorem Far.below2 {B n₀ : Nat} {w w' : World} (h : Far B n₀ w w') (hb : B < n₀) : Below B w w' := h.below (Nat.le_refl _) (by omega)
theorem yes_siz {s : Sd} (ok : Ok s) (m : Int) (p : Nat) (h0 : 0 ≤ hgt s.table m) (h1 : hgt s.table m ≤ 999) : max 0 (s.hi + 1 - max s.lo (gateR s p - hgt s.table m + 1)) = siz (truV s (m, (p : Int), true)) := by
  have b0 := ok.lo0
  have b1 := ok.hi1
  have b2 := ok.lohi
  have gl := gts_le s p
  unfold gateR siz truV com
  simp only [if_true, Int.toNat_natCast]
  split <;> omega
set_option maxRecDepth 100000 in
set_option maxHeartbeats 3000000 in
theorem refAsk_c (s : Sd) (n : Nat) (q : Option Addr) (d : Nat) (w : World) (hn : (gatesR s).length = n) (ok : Ok s) (hl : Lists w s pT pF pS cT cF cS) (hr : Row w q 1 (ints (gatesR s))) :
    Calls Tryz.prog 87 #[sdVal s pT pF pS cT cF cS, .slice q n d] w fun e w' => e = .returned (.tuple #[.agg #[.int .i64 (askAll s (dayN s)).1.1, .int .i64 (askAll s (dayN s)).1.2.1, .bool (askAll s (dayN s)).1.2.2], .int .i64 (askAll s (dayN s)).2]) ∧ Up w w' := by
  have hnl : n = s.floors.length := by rw [← hn, gatesR_len]
  subst hnl
  obtain ⟨f0, f1, f2⟩ := firstM_lt ok.table
  have hdn : ((dayN s : Nat) : Int) = lastM s.table - firstM s.table + 1 := by unfold dayN; omega
  have f8 := ok.fl1
  have b0 := ok.lo0
  have b1 := ok.hi1
  have b2 := ok.lohi
  have HF := Lib.hid (fun W (u : Up w W) => refFirst_c s W (hl.up u) ok.table.2.2.1)
  have HH := Lib.hid (fun W (u : Up w W) => refHeights_c s W ok (hl.up u))
  have HR := Lib.hid hr
  have OK := Lib.hid ok
  have SAME := Lib.hid (ask_same ok)
  have s1 : IntKind.i64.wrap (s.hi - s.lo) = s.hi - s.lo := IntWalk.i64_in _ (by omega)
  have s2 : IntKind.i64.wrap (s.hi - s.lo + 1) = s.hi - s.lo + 1 := IntWalk.i64_in _ (by omega)
  have s3 : IntKind.i64.wrap (s.hi - s.lo + 1 + 1) = s.hi - s.lo + 1 + 1 := IntWalk.i64_in _ (by omega)
  clear hl hr ok hn
  unfold sdVal at *
  go_enter Tryz.func87, Tryz.ntmps87
  go_wp2_with fail
  refine Calls.world ?_
  intro w0 hw0
  have u0 : Up w w0 := by rw [hw0]; (repeat (first | exact Below.refl _ _ | (with_reducible refine Below.drewN' ?_ _) | (with_reducible refine Below.drew ?_) | (with_reducible refine Below.setCell ?_ (by first | exact Nat.le_refl _ | omega | (with_reducible (repeat (first | refine sz_alloc ?_ | refine sz_setCell ?_ | refine sz_drew ?_ | refine sz_drewN ?_)); first | exact Nat.le_refl _ | omega) | (simp only [World.size_alloc, World.size_setCell, World.size_drew, size_drewN']; omega)) _) | (with_reducible refine Below.alloc ?_ (by first | exact Nat.le_refl _ | omega | (with_reducible (repeat (first | refine sz_alloc ?_ | refine sz_setCell ?_ | refine sz_drew ?_ | refine sz_drewN ?_)); first | exact Nat.le_refl _ | omega) | (simp only [World.size_alloc, World.size_setCell, World.size_drew, size_drewN']; omega)) _) | assumption))
  have hS : Blk w0 w.heap.size (sdCells s pT pF pS cT cF cS) 35 := by rw [hw0]; exact ((Blk.new w (sdCells s pT pF pS cT cF cS) _).alloc _).alloc _
  have hR : Blk w0 (w.heap.size + 1) [.int .i64 0, .int .i64 0, .bool false] 124 := by rw [hw0]; exact (Blk.new' _ [.int .i64 0, .int .i64 0, .bool false] _ (by simp)).alloc _
  have hB : Blk w0 (w.heap.size + 1 + 1) [.int .i64 0, .int .i64 0, .bool false] 124 := by rw [hw0]; exact Blk.new' _ [.int .i64 0, .int .i64 0, .bool false] _ (by simp)
  clear hw0
  refine (HH.out w0 u0).mono ?_
  rintro e w1 ⟨qh, dh, rfl, -, -, rh, hfr, u1⟩
  have U1 := Lib.hid (Up.trans u0 u1)
  have S1 := Lib.hid (hS.up u1)
  have R1 := Lib.hid (hR.up u1)
  have B1 := Lib.hid (hB.up u1)
  have HB0 := hB.lt
  have RH := Lib.hid rh
  rw [heightsR_len]
  have hal : siz (s.lo, s.hi) = s.hi - s.lo + 1 := siz_wind OK.out
  have HALL := Lib.hid hal
  clear u0 u1 hS hR hB rh s1 s2 s3 hal
  have hl0 : w.heap.size + 1 + 1 < w0.heap.size := HB0
  obtain ⟨bh, oh, rfl, -⟩ := RH.out.int 0 (by rw [heightsR_len]; omega)
  obtain ⟨bg, og, rfl, -⟩ := HR.out.int 0 (by rw [gatesR_len]; have := OK.out.fl0; omega)
  have hbw : w.heap.size + 1 + 1 < w1.heap.size := B1.out.lt
  have HDN := Lib.hid hdn
  clear hdn
  obtain ⟨dn, hdd⟩ : ∃ dn, dayN s = dn := ⟨_, rfl⟩
  have HDD := Lib.hid hdd
  rw [hdd] at HDN ⊢
  have hd9 : dn ≤ 1441 := by have := HDN.out; omega
  clear hdd
  go_wp2_with fail
  go_loopw [10, 8] (fun i f wr => ∃ k : Nat, k ≤ dn ∧ i = .int .i64 k ∧ f = .int .i64 (rAskAll s k).2 ∧ Blk wr (w.heap.size + 1 + 1) (lkc (rAskAll s k).1) 124 ∧ Blk wr (w.heap.size + 1) [.int .i64 0, .int .i64 0, .bool false] 124 ∧ Blk wr w.heap.size (sdCells s pT pF pS cT cF cS) 35 ∧ Far (w.heap.size + 1 + 1) w1.heap.size w1 wr) (fun i _ _ => dn - (intOf i).toNat)
  case atStart => exact ⟨0, by omega, rfl, by rw [show (rAskAll s 0).2 = s.hi - s.lo + 1 + 1 by rw [← HALL.out]; rfl], B1.out, R1.out, S1.out, Far.refl _ _ _⟩
  case round =>
    obtain ⟨k, hk, rfl, rfl, hb, hr, hs, hd⟩ := hrel
    have HB := Lib.hid hb
    have HRr := Lib.hid hr
    have HSr := Lib.hid hs
    have HD := Lib.hid hd
    clear hb hr hs hd
    by_cases hlt : k < dn
    · have k1 : (k : Int) < dn := by omega
      have hzr := rAskAll_rng OK.out k
      have HE := Lib.hid (show rAskAll s (k + 1) = rAskRow s (firstM s.table + k) (rAskAll s k) s.floors.length from rfl)
      generalize rAskAll s k = z at *
      have HZR := Lib.hid hzr
      clear hzr
      go_wp2_with fail
      go_loopw [11, 8] (fun j f wy => ∃ p : Nat, p ≤ s.floors.length ∧ j = .int .i64 p ∧ f = .int .i64 (rAskRow s (firstM s.table + k) z p).2 ∧ Blk wy (w.heap.size + 1 + 1) (lkc (rAskRow s (firstM s.table + k) z p).1) 124 ∧ Blk wy (w.heap.size + 1) [.int .i64 0, .int .i64 0, .bool false] 124 ∧ Blk wy w.heap.size (sdCells s pT pF pS cT cF cS) 35 ∧ Far (w.heap.size + 1 + 1) w1.heap.size w1 wy) (fun j _ _ => s.floors.length - (intOf j).toNat)
      case atStart => exact ⟨0, Nat.zero_le _, rfl, rfl, HB.out, HRr.out, HSr.out, HD.out⟩
      case round =>
        obtain ⟨p, hp, rfl, rfl, hb, hr, hs, hd⟩ := hrel
        have Hb := Lib.hid hb
        have Hr := Lib.hid hr
        have Hs := Lib.hid hs
        have Hd := Lib.hid hd
        clear hb hr hs hd HB HRr HSr HD
        by_cases hlp : p < s.floors.length
        · have p1 : (p : Int) < s.floors.length := by omega
          have hzr := rAskRow_rng OK.out (m := firstM s.table + k) HZR.out p
          have HE2 := Lib.hid (show rAskRow s (firstM s.table + k) z (p + 1) = rAskOne s (firstM s.table + k) (rAskRow s (firstM s.table + k) z p) p from rfl)
          generalize rAskRow s (firstM s.table + k) z p = y at *
          obtain ⟨⟨ym, yp, yw⟩, yn⟩ := y
          dsimp only at hzr
          obtain ⟨c0, c1, c2, c3, c4⟩ := five Hs.out
          have hm0 : firstM s.table ≤ firstM s.table + (k : Int) := by omega
          have hmr := hgt_rng OK.out.table (firstM s.table + k) hm0
          have mr := askMost_rng OK.out (firstM s.table + k) p
          have YS := Lib.hid (yes_siz OK.out (firstM s.table + k) p hmr.1 hmr.2)
          have MS := Lib.hid (show askMost s (firstM s.table + k) p = max (siz (truV s (firstM s.table + k, (p : Int), true))) (siz (s.lo, s.hi) - siz (truV s (firstM s.table + k, (p : Int), true))) from rfl)
          have yle : siz (truV s (firstM s.table + k, (p : Int), true)) ≤ siz (s.lo, s.hi) := by have h1 := siz_part OK.out (firstM s.table + k) p; have h2 := siz_nonneg (truV s (firstM s.table + k, (p : Int), false)); omega
          have gl := gts_le s p
          have GR : 0 ≤ gateR s p ∧ gateR s p ≤ 5000 := by unfold gateR; split <;> omega
          have hfb := hfr bh oh rfl
          obtain ⟨hx1, hx2⟩ : bh < w1.heap.size ∧ w1.cell? ⟨bh, oh + k, none⟩ = some (.int .i64 (hgt s.table (firstM s.table + k))) := by
            obtain ⟨b', o', e1, e2⟩ := RH.out.int k (by rw [heightsR_len, HDD.out]; omega)
            simp only [Option.some.injEq, Addr.mk.injEq, and_true] at e1
            obtain ⟨rfl, rfl⟩ := e1
            simp only [heightsR, List.getElem_map, List.getElem_range] at e2
            exact ⟨cell_lt e2, e2⟩
          obtain ⟨hy1, hy2⟩ : bg < w.heap.size ∧ w.cell? ⟨bg, og + p, none⟩ = some (.int .i64 (gateR s p)) := by
            obtain ⟨b', o', e1, e2⟩ := HR.out.int p (by rw [gatesR_len]; omega)
            simp only [Option.some.injEq, Addr.mk.injEq, and_true] at e1
            obtain ⟨rfl, rfl⟩ := e1
            simp only [gatesR, List.getElem_map, List.getElem_range] at e2
            exact ⟨cell_lt e2, e2⟩
          have hx3 := (Hd.out.cell hx1 (by omega)).trans hx2
          have hy3 := (Hd.out.cell (b := bg) (by have := U1.out.size; omega) (by omega)).trans (U1.out.cellAt hy2)
          have lx := cell_lt hx3
          have ly := cell_lt hy3
          generalize hgt s.table (firstM s.table + (k : Int)) = hh at *
          generalize gateR s p = gg at *
          generalize siz (truV s (firstM s.table + (k : Int), (p : Int), true)) = yes at *
          clear hx2 hy2 gl
          go_wp2_with fail
          go_loopw [13, 12] (fun v y wz => ∃ t : Int, v = .int .i64 t ∧ s.lo ≤ t ∧ t ≤ s.hi + 1 ∧ y = .int .i64 (max 0 (t - max s.lo (gg - hh + 1))) ∧ Up wr wz) (fun v _ _ => (s.hi + 1 - intOf v).toNat)
          case atStart => exact ⟨s.lo, rfl, Int.le_refl _, by omega, by rw [show max 0 (s.lo - max s.lo (gg - hh + 1)) = 0 by omega], Below.refl _ _⟩
          case round =>
            obtain ⟨t, rfl, t0, t1, rfl, hu⟩ := hrel
            have e0 := hu.cellAt c0
            have e1 := hu.cellAt c1
            have e2 := hu.cellAt c2
            have e3 := hu.cellAt c3
            have e4 := hu.cellAt c4
            have ex := hu.cellAt hx3
            have ey := hu.cellAt hy3
            have le := cell_lt ex
            have lf := cell_lt ey
            have HU := Lib.hid hu
            clear hu c0 c1 c2 c3 c4 hx3 hy3
            by_cases ht : t ≤ s.hi
            · have s4 : IntKind.i64.wrap (hh + t) = hh + t := IntWalk.i64_in _ (by omega)
              have st1 : IntKind.i64.wrap (t + 1) = t + 1 := IntWalk.i64_in _ (by omega)
              obtain ⟨yy, hyy⟩ : ∃ yy, max 0 (t - max s.lo (gg - hh + 1)) = yy := ⟨_, rfl⟩
              have HYY := Lib.hid hyy
              have yr : 0 ≤ yy ∧ yy ≤ 200 := by omega
              have sy1 : IntKind.i64.wrap (yy + 1) = yy + 1 := IntWalk.i64_in _ (by omega)
              rw [hyy]
              clear hyy
              by_cases hw : gg < hh + t
              · have HV := Lib.hid (show max 0 (t + 1 - max s.lo (gg - hh + 1)) = yy + 1 by have := HYY.out; omega)
                go_wp2_with fail
                go_quiet (fail)
                go_wp2
                go_roundw
                case rel =>
                  try ((repeat apply Exists.intro); refine ⟨?_, rfl⟩)
                  exact ⟨t + 1, rfl, by omega, by omega, by rw [HV.out], by have hU := HU.out; (repeat (first | exact Below.refl _ _ | (with_reducible refine Below.drewN' ?_ _) | (with_reducible refine Below.drew ?_) | (with_reducible refine Below.setCell ?_ (by first | exact Nat.le_refl _ | omega | (with_reducible (repeat (first | refine sz_alloc ?_ | refine sz_setCell ?_ | refine sz_drew ?_ | refine sz_drewN ?_)); first | exact Nat.le_refl _ | omega) | (simp only [World.size_alloc, World.size_setCell, World.size_drew, size_drewN']; omega)) _) | (with_reducible refine Below.alloc ?_ (by first | exact Nat.le_refl _ | omega | (with_reducible (repeat (first | refine sz_alloc ?_ | refine sz_setCell ?_ | refine sz_drew ?_ | refine sz_drewN ?_)); first | exact Nat.le_refl _ | omega) | (simp only [World.size_alloc, World.size_setCell, World.size_drew, size_drewN']; omega)) _) | assumption))⟩
                case measure => simp [intOf]; omega
              · have HV := Lib.hid (show max 0 (t + 1 - max s.lo (gg - hh + 1)) = yy by have := HYY.out; omega)
                go_wp2_with fail
                go_quiet (fail)
                go_wp2
                go_roundw
                case rel =>
                  try ((repeat apply Exists.intro); refine ⟨?_, rfl⟩)
                  exact ⟨t + 1, rfl, by omega, by omega, by rw [HV.out], by have hU := HU.out; (repeat (first | exact Below.refl _ _ | (with_reducible refine Below.drewN' ?_ _) | (with_reducible refine Below.drew ?_) | (with_reducible refine Below.setCell ?_ (by first | exact Nat.le_refl _ | omega | (with_reducible (repeat (first | refine sz_alloc ?_ | refine sz_setCell ?_ | refine sz_drew ?_ | refine sz_drewN ?_)); first | exact Nat.le_refl _ | omega) | (simp only [World.size_alloc, World.size_setCell, World.size_drew, size_drewN']; omega)) _) | (with_reducible refine Below.alloc ?_ (by first | exact Nat.le_refl _ | omega | (with_reducible (repeat (first | refine sz_alloc ?_ | refine sz_setCell ?_ | refine sz_drew ?_ | refine sz_drewN ?_)); first | exact Nat.le_refl _ | omega) | (simp only [World.size_alloc, World.size_setCell, World.size_drew, size_drewN']; omega)) _) | assumption))⟩
                case measure => simp [intOf]; omega
            · obtain rfl : t = s.hi + 1 := by omega
              rw [YS.out]
              have Bq := Lib.hid (Hb.out.up HU.out)
              have Rq := Lib.hid (Hr.out.up HU.out)
              have Sq := Lib.hid (Hs.out.up HU.out)
              have Dq := Lib.hid (Hd.out.trans (Far.of (HU.out.mono Hd.out.size)))
              generalize wr = wq at *
              have hal := HALL.out
              have s5 : IntKind.i64.wrap (s.hi - s.lo + 1 - yes) = s.hi - s.lo + 1 - yes := IntWalk.i64_in _ (by omega)
              have mr5 : 0 ≤ yes ∧ yes ≤ s.hi - s.lo + 1 := by omega
              rw [hal] at mr
              clear hal
              by_cases hm : yes < s.hi - s.lo + 1 - yes
              · have MM := Lib.hid (show askMost s (firstM s.table + k) p = s.hi - s.lo + 1 - yes by rw [MS.out, HALL.out]; omega)
                by_cases hc : s.hi - s.lo + 1 - yes < yn
                · have HE3 := Lib.hid (show rAskRow s (firstM s.table + k) z (p + 1) = ((firstM s.table + k, (p : Int), true), s.hi - s.lo + 1 - yes) by rw [HE2.out]; unfold rAskOne; rw [MM.out, if_pos hc])
                  go_wp2_with fail
                  refine (HF.out wq (Below.trans U1.out (Dq.out.below (by omega) (by omega)))).mono ?_
                  rintro e wt ⟨rfl, ut⟩
                  have Bt := Lib.hid (Bq.out.up ut)
                  have Rt := Lib.hid (Rq.out.up ut)
                  have St := Lib.hid (Sq.out.up ut)
                  have Dt := Lib.hid (Dq.out.trans (Far.of (ut.mono Dq.out.size)))
                  have y0 := Bt.out.cell 0
                  have y1 := Bt.out.cell 1
                  have y2 := Bt.out.cell 2
                  have yf := Bt.out.free
                  have yl := Bt.out.lt
                  have s6 : IntKind.i64.wrap (firstM s.table + k) = firstM s.table + k := IntWalk.i64_in _ (by omega)
                  simp only [lkc, List.getElem?_cons_zero, List.getElem?_cons_succ] at y0 y1 y2
                  clear ut
                  go_wp2_with fail
                  go_roundw
                  case rel =>
                    try ((repeat apply Exists.intro); refine ⟨?_, rfl⟩)
                    refine ⟨p + 1, by omega, by go_num, by rw [HE3.out], ?_, ((Rt.out.other (by simp only []; omega) _).other (by simp only []; omega) _).other (by simp only []; omega) _, ((St.out.other (by simp only []; omega) _).other (by simp only []; omega) _).other (by simp only []; omega) _, ((Dt.out.setIn _ _).setIn _ _).setIn _ _⟩
                    rw [HE3.out]
                    have h := ((Bt.out.set 0 (.int .i64 (firstM s.table + k))).set 1 (.int .i64 p)).set 2 (.bool true)
                    simpa only [lkc, List.set_cons_zero, List.set_cons_succ] using h
                  case measure => simp [intOf]; omega
                · have HE3 := Lib.hid (show rAskRow s (firstM s.table + k) z (p + 1) = ((ym, yp, yw), yn) by rw [HE2.out]; unfold rAskOne; rw [MM.out, if_neg hc])
                  go_wp2_with fail
                  go_roundw
                  case rel =>
                    try ((repeat apply Exists.intro); refine ⟨?_, rfl⟩)
                    exact ⟨p + 1, by omega, by go_num, by rw [HE3.out], by rw [HE3.out]; exact Bq.out, Rq.out, Sq.out, Dq.out⟩
                  case measure => simp [intOf]; omega
              · have MM := Lib.hid (show askMost s (firstM s.table + k) p = yes by rw [MS.out, HALL.out]; omega)
                by_cases hc : yes < yn
                · have HE3 := Lib.hid (show rAskRow s (firstM s.table + k) z (p + 1) = ((firstM s.table + k, (p : Int), true), yes) by rw [HE2.out]; unfold rAskOne; rw [MM.out, if_pos hc])
                  go_wp2_with fail
                  refine (HF.out wq (Below.trans U1.out (Dq.out.below (by omega) (by omega)))).mono ?_
                  rintro e wt ⟨rfl, ut⟩
                  have Bt := Lib.hid (Bq.out.up ut)
                  have Rt := Lib.hid (Rq.out.up ut)
                  have St := Lib.hid (Sq.out.up ut)
                  have Dt := Lib.hid (Dq.out.trans (Far.of (ut.mono Dq.out.size)))
                  have y0 := Bt.out.cell 0
                  have y1 := Bt.out.cell 1
                  have y2 := Bt.out.cell 2
                  have yf := Bt.out.free
                  have yl := Bt.out.lt
                  have s6 : IntKind.i64.wrap (firstM s.table + k) = firstM s.table + k := IntWalk.i64_in _ (by omega)
                  simp only [lkc, List.getElem?_cons_zero, List.getElem?_cons_succ] at y0 y1 y2
                  clear ut
                  go_wp2_with fail
                  go_roundw
                  case rel =>
                    try ((repeat apply Exists.intro); refine ⟨?_, rfl⟩)
                    refine ⟨p + 1, by omega, by go_num, by rw [HE3.out], ?_, ((Rt.out.other (by simp only []; omega) _).other (by simp only []; omega) _).other (by simp only []; omega) _, ((St.out.other (by simp only []; omega) _).other (by simp only []; omega) _).other (by simp only []; omega) _, ((Dt.out.setIn _ _).setIn _ _).setIn _ _⟩
                    rw [HE3.out]
                    have h := ((Bt.out.set 0 (.int .i64 (firstM s.table + k))).set 1 (.int .i64 p)).set 2 (.bool true)
                    simpa only [lkc, List.set_cons_zero, List.set_cons_succ] using h
                  case measure => simp [intOf]; omega
                · have HE3 := Lib.hid (show rAskRow s (firstM s.table + k) z (p + 1) = ((ym, yp, yw), yn) by rw [HE2.out]; unfold rAskOne; rw [MM.out, if_neg hc])
                  go_wp2_with fail
                  go_roundw
                  case rel =>
                    try ((repeat apply Exists.intro); refine ⟨?_, rfl⟩)
                    exact ⟨p + 1, by omega, by go_num, by rw [HE3.out], by rw [HE3.out]; exact Bq.out, Rq.out, Sq.out, Dq.out⟩
                  case measure => simp [intOf]; omega
        · obtain rfl : p = s.floors.length := by omega
          go_wp2_with fail
          go_roundw
          case rel =>
            try ((repeat apply Exists.intro); refine ⟨?_, rfl⟩)
            exact ⟨k + 1, by omega, by go_num, by rw [HE.out], by rw [HE.out]; exact Hb.out, Hr.out, Hs.out, Hd.out⟩
          case measure => simp [intOf]; omega
    · obtain rfl : k = dn := by omega
      have hz : rAskAll s k = askAll s (dayN s) := by rw [← SAME.out, HDD.out]
      rw [hz] at HB
      rw [hz]
      generalize hzz : askAll s (dayN s) = z at *
      obtain ⟨⟨zm, zp, zw⟩, zn⟩ := z
      have y0 := HB.out.cell 0
      have y1 := HB.out.cell 1
      have y2 := HB.out.cell 2
      have r0 := HRr.out.cell 0
      have r1 := HRr.out.cell 1
      have r2 := HRr.out.cell 2
      have rf := HRr.out.free
      have rl := HRr.out.lt
      simp only [lkc, List.getElem?_cons_zero, List.getElem?_cons_succ] at y0 y1 y2 r0 r1 r2
      have UW := Lib.hid (Below.trans U1.out (HD.out.below (b := w.heap.size) (by omega) (by omega)))
      have HZZ := Lib.hid hzz
      clear hz hzz
      go_wp2_with fail
      have h := ((HRr.out.set 0 (.int .i64 zm)).set 1 (.int .i64 zp)).set 2 (.bool zw)
      have p0 := h.cell 0
      have p1 := h.cell 1
      have p2 := h.cell 2
      simp only [List.set_cons_zero, List.set_cons_succ, List.getElem?_cons_zero, List.getElem?_cons_succ] at p0 p1 p2
      refine bodyPost_ret (v := .tuple #[.agg #[.int .i64 zm, .int .i64 zp, .bool zw], .int .i64 zn]) (by simp [results, Tryz.f87, go_sem, p0, p1, p2]) rfl ⟨?_, ?_⟩
      · first | rfl | rw [HZZ.out]
      · exact ((UW.out.setCell (by simp only []; omega) _).setCell (by simp only []; omega) _).setCell (by simp only []; omega) _
end
end Go.Proofs.YtknaajofcbenaaaGreat
/- The reference's State. -/
namespace Go.Proofs.YtknaajofcbenaaaGreat
open Go.RowKit Go.Shelf

/-- what the reference's State answers -/
def stR (s : Sd) (h g : Int) : Int := if g < h + s.lo then 2 else if g < h + s.hi then 1 else 0
section
variable {pT pF pS : Option Addr} {cT cF cS : Nat}
set_option maxRecDepth 100000 in
set_option maxHeartbeats 1000000 in
theorem refState_c (s : Sd) (h g : Int) (w : World) (ok : Ok s) (h0 : 0 ≤ h) (h1 : h ≤ 999) (g0 : -100000 ≤ g) (g1 : g ≤ 100000) :
    Calls Tryz.prog 54 #[sdVal s pT pF pS cT cF cS, .int .i64 h, .int .i64 g] w fun e w' => e = .returned (.int .i64 (stR s h g)) ∧ Up w w' := by
  have b0 := ok.lo0
  have b1 := ok.hi1
  have b2 := ok.lohi
  clear ok
  unfold sdVal
  go_enter Tryz.func54, Tryz.ntmps54
  go_wp2_with fail
  have BS : Hid (Blk (w.alloc (.cells #[.slice pT s.table.length cT, .int .i64 s.lo, .int .i64 s.hi, .slice pF s.floors.length cF, .slice pS s.sills.length cS] 35)) w.heap.size (sdCells s pT pF pS cT cF cS) 35) := Lib.hid (Blk.new w (sdCells s pT pF pS cT cF cS) 35)
  have U0 : Hid (Up w (w.alloc (.cells #[.slice pT s.table.length cT, .int .i64 s.lo, .int .i64 s.hi, .slice pF s.floors.length cF, .slice pS s.sills.length cS] 35))) := Lib.hid (by (repeat (first | exact Below.refl _ _ | (with_reducible refine Below.drewN' ?_ _) | (with_reducible refine Below.drew ?_) | (with_reducible refine Below.setCell ?_ (by first | exact Nat.le_refl _ | omega | (with_reducible (repeat (first | refine sz_alloc ?_ | refine sz_setCell ?_ | refine sz_drew ?_ | refine sz_drewN ?_)); first | exact Nat.le_refl _ | omega) | (simp only [World.size_alloc, World.size_setCell, World.size_drew, size_drewN']; omega)) _) | (with_reducible refine Below.alloc ?_ (by first | exact Nat.le_refl _ | omega | (with_reducible (repeat (first | refine sz_alloc ?_ | refine sz_setCell ?_ | refine sz_drew ?_ | refine sz_drewN ?_)); first | exact Nat.le_refl _ | omega) | (simp only [World.size_alloc, World.size_setCell, World.size_drew, size_drewN']; omega)) _) | assumption)))
  generalize (w.alloc (.cells #[.slice pT s.table.length cT, .int .i64 s.lo, .int .i64 s.hi, .slice pF s.floors.length cF, .slice pS s.sills.length cS] 35)) = w0 at *
  go_loopw [9, 8, 7] (fun i va vb wr => ∃ x a b : Int, i = .int .i64 x ∧ va = .int .i64 a ∧ vb = .int .i64 b ∧ s.lo ≤ x ∧ x ≤ s.hi + 1 ∧ a = max 0 (x - max s.lo (g - h + 1)) ∧ b = x - s.lo - a ∧ Up w0 wr) (fun i _ _ _ => (s.hi + 1 - intOf i).toNat)
  case atStart => exact ⟨s.lo, 0, 0, rfl, rfl, rfl, by omega, by omega, by omega, by omega, Below.refl _ _⟩
  case round =>
    obtain ⟨x, a, b, rfl, rfl, rfl, x0, x1, ha, hb, hu⟩ := hrel
    have HU := Lib.hid hu
    obtain ⟨c0, c1, c2, c3, c4⟩ := five (BS.out.up hu)
    clear hu
    have a0 : 0 ≤ a := by omega
    have a1 : a ≤ 101 := by omega
    have d0 : 0 ≤ b := by omega
    have d1 : b ≤ 101 := by omega
    by_cases hlt : x ≤ s.hi
    · have sx : IntKind.i64.wrap (h + x) = h + x := IntWalk.i64_in _ (by omega)
      have sy : IntKind.i64.wrap (x + 1) = x + 1 := IntWalk.i64_in _ (by omega)
      by_cases hg : g < h + x
      · have sw : IntKind.i64.wrap (a + 1) = a + 1 := IntWalk.i64_in _ (by omega)
        have r1 : a + 1 = max 0 (x + 1 - max s.lo (g - h + 1)) := by omega
        have r2 : b = x + 1 - s.lo - (a + 1) := by omega
        have R := Lib.hid (And.intro r1 r2)
        clear ha hb r1 r2
        go_wp2_with fail
        go_roundw
        case rel =>
          try ((repeat apply Exists.intro); refine ⟨?_, rfl⟩)
          exact ⟨x + 1, a + 1, b, rfl, rfl, rfl, by omega, by omega, R.out.1, R.out.2, HU.out⟩
        case measure => simp [intOf]; omega
      · have sw : IntKind.i64.wrap (b + 1) = b + 1 := IntWalk.i64_in _ (by omega)
        have r1 : a = max 0 (x + 1 - max s.lo (g - h + 1)) := by omega
        have r2 : b + 1 = x + 1 - s.lo - a := by omega
        have R := Lib.hid (And.intro r1 r2)
        clear ha hb r1 r2
        go_wp2_with fail
        go_roundw
        case rel =>
          try ((repeat apply Exists.intro); refine ⟨?_, rfl⟩)
          exact ⟨x + 1, a, b + 1, rfl, rfl, rfl, by omega, by omega, R.out.1, R.out.2, HU.out⟩
        case measure => simp [intOf]; omega
    · by_cases ha0 : a = 0
      · have hr : Hid (stR s h g = 0) := by show _ = _; unfold stR; rw [if_neg (by omega), if_neg (by omega)]
        have hn : (a == 0) = true := by rw [ha0]; rfl
        clear ha hb ha0
        go_wp2_with fail
        go_ret
        exact ⟨by rw [hr.out]; rfl, Up.trans U0.out HU.out⟩
      · have hn : (a == 0) = false := beq_eq_false_iff_ne.2 ha0
        by_cases hb0 : b = 0
        · have hr : Hid (stR s h g = 2) := by show _ = _; unfold stR; rw [if_pos (by omega)]
          have hn2 : (b == 0) = true := by rw [hb0]; rfl
          clear ha hb hb0
          go_wp2_with fail
          go_ret
          exact ⟨by rw [hr.out]; rfl, Up.trans U0.out HU.out⟩
        · have hr : Hid (stR s h g = 1) := by show _ = _; unfold stR; rw [if_neg (by omega), if_pos (by omega)]
          have hn2 : (b == 0) = false := beq_eq_false_iff_ne.2 hb0
          clear ha hb
          go_wp2_with fail
          go_ret
          exact ⟨by rw [hr.out]; rfl, Up.trans U0.out HU.out⟩
end
end Go.Proofs.YtknaajofcbenaaaGreat
/- The reference's Says. -/
namespace Go.Proofs.YtknaajofcbenaaaGreat
open Go.RowKit Go.Shelf

/-- rows of truths -/
def bools (l : List Bool) : List (List Value) := l.map fun b => [.bool b]
theorem flatOk_bools (l : List Bool) : flatOk 1 (bools l) = true := by simp [flatOk, bools]
theorem Row.bool {w : World} {p : Option Addr} {l : List Bool} (h : Row w p 1 (bools l)) (i : Nat) (hi : i < l.length) :
    ∃ b off, p = some ⟨b, off, none⟩ ∧ w.cell? ⟨b, off + i, none⟩ = some (.bool l[i]) := by
  obtain ⟨b, off, hp, hc⟩ := h i [.bool l[i]] (by simp [bools, hi])
  exact ⟨b, off, hp, by simpa using hc 0 _ rfl⟩
theorem infoB : (Tryz.prog.info? 4).map (fun i => (i.zero, i.size, i.bytes)) = some (some (.bool false), 1, 1) := by kernel_rfl

/-- whether the reference has the state x in the minute that is i behind the first -/
def sayR (s : Sd) (g x : Int) (i : Nat) : Bool := stR s (hgt s.table (firstM s.table + (i : Nat))) g == x
def saysR (s : Sd) (g x : Int) : List Bool := (List.range (dayN s)).map (sayR s g x)
theorem saysR_len (s : Sd) (g x : Int) : (saysR s g x).length = dayN s := by simp [saysR]
section
variable {pT pF pS : Option Addr} {cT cF cS : Nat}
set_option maxRecDepth 100000 in
set_option maxHeartbeats 1000000 in
theorem refSays_c (s : Sd) (g x : Int) (w : World) (ok : Ok s) (hl : Lists w s pT pF pS cT cF cS) (g0 : -100000 ≤ g) (g1 : g ≤ 100000) :
    Calls Tryz.prog 16 #[sdVal s pT pF pS cT cF cS, .int .i64 g, .int .i64 x] w fun e w' => ∃ q d, e = .returned (.slice q (saysR s g x).length d) ∧ (saysR s g x).length ≤ d ∧ d ≤ maxLen ∧ Row w' q 1 (bools (saysR s g x)) ∧ Up w w' := by
  obtain ⟨f0, f1, f2⟩ := firstM_lt ok.table
  have hn : ((dayN s : Nat) : Int) = lastM s.table - firstM s.table + 1 := by unfold dayN; omega
  have HH := Lib.hid (fun W (u : Up w W) => refHeights_c s W ok (hl.up u))
  have HS := Lib.hid (fun (i : Nat) W => refState_c (pT := pT) (pF := pF) (pS := pS) (cT := cT) (cF := cF) (cS := cS) s (hgt s.table (firstM s.table + (i : Nat))) g W ok (hgt_rng ok.table _ (by omega)).1 (hgt_rng ok.table _ (by omega)).2 g0 g1)
  obtain ⟨i0, hi, hz0, hz1, hz2⟩ := info_parts infoB
  clear hl ok
  rw [saysR_len]
  unfold sdVal at *
  go_enter Tryz.func16, Tryz.ntmps16
  go_wp2_with fail
  have BS : Hid (Blk (w.alloc (.cells #[.slice pT s.table.length cT, .int .i64 s.lo, .int .i64 s.hi, .slice pF s.floors.length cF, .slice pS s.sills.length cS] 35)) w.heap.size (sdCells s pT pF pS cT cF cS) 35) := Lib.hid (Blk.new w (sdCells s pT pF pS cT cF cS) 35)
  have U0 : Hid (Up w (w.alloc (.cells #[.slice pT s.table.length cT, .int .i64 s.lo, .int .i64 s.hi, .slice pF s.floors.length cF, .slice pS s.sills.length cS] 35))) := Lib.hid (by (repeat (first | exact Below.refl _ _ | (with_reducible refine Below.drewN' ?_ _) | (with_reducible refine Below.drew ?_) | (with_reducible refine Below.setCell ?_ (by first | exact Nat.le_refl _ | omega | (with_reducible (repeat (first | refine sz_alloc ?_ | refine sz_setCell ?_ | refine sz_drew ?_ | refine sz_drewN ?_)); first | exact Nat.le_refl _ | omega) | (simp only [World.size_alloc, World.size_setCell, World.size_drew, size_drewN']; omega)) _) | (with_reducible refine Below.alloc ?_ (by first | exact Nat.le_refl _ | omega | (with_reducible (repeat (first | refine sz_alloc ?_ | refine sz_setCell ?_ | refine sz_drew ?_ | refine sz_drewN ?_)); first | exact Nat.le_refl _ | omega) | (simp only [World.size_alloc, World.size_setCell, World.size_drew, size_drewN']; omega)) _) | assumption)))
  generalize (w.alloc (.cells #[.slice pT s.table.length cT, .int .i64 s.lo, .int .i64 s.hi, .slice pF s.floors.length cF, .slice pS s.sills.length cS] 35)) = w0 at *
  refine (HH.out w0 U0.out).mono ?_
  rintro e w1 ⟨qh, dh, rfl, -, -, rh, -, u1⟩
  have U1 := Lib.hid u1
  have RH := Lib.hid rh
  have hs1 := u1.size
  rw [heightsR_len]
  clear u1 rh
  obtain ⟨dn, hdd⟩ : ∃ dn, dayN s = dn := ⟨_, rfl⟩
  have HDD := Lib.hid hdd
  rw [hdd] at hn ⊢
  have hd9 : dn ≤ 1441 := by omega
  clear hdd hn
  go_wp2_with fail
  go_loopw [9, 7] (fun i v wr => ∃ k : Nat, k ≤ dn ∧ i = .int .i64 k ∧ wr.ownsRow w1.heap.size 4 1 v k (bools ((List.range k).map (sayR s g x))).flatten ∧ Up w1 wr) (fun i _ _ => dn - (intOf i).toNat)
  case atStart => exact ⟨0, by omega, rfl, World.ownsRow_nil _ _ _ _, Below.refl _ _⟩
  case round =>
    obtain ⟨k, hk, rfl, hown, hu⟩ := hrel
    have HO := Lib.hid hown
    have HU := Lib.hid hu
    obtain ⟨c0, c1, c2, c3, c4⟩ := five (BS.out.up (Up.trans U1.out hu))
    clear hown hu
    by_cases hlt : k < dn
    · have k1 : (k : Int) < dn := by omega
      obtain ⟨bh, oh, rfl, hc1⟩ := RH.out.int k (by rw [heightsR_len, HDD.out]; exact hlt)
      have hv : (heightsR s)[k]'(by rw [heightsR_len, HDD.out]; exact hlt) = hgt s.table (firstM s.table + (k : Nat)) := by simp [heightsR]
      rw [hv] at hc1
      have hc := HU.out.cellAt hc1
      clear hv
      have SY := Lib.hid (show (stR s (hgt s.table (firstM s.table + (k : Nat))) g == x) = sayR s g x k from rfl)
      have HSk := Lib.hid (HS.out k)
      generalize stR s (hgt s.table (firstM s.table + (k : Nat))) g = sv at *
      generalize hgt s.table (firstM s.table + (k : Nat)) = hv at *
      have k1 : (k : Int) < dn := by omega
      have hsz := HU.out.size
      go_upto_region 6 with fail
      refine region_tail (fun W' => W'.cell? ⟨w.heap.size, 0, none⟩ = some (.slice pT s.table.length cT) ∧ W'.cell? ⟨w.heap.size, 1, none⟩ = some (.int .i64 s.lo) ∧ W'.cell? ⟨w.heap.size, 2, none⟩ = some (.int .i64 s.hi) ∧ W'.cell? ⟨w.heap.size, 3, none⟩ = some (.slice pF s.floors.length cF) ∧ W'.cell? ⟨w.heap.size, 4, none⟩ = some (.slice pS s.sills.length cS) ∧ W'.cell? ⟨bh, oh + k, none⟩ = some (.int .i64 hv)) 12 mixed (by kernel_rfl) ⟨c0, c1, c2, c3, c4, hc⟩ (fun hHeld => ?_)
      refine wpAnyG_take 0 18 (v := ?_) rfl rfl (by kernel_rfl) (fun _ _ _ h => h) (Or.inl ⟨by rfl, ?_⟩) (by assumption) ?_
      rotate_left
      · (intro w' hSw; (try dsimp only at hSw); go_split_ands; go_simp; try with_reducible rfl)
      try simp only [List.setIfInBounds_toArray, List.set_cons_zero, List.set_cons_succ]
      refine wpAnyG_take 1 19 (v := ?_) rfl rfl (by kernel_rfl) (fun _ _ _ h => h) (Or.inl ⟨by rfl, ?_⟩) (by assumption) ?_
      rotate_left
      · (intro w' hSw; (try dsimp only at hSw); go_split_ands; go_simp; try with_reducible rfl)
      try simp only [List.setIfInBounds_toArray, List.set_cons_zero, List.set_cons_succ]
      refine wpAnyG_take 2 20 (v := ?_) rfl rfl (by kernel_rfl) (fun _ _ _ h => h) (Or.inl ⟨by rfl, ?_⟩) (by assumption) ?_
      rotate_left
      · (intro w' hSw; (try dsimp only at hSw); go_split_ands; go_simp; try with_reducible rfl)
      try simp only [List.setIfInBounds_toArray, List.set_cons_zero, List.set_cons_succ]
      refine wpAnyG_take 3 21 (v := ?_) rfl rfl (by kernel_rfl) (fun _ _ _ h => h) (Or.inl ⟨by rfl, ?_⟩) (by assumption) ?_
      rotate_left
      · (intro w' hSw; (try dsimp only at hSw); go_split_ands; go_simp; try with_reducible rfl)
      try simp only [List.setIfInBounds_toArray, List.set_cons_zero, List.set_cons_succ]
      refine wpAnyG_take 4 22 (v := ?_) rfl rfl (by kernel_rfl) (fun _ _ _ h => h) (Or.inl ⟨by rfl, ?_⟩) (by assumption) ?_
      rotate_left
      · (intro w' hSw; (try dsimp only at hSw); go_split_ands; go_simp; try with_reducible rfl)
      try simp only [List.setIfInBounds_toArray, List.set_cons_zero, List.set_cons_succ]
      refine wpAnyG_take 5 23 (v := ?_) rfl rfl (by kernel_rfl) (fun _ _ _ h => h) (Or.inl ⟨by rfl, ?_⟩) (by assumption) ?_
      rotate_left
      · (intro w' hSw; (try dsimp only at hSw); go_split_ands; go_simp; try with_reducible rfl)
      try simp only [List.setIfInBounds_toArray, List.set_cons_zero, List.set_cons_succ]
      refine wpAnyG_take 6 24 (v := ?_) rfl rfl (by kernel_rfl) (fun _ _ _ h => h) (Or.inl ⟨by rfl, ?_⟩) (by assumption) ?_
      rotate_left
      · (intro w' hSw; (try dsimp only at hSw); go_split_ands; go_simp; try with_reducible rfl)
      try simp only [List.setIfInBounds_toArray, List.set_cons_zero, List.set_cons_succ]
      refine wpAnyG_take 8 26 (v := ?_) rfl rfl (by kernel_rfl) (fun _ _ _ h => h) (Or.inl ⟨by rfl, ?_⟩) (by assumption) ?_
      rotate_left
      · (intro w' hSw; (try dsimp only at hSw); go_split_ands; go_simp; try with_reducible rfl)
      try simp only [List.setIfInBounds_toArray, List.set_cons_zero, List.set_cons_succ]
      refine wpAnyG_do 7 rfl (by kernel_rfl) (fun K hK => ?_)
      rw [if_pos (by rfl)]
      go_simp
      refine (HSk.out _).mono ?_
      rintro e w2 ⟨rfl, u2⟩
      have v2 : Up wr w2 := Up.trans (by (repeat (first | exact Below.refl _ _ | (with_reducible refine Below.drewN' ?_ _) | (with_reducible refine Below.drew ?_) | (with_reducible refine Below.setCell ?_ (by first | exact Nat.le_refl _ | omega | (with_reducible (repeat (first | refine sz_alloc ?_ | refine sz_setCell ?_ | refine sz_drew ?_ | refine sz_drewN ?_)); first | exact Nat.le_refl _ | omega) | (simp only [World.size_alloc, World.size_setCell, World.size_drew, size_drewN']; omega)) _) | (with_reducible refine Below.alloc ?_ (by first | exact Nat.le_refl _ | omega | (with_reducible (repeat (first | refine sz_alloc ?_ | refine sz_setCell ?_ | refine sz_drew ?_ | refine sz_drewN ?_)); first | exact Nat.le_refl _ | omega) | (simp only [World.size_alloc, World.size_setCell, World.size_drew, size_drewN']; omega)) _) | assumption))) u2
      refine hK.out _ _ ⟨v2.cellAt c0, v2.cellAt c1, v2.cellAt c2, v2.cellAt c3, v2.cellAt c4, v2.cellAt hc⟩ (fun hHeld => ?_)
      clear hK K
      refine wpAnyG_take 9 27 (v := .bool (sv == x)) rfl rfl (by kernel_rfl) (fun _ _ _ h => h) (Or.inl ⟨by rfl, ?_⟩) (by assumption) ?_
      · intro w' _
        go_simp
      try simp only [List.setIfInBounds_toArray, List.set_cons_zero, List.set_cons_succ]
      refine wpAnyG_do 10 rfl (by kernel_rfl) (fun K hK => ?_)
      rw [if_pos (by rfl)]
      go_simp
      have U2 := Lib.hid (Up.trans HU.out v2)
      have hsz2 := v2.size
      have v3 : Up wr (w2.alloc (.cells #[.bool (sv == x)] 4)) := Up.trans v2 (by (repeat (first | exact Below.refl _ _ | (with_reducible refine Below.drewN' ?_ _) | (with_reducible refine Below.drew ?_) | (with_reducible refine Below.setCell ?_ (by first | exact Nat.le_refl _ | omega | (with_reducible (repeat (first | refine sz_alloc ?_ | refine sz_setCell ?_ | refine sz_drew ?_ | refine sz_drewN ?_)); first | exact Nat.le_refl _ | omega) | (simp only [World.size_alloc, World.size_setCell, World.size_drew, size_drewN']; omega)) _) | (with_reducible refine Below.alloc ?_ (by first | exact Nat.le_refl _ | omega | (with_reducible (repeat (first | refine sz_alloc ?_ | refine sz_setCell ?_ | refine sz_drew ?_ | refine sz_drewN ?_)); first | exact Nat.le_refl _ | omega) | (simp only [World.size_alloc, World.size_setCell, World.size_drew, size_drewN']; omega)) _) | assumption)))
      have O3 := Lib.hid ((ownsRow_up HO.out v2).alloc (.cells #[.bool (sv == x)] 4))
      refine hK.out _ _ ⟨v3.cellAt c0, v3.cellAt c1, v3.cellAt c2, v3.cellAt c3, v3.cellAt c4, v3.cellAt hc⟩ (fun hHeld => ?_)
      clear hK K
      refine wpAnyG_do 11 rfl (by kernel_rfl) (fun K hK => ?_)
      rw [if_pos (by rfl)]
      refine wp_append_own _ _ _ 44 rfl w1.heap.size 4 i0 (.bool false) 1 1 Tryz.underlying44 hi hz0 hz1 hz2 rfl (by decide) _ k _ rfl O3.out ⟨w2.heap.size, 0, none⟩ 1 1 [.bool (sv == x)] (by go_simp) rfl (newsAt w2 rfl [.bool (sv == x)] _) (by simp [Value.oneCell']) (by simp [maxLen]; omega) (by omega) (sz_alloc (Nat.le_trans hsz hsz2)) ?_
      intro v' w8 hown8 hgr8 hnn
      clear hnn
      have v31 : Up w1 (w2.alloc (.cells #[.bool (sv == x)] 4)) := Up.trans HU.out v3
      have u8 : Up w1 w8 := v31.grown hgr8 v31.size (fun j e => (O3.out.lt j e).1)
      have U8 := Lib.hid u8
      have O8 := Lib.hid hown8
      refine hK.out _ _ (by obtain ⟨a0, a1, a2, a3, a4⟩ := five (BS.out.up (Up.trans U1.out u8)); exact ⟨a0, a1, a2, a3, a4, u8.cellAt hc1⟩) (fun hHeld => ?_)
      clear hK K hown8 hgr8 v2 v3 v31 hc1 u8 O3 HO c0 c1 c2 c3 c4 hc HSk hHeld
      try simp only [List.setIfInBounds_toArray, List.set_cons_zero, List.set_cons_succ]
      refine wpAnyG_tail (by kernel_rfl) ?_
      change wpList _ _ _ [_] _ _
      have sy : IntKind.i64.wrap ((k : Int) + 1) = k + 1 := IntWalk.i64_in _ (by omega)
      go_wp2_with fail
      go_roundw
      case rel =>
        try ((repeat apply Exists.intro); refine ⟨?_, rfl⟩)
        refine ⟨k + 1, by omega, by go_num, ?_, U8.out⟩
        have e : (bools ((List.range (k + 1)).map (sayR s g x))).flatten = (bools ((List.range k).map (sayR s g x))).flatten ++ [.bool (sv == x)] := by
          rw [List.range_succ, List.map_append]
          unfold bools
          rw [List.map_append, List.flatten_append, SY.out]
          rfl
        rw [e]
        exact O8.out
      case measure => simp [intOf]; omega
    · obtain rfl : dn = k := by omega
      obtain ⟨q, d, rfl, a1, a2, hR, hge⟩ := Row.of_own (rows := bools (saysR s g x)) (flatOk_bools _) (show wr.ownsRow w1.heap.size 4 1 _ _ (bools (saysR s g x)).flatten by unfold saysR; rw [HDD.out]; exact HO.out) (by simp [bools, saysR, HDD.out])
      go_wp2_with fail
      go_ret
      rw [HDD.out]
      exact ⟨q, d, rfl, a1, a2, hR, Up.trans U0.out (Up.trans U1.out HU.out)⟩
end
end Go.Proofs.YtknaajofcbenaaaGreat
/- The reference's Run. -/
namespace Go.Proofs.YtknaajofcbenaaaGreat
open Go.RowKit Go.Shelf

/-- the truth at j -/
def tr (l : List Bool) (j : Nat) : Bool := l[j]?.getD false
theorem tr_get {l : List Bool} {j : Nat} (h : j < l.length) : l[j] = tr l j := by simp [tr, h]
/-- lo .. hi is the whole run of truths that k lies in -/
def RunAt (l : List Bool) (k lo hi : Nat) : Prop :=
  lo ≤ k ∧ k ≤ hi ∧ hi < l.length ∧ (∀ j, lo ≤ j → j ≤ hi → tr l j = true) ∧ (lo = 0 ∨ tr l (lo - 1) = false) ∧ (hi + 1 = l.length ∨ tr l (hi + 1) = false)
/-- what Run answers at the minute k behind the first -/
def RunEnd (F : Int) (l : List Bool) (k : Nat) (e : Ending) : Prop :=
  tr l k = false ∧ e = .returned (.tuple #[.agg #[.int .i64 0, .int .i64 0], .bool false]) ∨
  ∃ lo hi, RunAt l k lo hi ∧ e = .returned (.tuple #[.agg #[.int .i64 (F + (lo : Nat)), .int .i64 (F + (hi : Nat))], .bool true])
section
variable {pT pF pS : Option Addr} {cT cF cS : Nat}
set_option maxRecDepth 100000 in
set_option maxHeartbeats 2000000 in
theorem refRun_c (s : Sd) (l : List Bool) (n : Nat) (q : Option Addr) (d k : Nat) (w : World) (hn : l.length = n) (ok : Ok s) (hl : Lists w s pT pF pS cT cF cS) (hr : Row w q 1 (bools l)) (hk : k < n) (hm : n ≤ 2000) :
    Calls Tryz.prog 15 #[sdVal s pT pF pS cT cF cS, .slice q n d, .int .i64 (firstM s.table + (k : Nat))] w fun e w' => RunEnd (firstM s.table) l k e ∧ Up w w' := by
  obtain ⟨f0, f1, f2⟩ := firstM_lt ok.table
  have HF := Lib.hid (fun W (u : Up w W) => refFirst_c s W (hl.up u) ok.table.2.2.1)
  have HR := Lib.hid hr
  have HN := Lib.hid hn
  have hkl : k < l.length := by omega
  obtain ⟨b, off, rfl, hc0⟩ := hr.bool k hkl
  rw [tr_get hkl] at hc0
  have HC := Lib.hid hc0
  have HKL := Lib.hid hkl
  have F9 : firstM s.table ≤ 1440 := by omega
  clear hl ok hr hn hc0 hkl
  generalize firstM s.table = F at *
  unfold sdVal at *
  go_enter Tryz.func15, Tryz.ntmps15
  go_wp2_with fail
  refine Calls.world ?_
  intro w0 hw0
  have u0 : Up w w0 := by rw [hw0]; (repeat (first | exact Below.refl _ _ | (with_reducible refine Below.drewN' ?_ _) | (with_reducible refine Below.drew ?_) | (with_reducible refine Below.setCell ?_ (by first | exact Nat.le_refl _ | omega | (with_reducible (repeat (first | refine sz_alloc ?_ | refine sz_setCell ?_ | refine sz_drew ?_ | refine sz_drewN ?_)); first | exact Nat.le_refl _ | omega) | (simp only [World.size_alloc, World.size_setCell, World.size_drew, size_drewN']; omega)) _) | (with_reducible refine Below.alloc ?_ (by first | exact Nat.le_refl _ | omega | (with_reducible (repeat (first | refine sz_alloc ?_ | refine sz_setCell ?_ | refine sz_drew ?_ | refine sz_drewN ?_)); first | exact Nat.le_refl _ | omega) | (simp only [World.size_alloc, World.size_setCell, World.size_drew, size_drewN']; omega)) _) | assumption))
  have hS : Blk w0 w.heap.size (sdCells s pT pF pS cT cF cS) 35 := by rw [hw0]; exact (Blk.new w (sdCells s pT pF pS cT cF cS) _).alloc _
  have hR : Blk w0 (w.heap.size + 1) [.int .i64 0, .int .i64 0] 24 := by rw [hw0]; exact Blk.new' _ [.int .i64 0, .int .i64 0] _ (by simp)
  clear hw0
  refine (HF.out w0 u0).mono ?_
  rintro e w1 ⟨rfl, u1⟩
  have U1 := Lib.hid (Up.trans u0 u1)
  have S1 := Lib.hid (hS.up u1)
  have R1 := Lib.hid (hR.up u1)
  clear u0 u1 hS hR
  have s1 : IntKind.i64.wrap (F + (k : Int) - F) = k := by rw [IntWalk.i64_in _ (by omega)]; omega
  have hc := U1.out.cellAt HC.out
  have k1 : (k : Int) < n := by omega
  cases hv : tr l k with
  | false =>
    rw [hv] at hc
    have r0 := R1.out.cell 0
    have r1 := R1.out.cell 1
    have rl := R1.out.lt
    have rf := R1.out.free
    simp only [List.getElem?_cons_zero, List.getElem?_cons_succ] at r0 r1
    have HV := Lib.hid hv
    clear hv
    go_wp2_with fail
    have h := (R1.out.set 0 (.int .i64 0)).set 1 (.int .i64 0)
    have p0 := h.cell 0
    have p1 := h.cell 1
    simp only [List.set_cons_zero, List.set_cons_succ, List.getElem?_cons_zero, List.getElem?_cons_succ] at p0 p1
    refine bodyPost_ret (v := .tuple #[.agg #[.int .i64 0, .int .i64 0], .bool false]) (by simp [results, Tryz.f15, go_sem, p0, p1]) rfl ⟨.inl ⟨HV.out, rfl⟩, ?_⟩
    exact (U1.out.setCell (by simp) _).setCell (by simp) _
  | true =>
    rw [hv] at hc
    have HV := Lib.hid hv
    clear hv
    go_upto_block 0 with fail
    clear s1 hc f1
    go_cut [9] (fun a wx => ∃ lo : Nat, a = .int .i64 lo ∧ lo ≤ k ∧ (∀ j, lo ≤ j → j ≤ k → tr l j = true) ∧ (lo = 0 ∨ tr l (lo - 1) = false) ∧ Up w1 wx)
    case first =>
      go_wp2_with fail
      go_loopw [9] (fun i wr => ∃ lo : Nat, i = .int .i64 lo ∧ lo ≤ k ∧ (∀ j, lo ≤ j → j ≤ k → tr l j = true) ∧ Up w1 wr) (fun i _ => (intOf i).toNat)
      case atStart => exact ⟨k, rfl, Nat.le_refl _, fun j h1 h2 => by rw [show j = k by omega]; exact HV.out, Below.refl _ _⟩
      case round =>
        obtain ⟨lo, rfl, hlo, ht, hu⟩ := hrel
        have HU := Lib.hid hu
        have HT := Lib.hid ht
        clear hu ht
        by_cases h0 : lo = 0
        · have g0 : ¬ (0 : Int) < (lo : Int) := by omega
          have g1 : decide ((0 : Int) < (lo : Int)) = false := decide_eq_false g0
          have H0 := Lib.hid h0
          clear h0
          go_wp2_with fail
          go_meet
          exact ⟨lo, rfl, hlo, HT.out, .inl H0.out, HU.out⟩
        · have g0 : (0 : Int) < (lo : Int) := by omega
          have g3 : 0 < lo := by omega
          have g1 : decide ((0 : Int) < (lo : Int)) = true := decide_eq_true g0
          have s2 : IntKind.i64.wrap ((lo : Int) - 1) = ((lo - 1 : Nat) : Int) := by rw [IntWalk.i64_in _ (by omega)]; omega
          have g2 : ((lo - 1 : Nat) : Int) < n := by omega
          have hlt : lo - 1 < l.length := by have := HKL.out; omega
          obtain ⟨b', off', he, hc⟩ := (HR.out.up (Up.trans U1.out HU.out)).bool (lo - 1) hlt
          obtain ⟨rfl, rfl⟩ : b = b' ∧ off = off' := by simpa using he
          rw [tr_get hlt] at hc
          have H0 := Lib.hid h0
          clear he hlt h0
          cases hv : tr l (lo - 1) with
          | false =>
            rw [hv] at hc
            have HV2 := Lib.hid hv
            clear hv
            go_wp2_with fail
            go_meet
            exact ⟨lo, rfl, hlo, HT.out, .inr HV2.out, HU.out⟩
          | true =>
            rw [hv] at hc
            have HV2 := Lib.hid hv
            clear hv
            go_wp2_with fail
            go_roundw
            case rel =>
              try ((repeat apply Exists.intro); refine ⟨?_, rfl⟩)
              exact ⟨lo - 1, rfl, by omega, fun j h1 h2 => if h : j = lo - 1 then by rw [h]; exact HV2.out else HT.out j (by omega) h2, HU.out⟩
            case measure => simp [intOf]; omega
    case rest =>
      obtain ⟨lo, rfl, hlo, ht, hlo2, hu⟩ := hcut
      generalize wc = w2 at *
      have HLO := Lib.hid hlo2
      have HT := Lib.hid ht
      have U2 := Lib.hid (Up.trans U1.out hu)
      have S2 := Lib.hid (S1.out.up hu)
      have R2 := Lib.hid (R1.out.up hu)
      clear hu ht hlo2 U1 S1 R1
      have sm : IntKind.i64.wrap ((n : Int) - 1) = (n : Int) - 1 := IntWalk.i64_in _ (by omega)
      go_upto_block 2 with fail
      go_cut [10] (fun a wx => ∃ hi : Nat, a = .int .i64 hi ∧ k ≤ hi ∧ hi < n ∧ (∀ j, lo ≤ j → j ≤ hi → tr l j = true) ∧ (hi + 1 = n ∨ tr l (hi + 1) = false) ∧ Up w2 wx)
      case first =>
        go_wp2_with fail
        go_loopw [10] (fun i wr => ∃ hi : Nat, i = .int .i64 hi ∧ k ≤ hi ∧ hi < n ∧ (∀ j, lo ≤ j → j ≤ hi → tr l j = true) ∧ Up w2 wr) (fun i _ => n - (intOf i).toNat)
        case atStart => exact ⟨k, rfl, Nat.le_refl _, hk, HT.out, Below.refl _ _⟩
        case round =>
          obtain ⟨hi, rfl, hhi, hin, ht, hu⟩ := hrel
          have HU := Lib.hid hu
          have HTr := Lib.hid ht
          clear hu ht
          by_cases h0 : hi + 1 = n
          · have g0 : ¬ (hi : Int) < (n : Int) - 1 := by omega
            have g1 : decide ((hi : Int) < (n : Int) - 1) = false := decide_eq_false g0
            have H0 := Lib.hid h0
            clear h0
            go_wp2_with fail
            go_meet
            exact ⟨hi, rfl, hhi, hin, HTr.out, .inl H0.out, HU.out⟩
          · have g0 : (hi : Int) < (n : Int) - 1 := by omega
            have g1 : decide ((hi : Int) < (n : Int) - 1) = true := decide_eq_true g0
            have s2 : IntKind.i64.wrap ((hi : Int) + 1) = ((hi + 1 : Nat) : Int) := by rw [IntWalk.i64_in _ (by omega)]; omega
            have g2 : ((hi + 1 : Nat) : Int) < n := by omega
            have hlt : hi + 1 < l.length := by have := HN.out; omega
            obtain ⟨b', off', he, hc⟩ := (HR.out.up (Up.trans U2.out HU.out)).bool (hi + 1) hlt
            obtain ⟨rfl, rfl⟩ : b = b' ∧ off = off' := by simpa using he
            rw [tr_get hlt] at hc
            have H0 := Lib.hid h0
            clear he hlt h0
            cases hv : tr l (hi + 1) with
            | false =>
              rw [hv] at hc
              have HV2 := Lib.hid hv
              clear hv
              go_wp2_with fail
              go_meet
              exact ⟨hi, rfl, hhi, hin, HTr.out, .inr HV2.out, HU.out⟩
            | true =>
              rw [hv] at hc
              have HV2 := Lib.hid hv
              clear hv
              go_wp2_with fail
              go_roundw
              case rel =>
                try ((repeat apply Exists.intro); refine ⟨?_, rfl⟩)
                exact ⟨hi + 1, rfl, by omega, by omega, fun j h1 h2 => if h : j = hi + 1 then by rw [h]; exact HV2.out else HTr.out j h1 (by omega), HU.out⟩
              case measure => simp [intOf]; omega
      case rest =>
        obtain ⟨hi, rfl, hhi, hin, ht, hhi2, hu⟩ := hcut
        generalize wc = w3 at *
        have RUN : Hid (RunAt l k lo hi) := Lib.hid ⟨hlo, hhi, by have := HN.out; omega, ht, HLO.out, by rw [HN.out]; exact hhi2⟩
        have U3 := Lib.hid (Up.trans U2.out hu)
        have S3 := Lib.hid (S2.out.up hu)
        have R3 := Lib.hid (R2.out.up hu)
        clear hu ht hhi2 U2 S2 R2 HLO HT sm
        obtain ⟨c0, c1, c2, c3, c4⟩ := five S3.out
        go_upto_region 9 with fail
        refine region_tail (fun W' => W'.cell? ⟨w.heap.size, 0, none⟩ = some (.slice pT s.table.length cT) ∧ W'.cell? ⟨w.heap.size, 1, none⟩ = some (.int .i64 s.lo) ∧ W'.cell? ⟨w.heap.size, 2, none⟩ = some (.int .i64 s.hi) ∧ W'.cell? ⟨w.heap.size, 3, none⟩ = some (.slice pF s.floors.length cF) ∧ W'.cell? ⟨w.heap.size, 4, none⟩ = some (.slice pS s.sills.length cS)) 9 mixed (by kernel_rfl) ⟨c0, c1, c2, c3, c4⟩ (fun hHeld => ?_)
        refine wpAnyG_take 0 48 (v := ?_) rfl rfl (by kernel_rfl) (fun _ _ _ h => h) (Or.inl ⟨by rfl, ?_⟩) (by assumption) ?_
        rotate_left
        · (intro w' hSw; (try dsimp only at hSw); go_split_ands; go_simp; try with_reducible rfl)
        try simp only [List.setIfInBounds_toArray, List.set_cons_zero, List.set_cons_succ]
        refine wpAnyG_take 2 50 (v := ?_) rfl rfl (by kernel_rfl) (fun _ _ _ h => h) (Or.inl ⟨by rfl, ?_⟩) (by assumption) ?_
        rotate_left
        · (intro w' hSw; (try dsimp only at hSw); go_split_ands; go_simp; try with_reducible rfl)
        try simp only [List.setIfInBounds_toArray, List.set_cons_zero, List.set_cons_succ]
        refine wpAnyG_take 4 52 (v := ?_) rfl rfl (by kernel_rfl) (fun _ _ _ h => h) (Or.inl ⟨by rfl, ?_⟩) (by assumption) ?_
        rotate_left
        · (intro w' hSw; (try dsimp only at hSw); go_split_ands; go_simp; try with_reducible rfl)
        try simp only [List.setIfInBounds_toArray, List.set_cons_zero, List.set_cons_succ]
        refine wpAnyG_take 6 54 (v := ?_) rfl rfl (by kernel_rfl) (fun _ _ _ h => h) (Or.inl ⟨by rfl, ?_⟩) (by assumption) ?_
        rotate_left
        · (intro w' hSw; (try dsimp only at hSw); go_split_ands; go_simp; try with_reducible rfl)
        try simp only [List.setIfInBounds_toArray, List.set_cons_zero, List.set_cons_succ]
        refine wpAnyG_do 1 rfl (by kernel_rfl) (fun K hK => ?_)
        rw [if_pos (by rfl)]
        go_simp
        refine (HF.out _ (Up.trans U3.out (by (repeat (first | exact Below.refl _ _ | (with_reducible refine Below.drewN' ?_ _) | (with_reducible refine Below.drew ?_) | (with_reducible refine Below.setCell ?_ (by first | exact Nat.le_refl _ | omega | (with_reducible (repeat (first | refine sz_alloc ?_ | refine sz_setCell ?_ | refine sz_drew ?_ | refine sz_drewN ?_)); first | exact Nat.le_refl _ | omega) | (simp only [World.size_alloc, World.size_setCell, World.size_drew, size_drewN']; omega)) _) | (with_reducible refine Below.alloc ?_ (by first | exact Nat.le_refl _ | omega | (with_reducible (repeat (first | refine sz_alloc ?_ | refine sz_setCell ?_ | refine sz_drew ?_ | refine sz_drewN ?_)); first | exact Nat.le_refl _ | omega) | (simp only [World.size_alloc, World.size_setCell, World.size_drew, size_drewN']; omega)) _) | assumption))))).mono ?_
        rintro e wa ⟨rfl, v6⟩
        have v6' : Up w3 wa := Up.trans (by (repeat (first | exact Below.refl _ _ | (with_reducible refine Below.drewN' ?_ _) | (with_reducible refine Below.drew ?_) | (with_reducible refine Below.setCell ?_ (by first | exact Nat.le_refl _ | omega | (with_reducible (repeat (first | refine sz_alloc ?_ | refine sz_setCell ?_ | refine sz_drew ?_ | refine sz_drewN ?_)); first | exact Nat.le_refl _ | omega) | (simp only [World.size_alloc, World.size_setCell, World.size_drew, size_drewN']; omega)) _) | (with_reducible refine Below.alloc ?_ (by first | exact Nat.le_refl _ | omega | (with_reducible (repeat (first | refine sz_alloc ?_ | refine sz_setCell ?_ | refine sz_drew ?_ | refine sz_drewN ?_)); first | exact Nat.le_refl _ | omega) | (simp only [World.size_alloc, World.size_setCell, World.size_drew, size_drewN']; omega)) _) | assumption))) v6
        refine hK.out _ _ ⟨v6'.cellAt c0, v6'.cellAt c1, v6'.cellAt c2, v6'.cellAt c3, v6'.cellAt c4⟩ (fun hHeld => ?_)
        clear hK K
        have s1 : IntKind.i64.wrap (F + (lo : Int)) = F + lo := IntWalk.i64_in _ (by omega)
        refine wpAnyG_take 3 51 (v := .int .i64 (F + lo)) rfl rfl (by kernel_rfl) (fun _ _ _ h => h) (Or.inl ⟨by rfl, ?_⟩) (by assumption) ?_
        · intro w' _
          go_simp
        try simp only [List.setIfInBounds_toArray, List.set_cons_zero, List.set_cons_succ]
        refine wpAnyG_do 5 rfl (by kernel_rfl) (fun K hK => ?_)
        rw [if_pos (by rfl)]
        go_simp
        refine (HF.out _ (Up.trans U3.out v6')).mono ?_
        rintro e wb ⟨rfl, v7⟩
        have v7' : Up w3 wb := Up.trans v6' v7
        refine hK.out _ _ ⟨v7'.cellAt c0, v7'.cellAt c1, v7'.cellAt c2, v7'.cellAt c3, v7'.cellAt c4⟩ (fun hHeld => ?_)
        clear hK K
        have s2 : IntKind.i64.wrap (F + (hi : Int)) = F + hi := IntWalk.i64_in _ (by omega)
        refine wpAnyG_take 7 55 (v := .int .i64 (F + hi)) rfl rfl (by kernel_rfl) (fun _ _ _ h => h) (Or.inl ⟨by rfl, ?_⟩) (by assumption) ?_
        · intro w' _
          go_simp
        try simp only [List.setIfInBounds_toArray, List.set_cons_zero, List.set_cons_succ]
        refine wpAnyG_take 8 56 (v := ?_) rfl rfl (by kernel_rfl) (fun _ _ _ h => h) (Or.inl ⟨by rfl, ?_⟩) (by assumption) ?_
        rotate_left
        · (intro w' hSw; (try dsimp only at hSw); go_split_ands; go_simp; try with_reducible rfl)
        try simp only [List.setIfInBounds_toArray, List.set_cons_zero, List.set_cons_succ]
        refine wpAnyG_tail (by kernel_rfl) ?_
        have U4 := Lib.hid (Up.trans U3.out v7')
        have R4 := Lib.hid (R3.out.up v7')
        clear c0 c1 c2 c3 c4 v6 v7 v6' v7' s1 s2 hHeld U3 R3 S3
        have r0 := R4.out.cell 0
        have r1 := R4.out.cell 1
        have rl := R4.out.lt
        have rf := R4.out.free
        simp only [List.getElem?_cons_zero, List.getElem?_cons_succ] at r0 r1
        change wpList _ _ _ [_, _] _ _
        go_wp2_with fail
        have h := (R4.out.set 0 (.int .i64 (F + lo))).set 1 (.int .i64 (F + hi))
        have p0 := h.cell 0
        have p1 := h.cell 1
        simp only [List.set_cons_zero, List.set_cons_succ, List.getElem?_cons_zero, List.getElem?_cons_succ] at p0 p1
        refine bodyPost_ret (v := .tuple #[.agg #[.int .i64 (F + lo), .int .i64 (F + hi)], .bool true]) (by simp [results, Tryz.f15, go_sem, p0, p1]) rfl ⟨.inr ⟨lo, hi, RUN.out, rfl⟩, ?_⟩
        exact (U4.out.setCell (by simp) _).setCell (by simp) _
end
end Go.Proofs.YtknaajofcbenaaaGreat
/- Plain facts: what the reference has of the minutes in which places are dry, and which places flood first. -/
namespace Go.Proofs.YtknaajofcbenaaaGreat
open Go.RowKit Go.Shelf

theorem stR_of {s : Sd} (ok : Ok s) (m : Int) (p : Nat) (h0 : 0 ≤ hgt s.table m) (h1 : hgt s.table m ≤ 999) : stR s (hgt s.table m) (gateR s p) = st s m p := by
  have b0 := ok.lo0
  have b1 := ok.hi1
  have b2 := ok.lohi
  have gl := gts_le s p
  unfold stR gateR st
  by_cases h : gateOf s p < 1050
  · rw [if_pos h]
  · rw [if_neg h, if_neg (by omega), if_neg (by omega), if_neg (by omega), if_neg (by omega)]
theorem gateR_in (s : Sd) (p : Nat) : 0 ≤ gateR s p ∧ gateR s p ≤ 5000 := by
  have gl := gts_le s p
  unfold gateR
  split <;> omega
theorem gatesR_of (s : Sd) {p : Nat} (h : p < (gatesR s).length) : (gatesR s)[p] = gateR s p := by simp [gatesR]

/-- in which minutes all of some places are dry, as the reference has it -/
def togR (s : Sd) (ps : List Int) : List Bool := (List.range (dayN s)).map fun i => dryB s ps (firstM s.table + (i : Nat))
theorem togR_len (s : Sd) (ps : List Int) : (togR s ps).length = dayN s := by simp [togR]
theorem togR_tr (s : Sd) (ps : List Int) (j : Nat) (h : j < dayN s) : dryB s ps (firstM s.table + (j : Int)) = tr (togR s ps) j := by
  unfold tr togR
  simp [h]
theorem dryB_snoc (s : Sd) (l : List Int) (x m : Int) : dryB s (l ++ [x]) m = (dryB s l m && (st s m x.toNat == 0)) := by
  unfold dryB fitB
  rw [List.all_append]
  simp
theorem take_snoc {l : List Int} {k : Nat} (h : k < l.length) : l.take (k + 1) = l.take k ++ [l[k]] := by
  rw [List.take_add_one, List.getElem?_eq_getElem h]; rfl

/-- the first k places, those that are dry at m and not at t -/
def floL (s : Sd) (m t : Int) (k : Nat) : List Int := ((List.range k).map fun (p : Nat) => (p : Int)).filter fun p => st s m p.toNat == 0 && st s t p.toNat != 0
theorem floL_yes {s : Sd} {m t : Int} {k : Nat} (h : (st s m k == 0 && st s t k != 0) = true) : floL s m t (k + 1) = floL s m t k ++ [(k : Int)] := by
  unfold floL
  rw [List.range_succ, List.map_append, List.filter_append]
  simp [List.filter_cons]
  simp at h
  simp [h]
theorem floL_no {s : Sd} {m t : Int} {k : Nat} (h : (st s m k == 0 && st s t k != 0) = false) : floL s m t (k + 1) = floL s m t k := by
  unfold floL
  rw [List.range_succ, List.map_append, List.filter_append]
  have e : List.filter (fun p : Int => st s m p.toNat == 0 && st s t p.toNat != 0) [(k : Int)] = [] := by
    rw [List.filter_cons, Int.toNat_natCast, h]
    rfl
  rw [List.map_cons, List.map_nil, e, List.append_nil]
theorem floL_len (s : Sd) (m t : Int) (k : Nat) : (floL s m t k).length ≤ k := by
  unfold floL
  refine Nat.le_trans (List.length_filter_le _ _) (by simp)
theorem floL_all (s : Sd) (m t : Int) : floL s m t s.floors.length = (dryL s m).filter fun p => st s t p.toNat != 0 := by
  unfold floL dryL allP
  rw [List.filter_filter]
  refine List.filter_congr fun p _ => ?_
  rw [Bool.and_comm]
theorem floL_any (s : Sd) (m t : Int) : wetAny s (dryL s m) t = !(floL s m t s.floors.length).isEmpty := by
  rw [floL_all]
  unfold wetAny
  rw [Bool.eq_iff_iff]
  simp [List.any_eq_true]
end Go.Proofs.YtknaajofcbenaaaGreat
/- Plain facts: the truths that are left by a set of looks. -/
namespace Go.Proofs.YtknaajofcbenaaaGreat
section
open Go.RowKit
/-- a truth agrees with a look -/
def agB (s : Sd) (x : Lk) (t : Int) : Bool := decide (gateR s x.2.1.toNat < hgt s.table x.1 + t) == x.2.2
/-- with the first looks of a set -/
def allB (s : Sd) (l : List Lk) (set : Nat) (t : Int) (i : Nat) : Bool := (List.range i).all (fun j => !(inS set j) || agB s (l[j]?.getD (0, 0, false)) t)
/-- the first truths that are left -/
def leftL (s : Sd) (l : List Lk) (set k : Nat) : List Int := ((List.range k).filter (fun j : Nat => allB s l set (s.lo + j) l.length)).map (fun j : Nat => s.lo + j)
def wndN (s : Sd) : Nat := (s.hi - s.lo + 1).toNat
section
variable {s : Sd} {l : List Lk}
theorem agB_iff (ok : Ok s) (x : Lk) (hm : firstM s.table ≤ x.1) {t : Int} (h1 : s.lo ≤ t) (h2 : t ≤ s.hi) : agB s x t = true ↔ (truV s x).1 ≤ t ∧ t ≤ (truV s x).2 := by
  obtain ⟨m, p, b⟩ := x
  have b0 := ok.lo0
  have b1 := ok.hi1
  obtain ⟨r0, r1⟩ := hgt_rng ok.table m hm
  have gl := gts_le s p.toNat
  unfold agB gateR truV com
  cases b with
  | true =>
    simp only [if_true, beq_true, decide_eq_true_eq]
    split <;> omega
  | false =>
    simp only [Bool.false_eq_true, if_false, beq_false, Bool.not_eq_true', decide_eq_false_iff_not]
    split <;> omega
theorem allB_succ (set : Nat) (t : Int) (i : Nat) : allB s l set t (i + 1) = (allB s l set t i && (!(inS set i) || agB s (l[i]?.getD (0, 0, false)) t)) := by
  unfold allB
  rw [List.range_succ, List.all_append]
  simp
theorem leftL_succ (set k : Nat) : leftL s l set (k + 1) = if allB s l set (s.lo + (k : Nat)) l.length = true then leftL s l set k ++ [s.lo + (k : Int)] else leftL s l set k := by
  unfold leftL
  rw [List.range_succ, List.filter_append, List.map_append]
  by_cases h : allB s l set (s.lo + (k : Nat)) l.length = true
  · rw [if_pos h, List.filter_cons_of_pos (p := fun j : Nat => allB s l set (s.lo + j) l.length) h]; rfl
  · rw [if_neg h, List.filter_cons_of_neg (p := fun j : Nat => allB s l set (s.lo + j) l.length) h]; simp
theorem leftL_le (set : Nat) : ∀ k, (leftL s l set k).length ≤ k
  | 0 => Nat.le_refl _
  | k + 1 => by
    rw [leftL_succ]
    have := leftL_le set k
    split
    · rw [List.length_append]; simp; omega
    · omega
theorem allB_iff (set : Nat) (t : Int) : allB s l set t l.length = true ↔ ∀ i (h : i < l.length), inS set i = true → agB s l[i] t = true := by
  unfold allB
  rw [List.all_eq_true]
  constructor
  · intro h i hi hs
    have := h i (List.mem_range.2 hi)
    rw [hs, List.getElem?_eq_getElem hi] at this
    simpa using this
  · intro h i hi
    have hi := List.mem_range.1 hi
    rw [List.getElem?_eq_getElem hi]
    cases hs : inS set i with
    | false => rfl
    | true => simpa using h i hi hs
/-- nothing is left just if the set has no truth -/
theorem left_none (ok : Ok s) (hx : ∀ x ∈ l, firstM s.table ≤ x.1) (set : Nat) : (leftL s l set (wndN s)).length = 0 ↔ emptyS s l set := by
  have key : ∀ t, s.lo ≤ t → t ≤ s.hi → (allB s l set t l.length = true ↔ ∀ i (h : i < l.length), inS set i = true → (truV s l[i]).1 ≤ t ∧ t ≤ (truV s l[i]).2) := by
    intro t h1 h2
    rw [allB_iff]
    constructor
    · intro h i hi hs
      exact (agB_iff ok _ (hx _ (List.getElem_mem hi)) h1 h2).1 (h i hi hs)
    · intro h i hi hs
      exact (agB_iff ok _ (hx _ (List.getElem_mem hi)) h1 h2).2 (h i hi hs)
  unfold leftL
  rw [List.length_map, List.length_eq_zero_iff, List.filter_eq_nil_iff]
  constructor
  · intro h t h1 h2
    obtain ⟨j, rfl⟩ : ∃ j : Nat, t = s.lo + j := ⟨(t - s.lo).toNat, by omega⟩
    have hn := h j (List.mem_range.2 (by unfold wndN; omega))
    rw [key _ h1 h2] at hn
    by_cases hc : ∃ i, ∃ h : i < l.length, inS set i = true ∧ ¬ ((truV s l[i]).1 ≤ s.lo + (j : Int) ∧ s.lo + (j : Int) ≤ (truV s l[i]).2)
    · exact hc
    · exact absurd (fun i hi hs => Decidable.not_not.1 (fun hk => hc ⟨i, hi, hs, hk⟩)) hn
  · intro h j hj
    have hj := List.mem_range.1 hj
    unfold wndN at hj
    rw [key _ (by omega) (by omega)]
    intro hk
    obtain ⟨i, hi, hs, hn⟩ := h (s.lo + (j : Int)) (by omega) (by omega)
    exact hn (hk i hi hs)
end
end
end Go.Proofs.YtknaajofcbenaaaGreat
/- Plain facts: the truths that all looks leave are a span, or none. -/
namespace Go.Proofs.YtknaajofcbenaaaGreat
section
open Go.RowKit
theorem all_in : ∀ n, n ≤ 10 → ∀ i, i < n → inS (2 ^ n - 1) i = true := by decide +kernel
section
variable {s : Sd} {l : List Lk}
/-- with all looks a truth is left just if it lies in the looks' span -/
theorem all_iff (ok : Ok s) (hx : ∀ x ∈ l, firstM s.table ≤ x.1) (h10 : l.length ≤ 10) {t : Int} (h1 : s.lo ≤ t) (h2 : t ≤ s.hi) : allB s l (2 ^ l.length - 1) t l.length = true ↔ (lkOf s (s.lo, s.hi) l).1 ≤ t ∧ t ≤ (lkOf s (s.lo, s.hi) l).2 := by
  obtain ⟨z1, z2, z3, z4, z5⟩ := lkOf_spec s l (s.lo, s.hi)
  dsimp only at z1 z2 z4 z5
  rw [allB_iff]
  constructor
  · intro h
    have key : ∀ x ∈ l, (truV s x).1 ≤ t ∧ t ≤ (truV s x).2 := fun x hm => by
      obtain ⟨i, hi, rfl⟩ := List.getElem_of_mem hm
      exact (agB_iff ok _ (hx _ hm) h1 h2).1 (h i hi (all_in _ h10 i hi))
    constructor
    · rcases z4 with e | ⟨x, hm, e⟩
      · omega
      · have := key x hm; omega
    · rcases z5 with e | ⟨x, hm, e⟩
      · omega
      · have := key x hm; omega
  · intro h i hi _
    refine (agB_iff ok _ (hx _ (List.getElem_mem hi)) h1 h2).2 ?_
    have := z3 _ (List.getElem_mem hi)
    omega
/-- the numbers from a to b -/
def fromTo (a b : Int) : List Int := (List.range (b + 1 - a).toNat).map (fun j : Nat => a + j)
theorem fromTo_len (a b : Int) : (fromTo a b).length = (b + 1 - a).toNat := by unfold fromTo; simp
theorem fromTo_get (a b : Int) (i : Nat) (h : i < (fromTo a b).length) : (fromTo a b)[i] = a + i := by simp [fromTo]
theorem fromTo_nil {a b : Int} (h : b < a) : fromTo a b = [] := by
  rw [← List.length_eq_zero_iff, fromTo_len]; omega
theorem fromTo_succ {a b : Int} (h : a ≤ b + 1) : fromTo a (b + 1) = fromTo a b ++ [b + 1] := by
  unfold fromTo
  rw [show (b + 1 + 1 - a).toNat = (b + 1 - a).toNat + 1 by omega, List.range_succ, List.map_append, List.map_singleton, show a + ((b + 1 - a).toNat : Int) = b + 1 by omega]
theorem left_run (ok : Ok s) (hx : ∀ x ∈ l, firstM s.table ≤ x.1) (h10 : l.length ≤ 10) : ∀ k, k ≤ wndN s → leftL s l (2 ^ l.length - 1) k = fromTo (lkOf s (s.lo, s.hi) l).1 (min (lkOf s (s.lo, s.hi) l).2 (s.lo + (k : Int) - 1))
  | 0, _ => by
    obtain ⟨z1, -, -, -, -⟩ := lkOf_spec s l (s.lo, s.hi)
    dsimp only at z1
    rw [fromTo_nil (by omega)]; rfl
  | k + 1, hk => by
    obtain ⟨z1, z2, -, -, -⟩ := lkOf_spec s l (s.lo, s.hi)
    dsimp only at z1 z2
    have ih := left_run ok hx h10 k (by omega)
    have hw : ((wndN s : Nat) : Int) = s.hi - s.lo + 1 := by have := ok.lohi; unfold wndN; omega
    rw [leftL_succ, ih]
    by_cases h : allB s l (2 ^ l.length - 1) (s.lo + (k : Nat)) l.length = true
    · rw [if_pos h]
      rw [all_iff ok hx h10 (by omega) (by omega)] at h
      rw [show min (lkOf s (s.lo, s.hi) l).2 (s.lo + ((k + 1 : Nat) : Int) - 1) = (s.lo + (k : Int) - 1) + 1 by omega, show min (lkOf s (s.lo, s.hi) l).2 (s.lo + (k : Int) - 1) = s.lo + (k : Int) - 1 by omega, fromTo_succ (by omega), show s.lo + (k : Int) - 1 + 1 = s.lo + (k : Int) by omega]
    · rw [if_neg h]
      rw [all_iff ok hx h10 (by omega) (by omega)] at h
      by_cases h2 : (lkOf s (s.lo, s.hi) l).2 < s.lo + (k : Int)
      · rw [show min (lkOf s (s.lo, s.hi) l).2 (s.lo + ((k + 1 : Nat) : Int) - 1) = min (lkOf s (s.lo, s.hi) l).2 (s.lo + (k : Int) - 1) by omega]
      · rw [fromTo_nil (by omega), fromTo_nil (by omega)]
/-- what all looks leave -/
theorem left_all (ok : Ok s) (hx : ∀ x ∈ l, firstM s.table ≤ x.1) (h10 : l.length ≤ 10) : leftL s l (2 ^ l.length - 1) (wndN s) = fromTo (lkOf s (s.lo, s.hi) l).1 (lkOf s (s.lo, s.hi) l).2 := by
  obtain ⟨-, z2, -, -, -⟩ := lkOf_spec s l (s.lo, s.hi)
  dsimp only at z2
  have hw : ((wndN s : Nat) : Int) = s.hi - s.lo + 1 := by have := ok.lohi; unfold wndN; omega
  rw [left_run ok hx h10 _ (Nat.le_refl _), show min (lkOf s (s.lo, s.hi) l).2 (s.lo + ((wndN s : Nat) : Int) - 1) = (lkOf s (s.lo, s.hi) l).2 by omega]
/-- how many these are, the first and the last one -/
theorem left_ends (ok : Ok s) (hx : ∀ x ∈ l, firstM s.table ≤ x.1) (h10 : l.length ≤ 10) {L : List Int} (hL : leftL s l (2 ^ l.length - 1) (wndN s) = L) {a b : Int} (hab : lkOf s (s.lo, s.hi) l = (a, b)) :
    (L.length = 0 ↔ siz (a, b) = 0) ∧ (∀ h : 0 < L.length, L[0] = a ∧ L[L.length - 1] = b) := by
  have e := left_all ok hx h10
  rw [hL, hab] at e
  dsimp only at e
  subst e
  have hlen := fromTo_len a b
  constructor
  · rw [siz_zero, hlen]
    dsimp only
    omega
  · intro h
    have hl : (fromTo a b).length = (b + 1 - a).toNat := hlen
    constructor
    · rw [fromTo_get]; omega
    · rw [fromTo_get]
      omega
end
end
end Go.Proofs.YtknaajofcbenaaaGreat
/- A list of looks is copied. -/
namespace Go.Proofs.YtknaajofcbenaaaGreat
open Go.RowKit Go.Shelf

theorem infoLk : (Tryz.prog.info? 62).map (fun i => (i.zero, i.size, i.bytes)) = some (some (.agg #[.int .i64 0, .int .i64 0, .bool false]), 3, 24) := by kernel_rfl
theorem flatOk_lks (l : List Lk) : flatOk 3 (lrows l) = true := by simp [flatOk, lrows]
set_option maxRecDepth 100000 in
set_option maxHeartbeats 1000000 in
theorem dupLook_o (l : List Lk) (p : Option Addr) (c : Nat) (w : World) (hr : Row w p 3 (lrows l)) (hb : l.length * 24 ≤ 140737488355328) :
    Calls Tryz.prog 25 #[.slice p l.length c] w fun e w' => ∃ p' c', e = .returned (.slice p' l.length c') ∧ l.length ≤ c' ∧ c' ≤ maxLen ∧ Row w' p' 3 (lrows l) ∧ (∀ b off, p' = some ⟨b, off, none⟩ → w.heap.size ≤ b) ∧ Up w w' ∧ w'.ownsRow w.heap.size 62 3 (.slice p' l.length c') l.length (lrows l).flatten := by
  obtain ⟨i0, hi, hz0, hz1, hz2⟩ := info_parts infoLk
  have hml : l.length ≤ maxLen := by simp only [maxLen]; omega
  obtain ⟨zs, hzs⟩ : ∃ zs, madeCells ((.agg #[.int .i64 0, .int .i64 0, .bool false]) : Value).cells (l.length * 3) = zs := ⟨_, rfl⟩
  have hzl : zs.size = l.length * 3 := by rw [← hzs]; exact size_madeCells _ _
  have hmk : ∀ u : World, (Instr.makeSlice 59 (.int .i64 0) (.int .i64 (l.length : Int))).run Tryz.prog u = .ok (.slice (some ⟨u.heap.size, 0, none⟩) 0 l.length) (u.alloc (.cells zs 62)) := fun u => by
    have h := run_make (P := Tryz.prog) u 59 62 i0 (.agg #[.int .i64 0, .int .i64 0, .bool false]) Tryz.underlying59 hi hz0 .i64 .i64 0 (l.length : Int) (by omega) (by omega) (by rw [hz2]; omega) (by omega)
    rw [Int.toNat_natCast, hz1, hzs] at h
    exact h
  have happ : ∃ v' w', (Builtin.append_ #[59, 59] 59 #[.slice (some ⟨w.heap.size, 0, none⟩) 0 l.length, .slice p l.length c]).run Tryz.prog (w.alloc (.cells zs 62)) = .ok v' w' ∧ (∃ p' c', v' = .slice p' l.length c' ∧ l.length ≤ c' ∧ c' ≤ maxLen ∧ Row w' p' 3 (lrows l) ∧ (∀ b off, p' = some ⟨b, off, none⟩ → w.heap.size ≤ b) ∧ w'.ownsRow w.heap.size 62 3 (.slice p' l.length c') l.length (lrows l).flatten) ∧ Up w w' := by
    have hown := World.ownsRow_made (e := 62) (size := 3) w zs l.length (Nat.le_refl _) hml hzl
    by_cases h0 : l.length = 0
    · have hsrc : Src Tryz.prog i0.size 59 (.slice p 0 c) 0 [] (w.alloc (.cells zs 62)) := by
        cases p with
        | none => exact Src.ofNil _ Tryz.underlying59 c
        | some a => exact Src.ofSlice _ Tryz.underlying59 a 0 c [] (by simp) (by intro j u h; simp at h) (by intro u h; cases h)
      have hr0 := run_append_nothing (P := Tryz.prog) (w.alloc (.cells zs 62)) 59 59 59 62 i0 Tryz.underlying59 hi (some ⟨w.heap.size, 0, none⟩) 0 l.length (by omega) _ hsrc
      have hnil : l = [] := List.eq_nil_of_length_eq_zero h0
      subst hnil
      exact ⟨_, _, hr0, ⟨_, _, rfl, by simp, by simp [maxLen], Row.nil _ _ _, fun b off e => by simp only [Option.some.injEq, Addr.mk.injEq] at e; omega, hown⟩, by (repeat (first | exact Below.refl _ _ | (with_reducible refine Below.drewN' ?_ _) | (with_reducible refine Below.drew ?_) | (with_reducible refine Below.setCell ?_ (by first | exact Nat.le_refl _ | omega | (with_reducible (repeat (first | refine sz_alloc ?_ | refine sz_setCell ?_ | refine sz_drew ?_ | refine sz_drewN ?_)); first | exact Nat.le_refl _ | omega) | (simp only [World.size_alloc, World.size_setCell, World.size_drew, size_drewN']; omega)) _) | (with_reducible refine Below.alloc ?_ (by first | exact Nat.le_refl _ | omega | (with_reducible (repeat (first | refine sz_alloc ?_ | refine sz_setCell ?_ | refine sz_drew ?_ | refine sz_drewN ?_)); first | exact Nat.le_refl _ | omega) | (simp only [World.size_alloc, World.size_setCell, World.size_drew, size_drewN']; omega)) _) | assumption))⟩
    · have hrl : (lrows l).length = l.length := by simp [lrows]
      have hfl : (lrows l).flatten.length = l.length * 3 := by rw [flat_len 3 (lrows l) (flatOk_lks l), hrl]
      obtain ⟨b, off, rfl, hsrc⟩ := hr.src (flatOk_lks l) (by omega) (by decide)
      obtain ⟨v', w', hrun, ho, hg, -⟩ := run_append_own (P := Tryz.prog) (w.alloc (.cells zs 62)) w.heap.size 59 59 62 i0 (.agg #[.int .i64 0, .int .i64 0, .bool false]) 3 24 Tryz.underlying59 hi hz0 hz1 hz2 rfl (by decide) _ 0 [] hown ⟨b, off, none⟩ l.length c (lrows l).flatten hfl
        (fun j u h => hsrc _ (by (repeat (first | exact Below.refl _ _ | (with_reducible refine Below.drewN' ?_ _) | (with_reducible refine Below.drew ?_) | (with_reducible refine Below.setCell ?_ (by first | exact Nat.le_refl _ | omega | (with_reducible (repeat (first | refine sz_alloc ?_ | refine sz_setCell ?_ | refine sz_drew ?_ | refine sz_drewN ?_)); first | exact Nat.le_refl _ | omega) | (simp only [World.size_alloc, World.size_setCell, World.size_drew, size_drewN']; omega)) _) | (with_reducible refine Below.alloc ?_ (by first | exact Nat.le_refl _ | omega | (with_reducible (repeat (first | refine sz_alloc ?_ | refine sz_setCell ?_ | refine sz_drew ?_ | refine sz_drewN ?_)); first | exact Nat.le_refl _ | omega) | (simp only [World.size_alloc, World.size_setCell, World.size_drew, size_drewN']; omega)) _) | assumption))) j u h) (by intro u hu; obtain ⟨r, hr1, hr2⟩ := List.mem_flatten.1 hu; simp only [lrows, List.mem_map] at hr1; obtain ⟨y, -, rfl⟩ := hr1; simp only [List.mem_cons, List.not_mem_nil, or_false] at hr2; rcases hr2 with rfl | rfl | rfl <;> rfl) (by omega) (by omega) (by simp)
      rw [Nat.zero_add, List.nil_append] at ho
      obtain ⟨p', c', e1, e2, e3, e4, e5⟩ := Row.of_own (flatOk_lks l) ho hrl
      subst e1
      exact ⟨_, w', hrun, ⟨p', c', rfl, e2, e3, e4, e5, ho⟩, Below.grown (by (repeat (first | exact Below.refl _ _ | (with_reducible refine Below.drewN' ?_ _) | (with_reducible refine Below.drew ?_) | (with_reducible refine Below.setCell ?_ (by first | exact Nat.le_refl _ | omega | (with_reducible (repeat (first | refine sz_alloc ?_ | refine sz_setCell ?_ | refine sz_drew ?_ | refine sz_drewN ?_)); first | exact Nat.le_refl _ | omega) | (simp only [World.size_alloc, World.size_setCell, World.size_drew, size_drewN']; omega)) _) | (with_reducible refine Below.alloc ?_ (by first | exact Nat.le_refl _ | omega | (with_reducible (repeat (first | refine sz_alloc ?_ | refine sz_setCell ?_ | refine sz_drew ?_ | refine sz_drewN ?_)); first | exact Nat.le_refl _ | omega) | (simp only [World.size_alloc, World.size_setCell, World.size_drew, size_drewN']; omega)) _) | assumption))) hg (by simp) (fun k e => by simp only [Value.ownBlock, Option.some.injEq] at e; omega)⟩
  obtain ⟨v', w1, hrun, hv, hu⟩ := happ
  have HV := Lib.hid hv
  have HU := Lib.hid hu
  clear hr hi hz0 hz1 hz2 hzs hzl hv hu
  go_enter Tryz.func25, Tryz.ntmps25
  go_wp2_with (at_builtin; refine wpList_append_run rfl _ _ 59 rfl _ _ v' w1 rfl rfl hrun ?_)
  go_ret
  obtain ⟨p', c', rfl, e2, e3, e4, e5, e6⟩ := HV.out
  exact ⟨p', c', rfl, e2, e3, e4, e5, HU.out, e6⟩
theorem dupLook_c (l : List Lk) (p : Option Addr) (c : Nat) (w : World) (hr : Row w p 3 (lrows l)) (hb : l.length * 24 ≤ 140737488355328) :
    Calls Tryz.prog 25 #[.slice p l.length c] w fun e w' => ∃ p' c', e = .returned (.slice p' l.length c') ∧ l.length ≤ c' ∧ c' ≤ maxLen ∧ Row w' p' 3 (lrows l) ∧ (∀ b off, p' = some ⟨b, off, none⟩ → w.heap.size ≤ b) ∧ Up w w' :=
  (dupLook_o l p c w hr hb).mono (by rintro e w' ⟨p', c', e1, e2, e3, e4, e5, e6, -⟩; exact ⟨p', c', e1, e2, e3, e4, e5, e6⟩)
end Go.Proofs.YtknaajofcbenaaaGreat
namespace Go.Proofs.YtknaajofcbenaaaGreat
open Go.RowKit Go.Shelf

theorem drop_eq_iff {α : Type} {l r : List α} (_hl : l.length = r.length) {k : Nat} (h1 : k < l.length) (h2 : k < r.length) : l.drop k = r.drop k ↔ l[k] = r[k] ∧ l.drop (k + 1) = r.drop (k + 1) := by
  rw [List.drop_eq_getElem_cons h1, List.drop_eq_getElem_cons h2, List.cons.injEq]

set_option maxRecDepth 100000 in
set_option maxHeartbeats 1000000 in
theorem equalInt_c (l r : List Int) (p q : Option Addr) (c d : Nat) (w : World) (h1 : Row w p 1 (ints l)) (h2 : Row w q 1 (ints r)) (m1 : l.length ≤ maxLen) (m2 : r.length ≤ maxLen) :
    Calls Tryz.prog 75 #[.slice p l.length c, .slice q r.length d] w fun e w' => e = .returned (.bool (decide (l = r))) ∧ Up w w' := by
  have H1 := Lib.hid h1
  have H2 := Lib.hid h2
  unfold maxLen at m1 m2
  clear h1 h2
  go_enter Tryz.func75, Tryz.ntmps75
  by_cases hl : l.length = r.length
  · have hl' : (l.length : Int) = (r.length : Int) := by omega
    go_wp2_with fail
    go_loopw [13] (fun i wr => ∃ k : Nat, k ≤ l.length ∧ i = .int .i64 k ∧ (l = r ↔ l.drop k = r.drop k) ∧ Up w wr) (fun i _ => l.length - (intOf i).toNat)
    case atStart => exact ⟨0, Nat.zero_le _, rfl, Iff.rfl, Below.refl _ _⟩
    case round =>
      obtain ⟨k, hk, rfl, ht, hu⟩ := hrel
      have HT := Lib.hid ht
      have HU := Lib.hid hu
      clear ht
      by_cases hlt : k < l.length
      · have hlr : k < r.length := by omega
        obtain ⟨b, off, rfl, d0⟩ := H1.out.int k hlt
        obtain ⟨b', off', rfl, d1⟩ := H2.out.int k hlr
        have e0 := hu.cellAt d0
        have e1 := hu.cellAt d1
        have HD := Lib.hid (drop_eq_iff hl hlt hlr)
        clear d0 d1 hu
        generalize l[k] = x at *
        generalize r[k] = y at *
        have b1 : (k : Int) < (l.length : Int) := by omega
        have b2 : (k : Int) < (r.length : Int) := by omega
        go_wp2_with fail
        by_cases hxy : x = y
        · have HX := Lib.hid (show l = r ↔ l.drop (k + 1) = r.drop (k + 1) by rw [HT.out, HD.out]; simp [hxy])
          subst hxy
          go_quiet (fail)
          go_wp2_with fail
          go_roundw
          case rel => exact ⟨k + 1, hlt, by go_num, HX.out, Below.drewN' HU.out _⟩
          case measure => simp [intOf]; omega
        · have HX : Hid (¬ l = r) := by rw [show l = r ↔ _ from HT.out, HD.out]; exact fun h => hxy h.1
          go_quiet (fail)
          go_wp2_with fail
          go_ret
          exact ⟨ret_bool (by simpa using HX.out), Below.drewN' HU.out _⟩
      · obtain rfl : k = l.length := by omega
        have HX : Hid (l = r) := HT.out.2 (by rw [List.drop_eq_nil_of_le (Nat.le_refl _), List.drop_eq_nil_of_le (by omega)])
        go_wp2_with fail
        go_ret
        exact ⟨ret_bool (by simpa using HX.out), HU.out⟩
  · have hl' : ¬ (l.length : Int) = (r.length : Int) := by omega
    go_wp2_with fail
    go_ret
    exact ⟨ret_bool (by symm; rw [decide_eq_false_iff_not]; rintro rfl; exact hl rfl), Below.refl _ _⟩
set_option maxRecDepth 100000 in
set_option maxHeartbeats 1000000 in
theorem equalState_c (l r : List Int) (p q : Option Addr) (c d : Nat) (w : World) (h1 : Row w p 1 (ints l)) (h2 : Row w q 1 (ints r)) (m1 : l.length ≤ maxLen) (m2 : r.length ≤ maxLen) :
    Calls Tryz.prog 110 #[.slice p l.length c, .slice q r.length d] w fun e w' => e = .returned (.bool (decide (l = r))) ∧ Up w w' := by
  have H1 := Lib.hid h1
  have H2 := Lib.hid h2
  unfold maxLen at m1 m2
  clear h1 h2
  go_enter Tryz.func110, Tryz.ntmps110
  by_cases hl : l.length = r.length
  · have hl' : (l.length : Int) = (r.length : Int) := by omega
    go_wp2_with fail
    go_loopw [13] (fun i wr => ∃ k : Nat, k ≤ l.length ∧ i = .int .i64 k ∧ (l = r ↔ l.drop k = r.drop k) ∧ Up w wr) (fun i _ => l.length - (intOf i).toNat)
    case atStart => exact ⟨0, Nat.zero_le _, rfl, Iff.rfl, Below.refl _ _⟩
    case round =>
      obtain ⟨k, hk, rfl, ht, hu⟩ := hrel
      have HT := Lib.hid ht
      have HU := Lib.hid hu
      clear ht
      by_cases hlt : k < l.length
      · have hlr : k < r.length := by omega
        obtain ⟨b, off, rfl, d0⟩ := H1.out.int k hlt
        obtain ⟨b', off', rfl, d1⟩ := H2.out.int k hlr
        have e0 := hu.cellAt d0
        have e1 := hu.cellAt d1
        have HD := Lib.hid (drop_eq_iff hl hlt hlr)
        clear d0 d1 hu
        generalize l[k] = x at *
        generalize r[k] = y at *
        have b1 : (k : Int) < (l.length : Int) := by omega
        have b2 : (k : Int) < (r.length : Int) := by omega
        go_wp2_with fail
        by_cases hxy : x = y
        · have HX := Lib.hid (show l = r ↔ l.drop (k + 1) = r.drop (k + 1) by rw [HT.out, HD.out]; simp [hxy])
          subst hxy
          go_quiet (fail)
          go_wp2_with fail
          go_roundw
          case rel => exact ⟨k + 1, hlt, by go_num, HX.out, Below.drewN' HU.out _⟩
          case measure => simp [intOf]; omega
        · have HX : Hid (¬ l = r) := by rw [show l = r ↔ _ from HT.out, HD.out]; exact fun h => hxy h.1
          go_quiet (fail)
          go_wp2_with fail
          go_ret
          exact ⟨ret_bool (by simpa using HX.out), Below.drewN' HU.out _⟩
      · obtain rfl : k = l.length := by omega
        have HX : Hid (l = r) := HT.out.2 (by rw [List.drop_eq_nil_of_le (Nat.le_refl _), List.drop_eq_nil_of_le (by omega)])
        go_wp2_with fail
        go_ret
        exact ⟨ret_bool (by simpa using HX.out), HU.out⟩
  · have hl' : ¬ (l.length : Int) = (r.length : Int) := by omega
    go_wp2_with fail
    go_ret
    exact ⟨ret_bool (by symm; rw [decide_eq_false_iff_not]; rintro rfl; exact hl rfl), Below.refl _ _⟩

theorem eqInt_c (l r : List Int) (p q : Option Addr) (c d : Nat) (w : World) (h1 : Row w p 1 (ints l)) (h2 : Row w q 1 (ints r)) (m1 : l.length ≤ maxLen) (m2 : r.length ≤ maxLen) :
    Calls Tryz.prog 23 #[.slice p l.length c, .slice q r.length d] w fun e w' => e = .returned (.bool (decide (l = r))) ∧ Up w w' := by
  have HE := Lib.hid (equalInt_c l r p q c d w h1 h2 m1 m2)
  clear h1 h2
  go_enter Tryz.func23, Tryz.ntmps23
  go_wp2_with fail
  refine HE.out.mono ?_
  rintro e w1 ⟨rfl, u1⟩
  go_wp2_with fail
  go_ret
  exact ⟨rfl, u1⟩

theorem eqState_c (l r : List Int) (p q : Option Addr) (c d : Nat) (w : World) (h1 : Row w p 1 (ints l)) (h2 : Row w q 1 (ints r)) (m1 : l.length ≤ maxLen) (m2 : r.length ≤ maxLen) :
    Calls Tryz.prog 46 #[.slice p l.length c, .slice q r.length d] w fun e w' => e = .returned (.bool (decide (l = r))) ∧ Up w w' := by
  have HE := Lib.hid (equalState_c l r p q c d w h1 h2 m1 m2)
  clear h1 h2
  go_enter Tryz.func46, Tryz.ntmps46
  go_wp2_with fail
  refine HE.out.mono ?_
  rintro e w1 ⟨rfl, u1⟩
  go_wp2_with fail
  go_ret
  exact ⟨rfl, u1⟩
end Go.Proofs.YtknaajofcbenaaaGreat
namespace Go.Proofs.YtknaajofcbenaaaGreat
open Go.RowKit Go.Shelf

set_option maxRecDepth 100000 in
set_option maxHeartbeats 1000000 in
theorem equalWater_c (l r : List (Int × Int)) (p q : Option Addr) (c d : Nat) (w : World) (h1 : Row w p 2 (pairs l)) (h2 : Row w q 2 (pairs r)) (m1 : l.length ≤ maxLen) (m2 : r.length ≤ maxLen) :
    Calls Tryz.prog 117 #[.slice p l.length c, .slice q r.length d] w fun e w' => e = .returned (.bool (decide (l = r))) ∧ Up w w' := by
  have H1 := Lib.hid h1
  have H2 := Lib.hid h2
  unfold maxLen at m1 m2
  clear h1 h2
  go_enter Tryz.func117, Tryz.ntmps117
  by_cases hl : l.length = r.length
  · have hl' : (l.length : Int) = (r.length : Int) := by omega
    go_wp2_with fail
    go_loopw [13] (fun i wr => ∃ k : Nat, k ≤ l.length ∧ i = .int .i64 k ∧ (l = r ↔ l.drop k = r.drop k) ∧ Up w wr) (fun i _ => l.length - (intOf i).toNat)
    case atStart => exact ⟨0, Nat.zero_le _, rfl, Iff.rfl, Below.refl _ _⟩
    case round =>
      obtain ⟨k, hk, rfl, ht, hu⟩ := hrel
      have HT := Lib.hid ht
      have HU := Lib.hid hu
      clear ht
      by_cases hlt : k < l.length
      · have hlr : k < r.length := by omega
        obtain ⟨b, off, rfl, d0, d0'⟩ := H1.out.pair k hlt
        obtain ⟨b', off', rfl, d1, d1'⟩ := H2.out.pair k hlr
        have e0 := hu.cellAt d0
        have e1 := hu.cellAt d1
        have e0' := hu.cellAt d0'
        have e1' := hu.cellAt d1'
        have HD := Lib.hid (drop_eq_iff hl hlt hlr)
        clear d0 d1 d0' d1' hu
        generalize l[k] = x at *
        generalize r[k] = y at *
        obtain ⟨xa, xb⟩ := x
        obtain ⟨ya, yb⟩ := y
        dsimp only at e0 e1 e0' e1'
        have b1 : (k : Int) < (l.length : Int) := by omega
        have b2 : (k : Int) < (r.length : Int) := by omega
        go_wp2_with fail
        by_cases hxy : (xa, xb) = (ya, yb)
        · have HX := Lib.hid (show l = r ↔ l.drop (k + 1) = r.drop (k + 1) by rw [HT.out, HD.out]; simp [hxy])
          obtain ⟨rfl, rfl⟩ : xa = ya ∧ xb = yb := by simpa using hxy
          go_quiet (fail)
          go_wp2_with fail
          go_roundw
          case rel => exact ⟨k + 1, hlt, by go_num, HX.out, Below.drewN' HU.out _⟩
          case measure => simp [intOf]; omega
        · have HX : Hid (¬ l = r) := by rw [show l = r ↔ _ from HT.out, HD.out]; exact fun h => hxy h.1
          by_cases ha : xa = ya
          · subst ha
            have hb : ¬ xb = yb := fun e => hxy (by rw [e])
            clear hxy
            go_quiet (fail)
            go_wp2_with fail
            go_ret
            exact ⟨ret_bool (by simpa using HX.out), Below.drewN' HU.out _⟩
          · clear hxy
            go_quiet (fail)
            go_wp2_with fail
            go_ret
            exact ⟨ret_bool (by simpa using HX.out), Below.drewN' HU.out _⟩
      · obtain rfl : k = l.length := by omega
        have HX : Hid (l = r) := HT.out.2 (by rw [List.drop_eq_nil_of_le (Nat.le_refl _), List.drop_eq_nil_of_le (by omega)])
        go_wp2_with fail
        go_ret
        exact ⟨ret_bool (by simpa using HX.out), HU.out⟩
  · have hl' : ¬ (l.length : Int) = (r.length : Int) := by omega
    go_wp2_with fail
    go_ret
    exact ⟨ret_bool (by symm; rw [decide_eq_false_iff_not]; rintro rfl; exact hl rfl), Below.refl _ _⟩

set_option maxRecDepth 100000 in
set_option maxHeartbeats 1000000 in
theorem equalSill_c (l r : List (Int × Int × Int)) (p q : Option Addr) (c d : Nat) (w : World) (h1 : Row w p 3 (triples l)) (h2 : Row w q 3 (triples r)) (m1 : l.length ≤ maxLen) (m2 : r.length ≤ maxLen) :
    Calls Tryz.prog 118 #[.slice p l.length c, .slice q r.length d] w fun e w' => e = .returned (.bool (decide (l = r))) ∧ Up w w' := by
  have H1 := Lib.hid h1
  have H2 := Lib.hid h2
  unfold maxLen at m1 m2
  clear h1 h2
  go_enter Tryz.func118, Tryz.ntmps118
  by_cases hl : l.length = r.length
  · have hl' : (l.length : Int) = (r.length : Int) := by omega
    go_wp2_with fail
    go_loopw [13] (fun i wr => ∃ k : Nat, k ≤ l.length ∧ i = .int .i64 k ∧ (l = r ↔ l.drop k = r.drop k) ∧ Up w wr) (fun i _ => l.length - (intOf i).toNat)
    case atStart => exact ⟨0, Nat.zero_le _, rfl, Iff.rfl, Below.refl _ _⟩
    case round =>
      obtain ⟨k, hk, rfl, ht, hu⟩ := hrel
      have HT := Lib.hid ht
      have HU := Lib.hid hu
      clear ht
      by_cases hlt : k < l.length
      · have hlr : k < r.length := by omega
        obtain ⟨b, off, rfl, d0, d0', d0''⟩ := H1.out.triple k hlt
        obtain ⟨b', off', rfl, d1, d1', d1''⟩ := H2.out.triple k hlr
        have e0 := hu.cellAt d0
        have e1 := hu.cellAt d1
        have e0' := hu.cellAt d0'
        have e1' := hu.cellAt d1'
        have e0'' := hu.cellAt d0''
        have e1'' := hu.cellAt d1''
        have HD := Lib.hid (drop_eq_iff hl hlt hlr)
        clear d0 d1 d0' d1' d0'' d1'' hu
        generalize l[k] = x at *
        generalize r[k] = y at *
        obtain ⟨xa, xb, xc⟩ := x
        obtain ⟨ya, yb, yc⟩ := y
        dsimp only at e0 e1 e0' e1' e0'' e1''
        have b1 : (k : Int) < (l.length : Int) := by omega
        have b2 : (k : Int) < (r.length : Int) := by omega
        go_wp2_with fail
        by_cases hxy : (xa, xb, xc) = (ya, yb, yc)
        · have HX := Lib.hid (show l = r ↔ l.drop (k + 1) = r.drop (k + 1) by rw [HT.out, HD.out]; simp [hxy])
          obtain ⟨rfl, rfl, rfl⟩ : xa = ya ∧ xb = yb ∧ xc = yc := by simpa using hxy
          go_quiet (fail)
          go_wp2_with fail
          go_roundw
          case rel => exact ⟨k + 1, hlt, by go_num, HX.out, Below.drewN' HU.out _⟩
          case measure => simp [intOf]; omega
        · have HX : Hid (¬ l = r) := by rw [show l = r ↔ _ from HT.out, HD.out]; exact fun h => hxy h.1
          by_cases ha : xa = ya
          · subst ha
            by_cases hb : xb = yb
            · subst hb
              have hc : ¬ xc = yc := fun e => hxy (by rw [e])
              clear hxy
              go_quiet (fail)
              go_wp2_with fail
              go_ret
              exact ⟨ret_bool (by simpa using HX.out), Below.drewN' HU.out _⟩
            · clear hxy
              go_quiet (fail)
              go_wp2_with fail
              go_ret
              exact ⟨ret_bool (by simpa using HX.out), Below.drewN' HU.out _⟩
          · clear hxy
            go_quiet (fail)
            go_wp2_with fail
            go_ret
            exact ⟨ret_bool (by simpa using HX.out), Below.drewN' HU.out _⟩
      · obtain rfl : k = l.length := by omega
        have HX : Hid (l = r) := HT.out.2 (by rw [List.drop_eq_nil_of_le (Nat.le_refl _), List.drop_eq_nil_of_le (by omega)])
        go_wp2_with fail
        go_ret
        exact ⟨ret_bool (by simpa using HX.out), HU.out⟩
  · have hl' : ¬ (l.length : Int) = (r.length : Int) := by omega
    go_wp2_with fail
    go_ret
    exact ⟨ret_bool (by symm; rw [decide_eq_false_iff_not]; rintro rfl; exact hl rfl), Below.refl _ _⟩


theorem eqWater_c (l r : List (Int × Int)) (p q : Option Addr) (c d : Nat) (w : World) (h1 : Row w p 2 (pairs l)) (h2 : Row w q 2 (pairs r)) (m1 : l.length ≤ maxLen) (m2 : r.length ≤ maxLen) :
    Calls Tryz.prog 76 #[.slice p l.length c, .slice q r.length d] w fun e w' => e = .returned (.bool (decide (l = r))) ∧ Up w w' := by
  have HE := Lib.hid (equalWater_c l r p q c d w h1 h2 m1 m2)
  clear h1 h2
  go_enter Tryz.func76, Tryz.ntmps76
  go_wp2_with fail
  refine HE.out.mono ?_
  rintro e w1 ⟨rfl, u1⟩
  go_wp2_with fail
  go_ret
  exact ⟨rfl, u1⟩

theorem eqSill_c (l r : List (Int × Int × Int)) (p q : Option Addr) (c d : Nat) (w : World) (h1 : Row w p 3 (triples l)) (h2 : Row w q 3 (triples r)) (m1 : l.length ≤ maxLen) (m2 : r.length ≤ maxLen) :
    Calls Tryz.prog 77 #[.slice p l.length c, .slice q r.length d] w fun e w' => e = .returned (.bool (decide (l = r))) ∧ Up w w' := by
  have HE := Lib.hid (equalSill_c l r p q c d w h1 h2 m1 m2)
  clear h1 h2
  go_enter Tryz.func77, Tryz.ntmps77
  go_wp2_with fail
  refine HE.out.mono ?_
  rintro e w1 ⟨rfl, u1⟩
  go_wp2_with fail
  go_ret
  exact ⟨rfl, u1⟩
end Go.Proofs.YtknaajofcbenaaaGreat
namespace Go.Proofs.YtknaajofcbenaaaGreat
open Go.RowKit Go.Shelf

def wideB (s : Sd) : Bool := decide (20 < s.table.length) || (decide (20 < s.floors.length) || decide (30 < s.sills.length))
section
variable {pT pF pS : Option Addr} {cT cF cS : Nat}
set_option maxRecDepth 100000 in
set_option maxHeartbeats 1000000 in
theorem wide_c (s : Sd) (w : World) : Calls Tryz.prog 6 #[sdVal s pT pF pS cT cF cS] w fun e w' => e = .returned (.bool (wideB s)) ∧ Up w w' := by
  have HB := Lib.hid (show wideB s = (decide (20 < s.table.length) || (decide (20 < s.floors.length) || decide (30 < s.sills.length))) by rfl)
  unfold sdVal
  go_enter Tryz.func6, Tryz.ntmps6
  by_cases h1 : 20 < s.table.length
  · have k1 : (20 : Int) < s.table.length := by omega
    go_wp2
    go_ret
    exact ⟨ret_bool (by rw [HB.out]; simp [h1]), by (repeat (first | exact Below.refl _ _ | (with_reducible refine Below.drewN' ?_ _) | (with_reducible refine Below.drew ?_) | (with_reducible refine Below.setCell ?_ (by first | exact Nat.le_refl _ | omega | (with_reducible (repeat (first | refine sz_alloc ?_ | refine sz_setCell ?_ | refine sz_drew ?_ | refine sz_drewN ?_)); first | exact Nat.le_refl _ | omega) | (simp only [World.size_alloc, World.size_setCell, World.size_drew, size_drewN']; omega)) _) | (with_reducible refine Below.alloc ?_ (by first | exact Nat.le_refl _ | omega | (with_reducible (repeat (first | refine sz_alloc ?_ | refine sz_setCell ?_ | refine sz_drew ?_ | refine sz_drewN ?_)); first | exact Nat.le_refl _ | omega) | (simp only [World.size_alloc, World.size_setCell, World.size_drew, size_drewN']; omega)) _) | assumption))⟩
  · have k1 : ¬ (20 : Int) < s.table.length := by omega
    by_cases h2 : 20 < s.floors.length
    · have k2 : (20 : Int) < s.floors.length := by omega
      go_wp2
      go_ret
      exact ⟨ret_bool (by rw [HB.out]; simp [h2]), by (repeat (first | exact Below.refl _ _ | (with_reducible refine Below.drewN' ?_ _) | (with_reducible refine Below.drew ?_) | (with_reducible refine Below.setCell ?_ (by first | exact Nat.le_refl _ | omega | (with_reducible (repeat (first | refine sz_alloc ?_ | refine sz_setCell ?_ | refine sz_drew ?_ | refine sz_drewN ?_)); first | exact Nat.le_refl _ | omega) | (simp only [World.size_alloc, World.size_setCell, World.size_drew, size_drewN']; omega)) _) | (with_reducible refine Below.alloc ?_ (by first | exact Nat.le_refl _ | omega | (with_reducible (repeat (first | refine sz_alloc ?_ | refine sz_setCell ?_ | refine sz_drew ?_ | refine sz_drewN ?_)); first | exact Nat.le_refl _ | omega) | (simp only [World.size_alloc, World.size_setCell, World.size_drew, size_drewN']; omega)) _) | assumption))⟩
    · have k2 : ¬ (20 : Int) < s.floors.length := by omega
      by_cases h3 : 30 < s.sills.length
      · have k3 : (30 : Int) < s.sills.length := by omega
        go_wp2
        go_ret
        exact ⟨ret_bool (by rw [HB.out]; simp [h3]), by (repeat (first | exact Below.refl _ _ | (with_reducible refine Below.drewN' ?_ _) | (with_reducible refine Below.drew ?_) | (with_reducible refine Below.setCell ?_ (by first | exact Nat.le_refl _ | omega | (with_reducible (repeat (first | refine sz_alloc ?_ | refine sz_setCell ?_ | refine sz_drew ?_ | refine sz_drewN ?_)); first | exact Nat.le_refl _ | omega) | (simp only [World.size_alloc, World.size_setCell, World.size_drew, size_drewN']; omega)) _) | (with_reducible refine Below.alloc ?_ (by first | exact Nat.le_refl _ | omega | (with_reducible (repeat (first | refine sz_alloc ?_ | refine sz_setCell ?_ | refine sz_drew ?_ | refine sz_drewN ?_)); first | exact Nat.le_refl _ | omega) | (simp only [World.size_alloc, World.size_setCell, World.size_drew, size_drewN']; omega)) _) | assumption))⟩
      · have k3 : ¬ (30 : Int) < s.sills.length := by omega
        go_wp2
        go_ret
        exact ⟨ret_bool (by rw [HB.out]; simp [h1, h2, h3]), by (repeat (first | exact Below.refl _ _ | (with_reducible refine Below.drewN' ?_ _) | (with_reducible refine Below.drew ?_) | (with_reducible refine Below.setCell ?_ (by first | exact Nat.le_refl _ | omega | (with_reducible (repeat (first | refine sz_alloc ?_ | refine sz_setCell ?_ | refine sz_drew ?_ | refine sz_drewN ?_)); first | exact Nat.le_refl _ | omega) | (simp only [World.size_alloc, World.size_setCell, World.size_drew, size_drewN']; omega)) _) | (with_reducible refine Below.alloc ?_ (by first | exact Nat.le_refl _ | omega | (with_reducible (repeat (first | refine sz_alloc ?_ | refine sz_setCell ?_ | refine sz_drew ?_ | refine sz_drewN ?_)); first | exact Nat.le_refl _ | omega) | (simp only [World.size_alloc, World.size_setCell, World.size_drew, size_drewN']; omega)) _) | assumption))⟩

variable {qT qF qS : Option Addr} {dT dF dS : Nat}
set_option maxRecDepth 100000 in
set_option maxHeartbeats 2000000 in
theorem same_c (s : Sd) (w : World) (h1 : Lists w s pT pF pS cT cF cS) (h2 : Lists w s qT qF qS dT dF dS) :
    Calls Tryz.prog 24 #[sdVal s pT pF pS cT cF cS, sdVal s qT qF qS dT dF dS] w fun e w' => e = .returned (.bool true) ∧ Up w w' := by
  have H1 := Lib.hid h1
  have H2 := Lib.hid h2
  have m1 := Nat.le_trans h1.ct h1.mt
  have m2 := Nat.le_trans h1.cf h1.mf
  have m3 := Nat.le_trans h1.cs h1.ms
  clear h1 h2
  unfold sdVal
  go_enter Tryz.func24, Tryz.ntmps24
  go_wp2_with fail
  refine Calls.world ?_
  intro w0 hw0
  have u0 : Up w w0 := by rw [hw0]; (repeat (first | exact Below.refl _ _ | (with_reducible refine Below.drewN' ?_ _) | (with_reducible refine Below.drew ?_) | (with_reducible refine Below.setCell ?_ (by first | exact Nat.le_refl _ | omega | (with_reducible (repeat (first | refine sz_alloc ?_ | refine sz_setCell ?_ | refine sz_drew ?_ | refine sz_drewN ?_)); first | exact Nat.le_refl _ | omega) | (simp only [World.size_alloc, World.size_setCell, World.size_drew, size_drewN']; omega)) _) | (with_reducible refine Below.alloc ?_ (by first | exact Nat.le_refl _ | omega | (with_reducible (repeat (first | refine sz_alloc ?_ | refine sz_setCell ?_ | refine sz_drew ?_ | refine sz_drewN ?_)); first | exact Nat.le_refl _ | omega) | (simp only [World.size_alloc, World.size_setCell, World.size_drew, size_drewN']; omega)) _) | assumption))
  have hA : Blk w0 w.heap.size (sdCells s pT pF pS cT cF cS) 28 := by rw [hw0]; exact (Blk.new w _ _).alloc _
  have hB : Blk w0 (w.heap.size + 1) (sdCells s qT qF qS dT dF dS) 28 := by rw [hw0]; exact Blk.new' _ (sdCells s qT qF qS dT dF dS) _ (by simp)
  clear hw0
  refine (eqWater_c s.table s.table _ _ _ _ w0 (H1.out.rt.up u0) (H2.out.rt.up u0) m1 m1).mono ?_
  rintro e w1 ⟨rfl, u1⟩
  rw [decide_eq_true (rfl : s.table = s.table)]
  have hA1 := hA.up u1
  have hB1 := hB.up u1
  have a1 := hA1.cell 1
  have a2 := hA1.cell 2
  have a3 := hA1.cell 3
  have b1 := hB1.cell 1
  have b2 := hB1.cell 2
  have b3 := hB1.cell 3
  simp only [sdCells, List.getElem?_cons_zero, List.getElem?_cons_succ] at a1 a2 a3 b1 b2 b3
  have U1 := Lib.hid (Up.trans u0 u1)
  have HA := Lib.hid hA1
  have HB := Lib.hid hB1
  clear hA hB hA1 hB1 u0 u1
  go_wp2_with fail
  refine (eqInt_c s.floors s.floors _ _ _ _ w1 (H1.out.rf.up U1.out) (H2.out.rf.up U1.out) m2 m2).mono ?_
  rintro e w2 ⟨rfl, u2⟩
  rw [decide_eq_true (rfl : s.floors = s.floors)]
  have a4 := (HA.out.up u2).cell 4
  have b4 := (HB.out.up u2).cell 4
  simp only [sdCells, List.getElem?_cons_zero, List.getElem?_cons_succ] at a4 b4
  have U2 := Lib.hid (Up.trans U1.out u2)
  clear u2 a1 a2 a3 b1 b2 b3
  go_wp2_with fail
  refine (eqSill_c s.sills s.sills _ _ _ _ w2 (H1.out.rs.up U2.out) (H2.out.rs.up U2.out) m3 m3).mono ?_
  rintro e w3 ⟨rfl, u3⟩
  rw [decide_eq_true (rfl : s.sills = s.sills)]
  have U3 := Lib.hid (Up.trans U2.out u3)
  clear u3 a4 b4
  go_wp2_with fail
  go_ret
  exact ⟨rfl, U3.out⟩
end
end Go.Proofs.YtknaajofcbenaaaGreat
namespace Go.Proofs.YtknaajofcbenaaaGreat
open Go.RowKit Go.Shelf

theorem infoRW : (Tryz.prog.info? 98).map (fun i => (i.zero, i.size, i.bytes)) = some (some (.agg #[.int .i64 0, .int .i64 0]), 2, 16) := by kernel_rfl
theorem infoRS : (Tryz.prog.info? 99).map (fun i => (i.zero, i.size, i.bytes)) = some (some (.agg #[.int .i64 0, .int .i64 0, .int .i64 0]), 3, 24) := by kernel_rfl

theorem ints_pos (l : List Int) : ∀ r ∈ ints l, 0 < r.length := fun r hr => by simp only [ints, List.mem_map] at hr; obtain ⟨x, -, rfl⟩ := hr; simp
theorem pairs_pos (l : List (Int × Int)) : ∀ r ∈ pairs l, 0 < r.length := fun r hr => by simp only [pairs, List.mem_map] at hr; obtain ⟨x, -, rfl⟩ := hr; simp

section
variable {pT pF pS : Option Addr} {cT cF cS : Nat}
set_option maxRecDepth 100000 in
set_option maxHeartbeats 2000000 in
theorem theirs_c (s : Sd) (w : World) (hl : Lists w s pT pF pS cT cF cS) (b1 : s.table.length * 16 ≤ 140737488355328) (b2 : s.floors.length * 8 ≤ 140737488355328) (b3 : s.sills.length * 24 ≤ 140737488355328) :
    Calls Tryz.prog 9 #[sdVal s pT pF pS cT cF cS] w fun e w' => ∃ qT qF qS dT dF dS, e = .returned (sdVal s qT qF qS dT dF dS) ∧ Lists w' s qT qF qS dT dF dS ∧ Up w w' ∧ Fresh w.heap.size s qT qF qS := by
  have D2 := Lib.hid (fun W (u : Up w W) => dupInt_c s.floors pF cF W (hl.rf.up u) b2)
  have HL := Lib.hid hl
  clear hl
  unfold sdVal
  go_enter Tryz.func9, Tryz.ntmps9
  go_upto_region 1 with fail
  refine Code.wp_world ?_
  intro w0 hw0
  have u0 : Up w w0 := by rw [hw0]; (repeat (first | exact Below.refl _ _ | (with_reducible refine Below.drewN' ?_ _) | (with_reducible refine Below.drew ?_) | (with_reducible refine Below.setCell ?_ (by first | exact Nat.le_refl _ | omega | (with_reducible (repeat (first | refine sz_alloc ?_ | refine sz_setCell ?_ | refine sz_drew ?_ | refine sz_drewN ?_)); first | exact Nat.le_refl _ | omega) | (simp only [World.size_alloc, World.size_setCell, World.size_drew, size_drewN']; omega)) _) | (with_reducible refine Below.alloc ?_ (by first | exact Nat.le_refl _ | omega | (with_reducible (repeat (first | refine sz_alloc ?_ | refine sz_setCell ?_ | refine sz_drew ?_ | refine sz_drewN ?_)); first | exact Nat.le_refl _ | omega) | (simp only [World.size_alloc, World.size_setCell, World.size_drew, size_drewN']; omega)) _) | assumption))
  have z0 : w0.heap.size = w.heap.size + 2 := by rw [hw0]; simp
  have hB : Blk w0 w.heap.size (sdCells s pT pF pS cT cF cS) 28 := by rw [hw0]; exact (Blk.new w _ _).alloc _
  have hR : Blk w0 (w.heap.size + 1) [.slice none 0 0, .int .i64 0, .int .i64 0, .slice none 0 0, .slice none 0 0] 35 := by rw [hw0]; exact Blk.new' _ [.slice none 0 0, .int .i64 0, .int .i64 0, .slice none 0 0, .slice none 0 0] _ (by simp)
  clear hw0
  have c0 := hB.cell 0
  have c1 := hB.cell 1
  have c2 := hB.cell 2
  have c3 := hB.cell 3
  have c4 := hB.cell 4
  simp only [sdCells, List.getElem?_cons_zero, List.getElem?_cons_succ] at c0 c1 c2 c3 c4
  have HB := Lib.hid hB
  have HR := Lib.hid hR
  have HU0 := Lib.hid u0
  have HZ0 := Lib.hid z0
  clear hB hR u0 z0
  go_cut [3] (fun v wx => ∃ B q d, v = .pointer (some ⟨B, 0, none⟩) ∧ w.heap.size + 2 ≤ B ∧ Up w0 wx ∧ Blk wx B [.slice none 0 0, .int .i64 s.lo, .int .i64 s.hi, .slice q s.floors.length d, .slice none 0 0] 35 ∧ s.floors.length ≤ d ∧ d ≤ maxLen ∧ Row wx q 1 (ints s.floors) ∧ (0 < (ints s.floors).length → ∀ b off, q = some ⟨b, off, none⟩ → (b < wx.heap.size ∧ b ≠ B) ∧ w.heap.size + 2 ≤ b))
  case first =>
    have DA : Hid (Calls Tryz.prog 10 #[.slice pF s.floors.length cF] ((w0.alloc (.cells #[.slice none 0 0, .int .i64 0, .int .i64 0, .slice none 0 0, .slice none 0 0] 35)).drew) (fun e w1 => ∃ p' c', e = .returned (.slice p' s.floors.length c') ∧ s.floors.length ≤ c' ∧ c' ≤ maxLen ∧ Row w1 p' 1 (ints s.floors) ∧ (∀ b off, p' = some ⟨b, off, none⟩ → w0.heap.size + 1 ≤ b) ∧ Up w0 w1 ∧ Blk w1 w0.heap.size [.slice none 0 0, .int .i64 0, .int .i64 0, .slice none 0 0, .slice none 0 0] 35)) := by
      have u : Up w0 ((w0.alloc (.cells #[.slice none 0 0, .int .i64 0, .int .i64 0, .slice none 0 0, .slice none 0 0] 35)).drew) := by (repeat (first | exact Below.refl _ _ | (with_reducible refine Below.drewN' ?_ _) | (with_reducible refine Below.drew ?_) | (with_reducible refine Below.setCell ?_ (by first | exact Nat.le_refl _ | omega | (with_reducible (repeat (first | refine sz_alloc ?_ | refine sz_setCell ?_ | refine sz_drew ?_ | refine sz_drewN ?_)); first | exact Nat.le_refl _ | omega) | (simp only [World.size_alloc, World.size_setCell, World.size_drew, size_drewN']; omega)) _) | (with_reducible refine Below.alloc ?_ (by first | exact Nat.le_refl _ | omega | (with_reducible (repeat (first | refine sz_alloc ?_ | refine sz_setCell ?_ | refine sz_drew ?_ | refine sz_drewN ?_)); first | exact Nat.le_refl _ | omega) | (simp only [World.size_alloc, World.size_setCell, World.size_drew, size_drewN']; omega)) _) | assumption))
      refine (D2.out _ (Up.trans HU0.out u)).mono fun e w1 ⟨p', c', h1, h2, h3, h4, h5, h6⟩ => ⟨p', c', h1, h2, h3, h4, fun b off e => ?_, Up.trans u h6, Blk.up ((Blk.new w0 [.slice none 0 0, .int .i64 0, .int .i64 0, .slice none 0 0, .slice none 0 0] _).drew) h6⟩
      have := h5 b off e
      simpa using this
    have DB : Hid (Calls Tryz.prog 10 #[.slice pF s.floors.length cF] w0.drew (fun e w1 => ∃ p' c', e = .returned (.slice p' s.floors.length c') ∧ s.floors.length ≤ c' ∧ c' ≤ maxLen ∧ Row w1 p' 1 (ints s.floors) ∧ (∀ b off, p' = some ⟨b, off, none⟩ → w0.heap.size ≤ b) ∧ Up w0 w1)) := by
      have u : Up w0 w0.drew := (Below.refl _ _).drew
      exact (D2.out _ (Up.trans HU0.out u)).mono fun e w1 ⟨p', c', h1, h2, h3, h4, h5, h6⟩ => ⟨p', c', h1, h2, h3, h4, h5, Up.trans u h6⟩
    go_region_held3 (fun w' => w'.cell? ⟨w.heap.size, 1, none⟩ = some (.int .i64 s.lo) ∧ w'.cell? ⟨w.heap.size, 2, none⟩ = some (.int .i64 s.hi) ∧ w'.cell? ⟨w.heap.size, 3, none⟩ = some (.slice pF s.floors.length cF) ∧ Up w0 w')
      (refine ⟨Up.cellAt (w := w0) ?_ c1, Up.cellAt (w := w0) ?_ c2, Up.cellAt (w := w0) ?_ c3, ?_⟩ <;> (repeat (first | exact Below.refl _ _ | (with_reducible refine Below.drewN' ?_ _) | (with_reducible refine Below.drew ?_) | (with_reducible refine Below.setCell ?_ (by first | exact Nat.le_refl _ | omega | (with_reducible (repeat (first | refine sz_alloc ?_ | refine sz_setCell ?_ | refine sz_drew ?_ | refine sz_drewN ?_)); first | exact Nat.le_refl _ | omega) | (simp only [World.size_alloc, World.size_setCell, World.size_drew, size_drewN']; omega)) _) | (with_reducible refine Below.alloc ?_ (by first | exact Nat.le_refl _ | omega | (with_reducible (repeat (first | refine sz_alloc ?_ | refine sz_setCell ?_ | refine sz_drew ?_ | refine sz_drewN ?_)); first | exact Nat.le_refl _ | omega) | (simp only [World.size_alloc, World.size_setCell, World.size_drew, size_drewN']; omega)) _) | assumption)))
      (first
        | (go_at_call 10; with_reducible refine DA.out.mono ?_; rintro e w1 ⟨p', c', rfl, r1, r2, r3, r4, v1, hN⟩; have n0 := hN.cell 0; have n1 := hN.cell 1; have n2 := hN.cell 2; have n3 := hN.cell 3; have n4 := hN.cell 4; have nf := hN.free; have nl := hN.lt; simp only [List.getElem?_cons_zero, List.getElem?_cons_succ] at n0 n1 n2 n3 n4)
        | (go_at_call 10; with_reducible refine DB.out.mono ?_; rintro e w1 ⟨p', c', rfl, r1, r2, r3, r4, v1⟩; have sz := v1.size))
    · go_wp2_with fail
      go_meet
      refine ⟨w1.heap.size, p', c', rfl, ?_, ?_, ?_, r1, r2, ?_, ?_⟩
      · have := HZ0.out; omega
      · exact v1.alloc (by omega) _
      · exact Blk.new _ [.slice none 0 0, .int .i64 s.lo, .int .i64 s.hi, .slice p' s.floors.length c', .slice none 0 0] _
      · exact r3.up (by (repeat (first | exact Below.refl _ _ | (with_reducible refine Below.drewN' ?_ _) | (with_reducible refine Below.drew ?_) | (with_reducible refine Below.setCell ?_ (by first | exact Nat.le_refl _ | omega | (with_reducible (repeat (first | refine sz_alloc ?_ | refine sz_setCell ?_ | refine sz_drew ?_ | refine sz_drewN ?_)); first | exact Nat.le_refl _ | omega) | (simp only [World.size_alloc, World.size_setCell, World.size_drew, size_drewN']; omega)) _) | (with_reducible refine Below.alloc ?_ (by first | exact Nat.le_refl _ | omega | (with_reducible (repeat (first | refine sz_alloc ?_ | refine sz_setCell ?_ | refine sz_drew ?_ | refine sz_drewN ?_)); first | exact Nat.le_refl _ | omega) | (simp only [World.size_alloc, World.size_setCell, World.size_drew, size_drewN']; omega)) _) | assumption)))
      · intro hl b off e
        have hlt := r3.lt (ints_pos _) hl e
        have hr := r4 b off e
        have := HZ0.out
        rw [World.size_alloc]
        omega
    · go_wp2_with fail
      go_meet
      refine ⟨w0.heap.size, p', c', rfl, ?_, ?_, ?_, r1, r2, ?_, ?_⟩
      · have := HZ0.out; omega
      · repeat (first | (with_reducible exact v1) | (with_reducible refine Below.setCell ?_ (by simp only; omega) _))
      · exact ((((hN.set 0 _).set 1 _).set 2 _).set 3 _).set 4 _
      · have hq : ∀ b off, p' = some ⟨b, off, none⟩ → b ≠ w0.heap.size := fun b off e => by have := r4 b off e; omega
        repeat (with_reducible refine Row.other ?_ hq _)
        exact r3
      · intro hl b off e
        have hlt := r3.lt (ints_pos _) hl e
        have hr := r4 b off e
        have := HZ0.out
        simp only [World.size_setCell]
        omega
  case rest =>
    obtain ⟨B, q, d, rfl, hB2, hu, hBk, h1, h2, hq, hqb⟩ := hcut
    have U := Lib.hid (Up.trans HU0.out hu)
    have HLc := Lib.hid (HL.out.up U.out)
    have HL0 := Lib.hid HL.out
    have HRc := Lib.hid (HR.out.up hu)
    have HBc := Lib.hid (HB.out.up hu)
    have k0 := hu.cellAt c0
    have HBk := Lib.hid hBk
    have lB := hBk.lt
    have HQ := Lib.hid hq
    have HQB := Lib.hid hqb
    clear hq hqb hBk hu HU0 HR HB HL D2 c0 c1 c2 c3 c4
    go_wp2_with fail
    obtain ⟨i0, hi, hz0, hz1, hz2⟩ := info_parts infoRW
    go_loopw [17] (fun i wr => ∃ k : Nat, k ≤ s.table.length ∧ i = .int .i64 k ∧ ∃ v, Blk wr B [v, .int .i64 s.lo, .int .i64 s.hi, .slice q s.floors.length d, .slice none 0 0] 35 ∧ wr.ownsRow wc.heap.size 98 2 v k (pairs (s.table.take k)).flatten ∧ Far B wc.heap.size wc wr) (fun i _ => s.table.length - (intOf i).toNat)
    case atStart => exact ⟨0, Nat.zero_le _, rfl, _, HBk.out, World.ownsRow_nil _ _ _ _, Far.refl _ _ _⟩
    case round =>
      obtain ⟨k, hk, rfl, v, hBk, hown, hfar⟩ := hrel
      have HF := Lib.hid hfar
      have UR : Hid (Up w wr) := (Below.trans U.out (hfar.below (b := w.heap.size) (by omega) (by have := U.out.size; omega)))
      have szr := hfar.size
      have HBk1 := Lib.hid hBk
      have HO := Lib.hid hown
      have q0 := hBk.cell 0
      have q1 := hBk.free 0
      have q2 := hBk.lt
      simp only [List.getElem?_cons_zero] at q0
      clear hBk hfar
      by_cases hlt : k < s.table.length
      · obtain ⟨b, off, rfl, d0, d1⟩ := HLc.out.rt.pair k hlt
        have HP := Lib.hid (pairs_take hlt)
        have x0 : wr.cell? ⟨b, off + k * 2, none⟩ = some (.int .i64 s.table[k].1) := by
          obtain ⟨b', off', e', y0, -⟩ := HL0.out.rt.pair k hlt
          simp only [Option.some.injEq, Addr.mk.injEq, and_true] at e'
          obtain ⟨rfl, rfl⟩ := e'
          exact UR.out.cellAt y0
        have x1 : wr.cell? ⟨b, off + k * 2 + 1, none⟩ = some (.int .i64 s.table[k].2) := by
          obtain ⟨b', off', e', -, y1⟩ := HL0.out.rt.pair k hlt
          simp only [Option.some.injEq, Addr.mk.injEq, and_true] at e'
          obtain ⟨rfl, rfl⟩ := e'
          exact UR.out.cellAt y1
        clear d0 d1
        have bl1 : (k : Int) < (s.table.length : Int) := by omega
        have bl2 : (0 : Int) ≤ k := by omega
        have sk : IntKind.i64.wrap ((k : Int) + 1) = (k : Int) + 1 := IntWalk.i64_in _ (by omega)
        generalize s.table[k] = x at *
        obtain ⟨xa, xb⟩ := x
        dsimp only at x0 x1 HP
        generalize (pairs (s.table.take k)).flatten = xs at *
        have HX := Lib.hid HP.out
        clear HP
        go_wp2_with (at_builtin; refine wpList_append_own _ rfl _ _ 32 rfl wc.heap.size 98 i0 (.agg #[.int .i64 0, .int .i64 0]) 2 16 Tryz.underlying32 hi hz0 hz1 hz2 rfl (by decide) _ _ _ rfl ((hown.alloc _).alloc _) ⟨wr.heap.size + 1, 0, none⟩ 1 1 [.int .i64 xa, .int .i64 xb] rfl rfl (newsAt _ (by simp) [.int .i64 xa, .int .i64 xb] _) (by simp [Value.oneCell']) (by simp [maxLen]; omega) (by omega) (by simp; omega) ?_; intro v' w1 hown1 hgr hnn; clear hnn; have HG : Hid (((wr.alloc (.cells #[.int .i64 xa, .int .i64 xb] 78)).alloc (.cells #[.int .i64 xa, .int .i64 xb] 98)).grownBy w1 v.ownBlock) := hgr; have HB1 := Lib.hid (((HBk1.out.alloc _).alloc _).grown HG.out (fun e => by have := HO.out.lt B e.symm; omega)); have q0 := HB1.out.cell 0; have q1 := HB1.out.free 0; have q2 := HB1.out.lt; have HO1 := Lib.hid hown1; obtain ⟨g', cap', rfl⟩ := ownsRow_succ hown1; simp only [List.getElem?_cons_zero] at q0; clear hown1 hgr)
        go_roundw
        case rel =>
          refine ⟨k + 1, hlt, by go_num, _, HB1.out.set 0 _, ?_, ?_⟩
          · rw [HX.out]
            exact ownsRow_setCell_other HO1.out (fun e => by have := HO1.out.lt B e; omega) _
          · refine ((((HF.out.alloc (by omega) _).alloc (by simp; omega) _).grown HG.out (by simp; omega) (fun j e => (HO.out.lt j e).1)).setIn 0 _)
        case measure => simp [intOf]; omega
      · obtain rfl : k = s.table.length := by omega
        rw [List.take_length] at hown
        obtain ⟨qT, dT, rfl, e1, e2, hT, hTb⟩ := Row.of_own (flatOk_pairs s.table) hown (by simp [pairs])
        have HT := Lib.hid hT
        have HTB := Lib.hid hTb
        have zb := HZ0.out
        have hsB := HF.out.blk HBc.out (by have := HBc.out.lt; omega) (by omega)
        have HS2 := Lib.hid hsB
        have HR2 := Lib.hid (HF.out.blk HRc.out (by have := HRc.out.lt; omega) (by omega))
        have HQ2 := Lib.hid (HF.out.row HQ.out (fun h b off e => (HQB.out h b off e).1))
        have k4 := hsB.cell 4
        simp only [sdCells, List.getElem?_cons_zero, List.getElem?_cons_succ] at k4
        have HB2 := Lib.hid HBk1.out
        clear hT hTb hown zb hsB HBk1 HO HQ HRc HBc HBk q0 q1 k0 HLc hi hz0 hz1 hz2
        obtain ⟨i1, hi, hz0, hz1, hz2⟩ := info_parts infoRS
        obtain ⟨wo, rfl⟩ : ∃ wo : World, wo = wr := ⟨_, rfl⟩
        go_wp2_with fail
        go_loopw [31] (fun i wq => ∃ k : Nat, k ≤ s.sills.length ∧ i = .int .i64 k ∧ ∃ v, Blk wq B [.slice qT s.table.length dT, .int .i64 s.lo, .int .i64 s.hi, .slice q s.floors.length d, v] 35 ∧ wq.ownsRow wo.heap.size 99 3 v k (triples (s.sills.take k)).flatten ∧ Far B wo.heap.size wo wq) (fun i _ => s.sills.length - (intOf i).toNat)
        case atStart => exact ⟨0, Nat.zero_le _, rfl, _, HB2.out, World.ownsRow_nil _ _ _ _, Far.refl _ _ _⟩
        case round =>
          obtain ⟨j, hj, rfl, v, hBk, hown, hfar⟩ := hrel
          have HF2 := Lib.hid hfar
          have UR2 : Hid (Up w wr) := (Below.trans UR.out (hfar.below (b := w.heap.size) (by omega) (by have := UR.out.size; omega)))
          have szq := hfar.size
          have HBk1 := Lib.hid hBk
          have HO := Lib.hid hown
          have q0 := hBk.cell 4
          have q1 := hBk.free 4
          have q2 := hBk.lt
          simp only [List.getElem?_cons_zero, List.getElem?_cons_succ] at q0
          clear hBk hfar
          by_cases hltj : j < s.sills.length
          · have HP := Lib.hid (triples_take hltj)
            have hx : ∃ b off, pS = some ⟨b, off, none⟩ ∧ wr.cell? ⟨b, off + j * 3, none⟩ = some (.int .i64 s.sills[j].1) ∧ wr.cell? ⟨b, off + j * 3 + 1, none⟩ = some (.int .i64 s.sills[j].2.1) ∧ wr.cell? ⟨b, off + j * 3 + 2, none⟩ = some (.int .i64 s.sills[j].2.2) := by
              obtain ⟨b, off, e', y0, y1, y2⟩ := HL0.out.rs.triple j hltj
              exact ⟨b, off, e', UR2.out.cellAt y0, UR2.out.cellAt y1, UR2.out.cellAt y2⟩
            obtain ⟨b, off, rfl, x0, x1, x2⟩ := hx
            have bl1 : (j : Int) < (s.sills.length : Int) := by omega
            have bl2 : (0 : Int) ≤ j := by omega
            have sk : IntKind.i64.wrap ((j : Int) + 1) = (j : Int) + 1 := IntWalk.i64_in _ (by omega)
            generalize s.sills[j] = x at *
            obtain ⟨xa, xb, xc⟩ := x
            dsimp only at x0 x1 x2 HP
            generalize (triples (s.sills.take j)).flatten = xs at *
            have HX := Lib.hid HP.out
            clear HP
            go_wp2_with (at_builtin; refine wpList_append_own _ rfl _ _ 33 rfl wo.heap.size 99 i1 (.agg #[.int .i64 0, .int .i64 0, .int .i64 0]) 3 24 Tryz.underlying33 hi hz0 hz1 hz2 rfl (by decide) _ _ _ rfl ((hown.alloc _).alloc _) ⟨wr.heap.size + 1, 0, none⟩ 1 1 [.int .i64 xa, .int .i64 xb, .int .i64 xc] rfl rfl (newsAt _ (by simp) [.int .i64 xa, .int .i64 xb, .int .i64 xc] _) (by simp [Value.oneCell']) (by simp [maxLen]; omega) (by omega) (by simp; omega) ?_; intro v' w1 hown1 hgr hnn; clear hnn; have HG : Hid (((wr.alloc (.cells #[.int .i64 xa, .int .i64 xb, .int .i64 xc] 80)).alloc (.cells #[.int .i64 xa, .int .i64 xb, .int .i64 xc] 99)).grownBy w1 v.ownBlock) := hgr; have HB1 := Lib.hid (((HBk1.out.alloc _).alloc _).grown HG.out (fun e => by have := HO.out.lt B e.symm; omega)); have q0 := HB1.out.cell 4; have q1 := HB1.out.free 4; have q2 := HB1.out.lt; have HO1 := Lib.hid hown1; obtain ⟨g', cap', rfl⟩ := ownsRow_succ hown1; simp only [List.getElem?_cons_zero, List.getElem?_cons_succ] at q0; clear hown1 hgr)
            go_roundw
            case rel =>
              refine ⟨j + 1, hltj, by go_num, _, HB1.out.set 4 _, ?_, ?_⟩
              · rw [HX.out]
                exact ownsRow_setCell_other HO1.out (fun e => by have := HO1.out.lt B e; omega) _
              · refine ((((HF2.out.alloc (by omega) _).alloc (by simp; omega) _).grown HG.out (by simp; omega) (fun j e => (HO.out.lt j e).1)).setIn 4 _)
            case measure => simp [intOf]; omega
          · obtain rfl : j = s.sills.length := by omega
            rw [List.take_length] at hown
            obtain ⟨qS, dS, rfl, f1, f2, hS, hSb⟩ := Row.of_own (flatOk_triples s.sills) hown (by simp [triples])
            have HS := Lib.hid hS
            have zb := HZ0.out
            have HQ3 := Lib.hid (HF2.out.row HQ2.out (fun h b off e => by obtain ⟨⟨h1, h2⟩, -⟩ := HQB.out h b off e; exact ⟨by omega, h2⟩))
            have HT3 := Lib.hid (HF2.out.row HT.out (fun h b off e => by have h1 := HTB.out b off e; exact ⟨HT.out.lt (pairs_pos _) h e, by omega⟩))
            have HSB := Lib.hid (fun b off (e : qS = some ⟨b, off, none⟩) => hSb b off e)
            have hR := HF2.out.blk HR2.out (by have := HR2.out.lt; omega) (by omega)
            have HR3 := Lib.hid hR
            have z0 := hR.cell 0
            have z1 := hR.cell 1
            have z2 := hR.cell 2
            have z3 := hR.cell 3
            have z4 := hR.cell 4
            have fr := hR.free
            have lR := hR.lt
            have y0 := HBk1.out.cell 0
            have y1 := HBk1.out.cell 1
            have y2 := HBk1.out.cell 2
            have y3 := HBk1.out.cell 3
            simp only [List.getElem?_cons_zero, List.getElem?_cons_succ] at z0 z1 z2 z3 z4 y0 y1 y2 y3
            have HH := Lib.hid (show wc.heap.size ≥ w.heap.size + 2 by omega)
            have HFr : Hid (Fresh w.heap.size s qT q qS) := ⟨fun _ b off e => by have := HTB.out b off e; omega, fun h b off e => by have := (HQB.out (by simpa [ints] using h) b off e).2; omega, fun _ b off e => by have := hSb b off e; omega⟩
            clear hR hS hSb hown zb HO HF HF2 HT HQ2 HS2 HR2 HB2 hi hz0 hz1 hz2 k4
            go_wp2_with fail
            have hB := ((((HR3.out.set 0 (.slice qT s.table.length dT)).set 1 (.int .i64 s.lo)).set 2 (.int .i64 s.hi)).set 3 (.slice q s.floors.length d)).set 4 (.slice qS s.sills.length dS)
            simp only [List.set_cons_zero, List.set_cons_succ] at hB
            have p0 := hB.cell 0
            have p1 := hB.cell 1
            have p2 := hB.cell 2
            have p3 := hB.cell 3
            have p4 := hB.cell 4
            simp only [List.getElem?_cons_zero, List.getElem?_cons_succ] at p0 p1 p2 p3 p4
            refine bodyPost_ret (v := .agg #[.slice qT s.table.length dT, .int .i64 s.lo, .int .i64 s.hi, .slice q s.floors.length d, .slice qS s.sills.length dS]) (by simp [results, Tryz.f9, go_sem, p0, p1, p2, p3, p4]) rfl ⟨qT, q, qS, dT, d, dS, rfl, ⟨?_, ?_, ?_, e1, h1, f1, e2, h2, f2⟩, ?_, HFr.out⟩
            · have hh := HH.out
              repeat (with_reducible refine Row.away ?_ (fun _ b off e => by have := HTB.out b off e; simp only; omega) _)
              exact HT3.out
            · repeat (with_reducible refine Row.away ?_ (fun h b off e => by have := (HQB.out h b off e).2; simp only; omega) _)
              exact HQ3.out
            · have hh := HH.out
              repeat (with_reducible refine Row.away ?_ (fun _ b off e => by have := HSB.out b off e; simp only; omega) _)
              exact HS.out
            · have h4 := UR2.out
              repeat (first | (with_reducible exact h4) | (with_reducible refine Below.setCell ?_ (by simp only; omega) _))
end
end Go.Proofs.YtknaajofcbenaaaGreat
/- Plain law: a region that draws its order, by what holds however far it has come: each operation is carried out once, at whatever point, and not once for each order. -/
namespace Go.Proofs.YtknaajofcbenaaaGreat
open Go.RowKit Go.Shelf

def cnt (g : Nat → Bool) : Nat → Nat
  | 0 => 0
  | n + 1 => cnt g n + if g n = true then 0 else 1
def upd (g : Nat → Bool) (i : Nat) : Nat → Bool := fun j => g j || j == i
theorem cnt_far (g : Nat → Bool) (i : Nat) : ∀ n, n ≤ i → cnt (upd g i) n = cnt g n
  | 0, _ => rfl
  | n + 1, h => by
    have h1 : upd g i n = g n := by
      have : (n == i) = false := by rw [beq_eq_false_iff_ne]; omega
      simp [upd, this]
    simp only [cnt, h1, cnt_far g i n (by omega)]
theorem cnt_set (g : Nat → Bool) (i : Nat) (hg : g i = false) : ∀ n, i < n → cnt g n = cnt (upd g i) n + 1
  | 0, h => by omega
  | n + 1, h => by
    by_cases e : i = n
    · subst e
      have h1 : upd g i i = true := by simp [upd]
      simp only [cnt, h1, hg, cnt_far g i i (Nat.le_refl _)]
      simp
    · have h1 : upd g i n = g n := by
        have : (n == i) = false := by rw [beq_eq_false_iff_ne]; omega
        simp [upd, this]
      simp only [cnt, h1, cnt_set g i hg n (by omega)]
      omega
theorem cnt_none (n : Nat) : cnt (fun _ => false) n = n := by
  induction n with
  | zero => rfl
  | succ n ih => simp [cnt, ih]
theorem cnt_zero {g : Nat → Bool} : ∀ {n}, cnt g n = 0 → ∀ j, j < n → g j = true
  | 0, _, j, h => by omega
  | n + 1, h, j, hj => by
    simp only [cnt] at h
    by_cases e : g n = true
    · by_cases ej : j = n
      · subst ej; exact e
      · exact cnt_zero (n := n) (by rw [if_pos e] at h; omega) j (by omega)
    · rw [if_neg e] at h; omega
theorem cnt_first {g : Nat → Bool} : ∀ {n}, 0 < cnt g n → ∃ j, j < n ∧ g j = false ∧ ∀ k, k < j → g k = true
  | 0, h => by simp [cnt] at h
  | n + 1, h => by
    by_cases h0 : 0 < cnt g n
    · obtain ⟨j, h1, h2, h3⟩ := cnt_first h0
      exact ⟨j, by omega, h2, h3⟩
    · have hz := cnt_zero (g := g) (n := n) (by omega)
      refine ⟨n, by omega, ?_, hz⟩
      cases e : g n
      · rfl
      · simp only [cnt, e, if_true] at h; omega

/-- each operation waits for earlier ones alone -/
def backward (ops : Array Oper) : Bool := (List.range ops.size).all fun i => match ops[i]? with | some o => o.after.all (fun e => decide (e.on < i)) | none => true

/-- t waits for j, at once or by way of others -/
def waitsT (md : Region.Mode) (ops : Array Oper) (N : Nat) : Nat → Nat → Nat → Bool
  | 0, t, j => Region.waitsFor md ops t j
  | f + 1, t, j => Region.waitsFor md ops t j || (List.range N).any fun k => Region.waitsFor md ops t k && waitsT md ops N f k j
/-- each operation from N on waits for each before N, at once or by way of others -/
def tailWaits2 (md : Region.Mode) (ops : Array Oper) (N : Nat) : Bool :=
  (List.range ops.size).all fun t => decide (t < N) || (List.range N).all fun j => waitsT md ops N 6 t j

/-- what has come up has come up behind all that it waits for -/
def Closed (md : Region.Mode) (ops : Array Oper) (g : Nat → Bool) : Prop := ∀ (i : Nat) (o : Oper), ops[i]? = some o → g i = true → ∀ e ∈ o.after, Region.binds md e = true → g e.on = true

theorem Closed.all {md : Region.Mode} {ops : Array Oper} {N : Nat} {g : Nat → Bool} (hcl : Closed md ops g) : ∀ (f t j : Nat), g t = true → waitsT md ops N f t j = true → g j = true := by
  have one : ∀ t j, g t = true → Region.waitsFor md ops t j = true → g j = true := fun t j ht h => by
    obtain ⟨o, ho, e, he, hb, hon⟩ := Region.waitsFor_spec h
    rw [← hon]
    exact hcl t o ho ht e he hb
  intro f
  induction f with
  | zero => exact fun t j ht h => one t j ht h
  | succ f ih =>
    intro t j ht h
    simp only [waitsT, Bool.or_eq_true, List.any_eq_true, Bool.and_eq_true] at h
    rcases h with h | ⟨k, -, h1, h2⟩
    · exact one t j ht h
    · exact ih k j (one t k ht h1) h2

theorem head_of_ready2 {md : Region.Mode} {ops : Array Oper} {N : Nat} {listed : Array Bool} {i j : Nat} (ht : tailWaits2 md ops N = true) (hcl : Closed md ops (fun j => listed.getD j false)) (hi : i < N) (hun : listed.getD i false = false) (hj : j ∈ Region.ready md ops listed) : j < N := by
  rcases Nat.lt_or_ge j N with h | h
  · exact h
  · exfalso
    obtain ⟨_, oj, hoj, hall⟩ := mem_ready.1 hj
    have hjs : j < ops.size := (Array.getElem?_eq_some_iff.1 hoj).1
    have h1 := List.all_eq_true.1 ht j (List.mem_range.2 hjs)
    simp only [Bool.or_eq_true, decide_eq_true_eq] at h1
    have h2 := h1.resolve_left (by omega)
    have h3 := List.all_eq_true.1 h2 i (List.mem_range.2 hi)
    have one : ∀ k, Region.waitsFor md ops j k = true → listed.getD k false = true := fun k hk => by
      obtain ⟨o', ho', e, he, hb, hon⟩ := Region.waitsFor_spec hk
      have : o' = oj := Option.some.inj (ho'.symm.trans hoj)
      subst this
      rw [← hon]
      exact hall e he hb
    simp only [waitsT, Bool.or_eq_true, List.any_eq_true, Bool.and_eq_true] at h3
    rcases h3 with h3 | ⟨k, -, h4, h5⟩
    · rw [one i h3] at hun; cases hun
    · have h6 : listed.getD i false = true := hcl.all (N := N) 5 k i (one k h4) (by simp only [waitsT, Bool.or_eq_true, List.any_eq_true, Bool.and_eq_true]; exact h5)
      rw [h6] at hun; cases hun

section
variable {P : Program} {Q : Exit → Act → World → Prop} {N : Nat}

theorem inv_G {md : Region.Mode} {ops : Array Oper} {R : Array Bool → Act → World → Prop} (Inv : (Nat → Bool) → Act → World → Prop) (hb : backward ops = true) (ht : tailWaits2 md ops N = true) (hN : N ≤ ops.size)
    (step : ∀ (done : Nat → Bool) (a : Act) (w : World) (i : Nat) (o : Oper), i < N → done i = false → ops[i]? = some o → (∀ e ∈ o.after, Region.binds md e = true → done e.on = true) → Inv done a w → wpOp P ops Q i (fun a' w' => Inv (upd done i) a' w') a w)
    (hR : ∀ (listed : Array Bool) (a : Act) (w : World), listed.size = ops.size → (∀ j, listed.getD j false = decide (j < N)) → Inv (fun j => decide (j < N)) a w → R listed a w) :
    ∀ (f : Nat) (listed : Array Bool) (a : Act) (w : World), listed.size = ops.size → (∀ j, N ≤ j → listed.getD j false = false) → cnt (fun j => listed.getD j false) N = f → Closed md ops (fun j => listed.getD j false) → Inv (fun j => listed.getD j false) a w →
      wpAnyG P md ops Q (fun _ => True) N R f listed a w
  | 0, listed, a, w, hs, hf, hc, _, hi => by
    have hall := cnt_zero hc
    have hg : ∀ j, listed.getD j false = decide (j < N) := fun j => by
      by_cases h : j < N
      · rw [hall j h]; simp [h]
      · rw [hf j (by omega)]; simp [h]
    refine ⟨hall, hR listed a w hs hg ?_⟩
    rw [show (fun j => listed.getD j false) = (fun j => decide (j < N)) from funext hg] at hi
    exact hi
  | f + 1, listed, a, w, hs, hf, hc, hcl, hi => by
    obtain ⟨j, hj, hun, hbefore⟩ := cnt_first (g := fun j => listed.getD j false) (n := N) (by omega)
    have hjs : j < ops.size := by omega
    have hready : j ∈ Region.ready md ops listed := by
      refine mem_ready.2 ⟨?_, ops[j], Array.getElem?_eq_getElem hjs, fun e he _ => ?_⟩
      · have hun' : listed.getD j false = false := hun
        rw [Array.getD_eq_getD_getElem?] at hun' ⊢
        rw [Array.getElem?_eq_getElem (by omega)] at hun' ⊢
        exact hun'
      · have h1 := List.all_eq_true.1 hb j (List.mem_range.2 hjs)
        rw [Array.getElem?_eq_getElem hjs] at h1
        have h2 := (Array.all_eq_true_iff_forall_mem.1 h1) e he
        simp only [decide_eq_true_eq] at h2
        exact hbefore _ h2
    refine ⟨fun h0 => (by rw [h0] at hready; cases hready), fun i hir => ?_⟩
    have hiN := head_of_ready2 ht hcl hj hun hir
    obtain ⟨hiun, o, ho, hall⟩ := mem_ready.1 hir
    have hiun' : listed.getD i false = false := getD_both hiun
    refine ⟨hiN, wpOp_mono (fun a' w' h' => ⟨trivial, ?_⟩) (step (fun j => listed.getD j false) a w i o hiN hiun' ho hall hi)⟩
    have hset : (fun j => (listed.setIfInBounds i true).getD j false) = upd (fun j => listed.getD j false) i := by
      funext k
      by_cases hk : i = k
      · subst hk
        have : i < (listed.setIfInBounds i true).size := by simp; omega
        rw [Array.getD_eq_getD_getElem?, Array.getElem?_eq_getElem this]
        simp [upd]
      · rw [getD_set_ne false hk]
        have : (k == i) = false := by rw [beq_eq_false_iff_ne]; omega
        simp [upd, this]
    refine inv_G Inv hb ht hN step hR f _ a' w' (by simpa using hs) (fun k hk => ?_) ?_ ?_ ?_
    · rw [getD_set_ne false (by omega)]; exact hf k hk
    · rw [hset]
      have := cnt_set (fun j => listed.getD j false) i hiun' N hiN
      omega
    · rw [hset]
      intro k ok hok hk e he hb
      have hk' : listed.getD k false = true ∨ k = i := by simpa [upd] using hk
      have : listed.getD e.on false = true := by
        rcases hk' with hk' | rfl
        · exact hcl k ok hok hk' e he hb
        · have : ok = o := Option.some.inj (hok.symm.trans ho)
          subst this
          exact hall e he hb
      simp [upd, this]
    · rw [hset]; exact h'

theorem none_listed (n j : Nat) : (Array.replicate n false).getD j false = false := by
  rw [Array.getD_eq_getD_getElem?]
  by_cases h : j < n
  · rw [Array.getElem?_eq_getElem (by simpa using h)]; simp
  · rw [Array.getElem?_eq_none (by simp; omega)]; rfl

/-- what is known of what has been carried out, and one more -/
theorem facts_upd {P : Nat → Value → Prop} {done : Nat → Bool} {v : Nat → Value} {i : Nat} {x : Value} (h : ∀ k, done k = true → P k (v k)) (hx : P i x) : ∀ k, upd done i k = true → P k (if k = i then x else v k) := by
  intro k hk
  by_cases e : k = i
  · subst e; rw [if_pos rfl]; exact hx
  · rw [if_neg e]
    have : (k == i) = false := by rw [beq_eq_false_iff_ne]; exact e
    simp only [upd, this, Bool.or_false] at hk
    exact h k hk

theorem listed_eq {listed : Array Bool} {n : Nat} (hs : listed.size = n) (hN : N ≤ n) (hg : ∀ j, listed.getD j false = decide (j < N)) : listed = (List.replicate N true ++ List.replicate (n - N) false).toArray := by
  apply Array.ext
  · simp; omega
  · intro i h1 h2
    have h3 := hg i
    rw [Array.getD_eq_getD_getElem?, Array.getElem?_eq_getElem h1] at h3
    simp only [Option.getD_some] at h3
    rw [h3]
    simp only [List.getElem_toArray]
    by_cases hi : i < N
    · rw [List.getElem_append_left (by simpa using hi)]; simp [hi]
    · rw [List.getElem_append_right (by simpa using hi)]; simp [hi]

/-- the order is right for the rule: the first N, in whatever order, then the others as they stand -/
def drawOk (md : Region.Mode) (l : List Oper) (N : Nat) : Bool :=
  decide (N ≤ l.length) && backward l.toArray && tailWaits2 md l.toArray N && (headDone N (List.replicate N true ++ List.replicate (l.length - N) false).toArray && Region.seqB md l.toArray (l.drop N).length N (List.replicate N true ++ List.replicate (l.length - N) false).toArray)

theorem region_inv {id : Nat} {l : List Oper} {a : Act} {w : World} (N : Nat) (Inv : (Nat → Bool) → Act → World → Prop) (hm : P.follows .mixedOrders = true) (hd : drawOk .any l N = true)
    (start : Inv (fun _ => false) a w.drew)
    (step : ∀ (done : Nat → Bool) (a : Act) (w : World) (i : Nat) (o : Oper), i < N → done i = false → l.toArray[i]? = some o → (∀ e ∈ o.after, Region.binds .any e = true → done e.on = true) → Inv done a w → wpOp P l.toArray Q i (fun a' w' => Inv (upd done i) a' w') a w)
    (tail : ∀ a w, Inv (fun j => decide (j < N)) a w → wpList P l.toArray Q (l.drop N) a w) : (Code.region id l.toArray true).wp P Q a w := by
  unfold drawOk at hd
  simp only [Bool.and_eq_true, decide_eq_true_eq] at hd
  obtain ⟨⟨⟨hN, hb⟩, ht⟩, hh, hseq⟩ := hd
  refine region_tail (fun _ => True) N hm (by simpa using hN) trivial (fun _ => ?_)
  refine inv_G Inv hb ht (by simpa using hN) step (fun listed a w hs hg hi => ?_) N _ a w.drew (by simp) (fun j _ => none_listed _ j) ?_ (fun i o _ hi => ?_) ?_
  · rw [listed_eq (n := l.length) (by simpa using hs) hN hg]
    have := wpAnyG_tail (P := P) (Q := Q) (S := fun _ => True) (a := a) (w := w) (by rw [Bool.and_eq_true]; exact ⟨hh, hseq⟩) (tail a w hi)
    exact this.2
  · have : (fun j => (Array.replicate l.toArray.size false).getD j false) = fun _ => false := by funext j; exact none_listed _ j
    rw [this]; exact cnt_none N
  · have hi' : (Array.replicate l.toArray.size false).getD i false = true := hi
    rw [none_listed] at hi'; cases hi'
  · have : (fun j => (Array.replicate l.toArray.size false).getD j false) = fun _ => false := by funext j; exact none_listed _ j
    rw [this]; exact start
end
end Go.Proofs.YtknaajofcbenaaaGreat
namespace Go.Proofs.YtknaajofcbenaaaGreat
open Go.RowKit Go.Shelf

section
variable {pT pF pS : Option Addr} {cT cF cS : Nat}

theorem wide_chk {s : Sd} (h : wideB s = true) : chk s = 2 := by
  have : okCounts s = false := by
    unfold okCounts
    unfold wideB at h
    simp only [Bool.or_eq_true, decide_eq_true_eq] at h
    rcases h with h | h | h
    · have : inB s.table.length 2 12 = false := by
        cases hb : inB s.table.length 2 12
        · rfl
        · have := inB_true.1 hb; omega
      rw [this]; rfl
    · have : inB s.floors.length 1 8 = false := by
        cases hb : inB s.floors.length 1 8
        · rfl
        · have := inB_true.1 hb; omega
      rw [this]; simp
    · have : decide ((s.sills.length : Int) ≤ 16) = false := by simp; omega
      rw [this]; simp
  unfold chk
  rw [if_pos this]

/-- blocks from n on, below N, lie as they lay -/
structure Mid (n N : Nat) (w w' : World) : Prop where
  size : w.heap.size ≤ w'.heap.size
  block : ∀ b, n ≤ b → b < N → w'.heap[b]? = w.heap[b]?
theorem Mid.refl (n N : Nat) (w : World) : Mid n N w w := ⟨Nat.le_refl _, fun _ _ _ => rfl⟩
theorem Mid.drew {n N : Nat} {w w' : World} (h : Mid n N w w') : Mid n N w w'.drew := ⟨h.size, h.block⟩
theorem Mid.up {n N : Nat} {w w' w'' : World} (h : Mid n N w w') (u : Up w' w'') (hN : N ≤ w'.heap.size) : Mid n N w w'' :=
  ⟨Nat.le_trans h.size u.size, fun b h1 h2 => (u.block b (by omega)).trans (h.block b h1 h2)⟩
theorem Mid.alloc {n N : Nat} {w w' : World} (h : Mid n N w w') (hN : N ≤ w'.heap.size) (o : Obj) : Mid n N w (w'.alloc o) := h.up ((Below.refl _ _).alloc (Nat.le_refl _) o) hN
theorem Mid.setCell {n N : Nat} {w w' : World} (h : Mid n N w w') {a : Addr} (ha : a.block < n ∨ N ≤ a.block) (v : Value) : Mid n N w (w'.setCell a v) :=
  ⟨by simpa [World.setCell] using h.size, fun b h1 h2 => (Below.heap_setCell w' a v b (by omega)).trans (h.block b h1 h2)⟩
theorem Mid.row {n N : Nat} {w w' : World} (h : Mid n N w w') {p : Option Addr} {k : Nat} {rows : List (List Value)} (hr : Row w p k rows) (hp : 0 < rows.length → ∀ b off, p = some ⟨b, off, none⟩ → n ≤ b) (hk : ∀ r ∈ rows, 0 < r.length) (hN : w.heap.size ≤ N) : Row w' p k rows := by
  intro i row hi
  have hl : 0 < rows.length := by have := (List.getElem?_eq_some_iff.1 hi).1; omega
  obtain ⟨b, off, e, hc⟩ := hr i row hi
  have h1 := hp hl b off e
  have h2 := hr.lt hk hl e
  exact ⟨b, off, e, fun j x hj => (World.cell?_of_block (a := ⟨b, off + i * k + j, none⟩) (h.block b h1 (by omega))).trans (hc j x hj)⟩
theorem triples_pos (l : List (Int × Int × Int)) : ∀ r ∈ triples l, 0 < r.length := fun r hr => by simp only [triples, List.mem_map] at hr; obtain ⟨x, -, rfl⟩ := hr; simp
theorem Mid.lists {n N : Nat} {w w' : World} {s : Sd} (h : Mid n N w w') (hl : Lists w s pT pF pS cT cF cS) (hf : Fresh n s pT pF pS) (hN : w.heap.size ≤ N) : Lists w' s pT pF pS cT cF cS :=
  ⟨h.row hl.rt (fun h => hf.1 (by simpa [pairs] using h)) (pairs_pos _) hN, h.row hl.rf (fun h => hf.2.1 (by simpa [ints] using h)) (ints_pos _) hN, h.row hl.rs (fun h => hf.2.2 (by simpa [triples] using h)) (triples_pos _) hN, hl.ct, hl.cf, hl.cs, hl.mt, hl.mf, hl.ms⟩

/-- the five cells of sands at a block -/
structure At5 (w : World) (B : Nat) (s : Sd) (pT pF pS : Option Addr) (cT cF cS : Nat) : Prop where
  c0 : w.cell? ⟨B, 0, none⟩ = some (.slice pT s.table.length cT)
  c1 : w.cell? ⟨B, 1, none⟩ = some (.int .i64 s.lo)
  c2 : w.cell? ⟨B, 2, none⟩ = some (.int .i64 s.hi)
  c3 : w.cell? ⟨B, 3, none⟩ = some (.slice pF s.floors.length cF)
  c4 : w.cell? ⟨B, 4, none⟩ = some (.slice pS s.sills.length cS)
theorem At5.up {w w' : World} {B : Nat} {s : Sd} (h : At5 w B s pT pF pS cT cF cS) (u : Up w w') : At5 w' B s pT pF pS cT cF cS := ⟨u.cellAt h.c0, u.cellAt h.c1, u.cellAt h.c2, u.cellAt h.c3, u.cellAt h.c4⟩

/-- sands held twice: the layer's own copy, and the reference's -/
def Both (w0 wx : World) (s : Sd) (a b : Value) : Prop :=
  ∃ B5 B6 qT qF qS dT dF dS rT rF rS gT gF gS, a = .pointer (some ⟨B5, 0, none⟩) ∧ b = .pointer (some ⟨B6, 0, none⟩) ∧ Up w0 wx ∧ Lists wx s qT qF qS dT dF dS ∧ Lists wx s rT rF rS gT gF gS ∧
    At5 wx B5 s qT qF qS dT dF dS ∧ At5 wx B6 s rT rF rS gT gF gS

/-- a value is none of the places where copies lie -/
def Off (s : Sd) (pT pF pS : Option Addr) (v : Value) : Prop :=
  (0 < s.table.length → ∀ b off, pT = some ⟨b, off, none⟩ → v ≠ .pointer (some ⟨b, 0, none⟩)) ∧ (0 < s.floors.length → ∀ b off, pF = some ⟨b, off, none⟩ → v ≠ .pointer (some ⟨b, 0, none⟩)) ∧ (0 < s.sills.length → ∀ b off, pS = some ⟨b, off, none⟩ → v ≠ .pointer (some ⟨b, 0, none⟩))

theorem Fresh.off {n : Nat} {s : Sd} (h : Fresh n s pT pF pS) {v : Value} (hv : ∀ b, v = .pointer (some ⟨b, 0, none⟩) → b < n) : Off s pT pF pS v :=
  ⟨fun h0 b off e ev => by have := h.1 h0 b off e; have := hv b ev; omega, fun h0 b off e ev => by have := h.2.1 h0 b off e; have := hv b ev; omega, fun h0 b off e ev => by have := h.2.2 h0 b off e; have := hv b ev; omega⟩
theorem Lists.off {w : World} {s : Sd} (h : Lists w s pT pF pS cT cF cS) {B : Nat} (hB : w.heap.size ≤ B) : Off s pT pF pS (.pointer (some ⟨B, 0, none⟩)) :=
  ⟨fun h0 b off e ev => by have := h.rt.lt (pairs_pos _) (by simpa [pairs] using h0) e; simp only [Value.pointer.injEq, Option.some.injEq, Addr.mk.injEq] at ev; omega,
   fun h0 b off e ev => by have := h.rf.lt (ints_pos _) (by simpa [ints] using h0) e; simp only [Value.pointer.injEq, Option.some.injEq, Addr.mk.injEq] at ev; omega,
   fun h0 b off e ev => by have := h.rs.lt (triples_pos _) (by simpa [triples] using h0) e; simp only [Value.pointer.injEq, Option.some.injEq, Addr.mk.injEq] at ev; omega⟩
theorem Lists.setOff {w : World} {s : Sd} (h : Lists w s pT pF pS cT cF cS) {B : Nat} (ho : Off s pT pF pS (.pointer (some ⟨B, 0, none⟩))) (i : Nat) (v : Value) : Lists (w.setCell ⟨B, i, none⟩ v) s pT pF pS cT cF cS :=
  ⟨h.rt.away (fun h0 b off e he => ho.1 (by simpa [pairs] using h0) b off e (by simp only at he; rw [he])) v, h.rf.away (fun h0 b off e he => ho.2.1 (by simpa [ints] using h0) b off e (by simp only at he; rw [he])) v,
   h.rs.away (fun h0 b off e he => ho.2.2 (by simpa [triples] using h0) b off e (by simp only at he; rw [he])) v, h.ct, h.cf, h.cs, h.mt, h.mf, h.ms⟩

/-- a value that holds sands, copied to places of its own -/
def Copied (w : World) (s : Sd) (v v4 v5 : Value) : Prop := ∃ qT qF qS dT dF dS, v = sdVal s qT qF qS dT dF dS ∧ Lists w s qT qF qS dT dF dS ∧ Off s qT qF qS v4 ∧ Off s qT qF qS v5

def zero5 : List Value := [.slice none 0 0, .int .i64 0, .int .i64 0, .slice none 0 0, .slice none 0 0]
/-- how far the statement 'own, x := Own(s), theirs(s)' has come -/
structure Pair (w1 : World) (s : Sd) (val : Value) (done : Nat → Bool) (w : World) (v0 v1 v2 v3 v4 v5 : Value) : Prop where
  up : Up w1 w
  l0 : done 0 = true → v0 = val
  l2 : done 2 = true → v2 = val
  own : done 1 = true → Copied w s v1 v4 v5
  the : done 3 = true → Copied w s v3 v4 v5
  a4 : done 4 = true → ∃ B, v4 = .pointer (some ⟨B, 0, none⟩) ∧ Blk w B zero5 28 ∧ w1.heap.size ≤ B
  a5 : done 5 = true → ∃ B, v5 = .pointer (some ⟨B, 0, none⟩) ∧ Blk w B zero5 35 ∧ w1.heap.size ≤ B
  n4 : done 4 = false → v4 = undef
  n5 : done 5 = false → v5 = undef

theorem Copied.up {w w' : World} {s : Sd} {v v4 v5 : Value} (h : Copied w s v v4 v5) (u : Up w w') : Copied w' s v v4 v5 := by
  obtain ⟨qT, qF, qS, dT, dF, dS, h1, h2, h3, h4⟩ := h
  exact ⟨qT, qF, qS, dT, dF, dS, h1, h2.up u, h3, h4⟩

theorem At5.of {w : World} {B : Nat} {s : Sd} {T : TypeId} (h : Blk w B (sdCells s pT pF pS cT cF cS) T) : At5 w B s pT pF pS cT cF cS := by
  have c0 := h.cell 0
  have c1 := h.cell 1
  have c2 := h.cell 2
  have c3 := h.cell 3
  have c4 := h.cell 4
  simp only [sdCells, List.getElem?_cons_zero, List.getElem?_cons_succ] at c0 c1 c2 c3 c4
  exact ⟨c0, c1, c2, c3, c4⟩
/-- five stores fill a block -/
def fill (w : World) (B : Nat) (s : Sd) (pT pF pS : Option Addr) (cT cF cS : Nat) : World :=
  ((((w.setCell ⟨B, 0, none⟩ (.slice pT s.table.length cT)).setCell ⟨B, 1, none⟩ (.int .i64 s.lo)).setCell ⟨B, 2, none⟩ (.int .i64 s.hi)).setCell ⟨B, 3, none⟩ (.slice pF s.floors.length cF)).setCell ⟨B, 4, none⟩ (.slice pS s.sills.length cS)
theorem fill_blk {w : World} {B : Nat} {T : TypeId} (h : Blk w B zero5 T) (s : Sd) (pT pF pS : Option Addr) (cT cF cS : Nat) : Blk (fill w B s pT pF pS cT cF cS) B (sdCells s pT pF pS cT cF cS) T := by
  exact ((((h.set 0 _).set 1 _).set 2 _).set 3 _).set 4 _
theorem fill_other {w : World} {B C : Nat} {cs : List Value} {T : TypeId} (h : Blk w C cs T) (hne : C ≠ B) (s : Sd) (pT pF pS : Option Addr) (cT cF cS : Nat) : Blk (fill w B s pT pF pS cT cF cS) C cs T := by
  exact ((((h.other (a := ⟨B, 0, none⟩) hne _).other (a := ⟨B, 1, none⟩) hne _).other (a := ⟨B, 2, none⟩) hne _).other (a := ⟨B, 3, none⟩) hne _).other (a := ⟨B, 4, none⟩) hne _
theorem fill_up {w1 w : World} (u : Up w1 w) {B : Nat} (hB : w1.heap.size ≤ B) (s : Sd) (pT pF pS : Option Addr) (cT cF cS : Nat) : Up w1 (fill w B s pT pF pS cT cF cS) := by
  exact ((((u.setCell (p := ⟨B, 0, none⟩) hB _).setCell (p := ⟨B, 1, none⟩) hB _).setCell (p := ⟨B, 2, none⟩) hB _).setCell (p := ⟨B, 3, none⟩) hB _).setCell (p := ⟨B, 4, none⟩) hB _
theorem fill_lists {w : World} {s : Sd} {qT qF qS : Option Addr} {dT dF dS : Nat} (h : Lists w s qT qF qS dT dF dS) {B : Nat} (ho : Off s qT qF qS (.pointer (some ⟨B, 0, none⟩))) (pT pF pS : Option Addr) (cT cF cS : Nat) : Lists (fill w B s pT pF pS cT cF cS) s qT qF qS dT dF dS :=
  ((((h.setOff ho 0 _).setOff ho 1 _).setOff ho 2 _).setOff ho 3 _).setOff ho 4 _

section
variable {w1 w w' : World} {s : Sd} {val : Value} {done : Nat → Bool} {v0 v1 v2 v3 v4 v5 : Value}
theorem Pair.start (w : World) (s : Sd) (val : Value) : Pair w s val (fun _ => false) w.drew undef undef undef undef undef undef :=
  ⟨(Below.refl _ _).drew, fun h => (by cases h), fun h => (by cases h), fun h => (by cases h), fun h => (by cases h), fun h => (by cases h), fun h => (by cases h), fun _ => rfl, fun _ => rfl⟩
theorem Pair.load0 (h : Pair w1 s val done w v0 v1 v2 v3 v4 v5) : Pair w1 s val (upd done 0) w val v1 v2 v3 v4 v5 :=
  ⟨h.up, fun _ => rfl, fun e => h.l2 (by simpa [upd] using e), fun e => h.own (by simpa [upd] using e), fun e => h.the (by simpa [upd] using e), fun e => h.a4 (by simpa [upd] using e), fun e => h.a5 (by simpa [upd] using e), fun e => h.n4 (by simpa [upd] using e), fun e => h.n5 (by simpa [upd] using e)⟩
theorem Pair.load2 (h : Pair w1 s val done w v0 v1 v2 v3 v4 v5) : Pair w1 s val (upd done 2) w v0 v1 val v3 v4 v5 :=
  ⟨h.up, fun e => h.l0 (by simpa [upd] using e), fun _ => rfl, fun e => h.own (by simpa [upd] using e), fun e => h.the (by simpa [upd] using e), fun e => h.a4 (by simpa [upd] using e), fun e => h.a5 (by simpa [upd] using e), fun e => h.n4 (by simpa [upd] using e), fun e => h.n5 (by simpa [upd] using e)⟩
theorem Pair.low4 (h : Pair w1 s val done w v0 v1 v2 v3 v4 v5) : ∀ b, v4 = .pointer (some ⟨b, 0, none⟩) → b < w.heap.size := fun b e => by
  cases hd : done 4
  · rw [h.n4 hd] at e; cases e
  · obtain ⟨B, rfl, hB, -⟩ := h.a4 hd
    simp only [Value.pointer.injEq, Option.some.injEq, Addr.mk.injEq, and_true] at e
    obtain ⟨rfl, -⟩ := e
    exact hB.lt
theorem Pair.low5 (h : Pair w1 s val done w v0 v1 v2 v3 v4 v5) : ∀ b, v5 = .pointer (some ⟨b, 0, none⟩) → b < w.heap.size := fun b e => by
  cases hd : done 5
  · rw [h.n5 hd] at e; cases e
  · obtain ⟨B, rfl, hB, -⟩ := h.a5 hd
    simp only [Value.pointer.injEq, Option.some.injEq, Addr.mk.injEq, and_true] at e
    obtain ⟨rfl, -⟩ := e
    exact hB.lt
theorem Pair.call1 {qT qF qS : Option Addr} {dT dF dS : Nat} (h : Pair w1 s val done w v0 v1 v2 v3 v4 v5) (u : Up w w') (hl : Lists w' s qT qF qS dT dF dS) (hf : Fresh w.heap.size s qT qF qS) : Pair w1 s val (upd done 1) w' v0 (sdVal s qT qF qS dT dF dS) v2 v3 v4 v5 :=
  ⟨Up.trans h.up u, fun e => h.l0 (by simpa [upd] using e), fun e => h.l2 (by simpa [upd] using e), fun _ => ⟨_, _, _, _, _, _, rfl, hl, hf.off h.low4, hf.off h.low5⟩, fun e => (h.the (by simpa [upd] using e)).up u,
   fun e => (by obtain ⟨B, e1, e2, e3⟩ := h.a4 (by simpa [upd] using e); exact ⟨B, e1, e2.up u, e3⟩), fun e => (by obtain ⟨B, e1, e2, e3⟩ := h.a5 (by simpa [upd] using e); exact ⟨B, e1, e2.up u, e3⟩), fun e => h.n4 (by simpa [upd] using e), fun e => h.n5 (by simpa [upd] using e)⟩
theorem Pair.call3 {qT qF qS : Option Addr} {dT dF dS : Nat} (h : Pair w1 s val done w v0 v1 v2 v3 v4 v5) (u : Up w w') (hl : Lists w' s qT qF qS dT dF dS) (hf : Fresh w.heap.size s qT qF qS) : Pair w1 s val (upd done 3) w' v0 v1 v2 (sdVal s qT qF qS dT dF dS) v4 v5 :=
  ⟨Up.trans h.up u, fun e => h.l0 (by simpa [upd] using e), fun e => h.l2 (by simpa [upd] using e), fun e => (h.own (by simpa [upd] using e)).up u, fun _ => ⟨_, _, _, _, _, _, rfl, hl, hf.off h.low4, hf.off h.low5⟩,
   fun e => (by obtain ⟨B, e1, e2, e3⟩ := h.a4 (by simpa [upd] using e); exact ⟨B, e1, e2.up u, e3⟩), fun e => (by obtain ⟨B, e1, e2, e3⟩ := h.a5 (by simpa [upd] using e); exact ⟨B, e1, e2.up u, e3⟩), fun e => h.n4 (by simpa [upd] using e), fun e => h.n5 (by simpa [upd] using e)⟩
theorem Copied.alloc4 {v : Value} (h : Copied w s v v4 v5) (o : Obj) : Copied (w.alloc o) s v (.pointer (some ⟨w.heap.size, 0, none⟩)) v5 := by
  obtain ⟨qT, qF, qS, dT, dF, dS, h1, h2, h3, h4⟩ := h
  exact ⟨qT, qF, qS, dT, dF, dS, h1, h2.up (by (repeat (first | exact Below.refl _ _ | (with_reducible refine Below.drewN' ?_ _) | (with_reducible refine Below.drew ?_) | (with_reducible refine Below.setCell ?_ (by first | exact Nat.le_refl _ | omega | (with_reducible (repeat (first | refine sz_alloc ?_ | refine sz_setCell ?_ | refine sz_drew ?_ | refine sz_drewN ?_)); first | exact Nat.le_refl _ | omega) | (simp only [World.size_alloc, World.size_setCell, World.size_drew, size_drewN']; omega)) _) | (with_reducible refine Below.alloc ?_ (by first | exact Nat.le_refl _ | omega | (with_reducible (repeat (first | refine sz_alloc ?_ | refine sz_setCell ?_ | refine sz_drew ?_ | refine sz_drewN ?_)); first | exact Nat.le_refl _ | omega) | (simp only [World.size_alloc, World.size_setCell, World.size_drew, size_drewN']; omega)) _) | assumption))), h2.off (Nat.le_refl _), h4⟩
theorem Copied.alloc5 {v : Value} (h : Copied w s v v4 v5) (o : Obj) : Copied (w.alloc o) s v v4 (.pointer (some ⟨w.heap.size, 0, none⟩)) := by
  obtain ⟨qT, qF, qS, dT, dF, dS, h1, h2, h3, h4⟩ := h
  exact ⟨qT, qF, qS, dT, dF, dS, h1, h2.up (by (repeat (first | exact Below.refl _ _ | (with_reducible refine Below.drewN' ?_ _) | (with_reducible refine Below.drew ?_) | (with_reducible refine Below.setCell ?_ (by first | exact Nat.le_refl _ | omega | (with_reducible (repeat (first | refine sz_alloc ?_ | refine sz_setCell ?_ | refine sz_drew ?_ | refine sz_drewN ?_)); first | exact Nat.le_refl _ | omega) | (simp only [World.size_alloc, World.size_setCell, World.size_drew, size_drewN']; omega)) _) | (with_reducible refine Below.alloc ?_ (by first | exact Nat.le_refl _ | omega | (with_reducible (repeat (first | refine sz_alloc ?_ | refine sz_setCell ?_ | refine sz_drew ?_ | refine sz_drewN ?_)); first | exact Nat.le_refl _ | omega) | (simp only [World.size_alloc, World.size_setCell, World.size_drew, size_drewN']; omega)) _) | assumption))), h3, h2.off (Nat.le_refl _)⟩
theorem Pair.alloc4 (h : Pair w1 s val done w v0 v1 v2 v3 v4 v5) : Pair w1 s val (upd done 4) (w.alloc (.cells #[.slice none 0 0, .int .i64 0, .int .i64 0, .slice none 0 0, .slice none 0 0] 28)) v0 v1 v2 v3 (.pointer (some ⟨w.heap.size, 0, none⟩)) v5 :=
  have u : Up w (w.alloc (.cells #[.slice none 0 0, .int .i64 0, .int .i64 0, .slice none 0 0, .slice none 0 0] 28)) := by (repeat (first | exact Below.refl _ _ | (with_reducible refine Below.drewN' ?_ _) | (with_reducible refine Below.drew ?_) | (with_reducible refine Below.setCell ?_ (by first | exact Nat.le_refl _ | omega | (with_reducible (repeat (first | refine sz_alloc ?_ | refine sz_setCell ?_ | refine sz_drew ?_ | refine sz_drewN ?_)); first | exact Nat.le_refl _ | omega) | (simp only [World.size_alloc, World.size_setCell, World.size_drew, size_drewN']; omega)) _) | (with_reducible refine Below.alloc ?_ (by first | exact Nat.le_refl _ | omega | (with_reducible (repeat (first | refine sz_alloc ?_ | refine sz_setCell ?_ | refine sz_drew ?_ | refine sz_drewN ?_)); first | exact Nat.le_refl _ | omega) | (simp only [World.size_alloc, World.size_setCell, World.size_drew, size_drewN']; omega)) _) | assumption))
  ⟨Up.trans h.up u, fun e => h.l0 (by simpa [upd] using e), fun e => h.l2 (by simpa [upd] using e), fun e => (h.own (by simpa [upd] using e)).alloc4 _, fun e => (h.the (by simpa [upd] using e)).alloc4 _,
   fun _ => ⟨_, rfl, Blk.new w zero5 _, h.up.size⟩, fun e => (by obtain ⟨B, e1, e2, e3⟩ := h.a5 (by simpa [upd] using e); exact ⟨B, e1, e2.up u, e3⟩), fun e => (by simp [upd] at e), fun e => h.n5 (by simpa [upd] using e)⟩
theorem Pair.alloc5 (h : Pair w1 s val done w v0 v1 v2 v3 v4 v5) : Pair w1 s val (upd done 5) (w.alloc (.cells #[.slice none 0 0, .int .i64 0, .int .i64 0, .slice none 0 0, .slice none 0 0] 35)) v0 v1 v2 v3 v4 (.pointer (some ⟨w.heap.size, 0, none⟩)) :=
  have u : Up w (w.alloc (.cells #[.slice none 0 0, .int .i64 0, .int .i64 0, .slice none 0 0, .slice none 0 0] 35)) := by (repeat (first | exact Below.refl _ _ | (with_reducible refine Below.drewN' ?_ _) | (with_reducible refine Below.drew ?_) | (with_reducible refine Below.setCell ?_ (by first | exact Nat.le_refl _ | omega | (with_reducible (repeat (first | refine sz_alloc ?_ | refine sz_setCell ?_ | refine sz_drew ?_ | refine sz_drewN ?_)); first | exact Nat.le_refl _ | omega) | (simp only [World.size_alloc, World.size_setCell, World.size_drew, size_drewN']; omega)) _) | (with_reducible refine Below.alloc ?_ (by first | exact Nat.le_refl _ | omega | (with_reducible (repeat (first | refine sz_alloc ?_ | refine sz_setCell ?_ | refine sz_drew ?_ | refine sz_drewN ?_)); first | exact Nat.le_refl _ | omega) | (simp only [World.size_alloc, World.size_setCell, World.size_drew, size_drewN']; omega)) _) | assumption))
  ⟨Up.trans h.up u, fun e => h.l0 (by simpa [upd] using e), fun e => h.l2 (by simpa [upd] using e), fun e => (h.own (by simpa [upd] using e)).alloc5 _, fun e => (h.the (by simpa [upd] using e)).alloc5 _,
   fun e => (by obtain ⟨B, e1, e2, e3⟩ := h.a4 (by simpa [upd] using e); exact ⟨B, e1, e2.up u, e3⟩), fun _ => ⟨_, rfl, Blk.new w zero5 _, h.up.size⟩, fun e => h.n4 (by simpa [upd] using e), fun e => (by simp [upd] at e)⟩
end
end
end Go.Proofs.YtknaajofcbenaaaGreat
/- How far the statement 'own, x, a, b, c := Own(s), theirs(s), Dup(..), Dup(..), Dup(..)' has come. -/
namespace Go.Proofs.YtknaajofcbenaaaGreat
open Go.RowKit Go.Shelf
section
variable {w w' W w1 : World} {s : Sd} {val : Value} {done : Nat → Bool} {v0 v1 v2 v3 v4 v5 : Value}
/-- what is done of the pair alone -/
def pd (done : Nat → Bool) : Nat → Bool := fun i => if i < 4 then done i else done (i + 6)
theorem pd_low {i : Nat} (h : i < 4) : pd (upd done i) = upd (pd done) i := by
  funext k
  unfold pd upd
  by_cases hk : k < 4
  · simp [hk]
  · have e1 : (k + 6 == i) = false := beq_eq_false_iff_ne.2 (by omega)
    have e2 : (k == i) = false := beq_eq_false_iff_ne.2 (by omega)
    simp [hk, e1, e2]
theorem pd_mid {i : Nat} (h : 4 ≤ i) (h2 : i < 10) : pd (upd done i) = pd done := by
  funext k
  unfold pd upd
  by_cases hk : k < 4
  · have e2 : (k == i) = false := beq_eq_false_iff_ne.2 (by omega)
    simp [hk, e2]
  · have e1 : (k + 6 == i) = false := beq_eq_false_iff_ne.2 (by omega)
    simp [hk, e1]
theorem pd_high {i : Nat} (h : 4 ≤ i) : pd (upd done (i + 6)) = upd (pd done) i := by
  funext k
  unfold pd upd
  by_cases hk : k < 4
  · have e1 : (k == i + 6) = false := beq_eq_false_iff_ne.2 (by omega)
    have e2 : (k == i) = false := beq_eq_false_iff_ne.2 (by omega)
    simp [hk, e1, e2]
  · by_cases e : k = i
    · subst e; simp [hk]
    · have e1 : (k + 6 == i + 6) = false := beq_eq_false_iff_ne.2 (by omega)
      have e2 : (k == i) = false := beq_eq_false_iff_ne.2 e
      simp [hk, e1, e2]
theorem pd_start : pd (fun _ => false) = fun _ => false := by funext k; simp [pd]

/-- a value is not where a row lies -/
def OffR (q : Option Addr) (l : List Int) (v : Value) : Prop := 0 < l.length → ∀ b off, q = some ⟨b, off, none⟩ → v ≠ .pointer (some ⟨b, 0, none⟩)
/-- a slice of these numbers, away from two places -/
def RowOff (W : World) (y : Value) (l : List Int) (a b : Value) : Prop := ∃ q d, y = .slice q l.length d ∧ Row W q 1 (ints l) ∧ OffR q l a ∧ OffR q l b
theorem RowOff.up {y : Value} {l : List Int} {a b : Value} (h : RowOff W y l a b) (u : Up W w') : RowOff w' y l a b := by
  obtain ⟨q, d, e, r, o1, o2⟩ := h
  exact ⟨q, d, e, r.up u, o1, o2⟩
theorem Row.offNew {q : Option Addr} {l : List Int} (r : Row W q 1 (ints l)) : OffR q l (.pointer (some ⟨W.heap.size, 0, none⟩)) := fun h0 b off e ev => by
  have := r.lt (ints_pos _) (by simpa [ints] using h0) e
  simp only [Value.pointer.injEq, Option.some.injEq, Addr.mk.injEq] at ev
  omega
/-- a copy of a row, in this statement: its argument, and what is made of it -/
def Dp (W : World) (d4 d5 : Bool) (arg : Value) (l : List Int) (u y a b : Value) : Prop := (d4 = true → u = arg) ∧ (d5 = true → RowOff W y l a b)
section
variable {d4 d5 : Bool} {arg u y a b : Value} {l : List Int}
theorem Dp.cast (h : Dp W d4 d5 arg l u y a b) {e4 e5 : Bool} (h4 : e4 = d4) (h5 : e5 = d5) : Dp W e4 e5 arg l u y a b := by subst h4; subst h5; exact h
theorem Dp.up (h : Dp W d4 d5 arg l u y a b) (v : Up W w') : Dp w' d4 d5 arg l u y a b := ⟨h.1, fun e => (h.2 e).up v⟩
theorem Dp.allocA (h : Dp W d4 d5 arg l u y a b) (o : Obj) : Dp (W.alloc o) d4 d5 arg l u y (.pointer (some ⟨W.heap.size, 0, none⟩)) b :=
  ⟨h.1, fun e => by obtain ⟨q, d, e, r, -, o2⟩ := h.2 e; exact ⟨q, d, e, r.up (by (repeat (first | exact Below.refl _ _ | (with_reducible refine Below.drewN' ?_ _) | (with_reducible refine Below.drew ?_) | (with_reducible refine Below.setCell ?_ (by first | exact Nat.le_refl _ | omega | (with_reducible (repeat (first | refine sz_alloc ?_ | refine sz_setCell ?_ | refine sz_drew ?_ | refine sz_drewN ?_)); first | exact Nat.le_refl _ | omega) | (simp only [World.size_alloc, World.size_setCell, World.size_drew, size_drewN']; omega)) _) | (with_reducible refine Below.alloc ?_ (by first | exact Nat.le_refl _ | omega | (with_reducible (repeat (first | refine sz_alloc ?_ | refine sz_setCell ?_ | refine sz_drew ?_ | refine sz_drewN ?_)); first | exact Nat.le_refl _ | omega) | (simp only [World.size_alloc, World.size_setCell, World.size_drew, size_drewN']; omega)) _) | assumption))), r.offNew, o2⟩⟩
theorem Dp.allocB (h : Dp W d4 d5 arg l u y a b) (o : Obj) : Dp (W.alloc o) d4 d5 arg l u y a (.pointer (some ⟨W.heap.size, 0, none⟩)) :=
  ⟨h.1, fun e => by obtain ⟨q, d, e, r, o1, -⟩ := h.2 e; exact ⟨q, d, e, r.up (by (repeat (first | exact Below.refl _ _ | (with_reducible refine Below.drewN' ?_ _) | (with_reducible refine Below.drew ?_) | (with_reducible refine Below.setCell ?_ (by first | exact Nat.le_refl _ | omega | (with_reducible (repeat (first | refine sz_alloc ?_ | refine sz_setCell ?_ | refine sz_drew ?_ | refine sz_drewN ?_)); first | exact Nat.le_refl _ | omega) | (simp only [World.size_alloc, World.size_setCell, World.size_drew, size_drewN']; omega)) _) | (with_reducible refine Below.alloc ?_ (by first | exact Nat.le_refl _ | omega | (with_reducible (repeat (first | refine sz_alloc ?_ | refine sz_setCell ?_ | refine sz_drew ?_ | refine sz_drewN ?_)); first | exact Nat.le_refl _ | omega) | (simp only [World.size_alloc, World.size_setCell, World.size_drew, size_drewN']; omega)) _) | assumption))), o1, r.offNew⟩⟩
theorem Dp.mv (h : Dp W d4 d5 arg l u y a b) : Dp W true d5 arg l arg y a b := ⟨fun _ => rfl, h.2⟩
theorem Dp.dup (h : Dp W d4 d5 arg l u y a b) {q : Option Addr} {d : Nat} (_v : Up W w') (r : Row w' q 1 (ints l)) (hq : ∀ b off, q = some ⟨b, off, none⟩ → W.heap.size ≤ b)
    (ha : ∀ c, a = .pointer (some ⟨c, 0, none⟩) → c < W.heap.size) (hb : ∀ c, b = .pointer (some ⟨c, 0, none⟩) → c < W.heap.size) : Dp w' d4 true arg l u (.slice q l.length d) a b :=
  ⟨h.1, fun _ => ⟨q, d, rfl, r, fun _ c off e ev => by have := hq c off e; have := ha c ev; omega, fun _ c off e ev => by have := hq c off e; have := hb c ev; omega⟩⟩
end
theorem Row.fill {q : Option Addr} {l : List Int} {B : Nat} (h : Row W q 1 (ints l)) (ho : OffR q l (.pointer (some ⟨B, 0, none⟩))) (s : Sd) (pT pF pS : Option Addr) (cT cF cS : Nat) : Row (fill W B s pT pF pS cT cF cS) q 1 (ints l) := by
  have one : ∀ {W : World} (_ : Row W q 1 (ints l)) (i : Nat) (v : Value), Row (W.setCell ⟨B, i, none⟩ v) q 1 (ints l) := fun h i v =>
    h.away (fun h0 b off e he => ho (by simpa [ints] using h0) b off e (by simp only at he; rw [he])) v
  exact one (one (one (one (one h 0 _) 1 _) 2 _) 3 _) 4 _
/-- a slice of these numbers -/
def RowV (W : World) (v : Value) (l : List Int) : Prop := ∃ q d, v = .slice q l.length d ∧ Row W q 1 (ints l)

/-- how far the whole statement has come -/
structure Five (w1 : World) (s : Sd) (val x y z : Value) (la lb lc : List Int) (done : Nat → Bool) (W : World) (V : Nat → Value) : Prop where
  pair : Pair w1 s val (pd done) W (V 0) (V 1) (V 2) (V 3) (V 10) (V 11)
  a : Dp W (done 4) (done 5) x la (V 4) (V 5) (V 10) (V 11)
  b : Dp W (done 6) (done 7) y lb (V 6) (V 7) (V 10) (V 11)
  c : Dp W (done 8) (done 9) z lc (V 8) (V 9) (V 10) (V 11)
def put (V : Nat → Value) (i : Nat) (v : Value) : Nat → Value := fun k => if k = i then v else V k
section
variable {x y z : Value} {la lb lc : List Int} {V : Nat → Value}
theorem Five.start (w : World) (s : Sd) (val x y z : Value) (la lb lc : List Int) : Five w s val x y z la lb lc (fun _ => false) w.drew (fun _ => undef) :=
  ⟨by rw [pd_start]; exact Pair.start w s val, ⟨fun h => (by cases h), fun h => (by cases h)⟩, ⟨fun h => (by cases h), fun h => (by cases h)⟩, ⟨fun h => (by cases h), fun h => (by cases h)⟩⟩
theorem Five.load0 (h : Five w1 s val x y z la lb lc done W V) : Five w1 s val x y z la lb lc (upd done 0) W (put V 0 val) :=
  ⟨by rw [pd_low (by decide)]; exact h.pair.load0, h.a.cast (by simp [upd]) (by simp [upd]), h.b.cast (by simp [upd]) (by simp [upd]), h.c.cast (by simp [upd]) (by simp [upd])⟩
theorem Five.load2 (h : Five w1 s val x y z la lb lc done W V) : Five w1 s val x y z la lb lc (upd done 2) W (put V 2 val) :=
  ⟨by rw [pd_low (by decide)]; exact h.pair.load2, h.a.cast (by simp [upd]) (by simp [upd]), h.b.cast (by simp [upd]) (by simp [upd]), h.c.cast (by simp [upd]) (by simp [upd])⟩
theorem Five.call1 {qT qF qS : Option Addr} {dT dF dS : Nat} (h : Five w1 s val x y z la lb lc done W V) (u : Up W w') (hl : Lists w' s qT qF qS dT dF dS) (hf : Fresh W.heap.size s qT qF qS) : Five w1 s val x y z la lb lc (upd done 1) w' (put V 1 (sdVal s qT qF qS dT dF dS)) :=
  ⟨by rw [pd_low (by decide)]; exact h.pair.call1 u hl hf, (h.a.up u).cast (by simp [upd]) (by simp [upd]), (h.b.up u).cast (by simp [upd]) (by simp [upd]), (h.c.up u).cast (by simp [upd]) (by simp [upd])⟩
theorem Five.call3 {qT qF qS : Option Addr} {dT dF dS : Nat} (h : Five w1 s val x y z la lb lc done W V) (u : Up W w') (hl : Lists w' s qT qF qS dT dF dS) (hf : Fresh W.heap.size s qT qF qS) : Five w1 s val x y z la lb lc (upd done 3) w' (put V 3 (sdVal s qT qF qS dT dF dS)) :=
  ⟨by rw [pd_low (by decide)]; exact h.pair.call3 u hl hf, (h.a.up u).cast (by simp [upd]) (by simp [upd]), (h.b.up u).cast (by simp [upd]) (by simp [upd]), (h.c.up u).cast (by simp [upd]) (by simp [upd])⟩
theorem Five.mv4 (h : Five w1 s val x y z la lb lc done W V) : Five w1 s val x y z la lb lc (upd done 4) W (put V 4 x) :=
  ⟨by rw [pd_mid (by decide) (by decide)]; exact h.pair, h.a.mv.cast (by simp [upd]) (by simp [upd]), h.b.cast (by simp [upd]) (by simp [upd]), h.c.cast (by simp [upd]) (by simp [upd])⟩
theorem Five.mv6 (h : Five w1 s val x y z la lb lc done W V) : Five w1 s val x y z la lb lc (upd done 6) W (put V 6 y) :=
  ⟨by rw [pd_mid (by decide) (by decide)]; exact h.pair, h.a.cast (by simp [upd]) (by simp [upd]), h.b.mv.cast (by simp [upd]) (by simp [upd]), h.c.cast (by simp [upd]) (by simp [upd])⟩
theorem Five.mv8 (h : Five w1 s val x y z la lb lc done W V) : Five w1 s val x y z la lb lc (upd done 8) W (put V 8 z) :=
  ⟨by rw [pd_mid (by decide) (by decide)]; exact h.pair, h.a.cast (by simp [upd]) (by simp [upd]), h.b.cast (by simp [upd]) (by simp [upd]), h.c.mv.cast (by simp [upd]) (by simp [upd])⟩
theorem Pair.up' (h : Pair w1 s val done W v0 v1 v2 v3 v4 v5) (u : Up W w') : Pair w1 s val done w' v0 v1 v2 v3 v4 v5 :=
  ⟨Up.trans h.up u, h.l0, h.l2, fun e => (h.own e).up u, fun e => (h.the e).up u, fun e => (by obtain ⟨B, e1, e2, e3⟩ := h.a4 e; exact ⟨B, e1, e2.up u, e3⟩), fun e => (by obtain ⟨B, e1, e2, e3⟩ := h.a5 e; exact ⟨B, e1, e2.up u, e3⟩), h.n4, h.n5⟩
theorem Five.dup5 (h : Five w1 s val x y z la lb lc done W V) {q : Option Addr} {d : Nat} (u : Up W w') (r : Row w' q 1 (ints la)) (hq : ∀ b off, q = some ⟨b, off, none⟩ → W.heap.size ≤ b) : Five w1 s val x y z la lb lc (upd done 5) w' (put V 5 (.slice q la.length d)) :=
  ⟨by rw [pd_mid (by decide) (by decide)]; exact h.pair.up' u, (h.a.dup u r hq h.pair.low4 h.pair.low5).cast (by simp [upd]) (by simp [upd]), (h.b.up u).cast (by simp [upd]) (by simp [upd]), (h.c.up u).cast (by simp [upd]) (by simp [upd])⟩
theorem Five.dup7 (h : Five w1 s val x y z la lb lc done W V) {q : Option Addr} {d : Nat} (u : Up W w') (r : Row w' q 1 (ints lb)) (hq : ∀ b off, q = some ⟨b, off, none⟩ → W.heap.size ≤ b) : Five w1 s val x y z la lb lc (upd done 7) w' (put V 7 (.slice q lb.length d)) :=
  ⟨by rw [pd_mid (by decide) (by decide)]; exact h.pair.up' u, (h.a.up u).cast (by simp [upd]) (by simp [upd]), (h.b.dup u r hq h.pair.low4 h.pair.low5).cast (by simp [upd]) (by simp [upd]), (h.c.up u).cast (by simp [upd]) (by simp [upd])⟩
theorem Five.dup9 (h : Five w1 s val x y z la lb lc done W V) {q : Option Addr} {d : Nat} (u : Up W w') (r : Row w' q 1 (ints lc)) (hq : ∀ b off, q = some ⟨b, off, none⟩ → W.heap.size ≤ b) : Five w1 s val x y z la lb lc (upd done 9) w' (put V 9 (.slice q lc.length d)) :=
  ⟨by rw [pd_mid (by decide) (by decide)]; exact h.pair.up' u, (h.a.up u).cast (by simp [upd]) (by simp [upd]), (h.b.up u).cast (by simp [upd]) (by simp [upd]), (h.c.dup u r hq h.pair.low4 h.pair.low5).cast (by simp [upd]) (by simp [upd])⟩
theorem Five.alloc10 (h : Five w1 s val x y z la lb lc done W V) : Five w1 s val x y z la lb lc (upd done 10) (W.alloc (.cells #[.slice none 0 0, .int .i64 0, .int .i64 0, .slice none 0 0, .slice none 0 0] 28)) (put V 10 (.pointer (some ⟨W.heap.size, 0, none⟩))) :=
  ⟨by rw [pd_high (i := 4) (by decide)]; exact h.pair.alloc4, (h.a.allocA _).cast (by simp [upd]) (by simp [upd]), (h.b.allocA _).cast (by simp [upd]) (by simp [upd]), (h.c.allocA _).cast (by simp [upd]) (by simp [upd])⟩
theorem Five.alloc11 (h : Five w1 s val x y z la lb lc done W V) : Five w1 s val x y z la lb lc (upd done 11) (W.alloc (.cells #[.slice none 0 0, .int .i64 0, .int .i64 0, .slice none 0 0, .slice none 0 0] 35)) (put V 11 (.pointer (some ⟨W.heap.size, 0, none⟩))) :=
  ⟨by rw [pd_high (i := 5) (by decide)]; exact h.pair.alloc5, (h.a.allocB _).cast (by simp [upd]) (by simp [upd]), (h.b.allocB _).cast (by simp [upd]) (by simp [upd]), (h.c.allocB _).cast (by simp [upd]) (by simp [upd])⟩
end
end
end Go.Proofs.YtknaajofcbenaaaGreat
/- How far 'own, x, mine, y := Own(s), theirs(s), Dup(looks), seen(looks)' has come. -/
namespace Go.Proofs.YtknaajofcbenaaaGreat
open Go.RowKit Go.Shelf
theorem lks_pos (l : List Lk) : ∀ r ∈ lrows l, 0 < r.length := fun r hr => by simp only [lrows, List.mem_map] at hr; obtain ⟨x, -, rfl⟩ := hr; simp
section
variable {w w' W w1 : World} {s : Sd} {val : Value} {done : Nat → Bool} {v0 v1 v2 v3 v4 v5 : Value}
/-- what is done of the pair alone -/
def pq (done : Nat → Bool) : Nat → Bool := fun i => if i < 4 then done i else done (i + 4)
theorem pq_low {i : Nat} (h : i < 4) : pq (upd done i) = upd (pq done) i := by
  funext k
  unfold pq upd
  by_cases hk : k < 4
  · simp [hk]
  · have e1 : (k + 4 == i) = false := beq_eq_false_iff_ne.2 (by omega)
    have e2 : (k == i) = false := beq_eq_false_iff_ne.2 (by omega)
    simp [hk, e1, e2]
theorem pq_mid {i : Nat} (h : 4 ≤ i) (h2 : i < 8) : pq (upd done i) = pq done := by
  funext k
  unfold pq upd
  by_cases hk : k < 4
  · have e2 : (k == i) = false := beq_eq_false_iff_ne.2 (by omega)
    simp [hk, e2]
  · have e1 : (k + 4 == i) = false := beq_eq_false_iff_ne.2 (by omega)
    simp [hk, e1]
theorem pq_high {i : Nat} (h : 4 ≤ i) : pq (upd done (i + 4)) = upd (pq done) i := by
  funext k
  unfold pq upd
  by_cases hk : k < 4
  · have e1 : (k == i + 4) = false := beq_eq_false_iff_ne.2 (by omega)
    have e2 : (k == i) = false := beq_eq_false_iff_ne.2 (by omega)
    simp [hk, e1, e2]
  · by_cases e : k = i
    · subst e; simp [hk]
    · have e1 : (k + 4 == i + 4) = false := beq_eq_false_iff_ne.2 (by omega)
      have e2 : (k == i) = false := beq_eq_false_iff_ne.2 e
      simp [hk, e1, e2]
theorem pq_start : pq (fun _ => false) = fun _ => false := by funext k; simp [pq]

/-- a value is not where a row lies -/
def OffL (q : Option Addr) (l : List Lk) (v : Value) : Prop := 0 < l.length → ∀ b off, q = some ⟨b, off, none⟩ → v ≠ .pointer (some ⟨b, 0, none⟩)
/-- a slice of these numbers, away from two places -/
def RowOffL (W : World) (y : Value) (l : List Lk) (a b : Value) : Prop := ∃ q d, y = .slice q l.length d ∧ (l.length ≤ d ∧ d ≤ maxLen) ∧ Row W q 3 (lrows l) ∧ OffL q l a ∧ OffL q l b
theorem RowOffL.up {y : Value} {l : List Lk} {a b : Value} (h : RowOffL W y l a b) (u : Up W w') : RowOffL w' y l a b := by
  obtain ⟨q, d, e, m, r, o1, o2⟩ := h
  exact ⟨q, d, e, m, r.up u, o1, o2⟩
theorem Row.offNewL {q : Option Addr} {l : List Lk} (r : Row W q 3 (lrows l)) : OffL q l (.pointer (some ⟨W.heap.size, 0, none⟩)) := fun h0 b off e ev => by
  have := r.lt (lks_pos _) (by simpa [lrows] using h0) e
  simp only [Value.pointer.injEq, Option.some.injEq, Addr.mk.injEq] at ev
  omega
/-- a copy of a row, in this statement: its argument, and what is made of it -/
def DpL (W : World) (d4 d5 : Bool) (arg : Value) (l : List Lk) (u y a b : Value) : Prop := (d4 = true → u = arg) ∧ (d5 = true → RowOffL W y l a b)
section
variable {d4 d5 : Bool} {arg u y a b : Value} {l : List Lk}
theorem DpL.cast (h : DpL W d4 d5 arg l u y a b) {e4 e5 : Bool} (h4 : e4 = d4) (h5 : e5 = d5) : DpL W e4 e5 arg l u y a b := by subst h4; subst h5; exact h
theorem DpL.up (h : DpL W d4 d5 arg l u y a b) (v : Up W w') : DpL w' d4 d5 arg l u y a b := ⟨h.1, fun e => (h.2 e).up v⟩
theorem DpL.allocA (h : DpL W d4 d5 arg l u y a b) (o : Obj) : DpL (W.alloc o) d4 d5 arg l u y (.pointer (some ⟨W.heap.size, 0, none⟩)) b :=
  ⟨h.1, fun e => by obtain ⟨q, d, e, m, r, -, o2⟩ := h.2 e; exact ⟨q, d, e, m, r.up (by (repeat (first | exact Below.refl _ _ | (with_reducible refine Below.drewN' ?_ _) | (with_reducible refine Below.drew ?_) | (with_reducible refine Below.setCell ?_ (by first | exact Nat.le_refl _ | omega | (with_reducible (repeat (first | refine sz_alloc ?_ | refine sz_setCell ?_ | refine sz_drew ?_ | refine sz_drewN ?_)); first | exact Nat.le_refl _ | omega) | (simp only [World.size_alloc, World.size_setCell, World.size_drew, size_drewN']; omega)) _) | (with_reducible refine Below.alloc ?_ (by first | exact Nat.le_refl _ | omega | (with_reducible (repeat (first | refine sz_alloc ?_ | refine sz_setCell ?_ | refine sz_drew ?_ | refine sz_drewN ?_)); first | exact Nat.le_refl _ | omega) | (simp only [World.size_alloc, World.size_setCell, World.size_drew, size_drewN']; omega)) _) | assumption))), r.offNewL, o2⟩⟩
theorem DpL.allocB (h : DpL W d4 d5 arg l u y a b) (o : Obj) : DpL (W.alloc o) d4 d5 arg l u y a (.pointer (some ⟨W.heap.size, 0, none⟩)) :=
  ⟨h.1, fun e => by obtain ⟨q, d, e, m, r, o1, -⟩ := h.2 e; exact ⟨q, d, e, m, r.up (by (repeat (first | exact Below.refl _ _ | (with_reducible refine Below.drewN' ?_ _) | (with_reducible refine Below.drew ?_) | (with_reducible refine Below.setCell ?_ (by first | exact Nat.le_refl _ | omega | (with_reducible (repeat (first | refine sz_alloc ?_ | refine sz_setCell ?_ | refine sz_drew ?_ | refine sz_drewN ?_)); first | exact Nat.le_refl _ | omega) | (simp only [World.size_alloc, World.size_setCell, World.size_drew, size_drewN']; omega)) _) | (with_reducible refine Below.alloc ?_ (by first | exact Nat.le_refl _ | omega | (with_reducible (repeat (first | refine sz_alloc ?_ | refine sz_setCell ?_ | refine sz_drew ?_ | refine sz_drewN ?_)); first | exact Nat.le_refl _ | omega) | (simp only [World.size_alloc, World.size_setCell, World.size_drew, size_drewN']; omega)) _) | assumption))), o1, r.offNewL⟩⟩
theorem DpL.mv (h : DpL W d4 d5 arg l u y a b) : DpL W true d5 arg l arg y a b := ⟨fun _ => rfl, h.2⟩
theorem DpL.dup (h : DpL W d4 d5 arg l u y a b) {q : Option Addr} {d : Nat} (_v : Up W w') (m : l.length ≤ d ∧ d ≤ maxLen) (r : Row w' q 3 (lrows l)) (hq : ∀ b off, q = some ⟨b, off, none⟩ → W.heap.size ≤ b)
    (ha : ∀ c, a = .pointer (some ⟨c, 0, none⟩) → c < W.heap.size) (hb : ∀ c, b = .pointer (some ⟨c, 0, none⟩) → c < W.heap.size) : DpL w' d4 true arg l u (.slice q l.length d) a b :=
  ⟨h.1, fun _ => ⟨q, d, rfl, m, r, fun _ c off e ev => by have := hq c off e; have := ha c ev; omega, fun _ c off e ev => by have := hq c off e; have := hb c ev; omega⟩⟩
end
theorem row_fillL {q : Option Addr} {l : List Lk} {B : Nat} (h : Row W q 3 (lrows l)) (ho : OffL q l (.pointer (some ⟨B, 0, none⟩))) (s : Sd) (pT pF pS : Option Addr) (cT cF cS : Nat) : Row (fill W B s pT pF pS cT cF cS) q 3 (lrows l) := by
  have one : ∀ {W : World} (_ : Row W q 3 (lrows l)) (i : Nat) (v : Value), Row (W.setCell ⟨B, i, none⟩ v) q 3 (lrows l) := fun h i v =>
    h.away (fun h0 b off e he => ho (by simpa [lrows] using h0) b off e (by simp only at he; rw [he])) v
  exact one (one (one (one (one h 0 _) 1 _) 2 _) 3 _) 4 _
/-- a slice of these numbers -/
def RowLk (W : World) (v : Value) (l : List Lk) : Prop := ∃ q d, v = .slice q l.length d ∧ (l.length ≤ d ∧ d ≤ maxLen) ∧ Row W q 3 (lrows l)

/-- how far the whole statement has come -/
structure Quad (w1 : World) (s : Sd) (val x y : Value) (la lb : List Lk) (done : Nat → Bool) (W : World) (V : Nat → Value) : Prop where
  pair : Pair w1 s val (pq done) W (V 0) (V 1) (V 2) (V 3) (V 8) (V 9)
  a : DpL W (done 4) (done 5) x la (V 4) (V 5) (V 8) (V 9)
  b : DpL W (done 6) (done 7) y lb (V 6) (V 7) (V 8) (V 9)
section
variable {x y : Value} {la lb : List Lk} {V : Nat → Value}
theorem Quad.start (w : World) (s : Sd) (val x y : Value) (la lb : List Lk) : Quad w s val x y la lb (fun _ => false) w.drew (fun _ => undef) :=
  ⟨by rw [pq_start]; exact Pair.start w s val, ⟨fun h => (by cases h), fun h => (by cases h)⟩, ⟨fun h => (by cases h), fun h => (by cases h)⟩⟩
theorem Quad.load0 (h : Quad w1 s val x y la lb done W V) : Quad w1 s val x y la lb (upd done 0) W (put V 0 val) :=
  ⟨by rw [pq_low (by decide)]; exact h.pair.load0, h.a.cast (by simp [upd]) (by simp [upd]), h.b.cast (by simp [upd]) (by simp [upd])⟩
theorem Quad.load2 (h : Quad w1 s val x y la lb done W V) : Quad w1 s val x y la lb (upd done 2) W (put V 2 val) :=
  ⟨by rw [pq_low (by decide)]; exact h.pair.load2, h.a.cast (by simp [upd]) (by simp [upd]), h.b.cast (by simp [upd]) (by simp [upd])⟩
theorem Quad.call1 {qT qF qS : Option Addr} {dT dF dS : Nat} (h : Quad w1 s val x y la lb done W V) (u : Up W w') (hl : Lists w' s qT qF qS dT dF dS) (hf : Fresh W.heap.size s qT qF qS) : Quad w1 s val x y la lb (upd done 1) w' (put V 1 (sdVal s qT qF qS dT dF dS)) :=
  ⟨by rw [pq_low (by decide)]; exact h.pair.call1 u hl hf, (h.a.up u).cast (by simp [upd]) (by simp [upd]), (h.b.up u).cast (by simp [upd]) (by simp [upd])⟩
theorem Quad.call3 {qT qF qS : Option Addr} {dT dF dS : Nat} (h : Quad w1 s val x y la lb done W V) (u : Up W w') (hl : Lists w' s qT qF qS dT dF dS) (hf : Fresh W.heap.size s qT qF qS) : Quad w1 s val x y la lb (upd done 3) w' (put V 3 (sdVal s qT qF qS dT dF dS)) :=
  ⟨by rw [pq_low (by decide)]; exact h.pair.call3 u hl hf, (h.a.up u).cast (by simp [upd]) (by simp [upd]), (h.b.up u).cast (by simp [upd]) (by simp [upd])⟩
theorem Quad.mv4 (h : Quad w1 s val x y la lb done W V) : Quad w1 s val x y la lb (upd done 4) W (put V 4 x) :=
  ⟨by rw [pq_mid (by decide) (by decide)]; exact h.pair, h.a.mv.cast (by simp [upd]) (by simp [upd]), h.b.cast (by simp [upd]) (by simp [upd])⟩
theorem Quad.mv6 (h : Quad w1 s val x y la lb done W V) : Quad w1 s val x y la lb (upd done 6) W (put V 6 y) :=
  ⟨by rw [pq_mid (by decide) (by decide)]; exact h.pair, h.a.cast (by simp [upd]) (by simp [upd]), h.b.mv.cast (by simp [upd]) (by simp [upd])⟩
theorem Quad.dup5 (h : Quad w1 s val x y la lb done W V) {q : Option Addr} {d : Nat} (u : Up W w') (m : la.length ≤ d ∧ d ≤ maxLen) (r : Row w' q 3 (lrows la)) (hq : ∀ b off, q = some ⟨b, off, none⟩ → W.heap.size ≤ b) : Quad w1 s val x y la lb (upd done 5) w' (put V 5 (.slice q la.length d)) :=
  ⟨by rw [pq_mid (by decide) (by decide)]; exact h.pair.up' u, (h.a.dup u m r hq h.pair.low4 h.pair.low5).cast (by simp [upd]) (by simp [upd]), (h.b.up u).cast (by simp [upd]) (by simp [upd])⟩
theorem Quad.dup7 (h : Quad w1 s val x y la lb done W V) {q : Option Addr} {d : Nat} (u : Up W w') (m : lb.length ≤ d ∧ d ≤ maxLen) (r : Row w' q 3 (lrows lb)) (hq : ∀ b off, q = some ⟨b, off, none⟩ → W.heap.size ≤ b) : Quad w1 s val x y la lb (upd done 7) w' (put V 7 (.slice q lb.length d)) :=
  ⟨by rw [pq_mid (by decide) (by decide)]; exact h.pair.up' u, (h.a.up u).cast (by simp [upd]) (by simp [upd]), (h.b.dup u m r hq h.pair.low4 h.pair.low5).cast (by simp [upd]) (by simp [upd])⟩
theorem Quad.alloc8 (h : Quad w1 s val x y la lb done W V) : Quad w1 s val x y la lb (upd done 8) (W.alloc (.cells #[.slice none 0 0, .int .i64 0, .int .i64 0, .slice none 0 0, .slice none 0 0] 28)) (put V 8 (.pointer (some ⟨W.heap.size, 0, none⟩))) :=
  ⟨by rw [pq_high (i := 4) (by decide)]; exact h.pair.alloc4, (h.a.allocA _).cast (by simp [upd]) (by simp [upd]), (h.b.allocA _).cast (by simp [upd]) (by simp [upd])⟩
theorem Quad.alloc9 (h : Quad w1 s val x y la lb done W V) : Quad w1 s val x y la lb (upd done 9) (W.alloc (.cells #[.slice none 0 0, .int .i64 0, .int .i64 0, .slice none 0 0, .slice none 0 0] 35)) (put V 9 (.pointer (some ⟨W.heap.size, 0, none⟩))) :=
  ⟨by rw [pq_high (i := 5) (by decide)]; exact h.pair.alloc5, (h.a.allocB _).cast (by simp [upd]) (by simp [upd]), (h.b.allocB _).cast (by simp [upd]) (by simp [upd])⟩
end
end
end Go.Proofs.YtknaajofcbenaaaGreat
/- The law's seen: looks, said in the reference's words. -/
namespace Go.Proofs.YtknaajofcbenaaaGreat
open Go.RowKit Go.Shelf

theorem infoRLk : (Tryz.prog.info? 124).map (fun i => (i.zero, i.size, i.bytes)) = some (some (.agg #[.int .i64 0, .int .i64 0, .bool false]), 3, 24) := by kernel_rfl
theorem lrows_take {l : List Lk} {k : Nat} (h : k < l.length) : (lrows (l.take (k + 1))).flatten = (lrows (l.take k)).flatten ++ [.int .i64 l[k].1, .int .i64 l[k].2.1, .bool l[k].2.2] := by
  unfold lrows
  rw [List.take_add_one, List.getElem?_eq_getElem h, List.map_append, List.flatten_append]
  rfl

set_option maxRecDepth 100000 in
set_option maxHeartbeats 1000000 in
theorem seen_c (l : List Lk) (p : Option Addr) (c : Nat) (w : World) (hr : Row w p 3 (lrows l)) (hm : l.length ≤ 100) :
    Calls Tryz.prog 26 #[.slice p l.length c] w fun e w' => ∃ q d, e = .returned (.slice q l.length d) ∧ l.length ≤ d ∧ d ≤ maxLen ∧ Row w' q 3 (lrows l) ∧ (∀ b off, q = some ⟨b, off, none⟩ → w.heap.size ≤ b) ∧ Up w w' := by
  obtain ⟨i0, hi, hz0, hz1, hz2⟩ := info_parts infoRLk
  have HR := Lib.hid hr
  clear hr
  go_enter Tryz.func26, Tryz.ntmps26
  go_wp2_with fail
  go_loopw [3, 5, 8] (fun o _ i wr => ∃ k : Nat, k ≤ l.length ∧ i = .int .i64 k ∧ wr.ownsRow w.heap.size 124 3 o k (lrows (l.take k)).flatten ∧ Up w wr) (fun _ _ i _ => l.length - (intOf i).toNat)
  case atStart => exact ⟨0, by omega, rfl, World.ownsRow_nil _ _ _ _, by (repeat (first | exact Below.refl _ _ | (with_reducible refine Below.drewN' ?_ _) | (with_reducible refine Below.drew ?_) | (with_reducible refine Below.setCell ?_ (by first | exact Nat.le_refl _ | omega | (with_reducible (repeat (first | refine sz_alloc ?_ | refine sz_setCell ?_ | refine sz_drew ?_ | refine sz_drewN ?_)); first | exact Nat.le_refl _ | omega) | (simp only [World.size_alloc, World.size_setCell, World.size_drew, size_drewN']; omega)) _) | (with_reducible refine Below.alloc ?_ (by first | exact Nat.le_refl _ | omega | (with_reducible (repeat (first | refine sz_alloc ?_ | refine sz_setCell ?_ | refine sz_drew ?_ | refine sz_drewN ?_)); first | exact Nat.le_refl _ | omega) | (simp only [World.size_alloc, World.size_setCell, World.size_drew, size_drewN']; omega)) _) | assumption))⟩
  case round =>
    obtain ⟨k, hk, rfl, hown, hu⟩ := hrel
    have HO := Lib.hid hown
    have HU := Lib.hid hu
    have hsz := hu.size
    clear hown
    by_cases hlt : k < l.length
    · have HP := Lib.hid (lrows_take hlt)
      obtain ⟨b, off, rfl, d0, d1, d2⟩ := HR.out.look k hlt
      have x0 := hu.cellAt d0
      have x1 := hu.cellAt d1
      have x2 := hu.cellAt d2
      clear d0 d1 d2 hu
      have bl1 : (k : Int) < (l.length : Int) := by omega
      have bl2 : (0 : Int) ≤ k := by omega
      have sk : IntKind.i64.wrap ((k : Int) + 1) = (k : Int) + 1 := IntWalk.i64_in _ (by omega)
      generalize l[k] = x at *
      obtain ⟨xa, xb, xc⟩ := x
      dsimp only at x0 x1 x2 HP
      generalize (lrows (l.take k)).flatten = xs at *
      have HX := Lib.hid HP.out
      clear HP
      go_wp2_with (at_builtin; refine wpList_append_own _ rfl _ _ 63 rfl w.heap.size 124 i0 (.agg #[.int .i64 0, .int .i64 0, .bool false]) 3 24 Tryz.underlying63 hi hz0 hz1 hz2 rfl (by decide) _ _ _ rfl ((HO.out.alloc _).alloc _) ⟨wr.heap.size + 1, 0, none⟩ 1 1 [.int .i64 xa, .int .i64 xb, .bool xc] rfl rfl (newsAt _ (by simp) [.int .i64 xa, .int .i64 xb, .bool xc] _) (by simp [Value.oneCell']) (by simp [maxLen]; omega) (by omega) (by simp; omega) ?_; intro v' w1 hown1 hgr hnn; clear hnn; have HG : Hid (((wr.alloc (.cells #[.int .i64 xa, .int .i64 xb, .bool xc] 62)).alloc (.cells #[.int .i64 xa, .int .i64 xb, .bool xc] 124)).grownBy w1 u3.ownBlock) := hgr; have HO1 := Lib.hid hown1; clear hown1 hgr)
      have U8 : Hid (Up w w1) := Below.grown (by (repeat (first | exact Below.refl _ _ | (with_reducible refine Below.drewN' ?_ _) | (with_reducible refine Below.drew ?_) | (with_reducible refine Below.setCell ?_ (by first | exact Nat.le_refl _ | omega | (with_reducible (repeat (first | refine sz_alloc ?_ | refine sz_setCell ?_ | refine sz_drew ?_ | refine sz_drewN ?_)); first | exact Nat.le_refl _ | omega) | (simp only [World.size_alloc, World.size_setCell, World.size_drew, size_drewN']; omega)) _) | (with_reducible refine Below.alloc ?_ (by first | exact Nat.le_refl _ | omega | (with_reducible (repeat (first | refine sz_alloc ?_ | refine sz_setCell ?_ | refine sz_drew ?_ | refine sz_drewN ?_)); first | exact Nat.le_refl _ | omega) | (simp only [World.size_alloc, World.size_setCell, World.size_drew, size_drewN']; omega)) _) | assumption))) HG.out (by simp; omega) (fun j e => (HO.out.lt j e).1)
      go_roundw
      case rel =>
        try ((repeat apply Exists.intro); refine ⟨?_, rfl⟩)
        refine ⟨k + 1, hlt, by go_num, ?_, U8.out⟩
        rw [HX.out]
        exact HO1.out
      case measure => simp [intOf]; omega
    · obtain rfl : k = l.length := by omega
      have HT := Lib.hid (show l.take l.length = l from List.take_length)
      have bl1 : ¬ (l.length : Int) < (l.length : Int) := by omega
      obtain ⟨q, d, rfl, a1, a2, a3, a4⟩ := Row.of_own (rows := lrows (l.take l.length)) (by simp [flatOk, lrows]) HO.out (by simp [lrows])
      have HA := Lib.hid a3
      have HB := Lib.hid a4
      clear a3 a4 hu
      go_wp2_with fail
      go_ret
      exact ⟨q, d, rfl, a1, a2, by rw [← HT.out]; exact HA.out, HB.out, HU.out⟩
end Go.Proofs.YtknaajofcbenaaaGreat
/- Lists of looks are compared. -/
namespace Go.Proofs.YtknaajofcbenaaaGreat
open Go.RowKit Go.Shelf

set_option maxRecDepth 100000 in
set_option maxHeartbeats 1000000 in
theorem equalLook_c (l r : List Lk) (p q : Option Addr) (c d : Nat) (w : World) (h1 : Row w p 3 (lrows l)) (h2 : Row w q 3 (lrows r)) (m1 : l.length ≤ maxLen) (m2 : r.length ≤ maxLen) :
    Calls Tryz.prog 85 #[.slice p l.length c, .slice q r.length d] w fun e w' => e = .returned (.bool (decide (l = r))) ∧ Up w w' := by
  have H1 := Lib.hid h1
  have H2 := Lib.hid h2
  unfold maxLen at m1 m2
  clear h1 h2
  go_enter Tryz.func85, Tryz.ntmps85
  by_cases hl : l.length = r.length
  · have hl' : (l.length : Int) = (r.length : Int) := by omega
    go_wp2_with fail
    go_loopw [13] (fun i wr => ∃ k : Nat, k ≤ l.length ∧ i = .int .i64 k ∧ (l = r ↔ l.drop k = r.drop k) ∧ Up w wr) (fun i _ => l.length - (intOf i).toNat)
    case atStart => exact ⟨0, Nat.zero_le _, rfl, Iff.rfl, Below.refl _ _⟩
    case round =>
      obtain ⟨k, hk, rfl, ht, hu⟩ := hrel
      have HT := Lib.hid ht
      have HU := Lib.hid hu
      clear ht
      by_cases hlt : k < l.length
      · have hlr : k < r.length := by omega
        obtain ⟨b, off, rfl, d0, d0', d0''⟩ := H1.out.look k hlt
        obtain ⟨b', off', rfl, d1, d1', d1''⟩ := H2.out.look k hlr
        have e0 := hu.cellAt d0
        have e1 := hu.cellAt d1
        have e0' := hu.cellAt d0'
        have e1' := hu.cellAt d1'
        have e0'' := hu.cellAt d0''
        have e1'' := hu.cellAt d1''
        have HD := Lib.hid (drop_eq_iff hl hlt hlr)
        clear d0 d1 d0' d1' d0'' d1'' hu
        generalize l[k] = x at *
        generalize r[k] = y at *
        obtain ⟨xa, xb, xc⟩ := x
        obtain ⟨ya, yb, yc⟩ := y
        dsimp only at e0 e1 e0' e1' e0'' e1''
        have b1 : (k : Int) < (l.length : Int) := by omega
        have b2 : (k : Int) < (r.length : Int) := by omega
        go_wp2_with fail
        by_cases hxy : (xa, xb, xc) = (ya, yb, yc)
        · have HX := Lib.hid (show l = r ↔ l.drop (k + 1) = r.drop (k + 1) by rw [HT.out, HD.out]; simp [hxy])
          obtain ⟨rfl, rfl, rfl⟩ : xa = ya ∧ xb = yb ∧ xc = yc := by simpa using hxy
          go_quiet (fail)
          go_wp2_with fail
          go_roundw
          case rel => exact ⟨k + 1, hlt, by go_num, HX.out, Below.drewN' HU.out _⟩
          case measure => simp [intOf]; omega
        · have HX : Hid (¬ l = r) := by rw [show l = r ↔ _ from HT.out, HD.out]; exact fun h => hxy h.1
          by_cases ha : xa = ya
          · subst ha
            by_cases hb : xb = yb
            · subst hb
              have hc : ¬ xc = yc := fun e => hxy (by rw [e])
              have hc' : (xc == yc) = false := by rw [beq_eq_false_iff_ne]; exact hc
              clear hxy
              go_quiet (fail)
              go_wp2_with fail
              go_ret
              exact ⟨ret_bool (by simpa using HX.out), Below.drewN' HU.out _⟩
            · clear hxy
              go_quiet (fail)
              go_wp2_with fail
              go_ret
              exact ⟨ret_bool (by simpa using HX.out), Below.drewN' HU.out _⟩
          · clear hxy
            go_quiet (fail)
            go_wp2_with fail
            go_ret
            exact ⟨ret_bool (by simpa using HX.out), Below.drewN' HU.out _⟩
      · obtain rfl : k = l.length := by omega
        have HX : Hid (l = r) := HT.out.2 (by rw [List.drop_eq_nil_of_le (Nat.le_refl _), List.drop_eq_nil_of_le (by omega)])
        go_wp2_with fail
        go_ret
        exact ⟨ret_bool (by simpa using HX.out), HU.out⟩
  · have hl' : ¬ (l.length : Int) = (r.length : Int) := by omega
    go_wp2_with fail
    go_ret
    exact ⟨ret_bool (by symm; rw [decide_eq_false_iff_not]; rintro rfl; exact hl rfl), Below.refl _ _⟩


theorem eqLook_c (l r : List Lk) (p q : Option Addr) (c d : Nat) (w : World) (h1 : Row w p 3 (lrows l)) (h2 : Row w q 3 (lrows r)) (m1 : l.length ≤ maxLen) (m2 : r.length ≤ maxLen) :
    Calls Tryz.prog 32 #[.slice p l.length c, .slice q r.length d] w fun e w' => e = .returned (.bool (decide (l = r))) ∧ Up w w' := by
  have HE := Lib.hid (equalLook_c l r p q c d w h1 h2 m1 m2)
  clear h1 h2
  go_enter Tryz.func32, Tryz.ntmps32
  go_wp2_with fail
  refine HE.out.mono ?_
  rintro e w1 ⟨rfl, u1⟩
  go_wp2_with fail
  go_ret
  exact ⟨rfl, u1⟩
end Go.Proofs.YtknaajofcbenaaaGreat
/- What Clash finds is one list alone. -/
namespace Go.Proofs.YtknaajofcbenaaaGreat
section
open Go.RowKit
theorem clash_one {s : Sd} {l : List Lk} {r r' : List Int} (h : ClashIs s l r) (h' : ClashIs s l r') : r = r' := by
  rcases h with ⟨i, hi, rfl, h0, h1⟩ | ⟨hs, h⟩
  · rcases h' with ⟨j, hj, rfl, k0, k1⟩ | ⟨ks, -⟩
    · rcases Nat.lt_trichotomy i j with e | rfl | e
      · exact absurd h0 (k1 i hi e)
      · rfl
      · exact absurd k0 (h1 j hj e)
    · exact absurd h0 (ks _ (List.getElem_mem hi))
  · rcases h' with ⟨j, hj, rfl, k0, k1⟩ | ⟨ks, h'⟩
    · exact absurd k0 (hs _ (List.getElem_mem hj))
    · rcases h with ⟨i, j, hi, hj, hij, rfl, h0, h1⟩ | ⟨rfl, h1⟩
      · rcases h' with ⟨i', j', hi', hj', hij', rfl, k0, k1⟩ | ⟨rfl, k1⟩
        · have a : ¬ (i < i' ∨ i = i' ∧ j < j') := fun e => k1 i j hi hj hij e h0
          have b : ¬ (i' < i ∨ i' = i ∧ j' < j) := fun e => h1 i' j' hi' hj' hij' e k0
          obtain rfl : i = i' := by omega
          obtain rfl : j = j' := by omega
          rfl
        · exact absurd h0 (k1 i j hi hj hij)
      · rcases h' with ⟨i', j', hi', hj', hij', rfl, k0, k1⟩ | ⟨rfl, k1⟩
        · exact absurd k0 (h1 i' j' hi' hj' hij')
        · rfl
end
end Go.Proofs.YtknaajofcbenaaaGreat
/- The reference's members: the numbers that a set names. -/
namespace Go.Proofs.YtknaajofcbenaaaGreat
open Go.RowKit Go.Shelf

theorem memS_succ (v k : Nat) : memS v (k + 1) = if inS v k = true then memS v k ++ [(k : Int)] else memS v k := by
  unfold memS
  rw [List.range_succ, List.filter_append, List.map_append]
  by_cases h : inS v k = true
  · rw [if_pos h, List.filter_cons_of_pos h]; rfl
  · rw [if_neg h, List.filter_cons_of_neg h]; simp
theorem memS_stop {v k : Nat} (h : v / 2 ^ k = 0) : ∀ n, k ≤ n → memS v n = memS v k
  | 0, hk => by obtain rfl : k = 0 := by omega
                rfl
  | n + 1, hk => by
    by_cases e : k = n + 1
    · subst e; rfl
    · have hn : k ≤ n := by omega
      rw [memS_succ, if_neg, memS_stop h n hn]
      have : v / 2 ^ n = 0 := by
        obtain ⟨d, rfl⟩ : ∃ d, n = k + d := ⟨n - k, by omega⟩
        rw [Nat.pow_add, ← Nat.div_div_eq_div_mul, h, Nat.zero_div]
      unfold inS
      rw [this]
      decide
theorem memS_le (v : Nat) : ∀ n, (memS v n).length ≤ n
  | 0 => Nat.le_refl _
  | n + 1 => by
    rw [memS_succ]
    have := memS_le v n
    split
    · rw [List.length_append]; simp; omega
    · omega

set_option maxRecDepth 100000 in
set_option maxHeartbeats 1000000 in
theorem members_c (v n : Nat) (w : World) (hn : n ≤ 10) (hv : v < 2 ^ n) :
    Calls Tryz.prog 79 #[.int .i64 v] w fun e w' => ∃ q d, e = .returned (.slice q (memS v n).length d) ∧ (memS v n).length ≤ d ∧ d ≤ maxLen ∧ Row w' q 1 (ints (memS v n)) ∧ (∀ b off, q = some ⟨b, off, none⟩ → w.heap.size ≤ b) ∧ Up w w' := by
  obtain ⟨i0, hi, hz0, hz1, hz2⟩ := info_parts info3
  have HV := Lib.hid hv
  have hv9 : v < 1024 := Nat.lt_of_lt_of_le hv (Nat.pow_le_pow_right (by decide) hn)
  clear hv
  go_enter Tryz.func79, Tryz.ntmps79
  go_wp2_with fail
  go_loopw [0, 4, 3] (fun x i o wr => ∃ k : Nat, k ≤ n ∧ x = .int .i64 ((v / 2 ^ k : Nat) : Int) ∧ i = .int .i64 k ∧ wr.ownsRow w.heap.size 3 1 o (memS v k).length (ints (memS v k)).flatten ∧ Up w wr) (fun _ i _ _ => n - (intOf i).toNat)
  case atStart => exact ⟨0, by omega, by simp, rfl, World.ownsRow_nil _ _ _ _, Below.refl _ _⟩
  case round =>
    obtain ⟨k, hk, rfl, rfl, hown, hu⟩ := hrel
    have HO := Lib.hid hown
    have HU := Lib.hid hu
    have hln := memS_le v k
    have hsz := hu.size
    clear hown hu
    have HX := Lib.hid (show v / 2 ^ (k + 1) = v / 2 ^ k / 2 by rw [Nat.pow_succ, Nat.div_div_eq_div_mul])
    have HI := Lib.hid (show inS v k = (v / 2 ^ k % 2 == 1) from rfl)
    have x9 : v / 2 ^ k < 1024 := Nat.lt_of_le_of_lt (Nat.div_le_self _ _) hv9
    have HZ := Lib.hid (fun h : v / 2 ^ k = 0 => memS_stop h n hk)
    have HY := Lib.hid (fun h : k = n => show v / 2 ^ k = 0 by rw [h]; exact Nat.div_eq_of_lt HV.out)
    generalize v / 2 ^ k = x at *
    by_cases hx : x = 0
    · subst hx
      have HZ' := Lib.hid (HZ.out rfl)
      clear HZ HY HX HI
      obtain ⟨q, d, rfl, a1, a2, hR, hge⟩ := Row.of_own (rows := ints (memS v k)) (flatOk_ints _) HO.out (by simp [ints])
      go_wp2_with fail
      go_ret
      rw [HZ'.out]
      exact ⟨q, d, rfl, a1, a2, hR, hge, HU.out⟩
    · have hkn : k < n := Nat.lt_of_le_of_ne hk (fun h => hx (HY.out h))
      have x0 : (0 : Int) < (x : Int) := by omega
      have sy : IntKind.i64.wrap ((k : Int) + 1) = k + 1 := IntWalk.i64_in _ (by omega)
      have sx : IntKind.i64.wrap ((x : Int) / 2) = (x : Int) / 2 := IntWalk.i64_in _ (by omega)
      have su : IntKind.i64.wrap ((x : Int) % 2) = (x : Int) % 2 := IntWalk.i64_in _ (by omega)
      by_cases hb : x % 2 = 1
      · have hbb : ((x : Int) % 2 == 1) = true := by rw [beq_iff_eq]; omega
        have HN := Lib.hid (show memS v (k + 1) = memS v k ++ [(k : Int)] by rw [memS_succ, if_pos (by rw [HI.out, hb]; rfl)])
        clear HY HZ HI hb
        go_wp2_with (at_builtin; refine wpList_append_own _ rfl _ _ 25 rfl w.heap.size 3 i0 (.int .i64 0) 1 8 Tryz.underlying25 hi hz0 hz1 hz2 rfl (by decide) _ _ _ rfl (HO.out.alloc _) ⟨wr.heap.size, 0, none⟩ 1 1 [.int .i64 k] rfl rfl (newsAt _ rfl [.int .i64 k] _) (by simp [Value.oneCell']) (by simp [maxLen]; omega) (by omega) (sz_alloc hsz) ?_; intro v' w8 hown8 hgr8 hnn; clear hnn)
        have U8 := Lib.hid ((HU.out.alloc hsz _).grown hgr8 (sz_alloc hsz) (fun j e => (HO.out.lt j e).1))
        have O8 := Lib.hid hown8
        clear hown8 hgr8
        go_roundw
        case rel =>
          try ((repeat apply Exists.intro); refine ⟨?_, rfl⟩)
          refine ⟨k + 1, by omega, by rw [HX.out]; exact congrArg _ (by omega), by go_num, ?_, U8.out⟩
          have e : (ints (memS v k ++ [(k : Int)])).flatten = (ints (memS v k)).flatten ++ [.int .i64 k] := by unfold ints; rw [List.map_append, List.flatten_append]; rfl
          rw [HN.out, e, List.length_append]
          exact O8.out
        case measure => simp [intOf]; omega
      · have hbb : ((x : Int) % 2 == 1) = false := by rw [beq_eq_false_iff_ne]; omega
        have HN := Lib.hid (show memS v (k + 1) = memS v k by rw [memS_succ, if_neg (by rw [HI.out]; simp; omega)])
        clear HY HZ HI hb
        go_wp2_with fail
        go_roundw
        case rel =>
          try ((repeat apply Exists.intro); refine ⟨?_, rfl⟩)
          exact ⟨k + 1, by omega, by rw [HX.out]; exact congrArg _ (by omega), by go_num, by rw [HN.out]; exact HO.out, HU.out⟩
        case measure => simp [intOf]; omega
end Go.Proofs.YtknaajofcbenaaaGreat
namespace Go.Proofs.YtknaajofcbenaaaGreat
open Go.RowKit Go.Shelf

theorem lexB_nil (b : List Int) : lexB [] b = false := by unfold lexB; rfl
set_option maxRecDepth 100000 in
set_option maxHeartbeats 1000000 in
theorem ahead_c (la lb : List Int) (p q : Option Addr) (c d : Nat) (w : World) (ha : Row w p 1 (ints la)) (hb : Row w q 1 (ints lb)) (m1 : la.length ≤ 100000) (m2 : lb.length ≤ 100000) :
    Calls Tryz.prog 80 #[.slice p la.length c, .slice q lb.length d] w fun e w' => e = .returned (.bool (aheadB la lb)) ∧ Up w w' := by
  have RA := Lib.hid ha
  have RB := Lib.hid hb
  clear ha hb
  go_enter Tryz.func80, Tryz.ntmps80
  by_cases hl : la.length = lb.length
  · have e1 : ((la.length : Int) != lb.length) = false := by rw [hl]; simp
    have HV := Lib.hid (show aheadB la lb = lexB la lb by unfold aheadB; rw [if_pos hl])
    have HL := Lib.hid hl
    obtain ⟨n, hn⟩ : ∃ n, la.length = n := ⟨_, rfl⟩
    obtain ⟨n', hn'⟩ : ∃ n, lb.length = n := ⟨_, rfl⟩
    have HN := Lib.hid hn
    have HN' := Lib.hid hn'
    rw [hn] at e1 m1 ⊢
    rw [hn'] at e1 m2 ⊢
    obtain rfl : n = n' := by rw [hn, hn'] at hl; exact hl
    clear hl hn hn'
    go_wp2_with fail
    go_loopw [5] (fun i wr => ∃ k : Nat, k ≤ n ∧ i = .int .i64 k ∧ lexB la lb = lexB (la.drop k) (lb.drop k) ∧ Up w wr) (fun i _ => n - (intOf i).toNat)
    case atStart => exact ⟨0, Nat.zero_le _, rfl, rfl, Below.refl _ _⟩
    case round =>
      obtain ⟨k, hk, rfl, hv, hu⟩ := hrel
      have HK := Lib.hid hv
      have HU := Lib.hid hu
      clear hv
      by_cases hlt : k < n
      · have k1 : (k : Int) < n := by omega
        have ka : k < la.length := by rw [HN.out]; exact hlt
        have kb : k < lb.length := by rw [HN'.out]; exact hlt
        obtain ⟨bp, op, rfl, ca⟩ := (RA.out.up hu).int k ka
        obtain ⟨bq, oq, rfl, cb⟩ := (RB.out.up hu).int k kb
        have hd : lexB (la.drop k) (lb.drop k) = if la[k] = lb[k] then lexB (la.drop (k + 1)) (lb.drop (k + 1)) else decide (la[k] < lb[k]) := by
          rw [List.drop_eq_getElem_cons ka, List.drop_eq_getElem_cons kb]
          conv => lhs; unfold lexB
        have HD := Lib.hid hd
        have sy : IntKind.i64.wrap ((k : Int) + 1) = k + 1 := IntWalk.i64_in _ (by omega)
        clear hd
        generalize la[k] = x at *
        generalize lb[k] = y at *
        clear ka kb hu
        by_cases hxy : x = y
        · subst hxy
          rw [if_pos rfl] at HD
          go_wp2_with fail
          go_quiet (fail)
          go_wp2_with fail
          go_roundw
          case rel =>
            try ((repeat apply Exists.intro); refine ⟨?_, rfl⟩)
            exact ⟨k + 1, by omega, by go_num, by rw [HK.out, HD.out], Up.trans HU.out (by (repeat (first | exact Below.refl _ _ | (with_reducible refine Below.drewN' ?_ _) | (with_reducible refine Below.drew ?_) | (with_reducible refine Below.setCell ?_ (by first | exact Nat.le_refl _ | omega | (with_reducible (repeat (first | refine sz_alloc ?_ | refine sz_setCell ?_ | refine sz_drew ?_ | refine sz_drewN ?_)); first | exact Nat.le_refl _ | omega) | (simp only [World.size_alloc, World.size_setCell, World.size_drew, size_drewN']; omega)) _) | (with_reducible refine Below.alloc ?_ (by first | exact Nat.le_refl _ | omega | (with_reducible (repeat (first | refine sz_alloc ?_ | refine sz_setCell ?_ | refine sz_drew ?_ | refine sz_drewN ?_)); first | exact Nat.le_refl _ | omega) | (simp only [World.size_alloc, World.size_setCell, World.size_drew, size_drewN']; omega)) _) | assumption)))⟩
          case measure => simp [intOf]; omega
        · have hb : (x != y) = true := bne_iff_ne.2 hxy
          rw [if_neg hxy] at HD
          have HF := Lib.hid (show aheadB la lb = decide (x < y) by rw [HV.out, HK.out, HD.out])
          clear hxy HD HK HV
          go_wp2_with fail
          go_quiet (fail)
          go_wp2_with fail
          go_quiet (fail)
          go_wp2_with fail
          go_ret
          exact ⟨by rw [HF.out]; rfl, Up.trans HU.out (by (repeat (first | exact Below.refl _ _ | (with_reducible refine Below.drewN' ?_ _) | (with_reducible refine Below.drew ?_) | (with_reducible refine Below.setCell ?_ (by first | exact Nat.le_refl _ | omega | (with_reducible (repeat (first | refine sz_alloc ?_ | refine sz_setCell ?_ | refine sz_drew ?_ | refine sz_drewN ?_)); first | exact Nat.le_refl _ | omega) | (simp only [World.size_alloc, World.size_setCell, World.size_drew, size_drewN']; omega)) _) | (with_reducible refine Below.alloc ?_ (by first | exact Nat.le_refl _ | omega | (with_reducible (repeat (first | refine sz_alloc ?_ | refine sz_setCell ?_ | refine sz_drew ?_ | refine sz_drewN ?_)); first | exact Nat.le_refl _ | omega) | (simp only [World.size_alloc, World.size_setCell, World.size_drew, size_drewN']; omega)) _) | assumption)))⟩
      · obtain rfl : n = k := by omega
        have HF := Lib.hid (show aheadB la lb = false by rw [HV.out, HK.out, List.drop_of_length_le (by rw [HN.out]; exact Nat.le_refl _)]; exact lexB_nil _)
        clear HK HV
        go_wp2_with fail
        go_ret
        exact ⟨by rw [HF.out]; rfl, HU.out⟩
  · have e1 : ((la.length : Int) != lb.length) = true := by rw [bne_iff_ne]; omega
    have HV := Lib.hid (show aheadB la lb = decide (la.length < lb.length) by unfold aheadB; rw [if_neg hl])
    clear hl
    go_wp2_with fail
    go_ret
    refine ⟨?_, by (repeat (first | exact Below.refl _ _ | (with_reducible refine Below.drewN' ?_ _) | (with_reducible refine Below.drew ?_) | (with_reducible refine Below.setCell ?_ (by first | exact Nat.le_refl _ | omega | (with_reducible (repeat (first | refine sz_alloc ?_ | refine sz_setCell ?_ | refine sz_drew ?_ | refine sz_drewN ?_)); first | exact Nat.le_refl _ | omega) | (simp only [World.size_alloc, World.size_setCell, World.size_drew, size_drewN']; omega)) _) | (with_reducible refine Below.alloc ?_ (by first | exact Nat.le_refl _ | omega | (with_reducible (repeat (first | refine sz_alloc ?_ | refine sz_setCell ?_ | refine sz_drew ?_ | refine sz_drewN ?_)); first | exact Nat.le_refl _ | omega) | (simp only [World.size_alloc, World.size_setCell, World.size_drew, size_drewN']; omega)) _) | assumption))⟩
    rw [HV.out]
    simp
end Go.Proofs.YtknaajofcbenaaaGreat
