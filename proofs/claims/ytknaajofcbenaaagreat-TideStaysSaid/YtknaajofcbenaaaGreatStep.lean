import Derived.Test.YtknaajofcbenaaaGreatBase
import Derived.Test.YtknaajofcbenaaaGreatHeight
import Derived.Test.YtknaajofcbenaaaGreatChk2
import Derived.Test.YtknaajofcbenaaaGreatCheck
import Derived.Test.YtknaajofcbenaaaGreatOn
import Derived.WalkKit
import Derived.WalkSpells
import Derived.WalkLawsBesides
import Derived.Deep.QuietTactic
import Derived.BigQuiet
import Derived.Lib.Hide
import Derived.Shelf.Abstract
import Derived.BigGuardPart
import Derived.RangeFuncNested
import Derived.RangeFuncBound
import Derived.RangeFuncCalls
import Derived.RangeFuncLeaves
import Derived.Shelf.RegionOpen
import Derived.OwnWalkIn
import Derived.TacticsInMore
import Derived.LoopNIn
import Derived.LoopIn
import Derived.StillTailTactics
namespace Go.Proofs.YtknaajofcbenaaaGreat
open Go.RowKit Go.Shelf

/-- the greatest of some heights, at least nothing -/
def grt (l : List Int) : Int := l.foldl max 0

theorem Row.lit (w : World) (l : List Int) (T : TypeId) : Row (w.alloc (.cells (l.map (Value.int .i64)).toArray T)) (some ⟨w.heap.size, 0, none⟩) 1 (ints l) := by
  intro i row hi
  have hB := Blk.new w (l.map (Value.int .i64)) T
  refine ⟨w.heap.size, 0, rfl, fun j x hj => ?_⟩
  simp only [ints, List.getElem?_map, Option.map_eq_some_iff] at hi
  obtain ⟨y, hy, rfl⟩ := hi
  cases j with
  | zero =>
    simp only [List.getElem?_cons_zero, Option.some.injEq] at hj
    subst hj
    simp only [Nat.zero_add, Nat.mul_one, Nat.add_zero]
    rw [hB.cell i, List.getElem?_map, hy]; rfl
  | succ j => simp at hj

theorem foldl_max_ge (l : List Int) (a : Int) : a ≤ l.foldl max a := by
  induction l generalizing a with
  | nil => exact Int.le_refl _
  | cons x r ih => exact Int.le_trans (Int.le_max_left a x) (ih _)

set_option maxHeartbeats 400000 in
theorem greatest_c (p : Option Addr) (c : Nat) (l : List Int) (w : World) (hr : Row w p 1 (ints l)) (hm : l.length ≤ maxLen) :
    Calls Tryz.prog 125 #[.slice p l.length c] w fun e w' => e = .returned (.int .i64 (grt l)) ∧ w = w' := by
  unfold maxLen at hm
  go_enter Tryz.func125, Tryz.ntmps125
  go_wp2
  go_loop [3, 8] (fun m i => ∃ k : Nat, k ≤ l.length ∧ i = .int .i64 k ∧ m = .int .i64 (grt (l.take k))) (fun _ i => l.length - (intOf i).toNat)
  case atStart => exact ⟨0, Nat.zero_le _, rfl, rfl⟩
  case round =>
    obtain ⟨k, hk, rfl, rfl⟩ := hrel
    by_cases hlt : k < l.length
    · obtain ⟨b, off, rfl, hc⟩ := hr.int k hlt
      have HS := Lib.hid (show grt (l.take (k + 1)) = max (grt (l.take k)) l[k] by
        unfold grt; rw [List.take_succ_eq_append_getElem hlt, List.foldl_append]; rfl)
      go_wp2_with fail
      go_round
      case rel => exact ⟨k + 1, hlt, by go_num, by rw [HS.out]; congr 1; simp only [Int.max_def]; split <;> split <;> omega⟩
      case measure => simp [intOf]; omega
    · obtain rfl : k = l.length := by omega
      go_wp2
      go_ret
      exact ⟨ret_int (by simp), rfl⟩

set_option maxRecDepth 100000 in
set_option maxHeartbeats 400000 in
theorem step_c (bw : Nat) (s : Sd) (w : World) (pT pF pS : Option Addr) (cT cF cS : Nat) (hw : SandsAt w bw 0 s pT pF pS cT cF cS) (m2 : s.floors.length ≤ maxLen) (m3 : s.sills.length ≤ maxLen) (i t : Nat) (hI : i < s.sills.length) (hT : t < s.floors.length) :
    Calls Tryz.prog 92 #[.pointer (some ⟨bw, 0, none⟩), .int .i64 i, .int .i64 t] w fun e w' => e = .returned (.int .i64 (grt [s.sills[i].2.2, s.floors[t]])) ∧ Up w w' := by
  have h3 := hw.s3
  have h4 := hw.s4
  have r3 := hw.rf
  have r4 := hw.rs
  obtain ⟨l, lo, hi, fl, sl⟩ := s
  dsimp only at *
  unfold maxLen at m2 m3
  obtain ⟨b, off, rfl, -, -, hc2⟩ := r4.triple i hI
  obtain ⟨b', off', rfl, hd⟩ := r3.int t hT
  have hI' : i < sl.length := hI
  have hT' : t < fl.length := hT
  have k1 : (i : Int) < sl.length := by omega
  have k2 : (t : Int) < fl.length := by omega
  go_enter Tryz.func92, Tryz.ntmps92
  go_wp2
  go_still_tail 17, (by kernel_rfl)
  change wpList _ _ _ _ _ w.drew
  go_wp2_with (go_at_call 125; refine (greatest_c (some ⟨w.heap.size, 0, none⟩) 2 [sl[i].2.2, fl[t]] _ (Row.lit w.drew [sl[i].2.2, fl[t]] _) (by simp [maxLen])).mono ?_; rintro e w' ⟨rfl, rfl⟩)
  go_ret
  exact ⟨rfl, by (repeat (first | exact Below.refl _ _ | (with_reducible refine Below.drewN' ?_ _) | (with_reducible refine Below.drew ?_) | (with_reducible refine Below.setCell ?_ (by first | exact Nat.le_refl _ | omega | (with_reducible (repeat (first | refine sz_alloc ?_ | refine sz_setCell ?_ | refine sz_drew ?_ | refine sz_drewN ?_)); first | exact Nat.le_refl _ | omega) | (simp only [World.size_alloc, World.size_setCell, World.size_drew, size_drewN']; omega)) _) | (with_reducible refine Below.alloc ?_ (by first | exact Nat.le_refl _ | omega | (with_reducible (repeat (first | refine sz_alloc ?_ | refine sz_setCell ?_ | refine sz_drew ?_ | refine sz_drewN ?_)); first | exact Nat.le_refl _ | omega) | (simp only [World.size_alloc, World.size_setCell, World.size_drew, size_drewN']; omega)) _) | assumption))⟩
end Go.Proofs.YtknaajofcbenaaaGreat
