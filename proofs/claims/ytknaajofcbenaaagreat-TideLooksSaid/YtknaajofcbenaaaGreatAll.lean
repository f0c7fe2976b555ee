import Derived.Test.YtknaajofcbenaaaGreatBase
import Derived.Test.YtknaajofcbenaaaGreatHeight
import Derived.Test.YtknaajofcbenaaaGreatChk2
import Derived.Test.YtknaajofcbenaaaGreatCheck
import Derived.Test.YtknaajofcbenaaaGreatOn
import Derived.Test.YtknaajofcbenaaaGreatLower
import Derived.Test.YtknaajofcbenaaaGreatGates
import Derived.Test.YtknaajofcbenaaaGreatBegin
import Derived.Test.YtknaajofcbenaaaGreatBegin2
import Derived.Test.YtknaajofcbenaaaGreatState2
import Derived.Test.YtknaajofcbenaaaGreatOut1
import Derived.WalkKit
import Derived.WalkSpells
import Derived.WalkLawsBesides
import Derived.Deep.QuietTactic
import Derived.BigQuiet
import Derived.Lib.Hide
import Derived.Shelf.Abstract
import Derived.BigGuardPart
import Derived.RangeFuncNested
import Derived.RangeFuncBound
import Derived.RangeFuncCalls
import Derived.RangeFuncLeaves
import Derived.Shelf.RegionOpen
import Derived.OwnWalkIn
import Derived.TacticsInMore
import Derived.LoopNIn
import Derived.LoopIn
import Derived.StillTailTactics
import Derived.Deep.RegionHeld3
import Derived.StillTail
import Derived.RangeFuncWrites
import Derived.Laws.StructEq
import Derived.Deep.LoopGhost
import Derived.IntWalk
namespace Go.Proofs.YtknaajofcbenaaaGreat
open Go.RowKit Go.Shelf

theorem info60 : (Tryz.prog.info? 75).map (fun i => (i.zero, i.size, i.bytes)) = some (some (.int .i64 0), 1, 8) := by kernel_rfl

theorem Row.of_blk {w : World} {B : Nat} {l : List Int} {T : TypeId} (h : Blk w B (gcells l) T) : Row w (some ⟨B, 0, none⟩) 1 (ints l) := by
  intro i row hi
  refine ⟨B, 0, rfl, fun j x hj => ?_⟩
  simp only [ints, List.getElem?_map, Option.map_eq_some_iff] at hi
  obtain ⟨y, hy, rfl⟩ := hi
  cases j with
  | zero =>
    simp only [List.getElem?_cons_zero, Option.some.injEq] at hj
    subst hj
    simp only [Nat.zero_add, Nat.mul_one, Nat.add_zero]
    rw [h.cell i, gcells, List.getElem?_map, hy]; rfl
  | succ j => simp at hj
theorem Row.nil (w : World) (p : Option Addr) (k : Nat) : Row w p k [] := fun i row h => by simp at h

def allS (s : Sd) (m : Int) : List Int := (List.range s.floors.length).map (st s m)
def allV (s : Sd) (m : Int) : List Int := if errAt s m = 0 then allS s m else []

/-- the list while it is filled -/
def fillTo (n : Nat) (f : Nat → Int) (k : Nat) : List Int := (List.range k).map f ++ List.replicate (n - k) 0
theorem fillTo_len {n : Nat} {f : Nat → Int} {k : Nat} (h : k ≤ n) : (fillTo n f k).length = n := by simp [fillTo]; omega
theorem fillTo_set {n : Nat} {f : Nat → Int} {k : Nat} (h : k < n) : (fillTo n f k).set k (f k) = fillTo n f (k + 1) := by
  unfold fillTo
  rw [List.set_append_right _ _ (by simp), List.range_succ, List.map_append, List.append_assoc]
  simp only [List.length_map, List.length_range, Nat.sub_self]
  rw [show n - k = (n - (k + 1)) + 1 by omega, List.replicate_succ]
  rfl
theorem fillTo_end (n : Nat) (f : Nat → Int) : fillTo n f n = (List.range n).map f := by simp [fillTo]

section
variable {pT pF pS : Option Addr} {cT cF cS : Nat}

set_option maxRecDepth 100000 in
set_option maxHeartbeats 1000000 in
theorem All_c (s : Sd) (m : Int) (w : World) (hl : Lists w s pT pF pS cT cF cS) :
    Calls Tryz.prog 45 #[sdVal s pT pF pS cT cF cS, .int .i64 m] w fun e w' => ∃ p c, e = .returned (.tuple #[.slice p (allV s m).length c, .int .i64 (errAt s m)]) ∧ (allV s m).length ≤ c ∧ c ≤ maxLen ∧ Row w' p 1 (ints (allV s m)) ∧ Up w w' := by
  have HC := Lib.hid (fun W (u : Up w W) => beginAt_c s m W (hl.up u))
  unfold allV
  clear hl
  by_cases hE : errAt s m = 0
  · obtain ⟨hc, hm, -⟩ := errAt_zero hE
    have hf8 := (chk_ok hc).fl1
    have HO := Lib.hid (chk_ok hc)
    have hlen : (allS s m).length = s.floors.length := by simp [allS]
    rw [if_pos hE, hlen]
    rw [hE] at HC ⊢
    obtain ⟨i0, hi, hz0, hz1, hz2⟩ := info_parts info60
    have hmk : ∀ u : World, (Instr.makeSlice 92 (.int .i64 (s.floors.length : Int)) (.int .i64 (s.floors.length : Int))).run Tryz.prog u =
        .ok (.slice (some ⟨u.heap.size, 0, none⟩) s.floors.length s.floors.length) (u.alloc (.cells (madeCells #[.int .i64 0] s.floors.length) 75)) := fun u => by
      have h := run_make (P := Tryz.prog) u 92 75 i0 (.int .i64 0) Tryz.underlying92 hi hz0 .i64 .i64 (s.floors.length : Int) (s.floors.length : Int) (by omega) (Int.le_refl _) (by rw [hz2]; omega) (by omega)
      rw [Int.toNat_natCast] at h
      simpa [hz1, Value.cells] using h
    clear hi hz0 hz1 hz2 hE hlen
    unfold sdVal at *
    go_enter Tryz.func45, Tryz.ntmps45
    go_wp2_with fail
    refine (HC.out _ (by (repeat (first | exact Below.refl _ _ | (with_reducible refine Below.drewN' ?_ _) | (with_reducible refine Below.drew ?_) | (with_reducible refine Below.setCell ?_ (by first | exact Nat.le_refl _ | omega | (with_reducible (repeat (first | refine sz_alloc ?_ | refine sz_setCell ?_ | refine sz_drew ?_ | refine sz_drewN ?_)); first | exact Nat.le_refl _ | omega) | (simp only [World.size_alloc, World.size_setCell, World.size_drew, size_drewN']; omega)) _) | (with_reducible refine Below.alloc ?_ (by first | exact Nat.le_refl _ | omega | (with_reducible (repeat (first | refine sz_alloc ?_ | refine sz_setCell ?_ | refine sz_drew ?_ | refine sz_drewN ?_)); first | exact Nat.le_refl _ | omega) | (simp only [World.size_alloc, World.size_setCell, World.size_drew, size_drewN']; omega)) _) | assumption)))).mono ?_
    rintro e w1 ⟨p, rfl, u1, hok⟩
    obtain ⟨bw, rfl, hW⟩ := hok rfl
    have U1 := Lib.hid (Up.trans (show Up w (w.alloc (.cells (sdCells s pT pF pS cT cF cS).toArray 28)) by (repeat (first | exact Below.refl _ _ | (with_reducible refine Below.drewN' ?_ _) | (with_reducible refine Below.drew ?_) | (with_reducible refine Below.setCell ?_ (by first | exact Nat.le_refl _ | omega | (with_reducible (repeat (first | refine sz_alloc ?_ | refine sz_setCell ?_ | refine sz_drew ?_ | refine sz_drewN ?_)); first | exact Nat.le_refl _ | omega) | (simp only [World.size_alloc, World.size_setCell, World.size_drew, size_drewN']; omega)) _) | (with_reducible refine Below.alloc ?_ (by first | exact Nat.le_refl _ | omega | (with_reducible (repeat (first | refine sz_alloc ?_ | refine sz_setCell ?_ | refine sz_drew ?_ | refine sz_drewN ?_)); first | exact Nat.le_refl _ | omega) | (simp only [World.size_alloc, World.size_setCell, World.size_drew, size_drewN']; omega)) _) | assumption))) u1)
    have q3 := hW.sands.s3
    have HW := Lib.hid hW
    have HMK := Lib.hid hmk
    clear hok hW u1 HC
    go_wp2_with fail
    clear hmk
    go_loopw [28] (fun i wr => ∃ k : Nat, k ≤ s.floors.length ∧ i = .int .i64 k ∧ Blk wr w1.heap.size (gcells (fillTo s.floors.length (st s m) k)) 75 ∧ Up w1 wr) (fun i _ => s.floors.length - (intOf i).toNat)
    case atStart =>
      refine ⟨0, by omega, rfl, ?_, by (repeat (first | exact Below.refl _ _ | (with_reducible refine Below.drewN' ?_ _) | (with_reducible refine Below.drew ?_) | (with_reducible refine Below.setCell ?_ (by first | exact Nat.le_refl _ | omega | (with_reducible (repeat (first | refine sz_alloc ?_ | refine sz_setCell ?_ | refine sz_drew ?_ | refine sz_drewN ?_)); first | exact Nat.le_refl _ | omega) | (simp only [World.size_alloc, World.size_setCell, World.size_drew, size_drewN']; omega)) _) | (with_reducible refine Below.alloc ?_ (by first | exact Nat.le_refl _ | omega | (with_reducible (repeat (first | refine sz_alloc ?_ | refine sz_setCell ?_ | refine sz_drew ?_ | refine sz_drewN ?_)); first | exact Nat.le_refl _ | omega) | (simp only [World.size_alloc, World.size_setCell, World.size_drew, size_drewN']; omega)) _) | assumption))⟩
      have : (madeCells #[Value.int .i64 0] s.floors.length) = (gcells (fillTo s.floors.length (st s m) 0)).toArray := by
        apply Array.toList_inj.1
        rw [toList_madeCells_one]
        simp [gcells, fillTo]
      rw [this]
      exact Blk.new _ _ _
    case round =>
      obtain ⟨k, hk, rfl, hB, hu⟩ := hrel
      have HB := Lib.hid hB
      have HU := Lib.hid hu
      clear hB hu
      by_cases hlt : k < s.floors.length
      · have k1 : (k : Int) < s.floors.length := by omega
        go_wp2_with fail
        refine (state_c bw s m k _ (HW.out.up HU.out) HO.out hm (by omega)).mono ?_
        rintro e w2 ⟨rfl, u2⟩
        have hB2 := HB.out.up u2
        have c0 := hB2.cell k
        rw [gcells, List.getElem?_map, List.getElem?_eq_getElem (by rw [fillTo_len hk]; exact hlt)] at c0
        simp only [Option.map_some] at c0
        have f0 := hB2.free k
        have HB2 := Lib.hid hB2
        have HU2 := Lib.hid (Up.trans HU.out u2)
        clear hB2 u2
        go_wp2_with fail
        go_roundw
        case rel =>
          refine ⟨k + 1, hlt, by go_num, ?_, HU2.out.setCell (by simp) _⟩
          have := HB2.out.set k (.int .i64 (st s m k))
          rw [gcells, ← List.map_set, fillTo_set hlt] at this
          exact this
        case measure => simp [intOf]; omega
      · obtain rfl : k = s.floors.length := by omega
        go_wp2_with fail
        go_ret2
        refine ⟨_, _, rfl, Nat.le_refl _, by simp [maxLen]; omega, ?_, Up.trans U1.out HU.out⟩
        have := HB.out
        rw [fillTo_end] at this
        exact Row.of_blk this
  · have hne : (errAt s m != 0) = true := by rw [bne_iff_ne]; exact hE
    rw [if_neg hE]
    clear hE
    unfold sdVal at *
    go_enter Tryz.func45, Tryz.ntmps45
    go_wp2_with fail
    refine (HC.out _ (by (repeat (first | exact Below.refl _ _ | (with_reducible refine Below.drewN' ?_ _) | (with_reducible refine Below.drew ?_) | (with_reducible refine Below.setCell ?_ (by first | exact Nat.le_refl _ | omega | (with_reducible (repeat (first | refine sz_alloc ?_ | refine sz_setCell ?_ | refine sz_drew ?_ | refine sz_drewN ?_)); first | exact Nat.le_refl _ | omega) | (simp only [World.size_alloc, World.size_setCell, World.size_drew, size_drewN']; omega)) _) | (with_reducible refine Below.alloc ?_ (by first | exact Nat.le_refl _ | omega | (with_reducible (repeat (first | refine sz_alloc ?_ | refine sz_setCell ?_ | refine sz_drew ?_ | refine sz_drewN ?_)); first | exact Nat.le_refl _ | omega) | (simp only [World.size_alloc, World.size_setCell, World.size_drew, size_drewN']; omega)) _) | assumption)))).mono ?_
    rintro e w1 ⟨p, rfl, u1, -⟩
    have U1 := Lib.hid (Up.trans (show Up w (w.alloc (.cells (sdCells s pT pF pS cT cF cS).toArray 28)) by (repeat (first | exact Below.refl _ _ | (with_reducible refine Below.drewN' ?_ _) | (with_reducible refine Below.drew ?_) | (with_reducible refine Below.setCell ?_ (by first | exact Nat.le_refl _ | omega | (with_reducible (repeat (first | refine sz_alloc ?_ | refine sz_setCell ?_ | refine sz_drew ?_ | refine sz_drewN ?_)); first | exact Nat.le_refl _ | omega) | (simp only [World.size_alloc, World.size_setCell, World.size_drew, size_drewN']; omega)) _) | (with_reducible refine Below.alloc ?_ (by first | exact Nat.le_refl _ | omega | (with_reducible (repeat (first | refine sz_alloc ?_ | refine sz_setCell ?_ | refine sz_drew ?_ | refine sz_drewN ?_)); first | exact Nat.le_refl _ | omega) | (simp only [World.size_alloc, World.size_setCell, World.size_drew, size_drewN']; omega)) _) | assumption))) u1)
    clear u1 HC
    go_wp2_with fail
    go_ret2
    exact ⟨none, 0, rfl, Nat.le_refl _, by simp [maxLen], Row.nil _ _ _, U1.out⟩
end
end Go.Proofs.YtknaajofcbenaaaGreat
