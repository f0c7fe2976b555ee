import Derived.Test.YtknaajofcbenaaaGreatBase
import Derived.Test.YtknaajofcbenaaaGreatHeight
import Derived.Test.YtknaajofcbenaaaGreatChk
import Derived.Test.YtknaajofcbenaaaGreatChk2
import Derived.Test.YtknaajofcbenaaaGreatCheck
import Derived.Test.YtknaajofcbenaaaGreatOn
import Derived.Test.YtknaajofcbenaaaGreatLower
import Derived.Test.YtknaajofcbenaaaGreatGates
import Derived.Test.YtknaajofcbenaaaGreatBegin
import Derived.Test.YtknaajofcbenaaaGreatBegin2
import Derived.Test.YtknaajofcbenaaaGreatState
import Derived.Test.YtknaajofcbenaaaGreatState2
import Derived.WalkKit
import Derived.WalkSpells
import Derived.WalkLawsBesides
import Derived.Deep.QuietTactic
import Derived.BigQuiet
import Derived.Lib.Hide
import Derived.Shelf.Abstract
import Derived.BigGuardPart
import Derived.RangeFuncNested
import Derived.RangeFuncBound
import Derived.RangeFuncCalls
import Derived.RangeFuncLeaves
import Derived.Shelf.RegionOpen
import Derived.OwnWalkIn
import Derived.TacticsInMore
import Derived.LoopNIn
import Derived.LoopIn
import Derived.StillTailTactics
import Derived.Deep.RegionHeld3
import Derived.StillTail
import Derived.RangeFuncWrites
import Derived.Laws.StructEq
import Derived.Deep.LoopGhost
import Derived.IntWalk
namespace Go.Proofs.YtknaajofcbenaaaGreat
open Go.RowKit Go.Shelf

theorem errAt_zero {s : Sd} {m : Int} (h : errAt s m = 0) : chk s = 0 ∧ firstM s.table ≤ m ∧ m ≤ lastM s.table := by
  unfold errAt at h
  by_cases hc : chk s = 0
  · rw [if_pos hc] at h
    cases hp : inDay s m
    · rw [hp] at h; cases h
    · exact ⟨hc, inB_true.1 hp⟩
  · rw [if_neg hc] at h; exact absurd h hc

def heightV (s : Sd) (m : Int) : Int := if errAt s m = 0 then hgt s.table m else 0
section
variable {pT pF pS : Option Addr} {cT cF cS : Nat}

set_option maxRecDepth 100000 in
set_option maxHeartbeats 1000000 in
theorem Height_c (s : Sd) (m : Int) (w : World) (hl : Lists w s pT pF pS cT cF cS) :
    Calls Tryz.prog 42 #[sdVal s pT pF pS cT cF cS, .int .i64 m] w fun e w' => e = .returned (.tuple #[.int .i64 (heightV s m), .int .i64 (errAt s m)]) ∧ Up w w' := by
  have HC := Lib.hid (fun W (u : Up w W) => beginAt_c s m W (hl.up u))
  unfold heightV
  clear hl
  by_cases hE : errAt s m = 0
  · obtain ⟨hc, hm, -⟩ := errAt_zero hE
    have HO := Lib.hid (chk_ok hc)
    rw [if_pos hE]
    rw [hE] at HC ⊢
    unfold sdVal at *
    go_enter Tryz.func42, Tryz.ntmps42
    go_wp2_with fail
    refine (HC.out _ (by (repeat (first | exact Below.refl _ _ | (with_reducible refine Below.drewN' ?_ _) | (with_reducible refine Below.drew ?_) | (with_reducible refine Below.setCell ?_ (by first | exact Nat.le_refl _ | omega | (with_reducible (repeat (first | refine sz_alloc ?_ | refine sz_setCell ?_ | refine sz_drew ?_ | refine sz_drewN ?_)); first | exact Nat.le_refl _ | omega) | (simp only [World.size_alloc, World.size_setCell, World.size_drew, size_drewN']; omega)) _) | (with_reducible refine Below.alloc ?_ (by first | exact Nat.le_refl _ | omega | (with_reducible (repeat (first | refine sz_alloc ?_ | refine sz_setCell ?_ | refine sz_drew ?_ | refine sz_drewN ?_)); first | exact Nat.le_refl _ | omega) | (simp only [World.size_alloc, World.size_setCell, World.size_drew, size_drewN']; omega)) _) | assumption)))).mono ?_
    rintro e w1 ⟨p, rfl, u1, hok⟩
    obtain ⟨bw, rfl, hW⟩ := hok rfl
    have U1 := Lib.hid (Up.trans (show Up w (w.alloc (.cells (sdCells s pT pF pS cT cF cS).toArray 28)) by (repeat (first | exact Below.refl _ _ | (with_reducible refine Below.drewN' ?_ _) | (with_reducible refine Below.drew ?_) | (with_reducible refine Below.setCell ?_ (by first | exact Nat.le_refl _ | omega | (with_reducible (repeat (first | refine sz_alloc ?_ | refine sz_setCell ?_ | refine sz_drew ?_ | refine sz_drewN ?_)); first | exact Nat.le_refl _ | omega) | (simp only [World.size_alloc, World.size_setCell, World.size_drew, size_drewN']; omega)) _) | (with_reducible refine Below.alloc ?_ (by first | exact Nat.le_refl _ | omega | (with_reducible (repeat (first | refine sz_alloc ?_ | refine sz_setCell ?_ | refine sz_drew ?_ | refine sz_drewN ?_)); first | exact Nat.le_refl _ | omega) | (simp only [World.size_alloc, World.size_setCell, World.size_drew, size_drewN']; omega)) _) | assumption))) u1)
    have HW := Lib.hid hW
    clear hok hW u1 HC
    go_wp2_with fail
    refine (height_c' bw s m _ HW.out.sands HO.out hm).mono ?_
    rintro e w2 ⟨rfl, u2⟩
    have U2 := Lib.hid (Up.trans U1.out u2)
    clear u2
    go_wp2_with fail
    go_ret2
    exact ⟨rfl, U2.out⟩
  · have hne : (errAt s m != 0) = true := by rw [bne_iff_ne]; exact hE
    rw [if_neg hE]
    clear hE
    unfold sdVal at *
    go_enter Tryz.func42, Tryz.ntmps42
    go_wp2_with fail
    refine (HC.out _ (by (repeat (first | exact Below.refl _ _ | (with_reducible refine Below.drewN' ?_ _) | (with_reducible refine Below.drew ?_) | (with_reducible refine Below.setCell ?_ (by first | exact Nat.le_refl _ | omega | (with_reducible (repeat (first | refine sz_alloc ?_ | refine sz_setCell ?_ | refine sz_drew ?_ | refine sz_drewN ?_)); first | exact Nat.le_refl _ | omega) | (simp only [World.size_alloc, World.size_setCell, World.size_drew, size_drewN']; omega)) _) | (with_reducible refine Below.alloc ?_ (by first | exact Nat.le_refl _ | omega | (with_reducible (repeat (first | refine sz_alloc ?_ | refine sz_setCell ?_ | refine sz_drew ?_ | refine sz_drewN ?_)); first | exact Nat.le_refl _ | omega) | (simp only [World.size_alloc, World.size_setCell, World.size_drew, size_drewN']; omega)) _) | assumption)))).mono ?_
    rintro e w1 ⟨p, rfl, u1, -⟩
    have U1 := Lib.hid (Up.trans (show Up w (w.alloc (.cells (sdCells s pT pF pS cT cF cS).toArray 28)) by (repeat (first | exact Below.refl _ _ | (with_reducible refine Below.drewN' ?_ _) | (with_reducible refine Below.drew ?_) | (with_reducible refine Below.setCell ?_ (by first | exact Nat.le_refl _ | omega | (with_reducible (repeat (first | refine sz_alloc ?_ | refine sz_setCell ?_ | refine sz_drew ?_ | refine sz_drewN ?_)); first | exact Nat.le_refl _ | omega) | (simp only [World.size_alloc, World.size_setCell, World.size_drew, size_drewN']; omega)) _) | (with_reducible refine Below.alloc ?_ (by first | exact Nat.le_refl _ | omega | (with_reducible (repeat (first | refine sz_alloc ?_ | refine sz_setCell ?_ | refine sz_drew ?_ | refine sz_drewN ?_)); first | exact Nat.le_refl _ | omega) | (simp only [World.size_alloc, World.size_setCell, World.size_drew, size_drewN']; omega)) _) | assumption))) u1)
    clear u1 HC
    go_wp2_with fail
    go_ret2
    exact ⟨rfl, U1.out⟩

def levelV (s : Sd) (m : Int) : Int × Int := if errAt s m = 0 then (hgt s.table m + s.lo, hgt s.table m + s.hi) else (0, 0)

set_option maxRecDepth 100000 in
set_option maxHeartbeats 1000000 in
theorem Level_c (s : Sd) (m : Int) (w : World) (hl : Lists w s pT pF pS cT cF cS) :
    Calls Tryz.prog 94 #[sdVal s pT pF pS cT cF cS, .int .i64 m] w fun e w' => e = .returned (.tuple #[.agg #[.int .i64 (levelV s m).1, .int .i64 (levelV s m).2], .int .i64 (errAt s m)]) ∧ Up w w' := by
  have HC := Lib.hid (fun W (u : Up w W) => beginAt_c s m W (hl.up u))
  unfold levelV
  clear hl
  by_cases hE : errAt s m = 0
  · obtain ⟨hc, hm, -⟩ := errAt_zero hE
    have HO := Lib.hid (chk_ok hc)
    rw [if_pos hE]
    rw [hE] at HC ⊢
    dsimp only
    unfold sdVal at *
    go_enter Tryz.func94, Tryz.ntmps94
    go_wp2_with fail
    refine (HC.out _ (by (repeat (first | exact Below.refl _ _ | (with_reducible refine Below.drewN' ?_ _) | (with_reducible refine Below.drew ?_) | (with_reducible refine Below.setCell ?_ (by first | exact Nat.le_refl _ | omega | (with_reducible (repeat (first | refine sz_alloc ?_ | refine sz_setCell ?_ | refine sz_drew ?_ | refine sz_drewN ?_)); first | exact Nat.le_refl _ | omega) | (simp only [World.size_alloc, World.size_setCell, World.size_drew, size_drewN']; omega)) _) | (with_reducible refine Below.alloc ?_ (by first | exact Nat.le_refl _ | omega | (with_reducible (repeat (first | refine sz_alloc ?_ | refine sz_setCell ?_ | refine sz_drew ?_ | refine sz_drewN ?_)); first | exact Nat.le_refl _ | omega) | (simp only [World.size_alloc, World.size_setCell, World.size_drew, size_drewN']; omega)) _) | assumption)))).mono ?_
    rintro e w1 ⟨p, rfl, u1, hok⟩
    obtain ⟨bw, rfl, hW⟩ := hok rfl
    have hB : Blk w1 (w.heap.size + 1) [.int .i64 0, .int .i64 0] 24 := (Blk.new' _ [.int .i64 0, .int .i64 0] _ (by simp)).up u1
    have HB := Lib.hid hB
    have U1 := Lib.hid (Up.trans (show Up w ((w.alloc (.cells (sdCells s pT pF pS cT cF cS).toArray 28)).alloc (.cells #[.int .i64 0, .int .i64 0] 24)) by (repeat (first | exact Below.refl _ _ | (with_reducible refine Below.drewN' ?_ _) | (with_reducible refine Below.drew ?_) | (with_reducible refine Below.setCell ?_ (by first | exact Nat.le_refl _ | omega | (with_reducible (repeat (first | refine sz_alloc ?_ | refine sz_setCell ?_ | refine sz_drew ?_ | refine sz_drewN ?_)); first | exact Nat.le_refl _ | omega) | (simp only [World.size_alloc, World.size_setCell, World.size_drew, size_drewN']; omega)) _) | (with_reducible refine Below.alloc ?_ (by first | exact Nat.le_refl _ | omega | (with_reducible (repeat (first | refine sz_alloc ?_ | refine sz_setCell ?_ | refine sz_drew ?_ | refine sz_drewN ?_)); first | exact Nat.le_refl _ | omega) | (simp only [World.size_alloc, World.size_setCell, World.size_drew, size_drewN']; omega)) _) | assumption))) u1)
    have HW := Lib.hid hW
    clear hok hW u1 HC hB
    go_wp2_with fail
    refine (level_c bw s m _ HW.out.sands HO.out hm).mono ?_
    rintro e w2 ⟨rfl, u2⟩
    have U2 := Lib.hid (Up.trans U1.out u2)
    have hB2 := HB.out.up u2
    have q0 := hB2.cell 0
    have q1 := hB2.cell 1
    have fr := hB2.free
    simp only [List.getElem?_cons_zero, List.getElem?_cons_succ] at q0 q1
    have hB3 := hB2.set 0 (.int .i64 (hgt s.table m + s.lo))
    have hB4 := hB3.set 1 (.int .i64 (hgt s.table m + s.hi))
    have p0 := hB3.cell 0
    have p1 := hB4.cell 1
    simp only [List.set_cons_zero, List.set_cons_succ, List.getElem?_cons_zero, List.getElem?_cons_succ] at p0 p1
    clear u2 hB2 hB3 hB4
    go_wp2_with fail
    refine bodyPost_ret (v := .tuple #[.agg #[.int .i64 (hgt s.table m + s.lo), .int .i64 (hgt s.table m + s.hi)], .int .i64 0]) (by simp [results, Tryz.f94, go_sem, p0, p1]) rfl ⟨rfl, ?_⟩
    exact (U2.out.setCell (by simp) _).setCell (by simp) _
  · have hne : (errAt s m != 0) = true := by rw [bne_iff_ne]; exact hE
    rw [if_neg hE]
    clear hE
    dsimp only
    unfold sdVal at *
    go_enter Tryz.func94, Tryz.ntmps94
    go_wp2_with fail
    refine (HC.out _ (by (repeat (first | exact Below.refl _ _ | (with_reducible refine Below.drewN' ?_ _) | (with_reducible refine Below.drew ?_) | (with_reducible refine Below.setCell ?_ (by first | exact Nat.le_refl _ | omega | (with_reducible (repeat (first | refine sz_alloc ?_ | refine sz_setCell ?_ | refine sz_drew ?_ | refine sz_drewN ?_)); first | exact Nat.le_refl _ | omega) | (simp only [World.size_alloc, World.size_setCell, World.size_drew, size_drewN']; omega)) _) | (with_reducible refine Below.alloc ?_ (by first | exact Nat.le_refl _ | omega | (with_reducible (repeat (first | refine sz_alloc ?_ | refine sz_setCell ?_ | refine sz_drew ?_ | refine sz_drewN ?_)); first | exact Nat.le_refl _ | omega) | (simp only [World.size_alloc, World.size_setCell, World.size_drew, size_drewN']; omega)) _) | assumption)))).mono ?_
    rintro e w1 ⟨p, rfl, u1, -⟩
    have hB2 : Blk w1 (w.heap.size + 1) [.int .i64 0, .int .i64 0] 24 := (Blk.new' _ [.int .i64 0, .int .i64 0] _ (by simp)).up u1
    have U1 := Lib.hid (Up.trans (show Up w ((w.alloc (.cells (sdCells s pT pF pS cT cF cS).toArray 28)).alloc (.cells #[.int .i64 0, .int .i64 0] 24)) by (repeat (first | exact Below.refl _ _ | (with_reducible refine Below.drewN' ?_ _) | (with_reducible refine Below.drew ?_) | (with_reducible refine Below.setCell ?_ (by first | exact Nat.le_refl _ | omega | (with_reducible (repeat (first | refine sz_alloc ?_ | refine sz_setCell ?_ | refine sz_drew ?_ | refine sz_drewN ?_)); first | exact Nat.le_refl _ | omega) | (simp only [World.size_alloc, World.size_setCell, World.size_drew, size_drewN']; omega)) _) | (with_reducible refine Below.alloc ?_ (by first | exact Nat.le_refl _ | omega | (with_reducible (repeat (first | refine sz_alloc ?_ | refine sz_setCell ?_ | refine sz_drew ?_ | refine sz_drewN ?_)); first | exact Nat.le_refl _ | omega) | (simp only [World.size_alloc, World.size_setCell, World.size_drew, size_drewN']; omega)) _) | assumption))) u1)
    have q0 := hB2.cell 0
    have q1 := hB2.cell 1
    have fr := hB2.free
    simp only [List.getElem?_cons_zero, List.getElem?_cons_succ] at q0 q1
    have hB3 := hB2.set 0 (.int .i64 0)
    have hB4 := hB3.set 1 (.int .i64 0)
    have p0 := hB3.cell 0
    have p1 := hB4.cell 1
    simp only [List.set_cons_zero, List.set_cons_succ, List.getElem?_cons_zero, List.getElem?_cons_succ] at p0 p1
    clear u1 HC hB2 hB3 hB4
    go_wp2_with fail
    refine bodyPost_ret (v := .tuple #[.agg #[.int .i64 0, .int .i64 0], .int .i64 (errAt s m)]) (by simp [results, Tryz.f94, go_sem, p0, p1]) rfl ⟨rfl, ?_⟩
    exact (U1.out.setCell (by simp) _).setCell (by simp) _

def gateV (s : Sd) (p : Int) : Int := if errGate s p = 0 then gateOf s p.toNat else 0
theorem errGate_zero {s : Sd} {x : Int} (h : errGate s x = 0) : errFor s x = 0 ∧ hasWayB s x.toNat = true := by
  unfold errGate at h
  by_cases hc : errFor s x = 0
  · rw [if_pos hc] at h
    cases hp : hasWayB s x.toNat
    · rw [hp] at h; cases h
    · exact ⟨hc, rfl⟩
  · rw [if_neg hc] at h; exact absurd h hc

set_option maxRecDepth 100000 in
set_option maxHeartbeats 1000000 in
theorem Gate_c (s : Sd) (x : Int) (w : World) (hl : Lists w s pT pF pS cT cF cS) :
    Calls Tryz.prog 43 #[sdVal s pT pF pS cT cF cS, .int .i64 x] w fun e w' => e = .returned (.tuple #[.int .i64 (gateV s x), .int .i64 (errGate s x)]) ∧ Up w w' := by
  have HC := Lib.hid (fun W (u : Up w W) => beginGate_c s x W (hl.up u))
  unfold gateV
  clear hl
  by_cases hE : errGate s x = 0
  · obtain ⟨hx0, hx8⟩ := errFor_zero (errGate_zero hE).1
    obtain ⟨n, rfl⟩ := Int.eq_ofNat_of_zero_le hx0
    rw [if_pos hE]
    rw [hE] at HC ⊢
    rw [Int.toNat_natCast]
    unfold sdVal at *
    go_enter Tryz.func43, Tryz.ntmps43
    go_wp2_with fail
    refine (HC.out _ (by (repeat (first | exact Below.refl _ _ | (with_reducible refine Below.drewN' ?_ _) | (with_reducible refine Below.drew ?_) | (with_reducible refine Below.setCell ?_ (by first | exact Nat.le_refl _ | omega | (with_reducible (repeat (first | refine sz_alloc ?_ | refine sz_setCell ?_ | refine sz_drew ?_ | refine sz_drewN ?_)); first | exact Nat.le_refl _ | omega) | (simp only [World.size_alloc, World.size_setCell, World.size_drew, size_drewN']; omega)) _) | (with_reducible refine Below.alloc ?_ (by first | exact Nat.le_refl _ | omega | (with_reducible (repeat (first | refine sz_alloc ?_ | refine sz_setCell ?_ | refine sz_drew ?_ | refine sz_drewN ?_)); first | exact Nat.le_refl _ | omega) | (simp only [World.size_alloc, World.size_setCell, World.size_drew, size_drewN']; omega)) _) | assumption)))).mono ?_
    rintro e w1 ⟨p, rfl, u1, hok⟩
    obtain ⟨bw, rfl, hW⟩ := hok rfl
    have c0 := hW.gates n (by omega)
    change _ = some (Value.int .i64 (gateOf s n)) at c0
    have k1 : (n : Int) < 8 := by omega
    have U1 := Lib.hid (Up.trans (show Up w (w.alloc (.cells (sdCells s pT pF pS cT cF cS).toArray 28)) by (repeat (first | exact Below.refl _ _ | (with_reducible refine Below.drewN' ?_ _) | (with_reducible refine Below.drew ?_) | (with_reducible refine Below.setCell ?_ (by first | exact Nat.le_refl _ | omega | (with_reducible (repeat (first | refine sz_alloc ?_ | refine sz_setCell ?_ | refine sz_drew ?_ | refine sz_drewN ?_)); first | exact Nat.le_refl _ | omega) | (simp only [World.size_alloc, World.size_setCell, World.size_drew, size_drewN']; omega)) _) | (with_reducible refine Below.alloc ?_ (by first | exact Nat.le_refl _ | omega | (with_reducible (repeat (first | refine sz_alloc ?_ | refine sz_setCell ?_ | refine sz_drew ?_ | refine sz_drewN ?_)); first | exact Nat.le_refl _ | omega) | (simp only [World.size_alloc, World.size_setCell, World.size_drew, size_drewN']; omega)) _) | assumption))) u1)
    clear hok hW u1 HC
    go_wp2_with fail
    go_ret2
    exact ⟨rfl, U1.out⟩
  · have hne : (errGate s x != 0) = true := by rw [bne_iff_ne]; exact hE
    rw [if_neg hE]
    clear hE
    unfold sdVal at *
    go_enter Tryz.func43, Tryz.ntmps43
    go_wp2_with fail
    refine (HC.out _ (by (repeat (first | exact Below.refl _ _ | (with_reducible refine Below.drewN' ?_ _) | (with_reducible refine Below.drew ?_) | (with_reducible refine Below.setCell ?_ (by first | exact Nat.le_refl _ | omega | (with_reducible (repeat (first | refine sz_alloc ?_ | refine sz_setCell ?_ | refine sz_drew ?_ | refine sz_drewN ?_)); first | exact Nat.le_refl _ | omega) | (simp only [World.size_alloc, World.size_setCell, World.size_drew, size_drewN']; omega)) _) | (with_reducible refine Below.alloc ?_ (by first | exact Nat.le_refl _ | omega | (with_reducible (repeat (first | refine sz_alloc ?_ | refine sz_setCell ?_ | refine sz_drew ?_ | refine sz_drewN ?_)); first | exact Nat.le_refl _ | omega) | (simp only [World.size_alloc, World.size_setCell, World.size_drew, size_drewN']; omega)) _) | assumption)))).mono ?_
    rintro e w1 ⟨p, rfl, u1, -⟩
    have U1 := Lib.hid (Up.trans (show Up w (w.alloc (.cells (sdCells s pT pF pS cT cF cS).toArray 28)) by (repeat (first | exact Below.refl _ _ | (with_reducible refine Below.drewN' ?_ _) | (with_reducible refine Below.drew ?_) | (with_reducible refine Below.setCell ?_ (by first | exact Nat.le_refl _ | omega | (with_reducible (repeat (first | refine sz_alloc ?_ | refine sz_setCell ?_ | refine sz_drew ?_ | refine sz_drewN ?_)); first | exact Nat.le_refl _ | omega) | (simp only [World.size_alloc, World.size_setCell, World.size_drew, size_drewN']; omega)) _) | (with_reducible refine Below.alloc ?_ (by first | exact Nat.le_refl _ | omega | (with_reducible (repeat (first | refine sz_alloc ?_ | refine sz_setCell ?_ | refine sz_drew ?_ | refine sz_drewN ?_)); first | exact Nat.le_refl _ | omega) | (simp only [World.size_alloc, World.size_setCell, World.size_drew, size_drewN']; omega)) _) | assumption))) u1)
    clear u1 HC
    go_wp2_with fail
    go_ret2
    exact ⟨rfl, U1.out⟩
end
end Go.Proofs.YtknaajofcbenaaaGreat
