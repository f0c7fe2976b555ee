import Derived.Test.YtknaajofcbenaaaGreatBase
import Derived.Test.YtknaajofcbenaaaGreatHeight
import Derived.Test.YtknaajofcbenaaaGreatChk
import Derived.Test.YtknaajofcbenaaaGreatChk2
import Derived.Test.YtknaajofcbenaaaGreatCheck
import Derived.Test.YtknaajofcbenaaaGreatOn
import Derived.Test.YtknaajofcbenaaaGreatGates
import Derived.Test.YtknaajofcbenaaaGreatBegin
import Derived.WalkKit
import Derived.WalkSpells
import Derived.WalkLawsBesides
import Derived.Deep.QuietTactic
import Derived.BigQuiet
import Derived.Lib.Hide
import Derived.Shelf.Abstract
import Derived.BigGuardPart
import Derived.RangeFuncNested
import Derived.RangeFuncBound
import Derived.RangeFuncCalls
import Derived.RangeFuncLeaves
import Derived.Shelf.RegionOpen
import Derived.OwnWalkIn
import Derived.TacticsInMore
import Derived.LoopNIn
import Derived.LoopIn
import Derived.StillTailTactics
import Derived.Deep.RegionHeld3
import Derived.StillTail
import Derived.RangeFuncWrites
import Derived.Laws.StructEq
import Derived.Deep.LoopGhost
namespace Go.Proofs.YtknaajofcbenaaaGreat
open Go.RowKit Go.Shelf

theorem refused_c (f : Nat) (pre post : Array Value) (n c : Int) (b : Bool) (w : World) (eg : Enters Tryz.prog f)
    (hf : Calls Tryz.prog f (pre ++ #[.int .i64 n] ++ post) w fun e w' => e = .returned (.bool b) ∧ Up w w') :
    Calls Tryz.prog 58 #[.func (.func f) pre post, .int .i64 n, .int .i64 c] w fun e w' => e = .returned (.int .i64 (bif b then 0 else c)) ∧ Up w w' := by
  have eg' : ∀ (args : Array Value) (w : World), (callFunc f args).run Tryz.prog w = .ok (.enter f args) w := eg
  have HF := Lib.hid hf
  clear hf eg
  cases b
  all_goals
    go_enter Tryz.func58, Tryz.ntmps58
    go_wp2_with fail
    refine HF.out.mono ?_
    rintro e w1 ⟨rfl, u1⟩
    go_wp2_with fail
    go_ret
    exact ⟨rfl, u1⟩

def firstM (l : List (Int × Int)) : Int := (l[0]?.getD (0, 0)).1
def lastM (l : List (Int × Int)) : Int := (l[l.length - 1]?.getD (0, 0)).1
def inDay (s : Sd) (m : Int) : Bool := inB m (firstM s.table) (lastM s.table)

section
variable {pT pF pS : Option Addr} {cT cF cS : Nat}
set_option maxHeartbeats 400000 in
theorem first_c (bw : Nat) (s : Sd) (w : World) (hw : SandsAt w bw 0 s pT pF pS cT cF cS) (h2 : 2 ≤ s.table.length) :
    Calls Tryz.prog 113 #[.pointer (some ⟨bw, 0, none⟩)] w fun e w' => e = .returned (.int .i64 (firstM s.table)) ∧ Up w w' := by
  have h0 := hw.s0
  obtain ⟨b, off, rfl, c0, -⟩ := hw.rt.pair 0 (by omega)
  have hb1 := cell_lt h0
  have hb2 := cell_lt c0
  simp only [Nat.zero_mul, Nat.add_zero] at c0
  have e : firstM s.table = (s.table[0]'(by omega)).1 := by simp [firstM, List.getElem?_eq_getElem (show 0 < s.table.length by omega)]
  have k : (0 : Int) < s.table.length := by omega
  rw [e]
  clear e
  go_enter Tryz.func113, Tryz.ntmps113
  go_wp2
  go_ret
  exact ⟨rfl, by (repeat (first | exact Below.refl _ _ | (with_reducible refine Below.drewN' ?_ _) | (with_reducible refine Below.drew ?_) | (with_reducible refine Below.setCell ?_ (by first | exact Nat.le_refl _ | omega | (with_reducible (repeat (first | refine sz_alloc ?_ | refine sz_setCell ?_ | refine sz_drew ?_ | refine sz_drewN ?_)); first | exact Nat.le_refl _ | omega) | (simp only [World.size_alloc, World.size_setCell, World.size_drew, size_drewN']; omega)) _) | (with_reducible refine Below.alloc ?_ (by first | exact Nat.le_refl _ | omega | (with_reducible (repeat (first | refine sz_alloc ?_ | refine sz_setCell ?_ | refine sz_drew ?_ | refine sz_drewN ?_)); first | exact Nat.le_refl _ | omega) | (simp only [World.size_alloc, World.size_setCell, World.size_drew, size_drewN']; omega)) _) | assumption))⟩

set_option maxHeartbeats 400000 in
theorem last_c (bw : Nat) (s : Sd) (w : World) (hw : SandsAt w bw 0 s pT pF pS cT cF cS) (h2 : 2 ≤ s.table.length) (h12 : s.table.length ≤ 12) :
    Calls Tryz.prog 67 #[.pointer (some ⟨bw, 0, none⟩)] w fun e w' => e = .returned (.int .i64 (lastM s.table)) ∧ Up w w' := by
  have h0 := hw.s0
  obtain ⟨b, off, rfl, c0, -⟩ := hw.rt.pair (s.table.length - 1) (by omega)
  have hb1 := cell_lt h0
  have hb2 := cell_lt c0
  have e : lastM s.table = (s.table[s.table.length - 1]'(by omega)).1 := by simp [lastM, List.getElem?_eq_getElem (show s.table.length - 1 < s.table.length by omega)]
  have k : (0 : Int) < s.table.length := by omega
  have k1 : ((s.table.length : Int) - 1) < s.table.length := by omega
  have k2 : (0 : Int) ≤ ((s.table.length : Int) - 1) := by omega
  have k3 : ((s.table.length : Int) - 1).toNat = s.table.length - 1 := by omega
  rw [e]
  clear e
  go_enter Tryz.func67, Tryz.ntmps67
  go_wp2
  go_quiet (fail)
  go_wp2
  go_ret
  exact ⟨rfl, by (repeat (first | exact Below.refl _ _ | (with_reducible refine Below.drewN' ?_ _) | (with_reducible refine Below.drew ?_) | (with_reducible refine Below.setCell ?_ (by first | exact Nat.le_refl _ | omega | (with_reducible (repeat (first | refine sz_alloc ?_ | refine sz_setCell ?_ | refine sz_drew ?_ | refine sz_drewN ?_)); first | exact Nat.le_refl _ | omega) | (simp only [World.size_alloc, World.size_setCell, World.size_drew, size_drewN']; omega)) _) | (with_reducible refine Below.alloc ?_ (by first | exact Nat.le_refl _ | omega | (with_reducible (repeat (first | refine sz_alloc ?_ | refine sz_setCell ?_ | refine sz_drew ?_ | refine sz_drewN ?_)); first | exact Nat.le_refl _ | omega) | (simp only [World.size_alloc, World.size_setCell, World.size_drew, size_drewN']; omega)) _) | assumption))⟩

set_option maxHeartbeats 400000 in
theorem isOfDay_c (bw : Nat) (s : Sd) (m : Int) (w : World) (hw : SandsAt w bw 0 s pT pF pS cT cF cS) (h2 : 2 ≤ s.table.length) (h12 : s.table.length ≤ 12) :
    Calls Tryz.prog 59 #[.pointer (some ⟨bw, 0, none⟩), .int .i64 m] w fun e w' => e = .returned (.bool (inDay s m)) ∧ Up w w' := by
  have HW := Lib.hid hw
  clear hw
  go_enter Tryz.func59, Tryz.ntmps59
  go_wp2_with fail
  refine (first_c bw s _ HW.out h2).mono ?_
  rintro e w1 ⟨rfl, u1⟩
  go_wp2_with fail
  refine (last_c bw s _ (HW.out.up u1) h2 h12).mono ?_
  rintro e w2 ⟨rfl, u2⟩
  go_wp2_with (go_at_call 112; refine (within_c _ _ _ _).mono ?_; rintro e w' ⟨rfl, rfl⟩)
  go_ret
  exact ⟨rfl, Up.trans u1 u2⟩

def hasWayB (s : Sd) (p : Nat) : Bool := (gts s)[p]?.getD 0 != 1050
set_option maxHeartbeats 400000 in
theorem hasWay_c (bw : Nat) (s : Sd) (p : Nat) (w : World) (hw : IsWork w bw s pT pF pS cT cF cS) (hp : p < 8) :
    Calls Tryz.prog 121 #[.pointer (some ⟨bw, 0, none⟩), .int .i64 p] w fun e w' => e = .returned (.bool (hasWayB s p)) ∧ Up w w' := by
  have c := hw.gates p hp
  have k : (p : Int) < 8 := by omega
  unfold hasWayB
  go_enter Tryz.func121, Tryz.ntmps121
  go_wp2
  go_ret
  exact ⟨rfl, Below.refl _ _⟩

theorem en_isOfDay : Enters Tryz.prog 59 := enters_of Tryz.func59 (by kernel_rfl) rfl
theorem en_isPlace : Enters Tryz.prog 71 := enters_of Tryz.func71 (by kernel_rfl) rfl
theorem en_hasWay : Enters Tryz.prog 121 := enters_of Tryz.func121 (by kernel_rfl) rfl

def isPl (s : Sd) (p : Int) : Bool := inB p 0 (s.floors.length - 1)
def errAt (s : Sd) (m : Int) : Int := if chk s = 0 then (bif inDay s m then 0 else 3) else chk s
def errFor (s : Sd) (p : Int) : Int := if chk s = 0 then (bif isPl s p then 0 else 1) else chk s
theorem errFor_zero {s : Sd} {x : Int} (h : errFor s x = 0) : 0 ≤ x ∧ x < 8 := by
  unfold errFor at h
  by_cases hc : chk s = 0
  · rw [if_pos hc] at h
    cases hp : isPl s x
    · rw [hp] at h; cases h
    · have h1 := inB_true.1 hp
      have := (chk_ok hc).fl1
      omega
  · rw [if_neg hc] at h; exact absurd h hc
def errGate (s : Sd) (p : Int) : Int := if errFor s p = 0 then (bif hasWayB s p.toNat then 0 else 6) else errFor s p

set_option maxRecDepth 100000 in
set_option maxHeartbeats 2000000 in
theorem beginAt_c (s : Sd) (x : Int) (w : World) (hl : Lists w s pT pF pS cT cF cS) :
    Calls Tryz.prog 61 #[sdVal s pT pF pS cT cF cS, .int .i64 x] w (Began s pT pF pS cT cF cS w (errAt s x)) := by
  have hck := fun W (u : Up w W) => begin_c s W pT pF pS cT cF cS (hl.up u)
  have HC := Lib.hid hck
  clear hck hl
  by_cases hE : chk s = 0
  · have HE := Lib.hid hE
    have HV := Lib.hid (show errAt s x = bif inDay s x then 0 else 3 by unfold errAt; rw [if_pos hE])
    have hok := (chk_ok hE).table
    obtain ⟨-, -, ht2, ht12⟩ := hok
    clear hE
    unfold sdVal at *
    go_enter Tryz.func61, Tryz.ntmps61
    go_wp2_with fail
    refine (HC.out _ (by (repeat (first | exact Below.refl _ _ | (with_reducible refine Below.drewN' ?_ _) | (with_reducible refine Below.drew ?_) | (with_reducible refine Below.setCell ?_ (by first | exact Nat.le_refl _ | omega | (with_reducible (repeat (first | refine sz_alloc ?_ | refine sz_setCell ?_ | refine sz_drew ?_ | refine sz_drewN ?_)); first | exact Nat.le_refl _ | omega) | (simp only [World.size_alloc, World.size_setCell, World.size_drew, size_drewN']; omega)) _) | (with_reducible refine Below.alloc ?_ (by first | exact Nat.le_refl _ | omega | (with_reducible (repeat (first | refine sz_alloc ?_ | refine sz_setCell ?_ | refine sz_drew ?_ | refine sz_drewN ?_)); first | exact Nat.le_refl _ | omega) | (simp only [World.size_alloc, World.size_setCell, World.size_drew, size_drewN']; omega)) _) | assumption)))).mono ?_
    rw [HE.out]
    rintro e w1 ⟨p, rfl, u1, hok⟩
    obtain ⟨bw, rfl, hW⟩ := hok rfl
    have U1 := Lib.hid (Up.trans (show Up w (w.alloc (.cells (sdCells s pT pF pS cT cF cS).toArray 28)) by (repeat (first | exact Below.refl _ _ | (with_reducible refine Below.drewN' ?_ _) | (with_reducible refine Below.drew ?_) | (with_reducible refine Below.setCell ?_ (by first | exact Nat.le_refl _ | omega | (with_reducible (repeat (first | refine sz_alloc ?_ | refine sz_setCell ?_ | refine sz_drew ?_ | refine sz_drewN ?_)); first | exact Nat.le_refl _ | omega) | (simp only [World.size_alloc, World.size_setCell, World.size_drew, size_drewN']; omega)) _) | (with_reducible refine Below.alloc ?_ (by first | exact Nat.le_refl _ | omega | (with_reducible (repeat (first | refine sz_alloc ?_ | refine sz_setCell ?_ | refine sz_drew ?_ | refine sz_drewN ?_)); first | exact Nat.le_refl _ | omega) | (simp only [World.size_alloc, World.size_setCell, World.size_drew, size_drewN']; omega)) _) | assumption))) u1)
    have HW := Lib.hid hW
    clear hok hW u1
    go_wp2_with fail
    refine (refused_c 59 #[.pointer (some ⟨bw, 0, none⟩)] #[] _ _ (inDay s x) _ en_isOfDay (isOfDay_c bw s x _ HW.out.sands ht2 ht12)).mono ?_
    rintro e w2 ⟨rfl, u2⟩
    have U2 := Lib.hid (Up.trans U1.out u2)
    have HW2 := Lib.hid (HW.out.up u2)
    clear u2
    go_wp2_with fail
    go_ret2
    exact ⟨_, by rw [HV.out]; rfl, U2.out, fun _ => ⟨bw, rfl, HW2.out⟩⟩
  · have hne : (chk s != 0) = true := by rw [bne_iff_ne]; exact hE
    have HV := Lib.hid (show errAt s x = chk s by unfold errAt; rw [if_neg hE])
    have HE := Lib.hid hE
    clear hE
    unfold sdVal at *
    go_enter Tryz.func61, Tryz.ntmps61
    go_wp2_with fail
    refine (HC.out _ (by (repeat (first | exact Below.refl _ _ | (with_reducible refine Below.drewN' ?_ _) | (with_reducible refine Below.drew ?_) | (with_reducible refine Below.setCell ?_ (by first | exact Nat.le_refl _ | omega | (with_reducible (repeat (first | refine sz_alloc ?_ | refine sz_setCell ?_ | refine sz_drew ?_ | refine sz_drewN ?_)); first | exact Nat.le_refl _ | omega) | (simp only [World.size_alloc, World.size_setCell, World.size_drew, size_drewN']; omega)) _) | (with_reducible refine Below.alloc ?_ (by first | exact Nat.le_refl _ | omega | (with_reducible (repeat (first | refine sz_alloc ?_ | refine sz_setCell ?_ | refine sz_drew ?_ | refine sz_drewN ?_)); first | exact Nat.le_refl _ | omega) | (simp only [World.size_alloc, World.size_setCell, World.size_drew, size_drewN']; omega)) _) | assumption)))).mono ?_
    rintro e w1 ⟨p, rfl, u1, -⟩
    have U1 := Lib.hid (Up.trans (show Up w (w.alloc (.cells (sdCells s pT pF pS cT cF cS).toArray 28)) by (repeat (first | exact Below.refl _ _ | (with_reducible refine Below.drewN' ?_ _) | (with_reducible refine Below.drew ?_) | (with_reducible refine Below.setCell ?_ (by first | exact Nat.le_refl _ | omega | (with_reducible (repeat (first | refine sz_alloc ?_ | refine sz_setCell ?_ | refine sz_drew ?_ | refine sz_drewN ?_)); first | exact Nat.le_refl _ | omega) | (simp only [World.size_alloc, World.size_setCell, World.size_drew, size_drewN']; omega)) _) | (with_reducible refine Below.alloc ?_ (by first | exact Nat.le_refl _ | omega | (with_reducible (repeat (first | refine sz_alloc ?_ | refine sz_setCell ?_ | refine sz_drew ?_ | refine sz_drewN ?_)); first | exact Nat.le_refl _ | omega) | (simp only [World.size_alloc, World.size_setCell, World.size_drew, size_drewN']; omega)) _) | assumption))) u1)
    clear u1
    go_wp2_with fail
    go_ret2
    exact ⟨none, by rw [HV.out]; rfl, U1.out, fun h => absurd (HV.out ▸ h) HE.out⟩

set_option maxRecDepth 100000 in
set_option maxHeartbeats 2000000 in
theorem beginFor_c (s : Sd) (x : Int) (w : World) (hl : Lists w s pT pF pS cT cF cS) :
    Calls Tryz.prog 57 #[sdVal s pT pF pS cT cF cS, .int .i64 x] w (Began s pT pF pS cT cF cS w (errFor s x)) := by
  have hck := fun W (u : Up w W) => begin_c s W pT pF pS cT cF cS (hl.up u)
  have HC := Lib.hid hck
  clear hck hl
  by_cases hE : chk s = 0
  · have HE := Lib.hid hE
    have HV := Lib.hid (show errFor s x = bif isPl s x then 0 else 1 by unfold errFor; rw [if_pos hE])
    have hf8 : s.floors.length ≤ maxLen := by have := (chk_ok hE).fl1; simp [maxLen]; omega
    clear hE
    unfold sdVal at *
    go_enter Tryz.func57, Tryz.ntmps57
    go_wp2_with fail
    refine (HC.out _ (by (repeat (first | exact Below.refl _ _ | (with_reducible refine Below.drewN' ?_ _) | (with_reducible refine Below.drew ?_) | (with_reducible refine Below.setCell ?_ (by first | exact Nat.le_refl _ | omega | (with_reducible (repeat (first | refine sz_alloc ?_ | refine sz_setCell ?_ | refine sz_drew ?_ | refine sz_drewN ?_)); first | exact Nat.le_refl _ | omega) | (simp only [World.size_alloc, World.size_setCell, World.size_drew, size_drewN']; omega)) _) | (with_reducible refine Below.alloc ?_ (by first | exact Nat.le_refl _ | omega | (with_reducible (repeat (first | refine sz_alloc ?_ | refine sz_setCell ?_ | refine sz_drew ?_ | refine sz_drewN ?_)); first | exact Nat.le_refl _ | omega) | (simp only [World.size_alloc, World.size_setCell, World.size_drew, size_drewN']; omega)) _) | assumption)))).mono ?_
    rw [HE.out]
    rintro e w1 ⟨p, rfl, u1, hok⟩
    obtain ⟨bw, rfl, hW⟩ := hok rfl
    have U1 := Lib.hid (Up.trans (show Up w (w.alloc (.cells (sdCells s pT pF pS cT cF cS).toArray 28)) by (repeat (first | exact Below.refl _ _ | (with_reducible refine Below.drewN' ?_ _) | (with_reducible refine Below.drew ?_) | (with_reducible refine Below.setCell ?_ (by first | exact Nat.le_refl _ | omega | (with_reducible (repeat (first | refine sz_alloc ?_ | refine sz_setCell ?_ | refine sz_drew ?_ | refine sz_drewN ?_)); first | exact Nat.le_refl _ | omega) | (simp only [World.size_alloc, World.size_setCell, World.size_drew, size_drewN']; omega)) _) | (with_reducible refine Below.alloc ?_ (by first | exact Nat.le_refl _ | omega | (with_reducible (repeat (first | refine sz_alloc ?_ | refine sz_setCell ?_ | refine sz_drew ?_ | refine sz_drewN ?_)); first | exact Nat.le_refl _ | omega) | (simp only [World.size_alloc, World.size_setCell, World.size_drew, size_drewN']; omega)) _) | assumption))) u1)
    have HW := Lib.hid hW
    clear hok hW u1
    go_wp2_with fail
    refine (refused_c 71 #[.pointer (some ⟨bw, 0, none⟩)] #[] _ _ (isPl s x) _ en_isPlace ((isPlace_c bw _ _ _ x _ HW.out.sands.s3 hf8).mono fun e w' ⟨h, k⟩ => ⟨h, k ▸ Below.refl _ _⟩)).mono ?_
    rintro e w2 ⟨rfl, u2⟩
    have U2 := Lib.hid (Up.trans U1.out u2)
    have HW2 := Lib.hid (HW.out.up u2)
    clear u2
    go_wp2_with fail
    go_ret2
    exact ⟨_, by rw [HV.out]; rfl, U2.out, fun _ => ⟨bw, rfl, HW2.out⟩⟩
  · have hne : (chk s != 0) = true := by rw [bne_iff_ne]; exact hE
    have HV := Lib.hid (show errFor s x = chk s by unfold errFor; rw [if_neg hE])
    have HE := Lib.hid hE
    clear hE
    unfold sdVal at *
    go_enter Tryz.func57, Tryz.ntmps57
    go_wp2_with fail
    refine (HC.out _ (by (repeat (first | exact Below.refl _ _ | (with_reducible refine Below.drewN' ?_ _) | (with_reducible refine Below.drew ?_) | (with_reducible refine Below.setCell ?_ (by first | exact Nat.le_refl _ | omega | (with_reducible (repeat (first | refine sz_alloc ?_ | refine sz_setCell ?_ | refine sz_drew ?_ | refine sz_drewN ?_)); first | exact Nat.le_refl _ | omega) | (simp only [World.size_alloc, World.size_setCell, World.size_drew, size_drewN']; omega)) _) | (with_reducible refine Below.alloc ?_ (by first | exact Nat.le_refl _ | omega | (with_reducible (repeat (first | refine sz_alloc ?_ | refine sz_setCell ?_ | refine sz_drew ?_ | refine sz_drewN ?_)); first | exact Nat.le_refl _ | omega) | (simp only [World.size_alloc, World.size_setCell, World.size_drew, size_drewN']; omega)) _) | assumption)))).mono ?_
    rintro e w1 ⟨p, rfl, u1, -⟩
    have U1 := Lib.hid (Up.trans (show Up w (w.alloc (.cells (sdCells s pT pF pS cT cF cS).toArray 28)) by (repeat (first | exact Below.refl _ _ | (with_reducible refine Below.drewN' ?_ _) | (with_reducible refine Below.drew ?_) | (with_reducible refine Below.setCell ?_ (by first | exact Nat.le_refl _ | omega | (with_reducible (repeat (first | refine sz_alloc ?_ | refine sz_setCell ?_ | refine sz_drew ?_ | refine sz_drewN ?_)); first | exact Nat.le_refl _ | omega) | (simp only [World.size_alloc, World.size_setCell, World.size_drew, size_drewN']; omega)) _) | (with_reducible refine Below.alloc ?_ (by first | exact Nat.le_refl _ | omega | (with_reducible (repeat (first | refine sz_alloc ?_ | refine sz_setCell ?_ | refine sz_drew ?_ | refine sz_drewN ?_)); first | exact Nat.le_refl _ | omega) | (simp only [World.size_alloc, World.size_setCell, World.size_drew, size_drewN']; omega)) _) | assumption))) u1)
    clear u1
    go_wp2_with fail
    go_ret2
    exact ⟨none, by rw [HV.out]; rfl, U1.out, fun h => absurd (HV.out ▸ h) HE.out⟩

set_option maxRecDepth 100000 in
set_option maxHeartbeats 2000000 in
theorem beginGate_c (s : Sd) (x : Int) (w : World) (hl : Lists w s pT pF pS cT cF cS) :
    Calls Tryz.prog 89 #[sdVal s pT pF pS cT cF cS, .int .i64 x] w (Began s pT pF pS cT cF cS w (errGate s x)) := by
  have hck := fun W (u : Up w W) => beginFor_c s x W (hl.up u)
  have HC := Lib.hid hck
  clear hck hl
  by_cases hE : errFor s x = 0
  · have HE := Lib.hid hE
    have HV := Lib.hid (show errGate s x = bif hasWayB s x.toNat then 0 else 6 by unfold errGate; rw [if_pos hE])
    obtain ⟨hx0, hx8⟩ : 0 ≤ x ∧ x < 8 := errFor_zero hE
    obtain ⟨n, rfl⟩ := Int.eq_ofNat_of_zero_le hx0
    rw [Int.toNat_natCast] at HV
    clear hE
    unfold sdVal at *
    go_enter Tryz.func89, Tryz.ntmps89
    go_wp2_with fail
    refine (HC.out _ (by (repeat (first | exact Below.refl _ _ | (with_reducible refine Below.drewN' ?_ _) | (with_reducible refine Below.drew ?_) | (with_reducible refine Below.setCell ?_ (by first | exact Nat.le_refl _ | omega | (with_reducible (repeat (first | refine sz_alloc ?_ | refine sz_setCell ?_ | refine sz_drew ?_ | refine sz_drewN ?_)); first | exact Nat.le_refl _ | omega) | (simp only [World.size_alloc, World.size_setCell, World.size_drew, size_drewN']; omega)) _) | (with_reducible refine Below.alloc ?_ (by first | exact Nat.le_refl _ | omega | (with_reducible (repeat (first | refine sz_alloc ?_ | refine sz_setCell ?_ | refine sz_drew ?_ | refine sz_drewN ?_)); first | exact Nat.le_refl _ | omega) | (simp only [World.size_alloc, World.size_setCell, World.size_drew, size_drewN']; omega)) _) | assumption)))).mono ?_
    rw [HE.out]
    rintro e w1 ⟨p, rfl, u1, hok⟩
    obtain ⟨bw, rfl, hW⟩ := hok rfl
    have U1 := Lib.hid (Up.trans (show Up w (w.alloc (.cells (sdCells s pT pF pS cT cF cS).toArray 28)) by (repeat (first | exact Below.refl _ _ | (with_reducible refine Below.drewN' ?_ _) | (with_reducible refine Below.drew ?_) | (with_reducible refine Below.setCell ?_ (by first | exact Nat.le_refl _ | omega | (with_reducible (repeat (first | refine sz_alloc ?_ | refine sz_setCell ?_ | refine sz_drew ?_ | refine sz_drewN ?_)); first | exact Nat.le_refl _ | omega) | (simp only [World.size_alloc, World.size_setCell, World.size_drew, size_drewN']; omega)) _) | (with_reducible refine Below.alloc ?_ (by first | exact Nat.le_refl _ | omega | (with_reducible (repeat (first | refine sz_alloc ?_ | refine sz_setCell ?_ | refine sz_drew ?_ | refine sz_drewN ?_)); first | exact Nat.le_refl _ | omega) | (simp only [World.size_alloc, World.size_setCell, World.size_drew, size_drewN']; omega)) _) | assumption))) u1)
    have HW := Lib.hid hW
    clear hok hW u1
    go_wp2_with fail
    refine (refused_c 121 #[.pointer (some ⟨bw, 0, none⟩)] #[] _ _ (hasWayB s n) _ en_hasWay (hasWay_c bw s n _ HW.out (by omega))).mono ?_
    rintro e w2 ⟨rfl, u2⟩
    have U2 := Lib.hid (Up.trans U1.out u2)
    have HW2 := Lib.hid (HW.out.up u2)
    clear u2
    go_wp2_with fail
    go_ret2
    exact ⟨_, by rw [HV.out]; rfl, U2.out, fun _ => ⟨bw, rfl, HW2.out⟩⟩
  · have hne : (errFor s x != 0) = true := by rw [bne_iff_ne]; exact hE
    have HV := Lib.hid (show errGate s x = errFor s x by unfold errGate; rw [if_neg hE])
    have HE := Lib.hid hE
    clear hE
    unfold sdVal at *
    go_enter Tryz.func89, Tryz.ntmps89
    go_wp2_with fail
    refine (HC.out _ (by (repeat (first | exact Below.refl _ _ | (with_reducible refine Below.drewN' ?_ _) | (with_reducible refine Below.drew ?_) | (with_reducible refine Below.setCell ?_ (by first | exact Nat.le_refl _ | omega | (with_reducible (repeat (first | refine sz_alloc ?_ | refine sz_setCell ?_ | refine sz_drew ?_ | refine sz_drewN ?_)); first | exact Nat.le_refl _ | omega) | (simp only [World.size_alloc, World.size_setCell, World.size_drew, size_drewN']; omega)) _) | (with_reducible refine Below.alloc ?_ (by first | exact Nat.le_refl _ | omega | (with_reducible (repeat (first | refine sz_alloc ?_ | refine sz_setCell ?_ | refine sz_drew ?_ | refine sz_drewN ?_)); first | exact Nat.le_refl _ | omega) | (simp only [World.size_alloc, World.size_setCell, World.size_drew, size_drewN']; omega)) _) | assumption)))).mono ?_
    rintro e w1 ⟨p, rfl, u1, -⟩
    have U1 := Lib.hid (Up.trans (show Up w (w.alloc (.cells (sdCells s pT pF pS cT cF cS).toArray 28)) by (repeat (first | exact Below.refl _ _ | (with_reducible refine Below.drewN' ?_ _) | (with_reducible refine Below.drew ?_) | (with_reducible refine Below.setCell ?_ (by first | exact Nat.le_refl _ | omega | (with_reducible (repeat (first | refine sz_alloc ?_ | refine sz_setCell ?_ | refine sz_drew ?_ | refine sz_drewN ?_)); first | exact Nat.le_refl _ | omega) | (simp only [World.size_alloc, World.size_setCell, World.size_drew, size_drewN']; omega)) _) | (with_reducible refine Below.alloc ?_ (by first | exact Nat.le_refl _ | omega | (with_reducible (repeat (first | refine sz_alloc ?_ | refine sz_setCell ?_ | refine sz_drew ?_ | refine sz_drewN ?_)); first | exact Nat.le_refl _ | omega) | (simp only [World.size_alloc, World.size_setCell, World.size_drew, size_drewN']; omega)) _) | assumption))) u1)
    clear u1
    go_wp2_with fail
    go_ret2
    exact ⟨none, by rw [HV.out]; rfl, U1.out, fun h => absurd (HV.out ▸ h) HE.out⟩
end
end Go.Proofs.YtknaajofcbenaaaGreat
