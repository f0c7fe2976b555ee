import Derived.Test.YtknaajofcbenaaaGreatBase
import Derived.Test.YtknaajofcbenaaaGreatHeight
import Derived.Test.YtknaajofcbenaaaGreatChk
import Derived.Test.YtknaajofcbenaaaGreatChk2
import Derived.Test.YtknaajofcbenaaaGreatCheck
import Derived.Test.YtknaajofcbenaaaGreatOn
import Derived.Test.YtknaajofcbenaaaGreatLower
import Derived.Test.YtknaajofcbenaaaGreatGates
import Derived.Test.YtknaajofcbenaaaGreatBegin
import Derived.Test.YtknaajofcbenaaaGreatBegin2
import Derived.Test.YtknaajofcbenaaaGreatSpans
import Derived.Test.YtknaajofcbenaaaGreatFits
import Derived.Test.YtknaajofcbenaaaGreatLooks
import Derived.WalkKit
import Derived.WalkSpells
import Derived.WalkLawsBesides
import Derived.Deep.QuietTactic
import Derived.BigQuiet
import Derived.Lib.Hide
import Derived.Shelf.Abstract
import Derived.BigGuardPart
import Derived.RangeFuncNested
import Derived.RangeFuncBound
import Derived.RangeFuncCalls
import Derived.RangeFuncLeaves
import Derived.Shelf.RegionOpen
import Derived.OwnWalkIn
import Derived.TacticsInMore
import Derived.LoopNIn
import Derived.LoopIn
import Derived.StillTailTactics
import Derived.Deep.RegionHeld3
import Derived.StillTail
import Derived.RangeFuncWrites
import Derived.Laws.StructEq
import Derived.Deep.LoopGhost
import Derived.IntWalk
import Derived.RangeFuncBox
namespace Go.Proofs.YtknaajofcbenaaaGreat
open Go.RowKit Go.Shelf

def lkErr (s : Sd) : List Lk → Int
  | [] => 0
  | x :: r => if inDay s x.1 = true then (if isPl s x.2.1 = true then lkErr s r else 1) else 3
def errLooks (s : Sd) (l : List Lk) : Int := if chk s = 0 then (if 10 < l.length then 2 else lkErr s l) else chk s

section
variable {pT pF pS : Option Addr} {cT cF cS : Nat}

set_option maxRecDepth 100000 in
set_option maxHeartbeats 2000000 in
theorem beginLooks_c (s : Sd) (l : List Lk) (pL : Option Addr) (cL : Nat) (w : World) (hl : Lists w s pT pF pS cT cF cS) (hr : Row w pL 3 (lrows l)) (_hln : l.length ≤ maxLen) :
    Calls Tryz.prog 81 #[sdVal s pT pF pS cT cF cS, .slice pL l.length cL] w (Began s pT pF pS cT cF cS w (errLooks s l)) := by
  have hck := fun W (u : Up w W) => begin_c s W pT pF pS cT cF cS (hl.up u)
  have HC := Lib.hid hck
  have HR := Lib.hid hr
  clear hck hl hr
  by_cases hE : chk s = 0
  · have HE := Lib.hid hE
    have hok := (chk_ok hE).table
    have hf8 : s.floors.length ≤ maxLen := by have := (chk_ok hE).fl1; simp [maxLen]; omega
    obtain ⟨-, -, ht2, ht12⟩ := hok
    have HV := Lib.hid (show errLooks s l = if 10 < l.length then 2 else lkErr s l by unfold errLooks; rw [if_pos hE])
    clear hE
    unfold sdVal at *
    go_enter Tryz.func81, Tryz.ntmps81
    go_wp2_with fail
    refine (HC.out _ (by (repeat (first | exact Below.refl _ _ | (with_reducible refine Below.drewN' ?_ _) | (with_reducible refine Below.drew ?_) | (with_reducible refine Below.setCell ?_ (by first | exact Nat.le_refl _ | omega | (with_reducible (repeat (first | refine sz_alloc ?_ | refine sz_setCell ?_ | refine sz_drew ?_ | refine sz_drewN ?_)); first | exact Nat.le_refl _ | omega) | (simp only [World.size_alloc, World.size_setCell, World.size_drew, size_drewN']; omega)) _) | (with_reducible refine Below.alloc ?_ (by first | exact Nat.le_refl _ | omega | (with_reducible (repeat (first | refine sz_alloc ?_ | refine sz_setCell ?_ | refine sz_drew ?_ | refine sz_drewN ?_)); first | exact Nat.le_refl _ | omega) | (simp only [World.size_alloc, World.size_setCell, World.size_drew, size_drewN']; omega)) _) | assumption)))).mono ?_
    rw [HE.out]
    rintro e w1 ⟨p, rfl, u1, hok⟩
    obtain ⟨bw, rfl, hW⟩ := hok rfl
    have U1 := Lib.hid (Up.trans (show Up w (w.alloc (.cells (sdCells s pT pF pS cT cF cS).toArray 28)) by (repeat (first | exact Below.refl _ _ | (with_reducible refine Below.drewN' ?_ _) | (with_reducible refine Below.drew ?_) | (with_reducible refine Below.setCell ?_ (by first | exact Nat.le_refl _ | omega | (with_reducible (repeat (first | refine sz_alloc ?_ | refine sz_setCell ?_ | refine sz_drew ?_ | refine sz_drewN ?_)); first | exact Nat.le_refl _ | omega) | (simp only [World.size_alloc, World.size_setCell, World.size_drew, size_drewN']; omega)) _) | (with_reducible refine Below.alloc ?_ (by first | exact Nat.le_refl _ | omega | (with_reducible (repeat (first | refine sz_alloc ?_ | refine sz_setCell ?_ | refine sz_drew ?_ | refine sz_drewN ?_)); first | exact Nat.le_refl _ | omega) | (simp only [World.size_alloc, World.size_setCell, World.size_drew, size_drewN']; omega)) _) | assumption))) u1)
    have HW := Lib.hid hW
    clear hok hW u1
    by_cases h10 : 10 < l.length
    · have h10' : (10 : Int) < (l.length : Int) := by omega
      rw [if_pos h10] at HV
      go_wp2_with fail
      go_ret2
      exact ⟨none, by rw [HV.out]; rfl, U1.out, fun h => absurd (HV.out ▸ h) (by decide)⟩
    · have h10' : ¬ (10 : Int) < (l.length : Int) := by omega
      rw [if_neg h10] at HV
      go_wp2_with fail
      go_loopw [25] (fun i wr => ∃ k : Nat, k ≤ l.length ∧ i = .int .i64 k ∧ lkErr s l = lkErr s (l.drop k) ∧ Up w1 wr) (fun i _ => l.length - (intOf i).toNat)
      case atStart => exact ⟨0, Nat.zero_le _, rfl, rfl, Below.refl _ _⟩
      case round =>
        obtain ⟨k, hk, rfl, ht, hu⟩ := hrel
        have HT := Lib.hid ht
        have HU := Lib.hid hu
        have hsz := hu.size
        clear ht hu
        by_cases hlt : k < l.length
        · obtain ⟨b, off, rfl, d0, d1, d2⟩ := HR.out.look k hlt
          have e0 := HU.out.cellAt (U1.out.cellAt d0)
          have e1 := HU.out.cellAt (U1.out.cellAt d1)
          have e2 := HU.out.cellAt (U1.out.cellAt d2)
          clear d0 d1 d2
          have hdr : l.drop k = l[k] :: l.drop (k + 1) := List.drop_eq_getElem_cons hlt
          have HDR := Lib.hid hdr
          clear hdr
          generalize l[k] = x at *
          obtain ⟨xm, xp, xw⟩ := x
          have HS := Lib.hid (show lkErr s ((xm, xp, xw) :: l.drop (k + 1)) = if inDay s xm = true then (if isPl s xp = true then lkErr s (l.drop (k + 1)) else 1) else 3 from rfl)
          dsimp only at e0 e1 e2
          go_wp2_with fail
          refine Calls.world ?_
          intro w2 hw2
          have u2 : Up wr w2 := by rw [hw2]; (repeat (first | exact Below.refl _ _ | (with_reducible refine Below.drewN' ?_ _) | (with_reducible refine Below.drew ?_) | (with_reducible refine Below.setCell ?_ (by first | exact Nat.le_refl _ | omega | (with_reducible (repeat (first | refine sz_alloc ?_ | refine sz_setCell ?_ | refine sz_drew ?_ | refine sz_drewN ?_)); first | exact Nat.le_refl _ | omega) | (simp only [World.size_alloc, World.size_setCell, World.size_drew, size_drewN']; omega)) _) | (with_reducible refine Below.alloc ?_ (by first | exact Nat.le_refl _ | omega | (with_reducible (repeat (first | refine sz_alloc ?_ | refine sz_setCell ?_ | refine sz_drew ?_ | refine sz_drewN ?_)); first | exact Nat.le_refl _ | omega) | (simp only [World.size_alloc, World.size_setCell, World.size_drew, size_drewN']; omega)) _) | assumption))
          have hB : Blk w2 wr.heap.size [.int .i64 xm, .int .i64 xp, .bool xw] 62 := by rw [hw2]; exact Blk.new wr _ _
          have U2 := Lib.hid (Up.trans (Up.trans U1.out HU.out) u2)
          have HW2 := Lib.hid (HW.out.up (Up.trans HU.out u2))
          clear hw2 e0 e1 e2
          refine (refused_c 59 #[.pointer (some ⟨bw, 0, none⟩)] #[] _ _ (inDay s xm) _ en_isOfDay (isOfDay_c bw s xm _ HW2.out.sands ht2 ht12)).mono ?_
          rintro e w3 ⟨rfl, u3⟩
          have hB3 := hB.up u3
          have U3 := Lib.hid (Up.trans U2.out u3)
          have V3 := Lib.hid (Up.trans u2 u3)
          have HW3 := Lib.hid (HW2.out.up u3)
          have b1 := hB3.cell 1
          simp only [List.getElem?_cons_zero, List.getElem?_cons_succ] at b1
          clear u2 u3 hB
          cases hd : inDay s xm
          · have HX := Lib.hid (show lkErr s l = 3 by rw [HT.out, HDR.out, HS.out, hd]; rfl)
            clear hd
            go_wp2_with fail
            go_ret2
            exact ⟨none, by rw [HV.out, HX.out]; rfl, U3.out, fun h => absurd ((HV.out.trans HX.out) ▸ h) (by decide)⟩
          · rw [if_pos hd] at HS
            clear hd
            go_wp2_with fail
            refine (refused_c 71 #[.pointer (some ⟨bw, 0, none⟩)] #[] _ _ (isPl s xp) _ en_isPlace ((isPlace_c bw _ _ _ xp _ HW3.out.sands.s3 hf8).mono fun e w' ⟨h, k⟩ => ⟨h, k ▸ Below.refl _ _⟩)).mono ?_
            rintro e w4 ⟨rfl, u4⟩
            have U4 := Lib.hid (Up.trans U3.out u4)
            have V4 := Lib.hid (Up.trans V3.out u4)
            clear u4 b1 hB3
            cases hp : isPl s xp
            · have HX := Lib.hid (show lkErr s l = 1 by rw [HT.out, HDR.out, HS.out, hp]; rfl)
              clear hp
              go_wp2_with fail
              go_ret2
              exact ⟨none, by rw [HV.out, HX.out]; rfl, U4.out, fun h => absurd ((HV.out.trans HX.out) ▸ h) (by decide)⟩
            · rw [if_pos hp] at HS
              have HX := Lib.hid (show lkErr s l = lkErr s (l.drop (k + 1)) by rw [HT.out, HDR.out, HS.out])
              clear hp
              go_wp2_with fail
              go_roundw
              case rel => exact ⟨k + 1, hlt, by go_num, HX.out, by have hU := Up.trans HU.out V4.out; (repeat (first | exact Below.refl _ _ | (with_reducible refine Below.drewN' ?_ _) | (with_reducible refine Below.drew ?_) | (with_reducible refine Below.setCell ?_ (by first | exact Nat.le_refl _ | omega | (with_reducible (repeat (first | refine sz_alloc ?_ | refine sz_setCell ?_ | refine sz_drew ?_ | refine sz_drewN ?_)); first | exact Nat.le_refl _ | omega) | (simp only [World.size_alloc, World.size_setCell, World.size_drew, size_drewN']; omega)) _) | (with_reducible refine Below.alloc ?_ (by first | exact Nat.le_refl _ | omega | (with_reducible (repeat (first | refine sz_alloc ?_ | refine sz_setCell ?_ | refine sz_drew ?_ | refine sz_drewN ?_)); first | exact Nat.le_refl _ | omega) | (simp only [World.size_alloc, World.size_setCell, World.size_drew, size_drewN']; omega)) _) | assumption))⟩
              case measure => simp [intOf]; omega
        · obtain rfl : k = l.length := by omega
          have HZ := Lib.hid (show lkErr s l = 0 by rw [HT.out]; simp [lkErr])
          go_wp2_with fail
          go_ret2
          exact ⟨_, by rw [HV.out, HZ.out]; rfl, Up.trans U1.out HU.out, fun _ => ⟨bw, rfl, HW.out.up HU.out⟩⟩
  · have hne : (chk s != 0) = true := by rw [bne_iff_ne]; exact hE
    have HV := Lib.hid (show errLooks s l = chk s by unfold errLooks; rw [if_neg hE])
    have HE := Lib.hid hE
    clear hE
    unfold sdVal at *
    go_enter Tryz.func81, Tryz.ntmps81
    go_wp2_with fail
    refine (HC.out _ (by (repeat (first | exact Below.refl _ _ | (with_reducible refine Below.drewN' ?_ _) | (with_reducible refine Below.drew ?_) | (with_reducible refine Below.setCell ?_ (by first | exact Nat.le_refl _ | omega | (with_reducible (repeat (first | refine sz_alloc ?_ | refine sz_setCell ?_ | refine sz_drew ?_ | refine sz_drewN ?_)); first | exact Nat.le_refl _ | omega) | (simp only [World.size_alloc, World.size_setCell, World.size_drew, size_drewN']; omega)) _) | (with_reducible refine Below.alloc ?_ (by first | exact Nat.le_refl _ | omega | (with_reducible (repeat (first | refine sz_alloc ?_ | refine sz_setCell ?_ | refine sz_drew ?_ | refine sz_drewN ?_)); first | exact Nat.le_refl _ | omega) | (simp only [World.size_alloc, World.size_setCell, World.size_drew, size_drewN']; omega)) _) | assumption)))).mono ?_
    rintro e w1 ⟨p, rfl, u1, -⟩
    have U1 := Lib.hid (Up.trans (show Up w (w.alloc (.cells (sdCells s pT pF pS cT cF cS).toArray 28)) by (repeat (first | exact Below.refl _ _ | (with_reducible refine Below.drewN' ?_ _) | (with_reducible refine Below.drew ?_) | (with_reducible refine Below.setCell ?_ (by first | exact Nat.le_refl _ | omega | (with_reducible (repeat (first | refine sz_alloc ?_ | refine sz_setCell ?_ | refine sz_drew ?_ | refine sz_drewN ?_)); first | exact Nat.le_refl _ | omega) | (simp only [World.size_alloc, World.size_setCell, World.size_drew, size_drewN']; omega)) _) | (with_reducible refine Below.alloc ?_ (by first | exact Nat.le_refl _ | omega | (with_reducible (repeat (first | refine sz_alloc ?_ | refine sz_setCell ?_ | refine sz_drew ?_ | refine sz_drewN ?_)); first | exact Nat.le_refl _ | omega) | (simp only [World.size_alloc, World.size_setCell, World.size_drew, size_drewN']; omega)) _) | assumption))) u1)
    clear u1
    go_wp2_with fail
    go_ret2
    exact ⟨none, by rw [HV.out]; rfl, U1.out, fun h => absurd (HV.out ▸ h) HE.out⟩
end
end Go.Proofs.YtknaajofcbenaaaGreat
