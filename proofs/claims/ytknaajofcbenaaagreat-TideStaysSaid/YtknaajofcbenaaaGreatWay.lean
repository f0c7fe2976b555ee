import Derived.Test.YtknaajofcbenaaaGreatBase
import Derived.Test.YtknaajofcbenaaaGreatHeight
import Derived.Test.YtknaajofcbenaaaGreatChk2
import Derived.Test.YtknaajofcbenaaaGreatCheck
import Derived.Test.YtknaajofcbenaaaGreatOn
import Derived.Test.YtknaajofcbenaaaGreatStep
import Derived.Test.YtknaajofcbenaaaGreatLower
import Derived.Test.YtknaajofcbenaaaGreatGates
import Derived.Test.YtknaajofcbenaaaGreatBegin
import Derived.Test.YtknaajofcbenaaaGreatBegin2
import Derived.Test.YtknaajofcbenaaaGreatState2
import Derived.Test.YtknaajofcbenaaaGreatAll
import Derived.Test.YtknaajofcbenaaaGreatSpans
import Derived.Test.YtknaajofcbenaaaGreatFits
import Derived.Test.YtknaajofcbenaaaGreatQue
import Derived.Test.YtknaajofcbenaaaGreatLead
import Derived.Test.YtknaajofcbenaaaGreatWaysF
import Derived.WalkKit
import Derived.WalkSpells
import Derived.WalkLawsBesides
import Derived.Deep.QuietTactic
import Derived.BigQuiet
import Derived.Lib.Hide
import Derived.Shelf.Abstract
import Derived.BigGuardPart
import Derived.RangeFuncNested
import Derived.RangeFuncBound
import Derived.RangeFuncCalls
import Derived.RangeFuncLeaves
import Derived.Shelf.RegionOpen
import Derived.OwnWalkIn
import Derived.TacticsInMore
import Derived.LoopNIn
import Derived.LoopIn
import Derived.StillTailTactics
import Derived.Deep.RegionHeld3
import Derived.StillTail
import Derived.RangeFuncWrites
import Derived.Laws.StructEq
import Derived.Deep.LoopGhost
import Derived.IntWalk
import Derived.RangeFuncBox
import Derived.ArgAppend
import Derived.Laws.CopyOwn
import Derived.OwnWalk
import Derived.Lib.SliceRun
namespace Go.Proofs.YtknaajofcbenaaaGreat
open Go.RowKit Go.Shelf

def stepV (s : Sd) (i t : Nat) : Int := grt [(s.sills[i]?.getD (0, 0, 0)).2.2, s.floors[t]?.getD 0]
def mayGate (s : Sd) (g : Int) (i t : Nat) : Bool := decide (stepV s i t ≤ g)
def wayV (s : Sd) (p : Int) : List Int := if errGate s p = 0 then (wayAt (waysOf s (mayGate s (gateOf s p.toNat))) p).getD [] else []

section
variable {pT pF pS : Option Addr} {cT cF cS : Nat}
set_option maxRecDepth 100000 in
set_option maxHeartbeats 2000000 in
theorem wants_gate (bw : Nat) (s : Sd) (b6 b8 : Nat) (g : Int) (w : World) (hw : SandsAt w bw 0 s pT pF pS cT cF cS) (m2 : s.floors.length ≤ 8) (m3 : s.sills.length ≤ 16) (h6 : w.cell? ⟨b6, 0, none⟩ = some (.pointer (some ⟨bw, 0, none⟩))) (h8 : w.cell? ⟨b8, 0, none⟩ = some (.int .i64 g)) :
    Wants2 91 #[] #[.pointer (some ⟨b6, 0, none⟩), .pointer (some ⟨b8, 0, none⟩)] (mayGate s g) s.sills.length s.floors.length w := by
  intro i t W hi ht hu
  have HS := Lib.hid (fun V (u : Up W V) => step_c bw s V pT pF pS cT cF cS ((hw.up hu).up u) (by simp [maxLen]; omega) (by simp [maxLen]; omega) i t hi ht)
  have HM := Lib.hid (show mayGate s g i t = decide (grt [s.sills[i].2.2, s.floors[t]] ≤ g) by unfold mayGate stepV; rw [List.getElem?_eq_getElem hi, List.getElem?_eq_getElem ht]; rfl)
  obtain ⟨v, hv⟩ : ∃ v, grt [s.sills[i].2.2, s.floors[t]] = v := ⟨_, rfl⟩
  rw [hv] at HS HM
  have c6 := hu.cellAt h6
  have c8 := hu.cellAt h8
  clear hw h6 h8 hv
  change Calls Tryz.prog 91 #[.int .i64 i, .int .i64 t, .pointer (some ⟨b6, 0, none⟩), .pointer (some ⟨b8, 0, none⟩)] W _
  go_enter Tryz.func91, Tryz.ntmps91
  go_wp2
  go_region_held3 (fun w' => w'.cell? ⟨b6, 0, none⟩ = some (.pointer (some ⟨bw, 0, none⟩)) ∧ w'.cell? ⟨b8, 0, none⟩ = some (.int .i64 g) ∧ Up W w')
    (refine ⟨Up.cellAt (w := W) ?_ c6, Up.cellAt (w := W) ?_ c8, ?_⟩ <;> (repeat (first | exact Below.refl _ _ | (with_reducible refine Below.drewN' ?_ _) | (with_reducible refine Below.drew ?_) | (with_reducible refine Below.setCell ?_ (by first | exact Nat.le_refl _ | omega | (with_reducible (repeat (first | refine sz_alloc ?_ | refine sz_setCell ?_ | refine sz_drew ?_ | refine sz_drewN ?_)); first | exact Nat.le_refl _ | omega) | (simp only [World.size_alloc, World.size_setCell, World.size_drew, size_drewN']; omega)) _) | (with_reducible refine Below.alloc ?_ (by first | exact Nat.le_refl _ | omega | (with_reducible (repeat (first | refine sz_alloc ?_ | refine sz_setCell ?_ | refine sz_drew ?_ | refine sz_drewN ?_)); first | exact Nat.le_refl _ | omega) | (simp only [World.size_alloc, World.size_setCell, World.size_drew, size_drewN']; omega)) _) | assumption)))
    (first
      | (go_at_call 92; with_reducible refine (HS.out W.drew (Below.refl _ _).drew).mono ?_; rintro e w1 ⟨rfl, u1⟩; have u1' : Up W w1 := Up.trans ((Below.refl _ _).drew) u1))
  go_wp2
  go_ret
  exact ⟨ret_bool HM.out.symm, u1'⟩

theorem en_wayGate : Enters Tryz.prog 91 := enters_of Tryz.func91 (by kernel_rfl) rfl
theorem errGate_zero' {s : Sd} {x : Int} (h : errGate s x = 0) : errFor s x = 0 ∧ chk s = 0 ∧ 0 ≤ x ∧ x < 8 := by
  unfold errGate at h
  by_cases hc : errFor s x = 0
  · refine ⟨hc, ?_, errFor_zero hc⟩
    unfold errFor at hc
    by_cases hk : chk s = 0
    · exact hk
    · rw [if_neg hk] at hc; exact absurd hc hk
  · rw [if_neg hc] at h; exact absurd h hc

set_option maxRecDepth 100000 in
set_option maxHeartbeats 4000000 in
theorem Way_c (s : Sd) (x : Int) (w : World) (hl : Lists w s pT pF pS cT cF cS) :
    Calls Tryz.prog 36 #[sdVal s pT pF pS cT cF cS, .int .i64 x] w fun e w' => ∃ p, e = .returned (.tuple #[.slice p (wayV s x).length (wayV s x).length, .int .i64 (errGate s x)]) ∧ Row w' p 1 (ints (wayV s x)) ∧ (wayV s x).length ≤ 8 ∧ Up w w' := by
  have HC := Lib.hid (fun W (u : Up w W) => beginGate_c s x W (hl.up u))
  clear hl
  by_cases hE : errGate s x = 0
  · obtain ⟨-, hc, hx0, hx8⟩ := errGate_zero' hE
    have hok := chk_ok hc
    obtain ⟨n, rfl⟩ := Int.eq_ofNat_of_zero_le hx0
    have HV := Lib.hid (show wayV s n = (wayAt (waysOf s (mayGate s (gateOf s n))) n).getD [] by unfold wayV; rw [if_pos hE, Int.toNat_natCast])
    rw [hE] at HC ⊢
    have m2 := hok.fl1
    have m3 := hok.sl
    have HO := Lib.hid hok
    unfold sdVal at *
    go_enter Tryz.func36, Tryz.ntmps36
    go_wp2_with fail
    refine (HC.out _ (by (repeat (first | exact Below.refl _ _ | (with_reducible refine Below.drewN' ?_ _) | (with_reducible refine Below.drew ?_) | (with_reducible refine Below.setCell ?_ (by first | exact Nat.le_refl _ | omega | (with_reducible (repeat (first | refine sz_alloc ?_ | refine sz_setCell ?_ | refine sz_drew ?_ | refine sz_drewN ?_)); first | exact Nat.le_refl _ | omega) | (simp only [World.size_alloc, World.size_setCell, World.size_drew, size_drewN']; omega)) _) | (with_reducible refine Below.alloc ?_ (by first | exact Nat.le_refl _ | omega | (with_reducible (repeat (first | refine sz_alloc ?_ | refine sz_setCell ?_ | refine sz_drew ?_ | refine sz_drewN ?_)); first | exact Nat.le_refl _ | omega) | (simp only [World.size_alloc, World.size_setCell, World.size_drew, size_drewN']; omega)) _) | assumption)))).mono ?_
    rintro e w1 ⟨p, rfl, u1, hok⟩
    obtain ⟨bw, rfl, hW⟩ := hok rfl
    have U1 := Lib.hid (Up.trans (show Up w (w.alloc (.cells (sdCells s pT pF pS cT cF cS).toArray 28)) by (repeat (first | exact Below.refl _ _ | (with_reducible refine Below.drewN' ?_ _) | (with_reducible refine Below.drew ?_) | (with_reducible refine Below.setCell ?_ (by first | exact Nat.le_refl _ | omega | (with_reducible (repeat (first | refine sz_alloc ?_ | refine sz_setCell ?_ | refine sz_drew ?_ | refine sz_drewN ?_)); first | exact Nat.le_refl _ | omega) | (simp only [World.size_alloc, World.size_setCell, World.size_drew, size_drewN']; omega)) _) | (with_reducible refine Below.alloc ?_ (by first | exact Nat.le_refl _ | omega | (with_reducible (repeat (first | refine sz_alloc ?_ | refine sz_setCell ?_ | refine sz_drew ?_ | refine sz_drewN ?_)); first | exact Nat.le_refl _ | omega) | (simp only [World.size_alloc, World.size_setCell, World.size_drew, size_drewN']; omega)) _) | assumption))) u1)
    have HW := Lib.hid hW
    have c0 := hW.gates n (by omega)
    have lb := cell_lt c0
    clear hok hW u1 HC
    go_wp2_with fail
    refine Calls.world ?_
    intro w2 hw2
    have u2 : Up w1 w2 := by rw [hw2]; (repeat (first | exact Below.refl _ _ | (with_reducible refine Below.drewN' ?_ _) | (with_reducible refine Below.drew ?_) | (with_reducible refine Below.setCell ?_ (by first | exact Nat.le_refl _ | omega | (with_reducible (repeat (first | refine sz_alloc ?_ | refine sz_setCell ?_ | refine sz_drew ?_ | refine sz_drewN ?_)); first | exact Nat.le_refl _ | omega) | (simp only [World.size_alloc, World.size_setCell, World.size_drew, size_drewN']; omega)) _) | (with_reducible refine Below.alloc ?_ (by first | exact Nat.le_refl _ | omega | (with_reducible (repeat (first | refine sz_alloc ?_ | refine sz_setCell ?_ | refine sz_drew ?_ | refine sz_drewN ?_)); first | exact Nat.le_refl _ | omega) | (simp only [World.size_alloc, World.size_setCell, World.size_drew, size_drewN']; omega)) _) | assumption))
    have h6 : w2.cell? ⟨w1.heap.size, 0, none⟩ = some (.pointer (some ⟨bw, 0, none⟩)) := by rw [hw2]; exact ((Blk.new w1 [.pointer (some ⟨bw, 0, none⟩)] _).alloc _).cell 0
    have h8 : w2.cell? ⟨w1.heap.size + 1, 0, none⟩ = some (.int .i64 (gateOf s n)) := by rw [hw2]; exact (Blk.new' _ [.int .i64 ((gts s)[n]?.getD 0)] _ (by simp)).cell 0
    clear hw2
    have hm := wants_gate bw s w1.heap.size (w1.heap.size + 1) (gateOf s n) w2 (HW.out.sands.up u2) m2 m3 h6 h8
    refine (ways_c bw s w2 (HW.out.sands.up u2) m2 m3 HO.out.good 91 _ _ _ hm en_wayGate).mono ?_
    rintro e w3 ⟨vs, qv, rfl, l8, q8, qs, hw, u3⟩
    have U3 := Lib.hid (Up.trans U1.out (Up.trans u2 u3))
    have hn8 : n < 8 := by omega
    have hn8' : (n : Int) < 8 := by omega
    have sl : ∀ (i : Nat) v, vs[i]? = some v → ∃ p n c, v = .slice p n c := fun i v hv => by
      have hi : i < 8 := by have := (List.getElem?_eq_some_iff.1 hv).1; omega
      exact (hw i v _ hv (List.getElem?_eq_getElem (by omega))).slice
    obtain ⟨o, ho⟩ : ∃ o, (waysOf s (mayGate s (gateOf s n)))[n]? = some o := ⟨_, List.getElem?_eq_getElem (by omega)⟩
    have HVo := Lib.hid (show wayV s n = o.getD [] by rw [HV.out]; unfold wayAt; rw [Int.toNat_natCast, ho]; rfl)
    have hlen : (wayV s n).length ≤ 8 := by
      rw [HVo.out]
      cases o with
      | none => simp
      | some l => exact qs l (by obtain ⟨h1, h2⟩ := List.getElem?_eq_some_iff.1 ho; rw [← h2]; exact List.getElem_mem _)
    have hvn : vs[n]? = some (vs[n]'(by omega)) := List.getElem?_eq_getElem (by omega)
    have hrow := (hw n _ o hvn ho).row
    obtain ⟨v0, v1, v2, v3, v4, v5, v6, v7, rfl⟩ : ∃ a b c d e f h i, vs = [a, b, c, d, e, f, h, i] := by
      match vs, l8 with
      | [a, b, c, d, e, f, h, i], _ => exact ⟨a, b, c, d, e, f, h, i, rfl⟩
    obtain ⟨p0, n0, e0, rfl⟩ : ∃ p n c, v0 = .slice p n c := sl 0 v0 rfl
    obtain ⟨p1, n1, e1, rfl⟩ : ∃ p n c, v1 = .slice p n c := sl 1 v1 rfl
    obtain ⟨p2, n2, e2, rfl⟩ : ∃ p n c, v2 = .slice p n c := sl 2 v2 rfl
    obtain ⟨p3, n3, e3, rfl⟩ : ∃ p n c, v3 = .slice p n c := sl 3 v3 rfl
    obtain ⟨p4, n4, e4, rfl⟩ : ∃ p n c, v4 = .slice p n c := sl 4 v4 rfl
    obtain ⟨p5, n5, e5, rfl⟩ : ∃ p n c, v5 = .slice p n c := sl 5 v5 rfl
    obtain ⟨p6, n6, e6, rfl⟩ : ∃ p n c, v6 = .slice p n c := sl 6 v6 rfl
    obtain ⟨p7, n7, e7, rfl⟩ : ∃ p n c, v7 = .slice p n c := sl 7 v7 rfl
    obtain ⟨pw, hpw, hrw⟩ := hrow
    rw [hpw] at hvn
    have c9 := (Blk.new w3 [.slice p0 n0 e0, .slice p1 n1 e1, .slice p2 n2 e2, .slice p3 n3 e3, .slice p4 n4 e4, .slice p5 n5 e5, .slice p6 n6 e6, .slice p7 n7 e7] 139).cell n
    rw [hvn] at c9
    have HR := Lib.hid hrw
    have HL := Lib.hid hlen
    clear hw sl u2 u3 h6 h8 hm hpw hvn hrw qs hlen l8 q8
    go_wp2_with fail
    go_ret2
    refine ⟨pw, ?_, ?_, HL.out, ?_⟩
    · rw [HVo.out]; rfl
    · rw [HVo.out]; exact HR.out.up (by (repeat (first | exact Below.refl _ _ | (with_reducible refine Below.drewN' ?_ _) | (with_reducible refine Below.drew ?_) | (with_reducible refine Below.setCell ?_ (by first | exact Nat.le_refl _ | omega | (with_reducible (repeat (first | refine sz_alloc ?_ | refine sz_setCell ?_ | refine sz_drew ?_ | refine sz_drewN ?_)); first | exact Nat.le_refl _ | omega) | (simp only [World.size_alloc, World.size_setCell, World.size_drew, size_drewN']; omega)) _) | (with_reducible refine Below.alloc ?_ (by first | exact Nat.le_refl _ | omega | (with_reducible (repeat (first | refine sz_alloc ?_ | refine sz_setCell ?_ | refine sz_drew ?_ | refine sz_drewN ?_)); first | exact Nat.le_refl _ | omega) | (simp only [World.size_alloc, World.size_setCell, World.size_drew, size_drewN']; omega)) _) | assumption)))
    · exact Up.trans U3.out (by (repeat (first | exact Below.refl _ _ | (with_reducible refine Below.drewN' ?_ _) | (with_reducible refine Below.drew ?_) | (with_reducible refine Below.setCell ?_ (by first | exact Nat.le_refl _ | omega | (with_reducible (repeat (first | refine sz_alloc ?_ | refine sz_setCell ?_ | refine sz_drew ?_ | refine sz_drewN ?_)); first | exact Nat.le_refl _ | omega) | (simp only [World.size_alloc, World.size_setCell, World.size_drew, size_drewN']; omega)) _) | (with_reducible refine Below.alloc ?_ (by first | exact Nat.le_refl _ | omega | (with_reducible (repeat (first | refine sz_alloc ?_ | refine sz_setCell ?_ | refine sz_drew ?_ | refine sz_drewN ?_)); first | exact Nat.le_refl _ | omega) | (simp only [World.size_alloc, World.size_setCell, World.size_drew, size_drewN']; omega)) _) | assumption)))
  · have hne : (errGate s x != 0) = true := by rw [bne_iff_ne]; exact hE
    have HV := Lib.hid (show wayV s x = [] by unfold wayV; rw [if_neg hE])
    clear hE
    unfold sdVal at *
    go_enter Tryz.func36, Tryz.ntmps36
    go_wp2_with fail
    refine (HC.out _ (by (repeat (first | exact Below.refl _ _ | (with_reducible refine Below.drewN' ?_ _) | (with_reducible refine Below.drew ?_) | (with_reducible refine Below.setCell ?_ (by first | exact Nat.le_refl _ | omega | (with_reducible (repeat (first | refine sz_alloc ?_ | refine sz_setCell ?_ | refine sz_drew ?_ | refine sz_drewN ?_)); first | exact Nat.le_refl _ | omega) | (simp only [World.size_alloc, World.size_setCell, World.size_drew, size_drewN']; omega)) _) | (with_reducible refine Below.alloc ?_ (by first | exact Nat.le_refl _ | omega | (with_reducible (repeat (first | refine sz_alloc ?_ | refine sz_setCell ?_ | refine sz_drew ?_ | refine sz_drewN ?_)); first | exact Nat.le_refl _ | omega) | (simp only [World.size_alloc, World.size_setCell, World.size_drew, size_drewN']; omega)) _) | assumption)))).mono ?_
    rintro e w1 ⟨p, rfl, u1, -⟩
    have U1 := Lib.hid (Up.trans (show Up w (w.alloc (.cells (sdCells s pT pF pS cT cF cS).toArray 28)) by (repeat (first | exact Below.refl _ _ | (with_reducible refine Below.drewN' ?_ _) | (with_reducible refine Below.drew ?_) | (with_reducible refine Below.setCell ?_ (by first | exact Nat.le_refl _ | omega | (with_reducible (repeat (first | refine sz_alloc ?_ | refine sz_setCell ?_ | refine sz_drew ?_ | refine sz_drewN ?_)); first | exact Nat.le_refl _ | omega) | (simp only [World.size_alloc, World.size_setCell, World.size_drew, size_drewN']; omega)) _) | (with_reducible refine Below.alloc ?_ (by first | exact Nat.le_refl _ | omega | (with_reducible (repeat (first | refine sz_alloc ?_ | refine sz_setCell ?_ | refine sz_drew ?_ | refine sz_drewN ?_)); first | exact Nat.le_refl _ | omega) | (simp only [World.size_alloc, World.size_setCell, World.size_drew, size_drewN']; omega)) _) | assumption))) u1)
    clear u1 HC
    go_wp2_with fail
    go_ret2
    rw [HV.out]
    exact ⟨none, rfl, Row.nil _ _ _, by simp, Up.trans U1.out (by (repeat (first | exact Below.refl _ _ | (with_reducible refine Below.drewN' ?_ _) | (with_reducible refine Below.drew ?_) | (with_reducible refine Below.setCell ?_ (by first | exact Nat.le_refl _ | omega | (with_reducible (repeat (first | refine sz_alloc ?_ | refine sz_setCell ?_ | refine sz_drew ?_ | refine sz_drewN ?_)); first | exact Nat.le_refl _ | omega) | (simp only [World.size_alloc, World.size_setCell, World.size_drew, size_drewN']; omega)) _) | (with_reducible refine Below.alloc ?_ (by first | exact Nat.le_refl _ | omega | (with_reducible (repeat (first | refine sz_alloc ?_ | refine sz_setCell ?_ | refine sz_drew ?_ | refine sz_drewN ?_)); first | exact Nat.le_refl _ | omega) | (simp only [World.size_alloc, World.size_setCell, World.size_drew, size_drewN']; omega)) _) | assumption)))⟩
end
end Go.Proofs.YtknaajofcbenaaaGreat
