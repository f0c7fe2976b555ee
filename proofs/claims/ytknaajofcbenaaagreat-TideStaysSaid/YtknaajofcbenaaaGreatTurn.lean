import Derived.Test.YtknaajofcbenaaaGreatBase
import Derived.Test.YtknaajofcbenaaaGreatHeight
import Derived.Test.YtknaajofcbenaaaGreatChk2
import Derived.Test.YtknaajofcbenaaaGreatCheck
import Derived.Test.YtknaajofcbenaaaGreatOn
import Derived.Test.YtknaajofcbenaaaGreatStep
import Derived.Test.YtknaajofcbenaaaGreatLower
import Derived.Test.YtknaajofcbenaaaGreatGates
import Derived.Test.YtknaajofcbenaaaGreatBegin
import Derived.Test.YtknaajofcbenaaaGreatBegin2
import Derived.Test.YtknaajofcbenaaaGreatSpans
import Derived.Test.YtknaajofcbenaaaGreatFits
import Derived.Test.YtknaajofcbenaaaGreatSpans2
import Derived.WalkKit
import Derived.WalkSpells
import Derived.WalkLawsBesides
import Derived.Deep.QuietTactic
import Derived.BigQuiet
import Derived.Lib.Hide
import Derived.Shelf.Abstract
import Derived.BigGuardPart
import Derived.RangeFuncNested
import Derived.RangeFuncBound
import Derived.RangeFuncCalls
import Derived.RangeFuncLeaves
import Derived.Shelf.RegionOpen
import Derived.OwnWalkIn
import Derived.TacticsInMore
import Derived.LoopNIn
import Derived.LoopIn
import Derived.StillTailTactics
import Derived.Deep.RegionHeld3
import Derived.StillTail
import Derived.RangeFuncWrites
import Derived.Laws.StructEq
import Derived.Deep.LoopGhost
import Derived.IntWalk
import Derived.RangeFuncBox
namespace Go.Proofs.YtknaajofcbenaaaGreat
open Go.RowKit Go.Shelf

theorem isDry_c (x : Int) (w : World) : Calls Tryz.prog 65 #[.int .i64 x] w fun e w' => e = .returned (.bool (x == 0)) ∧ w = w' := by
  go_enter Tryz.func65, Tryz.ntmps65
  go_wp2
  go_ret
  exact ⟨rfl, rfl⟩
theorem en_isDry : Enters Tryz.prog 65 := enters_of Tryz.func65 (by kernel_rfl) rfl
theorem wants_isDry (w : World) : Wants 65 #[] #[] (fun x => x == 0) w := fun x _ _ => (isDry_c x _).mono fun _ _ ⟨h, k⟩ => ⟨h, k ▸ Below.refl _ _⟩

/-- all of some places are dry for certain -/
def dryB (s : Sd) (ps : List Int) (m : Int) : Bool := fitB s ps (fun x => x == 0) m
def drySpans (s : Sd) (ps : List Int) : List (Int × Int) := spansOf (dryB s ps) (firstM s.table) (dayN s)

theorem spansOf_len (f : Int → Bool) (a : Int) (n : Nat) : (spansOf f a n).length ≤ n + 1 := by
  have := spSt_len f a n
  unfold spansOf
  split <;> (simp; omega)

/-- the end of the first span that holds a minute -/
def turnIn (l : List (Int × Int)) (m : Int) : Option Int := (l.find? fun x => decide (x.1 ≤ m) && decide (m ≤ x.2)).map (·.2)
theorem turnIn_cons (x : Int × Int) (r : List (Int × Int)) (m : Int) : turnIn (x :: r) m = if x.1 ≤ m ∧ m ≤ x.2 then some x.2 else turnIn r m := by
  unfold turnIn
  rw [List.find?_cons]
  by_cases h1 : x.1 ≤ m <;> by_cases h2 : m ≤ x.2 <;> simp [h1, h2]
def errTurn (s : Sd) (p m : Int) : Int := if errFor s p = 0 then (if inDay s m = true then (match turnIn (drySpans s [p]) m with | some _ => 0 | none => 6) else 3) else errFor s p
def turnV (s : Sd) (p m : Int) : Int := if errFor s p = 0 then (if inDay s m = true then (turnIn (drySpans s [p]) m).getD 0 else 0) else 0

section
variable {pT pF pS : Option Addr} {cT cF cS : Nat}

set_option maxRecDepth 100000 in
set_option maxHeartbeats 1000000 in
theorem dryTogether_c (bw : Nat) (s : Sd) (ps : List Int) (pp : Option Addr) (c : Nat) (w : World) (hw : IsWork w bw s pT pF pS cT cF cS) (ok : Ok s)
    (hr : Row w pp 1 (ints ps)) (hps : ∀ p ∈ ps, 0 ≤ p ∧ p < 8) (hpl : ps.length ≤ maxLen) :
    Calls Tryz.prog 60 #[.pointer (some ⟨bw, 0, none⟩), .slice pp ps.length c] w fun e w' => ∃ p c', e = .returned (.slice p (drySpans s ps).length c') ∧
      (drySpans s ps).length ≤ c' ∧ c' ≤ maxLen ∧ Row w' p 2 (pairs (drySpans s ps)) ∧ Up w w' := by
  have HS := Lib.hid (spans_c bw 65 #[] #[] (fun x => x == 0) s ps pp c w hw ok hr hps hpl en_isDry (wants_isDry w))
  clear hw hr hps hpl
  go_enter Tryz.func60, Tryz.ntmps60
  go_wp2_with fail
  refine HS.out.mono ?_
  rintro e w1 ⟨p, c', rfl, q1, q2, q3, u⟩
  have Q := Lib.hid q3
  have U := Lib.hid u
  clear q3 u
  go_wp2_with fail
  go_ret
  exact ⟨p, c', rfl, q1, q2, Q.out, U.out⟩

set_option maxRecDepth 100000 in
set_option maxHeartbeats 2000000 in
theorem Turn_c (s : Sd) (x m : Int) (w : World) (hl : Lists w s pT pF pS cT cF cS) :
    Calls Tryz.prog 20 #[sdVal s pT pF pS cT cF cS, .int .i64 x, .int .i64 m] w fun e w' => e = .returned (.tuple #[.int .i64 (turnV s x m), .int .i64 (errTurn s x m)]) ∧ Up w w' := by
  have HC := Lib.hid (fun W (u : Up w W) => beginFor_c s x W (hl.up u))
  clear hl
  by_cases hE : errFor s x = 0
  · have hc : chk s = 0 := by
      unfold errFor at hE
      by_cases hc : chk s = 0
      · exact hc
      · rw [if_neg hc] at hE; exact absurd hE hc
    have hok := chk_ok hc
    obtain ⟨-, -, ht2, ht12⟩ := hok.table
    obtain ⟨hx0, hx8⟩ := errFor_zero hE
    have HK := Lib.hid hok
    have HV := Lib.hid (show turnV s x m = if inDay s m = true then (turnIn (drySpans s [x]) m).getD 0 else 0 by unfold turnV; rw [if_pos hE])
    have HX := Lib.hid (show errTurn s x m = if inDay s m = true then (match turnIn (drySpans s [x]) m with | some _ => 0 | none => 6) else 3 by unfold errTurn; rw [if_pos hE])
    rw [hE] at HC
    clear hok hc hE
    unfold sdVal at *
    go_enter Tryz.func20, Tryz.ntmps20
    go_wp2_with fail
    refine (HC.out _ (by (repeat (first | exact Below.refl _ _ | (with_reducible refine Below.drewN' ?_ _) | (with_reducible refine Below.drew ?_) | (with_reducible refine Below.setCell ?_ (by first | exact Nat.le_refl _ | omega | (with_reducible (repeat (first | refine sz_alloc ?_ | refine sz_setCell ?_ | refine sz_drew ?_ | refine sz_drewN ?_)); first | exact Nat.le_refl _ | omega) | (simp only [World.size_alloc, World.size_setCell, World.size_drew, size_drewN']; omega)) _) | (with_reducible refine Below.alloc ?_ (by first | exact Nat.le_refl _ | omega | (with_reducible (repeat (first | refine sz_alloc ?_ | refine sz_setCell ?_ | refine sz_drew ?_ | refine sz_drewN ?_)); first | exact Nat.le_refl _ | omega) | (simp only [World.size_alloc, World.size_setCell, World.size_drew, size_drewN']; omega)) _) | assumption)))).mono ?_
    rintro e w1 ⟨p, rfl, u1, hok⟩
    obtain ⟨bw, rfl, hW⟩ := hok rfl
    have U1 := Lib.hid (Up.trans (show Up w (w.alloc (.cells (sdCells s pT pF pS cT cF cS).toArray 28)) by (repeat (first | exact Below.refl _ _ | (with_reducible refine Below.drewN' ?_ _) | (with_reducible refine Below.drew ?_) | (with_reducible refine Below.setCell ?_ (by first | exact Nat.le_refl _ | omega | (with_reducible (repeat (first | refine sz_alloc ?_ | refine sz_setCell ?_ | refine sz_drew ?_ | refine sz_drewN ?_)); first | exact Nat.le_refl _ | omega) | (simp only [World.size_alloc, World.size_setCell, World.size_drew, size_drewN']; omega)) _) | (with_reducible refine Below.alloc ?_ (by first | exact Nat.le_refl _ | omega | (with_reducible (repeat (first | refine sz_alloc ?_ | refine sz_setCell ?_ | refine sz_drew ?_ | refine sz_drewN ?_)); first | exact Nat.le_refl _ | omega) | (simp only [World.size_alloc, World.size_setCell, World.size_drew, size_drewN']; omega)) _) | assumption))) u1)
    have HW := Lib.hid hW
    clear hok hW u1 HC
    go_wp2_with fail
    refine (refused_c 59 #[.pointer (some ⟨bw, 0, none⟩)] #[] _ _ (inDay s m) _ en_isOfDay (isOfDay_c bw s m _ HW.out.sands ht2 ht12)).mono ?_
    rintro e w2 ⟨rfl, u2⟩
    have U2 := Lib.hid (Up.trans U1.out u2)
    have HW2 := Lib.hid (HW.out.up u2)
    clear u2
    cases hd : inDay s m
    · have HD := Lib.hid hd
      clear hd
      go_wp2_with fail
      go_ret2
      simp only [HV.out, HX.out, HD.out]
      exact ⟨rfl, U2.out⟩
    · have HD := Lib.hid hd
      clear hd
      go_wp2_with fail
      refine Calls.world ?_
      intro w3 hw3
      have u3 : Up w2 w3 := by rw [hw3]; (repeat (first | exact Below.refl _ _ | (with_reducible refine Below.drewN' ?_ _) | (with_reducible refine Below.drew ?_) | (with_reducible refine Below.setCell ?_ (by first | exact Nat.le_refl _ | omega | (with_reducible (repeat (first | refine sz_alloc ?_ | refine sz_setCell ?_ | refine sz_drew ?_ | refine sz_drewN ?_)); first | exact Nat.le_refl _ | omega) | (simp only [World.size_alloc, World.size_setCell, World.size_drew, size_drewN']; omega)) _) | (with_reducible refine Below.alloc ?_ (by first | exact Nat.le_refl _ | omega | (with_reducible (repeat (first | refine sz_alloc ?_ | refine sz_setCell ?_ | refine sz_drew ?_ | refine sz_drewN ?_)); first | exact Nat.le_refl _ | omega) | (simp only [World.size_alloc, World.size_setCell, World.size_drew, size_drewN']; omega)) _) | assumption))
      have hr : Row w3 (some ⟨w2.heap.size, 0, none⟩) 1 (ints [x]) := by rw [hw3]; exact Row.lit w2 [x] _
      clear hw3
      refine (dryTogether_c bw s [x] (some ⟨w2.heap.size, 0, none⟩) 1 w3 (HW2.out.up u3) HK.out hr (fun p hp => by rw [List.mem_singleton.1 hp]; exact ⟨hx0, hx8⟩) (by simp [maxLen])).mono ?_
      rintro e w4 ⟨p, c', rfl, q1, q2, q3, u4⟩
      have Q := Lib.hid q3
      have U4 := Lib.hid (Up.trans U2.out (Up.trans u3 u4))
      obtain ⟨l, hll⟩ : ∃ l, drySpans s [x] = l := ⟨_, rfl⟩
      have hln : l.length ≤ dayN s + 1 := by rw [← hll]; exact spansOf_len _ _ _
      have hdn : dayN s ≤ 1441 := by have := firstM_lt HK.out.table; unfold dayN; omega
      rw [hll] at Q HV HX q1
      rw [hll]
      clear q3 u3 u4 hr hll
      go_wp2_with fail
      go_loopw [34] (fun i wr => ∃ k : Nat, k ≤ l.length ∧ i = .int .i64 k ∧ turnIn l m = turnIn (l.drop k) m ∧ Up w4 wr) (fun i _ => l.length - (intOf i).toNat)
      case atStart => exact ⟨0, Nat.zero_le _, rfl, rfl, Below.refl _ _⟩
      case round =>
        obtain ⟨k, hk, rfl, ht, hu⟩ := hrel
        have HT := Lib.hid ht
        have HU := Lib.hid hu
        have hsz := hu.size
        clear ht hu
        by_cases hlt : k < l.length
        · obtain ⟨b, off, rfl, d0, d1⟩ := Q.out.pair k hlt
          have e0 := HU.out.cellAt d0
          have e1 := HU.out.cellAt d1
          clear d0 d1
          have hdr : l.drop k = l[k] :: l.drop (k + 1) := List.drop_eq_getElem_cons hlt
          have HDR := Lib.hid hdr
          clear hdr
          by_cases h1 : l[k].1 ≤ m
          · by_cases h2 : m ≤ l[k].2
            · have HR := Lib.hid (show turnIn l m = some l[k].2 by rw [HT.out, HDR.out, turnIn_cons, if_pos ⟨h1, h2⟩])
              go_wp2_with fail
              go_ret2
              simp only [HV.out, HX.out, HD.out, HR.out]
              exact ⟨rfl, Up.trans U4.out (by have hU := HU.out; (repeat (first | exact Below.refl _ _ | (with_reducible refine Below.drewN' ?_ _) | (with_reducible refine Below.drew ?_) | (with_reducible refine Below.setCell ?_ (by first | exact Nat.le_refl _ | omega | (with_reducible (repeat (first | refine sz_alloc ?_ | refine sz_setCell ?_ | refine sz_drew ?_ | refine sz_drewN ?_)); first | exact Nat.le_refl _ | omega) | (simp only [World.size_alloc, World.size_setCell, World.size_drew, size_drewN']; omega)) _) | (with_reducible refine Below.alloc ?_ (by first | exact Nat.le_refl _ | omega | (with_reducible (repeat (first | refine sz_alloc ?_ | refine sz_setCell ?_ | refine sz_drew ?_ | refine sz_drewN ?_)); first | exact Nat.le_refl _ | omega) | (simp only [World.size_alloc, World.size_setCell, World.size_drew, size_drewN']; omega)) _) | assumption)))⟩
            · have HR := Lib.hid (show turnIn l m = turnIn (l.drop (k + 1)) m by rw [HT.out, HDR.out, turnIn_cons, if_neg (fun h => h2 h.2)])
              go_wp2_with fail
              go_roundw
              case rel => exact ⟨k + 1, hlt, by go_num, HR.out, by have hU := HU.out; (repeat (first | exact Below.refl _ _ | (with_reducible refine Below.drewN' ?_ _) | (with_reducible refine Below.drew ?_) | (with_reducible refine Below.setCell ?_ (by first | exact Nat.le_refl _ | omega | (with_reducible (repeat (first | refine sz_alloc ?_ | refine sz_setCell ?_ | refine sz_drew ?_ | refine sz_drewN ?_)); first | exact Nat.le_refl _ | omega) | (simp only [World.size_alloc, World.size_setCell, World.size_drew, size_drewN']; omega)) _) | (with_reducible refine Below.alloc ?_ (by first | exact Nat.le_refl _ | omega | (with_reducible (repeat (first | refine sz_alloc ?_ | refine sz_setCell ?_ | refine sz_drew ?_ | refine sz_drewN ?_)); first | exact Nat.le_refl _ | omega) | (simp only [World.size_alloc, World.size_setCell, World.size_drew, size_drewN']; omega)) _) | assumption))⟩
              case measure => simp [intOf]; omega
          · have HR := Lib.hid (show turnIn l m = turnIn (l.drop (k + 1)) m by rw [HT.out, HDR.out, turnIn_cons, if_neg (fun h => h1 h.1)])
            go_wp2_with fail
            go_roundw
            case rel => exact ⟨k + 1, hlt, by go_num, HR.out, by have hU := HU.out; (repeat (first | exact Below.refl _ _ | (with_reducible refine Below.drewN' ?_ _) | (with_reducible refine Below.drew ?_) | (with_reducible refine Below.setCell ?_ (by first | exact Nat.le_refl _ | omega | (with_reducible (repeat (first | refine sz_alloc ?_ | refine sz_setCell ?_ | refine sz_drew ?_ | refine sz_drewN ?_)); first | exact Nat.le_refl _ | omega) | (simp only [World.size_alloc, World.size_setCell, World.size_drew, size_drewN']; omega)) _) | (with_reducible refine Below.alloc ?_ (by first | exact Nat.le_refl _ | omega | (with_reducible (repeat (first | refine sz_alloc ?_ | refine sz_setCell ?_ | refine sz_drew ?_ | refine sz_drewN ?_)); first | exact Nat.le_refl _ | omega) | (simp only [World.size_alloc, World.size_setCell, World.size_drew, size_drewN']; omega)) _) | assumption))⟩
            case measure => simp [intOf]; omega
        · obtain rfl : k = l.length := by omega
          have HR := Lib.hid (show turnIn l m = none by rw [HT.out]; simp [turnIn])
          go_wp2_with fail
          go_ret2
          simp only [HV.out, HX.out, HD.out, HR.out]
          exact ⟨rfl, Up.trans U4.out HU.out⟩
  · have hne : (errFor s x != 0) = true := by rw [bne_iff_ne]; exact hE
    have HV := Lib.hid (show turnV s x m = 0 by unfold turnV; rw [if_neg hE])
    have HX := Lib.hid (show errTurn s x m = errFor s x by unfold errTurn; rw [if_neg hE])
    clear hE
    unfold sdVal at *
    go_enter Tryz.func20, Tryz.ntmps20
    go_wp2_with fail
    refine (HC.out _ (by (repeat (first | exact Below.refl _ _ | (with_reducible refine Below.drewN' ?_ _) | (with_reducible refine Below.drew ?_) | (with_reducible refine Below.setCell ?_ (by first | exact Nat.le_refl _ | omega | (with_reducible (repeat (first | refine sz_alloc ?_ | refine sz_setCell ?_ | refine sz_drew ?_ | refine sz_drewN ?_)); first | exact Nat.le_refl _ | omega) | (simp only [World.size_alloc, World.size_setCell, World.size_drew, size_drewN']; omega)) _) | (with_reducible refine Below.alloc ?_ (by first | exact Nat.le_refl _ | omega | (with_reducible (repeat (first | refine sz_alloc ?_ | refine sz_setCell ?_ | refine sz_drew ?_ | refine sz_drewN ?_)); first | exact Nat.le_refl _ | omega) | (simp only [World.size_alloc, World.size_setCell, World.size_drew, size_drewN']; omega)) _) | assumption)))).mono ?_
    rintro e w1 ⟨p, rfl, u1, -⟩
    have U1 := Lib.hid (Up.trans (show Up w (w.alloc (.cells (sdCells s pT pF pS cT cF cS).toArray 28)) by (repeat (first | exact Below.refl _ _ | (with_reducible refine Below.drewN' ?_ _) | (with_reducible refine Below.drew ?_) | (with_reducible refine Below.setCell ?_ (by first | exact Nat.le_refl _ | omega | (with_reducible (repeat (first | refine sz_alloc ?_ | refine sz_setCell ?_ | refine sz_drew ?_ | refine sz_drewN ?_)); first | exact Nat.le_refl _ | omega) | (simp only [World.size_alloc, World.size_setCell, World.size_drew, size_drewN']; omega)) _) | (with_reducible refine Below.alloc ?_ (by first | exact Nat.le_refl _ | omega | (with_reducible (repeat (first | refine sz_alloc ?_ | refine sz_setCell ?_ | refine sz_drew ?_ | refine sz_drewN ?_)); first | exact Nat.le_refl _ | omega) | (simp only [World.size_alloc, World.size_setCell, World.size_drew, size_drewN']; omega)) _) | assumption))) u1)
    clear u1 HC
    go_wp2_with fail
    go_ret2
    rw [HV.out, HX.out]
    exact ⟨rfl, U1.out⟩
end
end Go.Proofs.YtknaajofcbenaaaGreat
