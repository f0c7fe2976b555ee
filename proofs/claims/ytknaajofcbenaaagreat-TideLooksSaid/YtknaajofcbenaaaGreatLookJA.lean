/- The reference's least crests: what its functions over, least, Gate and Gates return. -/
import Derived.Test.YtknaajofcbenaaaGreatAll
import Derived.Test.YtknaajofcbenaaaGreatDup
import Derived.Test.YtknaajofcbenaaaGreatLonger
import Derived.Test.YtknaajofcbenaaaGreatFar
import Derived.Test.YtknaajofcbenaaaGreatOwn
import Derived.Test.YtknaajofcbenaaaGreatTurn
import Derived.Test.YtknaajofcbenaaaGreatBegin2
import Derived.Test.YtknaajofcbenaaaGreatState2
import Derived.Test.YtknaajofcbenaaaGreatOut1
import Derived.Test.YtknaajofcbenaaaGreatChkZ
import Derived.Test.YtknaajofcbenaaaGreatHgtPure
import Derived.Test.YtknaajofcbenaaaGreatBase
import Derived.Test.YtknaajofcbenaaaGreatHeight
import Derived.Test.YtknaajofcbenaaaGreatChk2
import Derived.Test.YtknaajofcbenaaaGreatCheck
import Derived.Test.YtknaajofcbenaaaGreatOn
import Derived.Test.YtknaajofcbenaaaGreatGates
import Derived.Test.YtknaajofcbenaaaGreatBegin
import Derived.Test.YtknaajofcbenaaaGreatLead
import Derived.Test.YtknaajofcbenaaaGreatWaysF
import Derived.Test.YtknaajofcbenaaaGreatStep
import Derived.Test.YtknaajofcbenaaaGreatLower
import Derived.Test.YtknaajofcbenaaaGreatSpans
import Derived.Test.YtknaajofcbenaaaGreatCounted
import Derived.Test.YtknaajofcbenaaaGreatChk
import Derived.Test.YtknaajofcbenaaaGreatEvery
import Derived.Test.YtknaajofcbenaaaGreatFits
import Derived.Test.YtknaajofcbenaaaGreatQue
import Derived.Test.YtknaajofcbenaaaGreatLooks
import Derived.Test.YtknaajofcbenaaaGreatRound
import Derived.WalkKit
import Derived.WalkSpells
import Derived.WalkLawsBesides
import Derived.Deep.QuietTactic
import Derived.BigQuiet
import Derived.Lib.Hide
import Derived.Shelf.Abstract
import Derived.BigGuardPart
import Derived.RangeFuncNested
import Derived.RangeFuncBound
import Derived.RangeFuncCalls
import Derived.RangeFuncLeaves
import Derived.Shelf.RegionOpen
import Derived.OwnWalkIn
import Derived.TacticsInMore
import Derived.LoopNIn
import Derived.LoopIn
import Derived.StillTailTactics
import Derived.Deep.RegionHeld3
import Derived.StillTail
import Derived.RangeFuncWrites
import Derived.Laws.StructEq
import Derived.Deep.LoopGhost
import Derived.IntWalk
import Derived.RangeFuncBox
import Derived.WalkMore
import Derived.Scope
import Derived.Deep.CutBlock
import Derived.Deep.Cut
import Derived.Deep.DeepCutAuto
import Derived.Deep.CutRange
import Derived.ArgAppend
import Derived.Laws.CopyOwn
import Derived.OwnWalk
import Derived.Lib.SliceRun
import Derived.Maps.OwnOps
import Derived.Maps.OwnSet
import Derived.Deep.AppendSrc
import Derived.Deep.Upon
/- The elements of a list that are what they are asked to be; the numbers of all places. -/
namespace Go.Proofs.YtknaajofcbenaaaGreat
open Go.RowKit Go.Shelf

set_option maxRecDepth 100000 in
set_option maxHeartbeats 1000000 in
theorem those_c (f : Nat) (pre post : Array Value) (p : Option Addr) (c : Nat) (l : List Int) (pd : Int → Bool) (w : World) (hr : Row w p 1 (ints l)) (hm : l.length ≤ 100000) (eg : Enters Tryz.prog f)
    (hf : ∀ x, x ∈ l → ∀ W, Up w W → Calls Tryz.prog f (pre ++ #[.int .i64 x] ++ post) W fun e W' => e = .returned (.bool (pd x)) ∧ Up W W') :
    Calls Tryz.prog 62 #[.slice p l.length c, .func (.func f) pre post] w fun e w' => ∃ q d, e = .returned (.slice q (l.filter pd).length d) ∧ (l.filter pd).length ≤ d ∧ d ≤ maxLen ∧ Row w' q 1 (ints (l.filter pd)) ∧ Up w w' := by
  have eg' : ∀ (args : Array Value) (w : World), (callFunc f args).run Tryz.prog w = .ok (.enter f args) w := eg
  have HF := Lib.hid hf
  obtain ⟨i0, hi, hz0, hz1, hz2⟩ := info_parts info3
  clear hf
  go_enter Tryz.func62, Tryz.ntmps62
  go_wp2
  go_loopw [10, 5] (fun i v wr => ∃ k : Nat, k ≤ l.length ∧ i = .int .i64 k ∧ Up w wr ∧ wr.ownsRow w.heap.size 3 1 v ((l.take k).filter pd).length (ints ((l.take k).filter pd)).flatten) (fun i _ _ => l.length - (intOf i).toNat)
  case atStart => exact ⟨0, Nat.zero_le _, rfl, Below.refl _ _, World.ownsRow_nil _ _ _ _⟩
  case round =>
    obtain ⟨k, hk, rfl, hu, hown⟩ := hrel
    have hsz := hu.size
    have hle : ((l.take k).filter pd).length ≤ l.length := Nat.le_trans (List.length_filter_le _ _) (by rw [List.length_take]; omega)
    by_cases hlt : k < l.length
    · obtain ⟨b, off, rfl, hc0⟩ := hr.int k hlt
      have hd0 := hu.cellAt hc0
      clear hc0
      have hfk := fun W h => HF.out l[k] (List.getElem_mem _) W h
      have htk : l.take (k + 1) = l.take k ++ [l[k]] := List.take_succ_eq_append_getElem hlt
      cases hp : pd l[k]
      · rw [hp] at hfk
        have HT := Lib.hid (show (l.take (k + 1)).filter pd = (l.take k).filter pd by rw [htk, List.filter_append]; simp [hp])
        have HK := Lib.hid hfk
        have HO := Lib.hid hown
        clear hfk hown htk hp hle
        go_wp2_with fail
        refine (HK.out _ hu).mono ?_
        rintro e w1 ⟨rfl, hb1⟩
        go_wp2
        go_roundw
        case rel => exact ⟨k + 1, hlt, by go_num, Up.trans hu hb1, by rw [HT.out]; exact ownsRow_up HO.out hb1⟩
        case measure => simp [intOf]; omega
      · rw [hp] at hfk
        have HT := Lib.hid (show (l.take (k + 1)).filter pd = (l.take k).filter pd ++ [l[k]] by rw [htk, List.filter_append]; simp [hp])
        have HK := Lib.hid hfk
        have HO := Lib.hid hown
        clear hfk hown htk hp
        go_wp2_with fail
        refine (HK.out _ hu).mono ?_
        rintro e w1 ⟨rfl, hb1⟩
        have O1 := Lib.hid (ownsRow_up HO.out hb1)
        have U1 := Lib.hid (Up.trans hu hb1)
        have hs1 : w.heap.size ≤ w1.heap.size := U1.out.size
        clear hb1 HO
        go_wp2_with (at_builtin; refine wpList_append_own _ rfl _ _ 25 rfl w.heap.size 3 i0 (.int .i64 0) 1 8 Tryz.underlying25 hi hz0 hz1 hz2 rfl (by decide) _ _ _ rfl (O1.out.alloc _) ⟨w1.heap.size, 0, none⟩ 1 1 [.int .i64 l[k]] rfl rfl (newsAt _ rfl [.int .i64 l[k]] _) (by simp [Value.oneCell']) (by simp [maxLen]; omega) (by omega) (sz_alloc hs1) ?_; intro v' w2 hown hgr hnn; clear hnn)
        have U2 := Lib.hid ((U1.out.alloc hs1 _).grown hgr (sz_alloc hs1) (fun j e => (O1.out.lt j e).1))
        have O2 := Lib.hid hown
        clear hown hgr
        go_roundw
        case rel =>
          refine ⟨k + 1, hlt, by go_num, U2.out, ?_⟩
          rw [HT.out]
          have e : (ints ((l.take k).filter pd ++ [l[k]])).flatten = (ints ((l.take k).filter pd)).flatten ++ [.int .i64 l[k]] := by unfold ints; rw [List.map_append, List.flatten_append]; rfl
          rw [e, List.length_append]
          exact O2.out
        case measure => simp [intOf]; omega
    · obtain rfl : k = l.length := by omega
      rw [List.take_length] at hown
      obtain ⟨q, d, rfl, a1, a2, hR, -⟩ := Row.of_own (rows := ints (l.filter pd)) (flatOk_ints _) hown (by simp [ints])
      go_wp2
      go_ret
      exact ⟨q, d, rfl, a1, a2, hR, hu⟩

section
variable {pT pF pS : Option Addr} {cT cF cS : Nat}
/-- the numbers of all places -/
def allP (s : Sd) : List Int := (List.range s.floors.length).map fun (p : Nat) => (p : Int)
theorem allP_len (s : Sd) : (allP s).length = s.floors.length := by simp [allP]
set_option maxRecDepth 100000 in
set_option maxHeartbeats 1000000 in
theorem allPlaces_c (bw : Nat) (s : Sd) (w : World) (hw : IsWork w bw s pT pF pS cT cF cS) (hf : s.floors.length ≤ 8) :
    Calls Tryz.prog 63 #[.pointer (some ⟨bw, 0, none⟩)] w fun e w' => ∃ q d, e = .returned (.slice q (allP s).length d) ∧ (allP s).length ≤ d ∧ d ≤ maxLen ∧ Row w' q 1 (ints (allP s)) ∧ Up w w' := by
  obtain ⟨i0, hi, hz0, hz1, hz2⟩ := info_parts info3
  have hmk : ∀ u : World, (Instr.makeSlice 25 (.int .i64 (s.floors.length : Int)) (.int .i64 (s.floors.length : Int))).run Tryz.prog u =
      .ok (.slice (some ⟨u.heap.size, 0, none⟩) s.floors.length s.floors.length) (u.alloc (.cells (madeCells #[.int .i64 0] s.floors.length) 3)) := fun u => by
    have h := run_make (P := Tryz.prog) u 25 3 i0 (.int .i64 0) Tryz.underlying25 hi hz0 .i64 .i64 (s.floors.length : Int) (s.floors.length : Int) (by omega) (Int.le_refl _) (by rw [hz2]; omega) (by omega)
    rw [Int.toNat_natCast] at h
    simpa [hz1, Value.cells] using h
  have q3 := hw.sands.s3
  have lb := cell_lt q3
  rw [allP_len]
  clear hi hz0 hz1 hz2 hw
  have HMK := Lib.hid hmk
  go_enter Tryz.func63, Tryz.ntmps63
  go_wp2_with fail
  clear hmk
  go_loopw [14] (fun i wr => ∃ k : Nat, k ≤ s.floors.length ∧ i = .int .i64 k ∧ Blk wr w.heap.size (gcells (fillTo s.floors.length (fun (p : Nat) => (p : Int)) k)) 3 ∧ Up w wr) (fun i _ => s.floors.length - (intOf i).toNat)
  case atStart =>
    refine ⟨0, by omega, rfl, ?_, by (repeat (first | exact Below.refl _ _ | (with_reducible refine Below.drewN' ?_ _) | (with_reducible refine Below.drew ?_) | (with_reducible refine Below.setCell ?_ (by first | exact Nat.le_refl _ | omega | (with_reducible (repeat (first | refine sz_alloc ?_ | refine sz_setCell ?_ | refine sz_drew ?_ | refine sz_drewN ?_)); first | exact Nat.le_refl _ | omega) | (simp only [World.size_alloc, World.size_setCell, World.size_drew, size_drewN']; omega)) _) | (with_reducible refine Below.alloc ?_ (by first | exact Nat.le_refl _ | omega | (with_reducible (repeat (first | refine sz_alloc ?_ | refine sz_setCell ?_ | refine sz_drew ?_ | refine sz_drewN ?_)); first | exact Nat.le_refl _ | omega) | (simp only [World.size_alloc, World.size_setCell, World.size_drew, size_drewN']; omega)) _) | assumption))⟩
    have : (madeCells #[Value.int .i64 0] s.floors.length) = (gcells (fillTo s.floors.length (fun (p : Nat) => (p : Int)) 0)).toArray := by
      apply Array.toList_inj.1
      rw [toList_madeCells_one]
      simp [gcells, fillTo]
    rw [this]
    exact Blk.new _ _ _
  case round =>
    obtain ⟨k, hk, rfl, hB, hu⟩ := hrel
    have c0 := hB.cell k
    have f0 := hB.free k
    have HB := Lib.hid hB
    have HU := Lib.hid hu
    clear hB hu
    by_cases hlt : k < s.floors.length
    · have k1 : (k : Int) < s.floors.length := by omega
      rw [gcells, List.getElem?_map, List.getElem?_eq_getElem (by rw [fillTo_len hk]; exact hlt)] at c0
      simp only [Option.map_some] at c0
      go_wp2_with fail
      go_roundw
      case rel =>
        refine ⟨k + 1, hlt, by go_num, ?_, HU.out.setCell (by simp) _⟩
        have := HB.out.set k (.int .i64 (k : Int))
        rw [gcells, ← List.map_set, fillTo_set (f := fun (p : Nat) => (p : Int)) hlt] at this
        exact this
      case measure => simp [intOf]; omega
    · obtain rfl : k = s.floors.length := by omega
      clear c0
      go_wp2_with fail
      go_ret
      refine ⟨_, _, rfl, Nat.le_refl _, by simp [maxLen]; omega, ?_, HU.out⟩
      have := HB.out
      rw [fillTo_end] at this
      exact Row.of_blk this
end
end Go.Proofs.YtknaajofcbenaaaGreat
/- What the layer's Flood returns. -/
namespace Go.Proofs.YtknaajofcbenaaaGreat
open Go.RowKit Go.Shelf
/-- the places that are dry at a minute -/
def dryL (s : Sd) (m : Int) : List Int := (allP s).filter fun p => st s m p.toNat == 0
/-- one of some places isn't dry -/
def wetAny (s : Sd) (D : List Int) (t : Int) : Bool := D.any fun p => st s t p.toNat != 0
/-- the first of n minutes behind t -/
def flo (f : Int → Bool) (t : Int) : Nat → Option Int
  | 0 => none
  | n + 1 => if f (t + 1) = true then some (t + 1) else flo f (t + 1) n
def floodT (s : Sd) (m : Int) : Option Int := flo (wetAny s (dryL s m)) m (lastM s.table - m).toNat
def errFlood (s : Sd) (m : Int) : Int := if errAt s m = 0 then (if floodT s m = none then 6 else 0) else errAt s m
def floodV (s : Sd) (m : Int) : Int × List Int := if errAt s m = 0 then (match floodT s m with | some t => (t, (dryL s m).filter fun p => st s t p.toNat != 0) | none => (0, [])) else (0, [])

theorem en_flood1 : Enters Tryz.prog 64 := enters_of Tryz.func64 (by kernel_rfl) rfl
theorem en_flood2 : Enters Tryz.prog 68 := enters_of Tryz.func68 (by kernel_rfl) rfl
theorem mem_allP {s : Sd} {x : Int} (h : x ∈ allP s) : ∃ p : Nat, x = p ∧ p < s.floors.length := by
  unfold allP at h
  obtain ⟨p, hp, rfl⟩ := List.mem_map.1 h
  exact ⟨p, rfl, List.mem_range.1 hp⟩
section
variable {pT pF pS : Option Addr} {cT cF cS : Nat}
set_option maxRecDepth 100000 in
set_option maxHeartbeats 1000000 in
theorem flood1_c (bw b7 b3 : Nat) (s : Sd) (m : Int) (p : Nat) (w : World) (hw : IsWork w bw s pT pF pS cT cF cS) (ok : Ok s) (hm : firstM s.table ≤ m) (hp : p < 8) (c7 : w.cell? ⟨b7, 0, none⟩ = some (.pointer (some ⟨bw, 0, none⟩))) (c3 : w.cell? ⟨b3, 0, none⟩ = some (.int .i64 m)) :
    Calls Tryz.prog 64 #[.int .i64 p, .pointer (some ⟨b7, 0, none⟩), .pointer (some ⟨b3, 0, none⟩)] w fun e w' => e = .returned (.bool (st s m p == 0)) ∧ Up w w' := by
  have HS := Lib.hid (fun W (u : Up w W) => state_c bw s m p W (hw.up u) ok hm hp)
  clear hw ok
  go_enter Tryz.func64, Tryz.ntmps64
  go_wp2_with fail
  refine (HS.out _ (Below.refl _ _)).mono ?_
  rintro e w1 ⟨rfl, u1⟩
  have U1 := Lib.hid u1
  clear u1
  go_wp2_with fail
  refine (isDry_c (st s m p) w1).mono ?_
  rintro e w2 ⟨rfl, rfl⟩
  go_wp2_with fail
  go_ret
  exact ⟨rfl, U1.out⟩
set_option maxRecDepth 100000 in
set_option maxHeartbeats 1000000 in
theorem flood2_c (bw b7 b3 : Nat) (s : Sd) (m : Int) (p : Nat) (w : World) (hw : IsWork w bw s pT pF pS cT cF cS) (ok : Ok s) (hm : firstM s.table ≤ m) (hp : p < 8) (c7 : w.cell? ⟨b7, 0, none⟩ = some (.pointer (some ⟨bw, 0, none⟩))) (c3 : w.cell? ⟨b3, 0, none⟩ = some (.int .i64 m)) :
    Calls Tryz.prog 68 #[.int .i64 p, .pointer (some ⟨b7, 0, none⟩), .pointer (some ⟨b3, 0, none⟩)] w fun e w' => e = .returned (.bool (st s m p != 0)) ∧ Up w w' := by
  have HS := Lib.hid (fun W (u : Up w W) => state_c bw s m p W (hw.up u) ok hm hp)
  clear hw ok
  go_enter Tryz.func68, Tryz.ntmps68
  go_wp2_with fail
  refine (HS.out _ (Below.refl _ _)).mono ?_
  rintro e w1 ⟨rfl, u1⟩
  have U1 := Lib.hid u1
  clear u1
  go_wp2_with fail
  refine (isDry_c (st s m p) w1).mono ?_
  rintro e w2 ⟨rfl, rfl⟩
  go_wp2_with fail
  go_ret
  exact ⟨rfl, U1.out⟩

set_option maxRecDepth 100000 in
set_option maxHeartbeats 4000000 in
theorem Flood_c (s : Sd) (m : Int) (w : World) (hl : Lists w s pT pF pS cT cF cS) :
    Calls Tryz.prog 21 #[sdVal s pT pF pS cT cF cS, .int .i64 m] w fun e w' => ∃ q d, e = .returned (.tuple #[.int .i64 (floodV s m).1, .slice q (floodV s m).2.length d, .int .i64 (errFlood s m)]) ∧ Row w' q 1 (ints (floodV s m).2) ∧ Up w w' := by
  have HC := Lib.hid (fun W (u : Up w W) => beginAt_c s m W (hl.up u))
  clear hl
  by_cases hE : errAt s m = 0
  · have hc : chk s = 0 := by
      unfold errAt at hE
      by_cases hk : chk s = 0
      · exact hk
      · rw [if_neg hk] at hE; exact absurd hE hk
    have OK := Lib.hid (chk_ok hc)
    have hd : inDay s m = true := by
      unfold errAt at hE
      rw [if_pos hc] at hE
      cases h : inDay s m
      · rw [h] at hE; cases hE
      · rfl
    have hd2 := inB_true.1 hd
    obtain ⟨ht1, ht2, ht3, ht4⟩ := OK.out.table
    obtain ⟨f0, f1, f2⟩ := firstM_lt OK.out.table
    have f8 := OK.out.fl1
    have HEF : Hid (errFlood s m = if floodT s m = none then 6 else 0) := by show _ = _; unfold errFlood; rw [if_pos hE]
    have HV1 : Hid (floodT s m = none → floodV s m = (0, [])) := fun h => by unfold floodV; rw [if_pos hE, h]
    have HV2 : Hid (∀ t, floodT s m = some t → floodV s m = (t, (dryL s m).filter fun p => st s t p.toNat != 0)) := fun t h => by unfold floodV; rw [if_pos hE, h]
    rw [hE] at HC
    clear hE hc hd
    unfold sdVal at *
    have B3 : Hid (Blk ((w.alloc (.cells #[.slice pT s.table.length cT, .int .i64 s.lo, .int .i64 s.hi, .slice pF s.floors.length cF, .slice pS s.sills.length cS] 28)).alloc (.cells #[.int .i64 m] 3)) (w.heap.size + 1) [.int .i64 m] 3) := Lib.hid (Blk.new' _ [.int .i64 m] _ (by simp))
    have U0 : Hid (Up w ((w.alloc (.cells #[.slice pT s.table.length cT, .int .i64 s.lo, .int .i64 s.hi, .slice pF s.floors.length cF, .slice pS s.sills.length cS] 28)).alloc (.cells #[.int .i64 m] 3))) := Lib.hid (by (repeat (first | exact Below.refl _ _ | (with_reducible refine Below.drewN' ?_ _) | (with_reducible refine Below.drew ?_) | (with_reducible refine Below.setCell ?_ (by first | exact Nat.le_refl _ | omega | (with_reducible (repeat (first | refine sz_alloc ?_ | refine sz_setCell ?_ | refine sz_drew ?_ | refine sz_drewN ?_)); first | exact Nat.le_refl _ | omega) | (simp only [World.size_alloc, World.size_setCell, World.size_drew, size_drewN']; omega)) _) | (with_reducible refine Below.alloc ?_ (by first | exact Nat.le_refl _ | omega | (with_reducible (repeat (first | refine sz_alloc ?_ | refine sz_setCell ?_ | refine sz_drew ?_ | refine sz_drewN ?_)); first | exact Nat.le_refl _ | omega) | (simp only [World.size_alloc, World.size_setCell, World.size_drew, size_drewN']; omega)) _) | assumption)))
    have HC0 := Lib.hid (HC.out _ U0.out)
    clear HC
    go_enter Tryz.func21, Tryz.ntmps21
    go_wp2_with fail
    go_step3
    go_wp2_with fail
    refine HC0.out.mono ?_
    rintro e w1 ⟨p, rfl, u1, hok⟩
    obtain ⟨bw, rfl, hW⟩ := hok rfl
    have U1 := Lib.hid (Up.trans U0.out u1)
    have B31 := Lib.hid (B3.out.up u1)
    have HW := Lib.hid hW
    clear hok hW u1 B3 U0 HC0
    go_wp2_with fail
    refine Calls.world ?_
    intro w2 hw2
    have b7 : Blk w2 w1.heap.size [.pointer (some ⟨bw, 0, none⟩)] 106 := by
      rw [hw2]
      first
        | exact Blk.new w1 [.pointer (some ⟨bw, 0, none⟩)] _
        | exact (Blk.new w1 [.pointer none] _).set 0 _
    have u2 : Up w1 w2 := by rw [hw2]; (repeat (first | exact Below.refl _ _ | (with_reducible refine Below.drewN' ?_ _) | (with_reducible refine Below.drew ?_) | (with_reducible refine Below.setCell ?_ (by first | exact Nat.le_refl _ | omega | (with_reducible (repeat (first | refine sz_alloc ?_ | refine sz_setCell ?_ | refine sz_drew ?_ | refine sz_drewN ?_)); first | exact Nat.le_refl _ | omega) | (simp only [World.size_alloc, World.size_setCell, World.size_drew, size_drewN']; omega)) _) | (with_reducible refine Below.alloc ?_ (by first | exact Nat.le_refl _ | omega | (with_reducible (repeat (first | refine sz_alloc ?_ | refine sz_setCell ?_ | refine sz_drew ?_ | refine sz_drewN ?_)); first | exact Nat.le_refl _ | omega) | (simp only [World.size_alloc, World.size_setCell, World.size_drew, size_drewN']; omega)) _) | assumption))
    have B7 := Lib.hid b7
    have U2 := Lib.hid u2
    have B32 := Lib.hid (B31.out.up u2)
    clear hw2 b7 u2 B31
    refine (allPlaces_c bw s w2 (HW.out.up U2.out) f8).mono ?_
    rintro e w3 ⟨q0, d0, rfl, -, -, r0, u⟩
    have U3 := Lib.hid (Up.trans U2.out u)
    have B73 := Lib.hid (B7.out.up u)
    have B33 := Lib.hid (B32.out.up u)
    have R0 := Lib.hid r0
    clear u r0 U2 B7 B32
    go_wp2_with fail
    refine (those_c 64 #[] #[.pointer (some ⟨w1.heap.size, 0, none⟩), .pointer (some ⟨w.heap.size + 1, 0, none⟩)] q0 d0 (allP s) (fun p => st s m p.toNat == 0) w3 R0.out (by rw [allP_len]; omega) en_flood1 (fun y hy W u => by
      obtain ⟨p, rfl, hp⟩ := mem_allP hy
      have k := flood1_c bw w1.heap.size (w.heap.size + 1) s m p W (HW.out.up (Up.trans U3.out u)) OK.out hd2.1 (by omega) ((B73.out.up u).cell 0) ((B33.out.up u).cell 0)
      exact k)).mono ?_
    rintro e w4 ⟨q1, d1, rfl, -, -, r1, u⟩
    have U4 := Lib.hid (Up.trans U3.out u)
    have B74 := Lib.hid (B73.out.up u)
    have B34 := Lib.hid (B33.out.up u)
    have R1 : Hid (Row w4 q1 1 (ints (dryL s m))) := r1
    rw [show (allP s).filter (fun p => st s m p.toNat == 0) = dryL s m from rfl]
    have HDm : Hid (∀ y ∈ dryL s m, ∃ p : Nat, y = p ∧ p < s.floors.length) := fun y hy => mem_allP (List.mem_filter.1 hy).1
    have HDl : (dryL s m).length ≤ 8 := Nat.le_trans (List.length_filter_le _ _) (by rw [allP_len]; exact f8)
    have HFT : Hid (floodT s m = flo (wetAny s (dryL s m)) m (lastM s.table - m).toNat) := rfl
    clear u r1 U3 B73 B33 R0
    generalize dryL s m = D at *
    have c34 := B34.out.cell 0
    have c74 := B74.out.cell 0
    have l34 := B34.out.lt
    simp only [List.getElem?_cons_zero] at c34 c74
    go_upto_region 6 with fail
    refine Code.wp_world ?_
    intro w5 hw5
    have b10 : Blk w5 w4.heap.size [.int .i64 m] 3 := by
      rw [hw5]
      first
        | exact Blk.new w4 [.int .i64 m] _
        | exact (Blk.new w4 [.int .i64 0] _).set 0 _
    have u5 : Up w4 w5 := by rw [hw5]; (repeat (first | exact Below.refl _ _ | (with_reducible refine Below.drewN' ?_ _) | (with_reducible refine Below.drew ?_) | (with_reducible refine Below.setCell ?_ (by first | exact Nat.le_refl _ | omega | (with_reducible (repeat (first | refine sz_alloc ?_ | refine sz_setCell ?_ | refine sz_drew ?_ | refine sz_drewN ?_)); first | exact Nat.le_refl _ | omega) | (simp only [World.size_alloc, World.size_setCell, World.size_drew, size_drewN']; omega)) _) | (with_reducible refine Below.alloc ?_ (by first | exact Nat.le_refl _ | omega | (with_reducible (repeat (first | refine sz_alloc ?_ | refine sz_setCell ?_ | refine sz_drew ?_ | refine sz_drewN ?_)); first | exact Nat.le_refl _ | omega) | (simp only [World.size_alloc, World.size_setCell, World.size_drew, size_drewN']; omega)) _) | assumption))
    have U5 := Lib.hid (Up.trans U4.out u5)
    have c7 := (B74.out.up u5).cell 0
    have c3 := (B34.out.up u5).cell 0
    simp only [List.getElem?_cons_zero] at c7 c3
    have V5 := Lib.hid u5
    have B10 := Lib.hid b10
    clear hw5 u5 b10 c34 c74 l34
    have s1 : IntKind.i64.wrap (lastM s.table - m) = lastM s.table - m := IntWalk.i64_in _ (by omega)
    go_step3
    go_upto_region 6 with fail
    refine region_tail (fun W' => W'.cell? ⟨w1.heap.size, 0, none⟩ = some (.pointer (some ⟨bw, 0, none⟩)) ∧ W'.cell? ⟨w.heap.size + 1, 0, none⟩ = some (.int .i64 m)) 5 mixed (by kernel_rfl) ⟨c7, c3⟩ (fun hHeld => ?_)
    refine wpAnyG_take 0 28 (v := ?_) rfl rfl (by kernel_rfl) (fun _ _ _ h => h) (Or.inl ⟨by rfl, ?_⟩) (by assumption) ?_
    rotate_left
    · (intro w' hSw; (try dsimp only at hSw); go_split_ands; go_simp; try with_reducible rfl)
    try simp only [List.setIfInBounds_toArray, List.set_cons_zero, List.set_cons_succ]
    refine wpAnyG_take 2 30 (v := ?_) rfl rfl (by kernel_rfl) (fun _ _ _ h => h) (Or.inl ⟨by rfl, ?_⟩) (by assumption) ?_
    rotate_left
    · (intro w' hSw; (try dsimp only at hSw); go_split_ands; go_simp; try with_reducible rfl)
    try simp only [List.setIfInBounds_toArray, List.set_cons_zero, List.set_cons_succ]
    refine wpAnyG_take 4 32 (v := ?_) rfl rfl (by kernel_rfl) (fun _ _ _ h => h) (Or.inl ⟨by rfl, ?_⟩) (by assumption) ?_
    rotate_left
    · (intro w' hSw; (try dsimp only at hSw); go_split_ands; go_simp; try with_reducible rfl)
    try simp only [List.setIfInBounds_toArray, List.set_cons_zero, List.set_cons_succ]
    refine wpAnyG_do 1 rfl (by kernel_rfl) (fun K hK => ?_)
    rw [if_pos (by rfl)]
    go_simp
    refine (last_c bw s _ (HW.out.sands.up (Up.trans U5.out (Below.refl _ _).drew)) ht3 ht4).mono ?_
    rintro e w6 ⟨rfl, v6⟩
    have v6' : Up w5 w6 := Up.trans ((Below.refl _ _).drew) v6
    refine hK.out _ _ ⟨v6'.cellAt c7, v6'.cellAt c3⟩ (fun hHeld => ?_)
    clear hK K
    refine wpAnyG_take 3 31 (v := ?_) rfl rfl (by kernel_rfl) (fun _ _ _ h => h) (Or.inl ⟨by rfl, ?_⟩) (by assumption) ?_
    rotate_left
    · (intro w' hSw; (try dsimp only at hSw); go_split_ands; go_simp; try with_reducible rfl)
    try simp only [List.setIfInBounds_toArray, List.set_cons_zero, List.set_cons_succ]
    refine wpAnyG_tail (by kernel_rfl) ?_
    change wpList _ _ _ [] _ _
    have V6 := Lib.hid (Up.trans V5.out v6')
    have B106 := Lib.hid (B10.out.up v6')
    clear hHeld c7 c3 v6 v6' V5 B10 U5
    obtain ⟨N, hN⟩ := Int.eq_ofNat_of_zero_le (show 0 ≤ lastM s.table - m by omega)
    rw [show (lastM s.table - m).toNat = N by omega] at HFT
    rw [hN]
    have hlast : m + N ≤ 2000 := by omega
    have hfm := hd2.1
    clear s1 hN
    go_upto_block 0 with fail
    go_cut [11] (fun fl wx => ∃ t : Int, ((fl = .bool true ∧ flo (wetAny s D) m N = some t) ∨ (fl = .bool false ∧ flo (wetAny s D) m N = none)) ∧ firstM s.table ≤ t ∧ Blk wx w4.heap.size [.int .i64 t] 3 ∧ Up w4 wx)
    case first =>
      go_wp2_with fail
      go_loopw [11, 13, 32] (fun fl _ i wr => ∃ j : Nat, j ≤ N ∧ fl = .bool false ∧ i = .int .i64 j ∧ flo (wetAny s D) m N = flo (wetAny s D) (m + j) (N - j) ∧ Blk wr w4.heap.size [.int .i64 (m + j)] 3 ∧ Up w4 wr) (fun _ _ i _ => N - (intOf i).toNat)
      case atStart => exact ⟨0, Nat.zero_le _, rfl, rfl, by simp, by simpa using B106.out, V6.out⟩
      case round =>
        obtain ⟨j, hj, rfl, rfl, hf, hb, hu⟩ := hrel
        have HFj := Lib.hid hf
        have HB := Lib.hid hb
        have HU := Lib.hid hu
        clear hf hb hu
        by_cases hlt : j < N
        · have j1 : (j : Int) < (N : Int) := by omega
          have c10 := HB.out.cell 0
          have f10 := HB.out.free
          have l10 := HB.out.lt
          simp only [List.getElem?_cons_zero] at c10
          have s2 : IntKind.i64.wrap (m + (j : Int) + 1) = m + (j : Int) + 1 := IntWalk.i64_in _ (by omega)
          have HB2 : Hid (Blk (wr.setCell ⟨w4.heap.size, 0, none⟩ (.int .i64 (m + (j : Int) + 1))) w4.heap.size [.int .i64 (m + (j : Int) + 1)] 3) := HB.out.set 0 _
          have HU2 : Hid (Up w4 (wr.setCell ⟨w4.heap.size, 0, none⟩ (.int .i64 (m + (j : Int) + 1)))) := HU.out.setCell (by simp) _
          have HFs : Hid (flo (wetAny s D) (m + j) (N - j) = if wetAny s D (m + j + 1) = true then some (m + j + 1) else flo (wetAny s D) (m + j + 1) (N - (j + 1))) := by
            show _ = _
            rw [show N - j = (N - (j + 1)) + 1 by omega]
            rfl
          have ht0 : firstM s.table ≤ m + (j : Int) + 1 := by omega
          have j2 : ((j + 1 : Nat) : Int) = (j : Int) + 1 := by omega
          have HMJ := Lib.hid (show m + ((j + 1 : Nat) : Int) = m + (j : Int) + 1 by omega)
          clear HB HU
          go_wp2_with fail
          clear c10 f10 l10 s2
          generalize m + (j : Int) + 1 = t at *
          go_loopw [11, 13, 38] (fun fl _ i wx => ∃ k : Nat, k ≤ D.length ∧ fl = .bool false ∧ i = .int .i64 k ∧ (D.take k).any (fun p => st s t p.toNat != 0) = false ∧ Blk wx w4.heap.size [.int .i64 t] 3 ∧ Up w4 wx) (fun _ _ i _ => D.length - (intOf i).toNat)
          case atStart => exact ⟨0, Nat.zero_le _, rfl, rfl, rfl, HB2.out, HU2.out⟩
          case round =>
            obtain ⟨k, hk, rfl, rfl, ha, hb, hu⟩ := hrel
            have HA := Lib.hid ha
            have HB := Lib.hid hb
            have HU := Lib.hid hu
            clear ha hb
            by_cases hkl : k < D.length
            · obtain ⟨b, off, rfl, d0⟩ := (R1.out.up hu).int k hkl
              obtain ⟨p, hp, hp8⟩ := HDm.out D[k] (List.getElem_mem hkl)
              have HT := Lib.hid (show D.take (k + 1) = D.take k ++ [D[k]] from List.take_succ_eq_append_getElem hkl)
              have HM := Lib.hid (List.getElem_mem hkl)
              generalize D[k] = y at *
              subst hp
              have k1 : (k : Int) < (D.length : Int) := by omega
              have c7 := (B74.out.up hu).cell 0
              have c10 := HB.out.cell 0
              simp only [List.getElem?_cons_zero] at c7 c10
              clear hu
              go_wp2_with fail
              refine (state_c bw s t p _ (HW.out.up (Up.trans U4.out HU.out)) OK.out ht0 (by omega)).mono ?_
              rintro e w7 ⟨rfl, u⟩
              have U7 := Lib.hid (Up.trans HU.out u)
              have B7x := Lib.hid (HB.out.up u)
              clear u HU HB c7 c10 d0
              go_wp2_with fail
              refine (isDry_c (st s t p) w7).mono ?_
              rintro e w8 ⟨he, rfl⟩
              by_cases hs : st s t p = 0
              · rw [show (st s t p == 0) = true by rw [hs]; rfl] at he
                subst he
                have HS := Lib.hid hs
                clear hs
                go_wp2_with fail
                go_roundw
                case rel =>
                  try ((repeat apply Exists.intro); refine ⟨?_, rfl⟩)
                  refine ⟨k + 1, hkl, rfl, by go_num, ?_, B7x.out, U7.out⟩
                  rw [HT.out, List.any_append, HA.out]
                  simp [HS.out]
                case measure => simp [intOf]; omega
              · rw [show (st s t p == 0) = false from beq_eq_false_iff_ne.2 hs] at he
                subst he
                have HX : Hid (flo (wetAny s D) m N = some t) := by
                  show _ = _
                  rw [HFj.out, HFs.out, if_pos]
                  unfold wetAny
                  rw [List.any_eq_true]
                  exact ⟨_, HM.out, by rw [Int.toNat_natCast, bne_iff_ne]; exact hs⟩
                clear hs
                go_wp2_with fail
                go_meet
                exact ⟨t, .inl ⟨rfl, HX.out⟩, ht0, B7x.out, U7.out⟩
            · obtain rfl : k = D.length := by omega
              have HX : Hid (flo (wetAny s D) m N = flo (wetAny s D) t (N - (j + 1))) := by
                show _ = _
                rw [HFj.out, HFs.out, if_neg]
                have := HA.out
                rw [List.take_length] at this
                unfold wetAny
                rw [this]
                decide
              clear hu
              go_wp2_with fail
              go_roundw
              case rel =>
                try ((repeat apply Exists.intro); refine ⟨?_, rfl⟩)
                exact ⟨j + 1, hlt, rfl, by go_num, by rw [HMJ.out]; exact HX.out, by rw [HMJ.out]; exact HB.out, HU.out⟩
              case measure => simp [intOf]; omega
        · obtain rfl : j = N := by omega
          have HX : Hid (flo (wetAny s D) m j = none) := by
            show _ = _
            rw [HFj.out, Nat.sub_self]
            rfl
          go_wp2_with fail
          go_meet
          exact ⟨m + j, .inr ⟨rfl, HX.out⟩, by omega, HB.out, HU.out⟩
    case rest =>
      obtain ⟨t, hh, ht0, hb, hu⟩ := hcut
      have HB := Lib.hid hb
      have HU := Lib.hid hu
      clear V6 B106
      generalize wc = w6 at *
      rcases hh with ⟨rfl, hfl⟩ | ⟨rfl, hfl⟩
      · have hft : floodT s m = some t := HFT.out.trans hfl
        have HX : Hid (errFlood s m = 0) := by show _ = _; rw [HEF.out, hft]; rfl
        have HY := Lib.hid (HV2.out t hft)
        clear hfl hft hb
        have c7 := (B74.out.up hu).cell 0
        have c10 := HB.out.cell 0
        simp only [List.getElem?_cons_zero] at c7 c10
        have l7 := (B74.out.up hu).lt
        have l10 := HB.out.lt
        clear hu
        go_upto_region 18 with fail
        refine region_tail (fun W' => W'.cell? ⟨w1.heap.size, 0, none⟩ = some (.pointer (some ⟨bw, 0, none⟩)) ∧ W'.cell? ⟨w4.heap.size, 0, none⟩ = some (.int .i64 t)) 7 mixed (by kernel_rfl) ⟨c7, c10⟩ (fun hHeld => ?_)
        refine wpAnyG_take 0 52 (v := ?_) rfl rfl (by kernel_rfl) (fun _ _ _ h => h) (Or.inl ⟨by rfl, ?_⟩) (by assumption) ?_
        rotate_left
        · (intro w' hSw; (try dsimp only at hSw); go_split_ands; go_simp; try with_reducible rfl)
        try simp only [List.setIfInBounds_toArray, List.set_cons_zero, List.set_cons_succ]
        refine wpAnyG_take 1 53 (v := ?_) rfl rfl (by kernel_rfl) (fun _ _ _ h => h) (Or.inl ⟨by rfl, ?_⟩) (by assumption) ?_
        rotate_left
        · (intro w' hSw; (try dsimp only at hSw); go_split_ands; go_simp; try with_reducible rfl)
        try simp only [List.setIfInBounds_toArray, List.set_cons_zero, List.set_cons_succ]
        refine wpAnyG_take 2 54 (v := ?_) rfl rfl (by kernel_rfl) (fun _ _ _ h => h) (Or.inl ⟨by rfl, ?_⟩) (by assumption) ?_
        rotate_left
        · (intro w' hSw; (try dsimp only at hSw); go_split_ands; go_simp; try with_reducible rfl)
        try simp only [List.setIfInBounds_toArray, List.set_cons_zero, List.set_cons_succ]
        refine wpAnyG_do 3 rfl (by kernel_rfl) (fun K hK => ?_)
        rw [if_pos (by rfl)]
        go_simp
        refine (those_c 68 #[] #[.pointer (some ⟨w1.heap.size, 0, none⟩), .pointer (some ⟨w4.heap.size, 0, none⟩)] q1 d1 D (fun p => st s t p.toNat != 0) _ (R1.out.up (Up.trans HU.out (Below.refl _ _).drew)) (by omega) en_flood2 (fun y hy W u => by
          obtain ⟨p, rfl, hp⟩ := HDm.out y hy
          have v := Up.trans (Below.refl _ _).drew u
          have k := flood2_c bw w1.heap.size w4.heap.size s t p W (HW.out.up (Up.trans U4.out (Up.trans HU.out v))) OK.out ht0 (by omega) (v.cellAt c7) (v.cellAt c10)
          exact k)).mono ?_
        rintro e w7 ⟨q2, d2, rfl, -, -, r2, v⟩
        have v' : Up w6 w7 := Up.trans ((Below.refl _ _).drew) v
        refine hK.out _ _ ⟨v'.cellAt c7, v'.cellAt c10⟩ (fun hHeld => ?_)
        clear hK K
        refine wpAnyG_take 4 4 (v := ?_) rfl rfl (by kernel_rfl) (fun _ _ _ h => h) (Or.inl ⟨by rfl, ?_⟩) (by assumption) ?_
        rotate_left
        · (intro w' hSw; (try dsimp only at hSw); go_split_ands; go_simp; try with_reducible rfl)
        try simp only [List.setIfInBounds_toArray, List.set_cons_zero, List.set_cons_succ]
        refine wpAnyG_take 5 5 (v := ?_) rfl rfl (by kernel_rfl) (fun _ _ _ h => h) (Or.inl ⟨by rfl, ?_⟩) (by assumption) ?_
        rotate_left
        · (intro w' hSw; (try dsimp only at hSw); go_split_ands; go_simp; try with_reducible rfl)
        try simp only [List.setIfInBounds_toArray, List.set_cons_zero, List.set_cons_succ]
        refine wpAnyG_take 6 6 (v := ?_) rfl rfl (by kernel_rfl) (fun _ _ _ h => h) (Or.inl ⟨by rfl, ?_⟩) (by assumption) ?_
        rotate_left
        · (intro w' hSw; (try dsimp only at hSw); go_split_ands; go_simp; try with_reducible rfl)
        try simp only [List.setIfInBounds_toArray, List.set_cons_zero, List.set_cons_succ]
        refine wpAnyG_tail (by kernel_rfl) ?_
        change wpList _ _ _ [] _ _
        have R2 := Lib.hid r2
        have U7 := Lib.hid (Up.trans U1.out (Up.trans U4.out (Up.trans HU.out v')))
        clear hHeld c7 c10 r2 v v'
        go_wp2_with fail
        try rw [Exit.noGoto_ret]
        refine bodyPost_ret (v := .tuple #[.int .i64 t, .slice q2 (D.filter fun p => st s t p.toNat != 0).length d2, .int .i64 0]) (by simp [results, Tryz.f21, go_sem]) rfl ?_
        rw [HX.out, HY.out]
        exact ⟨q2, d2, rfl, R2.out, U7.out⟩
      · have hft : floodT s m = none := HFT.out.trans hfl
        have HX : Hid (errFlood s m = 6) := by show _ = _; rw [HEF.out, hft]; rfl
        have HY := Lib.hid (HV1.out hft)
        clear hfl hft hb hu
        go_wp2_with fail
        try rw [Exit.noGoto_ret]
        refine bodyPost_ret (v := .tuple #[.int .i64 0, .slice none 0 0, .int .i64 6]) (by simp [results, Tryz.f21, go_sem]) rfl ?_
        rw [HX.out, HY.out]
        exact ⟨none, 0, rfl, Row.nil _ _ _, Up.trans U1.out (Up.trans U4.out HU.out)⟩
  · have hne : (errAt s m != 0) = true := by rw [bne_iff_ne]; exact hE
    have HX : Hid (errFlood s m = errAt s m) := by show _ = _; unfold errFlood; rw [if_neg hE]
    have HY : Hid (floodV s m = (0, [])) := by show _ = _; unfold floodV; rw [if_neg hE]
    clear hE
    unfold sdVal at *
    have U0 : Hid (Up w ((w.alloc (.cells #[.slice pT s.table.length cT, .int .i64 s.lo, .int .i64 s.hi, .slice pF s.floors.length cF, .slice pS s.sills.length cS] 28)).alloc (.cells #[.int .i64 m] 3))) := Lib.hid (by (repeat (first | exact Below.refl _ _ | (with_reducible refine Below.drewN' ?_ _) | (with_reducible refine Below.drew ?_) | (with_reducible refine Below.setCell ?_ (by first | exact Nat.le_refl _ | omega | (with_reducible (repeat (first | refine sz_alloc ?_ | refine sz_setCell ?_ | refine sz_drew ?_ | refine sz_drewN ?_)); first | exact Nat.le_refl _ | omega) | (simp only [World.size_alloc, World.size_setCell, World.size_drew, size_drewN']; omega)) _) | (with_reducible refine Below.alloc ?_ (by first | exact Nat.le_refl _ | omega | (with_reducible (repeat (first | refine sz_alloc ?_ | refine sz_setCell ?_ | refine sz_drew ?_ | refine sz_drewN ?_)); first | exact Nat.le_refl _ | omega) | (simp only [World.size_alloc, World.size_setCell, World.size_drew, size_drewN']; omega)) _) | assumption)))
    have HC0 := Lib.hid (HC.out _ U0.out)
    clear HC
    go_enter Tryz.func21, Tryz.ntmps21
    go_wp2_with fail
    go_step3
    go_wp2_with fail
    refine HC0.out.mono ?_
    rintro e w1 ⟨p, rfl, u1, -⟩
    have U1 := Lib.hid (Up.trans U0.out u1)
    clear u1 U0 HC0
    go_wp2_with fail
    try rw [Exit.noGoto_ret]
    refine bodyPost_ret (v := .tuple #[.int .i64 0, .slice none 0 0, .int .i64 (errAt s m)]) (by simp [results, Tryz.f21, go_sem]) rfl ?_
    rw [HX.out, HY.out]
    exact ⟨none, 0, rfl, Row.nil _ _ _, Up.trans U1.out (by (repeat (first | exact Below.refl _ _ | (with_reducible refine Below.drewN' ?_ _) | (with_reducible refine Below.drew ?_) | (with_reducible refine Below.setCell ?_ (by first | exact Nat.le_refl _ | omega | (with_reducible (repeat (first | refine sz_alloc ?_ | refine sz_setCell ?_ | refine sz_drew ?_ | refine sz_drewN ?_)); first | exact Nat.le_refl _ | omega) | (simp only [World.size_alloc, World.size_setCell, World.size_drew, size_drewN']; omega)) _) | (with_reducible refine Below.alloc ?_ (by first | exact Nat.le_refl _ | omega | (with_reducible (repeat (first | refine sz_alloc ?_ | refine sz_setCell ?_ | refine sz_drew ?_ | refine sz_drewN ?_)); first | exact Nat.le_refl _ | omega) | (simp only [World.size_alloc, World.size_setCell, World.size_drew, size_drewN']; omega)) _) | assumption)))⟩
end
end Go.Proofs.YtknaajofcbenaaaGreat
/- Plain facts: the lowering of gates as a row of updates; gates of raised sands, and of sands with one sill more. -/
namespace Go.Proofs.YtknaajofcbenaaaGreat
section
open Go.RowKit

/-- what a sill lowers that leads on from a place: which gate, and to what at most -/
def up1 (F : List Int) (f : Int) (x : Int × Int × Int) : Option (Nat × Int) :=
  if 0 ≤ other x f ∧ (other x f).toNat < F.length then some ((other x f).toNat, grt [x.2.2, F[(other x f).toNat]?.getD 0]) else none
def ap1 (g : List Int) (u : Nat × Int) : List Int := g.set u.1 (min (g[u.1]?.getD 0) u.2)
def ap2 (f : Nat) (g : List Int) (u : Nat × Int) : List Int := g.set u.1 (min (g[u.1]?.getD 0) (grt [g[f]?.getD 0, u.2]))

/-- a lead as an update -/
def ofLead (s : Sd) (x : Lead s.sills.length s.floors.length) : Nat × Int := (x.1.2, grt [(s.sills[x.1.1]'x.2.1).2.2, s.floors[x.1.2]'x.2.2])
theorem lead1_up (s : Sd) (f : Int) (i : Nat) : (lead1 s.sills s.floors.length f i).map (ofLead s) = if i < s.sills.length then up1 s.floors f (s.sills[i]?.getD (0, 0, 0)) else none := by
  unfold lead1 up1
  by_cases hi : i < s.sills.length
  · rw [if_pos hi]
    have e : s.sills[i] = s.sills[i]?.getD (0, 0, 0) := by rw [List.getElem?_eq_getElem hi]; rfl
    by_cases h : 0 ≤ other (s.sills[i]?.getD (0, 0, 0)) f ∧ (other (s.sills[i]?.getD (0, 0, 0)) f).toNat < s.floors.length
    · rw [dif_pos ⟨hi, h⟩, if_pos h]
      simp only [Option.map_some, ofLead]
      rw [e, List.getElem?_eq_getElem h.2, Option.getD_some]
    · rw [dif_neg (fun h' => h h'.2), if_neg h]; rfl
  · rw [if_neg hi, dif_neg (fun h' => hi h'.1)]; rfl
theorem fm_congr {α β : Type} {l : List α} {f g : α → Option β} (h : ∀ x ∈ l, f x = g x) : l.filterMap f = l.filterMap g := by
  induction l with
  | nil => rfl
  | cons a r ih => rw [List.filterMap_cons, List.filterMap_cons, h a (by simp), ih (fun x hx => h x (by simp [hx]))]
theorem filterMap_range {α β : Type} (l : List α) (d : α) (q : α → Option β) : (List.range l.length).filterMap (fun i => if i < l.length then q (l[i]?.getD d) else none) = l.filterMap q := by
  have e : l = (List.range l.length).map (fun i => l[i]?.getD d) := by
    apply List.ext_getElem
    · simp
    · intro i h1 h2; simp [List.getElem?_eq_getElem h1]
  conv => rhs; rw [e]
  rw [List.filterMap_map]
  apply fm_congr
  intro i hi
  rw [List.mem_range] at hi
  simp [hi]
theorem leads_up (s : Sd) (f : Int) : (leads s.sills s.floors.length f s.sills.length).map (ofLead s) = s.sills.filterMap (up1 s.floors f) := by
  unfold leads
  rw [List.map_filterMap, ← filterMap_range s.sills (0, 0, 0)]
  apply fm_congr
  intro i _
  exact lead1_up s f i
theorem lowSea_up (s : Sd) (g : List Int) : lowSea s g = (s.sills.filterMap (up1 s.floors (-1))).foldl ap1 g := by
  unfold lowSea
  rw [← leads_up, List.foldl_map]
  rfl
theorem lowFrom_up (s : Sd) (f : Nat) (g : List Int) : lowFrom s g f = (s.sills.filterMap (up1 s.floors f)).foldl (ap2 f) g := by
  unfold lowFrom
  rw [← leads_up, List.foldl_map]
  rfl

theorem grt2 (a b : Int) : grt [a, b] = max (max 0 a) b := rfl

/-- gates that are as low, or lower -/
def Leq (g g' : List Int) : Prop := g.length = g'.length ∧ ∀ i : Nat, g[i]?.getD 0 ≤ g'[i]?.getD 0 ∧ (g[i]?.getD 0 < 1050 → g'[i]?.getD 0 < 1050)
theorem Leq.refl (g : List Int) : Leq g g := ⟨rfl, fun _ => ⟨Int.le_refl _, id⟩⟩
theorem Leq.set {a b : List Int} (h : Leq a b) (t : Nat) {c d : Int} (hc : c ≤ d) (hd : c < 1050 → d < 1050) : Leq (a.set t (min (a[t]?.getD 0) c)) (b.set t (min (b[t]?.getD 0) d)) := by
  refine ⟨by simp [h.1], fun i => ?_⟩
  have h1 := h.2 i
  have h0 := h.1
  rw [List.getElem?_set, List.getElem?_set]
  by_cases hi : t = i
  · subst hi
    by_cases hl : t < a.length
    · have hl' : t < b.length := by omega
      simp only [if_true, hl, hl', Option.getD_some]
      omega
    · have hl' : ¬ t < b.length := by omega
      simp [hl, hl']
  · rw [if_neg hi, if_neg hi]; exact h1

/-- sills of which some are higher, and floors -/
inductive HiS : List (Int × Int × Int) → List (Int × Int × Int) → Prop
  | nil : HiS [] []
  | cons {a b h h' : Int} {r r' : List (Int × Int × Int)} : h ≤ h' → h' ≤ 999 → HiS r r' → HiS ((a, b, h) :: r) ((a, b, h') :: r')
def HiF (F F' : List Int) : Prop := F.length = F'.length ∧ ∀ i : Nat, F[i]?.getD 0 ≤ F'[i]?.getD 0 ∧ F'[i]?.getD 0 ≤ 999
theorem HiS.refl : ∀ {l : List (Int × Int × Int)}, (∀ x ∈ l, x.2.2 ≤ 999) → HiS l l
  | [], _ => .nil
  | (a, b, h) :: r, k => .cons (Int.le_refl _) (k (a, b, h) (by simp)) (HiS.refl (fun x hx => k x (by simp [hx])))
theorem HiS.at : ∀ {l : List (Int × Int × Int)} (i : Nat) (d : Int) (hi : i < l.length), 0 ≤ d → (∀ x ∈ l, x.2.2 ≤ 999) → l[i].2.2 + d ≤ 999 → HiS l (l.set i (l[i].1, l[i].2.1, l[i].2.2 + d))
  | (a, b, h) :: r, 0, d, _, h0, k, k9 => .cons (show h ≤ h + d by omega) k9 (HiS.refl (fun x hx => k x (by simp [hx])))
  | (a, b, h) :: r, i + 1, d, hi, h0, k, k9 => by
    have hi' : i < r.length := by simpa using hi
    exact .cons (Int.le_refl _) (k (a, b, h) (by simp)) (HiS.at i d hi' h0 (fun x hx => k x (by simp [hx])) (by simpa using k9))
theorem HiF.refl {F : List Int} (h : ∀ x ∈ F, x ≤ 999) : HiF F F := ⟨rfl, fun i => ⟨Int.le_refl _, by
  by_cases hi : i < F.length
  · rw [List.getElem?_eq_getElem hi]; exact h _ (List.getElem_mem _)
  · rw [List.getElem?_eq_none (by omega)]; decide⟩⟩
theorem HiF.at {F : List Int} (i : Nat) (d : Int) (hi : i < F.length) (d0 : 0 ≤ d) (h : ∀ x ∈ F, x ≤ 999) (h9 : F[i] + d ≤ 999) : HiF F (F.set i (F[i] + d)) := by
  refine ⟨by simp, fun j => ?_⟩
  have k := (HiF.refl h).2 j
  rw [List.getElem?_set]
  by_cases hj : i = j
  · subst hj
    rw [if_pos rfl, if_pos hi, List.getElem?_eq_getElem hi]
    simp only [Option.getD_some]
    omega
  · rw [if_neg hj]; exact k

theorem hi_ap1 {F F' : List Int} (hF : HiF F F') (f : Int) {l l' : List (Int × Int × Int)} (hS : HiS l l') : ∀ {g g' : List Int}, Leq g g' → Leq ((l.filterMap (up1 F f)).foldl ap1 g) ((l'.filterMap (up1 F' f)).foldl ap1 g') := by
  induction hS with
  | nil => exact fun h => h
  | @cons a b h h' r r' hh h9 _ ih =>
    intro g g' hg
    have eo : other (a, b, h') f = other (a, b, h) f := rfl
    by_cases hc : 0 ≤ other (a, b, h) f ∧ (other (a, b, h) f).toNat < F.length
    · have e1 : up1 F f (a, b, h) = some ((other (a, b, h) f).toNat, grt [h, F[(other (a, b, h) f).toNat]?.getD 0]) := if_pos hc
      have e2 : up1 F' f (a, b, h') = some ((other (a, b, h) f).toNat, grt [h', F'[(other (a, b, h) f).toNat]?.getD 0]) := if_pos (by rw [← hF.1]; exact hc)
      rw [List.filterMap_cons_some e1, List.filterMap_cons_some e2, List.foldl_cons, List.foldl_cons]
      refine ih (hg.set _ ?_ ?_)
      · have := hF.2 (other (a, b, h) f).toNat
        simp only [grt2]; omega
      · have := hF.2 (other (a, b, h) f).toNat
        simp only [grt2]; omega
    · have e1 : up1 F f (a, b, h) = none := if_neg hc
      have e2 : up1 F' f (a, b, h') = none := if_neg (by rw [← hF.1]; exact hc)
      rw [List.filterMap_cons_none e1, List.filterMap_cons_none e2]
      exact ih hg
theorem hi_ap2 {F F' : List Int} (hF : HiF F F') (f : Nat) {l l' : List (Int × Int × Int)} (hS : HiS l l') : ∀ {g g' : List Int}, Leq g g' → Leq ((l.filterMap (up1 F f)).foldl (ap2 f) g) ((l'.filterMap (up1 F' f)).foldl (ap2 f) g') := by
  induction hS with
  | nil => exact fun h => h
  | @cons a b h h' r r' hh h9 _ ih =>
    intro g g' hg
    have eo : other (a, b, h') f = other (a, b, h) f := rfl
    by_cases hc : 0 ≤ other (a, b, h) f ∧ (other (a, b, h) f).toNat < F.length
    · have e1 : up1 F f (a, b, h) = some ((other (a, b, h) f).toNat, grt [h, F[(other (a, b, h) f).toNat]?.getD 0]) := if_pos hc
      have e2 : up1 F' f (a, b, h') = some ((other (a, b, h) f).toNat, grt [h', F'[(other (a, b, h) f).toNat]?.getD 0]) := if_pos (by rw [← hF.1]; exact hc)
      rw [List.filterMap_cons_some e1, List.filterMap_cons_some e2, List.foldl_cons, List.foldl_cons]
      have h1 := hF.2 (other (a, b, h) f).toNat
      have h2 := hg.2 f
      refine ih (hg.set _ ?_ ?_)
      · simp only [grt2]; omega
      · simp only [grt2]; omega
    · have e1 : up1 F f (a, b, h) = none := if_neg hc
      have e2 : up1 F' f (a, b, h') = none := if_neg (by rw [← hF.1]; exact hc)
      rw [List.filterMap_cons_none e1, List.filterMap_cons_none e2]
      exact ih hg
theorem hi_lowered {s t : Sd} (hF : HiF s.floors t.floors) (hS : HiS s.sills t.sills) {g g' : List Int} (hg : Leq g g') : Leq (lowered s g) (lowered t g') := by
  unfold lowered
  rw [← hF.1]
  have h0 : Leq (lowSea s g) (lowSea t g') := by rw [lowSea_up, lowSea_up]; exact hi_ap1 hF _ hS hg
  generalize lowSea s g = a at *
  generalize lowSea t g' = b at *
  generalize List.range s.floors.length = l
  induction l generalizing a b with
  | nil => exact h0
  | cons x r ih =>
    refine ih _ _ ?_
    rw [lowFrom_up, lowFrom_up]
    exact hi_ap2 hF _ hS h0

/-- lowered so many times -/
def iterG (s : Sd) : Nat → List Int → List Int
  | 0, g => g
  | n + 1, g => iterG s n (lowered s g)
theorem iterG_fix {s : Sd} {g : List Int} (h : lowered s g = g) : ∀ n, iterG s n g = g
  | 0 => rfl
  | n + 1 => by unfold iterG; rw [h]; exact iterG_fix h n
theorem fixG_iter (s : Sd) : ∀ n g, fixG s n g = iterG s n g
  | 0, g => rfl
  | n + 1, g => by
    unfold fixG
    split
    · next h => exact (iterG_fix h (n + 1)).symm
    · exact fixG_iter s n _
theorem hi_iter {s t : Sd} (hF : HiF s.floors t.floors) (hS : HiS s.sills t.sills) : ∀ n {g g' : List Int}, Leq g g' → Leq (iterG s n g) (iterG t n g')
  | 0, _, _, h => h
  | n + 1, _, _, h => hi_iter hF hS n (hi_lowered hF hS h)
theorem hi_gts {s t : Sd} (hF : HiF s.floors t.floors) (hS : HiS s.sills t.sills) : Leq (gts s) (gts t) := by
  unfold gts
  rw [fixG_iter, fixG_iter]
  exact hi_iter hF hS _ (Leq.refl _)

/-- with one sill more -/
def Geq (g g' : List Int) : Prop := g.length = g'.length ∧ ∀ i : Nat, g'[i]?.getD 0 ≤ g[i]?.getD 0
theorem Geq.set {a b : List Int} (h : Geq a b) (t : Nat) {c d : Int} (hc : d ≤ c) : Geq (a.set t (min (a[t]?.getD 0) c)) (b.set t (min (b[t]?.getD 0) d)) := by
  refine ⟨by simp [h.1], fun i => ?_⟩
  have h1 := h.2 i
  have h0 := h.1
  rw [List.getElem?_set, List.getElem?_set]
  by_cases hi : t = i
  · subst hi
    by_cases hl : t < a.length
    · have hl' : t < b.length := by omega
      simp only [if_true, hl, hl', Option.getD_some]
      omega
    · have hl' : ¬ t < b.length := by omega
      simp [hl, hl']
  · rw [if_neg hi, if_neg hi]; exact h1
theorem Geq.right {a b : List Int} (h : Geq a b) (t : Nat) (d : Int) : Geq a (b.set t (min (b[t]?.getD 0) d)) := by
  refine ⟨by simp [h.1], fun i => ?_⟩
  have h1 := h.2 i
  rw [List.getElem?_set]
  by_cases hi : t = i
  · subst hi
    by_cases hl : t < b.length
    · simp only [if_true, hl, Option.getD_some]
      omega
    · have hl' : ¬ t < a.length := by have := h.1; omega
      simp [hl, hl']
  · rw [if_neg hi]; exact h1
theorem more_ap1 (F : List Int) (f : Int) (l e : List (Int × Int × Int)) {g g' : List Int} (hg : Geq g g') : Geq ((l.filterMap (up1 F f)).foldl ap1 g) (((l ++ e).filterMap (up1 F f)).foldl ap1 g') := by
  rw [List.filterMap_append, List.foldl_append]
  have h0 : Geq ((l.filterMap (up1 F f)).foldl ap1 g) ((l.filterMap (up1 F f)).foldl ap1 g') := by
    generalize l.filterMap (up1 F f) = k
    induction k generalizing g g' with
    | nil => exact hg
    | cons x r ih => exact ih (hg.set _ (Int.le_refl _))
  generalize (l.filterMap (up1 F f)).foldl ap1 g = a at *
  generalize (l.filterMap (up1 F f)).foldl ap1 g' = b at *
  generalize e.filterMap (up1 F f) = k
  induction k generalizing b with
  | nil => exact h0
  | cons x r ih => exact ih _ (h0.right _ _)
theorem more_ap2 (F : List Int) (f : Nat) (l e : List (Int × Int × Int)) {g g' : List Int} (hg : Geq g g') : Geq ((l.filterMap (up1 F f)).foldl (ap2 f) g) (((l ++ e).filterMap (up1 F f)).foldl (ap2 f) g') := by
  rw [List.filterMap_append, List.foldl_append]
  have h0 : Geq ((l.filterMap (up1 F f)).foldl (ap2 f) g) ((l.filterMap (up1 F f)).foldl (ap2 f) g') := by
    generalize l.filterMap (up1 F f) = k
    induction k generalizing g g' with
    | nil => exact hg
    | cons x r ih =>
      refine ih (hg.set _ ?_)
      have := hg.2 f
      simp only [grt2]; omega
  generalize (l.filterMap (up1 F f)).foldl (ap2 f) g = a at *
  generalize (l.filterMap (up1 F f)).foldl (ap2 f) g' = b at *
  generalize e.filterMap (up1 F f) = k
  induction k generalizing b with
  | nil => exact h0
  | cons x r ih => exact ih _ (h0.right _ _)
theorem more_lowered {s t : Sd} {e : List (Int × Int × Int)} (hF : t.floors = s.floors) (hS : t.sills = s.sills ++ e) {g g' : List Int} (hg : Geq g g') : Geq (lowered s g) (lowered t g') := by
  unfold lowered
  rw [hF]
  have h0 : Geq (lowSea s g) (lowSea t g') := by rw [lowSea_up, lowSea_up, hF, hS]; exact more_ap1 _ _ _ _ hg
  generalize lowSea s g = a at *
  generalize lowSea t g' = b at *
  generalize List.range s.floors.length = l
  induction l generalizing a b with
  | nil => exact h0
  | cons x r ih =>
    refine ih _ _ ?_
    rw [lowFrom_up, lowFrom_up, hF, hS]
    exact more_ap2 _ _ _ _ h0
theorem more_iter {s t : Sd} {e : List (Int × Int × Int)} (hF : t.floors = s.floors) (hS : t.sills = s.sills ++ e) : ∀ n {g g' : List Int}, Geq g g' → Geq (iterG s n g) (iterG t n g')
  | 0, _, _, h => h
  | n + 1, _, _, h => more_iter hF hS n (more_lowered hF hS h)
theorem more_gts {s t : Sd} {e : List (Int × Int × Int)} (hF : t.floors = s.floors) (hS : t.sills = s.sills ++ e) : Geq (gts s) (gts t) := by
  unfold gts
  rw [fixG_iter, fixG_iter]
  exact more_iter hF hS _ ⟨rfl, fun _ => Int.le_refl _⟩

/-- no gate is above 1050 -/
theorem iter_less (s : Sd) : ∀ n {g : List Int}, Less top g → Less top (iterG s n g)
  | 0, _, h => h
  | n + 1, g, h => iter_less s n (h.trans (lowered_less s g (fun i => (h.2 i).1)))
theorem gts_le (s : Sd) (p : Nat) : 0 ≤ gateOf s p ∧ gateOf s p ≤ 1050 := by
  have h : Less top (gts s) := by
    unfold gts
    rw [fixG_iter]
    exact iter_less s _ (Less.refl top_nonneg)
  have h1 := h.2 p
  have h2 : top[p]?.getD 0 ≤ 1050 := by
    unfold top
    rw [List.getElem?_replicate]
    split <;> simp
  unfold gateOf
  omega
theorem hasWay_lt (s : Sd) (p : Nat) : hasWayB s p = decide (gateOf s p < 1050) := by
  have hg := gts_le s p
  unfold gateOf at hg ⊢
  unfold hasWayB
  generalize (gts s)[p]?.getD 0 = g at *
  by_cases h : g = 1050
  · subst h; rfl
  · rw [decide_eq_true (show g < 1050 by omega), bne_iff_ne]; exact h

section
variable {s t : Sd}
theorem errFor_in (ok : Ok s) {x : Int} (h : 0 ≤ x ∧ x < s.floors.length) : errFor s x = 0 := by
  unfold errFor
  rw [if_pos (chk_zero ok)]
  have : isPl s x = true := inB_true.2 (by omega)
  rw [this]; rfl
theorem errGate_in (ok : Ok s) {x : Int} (h : 0 ≤ x ∧ x < s.floors.length) : errGate s x = if gateOf s x.toNat < 1050 then 0 else 6 := by
  unfold errGate
  rw [if_pos (errFor_in ok h), hasWay_lt]
  by_cases h : gateOf s x.toNat < 1050 <;> simp [h]
theorem gateV_in (ok : Ok s) {x : Int} (h : 0 ≤ x ∧ x < s.floors.length) : gateV s x = if gateOf s x.toNat < 1050 then gateOf s x.toNat else 0 := by
  unfold gateV
  rw [errGate_in ok h]
  by_cases h : gateOf s x.toNat < 1050 <;> simp [h]
/-- raised: the same errors, no lesser gates, no greater states -/
theorem hi_gate (ok : Ok s) (ok' : Ok t) (hF : HiF s.floors t.floors) (hS : HiS s.sills t.sills) {x : Int} (h : 0 ≤ x ∧ x < s.floors.length) : errGate t x = errGate s x ∧ gateV s x ≤ gateV t x := by
  have h' : 0 ≤ x ∧ x < t.floors.length := by rw [← hF.1]; exact h
  have k := (hi_gts hF hS).2 x.toNat
  rw [errGate_in ok h, errGate_in ok' h', gateV_in ok h, gateV_in ok' h']
  unfold gateOf at *
  by_cases c : (gts s)[x.toNat]?.getD 0 < 1050
  · have c' := k.2 c
    rw [if_pos c, if_pos c', if_pos c, if_pos c']
    exact ⟨rfl, k.1⟩
  · have c' : ¬ (gts t)[x.toNat]?.getD 0 < 1050 := by omega
    rw [if_neg c, if_neg c', if_neg c, if_neg c']
    exact ⟨rfl, Int.le_refl _⟩
theorem hi_st (hF : HiF s.floors t.floors) (hS : HiS s.sills t.sills) (hT : t.table = s.table) (hl : t.lo = s.lo) (hh : t.hi = s.hi) (m : Int) (p : Nat) : st t m p ≤ st s m p := by
  have k := (hi_gts hF hS).2 p
  unfold st gateOf
  rw [hT, hl, hh]
  repeat' split
  all_goals omega
theorem more_gate {e : List (Int × Int × Int)} (ok : Ok s) (ok' : Ok t) (hF : t.floors = s.floors) (hS : t.sills = s.sills ++ e) {x : Int} (h : 0 ≤ x ∧ x < s.floors.length) : errGate s x = 0 → errGate t x = 0 ∧ gateV t x ≤ gateV s x := by
  have h' : 0 ≤ x ∧ x < t.floors.length := by rw [hF]; exact h
  have k := (more_gts hF hS).2 x.toNat
  rw [errGate_in ok h, errGate_in ok' h', gateV_in ok h, gateV_in ok' h']
  unfold gateOf at *
  by_cases c : (gts s)[x.toNat]?.getD 0 < 1050
  · have c' : (gts t)[x.toNat]?.getD 0 < 1050 := by omega
    rw [if_pos c, if_pos c', if_pos c, if_pos c']
    exact fun _ => ⟨rfl, k⟩
  · rw [if_neg c]
    exact fun h => by cases h
theorem more_st {e : List (Int × Int × Int)} (hF : t.floors = s.floors) (hS : t.sills = s.sills ++ e) (hT : t.table = s.table) (hl : t.lo = s.lo) (hh : t.hi = s.hi) (m : Int) (p : Nat) : st s m p ≤ st t m p := by
  have k := (more_gts hF hS).2 p
  unfold st gateOf
  rw [hT, hl, hh]
  repeat' split
  all_goals omega
end
end
end Go.Proofs.YtknaajofcbenaaaGreat
namespace Go.Proofs.YtknaajofcbenaaaGreat
open Go.RowKit Go.Shelf

def leastS (s : Sd) (h : Int) (l : List Int) : Int := l.foldl (fun h i => min h (s.sills[i.toNat]?.getD (0, 0, 0)).2.2) h
def leastF (s : Sd) (h : Int) (l : List Int) : Int := l.foldl (fun h p => min h (s.floors[p.toNat]?.getD 0)) h
theorem leastS_step (s : Sd) (h : Int) (l : List Int) (k : Nat) (hk : k < l.length) : leastS s h (l.drop k) = leastS s (min h (s.sills[l[k].toNat]?.getD (0, 0, 0)).2.2) (l.drop (k + 1)) := by
  rw [List.drop_eq_getElem_cons hk]; rfl
theorem leastF_step (s : Sd) (h : Int) (l : List Int) (k : Nat) (hk : k < l.length) : leastF s h (l.drop k) = leastF s (min h (s.floors[l[k].toNat]?.getD 0)) (l.drop (k + 1)) := by
  rw [List.drop_eq_getElem_cons hk]; rfl

section
variable {pT pF pS : Option Addr} {cT cF cS : Nat}
set_option maxRecDepth 100000 in
set_option maxHeartbeats 4000000 in
theorem least_c (bw : Nat) (s : Sd) (ss ps : List Int) (p1 p2 : Option Addr) (c1 c2 : Nat) (w : World) (hw : SandsAt w bw 0 s pT pF pS cT cF cS) (_m2 : s.floors.length ≤ 8) (_m3 : s.sills.length ≤ 16) (h1 : Row w p1 1 (ints ss)) (h2 : Row w p2 1 (ints ps)) (l1 : ss.length ≤ 10000) (l2 : ps.length ≤ 10000)
    (g1 : ∀ i ∈ ss, 0 ≤ i ∧ i < s.sills.length) (g2 : ∀ p ∈ ps, 0 ≤ p ∧ p < s.floors.length) :
    Calls Tryz.prog 109 #[.pointer (some ⟨bw, 0, none⟩), .slice p1 ss.length c1, .slice p2 ps.length c2] w fun e w' => e = .returned (.int .i64 (leastF s (leastS s 999 ss) ps)) ∧ Up w w' := by
  have d3 := hw.s3
  have d4 := hw.s4
  have lb := cell_lt d3
  have HW := Lib.hid hw
  have H1 := Lib.hid h1
  have H2 := Lib.hid h2
  clear hw h1 h2
  go_enter Tryz.func109, Tryz.ntmps109
  go_wp2_with fail
  go_loopw [7, 14] (fun v i wr => ∃ (k : Nat) (h : Int), k ≤ ss.length ∧ i = .int .i64 k ∧ v = .int .i64 h ∧ leastS s 999 ss = leastS s h (ss.drop k) ∧ wr = w) (fun _ i _ => ss.length - (intOf i).toNat)
  case atStart => exact ⟨0, 999, Nat.zero_le _, rfl, rfl, rfl, rfl⟩
  case round =>
    obtain ⟨k, h, hk, rfl, rfl, ht, rfl⟩ := hrel
    have HT := Lib.hid ht
    clear ht
    by_cases hlt : k < ss.length
    · obtain ⟨b, off, rfl, e0⟩ := H1.out.int k hlt
      obtain ⟨r1, r2⟩ := g1 ss[k] (List.getElem_mem hlt)
      have HS := Lib.hid (leastS_step s h ss k hlt)
      generalize ss[k] = x at *
      obtain ⟨n, rfl⟩ := Int.eq_ofNat_of_zero_le r1
      have hn : n < s.sills.length := by omega
      obtain ⟨b', off', rfl, -, -, e3⟩ := HW.out.rs.triple n hn
      have HX := Lib.hid (show (s.sills[(n : Int).toNat]?.getD (0, 0, 0)).2.2 = s.sills[n].2.2 by rw [Int.toNat_natCast, List.getElem?_eq_getElem hn]; rfl)
      go_wp2_with fail
      go_roundw
      case rel =>
        refine ⟨k + 1, min h s.sills[n].2.2, hlt, by go_num, ?_, by rw [HT.out, HS.out, HX.out], trivial⟩
        congr 1; simp only [Int.min_def]; split <;> omega
      case measure => simp [intOf]; omega
    · obtain rfl : k = ss.length := by omega
      have HSS := Lib.hid (show leastS s 999 ss = h by rw [HT.out]; simp [leastS])
      go_wp2_with fail
      clear HT d4
      go_loopw [7, 32] (fun v i ww => ∃ (k : Nat) (h' : Int), k ≤ ps.length ∧ i = .int .i64 k ∧ v = .int .i64 h' ∧ leastF s h ps = leastF s h' (ps.drop k) ∧ ww = wr) (fun _ i _ => ps.length - (intOf i).toNat)
      case atStart => exact ⟨0, h, Nat.zero_le _, rfl, rfl, rfl, rfl⟩
      case round =>
        obtain ⟨k, h', hk', rfl, rfl, ht, rfl⟩ := hrel
        have HT := Lib.hid ht
        clear ht
        by_cases hlt : k < ps.length
        · obtain ⟨b, off, rfl, e0⟩ := H2.out.int k hlt
          obtain ⟨r1, r2⟩ := g2 ps[k] (List.getElem_mem hlt)
          have HS := Lib.hid (leastF_step s h' ps k hlt)
          generalize ps[k] = x at *
          obtain ⟨n, rfl⟩ := Int.eq_ofNat_of_zero_le r1
          have hn : n < s.floors.length := by omega
          obtain ⟨b', off', rfl, e3⟩ := HW.out.rf.int n hn
          have HX := Lib.hid (show s.floors[(n : Int).toNat]?.getD 0 = s.floors[n] by rw [Int.toNat_natCast, List.getElem?_eq_getElem hn]; rfl)
          go_wp2_with fail
          go_roundw
          case rel =>
            refine ⟨k + 1, min h' s.floors[n], hlt, by go_num, ?_, by rw [HT.out, HS.out, HX.out], trivial⟩
            congr 1; simp only [Int.min_def]; split <;> omega
          case measure => simp [intOf]; omega
        · obtain rfl : k = ps.length := by omega
          have HS := Lib.hid (show leastF s h ps = h' by rw [HT.out]; simp [leastF])
          go_wp2_with fail
          go_ret
          exact ⟨by rw [HSS.out, HS.out]; rfl, Below.refl _ _⟩
end
end Go.Proofs.YtknaajofcbenaaaGreat
namespace Go.Proofs.YtknaajofcbenaaaGreat
open Go.RowKit Go.Shelf Go.Maps

def mayHold (ss ps : List Int) (i t : Nat) : Bool := decide ((i : Int) ∉ ss) && decide ((t : Int) ∉ ps)
theorem ownsMap_up {w w' : World} {b n : Nat} {D : DataW Unit} (h : w.ownsMap Tryz.prog 3 (plainElem Tryz.prog 3) b n D) (hu : Up w w') : w'.ownsMap Tryz.prog 3 (plainElem Tryz.prog 3) b n D :=
  h.kept (row := none) ⟨hu.os, hu.tape, hu.output, hu.size, fun k hk _ => hu.block k hk⟩ (by simp)

set_option maxRecDepth 100000 in
set_option maxHeartbeats 1000000 in
theorem wants_hold (ss ps : List Int) (b1 b2 m1 m2 n1 n2 : Nat) (D1 D2 : DataW Unit) (hc1 : CntIs D1 ss) (hc2 : CntIs D2 ps) (nS nF : Nat) (hS : nS ≤ 1000) (hF : nF ≤ 1000) (w : World) (h1 : w.cell? ⟨b1, 0, none⟩ = some (.map (some m1))) (h2 : w.cell? ⟨b2, 0, none⟩ = some (.map (some m2)))
    (o1 : w.ownsMap Tryz.prog 3 (plainElem Tryz.prog 3) m1 n1 D1) (o2 : w.ownsMap Tryz.prog 3 (plainElem Tryz.prog 3) m2 n2 D2) : Wants2 108 #[] #[.pointer (some ⟨b1, 0, none⟩), .pointer (some ⟨b2, 0, none⟩)] (mayHold ss ps) nS nF w := by
  intro i t W hi ht hu
  have o1' := ownsMap_up o1 hu
  have o2' := ownsMap_up o2 hu
  have c1 := hu.cellAt h1
  have c2 := hu.cellAt h2
  have k1 : keyOf Tryz.prog 3 (.int .i64 (i : Int)) = some (.int .i64 (i : Int)) := keyOf_int_mk Tryz.underlying3 (wf_small (by omega) (by omega))
  have k2 : keyOf Tryz.prog 3 (.int .i64 (t : Int)) = some (.int .i64 (t : Int)) := keyOf_int_mk Tryz.underlying3 (wf_small (by omega) (by omega))
  obtain ⟨cn, hcn⟩ : ∃ cn : Int, ((ss.count (i : Int) : Nat) : Int) = cn := ⟨_, rfl⟩
  obtain ⟨cm, hcm⟩ : ∃ cm : Int, ((ps.count (t : Int) : Nat) : Int) = cm := ⟨_, rfl⟩
  have A1 := Lib.hid (show D1.atKey (.int .i64 (i : Int)) (.lit (.int .i64 0)) = .lit (.int .i64 cn) by rw [hc1.count, hcn])
  have A2 := Lib.hid (show D2.atKey (.int .i64 (t : Int)) (.lit (.int .i64 0)) = .lit (.int .i64 cm) by rw [hc2.count, hcm])
  have HM := Lib.hid (show mayHold ss ps i t = (decide (cn = 0) && decide (cm = 0)) by
    have e1 : ((i : Int) ∉ ss) ↔ cn = 0 := by rw [← List.count_eq_zero]; omega
    have e2 : ((t : Int) ∉ ps) ↔ cm = 0 := by rw [← List.count_eq_zero]; omega
    unfold mayHold
    simp only [e1, e2])
  obtain ⟨x1, hr1, hat1, -⟩ := o1'.lookup_int law3 Tryz.underlying119 Tryz.underlying3 (zero3 _) k1
  obtain ⟨x2, hr2, hat2, -⟩ := o2'.lookup_int law3 Tryz.underlying119 Tryz.underlying3 (zero3 _) k2
  obtain rfl : cn = x1 := by rw [A1.out] at hat1; simpa using hat1
  obtain rfl : cm = x2 := by rw [A2.out] at hat2; simpa using hat2
  clear h1 h2 o1 o2 hcn hcm hat1 hat2 A1 A2 o1' o2' k1 k2
  change Calls Tryz.prog 108 #[.int .i64 i, .int .i64 t, .pointer (some ⟨b1, 0, none⟩), .pointer (some ⟨b2, 0, none⟩)] W _
  go_enter Tryz.func108, Tryz.ntmps108
  go_wp2
  all_goals go_ret
  all_goals exact ⟨ret_bool (by rw [HM.out]; (try simp [*]); (try rfl)), Below.refl _ _⟩
end Go.Proofs.YtknaajofcbenaaaGreat
namespace Go.Proofs.YtknaajofcbenaaaGreat
open Go.RowKit Go.Shelf Go.Maps

theorem isSill_c (b : Nat) (p : Option Addr) (n c : Nat) (x : Int) (w : World) (h : w.cell? ⟨b, 4, none⟩ = some (.slice p n c)) (hn : n ≤ maxLen) :
    Calls Tryz.prog 107 #[.pointer (some ⟨b, 0, none⟩), .int .i64 x] w fun e w' => e = .returned (.bool (inB x 0 (n - 1))) ∧ w = w' := by
  unfold maxLen at hn
  go_enter Tryz.func107, Tryz.ntmps107
  go_wp2_with (go_at_call 112; refine (within_c _ _ _ _).mono ?_; rintro e w' ⟨rfl, rfl⟩)
  go_ret
  exact ⟨rfl, rfl⟩
theorem en_isSill : Enters Tryz.prog 107 := enters_of Tryz.func107 (by kernel_rfl) rfl
theorem en_hold : Enters Tryz.prog 108 := enters_of Tryz.func108 (by kernel_rfl) rfl

def isSi (s : Sd) (x : Int) : Bool := inB x 0 (s.sills.length - 1)
def errHold (s : Sd) (x : Int) (ss ps : List Int) : Int :=
  if errFor s x = 0 then
    if ss.all (isSi s) = true ∧ ps.all (isPl s) = true then
      if ss.Nodup ∧ ps.Nodup then
        if wayAt (waysOf s (mayHold ss ps)) x = none then (if ss = [] ∧ ps = [] then 6 else 0) else 8
      else 5
    else 1
  else errFor s x
def holdV (s : Sd) (x : Int) (ss ps : List Int) : Int := if errHold s x ss ps = 0 then leastF s (leastS s 999 ss) ps else 0
theorem sl_neq (W : World) (a : Option Addr) (n c : Nat) : (binOp .neq 25 (.slice a n c) (.slice none 0 0)).run Tryz.prog W = .ok (.bool a.isSome) W := by
  cases a <;> simp [binOp, Op.equal, Op.maxDepth, Lib.run_equalIn_slice_nil W 9999 25 3 _ n c 0 0 Tryz.underlying25]

section
variable {pT pF pS : Option Addr} {cT cF cS : Nat}
set_option maxRecDepth 100000 in
set_option maxHeartbeats 4000000 in
theorem Hold_c (s : Sd) (x : Int) (ss ps : List Int) (p1 p2 : Option Addr) (c1 c2 : Nat) (w : World) (hl : Lists w s pT pF pS cT cF cS) (h1 : Row w p1 1 (ints ss)) (h2 : Row w p2 1 (ints ps)) (l1 : ss.length ≤ 10000) (l2 : ps.length ≤ 10000) :
    Calls Tryz.prog 44 #[sdVal s pT pF pS cT cF cS, .int .i64 x, .slice p1 ss.length c1, .slice p2 ps.length c2] w fun e w' => e = .returned (.tuple #[.int .i64 (holdV s x ss ps), .int .i64 (errHold s x ss ps)]) ∧ Up w w' := by
  have HC := Lib.hid (fun W (u : Up w W) => beginFor_c s x W (hl.up u))
  have H1 := Lib.hid h1
  have H2 := Lib.hid h2
  clear hl h1 h2
  by_cases hE : errFor s x = 0
  · have hc : chk s = 0 := by
      unfold errFor at hE
      by_cases hk : chk s = 0
      · exact hk
      · rw [if_neg hk] at hE; exact absurd hE hk
    have hok := chk_ok hc
    obtain ⟨hx0, hx8⟩ := errFor_zero hE
    obtain ⟨n, rfl⟩ := Int.eq_ofNat_of_zero_le hx0
    have m2 := hok.fl1
    have m3 := hok.sl
    have HO := Lib.hid hok
    have HV := Lib.hid (show errHold s n ss ps = if ss.all (isSi s) = true ∧ ps.all (isPl s) = true then (if ss.Nodup ∧ ps.Nodup then (if wayAt (waysOf s (mayHold ss ps)) n = none then (if ss = [] ∧ ps = [] then 6 else 0) else 8) else 5) else 1 by unfold errHold; rw [if_pos hE])
    rw [hE] at HC
    have hml : ∀ k : Nat, k ≤ 10000 → k ≤ maxLen := fun k hk => by simp only [maxLen]; omega
    clear hok hE hc
    unfold sdVal at *
    go_enter Tryz.func44, Tryz.ntmps44
    go_wp2_with fail
    refine (HC.out _ (by (repeat (first | exact Below.refl _ _ | (with_reducible refine Below.drewN' ?_ _) | (with_reducible refine Below.drew ?_) | (with_reducible refine Below.setCell ?_ (by first | exact Nat.le_refl _ | omega | (with_reducible (repeat (first | refine sz_alloc ?_ | refine sz_setCell ?_ | refine sz_drew ?_ | refine sz_drewN ?_)); first | exact Nat.le_refl _ | omega) | (simp only [World.size_alloc, World.size_setCell, World.size_drew, size_drewN']; omega)) _) | (with_reducible refine Below.alloc ?_ (by first | exact Nat.le_refl _ | omega | (with_reducible (repeat (first | refine sz_alloc ?_ | refine sz_setCell ?_ | refine sz_drew ?_ | refine sz_drewN ?_)); first | exact Nat.le_refl _ | omega) | (simp only [World.size_alloc, World.size_setCell, World.size_drew, size_drewN']; omega)) _) | assumption)))).mono ?_
    rintro e w1 ⟨p, rfl, u1, hok⟩
    obtain ⟨bw, rfl, hW⟩ := hok rfl
    have U1 := Lib.hid (Up.trans (show Up w (w.alloc (.cells (sdCells s pT pF pS cT cF cS).toArray 28)) by (repeat (first | exact Below.refl _ _ | (with_reducible refine Below.drewN' ?_ _) | (with_reducible refine Below.drew ?_) | (with_reducible refine Below.setCell ?_ (by first | exact Nat.le_refl _ | omega | (with_reducible (repeat (first | refine sz_alloc ?_ | refine sz_setCell ?_ | refine sz_drew ?_ | refine sz_drewN ?_)); first | exact Nat.le_refl _ | omega) | (simp only [World.size_alloc, World.size_setCell, World.size_drew, size_drewN']; omega)) _) | (with_reducible refine Below.alloc ?_ (by first | exact Nat.le_refl _ | omega | (with_reducible (repeat (first | refine sz_alloc ?_ | refine sz_setCell ?_ | refine sz_drew ?_ | refine sz_drewN ?_)); first | exact Nat.le_refl _ | omega) | (simp only [World.size_alloc, World.size_setCell, World.size_drew, size_drewN']; omega)) _) | assumption))) u1)
    have HW := Lib.hid hW
    clear hok hW u1 HC
    go_wp2_with fail
    refine (everyInt_c 107 #[.pointer (some ⟨bw, 0, none⟩)] #[] p1 c1 ss (isSi s) _ (H1.out.up U1.out) (hml _ l1) en_isSill (fun y _ W u => (isSill_c bw _ _ _ y W (HW.out.up u).sands.s4 (by simp only [maxLen]; omega)).mono fun e w' ⟨h, k⟩ => ⟨h, k ▸ Below.refl _ _⟩)).mono ?_
    rintro e w2 ⟨rfl, u2⟩
    have U2 := Lib.hid (Up.trans U1.out u2)
    have HW2 := Lib.hid (HW.out.up u2)
    clear u2 HW
    cases ha : ss.all (isSi s) with
    | false =>
      have HX := Lib.hid (show errHold s n ss ps = 1 by rw [HV.out, ha]; simp)
      have HY := Lib.hid (show holdV s n ss ps = 0 by unfold holdV; rw [HX.out]; rfl)
      clear ha
      go_wp2_with fail
      go_ret2
      rw [HX.out, HY.out]
      exact ⟨rfl, U2.out⟩
    | true =>
      go_wp2_with fail
      refine (everyInt_c 71 #[.pointer (some ⟨bw, 0, none⟩)] #[] p2 c2 ps (isPl s) _ (H2.out.up U2.out) (hml _ l2) en_isPlace (fun y _ W u => (isPlace_c bw _ _ _ y W (HW2.out.up u).sands.s3 (by simp only [maxLen]; omega)).mono fun e w' ⟨h, k⟩ => ⟨h, k ▸ Below.refl _ _⟩)).mono ?_
      rintro e w3 ⟨rfl, u3⟩
      have U3 := Lib.hid (Up.trans U2.out u3)
      have HW3 := Lib.hid (HW2.out.up u3)
      clear u3 HW2
      cases hb : ps.all (isPl s) with
      | false =>
        have HX := Lib.hid (show errHold s n ss ps = 1 by rw [HV.out, hb]; simp)
        have HY := Lib.hid (show holdV s n ss ps = 0 by unfold holdV; rw [HX.out]; rfl)
        clear ha hb
        go_wp2_with fail
        go_ret2
        rw [HX.out, HY.out]
        exact ⟨rfl, U3.out⟩
      | true =>
        rw [if_pos ⟨ha, hb⟩] at HV
        have gs : ∀ i ∈ ss, 0 ≤ i ∧ i < s.sills.length := fun i hi => by have := inB_true.1 (List.all_eq_true.1 ha i hi); omega
        have gp : ∀ i ∈ ps, 0 ≤ i ∧ i < s.floors.length := fun i hi => by have := inB_true.1 (List.all_eq_true.1 hb i hi); omega
        have GS := Lib.hid gs
        have GP := Lib.hid gp
        clear ha hb gs gp
        go_wp2_with fail
        refine (counted_c ss p1 c1 w3 (H1.out.up U3.out) l1 (fun x hx => by have := GS.out x hx; omega)).mono ?_
        rintro e w4 ⟨rfl, ⟨D1, hD1, ho1⟩, u4⟩
        obtain ⟨g1, hg1⟩ : ∃ g, w3.heap.size = g := ⟨_, rfl⟩
        rw [hg1] at ho1 ⊢
        have C1 := Lib.hid hD1
        have U4 := Lib.hid (Up.trans U3.out u4)
        have HW4 := Lib.hid (HW3.out.up u4)
        clear u4 HW3 hD1 hg1
        go_wp2_with fail
        refine (counted_c ps p2 c2 w4 (H2.out.up U4.out) l2 (fun x hx => by have := GP.out x hx; omega)).mono ?_
        rintro e w5 ⟨rfl, ⟨D2, hD2, ho2⟩, u5⟩
        obtain ⟨g2, hg2⟩ : ∃ g, w4.heap.size = g := ⟨_, rfl⟩
        rw [hg2] at ho2 ⊢
        have C2 := Lib.hid hD2
        have U5 := Lib.hid (Up.trans U4.out u5)
        have HW5 := Lib.hid (HW4.out.up u5)
        have O1 := Lib.hid (ownsMap_up ho1 u5)
        have O2 := Lib.hid ho2
        clear u5 HW4 hD2 hg2 ho1 ho2
        obtain ⟨z1, hz1⟩ : ∃ z : Nat, Maps.size D1 = z := ⟨_, rfl⟩
        obtain ⟨z2, hz2⟩ : ∃ z : Nat, Maps.size D2 = z := ⟨_, rfl⟩
        have hn1 := fun ty => ((O1.out.alloc (.cells #[.map (some g1)] 119)).alloc (.cells #[.map (some g2)] 119)).len Tryz.underlying119 ty
        have hn2 := fun ty => ((O2.out.alloc (.cells #[.map (some g1)] 119)).alloc (.cells #[.map (some g2)] 119)).len Tryz.underlying119 ty
        rw [hz1] at hn1
        rw [hz2] at hn2
        have hle1 : z1 ≤ ss.length := hz1 ▸ C1.out.le
        have hle2 : z2 ≤ ps.length := hz2 ▸ C2.out.le
        have nd1 : z1 = ss.length ↔ ss.Nodup := hz1 ▸ C1.out.nodup
        have nd2 : z2 = ps.length ↔ ps.Nodup := hz2 ▸ C2.out.nodup
        clear hz1 hz2
        by_cases hd : ss.Nodup ∧ ps.Nodup
        · rw [if_pos hd] at HV
          have e1 : z1 = ss.length := nd1.2 hd.1
          have e2 : z2 = ps.length := nd2.2 hd.2
          subst e1 e2
          clear nd1 nd2 hd hle1 hle2
          go_wp2_with fail
          refine Calls.world ?_
          intro w6 hw6
          have u6 : Up w5 w6 := by rw [hw6]; (repeat (first | exact Below.refl _ _ | (with_reducible refine Below.drewN' ?_ _) | (with_reducible refine Below.drew ?_) | (with_reducible refine Below.setCell ?_ (by first | exact Nat.le_refl _ | omega | (with_reducible (repeat (first | refine sz_alloc ?_ | refine sz_setCell ?_ | refine sz_drew ?_ | refine sz_drewN ?_)); first | exact Nat.le_refl _ | omega) | (simp only [World.size_alloc, World.size_setCell, World.size_drew, size_drewN']; omega)) _) | (with_reducible refine Below.alloc ?_ (by first | exact Nat.le_refl _ | omega | (with_reducible (repeat (first | refine sz_alloc ?_ | refine sz_setCell ?_ | refine sz_drew ?_ | refine sz_drewN ?_)); first | exact Nat.le_refl _ | omega) | (simp only [World.size_alloc, World.size_setCell, World.size_drew, size_drewN']; omega)) _) | assumption))
          have h6 : w6.cell? ⟨w5.heap.size, 0, none⟩ = some (.map (some g1)) := by rw [hw6]; exact ((Blk.new w5 [.map (some g1)] _).alloc _).cell 0
          have h8 : w6.cell? ⟨w5.heap.size + 1, 0, none⟩ = some (.map (some g2)) := by rw [hw6]; exact (Blk.new' _ [.map (some g2)] _ (by simp)).cell 0
          clear hw6 hn1 hn2
          have hm := wants_hold ss ps w5.heap.size (w5.heap.size + 1) g1 g2 _ _ D1 D2 C1.out C2.out s.sills.length s.floors.length (by omega) (by omega) w6 h6 h8 (ownsMap_up O1.out u6) (ownsMap_up O2.out u6)
          refine (ways_c bw s w6 (HW5.out.sands.up u6) m2 m3 HO.out.good 108 _ _ _ hm en_hold).mono ?_
          rintro e w7 ⟨vs, qv, rfl, l8, q8, qs, hw, u7⟩
          have U7 := Lib.hid (Up.trans U5.out (Up.trans u6 u7))
          have HW7 := Lib.hid ((HW5.out.up u6).up u7)
          have hn8 : n < 8 := by omega
          have hn8' : (n : Int) < 8 := by omega
          have sl : ∀ (i : Nat) v, vs[i]? = some v → ∃ p n c, v = .slice p n c := fun i v hv => by
            have hi : i < 8 := by have := (List.getElem?_eq_some_iff.1 hv).1; omega
            exact (hw i v _ hv (List.getElem?_eq_getElem (by omega))).slice
          obtain ⟨o, ho⟩ : ∃ o, (waysOf s (mayHold ss ps))[n]? = some o := ⟨_, List.getElem?_eq_getElem (by omega)⟩
          have HVo := Lib.hid (show wayAt (waysOf s (mayHold ss ps)) n = o by unfold wayAt; rw [Int.toNat_natCast, ho]; rfl)
          have hvn : vs[n]? = some (vs[n]'(by omega)) := List.getElem?_eq_getElem (by omega)
          have hrow := hw n _ o hvn ho
          obtain ⟨v0, v1, v2, v3, v4, v5, v6, v7, rfl⟩ : ∃ a b c d e f h i, vs = [a, b, c, d, e, f, h, i] := by
            match vs, l8 with
            | [a, b, c, d, e, f, h, i], _ => exact ⟨a, b, c, d, e, f, h, i, rfl⟩
          obtain ⟨p0, n0, e0, rfl⟩ : ∃ p n c, v0 = .slice p n c := sl 0 v0 rfl
          obtain ⟨p1', n1, e1, rfl⟩ : ∃ p n c, v1 = .slice p n c := sl 1 v1 rfl
          obtain ⟨p2', n2, e2, rfl⟩ : ∃ p n c, v2 = .slice p n c := sl 2 v2 rfl
          obtain ⟨p3, n3, e3, rfl⟩ : ∃ p n c, v3 = .slice p n c := sl 3 v3 rfl
          obtain ⟨p4, n4, e4, rfl⟩ : ∃ p n c, v4 = .slice p n c := sl 4 v4 rfl
          obtain ⟨p5, n5, e5, rfl⟩ : ∃ p n c, v5 = .slice p n c := sl 5 v5 rfl
          obtain ⟨p6, n6, e6, rfl⟩ : ∃ p n c, v6 = .slice p n c := sl 6 v6 rfl
          obtain ⟨p7, n7, e7, rfl⟩ : ∃ p n c, v7 = .slice p n c := sl 7 v7 rfl
          have c9 := (Blk.new w7 [.slice p0 n0 e0, .slice p1' n1 e1, .slice p2' n2 e2, .slice p3 n3 e3, .slice p4 n4 e4, .slice p5 n5 e5, .slice p6 n6 e6, .slice p7 n7 e7] 139).cell n
          rw [hvn] at c9
          have hsl := sl_neq
          cases o with
          | some lw =>
            obtain ⟨-, gg, eg, -⟩ := hrow
            rw [eg] at c9
            have HX := Lib.hid (show errHold s n ss ps = 8 by rw [HV.out, HVo.out]; simp)
            have HY := Lib.hid (show holdV s n ss ps = 0 by unfold holdV; rw [HX.out]; rfl)
            clear hw sl u6 u7 h6 h8 hm hvn qs l8 q8 eg
            go_wp2_with fail
            go_ret2
            rw [HX.out, HY.out]
            exact ⟨rfl, Up.trans U7.out (by (repeat (first | exact Below.refl _ _ | (with_reducible refine Below.drewN' ?_ _) | (with_reducible refine Below.drew ?_) | (with_reducible refine Below.setCell ?_ (by first | exact Nat.le_refl _ | omega | (with_reducible (repeat (first | refine sz_alloc ?_ | refine sz_setCell ?_ | refine sz_drew ?_ | refine sz_drewN ?_)); first | exact Nat.le_refl _ | omega) | (simp only [World.size_alloc, World.size_setCell, World.size_drew, size_drewN']; omega)) _) | (with_reducible refine Below.alloc ?_ (by first | exact Nat.le_refl _ | omega | (with_reducible (repeat (first | refine sz_alloc ?_ | refine sz_setCell ?_ | refine sz_drew ?_ | refine sz_drewN ?_)); first | exact Nat.le_refl _ | omega) | (simp only [World.size_alloc, World.size_setCell, World.size_drew, size_drewN']; omega)) _) | assumption)))⟩
          | none =>
            have eg : _ = Value.slice none 0 0 := hrow
            rw [eg] at c9
            have HX := Lib.hid (show errHold s n ss ps = if ss = [] ∧ ps = [] then 6 else 0 by rw [HV.out, HVo.out]; simp)
            clear hw sl u6 u7 h6 h8 hm hvn qs l8 q8 eg hrow
            by_cases hnil : ss = [] ∧ ps = []
            · have HXn := Lib.hid (show errHold s n ss ps = 6 by rw [HX.out, if_pos hnil])
              have HY := Lib.hid (show holdV s n ss ps = 0 by unfold holdV; rw [HXn.out]; rfl)
              have k1 : (ss.length : Int) = 0 := by rw [hnil.1]; rfl
              have k2 : (ps.length : Int) = 0 := by rw [hnil.2]; rfl
              have q1 : ss.length = 0 := by omega
              have q2 : ps.length = 0 := by omega
              clear hnil
              go_wp2_with fail
              go_ret2
              rw [HXn.out, HY.out]
              exact ⟨rfl, Up.trans U7.out (by (repeat (first | exact Below.refl _ _ | (with_reducible refine Below.drewN' ?_ _) | (with_reducible refine Below.drew ?_) | (with_reducible refine Below.setCell ?_ (by first | exact Nat.le_refl _ | omega | (with_reducible (repeat (first | refine sz_alloc ?_ | refine sz_setCell ?_ | refine sz_drew ?_ | refine sz_drewN ?_)); first | exact Nat.le_refl _ | omega) | (simp only [World.size_alloc, World.size_setCell, World.size_drew, size_drewN']; omega)) _) | (with_reducible refine Below.alloc ?_ (by first | exact Nat.le_refl _ | omega | (with_reducible (repeat (first | refine sz_alloc ?_ | refine sz_setCell ?_ | refine sz_drew ?_ | refine sz_drewN ?_)); first | exact Nat.le_refl _ | omega) | (simp only [World.size_alloc, World.size_setCell, World.size_drew, size_drewN']; omega)) _) | assumption)))⟩
            · have HXn := Lib.hid (show errHold s n ss ps = 0 by rw [HX.out, if_neg hnil])
              have HY := Lib.hid (show holdV s n ss ps = leastF s (leastS s 999 ss) ps by unfold holdV; rw [HXn.out]; rfl)
              have hd' : ¬ ss.length = 0 ∨ (ss.length = 0 ∧ ¬ ps.length = 0) := by
                by_cases h1 : ss.length = 0
                · refine .inr ⟨h1, fun h2 => hnil ⟨List.eq_nil_of_length_eq_zero h1, List.eq_nil_of_length_eq_zero h2⟩⟩
                · exact .inl h1
              clear hnil
              have HL := Lib.hid (fun (W : World) (u : Up w7 W) => least_c bw s ss ps p1 p2 c1 c2 W (HW7.out.up u).sands m2 m3 (H1.out.up (Up.trans U7.out u)) (H2.out.up (Up.trans U7.out u)) l1 l2 GS.out GP.out)
              rcases hd' with hd | ⟨hd0, hd⟩
              · go_wp2_with fail
                refine (HL.out _ (by (repeat (first | exact Below.refl _ _ | (with_reducible refine Below.drewN' ?_ _) | (with_reducible refine Below.drew ?_) | (with_reducible refine Below.setCell ?_ (by first | exact Nat.le_refl _ | omega | (with_reducible (repeat (first | refine sz_alloc ?_ | refine sz_setCell ?_ | refine sz_drew ?_ | refine sz_drewN ?_)); first | exact Nat.le_refl _ | omega) | (simp only [World.size_alloc, World.size_setCell, World.size_drew, size_drewN']; omega)) _) | (with_reducible refine Below.alloc ?_ (by first | exact Nat.le_refl _ | omega | (with_reducible (repeat (first | refine sz_alloc ?_ | refine sz_setCell ?_ | refine sz_drew ?_ | refine sz_drewN ?_)); first | exact Nat.le_refl _ | omega) | (simp only [World.size_alloc, World.size_setCell, World.size_drew, size_drewN']; omega)) _) | assumption)))).mono ?_
                rintro e w8 ⟨rfl, u8⟩
                have U8 := Lib.hid (Up.trans (Up.trans U7.out (by (repeat (first | exact Below.refl _ _ | (with_reducible refine Below.drewN' ?_ _) | (with_reducible refine Below.drew ?_) | (with_reducible refine Below.setCell ?_ (by first | exact Nat.le_refl _ | omega | (with_reducible (repeat (first | refine sz_alloc ?_ | refine sz_setCell ?_ | refine sz_drew ?_ | refine sz_drewN ?_)); first | exact Nat.le_refl _ | omega) | (simp only [World.size_alloc, World.size_setCell, World.size_drew, size_drewN']; omega)) _) | (with_reducible refine Below.alloc ?_ (by first | exact Nat.le_refl _ | omega | (with_reducible (repeat (first | refine sz_alloc ?_ | refine sz_setCell ?_ | refine sz_drew ?_ | refine sz_drewN ?_)); first | exact Nat.le_refl _ | omega) | (simp only [World.size_alloc, World.size_setCell, World.size_drew, size_drewN']; omega)) _) | assumption)))) u8)
                clear u8 HL
                go_wp2_with fail
                go_ret2
                rw [HXn.out, HY.out]
                exact ⟨rfl, U8.out⟩
              · go_wp2_with fail
                rw [hd0] at HL
                refine (HL.out _ (by (repeat (first | exact Below.refl _ _ | (with_reducible refine Below.drewN' ?_ _) | (with_reducible refine Below.drew ?_) | (with_reducible refine Below.setCell ?_ (by first | exact Nat.le_refl _ | omega | (with_reducible (repeat (first | refine sz_alloc ?_ | refine sz_setCell ?_ | refine sz_drew ?_ | refine sz_drewN ?_)); first | exact Nat.le_refl _ | omega) | (simp only [World.size_alloc, World.size_setCell, World.size_drew, size_drewN']; omega)) _) | (with_reducible refine Below.alloc ?_ (by first | exact Nat.le_refl _ | omega | (with_reducible (repeat (first | refine sz_alloc ?_ | refine sz_setCell ?_ | refine sz_drew ?_ | refine sz_drewN ?_)); first | exact Nat.le_refl _ | omega) | (simp only [World.size_alloc, World.size_setCell, World.size_drew, size_drewN']; omega)) _) | assumption)))).mono ?_
                rintro e w8 ⟨rfl, u8⟩
                have U8 := Lib.hid (Up.trans (Up.trans U7.out (by (repeat (first | exact Below.refl _ _ | (with_reducible refine Below.drewN' ?_ _) | (with_reducible refine Below.drew ?_) | (with_reducible refine Below.setCell ?_ (by first | exact Nat.le_refl _ | omega | (with_reducible (repeat (first | refine sz_alloc ?_ | refine sz_setCell ?_ | refine sz_drew ?_ | refine sz_drewN ?_)); first | exact Nat.le_refl _ | omega) | (simp only [World.size_alloc, World.size_setCell, World.size_drew, size_drewN']; omega)) _) | (with_reducible refine Below.alloc ?_ (by first | exact Nat.le_refl _ | omega | (with_reducible (repeat (first | refine sz_alloc ?_ | refine sz_setCell ?_ | refine sz_drew ?_ | refine sz_drewN ?_)); first | exact Nat.le_refl _ | omega) | (simp only [World.size_alloc, World.size_setCell, World.size_drew, size_drewN']; omega)) _) | assumption)))) u8)
                clear u8 HL
                go_wp2_with fail
                go_ret2
                rw [HXn.out, HY.out]
                exact ⟨rfl, U8.out⟩
        · rw [if_neg hd] at HV
          have HY := Lib.hid (show holdV s n ss ps = 0 by unfold holdV; rw [HV.out]; rfl)
          have hd' : z1 < ss.length ∨ (z1 = ss.length ∧ z2 < ps.length) := by
            rcases Nat.lt_or_ge z1 ss.length with h | h
            · exact .inl h
            · have e1 : z1 = ss.length := by omega
              refine .inr ⟨e1, ?_⟩
              rcases Nat.lt_or_ge z2 ps.length with h' | h'
              · exact h'
              · exact absurd ⟨nd1.1 e1, nd2.1 (by omega)⟩ hd
          clear nd1 nd2 hd hle1 hle2
          rcases hd' with hd | ⟨rfl, hd⟩
          · have hd' : (z1 : Int) < (ss.length : Int) := by omega
            go_wp2_with fail
            go_ret2
            rw [HV.out, HY.out]
            exact ⟨rfl, Up.trans U5.out (by (repeat (first | exact Below.refl _ _ | (with_reducible refine Below.drewN' ?_ _) | (with_reducible refine Below.drew ?_) | (with_reducible refine Below.setCell ?_ (by first | exact Nat.le_refl _ | omega | (with_reducible (repeat (first | refine sz_alloc ?_ | refine sz_setCell ?_ | refine sz_drew ?_ | refine sz_drewN ?_)); first | exact Nat.le_refl _ | omega) | (simp only [World.size_alloc, World.size_setCell, World.size_drew, size_drewN']; omega)) _) | (with_reducible refine Below.alloc ?_ (by first | exact Nat.le_refl _ | omega | (with_reducible (repeat (first | refine sz_alloc ?_ | refine sz_setCell ?_ | refine sz_drew ?_ | refine sz_drewN ?_)); first | exact Nat.le_refl _ | omega) | (simp only [World.size_alloc, World.size_setCell, World.size_drew, size_drewN']; omega)) _) | assumption)))⟩
          · have hd' : (z2 : Int) < (ps.length : Int) := by omega
            go_wp2_with fail
            go_ret2
            rw [HV.out, HY.out]
            exact ⟨rfl, Up.trans U5.out (by (repeat (first | exact Below.refl _ _ | (with_reducible refine Below.drewN' ?_ _) | (with_reducible refine Below.drew ?_) | (with_reducible refine Below.setCell ?_ (by first | exact Nat.le_refl _ | omega | (with_reducible (repeat (first | refine sz_alloc ?_ | refine sz_setCell ?_ | refine sz_drew ?_ | refine sz_drewN ?_)); first | exact Nat.le_refl _ | omega) | (simp only [World.size_alloc, World.size_setCell, World.size_drew, size_drewN']; omega)) _) | (with_reducible refine Below.alloc ?_ (by first | exact Nat.le_refl _ | omega | (with_reducible (repeat (first | refine sz_alloc ?_ | refine sz_setCell ?_ | refine sz_drew ?_ | refine sz_drewN ?_)); first | exact Nat.le_refl _ | omega) | (simp only [World.size_alloc, World.size_setCell, World.size_drew, size_drewN']; omega)) _) | assumption)))⟩
  · have hne : (errFor s x != 0) = true := by rw [bne_iff_ne]; exact hE
    have HX := Lib.hid (show errHold s x ss ps = errFor s x by unfold errHold; rw [if_neg hE])
    have HY := Lib.hid (show holdV s x ss ps = 0 by unfold holdV; rw [HX.out, if_neg hE])
    clear hE
    unfold sdVal at *
    go_enter Tryz.func44, Tryz.ntmps44
    go_wp2_with fail
    refine (HC.out _ (by (repeat (first | exact Below.refl _ _ | (with_reducible refine Below.drewN' ?_ _) | (with_reducible refine Below.drew ?_) | (with_reducible refine Below.setCell ?_ (by first | exact Nat.le_refl _ | omega | (with_reducible (repeat (first | refine sz_alloc ?_ | refine sz_setCell ?_ | refine sz_drew ?_ | refine sz_drewN ?_)); first | exact Nat.le_refl _ | omega) | (simp only [World.size_alloc, World.size_setCell, World.size_drew, size_drewN']; omega)) _) | (with_reducible refine Below.alloc ?_ (by first | exact Nat.le_refl _ | omega | (with_reducible (repeat (first | refine sz_alloc ?_ | refine sz_setCell ?_ | refine sz_drew ?_ | refine sz_drewN ?_)); first | exact Nat.le_refl _ | omega) | (simp only [World.size_alloc, World.size_setCell, World.size_drew, size_drewN']; omega)) _) | assumption)))).mono ?_
    rintro e w1 ⟨p, rfl, u1, -⟩
    have U1 := Lib.hid (Up.trans (show Up w (w.alloc (.cells (sdCells s pT pF pS cT cF cS).toArray 28)) by (repeat (first | exact Below.refl _ _ | (with_reducible refine Below.drewN' ?_ _) | (with_reducible refine Below.drew ?_) | (with_reducible refine Below.setCell ?_ (by first | exact Nat.le_refl _ | omega | (with_reducible (repeat (first | refine sz_alloc ?_ | refine sz_setCell ?_ | refine sz_drew ?_ | refine sz_drewN ?_)); first | exact Nat.le_refl _ | omega) | (simp only [World.size_alloc, World.size_setCell, World.size_drew, size_drewN']; omega)) _) | (with_reducible refine Below.alloc ?_ (by first | exact Nat.le_refl _ | omega | (with_reducible (repeat (first | refine sz_alloc ?_ | refine sz_setCell ?_ | refine sz_drew ?_ | refine sz_drewN ?_)); first | exact Nat.le_refl _ | omega) | (simp only [World.size_alloc, World.size_setCell, World.size_drew, size_drewN']; omega)) _) | assumption))) u1)
    clear u1 HC
    go_wp2_with fail
    go_ret2
    rw [HX.out, HY.out]
    exact ⟨rfl, U1.out⟩
end
end Go.Proofs.YtknaajofcbenaaaGreat
/- The exported At: the state of a place at a minute, or the error. -/
namespace Go.Proofs.YtknaajofcbenaaaGreat
open Go.RowKit Go.Shelf

def errHere (s : Sd) (m x : Int) : Int := if errAt s m = 0 then (bif isPl s x then 0 else 1) else errAt s m
def atV (s : Sd) (m x : Int) : Int := if errHere s m x = 0 then st s m x.toNat else 0
section
variable {pT pF pS : Option Addr} {cT cF cS : Nat}

set_option maxRecDepth 100000 in
set_option maxHeartbeats 1000000 in
theorem At_c (s : Sd) (m x : Int) (w : World) (hl : Lists w s pT pF pS cT cF cS) :
    Calls Tryz.prog 97 #[sdVal s pT pF pS cT cF cS, .int .i64 m, .int .i64 x] w fun e w' => e = .returned (.tuple #[.int .i64 (atV s m x), .int .i64 (errHere s m x)]) ∧ Up w w' := by
  have HC := Lib.hid (fun W (u : Up w W) => beginAt_c s m W (hl.up u))
  unfold atV errHere
  clear hl
  by_cases hE : errAt s m = 0
  · obtain ⟨hc, hm, -⟩ := errAt_zero hE
    have hf8 := (chk_ok hc).fl1
    have HO := Lib.hid (chk_ok hc)
    rw [if_pos hE]
    rw [hE] at HC
    unfold sdVal at *
    cases hp : isPl s x with
    | false =>
      have hp' : inB x 0 (s.floors.length - 1) = false := hp
      go_enter Tryz.func97, Tryz.ntmps97
      go_wp2_with fail
      refine (HC.out _ (by (repeat (first | exact Below.refl _ _ | (with_reducible refine Below.drewN' ?_ _) | (with_reducible refine Below.drew ?_) | (with_reducible refine Below.setCell ?_ (by first | exact Nat.le_refl _ | omega | (with_reducible (repeat (first | refine sz_alloc ?_ | refine sz_setCell ?_ | refine sz_drew ?_ | refine sz_drewN ?_)); first | exact Nat.le_refl _ | omega) | (simp only [World.size_alloc, World.size_setCell, World.size_drew, size_drewN']; omega)) _) | (with_reducible refine Below.alloc ?_ (by first | exact Nat.le_refl _ | omega | (with_reducible (repeat (first | refine sz_alloc ?_ | refine sz_setCell ?_ | refine sz_drew ?_ | refine sz_drewN ?_)); first | exact Nat.le_refl _ | omega) | (simp only [World.size_alloc, World.size_setCell, World.size_drew, size_drewN']; omega)) _) | assumption)))).mono ?_
      rintro e w1 ⟨p, rfl, u1, hok⟩
      obtain ⟨bw, rfl, hW⟩ := hok rfl
      have U1 := Lib.hid (Up.trans (show Up w (w.alloc (.cells (sdCells s pT pF pS cT cF cS).toArray 28)) by (repeat (first | exact Below.refl _ _ | (with_reducible refine Below.drewN' ?_ _) | (with_reducible refine Below.drew ?_) | (with_reducible refine Below.setCell ?_ (by first | exact Nat.le_refl _ | omega | (with_reducible (repeat (first | refine sz_alloc ?_ | refine sz_setCell ?_ | refine sz_drew ?_ | refine sz_drewN ?_)); first | exact Nat.le_refl _ | omega) | (simp only [World.size_alloc, World.size_setCell, World.size_drew, size_drewN']; omega)) _) | (with_reducible refine Below.alloc ?_ (by first | exact Nat.le_refl _ | omega | (with_reducible (repeat (first | refine sz_alloc ?_ | refine sz_setCell ?_ | refine sz_drew ?_ | refine sz_drewN ?_)); first | exact Nat.le_refl _ | omega) | (simp only [World.size_alloc, World.size_setCell, World.size_drew, size_drewN']; omega)) _) | assumption))) u1)
      have HW := Lib.hid hW
      clear hok hW u1 HC
      go_wp2_with fail
      refine (isPlace_c bw _ _ _ x _ HW.out.sands.s3 (by simp only [maxLen]; omega)).mono ?_
      rintro e w2 ⟨he, rfl⟩
      rw [hp'] at he
      subst he
      go_wp2_with fail
      go_ret2
      exact ⟨rfl, U1.out⟩
    | true =>
      have hp' : inB x 0 (s.floors.length - 1) = true := hp
      obtain ⟨x0, x1⟩ := inB_true.1 hp'
      obtain ⟨k, rfl⟩ : ∃ k : Nat, x = k := ⟨x.toNat, by omega⟩
      go_enter Tryz.func97, Tryz.ntmps97
      go_wp2_with fail
      refine (HC.out _ (by (repeat (first | exact Below.refl _ _ | (with_reducible refine Below.drewN' ?_ _) | (with_reducible refine Below.drew ?_) | (with_reducible refine Below.setCell ?_ (by first | exact Nat.le_refl _ | omega | (with_reducible (repeat (first | refine sz_alloc ?_ | refine sz_setCell ?_ | refine sz_drew ?_ | refine sz_drewN ?_)); first | exact Nat.le_refl _ | omega) | (simp only [World.size_alloc, World.size_setCell, World.size_drew, size_drewN']; omega)) _) | (with_reducible refine Below.alloc ?_ (by first | exact Nat.le_refl _ | omega | (with_reducible (repeat (first | refine sz_alloc ?_ | refine sz_setCell ?_ | refine sz_drew ?_ | refine sz_drewN ?_)); first | exact Nat.le_refl _ | omega) | (simp only [World.size_alloc, World.size_setCell, World.size_drew, size_drewN']; omega)) _) | assumption)))).mono ?_
      rintro e w1 ⟨p, rfl, u1, hok⟩
      obtain ⟨bw, rfl, hW⟩ := hok rfl
      have U1 := Lib.hid (Up.trans (show Up w (w.alloc (.cells (sdCells s pT pF pS cT cF cS).toArray 28)) by (repeat (first | exact Below.refl _ _ | (with_reducible refine Below.drewN' ?_ _) | (with_reducible refine Below.drew ?_) | (with_reducible refine Below.setCell ?_ (by first | exact Nat.le_refl _ | omega | (with_reducible (repeat (first | refine sz_alloc ?_ | refine sz_setCell ?_ | refine sz_drew ?_ | refine sz_drewN ?_)); first | exact Nat.le_refl _ | omega) | (simp only [World.size_alloc, World.size_setCell, World.size_drew, size_drewN']; omega)) _) | (with_reducible refine Below.alloc ?_ (by first | exact Nat.le_refl _ | omega | (with_reducible (repeat (first | refine sz_alloc ?_ | refine sz_setCell ?_ | refine sz_drew ?_ | refine sz_drewN ?_)); first | exact Nat.le_refl _ | omega) | (simp only [World.size_alloc, World.size_setCell, World.size_drew, size_drewN']; omega)) _) | assumption))) u1)
      have HW := Lib.hid hW
      clear hok hW u1 HC
      go_wp2_with fail
      refine (isPlace_c bw _ _ _ (k : Int) _ HW.out.sands.s3 (by simp only [maxLen]; omega)).mono ?_
      rintro e w2 ⟨he, rfl⟩
      rw [hp'] at he
      subst he
      go_wp2_with fail
      refine (state_c bw s m k _ HW.out HO.out hm (by omega)).mono ?_
      rintro e w2 ⟨rfl, u2⟩
      have U2 := Lib.hid (Up.trans U1.out u2)
      clear u2
      go_wp2_with fail
      go_ret2
      exact ⟨rfl, U2.out⟩
  · have hne : (errAt s m != 0) = true := by rw [bne_iff_ne]; exact hE
    rw [if_neg hE, if_neg hE]
    clear hE
    unfold sdVal at *
    go_enter Tryz.func97, Tryz.ntmps97
    go_wp2_with fail
    refine (HC.out _ (by (repeat (first | exact Below.refl _ _ | (with_reducible refine Below.drewN' ?_ _) | (with_reducible refine Below.drew ?_) | (with_reducible refine Below.setCell ?_ (by first | exact Nat.le_refl _ | omega | (with_reducible (repeat (first | refine sz_alloc ?_ | refine sz_setCell ?_ | refine sz_drew ?_ | refine sz_drewN ?_)); first | exact Nat.le_refl _ | omega) | (simp only [World.size_alloc, World.size_setCell, World.size_drew, size_drewN']; omega)) _) | (with_reducible refine Below.alloc ?_ (by first | exact Nat.le_refl _ | omega | (with_reducible (repeat (first | refine sz_alloc ?_ | refine sz_setCell ?_ | refine sz_drew ?_ | refine sz_drewN ?_)); first | exact Nat.le_refl _ | omega) | (simp only [World.size_alloc, World.size_setCell, World.size_drew, size_drewN']; omega)) _) | assumption)))).mono ?_
    rintro e w1 ⟨p, rfl, u1, -⟩
    have U1 := Lib.hid (Up.trans (show Up w (w.alloc (.cells (sdCells s pT pF pS cT cF cS).toArray 28)) by (repeat (first | exact Below.refl _ _ | (with_reducible refine Below.drewN' ?_ _) | (with_reducible refine Below.drew ?_) | (with_reducible refine Below.setCell ?_ (by first | exact Nat.le_refl _ | omega | (with_reducible (repeat (first | refine sz_alloc ?_ | refine sz_setCell ?_ | refine sz_drew ?_ | refine sz_drewN ?_)); first | exact Nat.le_refl _ | omega) | (simp only [World.size_alloc, World.size_setCell, World.size_drew, size_drewN']; omega)) _) | (with_reducible refine Below.alloc ?_ (by first | exact Nat.le_refl _ | omega | (with_reducible (repeat (first | refine sz_alloc ?_ | refine sz_setCell ?_ | refine sz_drew ?_ | refine sz_drewN ?_)); first | exact Nat.le_refl _ | omega) | (simp only [World.size_alloc, World.size_setCell, World.size_drew, size_drewN']; omega)) _) | assumption))) u1)
    clear u1 HC
    go_wp2_with fail
    go_ret2
    exact ⟨rfl, U1.out⟩
end
end Go.Proofs.YtknaajofcbenaaaGreat
/- Plain facts: until when a run of minutes lasts; places that are reached over the sills that may be taken; a place behind another one has no lesser gate. -/
namespace Go.Proofs.YtknaajofcbenaaaGreat
section
open Go.RowKit

theorem turnIn_append (l r : List (Int × Int)) (m : Int) : turnIn (l ++ r) m = (turnIn l m).or (turnIn r m) := by
  induction l with
  | nil => simp [turnIn]
  | cons x l ih =>
    rw [List.cons_append, turnIn_cons, turnIn_cons, ih]
    split <;> simp
theorem turnIn_past {l : List (Int × Int)} {m : Int} (h : ∀ x ∈ l, x.2 < m) : turnIn l m = none := by
  induction l with
  | nil => rfl
  | cons x l ih =>
    have := h x (by simp)
    rw [turnIn_cons, if_neg (by omega), ih (fun y hy => h y (by simp [hy]))]

/-- a run from a minute on ends at t -/
def RunTo (f : Int → Bool) (e m t : Int) : Prop := m ≤ t ∧ t < e ∧ (∀ x, m ≤ x → x ≤ t → f x = true) ∧ (t + 1 < e → f (t + 1) = false)
structure SpI (f : Int → Bool) (a : Int) (k : Nat) (st : List (Int × Int) × Int × Bool) : Prop where
  run : st.2.2 = true → a ≤ st.2.1 ∧ st.2.1 < a + k ∧ ∀ x, st.2.1 ≤ x → x < a + k → f x = true
  ends : ∀ x ∈ st.1, x.2 + 1 < a + k ∧ (st.2.2 = true → x.2 < st.2.1)
  some' : ∀ m t, a ≤ m → m < a + k → turnIn st.1 m = some t → m ≤ t ∧ t + 1 < a + k ∧ (∀ x, m ≤ x → x ≤ t → f x = true) ∧ f (t + 1) = false
  none' : ∀ m, a ≤ m → m < a + k → turnIn st.1 m = none → f m = true → st.2.2 = true ∧ st.2.1 ≤ m
theorem spI (f : Int → Bool) (a : Int) : ∀ k, SpI f a k (spSt f a k)
  | 0 => ⟨(by intro h; cases h), (by simp [spSt]), fun m t h1 h2 => (by omega), fun m h1 h2 => (by omega)⟩
  | k + 1 => by
    have h := spI f a k
    obtain ⟨h1, h2, h3, h4⟩ := h
    unfold spSt
    generalize spSt f a k = st at *
    obtain ⟨l, fr, o⟩ := st
    dsimp only at h1 h2 h3 h4 ⊢
    have past : turnIn l (a + k) = none := turnIn_past (fun x hx => by have := (h2 x hx).1; omega)
    by_cases hf : f (a + k) = true
    · rw [if_pos hf]
      cases o with
      | true =>
        obtain ⟨r1, r2, r3⟩ := h1 rfl
        rw [if_pos rfl]
        refine ⟨fun _ => ⟨r1, by show fr < a + ((k + 1 : Nat) : Int); omega, fun x x1 x2 => ?_⟩, fun x hx => ?_, fun m t m1 m2 ht => ?_, fun m m1 m2 ht hm => ?_⟩
        · by_cases hx : x = a + k
          · rw [hx]; exact hf
          · exact r3 x x1 (by omega)
        · have := h2 x hx
          exact ⟨by omega, this.2⟩
        · by_cases hm : m = a + k
          · rw [hm] at ht; rw [show turnIn l (a + k) = none from past] at ht; cases ht
          · obtain ⟨t1, t2, t3, t4⟩ := h3 m t m1 (by omega) ht
            exact ⟨t1, by omega, t3, t4⟩
        · by_cases hm' : m = a + k
          · exact ⟨rfl, by show fr ≤ m; omega⟩
          · exact h4 m m1 (by omega) ht hm
      | false =>
        rw [if_neg (by decide)]
        refine ⟨fun _ => ⟨by show a ≤ a + (k : Int); omega, by show a + (k : Int) < a + ((k + 1 : Nat) : Int); omega, fun x x1 x2 => ?_⟩, fun x hx => ?_, fun m t m1 m2 ht => ?_, fun m m1 m2 ht hm => ?_⟩
        · have x1' : a + (k : Int) ≤ x := x1
          rw [show x = a + k by omega]; exact hf
        · have := (h2 x hx).1
          exact ⟨by omega, fun _ => by show x.2 < a + (k : Int); omega⟩
        · by_cases hm : m = a + k
          · rw [hm] at ht; rw [show turnIn l (a + k) = none from past] at ht; cases ht
          · obtain ⟨t1, t2, t3, t4⟩ := h3 m t m1 (by omega) ht
            exact ⟨t1, by omega, t3, t4⟩
        · by_cases hm' : m = a + k
          · exact ⟨rfl, by show a + (k : Int) ≤ m; omega⟩
          · have := (h4 m m1 (by omega) ht hm).1; cases this
    · rw [if_neg hf]
      have hf' : f (a + k) = false := by simpa using hf
      cases o with
      | true =>
        obtain ⟨r1, r2, r3⟩ := h1 rfl
        rw [if_pos rfl]
        have one : ∀ m, turnIn [(fr, a + (k : Int) - 1)] m = if fr ≤ m ∧ m ≤ a + k - 1 then some (a + (k : Int) - 1) else none := fun m => by rw [turnIn_cons]; rfl
        refine ⟨(by intro h; cases h), fun x hx => ?_, fun m t m1 m2 ht => ?_, fun m m1 m2 ht hm => ?_⟩
        · refine ⟨?_, (by intro h; cases h)⟩
          rw [List.mem_append, List.mem_singleton] at hx
          rcases hx with hx | rfl
          · have := (h2 x hx).1; omega
          · show a + (k : Int) - 1 + 1 < _; omega
        · have ht' : (turnIn l m).or (turnIn [(fr, a + (k : Int) - 1)] m) = some t := by rw [← turnIn_append]; exact ht
          have hk1 : m ≠ a + k ∨ m = a + k := by omega
          rcases hk1 with hm | hm
          · cases hl : turnIn l m with
            | some t' =>
              rw [hl, Option.some_or] at ht'
              cases ht'
              obtain ⟨t1, t2, t3, t4⟩ := h3 m t m1 (by omega) hl
              exact ⟨t1, by omega, t3, t4⟩
            | none =>
              rw [hl, Option.none_or, one] at ht'
              split at ht'
              · next hc =>
                cases ht'
                refine ⟨hc.2, by omega, fun x x1 x2 => r3 x (by omega) (by omega), ?_⟩
                rw [show a + (k : Int) - 1 + 1 = a + k by omega]; exact hf'
              · cases ht'
          · rw [hm, past, Option.none_or, one, if_neg (by omega)] at ht'; cases ht'
        · have ht' : (turnIn l m).or (turnIn [(fr, a + (k : Int) - 1)] m) = none := by rw [← turnIn_append]; exact ht
          have hk1 : m ≠ a + k ∨ m = a + k := by omega
          rcases hk1 with hm' | hm'
          · cases hl : turnIn l m with
            | some t' => rw [hl, Option.some_or] at ht'; cases ht'
            | none =>
              rw [hl, Option.none_or, one] at ht'
              have := h4 m m1 (by omega) hl hm
              rw [if_pos (by omega)] at ht'; cases ht'
          · rw [hm', hf'] at hm; cases hm
      | false =>
        rw [if_neg (by decide)]
        refine ⟨(by intro h; cases h), fun x hx => ⟨?_, (by intro h; cases h)⟩, fun m t m1 m2 ht => ?_, fun m m1 m2 ht hm => ?_⟩
        · have := (h2 x hx).1; omega
        · by_cases hm : m = a + k
          · rw [hm] at ht; rw [show turnIn l (a + k) = none from past] at ht; cases ht
          · obtain ⟨t1, t2, t3, t4⟩ := h3 m t m1 (by omega) ht
            exact ⟨t1, by omega, t3, t4⟩
        · by_cases hm' : m = a + k
          · rw [hm', hf'] at hm; cases hm
          · exact h4 m m1 (by omega) ht hm
theorem turn_run (f : Int → Bool) (a : Int) (n : Nat) (m : Int) (h0 : a ≤ m) (h1 : m < a + n) :
    (f m = true → ∃ t, turnIn (spansOf f a n) m = some t ∧ RunTo f (a + n) m t) ∧ (f m = false → turnIn (spansOf f a n) m = none) := by
  obtain ⟨i1, i2, i3, i4⟩ := spI f a n
  unfold spansOf
  generalize spSt f a n = st at *
  obtain ⟨l, fr, o⟩ := st
  dsimp only at i1 i2 i3 i4 ⊢
  have inl : ∀ t, turnIn l m = some t → RunTo f (a + n) m t := fun t ht => by
    obtain ⟨t1, t2, t3, t4⟩ := i3 m t h0 h1 ht
    exact ⟨t1, by omega, t3, fun _ => t4⟩
  cases o with
  | true =>
    obtain ⟨r1, r2, r3⟩ := i1 rfl
    rw [if_pos rfl, turnIn_append]
    have one : turnIn [(fr, a + (n : Int) - 1)] m = if fr ≤ m ∧ m ≤ a + n - 1 then some (a + (n : Int) - 1) else none := by rw [turnIn_cons]; rfl
    cases hl : turnIn l m with
    | some t =>
      have hr := inl t hl
      refine ⟨fun _ => ⟨t, by rw [Option.some_or], hr⟩, fun hm => ?_⟩
      rw [hr.2.2.1 m (Int.le_refl _) hr.1] at hm; cases hm
    | none =>
      rw [Option.none_or, one]
      refine ⟨fun hm => ?_, fun hm => ?_⟩
      · have := (i4 m h0 h1 hl hm).2
        refine ⟨a + n - 1, if_pos (by omega), by omega, by omega, fun x x1 x2 => r3 x (by omega) (by omega), fun h => by omega⟩
      · by_cases hc : fr ≤ m
        · rw [r3 m hc h1] at hm; cases hm
        · rw [if_neg (by omega)]
  | false =>
    rw [if_neg (by decide)]
    cases hl : turnIn l m with
    | some t =>
      have hr := inl t hl
      refine ⟨fun _ => ⟨t, rfl, hr⟩, fun hm => ?_⟩
      rw [hr.2.2.1 m (Int.le_refl _) hr.1] at hm; cases hm
    | none =>
      refine ⟨fun hm => ?_, fun _ => rfl⟩
      have := (i4 m h0 h1 hl hm).1; cases this
theorem RunTo.le {f g : Int → Bool} {e m t u : Int} (h : RunTo f e m t) (k : RunTo g e m u) (hfg : ∀ x, g x = true → f x = true) : u ≤ t := by
  obtain ⟨h1, h2, h3, h4⟩ := h
  obtain ⟨k1, k2, k3, k4⟩ := k
  by_cases hc : t < u
  · have := h4 (by omega)
    rw [hfg _ (k3 (t + 1) (by omega) (by omega))] at this; cases this
  · omega
theorem fitB_one (s : Sd) (p : Int) (pd : Int → Bool) (m : Int) : fitB s [p] pd m = pd (st s m p.toNat) := by simp [fitB]
section
variable {s : Sd}
/-- until when one can stay -/
theorem turn_in (ok : Ok s) {x : Int} (hx : 0 ≤ x ∧ x < s.floors.length) {m : Int} (hm : inDay s m = true) :
    (st s m x.toNat = 0 → errTurn s x m = 0 ∧ RunTo (fun y => st s y x.toNat == 0) (lastM s.table + 1) m (turnV s x m)) ∧ (st s m x.toNat ≠ 0 → errTurn s x m = 6) := by
  obtain ⟨f0, f1, f2⟩ := firstM_lt ok.table
  obtain ⟨m0, m1⟩ : firstM s.table ≤ m ∧ m ≤ lastM s.table := inB_true.1 hm
  have hd : firstM s.table + (dayN s : Int) = lastM s.table + 1 := by unfold dayN; omega
  have k := turn_run (dryB s [x]) (firstM s.table) (dayN s) m m0 (by omega)
  rw [hd] at k
  have e : dryB s [x] = fun y => st s y x.toNat == 0 := by funext y; unfold dryB; rw [fitB_one]
  unfold errTurn turnV drySpans
  rw [if_pos (errFor_in ok hx), if_pos hm, if_pos (errFor_in ok hx), if_pos hm]
  rw [e] at k ⊢
  refine ⟨fun h => ?_, fun h => ?_⟩
  · obtain ⟨t, ht, hr⟩ := k.1 (by simp [h])
    rw [ht]
    exact ⟨rfl, hr⟩
  · rw [k.2 (by simp [h])]
end

section
variable {s : Sd} {may : Nat → Nat → Bool}
theorem wayAt_nat (ws : Ways) (t : Nat) : wayAt ws (t : Int) = ws[t]?.getD none := rfl
/-- which places are reached -/
abbrev Got (ws : Ways) (t : Nat) : Prop := ∃ l, ws[t]? = some (some l)
theorem leadW_got {way : List Int} {nS nF : Nat} (st : Ways × List Int) (x : Lead nS nF) (t : Nat) (h : Got st.1 t) : Got (leadW may way st x).1 t := by
  unfold leadW
  split
  · next hc =>
    obtain ⟨l, hl⟩ := h
    by_cases e : x.1.2 = t
    · rw [e] at hc; rw [hl] at hc; exact absurd hc.1 (by simp)
    · exact ⟨l, by show (st.1.set _ _)[t]? = _; rw [List.getElem?_set_ne e]; exact hl⟩
  · exact h
theorem leadW_que {way : List Int} {nS nF : Nat} (st : Ways × List Int) (x : Lead nS nF) (t : Nat) (h : (t : Int) ∈ st.2) : (t : Int) ∈ (leadW may way st x).2 := by
  unfold leadW
  split
  · exact List.mem_append_left _ h
  · exact h
theorem leadW_new' {way : List Int} {nS nF : Nat} (st : Ways × List Int) (x : Lead nS nF) (t : Nat) (h : Got (leadW may way st x).1 t) : Got st.1 t ∨ (t : Int) ∈ (leadW may way st x).2 ∧ may x.1.1 t = true := by
  unfold leadW at h ⊢
  split at h
  · next hc =>
    rw [if_pos hc]
    by_cases e : x.1.2 = t
    · exact Or.inr ⟨by rw [← e]; simp, by rw [← e]; exact hc.2⟩
    · obtain ⟨l, hl⟩ := h
      rw [show (st.1.set x.1.2 (some (way ++ [(x.1.1 : Int)])))[t]? = st.1[t]? from List.getElem?_set_ne e] at hl
      exact Or.inl ⟨l, hl⟩
  · exact Or.inl h
theorem leadW_done {way : List Int} {nS nF : Nat} (st : Ways × List Int) (x : Lead nS nF) (h8 : nF ≤ 8) (hl : st.1.length = 8) (hm : may x.1.1 x.1.2 = true) : Got (leadW may way st x).1 x.1.2 := by
  have hx := x.2.2
  have hlt : x.1.2 < st.1.length := by omega
  unfold leadW
  split
  · exact ⟨_, by show (st.1.set _ _)[_]? = _; rw [List.getElem?_set_self hlt]⟩
  · next hc =>
    cases e : st.1[x.1.2] with
    | none => exact absurd ⟨by rw [List.getElem?_eq_getElem hlt, e], hm⟩ hc
    | some l => exact ⟨l, by rw [List.getElem?_eq_getElem hlt, e]⟩
theorem leadW_len {way : List Int} {nS nF : Nat} (st : Ways × List Int) (x : Lead nS nF) : (leadW may way st x).1.length = st.1.length := by
  unfold leadW
  split
  · simp
  · rfl
/-- behind a row of leads -/
theorem led_all {way : List Int} {nS nF : Nat} (h8 : nF ≤ 8) : ∀ (l : List (Lead nS nF)) (st : Ways × List Int), st.1.length = 8 →
    (l.foldl (leadW may way) st).1.length = 8 ∧ (∀ t, Got st.1 t → Got (l.foldl (leadW may way) st).1 t) ∧ (∀ t : Nat, (t : Int) ∈ st.2 → (t : Int) ∈ (l.foldl (leadW may way) st).2) ∧
    (∀ t, Got (l.foldl (leadW may way) st).1 t → Got st.1 t ∨ (t : Int) ∈ (l.foldl (leadW may way) st).2 ∧ ∃ i, may i t = true) ∧ (∀ x ∈ l, may x.1.1 x.1.2 = true → Got (l.foldl (leadW may way) st).1 x.1.2)
  | [], st, hl => ⟨hl, fun _ h => h, fun _ h => h, fun _ h => Or.inl h, fun x hx => by simp at hx⟩
  | y :: r, st, hl => by
    obtain ⟨h1, h2, h3, h4, h5⟩ := led_all (way := way) h8 r (leadW may way st y) (by rw [leadW_len]; exact hl)
    rw [List.foldl_cons]
    refine ⟨h1, fun t h => h2 t (leadW_got st y t h), fun t h => h3 t (leadW_que st y t h), fun t h => ?_, fun x hx hm => ?_⟩
    · rcases h4 t h with h | h
      · rcases leadW_new' st y t h with h | ⟨h, hm⟩
        · exact Or.inl h
        · exact Or.inr ⟨h3 t h, y.1.1, hm⟩
      · exact Or.inr h
    · rcases List.mem_cons.1 hx with rfl | hx
      · exact h2 _ (leadW_done st x h8 hl hm)
      · exact h5 x hx hm

/-- closed: what is led to from the Sea, or from places that were reached and are done, is reached -/
structure Shut (s : Sd) (may : Nat → Nat → Bool) (st : Ways × List Int) : Prop where
  len : st.1.length = 8
  sea : ∀ x ∈ leads s.sills s.floors.length (-1) s.sills.length, may x.1.1 x.1.2 = true → Got st.1 x.1.2
  on : ∀ f : Nat, Got st.1 f → (f : Int) ∈ st.2 ∨ ∀ x ∈ leads s.sills s.floors.length f s.sills.length, may x.1.1 x.1.2 = true → Got st.1 x.1.2
  may' : ∀ t, Got st.1 t → ∃ i, may i t = true
  few : st.2.length + nones st.1 ≤ 8
  nat : ∀ y ∈ st.2, 0 ≤ y ∧ y < s.floors.length
theorem Shut.start (h8 : s.floors.length ≤ 8) : Shut s may (ledW s may (-1) [] (List.replicate 8 none, [])) := by
  obtain ⟨h1, h2, h3, h4, h5⟩ := led_all (way := []) (may := may) h8 (leads s.sills s.floors.length (-1) s.sills.length) (List.replicate 8 none, []) rfl
  have no : ∀ t, ¬ Got (List.replicate 8 (none : Option (List Int))) t := fun t ⟨l, hl⟩ => by
    rw [List.getElem?_replicate] at hl
    split at hl <;> cases hl
  obtain ⟨k1, k2⟩ := foldW_keeps (may := may) (way := []) (leads s.sills s.floors.length (-1) s.sills.length) (List.replicate 8 none, [])
  refine ⟨h1, h5, fun f hf => ?_, fun t ht => ?_, ?_, fun y hy => ?_⟩
  · rcases h4 f hf with h | h
    · exact absurd h (no f)
    · exact Or.inl h.1
  · rcases h4 t ht with h | h
    · exact absurd h (no t)
    · exact h.2
  · unfold ledW
    rw [k1]
    decide
  · rcases k2 y hy with h | h
    · simp at h
    · exact h
theorem Shut.next (h8 : s.floors.length ≤ 8) {ws : Ways} {x : Int} {q : List Int} (h : Shut s may (ws, x :: q)) (way : List Int) : Shut s may (ledW s may x way (ws, q)) ∧ (ledW s may x way (ws, q)).2.length + nones (ledW s may x way (ws, q)).1 + 1 = (x :: q).length + nones ws := by
  obtain ⟨h1, h2, h3, h4, h5⟩ := led_all (way := way) (may := may) h8 (leads s.sills s.floors.length x s.sills.length) (ws, q) h.len
  obtain ⟨k1, k2⟩ := foldW_keeps (may := may) (way := way) (leads s.sills s.floors.length x s.sills.length) (ws, q)
  have hc : (ledW s may x way (ws, q)).2.length + nones (ledW s may x way (ws, q)).1 + 1 = (x :: q).length + nones ws := by
    unfold ledW
    rw [k1]
    simp only [List.length_cons]; omega
  have hx := h.nat x (by simp)
  refine ⟨⟨h1, fun y hy hm => h2 _ (h.sea y hy hm), fun f hf => ?_, fun t ht => ?_, ?_, fun y hy => ?_⟩, hc⟩
  · by_cases e : (f : Int) = x
    · subst e
      exact Or.inr (fun y hy hm => h5 y hy hm)
    · rcases h4 f hf with hg | hg
      · rcases h.on f hg with hq | hq
        · rcases List.mem_cons.1 hq with h' | h'
          · exact absurd h' e
          · exact Or.inl (h3 f h')
        · exact Or.inr (fun y hy hm => h2 _ (hq y hy hm))
      · exact Or.inl hg.1
  · rcases h4 t ht with hg | hg
    · exact h.may' t hg
    · exact hg.2
  · have := h.few
    simp only at this
    omega
  · rcases k2 y hy with hg | hg
    · exact h.nat y (by simp; exact Or.inr hg)
    · exact hg
theorem goW_shut (h8 : s.floors.length ≤ 8) : ∀ n (st : Ways × List Int), Shut s may st → st.2.length + nones st.1 ≤ n → Shut s may (goW s may n st) ∧ (goW s may n st).2 = []
  | 0, (ws, q), h, hn => by
    have : q = [] := List.length_eq_zero_iff.1 (by simp only at hn; omega)
    subst this
    exact ⟨h, rfl⟩
  | n + 1, (ws, []), h, _ => ⟨h, rfl⟩
  | n + 1, (ws, x :: q), h, hn => by
    obtain ⟨k1, k2⟩ := h.next h8 ((wayAt ws x).getD [])
    refine goW_shut h8 n _ k1 ?_
    simp only at hn
    omega
theorem waysOf_shut (h8 : s.floors.length ≤ 8) : (∀ x ∈ leads s.sills s.floors.length (-1) s.sills.length, may x.1.1 x.1.2 = true → Got (waysOf s may) x.1.2) ∧
    (∀ f : Nat, Got (waysOf s may) f → ∀ x ∈ leads s.sills s.floors.length f s.sills.length, may x.1.1 x.1.2 = true → Got (waysOf s may) x.1.2) ∧ (∀ t, Got (waysOf s may) t → ∃ i, may i t = true) := by
  obtain ⟨h, hq⟩ := goW_shut (s := s) (may := may) h8 8 _ (Shut.start h8) (Shut.start h8).few
  refine ⟨h.sea, fun f hf => ?_, h.may'⟩
  rcases h.on f hf with hm | hm
  · rw [hq] at hm; simp at hm
  · exact hm
end

section
variable {s : Sd}
/-- no lesser than the gate of q at places that are not reached without going over q -/
def Beh (U : Nat → Prop) (q : Nat) (g : List Int) : Prop := ∀ x, x < g.length → U x → g[q]?.getD 0 ≤ g[x]?.getD 0
theorem Beh.set {U : Nat → Prop} {q : Nat} {g : List Int} (h : Beh U q g) (t : Nat) (c : Int) (hc : t ≠ q → U t → g[q]?.getD 0 ≤ c) : Beh U q (g.set t (min (g[t]?.getD 0) c)) := by
  intro x hx hu
  rw [List.length_set] at hx
  have k := h x hx hu
  rw [List.getElem?_set, List.getElem?_set]
  by_cases e1 : t = q
  · subst e1
    by_cases e2 : t = x
    · subst e2; exact Int.le_refl _
    · rw [if_pos rfl, if_neg e2]
      by_cases hl : t < g.length
      · rw [if_pos hl, Option.getD_some]; omega
      · rw [if_neg hl]
        rw [List.getElem?_eq_none (by omega)] at k
        exact k
  · rw [if_neg e1]
    by_cases e2 : t = x
    · subst e2
      have := hc e1 hu
      rw [if_pos rfl, if_pos hx, Option.getD_some]; omega
    · rw [if_neg e2]; exact k
theorem beh_low1 {U : Nat → Prop} {q : Nat} : ∀ (l : List (Lead s.sills.length s.floors.length)) (g : List Int), (∀ x ∈ l, x.1.2 ≠ q → ¬ U x.1.2) → Beh U q g → Beh U q (l.foldl (low1 s) g)
  | [], _, _, h => h
  | x :: r, g, hu, h => beh_low1 r (low1 s g x) (fun y hy => hu y (by simp [hy])) (h.set _ _ (fun ht hU => absurd hU (hu x (by simp) ht)))
theorem beh_low2 {U : Nat → Prop} {q f : Nat} (hf : f < 8) : ∀ (l : List (Lead s.sills.length s.floors.length)) (g : List Int), g.length = 8 → (∀ x ∈ l, x.1.2 ≠ q → U x.1.2 → U f) → Beh U q g → Beh U q (l.foldl (low2 s f) g)
  | [], _, _, _, h => h
  | x :: r, g, hl, hu, h => beh_low2 hf r (low2 s f g x) (by simp [low2, hl]) (fun y hy => hu y (by simp [hy])) (h.set _ _ (fun ht hU => by
      have := h f (by omega) (hu x (by simp) ht hU)
      rw [grt2]; omega))
theorem beh_froms {U : Nat → Prop} {q : Nat} : ∀ (l : List Nat) (g : List Int), g.length = 8 → (∀ f ∈ l, f < 8 ∧ ∀ x ∈ leads s.sills s.floors.length f s.sills.length, x.1.2 ≠ q → U x.1.2 → U f) → Beh U q g → Beh U q (l.foldl (lowFrom s) g)
  | [], _, _, _, h => h
  | f :: r, g, hl, hu, h => beh_froms r (lowFrom s g f) (low2_len s f _ _ hl) (fun y hy => hu y (by simp [hy])) (beh_low2 (hu f (by simp)).1 _ _ hl (hu f (by simp)).2 h)
theorem behind_gts (h8 : s.floors.length ≤ 8) (q p : Nat) (hp : p < 8) (hn : ¬ Got (waysOf s (mayHold [] [(q : Int)])) p) : gateOf s q ≤ gateOf s p := by
  obtain ⟨w1, w2, w3⟩ := waysOf_shut (s := s) (may := mayHold [] [(q : Int)]) h8
  have may : ∀ i t, t ≠ q → mayHold [] [(q : Int)] i t = true := fun i t h => by simp [mayHold]; omega
  generalize hU : waysOf s (mayHold [] [(q : Int)]) = ws at *
  have key : ∀ n (g : List Int), g.length = 8 → Beh (fun x => ¬ Got ws x) q g → Beh (fun x => ¬ Got ws x) q (iterG s n g) ∧ (iterG s n g).length = 8 := by
    intro n
    induction n with
    | zero => exact fun g hl h => ⟨h, hl⟩
    | succ n ih =>
      intro g hl h
      refine ih (lowered s g) (lowered_len s g hl) ?_
      unfold lowered
      refine beh_froms _ _ (low1_len s _ _ hl) (fun f hf => ?_) (beh_low1 _ _ (fun x hx ht hu => hu (w1 x hx (may _ _ ht))) h)
      rw [List.mem_range] at hf
      exact ⟨by omega, fun x hx ht hu hf' => hu (w2 f hf' x hx (may _ _ ht))⟩
  have h9 := fun n => key n top rfl (fun x hx _ => by
    unfold top at *
    rw [List.length_replicate] at hx
    rw [List.getElem?_replicate, List.getElem?_replicate, if_pos hx]
    split <;> simp)
  unfold gateOf gts
  rw [fixG_iter]
  exact (h9 _).1 p (by rw [(h9 _).2]; exact hp) hn
theorem st_rng (s : Sd) (m : Int) (p : Nat) : st s m p = 0 ∨ st s m p = 1 ∨ st s m p = 2 := by
  unfold st
  repeat' split
  all_goals simp
theorem not_got {may : Nat → Nat → Bool} (h8 : s.floors.length ≤ 8) (t : Nat) (h : ∀ i, may i t = false) : ¬ Got (waysOf s may) t := fun hg => by
  obtain ⟨i, hi⟩ := (waysOf_shut (s := s) (may := may) h8).2.2 t hg
  rw [h i] at hi; cases hi
theorem way_none {ws : Ways} {t : Nat} : wayAt ws (t : Int) = none ↔ ¬ Got ws t := by
  rw [wayAt_nat]
  constructor
  · rintro h ⟨l, hl⟩; rw [hl] at h; cases h
  · intro h
    cases e : ws[t]? with
    | none => rfl
    | some o =>
      cases o with
      | none => rfl
      | some l => exact absurd ⟨l, e⟩ h
/-- a bank of one place alone -/
theorem hold_one (ok : Ok s) {p q : Nat} (hp : p < s.floors.length) (hq : q < s.floors.length) :
    (errHold s p [] [(q : Int)] = 0 ∨ errHold s p [] [(q : Int)] = 8) ∧ (p = q → errHold s p [] [(q : Int)] = 0) ∧
    (errHold s p [] [(q : Int)] = 0 → holdV s p [] [(q : Int)] = s.floors[q] ∧ gateOf s q ≤ gateOf s p) := by
  have h8 := ok.fl1
  have e : errHold s p [] [(q : Int)] = if wayAt (waysOf s (mayHold [] [(q : Int)])) (p : Int) = none then 0 else 8 := by
    unfold errHold
    rw [if_pos (errFor_in ok (by omega)), if_pos ⟨by simp, by
      rw [List.all_eq_true]; intro y hy
      simp only [List.mem_singleton] at hy
      subst hy
      exact inB_true.2 (by omega)⟩, if_pos ⟨by simp, by simp⟩]
    simp
  have hno : ∀ i, mayHold [] [(q : Int)] i q = false := fun i => by simp [mayHold]
  refine ⟨?_, fun h => ?_, fun h => ?_⟩
  · rw [e]; split
    · exact Or.inl rfl
    · exact Or.inr rfl
  · subst h
    rw [e, if_pos (way_none.2 (not_got h8 _ hno))]
  · have hn : wayAt (waysOf s (mayHold [] [(q : Int)])) (p : Int) = none := by
      rw [e] at h
      split at h
      · assumption
      · cases h
    refine ⟨?_, behind_gts h8 q p (by omega) (way_none.1 hn)⟩
    have hf := ok.floors s.floors[q] (List.getElem_mem hq)
    unfold holdV
    rw [if_pos h]
    simp only [leastF, leastS, List.foldl_cons, List.foldl_nil, Int.toNat_natCast, List.getElem?_eq_getElem hq, Option.getD_some]
    omega
theorem behind_st {p q : Nat} (h : gateOf s q ≤ gateOf s p) (m : Int) : st s m p ≤ st s m q := by
  unfold st
  repeat' split
  all_goals omega
theorem behind_gate (ok : Ok s) {p q : Nat} (hp : p < s.floors.length) (hq : q < s.floors.length) (h : gateOf s q ≤ gateOf s p) :
    (errGate s p = 0 ∨ errGate s p = 6) ∧ (errGate s p = 0 → errGate s q = 0 ∧ gateV s q ≤ gateV s p) := by
  rw [errGate_in ok (x := (p : Int)) (by omega), errGate_in ok (x := (q : Int)) (by omega), gateV_in ok (x := (p : Int)) (by omega), gateV_in ok (x := (q : Int)) (by omega)]
  simp only [Int.toNat_natCast]
  by_cases c : gateOf s p < 1050
  · have c' : gateOf s q < 1050 := by omega
    rw [if_pos c, if_pos c', if_pos c, if_pos c']
    exact ⟨Or.inl rfl, fun _ => ⟨rfl, h⟩⟩
  · rw [if_neg c]
    exact ⟨Or.inr rfl, fun h => by cases h⟩
theorem behind_turn (ok : Ok s) {p q : Nat} (hp : p < s.floors.length) (hq : q < s.floors.length) (h : gateOf s q ≤ gateOf s p) {m : Int} (hm : inDay s m = true) (hd : st s m q = 0) :
    errTurn s p m = 0 ∧ errTurn s q m = 0 ∧ turnV s q m ≤ turnV s p m := by
  have hp0 : st s m p = 0 := by
    have := behind_st h m
    rcases st_rng s m p with h | h | h <;> omega
  obtain ⟨a1, a2⟩ := (turn_in ok (x := (p : Int)) (by omega) hm).1 hp0
  obtain ⟨b1, b2⟩ := (turn_in ok (x := (q : Int)) (by omega) hm).1 hd
  refine ⟨a1, b1, a2.le b2 (fun x hx => ?_)⟩
  simp only [Int.toNat_natCast, beq_iff_eq] at hx ⊢
  have := behind_st h x
  rcases st_rng s x p with h | h | h <;> omega
theorem here_in (_ok : Ok s) {m : Int} (_hm : inDay s m = true) {p : Nat} (hp : p < s.floors.length) (hA : errAt s m = 0) : errHere s m p = 0 ∧ atV s m p = st s m p := by
  have e : errHere s m p = 0 := by
    unfold errHere
    rw [if_pos hA, show isPl s (p : Int) = true from inB_true.2 (by omega)]; rfl
  refine ⟨e, ?_⟩
  unfold atV
  rw [if_pos e]; rfl
end
end
end Go.Proofs.YtknaajofcbenaaaGreat
/- Plain facts: the spans of the minutes of which something is true, and the longest of them. -/
namespace Go.Proofs.YtknaajofcbenaaaGreat
section
open Go.RowKit

/-- each span is inside of the day, all of it is true, and it is as long as can be -/
structure IsRun (f : Int → Bool) (a : Int) (n : Nat) (x : Int × Int) : Prop where
  lo : a ≤ x.1
  le : x.1 ≤ x.2
  hi : x.2 < a + n
  all : ∀ y, x.1 ≤ y → y ≤ x.2 → f y = true
  left : a < x.1 → f (x.1 - 1) = false
  right : x.2 + 1 < a + n → f (x.2 + 1) = false

structure RunI (f : Int → Bool) (a : Int) (k : Nat) (st : List (Int × Int) × Int × Bool) : Prop where
  run : st.2.2 = true → a ≤ st.2.1 ∧ st.2.1 < a + k ∧ (∀ x, st.2.1 ≤ x → x < a + k → f x = true) ∧ (a < st.2.1 → f (st.2.1 - 1) = false)
  shut : st.2.2 = false → 0 < k → f (a + k - 1) = false
  mem : ∀ x ∈ st.1, a ≤ x.1 ∧ x.1 ≤ x.2 ∧ x.2 + 1 < a + k ∧ (∀ y, x.1 ≤ y → y ≤ x.2 → f y = true) ∧ (a < x.1 → f (x.1 - 1) = false) ∧ f (x.2 + 1) = false
  ord : st.1.Pairwise (fun x y => x.2 + 1 < y.1)
  ordl : st.2.2 = true → ∀ x ∈ st.1, x.2 + 1 < st.2.1 

theorem runI (f : Int → Bool) (a : Int) : ∀ k, RunI f a k (spSt f a k)
  | 0 => ⟨(by intro h; cases h), (by intro _ h; omega), (by simp [spSt]), (by simp [spSt]), (by intro h; cases h)⟩
  | k + 1 => by
    have h := runI f a k
    obtain ⟨h1, h2, h3, h4, h5⟩ := h
    unfold spSt
    generalize spSt f a k = st at *
    obtain ⟨l, fr, o⟩ := st
    dsimp only at h1 h2 h3 h4 h5 ⊢
    have ek : a + ((k + 1 : Nat) : Int) - 1 = a + k := by omega
    by_cases hf : f (a + k) = true
    · rw [if_pos hf]
      cases o with
      | true =>
        obtain ⟨r1, r2, r3, r4⟩ := h1 rfl
        rw [if_pos rfl]
        refine ⟨fun _ => ⟨r1, by show fr < a + ((k + 1 : Nat) : Int); omega, fun x x1 x2 => ?_, r4⟩, (by intro h; cases h), fun x hx => ?_, h4, fun _ => h5 rfl⟩
        · by_cases hx : x = a + k
          · rw [hx]; exact hf
          · exact r3 x x1 (by omega)
        · obtain ⟨m1, m2, m3, m4⟩ := h3 x hx
          exact ⟨m1, m2, by omega, m4⟩
      | false =>
        rw [if_neg (by decide)]
        refine ⟨fun _ => ⟨by show a ≤ a + (k : Int); omega, by show a + (k : Int) < a + ((k + 1 : Nat) : Int); omega, fun x x1 x2 => ?_, fun h => ?_⟩, (by intro h; cases h), fun x hx => ?_, h4, fun _ x hx => ?_⟩
        · have x1' : a + (k : Int) ≤ x := x1
          rw [show x = a + k by omega]; exact hf
        · have h' : a < a + (k : Int) := h
          exact h2 rfl (by omega)
        · obtain ⟨m1, m2, m3, m4⟩ := h3 x hx
          exact ⟨m1, m2, by omega, m4⟩
        · have := (h3 x hx).2.2.1
          show x.2 + 1 < a + (k : Int)
          exact this
    · rw [if_neg hf]
      have hf' : f (a + k) = false := by simpa using hf
      cases o with
      | true =>
        obtain ⟨r1, r2, r3, r4⟩ := h1 rfl
        rw [if_pos rfl]
        refine ⟨(by intro h; cases h), fun _ _ => by rw [ek]; exact hf', fun x hx => ?_, ?_, (by intro h; cases h)⟩
        · rw [List.mem_append, List.mem_singleton] at hx
          rcases hx with hx | rfl
          · obtain ⟨m1, m2, m3, m4⟩ := h3 x hx
            exact ⟨m1, m2, by omega, m4⟩
          · refine ⟨r1, by show fr ≤ a + (k : Int) - 1; omega, by show a + (k : Int) - 1 + 1 < _; omega, fun y y1 y2 => ?_, r4, ?_⟩
            · have y1' : fr ≤ y := y1
              have y2' : y ≤ a + (k : Int) - 1 := y2
              exact r3 y y1' (by omega)
            · show f (a + (k : Int) - 1 + 1) = false
              rw [show a + (k : Int) - 1 + 1 = a + k by omega]; exact hf'
        · rw [List.pairwise_append]
          refine ⟨h4, List.pairwise_singleton _ _, fun x hx y hy => ?_⟩
          rw [List.mem_singleton] at hy
          rw [hy]
          exact h5 rfl x hx
      | false =>
        rw [if_neg (by decide)]
        refine ⟨(by intro h; cases h), fun _ _ => by rw [ek]; exact hf', fun x hx => ?_, h4, (by intro h; cases h)⟩
        obtain ⟨m1, m2, m3, m4⟩ := h3 x hx
        exact ⟨m1, m2, by omega, m4⟩

theorem spans_run (f : Int → Bool) (a : Int) (n : Nat) : (∀ x ∈ spansOf f a n, IsRun f a n x) ∧ (spansOf f a n).Pairwise (fun x y => x.2 + 1 < y.1) := by
  obtain ⟨h1, h2, h3, h4, h5⟩ := runI f a n
  unfold spansOf
  generalize spSt f a n = st at *
  obtain ⟨l, fr, o⟩ := st
  dsimp only at *
  have hm : ∀ x ∈ l, IsRun f a n x := fun x hx => by
    obtain ⟨m1, m2, m3, m4, m5, m6⟩ := h3 x hx
    exact ⟨m1, m2, by omega, m4, m5, fun _ => m6⟩
  cases o with
  | true =>
    obtain ⟨r1, r2, r3, r4⟩ := h1 rfl
    rw [if_pos rfl]
    refine ⟨fun x hx => ?_, ?_⟩
    · rw [List.mem_append, List.mem_singleton] at hx
      rcases hx with hx | rfl
      · exact hm x hx
      · exact ⟨r1, by show fr ≤ a + (n : Int) - 1; omega, by show a + (n : Int) - 1 < _; omega, fun y y1 y2 => r3 y y1 (by have : y ≤ a + (n : Int) - 1 := y2; omega), r4, fun h => by have h' : a + (n : Int) - 1 + 1 < a + n := h; omega⟩
    · rw [List.pairwise_append]
      refine ⟨h4, List.pairwise_singleton _ _, fun x hx y hy => ?_⟩
      rw [List.mem_singleton] at hy
      rw [hy]
      exact h5 rfl x hx
  | false =>
    rw [if_neg (by decide)]
    exact ⟨hm, h4⟩

theorem turnIn_mem {l : List (Int × Int)} {m t : Int} (h : turnIn l m = some t) : ∃ x ∈ l, x.1 ≤ m ∧ m ≤ x.2 ∧ x.2 = t := by
  induction l with
  | nil => simp [turnIn] at h
  | cons x l ih =>
    rw [turnIn_cons] at h
    split at h
    · next hc => exact ⟨x, by simp, hc.1, hc.2, by simpa using h⟩
    · obtain ⟨y, hy, h'⟩ := ih h
      exact ⟨y, by simp [hy], h'⟩
/-- what is true all the way lies inside of one span -/
theorem spans_has (f : Int → Bool) (a : Int) (n : Nat) {lo hi : Int} (h0 : a ≤ lo) (h1 : lo ≤ hi) (h2 : hi < a + n) (h : ∀ y, lo ≤ y → y ≤ hi → f y = true) : ∃ x ∈ spansOf f a n, x.1 ≤ lo ∧ hi ≤ x.2 := by
  obtain ⟨t, ht, r⟩ := (turn_run f a n lo h0 (by omega)).1 (h lo (Int.le_refl _) h1)
  obtain ⟨x, hx, x1, x2, rfl⟩ := turnIn_mem ht
  refine ⟨x, hx, x1, ?_⟩
  obtain ⟨r1, r2, r3, r4⟩ := r
  by_cases hc : x.2 < hi
  · have := r4 (by omega)
    rw [h _ (by omega) (by omega)] at this
    cases this
  · omega

def longStep (b x : Int × Int) : Int × Int := if siz b < siz x then x else b
/-- the first of the longest spans -/
def longV : List (Int × Int) → Int × Int
  | [] => (0, 0)
  | a :: r => (a :: r).foldl longStep a
theorem long_fold : ∀ (l : List (Int × Int)) (a : Int × Int), (l.foldl longStep a = a ∨ l.foldl longStep a ∈ l) ∧ siz a ≤ siz (l.foldl longStep a) ∧ ∀ x ∈ l, siz x ≤ siz (l.foldl longStep a)
  | [], a => ⟨.inl rfl, Int.le_refl _, by simp⟩
  | x :: r, a => by
    obtain ⟨h1, h2, h3⟩ := long_fold r (longStep a x)
    rw [List.foldl_cons]
    have k : siz a ≤ siz (longStep a x) ∧ siz x ≤ siz (longStep a x) ∧ (longStep a x = a ∨ longStep a x = x) := by
      unfold longStep
      split
      · exact ⟨by omega, Int.le_refl _, .inr rfl⟩
      · exact ⟨Int.le_refl _, by omega, .inl rfl⟩
    obtain ⟨k1, k2, k3⟩ := k
    refine ⟨?_, by omega, fun y hy => ?_⟩
    · rcases h1 with h1 | h1
      · rcases k3 with k3 | k3
        · left; rw [h1, k3]
        · right; rw [h1, k3]; simp
      · right; simp [h1]
    · rcases List.mem_cons.1 hy with rfl | hy
      · omega
      · exact h3 y hy
theorem long_spec {l : List (Int × Int)} (h : l ≠ []) : longV l ∈ l ∧ ∀ x ∈ l, siz x ≤ siz (longV l) := by
  cases l with
  | nil => exact absurd rfl h
  | cons a r =>
    obtain ⟨h1, h2, h3⟩ := long_fold (a :: r) a
    have e : longV (a :: r) = (a :: r).foldl longStep a := rfl
    rw [e]
    refine ⟨?_, h3⟩
    rcases h1 with h1 | h1
    · rw [h1]; simp
    · exact h1
/-- how long the longest span is: no run is longer, and some run is as long -/
theorem long_run (f : Int → Bool) (a : Int) (n : Nat) (h : spansOf f a n ≠ []) :
    IsRun f a n (longV (spansOf f a n)) ∧ ∀ lo hi, a ≤ lo → lo ≤ hi → hi < a + n → (∀ y, lo ≤ y → y ≤ hi → f y = true) → hi - lo ≤ (longV (spansOf f a n)).2 - (longV (spansOf f a n)).1 := by
  obtain ⟨h1, h2⟩ := long_spec h
  have hr := (spans_run f a n).1 _ h1
  refine ⟨hr, fun lo hi k0 k1 k2 k => ?_⟩
  obtain ⟨x, hx, x1, x2⟩ := spans_has f a n k0 k1 k2 k
  have e := h2 x hx
  have := hr.le
  unfold siz at e
  omega

def errLong (s : Sd) (ps : List Int) : Int := if chk s = 0 then (if ps.all (isPl s) = true then (if drySpans s ps = [] then 6 else 0) else 1) else chk s
def longestV (s : Sd) (ps : List Int) : Int × Int := if errLong s ps = 0 then longV (drySpans s ps) else (0, 0)
/-- the places that are listed, each once -/
def inPl (s : Sd) (ps : List Int) : List Int := ((List.range s.floors.length).map fun (p : Nat) => (p : Int)).filter fun p => decide (0 < ps.count p)
theorem inPl_mem (s : Sd) (ps : List Int) (p : Int) : p ∈ inPl s ps ↔ (0 ≤ p ∧ p < s.floors.length) ∧ p ∈ ps := by
  unfold inPl
  rw [List.mem_filter, decide_eq_true_eq, List.count_pos_iff]
  refine and_congr_left fun _ => ?_
  simp only [List.mem_map, List.mem_range]
  constructor
  · rintro ⟨n, hn, rfl⟩; omega
  · rintro ⟨h0, h1⟩; exact ⟨p.toNat, by omega, by omega⟩
theorem inPl_dry {s : Sd} {ps : List Int} (h : ps.all (isPl s) = true) : drySpans s (inPl s ps) = drySpans s ps := by
  have e : dryB s (inPl s ps) = dryB s ps := by
    funext m
    unfold dryB fitB
    rw [Bool.eq_iff_iff, List.all_eq_true, List.all_eq_true]
    refine forall_congr' fun p => ?_
    rw [inPl_mem]
    refine ⟨fun k hp => k ⟨?_, hp⟩, fun k hp => k hp.2⟩
    have := inB_true.1 (List.all_eq_true.1 h p hp)
    omega
  unfold drySpans
  rw [e]

/-- if the day runs backwards, the longest span is as long -/
theorem mir_long {f g : Int → Bool} {a : Int} {n : Nat} (h : ∀ m, a ≤ m → m < a + n → g (2 * a + n - 1 - m) = f m) :
    (spansOf g a n = [] ↔ spansOf f a n = []) ∧ (longV (spansOf g a n)).2 - (longV (spansOf g a n)).1 = (longV (spansOf f a n)).2 - (longV (spansOf f a n)).1 := by
  have emp : ∀ {u v : Int → Bool}, (∀ m, a ≤ m → m < a + n → v (2 * a + n - 1 - m) = u m) → spansOf v a n = [] → spansOf u a n = [] := by
    intro u v hh he
    apply Classical.byContradiction
    intro hu
    have r := (long_run u a n hu).1
    have r0 := r.lo
    have r1 := r.le
    have r2 := r.hi
    obtain ⟨x, hx, -⟩ := spans_has v a n (lo := 2 * a + n - 1 - (longV (spansOf u a n)).1) (hi := 2 * a + n - 1 - (longV (spansOf u a n)).1) (by omega) (by omega) (by omega) (fun y y0 y1 => by
      obtain rfl : y = 2 * a + n - 1 - (longV (spansOf u a n)).1 := by omega
      rw [hh _ (by omega) (by omega)]
      exact r.all _ (by omega) (by omega))
    rw [he] at hx
    cases hx
  have h' : ∀ m, a ≤ m → m < a + n → f (2 * a + n - 1 - m) = g m := fun m m0 m1 => by
    have := h (2 * a + n - 1 - m) (by omega) (by omega)
    rw [show 2 * a + (n : Int) - 1 - (2 * a + n - 1 - m) = m by omega] at this
    exact this.symm
  have le : ∀ {u v : Int → Bool}, (∀ m, a ≤ m → m < a + n → v (2 * a + n - 1 - m) = u m) → spansOf u a n ≠ [] → spansOf v a n ≠ [] → (longV (spansOf u a n)).2 - (longV (spansOf u a n)).1 ≤ (longV (spansOf v a n)).2 - (longV (spansOf v a n)).1 := by
    intro u v hh hu hv
    have r := (long_run u a n hu).1
    have r0 := r.lo
    have r1 := r.le
    have r2 := r.hi
    have k := (long_run v a n hv).2 (2 * a + n - 1 - (longV (spansOf u a n)).2) (2 * a + n - 1 - (longV (spansOf u a n)).1) (by omega) (by omega) (by omega) (fun y y0 y1 => by
      have e := hh (2 * a + n - 1 - y) (by omega) (by omega)
      rw [show 2 * a + (n : Int) - 1 - (2 * a + n - 1 - y) = y by omega] at e
      rw [e]
      exact r.all _ (by omega) (by omega))
    omega
  refine ⟨⟨emp h, emp h'⟩, ?_⟩
  by_cases hf : spansOf f a n = []
  · rw [hf, emp h' hf]
  · have hg : spansOf g a n ≠ [] := fun e => hf (emp h e)
    have k1 := le h hf hg
    have k2 := le h' hg hf
    omega
end
end Go.Proofs.YtknaajofcbenaaaGreat
/- Plain facts: the gates that the law finds by itself, letting the water rise from height to height, are the gates of the layer. -/
namespace Go.Proofs.YtknaajofcbenaaaGreat
section
open Go.RowKit

/-! what no sill lowers any more -/
theorem fixG_fix (s : Sd) : ∀ (n : Nat) (g : List Int), (∀ i : Nat, 0 ≤ g[i]?.getD 0) → g.sum < n → lowered s (fixG s n g) = fixG s n g
  | 0, g, h0, hs => by
    have := (sum_less g g (Less.refl h0)).2.2
    omega
  | n + 1, g, h0, hs => by
    unfold fixG
    split
    · assumption
    · next hne =>
      have hl := lowered_less s g h0
      have := (sum_less g (lowered s g) hl).2.1 hne
      exact fixG_fix s n (lowered s g) (fun i => (hl.2 i).1) (by omega)
theorem gts_fix (s : Sd) : lowered s (gts s) = gts s := fixG_fix s 9000 top top_nonneg (by decide)

theorem ap1_down : ∀ (l : List (Nat × Int)) (g : List Int) (i : Nat), i < g.length → (l.foldl ap1 g)[i]?.getD 0 ≤ g[i]?.getD 0
  | [], _, _, _ => Int.le_refl _
  | u :: r, g, i, hi => by
    refine Int.le_trans (ap1_down r (ap1 g u) i (by simp [ap1, hi])) ?_
    unfold ap1
    rw [List.getElem?_set]
    split
    · next h => subst h; rw [if_pos hi, Option.getD_some]; omega
    · exact Int.le_refl _
theorem ap2_down (f : Nat) : ∀ (l : List (Nat × Int)) (g : List Int) (i : Nat), i < g.length → (l.foldl (ap2 f) g)[i]?.getD 0 ≤ g[i]?.getD 0
  | [], _, _, _ => Int.le_refl _
  | u :: r, g, i, hi => by
    refine Int.le_trans (ap2_down f r (ap2 f g u) i (by simp [ap2, hi])) ?_
    unfold ap2
    rw [List.getElem?_set]
    split
    · next h => subst h; rw [if_pos hi, Option.getD_some]; omega
    · exact Int.le_refl _
theorem ap1_hit : ∀ (l : List (Nat × Int)) (g : List Int) (u : Nat × Int), u ∈ l → u.1 < g.length → (l.foldl ap1 g)[u.1]?.getD 0 ≤ u.2
  | v :: r, g, u, hu, hl => by
    have hl' : u.1 < (ap1 g v).length := by simp [ap1, hl]
    rcases List.mem_cons.1 hu with rfl | hu
    · refine Int.le_trans (ap1_down r _ u.1 hl') ?_
      unfold ap1
      rw [List.getElem?_set_self hl, Option.getD_some]
      omega
    · exact ap1_hit r _ u hu hl'
theorem ap2_hit (f : Nat) : ∀ (l : List (Nat × Int)) (g : List Int) (u : Nat × Int), u ∈ l → u.1 < g.length → f < g.length → (l.foldl (ap2 f) g)[u.1]?.getD 0 ≤ max (max 0 (g[f]?.getD 0)) u.2
  | v :: r, g, u, hu, hl, hf => by
    have hl' : u.1 < (ap2 f g v).length := by simp [ap2, hl]
    rcases List.mem_cons.1 hu with rfl | hu
    · refine Int.le_trans (ap2_down f r _ u.1 hl') ?_
      unfold ap2
      rw [List.getElem?_set_self hl, Option.getD_some, grt2]
      omega
    · have h1 := ap2_hit f r _ u hu hl' (by simp [ap2, hf])
      have h2 := ap2_down f [v] g f hf
      simp only [List.foldl_cons, List.foldl_nil] at h2
      show (r.foldl (ap2 f) (ap2 f g v))[u.1]?.getD 0 ≤ _
      omega
theorem low_len (s : Sd) (l : List Nat) (g : List Int) (h : g.length = 8) : (l.foldl (lowFrom s) g).length = 8 := lowFroms_len s l g h
theorem froms_down (s : Sd) : ∀ (l : List Nat) (g : List Int), g.length = 8 → ∀ i, i < 8 → (l.foldl (lowFrom s) g)[i]?.getD 0 ≤ g[i]?.getD 0
  | [], _, _, _, _ => Int.le_refl _
  | f :: r, g, hg, i, hi => by
    have hl : (lowFrom s g f).length = 8 := low2_len s f _ _ hg
    refine Int.le_trans (froms_down s r (lowFrom s g f) hl i hi) ?_
    rw [lowFrom_up]
    exact ap2_down f _ g i (by omega)
theorem froms_hit (s : Sd) : ∀ (l : List Nat) (g : List Int), g.length = 8 → ∀ f ∈ l, f < 8 → ∀ u ∈ s.sills.filterMap (up1 s.floors f), u.1 < 8 → (l.foldl (lowFrom s) g)[u.1]?.getD 0 ≤ max (max 0 (g[f]?.getD 0)) u.2
  | e :: r, g, hg, f, hf, h8, u, hu, hu8 => by
    have hl : (lowFrom s g e).length = 8 := low2_len s e _ _ hg
    rcases List.mem_cons.1 hf with rfl | hf
    · refine Int.le_trans (froms_down s r _ hl u.1 hu8) ?_
      rw [lowFrom_up]
      exact ap2_hit f _ g u hu (by omega) (by omega)
    · have h1 := froms_hit s r _ hl f hf h8 u hu hu8
      have h2 : (lowFrom s g e)[f]?.getD 0 ≤ g[f]?.getD 0 := by rw [lowFrom_up]; exact ap2_down e _ g f (by omega)
      show (r.foldl (lowFrom s) (lowFrom s g e))[u.1]?.getD 0 ≤ _
      omega
/-- what a sill joins: no gate is above what lets water over it -/
theorem gate_sea (s : Sd) (h8 : s.floors.length ≤ 8) (x : Int × Int × Int) (hx : x ∈ s.sills) (b : Nat) (hb : other x (-1) = b) (hbl : b < s.floors.length) : gateOf s b ≤ max (max 0 x.2.2) (s.floors[b]?.getD 0) := by
  have hu : (b, grt [x.2.2, s.floors[b]?.getD 0]) ∈ s.sills.filterMap (up1 s.floors (-1)) := by
    refine List.mem_filterMap.2 ⟨x, hx, ?_⟩
    unfold up1
    rw [hb, if_pos ⟨by omega, by simpa using hbl⟩]
    rfl
  have h0 : (lowSea s (gts s))[b]?.getD 0 ≤ max (max 0 x.2.2) (s.floors[b]?.getD 0) := by
    rw [lowSea_up]
    exact ap1_hit _ _ _ hu (by rw [gts_len]; exact Nat.lt_of_lt_of_le hbl h8)
  have h1 := froms_down s (List.range s.floors.length) (lowSea s (gts s)) (low1_len s _ _ (gts_len s)) b (by omega)
  have h2 := gts_fix s
  unfold lowered at h2
  rw [h2] at h1
  unfold gateOf
  omega
theorem gate_from (s : Sd) (h8 : s.floors.length ≤ 8) (x : Int × Int × Int) (hx : x ∈ s.sills) (f b : Nat) (hf : f < s.floors.length) (hb : other x f = b) (hbl : b < s.floors.length) : gateOf s b ≤ max (max 0 (gateOf s f)) (max (max 0 x.2.2) (s.floors[b]?.getD 0)) := by
  have hu : (b, grt [x.2.2, s.floors[b]?.getD 0]) ∈ s.sills.filterMap (up1 s.floors f) := by
    refine List.mem_filterMap.2 ⟨x, hx, ?_⟩
    unfold up1
    rw [hb, if_pos ⟨by omega, by simpa using hbl⟩]
    rfl
  have hs : (lowSea s (gts s)).length = 8 := low1_len s _ _ (gts_len s)
  have h1 := froms_hit s (List.range s.floors.length) (lowSea s (gts s)) hs f (List.mem_range.2 hf) (by omega) _ hu (by simp only; omega)
  have h3 : (lowSea s (gts s))[f]?.getD 0 ≤ (gts s)[f]?.getD 0 := by rw [lowSea_up]; exact ap1_down _ _ f (by rw [gts_len]; omega)
  have h2 := gts_fix s
  unfold lowered at h2
  rw [h2] at h1
  simp only [grt2] at h1
  unfold gateOf
  omega

/-! invariants of lowering, by its updates -/
theorem inv_iter (s : Sd) (_h8 : s.floors.length ≤ 8) (I : List Int → Prop)
    (sea : ∀ (g : List Int) (x : Int × Int × Int) (b : Nat), g.length = 8 → x ∈ s.sills → other x (-1) = b → b < s.floors.length → I g → I (g.set b (min (g[b]?.getD 0) (max (max 0 x.2.2) (s.floors[b]?.getD 0)))))
    (from' : ∀ (g : List Int) (x : Int × Int × Int) (f b : Nat), g.length = 8 → x ∈ s.sills → f < s.floors.length → other x f = b → b < s.floors.length → I g → I (g.set b (min (g[b]?.getD 0) (max (max 0 (g[f]?.getD 0)) (max (max 0 x.2.2) (s.floors[b]?.getD 0))))))
    (h0 : I top) : I (gts s) := by
  have up : ∀ (f : Int) (x : Int × Int × Int) (u : Nat × Int), up1 s.floors f x = some u → other x f = u.1 ∧ u.1 < s.floors.length ∧ u.2 = max (max 0 x.2.2) (s.floors[u.1]?.getD 0) := by
    intro f x u hu
    unfold up1 at hu
    split at hu
    · next hc =>
      cases hu
      exact ⟨by simp only; omega, hc.2, rfl⟩
    · cases hu
  have h1 : ∀ (l : List (Int × Int × Int)) (g : List Int), (∀ x ∈ l, x ∈ s.sills) → g.length = 8 → I g → I ((l.filterMap (up1 s.floors (-1))).foldl ap1 g) := by
    intro l
    induction l with
    | nil => exact fun g _ _ h => h
    | cons x r ih =>
      intro g hx hl hI
      cases hu : up1 s.floors (-1) x with
      | none => rw [List.filterMap_cons_none hu]; exact ih g (fun y hy => hx y (by simp [hy])) hl hI
      | some u =>
        rw [List.filterMap_cons_some hu]
        obtain ⟨e1, e2, e3⟩ := up _ _ _ hu
        refine ih (ap1 g u) (fun y hy => hx y (by simp [hy])) (by simp [ap1, hl]) ?_
        unfold ap1
        rw [e3]
        exact sea g x u.1 hl (hx x (by simp)) e1 e2 hI
  have h2 : ∀ (f : Nat), f < s.floors.length → ∀ (l : List (Int × Int × Int)) (g : List Int), (∀ x ∈ l, x ∈ s.sills) → g.length = 8 → I g → I ((l.filterMap (up1 s.floors f)).foldl (ap2 f) g) := by
    intro f hf l
    induction l with
    | nil => exact fun g _ _ h => h
    | cons x r ih =>
      intro g hx hl hI
      cases hu : up1 s.floors f x with
      | none => rw [List.filterMap_cons_none hu]; exact ih g (fun y hy => hx y (by simp [hy])) hl hI
      | some u =>
        rw [List.filterMap_cons_some hu]
        obtain ⟨e1, e2, e3⟩ := up _ _ _ hu
        refine ih (ap2 f g u) (fun y hy => hx y (by simp [hy])) (by simp [ap2, hl]) ?_
        unfold ap2
        rw [e3, grt2]
        exact from' g x f u.1 hl (hx x (by simp)) hf e1 e2 hI
  have h3 : ∀ (l : List Nat) (g : List Int), (∀ f ∈ l, f < s.floors.length) → g.length = 8 → I g → I (l.foldl (lowFrom s) g) := by
    intro l
    induction l with
    | nil => exact fun g _ _ h => h
    | cons f r ih =>
      intro g hf hl hI
      refine ih (lowFrom s g f) (fun y hy => hf y (by simp [hy])) (low2_len s f _ _ hl) ?_
      rw [lowFrom_up]
      exact h2 f (hf f (by simp)) _ _ (fun _ h => h) hl hI
  have h4 : ∀ n (g : List Int), g.length = 8 → I g → I (iterG s n g) := by
    intro n
    induction n with
    | zero => exact fun g _ h => h
    | succ n ih =>
      intro g hl hI
      refine ih _ (lowered_len s g hl) ?_
      unfold lowered
      refine h3 _ _ (fun f hf => List.mem_range.1 hf) (low1_len s _ _ hl) ?_
      rw [lowSea_up]
      exact h1 _ _ (fun _ h => h) hl hI
  unfold gts
  rw [fixG_iter]
  exact h4 _ _ rfl h0

theorem set_get (g : List Int) (b i : Nat) (v : Int) (hb : b < g.length) : (g.set b v)[i]?.getD 0 = if b = i then v else g[i]?.getD 0 := by
  rw [List.getElem?_set]
  split
  · next h => first | rfl | (subst h; rw [if_pos hb]; rfl) | (subst h; simp [hb])
  · rfl
/-- low heights, low gates -/
theorem gate_low (s : Sd) (h8 : s.floors.length ≤ 8) (hF : ∀ x ∈ s.floors, 0 ≤ x ∧ x ≤ 50) (hS : ∀ x ∈ s.sills, x.2.2 ≤ 50) (p : Nat) (hp : p < 8) : gateOf s p ≤ 50 ∨ gateOf s p = 1050 := by
  have fl : ∀ b : Nat, s.floors[b]?.getD 0 ≤ 50 := fun b => by
    by_cases hb : b < s.floors.length
    · rw [List.getElem?_eq_getElem hb]; exact (hF _ (List.getElem_mem hb)).2
    · rw [List.getElem?_eq_none (by omega)]; decide
  have := inv_iter s h8 (fun g => ∀ i, i < 8 → g[i]?.getD 0 ≤ 50 ∨ g[i]?.getD 0 = 1050)
    (fun g x b hl hx hb hbl hI i hi => by
      have h1 := hI i hi
      have h2 := hI b (by omega)
      have h3 := fl b
      have h4 := hS x hx
      rw [set_get g b i _ (by omega)]
      split
      · omega
      · exact h1)
    (fun g x f b hl hx hf hb hbl hI i hi => by
      have h1 := hI i hi
      have h2 := hI b (by omega)
      have h3 := fl b
      have h4 := hS x hx
      have h5 := hI f (by omega)
      rw [set_get g b i _ (by omega)]
      split
      · omega
      · exact h1)
    (fun i hi => Or.inr (by unfold top; rw [List.getElem?_replicate, if_pos hi]; rfl))
  exact this p hp

/-! the law's own way -/
def rel1 (F : List Int) (h : Int) (g : List Int) (y : Int × Int × Int) : List Int :=
  if y.2.2 ≤ h ∧ y.2.1 ≠ -1 ∧ F[y.2.1.toNat]?.getD 0 ≤ h ∧ (y.1 = -1 ∨ g[y.1.toNat]?.getD 0 ≤ h) then g.set y.2.1.toNat (min (g[y.2.1.toNat]?.getD 0) h) else g
def turned (x : Int × Int × Int) : Int × Int × Int := (x.2.1, x.1, x.2.2)
def rel2 (F : List Int) (h : Int) (g : List Int) (x : Int × Int × Int) : List Int := rel1 F h (rel1 F h g x) (turned x)
def pass (s : Sd) (h : Int) (g : List Int) : List Int := s.sills.foldl (rel2 s.floors h) g
def passes (s : Sd) (h : Int) : Nat → List Int → List Int
  | 0, g => g
  | n + 1, g => passes s h n (pass s h g)
def lvls (s : Sd) : Nat → List Int
  | 0 => List.replicate s.floors.length 1000000
  | k + 1 => passes s k s.floors.length (lvls s k)

section
variable {F : List Int} {h : Int}
theorem rel1_len (g : List Int) (y : Int × Int × Int) : (rel1 F h g y).length = g.length := by
  unfold rel1; split
  · simp
  · rfl
theorem rel2_len (g : List Int) (y : Int × Int × Int) : (rel2 F h g y).length = g.length := by unfold rel2; rw [rel1_len, rel1_len]
/-- how many are above -/
def oc (h : Int) (g : List Int) : Nat := g.countP (fun v => decide (h < v))
theorem oc_set (h : Int) : ∀ (g : List Int) (b : Nat), b < g.length → h < g[b]?.getD 0 → oc h (g.set b (min (g[b]?.getD 0) h)) + 1 = oc h g
  | v :: r, 0, _, hv => by
    have hv' : h < v := by simpa using hv
    show oc h (min v h :: r) + 1 = oc h (v :: r)
    unfold oc
    rw [List.countP_cons, List.countP_cons, if_neg (by simp only [decide_eq_true_eq]; omega), if_pos (by simpa using hv')]
  | v :: r, b + 1, hb, hv => by
    have ih := oc_set h r b (by simpa using hb) (by simpa using hv)
    have e : (v :: r)[b + 1]?.getD 0 = r[b]?.getD 0 := by simp
    rw [e]
    show oc h (v :: r.set b _) + 1 = _
    unfold oc at ih ⊢
    rw [List.countP_cons, List.countP_cons]
    omega
theorem set_same (g : List Int) (b : Nat) (hb : b < g.length) (h : Int) (hv : g[b]?.getD 0 ≤ h) : g.set b (min (g[b]?.getD 0) h) = g := by
  rw [Int.min_eq_left hv, List.getElem?_eq_getElem hb, Option.getD_some, List.set_getElem_self]
theorem rel1_or (g : List Int) (y : Int × Int × Int) (hy : y.2.1 ≠ -1 → 0 ≤ y.2.1 ∧ y.2.1 < g.length) : rel1 F h g y = g ∨ oc h (rel1 F h g y) < oc h g := by
  unfold rel1
  split
  · next hc =>
    have hb : y.2.1.toNat < g.length := by have := hy hc.2.1; omega
    by_cases hv : g[y.2.1.toNat]?.getD 0 ≤ h
    · exact Or.inl (set_same g _ hb h hv)
    · have := oc_set h g _ hb (by omega)
      exact Or.inr (by omega)
  · exact Or.inl rfl
end
section
variable {α : Type} {f : List Int → α → List Int} {h : Int} {n : Nat} {P : α → Prop}
theorem fold_or (hf : ∀ g x, g.length = n → P x → (f g x).length = n ∧ (f g x = g ∨ oc h (f g x) < oc h g)) : ∀ (l : List α) (g : List Int), g.length = n → (∀ x ∈ l, P x) →
    (l.foldl f g).length = n ∧ (l.foldl f g = g ∧ (∀ x ∈ l, f g x = g) ∨ oc h (l.foldl f g) < oc h g)
  | [], g, hg, _ => ⟨hg, Or.inl ⟨rfl, by simp⟩⟩
  | x :: r, g, hg, hp => by
    obtain ⟨h1, h2⟩ := hf g x hg (hp x (by simp))
    obtain ⟨h3, h4⟩ := fold_or hf r (f g x) h1 (fun y hy => hp y (by simp [hy]))
    refine ⟨h3, ?_⟩
    rw [List.foldl_cons]
    rcases h2 with h2 | h2
    · rcases h4 with ⟨h4, h5⟩ | h4
      · refine Or.inl ⟨by rw [h4, h2], fun y hy => ?_⟩
        rcases List.mem_cons.1 hy with rfl | hy
        · exact h2
        · have := h5 y hy
          rw [h2] at this; exact this
      · exact Or.inr (by rw [h2] at h4 ⊢; exact h4)
    · rcases h4 with ⟨h4, h5⟩ | h4
      · exact Or.inr (by rw [h4]; exact h2)
      · exact Or.inr (by omega)
end
section
variable {s : Sd} {h : Int}
/-- an end of a sill is a place, or the Sea -/
def EndOk (n : Nat) (y : Int × Int × Int) : Prop := (y.1 = -1 ∨ 0 ≤ y.1 ∧ y.1 < n) ∧ (y.2.1 = -1 ∨ 0 ≤ y.2.1 ∧ y.2.1 < n) ∧ y.1 ≠ y.2.1
theorem EndOk.turned {n : Nat} {y : Int × Int × Int} (hy : EndOk n y) : EndOk n (turned y) := ⟨hy.2.1, hy.1, Ne.symm hy.2.2⟩
theorem EndOk.of (ok : Ok s) {x : Int × Int × Int} (hx : x ∈ s.sills) : EndOk s.floors.length x := ⟨(ok.good x hx).1, (ok.good x hx).2, ok.two x hx⟩
theorem rel2_or (g : List Int) (y : Int × Int × Int) (n : Nat) (hg : g.length = n) (hy : EndOk n y) : (rel2 s.floors h g y).length = n ∧ (rel2 s.floors h g y = g ∧ rel1 s.floors h g y = g ∧ rel1 s.floors h g (turned y) = g ∨ oc h (rel2 s.floors h g y) < oc h g) := by
  refine ⟨by rw [rel2_len]; exact hg, ?_⟩
  have h1 := rel1_or (F := s.floors) (h := h) g y (fun hn => by rcases hy.2.1 with e | e; exact absurd e hn; omega)
  have h2 := rel1_or (F := s.floors) (h := h) (rel1 s.floors h g y) (turned y) (fun hn => by rw [rel1_len]; rcases hy.1 with e | e; exact absurd e hn; exact ⟨e.1, by rw [hg]; exact e.2⟩)
  unfold rel2
  rcases h1 with h1 | h1
  · rcases h2 with h2 | h2
    · rw [h1] at h2 ⊢
      exact Or.inl ⟨h2, rfl, h2⟩
    · rw [h1] at h2 ⊢; exact Or.inr h2
  · rcases h2 with h2 | h2
    · exact Or.inr (by rw [h2]; exact h1)
    · exact Or.inr (by omega)
theorem pass_or (ok : Ok s) (g : List Int) (hg : g.length = s.floors.length) : (pass s h g).length = s.floors.length ∧ (pass s h g = g ∧ (∀ x ∈ s.sills, rel1 s.floors h g x = g ∧ rel1 s.floors h g (turned x) = g) ∨ oc h (pass s h g) < oc h g) := by
  obtain ⟨h1, h2⟩ := fold_or (h := h) (n := s.floors.length) (P := EndOk s.floors.length) (f := rel2 s.floors h) (fun g x hg hx => by
    obtain ⟨k1, k2⟩ := rel2_or (s := s) (h := h) g x _ hg hx
    refine ⟨k1, ?_⟩
    rcases k2 with k2 | k2
    · exact Or.inl k2.1
    · exact Or.inr k2) s.sills g hg (fun x hx => EndOk.of ok hx)
  refine ⟨h1, ?_⟩
  rcases h2 with ⟨h2, h3⟩ | h2
  · refine Or.inl ⟨h2, fun x hx => ?_⟩
    rcases (rel2_or (s := s) (h := h) g x _ hg (EndOk.of ok hx)).2 with k | k
    · exact k.2
    · rw [h3 x hx] at k; omega
  · exact Or.inr h2
theorem passes_len (ok : Ok s) : ∀ n (g : List Int), g.length = s.floors.length → (passes s h n g).length = s.floors.length
  | 0, _, hg => hg
  | n + 1, g, hg => passes_len ok n _ (pass_or ok g hg).1
theorem passes_fix (ok : Ok s) : ∀ n (g : List Int), g.length = s.floors.length → pass s h g = g → passes s h n g = g
  | 0, _, _, _ => rfl
  | n + 1, g, hg, hp => by
    unfold passes
    rw [hp]
    exact passes_fix ok n g hg hp
theorem passes_shut (ok : Ok s) : ∀ n (g : List Int), g.length = s.floors.length → oc h g ≤ n → pass s h (passes s h n g) = passes s h n g
  | 0, g, hg, ho => by
    rcases (pass_or (h := h) ok g hg).2 with k | k
    · exact k.1
    · omega
  | n + 1, g, hg, ho => by
    obtain ⟨h1, k⟩ := pass_or (h := h) ok g hg
    unfold passes
    rcases k with k | k
    · rw [k.1, passes_fix ok n g hg k.1]; exact k.1
    · exact passes_shut ok n _ h1 (by omega)

/-- sound at a height: what is known is the gate, and what is below is known -/
def Snd (s : Sd) (h : Int) (g : List Int) : Prop := ∀ p, p < s.floors.length → (g[p]?.getD 0 = 1000000 ∨ g[p]?.getD 0 = gateOf s p ∧ gateOf s p ≤ h) ∧ (gateOf s p < h → g[p]?.getD 0 = gateOf s p)
theorem other_to (ok : Ok s) {x : Int × Int × Int} (hx : x ∈ s.sills) {a b : Int} (hb : b ≠ -1) (hab : (a, b) = (x.1, x.2.1) ∨ (a, b) = (x.2.1, x.1)) : other x a = b := by
  have := ok.two x hx
  unfold other
  rcases hab with e | e
  · cases e; simp
  · cases e
    have : (x.2.1 == x.1) = false := by rw [beq_eq_false_iff_ne]; omega
    simp [this]
theorem gate_step (ok : Ok s) {x : Int × Int × Int} (hx : x ∈ s.sills) {a b : Int} (hb : 0 ≤ b ∧ b < s.floors.length) (ha : a = -1 ∨ 0 ≤ a ∧ a < s.floors.length) (hab : (a, b) = (x.1, x.2.1) ∨ (a, b) = (x.2.1, x.1)) (h0 : 0 ≤ h) (hh : x.2.2 ≤ h) (hF : s.floors[b.toNat]?.getD 0 ≤ h) (hg : a = -1 ∨ gateOf s a.toNat ≤ h) : gateOf s b.toNat ≤ h := by
  have ho := other_to ok hx (by omega) hab
  have e : ((b.toNat : Nat) : Int) = b := by omega
  rcases hg with hg | hg
  · subst hg
    have := gate_sea s ok.fl1 x hx b.toNat (by rw [e]; exact ho) (by omega)
    omega
  · rcases ha with ha | ha
    · subst ha
      have := gate_sea s ok.fl1 x hx b.toNat (by rw [e]; exact ho) (by omega)
      omega
    · have e2 : ((a.toNat : Nat) : Int) = a := by omega
      have := gate_from s ok.fl1 x hx a.toNat b.toNat (by omega) (by rw [e, e2]; exact ho) (by omega)
      omega
theorem snd_rel1 (ok : Ok s) {x : Int × Int × Int} (hx : x ∈ s.sills) (h0 : 0 ≤ h) (h9 : h ≤ 999) {g : List Int} (hl : g.length = s.floors.length) (hs : Snd s h g) (y : Int × Int × Int) (hy : y = x ∨ y = turned x) : Snd s h (rel1 s.floors h g y) := by
  have he : EndOk s.floors.length y := by
    rcases hy with rfl | rfl
    · exact EndOk.of ok hx
    · exact (EndOk.of ok hx).turned
  have hab : (y.1, y.2.1) = (x.1, x.2.1) ∨ (y.1, y.2.1) = (x.2.1, x.1) := by rcases hy with rfl | rfl; exact Or.inl rfl; exact Or.inr rfl
  have hyh : y.2.2 = x.2.2 := by rcases hy with rfl | rfl <;> rfl
  unfold rel1
  split
  · next hc =>
    obtain ⟨c1, c2, c3, c4⟩ := hc
    have hb : 0 ≤ y.2.1 ∧ y.2.1 < s.floors.length := by rcases he.2.1 with e | e; exact absurd e c2; exact e
    have hgb : gateOf s y.2.1.toNat ≤ h := by
      refine gate_step ok hx hb he.1 hab h0 (by omega) c3 ?_
      rcases c4 with c4 | c4
      · exact Or.inl c4
      · rcases he.1 with e | e
        · exact Or.inl e
        · refine Or.inr ?_
          have := (hs y.1.toNat (by omega)).1
          omega
    intro p hp
    have k := hs p hp
    rw [set_get g _ p _ (by omega)]
    split
    · next e =>
      subst e
      omega
    · exact k
  · exact hs
theorem snd_fold (ok : Ok s) (h0 : 0 ≤ h) (h9 : h ≤ 999) : ∀ (l : List (Int × Int × Int)) (g : List Int), (∀ x ∈ l, x ∈ s.sills) → g.length = s.floors.length → Snd s h g → Snd s h (l.foldl (rel2 s.floors h) g)
  | [], _, _, _, hs => hs
  | x :: r, g, hx, hl, hs => by
    have hm := hx x (by simp)
    refine snd_fold ok h0 h9 r _ (fun y hy => hx y (by simp [hy])) (by rw [rel2_len]; exact hl) ?_
    unfold rel2
    exact snd_rel1 ok hm h0 h9 (by rw [rel1_len]; exact hl) (snd_rel1 ok hm h0 h9 hl hs x (Or.inl rfl)) _ (Or.inr rfl)
theorem snd_passes (ok : Ok s) (h0 : 0 ≤ h) (h9 : h ≤ 999) : ∀ n (g : List Int), g.length = s.floors.length → Snd s h g → Snd s h (passes s h n g)
  | 0, _, _, hs => hs
  | n + 1, g, hl, hs => snd_passes ok h0 h9 n _ (pass_or ok g hl).1 (snd_fold ok h0 h9 _ _ (fun _ h => h) hl hs)
/-- what no pass changes any more has all gates that are not above -/
theorem shut_all (ok : Ok s) (h9 : h ≤ 999) {g : List Int} (hl : g.length = s.floors.length) (hp : pass s h g = g) (p : Nat) (hpl : p < s.floors.length) (hg : gateOf s p ≤ h) : g[p]?.getD 0 ≤ h := by
  have hall : ∀ x ∈ s.sills, rel1 s.floors h g x = g ∧ rel1 s.floors h g (turned x) = g := by
    rcases (pass_or (h := h) ok g hl).2 with k | k
    · exact k.2
    · rw [hp] at k; omega
  have key : ∀ x ∈ s.sills, ∀ a b : Int, (a, b) = (x.1, x.2.1) ∨ (a, b) = (x.2.1, x.1) → 0 ≤ b ∧ b < s.floors.length → x.2.2 ≤ h → s.floors[b.toNat]?.getD 0 ≤ h → (a = -1 ∨ g[a.toNat]?.getD 0 ≤ h) → g[b.toNat]?.getD 0 ≤ h := by
    intro x hx a b hab hb h1 h2 h3
    have hb' : b.toNat < g.length := by omega
    have hr : rel1 s.floors h g (a, b, x.2.2) = g := by
      rcases hab with e | e
      · cases e; exact (hall x hx).1
      · cases e; exact (hall x hx).2
    unfold rel1 at hr
    rw [if_pos ⟨h1, by simp only; omega, h2, h3⟩] at hr
    have e1 := congrArg (fun l => l[b.toNat]?.getD 0) hr
    simp only at e1
    rw [set_get g _ _ _ hb', if_pos rfl] at e1
    omega
  refine Decidable.byContradiction fun hc => ?_
  have := inv_iter s ok.fl1 (fun a => ∀ i, i < s.floors.length → h < g[i]?.getD 0 → h < a[i]?.getD 0)
    (fun a x b hl8 hx hb hbl hI i hi hgi => by
      rw [set_get a b i _ (by have := ok.fl1; omega)]
      split
      · next e =>
        subst e
        have h1 := hI b hi hgi
        have hne : ¬ (x.2.2 ≤ h ∧ s.floors[b]?.getD 0 ≤ h) := fun hcc => by
          have ho : (-1, (b : Int)) = (x.1, x.2.1) ∨ (-1, (b : Int)) = (x.2.1, x.1) := by
            unfold other at hb
            by_cases e1 : (-1 : Int) = x.1
            · rw [show ((-1 : Int) == x.1) = true from beq_iff_eq.2 e1] at hb
              exact Or.inl (by rw [← e1]; simp at hb; rw [hb])
            · rw [show ((-1 : Int) == x.1) = false from beq_eq_false_iff_ne.2 e1] at hb
              by_cases e2 : (-1 : Int) = x.2.1
              · rw [show ((-1 : Int) == x.2.1) = true from beq_iff_eq.2 e2] at hb
                exact Or.inr (by rw [← e2]; simp at hb; rw [hb])
              · rw [show ((-1 : Int) == x.2.1) = false from beq_eq_false_iff_ne.2 e2] at hb
                simp at hb
          have := key x hx (-1) b ho (by omega) hcc.1 (by simpa using hcc.2) (Or.inl rfl)
          simp only [Int.toNat_natCast] at this
          omega
        omega
      · exact hI i hi hgi)
    (fun a x f b hl8 hx hf hb hbl hI i hi hgi => by
      rw [set_get a b i _ (by have := ok.fl1; omega)]
      split
      · next e =>
        subst e
        have h1 := hI b hi hgi
        by_cases hgf : h < g[f]?.getD 0
        · have := hI f hf hgf
          omega
        · have hne : ¬ (x.2.2 ≤ h ∧ s.floors[b]?.getD 0 ≤ h) := fun hcc => by
            have ho : ((f : Int), (b : Int)) = (x.1, x.2.1) ∨ ((f : Int), (b : Int)) = (x.2.1, x.1) := by
              unfold other at hb
              by_cases e1 : (f : Int) = x.1
              · rw [show ((f : Int) == x.1) = true from beq_iff_eq.2 e1] at hb
                exact Or.inl (by rw [← e1]; simp at hb; rw [hb])
              · rw [show ((f : Int) == x.1) = false from beq_eq_false_iff_ne.2 e1] at hb
                by_cases e2 : (f : Int) = x.2.1
                · rw [show ((f : Int) == x.2.1) = true from beq_iff_eq.2 e2] at hb
                  exact Or.inr (by rw [← e2]; simp at hb; rw [hb])
                · rw [show ((f : Int) == x.2.1) = false from beq_eq_false_iff_ne.2 e2] at hb
                  simp at hb
            have := key x hx f b ho (by omega) hcc.1 (by simpa using hcc.2) (Or.inr (by simp only [Int.toNat_natCast]; omega))
            simp only [Int.toNat_natCast] at this
            omega
          omega
      · exact hI i hi hgi)
    (fun i hi _ => by
      have := ok.fl1
      unfold top
      rw [List.getElem?_replicate, if_pos (by omega)]
      show h < 1050
      omega)
  have h1 := this p hpl (by omega)
  unfold gateOf at hg
  omega
theorem lvls_len (ok : Ok s) : ∀ k, (lvls s k).length = s.floors.length
  | 0 => by simp [lvls]
  | k + 1 => passes_len ok _ _ (lvls_len ok k)
theorem lvls_is (ok : Ok s) : ∀ (k : Nat), k ≤ 1000 → ∀ p, p < s.floors.length → (lvls s k)[p]?.getD 0 = if gateOf s p < k then gateOf s p else 1000000
  | 0, _, p, hp => by
    have := (gts_le s p).1
    rw [if_neg (by omega)]
    unfold lvls
    rw [List.getElem?_replicate, if_pos hp]
    rfl
  | k + 1, hk, p, hp => by
    have ih := lvls_is ok k (by omega)
    have hl := lvls_len ok k
    have hs : Snd s k (lvls s k) := fun q hq => by
      have e := ih q hq
      by_cases c : gateOf s q < k
      · rw [if_pos c] at e
        exact ⟨Or.inr ⟨e, by omega⟩, fun _ => e⟩
      · rw [if_neg c] at e
        exact ⟨Or.inl e, fun h => absurd h c⟩
    have h1 := snd_passes ok (h := (k : Int)) (by omega) (by omega) s.floors.length _ hl hs
    have h2 := passes_shut (h := (k : Int)) ok s.floors.length (lvls s k) hl (by rw [← hl]; exact List.countP_le_length)
    have hl2 := passes_len (h := (k : Int)) ok s.floors.length _ hl
    show (passes s k s.floors.length (lvls s k))[p]?.getD 0 = _
    have h3 := shut_all ok (h := (k : Int)) (by omega) hl2 h2 p hp
    have h4 := (h1 p hp).1
    by_cases c : gateOf s p < ((k + 1 : Nat) : Int)
    · rw [if_pos c]
      have := h3 (by omega)
      omega
    · rw [if_neg c]
      omega
/-- the gates that the law finds -/
theorem lvls_gates (ok : Ok s) (hF : ∀ x ∈ s.floors, 0 ≤ x ∧ x ≤ 50) (hS : ∀ x ∈ s.sills, x.2.2 ≤ 50) (p : Nat) (hp : p < s.floors.length) : (lvls s 62)[p]?.getD 0 = if gateOf s p < 1050 then gateOf s p else 1000000 := by
  rw [lvls_is ok 62 (by omega) p hp]
  have := gate_low s ok.fl1 hF hS p (by have := ok.fl1; omega)
  by_cases c : gateOf s p < 1050
  · rw [if_pos c, if_pos (by omega)]
  · rw [if_neg c, if_neg (by omega)]
end
end
end Go.Proofs.YtknaajofcbenaaaGreat
/- Plain facts: the reference's least crests, by letting crests fall from sill to sill as many times as there are places. -/
namespace Go.Proofs.YtknaajofcbenaaaGreat
section
open Go.RowKit

/-- the crest over one sill more -/
def ovr (s : Sd) (g : List Int) (a b h : Int) : Int := max (max (if 0 ≤ a then g[a.toNat]?.getD 0 else 0) h) (s.floors[b.toNat]?.getD 0)
def relB (s : Sd) (ss ps : List Int) (i : Nat) (g : List Int) (a b h : Int) : List Int :=
  if 0 ≤ b ∧ (i : Int) ∉ ss ∧ b ∉ ps then g.set b.toNat (min (g[b.toNat]?.getD 0) (ovr s g a b h)) else g
def rsill (s : Sd) (ss ps : List Int) (g : List Int) (i : Nat) (x : Int × Int × Int) : List Int := relB s ss ps i (relB s ss ps i g x.1 x.2.1 x.2.2) x.2.1 x.1 x.2.2
def rpass (s : Sd) (ss ps : List Int) (g : List Int) : Nat → List Int
  | 0 => g
  | k + 1 => rsill s ss ps (rpass s ss ps g k) k (s.sills[k]?.getD (0, 0, 0))
def rounds (s : Sd) (ss ps : List Int) : Nat → List Int
  | 0 => List.replicate s.floors.length 5000
  | k + 1 => rpass s ss ps (rounds s ss ps k) s.sills.length
/-- the least crests without some sills and places -/
def lowR (s : Sd) (ss ps : List Int) : List Int := rounds s ss ps s.floors.length

section
variable {s : Sd} {ss ps : List Int} {c : Int}
theorem relB_len (i : Nat) (g : List Int) (a b h : Int) : (relB s ss ps i g a b h).length = g.length := by
  unfold relB
  split <;> simp
theorem rsill_len (g : List Int) (i : Nat) (x : Int × Int × Int) : (rsill s ss ps g i x).length = g.length := by unfold rsill; rw [relB_len, relB_len]
theorem rpass_len (g : List Int) : ∀ k, (rpass s ss ps g k).length = g.length
  | 0 => rfl
  | k + 1 => by unfold rpass; rw [rsill_len, rpass_len]
theorem rounds_len : ∀ k, (rounds s ss ps k).length = s.floors.length
  | 0 => by simp [rounds]
  | k + 1 => by unfold rounds; rw [rpass_len, rounds_len]

/-- what holds at the start, and with each sill, holds at the end -/
theorem rounds_inv (I : List Int → Prop) (h0 : I (List.replicate s.floors.length 5000))
    (step : ∀ (g : List Int) (i : Nat) (hi : i < s.sills.length) (a b : Int), g.length = s.floors.length → (a, b) = (s.sills[i].1, s.sills[i].2.1) ∨ (a, b) = (s.sills[i].2.1, s.sills[i].1) → I g → I (relB s ss ps i g a b s.sills[i].2.2)) : ∀ k, I (rounds s ss ps k)
  | 0 => h0
  | k + 1 => by
    have h := rounds_inv I h0 step k
    have hl := rounds_len (s := s) (ss := ss) (ps := ps) k
    unfold rounds
    generalize rounds s ss ps k = g at *
    have key : ∀ n, n ≤ s.sills.length → I (rpass s ss ps g n) := by
      intro n
      induction n with
      | zero => exact fun _ => h
      | succ n ih =>
        intro hn
        have h1 := ih (by omega)
        have l1 : (rpass s ss ps g n).length = s.floors.length := by rw [rpass_len, hl]
        unfold rpass rsill
        rw [List.getElem?_eq_getElem (show n < s.sills.length by omega), Option.getD_some]
        have h2 := step _ n (by omega) _ _ l1 (.inl rfl) h1
        exact step _ n (by omega) _ _ (by rw [relB_len]; exact l1) (.inr rfl) h2
    exact key _ (Nat.le_refl _)

/-- closed under what lets water of this height through -/
def ClE (s : Sd) (ss ps : List Int) (c : Int) (g : List Int) (i : Nat) (a b h : Int) : Prop :=
  0 ≤ b → (i : Int) ∉ ss → b ∉ ps → h ≤ c → s.floors[b.toNat]?.getD 0 ≤ c → (a = -1 ∨ g[a.toNat]?.getD 0 ≤ c) → g[b.toNat]?.getD 0 ≤ c
/-- the same are not above -/
def SameAt (c : Int) (g g' : List Int) : Prop := ∀ p : Nat, g'[p]?.getD 0 ≤ c ↔ g[p]?.getD 0 ≤ c
theorem SameAt.cl {g g' : List Int} (h : SameAt c g g') {i : Nat} {a b x : Int} (k : ClE s ss ps c g' i a b x) : ClE s ss ps c g i a b x := by
  intro h1 h2 h3 h4 h5 h6
  refine (h _).1 (k h1 h2 h3 h4 h5 ?_)
  rcases h6 with h6 | h6
  · exact .inl h6
  · exact .inr ((h _).2 h6)
theorem oc_le : ∀ (g g' : List Int), g'.length = g.length → (∀ p : Nat, p < g.length → g'[p]?.getD 0 ≤ g[p]?.getD 0) → oc c g' ≤ oc c g
  | [], [], _, _ => Nat.le_refl _
  | [], y :: r', h, _ => by simp at h
  | x :: r, [], h, _ => by simp at h
  | x :: r, y :: r', h, k => by
    have h0 := k 0 (by simp)
    simp only [List.getElem?_cons_zero, Option.getD_some] at h0
    have ih := oc_le r r' (by simpa using h) (fun p hp => by have := k (p + 1) (by simpa using hp); simpa using this)
    unfold oc at ih ⊢
    rw [List.countP_cons, List.countP_cons]
    by_cases e : c < y
    · rw [if_pos (by simpa using e), if_pos (by simp only [decide_eq_true_eq]; omega)]; omega
    · rw [if_neg (by simpa using e)]; omega
theorem oc_lt : ∀ (g g' : List Int) (b : Nat), g'.length = g.length → (∀ p : Nat, p < g.length → g'[p]?.getD 0 ≤ g[p]?.getD 0) → b < g.length → g'[b]?.getD 0 ≤ c → c < g[b]?.getD 0 → oc c g' < oc c g
  | [], _, _, _, _, hb, _, _ => by simp at hb
  | x :: r, [], _, h, _, _, _, _ => by simp at h
  | x :: r, y :: r', 0, h, k, _, h1, h2 => by
    have ih := oc_le (c := c) r r' (by simpa using h) (fun p hp => by have := k (p + 1) (by simpa using hp); simpa using this)
    simp only [List.getElem?_cons_zero, Option.getD_some] at h1 h2
    unfold oc at ih ⊢
    rw [List.countP_cons, List.countP_cons, if_neg (by simp only [decide_eq_true_eq]; omega), if_pos (by simpa using h2)]
    omega
  | x :: r, y :: r', b + 1, h, k, hb, h1, h2 => by
    have h0 := k 0 (by simp)
    simp only [List.getElem?_cons_zero, Option.getD_some] at h0
    have ih := oc_lt r r' b (by simpa using h) (fun p hp => by have := k (p + 1) (by simpa using hp); simpa using this) (by simpa using hb) (by simpa using h1) (by simpa using h2)
    unfold oc at ih ⊢
    rw [List.countP_cons, List.countP_cons]
    by_cases e : c < y
    · rw [if_pos (by simpa using e), if_pos (by simp only [decide_eq_true_eq]; omega)]; omega
    · rw [if_neg (by simpa using e)]; omega
theorem relB_down (i : Nat) (g : List Int) (a b h : Int) (p : Nat) (hb : b < g.length) : (relB s ss ps i g a b h)[p]?.getD 0 ≤ g[p]?.getD 0 := by
  unfold relB
  split
  · next hc =>
    rw [set_get g _ _ _ (by omega)]
    split
    · next e => subst e; omega
    · exact Int.le_refl _
  · exact Int.le_refl _
/-- one step: fewer are above, or the same; then the step is closed -/
theorem relB_or (c0 : 0 ≤ c) (i : Nat) (g : List Int) (a b h : Int) (ha : a = -1 ∨ 0 ≤ a) (hb : b < g.length) :
    oc c (relB s ss ps i g a b h) < oc c g ∨ (SameAt c g (relB s ss ps i g a b h) ∧ ClE s ss ps c g i a b h) := by
  by_cases hs : SameAt c g (relB s ss ps i g a b h)
  · right
    refine ⟨hs, fun h1 h2 h3 h4 h5 h6 => ?_⟩
    refine (hs b.toNat).1 ?_
    unfold relB
    rw [if_pos ⟨h1, h2, h3⟩, set_get g _ _ _ (by omega), if_pos rfl]
    have : ovr s g a b h ≤ c := by
      unfold ovr
      rcases h6 with rfl | h6
      · rw [if_neg (by decide)]; omega
      · split <;> omega
    omega
  · left
    have : ∃ p, ¬ ((relB s ss ps i g a b h)[p]?.getD 0 ≤ c ↔ g[p]?.getD 0 ≤ c) := Classical.not_forall.1 hs
    obtain ⟨p, hp⟩ := this
    have hd := relB_down (s := s) (ss := ss) (ps := ps) i g a b h p hb
    have h1 : (relB s ss ps i g a b h)[p]?.getD 0 ≤ c ∧ c < g[p]?.getD 0 := by
      by_cases e : g[p]?.getD 0 ≤ c
      · exact absurd ⟨fun _ => e, fun _ => by omega⟩ hp
      · refine ⟨?_, by omega⟩
        refine Decidable.byContradiction fun e' => hp ⟨fun k => absurd k e', fun k => absurd k e⟩
    have hpl : p < g.length := by
      refine Decidable.byContradiction fun e => ?_
      rw [List.getElem?_eq_none (show g.length ≤ p by omega)] at h1
      have := h1.2
      simp only [Option.getD_none] at this
      omega
    exact oc_lt g _ p (relB_len i g a b h) (fun q _ => relB_down i g a b h q hb) hpl h1.1 h1.2
/-- closed at all sills -/
def ClAll (s : Sd) (ss ps : List Int) (c : Int) (g : List Int) (n : Nat) : Prop := ∀ i (hi : i < s.sills.length), i < n → ClE s ss ps c g i s.sills[i].1 s.sills[i].2.1 s.sills[i].2.2 ∧ ClE s ss ps c g i s.sills[i].2.1 s.sills[i].1 s.sills[i].2.2
theorem SameAt.refl (g : List Int) : SameAt c g g := fun _ => Iff.rfl
theorem SameAt.trans {g g' g'' : List Int} (h : SameAt c g g') (k : SameAt c g' g'') : SameAt c g g'' := fun p => (k p).trans (h p)
theorem countP_same : ∀ {g g' : List Int}, g'.length = g.length → SameAt c g g' → oc c g' = oc c g
  | [], [], _, _ => rfl
  | [], y :: r', h, _ => by simp at h
  | x :: r, [], h, _ => by simp at h
  | x :: r, y :: r', h, k => by
    have h0 := k 0
    simp only [List.getElem?_cons_zero, Option.getD_some] at h0
    have ih := countP_same (g := r) (g' := r') (by simpa using h) (fun p => by have := k (p + 1); simpa using this)
    unfold oc at ih ⊢
    rw [List.countP_cons, List.countP_cons, ih]
    by_cases e : c < y
    · rw [if_pos (by simpa using e), if_pos (by simp only [decide_eq_true_eq]; omega)]
    · rw [if_neg (by simpa using e), if_neg (by simp only [decide_eq_true_eq]; omega)]
theorem rpass_or (ok : Ok s) (c0 : 0 ≤ c) (g : List Int) (hg : g.length = s.floors.length) : ∀ n, n ≤ s.sills.length → oc c (rpass s ss ps g n) < oc c g ∨ (SameAt c g (rpass s ss ps g n) ∧ ClAll s ss ps c g n)
  | 0, _ => .inr ⟨SameAt.refl _, fun i hi h => absurd h (by omega)⟩
  | n + 1, hn => by
    have ih := rpass_or ok c0 g hg n (by omega)
    have l1 := rpass_len (s := s) (ss := ss) (ps := ps) g n
    have hx := EndOk.of ok (List.getElem_mem (show n < s.sills.length by omega))
    obtain ⟨e1, e2, -⟩ := hx
    have hr : rpass s ss ps g (n + 1) = relB s ss ps n (relB s ss ps n (rpass s ss ps g n) s.sills[n].1 s.sills[n].2.1 s.sills[n].2.2) s.sills[n].2.1 s.sills[n].1 s.sills[n].2.2 := by
      show rsill s ss ps (rpass s ss ps g n) n (s.sills[n]?.getD (0, 0, 0)) = _
      rw [List.getElem?_eq_getElem (show n < s.sills.length by omega), Option.getD_some]
      rfl
    rw [hr]
    generalize rpass s ss ps g n = u at *
    have k1 := relB_or (s := s) (ss := ss) (ps := ps) c0 n u s.sills[n].1 s.sills[n].2.1 s.sills[n].2.2 (by omega) (by omega)
    have d1 := oc_le (c := c) u (relB s ss ps n u s.sills[n].1 s.sills[n].2.1 s.sills[n].2.2) (relB_len ..) (fun p _ => relB_down n u _ _ _ p (by omega))
    have l2 := relB_len (s := s) (ss := ss) (ps := ps) n u s.sills[n].1 s.sills[n].2.1 s.sills[n].2.2
    generalize relB s ss ps n u s.sills[n].1 s.sills[n].2.1 s.sills[n].2.2 = v at *
    have k2 := relB_or (s := s) (ss := ss) (ps := ps) c0 n v s.sills[n].2.1 s.sills[n].1 s.sills[n].2.2 (by omega) (by omega)
    have d2 := oc_le (c := c) v (relB s ss ps n v s.sills[n].2.1 s.sills[n].1 s.sills[n].2.2) (relB_len ..) (fun p _ => relB_down n v _ _ _ p (by omega))
    rcases ih with ih | ⟨ih1, ih2⟩
    · left; omega
    · rcases k1 with k1 | ⟨k1, k1'⟩
      · left
        have : oc c u = oc c g := countP_same l1 ih1
        omega
      · rcases k2 with k2 | ⟨k2, k2'⟩
        · left
          have e1 : oc c u = oc c g := countP_same l1 ih1
          have e2 : oc c v = oc c u := countP_same l2 k1
          omega
        · right
          refine ⟨(ih1.trans k1).trans k2, fun i hi h => ?_⟩
          by_cases e : i = n
          · subst e
            exact ⟨ih1.cl k1', (ih1.trans k1).cl k2'⟩
          · exact ih2 i hi (by omega)

/-- a closed step changes nothing at this height -/
theorem relB_same (i : Nat) (g : List Int) (a b h : Int) (ha : a = -1 ∨ 0 ≤ a) (hb : b < g.length) (k : ClE s ss ps c g i a b h) : SameAt c g (relB s ss ps i g a b h) := by
  intro p
  have hd := relB_down (s := s) (ss := ss) (ps := ps) i g a b h p hb
  refine ⟨fun h1 => ?_, fun h1 => by omega⟩
  unfold relB at h1
  split at h1
  · next hc =>
    rw [set_get g _ _ _ (by omega)] at h1
    split at h1
    · next e =>
      by_cases h2 : g[b.toNat]?.getD 0 ≤ c
      · rw [← e]; exact h2
      · have h3 : ovr s g a b h ≤ c := by omega
        unfold ovr at h3
        rw [← e]
        refine k hc.1 hc.2.1 hc.2.2 (by omega) (by omega) ?_
        rcases ha with ha | ha
        · exact .inl ha
        · rw [if_pos ha] at h3; exact .inr (by omega)
    · exact h1
  · exact h1
theorem rpass_same (ok : Ok s) (g : List Int) (hg : g.length = s.floors.length) (k : ClAll s ss ps c g s.sills.length) : ∀ n, n ≤ s.sills.length → SameAt c g (rpass s ss ps g n)
  | 0, _ => SameAt.refl _
  | n + 1, hn => by
    have ih := rpass_same ok g hg k n (by omega)
    have l1 := rpass_len (s := s) (ss := ss) (ps := ps) g n
    obtain ⟨e1, e2, -⟩ := EndOk.of ok (List.getElem_mem (show n < s.sills.length by omega))
    obtain ⟨k1, k2⟩ := k n (by omega) (by omega)
    have hr : rpass s ss ps g (n + 1) = relB s ss ps n (relB s ss ps n (rpass s ss ps g n) s.sills[n].1 s.sills[n].2.1 s.sills[n].2.2) s.sills[n].2.1 s.sills[n].1 s.sills[n].2.2 := by
      show rsill s ss ps (rpass s ss ps g n) n (s.sills[n]?.getD (0, 0, 0)) = _
      rw [List.getElem?_eq_getElem (show n < s.sills.length by omega), Option.getD_some]
      rfl
    rw [hr]
    generalize rpass s ss ps g n = u at *
    have sy : ∀ {x y : List Int}, SameAt c x y → SameAt c y x := fun h p => (h p).symm
    have j1 := relB_same n u s.sills[n].1 s.sills[n].2.1 s.sills[n].2.2 (by omega) (by omega) ((sy ih).cl k1)
    have l2 := relB_len (s := s) (ss := ss) (ps := ps) n u s.sills[n].1 s.sills[n].2.1 s.sills[n].2.2
    generalize relB s ss ps n u s.sills[n].1 s.sills[n].2.1 s.sills[n].2.2 = v at *
    have i2 := ih.trans j1
    exact i2.trans (relB_same n v s.sills[n].2.1 s.sills[n].1 s.sills[n].2.2 (by omega) (by omega) ((sy i2).cl k2))
theorem rounds_or (ok : Ok s) (c0 : 0 ≤ c) : ∀ k, ClAll s ss ps c (rounds s ss ps k) s.sills.length ∨ oc c (rounds s ss ps k) + k ≤ s.floors.length
  | 0 => by
    right
    unfold rounds oc
    have := List.countP_le_length (p := fun v => decide (c < v)) (l := List.replicate s.floors.length (5000 : Int))
    rw [List.length_replicate] at this
    omega
  | k + 1 => by
    have ih := rounds_or ok c0 k
    have hl := rounds_len (s := s) (ss := ss) (ps := ps) k
    have hr : rounds s ss ps (k + 1) = rpass s ss ps (rounds s ss ps k) s.sills.length := rfl
    rw [hr]
    generalize rounds s ss ps k = g at *
    have sy : ∀ {x y : List Int}, SameAt c x y → SameAt c y x := fun h p => (h p).symm
    rcases ih with ih | ih
    · left
      have j := rpass_same ok g hl ih _ (Nat.le_refl _)
      exact fun i hi h => ⟨(sy j).cl (ih i hi h).1, (sy j).cl (ih i hi h).2⟩
    · rcases rpass_or (ss := ss) (ps := ps) ok c0 g hl _ (Nat.le_refl _) with j | ⟨j1, j2⟩
      · right; omega
      · left
        exact fun i hi h => ⟨(sy j1).cl (j2 i hi h).1, (sy j1).cl (j2 i hi h).2⟩
theorem oc_zero : ∀ {g : List Int}, oc c g = 0 → ∀ p, p < g.length → g[p]?.getD 0 ≤ c
  | [], _, p, h => by simp at h
  | x :: r, h, p, hp => by
    unfold oc at h
    rw [List.countP_cons] at h
    have h1 : List.countP (fun v => decide (c < v)) r = 0 := by omega
    have h2 : ¬ c < x := fun e => by rw [if_pos (by simpa using e)] at h; omega
    cases p with
    | zero => simp; omega
    | succ p =>
      have := oc_zero (g := r) h1 p (by simpa using hp)
      simpa using this
/-- the least crests let no water through that they do not count -/
theorem low_closed (ok : Ok s) (c0 : 0 ≤ c) : ClAll s ss ps c (lowR s ss ps) s.sills.length := by
  have hl := rounds_len (s := s) (ss := ss) (ps := ps) s.floors.length
  rcases rounds_or (ss := ss) (ps := ps) ok c0 s.floors.length with h | h
  · exact h
  · have h0 : oc c (lowR s ss ps) = 0 := by unfold lowR; omega
    intro i hi _
    obtain ⟨e1, e2, -⟩ := EndOk.of ok (List.getElem_mem hi)
    have hl' : (lowR s ss ps).length = s.floors.length := hl
    exact ⟨fun b0 _ _ _ _ _ => oc_zero h0 _ (by omega), fun b0 _ _ _ _ _ => oc_zero h0 _ (by omega)⟩
theorem closed_all {h : Int} (ok : Ok s) (h9 : h < 1050) {g : List Int} (k : ClAll s [] [] h g s.sills.length) (p : Nat) (hpl : p < s.floors.length) (hg : gateOf s p ≤ h) : g[p]?.getD 0 ≤ h := by
  have key : ∀ x ∈ s.sills, ∀ a b : Int, (a, b) = (x.1, x.2.1) ∨ (a, b) = (x.2.1, x.1) → 0 ≤ b ∧ b < s.floors.length → x.2.2 ≤ h → s.floors[b.toNat]?.getD 0 ≤ h → (a = -1 ∨ g[a.toNat]?.getD 0 ≤ h) → g[b.toNat]?.getD 0 ≤ h := by
    intro x hx a b hab hb h1 h2 h3
    obtain ⟨i, hi, rfl⟩ := List.getElem_of_mem hx
    obtain ⟨k1, k2⟩ := k i hi hi
    rcases hab with e | e
    · cases e; exact k1 hb.1 (by simp) (by simp) h1 h2 h3
    · cases e; exact k2 hb.1 (by simp) (by simp) h1 h2 h3
  refine Decidable.byContradiction fun hc => ?_
  have := inv_iter s ok.fl1 (fun a => ∀ i, i < s.floors.length → h < g[i]?.getD 0 → h < a[i]?.getD 0)
    (fun a x b hl8 hx hb hbl hI i hi hgi => by
      rw [set_get a b i _ (by have := ok.fl1; omega)]
      split
      · next e =>
        subst e
        have h1 := hI b hi hgi
        have hne : ¬ (x.2.2 ≤ h ∧ s.floors[b]?.getD 0 ≤ h) := fun hcc => by
          have ho : (-1, (b : Int)) = (x.1, x.2.1) ∨ (-1, (b : Int)) = (x.2.1, x.1) := by
            unfold other at hb
            by_cases e1 : (-1 : Int) = x.1
            · rw [show ((-1 : Int) == x.1) = true from beq_iff_eq.2 e1] at hb
              exact Or.inl (by rw [← e1]; simp at hb; rw [hb])
            · rw [show ((-1 : Int) == x.1) = false from beq_eq_false_iff_ne.2 e1] at hb
              by_cases e2 : (-1 : Int) = x.2.1
              · rw [show ((-1 : Int) == x.2.1) = true from beq_iff_eq.2 e2] at hb
                exact Or.inr (by rw [← e2]; simp at hb; rw [hb])
              · rw [show ((-1 : Int) == x.2.1) = false from beq_eq_false_iff_ne.2 e2] at hb
                simp at hb
          have := key x hx (-1) b ho (by omega) hcc.1 (by simpa using hcc.2) (Or.inl rfl)
          simp only [Int.toNat_natCast] at this
          omega
        omega
      · exact hI i hi hgi)
    (fun a x f b hl8 hx hf hb hbl hI i hi hgi => by
      rw [set_get a b i _ (by have := ok.fl1; omega)]
      split
      · next e =>
        subst e
        have h1 := hI b hi hgi
        by_cases hgf : h < g[f]?.getD 0
        · have := hI f hf hgf
          omega
        · have hne : ¬ (x.2.2 ≤ h ∧ s.floors[b]?.getD 0 ≤ h) := fun hcc => by
            have ho : ((f : Int), (b : Int)) = (x.1, x.2.1) ∨ ((f : Int), (b : Int)) = (x.2.1, x.1) := by
              unfold other at hb
              by_cases e1 : (f : Int) = x.1
              · rw [show ((f : Int) == x.1) = true from beq_iff_eq.2 e1] at hb
                exact Or.inl (by rw [← e1]; simp at hb; rw [hb])
              · rw [show ((f : Int) == x.1) = false from beq_eq_false_iff_ne.2 e1] at hb
                by_cases e2 : (f : Int) = x.2.1
                · rw [show ((f : Int) == x.2.1) = true from beq_iff_eq.2 e2] at hb
                  exact Or.inr (by rw [← e2]; simp at hb; rw [hb])
                · rw [show ((f : Int) == x.2.1) = false from beq_eq_false_iff_ne.2 e2] at hb
                  simp at hb
            have := key x hx f b ho (by omega) hcc.1 (by simpa using hcc.2) (Or.inr (by simp only [Int.toNat_natCast]; omega))
            simp only [Int.toNat_natCast] at this
            omega
          omega
      · exact hI i hi hgi)
    (fun i hi _ => by
      have := ok.fl1
      unfold top
      rw [List.getElem?_replicate, if_pos (by omega)]
      show h < 1050
      omega)
  have h1 := this p hpl (by omega)
  unfold gateOf at hg
  omega

theorem low_le (ok : Ok s) : ∀ p, p < s.floors.length → (0 ≤ (lowR s ss ps)[p]?.getD 0 ∧ (lowR s ss ps)[p]?.getD 0 ≤ 999) ∨ (lowR s ss ps)[p]?.getD 0 = 5000 := by
  have := rounds_inv (s := s) (ss := ss) (ps := ps) (fun g => ∀ p, p < s.floors.length → (0 ≤ g[p]?.getD 0 ∧ g[p]?.getD 0 ≤ 999) ∨ g[p]?.getD 0 = 5000)
    (fun p hp => by right; rw [List.getElem?_replicate, if_pos hp]; rfl)
    (fun g i hi a b hl hab hI p hp => by
      obtain ⟨e1, e2, -⟩ := EndOk.of ok (List.getElem_mem hi)
      have hh := ok.heights _ (List.getElem_mem hi)
      unfold relB
      split
      · next hc =>
        have hb : 0 ≤ b ∧ b < s.floors.length := ⟨hc.1, by rcases hab with e | e <;> cases e <;> omega⟩
        have hf : 0 ≤ s.floors[b.toNat]?.getD 0 ∧ s.floors[b.toNat]?.getD 0 ≤ 999 := by
          rw [List.getElem?_eq_getElem (show b.toNat < s.floors.length by omega), Option.getD_some]
          exact ok.floors _ (List.getElem_mem _)
        rw [set_get g _ _ _ (by omega)]
        split
        · next e =>
          have h1 := hI b.toNat (by omega)
          have ha : a = -1 ∨ 0 ≤ a ∧ a < s.floors.length := by rcases hab with e | e <;> cases e <;> omega
          unfold ovr
          rcases ha with ha | ha
          · rw [if_neg (by omega)]; omega
          · rw [if_pos ha.1]
            have h2 := hI a.toNat (by omega)
            omega
        · exact hI p hp
      · exact hI p hp) s.floors.length
  exact this
/-- the reference's gate -/
def gateR (s : Sd) (q : Nat) : Int := if gateOf s q < 1050 then gateOf s q else 5000
theorem low_gate (ok : Ok s) (p : Nat) (hp : p < s.floors.length) : (lowR s [] [])[p]?.getD 0 = gateR s p := by
  have gl := fun q => gts_le s q
  have ge := rounds_inv (s := s) (ss := []) (ps := []) (fun g => ∀ q, q < s.floors.length → gateR s q ≤ g[q]?.getD 0)
    (fun q hq => by rw [List.getElem?_replicate, if_pos hq]; show gateR s q ≤ (5000 : Int); have := gl q; unfold gateR; split <;> omega)
    (fun g i hi a b hl hab hI q hq => by
      obtain ⟨e1, e2, -⟩ := EndOk.of ok (List.getElem_mem hi)
      have hh := ok.heights _ (List.getElem_mem hi)
      unfold relB
      split
      · next hc =>
        have hb : 0 ≤ b ∧ b < s.floors.length := ⟨hc.1, by rcases hab with e | e <;> cases e <;> omega⟩
        have ha : a = -1 ∨ 0 ≤ a ∧ a < s.floors.length := by rcases hab with e | e <;> cases e <;> omega
        have hf : 0 ≤ s.floors[b.toNat]?.getD 0 ∧ s.floors[b.toNat]?.getD 0 ≤ 999 := by
          rw [List.getElem?_eq_getElem (show b.toNat < s.floors.length by omega), Option.getD_some]
          exact ok.floors _ (List.getElem_mem _)
        rw [set_get g _ _ _ (by omega)]
        split
        · next e =>
          subst e
          have h1 := hI b.toNat hq
          have h2' := hI a.toNat
          have key : gateR s b.toNat ≤ ovr s g a b s.sills[i].2.2 := by
            unfold gateR at h2'
            unfold ovr gateR
            rcases ha with ha | ha
            · rw [if_neg (show ¬ 0 ≤ a by omega)]
              have := gate_step ok (List.getElem_mem hi) hb (.inl ha) hab (h := max (max 0 s.sills[i].2.2) (s.floors[b.toNat]?.getD 0)) (by omega) (by omega) (by omega) (.inl ha)
              rw [if_pos (show gateOf s b.toNat < 1050 by omega)]
              exact this
            · rw [if_pos ha.1]
              have h2 := h2' (by omega)
              by_cases hga : gateOf s a.toNat < 1050
              · rw [if_pos hga] at h2
                have g0 := (gl a.toNat).1
                have := gate_step ok (List.getElem_mem hi) hb (.inr ha) hab (h := max (max (gateOf s a.toNat) s.sills[i].2.2) (s.floors[b.toNat]?.getD 0)) (by omega) (by omega) (by omega) (.inr (by omega))
                rw [if_pos (show gateOf s b.toNat < 1050 by omega)]
                omega
              · rw [if_neg hga] at h2
                split <;> omega
          omega
        · exact hI q hq
      · exact hI q hq) s.floors.length p hp
  have g1 := gl p
  unfold gateR at ge ⊢
  split
  · next hlt =>
    rw [if_pos hlt] at ge
    have := closed_all ok hlt (low_closed (ss := []) (ps := []) (c := gateOf s p) ok g1.1) p hp (Int.le_refl _)
    unfold lowR at this ⊢
    omega
  · next hge =>
    rw [if_neg hge] at ge
    have := low_le (ss := []) (ps := []) ok p hp
    unfold lowR at this ⊢
    omega
end
end
end Go.Proofs.YtknaajofcbenaaaGreat
/- Rows that lie in a block of their own, from its first cell on: cells, and what a store changes. -/
namespace Go.Proofs.YtknaajofcbenaaaGreat
section
open Go.RowKit Go.Shelf

theorem flatten_set (k : Nat) : ∀ (rows : List (List Value)) (i j : Nat) (v : Value) (hi : i < rows.length), (∀ r ∈ rows, r.length = k) → j < k → rows.flatten.set (i * k + j) v = (rows.set i (rows[i].set j v)).flatten
  | a :: r, 0, j, v, _, hk, hj => by
    have ha := hk a (by simp)
    rw [Nat.zero_mul, Nat.zero_add, List.flatten_cons, List.set_append_left _ _ (by omega)]
    rfl
  | a :: r, i + 1, j, v, hi, hk, hj => by
    have ha := hk a (by simp)
    have hi' : i < r.length := by simpa using hi
    have ih := flatten_set k r i j v hi' (fun x hx => hk x (by simp [hx])) hj
    rw [List.flatten_cons, List.set_append_right _ _ (by rw [Nat.add_mul]; omega), show (i + 1) * k + j - a.length = i * k + j by rw [Nat.add_mul]; omega, ih]
    rfl
theorem flatten_len (k : Nat) : ∀ (rows : List (List Value)), (∀ r ∈ rows, r.length = k) → rows.flatten.length = rows.length * k
  | [], _ => by simp
  | a :: r, h => by
    rw [List.flatten_cons, List.length_append, flatten_len k r (fun x hx => h x (by simp [hx])), h a (by simp), List.length_cons, Nat.add_mul]
    omega

def RowBlk (w : World) (g : Nat) (T : TypeId) (k : Nat) (rows : List (List Value)) : Prop := (∀ r ∈ rows, r.length = k) ∧ ∃ cur : List Value, Blk w g cur T ∧ cur.take (rows.length * k) = rows.flatten
section
variable {w w' : World} {g k n₀ c : Nat} {T : TypeId} {p : Option Addr} {rows : List (List Value)}
theorem RowBlk.cell (h : RowBlk w g T k rows) {i j : Nat} {row : List Value} {x : Value} (hi : rows[i]? = some row) (hj : row[j]? = some x) : w.cell? ⟨g, i * k + j, none⟩ = some x := by
  obtain ⟨hk, cur, hb, ht⟩ := h
  have hil := (List.getElem?_eq_some_iff.1 hi).1
  have hr : row.length = k := hk row (List.mem_of_getElem? hi)
  have hjl : j < k := by have := (List.getElem?_eq_some_iff.1 hj).1; omega
  have hok : flatOk k rows = true := by unfold flatOk; simpa using hk
  have hf := flat_at k rows hok i row hi j x hj
  have hlt : i * k + j < rows.length * k := by
    have : (i + 1) * k ≤ rows.length * k := Nat.mul_le_mul_right _ (by omega)
    rw [Nat.add_mul] at this; omega
  rw [← ht, List.getElem?_take_of_lt hlt] at hf
  rw [hb.cell, hf]
theorem RowBlk.free (h : RowBlk w g T k rows) (i : Nat) : w.frozen? ⟨g, i, none⟩ = false := by
  obtain ⟨-, cur, hb, -⟩ := h
  exact hb.free i
theorem RowBlk.lt (h : RowBlk w g T k rows) : g < w.heap.size := by
  obtain ⟨-, cur, hb, -⟩ := h
  exact hb.lt
theorem RowBlk.row (h : RowBlk w g T k rows) : Row w (some ⟨g, 0, none⟩) k rows := fun i row hi => ⟨g, 0, rfl, fun j x hj => by rw [Nat.zero_add]; exact h.cell hi hj⟩
theorem RowBlk.up (h : RowBlk w g T k rows) (hu : Up w w') : RowBlk w' g T k rows := by
  obtain ⟨hk, cur, hb, ht⟩ := h
  exact ⟨hk, cur, hb.up hu, ht⟩
theorem RowBlk.other (h : RowBlk w g T k rows) {a : Addr} (ha : g ≠ a.block) (v : Value) : RowBlk (w.setCell a v) g T k rows := by
  obtain ⟨hk, cur, hb, ht⟩ := h
  exact ⟨hk, cur, hb.other ha v, ht⟩
theorem RowBlk.far {B n : Nat} (h : RowBlk w g T k rows) (hf : Far B n w w') (h1 : g < n) (h2 : g ≠ B) : RowBlk w' g T k rows := by
  obtain ⟨hk, cur, hb, ht⟩ := h
  exact ⟨hk, cur, hf.blk hb h1 h2, ht⟩
theorem RowBlk.set (h : RowBlk w g T k rows) {i j : Nat} (hi : i < rows.length) (hj : j < k) (v : Value) : RowBlk (w.setCell ⟨g, i * k + j, none⟩ v) g T k (rows.set i (rows[i].set j v)) := by
  obtain ⟨hk, cur, hb, ht⟩ := h
  refine ⟨fun r hr => ?_, _, hb.set _ _, ?_⟩
  · rcases List.mem_or_eq_of_mem_set hr with h1 | rfl
    · exact hk r h1
    · rw [List.length_set]; exact hk _ (List.getElem_mem _)
  · rw [List.length_set, ← flatten_set k rows i j v hi hk hj, ← ht, List.take_set]
theorem RowBlk.of (h : w.ownsRow n₀ T k (.slice p rows.length c) rows.length rows.flatten) (hk : ∀ r ∈ rows, r.length = k) (hl : 0 < rows.length) : ∃ g, p = some ⟨g, 0, none⟩ ∧ n₀ ≤ g ∧ RowBlk w g T k rows := by
  rcases h.2 with ⟨-, h0⟩ | ⟨g, cap, cur, h1, h2, h3, h4, h5, h6, h7⟩
  · omega
  · injection h1 with e1 e2 e3
    exact ⟨g, e1, h2, hk, cur.toList, h3, h7⟩
/-- rows of another type lie elsewhere -/
theorem RowBlk.ne {E : TypeId} {m n : Nat} {q : Option Addr} {xs : List Value} (h : RowBlk w g T k rows) (h' : w.ownsRow n₀ E m (.slice q n c) n xs) (hE : E ≠ T) : ∀ b off, q = some ⟨b, off, none⟩ → b ≠ g := by
  intro b off e hb
  obtain ⟨-, cur, hc, -⟩ := h
  rcases h'.2 with ⟨h1, -⟩ | ⟨g', cap, cur', h1, h2, h3, h4⟩
  · injection h1 with e1 e2 e3
    rw [e1] at e; cases e
  · injection h1 with e1 e2 e3
    rw [e1] at e
    simp only [Option.some.injEq, Addr.mk.injEq] at e
    have hg : g' = g := by omega
    rw [hg] at h3
    have h5 := h3.symm.trans hc
    simp only [Option.some.injEq, Obj.cells.injEq] at h5
    exact hE h5.2.1
theorem Blk.row {w : World} {B : Nat} {T : TypeId} (k : Nat) {rows : List (List Value)} (hk : ∀ r ∈ rows, r.length = k) (h : Blk w B rows.flatten T) : RowBlk w B T k rows :=
  ⟨hk, _, h, by rw [List.take_of_length_le (by rw [flatten_len k rows hk]; exact Nat.le_refl _)]⟩
/-- own rows lie below the heap's end -/
theorem ownsRow_lt {E : TypeId} {m n : Nat} {q : Option Addr} {xs : List Value} (h : w.ownsRow n₀ E m (.slice q n c) n xs) : ∀ b off, q = some ⟨b, off, none⟩ → n₀ ≤ b ∧ b < w.heap.size := by
  intro b off e
  rcases h.2 with ⟨h1, -⟩ | ⟨g', cap, cur', h1, h2, h3, h4⟩
  · injection h1 with e1 e2 e3
    rw [e1] at e; cases e
  · injection h1 with e1 e2 e3
    rw [e1] at e
    simp only [Option.some.injEq, Addr.mk.injEq] at e
    have hg : g' = b := by omega
    rw [hg] at h3 h2
    exact ⟨h2, (Array.getElem?_eq_some_iff.1 h3).1⟩
end
theorem triples_len (l : List (Int × Int × Int)) : ∀ r ∈ triples l, r.length = 3 := fun r hr => by
  simp only [triples, List.mem_map] at hr
  obtain ⟨x, -, rfl⟩ := hr; rfl
theorem pairs_len (l : List (Int × Int)) : ∀ r ∈ pairs l, r.length = 2 := fun r hr => by
  simp only [pairs, List.mem_map] at hr
  obtain ⟨x, -, rfl⟩ := hr; rfl
theorem ints_len (l : List Int) : ∀ r ∈ ints l, r.length = 1 := fun r hr => by
  simp only [ints, List.mem_map] at hr
  obtain ⟨x, -, rfl⟩ := hr; rfl
theorem triples_set (l : List (Int × Int × Int)) (i : Nat) (hi : i < l.length) (h : Int) : (triples l).set i (((triples l)[i]'(by simpa [triples] using hi)).set 2 (.int .i64 h)) = triples (l.set i (l[i].1, l[i].2.1, h)) := by
  unfold triples
  rw [List.map_set]
  simp
theorem ints_set (l : List Int) (i : Nat) (hi : i < l.length) (h : Int) : (ints l).set i (((ints l)[i]'(by simpa [ints] using hi)).set 0 (.int .i64 h)) = ints (l.set i h) := by
  unfold ints
  rw [List.map_set]
  simp
end
end Go.Proofs.YtknaajofcbenaaaGreat
namespace Go.Proofs.YtknaajofcbenaaaGreat
open Go.RowKit Go.Shelf

set_option maxRecDepth 100000 in
theorem off_c (n lo hi : Int) (w : World) : Calls Tryz.prog 49 #[.int .i64 n, .int .i64 lo, .int .i64 hi] w fun e w' => e = .returned (.bool (!inB n lo hi)) ∧ w = w' := by
  have HB : Hid ((!inB n lo hi) = (decide (n < lo) || decide (hi < n))) := by
    show _ = _
    cases h : inB n lo hi
    · have : ¬ (lo ≤ n ∧ n ≤ hi) := fun h' => by rw [inB_true.2 h'] at h; cases h
      simp only [Bool.not_false]
      symm
      rw [Bool.or_eq_true, decide_eq_true_eq, decide_eq_true_eq]
      omega
    · have := inB_true.1 h
      simp only [Bool.not_true]
      symm
      rw [Bool.or_eq_false_iff, decide_eq_false_iff_not, decide_eq_false_iff_not]
      omega
  go_enter Tryz.func49, Tryz.ntmps49
  by_cases h1 : n < lo
  · go_wp2
    go_ret
    exact ⟨ret_bool (by rw [HB.out]; simp [h1]), rfl⟩
  · by_cases h2 : hi < n
    · go_wp2
      go_ret
      exact ⟨ret_bool (by rw [HB.out]; simp [h2]), rfl⟩
    · go_wp2
      go_ret
      exact ⟨ret_bool (by rw [HB.out]; simp [h1, h2]), rfl⟩

section
variable {pT pF pS : Option Addr} {cT cF cS : Nat}
set_option maxRecDepth 100000 in
theorem refFirst_c (s : Sd) (w : World) (hl : Lists w s pT pF pS cT cF cS) (h2 : 2 ≤ s.table.length) : Calls Tryz.prog 51 #[sdVal s pT pF pS cT cF cS] w fun e w' => e = .returned (.int .i64 (firstM s.table)) ∧ Up w w' := by
  obtain ⟨b, off, rfl, c0, -⟩ := hl.rt.pair 0 (by omega)
  have hb2 := cell_lt c0
  simp only [Nat.zero_mul, Nat.add_zero] at c0
  have E := Lib.hid (show firstM s.table = (s.table[0]'(by omega)).1 by simp [firstM, List.getElem?_eq_getElem (show 0 < s.table.length by omega)])
  have k : (0 : Int) < s.table.length := by omega
  clear hl
  unfold sdVal
  go_enter Tryz.func51, Tryz.ntmps51
  go_wp2
  go_ret
  exact ⟨ret_int E.out.symm, by (repeat (first | exact Below.refl _ _ | (with_reducible refine Below.drewN' ?_ _) | (with_reducible refine Below.drew ?_) | (with_reducible refine Below.setCell ?_ (by first | exact Nat.le_refl _ | omega | (with_reducible (repeat (first | refine sz_alloc ?_ | refine sz_setCell ?_ | refine sz_drew ?_ | refine sz_drewN ?_)); first | exact Nat.le_refl _ | omega) | (simp only [World.size_alloc, World.size_setCell, World.size_drew, size_drewN']; omega)) _) | (with_reducible refine Below.alloc ?_ (by first | exact Nat.le_refl _ | omega | (with_reducible (repeat (first | refine sz_alloc ?_ | refine sz_setCell ?_ | refine sz_drew ?_ | refine sz_drewN ?_)); first | exact Nat.le_refl _ | omega) | (simp only [World.size_alloc, World.size_setCell, World.size_drew, size_drewN']; omega)) _) | assumption))⟩

set_option maxRecDepth 100000 in
theorem refLast_c (s : Sd) (w : World) (hl : Lists w s pT pF pS cT cF cS) (h2 : 2 ≤ s.table.length) (h12 : s.table.length ≤ 12) : Calls Tryz.prog 52 #[sdVal s pT pF pS cT cF cS] w fun e w' => e = .returned (.int .i64 (lastM s.table)) ∧ Up w w' := by
  obtain ⟨b, off, rfl, c0, -⟩ := hl.rt.pair (s.table.length - 1) (by omega)
  have hb2 := cell_lt c0
  have E := Lib.hid (show lastM s.table = (s.table[s.table.length - 1]'(by omega)).1 by simp [lastM, List.getElem?_eq_getElem (show s.table.length - 1 < s.table.length by omega)])
  have k : (0 : Int) < s.table.length := by omega
  have k1 : ((s.table.length : Int) - 1) < s.table.length := by omega
  have k2 : (0 : Int) ≤ ((s.table.length : Int) - 1) := by omega
  have k3 : ((s.table.length : Int) - 1).toNat = s.table.length - 1 := by omega
  have s1 : IntKind.i64.wrap ((s.table.length : Int) - 1) = (s.table.length : Int) - 1 := IntWalk.i64_in _ (by omega)
  clear hl
  unfold sdVal
  go_enter Tryz.func52, Tryz.ntmps52
  go_wp2
  go_ret
  exact ⟨ret_int E.out.symm, by (repeat (first | exact Below.refl _ _ | (with_reducible refine Below.drewN' ?_ _) | (with_reducible refine Below.drew ?_) | (with_reducible refine Below.setCell ?_ (by first | exact Nat.le_refl _ | omega | (with_reducible (repeat (first | refine sz_alloc ?_ | refine sz_setCell ?_ | refine sz_drew ?_ | refine sz_drewN ?_)); first | exact Nat.le_refl _ | omega) | (simp only [World.size_alloc, World.size_setCell, World.size_drew, size_drewN']; omega)) _) | (with_reducible refine Below.alloc ?_ (by first | exact Nat.le_refl _ | omega | (with_reducible (repeat (first | refine sz_alloc ?_ | refine sz_setCell ?_ | refine sz_drew ?_ | refine sz_drewN ?_)); first | exact Nat.le_refl _ | omega) | (simp only [World.size_alloc, World.size_setCell, World.size_drew, size_drewN']; omega)) _) | assumption))⟩

set_option maxRecDepth 100000 in
set_option maxHeartbeats 1000000 in
theorem refMinute_c (s : Sd) (m : Int) (w : World) (hl : Lists w s pT pF pS cT cF cS) (h2 : 2 ≤ s.table.length) (h12 : s.table.length ≤ 12) : Calls Tryz.prog 13 #[sdVal s pT pF pS cT cF cS, .int .i64 m] w fun e w' => e = .returned (.int .i64 (bif inDay s m then 0 else 3)) ∧ Up w w' := by
  have HF := Lib.hid (fun W (u : Up w W) => refFirst_c s W (hl.up u) h2)
  have HG := Lib.hid (fun W (u : Up w W) => refLast_c s W (hl.up u) h2 h12)
  clear hl
  unfold sdVal at *
  go_enter Tryz.func13, Tryz.ntmps13
  go_wp2
  refine Code.wp_world ?_
  intro w0 hw0
  have u0 : Up w w0 := by rw [hw0]; (repeat (first | exact Below.refl _ _ | (with_reducible refine Below.drewN' ?_ _) | (with_reducible refine Below.drew ?_) | (with_reducible refine Below.setCell ?_ (by first | exact Nat.le_refl _ | omega | (with_reducible (repeat (first | refine sz_alloc ?_ | refine sz_setCell ?_ | refine sz_drew ?_ | refine sz_drewN ?_)); first | exact Nat.le_refl _ | omega) | (simp only [World.size_alloc, World.size_setCell, World.size_drew, size_drewN']; omega)) _) | (with_reducible refine Below.alloc ?_ (by first | exact Nat.le_refl _ | omega | (with_reducible (repeat (first | refine sz_alloc ?_ | refine sz_setCell ?_ | refine sz_drew ?_ | refine sz_drewN ?_)); first | exact Nat.le_refl _ | omega) | (simp only [World.size_alloc, World.size_setCell, World.size_drew, size_drewN']; omega)) _) | assumption))
  have hB : Blk w0 w.heap.size (sdCells s pT pF pS cT cF cS) 35 := by rw [hw0]; exact Blk.new w _ _
  clear hw0
  have c0 := hB.cell 0
  have c1 := hB.cell 1
  have c2 := hB.cell 2
  have c3 := hB.cell 3
  have c4 := hB.cell 4
  simp only [sdCells, List.getElem?_cons_zero, List.getElem?_cons_succ] at c0 c1 c2 c3 c4
  refine region_tail (fun W' => W'.cell? ⟨w.heap.size, 0, none⟩ = some (.slice pT s.table.length cT) ∧ W'.cell? ⟨w.heap.size, 1, none⟩ = some (.int .i64 s.lo) ∧ W'.cell? ⟨w.heap.size, 2, none⟩ = some (.int .i64 s.hi) ∧ W'.cell? ⟨w.heap.size, 3, none⟩ = some (.slice pF s.floors.length cF) ∧ W'.cell? ⟨w.heap.size, 4, none⟩ = some (.slice pS s.sills.length cS) ∧ Up w0 W') 6 mixed (by kernel_rfl) ⟨c0, c1, c2, c3, c4, (Below.refl _ _).drew⟩ (fun hHeld => ?_)
  refine wpAnyG_take 0 5 (v := ?_) rfl rfl (by kernel_rfl) (fun _ _ _ h => h) (Or.inl ⟨by rfl, ?_⟩) (by assumption) ?_
  rotate_left
  · (intro w' hSw; (try dsimp only at hSw); go_split_ands; go_simp; try with_reducible rfl)
  try simp only [List.setIfInBounds_toArray, List.set_cons_zero, List.set_cons_succ]
  refine wpAnyG_take 1 6 (v := ?_) rfl rfl (by kernel_rfl) (fun _ _ _ h => h) (Or.inl ⟨by rfl, ?_⟩) (by assumption) ?_
  rotate_left
  · (intro w' hSw; (try dsimp only at hSw); go_split_ands; go_simp; try with_reducible rfl)
  try simp only [List.setIfInBounds_toArray, List.set_cons_zero, List.set_cons_succ]
  refine wpAnyG_take 3 8 (v := ?_) rfl rfl (by kernel_rfl) (fun _ _ _ h => h) (Or.inl ⟨by rfl, ?_⟩) (by assumption) ?_
  rotate_left
  · (intro w' hSw; (try dsimp only at hSw); go_split_ands; go_simp; try with_reducible rfl)
  try simp only [List.setIfInBounds_toArray, List.set_cons_zero, List.set_cons_succ]
  refine wpAnyG_do 2 rfl (by kernel_rfl) (fun K hK => ?_)
  rw [if_pos (by rfl)]
  go_simp
  refine (HF.out _ (Up.trans u0 ((Below.refl _ _).drew))).mono ?_
  rintro e w1 ⟨rfl, v1⟩
  have v1' : Up w0 w1 := Up.trans ((Below.refl _ _).drew) v1
  refine hK.out _ _ ⟨v1'.cellAt c0, v1'.cellAt c1, v1'.cellAt c2, v1'.cellAt c3, v1'.cellAt c4, v1'⟩ (fun hHeld => ?_)
  clear hK K
  refine wpAnyG_do 4 rfl (by kernel_rfl) (fun K hK => ?_)
  rw [if_pos (by rfl)]
  go_simp
  refine (HG.out _ (Up.trans u0 v1')).mono ?_
  rintro e w2 ⟨rfl, v2⟩
  have v2' : Up w0 w2 := Up.trans v1' v2
  refine hK.out _ _ ⟨v2'.cellAt c0, v2'.cellAt c1, v2'.cellAt c2, v2'.cellAt c3, v2'.cellAt c4, v2'⟩ (fun hHeld => ?_)
  clear hK K
  refine wpAnyG_do 5 rfl (by kernel_rfl) (fun K hK => ?_)
  rw [if_pos (by rfl)]
  go_simp
  refine (off_c _ _ _ _).mono ?_
  rintro e w3 ⟨rfl, rfl⟩
  refine hK.out _ _ ⟨v2'.cellAt c0, v2'.cellAt c1, v2'.cellAt c2, v2'.cellAt c3, v2'.cellAt c4, v2'⟩ (fun hHeld => ?_)
  clear hK K
  have HU := Lib.hid (Up.trans u0 v2')
  refine wpAnyG_tail (by kernel_rfl) ?_
  change wpList _ _ _ [] _ _
  have hd : inB m (firstM s.table) (lastM s.table) = inDay s m := rfl
  rw [hd]
  clear hd
  cases hv : inDay s m
  all_goals
    have HD := Lib.hid hv
    clear hv
    go_wp2
    go_ret
    exact ⟨by rw [HD.out]; rfl, HU.out⟩
end
end Go.Proofs.YtknaajofcbenaaaGreat
namespace Go.Proofs.YtknaajofcbenaaaGreat
open Go.RowKit Go.Shelf

section
variable {pT pF pS : Option Addr} {cT cF cS : Nat}
set_option maxHeartbeats 400000 in
theorem has_c (l : List Int) (p : Option Addr) (c : Nat) (n : Int) (w : World) (hr : Row w p 1 (ints l)) (hm : l.length ≤ maxLen) :
    Calls Tryz.prog 129 #[.slice p l.length c, .int .i64 n] w fun e w' => e = .returned (.bool (decide (n ∈ l))) ∧ w = w' := by
  unfold maxLen at hm
  go_enter Tryz.func129, Tryz.ntmps129
  go_wp2
  go_loop [5] (fun i => ∃ k : Nat, k ≤ l.length ∧ i = .int .i64 k ∧ n ∉ l.take k) (fun i => l.length - (intOf i).toNat)
  case atStart => exact ⟨0, Nat.zero_le _, rfl, by simp⟩
  case round =>
    obtain ⟨k, hk, rfl, hn⟩ := hrel
    have HN := Lib.hid hn
    clear hn
    by_cases hlt : k < l.length
    · obtain ⟨b, off, rfl, hc0⟩ := hr.int k hlt
      have k1 : (k : Int) < l.length := by omega
      by_cases he : l[k] = n
      · have HE := Lib.hid he
        have he' : (l[k] == n) = true := by simpa using he
        clear he
        go_wp2
        go_ret
        exact ⟨ret_bool (decide_eq_true (by rw [← HE.out]; exact List.getElem_mem _)).symm, rfl⟩
      · have HE := Lib.hid he
        have he' : (l[k] == n) = false := by simpa using he
        clear he
        go_wp2
        go_round
        case rel =>
          refine ⟨k + 1, hlt, by go_num, ?_⟩
          rw [List.take_succ_eq_append_getElem hlt, List.mem_append, List.mem_singleton]
          rintro (h | h)
          · exact HN.out h
          · exact HE.out h.symm
        case measure => simp [intOf]; omega
    · obtain rfl : k = l.length := by omega
      have h := HN.out
      rw [List.take_length] at h
      have HH := Lib.hid h
      clear h
      go_wp2
      go_ret
      exact ⟨ret_bool (decide_eq_false HH.out).symm, rfl⟩

set_option maxRecDepth 100000 in
set_option maxHeartbeats 1000000 in
theorem over_c (s : Sd) (G : List Int) (g : Nat) (n c : Nat) (a b h : Int) (w : World) (hn : G.length = n) (hl : Lists w s pT pF pS cT cF cS) (hr : Row w (some ⟨g, 0, none⟩) 1 (ints G)) (ha : a = -1 ∨ 0 ≤ a ∧ a < n) (hb : 0 ≤ b ∧ b < s.floors.length) (_hf : s.floors.length ≤ 1000) (hn9 : n ≤ 1000) :
    Calls Tryz.prog 139 #[sdVal s pT pF pS cT cF cS, .slice (some ⟨g, 0, none⟩) n c, .int .i64 a, .int .i64 b, .int .i64 h] w fun e w' => e = .returned (.int .i64 (ovr s G a b h)) ∧ Up w w' := by
  subst hn
  obtain ⟨bn, rfl⟩ := Int.eq_ofNat_of_zero_le hb.1
  obtain ⟨gF, oF, rfl, e1⟩ := hl.rf.int bn (by omega)
  have e1' := (show Up w (w.alloc (.cells (sdCells s pT (some ⟨gF, oF, none⟩) pS cT cF cS).toArray 35)) by (repeat (first | exact Below.refl _ _ | (with_reducible refine Below.drewN' ?_ _) | (with_reducible refine Below.drew ?_) | (with_reducible refine Below.setCell ?_ (by first | exact Nat.le_refl _ | omega | (with_reducible (repeat (first | refine sz_alloc ?_ | refine sz_setCell ?_ | refine sz_drew ?_ | refine sz_drewN ?_)); first | exact Nat.le_refl _ | omega) | (simp only [World.size_alloc, World.size_setCell, World.size_drew, size_drewN']; omega)) _) | (with_reducible refine Below.alloc ?_ (by first | exact Nat.le_refl _ | omega | (with_reducible (repeat (first | refine sz_alloc ?_ | refine sz_setCell ?_ | refine sz_drew ?_ | refine sz_drewN ?_)); first | exact Nat.le_refl _ | omega) | (simp only [World.size_alloc, World.size_setCell, World.size_drew, size_drewN']; omega)) _) | assumption))).cellAt e1
  have lF := cell_lt e1
  have hb1 : (bn : Int) < s.floors.length := by omega
  have HF := Lib.hid (show s.floors[((bn : Int)).toNat]?.getD 0 = s.floors[bn]'(by omega) by rw [Int.toNat_natCast, List.getElem?_eq_getElem (by omega)]; rfl)
  have HU : Hid (Up w (w.alloc (.cells (sdCells s pT (some ⟨gF, oF, none⟩) pS cT cF cS).toArray 35))) := Lib.hid (by (repeat (first | exact Below.refl _ _ | (with_reducible refine Below.drewN' ?_ _) | (with_reducible refine Below.drew ?_) | (with_reducible refine Below.setCell ?_ (by first | exact Nat.le_refl _ | omega | (with_reducible (repeat (first | refine sz_alloc ?_ | refine sz_setCell ?_ | refine sz_drew ?_ | refine sz_drewN ?_)); first | exact Nat.le_refl _ | omega) | (simp only [World.size_alloc, World.size_setCell, World.size_drew, size_drewN']; omega)) _) | (with_reducible refine Below.alloc ?_ (by first | exact Nat.le_refl _ | omega | (with_reducible (repeat (first | refine sz_alloc ?_ | refine sz_setCell ?_ | refine sz_drew ?_ | refine sz_drewN ?_)); first | exact Nat.le_refl _ | omega) | (simp only [World.size_alloc, World.size_setCell, World.size_drew, size_drewN']; omega)) _) | assumption)))
  clear hl e1
  unfold sdCells at *
  unfold sdVal
  rcases ha with rfl | ⟨a0, a1⟩
  · have HO := Lib.hid (show ovr s G (-1) bn h = max (max 0 h) (s.floors[bn]'(by omega)) by unfold ovr; rw [if_neg (by decide), HF.out])
    generalize s.floors[bn] = fl at *
    by_cases h1 : 0 < h
    · by_cases h2 : h < fl
      · have HV := Lib.hid (show ovr s G (-1) bn h = fl by rw [HO.out]; omega)
        clear HO
        go_enter Tryz.func139, Tryz.ntmps139
        go_wp2
        go_ret
        exact ⟨by rw [HV.out]; rfl, HU.out⟩
      · have HV := Lib.hid (show ovr s G (-1) bn h = h by rw [HO.out]; omega)
        clear HO
        go_enter Tryz.func139, Tryz.ntmps139
        go_wp2
        go_ret
        exact ⟨by rw [HV.out]; rfl, HU.out⟩
    · by_cases h2 : 0 < fl
      · have HV := Lib.hid (show ovr s G (-1) bn h = fl by rw [HO.out]; omega)
        clear HO
        go_enter Tryz.func139, Tryz.ntmps139
        go_wp2
        go_ret
        exact ⟨by rw [HV.out]; rfl, HU.out⟩
      · have HV := Lib.hid (show ovr s G (-1) bn h = 0 by rw [HO.out]; omega)
        clear HO
        go_enter Tryz.func139, Tryz.ntmps139
        go_wp2
        go_ret
        exact ⟨by rw [HV.out]; rfl, HU.out⟩
  · obtain ⟨an, rfl⟩ := Int.eq_ofNat_of_zero_le a0
    have ha1 : an < G.length := by omega
    obtain ⟨g', o', hg, e2⟩ := hr.int an ha1
    simp only [Option.some.injEq, Addr.mk.injEq, and_true] at hg
    obtain ⟨rfl, rfl⟩ := hg
    rw [Nat.zero_add] at e2
    have lG := cell_lt e2
    have e2' := HU.out.cellAt e2
    have HO := Lib.hid (show ovr s G an bn h = max (max G[an] h) (s.floors[bn]'(by omega)) by unfold ovr; rw [if_pos (by omega), HF.out, Int.toNat_natCast, List.getElem?_eq_getElem ha1]; rfl)
    clear e2 hr
    generalize s.floors[bn] = fl at *
    generalize G[an] = cr at *
    by_cases h1 : cr < h
    · by_cases h2 : h < fl
      · have HV := Lib.hid (show ovr s G an bn h = fl by rw [HO.out]; omega)
        clear HO
        go_enter Tryz.func139, Tryz.ntmps139
        go_wp2
        go_ret
        exact ⟨by rw [HV.out]; rfl, HU.out⟩
      · have HV := Lib.hid (show ovr s G an bn h = h by rw [HO.out]; omega)
        clear HO
        go_enter Tryz.func139, Tryz.ntmps139
        go_wp2
        go_ret
        exact ⟨by rw [HV.out]; rfl, HU.out⟩
    · by_cases h2 : cr < fl
      · have HV := Lib.hid (show ovr s G an bn h = fl by rw [HO.out]; omega)
        clear HO
        go_enter Tryz.func139, Tryz.ntmps139
        go_wp2
        go_ret
        exact ⟨by rw [HV.out]; rfl, HU.out⟩
      · have HV := Lib.hid (show ovr s G an bn h = cr by rw [HO.out]; omega)
        clear HO
        go_enter Tryz.func139, Tryz.ntmps139
        go_wp2
        go_ret
        exact ⟨by rw [HV.out]; rfl, HU.out⟩

set_option maxRecDepth 100000 in
set_option maxHeartbeats 1000000 in
theorem refPlace_c (s : Sd) (x : Int) (w : World) (hl : Lists w s pT pF pS cT cF cS) :
    Calls Tryz.prog 14 #[sdVal s pT pF pS cT cF cS, .int .i64 x] w fun e w' => e = .returned (.int .i64 (bif isPl s x then 0 else 1)) ∧ Up w w' := by
  have m1 : (s.floors.length : Int) ≤ 9223372036854775807 := by have := Nat.le_trans hl.cf hl.mf; simp only [maxLen] at this; omega
  have s1 : IntKind.i64.wrap ((s.floors.length : Int) - 1) = (s.floors.length : Int) - 1 := IntWalk.i64_in _ (by omega)
  clear hl
  unfold sdVal
  go_enter Tryz.func14, Tryz.ntmps14
  go_wp2_with fail
  refine (off_c _ _ _ _).mono ?_
  rintro e w3 ⟨rfl, rfl⟩
  have hd : inB x 0 (s.floors.length - 1) = isPl s x := rfl
  rw [hd]
  clear hd
  cases hv : isPl s x
  all_goals
    have HD := Lib.hid hv
    clear hv
    go_wp2
    go_ret
    exact ⟨by rw [HD.out]; rfl, by (repeat (first | exact Below.refl _ _ | (with_reducible refine Below.drewN' ?_ _) | (with_reducible refine Below.drew ?_) | (with_reducible refine Below.setCell ?_ (by first | exact Nat.le_refl _ | omega | (with_reducible (repeat (first | refine sz_alloc ?_ | refine sz_setCell ?_ | refine sz_drew ?_ | refine sz_drewN ?_)); first | exact Nat.le_refl _ | omega) | (simp only [World.size_alloc, World.size_setCell, World.size_drew, size_drewN']; omega)) _) | (with_reducible refine Below.alloc ?_ (by first | exact Nat.le_refl _ | omega | (with_reducible (repeat (first | refine sz_alloc ?_ | refine sz_setCell ?_ | refine sz_drew ?_ | refine sz_drewN ?_)); first | exact Nat.le_refl _ | omega) | (simp only [World.size_alloc, World.size_setCell, World.size_drew, size_drewN']; omega)) _) | assumption))⟩

/-- a block of numbers that is stored into -/
abbrev IntBlk (w : World) (g : Nat) (l : List Int) : Prop := RowBlk w g 3 1 (ints l)
theorem IntBlk.at {w : World} {g : Nat} {l : List Int} (h : IntBlk w g l) (i : Nat) (hi : i < l.length) : w.cell? ⟨g, i, none⟩ = some (.int .i64 l[i]) := by
  have := RowBlk.cell h (i := i) (j := 0) (row := [.int .i64 l[i]]) (x := .int .i64 l[i]) (by simp [ints, hi]) rfl
  simpa using this
theorem IntBlk.put {w : World} {g : Nat} {l : List Int} (h : IntBlk w g l) (i : Nat) (hi : i < l.length) (v : Int) : IntBlk (w.setCell ⟨g, i, none⟩ (.int .i64 v)) g (l.set i v) := by
  have := RowBlk.set h (i := i) (j := 0) (by simp [ints, hi]) (by decide) (.int .i64 v)
  rw [ints_set l i hi v, Nat.mul_one, Nat.add_zero] at this
  exact this
theorem relB_ends {s : Sd} {ss ps : List Int} {i : Nat} {g : List Int} {a b h : Int} (hc : ¬ (0 ≤ b ∧ (i : Int) ∉ ss ∧ b ∉ ps)) : relB s ss ps i g a b h = g := by unfold relB; rw [if_neg hc]

set_option maxRecDepth 100000 in
set_option maxHeartbeats 4000000 in
theorem refLeast_c (s : Sd) (tp : Nat) (ss ps : List Int) (qS qP : Option Addr) (dS dP : Nat) (w : World) (ok : Ok s) (hl : Lists w s pT pF pS cT cF cS) (hs : Row w qS 1 (ints ss)) (hp : Row w qP 1 (ints ps)) (ls : ss.length ≤ maxLen) (lp : ps.length ≤ maxLen) (ht : tp < s.floors.length) :
    Calls Tryz.prog 111 #[sdVal s pT pF pS cT cF cS, .int .i64 tp, .slice qS ss.length dS, .slice qP ps.length dP] w fun e w' => e = .returned (.int .i64 ((lowR s ss ps)[tp]?.getD 0)) ∧ Up w w' := by
  have f8 := ok.fl1
  have s16 := ok.sl
  obtain ⟨i0, hi, hz0, hz1, hz2⟩ := info_parts info3
  have HH := Lib.hid (fun (l : List Int) (p : Option Addr) (c : Nat) (n : Int) (W : World) (hr : Row W p 1 (ints l)) (hm : l.length ≤ maxLen) => has_c l p c n W hr hm)
  have HL := Lib.hid hl
  have HS := Lib.hid hs
  have HP := Lib.hid hp
  have OK := Lib.hid ok
  clear hl hs hp ok
  unfold sdVal
  go_enter Tryz.func111, Tryz.ntmps111
  go_wp2_with fail
  have BS : Hid (Blk (w.alloc (.cells #[.slice pT s.table.length cT, .int .i64 s.lo, .int .i64 s.hi, .slice pF s.floors.length cF, .slice pS s.sills.length cS] 35)) w.heap.size (sdCells s pT pF pS cT cF cS) 35) := Lib.hid (Blk.new w (sdCells s pT pF pS cT cF cS) 35)
  have U0 : Hid (Up w (w.alloc (.cells #[.slice pT s.table.length cT, .int .i64 s.lo, .int .i64 s.hi, .slice pF s.floors.length cF, .slice pS s.sills.length cS] 35))) := Lib.hid (by (repeat (first | exact Below.refl _ _ | (with_reducible refine Below.drewN' ?_ _) | (with_reducible refine Below.drew ?_) | (with_reducible refine Below.setCell ?_ (by first | exact Nat.le_refl _ | omega | (with_reducible (repeat (first | refine sz_alloc ?_ | refine sz_setCell ?_ | refine sz_drew ?_ | refine sz_drewN ?_)); first | exact Nat.le_refl _ | omega) | (simp only [World.size_alloc, World.size_setCell, World.size_drew, size_drewN']; omega)) _) | (with_reducible refine Below.alloc ?_ (by first | exact Nat.le_refl _ | omega | (with_reducible (repeat (first | refine sz_alloc ?_ | refine sz_setCell ?_ | refine sz_drew ?_ | refine sz_drewN ?_)); first | exact Nat.le_refl _ | omega) | (simp only [World.size_alloc, World.size_setCell, World.size_drew, size_drewN']; omega)) _) | assumption)))
  generalize (w.alloc (.cells #[.slice pT s.table.length cT, .int .i64 s.lo, .int .i64 s.hi, .slice pF s.floors.length cF, .slice pS s.sills.length cS] 35)) = w0 at *
  have hbs : w.heap.size < w0.heap.size := BS.out.lt
  go_loopw [10, 9] (fun i v wr => ∃ k : Nat, k ≤ s.floors.length ∧ i = .int .i64 k ∧ wr.ownsRow w0.heap.size 3 1 v k (ints (List.replicate k 5000)).flatten ∧ Up w0 wr) (fun i _ _ => s.floors.length - (intOf i).toNat)
  case atStart => exact ⟨0, by omega, rfl, World.ownsRow_nil _ _ _ _, Below.refl _ _⟩
  case round =>
    obtain ⟨k, hk, rfl, hown, hu⟩ := hrel
    have HO := Lib.hid hown
    have HU := Lib.hid hu
    have hsz := hu.size
    obtain ⟨c0, c1, c2, c3, c4⟩ := five (BS.out.up hu)
    clear hown hu
    by_cases hlt : k < s.floors.length
    · have k1 : (k : Int) < s.floors.length := by omega
      go_wp2_with (at_builtin; refine wpList_append_own _ rfl _ _ 25 rfl w0.heap.size 3 i0 (.int .i64 0) 1 8 Tryz.underlying25 hi hz0 hz1 hz2 rfl (by decide) _ _ _ rfl (HO.out.alloc _) ⟨wr.heap.size, 0, none⟩ 1 1 [.int .i64 5000] rfl rfl (newsAt _ rfl [.int .i64 5000] _) (by simp [Value.oneCell']) (by simp [maxLen]; omega) (by omega) (sz_alloc hsz) ?_; intro v' w8 hown8 hgr8 hnn; clear hnn)
      have U8 := Lib.hid ((HU.out.alloc hsz _).grown hgr8 (sz_alloc hsz) (fun j e => (HO.out.lt j e).1))
      have O8 := Lib.hid hown8
      clear hown8 hgr8
      go_roundw
      case rel =>
        try ((repeat apply Exists.intro); refine ⟨?_, rfl⟩)
        refine ⟨k + 1, by omega, by go_num, ?_, U8.out⟩
        have e : (ints (List.replicate (k + 1) 5000)).flatten = (ints (List.replicate k 5000)).flatten ++ [.int .i64 5000] := by
          rw [List.replicate_succ']
          unfold ints
          rw [List.map_append, List.flatten_append]
          rfl
        rw [e]
        exact O8.out
      case measure => simp [intOf]; omega
    · obtain rfl : k = s.floors.length := by omega
      obtain ⟨q, d, rfl, a1, a2, hR, hge⟩ := Row.of_own (rows := ints (List.replicate s.floors.length 5000)) (flatOk_ints _) HO.out (by simp [ints])
      have hlen : (ints (List.replicate s.floors.length 5000)).length = s.floors.length := by simp [ints]
      obtain ⟨g, hg, hg0, rb⟩ := RowBlk.of (rows := ints (List.replicate s.floors.length 5000)) (p := q) (c := d) (by rw [hlen]; exact HO.out) (ints_len _) (by rw [hlen]; have := OK.out.fl0; omega)
      subst hg
      have RB := Lib.hid rb
      clear rb hR hge HO hi hz0 hz1 hz2 hlen hlt
      generalize wr = w1 at *
      have U1 := Lib.hid (Up.trans U0.out HU.out)
      have ok := OK.out
      go_wp2_with fail
      go_loopw [11] (fun r wr => ∃ k : Nat, k ≤ s.floors.length ∧ r = .int .i64 k ∧ IntBlk wr g (rounds s ss ps k) ∧ Up w0 wr) (fun r _ => s.floors.length - (intOf r).toNat)
      case atStart => exact ⟨0, by omega, rfl, RB.out, HU.out⟩
      case round =>
        obtain ⟨k, hk, rfl, hb, hu⟩ := hrel
        have HB := Lib.hid hb
        have HU2 := Lib.hid hu
        obtain ⟨c0, c1, c2, c3, c4⟩ := five (BS.out.up hu)
        clear hb hu
        by_cases hlt : k < s.floors.length
        · have k1 : (k : Int) < s.floors.length := by omega
          have HRK := Lib.hid (show rounds s ss ps (k + 1) = rpass s ss ps (rounds s ss ps k) s.sills.length from rfl)
          have hgl := rounds_len (s := s) (ss := ss) (ps := ps) k
          generalize rounds s ss ps k = G0 at *
          go_wp2_with fail
          go_loopw [12] (fun r wx => ∃ i : Nat, i ≤ s.sills.length ∧ r = .int .i64 i ∧ IntBlk wx g (rpass s ss ps G0 i) ∧ Up w0 wx) (fun r _ => s.sills.length - (intOf r).toNat)
          case atStart => exact ⟨0, by omega, rfl, HB.out, HU2.out⟩
          case round =>
            obtain ⟨i, hi, rfl, hb, hu⟩ := hrel
            have HB2 := Lib.hid hb
            have HU3 := Lib.hid hu
            clear hb hu c0 c1 c2 c3 c4
            obtain ⟨c0, c1, c2, c3, c4⟩ := five (BS.out.up HU3.out)
            by_cases hli : i < s.sills.length
            · have i1 : (i : Int) < s.sills.length := by omega
              obtain ⟨bs, os, rfl, d0, d1, d2⟩ := HL.out.rs.triple i hli
              have UW := Lib.hid (Up.trans U0.out HU3.out)
              have d0' := UW.out.cellAt d0
              have d1' := UW.out.cellAt d1
              have d2' := UW.out.cellAt d2
              obtain ⟨x1, x2, x3⟩ := EndOk.of ok (List.getElem_mem hli)
              have HRP := Lib.hid (show rpass s ss ps G0 (i + 1) = relB s ss ps i (relB s ss ps i (rpass s ss ps G0 i) s.sills[i].1 s.sills[i].2.1 s.sills[i].2.2) s.sills[i].2.1 s.sills[i].1 s.sills[i].2.2 by
                show rsill s ss ps (rpass s ss ps G0 i) i (s.sills[i]?.getD (0, 0, 0)) = _
                rw [List.getElem?_eq_getElem hli, Option.getD_some]
                rfl)
              have hpl : (rpass s ss ps G0 i).length = s.floors.length := by rw [rpass_len, hgl]
              generalize rpass s ss ps G0 i = G at *
              generalize s.sills[i] = x at *
              obtain ⟨a, b, h⟩ := x
              dsimp only at d0' d1' d2' x1 x2 x3 HRP
              clear d0 d1 d2
              go_upto_region 13 with fail
              have BX : Hid (Blk (wr.alloc (.cells #[.int .i64 a, .int .i64 b, .int .i64 h] 99)) wr.heap.size [.int .i64 a, .int .i64 b, .int .i64 h] 99) := Lib.hid (Blk.new wr [.int .i64 a, .int .i64 b, .int .i64 h] 99)
              have VA : Hid (Up wr (wr.alloc (.cells #[.int .i64 a, .int .i64 b, .int .i64 h] 99))) := Lib.hid (by (repeat (first | exact Below.refl _ _ | (with_reducible refine Below.drewN' ?_ _) | (with_reducible refine Below.drew ?_) | (with_reducible refine Below.setCell ?_ (by first | exact Nat.le_refl _ | omega | (with_reducible (repeat (first | refine sz_alloc ?_ | refine sz_setCell ?_ | refine sz_drew ?_ | refine sz_drewN ?_)); first | exact Nat.le_refl _ | omega) | (simp only [World.size_alloc, World.size_setCell, World.size_drew, size_drewN']; omega)) _) | (with_reducible refine Below.alloc ?_ (by first | exact Nat.le_refl _ | omega | (with_reducible (repeat (first | refine sz_alloc ?_ | refine sz_setCell ?_ | refine sz_drew ?_ | refine sz_drewN ?_)); first | exact Nat.le_refl _ | omega) | (simp only [World.size_alloc, World.size_setCell, World.size_drew, size_drewN']; omega)) _) | assumption)))
              have UA := Lib.hid (Up.trans HU3.out VA.out)
              have IA := Lib.hid (HB2.out.up VA.out)
              have gne : g ≠ wr.heap.size := by have := HB2.out.lt; omega
              clear HB2 HU3 VA UW d0' d1' d2' c0 c1 c2 c3 c4
              generalize (wr.alloc (.cells #[.int .i64 a, .int .i64 b, .int .i64 h] 99)) = wa at *
              generalize wr.heap.size = X at *
              have ha3 : a = -1 ∨ 0 ≤ a ∧ a < s.floors.length := x1
              have hb3 : b = -1 ∨ 0 ≤ b ∧ b < s.floors.length := x2

              have RS := Lib.hid (HS.out.up (Up.trans U0.out UA.out))
              have RP := Lib.hid (HP.out.up (Up.trans U0.out UA.out))
              have y0 := BX.out.cell 0
              have y1 := BX.out.cell 1
              have y2 := BX.out.cell 2
              have ly := BX.out.lt
              simp only [List.getElem?_cons_zero, List.getElem?_cons_succ] at y0 y1 y2
              go_cut [58] (fun c wx => c = .bool (decide (0 ≤ b ∧ (i : Int) ∉ ss ∧ b ∉ ps)) ∧ wa = wx)
              case first =>
                by_cases hb0 : 0 ≤ b
                · have hb5 : decide (0 ≤ b) = true := decide_eq_true hb0
                  go_wp2_with fail
                  refine (HH.out ss qS dS i wa RS.out ls).mono ?_
                  rintro e w' ⟨he, rfl⟩
                  by_cases h1 : (i : Int) ∈ ss
                  · rw [decide_eq_true h1] at he
                    subst he
                    have HV := Lib.hid (show decide (0 ≤ b ∧ (i : Int) ∉ ss ∧ b ∉ ps) = false from decide_eq_false (fun k => k.2.1 h1))
                    clear h1
                    go_wp2_with fail
                    go_meet
                    exact ⟨by rw [HV.out], rfl⟩
                  · rw [decide_eq_false h1] at he
                    subst he
                    have H1 := Lib.hid h1
                    clear h1
                    go_wp2_with fail
                    refine (HH.out ps qP dP b wa RP.out lp).mono ?_
                    rintro e w' ⟨he, rfl⟩
                    by_cases h2 : b ∈ ps
                    · rw [decide_eq_true h2] at he
                      subst he
                      have HV := Lib.hid (show decide (0 ≤ b ∧ (i : Int) ∉ ss ∧ b ∉ ps) = false from decide_eq_false (fun k => k.2.2 h2))
                      clear h2
                      go_wp2_with fail
                      go_meet
                      exact ⟨by rw [HV.out], rfl⟩
                    · rw [decide_eq_false h2] at he
                      subst he
                      have HV := Lib.hid (show decide (0 ≤ b ∧ (i : Int) ∉ ss ∧ b ∉ ps) = true from decide_eq_true ⟨hb0, H1.out, h2⟩)
                      clear h2
                      go_wp2_with fail
                      go_meet
                      exact ⟨by rw [HV.out], rfl⟩
                · have HV := Lib.hid (show decide (0 ≤ b ∧ (i : Int) ∉ ss ∧ b ∉ ps) = false from decide_eq_false (fun k => hb0 k.1))
                  have hb0' : b < 0 := by omega
                  have hb5 : decide (0 ≤ b) = false := decide_eq_false hb0
                  clear hb0
                  go_wp2_with fail
                  go_meet
                  exact ⟨by rw [HV.out], rfl⟩
              case rest =>
                obtain ⟨rfl, rfl⟩ := hcut
                go_upto_if 58 with fail
                go_cut [] (fun wx => IntBlk wx g (relB s ss ps i G a b h) ∧ Blk wx X [.int .i64 a, .int .i64 b, .int .i64 h] 99 ∧ Up w0 wx)
                case first =>
                  by_cases hc : 0 ≤ b ∧ (i : Int) ∉ ss ∧ b ∉ ps
                  · rw [decide_eq_true hc]
                    have hb4 : 0 ≤ b ∧ b < s.floors.length := by have := hc.1; omega
                    have HRB := Lib.hid (show relB s ss ps i G a b h = G.set b.toNat (min (G[b.toNat]?.getD 0) (ovr s G a b h)) by unfold relB; rw [if_pos hc])
                    clear hc
                    have HOV := Lib.hid (fun W (u : Up wa W) => over_c s G g s.floors.length d a b h W hpl (HL.out.up (Up.trans U0.out (Up.trans UA.out u))) (RowBlk.row (RowBlk.up IA.out u)) ha3 hb4 (by omega) (by omega))
                    obtain ⟨n, hn⟩ := Int.eq_ofNat_of_zero_le hb4.1
                    have hnl : n < G.length := by omega
                    have z0 := IntBlk.at IA.out n hnl
                    have HG := Lib.hid (show G[b.toNat]?.getD 0 = G[n] by rw [hn, Int.toNat_natCast, List.getElem?_eq_getElem hnl]; rfl)
                    have HN := Lib.hid (show b.toNat = n by omega)
                    obtain ⟨c0, c1, c2, c3, c4⟩ := five (BS.out.up UA.out)
                    have lg := IA.out.lt
                    have lb := (BS.out.up UA.out).lt
                    subst hn
                    have n1 : (n : Int) < s.floors.length := hb4.2
                    generalize ovr s G a n h = ov at *
                    generalize G[n] = lo at *
                    go_upto_region 14 with fail
                    refine region_tail (fun W' => W'.cell? ⟨X, 0, none⟩ = some (.int .i64 a) ∧ W'.cell? ⟨X, 1, none⟩ = some (.int .i64 (n : Int)) ∧ W'.cell? ⟨X, 2, none⟩ = some (.int .i64 h) ∧ W'.cell? ⟨g, n, none⟩ = some (.int .i64 lo) ∧ W'.cell? ⟨w.heap.size, 0, none⟩ = some (.slice pT s.table.length cT) ∧ W'.cell? ⟨w.heap.size, 1, none⟩ = some (.int .i64 s.lo) ∧ W'.cell? ⟨w.heap.size, 2, none⟩ = some (.int .i64 s.hi) ∧ W'.cell? ⟨w.heap.size, 3, none⟩ = some (.slice pF s.floors.length cF) ∧ W'.cell? ⟨w.heap.size, 4, none⟩ = some (.slice (some ⟨bs, os, none⟩) s.sills.length cS)) 18 mixed (by kernel_rfl) ⟨y0, y1, y2, z0, c0, c1, c2, c3, c4⟩ (fun hHeld => ?_)
                    refine wpAnyG_take 0 59 (v := ?_) rfl rfl (by kernel_rfl) (fun _ _ _ h => h) (Or.inl ⟨by rfl, ?_⟩) (by assumption) ?_
                    rotate_left
                    · (intro w' hSw; (try dsimp only at hSw); go_split_ands; go_simp; try with_reducible rfl)
                    try simp only [List.setIfInBounds_toArray, List.set_cons_zero, List.set_cons_succ]
                    refine wpAnyG_take 1 60 (v := ?_) rfl rfl (by kernel_rfl) (fun _ _ _ h => h) (Or.inl ⟨by rfl, ?_⟩) (by assumption) ?_
                    rotate_left
                    · (intro w' hSw; (try dsimp only at hSw); go_split_ands; go_simp; try with_reducible rfl)
                    try simp only [List.setIfInBounds_toArray, List.set_cons_zero, List.set_cons_succ]
                    refine wpAnyG_take 2 61 (v := ?_) rfl rfl (by kernel_rfl) (fun _ _ _ h => h) (Or.inl ⟨by rfl, ?_⟩) (by assumption) ?_
                    rotate_left
                    · (intro w' hSw; (try dsimp only at hSw); go_split_ands; go_simp; try with_reducible rfl)
                    try simp only [List.setIfInBounds_toArray, List.set_cons_zero, List.set_cons_succ]
                    refine wpAnyG_take 3 62 (v := ?_) rfl rfl (by kernel_rfl) (fun _ _ _ h => h) (Or.inl ⟨by rfl, ?_⟩) (by assumption) ?_
                    rotate_left
                    · (intro w' hSw; (try dsimp only at hSw); go_split_ands; go_simp; try with_reducible rfl)
                    try simp only [List.setIfInBounds_toArray, List.set_cons_zero, List.set_cons_succ]
                    refine wpAnyG_take 4 63 (v := ?_) rfl rfl (by kernel_rfl) (fun _ _ _ h => h) (Or.inl ⟨by rfl, ?_⟩) (by assumption) ?_
                    rotate_left
                    · (intro w' hSw; (try dsimp only at hSw); go_split_ands; go_simp; try with_reducible rfl)
                    try simp only [List.setIfInBounds_toArray, List.set_cons_zero, List.set_cons_succ]
                    refine wpAnyG_take 5 64 (v := ?_) rfl rfl (by kernel_rfl) (fun _ _ _ h => h) (Or.inl ⟨by rfl, ?_⟩) (by assumption) ?_
                    rotate_left
                    · (intro w' hSw; (try dsimp only at hSw); go_split_ands; go_simp; try with_reducible rfl)
                    try simp only [List.setIfInBounds_toArray, List.set_cons_zero, List.set_cons_succ]
                    refine wpAnyG_take 6 65 (v := ?_) rfl rfl (by kernel_rfl) (fun _ _ _ h => h) (Or.inl ⟨by rfl, ?_⟩) (by assumption) ?_
                    rotate_left
                    · (intro w' hSw; (try dsimp only at hSw); go_split_ands; go_simp; try with_reducible rfl)
                    try simp only [List.setIfInBounds_toArray, List.set_cons_zero, List.set_cons_succ]
                    refine wpAnyG_take 7 66 (v := ?_) rfl rfl (by kernel_rfl) (fun _ _ _ h => h) (Or.inl ⟨by rfl, ?_⟩) (by assumption) ?_
                    rotate_left
                    · (intro w' hSw; (try dsimp only at hSw); go_split_ands; go_simp; try with_reducible rfl)
                    try simp only [List.setIfInBounds_toArray, List.set_cons_zero, List.set_cons_succ]
                    refine wpAnyG_take 8 67 (v := ?_) rfl rfl (by kernel_rfl) (fun _ _ _ h => h) (Or.inl ⟨by rfl, ?_⟩) (by assumption) ?_
                    rotate_left
                    · (intro w' hSw; (try dsimp only at hSw); go_split_ands; go_simp; try with_reducible rfl)
                    try simp only [List.setIfInBounds_toArray, List.set_cons_zero, List.set_cons_succ]
                    refine wpAnyG_take 9 68 (v := ?_) rfl rfl (by kernel_rfl) (fun _ _ _ h => h) (Or.inl ⟨by rfl, ?_⟩) (by assumption) ?_
                    rotate_left
                    · (intro w' hSw; (try dsimp only at hSw); go_split_ands; go_simp; try with_reducible rfl)
                    try simp only [List.setIfInBounds_toArray, List.set_cons_zero, List.set_cons_succ]
                    refine wpAnyG_take 10 69 (v := ?_) rfl rfl (by kernel_rfl) (fun _ _ _ h => h) (Or.inl ⟨by rfl, ?_⟩) (by assumption) ?_
                    rotate_left
                    · (intro w' hSw; (try dsimp only at hSw); go_split_ands; go_simp; try with_reducible rfl)
                    try simp only [List.setIfInBounds_toArray, List.set_cons_zero, List.set_cons_succ]
                    refine wpAnyG_take 11 70 (v := ?_) rfl rfl (by kernel_rfl) (fun _ _ _ h => h) (Or.inl ⟨by rfl, ?_⟩) (by assumption) ?_
                    rotate_left
                    · (intro w' hSw; (try dsimp only at hSw); go_split_ands; go_simp; try with_reducible rfl)
                    try simp only [List.setIfInBounds_toArray, List.set_cons_zero, List.set_cons_succ]
                    refine wpAnyG_take 12 71 (v := ?_) rfl rfl (by kernel_rfl) (fun _ _ _ h => h) (Or.inl ⟨by rfl, ?_⟩) (by assumption) ?_
                    rotate_left
                    · (intro w' hSw; (try dsimp only at hSw); go_split_ands; go_simp; try with_reducible rfl)
                    try simp only [List.setIfInBounds_toArray, List.set_cons_zero, List.set_cons_succ]
                    refine wpAnyG_take 13 72 (v := ?_) rfl rfl (by kernel_rfl) (fun _ _ _ h => h) (Or.inl ⟨by rfl, ?_⟩) (by assumption) ?_
                    rotate_left
                    · (intro w' hSw; (try dsimp only at hSw); go_split_ands; go_simp; try with_reducible rfl)
                    try simp only [List.setIfInBounds_toArray, List.set_cons_zero, List.set_cons_succ]
                    refine wpAnyG_take 14 73 (v := ?_) rfl rfl (by kernel_rfl) (fun _ _ _ h => h) (Or.inl ⟨by rfl, ?_⟩) (by assumption) ?_
                    rotate_left
                    · (intro w' hSw; (try dsimp only at hSw); go_split_ands; go_simp; try with_reducible rfl)
                    try simp only [List.setIfInBounds_toArray, List.set_cons_zero, List.set_cons_succ]
                    refine wpAnyG_take 15 74 (v := ?_) rfl rfl (by kernel_rfl) (fun _ _ _ h => h) (Or.inl ⟨by rfl, ?_⟩) (by assumption) ?_
                    rotate_left
                    · (intro w' hSw; (try dsimp only at hSw); go_split_ands; go_simp; try with_reducible rfl)
                    try simp only [List.setIfInBounds_toArray, List.set_cons_zero, List.set_cons_succ]
                    refine wpAnyG_do 16 rfl (by kernel_rfl) (fun K hK => ?_)
                    rw [if_pos (by rfl)]
                    go_simp
                    refine (HOV.out _ ((Below.refl _ _).drew)).mono ?_
                    rintro e wv ⟨rfl, vv⟩
                    have vv' : Up wa wv := Up.trans ((Below.refl _ _).drew) vv
                    refine hK.out _ _ ⟨vv'.cellAt y0, vv'.cellAt y1, vv'.cellAt y2, vv'.cellAt z0, vv'.cellAt c0, vv'.cellAt c1, vv'.cellAt c2, vv'.cellAt c3, vv'.cellAt c4⟩ (fun hHeld => ?_)
                    clear hK K
                    have IV := Lib.hid (RowBlk.up IA.out vv')
                    have XV := Lib.hid (BX.out.up vv')
                    have UV := Lib.hid (Up.trans UA.out vv')
                    have lgv := IV.out.lt
                    have fgv := IV.out.free
                    have zv := vv'.cellAt z0
                    by_cases hmin : ov < lo
                    · have HMIN := Lib.hid (show min lo ov = ov by omega)
                      refine wpAnyG_take 17 76 (v := .int .i64 ov) rfl rfl (by kernel_rfl) (fun _ _ _ h => h) (Or.inl ⟨by rfl, ?_⟩) (by assumption) ?_
                      · intro w' _
                        go_simp
                      try simp only [List.setIfInBounds_toArray, List.set_cons_zero, List.set_cons_succ]
                      clear hHeld vv vv' z0 c0 c1 c2 c3 c4 y0 y1 y2 HOV
                      refine wpAnyG_tail (by kernel_rfl) ?_
                      change wpList _ _ _ [_, _] _ _
                      go_wp2_with fail
                      go_meet
                      refine ⟨?_, XV.out.other (by simp only []; omega) _, UV.out.setCell (by simp only []; omega) _⟩
                      rw [HRB.out, HG.out, HN.out, HMIN.out]
                      exact IntBlk.put IV.out n hnl ov
                    · have HMIN := Lib.hid (show min lo ov = lo by omega)
                      refine wpAnyG_take 17 76 (v := .int .i64 lo) rfl rfl (by kernel_rfl) (fun _ _ _ h => h) (Or.inl ⟨by rfl, ?_⟩) (by assumption) ?_
                      · intro w' _
                        go_simp
                      try simp only [List.setIfInBounds_toArray, List.set_cons_zero, List.set_cons_succ]
                      clear hHeld vv vv' z0 c0 c1 c2 c3 c4 y0 y1 y2 HOV
                      refine wpAnyG_tail (by kernel_rfl) ?_
                      change wpList _ _ _ [_, _] _ _
                      go_wp2_with fail
                      go_meet
                      refine ⟨?_, XV.out.other (by simp only []; omega) _, UV.out.setCell (by simp only []; omega) _⟩
                      rw [HRB.out, HG.out, HN.out, HMIN.out]
                      exact IntBlk.put IV.out n hnl lo
                  · rw [decide_eq_false hc]
                    have HRB := Lib.hid (relB_ends (s := s) (g := G) (a := a) (h := h) hc)
                    clear hc
                    go_wp2_with fail
                    go_meet
                    exact ⟨by rw [HRB.out]; exact IA.out, BX.out, UA.out⟩
                case rest =>
                  obtain ⟨hi4, hx4, hu4⟩ := hcut
                  have hpl4 : (relB s ss ps i G a b h).length = s.floors.length := by rw [relB_len]; exact hpl

                  clear IA UA BX RS RP y0 y1 y2 ly hpl
                  generalize hG1' : relB s ss ps i G a b h = G1 at *
                  have hG1 := Lib.hid hG1'
                  clear hG1'
                  have IA := Lib.hid hi4
                  have BX := Lib.hid hx4
                  have UA := Lib.hid hu4
                  have hpl := hpl4
                  clear hi4 hx4 hu4 hpl4
                  generalize wc = wb at *
                  go_upto_region 15 with fail

                  have RS := Lib.hid (HS.out.up (Up.trans U0.out UA.out))
                  have RP := Lib.hid (HP.out.up (Up.trans U0.out UA.out))
                  have y0 := BX.out.cell 0
                  have y1 := BX.out.cell 1
                  have y2 := BX.out.cell 2
                  have ly := BX.out.lt
                  simp only [List.getElem?_cons_zero, List.getElem?_cons_succ] at y0 y1 y2
                  go_cut [93] (fun c wx => c = .bool (decide (0 ≤ a ∧ (i : Int) ∉ ss ∧ a ∉ ps)) ∧ wb = wx)
                  case first =>
                    by_cases hb0 : 0 ≤ a
                    · have hb5 : decide (0 ≤ a) = true := decide_eq_true hb0
                      go_wp2_with fail
                      refine (HH.out ss qS dS i wb RS.out ls).mono ?_
                      rintro e w' ⟨he, rfl⟩
                      by_cases h1 : (i : Int) ∈ ss
                      · rw [decide_eq_true h1] at he
                        subst he
                        have HV := Lib.hid (show decide (0 ≤ a ∧ (i : Int) ∉ ss ∧ a ∉ ps) = false from decide_eq_false (fun k => k.2.1 h1))
                        clear h1
                        go_wp2_with fail
                        go_meet
                        exact ⟨by rw [HV.out], rfl⟩
                      · rw [decide_eq_false h1] at he
                        subst he
                        have H1 := Lib.hid h1
                        clear h1
                        go_wp2_with fail
                        refine (HH.out ps qP dP a wb RP.out lp).mono ?_
                        rintro e w' ⟨he, rfl⟩
                        by_cases h2 : a ∈ ps
                        · rw [decide_eq_true h2] at he
                          subst he
                          have HV := Lib.hid (show decide (0 ≤ a ∧ (i : Int) ∉ ss ∧ a ∉ ps) = false from decide_eq_false (fun k => k.2.2 h2))
                          clear h2
                          go_wp2_with fail
                          go_meet
                          exact ⟨by rw [HV.out], rfl⟩
                        · rw [decide_eq_false h2] at he
                          subst he
                          have HV := Lib.hid (show decide (0 ≤ a ∧ (i : Int) ∉ ss ∧ a ∉ ps) = true from decide_eq_true ⟨hb0, H1.out, h2⟩)
                          clear h2
                          go_wp2_with fail
                          go_meet
                          exact ⟨by rw [HV.out], rfl⟩
                    · have HV := Lib.hid (show decide (0 ≤ a ∧ (i : Int) ∉ ss ∧ a ∉ ps) = false from decide_eq_false (fun k => hb0 k.1))
                      have hb0' : a < 0 := by omega
                      have hb5 : decide (0 ≤ a) = false := decide_eq_false hb0
                      clear hb0
                      go_wp2_with fail
                      go_meet
                      exact ⟨by rw [HV.out], rfl⟩
                  case rest =>
                    obtain ⟨rfl, rfl⟩ := hcut
                    go_upto_if 93 with fail
                    have HRP2 := Lib.hid (show rpass s ss ps G0 (i + 1) = relB s ss ps i G1 b a h from HRP.out)
                    by_cases hc : 0 ≤ a ∧ (i : Int) ∉ ss ∧ a ∉ ps
                    · rw [decide_eq_true hc]
                      have hb4 : 0 ≤ a ∧ a < s.floors.length := by have := hc.1; omega
                      have HRB := Lib.hid (show relB s ss ps i G1 b a h = G1.set a.toNat (min (G1[a.toNat]?.getD 0) (ovr s G1 b a h)) by unfold relB; rw [if_pos hc])
                      clear hc
                      have HOV := Lib.hid (fun W (u : Up wb W) => over_c s G1 g s.floors.length d b a h W hpl (HL.out.up (Up.trans U0.out (Up.trans UA.out u))) (RowBlk.row (RowBlk.up IA.out u)) hb3 hb4 (by omega) (by omega))
                      obtain ⟨n, hn⟩ := Int.eq_ofNat_of_zero_le hb4.1
                      have hnl : n < G1.length := by omega
                      have z0 := IntBlk.at IA.out n hnl
                      have HG := Lib.hid (show G1[a.toNat]?.getD 0 = G1[n] by rw [hn, Int.toNat_natCast, List.getElem?_eq_getElem hnl]; rfl)
                      have HN := Lib.hid (show a.toNat = n by omega)
                      obtain ⟨c0, c1, c2, c3, c4⟩ := five (BS.out.up UA.out)
                      have lg := IA.out.lt
                      have lb := (BS.out.up UA.out).lt
                      subst hn
                      have n1 : (n : Int) < s.floors.length := hb4.2
                      generalize ovr s G1 b n h = ov at *
                      generalize G1[n] = lo at *
                      go_upto_region 16 with fail
                      refine region_tail (fun W' => W'.cell? ⟨X, 0, none⟩ = some (.int .i64 (n : Int)) ∧ W'.cell? ⟨X, 1, none⟩ = some (.int .i64 b) ∧ W'.cell? ⟨X, 2, none⟩ = some (.int .i64 h) ∧ W'.cell? ⟨g, n, none⟩ = some (.int .i64 lo) ∧ W'.cell? ⟨w.heap.size, 0, none⟩ = some (.slice pT s.table.length cT) ∧ W'.cell? ⟨w.heap.size, 1, none⟩ = some (.int .i64 s.lo) ∧ W'.cell? ⟨w.heap.size, 2, none⟩ = some (.int .i64 s.hi) ∧ W'.cell? ⟨w.heap.size, 3, none⟩ = some (.slice pF s.floors.length cF) ∧ W'.cell? ⟨w.heap.size, 4, none⟩ = some (.slice (some ⟨bs, os, none⟩) s.sills.length cS)) 18 mixed (by kernel_rfl) ⟨y0, y1, y2, z0, c0, c1, c2, c3, c4⟩ (fun hHeld => ?_)
                      refine wpAnyG_take 0 94 (v := ?_) rfl rfl (by kernel_rfl) (fun _ _ _ h => h) (Or.inl ⟨by rfl, ?_⟩) (by assumption) ?_
                      rotate_left
                      · (intro w' hSw; (try dsimp only at hSw); go_split_ands; go_simp; try with_reducible rfl)
                      try simp only [List.setIfInBounds_toArray, List.set_cons_zero, List.set_cons_succ]
                      refine wpAnyG_take 1 95 (v := ?_) rfl rfl (by kernel_rfl) (fun _ _ _ h => h) (Or.inl ⟨by rfl, ?_⟩) (by assumption) ?_
                      rotate_left
                      · (intro w' hSw; (try dsimp only at hSw); go_split_ands; go_simp; try with_reducible rfl)
                      try simp only [List.setIfInBounds_toArray, List.set_cons_zero, List.set_cons_succ]
                      refine wpAnyG_take 2 96 (v := ?_) rfl rfl (by kernel_rfl) (fun _ _ _ h => h) (Or.inl ⟨by rfl, ?_⟩) (by assumption) ?_
                      rotate_left
                      · (intro w' hSw; (try dsimp only at hSw); go_split_ands; go_simp; try with_reducible rfl)
                      try simp only [List.setIfInBounds_toArray, List.set_cons_zero, List.set_cons_succ]
                      refine wpAnyG_take 3 97 (v := ?_) rfl rfl (by kernel_rfl) (fun _ _ _ h => h) (Or.inl ⟨by rfl, ?_⟩) (by assumption) ?_
                      rotate_left
                      · (intro w' hSw; (try dsimp only at hSw); go_split_ands; go_simp; try with_reducible rfl)
                      try simp only [List.setIfInBounds_toArray, List.set_cons_zero, List.set_cons_succ]
                      refine wpAnyG_take 4 98 (v := ?_) rfl rfl (by kernel_rfl) (fun _ _ _ h => h) (Or.inl ⟨by rfl, ?_⟩) (by assumption) ?_
                      rotate_left
                      · (intro w' hSw; (try dsimp only at hSw); go_split_ands; go_simp; try with_reducible rfl)
                      try simp only [List.setIfInBounds_toArray, List.set_cons_zero, List.set_cons_succ]
                      refine wpAnyG_take 5 99 (v := ?_) rfl rfl (by kernel_rfl) (fun _ _ _ h => h) (Or.inl ⟨by rfl, ?_⟩) (by assumption) ?_
                      rotate_left
                      · (intro w' hSw; (try dsimp only at hSw); go_split_ands; go_simp; try with_reducible rfl)
                      try simp only [List.setIfInBounds_toArray, List.set_cons_zero, List.set_cons_succ]
                      refine wpAnyG_take 6 100 (v := ?_) rfl rfl (by kernel_rfl) (fun _ _ _ h => h) (Or.inl ⟨by rfl, ?_⟩) (by assumption) ?_
                      rotate_left
                      · (intro w' hSw; (try dsimp only at hSw); go_split_ands; go_simp; try with_reducible rfl)
                      try simp only [List.setIfInBounds_toArray, List.set_cons_zero, List.set_cons_succ]
                      refine wpAnyG_take 7 101 (v := ?_) rfl rfl (by kernel_rfl) (fun _ _ _ h => h) (Or.inl ⟨by rfl, ?_⟩) (by assumption) ?_
                      rotate_left
                      · (intro w' hSw; (try dsimp only at hSw); go_split_ands; go_simp; try with_reducible rfl)
                      try simp only [List.setIfInBounds_toArray, List.set_cons_zero, List.set_cons_succ]
                      refine wpAnyG_take 8 102 (v := ?_) rfl rfl (by kernel_rfl) (fun _ _ _ h => h) (Or.inl ⟨by rfl, ?_⟩) (by assumption) ?_
                      rotate_left
                      · (intro w' hSw; (try dsimp only at hSw); go_split_ands; go_simp; try with_reducible rfl)
                      try simp only [List.setIfInBounds_toArray, List.set_cons_zero, List.set_cons_succ]
                      refine wpAnyG_take 9 103 (v := ?_) rfl rfl (by kernel_rfl) (fun _ _ _ h => h) (Or.inl ⟨by rfl, ?_⟩) (by assumption) ?_
                      rotate_left
                      · (intro w' hSw; (try dsimp only at hSw); go_split_ands; go_simp; try with_reducible rfl)
                      try simp only [List.setIfInBounds_toArray, List.set_cons_zero, List.set_cons_succ]
                      refine wpAnyG_take 10 104 (v := ?_) rfl rfl (by kernel_rfl) (fun _ _ _ h => h) (Or.inl ⟨by rfl, ?_⟩) (by assumption) ?_
                      rotate_left
                      · (intro w' hSw; (try dsimp only at hSw); go_split_ands; go_simp; try with_reducible rfl)
                      try simp only [List.setIfInBounds_toArray, List.set_cons_zero, List.set_cons_succ]
                      refine wpAnyG_take 11 105 (v := ?_) rfl rfl (by kernel_rfl) (fun _ _ _ h => h) (Or.inl ⟨by rfl, ?_⟩) (by assumption) ?_
                      rotate_left
                      · (intro w' hSw; (try dsimp only at hSw); go_split_ands; go_simp; try with_reducible rfl)
                      try simp only [List.setIfInBounds_toArray, List.set_cons_zero, List.set_cons_succ]
                      refine wpAnyG_take 12 106 (v := ?_) rfl rfl (by kernel_rfl) (fun _ _ _ h => h) (Or.inl ⟨by rfl, ?_⟩) (by assumption) ?_
                      rotate_left
                      · (intro w' hSw; (try dsimp only at hSw); go_split_ands; go_simp; try with_reducible rfl)
                      try simp only [List.setIfInBounds_toArray, List.set_cons_zero, List.set_cons_succ]
                      refine wpAnyG_take 13 107 (v := ?_) rfl rfl (by kernel_rfl) (fun _ _ _ h => h) (Or.inl ⟨by rfl, ?_⟩) (by assumption) ?_
                      rotate_left
                      · (intro w' hSw; (try dsimp only at hSw); go_split_ands; go_simp; try with_reducible rfl)
                      try simp only [List.setIfInBounds_toArray, List.set_cons_zero, List.set_cons_succ]
                      refine wpAnyG_take 14 108 (v := ?_) rfl rfl (by kernel_rfl) (fun _ _ _ h => h) (Or.inl ⟨by rfl, ?_⟩) (by assumption) ?_
                      rotate_left
                      · (intro w' hSw; (try dsimp only at hSw); go_split_ands; go_simp; try with_reducible rfl)
                      try simp only [List.setIfInBounds_toArray, List.set_cons_zero, List.set_cons_succ]
                      refine wpAnyG_take 15 109 (v := ?_) rfl rfl (by kernel_rfl) (fun _ _ _ h => h) (Or.inl ⟨by rfl, ?_⟩) (by assumption) ?_
                      rotate_left
                      · (intro w' hSw; (try dsimp only at hSw); go_split_ands; go_simp; try with_reducible rfl)
                      try simp only [List.setIfInBounds_toArray, List.set_cons_zero, List.set_cons_succ]
                      refine wpAnyG_do 16 rfl (by kernel_rfl) (fun K hK => ?_)
                      rw [if_pos (by rfl)]
                      go_simp
                      refine (HOV.out _ ((Below.refl _ _).drew)).mono ?_
                      rintro e wv ⟨rfl, vv⟩
                      have vv' : Up wb wv := Up.trans ((Below.refl _ _).drew) vv
                      refine hK.out _ _ ⟨vv'.cellAt y0, vv'.cellAt y1, vv'.cellAt y2, vv'.cellAt z0, vv'.cellAt c0, vv'.cellAt c1, vv'.cellAt c2, vv'.cellAt c3, vv'.cellAt c4⟩ (fun hHeld => ?_)
                      clear hK K
                      have IV := Lib.hid (RowBlk.up IA.out vv')
                      have XV := Lib.hid (BX.out.up vv')
                      have UV := Lib.hid (Up.trans UA.out vv')
                      have lgv := IV.out.lt
                      have fgv := IV.out.free
                      have zv := vv'.cellAt z0
                      by_cases hmin : ov < lo
                      · have HMIN := Lib.hid (show min lo ov = ov by omega)
                        refine wpAnyG_take 17 111 (v := .int .i64 ov) rfl rfl (by kernel_rfl) (fun _ _ _ h => h) (Or.inl ⟨by rfl, ?_⟩) (by assumption) ?_
                        · intro w' _
                          go_simp
                        try simp only [List.setIfInBounds_toArray, List.set_cons_zero, List.set_cons_succ]
                        clear hHeld vv vv' z0 c0 c1 c2 c3 c4 y0 y1 y2 HOV
                        refine wpAnyG_tail (by kernel_rfl) ?_
                        change wpList _ _ _ [_, _] _ _
                        go_wp2_with fail
                        go_roundw
                        case rel =>
                          try ((repeat apply Exists.intro); refine ⟨?_, rfl⟩)
                          refine ⟨i + 1, by omega, by go_num, ?_, UV.out.setCell (by simp only []; omega) _⟩
                          rw [HRP2.out, HRB.out, HG.out, HN.out, HMIN.out]
                          exact IntBlk.put IV.out n hnl ov
                        case measure => simp [intOf]; omega
                      · have HMIN := Lib.hid (show min lo ov = lo by omega)
                        refine wpAnyG_take 17 111 (v := .int .i64 lo) rfl rfl (by kernel_rfl) (fun _ _ _ h => h) (Or.inl ⟨by rfl, ?_⟩) (by assumption) ?_
                        · intro w' _
                          go_simp
                        try simp only [List.setIfInBounds_toArray, List.set_cons_zero, List.set_cons_succ]
                        clear hHeld vv vv' z0 c0 c1 c2 c3 c4 y0 y1 y2 HOV
                        refine wpAnyG_tail (by kernel_rfl) ?_
                        change wpList _ _ _ [_, _] _ _
                        go_wp2_with fail
                        go_roundw
                        case rel =>
                          try ((repeat apply Exists.intro); refine ⟨?_, rfl⟩)
                          refine ⟨i + 1, by omega, by go_num, ?_, UV.out.setCell (by simp only []; omega) _⟩
                          rw [HRP2.out, HRB.out, HG.out, HN.out, HMIN.out]
                          exact IntBlk.put IV.out n hnl lo
                        case measure => simp [intOf]; omega
                    · rw [decide_eq_false hc]
                      have HRB := Lib.hid (relB_ends (s := s) (g := G1) (a := b) (h := h) hc)
                      clear hc
                      go_wp2_with fail
                      go_roundw
                      case rel =>
                        try ((repeat apply Exists.intro); refine ⟨?_, rfl⟩)
                        exact ⟨i + 1, by omega, by go_num, by rw [HRP2.out, HRB.out]; exact IA.out, UA.out⟩
                      case measure => simp [intOf]; omega

            · obtain rfl : i = s.sills.length := by omega
              go_wp2_with fail
              go_roundw
              case rel =>
                try ((repeat apply Exists.intro); refine ⟨?_, rfl⟩)
                exact ⟨k + 1, by omega, by go_num, by rw [HRK.out]; exact HB2.out, HU3.out⟩
              case measure => simp [intOf]; omega
        · obtain rfl : k = s.floors.length := by omega
          have hll := rounds_len (s := s) (ss := ss) (ps := ps) s.floors.length
          have z0 := IntBlk.at HB.out tp (by omega)
          have HF := Lib.hid (show (lowR s ss ps)[tp]?.getD 0 = (rounds s ss ps s.floors.length)[tp]'(by omega) by unfold lowR; rw [List.getElem?_eq_getElem (by omega)]; rfl)
          have t1 : (tp : Int) < s.floors.length := by omega
          have lg := HB.out.lt
          generalize (rounds s ss ps s.floors.length)[tp] = rr at *
          go_wp2_with fail
          go_ret
          exact ⟨by rw [HF.out]; rfl, Up.trans U0.out HU2.out⟩
end
end Go.Proofs.YtknaajofcbenaaaGreat
