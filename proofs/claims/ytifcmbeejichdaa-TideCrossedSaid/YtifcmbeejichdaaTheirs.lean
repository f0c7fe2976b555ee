import Derived.Test.YtifcmbeejichdaaBase
import Derived.Test.YtifcmbeejichdaaHeight
import Derived.Test.YtifcmbeejichdaaChk2
import Derived.Test.YtifcmbeejichdaaCheck
import Derived.Test.YtifcmbeejichdaaOn
import Derived.Test.YtifcmbeejichdaaLower
import Derived.Test.YtifcmbeejichdaaGates
import Derived.Test.YtifcmbeejichdaaBegin
import Derived.Test.YtifcmbeejichdaaSpans
import Derived.Test.YtifcmbeejichdaaFits
import Derived.Test.YtifcmbeejichdaaQue
import Derived.Test.YtifcmbeejichdaaLead
import Derived.Test.YtifcmbeejichdaaWaysF
import Derived.Test.YtifcmbeejichdaaDup
import Derived.Test.YtifcmbeejichdaaOwn
import Derived.Test.YtifcmbeejichdaaFar
import Derived.WalkKit
import Derived.WalkSpells
import Derived.WalkLawsBesides
import Derived.Deep.QuietTactic
import Derived.BigQuiet
import Derived.Lib.Hide
import Derived.Shelf.Abstract
import Derived.BigGuardPart
import Derived.RangeFuncNested
import Derived.RangeFuncBound
import Derived.RangeFuncCalls
import Derived.RangeFuncLeaves
import Derived.Shelf.RegionOpen
import Derived.OwnWalkIn
import Derived.TacticsInMore
import Derived.LoopNIn
import Derived.LoopIn
import Derived.StillTailTactics
import Derived.Deep.RegionHeld3
import Derived.StillTail
import Derived.RangeFuncWrites
import Derived.Laws.StructEq
import Derived.Deep.LoopGhost
import Derived.IntWalk
import Derived.RangeFuncBox
import Derived.ArgAppend
import Derived.Laws.CopyOwn
import Derived.OwnWalk
import Derived.Lib.SliceRun
import Derived.Maps.OwnOps
import Derived.Maps.OwnSet
import Derived.Deep.AppendSrc
import Derived.Deep.Upon
import Derived.Deep.Cut
import Derived.Deep.DeepCutAuto
namespace Go.Proofs.Ytifcmbeejichdaa
open Go.RowKit Go.Shelf

theorem infoRW : (Try.prog.info? 130).map (fun i => (i.zero, i.size, i.bytes)) = some (some (.agg #[.int .i64 0, .int .i64 0]), 2, 16) := by kernel_rfl
theorem infoRS : (Try.prog.info? 131).map (fun i => (i.zero, i.size, i.bytes)) = some (some (.agg #[.int .i64 0, .int .i64 0, .int .i64 0]), 3, 24) := by kernel_rfl

theorem ints_pos (l : List Int) : ∀ r ∈ ints l, 0 < r.length := fun r hr => by simp only [ints, List.mem_map] at hr; obtain ⟨x, -, rfl⟩ := hr; simp
theorem pairs_pos (l : List (Int × Int)) : ∀ r ∈ pairs l, 0 < r.length := fun r hr => by simp only [pairs, List.mem_map] at hr; obtain ⟨x, -, rfl⟩ := hr; simp

section
variable {pT pF pS : Option Addr} {cT cF cS : Nat}
set_option maxRecDepth 100000 in
set_option maxHeartbeats 2000000 in
theorem theirs_c (s : Sd) (w : World) (hl : Lists w s pT pF pS cT cF cS) (b1 : s.table.length * 16 ≤ 140737488355328) (b2 : s.floors.length * 8 ≤ 140737488355328) (b3 : s.sills.length * 24 ≤ 140737488355328) :
    Calls Try.prog 21 #[sdVal s pT pF pS cT cF cS] w fun e w' => ∃ qT qF qS dT dF dS, e = .returned (sdVal s qT qF qS dT dF dS) ∧ Lists w' s qT qF qS dT dF dS ∧ Up w w' ∧ Fresh w.heap.size s qT qF qS := by
  have D2 := Lib.hid (fun W (u : Up w W) => dupInt_c s.floors pF cF W (hl.rf.up u) b2)
  have HL := Lib.hid hl
  clear hl
  unfold sdVal
  go_enter Try.func21, Try.ntmps21
  go_upto_region 1 with fail
  refine Code.wp_world ?_
  intro w0 hw0
  have u0 : Up w w0 := by rw [hw0]; (repeat (first | exact Below.refl _ _ | (with_reducible refine Below.drewN' ?_ _) | (with_reducible refine Below.drew ?_) | (with_reducible refine Below.setCell ?_ (by first | exact Nat.le_refl _ | omega | (with_reducible (repeat (first | refine sz_alloc ?_ | refine sz_setCell ?_ | refine sz_drew ?_ | refine sz_drewN ?_)); first | exact Nat.le_refl _ | omega) | (simp only [World.size_alloc, World.size_setCell, World.size_drew, size_drewN']; omega)) _) | (with_reducible refine Below.alloc ?_ (by first | exact Nat.le_refl _ | omega | (with_reducible (repeat (first | refine sz_alloc ?_ | refine sz_setCell ?_ | refine sz_drew ?_ | refine sz_drewN ?_)); first | exact Nat.le_refl _ | omega) | (simp only [World.size_alloc, World.size_setCell, World.size_drew, size_drewN']; omega)) _) | assumption))
  have z0 : w0.heap.size = w.heap.size + 2 := by rw [hw0]; simp
  have hB : Blk w0 w.heap.size (sdCells s pT pF pS cT cF cS) 28 := by rw [hw0]; exact (Blk.new w _ _).alloc _
  have hR : Blk w0 (w.heap.size + 1) [.slice none 0 0, .int .i64 0, .int .i64 0, .slice none 0 0, .slice none 0 0] 37 := by rw [hw0]; exact Blk.new' _ [.slice none 0 0, .int .i64 0, .int .i64 0, .slice none 0 0, .slice none 0 0] _ (by simp)
  clear hw0
  have c0 := hB.cell 0
  have c1 := hB.cell 1
  have c2 := hB.cell 2
  have c3 := hB.cell 3
  have c4 := hB.cell 4
  simp only [sdCells, List.getElem?_cons_zero, List.getElem?_cons_succ] at c0 c1 c2 c3 c4
  have HB := Lib.hid hB
  have HR := Lib.hid hR
  have HU0 := Lib.hid u0
  have HZ0 := Lib.hid z0
  clear hB hR u0 z0
  go_cut [3] (fun v wx => ∃ B q d, v = .pointer (some ⟨B, 0, none⟩) ∧ w.heap.size + 2 ≤ B ∧ Up w0 wx ∧ Blk wx B [.slice none 0 0, .int .i64 s.lo, .int .i64 s.hi, .slice q s.floors.length d, .slice none 0 0] 37 ∧ s.floors.length ≤ d ∧ d ≤ maxLen ∧ Row wx q 1 (ints s.floors) ∧ (0 < (ints s.floors).length → ∀ b off, q = some ⟨b, off, none⟩ → (b < wx.heap.size ∧ b ≠ B) ∧ w.heap.size + 2 ≤ b))
  case first =>
    have DA : Hid (Calls Try.prog 35 #[.slice pF s.floors.length cF] ((w0.alloc (.cells #[.slice none 0 0, .int .i64 0, .int .i64 0, .slice none 0 0, .slice none 0 0] 37)).drew) (fun e w1 => ∃ p' c', e = .returned (.slice p' s.floors.length c') ∧ s.floors.length ≤ c' ∧ c' ≤ maxLen ∧ Row w1 p' 1 (ints s.floors) ∧ (∀ b off, p' = some ⟨b, off, none⟩ → w0.heap.size + 1 ≤ b) ∧ Up w0 w1 ∧ Blk w1 w0.heap.size [.slice none 0 0, .int .i64 0, .int .i64 0, .slice none 0 0, .slice none 0 0] 37)) := by
      have u : Up w0 ((w0.alloc (.cells #[.slice none 0 0, .int .i64 0, .int .i64 0, .slice none 0 0, .slice none 0 0] 37)).drew) := by (repeat (first | exact Below.refl _ _ | (with_reducible refine Below.drewN' ?_ _) | (with_reducible refine Below.drew ?_) | (with_reducible refine Below.setCell ?_ (by first | exact Nat.le_refl _ | omega | (with_reducible (repeat (first | refine sz_alloc ?_ | refine sz_setCell ?_ | refine sz_drew ?_ | refine sz_drewN ?_)); first | exact Nat.le_refl _ | omega) | (simp only [World.size_alloc, World.size_setCell, World.size_drew, size_drewN']; omega)) _) | (with_reducible refine Below.alloc ?_ (by first | exact Nat.le_refl _ | omega | (with_reducible (repeat (first | refine sz_alloc ?_ | refine sz_setCell ?_ | refine sz_drew ?_ | refine sz_drewN ?_)); first | exact Nat.le_refl _ | omega) | (simp only [World.size_alloc, World.size_setCell, World.size_drew, size_drewN']; omega)) _) | assumption))
      refine (D2.out _ (Up.trans HU0.out u)).mono fun e w1 ⟨p', c', h1, h2, h3, h4, h5, h6⟩ => ⟨p', c', h1, h2, h3, h4, fun b off e => ?_, Up.trans u h6, Blk.up ((Blk.new w0 [.slice none 0 0, .int .i64 0, .int .i64 0, .slice none 0 0, .slice none 0 0] _).drew) h6⟩
      have := h5 b off e
      simpa using this
    have DB : Hid (Calls Try.prog 35 #[.slice pF s.floors.length cF] w0.drew (fun e w1 => ∃ p' c', e = .returned (.slice p' s.floors.length c') ∧ s.floors.length ≤ c' ∧ c' ≤ maxLen ∧ Row w1 p' 1 (ints s.floors) ∧ (∀ b off, p' = some ⟨b, off, none⟩ → w0.heap.size ≤ b) ∧ Up w0 w1)) := by
      have u : Up w0 w0.drew := (Below.refl _ _).drew
      exact (D2.out _ (Up.trans HU0.out u)).mono fun e w1 ⟨p', c', h1, h2, h3, h4, h5, h6⟩ => ⟨p', c', h1, h2, h3, h4, h5, Up.trans u h6⟩
    go_region_held3 (fun w' => w'.cell? ⟨w.heap.size, 1, none⟩ = some (.int .i64 s.lo) ∧ w'.cell? ⟨w.heap.size, 2, none⟩ = some (.int .i64 s.hi) ∧ w'.cell? ⟨w.heap.size, 3, none⟩ = some (.slice pF s.floors.length cF) ∧ Up w0 w')
      (refine ⟨Up.cellAt (w := w0) ?_ c1, Up.cellAt (w := w0) ?_ c2, Up.cellAt (w := w0) ?_ c3, ?_⟩ <;> (repeat (first | exact Below.refl _ _ | (with_reducible refine Below.drewN' ?_ _) | (with_reducible refine Below.drew ?_) | (with_reducible refine Below.setCell ?_ (by first | exact Nat.le_refl _ | omega | (with_reducible (repeat (first | refine sz_alloc ?_ | refine sz_setCell ?_ | refine sz_drew ?_ | refine sz_drewN ?_)); first | exact Nat.le_refl _ | omega) | (simp only [World.size_alloc, World.size_setCell, World.size_drew, size_drewN']; omega)) _) | (with_reducible refine Below.alloc ?_ (by first | exact Nat.le_refl _ | omega | (with_reducible (repeat (first | refine sz_alloc ?_ | refine sz_setCell ?_ | refine sz_drew ?_ | refine sz_drewN ?_)); first | exact Nat.le_refl _ | omega) | (simp only [World.size_alloc, World.size_setCell, World.size_drew, size_drewN']; omega)) _) | assumption)))
      (first
        | (go_at_call 35; with_reducible refine DA.out.mono ?_; rintro e w1 ⟨p', c', rfl, r1, r2, r3, r4, v1, hN⟩; have n0 := hN.cell 0; have n1 := hN.cell 1; have n2 := hN.cell 2; have n3 := hN.cell 3; have n4 := hN.cell 4; have nf := hN.free; have nl := hN.lt; simp only [List.getElem?_cons_zero, List.getElem?_cons_succ] at n0 n1 n2 n3 n4)
        | (go_at_call 35; with_reducible refine DB.out.mono ?_; rintro e w1 ⟨p', c', rfl, r1, r2, r3, r4, v1⟩; have sz := v1.size))
    · go_wp2_with fail
      go_meet
      refine ⟨w1.heap.size, p', c', rfl, ?_, ?_, ?_, r1, r2, ?_, ?_⟩
      · have := HZ0.out; omega
      · exact v1.alloc (by omega) _
      · exact Blk.new _ [.slice none 0 0, .int .i64 s.lo, .int .i64 s.hi, .slice p' s.floors.length c', .slice none 0 0] _
      · exact r3.up (by (repeat (first | exact Below.refl _ _ | (with_reducible refine Below.drewN' ?_ _) | (with_reducible refine Below.drew ?_) | (with_reducible refine Below.setCell ?_ (by first | exact Nat.le_refl _ | omega | (with_reducible (repeat (first | refine sz_alloc ?_ | refine sz_setCell ?_ | refine sz_drew ?_ | refine sz_drewN ?_)); first | exact Nat.le_refl _ | omega) | (simp only [World.size_alloc, World.size_setCell, World.size_drew, size_drewN']; omega)) _) | (with_reducible refine Below.alloc ?_ (by first | exact Nat.le_refl _ | omega | (with_reducible (repeat (first | refine sz_alloc ?_ | refine sz_setCell ?_ | refine sz_drew ?_ | refine sz_drewN ?_)); first | exact Nat.le_refl _ | omega) | (simp only [World.size_alloc, World.size_setCell, World.size_drew, size_drewN']; omega)) _) | assumption)))
      · intro hl b off e
        have hlt := r3.lt (ints_pos _) hl e
        have hr := r4 b off e
        have := HZ0.out
        rw [World.size_alloc]
        omega
    · go_wp2_with fail
      go_meet
      refine ⟨w0.heap.size, p', c', rfl, ?_, ?_, ?_, r1, r2, ?_, ?_⟩
      · have := HZ0.out; omega
      · repeat (first | (with_reducible exact v1) | (with_reducible refine Below.setCell ?_ (by simp only; omega) _))
      · exact ((((hN.set 0 _).set 1 _).set 2 _).set 3 _).set 4 _
      · have hq : ∀ b off, p' = some ⟨b, off, none⟩ → b ≠ w0.heap.size := fun b off e => by have := r4 b off e; omega
        repeat (with_reducible refine Row.other ?_ hq _)
        exact r3
      · intro hl b off e
        have hlt := r3.lt (ints_pos _) hl e
        have hr := r4 b off e
        have := HZ0.out
        simp only [World.size_setCell]
        omega
  case rest =>
    obtain ⟨B, q, d, rfl, hB2, hu, hBk, h1, h2, hq, hqb⟩ := hcut
    have U := Lib.hid (Up.trans HU0.out hu)
    have HLc := Lib.hid (HL.out.up U.out)
    have HL0 := Lib.hid HL.out
    have HRc := Lib.hid (HR.out.up hu)
    have HBc := Lib.hid (HB.out.up hu)
    have k0 := hu.cellAt c0
    have HBk := Lib.hid hBk
    have lB := hBk.lt
    have HQ := Lib.hid hq
    have HQB := Lib.hid hqb
    clear hq hqb hBk hu HU0 HR HB HL D2 c0 c1 c2 c3 c4
    go_wp2_with fail
    obtain ⟨i0, hi, hz0, hz1, hz2⟩ := info_parts infoRW
    go_loopw [17] (fun i wr => ∃ k : Nat, k ≤ s.table.length ∧ i = .int .i64 k ∧ ∃ v, Blk wr B [v, .int .i64 s.lo, .int .i64 s.hi, .slice q s.floors.length d, .slice none 0 0] 37 ∧ wr.ownsRow wc.heap.size 130 2 v k (pairs (s.table.take k)).flatten ∧ Far B wc.heap.size wc wr) (fun i _ => s.table.length - (intOf i).toNat)
    case atStart => exact ⟨0, Nat.zero_le _, rfl, _, HBk.out, World.ownsRow_nil _ _ _ _, Far.refl _ _ _⟩
    case round =>
      obtain ⟨k, hk, rfl, v, hBk, hown, hfar⟩ := hrel
      have HF := Lib.hid hfar
      have UR : Hid (Up w wr) := (Below.trans U.out (hfar.below (b := w.heap.size) (by omega) (by have := U.out.size; omega)))
      have szr := hfar.size
      have HBk1 := Lib.hid hBk
      have HO := Lib.hid hown
      have q0 := hBk.cell 0
      have q1 := hBk.free 0
      have q2 := hBk.lt
      simp only [List.getElem?_cons_zero] at q0
      clear hBk hfar
      by_cases hlt : k < s.table.length
      · obtain ⟨b, off, rfl, d0, d1⟩ := HLc.out.rt.pair k hlt
        have HP := Lib.hid (pairs_take hlt)
        have x0 : wr.cell? ⟨b, off + k * 2, none⟩ = some (.int .i64 s.table[k].1) := by
          obtain ⟨b', off', e', y0, -⟩ := HL0.out.rt.pair k hlt
          simp only [Option.some.injEq, Addr.mk.injEq, and_true] at e'
          obtain ⟨rfl, rfl⟩ := e'
          exact UR.out.cellAt y0
        have x1 : wr.cell? ⟨b, off + k * 2 + 1, none⟩ = some (.int .i64 s.table[k].2) := by
          obtain ⟨b', off', e', -, y1⟩ := HL0.out.rt.pair k hlt
          simp only [Option.some.injEq, Addr.mk.injEq, and_true] at e'
          obtain ⟨rfl, rfl⟩ := e'
          exact UR.out.cellAt y1
        clear d0 d1
        have bl1 : (k : Int) < (s.table.length : Int) := by omega
        have bl2 : (0 : Int) ≤ k := by omega
        have sk : IntKind.i64.wrap ((k : Int) + 1) = (k : Int) + 1 := IntWalk.i64_in _ (by omega)
        generalize s.table[k] = x at *
        obtain ⟨xa, xb⟩ := x
        dsimp only at x0 x1 HP
        generalize (pairs (s.table.take k)).flatten = xs at *
        have HX := Lib.hid HP.out
        clear HP
        go_wp2_with (at_builtin; refine wpList_append_own _ rfl _ _ 34 rfl wc.heap.size 130 i0 (.agg #[.int .i64 0, .int .i64 0]) 2 16 Try.underlying34 hi hz0 hz1 hz2 rfl (by decide) _ _ _ rfl ((hown.alloc _).alloc _) ⟨wr.heap.size + 1, 0, none⟩ 1 1 [.int .i64 xa, .int .i64 xb] rfl rfl (newsAt _ (by simp) [.int .i64 xa, .int .i64 xb] _) (by simp [Value.oneCell']) (by simp [maxLen]; omega) (by omega) (by simp; omega) ?_; intro v' w1 hown1 hgr hnn; clear hnn; have HG : Hid (((wr.alloc (.cells #[.int .i64 xa, .int .i64 xb] 103)).alloc (.cells #[.int .i64 xa, .int .i64 xb] 130)).grownBy w1 v.ownBlock) := hgr; have HB1 := Lib.hid (((HBk1.out.alloc _).alloc _).grown HG.out (fun e => by have := HO.out.lt B e.symm; omega)); have q0 := HB1.out.cell 0; have q1 := HB1.out.free 0; have q2 := HB1.out.lt; have HO1 := Lib.hid hown1; obtain ⟨g', cap', rfl⟩ := ownsRow_succ hown1; simp only [List.getElem?_cons_zero] at q0; clear hown1 hgr)
        go_roundw
        case rel =>
          refine ⟨k + 1, hlt, by go_num, _, HB1.out.set 0 _, ?_, ?_⟩
          · rw [HX.out]
            exact ownsRow_setCell_other HO1.out (fun e => by have := HO1.out.lt B e; omega) _
          · refine ((((HF.out.alloc (by omega) _).alloc (by simp; omega) _).grown HG.out (by simp; omega) (fun j e => (HO.out.lt j e).1)).setIn 0 _)
        case measure => simp [intOf]; omega
      · obtain rfl : k = s.table.length := by omega
        rw [List.take_length] at hown
        obtain ⟨qT, dT, rfl, e1, e2, hT, hTb⟩ := Row.of_own (flatOk_pairs s.table) hown (by simp [pairs])
        have HT := Lib.hid hT
        have HTB := Lib.hid hTb
        have zb := HZ0.out
        have hsB := HF.out.blk HBc.out (by have := HBc.out.lt; omega) (by omega)
        have HS2 := Lib.hid hsB
        have HR2 := Lib.hid (HF.out.blk HRc.out (by have := HRc.out.lt; omega) (by omega))
        have HQ2 := Lib.hid (HF.out.row HQ.out (fun h b off e => (HQB.out h b off e).1))
        have k4 := hsB.cell 4
        simp only [sdCells, List.getElem?_cons_zero, List.getElem?_cons_succ] at k4
        have HB2 := Lib.hid HBk1.out
        clear hT hTb hown zb hsB HBk1 HO HQ HRc HBc HBk q0 q1 k0 HLc hi hz0 hz1 hz2
        obtain ⟨i1, hi, hz0, hz1, hz2⟩ := info_parts infoRS
        obtain ⟨wo, rfl⟩ : ∃ wo : World, wo = wr := ⟨_, rfl⟩
        go_wp2_with fail
        go_loopw [31] (fun i wq => ∃ k : Nat, k ≤ s.sills.length ∧ i = .int .i64 k ∧ ∃ v, Blk wq B [.slice qT s.table.length dT, .int .i64 s.lo, .int .i64 s.hi, .slice q s.floors.length d, v] 37 ∧ wq.ownsRow wo.heap.size 131 3 v k (triples (s.sills.take k)).flatten ∧ Far B wo.heap.size wo wq) (fun i _ => s.sills.length - (intOf i).toNat)
        case atStart => exact ⟨0, Nat.zero_le _, rfl, _, HB2.out, World.ownsRow_nil _ _ _ _, Far.refl _ _ _⟩
        case round =>
          obtain ⟨j, hj, rfl, v, hBk, hown, hfar⟩ := hrel
          have HF2 := Lib.hid hfar
          have UR2 : Hid (Up w wr) := (Below.trans UR.out (hfar.below (b := w.heap.size) (by omega) (by have := UR.out.size; omega)))
          have szq := hfar.size
          have HBk1 := Lib.hid hBk
          have HO := Lib.hid hown
          have q0 := hBk.cell 4
          have q1 := hBk.free 4
          have q2 := hBk.lt
          simp only [List.getElem?_cons_zero, List.getElem?_cons_succ] at q0
          clear hBk hfar
          by_cases hltj : j < s.sills.length
          · have HP := Lib.hid (triples_take hltj)
            have hx : ∃ b off, pS = some ⟨b, off, none⟩ ∧ wr.cell? ⟨b, off + j * 3, none⟩ = some (.int .i64 s.sills[j].1) ∧ wr.cell? ⟨b, off + j * 3 + 1, none⟩ = some (.int .i64 s.sills[j].2.1) ∧ wr.cell? ⟨b, off + j * 3 + 2, none⟩ = some (.int .i64 s.sills[j].2.2) := by
              obtain ⟨b, off, e', y0, y1, y2⟩ := HL0.out.rs.triple j hltj
              exact ⟨b, off, e', UR2.out.cellAt y0, UR2.out.cellAt y1, UR2.out.cellAt y2⟩
            obtain ⟨b, off, rfl, x0, x1, x2⟩ := hx
            have bl1 : (j : Int) < (s.sills.length : Int) := by omega
            have bl2 : (0 : Int) ≤ j := by omega
            have sk : IntKind.i64.wrap ((j : Int) + 1) = (j : Int) + 1 := IntWalk.i64_in _ (by omega)
            generalize s.sills[j] = x at *
            obtain ⟨xa, xb, xc⟩ := x
            dsimp only at x0 x1 x2 HP
            generalize (triples (s.sills.take j)).flatten = xs at *
            have HX := Lib.hid HP.out
            clear HP
            go_wp2_with (at_builtin; refine wpList_append_own _ rfl _ _ 35 rfl wo.heap.size 131 i1 (.agg #[.int .i64 0, .int .i64 0, .int .i64 0]) 3 24 Try.underlying35 hi hz0 hz1 hz2 rfl (by decide) _ _ _ rfl ((hown.alloc _).alloc _) ⟨wr.heap.size + 1, 0, none⟩ 1 1 [.int .i64 xa, .int .i64 xb, .int .i64 xc] rfl rfl (newsAt _ (by simp) [.int .i64 xa, .int .i64 xb, .int .i64 xc] _) (by simp [Value.oneCell']) (by simp [maxLen]; omega) (by omega) (by simp; omega) ?_; intro v' w1 hown1 hgr hnn; clear hnn; have HG : Hid (((wr.alloc (.cells #[.int .i64 xa, .int .i64 xb, .int .i64 xc] 97)).alloc (.cells #[.int .i64 xa, .int .i64 xb, .int .i64 xc] 131)).grownBy w1 v.ownBlock) := hgr; have HB1 := Lib.hid (((HBk1.out.alloc _).alloc _).grown HG.out (fun e => by have := HO.out.lt B e.symm; omega)); have q0 := HB1.out.cell 4; have q1 := HB1.out.free 4; have q2 := HB1.out.lt; have HO1 := Lib.hid hown1; obtain ⟨g', cap', rfl⟩ := ownsRow_succ hown1; simp only [List.getElem?_cons_zero, List.getElem?_cons_succ] at q0; clear hown1 hgr)
            go_roundw
            case rel =>
              refine ⟨j + 1, hltj, by go_num, _, HB1.out.set 4 _, ?_, ?_⟩
              · rw [HX.out]
                exact ownsRow_setCell_other HO1.out (fun e => by have := HO1.out.lt B e; omega) _
              · refine ((((HF2.out.alloc (by omega) _).alloc (by simp; omega) _).grown HG.out (by simp; omega) (fun j e => (HO.out.lt j e).1)).setIn 4 _)
            case measure => simp [intOf]; omega
          · obtain rfl : j = s.sills.length := by omega
            rw [List.take_length] at hown
            obtain ⟨qS, dS, rfl, f1, f2, hS, hSb⟩ := Row.of_own (flatOk_triples s.sills) hown (by simp [triples])
            have HS := Lib.hid hS
            have zb := HZ0.out
            have HQ3 := Lib.hid (HF2.out.row HQ2.out (fun h b off e => by obtain ⟨⟨h1, h2⟩, -⟩ := HQB.out h b off e; exact ⟨by omega, h2⟩))
            have HT3 := Lib.hid (HF2.out.row HT.out (fun h b off e => by have h1 := HTB.out b off e; exact ⟨HT.out.lt (pairs_pos _) h e, by omega⟩))
            have HSB := Lib.hid (fun b off (e : qS = some ⟨b, off, none⟩) => hSb b off e)
            have hR := HF2.out.blk HR2.out (by have := HR2.out.lt; omega) (by omega)
            have HR3 := Lib.hid hR
            have z0 := hR.cell 0
            have z1 := hR.cell 1
            have z2 := hR.cell 2
            have z3 := hR.cell 3
            have z4 := hR.cell 4
            have fr := hR.free
            have lR := hR.lt
            have y0 := HBk1.out.cell 0
            have y1 := HBk1.out.cell 1
            have y2 := HBk1.out.cell 2
            have y3 := HBk1.out.cell 3
            simp only [List.getElem?_cons_zero, List.getElem?_cons_succ] at z0 z1 z2 z3 z4 y0 y1 y2 y3
            have HH := Lib.hid (show wc.heap.size ≥ w.heap.size + 2 by omega)
            have HFr : Hid (Fresh w.heap.size s qT q qS) := ⟨fun _ b off e => by have := HTB.out b off e; omega, fun h b off e => by have := (HQB.out (by simpa [ints] using h) b off e).2; omega, fun _ b off e => by have := hSb b off e; omega⟩
            clear hR hS hSb hown zb HO HF HF2 HT HQ2 HS2 HR2 HB2 hi hz0 hz1 hz2 k4
            go_wp2_with fail
            have hB := ((((HR3.out.set 0 (.slice qT s.table.length dT)).set 1 (.int .i64 s.lo)).set 2 (.int .i64 s.hi)).set 3 (.slice q s.floors.length d)).set 4 (.slice qS s.sills.length dS)
            simp only [List.set_cons_zero, List.set_cons_succ] at hB
            have p0 := hB.cell 0
            have p1 := hB.cell 1
            have p2 := hB.cell 2
            have p3 := hB.cell 3
            have p4 := hB.cell 4
            simp only [List.getElem?_cons_zero, List.getElem?_cons_succ] at p0 p1 p2 p3 p4
            refine bodyPost_ret (v := .agg #[.slice qT s.table.length dT, .int .i64 s.lo, .int .i64 s.hi, .slice q s.floors.length d, .slice qS s.sills.length dS]) (by simp [results, Try.f21, go_sem, p0, p1, p2, p3, p4]) rfl ⟨qT, q, qS, dT, d, dS, rfl, ⟨?_, ?_, ?_, e1, h1, f1, e2, h2, f2⟩, ?_, HFr.out⟩
            · have hh := HH.out
              repeat (with_reducible refine Row.away ?_ (fun _ b off e => by have := HTB.out b off e; simp only; omega) _)
              exact HT3.out
            · repeat (with_reducible refine Row.away ?_ (fun h b off e => by have := (HQB.out h b off e).2; simp only; omega) _)
              exact HQ3.out
            · have hh := HH.out
              repeat (with_reducible refine Row.away ?_ (fun _ b off e => by have := HSB.out b off e; simp only; omega) _)
              exact HS.out
            · have h4 := UR2.out
              repeat (first | (with_reducible exact h4) | (with_reducible refine Below.setCell ?_ (by simp only; omega) _))
end
end Go.Proofs.Ytifcmbeejichdaa
