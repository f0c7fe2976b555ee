import Derived.Test.YtknaajofcbenaaaGreatBase
import Derived.Test.YtknaajofcbenaaaGreatHeight
import Derived.Test.YtknaajofcbenaaaGreatChk
import Derived.Test.YtknaajofcbenaaaGreatChk2
import Derived.Test.YtknaajofcbenaaaGreatCheck
import Derived.Test.YtknaajofcbenaaaGreatOn
import Derived.Test.YtknaajofcbenaaaGreatLower
import Derived.Test.YtknaajofcbenaaaGreatGates
import Derived.WalkKit
import Derived.WalkSpells
import Derived.WalkLawsBesides
import Derived.Deep.QuietTactic
import Derived.BigQuiet
import Derived.Lib.Hide
import Derived.Shelf.Abstract
import Derived.BigGuardPart
import Derived.RangeFuncNested
import Derived.RangeFuncBound
import Derived.RangeFuncCalls
import Derived.RangeFuncLeaves
import Derived.Shelf.RegionOpen
import Derived.OwnWalkIn
import Derived.TacticsInMore
import Derived.LoopNIn
import Derived.LoopIn
import Derived.StillTailTactics
import Derived.Deep.RegionHeld3
import Derived.StillTail
import Derived.RangeFuncWrites
import Derived.Laws.StructEq
import Derived.Deep.LoopGhost
namespace Go.Proofs.YtknaajofcbenaaaGreat
open Go.RowKit Go.Shelf

/-- sands at work: five cells of sands, eight of gates -/
structure IsWork (w : World) (bw : Nat) (s : Sd) (pT pF pS : Option Addr) (cT cF cS : Nat) : Prop where
  sands : SandsAt w bw 0 s pT pF pS cT cF cS
  gates : ∀ i, i < 8 → w.cell? ⟨bw, 5 + i, none⟩ = some (.int .i64 ((gts s)[i]?.getD 0))
theorem IsWork.up {w w' : World} {bw : Nat} {s : Sd} {pT pF pS : Option Addr} {cT cF cS : Nat} (h : IsWork w bw s pT pF pS cT cF cS) (u : Up w w') : IsWork w' bw s pT pF pS cT cF cS :=
  ⟨h.sands.up u, fun i hi => u.cellAt (h.gates i hi)⟩

/-- what Check asks -/
structure Ok (s : Sd) : Prop where
  table : okTable s.table
  fl0 : 1 ≤ s.floors.length
  fl1 : s.floors.length ≤ 8
  sl : s.sills.length ≤ 16
  lo0 : -50 ≤ s.lo
  hi1 : s.hi ≤ 50
  lohi : s.lo ≤ s.hi
  floors : ∀ x ∈ s.floors, 0 ≤ x ∧ x ≤ 999
  heights : ∀ x ∈ s.sills, 0 ≤ x.2.2 ∧ x.2.2 ≤ 999
  good : goodSills s.sills s.floors.length
  two : ∀ x ∈ s.sills, x.1 ≠ x.2.1

theorem ordB_spec {l : List (Int × Int)} (h : ordB l = true) : ∀ i (hi : i + 1 < l.length), l[i].1 < l[i + 1].1 := by
  intro i hi
  have := List.all_eq_true.1 h i (by simp; omega)
  simpa [List.getD, List.getElem?_eq_getElem hi, List.getElem?_eq_getElem (show i < l.length by omega)] using this

theorem chk_ok {s : Sd} (h : chk s = 0) : Ok s := by
  unfold chk at h
  by_cases h1 : okCounts s = false
  · rw [if_pos h1] at h; cases h
  rw [if_neg h1] at h
  by_cases h2 : okNumbers s = false
  · rw [if_pos h2] at h; cases h
  rw [if_neg h2] at h
  by_cases h3 : okOrder s = false
  · rw [if_pos h3] at h; cases h
  rw [if_neg h3] at h
  by_cases h4 : s.sills.all (okThings s.floors.length) = false
  · rw [if_pos h4] at h; cases h
  rw [if_neg h4] at h
  by_cases h5 : s.sills.all (fun x => x.1 != x.2.1) = false
  · rw [if_pos h5] at h; cases h
  rw [Bool.not_eq_false] at h1 h2 h3 h4 h5
  simp only [okCounts, Bool.and_eq_true, inB_true, decide_eq_true_eq] at h1
  simp only [okNumbers, Bool.and_eq_true, inB_true, List.all_eq_true, okWater] at h2
  simp only [okOrder, Bool.and_eq_true, decide_eq_true_eq] at h3
  rw [List.all_eq_true] at h4 h5
  obtain ⟨⟨⟨a1, a2⟩, a3, a4⟩, a5⟩ := h1
  obtain ⟨⟨⟨⟨b1, b2⟩, b3⟩, b4⟩, b5⟩ := h2
  refine ⟨⟨fun x hx => ?_, ordB_spec h3.1, by omega, by omega⟩, by omega, by omega, by omega, b2.1, b3.2, h3.2, b4, b5, fun x hx => ?_, fun x hx => by simpa using h5 x hx⟩
  · obtain ⟨⟨p, q⟩, r, t⟩ := b1 x hx; exact ⟨p, q, r, t⟩
  · have := h4 x hx
    simp only [okThings, Bool.and_eq_true, Bool.or_eq_true, beq_iff_eq, inB_true] at this
    omega

theorem box5 {w : World} {B : Nat} {s : Sd} {pT pF pS : Option Addr} {cT cF cS : Nat} {T : TypeId} (h : Blk w B (sdCells s pT pF pS cT cF cS) T) :
    w.cell? ⟨B, 0, none⟩ = some (.slice pT s.table.length cT) ∧ w.cell? ⟨B, 1, none⟩ = some (.int .i64 s.lo) ∧ w.cell? ⟨B, 2, none⟩ = some (.int .i64 s.hi) ∧ w.cell? ⟨B, 3, none⟩ = some (.slice pF s.floors.length cF) ∧ w.cell? ⟨B, 4, none⟩ = some (.slice pS s.sills.length cS) :=
  ⟨h.cell 0, h.cell 1, h.cell 2, h.cell 3, h.cell 4⟩
theorem list8 {l : List Int} (h : l.length = 8) : ∃ a b c d e f g i, l = [a, b, c, d, e, f, g, i] := by
  match l, h with
  | [a, b, c, d, e, f, g, i], _ => exact ⟨a, b, c, d, e, f, g, i, rfl⟩
theorem fixG_len (s : Sd) : ∀ n g, g.length = 8 → (fixG s n g).length = 8
  | 0, g, h => h
  | n + 1, g, h => by
    unfold fixG
    split
    · exact h
    · exact fixG_len s n _ (lowered_len s g h)
theorem gts_len (s : Sd) : (gts s).length = 8 := fixG_len s _ _ rfl

def Began (s : Sd) (pT pF pS : Option Addr) (cT cF cS : Nat) (w : World) (E : Int) (e : Ending) (w' : World) : Prop :=
  ∃ p, e = .returned (.tuple #[.pointer p, .int .i64 E]) ∧ Up w w' ∧ (E = 0 → ∃ bw, p = some ⟨bw, 0, none⟩ ∧ IsWork w' bw s pT pF pS cT cF cS)

set_option maxRecDepth 100000 in
set_option maxHeartbeats 2000000 in
theorem begin_c (s : Sd) (w : World) (pT pF pS : Option Addr) (cT cF cS : Nat) (hl : Lists w s pT pF pS cT cF cS) :
    Calls Tryz.prog 69 #[sdVal s pT pF pS cT cF cS] w (Began s pT pF pS cT cF cS w (chk s)) := by
  have hck := fun W (u : Up w W) => check_c s W pT pF pS cT cF cS (hl.up u)
  have HC := Lib.hid hck
  clear hck
  by_cases hE : chk s = 0
  · have hok := chk_ok hE
    have hm2 := hok.fl1
    have hm3 := hok.sl
    have hgd := hok.good
    have HOK := Lib.hid hok
    have HE := Lib.hid hE
    have HL := Lib.hid hl
    clear hok hE hl
    unfold sdVal at *
    go_enter Tryz.func69, Tryz.ntmps69
    go_wp2_with fail
    refine (HC.out _ (by (repeat (first | exact Below.refl _ _ | (with_reducible refine Below.drewN' ?_ _) | (with_reducible refine Below.drew ?_) | (with_reducible refine Below.setCell ?_ (by first | exact Nat.le_refl _ | omega | (with_reducible (repeat (first | refine sz_alloc ?_ | refine sz_setCell ?_ | refine sz_drew ?_ | refine sz_drewN ?_)); first | exact Nat.le_refl _ | omega) | (simp only [World.size_alloc, World.size_setCell, World.size_drew, size_drewN']; omega)) _) | (with_reducible refine Below.alloc ?_ (by first | exact Nat.le_refl _ | omega | (with_reducible (repeat (first | refine sz_alloc ?_ | refine sz_setCell ?_ | refine sz_drew ?_ | refine sz_drewN ?_)); first | exact Nat.le_refl _ | omega) | (simp only [World.size_alloc, World.size_setCell, World.size_drew, size_drewN']; omega)) _) | assumption)))).mono ?_
    rw [HE.out]
    rintro e w1 ⟨rfl, u1⟩
    have hBx : Blk w1 w.heap.size (sdCells s pT pF pS cT cF cS) 28 := (Blk.new w (sdCells s pT pF pS cT cF cS) _).up u1
    obtain ⟨x0, x1, x2, x3, x4⟩ := box5 hBx
    have lx := hBx.lt
    have U1 := Lib.hid (Up.trans (show Up w (w.alloc (.cells (sdCells s pT pF pS cT cF cS).toArray 28)) by (repeat (first | exact Below.refl _ _ | (with_reducible refine Below.drewN' ?_ _) | (with_reducible refine Below.drew ?_) | (with_reducible refine Below.setCell ?_ (by first | exact Nat.le_refl _ | omega | (with_reducible (repeat (first | refine sz_alloc ?_ | refine sz_setCell ?_ | refine sz_drew ?_ | refine sz_drewN ?_)); first | exact Nat.le_refl _ | omega) | (simp only [World.size_alloc, World.size_setCell, World.size_drew, size_drewN']; omega)) _) | (with_reducible refine Below.alloc ?_ (by first | exact Nat.le_refl _ | omega | (with_reducible (repeat (first | refine sz_alloc ?_ | refine sz_setCell ?_ | refine sz_drew ?_ | refine sz_drewN ?_)); first | exact Nat.le_refl _ | omega) | (simp only [World.size_alloc, World.size_setCell, World.size_drew, size_drewN']; omega)) _) | assumption))) u1)
    clear hBx u1
    have hag := fun W (hw : SandsAt W w1.heap.size 0 s pT pF pS cT cF cS) => allGates_c w1.heap.size s W pT pF pS cT cF cS hw hm2 hm3 hgd
    obtain ⟨g0, g1, g2, g3, g4, g5, g6, g7, hgt⟩ := list8 (gts_len s)
    rw [hgt] at hag
    simp only [gcells, List.map_cons, List.map_nil] at hag
    have HAG := Lib.hid hag
    have HGT := Lib.hid hgt
    clear hag hgt
    go_wp2_with fail
    refine Calls.world ?_
    intro w2 hw2
    have hu2 : Up w1 w2 := by rw [hw2]; (repeat (first | exact Below.refl _ _ | (with_reducible refine Below.drewN' ?_ _) | (with_reducible refine Below.drew ?_) | (with_reducible refine Below.setCell ?_ (by first | exact Nat.le_refl _ | omega | (with_reducible (repeat (first | refine sz_alloc ?_ | refine sz_setCell ?_ | refine sz_drew ?_ | refine sz_drewN ?_)); first | exact Nat.le_refl _ | omega) | (simp only [World.size_alloc, World.size_setCell, World.size_drew, size_drewN']; omega)) _) | (with_reducible refine Below.alloc ?_ (by first | exact Nat.le_refl _ | omega | (with_reducible (repeat (first | refine sz_alloc ?_ | refine sz_setCell ?_ | refine sz_drew ?_ | refine sz_drewN ?_)); first | exact Nat.le_refl _ | omega) | (simp only [World.size_alloc, World.size_setCell, World.size_drew, size_drewN']; omega)) _) | assumption))
    have hB : Blk w2 w1.heap.size (sdCells s pT pF pS cT cF cS ++ List.replicate 8 (.int .i64 0)) 130 := by
      rw [hw2]; exact Blk.new' _ (sdCells s pT pF pS cT cF cS ++ List.replicate 8 (.int .i64 0)) _ rfl
    clear hw2
    refine (HAG.out _ (SandsAt.of HL.out (Up.trans U1.out hu2) hB)).mono ?_
    rintro e w3 ⟨rfl, u3⟩
    have hB3 := hB.up u3
    have y5 := hB3.cell 5
    have y6 := hB3.cell 6
    have y7 := hB3.cell 7
    have y8 := hB3.cell 8
    have y9 := hB3.cell 9
    have y10 := hB3.cell 10
    have y11 := hB3.cell 11
    have y12 := hB3.cell 12
    simp only [sdCells, List.cons_append, List.nil_append, List.replicate_succ, List.replicate_zero, List.getElem?_cons_zero, List.getElem?_cons_succ] at y5 y6 y7 y8 y9 y10 y11 y12
    have fr := hB3.free
    have HB3 := Lib.hid hB3
    have HU3 := Lib.hid (Up.trans hu2 u3)
    clear hB hB3 hu2 u3
    go_wp2_with fail
    go_ret2
    have hB4 := (((((((HB3.out.set 5 (.int .i64 g0)).set 6 (.int .i64 g1)).set 7 (.int .i64 g2)).set 8 (.int .i64 g3)).set 9 (.int .i64 g4)).set 10 (.int .i64 g5)).set 11 (.int .i64 g6)).set 12 (.int .i64 g7)
    have hup : Up w ((((((((w3.setCell ⟨w1.heap.size, 5, none⟩ (.int .i64 g0)).setCell ⟨w1.heap.size, 6, none⟩ (.int .i64 g1)).setCell ⟨w1.heap.size, 7, none⟩ (.int .i64 g2)).setCell ⟨w1.heap.size, 8, none⟩ (.int .i64 g3)).setCell ⟨w1.heap.size, 9, none⟩ (.int .i64 g4)).setCell ⟨w1.heap.size, 10, none⟩ (.int .i64 g5)).setCell ⟨w1.heap.size, 11, none⟩ (.int .i64 g6)).setCell ⟨w1.heap.size, 12, none⟩ (.int .i64 g7)) := by
      have h4 := Up.trans U1.out HU3.out
      have := U1.out.size
      repeat (first | (with_reducible exact h4) | (with_reducible refine Below.setCell ?_ (by simp only []; omega) _))
    refine ⟨some ⟨w1.heap.size, 0, none⟩, by rw [HE.out]; rfl, hup, fun _ => ⟨_, rfl, SandsAt.of HL.out hup (rest := [.int .i64 g0, .int .i64 g1, .int .i64 g2, .int .i64 g3, .int .i64 g4, .int .i64 g5, .int .i64 g6, .int .i64 g7]) hB4, fun i hi => ?_⟩⟩
    rw [hB4.cell (5 + i), HGT.out]
    match i, hi with
    | 0, _ => rfl
    | 1, _ => rfl
    | 2, _ => rfl
    | 3, _ => rfl
    | 4, _ => rfl
    | 5, _ => rfl
    | 6, _ => rfl
    | 7, _ => rfl
  · have hne : (chk s != 0) = true := by rw [bne_iff_ne]; exact hE
    unfold sdVal at *
    go_enter Tryz.func69, Tryz.ntmps69
    go_wp2_with fail
    refine (HC.out _ (by (repeat (first | exact Below.refl _ _ | (with_reducible refine Below.drewN' ?_ _) | (with_reducible refine Below.drew ?_) | (with_reducible refine Below.setCell ?_ (by first | exact Nat.le_refl _ | omega | (with_reducible (repeat (first | refine sz_alloc ?_ | refine sz_setCell ?_ | refine sz_drew ?_ | refine sz_drewN ?_)); first | exact Nat.le_refl _ | omega) | (simp only [World.size_alloc, World.size_setCell, World.size_drew, size_drewN']; omega)) _) | (with_reducible refine Below.alloc ?_ (by first | exact Nat.le_refl _ | omega | (with_reducible (repeat (first | refine sz_alloc ?_ | refine sz_setCell ?_ | refine sz_drew ?_ | refine sz_drewN ?_)); first | exact Nat.le_refl _ | omega) | (simp only [World.size_alloc, World.size_setCell, World.size_drew, size_drewN']; omega)) _) | assumption)))).mono ?_
    rintro e w1 ⟨rfl, u1⟩
    have U1 := Lib.hid (Up.trans (show Up w (w.alloc (.cells (sdCells s pT pF pS cT cF cS).toArray 28)) by (repeat (first | exact Below.refl _ _ | (with_reducible refine Below.drewN' ?_ _) | (with_reducible refine Below.drew ?_) | (with_reducible refine Below.setCell ?_ (by first | exact Nat.le_refl _ | omega | (with_reducible (repeat (first | refine sz_alloc ?_ | refine sz_setCell ?_ | refine sz_drew ?_ | refine sz_drewN ?_)); first | exact Nat.le_refl _ | omega) | (simp only [World.size_alloc, World.size_setCell, World.size_drew, size_drewN']; omega)) _) | (with_reducible refine Below.alloc ?_ (by first | exact Nat.le_refl _ | omega | (with_reducible (repeat (first | refine sz_alloc ?_ | refine sz_setCell ?_ | refine sz_drew ?_ | refine sz_drewN ?_)); first | exact Nat.le_refl _ | omega) | (simp only [World.size_alloc, World.size_setCell, World.size_drew, size_drewN']; omega)) _) | assumption))) u1)
    clear u1
    go_wp2_with fail
    go_ret2
    exact ⟨none, rfl, U1.out, fun h => absurd h hE⟩
end Go.Proofs.YtknaajofcbenaaaGreat
