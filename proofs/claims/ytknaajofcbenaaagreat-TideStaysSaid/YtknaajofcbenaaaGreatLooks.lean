import Derived.Test.YtknaajofcbenaaaGreatBase
import Derived.Test.YtknaajofcbenaaaGreatHeight
import Derived.Test.YtknaajofcbenaaaGreatChk2
import Derived.Test.YtknaajofcbenaaaGreatCheck
import Derived.Test.YtknaajofcbenaaaGreatOn
import Derived.Test.YtknaajofcbenaaaGreatLower
import Derived.Test.YtknaajofcbenaaaGreatGates
import Derived.Test.YtknaajofcbenaaaGreatBegin
import Derived.Test.YtknaajofcbenaaaGreatBegin2
import Derived.Test.YtknaajofcbenaaaGreatState
import Derived.Test.YtknaajofcbenaaaGreatState2
import Derived.Test.YtknaajofcbenaaaGreatSpans
import Derived.Test.YtknaajofcbenaaaGreatFits
import Derived.WalkKit
import Derived.WalkSpells
import Derived.WalkLawsBesides
import Derived.Deep.QuietTactic
import Derived.BigQuiet
import Derived.Lib.Hide
import Derived.Shelf.Abstract
import Derived.BigGuardPart
import Derived.RangeFuncNested
import Derived.RangeFuncBound
import Derived.RangeFuncCalls
import Derived.RangeFuncLeaves
import Derived.Shelf.RegionOpen
import Derived.OwnWalkIn
import Derived.TacticsInMore
import Derived.LoopNIn
import Derived.LoopIn
import Derived.StillTailTactics
import Derived.Deep.RegionHeld3
import Derived.StillTail
import Derived.RangeFuncWrites
import Derived.Laws.StructEq
import Derived.Deep.LoopGhost
import Derived.IntWalk
import Derived.RangeFuncBox
namespace Go.Proofs.YtknaajofcbenaaaGreat
open Go.RowKit Go.Shelf

def com (a b : Int × Int) : Int × Int := (max a.1 b.1, min a.2 b.2)
def siz (a : Int × Int) : Int := max 0 (a.2 - a.1 + 1)
abbrev Lk := Int × Int × Bool
def lrows (l : List Lk) : List (List Value) := l.map fun x => [.int .i64 x.1, .int .i64 x.2.1, .bool x.2.2]
theorem Row.look {w : World} {p : Option Addr} {l : List Lk} (h : Row w p 3 (lrows l)) (i : Nat) (hi : i < l.length) :
    ∃ b off, p = some ⟨b, off, none⟩ ∧ w.cell? ⟨b, off + i * 3, none⟩ = some (.int .i64 l[i].1) ∧ w.cell? ⟨b, off + i * 3 + 1, none⟩ = some (.int .i64 l[i].2.1) ∧ w.cell? ⟨b, off + i * 3 + 2, none⟩ = some (.bool l[i].2.2) := by
  obtain ⟨b, off, hp, hc⟩ := h i [.int .i64 l[i].1, .int .i64 l[i].2.1, .bool l[i].2.2] (by simp [lrows, hi])
  exact ⟨b, off, hp, by simpa using hc 0 _ rfl, by simpa using hc 1 _ rfl, by simpa using hc 2 _ rfl⟩

set_option maxHeartbeats 1000000 in
theorem common_c (a b c d : Int) (w : World) : Calls Tryz.prog 82 #[.agg #[.int .i64 a, .int .i64 b], .agg #[.int .i64 c, .int .i64 d]] w fun e w' => e = .returned (.agg #[.int .i64 (com (a, b) (c, d)).1, .int .i64 (com (a, b) (c, d)).2]) ∧ Up w w' := by
  have e1 : (com (a, b) (c, d)).1 = if a < c then c else a := by simp only [com, Int.max_def]; split <;> split <;> omega
  have e2 : (com (a, b) (c, d)).2 = if d < b then d else b := by simp only [com, Int.min_def]; split <;> split <;> omega
  rw [e1, e2]
  clear e1 e2
  go_enter Tryz.func82, Tryz.ntmps82
  go_wp2_with fail
  all_goals exact bodyPost_ret (v := .agg #[.int .i64 _, .int .i64 _]) (by simp [results, Tryz.f82, go_sem]) rfl ⟨rfl, by (repeat (first | exact Below.refl _ _ | (with_reducible refine Below.drewN' ?_ _) | (with_reducible refine Below.drew ?_) | (with_reducible refine Below.setCell ?_ (by first | exact Nat.le_refl _ | omega | (with_reducible (repeat (first | refine sz_alloc ?_ | refine sz_setCell ?_ | refine sz_drew ?_ | refine sz_drewN ?_)); first | exact Nat.le_refl _ | omega) | (simp only [World.size_alloc, World.size_setCell, World.size_drew, size_drewN']; omega)) _) | (with_reducible refine Below.alloc ?_ (by first | exact Nat.le_refl _ | omega | (with_reducible (repeat (first | refine sz_alloc ?_ | refine sz_setCell ?_ | refine sz_drew ?_ | refine sz_drewN ?_)); first | exact Nat.le_refl _ | omega) | (simp only [World.size_alloc, World.size_setCell, World.size_drew, size_drewN']; omega)) _) | assumption))⟩

set_option maxHeartbeats 1000000 in
theorem size_c (a b : Int) (w : World) (h1 : -100000 ≤ a) (h2 : a ≤ 100000) (h3 : -100000 ≤ b) (h4 : b ≤ 100000) : Calls Tryz.prog 74 #[.agg #[.int .i64 a, .int .i64 b]] w fun e w' => e = .returned (.int .i64 (siz (a, b))) ∧ Up w w' := by
  go_enter Tryz.func74, Tryz.ntmps74
  go_wp2_with fail
  all_goals go_ret
  all_goals refine ⟨ret_int ?_, by (repeat (first | exact Below.refl _ _ | (with_reducible refine Below.drewN' ?_ _) | (with_reducible refine Below.drew ?_) | (with_reducible refine Below.setCell ?_ (by first | exact Nat.le_refl _ | omega | (with_reducible (repeat (first | refine sz_alloc ?_ | refine sz_setCell ?_ | refine sz_drew ?_ | refine sz_drewN ?_)); first | exact Nat.le_refl _ | omega) | (simp only [World.size_alloc, World.size_setCell, World.size_drew, size_drewN']; omega)) _) | (with_reducible refine Below.alloc ?_ (by first | exact Nat.le_refl _ | omega | (with_reducible (repeat (first | refine sz_alloc ?_ | refine sz_setCell ?_ | refine sz_drew ?_ | refine sz_drewN ?_)); first | exact Nat.le_refl _ | omega) | (simp only [World.size_alloc, World.size_setCell, World.size_drew, size_drewN']; omega)) _) | assumption))⟩
  all_goals (simp only [siz, Int.max_def]; split <;> omega)

def truV (s : Sd) (x : Lk) : Int × Int :=
  if x.2.2 = true then com (s.lo, s.hi) (gateOf s x.2.1.toNat - hgt s.table x.1 + 1, 50) else com (s.lo, s.hi) (-50, gateOf s x.2.1.toNat - hgt s.table x.1)

theorem fixG_rng (s : Sd) : ∀ n g, Less top g → Less top (fixG s n g)
  | 0, g, h => h
  | n + 1, g, h => by
    unfold fixG
    split
    · exact h
    · exact fixG_rng s n _ (h.trans (lowered_less s g (fun i => (h.2 i).1)))
theorem gateOf_rng (s : Sd) (p : Nat) : 0 ≤ gateOf s p ∧ gateOf s p ≤ 1050 := by
  have h := (fixG_rng s 9000 top (Less.refl top_nonneg)).2 p
  refine ⟨h.1, Int.le_trans h.2 ?_⟩
  unfold top
  rw [List.getElem?_replicate]
  split <;> simp

section
variable {pT pF pS : Option Addr} {cT cF cS : Nat}

set_option maxRecDepth 100000 in
set_option maxHeartbeats 1000000 in
theorem truths_c (bw : Nat) (s : Sd) (m : Int) (p : Nat) (wet : Bool) (w : World) (hw : IsWork w bw s pT pF pS cT cF cS) (ok : Ok s) (hm : firstM s.table ≤ m) (hp : p < 8) :
    Calls Tryz.prog 83 #[.pointer (some ⟨bw, 0, none⟩), .agg #[.int .i64 m, .int .i64 p, .bool wet]] w fun e w' => e = .returned (.agg #[.int .i64 (truV s (m, p, wet)).1, .int .i64 (truV s (m, p, wet)).2]) ∧ Up w w' := by
  have HH := Lib.hid (fun W (u : Up w W) => height_c' bw s m W (hw.sands.up u) ok hm)
  obtain ⟨r0, r1⟩ := hgt_rng ok.table m hm
  obtain ⟨r2, r3⟩ := gateOf_rng s p
  have c0 := hw.gates p hp
  have d1 := hw.sands.s1
  have d2 := hw.sands.s2
  change _ = some (Value.int .i64 (gateOf s p)) at c0
  have k1 : (p : Int) < 8 := by omega
  have lb := cell_lt c0
  have HT := Lib.hid (show truV s (m, p, wet) = if wet = true then com (s.lo, s.hi) (gateOf s p - hgt s.table m + 1, 50) else com (s.lo, s.hi) (-50, gateOf s p - hgt s.table m) by unfold truV; simp)
  obtain ⟨g, hg⟩ : ∃ g, gateOf s p = g := ⟨_, rfl⟩
  obtain ⟨h, hh⟩ : ∃ h, hgt s.table m = h := ⟨_, rfl⟩
  rw [hg] at c0 HT r2 r3
  rw [hh] at HH HT r0 r1
  clear hw hg hh
  have s1 : IntKind.i64.wrap (g - h) = g - h := IntWalk.i64_in _ (by omega)
  go_enter Tryz.func83, Tryz.ntmps83
  go_wp2
  refine Code.wp_world ?_
  intro w0 hw0
  have u0 : Up w w0 := by rw [hw0]; (repeat (first | exact Below.refl _ _ | (with_reducible refine Below.drewN' ?_ _) | (with_reducible refine Below.drew ?_) | (with_reducible refine Below.setCell ?_ (by first | exact Nat.le_refl _ | omega | (with_reducible (repeat (first | refine sz_alloc ?_ | refine sz_setCell ?_ | refine sz_drew ?_ | refine sz_drewN ?_)); first | exact Nat.le_refl _ | omega) | (simp only [World.size_alloc, World.size_setCell, World.size_drew, size_drewN']; omega)) _) | (with_reducible refine Below.alloc ?_ (by first | exact Nat.le_refl _ | omega | (with_reducible (repeat (first | refine sz_alloc ?_ | refine sz_setCell ?_ | refine sz_drew ?_ | refine sz_drewN ?_)); first | exact Nat.le_refl _ | omega) | (simp only [World.size_alloc, World.size_setCell, World.size_drew, size_drewN']; omega)) _) | assumption))
  have hB : Blk w0 w.heap.size [.int .i64 m, .int .i64 p, .bool wet] 62 := by rw [hw0]; exact (Blk.new w _ _).alloc _
  have hR : Blk w0 (w.heap.size + 1) [.int .i64 0, .int .i64 0] 24 := by rw [hw0]; exact Blk.new' _ [.int .i64 0, .int .i64 0] _ (by simp)
  clear hw0
  have e0 := u0.cellAt c0
  have b0 := hB.cell 0
  have b1 := hB.cell 1
  simp only [List.getElem?_cons_zero, List.getElem?_cons_succ] at b0 b1
  go_region_held3 (fun w' => w'.cell? ⟨bw, 5 + p, none⟩ = some (.int .i64 g) ∧ w'.cell? ⟨w.heap.size, 0, none⟩ = some (.int .i64 m) ∧ w'.cell? ⟨w.heap.size, 1, none⟩ = some (.int .i64 p) ∧ Up w0 w')
    (refine ⟨Up.cellAt (w := w0) ?_ e0, Up.cellAt (w := w0) ?_ b0, Up.cellAt (w := w0) ?_ b1, ?_⟩ <;> (repeat (first | exact Below.refl _ _ | (with_reducible refine Below.drewN' ?_ _) | (with_reducible refine Below.drew ?_) | (with_reducible refine Below.setCell ?_ (by first | exact Nat.le_refl _ | omega | (with_reducible (repeat (first | refine sz_alloc ?_ | refine sz_setCell ?_ | refine sz_drew ?_ | refine sz_drewN ?_)); first | exact Nat.le_refl _ | omega) | (simp only [World.size_alloc, World.size_setCell, World.size_drew, size_drewN']; omega)) _) | (with_reducible refine Below.alloc ?_ (by first | exact Nat.le_refl _ | omega | (with_reducible (repeat (first | refine sz_alloc ?_ | refine sz_setCell ?_ | refine sz_drew ?_ | refine sz_drewN ?_)); first | exact Nat.le_refl _ | omega) | (simp only [World.size_alloc, World.size_setCell, World.size_drew, size_drewN']; omega)) _) | assumption)))
    (first
      | (go_at_call 106; with_reducible refine (HH.out w0.drew (Up.trans u0 (Below.refl _ _).drew)).mono ?_; rintro e w1 ⟨rfl, u1⟩; have u1' : Up w0 w1 := Up.trans ((Below.refl _ _).drew) u1))
  have hB1 := hB.up u1'
  have hR1 := hR.up u1'
  have U1 := Lib.hid (Up.trans u0 u1')
  have x1 := U1.out.cellAt d1
  have x2 := U1.out.cellAt d2
  have y0 := hB1.cell 2
  simp only [List.getElem?_cons_zero, List.getElem?_cons_succ] at y0
  have HR1 := Lib.hid hR1
  clear s1 u0 u1 u1' hB hR hB1 hR1 e0 b0 b1 c0 d1 d2 HH
  cases wet
  · rw [if_neg (by decide)] at HT
    go_wp2_with fail
    with_reducible refine (common_c _ _ _ _ _).mono ?_
    rintro e w2 ⟨rfl, u2⟩
    have hB := HR1.out.up u2
    have U2 := Lib.hid (Up.trans U1.out u2)
    have lB := hB.lt
    have fr := hB.free
    have q0 := hB.cell 0
    have q1 := hB.cell 1
    simp only [List.getElem?_cons_zero, List.getElem?_cons_succ] at q0 q1
    clear u2 U1 HR1 x1 x2 y0
    obtain ⟨z, hz⟩ : ∃ z, com (s.lo, s.hi) (-50, g - h) = z := ⟨_, rfl⟩
    rw [hz]
    obtain ⟨za, zb⟩ := z
    have HTo := Lib.hid (HT.out.trans hz)
    clear hz HT
    dsimp only
    go_wp2
    have hB1 := hB.set 0 (.int .i64 za)
    have hB2 := hB1.set 1 (.int .i64 zb)
    have p0 := hB1.cell 0
    have p1 := hB2.cell 1
    simp only [List.set_cons_zero, List.set_cons_succ, List.getElem?_cons_zero, List.getElem?_cons_succ] at p0 p1
    refine bodyPost_ret (v := .agg #[.int .i64 za, .int .i64 zb]) (by simp [results, Tryz.f83, go_sem, p0, p1]) rfl ⟨by rw [HTo.out], ?_⟩
    have h4 := U2.out
    repeat (first | (with_reducible exact h4) | (with_reducible refine Below.drew ?_) | (with_reducible refine Below.setCell ?_ (by simp only []; omega) _))
  · rw [if_pos rfl] at HT
    go_wp2_with fail
    with_reducible refine (common_c _ _ _ _ _).mono ?_
    rintro e w2 ⟨rfl, u2⟩
    have hB := HR1.out.up u2
    have U2 := Lib.hid (Up.trans U1.out u2)
    have lB := hB.lt
    have fr := hB.free
    have q0 := hB.cell 0
    have q1 := hB.cell 1
    simp only [List.getElem?_cons_zero, List.getElem?_cons_succ] at q0 q1
    clear u2 U1 HR1 x1 x2 y0
    obtain ⟨z, hz⟩ : ∃ z, com (s.lo, s.hi) (g - h + 1, 50) = z := ⟨_, rfl⟩
    rw [hz]
    obtain ⟨za, zb⟩ := z
    have HTo := Lib.hid (HT.out.trans hz)
    clear hz HT
    dsimp only
    go_wp2
    have hB1 := hB.set 0 (.int .i64 za)
    have hB2 := hB1.set 1 (.int .i64 zb)
    have p0 := hB1.cell 0
    have p1 := hB2.cell 1
    simp only [List.set_cons_zero, List.set_cons_succ, List.getElem?_cons_zero, List.getElem?_cons_succ] at p0 p1
    refine bodyPost_ret (v := .agg #[.int .i64 za, .int .i64 zb]) (by simp [results, Tryz.f83, go_sem, p0, p1]) rfl ⟨by rw [HTo.out], ?_⟩
    have h4 := U2.out
    repeat (first | (with_reducible exact h4) | (with_reducible refine Below.drew ?_) | (with_reducible refine Below.setCell ?_ (by simp only []; omega) _))
end
end Go.Proofs.YtknaajofcbenaaaGreat
