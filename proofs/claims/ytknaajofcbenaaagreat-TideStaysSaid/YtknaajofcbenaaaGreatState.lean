import Derived.Test.YtknaajofcbenaaaGreatBase
import Derived.Test.YtknaajofcbenaaaGreatLine
import Derived.Test.YtknaajofcbenaaaGreatHeight
import Derived.Test.YtknaajofcbenaaaGreatChk2
import Derived.Test.YtknaajofcbenaaaGreatCheck
import Derived.Test.YtknaajofcbenaaaGreatOn
import Derived.Test.YtknaajofcbenaaaGreatLower
import Derived.Test.YtknaajofcbenaaaGreatGates
import Derived.Test.YtknaajofcbenaaaGreatBegin
import Derived.Test.YtknaajofcbenaaaGreatBegin2
import Derived.WalkKit
import Derived.WalkSpells
import Derived.WalkLawsBesides
import Derived.Deep.QuietTactic
import Derived.BigQuiet
import Derived.Lib.Hide
import Derived.Shelf.Abstract
import Derived.BigGuardPart
import Derived.RangeFuncNested
import Derived.RangeFuncBound
import Derived.RangeFuncCalls
import Derived.RangeFuncLeaves
import Derived.Shelf.RegionOpen
import Derived.OwnWalkIn
import Derived.TacticsInMore
import Derived.LoopNIn
import Derived.LoopIn
import Derived.StillTailTactics
import Derived.Deep.RegionHeld3
import Derived.StillTail
import Derived.RangeFuncWrites
import Derived.Laws.StructEq
import Derived.Deep.LoopGhost
import Derived.IntWalk
namespace Go.Proofs.YtknaajofcbenaaaGreat
open Go.RowKit Go.Shelf

theorem onL_rng (a b : Int × Int) (m : Int) (h1 : a.1 < b.1) (h2 : a.1 ≤ m) (h3 : m ≤ b.1) (a0 : 0 ≤ a.2) (a9 : a.2 ≤ 999) (b0 : 0 ≤ b.2) (b9 : b.2 ≤ 999) : 0 ≤ onL a b m ∧ onL a b m ≤ 999 := by
  obtain ⟨m0, h0⟩ := a
  obtain ⟨m1, k0⟩ := b
  dsimp only at *
  have k3 := onL_nonneg m0 h0 m1 k0 m h1 h2 h3 a0 b0
  have e1 : h0 * (m1 - m0) = h0 * (m1 - m) + h0 * (m - m0) := by rw [← Int.mul_add]; congr 1; omega
  have e2 : (k0 - h0) * (m - m0) = k0 * (m - m0) - h0 * (m - m0) := Int.sub_mul ..
  have e3 : h0 * (m1 - m) ≤ 999 * (m1 - m) := Int.mul_le_mul_of_nonneg_right a9 (by omega)
  have e4 : k0 * (m - m0) ≤ 999 * (m - m0) := Int.mul_le_mul_of_nonneg_right b9 (by omega)
  unfold onL
  dsimp only
  constructor
  · exact Int.ediv_nonneg k3 (by omega)
  · apply Int.ediv_le_of_le_mul (by omega)
    omega

theorem hgtFrom_rng : ∀ (l : List (Int × Int)) (a : Int × Int) (m : Int), (∀ x ∈ a :: l, 0 ≤ x.2 ∧ x.2 ≤ 999) → (∀ i (h : i + 1 < (a :: l).length), (a :: l)[i].1 < (a :: l)[i + 1].1) → a.1 ≤ m → 0 ≤ hgtFrom a l m ∧ hgtFrom a l m ≤ 999
  | [], a, m, h, _, _ => h a (by simp)
  | b :: r, a, m, h, ho, hm => by
    unfold hgtFrom
    by_cases hb : m ≤ b.1
    · rw [if_pos hb]
      have := ho 0 (by simp)
      exact onL_rng a b m this hm hb (h a (by simp)).1 (h a (by simp)).2 (h b (by simp)).1 (h b (by simp)).2
    · rw [if_neg hb]
      exact hgtFrom_rng r b m (fun x hx => h x (by simp [hx])) (fun i hi => ho (i + 1) (by simp at hi ⊢; omega)) (by omega)

theorem hgt_rng {l : List (Int × Int)} (ok : okTable l) (m : Int) (hm : firstM l ≤ m) : 0 ≤ hgt l m ∧ hgt l m ≤ 999 := by
  obtain ⟨ok1, ok2, ok3, ok4⟩ := ok
  cases l with
  | nil => simp at ok3
  | cons a r =>
    exact hgtFrom_rng r a m (fun x hx => ⟨(ok1 x hx).2.2.1, (ok1 x hx).2.2.2⟩) ok2 (by simpa [firstM] using hm)

section
variable {pT pF pS : Option Addr} {cT cF cS : Nat}

theorem height_c' (bw : Nat) (s : Sd) (m : Int) (w : World) (hw : SandsAt w bw 0 s pT pF pS cT cF cS) (ok : Ok s) (hm : firstM s.table ≤ m) :
    Calls Tryz.prog 106 #[.pointer (some ⟨bw, 0, none⟩), .int .i64 m] w fun e w' => e = .returned (.int .i64 (hgt s.table m)) ∧ Up w w' :=
  height_c bw s m w pT pF pS cT cF cS hw ok.table (fun h => by simpa [firstM, h] using hm)

set_option maxRecDepth 100000 in
set_option maxHeartbeats 1000000 in
theorem level_c (bw : Nat) (s : Sd) (m : Int) (w : World) (hw : SandsAt w bw 0 s pT pF pS cT cF cS) (ok : Ok s) (hm : firstM s.table ≤ m) :
    Calls Tryz.prog 115 #[.pointer (some ⟨bw, 0, none⟩), .int .i64 m] w fun e w' => e = .returned (.agg #[.int .i64 (hgt s.table m + s.lo), .int .i64 (hgt s.table m + s.hi)]) ∧ Up w w' := by
  obtain ⟨r0, r1⟩ := hgt_rng ok.table m hm
  have b0 := ok.lo0
  have b1 := ok.hi1
  have b2 := ok.lohi
  have HH := Lib.hid (fun W (u : Up w W) => height_c' bw s m W (hw.up u) ok hm)
  have c1 := hw.s1
  have c2 := hw.s2
  have lb := cell_lt c1
  clear hw
  go_enter Tryz.func115, Tryz.ntmps115
  go_wp2_with fail
  refine (HH.out _ (by (repeat (first | exact Below.refl _ _ | (with_reducible refine Below.drewN' ?_ _) | (with_reducible refine Below.drew ?_) | (with_reducible refine Below.setCell ?_ (by first | exact Nat.le_refl _ | omega | (with_reducible (repeat (first | refine sz_alloc ?_ | refine sz_setCell ?_ | refine sz_drew ?_ | refine sz_drewN ?_)); first | exact Nat.le_refl _ | omega) | (simp only [World.size_alloc, World.size_setCell, World.size_drew, size_drewN']; omega)) _) | (with_reducible refine Below.alloc ?_ (by first | exact Nat.le_refl _ | omega | (with_reducible (repeat (first | refine sz_alloc ?_ | refine sz_setCell ?_ | refine sz_drew ?_ | refine sz_drewN ?_)); first | exact Nat.le_refl _ | omega) | (simp only [World.size_alloc, World.size_setCell, World.size_drew, size_drewN']; omega)) _) | assumption)))).mono ?_
  rintro e w1 ⟨rfl, u1⟩
  have hB : Blk w1 w.heap.size [.int .i64 0, .int .i64 0] 24 := (Blk.new w _ _).up u1
  have U1 := Lib.hid (Up.trans (show Up w (w.alloc (.cells #[.int .i64 0, .int .i64 0] 24)) by (repeat (first | exact Below.refl _ _ | (with_reducible refine Below.drewN' ?_ _) | (with_reducible refine Below.drew ?_) | (with_reducible refine Below.setCell ?_ (by first | exact Nat.le_refl _ | omega | (with_reducible (repeat (first | refine sz_alloc ?_ | refine sz_setCell ?_ | refine sz_drew ?_ | refine sz_drewN ?_)); first | exact Nat.le_refl _ | omega) | (simp only [World.size_alloc, World.size_setCell, World.size_drew, size_drewN']; omega)) _) | (with_reducible refine Below.alloc ?_ (by first | exact Nat.le_refl _ | omega | (with_reducible (repeat (first | refine sz_alloc ?_ | refine sz_setCell ?_ | refine sz_drew ?_ | refine sz_drewN ?_)); first | exact Nat.le_refl _ | omega) | (simp only [World.size_alloc, World.size_setCell, World.size_drew, size_drewN']; omega)) _) | assumption))) u1)
  have d1 := U1.out.cellAt c1
  have d2 := U1.out.cellAt c2
  have ld := cell_lt d1
  have q0 := hB.cell 0
  have q1 := hB.cell 1
  have fr := hB.free
  simp only [List.getElem?_cons_zero, List.getElem?_cons_succ] at q0 q1
  have lB := hB.lt
  clear u1
  go_wp2_with fail
  have s1 : IntKind.i64.wrap (hgt s.table m + s.lo) = hgt s.table m + s.lo := IntWalk.i64_in _ (by omega)
  have s2 : IntKind.i64.wrap (hgt s.table m + s.hi) = hgt s.table m + s.hi := IntWalk.i64_in _ (by omega)
  go_still_tail 17, (by kernel_rfl)
  change wpList _ _ _ _ _ w1.drew
  clear s1 s2
  go_wp2
  have hB1 := hB.set 0 (.int .i64 (hgt s.table m + s.lo))
  have hB2 := hB1.set 1 (.int .i64 (hgt s.table m + s.hi))
  have p0 := hB1.cell 0
  have p1 := hB2.cell 1
  simp only [List.set_cons_zero, List.set_cons_succ, List.getElem?_cons_zero, List.getElem?_cons_succ] at p0 p1
  refine bodyPost_ret (v := .agg #[.int .i64 (hgt s.table m + s.lo), .int .i64 (hgt s.table m + s.hi)]) (by simp [results, Tryz.f115, go_sem, p0, p1]) rfl ⟨rfl, ?_⟩
  have h4 := U1.out
  repeat (first | (with_reducible exact h4) | (with_reducible refine Below.drew ?_) | (with_reducible refine Below.setCell ?_ (by simp only []; omega) _))
end
end Go.Proofs.YtknaajofcbenaaaGreat
