import Derived.Test.YtknaajofcbenaaaGreatBase
import Derived.Test.YtknaajofcbenaaaGreatHeight
import Derived.Test.YtknaajofcbenaaaGreatEvery
import Derived.Test.YtknaajofcbenaaaGreatChk2
import Derived.Test.YtknaajofcbenaaaGreatCheck
import Derived.Test.YtknaajofcbenaaaGreatOn
import Derived.Test.YtknaajofcbenaaaGreatLower
import Derived.Test.YtknaajofcbenaaaGreatGates
import Derived.Test.YtknaajofcbenaaaGreatBegin
import Derived.Test.YtknaajofcbenaaaGreatBegin2
import Derived.Test.YtknaajofcbenaaaGreatState2
import Derived.Test.YtknaajofcbenaaaGreatSpans
import Derived.WalkKit
import Derived.WalkSpells
import Derived.WalkLawsBesides
import Derived.Deep.QuietTactic
import Derived.BigQuiet
import Derived.Lib.Hide
import Derived.Shelf.Abstract
import Derived.BigGuardPart
import Derived.RangeFuncNested
import Derived.RangeFuncBound
import Derived.RangeFuncCalls
import Derived.RangeFuncLeaves
import Derived.Shelf.RegionOpen
import Derived.OwnWalkIn
import Derived.TacticsInMore
import Derived.LoopNIn
import Derived.LoopIn
import Derived.StillTailTactics
import Derived.Deep.RegionHeld3
import Derived.StillTail
import Derived.RangeFuncWrites
import Derived.Laws.StructEq
import Derived.Deep.LoopGhost
import Derived.IntWalk
import Derived.RangeFuncBox
namespace Go.Proofs.YtknaajofcbenaaaGreat
open Go.RowKit Go.Shelf

/-- what a wanted state says, in each world that has grown -/
def Wants (f : Nat) (pre post : Array Value) (pd : Int → Bool) (w : World) : Prop :=
  ∀ x W, Up w W → Calls Tryz.prog f (pre ++ #[.int .i64 x] ++ post) W fun e W' => e = .returned (.bool (pd x)) ∧ Up W W'
theorem Wants.up {f : Nat} {pre post : Array Value} {pd : Int → Bool} {w w' : World} (h : Wants f pre post pd w) (u : Up w w') : Wants f pre post pd w' := fun x W uW => h x W (Up.trans u uW)

section
variable {pT pF pS : Option Addr} {cT cF cS : Nat}

set_option maxRecDepth 100000 in
set_option maxHeartbeats 1000000 in
theorem fits1_c (bw Bv Bm f : Nat) (pre post : Array Value) (pd : Int → Bool) (s : Sd) (m : Int) (p : Nat) (q : Value) (w : World) (hw : IsWork w bw s pT pF pS cT cF cS) (ok : Ok s) (hm : firstM s.table ≤ m) (hp : p < 8)
    (hv : Blk w Bv [.pointer (some ⟨bw, 0, none⟩), q, .func (.func f) pre post] 160) (hmb : Blk w Bm [.int .i64 m] 3) (eg : Enters Tryz.prog f) (hwt : Wants f pre post pd w) :
    Calls Tryz.prog 146 #[.int .i64 p, .pointer (some ⟨Bv, 0, none⟩), .pointer (some ⟨Bm, 0, none⟩)] w fun e w' => e = .returned (.bool (pd (st s m p))) ∧ Up w w' := by
  have eg' : ∀ (args : Array Value) (w : World), (callFunc f args).run Tryz.prog w = .ok (.enter f args) w := eg
  have c0 := hv.cell 0
  have c2 := hv.cell 2
  have cm := hmb.cell 0
  simp only [List.getElem?_cons_zero, List.getElem?_cons_succ] at c0 c2 cm
  have lv := hv.lt
  have lm := hmb.lt
  have HS := Lib.hid (fun W (u : Up w W) => state_c bw s m p W (hw.up u) ok hm hp)
  have HT := Lib.hid (fun W (u : Up w W) => (show Calls Tryz.prog f (pre.push (.int .i64 (st s m p)) ++ post) W fun e W' => e = .returned (.bool (pd (st s m p))) ∧ Up W W' by rw [Array.push_eq_append]; exact hwt (st s m p) W u))
  clear hv hmb hw hwt eg
  go_enter Tryz.func146, Tryz.ntmps146
  go_wp2_with fail
  go_region_held3 (fun w' => w'.cell? ⟨Bv, 0, none⟩ = some (.pointer (some ⟨bw, 0, none⟩)) ∧ w'.cell? ⟨Bv, 2, none⟩ = some (.func (.func f) pre post) ∧ w'.cell? ⟨Bm, 0, none⟩ = some (.int .i64 m) ∧ Up w w')
    (refine ⟨Up.cellAt (w := w) ?_ c0, Up.cellAt (w := w) ?_ c2, Up.cellAt (w := w) ?_ cm, ?_⟩ <;> (repeat (first | exact Below.refl _ _ | (with_reducible refine Below.drewN' ?_ _) | (with_reducible refine Below.drew ?_) | (with_reducible refine Below.setCell ?_ (by first | exact Nat.le_refl _ | omega | (with_reducible (repeat (first | refine sz_alloc ?_ | refine sz_setCell ?_ | refine sz_drew ?_ | refine sz_drewN ?_)); first | exact Nat.le_refl _ | omega) | (simp only [World.size_alloc, World.size_setCell, World.size_drew, size_drewN']; omega)) _) | (with_reducible refine Below.alloc ?_ (by first | exact Nat.le_refl _ | omega | (with_reducible (repeat (first | refine sz_alloc ?_ | refine sz_setCell ?_ | refine sz_drew ?_ | refine sz_drewN ?_)); first | exact Nat.le_refl _ | omega) | (simp only [World.size_alloc, World.size_setCell, World.size_drew, size_drewN']; omega)) _) | assumption)))
    (first
      | (go_at_call 66; with_reducible refine (HS.out w.drew (Below.refl _ _).drew).mono ?_; rintro e w1 ⟨rfl, u1⟩; have u1' : Up w w1 := Up.trans ((Below.refl _ _).drew) u1)
      | (with_reducible refine (HT.out _ (by assumption)).mono ?_; rintro e w2 ⟨rfl, u2⟩; have u2' : Up w w2 := Up.trans (by assumption) u2))
  all_goals go_wp2
  all_goals go_ret
  all_goals exact ⟨rfl, by assumption⟩

theorem en_fits1 : Enters Tryz.prog 146 := enters_of Tryz.func146 (by kernel_rfl) rfl

/-- all of some places have a state that is wanted -/
def fitB (s : Sd) (ps : List Int) (pd : Int → Bool) (m : Int) : Bool := ps.all fun p => pd (st s m p.toNat)

set_option maxRecDepth 100000 in
set_option maxHeartbeats 1000000 in
theorem fits_c (bw f : Nat) (pre post : Array Value) (pd : Int → Bool) (s : Sd) (m : Int) (ps : List Int) (pp : Option Addr) (c : Nat) (w : World) (hw : IsWork w bw s pT pF pS cT cF cS) (ok : Ok s) (hm : firstM s.table ≤ m)
    (hr : Row w pp 1 (ints ps)) (hps : ∀ p ∈ ps, 0 ≤ p ∧ p < 8) (hpl : ps.length ≤ maxLen) (eg : Enters Tryz.prog f) (hwt : Wants f pre post pd w) :
    Calls Tryz.prog 141 #[.agg #[.pointer (some ⟨bw, 0, none⟩), .slice pp ps.length c, .func (.func f) pre post], .int .i64 m] w fun e w' => e = .returned (.bool (fitB s ps pd m)) ∧ Up w w' := by
  have u0 : Up w ((w.alloc (.cells #[.pointer (some ⟨bw, 0, none⟩), .slice pp ps.length c, .func (.func f) pre post] 160)).alloc (.cells #[.int .i64 m] 3)) := by (repeat (first | exact Below.refl _ _ | (with_reducible refine Below.drewN' ?_ _) | (with_reducible refine Below.drew ?_) | (with_reducible refine Below.setCell ?_ (by first | exact Nat.le_refl _ | omega | (with_reducible (repeat (first | refine sz_alloc ?_ | refine sz_setCell ?_ | refine sz_drew ?_ | refine sz_drewN ?_)); first | exact Nat.le_refl _ | omega) | (simp only [World.size_alloc, World.size_setCell, World.size_drew, size_drewN']; omega)) _) | (with_reducible refine Below.alloc ?_ (by first | exact Nat.le_refl _ | omega | (with_reducible (repeat (first | refine sz_alloc ?_ | refine sz_setCell ?_ | refine sz_drew ?_ | refine sz_drewN ?_)); first | exact Nat.le_refl _ | omega) | (simp only [World.size_alloc, World.size_setCell, World.size_drew, size_drewN']; omega)) _) | assumption))
  have hv : Blk ((w.alloc (.cells #[.pointer (some ⟨bw, 0, none⟩), .slice pp ps.length c, .func (.func f) pre post] 160)).alloc (.cells #[.int .i64 m] 3)) w.heap.size [.pointer (some ⟨bw, 0, none⟩), .slice pp ps.length c, .func (.func f) pre post] 160 := (Blk.new w _ _).alloc _
  have hmb : Blk ((w.alloc (.cells #[.pointer (some ⟨bw, 0, none⟩), .slice pp ps.length c, .func (.func f) pre post] 160)).alloc (.cells #[.int .i64 m] 3)) (w.heap.size + 1) [.int .i64 m] 3 := Blk.new' _ [.int .i64 m] _ (by simp)
  have HE := Lib.hid (everyInt_c 146 #[] #[.pointer (some ⟨w.heap.size, 0, none⟩), .pointer (some ⟨w.heap.size + 1, 0, none⟩)] pp c ps (fun p => pd (st s m p.toNat)) _ (hr.up u0) hpl en_fits1 (fun x hx W uW => by
    obtain ⟨hx0, hx8⟩ := hps x hx
    obtain ⟨n, rfl⟩ := Int.eq_ofNat_of_zero_le hx0
    exact fits1_c bw w.heap.size (w.heap.size + 1) f pre post pd s m n (.slice pp ps.length c) W (hw.up (Up.trans u0 uW)) ok hm (by omega) (hv.up uW) (hmb.up uW) eg (hwt.up (Up.trans u0 uW))))
  clear hw hr hwt hv hmb
  go_enter Tryz.func141, Tryz.ntmps141
  go_wp2_with fail
  refine HE.out.mono ?_
  rintro e w1 ⟨rfl, u1⟩
  have U1 := Lib.hid (Up.trans u0 u1)
  clear u0 u1 HE
  go_wp2_with fail
  go_ret
  exact ⟨rfl, U1.out⟩
end
end Go.Proofs.YtknaajofcbenaaaGreat
