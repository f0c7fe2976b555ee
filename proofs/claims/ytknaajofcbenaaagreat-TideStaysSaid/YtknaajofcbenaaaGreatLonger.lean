import Derived.Test.YtknaajofcbenaaaGreatBase
import Derived.Test.YtknaajofcbenaaaGreatHeight
import Derived.Test.YtknaajofcbenaaaGreatChk2
import Derived.Test.YtknaajofcbenaaaGreatCheck
import Derived.Test.YtknaajofcbenaaaGreatOn
import Derived.Test.YtknaajofcbenaaaGreatLower
import Derived.Test.YtknaajofcbenaaaGreatGates
import Derived.Test.YtknaajofcbenaaaGreatBegin
import Derived.Test.YtknaajofcbenaaaGreatSpans
import Derived.Test.YtknaajofcbenaaaGreatFits
import Derived.Test.YtknaajofcbenaaaGreatQue
import Derived.WalkKit
import Derived.WalkSpells
import Derived.WalkLawsBesides
import Derived.Deep.QuietTactic
import Derived.BigQuiet
import Derived.Lib.Hide
import Derived.Shelf.Abstract
import Derived.BigGuardPart
import Derived.RangeFuncNested
import Derived.RangeFuncBound
import Derived.RangeFuncCalls
import Derived.RangeFuncLeaves
import Derived.Shelf.RegionOpen
import Derived.OwnWalkIn
import Derived.TacticsInMore
import Derived.LoopNIn
import Derived.LoopIn
import Derived.StillTailTactics
import Derived.Deep.RegionHeld3
import Derived.StillTail
import Derived.RangeFuncWrites
import Derived.Laws.StructEq
import Derived.Deep.LoopGhost
import Derived.IntWalk
import Derived.RangeFuncBox
import Derived.ArgAppend
import Derived.Laws.CopyOwn
import Derived.OwnWalk
namespace Go.Proofs.YtknaajofcbenaaaGreat
open Go.RowKit Go.Shelf

theorem info3 : (Tryz.prog.info? 3).map (fun i => (i.zero, i.size, i.bytes)) = some (some (.int .i64 0), 1, 8) := by kernel_rfl
theorem size3 : (Tryz.prog.info? 3).map (·.size) = some 1 := by kernel_rfl

theorem made_zeros (n : Nat) : madeCells #[Value.int .i64 0] n = (List.replicate n (Value.int .i64 0)).toArray := by
  apply Array.ext'
  simp [madeCells, Nat.mod_one, List.map_const']

set_option maxRecDepth 100000 in
set_option maxHeartbeats 1000000 in
theorem longer_c (p : Option Addr) (l : List Int) (c : Nat) (x : Int) (w : World) (hr : Row w p 1 (ints l)) (hl : l.length ≤ 1000) :
    Calls Tryz.prog 124 #[.slice p l.length c, .int .i64 x] w fun e w' => ∃ g, e = .returned (.slice (some ⟨g, 0, none⟩) (l.length + 1) (l.length + 1)) ∧
      w.heap.size ≤ g ∧ Blk w' g ((l ++ [x]).map fun y => .int .i64 y) 3 ∧ Up w w' := by
  obtain ⟨i0, hi, hz0, hz1, hz2⟩ := info_parts info3
  have hmk : ∀ u : World, (Instr.makeSlice 25 (.int .i64 ((l.length : Int) + 1)) (.int .i64 ((l.length : Int) + 1))).run Tryz.prog u =
      .ok (.slice (some ⟨u.heap.size, 0, none⟩) (l.length + 1) (l.length + 1)) (u.alloc (.cells (List.replicate (l.length + 1) (Value.int .i64 0)).toArray 3)) := fun u => by
    have h := run_make (P := Tryz.prog) u 25 3 i0 (.int .i64 0) Tryz.underlying25 hi hz0 .i64 .i64 ((l.length : Int) + 1) ((l.length : Int) + 1) (by omega) (Int.le_refl _) (by rw [hz2]; omega) (by omega)
    rw [show ((l.length : Int) + 1).toNat = l.length + 1 by omega, hz1, Nat.mul_one] at h
    rw [h, ← made_zeros]
    rfl
  have hpos : 0 < (l.map fun y => Value.int .i64 y).length → ∃ ad, p = some ad ∧ ∀ W, Up w W → ∀ j v, (l.map fun y => Value.int .i64 y)[j]? = some v → W.cell? (ad.add j) = some v := by
    intro h
    simp only [List.length_map] at h
    obtain ⟨b, off, hp, -⟩ := hr.int 0 h
    refine ⟨_, hp, fun W u j v hv => ?_⟩
    have hjl : j < l.length := by have := (List.getElem?_eq_some_iff.1 hv).1; simpa using this
    obtain ⟨b', off', hp', hc⟩ := hr.int j hjl
    rw [hp] at hp'
    simp only [Option.some.injEq, Addr.mk.injEq, and_true] at hp'
    obtain ⟨rfl, rfl⟩ := hp'
    rw [Addr.add_lit, u.cellAt hc]
    simpa [hjl] using hv
  have HP := Lib.hid hpos
  have s1 : IntKind.i64.wrap ((l.length : Int) + 1) = (l.length : Int) + 1 := IntWalk.i64_in _ (by omega)
  obtain ⟨xs, hxs⟩ : ∃ xs, xs = l.map fun y => Value.int .i64 y := ⟨_, rfl⟩
  rw [← hxs] at HP
  have hxl : xs.length = l.length := by rw [hxs]; simp
  have hx1 : ∀ v ∈ xs, v.oneCell' = true := by rw [hxs]; simp [Value.oneCell']
  have HX := Lib.hid hxs
  obtain ⟨zs, hzs⟩ : ∃ zs, zs = List.replicate (l.length + 1) (Value.int .i64 0) := ⟨_, rfl⟩
  rw [← hzs] at hmk
  have hzl : zs.length = l.length + 1 := by rw [hzs]; simp
  have HZ := Lib.hid hzs
  have HS := Lib.hid (show splice zs 0 xs = xs ++ [Value.int .i64 0] by
    simp only [splice, List.take_zero, List.nil_append, Nat.zero_add, hzs, List.drop_replicate, hxl]
    rw [show l.length + 1 - l.length = 1 by omega]; rfl)
  have HC := Lib.hid (show (xs ++ [Value.int .i64 0])[l.length]? = some (.int .i64 0) by rw [← hxl]; simp)
  have HT := Lib.hid (show (xs ++ [Value.int .i64 0]).set l.length (.int .i64 x) = (l ++ [x]).map fun y => .int .i64 y by
    rw [List.set_append_right _ _ (by omega), hxl, Nat.sub_self, hxs]; simp)
  clear hr hpos hxs hzs hi hz0 hz1 hz2
  go_enter Tryz.func124, Tryz.ntmps124
  go_wp2_with (refine wpList_copy_splice rfl (.tmp 10) (.tmp 11) 25 25 rfl 3 Tryz.underlying25 size3 _ _ _ _ _ _ rfl rfl w.heap.size 0 zs 3 (by exact Blk.new w _ _) xs ?c1 ?c2 ?c3 hx1 w.heap.size w ?c4 (Nat.le_refl _) ?_; rotate_right; intro w2 hg2 hb2; rw [HS.out] at hg2; have hB : Blk w2 w.heap.size (xs ++ [Value.int .i64 0]) 3 := hg2.out; have c9 := (hB.cell l.length).trans HC.out; have f9 := hB.free l.length; have HB := Lib.hid hB; clear hg2 hB)
  · refine bodyPost_ret (v := .slice (some ⟨w.heap.size, 0, none⟩) (l.length + 1) (l.length + 1)) (by simp [results, Tryz.f124, go_sem]) rfl ⟨w.heap.size, rfl, Nat.le_refl _, ?_, ?_⟩
    · have h := HB.out.set l.length (.int .i64 x)
      rw [HT.out] at h
      exact h
    · (repeat (first | exact Below.refl _ _ | (with_reducible refine Below.drewN' ?_ _) | (with_reducible refine Below.drew ?_) | (with_reducible refine Below.setCell ?_ (by first | exact Nat.le_refl _ | omega | (with_reducible (repeat (first | refine sz_alloc ?_ | refine sz_setCell ?_ | refine sz_drew ?_ | refine sz_drewN ?_)); first | exact Nat.le_refl _ | omega) | (simp only [World.size_alloc, World.size_setCell, World.size_drew, size_drewN']; omega)) _) | (with_reducible refine Below.alloc ?_ (by first | exact Nat.le_refl _ | omega | (with_reducible (repeat (first | refine sz_alloc ?_ | refine sz_setCell ?_ | refine sz_drew ?_ | refine sz_drewN ?_)); first | exact Nat.le_refl _ | omega) | (simp only [World.size_alloc, World.size_setCell, World.size_drew, size_drewN']; omega)) _) | assumption))
  · rw [hxl]; exact (Nat.min_eq_left (by omega)).symm
  · intro h
    obtain ⟨ad, h1, h2⟩ := HP.out (by omega)
    exact ⟨ad, h1, h2 _ (by (repeat (first | exact Below.refl _ _ | (with_reducible refine Below.drewN' ?_ _) | (with_reducible refine Below.drew ?_) | (with_reducible refine Below.setCell ?_ (by first | exact Nat.le_refl _ | omega | (with_reducible (repeat (first | refine sz_alloc ?_ | refine sz_setCell ?_ | refine sz_drew ?_ | refine sz_drewN ?_)); first | exact Nat.le_refl _ | omega) | (simp only [World.size_alloc, World.size_setCell, World.size_drew, size_drewN']; omega)) _) | (with_reducible refine Below.alloc ?_ (by first | exact Nat.le_refl _ | omega | (with_reducible (repeat (first | refine sz_alloc ?_ | refine sz_setCell ?_ | refine sz_drew ?_ | refine sz_drewN ?_)); first | exact Nat.le_refl _ | omega) | (simp only [World.size_alloc, World.size_setCell, World.size_drew, size_drewN']; omega)) _) | assumption)))⟩
  · omega
  · (repeat (first | exact Below.refl _ _ | (with_reducible refine Below.drewN' ?_ _) | (with_reducible refine Below.drew ?_) | (with_reducible refine Below.setCell ?_ (by first | exact Nat.le_refl _ | omega | (with_reducible (repeat (first | refine sz_alloc ?_ | refine sz_setCell ?_ | refine sz_drew ?_ | refine sz_drewN ?_)); first | exact Nat.le_refl _ | omega) | (simp only [World.size_alloc, World.size_setCell, World.size_drew, size_drewN']; omega)) _) | (with_reducible refine Below.alloc ?_ (by first | exact Nat.le_refl _ | omega | (with_reducible (repeat (first | refine sz_alloc ?_ | refine sz_setCell ?_ | refine sz_drew ?_ | refine sz_drewN ?_)); first | exact Nat.le_refl _ | omega) | (simp only [World.size_alloc, World.size_setCell, World.size_drew, size_drewN']; omega)) _) | assumption))
end Go.Proofs.YtknaajofcbenaaaGreat
