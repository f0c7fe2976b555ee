import Derived.Test.YtknaajofcbenaaaGreatBase
import Derived.Test.YtknaajofcbenaaaGreatHeight
import Derived.Test.YtknaajofcbenaaaGreatChk2
import Derived.Test.YtknaajofcbenaaaGreatCheck
import Derived.Test.YtknaajofcbenaaaGreatOn
import Derived.Test.YtknaajofcbenaaaGreatLower
import Derived.Test.YtknaajofcbenaaaGreatBegin
import Derived.Test.YtknaajofcbenaaaGreatSpans
import Derived.Test.YtknaajofcbenaaaGreatFits
import Derived.Test.YtknaajofcbenaaaGreatQue
import Derived.Test.YtknaajofcbenaaaGreatLead
import Derived.WalkKit
import Derived.WalkSpells
import Derived.WalkLawsBesides
import Derived.Deep.QuietTactic
import Derived.BigQuiet
import Derived.Lib.Hide
import Derived.Shelf.Abstract
import Derived.BigGuardPart
import Derived.RangeFuncNested
import Derived.RangeFuncBound
import Derived.RangeFuncCalls
import Derived.RangeFuncLeaves
import Derived.Shelf.RegionOpen
import Derived.OwnWalkIn
import Derived.TacticsInMore
import Derived.LoopNIn
import Derived.LoopIn
import Derived.StillTailTactics
import Derived.Deep.RegionHeld3
import Derived.StillTail
import Derived.RangeFuncWrites
import Derived.Laws.StructEq
import Derived.Deep.LoopGhost
import Derived.IntWalk
import Derived.RangeFuncBox
import Derived.ArgAppend
import Derived.Laws.CopyOwn
import Derived.OwnWalk
import Derived.Lib.SliceRun
import Derived.Maps.OwnOps
import Derived.Maps.OwnSet
namespace Go.Proofs.YtknaajofcbenaaaGreat
open Go.RowKit Go.Shelf

def two : Sd := ⟨[(0, 100), (360, 400), (700, 150)], -10, 20, [180, 220], [(-1, 0, 200), (0, 1, 160), (-1, 1, 300)]⟩

theorem Row.of_blkk {w : World} {B : Nat} {cs : List Value} {T : TypeId} (h : Blk w B cs T) {k : Nat} {rows : List (List Value)} (hk : ∀ i row, rows[i]? = some row → ∀ j x, row[j]? = some x → cs[i * k + j]? = some x) : Row w (some ⟨B, 0, none⟩) k rows :=
  fun i row hi => ⟨B, 0, rfl, fun j x hj => by rw [Nat.zero_add, h.cell]; exact hk i row hi j x hj⟩
/-- rows of one width, laid one behind the other -/
def flatOk (k : Nat) (rows : List (List Value)) : Bool := rows.all fun r => r.length == k
theorem flat_at (k : Nat) : ∀ (rows : List (List Value)), flatOk k rows = true → ∀ i row, rows[i]? = some row → ∀ j x, row[j]? = some x → rows.flatten[i * k + j]? = some x
  | [], _, i, row, hi, _, _, _ => by simp at hi
  | r :: rest, h, i, row, hi, j, x, hj => by
    simp only [flatOk, List.all_cons, Bool.and_eq_true, beq_iff_eq] at h
    rw [List.flatten_cons]
    cases i with
    | zero =>
      simp only [List.getElem?_cons_zero, Option.some.injEq] at hi
      subst hi
      rw [Nat.zero_mul, Nat.zero_add, List.getElem?_append_left (List.getElem?_eq_some_iff.1 hj).1]
      exact hj
    | succ i =>
      rw [List.getElem?_cons_succ] at hi
      rw [List.getElem?_append_right (by rw [Nat.succ_mul]; omega), h.1, show (i + 1) * k + j - k = i * k + j by rw [Nat.succ_mul]; omega]
      exact flat_at k rest h.2 i row hi j x hj
theorem Row.of_flat {w : World} {B : Nat} {T : TypeId} {k : Nat} {rows : List (List Value)} (hf : flatOk k rows = true) (h : Blk w B rows.flatten T) : Row w (some ⟨B, 0, none⟩) k rows := Row.of_blkk h (flat_at k rows hf)

theorem bodyPost_world {P : Program} {f : Func} {R : Ending → World → Prop} {x : Exit} {a : Act} {W : World} (h : ∀ W', W' = W → bodyPost P f R x a W') : bodyPost P f R x a W := h W rfl
set_option maxRecDepth 100000 in
set_option maxHeartbeats 1000000 in
theorem two_c (w : World) : Calls Tryz.prog 33 #[.int .i64 700] w fun e w' => ∃ b, e = .returned (sdVal two (some ⟨b, 0, none⟩) (some ⟨b + 1, 0, none⟩) (some ⟨b + 2, 0, none⟩) 3 2 3) ∧ Lists w' two (some ⟨b, 0, none⟩) (some ⟨b + 1, 0, none⟩) (some ⟨b + 2, 0, none⟩) 3 2 3 ∧ Up w w' := by
  go_enter Tryz.func33, Tryz.ntmps33
  go_wp2
  refine bodyPost_world ?_
  intro w1 hw1
  have hB : Blk w1 w.heap.size (sdCells two (some ⟨w.heap.size + 1, 0, none⟩) (some ⟨w.heap.size + 1 + 1, 0, none⟩) (some ⟨w.heap.size + 1 + 1 + 1, 0, none⟩) 3 2 3) 28 := by rw [hw1]; exact (((Blk.new w _ _).alloc _).alloc _).alloc _
  have h1 : Blk w1 (w.heap.size + 1) (pairs two.table).flatten 78 := by rw [hw1]; exact ((Blk.new' _ (pairs two.table).flatten _ (by simp)).alloc _).alloc _
  have h2 : Blk w1 (w.heap.size + 1 + 1) (ints two.floors).flatten 3 := by rw [hw1]; exact (Blk.new' _ (ints two.floors).flatten _ (by simp)).alloc _
  have h3 : Blk w1 (w.heap.size + 1 + 1 + 1) (triples two.sills).flatten 80 := by rw [hw1]; exact Blk.new' _ (triples two.sills).flatten _ (by simp)
  have hu : Up w w1 := by rw [hw1]; (repeat (first | exact Below.refl _ _ | (with_reducible refine Below.drewN' ?_ _) | (with_reducible refine Below.drew ?_) | (with_reducible refine Below.setCell ?_ (by first | exact Nat.le_refl _ | omega | (with_reducible (repeat (first | refine sz_alloc ?_ | refine sz_setCell ?_ | refine sz_drew ?_ | refine sz_drewN ?_)); first | exact Nat.le_refl _ | omega) | (simp only [World.size_alloc, World.size_setCell, World.size_drew, size_drewN']; omega)) _) | (with_reducible refine Below.alloc ?_ (by first | exact Nat.le_refl _ | omega | (with_reducible (repeat (first | refine sz_alloc ?_ | refine sz_setCell ?_ | refine sz_drew ?_ | refine sz_drewN ?_)); first | exact Nat.le_refl _ | omega) | (simp only [World.size_alloc, World.size_setCell, World.size_drew, size_drewN']; omega)) _) | assumption))
  clear hw1
  have p0 := hB.cell 0
  have p1 := hB.cell 1
  have p2 := hB.cell 2
  have p3 := hB.cell 3
  have p4 := hB.cell 4
  simp only [sdCells, List.getElem?_cons_zero, List.getElem?_cons_succ] at p0 p1 p2 p3 p4
  refine bodyPost_ret (v := sdVal two (some ⟨w.heap.size + 1, 0, none⟩) (some ⟨w.heap.size + 1 + 1, 0, none⟩) (some ⟨w.heap.size + 1 + 1 + 1, 0, none⟩) 3 2 3) (by simp [results, Tryz.f33, go_sem, p0, p1, p2, p3, p4]; rfl) rfl ⟨w.heap.size + 1, rfl, ?_, hu⟩
  exact ⟨Row.of_flat rfl h1, Row.of_flat rfl h2, Row.of_flat rfl h3, by decide, by decide, by decide, by decide, by decide, by decide⟩
end Go.Proofs.YtknaajofcbenaaaGreat
