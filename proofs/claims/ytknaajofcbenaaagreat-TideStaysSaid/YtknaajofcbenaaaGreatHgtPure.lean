import Derived.Test.YtknaajofcbenaaaGreatBase
import Derived.Test.YtknaajofcbenaaaGreatLine
import Derived.Test.YtknaajofcbenaaaGreatHeight
import Derived.Test.YtknaajofcbenaaaGreatAll
import Derived.Test.YtknaajofcbenaaaGreatQue
import Derived.Test.YtknaajofcbenaaaGreatCounted
import Derived.WalkKit
import Derived.WalkSpells
import Derived.WalkLawsBesides
import Derived.Deep.QuietTactic
import Derived.BigQuiet
import Derived.Lib.Hide
import Derived.Shelf.Abstract
import Derived.BigGuardPart
import Derived.RangeFuncNested
import Derived.RangeFuncBound
import Derived.RangeFuncCalls
import Derived.RangeFuncLeaves
import Derived.Shelf.RegionOpen
import Derived.OwnWalkIn
import Derived.TacticsInMore
import Derived.LoopNIn
import Derived.LoopIn
import Derived.StillTailTactics
import Derived.Deep.RegionHeld3
import Derived.StillTail
import Derived.RangeFuncWrites
import Derived.Laws.StructEq
import Derived.Deep.LoopGhost
import Derived.IntWalk
import Derived.RangeFuncBox
import Derived.ArgAppend
import Derived.Laws.CopyOwn
import Derived.OwnWalk
import Derived.Lib.SliceRun
import Derived.Maps.OwnOps
import Derived.Maps.OwnSet
import Derived.Deep.AppendSrc
import Derived.Deep.Upon
namespace Go.Proofs.YtknaajofcbenaaaGreat
open Go.RowKit Go.Shelf

/-- the height on the k-th stretch of a table -/
theorem hgt_seg (l : List (Int × Int)) (m : Int) (k : Nat) (h : k + 1 < l.length) (h1 : ∀ j (hj : j < l.length), 0 < j → j ≤ k → l[j].1 < m) (h2 : m ≤ l[k + 1].1) : hgt l m = onL l[k] l[k + 1] m := by
  have key : ∀ j (hj : j ≤ k), hgt l m = hgtFrom (l[j]'(by omega)) (l.drop (j + 1)) m := by
    intro j
    induction j with
    | zero =>
      intro _
      cases l with
      | nil => simp at h
      | cons a r => rfl
    | succ j ih =>
      intro hj
      rw [ih (by omega), hgt_step l m j (by omega), if_neg (by have := h1 (j + 1) (by omega) (by omega) hj; omega)]
  rw [key k (Nat.le_refl _), hgt_step l m k h, if_pos h2]
theorem tab_lt {l : List (Int × Int)} (ok : okTable l) : ∀ (i j : Nat) (hj : j < l.length) (hij : i < j), (l[i]'(by omega)).1 < l[j].1 := by
  intro i j
  induction j with
  | zero => intro _ h; omega
  | succ j ih =>
    intro hj hij
    have h1 := ok.2.1 j hj
    by_cases e : i = j
    · subst e; exact h1
    · have := ih (by omega) (by omega); omega
/-- the height at a minute of the table -/
theorem hgt_knot {l : List (Int × Int)} (ok : okTable l) (k : Nat) (hk : k < l.length) : hgt l l[k].1 = l[k].2 := by
  have h2 := ok.2.2.1
  by_cases e : k = 0
  · subst e
    have hd := tab_lt ok 0 1 (by omega) (by omega)
    rw [hgt_seg l _ 0 (by omega) (fun j _ a b => by omega) (by show l[0].1 ≤ l[1].1; omega)]
    unfold onL
    rw [Int.sub_self, Int.mul_zero, Int.add_zero, Int.mul_ediv_cancel _ (by show l[1].1 - l[0].1 ≠ 0; omega)]
  · have hd := tab_lt ok (k - 1) k hk (by omega)
    have e1 : k - 1 + 1 = k := by omega
    have := hgt_seg l l[k].1 (k - 1) (by omega) (fun j hj a b => tab_lt ok j k hk (by omega)) (by simp only [e1]; omega)
    rw [this]
    simp only [e1]
    unfold onL
    rw [← Int.add_mul, show l[k - 1].2 + (l[k].2 - l[k - 1].2) = l[k].2 by omega, Int.mul_ediv_cancel _ (by omega)]
/-- the greatest number that is not above the line -/
theorem onL_great (a b : Int × Int) (m n : Int) (hd : a.1 < b.1) (h1 : (n - a.2) * (b.1 - a.1) ≤ (b.2 - a.2) * (m - a.1)) (h2 : ¬ (n + 1 - a.2) * (b.1 - a.1) ≤ (b.2 - a.2) * (m - a.1)) : onL a b m = n := by
  unfold onL
  obtain ⟨d, hdd⟩ : ∃ d, b.1 - a.1 = d := ⟨_, rfl⟩
  obtain ⟨e, he⟩ : ∃ e, (b.2 - a.2) * (m - a.1) = e := ⟨_, rfl⟩
  rw [hdd, he] at h1 h2 ⊢
  have hp : 0 < d := by omega
  rw [Int.sub_mul] at h1
  rw [Int.sub_mul, Int.add_mul, Int.one_mul] at h2
  apply Int.le_antisymm
  · apply Int.le_of_lt_add_one
    apply Int.ediv_lt_of_lt_mul hp
    rw [Int.add_mul, Int.one_mul]
    omega
  · apply Int.le_ediv_of_mul_le hp
    omega
theorem onL_start (a b : Int × Int) (m : Int) (h2 : a.1 ≤ m) (h3 : m ≤ b.1) : (min a.2 b.2 - a.2) * (b.1 - a.1) ≤ (b.2 - a.2) * (m - a.1) := by
  rcases Int.le_total a.2 b.2 with h | h
  · rw [Int.min_eq_left h, Int.sub_self, Int.zero_mul]
    exact Int.mul_nonneg (by omega) (by omega)
  · rw [Int.min_eq_right h]
    have : 0 ≤ (a.2 - b.2) * ((b.1 - a.1) - (m - a.1)) := Int.mul_nonneg (by omega) (by omega)
    rw [Int.mul_sub, Int.sub_mul, Int.sub_mul] at this
    rw [Int.sub_mul, Int.sub_mul]
    omega
/-- so long as the reference's loop goes on, its number is below the line -/
theorem onL_more (a b : Int × Int) (m n : Int) (hd : a.1 < b.1) (h : (n + 1 - a.2) * (b.1 - a.1) ≤ (b.2 - a.2) * (m - a.1)) : n + 1 ≤ onL a b m := by
  unfold onL
  apply Int.le_ediv_of_mul_le (by omega)
  rw [Int.sub_mul] at h
  omega
end Go.Proofs.YtknaajofcbenaaaGreat
