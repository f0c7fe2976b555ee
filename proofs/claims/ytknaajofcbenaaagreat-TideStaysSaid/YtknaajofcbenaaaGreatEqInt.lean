import Derived.Test.YtknaajofcbenaaaGreatBase
import Derived.Test.YtknaajofcbenaaaGreatHeight
import Derived.Test.YtknaajofcbenaaaGreatOn
import Derived.Test.YtknaajofcbenaaaGreatGates
import Derived.Test.YtknaajofcbenaaaGreatLead
import Derived.Test.YtknaajofcbenaaaGreatWaysF
import Derived.WalkKit
import Derived.WalkSpells
import Derived.WalkLawsBesides
import Derived.Deep.QuietTactic
import Derived.BigQuiet
import Derived.Lib.Hide
import Derived.Shelf.Abstract
import Derived.BigGuardPart
import Derived.RangeFuncNested
import Derived.RangeFuncBound
import Derived.RangeFuncCalls
import Derived.RangeFuncLeaves
import Derived.Shelf.RegionOpen
import Derived.OwnWalkIn
import Derived.TacticsInMore
import Derived.LoopNIn
import Derived.LoopIn
import Derived.StillTailTactics
import Derived.Deep.RegionHeld3
import Derived.StillTail
import Derived.RangeFuncWrites
import Derived.Laws.StructEq
import Derived.Deep.LoopGhost
import Derived.IntWalk
import Derived.RangeFuncBox
import Derived.ArgAppend
import Derived.Laws.CopyOwn
import Derived.OwnWalk
import Derived.Lib.SliceRun
import Derived.Maps.OwnOps
import Derived.Maps.OwnSet
namespace Go.Proofs.YtknaajofcbenaaaGreat
open Go.RowKit Go.Shelf

theorem drop_eq_iff {α : Type} {l r : List α} (_hl : l.length = r.length) {k : Nat} (h1 : k < l.length) (h2 : k < r.length) : l.drop k = r.drop k ↔ l[k] = r[k] ∧ l.drop (k + 1) = r.drop (k + 1) := by
  rw [List.drop_eq_getElem_cons h1, List.drop_eq_getElem_cons h2, List.cons.injEq]

set_option maxRecDepth 100000 in
set_option maxHeartbeats 1000000 in
theorem equalInt_c (l r : List Int) (p q : Option Addr) (c d : Nat) (w : World) (h1 : Row w p 1 (ints l)) (h2 : Row w q 1 (ints r)) (m1 : l.length ≤ maxLen) (m2 : r.length ≤ maxLen) :
    Calls Tryz.prog 75 #[.slice p l.length c, .slice q r.length d] w fun e w' => e = .returned (.bool (decide (l = r))) ∧ Up w w' := by
  have H1 := Lib.hid h1
  have H2 := Lib.hid h2
  unfold maxLen at m1 m2
  clear h1 h2
  go_enter Tryz.func75, Tryz.ntmps75
  by_cases hl : l.length = r.length
  · have hl' : (l.length : Int) = (r.length : Int) := by omega
    go_wp2_with fail
    go_loopw [13] (fun i wr => ∃ k : Nat, k ≤ l.length ∧ i = .int .i64 k ∧ (l = r ↔ l.drop k = r.drop k) ∧ Up w wr) (fun i _ => l.length - (intOf i).toNat)
    case atStart => exact ⟨0, Nat.zero_le _, rfl, Iff.rfl, Below.refl _ _⟩
    case round =>
      obtain ⟨k, hk, rfl, ht, hu⟩ := hrel
      have HT := Lib.hid ht
      have HU := Lib.hid hu
      clear ht
      by_cases hlt : k < l.length
      · have hlr : k < r.length := by omega
        obtain ⟨b, off, rfl, d0⟩ := H1.out.int k hlt
        obtain ⟨b', off', rfl, d1⟩ := H2.out.int k hlr
        have e0 := hu.cellAt d0
        have e1 := hu.cellAt d1
        have HD := Lib.hid (drop_eq_iff hl hlt hlr)
        clear d0 d1 hu
        generalize l[k] = x at *
        generalize r[k] = y at *
        have b1 : (k : Int) < (l.length : Int) := by omega
        have b2 : (k : Int) < (r.length : Int) := by omega
        go_wp2_with fail
        by_cases hxy : x = y
        · have HX := Lib.hid (show l = r ↔ l.drop (k + 1) = r.drop (k + 1) by rw [HT.out, HD.out]; simp [hxy])
          subst hxy
          go_quiet (fail)
          go_wp2_with fail
          go_roundw
          case rel => exact ⟨k + 1, hlt, by go_num, HX.out, Below.drewN' HU.out _⟩
          case measure => simp [intOf]; omega
        · have HX : Hid (¬ l = r) := by rw [show l = r ↔ _ from HT.out, HD.out]; exact fun h => hxy h.1
          go_quiet (fail)
          go_wp2_with fail
          go_ret
          exact ⟨ret_bool (by simpa using HX.out), Below.drewN' HU.out _⟩
      · obtain rfl : k = l.length := by omega
        have HX : Hid (l = r) := HT.out.2 (by rw [List.drop_eq_nil_of_le (Nat.le_refl _), List.drop_eq_nil_of_le (by omega)])
        go_wp2_with fail
        go_ret
        exact ⟨ret_bool (by simpa using HX.out), HU.out⟩
  · have hl' : ¬ (l.length : Int) = (r.length : Int) := by omega
    go_wp2_with fail
    go_ret
    exact ⟨ret_bool (by symm; rw [decide_eq_false_iff_not]; rintro rfl; exact hl rfl), Below.refl _ _⟩
set_option maxRecDepth 100000 in
set_option maxHeartbeats 1000000 in
theorem equalState_c (l r : List Int) (p q : Option Addr) (c d : Nat) (w : World) (h1 : Row w p 1 (ints l)) (h2 : Row w q 1 (ints r)) (m1 : l.length ≤ maxLen) (m2 : r.length ≤ maxLen) :
    Calls Tryz.prog 110 #[.slice p l.length c, .slice q r.length d] w fun e w' => e = .returned (.bool (decide (l = r))) ∧ Up w w' := by
  have H1 := Lib.hid h1
  have H2 := Lib.hid h2
  unfold maxLen at m1 m2
  clear h1 h2
  go_enter Tryz.func110, Tryz.ntmps110
  by_cases hl : l.length = r.length
  · have hl' : (l.length : Int) = (r.length : Int) := by omega
    go_wp2_with fail
    go_loopw [13] (fun i wr => ∃ k : Nat, k ≤ l.length ∧ i = .int .i64 k ∧ (l = r ↔ l.drop k = r.drop k) ∧ Up w wr) (fun i _ => l.length - (intOf i).toNat)
    case atStart => exact ⟨0, Nat.zero_le _, rfl, Iff.rfl, Below.refl _ _⟩
    case round =>
      obtain ⟨k, hk, rfl, ht, hu⟩ := hrel
      have HT := Lib.hid ht
      have HU := Lib.hid hu
      clear ht
      by_cases hlt : k < l.length
      · have hlr : k < r.length := by omega
        obtain ⟨b, off, rfl, d0⟩ := H1.out.int k hlt
        obtain ⟨b', off', rfl, d1⟩ := H2.out.int k hlr
        have e0 := hu.cellAt d0
        have e1 := hu.cellAt d1
        have HD := Lib.hid (drop_eq_iff hl hlt hlr)
        clear d0 d1 hu
        generalize l[k] = x at *
        generalize r[k] = y at *
        have b1 : (k : Int) < (l.length : Int) := by omega
        have b2 : (k : Int) < (r.length : Int) := by omega
        go_wp2_with fail
        by_cases hxy : x = y
        · have HX := Lib.hid (show l = r ↔ l.drop (k + 1) = r.drop (k + 1) by rw [HT.out, HD.out]; simp [hxy])
          subst hxy
          go_quiet (fail)
          go_wp2_with fail
          go_roundw
          case rel => exact ⟨k + 1, hlt, by go_num, HX.out, Below.drewN' HU.out _⟩
          case measure => simp [intOf]; omega
        · have HX : Hid (¬ l = r) := by rw [show l = r ↔ _ from HT.out, HD.out]; exact fun h => hxy h.1
          go_quiet (fail)
          go_wp2_with fail
          go_ret
          exact ⟨ret_bool (by simpa using HX.out), Below.drewN' HU.out _⟩
      · obtain rfl : k = l.length := by omega
        have HX : Hid (l = r) := HT.out.2 (by rw [List.drop_eq_nil_of_le (Nat.le_refl _), List.drop_eq_nil_of_le (by omega)])
        go_wp2_with fail
        go_ret
        exact ⟨ret_bool (by simpa using HX.out), HU.out⟩
  · have hl' : ¬ (l.length : Int) = (r.length : Int) := by omega
    go_wp2_with fail
    go_ret
    exact ⟨ret_bool (by symm; rw [decide_eq_false_iff_not]; rintro rfl; exact hl rfl), Below.refl _ _⟩

theorem eqInt_c (l r : List Int) (p q : Option Addr) (c d : Nat) (w : World) (h1 : Row w p 1 (ints l)) (h2 : Row w q 1 (ints r)) (m1 : l.length ≤ maxLen) (m2 : r.length ≤ maxLen) :
    Calls Tryz.prog 23 #[.slice p l.length c, .slice q r.length d] w fun e w' => e = .returned (.bool (decide (l = r))) ∧ Up w w' := by
  have HE := Lib.hid (equalInt_c l r p q c d w h1 h2 m1 m2)
  clear h1 h2
  go_enter Tryz.func23, Tryz.ntmps23
  go_wp2_with fail
  refine HE.out.mono ?_
  rintro e w1 ⟨rfl, u1⟩
  go_wp2_with fail
  go_ret
  exact ⟨rfl, u1⟩

theorem eqState_c (l r : List Int) (p q : Option Addr) (c d : Nat) (w : World) (h1 : Row w p 1 (ints l)) (h2 : Row w q 1 (ints r)) (m1 : l.length ≤ maxLen) (m2 : r.length ≤ maxLen) :
    Calls Tryz.prog 46 #[.slice p l.length c, .slice q r.length d] w fun e w' => e = .returned (.bool (decide (l = r))) ∧ Up w w' := by
  have HE := Lib.hid (equalState_c l r p q c d w h1 h2 m1 m2)
  clear h1 h2
  go_enter Tryz.func46, Tryz.ntmps46
  go_wp2_with fail
  refine HE.out.mono ?_
  rintro e w1 ⟨rfl, u1⟩
  go_wp2_with fail
  go_ret
  exact ⟨rfl, u1⟩
end Go.Proofs.YtknaajofcbenaaaGreat
