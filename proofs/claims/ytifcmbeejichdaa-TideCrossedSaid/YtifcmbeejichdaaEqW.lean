import Derived.Test.YtifcmbeejichdaaBase
import Derived.Test.YtifcmbeejichdaaHeight
import Derived.Test.YtifcmbeejichdaaOn
import Derived.Test.YtifcmbeejichdaaGates
import Derived.Test.YtifcmbeejichdaaLead
import Derived.Test.YtifcmbeejichdaaWaysF
import Derived.Test.YtifcmbeejichdaaEqInt
import Derived.WalkKit
import Derived.WalkSpells
import Derived.WalkLawsBesides
import Derived.Deep.QuietTactic
import Derived.BigQuiet
import Derived.Lib.Hide
import Derived.Shelf.Abstract
import Derived.BigGuardPart
import Derived.RangeFuncNested
import Derived.RangeFuncBound
import Derived.RangeFuncCalls
import Derived.RangeFuncLeaves
import Derived.Shelf.RegionOpen
import Derived.OwnWalkIn
import Derived.TacticsInMore
import Derived.LoopNIn
import Derived.LoopIn
import Derived.StillTailTactics
import Derived.Deep.RegionHeld3
import Derived.StillTail
import Derived.RangeFuncWrites
import Derived.Laws.StructEq
import Derived.Deep.LoopGhost
import Derived.IntWalk
import Derived.RangeFuncBox
import Derived.ArgAppend
import Derived.Laws.CopyOwn
import Derived.OwnWalk
import Derived.Lib.SliceRun
import Derived.Maps.OwnOps
import Derived.Maps.OwnSet
import Derived.Deep.AppendSrc
import Derived.Deep.Upon
namespace Go.Proofs.Ytifcmbeejichdaa
open Go.RowKit Go.Shelf

set_option maxRecDepth 100000 in
set_option maxHeartbeats 1000000 in
theorem equalWater_c (l r : List (Int × Int)) (p q : Option Addr) (c d : Nat) (w : World) (h1 : Row w p 2 (pairs l)) (h2 : Row w q 2 (pairs r)) (m1 : l.length ≤ maxLen) (m2 : r.length ≤ maxLen) :
    Calls Try.prog 145 #[.slice p l.length c, .slice q r.length d] w fun e w' => e = .returned (.bool (decide (l = r))) ∧ Up w w' := by
  have H1 := Lib.hid h1
  have H2 := Lib.hid h2
  unfold maxLen at m1 m2
  clear h1 h2
  go_enter Try.func145, Try.ntmps145
  by_cases hl : l.length = r.length
  · have hl' : (l.length : Int) = (r.length : Int) := by omega
    go_wp2_with fail
    go_loopw [13] (fun i wr => ∃ k : Nat, k ≤ l.length ∧ i = .int .i64 k ∧ (l = r ↔ l.drop k = r.drop k) ∧ Up w wr) (fun i _ => l.length - (intOf i).toNat)
    case atStart => exact ⟨0, Nat.zero_le _, rfl, Iff.rfl, Below.refl _ _⟩
    case round =>
      obtain ⟨k, hk, rfl, ht, hu⟩ := hrel
      have HT := Lib.hid ht
      have HU := Lib.hid hu
      clear ht
      by_cases hlt : k < l.length
      · have hlr : k < r.length := by omega
        obtain ⟨b, off, rfl, d0, d0'⟩ := H1.out.pair k hlt
        obtain ⟨b', off', rfl, d1, d1'⟩ := H2.out.pair k hlr
        have e0 := hu.cellAt d0
        have e1 := hu.cellAt d1
        have e0' := hu.cellAt d0'
        have e1' := hu.cellAt d1'
        have HD := Lib.hid (drop_eq_iff hl hlt hlr)
        clear d0 d1 d0' d1' hu
        generalize l[k] = x at *
        generalize r[k] = y at *
        obtain ⟨xa, xb⟩ := x
        obtain ⟨ya, yb⟩ := y
        dsimp only at e0 e1 e0' e1'
        have b1 : (k : Int) < (l.length : Int) := by omega
        have b2 : (k : Int) < (r.length : Int) := by omega
        go_wp2_with fail
        by_cases hxy : (xa, xb) = (ya, yb)
        · have HX := Lib.hid (show l = r ↔ l.drop (k + 1) = r.drop (k + 1) by rw [HT.out, HD.out]; simp [hxy])
          obtain ⟨rfl, rfl⟩ : xa = ya ∧ xb = yb := by simpa using hxy
          go_quiet (fail)
          go_wp2_with fail
          go_roundw
          case rel => exact ⟨k + 1, hlt, by go_num, HX.out, Below.drewN' HU.out _⟩
          case measure => simp [intOf]; omega
        · have HX : Hid (¬ l = r) := by rw [show l = r ↔ _ from HT.out, HD.out]; exact fun h => hxy h.1
          by_cases ha : xa = ya
          · subst ha
            have hb : ¬ xb = yb := fun e => hxy (by rw [e])
            clear hxy
            go_quiet (fail)
            go_wp2_with fail
            go_ret
            exact ⟨ret_bool (by simpa using HX.out), Below.drewN' HU.out _⟩
          · clear hxy
            go_quiet (fail)
            go_wp2_with fail
            go_ret
            exact ⟨ret_bool (by simpa using HX.out), Below.drewN' HU.out _⟩
      · obtain rfl : k = l.length := by omega
        have HX : Hid (l = r) := HT.out.2 (by rw [List.drop_eq_nil_of_le (Nat.le_refl _), List.drop_eq_nil_of_le (by omega)])
        go_wp2_with fail
        go_ret
        exact ⟨ret_bool (by simpa using HX.out), HU.out⟩
  · have hl' : ¬ (l.length : Int) = (r.length : Int) := by omega
    go_wp2_with fail
    go_ret
    exact ⟨ret_bool (by symm; rw [decide_eq_false_iff_not]; rintro rfl; exact hl rfl), Below.refl _ _⟩

set_option maxRecDepth 100000 in
set_option maxHeartbeats 1000000 in
theorem equalSill_c (l r : List (Int × Int × Int)) (p q : Option Addr) (c d : Nat) (w : World) (h1 : Row w p 3 (triples l)) (h2 : Row w q 3 (triples r)) (m1 : l.length ≤ maxLen) (m2 : r.length ≤ maxLen) :
    Calls Try.prog 146 #[.slice p l.length c, .slice q r.length d] w fun e w' => e = .returned (.bool (decide (l = r))) ∧ Up w w' := by
  have H1 := Lib.hid h1
  have H2 := Lib.hid h2
  unfold maxLen at m1 m2
  clear h1 h2
  go_enter Try.func146, Try.ntmps146
  by_cases hl : l.length = r.length
  · have hl' : (l.length : Int) = (r.length : Int) := by omega
    go_wp2_with fail
    go_loopw [13] (fun i wr => ∃ k : Nat, k ≤ l.length ∧ i = .int .i64 k ∧ (l = r ↔ l.drop k = r.drop k) ∧ Up w wr) (fun i _ => l.length - (intOf i).toNat)
    case atStart => exact ⟨0, Nat.zero_le _, rfl, Iff.rfl, Below.refl _ _⟩
    case round =>
      obtain ⟨k, hk, rfl, ht, hu⟩ := hrel
      have HT := Lib.hid ht
      have HU := Lib.hid hu
      clear ht
      by_cases hlt : k < l.length
      · have hlr : k < r.length := by omega
        obtain ⟨b, off, rfl, d0, d0', d0''⟩ := H1.out.triple k hlt
        obtain ⟨b', off', rfl, d1, d1', d1''⟩ := H2.out.triple k hlr
        have e0 := hu.cellAt d0
        have e1 := hu.cellAt d1
        have e0' := hu.cellAt d0'
        have e1' := hu.cellAt d1'
        have e0'' := hu.cellAt d0''
        have e1'' := hu.cellAt d1''
        have HD := Lib.hid (drop_eq_iff hl hlt hlr)
        clear d0 d1 d0' d1' d0'' d1'' hu
        generalize l[k] = x at *
        generalize r[k] = y at *
        obtain ⟨xa, xb, xc⟩ := x
        obtain ⟨ya, yb, yc⟩ := y
        dsimp only at e0 e1 e0' e1' e0'' e1''
        have b1 : (k : Int) < (l.length : Int) := by omega
        have b2 : (k : Int) < (r.length : Int) := by omega
        go_wp2_with fail
        by_cases hxy : (xa, xb, xc) = (ya, yb, yc)
        · have HX := Lib.hid (show l = r ↔ l.drop (k + 1) = r.drop (k + 1) by rw [HT.out, HD.out]; simp [hxy])
          obtain ⟨rfl, rfl, rfl⟩ : xa = ya ∧ xb = yb ∧ xc = yc := by simpa using hxy
          go_quiet (fail)
          go_wp2_with fail
          go_roundw
          case rel => exact ⟨k + 1, hlt, by go_num, HX.out, Below.drewN' HU.out _⟩
          case measure => simp [intOf]; omega
        · have HX : Hid (¬ l = r) := by rw [show l = r ↔ _ from HT.out, HD.out]; exact fun h => hxy h.1
          by_cases ha : xa = ya
          · subst ha
            by_cases hb : xb = yb
            · subst hb
              have hc : ¬ xc = yc := fun e => hxy (by rw [e])
              clear hxy
              go_quiet (fail)
              go_wp2_with fail
              go_ret
              exact ⟨ret_bool (by simpa using HX.out), Below.drewN' HU.out _⟩
            · clear hxy
              go_quiet (fail)
              go_wp2_with fail
              go_ret
              exact ⟨ret_bool (by simpa using HX.out), Below.drewN' HU.out _⟩
          · clear hxy
            go_quiet (fail)
            go_wp2_with fail
            go_ret
            exact ⟨ret_bool (by simpa using HX.out), Below.drewN' HU.out _⟩
      · obtain rfl : k = l.length := by omega
        have HX : Hid (l = r) := HT.out.2 (by rw [List.drop_eq_nil_of_le (Nat.le_refl _), List.drop_eq_nil_of_le (by omega)])
        go_wp2_with fail
        go_ret
        exact ⟨ret_bool (by simpa using HX.out), HU.out⟩
  · have hl' : ¬ (l.length : Int) = (r.length : Int) := by omega
    go_wp2_with fail
    go_ret
    exact ⟨ret_bool (by symm; rw [decide_eq_false_iff_not]; rintro rfl; exact hl rfl), Below.refl _ _⟩


theorem eqWater_c (l r : List (Int × Int)) (p q : Option Addr) (c d : Nat) (w : World) (h1 : Row w p 2 (pairs l)) (h2 : Row w q 2 (pairs r)) (m1 : l.length ≤ maxLen) (m2 : r.length ≤ maxLen) :
    Calls Try.prog 90 #[.slice p l.length c, .slice q r.length d] w fun e w' => e = .returned (.bool (decide (l = r))) ∧ Up w w' := by
  have HE := Lib.hid (equalWater_c l r p q c d w h1 h2 m1 m2)
  clear h1 h2
  go_enter Try.func90, Try.ntmps90
  go_wp2_with fail
  refine HE.out.mono ?_
  rintro e w1 ⟨rfl, u1⟩
  go_wp2_with fail
  go_ret
  exact ⟨rfl, u1⟩

theorem eqSill_c (l r : List (Int × Int × Int)) (p q : Option Addr) (c d : Nat) (w : World) (h1 : Row w p 3 (triples l)) (h2 : Row w q 3 (triples r)) (m1 : l.length ≤ maxLen) (m2 : r.length ≤ maxLen) :
    Calls Try.prog 91 #[.slice p l.length c, .slice q r.length d] w fun e w' => e = .returned (.bool (decide (l = r))) ∧ Up w w' := by
  have HE := Lib.hid (equalSill_c l r p q c d w h1 h2 m1 m2)
  clear h1 h2
  go_enter Try.func91, Try.ntmps91
  go_wp2_with fail
  refine HE.out.mono ?_
  rintro e w1 ⟨rfl, u1⟩
  go_wp2_with fail
  go_ret
  exact ⟨rfl, u1⟩
end Go.Proofs.Ytifcmbeejichdaa
