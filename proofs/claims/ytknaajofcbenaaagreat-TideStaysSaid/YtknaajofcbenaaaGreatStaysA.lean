import Derived.Test.YtknaajofcbenaaaGreatBase
import Derived.Test.YtknaajofcbenaaaGreatHeight
import Derived.Test.YtknaajofcbenaaaGreatOn
import Derived.Test.YtknaajofcbenaaaGreatGates
import Derived.Test.YtknaajofcbenaaaGreatLead
import Derived.Test.YtknaajofcbenaaaGreatWaysF
import Derived.Test.YtknaajofcbenaaaGreatEqInt
import Derived.Test.YtknaajofcbenaaaGreatBegin
import Derived.Test.YtknaajofcbenaaaGreatBegin2
import Derived.Test.YtknaajofcbenaaaGreatOut1
import Derived.Test.YtknaajofcbenaaaGreatAll
import Derived.Test.YtknaajofcbenaaaGreatTurn
import Derived.Test.YtknaajofcbenaaaGreatLooks3
import Derived.Test.YtknaajofcbenaaaGreatWay
import Derived.Test.YtknaajofcbenaaaGreatTwo
import Derived.Test.YtknaajofcbenaaaGreatSpans2
import Derived.Test.YtknaajofcbenaaaGreatChkZ
import Derived.Test.YtknaajofcbenaaaGreatHgtPure
import Derived.Test.YtknaajofcbenaaaGreatState2
import Derived.Test.YtknaajofcbenaaaGreatChk2
import Derived.Test.YtknaajofcbenaaaGreatCheck
import Derived.Test.YtknaajofcbenaaaGreatRound
import Derived.Test.YtknaajofcbenaaaGreatLower
import Derived.Test.YtknaajofcbenaaaGreatSpans
import Derived.Test.YtknaajofcbenaaaGreatFits
import Derived.Test.YtknaajofcbenaaaGreatQue
import Derived.Test.YtknaajofcbenaaaGreatDup
import Derived.Test.YtknaajofcbenaaaGreatCounted
import Derived.Test.YtknaajofcbenaaaGreatHold
import Derived.Test.YtknaajofcbenaaaGreatFar
import Derived.Test.YtknaajofcbenaaaGreatAt
import Derived.Test.YtknaajofcbenaaaGreatLonger
import Derived.Test.YtknaajofcbenaaaGreatStep
import Derived.Test.YtknaajofcbenaaaGreatLooks
import Derived.Test.YtknaajofcbenaaaGreatChk
import Derived.Test.YtknaajofcbenaaaGreatDraw
import Derived.WalkKit
import Derived.WalkSpells
import Derived.WalkLawsBesides
import Derived.Deep.QuietTactic
import Derived.BigQuiet
import Derived.Lib.Hide
import Derived.Shelf.Abstract
import Derived.BigGuardPart
import Derived.RangeFuncNested
import Derived.RangeFuncBound
import Derived.RangeFuncCalls
import Derived.RangeFuncLeaves
import Derived.Shelf.RegionOpen
import Derived.OwnWalkIn
import Derived.TacticsInMore
import Derived.LoopNIn
import Derived.LoopIn
import Derived.StillTailTactics
import Derived.Deep.RegionHeld3
import Derived.StillTail
import Derived.RangeFuncWrites
import Derived.Laws.StructEq
import Derived.Deep.LoopGhost
import Derived.IntWalk
import Derived.RangeFuncBox
import Derived.ArgAppend
import Derived.Laws.CopyOwn
import Derived.OwnWalk
import Derived.Lib.SliceRun
import Derived.Maps.OwnOps
import Derived.Maps.OwnSet
import Derived.Deep.AppendSrc
import Derived.Deep.Upon
import Derived.Deep.Cut
import Derived.Deep.DeepCutAuto
import Derived.WalkMore
import Derived.Scope
import Derived.Deep.CutBlock
import Derived.Deep.CutRange
namespace Go.Proofs.YtknaajofcbenaaaGreat
open Go.RowKit Go.Shelf

set_option maxRecDepth 100000 in
set_option maxHeartbeats 1000000 in
theorem equalWater_c (l r : List (Int × Int)) (p q : Option Addr) (c d : Nat) (w : World) (h1 : Row w p 2 (pairs l)) (h2 : Row w q 2 (pairs r)) (m1 : l.length ≤ maxLen) (m2 : r.length ≤ maxLen) :
    Calls Tryz.prog 117 #[.slice p l.length c, .slice q r.length d] w fun e w' => e = .returned (.bool (decide (l = r))) ∧ Up w w' := by
  have H1 := Lib.hid h1
  have H2 := Lib.hid h2
  unfold maxLen at m1 m2
  clear h1 h2
  go_enter Tryz.func117, Tryz.ntmps117
  by_cases hl : l.length = r.length
  · have hl' : (l.length : Int) = (r.length : Int) := by omega
    go_wp2_with fail
    go_loopw [13] (fun i wr => ∃ k : Nat, k ≤ l.length ∧ i = .int .i64 k ∧ (l = r ↔ l.drop k = r.drop k) ∧ Up w wr) (fun i _ => l.length - (intOf i).toNat)
    case atStart => exact ⟨0, Nat.zero_le _, rfl, Iff.rfl, Below.refl _ _⟩
    case round =>
      obtain ⟨k, hk, rfl, ht, hu⟩ := hrel
      have HT := Lib.hid ht
      have HU := Lib.hid hu
      clear ht
      by_cases hlt : k < l.length
      · have hlr : k < r.length := by omega
        obtain ⟨b, off, rfl, d0, d0'⟩ := H1.out.pair k hlt
        obtain ⟨b', off', rfl, d1, d1'⟩ := H2.out.pair k hlr
        have e0 := hu.cellAt d0
        have e1 := hu.cellAt d1
        have e0' := hu.cellAt d0'
        have e1' := hu.cellAt d1'
        have HD := Lib.hid (drop_eq_iff hl hlt hlr)
        clear d0 d1 d0' d1' hu
        generalize l[k] = x at *
        generalize r[k] = y at *
        obtain ⟨xa, xb⟩ := x
        obtain ⟨ya, yb⟩ := y
        dsimp only at e0 e1 e0' e1'
        have b1 : (k : Int) < (l.length : Int) := by omega
        have b2 : (k : Int) < (r.length : Int) := by omega
        go_wp2_with fail
        by_cases hxy : (xa, xb) = (ya, yb)
        · have HX := Lib.hid (show l = r ↔ l.drop (k + 1) = r.drop (k + 1) by rw [HT.out, HD.out]; simp [hxy])
          obtain ⟨rfl, rfl⟩ : xa = ya ∧ xb = yb := by simpa using hxy
          go_quiet (fail)
          go_wp2_with fail
          go_roundw
          case rel => exact ⟨k + 1, hlt, by go_num, HX.out, Below.drewN' HU.out _⟩
          case measure => simp [intOf]; omega
        · have HX : Hid (¬ l = r) := by rw [show l = r ↔ _ from HT.out, HD.out]; exact fun h => hxy h.1
          by_cases ha : xa = ya
          · subst ha
            have hb : ¬ xb = yb := fun e => hxy (by rw [e])
            clear hxy
            go_quiet (fail)
            go_wp2_with fail
            go_ret
            exact ⟨ret_bool (by simpa using HX.out), Below.drewN' HU.out _⟩
          · clear hxy
            go_quiet (fail)
            go_wp2_with fail
            go_ret
            exact ⟨ret_bool (by simpa using HX.out), Below.drewN' HU.out _⟩
      · obtain rfl : k = l.length := by omega
        have HX : Hid (l = r) := HT.out.2 (by rw [List.drop_eq_nil_of_le (Nat.le_refl _), List.drop_eq_nil_of_le (by omega)])
        go_wp2_with fail
        go_ret
        exact ⟨ret_bool (by simpa using HX.out), HU.out⟩
  · have hl' : ¬ (l.length : Int) = (r.length : Int) := by omega
    go_wp2_with fail
    go_ret
    exact ⟨ret_bool (by symm; rw [decide_eq_false_iff_not]; rintro rfl; exact hl rfl), Below.refl _ _⟩

set_option maxRecDepth 100000 in
set_option maxHeartbeats 1000000 in
theorem equalSill_c (l r : List (Int × Int × Int)) (p q : Option Addr) (c d : Nat) (w : World) (h1 : Row w p 3 (triples l)) (h2 : Row w q 3 (triples r)) (m1 : l.length ≤ maxLen) (m2 : r.length ≤ maxLen) :
    Calls Tryz.prog 118 #[.slice p l.length c, .slice q r.length d] w fun e w' => e = .returned (.bool (decide (l = r))) ∧ Up w w' := by
  have H1 := Lib.hid h1
  have H2 := Lib.hid h2
  unfold maxLen at m1 m2
  clear h1 h2
  go_enter Tryz.func118, Tryz.ntmps118
  by_cases hl : l.length = r.length
  · have hl' : (l.length : Int) = (r.length : Int) := by omega
    go_wp2_with fail
    go_loopw [13] (fun i wr => ∃ k : Nat, k ≤ l.length ∧ i = .int .i64 k ∧ (l = r ↔ l.drop k = r.drop k) ∧ Up w wr) (fun i _ => l.length - (intOf i).toNat)
    case atStart => exact ⟨0, Nat.zero_le _, rfl, Iff.rfl, Below.refl _ _⟩
    case round =>
      obtain ⟨k, hk, rfl, ht, hu⟩ := hrel
      have HT := Lib.hid ht
      have HU := Lib.hid hu
      clear ht
      by_cases hlt : k < l.length
      · have hlr : k < r.length := by omega
        obtain ⟨b, off, rfl, d0, d0', d0''⟩ := H1.out.triple k hlt
        obtain ⟨b', off', rfl, d1, d1', d1''⟩ := H2.out.triple k hlr
        have e0 := hu.cellAt d0
        have e1 := hu.cellAt d1
        have e0' := hu.cellAt d0'
        have e1' := hu.cellAt d1'
        have e0'' := hu.cellAt d0''
        have e1'' := hu.cellAt d1''
        have HD := Lib.hid (drop_eq_iff hl hlt hlr)
        clear d0 d1 d0' d1' d0'' d1'' hu
        generalize l[k] = x at *
        generalize r[k] = y at *
        obtain ⟨xa, xb, xc⟩ := x
        obtain ⟨ya, yb, yc⟩ := y
        dsimp only at e0 e1 e0' e1' e0'' e1''
        have b1 : (k : Int) < (l.length : Int) := by omega
        have b2 : (k : Int) < (r.length : Int) := by omega
        go_wp2_with fail
        by_cases hxy : (xa, xb, xc) = (ya, yb, yc)
        · have HX := Lib.hid (show l = r ↔ l.drop (k + 1) = r.drop (k + 1) by rw [HT.out, HD.out]; simp [hxy])
          obtain ⟨rfl, rfl, rfl⟩ : xa = ya ∧ xb = yb ∧ xc = yc := by simpa using hxy
          go_quiet (fail)
          go_wp2_with fail
          go_roundw
          case rel => exact ⟨k + 1, hlt, by go_num, HX.out, Below.drewN' HU.out _⟩
          case measure => simp [intOf]; omega
        · have HX : Hid (¬ l = r) := by rw [show l = r ↔ _ from HT.out, HD.out]; exact fun h => hxy h.1
          by_cases ha : xa = ya
          · subst ha
            by_cases hb : xb = yb
            · subst hb
              have hc : ¬ xc = yc := fun e => hxy (by rw [e])
              clear hxy
              go_quiet (fail)
              go_wp2_with fail
              go_ret
              exact ⟨ret_bool (by simpa using HX.out), Below.drewN' HU.out _⟩
            · clear hxy
              go_quiet (fail)
              go_wp2_with fail
              go_ret
              exact ⟨ret_bool (by simpa using HX.out), Below.drewN' HU.out _⟩
          · clear hxy
            go_quiet (fail)
            go_wp2_with fail
            go_ret
            exact ⟨ret_bool (by simpa using HX.out), Below.drewN' HU.out _⟩
      · obtain rfl : k = l.length := by omega
        have HX : Hid (l = r) := HT.out.2 (by rw [List.drop_eq_nil_of_le (Nat.le_refl _), List.drop_eq_nil_of_le (by omega)])
        go_wp2_with fail
        go_ret
        exact ⟨ret_bool (by simpa using HX.out), HU.out⟩
  · have hl' : ¬ (l.length : Int) = (r.length : Int) := by omega
    go_wp2_with fail
    go_ret
    exact ⟨ret_bool (by symm; rw [decide_eq_false_iff_not]; rintro rfl; exact hl rfl), Below.refl _ _⟩


theorem eqWater_c (l r : List (Int × Int)) (p q : Option Addr) (c d : Nat) (w : World) (h1 : Row w p 2 (pairs l)) (h2 : Row w q 2 (pairs r)) (m1 : l.length ≤ maxLen) (m2 : r.length ≤ maxLen) :
    Calls Tryz.prog 76 #[.slice p l.length c, .slice q r.length d] w fun e w' => e = .returned (.bool (decide (l = r))) ∧ Up w w' := by
  have HE := Lib.hid (equalWater_c l r p q c d w h1 h2 m1 m2)
  clear h1 h2
  go_enter Tryz.func76, Tryz.ntmps76
  go_wp2_with fail
  refine HE.out.mono ?_
  rintro e w1 ⟨rfl, u1⟩
  go_wp2_with fail
  go_ret
  exact ⟨rfl, u1⟩

theorem eqSill_c (l r : List (Int × Int × Int)) (p q : Option Addr) (c d : Nat) (w : World) (h1 : Row w p 3 (triples l)) (h2 : Row w q 3 (triples r)) (m1 : l.length ≤ maxLen) (m2 : r.length ≤ maxLen) :
    Calls Tryz.prog 77 #[.slice p l.length c, .slice q r.length d] w fun e w' => e = .returned (.bool (decide (l = r))) ∧ Up w w' := by
  have HE := Lib.hid (equalSill_c l r p q c d w h1 h2 m1 m2)
  clear h1 h2
  go_enter Tryz.func77, Tryz.ntmps77
  go_wp2_with fail
  refine HE.out.mono ?_
  rintro e w1 ⟨rfl, u1⟩
  go_wp2_with fail
  go_ret
  exact ⟨rfl, u1⟩
end Go.Proofs.YtknaajofcbenaaaGreat
namespace Go.Proofs.YtknaajofcbenaaaGreat
open Go.RowKit Go.Shelf
set_option maxRecDepth 100000
theorem v_h1 : heightV two 91 = 175 ∧ errAt two 91 = 0 := by constructor <;> kernel_rfl
theorem v_h2 : heightV two 400 = 370 ∧ errAt two 400 = 0 := by constructor <;> kernel_rfl
theorem v_g : gateV two 1 = 220 ∧ errGate two 1 = 0 := by constructor <;> kernel_rfl
theorem v_t : turnV two 0 0 = 97 ∧ errTurn two 0 0 = 0 := by constructor <;> kernel_rfl
theorem v_w : wayV two 1 = [0, 1] := by kernel_rfl
theorem v_a : allV two 150 = [2, 1] ∧ errAt two 150 = 0 := by constructor <;> kernel_rfl
theorem v_l : looksV two [(120, 0, true)] = (1, 20) ∧ looksE two [(120, 0, true)] = 0 := by constructor <;> kernel_rfl
end Go.Proofs.YtknaajofcbenaaaGreat
/- Plain facts: the look that settles most. -/
namespace Go.Proofs.YtknaajofcbenaaaGreat
section
open Go.RowKit

/-- how many truths a look leaves at most, whatever is seen -/
def askMost (s : Sd) (m : Int) (p : Nat) : Int := max (siz (truV s (m, (p : Int), true))) (siz (s.lo, s.hi) - siz (truV s (m, (p : Int), true)))
def askOne (s : Sd) (m : Int) (z : Lk × Int) (p : Nat) : Lk × Int := if z.1 = (0, 0, false) ∨ askMost s m p < z.2 then ((m, (p : Int), true), askMost s m p) else z
def askRow (s : Sd) (m : Int) (z : Lk × Int) : Nat → Lk × Int
  | 0 => z
  | k + 1 => askOne s m (askRow s m z k) k
def askAll (s : Sd) : Nat → Lk × Int
  | 0 => ((0, 0, false), siz (s.lo, s.hi))
  | k + 1 => askRow s (firstM s.table + k) (askAll s k) s.floors.length
def askE (s : Sd) : Int := if chk s = 0 then (if siz (s.lo, s.hi) = 1 then 6 else 0) else chk s
def askV (s : Sd) : Lk × Int := if askE s = 0 then askAll s (dayN s) else ((0, 0, false), 0)

/-- the best of what has been looked at: the first of those that leave fewest -/
def Best (s : Sd) (seen : Int → Nat → Prop) (z : Lk × Int) : Prop :=
  (z = ((0, 0, false), siz (s.lo, s.hi)) ∧ ∀ m p, ¬ seen m p) ∨
  ∃ (m : Int) (p : Nat), z = ((m, (p : Int), true), askMost s m p) ∧ seen m p ∧ ∀ m' p', seen m' p' → askMost s m p ≤ askMost s m' p' ∧ (askMost s m p = askMost s m' p' → m < m' ∨ m = m' ∧ p ≤ p')

theorem Best.one {s : Sd} {seen seen' : Int → Nat → Prop} {z : Lk × Int} {m : Int} {p : Nat} (h : Best s seen z) (h1 : ∀ m' p', seen' m' p' ↔ seen m' p' ∨ m' = m ∧ p' = p) (h2 : ∀ m' p', seen m' p' → m' < m ∨ m' = m ∧ p' < p) :
    Best s seen' (askOne s m z p) := by
  rcases h with ⟨rfl, h0⟩ | ⟨m0, p0, rfl, hs, hb⟩
  · unfold askOne
    rw [if_pos (Or.inl rfl)]
    refine .inr ⟨m, p, rfl, (h1 _ _).2 (.inr ⟨rfl, rfl⟩), fun m' p' h => ?_⟩
    rcases (h1 _ _).1 h with h | ⟨rfl, rfl⟩
    · exact absurd h (h0 _ _)
    · exact ⟨Int.le_refl _, fun _ => .inr ⟨rfl, Nat.le_refl _⟩⟩
  · unfold askOne
    by_cases hc : askMost s m p < askMost s m0 p0
    · rw [if_pos (Or.inr hc)]
      refine .inr ⟨m, p, rfl, (h1 _ _).2 (.inr ⟨rfl, rfl⟩), fun m' p' h => ?_⟩
      rcases (h1 _ _).1 h with h | ⟨rfl, rfl⟩
      · have := (hb m' p' h).1
        exact ⟨by omega, fun e => by omega⟩
      · exact ⟨Int.le_refl _, fun _ => .inr ⟨rfl, Nat.le_refl _⟩⟩
    · rw [if_neg (fun h => by rcases h with h | h <;> first | (exact hc h) | (exact absurd (congrArg (fun t => t.2.2) h) (by simp)))]
      refine .inr ⟨m0, p0, rfl, (h1 _ _).2 (.inl hs), fun m' p' h => ?_⟩
      rcases (h1 _ _).1 h with h | ⟨rfl, rfl⟩
      · exact hb m' p' h
      · have := h2 m0 p0 hs
        exact ⟨by omega, fun _ => by omega⟩

theorem askRow_best {s : Sd} {seen : Int → Nat → Prop} {z : Lk × Int} {m : Int} (h : Best s seen z) (h2 : ∀ m' p', seen m' p' → m' < m) : ∀ k, Best s (fun m' p' => seen m' p' ∨ m' = m ∧ p' < k) (askRow s m z k)
  | 0 => by
    have : (fun m' p' => seen m' p' ∨ m' = m ∧ p' < 0) = seen := by funext a b; simp
    rw [this]; exact h
  | k + 1 => by
    refine (askRow_best h h2 k).one (fun m' p' => ?_) (fun m' p' h => ?_)
    · constructor
      · rintro (h | ⟨h, h'⟩)
        · exact .inl (.inl h)
        · by_cases e : p' = k
          · exact .inr ⟨h, e⟩
          · exact .inl (.inr ⟨h, by omega⟩)
      · rintro ((h | ⟨h, h'⟩) | ⟨h, h'⟩)
        · exact .inl h
        · exact .inr ⟨h, by omega⟩
        · exact .inr ⟨h, by omega⟩
    · rcases h with h | ⟨h, h'⟩
      · exact .inl (h2 _ _ h)
      · exact .inr ⟨h, h'⟩

theorem askAll_best (s : Sd) : ∀ k : Nat, Best s (fun m' p' => firstM s.table ≤ m' ∧ m' < firstM s.table + k ∧ p' < s.floors.length) (askAll s k)
  | 0 => .inl ⟨rfl, fun m p h => by omega⟩
  | k + 1 => by
    have h := askRow_best (m := firstM s.table + k) (askAll_best s k) (fun m' p' h => h.2.1) s.floors.length
    have e : (fun m' p' => (firstM s.table ≤ m' ∧ m' < firstM s.table + (k : Int) ∧ p' < s.floors.length) ∨ m' = firstM s.table + (k : Int) ∧ p' < s.floors.length) = (fun m' p' => firstM s.table ≤ m' ∧ m' < firstM s.table + ((k + 1 : Nat) : Int) ∧ p' < s.floors.length) := by
      funext a b
      apply propext
      constructor
      · rintro (⟨h1, h2, h3⟩ | ⟨h1, h2⟩)
        · exact ⟨h1, by omega, h3⟩
        · exact ⟨by omega, by omega, h2⟩
      · rintro ⟨h1, h2, h3⟩
        by_cases e : a = firstM s.table + k
        · exact .inr ⟨e, h3⟩
        · exact .inl ⟨h1, by omega, h3⟩
    rw [e] at h
    exact h

theorem siz_wind {s : Sd} (ok : Ok s) : siz (s.lo, s.hi) = s.hi - s.lo + 1 := by
  have := ok.lohi
  unfold siz
  dsimp only
  omega
/-- a look and its contrary part the truths -/
theorem siz_part {s : Sd} (ok : Ok s) (m p : Int) : siz (truV s (m, p, true)) + siz (truV s (m, p, false)) = siz (s.lo, s.hi) := by
  have b0 := ok.lo0
  have b1 := ok.hi1
  have b2 := ok.lohi
  rw [siz_wind ok]
  unfold truV siz com
  simp only [if_pos, Bool.false_eq_true, if_false]
  omega
theorem siz_nonneg (a : Int × Int) : 0 ≤ siz a := by unfold siz; omega
theorem truV_com {s : Sd} (x : Lk) : com (s.lo, s.hi) (truV s x) = truV s x := by
  unfold truV com
  split <;> (refine Prod.ext ?_ ?_ <;> dsimp only <;> omega)
theorem truV_in {s : Sd} (x : Lk) : s.lo ≤ (truV s x).1 ∧ (truV s x).2 ≤ s.hi := by
  unfold truV com
  split <;> dsimp only <;> omega
theorem askMost_two {s : Sd} (ok : Ok s) (m : Int) (p : Nat) : askMost s m p = max (siz (truV s (m, (p : Int), true))) (siz (truV s (m, (p : Int), false))) := by
  have := siz_part ok m p
  unfold askMost
  rw [show siz (s.lo, s.hi) - siz (truV s (m, (p : Int), true)) = siz (truV s (m, (p : Int), false)) by omega]
theorem ask_best {s : Sd} (ok : Ok s) : ∃ m p, askAll s (dayN s) = ((m, ((p : Nat) : Int), true), askMost s m p) ∧ inDay s m = true ∧ p < s.floors.length ∧
    ∀ m' p', inDay s m' = true → p' < s.floors.length → askMost s m p ≤ askMost s m' p' ∧ (askMost s m p = askMost s m' p' → m < m' ∨ m = m' ∧ p ≤ p') := by
  obtain ⟨f0, f1, f2⟩ := firstM_lt ok.table
  have hn : ((dayN s : Nat) : Int) = lastM s.table - firstM s.table + 1 := by unfold dayN; omega
  have hfl := ok.fl0
  rcases askAll_best s (dayN s) with ⟨-, h⟩ | ⟨m, p, h1, ⟨h2, h3, h4⟩, h5⟩
  · exact absurd ⟨Int.le_refl _, by omega, hfl⟩ (h (firstM s.table) 0)
  · refine ⟨m, p, h1, inB_true.2 ⟨h2, by omega⟩, h4, fun m' p' hm hp => h5 m' p' ?_⟩
    obtain ⟨i1, i2⟩ := inB_true.1 hm
    exact ⟨i1, by omega, hp⟩
theorem looks_one {s : Sd} (ok : Ok s) {m : Int} (hm : inDay s m = true) {p : Nat} (hp : p < s.floors.length) (b : Bool) :
    looksE s [(m, (p : Int), b)] = (if siz (truV s (m, (p : Int), b)) = 0 then 7 else 0) ∧ looksV s [(m, (p : Int), b)] = (if siz (truV s (m, (p : Int), b)) = 0 then (0, 0) else truV s (m, (p : Int), b)) := by
  have e1 : errLooks s [(m, (p : Int), b)] = 0 := by
    unfold errLooks
    rw [if_pos (chk_zero ok), if_neg (by simp)]
    simp only [lkErr]
    rw [hm, show isPl s (p : Int) = true from inB_true.2 ⟨by omega, by omega⟩]
    rfl
  have e2 : lkOf s (s.lo, s.hi) [(m, (p : Int), b)] = truV s (m, (p : Int), b) := by
    unfold lkOf
    simp only [List.foldl_cons, List.foldl_nil]
    exact truV_com _
  have e3 : looksE s [(m, (p : Int), b)] = (if siz (truV s (m, (p : Int), b)) = 0 then 7 else 0) := by
    unfold looksE
    rw [if_pos e1, e2]
  refine ⟨e3, ?_⟩
  unfold looksV
  rw [e3, e2]
  split
  · rw [if_neg (by decide)]
  · rw [if_pos rfl]
end
end Go.Proofs.YtknaajofcbenaaaGreat
/- Plain facts: the lowering of gates as a row of updates; gates of raised sands, and of sands with one sill more. -/
namespace Go.Proofs.YtknaajofcbenaaaGreat
section
open Go.RowKit

/-- what a sill lowers that leads on from a place: which gate, and to what at most -/
def up1 (F : List Int) (f : Int) (x : Int × Int × Int) : Option (Nat × Int) :=
  if 0 ≤ other x f ∧ (other x f).toNat < F.length then some ((other x f).toNat, grt [x.2.2, F[(other x f).toNat]?.getD 0]) else none
def ap1 (g : List Int) (u : Nat × Int) : List Int := g.set u.1 (min (g[u.1]?.getD 0) u.2)
def ap2 (f : Nat) (g : List Int) (u : Nat × Int) : List Int := g.set u.1 (min (g[u.1]?.getD 0) (grt [g[f]?.getD 0, u.2]))

/-- a lead as an update -/
def ofLead (s : Sd) (x : Lead s.sills.length s.floors.length) : Nat × Int := (x.1.2, grt [(s.sills[x.1.1]'x.2.1).2.2, s.floors[x.1.2]'x.2.2])
theorem lead1_up (s : Sd) (f : Int) (i : Nat) : (lead1 s.sills s.floors.length f i).map (ofLead s) = if i < s.sills.length then up1 s.floors f (s.sills[i]?.getD (0, 0, 0)) else none := by
  unfold lead1 up1
  by_cases hi : i < s.sills.length
  · rw [if_pos hi]
    have e : s.sills[i] = s.sills[i]?.getD (0, 0, 0) := by rw [List.getElem?_eq_getElem hi]; rfl
    by_cases h : 0 ≤ other (s.sills[i]?.getD (0, 0, 0)) f ∧ (other (s.sills[i]?.getD (0, 0, 0)) f).toNat < s.floors.length
    · rw [dif_pos ⟨hi, h⟩, if_pos h]
      simp only [Option.map_some, ofLead]
      rw [e, List.getElem?_eq_getElem h.2, Option.getD_some]
    · rw [dif_neg (fun h' => h h'.2), if_neg h]; rfl
  · rw [if_neg hi, dif_neg (fun h' => hi h'.1)]; rfl
theorem fm_congr {α β : Type} {l : List α} {f g : α → Option β} (h : ∀ x ∈ l, f x = g x) : l.filterMap f = l.filterMap g := by
  induction l with
  | nil => rfl
  | cons a r ih => rw [List.filterMap_cons, List.filterMap_cons, h a (by simp), ih (fun x hx => h x (by simp [hx]))]
theorem filterMap_range {α β : Type} (l : List α) (d : α) (q : α → Option β) : (List.range l.length).filterMap (fun i => if i < l.length then q (l[i]?.getD d) else none) = l.filterMap q := by
  have e : l = (List.range l.length).map (fun i => l[i]?.getD d) := by
    apply List.ext_getElem
    · simp
    · intro i h1 h2; simp [List.getElem?_eq_getElem h1]
  conv => rhs; rw [e]
  rw [List.filterMap_map]
  apply fm_congr
  intro i hi
  rw [List.mem_range] at hi
  simp [hi]
theorem leads_up (s : Sd) (f : Int) : (leads s.sills s.floors.length f s.sills.length).map (ofLead s) = s.sills.filterMap (up1 s.floors f) := by
  unfold leads
  rw [List.map_filterMap, ← filterMap_range s.sills (0, 0, 0)]
  apply fm_congr
  intro i _
  exact lead1_up s f i
theorem lowSea_up (s : Sd) (g : List Int) : lowSea s g = (s.sills.filterMap (up1 s.floors (-1))).foldl ap1 g := by
  unfold lowSea
  rw [← leads_up, List.foldl_map]
  rfl
theorem lowFrom_up (s : Sd) (f : Nat) (g : List Int) : lowFrom s g f = (s.sills.filterMap (up1 s.floors f)).foldl (ap2 f) g := by
  unfold lowFrom
  rw [← leads_up, List.foldl_map]
  rfl

theorem grt2 (a b : Int) : grt [a, b] = max (max 0 a) b := rfl

/-- gates that are as low, or lower -/
def Leq (g g' : List Int) : Prop := g.length = g'.length ∧ ∀ i : Nat, g[i]?.getD 0 ≤ g'[i]?.getD 0 ∧ (g[i]?.getD 0 < 1050 → g'[i]?.getD 0 < 1050)
theorem Leq.refl (g : List Int) : Leq g g := ⟨rfl, fun _ => ⟨Int.le_refl _, id⟩⟩
theorem Leq.set {a b : List Int} (h : Leq a b) (t : Nat) {c d : Int} (hc : c ≤ d) (hd : c < 1050 → d < 1050) : Leq (a.set t (min (a[t]?.getD 0) c)) (b.set t (min (b[t]?.getD 0) d)) := by
  refine ⟨by simp [h.1], fun i => ?_⟩
  have h1 := h.2 i
  have h0 := h.1
  rw [List.getElem?_set, List.getElem?_set]
  by_cases hi : t = i
  · subst hi
    by_cases hl : t < a.length
    · have hl' : t < b.length := by omega
      simp only [if_true, hl, hl', Option.getD_some]
      omega
    · have hl' : ¬ t < b.length := by omega
      simp [hl, hl']
  · rw [if_neg hi, if_neg hi]; exact h1

/-- sills of which some are higher, and floors -/
inductive HiS : List (Int × Int × Int) → List (Int × Int × Int) → Prop
  | nil : HiS [] []
  | cons {a b h h' : Int} {r r' : List (Int × Int × Int)} : h ≤ h' → h' ≤ 999 → HiS r r' → HiS ((a, b, h) :: r) ((a, b, h') :: r')
def HiF (F F' : List Int) : Prop := F.length = F'.length ∧ ∀ i : Nat, F[i]?.getD 0 ≤ F'[i]?.getD 0 ∧ F'[i]?.getD 0 ≤ 999
theorem HiS.refl : ∀ {l : List (Int × Int × Int)}, (∀ x ∈ l, x.2.2 ≤ 999) → HiS l l
  | [], _ => .nil
  | (a, b, h) :: r, k => .cons (Int.le_refl _) (k (a, b, h) (by simp)) (HiS.refl (fun x hx => k x (by simp [hx])))
theorem HiS.at : ∀ {l : List (Int × Int × Int)} (i : Nat) (d : Int) (hi : i < l.length), 0 ≤ d → (∀ x ∈ l, x.2.2 ≤ 999) → l[i].2.2 + d ≤ 999 → HiS l (l.set i (l[i].1, l[i].2.1, l[i].2.2 + d))
  | (a, b, h) :: r, 0, d, _, h0, k, k9 => .cons (show h ≤ h + d by omega) k9 (HiS.refl (fun x hx => k x (by simp [hx])))
  | (a, b, h) :: r, i + 1, d, hi, h0, k, k9 => by
    have hi' : i < r.length := by simpa using hi
    exact .cons (Int.le_refl _) (k (a, b, h) (by simp)) (HiS.at i d hi' h0 (fun x hx => k x (by simp [hx])) (by simpa using k9))
theorem HiF.refl {F : List Int} (h : ∀ x ∈ F, x ≤ 999) : HiF F F := ⟨rfl, fun i => ⟨Int.le_refl _, by
  by_cases hi : i < F.length
  · rw [List.getElem?_eq_getElem hi]; exact h _ (List.getElem_mem _)
  · rw [List.getElem?_eq_none (by omega)]; decide⟩⟩
theorem HiF.at {F : List Int} (i : Nat) (d : Int) (hi : i < F.length) (d0 : 0 ≤ d) (h : ∀ x ∈ F, x ≤ 999) (h9 : F[i] + d ≤ 999) : HiF F (F.set i (F[i] + d)) := by
  refine ⟨by simp, fun j => ?_⟩
  have k := (HiF.refl h).2 j
  rw [List.getElem?_set]
  by_cases hj : i = j
  · subst hj
    rw [if_pos rfl, if_pos hi, List.getElem?_eq_getElem hi]
    simp only [Option.getD_some]
    omega
  · rw [if_neg hj]; exact k

theorem hi_ap1 {F F' : List Int} (hF : HiF F F') (f : Int) {l l' : List (Int × Int × Int)} (hS : HiS l l') : ∀ {g g' : List Int}, Leq g g' → Leq ((l.filterMap (up1 F f)).foldl ap1 g) ((l'.filterMap (up1 F' f)).foldl ap1 g') := by
  induction hS with
  | nil => exact fun h => h
  | @cons a b h h' r r' hh h9 _ ih =>
    intro g g' hg
    have eo : other (a, b, h') f = other (a, b, h) f := rfl
    by_cases hc : 0 ≤ other (a, b, h) f ∧ (other (a, b, h) f).toNat < F.length
    · have e1 : up1 F f (a, b, h) = some ((other (a, b, h) f).toNat, grt [h, F[(other (a, b, h) f).toNat]?.getD 0]) := if_pos hc
      have e2 : up1 F' f (a, b, h') = some ((other (a, b, h) f).toNat, grt [h', F'[(other (a, b, h) f).toNat]?.getD 0]) := if_pos (by rw [← hF.1]; exact hc)
      rw [List.filterMap_cons_some e1, List.filterMap_cons_some e2, List.foldl_cons, List.foldl_cons]
      refine ih (hg.set _ ?_ ?_)
      · have := hF.2 (other (a, b, h) f).toNat
        simp only [grt2]; omega
      · have := hF.2 (other (a, b, h) f).toNat
        simp only [grt2]; omega
    · have e1 : up1 F f (a, b, h) = none := if_neg hc
      have e2 : up1 F' f (a, b, h') = none := if_neg (by rw [← hF.1]; exact hc)
      rw [List.filterMap_cons_none e1, List.filterMap_cons_none e2]
      exact ih hg
theorem hi_ap2 {F F' : List Int} (hF : HiF F F') (f : Nat) {l l' : List (Int × Int × Int)} (hS : HiS l l') : ∀ {g g' : List Int}, Leq g g' → Leq ((l.filterMap (up1 F f)).foldl (ap2 f) g) ((l'.filterMap (up1 F' f)).foldl (ap2 f) g') := by
  induction hS with
  | nil => exact fun h => h
  | @cons a b h h' r r' hh h9 _ ih =>
    intro g g' hg
    have eo : other (a, b, h') f = other (a, b, h) f := rfl
    by_cases hc : 0 ≤ other (a, b, h) f ∧ (other (a, b, h) f).toNat < F.length
    · have e1 : up1 F f (a, b, h) = some ((other (a, b, h) f).toNat, grt [h, F[(other (a, b, h) f).toNat]?.getD 0]) := if_pos hc
      have e2 : up1 F' f (a, b, h') = some ((other (a, b, h) f).toNat, grt [h', F'[(other (a, b, h) f).toNat]?.getD 0]) := if_pos (by rw [← hF.1]; exact hc)
      rw [List.filterMap_cons_some e1, List.filterMap_cons_some e2, List.foldl_cons, List.foldl_cons]
      have h1 := hF.2 (other (a, b, h) f).toNat
      have h2 := hg.2 f
      refine ih (hg.set _ ?_ ?_)
      · simp only [grt2]; omega
      · simp only [grt2]; omega
    · have e1 : up1 F f (a, b, h) = none := if_neg hc
      have e2 : up1 F' f (a, b, h') = none := if_neg (by rw [← hF.1]; exact hc)
      rw [List.filterMap_cons_none e1, List.filterMap_cons_none e2]
      exact ih hg
theorem hi_lowered {s t : Sd} (hF : HiF s.floors t.floors) (hS : HiS s.sills t.sills) {g g' : List Int} (hg : Leq g g') : Leq (lowered s g) (lowered t g') := by
  unfold lowered
  rw [← hF.1]
  have h0 : Leq (lowSea s g) (lowSea t g') := by rw [lowSea_up, lowSea_up]; exact hi_ap1 hF _ hS hg
  generalize lowSea s g = a at *
  generalize lowSea t g' = b at *
  generalize List.range s.floors.length = l
  induction l generalizing a b with
  | nil => exact h0
  | cons x r ih =>
    refine ih _ _ ?_
    rw [lowFrom_up, lowFrom_up]
    exact hi_ap2 hF _ hS h0

/-- lowered so many times -/
def iterG (s : Sd) : Nat → List Int → List Int
  | 0, g => g
  | n + 1, g => iterG s n (lowered s g)
theorem iterG_fix {s : Sd} {g : List Int} (h : lowered s g = g) : ∀ n, iterG s n g = g
  | 0 => rfl
  | n + 1 => by unfold iterG; rw [h]; exact iterG_fix h n
theorem fixG_iter (s : Sd) : ∀ n g, fixG s n g = iterG s n g
  | 0, g => rfl
  | n + 1, g => by
    unfold fixG
    split
    · next h => exact (iterG_fix h (n + 1)).symm
    · exact fixG_iter s n _
theorem hi_iter {s t : Sd} (hF : HiF s.floors t.floors) (hS : HiS s.sills t.sills) : ∀ n {g g' : List Int}, Leq g g' → Leq (iterG s n g) (iterG t n g')
  | 0, _, _, h => h
  | n + 1, _, _, h => hi_iter hF hS n (hi_lowered hF hS h)
theorem hi_gts {s t : Sd} (hF : HiF s.floors t.floors) (hS : HiS s.sills t.sills) : Leq (gts s) (gts t) := by
  unfold gts
  rw [fixG_iter, fixG_iter]
  exact hi_iter hF hS _ (Leq.refl _)

/-- with one sill more -/
def Geq (g g' : List Int) : Prop := g.length = g'.length ∧ ∀ i : Nat, g'[i]?.getD 0 ≤ g[i]?.getD 0
theorem Geq.set {a b : List Int} (h : Geq a b) (t : Nat) {c d : Int} (hc : d ≤ c) : Geq (a.set t (min (a[t]?.getD 0) c)) (b.set t (min (b[t]?.getD 0) d)) := by
  refine ⟨by simp [h.1], fun i => ?_⟩
  have h1 := h.2 i
  have h0 := h.1
  rw [List.getElem?_set, List.getElem?_set]
  by_cases hi : t = i
  · subst hi
    by_cases hl : t < a.length
    · have hl' : t < b.length := by omega
      simp only [if_true, hl, hl', Option.getD_some]
      omega
    · have hl' : ¬ t < b.length := by omega
      simp [hl, hl']
  · rw [if_neg hi, if_neg hi]; exact h1
theorem Geq.right {a b : List Int} (h : Geq a b) (t : Nat) (d : Int) : Geq a (b.set t (min (b[t]?.getD 0) d)) := by
  refine ⟨by simp [h.1], fun i => ?_⟩
  have h1 := h.2 i
  rw [List.getElem?_set]
  by_cases hi : t = i
  · subst hi
    by_cases hl : t < b.length
    · simp only [if_true, hl, Option.getD_some]
      omega
    · have hl' : ¬ t < a.length := by have := h.1; omega
      simp [hl, hl']
  · rw [if_neg hi]; exact h1
theorem more_ap1 (F : List Int) (f : Int) (l e : List (Int × Int × Int)) {g g' : List Int} (hg : Geq g g') : Geq ((l.filterMap (up1 F f)).foldl ap1 g) (((l ++ e).filterMap (up1 F f)).foldl ap1 g') := by
  rw [List.filterMap_append, List.foldl_append]
  have h0 : Geq ((l.filterMap (up1 F f)).foldl ap1 g) ((l.filterMap (up1 F f)).foldl ap1 g') := by
    generalize l.filterMap (up1 F f) = k
    induction k generalizing g g' with
    | nil => exact hg
    | cons x r ih => exact ih (hg.set _ (Int.le_refl _))
  generalize (l.filterMap (up1 F f)).foldl ap1 g = a at *
  generalize (l.filterMap (up1 F f)).foldl ap1 g' = b at *
  generalize e.filterMap (up1 F f) = k
  induction k generalizing b with
  | nil => exact h0
  | cons x r ih => exact ih _ (h0.right _ _)
theorem more_ap2 (F : List Int) (f : Nat) (l e : List (Int × Int × Int)) {g g' : List Int} (hg : Geq g g') : Geq ((l.filterMap (up1 F f)).foldl (ap2 f) g) (((l ++ e).filterMap (up1 F f)).foldl (ap2 f) g') := by
  rw [List.filterMap_append, List.foldl_append]
  have h0 : Geq ((l.filterMap (up1 F f)).foldl (ap2 f) g) ((l.filterMap (up1 F f)).foldl (ap2 f) g') := by
    generalize l.filterMap (up1 F f) = k
    induction k generalizing g g' with
    | nil => exact hg
    | cons x r ih =>
      refine ih (hg.set _ ?_)
      have := hg.2 f
      simp only [grt2]; omega
  generalize (l.filterMap (up1 F f)).foldl (ap2 f) g = a at *
  generalize (l.filterMap (up1 F f)).foldl (ap2 f) g' = b at *
  generalize e.filterMap (up1 F f) = k
  induction k generalizing b with
  | nil => exact h0
  | cons x r ih => exact ih _ (h0.right _ _)
theorem more_lowered {s t : Sd} {e : List (Int × Int × Int)} (hF : t.floors = s.floors) (hS : t.sills = s.sills ++ e) {g g' : List Int} (hg : Geq g g') : Geq (lowered s g) (lowered t g') := by
  unfold lowered
  rw [hF]
  have h0 : Geq (lowSea s g) (lowSea t g') := by rw [lowSea_up, lowSea_up, hF, hS]; exact more_ap1 _ _ _ _ hg
  generalize lowSea s g = a at *
  generalize lowSea t g' = b at *
  generalize List.range s.floors.length = l
  induction l generalizing a b with
  | nil => exact h0
  | cons x r ih =>
    refine ih _ _ ?_
    rw [lowFrom_up, lowFrom_up, hF, hS]
    exact more_ap2 _ _ _ _ h0
theorem more_iter {s t : Sd} {e : List (Int × Int × Int)} (hF : t.floors = s.floors) (hS : t.sills = s.sills ++ e) : ∀ n {g g' : List Int}, Geq g g' → Geq (iterG s n g) (iterG t n g')
  | 0, _, _, h => h
  | n + 1, _, _, h => more_iter hF hS n (more_lowered hF hS h)
theorem more_gts {s t : Sd} {e : List (Int × Int × Int)} (hF : t.floors = s.floors) (hS : t.sills = s.sills ++ e) : Geq (gts s) (gts t) := by
  unfold gts
  rw [fixG_iter, fixG_iter]
  exact more_iter hF hS _ ⟨rfl, fun _ => Int.le_refl _⟩

/-- no gate is above 1050 -/
theorem iter_less (s : Sd) : ∀ n {g : List Int}, Less top g → Less top (iterG s n g)
  | 0, _, h => h
  | n + 1, g, h => iter_less s n (h.trans (lowered_less s g (fun i => (h.2 i).1)))
theorem gts_le (s : Sd) (p : Nat) : 0 ≤ gateOf s p ∧ gateOf s p ≤ 1050 := by
  have h : Less top (gts s) := by
    unfold gts
    rw [fixG_iter]
    exact iter_less s _ (Less.refl top_nonneg)
  have h1 := h.2 p
  have h2 : top[p]?.getD 0 ≤ 1050 := by
    unfold top
    rw [List.getElem?_replicate]
    split <;> simp
  unfold gateOf
  omega
theorem hasWay_lt (s : Sd) (p : Nat) : hasWayB s p = decide (gateOf s p < 1050) := by
  have hg := gts_le s p
  unfold gateOf at hg ⊢
  unfold hasWayB
  generalize (gts s)[p]?.getD 0 = g at *
  by_cases h : g = 1050
  · subst h; rfl
  · rw [decide_eq_true (show g < 1050 by omega), bne_iff_ne]; exact h

section
variable {s t : Sd}
theorem errFor_in (ok : Ok s) {x : Int} (h : 0 ≤ x ∧ x < s.floors.length) : errFor s x = 0 := by
  unfold errFor
  rw [if_pos (chk_zero ok)]
  have : isPl s x = true := inB_true.2 (by omega)
  rw [this]; rfl
theorem errGate_in (ok : Ok s) {x : Int} (h : 0 ≤ x ∧ x < s.floors.length) : errGate s x = if gateOf s x.toNat < 1050 then 0 else 6 := by
  unfold errGate
  rw [if_pos (errFor_in ok h), hasWay_lt]
  by_cases h : gateOf s x.toNat < 1050 <;> simp [h]
theorem gateV_in (ok : Ok s) {x : Int} (h : 0 ≤ x ∧ x < s.floors.length) : gateV s x = if gateOf s x.toNat < 1050 then gateOf s x.toNat else 0 := by
  unfold gateV
  rw [errGate_in ok h]
  by_cases h : gateOf s x.toNat < 1050 <;> simp [h]
/-- raised: the same errors, no lesser gates, no greater states -/
theorem hi_gate (ok : Ok s) (ok' : Ok t) (hF : HiF s.floors t.floors) (hS : HiS s.sills t.sills) {x : Int} (h : 0 ≤ x ∧ x < s.floors.length) : errGate t x = errGate s x ∧ gateV s x ≤ gateV t x := by
  have h' : 0 ≤ x ∧ x < t.floors.length := by rw [← hF.1]; exact h
  have k := (hi_gts hF hS).2 x.toNat
  rw [errGate_in ok h, errGate_in ok' h', gateV_in ok h, gateV_in ok' h']
  unfold gateOf at *
  by_cases c : (gts s)[x.toNat]?.getD 0 < 1050
  · have c' := k.2 c
    rw [if_pos c, if_pos c', if_pos c, if_pos c']
    exact ⟨rfl, k.1⟩
  · have c' : ¬ (gts t)[x.toNat]?.getD 0 < 1050 := by omega
    rw [if_neg c, if_neg c', if_neg c, if_neg c']
    exact ⟨rfl, Int.le_refl _⟩
theorem hi_st (hF : HiF s.floors t.floors) (hS : HiS s.sills t.sills) (hT : t.table = s.table) (hl : t.lo = s.lo) (hh : t.hi = s.hi) (m : Int) (p : Nat) : st t m p ≤ st s m p := by
  have k := (hi_gts hF hS).2 p
  unfold st gateOf
  rw [hT, hl, hh]
  repeat' split
  all_goals omega
theorem more_gate {e : List (Int × Int × Int)} (ok : Ok s) (ok' : Ok t) (hF : t.floors = s.floors) (hS : t.sills = s.sills ++ e) {x : Int} (h : 0 ≤ x ∧ x < s.floors.length) : errGate s x = 0 → errGate t x = 0 ∧ gateV t x ≤ gateV s x := by
  have h' : 0 ≤ x ∧ x < t.floors.length := by rw [hF]; exact h
  have k := (more_gts hF hS).2 x.toNat
  rw [errGate_in ok h, errGate_in ok' h', gateV_in ok h, gateV_in ok' h']
  unfold gateOf at *
  by_cases c : (gts s)[x.toNat]?.getD 0 < 1050
  · have c' : (gts t)[x.toNat]?.getD 0 < 1050 := by omega
    rw [if_pos c, if_pos c', if_pos c, if_pos c']
    exact fun _ => ⟨rfl, k⟩
  · rw [if_neg c]
    exact fun h => by cases h
theorem more_st {e : List (Int × Int × Int)} (hF : t.floors = s.floors) (hS : t.sills = s.sills ++ e) (hT : t.table = s.table) (hl : t.lo = s.lo) (hh : t.hi = s.hi) (m : Int) (p : Nat) : st s m p ≤ st t m p := by
  have k := (more_gts hF hS).2 p
  unfold st gateOf
  rw [hT, hl, hh]
  repeat' split
  all_goals omega
end
end
end Go.Proofs.YtknaajofcbenaaaGreat
namespace Go.Proofs.YtknaajofcbenaaaGreat
open Go.RowKit Go.Shelf

/-- where a copy lies: in blocks from n on -/
def Fresh (n : Nat) (s : Sd) (pT pF pS : Option Addr) : Prop :=
  (0 < s.table.length → ∀ b off, pT = some ⟨b, off, none⟩ → n ≤ b) ∧ (0 < s.floors.length → ∀ b off, pF = some ⟨b, off, none⟩ → n ≤ b) ∧ (0 < s.sills.length → ∀ b off, pS = some ⟨b, off, none⟩ → n ≤ b)

theorem ownsRow_up {w w' : World} {base k n : Nat} {E : TypeId} {v : Value} {xs : List Value} (h : w.ownsRow base E k v n xs) (u : Up w w') : w'.ownsRow base E k v n xs := by
  refine ⟨h.1, ?_⟩
  rcases h.2 with h0 | ⟨g, cap, cur, h1, h2, h3, h4⟩
  · exact .inl h0
  · exact .inr ⟨g, cap, cur, h1, h2, (u.block g (Array.getElem?_eq_some_iff.1 h3).1).trans h3, h4⟩
theorem ownsRow_base {w : World} {base base' k n : Nat} {E : TypeId} {v : Value} {xs : List Value} (h : w.ownsRow base E k v n xs) (hb : base' ≤ base) : w.ownsRow base' E k v n xs := by
  refine ⟨h.1, ?_⟩
  rcases h.2 with h0 | ⟨g, cap, cur, h1, h2, h3⟩
  · exact .inl h0
  · exact .inr ⟨g, cap, cur, h1, Nat.le_trans hb h2, h3⟩
theorem ownsRow_away {w : World} {base k n : Nat} {E : TypeId} {v : Value} {xs : List Value} (h : w.ownsRow base E k v n xs) {a : Addr} (ha : a.block < base) (x : Value) : (w.setCell a x).ownsRow base E k v n xs := by
  refine ⟨h.1, ?_⟩
  rcases h.2 with h0 | ⟨g, cap, cur, h1, h2, h3, h4⟩
  · exact .inl h0
  · exact .inr ⟨g, cap, cur, h1, h2, (Below.heap_setCell _ _ _ _ (by omega)).trans h3, h4⟩

/-- sands whose lists are rows of their own, in blocks from n₀ on -/
structure Mine (w : World) (n₀ : Nat) (s : Sd) (pT pF pS : Option Addr) (cT cF cS : Nat) : Prop where
  ot : w.ownsRow n₀ 78 2 (.slice pT s.table.length cT) s.table.length (pairs s.table).flatten
  of : w.ownsRow n₀ 3 1 (.slice pF s.floors.length cF) s.floors.length (ints s.floors).flatten
  os : w.ownsRow n₀ 80 3 (.slice pS s.sills.length cS) s.sills.length (triples s.sills).flatten
theorem Mine.away {w : World} {n₀ : Nat} {s : Sd} {pT pF pS : Option Addr} {cT cF cS : Nat} (h : Mine w n₀ s pT pF pS cT cF cS) {a : Addr} (ha : a.block < n₀) (x : Value) : Mine (w.setCell a x) n₀ s pT pF pS cT cF cS :=
  ⟨ownsRow_away h.ot ha x, ownsRow_away h.of ha x, ownsRow_away h.os ha x⟩
theorem Mine.up {w w' : World} {n₀ : Nat} {s : Sd} {pT pF pS : Option Addr} {cT cF cS : Nat} (h : Mine w n₀ s pT pF pS cT cF cS) (u : Up w w') : Mine w' n₀ s pT pF pS cT cF cS :=
  ⟨ownsRow_up h.ot u, ownsRow_up h.of u, ownsRow_up h.os u⟩

section
variable {pT pF pS : Option Addr} {cT cF cS : Nat}
set_option maxRecDepth 100000 in
set_option maxHeartbeats 2000000 in
theorem own_o (s : Sd) (w : World) (hl : Lists w s pT pF pS cT cF cS) (b1 : s.table.length * 16 ≤ 140737488355328) (b2 : s.floors.length * 8 ≤ 140737488355328) (b3 : s.sills.length * 24 ≤ 140737488355328) :
    Calls Tryz.prog 8 #[sdVal s pT pF pS cT cF cS] w fun e w' => ∃ qT qF qS dT dF dS, e = .returned (sdVal s qT qF qS dT dF dS) ∧ Lists w' s qT qF qS dT dF dS ∧ Up w w' ∧ Fresh w.heap.size s qT qF qS ∧ Mine w' (w.heap.size + 2) s qT qF qS dT dF dS := by
  have D1 := Lib.hid (fun W (u : Up w W) => dupWater_o s.table pT cT W (hl.rt.up u) b1)
  have D2 := Lib.hid (fun W (u : Up w W) => dupInt_o s.floors pF cF W (hl.rf.up u) b2)
  have D3 := Lib.hid (fun W (u : Up w W) => dupSill_o s.sills pS cS W (hl.rs.up u) b3)
  clear hl b1 b2 b3
  unfold sdVal
  go_enter Tryz.func8, Tryz.ntmps8
  go_wp2
  refine Code.wp_world ?_
  intro w0 hw0
  have u0 : Up w w0 := by rw [hw0]; (repeat (first | exact Below.refl _ _ | (with_reducible refine Below.drewN' ?_ _) | (with_reducible refine Below.drew ?_) | (with_reducible refine Below.setCell ?_ (by first | exact Nat.le_refl _ | omega | (with_reducible (repeat (first | refine sz_alloc ?_ | refine sz_setCell ?_ | refine sz_drew ?_ | refine sz_drewN ?_)); first | exact Nat.le_refl _ | omega) | (simp only [World.size_alloc, World.size_setCell, World.size_drew, size_drewN']; omega)) _) | (with_reducible refine Below.alloc ?_ (by first | exact Nat.le_refl _ | omega | (with_reducible (repeat (first | refine sz_alloc ?_ | refine sz_setCell ?_ | refine sz_drew ?_ | refine sz_drewN ?_)); first | exact Nat.le_refl _ | omega) | (simp only [World.size_alloc, World.size_setCell, World.size_drew, size_drewN']; omega)) _) | assumption))
  have hB : Blk w0 w.heap.size (sdCells s pT pF pS cT cF cS) 28 := by rw [hw0]; exact (Blk.new w _ _).alloc _
  have hR : Blk w0 (w.heap.size + 1) [.slice none 0 0, .int .i64 0, .int .i64 0, .slice none 0 0, .slice none 0 0] 28 := by rw [hw0]; exact Blk.new' _ [.slice none 0 0, .int .i64 0, .int .i64 0, .slice none 0 0, .slice none 0 0] _ (by simp)
  clear hw0
  have c0 := hB.cell 0
  have c1 := hB.cell 1
  have c2 := hB.cell 2
  have c3 := hB.cell 3
  have c4 := hB.cell 4
  simp only [sdCells, List.getElem?_cons_zero, List.getElem?_cons_succ] at c0 c1 c2 c3 c4
  refine region_tail (fun W' => W'.cell? ⟨w.heap.size, 0, none⟩ = some (.slice pT s.table.length cT) ∧ W'.cell? ⟨w.heap.size, 1, none⟩ = some (.int .i64 s.lo) ∧ W'.cell? ⟨w.heap.size, 2, none⟩ = some (.int .i64 s.hi) ∧ W'.cell? ⟨w.heap.size, 3, none⟩ = some (.slice pF s.floors.length cF) ∧ W'.cell? ⟨w.heap.size, 4, none⟩ = some (.slice pS s.sills.length cS) ∧ Up w0 W') 12 mixed (by kernel_rfl) ⟨c0, c1, c2, c3, c4, (Below.refl _ _).drew⟩ (fun hHeld => ?_)
  refine wpAnyG_take 0 3 (v := ?_) rfl rfl (by kernel_rfl) (fun _ _ _ h => h) (Or.inl ⟨by rfl, ?_⟩) (by assumption) ?_
  rotate_left
  · (intro w' hSw; (try dsimp only at hSw); go_split_ands; go_simp; try with_reducible rfl)
  try simp only [List.setIfInBounds_toArray, List.set_cons_zero, List.set_cons_succ]
  refine wpAnyG_take 1 4 (v := ?_) rfl rfl (by kernel_rfl) (fun _ _ _ h => h) (Or.inl ⟨by rfl, ?_⟩) (by assumption) ?_
  rotate_left
  · (intro w' hSw; (try dsimp only at hSw); go_split_ands; go_simp; try with_reducible rfl)
  try simp only [List.setIfInBounds_toArray, List.set_cons_zero, List.set_cons_succ]
  refine wpAnyG_take 3 6 (v := ?_) rfl rfl (by kernel_rfl) (fun _ _ _ h => h) (Or.inl ⟨by rfl, ?_⟩) (by assumption) ?_
  rotate_left
  · (intro w' hSw; (try dsimp only at hSw); go_split_ands; go_simp; try with_reducible rfl)
  try simp only [List.setIfInBounds_toArray, List.set_cons_zero, List.set_cons_succ]
  refine wpAnyG_take 4 7 (v := ?_) rfl rfl (by kernel_rfl) (fun _ _ _ h => h) (Or.inl ⟨by rfl, ?_⟩) (by assumption) ?_
  rotate_left
  · (intro w' hSw; (try dsimp only at hSw); go_split_ands; go_simp; try with_reducible rfl)
  try simp only [List.setIfInBounds_toArray, List.set_cons_zero, List.set_cons_succ]
  refine wpAnyG_take 5 8 (v := ?_) rfl rfl (by kernel_rfl) (fun _ _ _ h => h) (Or.inl ⟨by rfl, ?_⟩) (by assumption) ?_
  rotate_left
  · (intro w' hSw; (try dsimp only at hSw); go_split_ands; go_simp; try with_reducible rfl)
  try simp only [List.setIfInBounds_toArray, List.set_cons_zero, List.set_cons_succ]
  refine wpAnyG_take 6 9 (v := ?_) rfl rfl (by kernel_rfl) (fun _ _ _ h => h) (Or.inl ⟨by rfl, ?_⟩) (by assumption) ?_
  rotate_left
  · (intro w' hSw; (try dsimp only at hSw); go_split_ands; go_simp; try with_reducible rfl)
  try simp only [List.setIfInBounds_toArray, List.set_cons_zero, List.set_cons_succ]
  refine wpAnyG_take 8 11 (v := ?_) rfl rfl (by kernel_rfl) (fun _ _ _ h => h) (Or.inl ⟨by rfl, ?_⟩) (by assumption) ?_
  rotate_left
  · (intro w' hSw; (try dsimp only at hSw); go_split_ands; go_simp; try with_reducible rfl)
  try simp only [List.setIfInBounds_toArray, List.set_cons_zero, List.set_cons_succ]
  refine wpAnyG_take 9 12 (v := ?_) rfl rfl (by kernel_rfl) (fun _ _ _ h => h) (Or.inl ⟨by rfl, ?_⟩) (by assumption) ?_
  rotate_left
  · (intro w' hSw; (try dsimp only at hSw); go_split_ands; go_simp; try with_reducible rfl)
  try simp only [List.setIfInBounds_toArray, List.set_cons_zero, List.set_cons_succ]
  refine wpAnyG_do 2 rfl (by kernel_rfl) (fun K hK => ?_)
  rw [if_pos (by rfl)]
  go_simp
  refine (D1.out _ (Up.trans u0 ((Below.refl _ _).drew))).mono ?_
  rintro e w1 ⟨q1, d1, rfl, r1, r2, r3, r4, v1, ow1⟩
  have v1' : Up w0 w1 := Up.trans ((Below.refl _ _).drew) v1
  refine hK.out _ _ ⟨v1'.cellAt c0, v1'.cellAt c1, v1'.cellAt c2, v1'.cellAt c3, v1'.cellAt c4, v1'⟩ (fun hHeld => ?_)
  clear hK K
  refine wpAnyG_do 7 rfl (by kernel_rfl) (fun K hK => ?_)
  rw [if_pos (by rfl)]
  go_simp
  refine (D2.out _ (Up.trans u0 v1')).mono ?_
  rintro e w2 ⟨q2, d2, rfl, s1, s2, s3, s4, v2, ow2⟩
  have v2' : Up w0 w2 := Up.trans v1' v2
  refine hK.out _ _ ⟨v2'.cellAt c0, v2'.cellAt c1, v2'.cellAt c2, v2'.cellAt c3, v2'.cellAt c4, v2'⟩ (fun hHeld => ?_)
  clear hK K
  refine wpAnyG_do 10 rfl (by kernel_rfl) (fun K hK => ?_)
  rw [if_pos (by rfl)]
  go_simp
  refine (D3.out _ (Up.trans u0 v2')).mono ?_
  rintro e w3 ⟨q3, d3, rfl, t1, t2, t3, t4, v3, ow3⟩
  have v3' : Up w0 w3 := Up.trans v2' v3
  refine hK.out _ _ ⟨v3'.cellAt c0, v3'.cellAt c1, v3'.cellAt c2, v3'.cellAt c3, v3'.cellAt c4, v3'⟩ (fun hHeld => ?_)
  clear hK K
  refine wpAnyG_take 11 14 (v := ?_) rfl rfl (by kernel_rfl) (fun _ _ _ h => h) (Or.inl ⟨by rfl, ?_⟩) (by assumption) ?_
  rotate_left
  · (intro w' hSw; (try dsimp only at hSw); go_split_ands; go_simp; try with_reducible rfl)
  try simp only [List.setIfInBounds_toArray, List.set_cons_zero, List.set_cons_succ]
  have hR3 := hR.up v3'
  have HR := Lib.hid hR3
  have z0 := hR3.cell 0
  have z1 := hR3.cell 1
  have z2 := hR3.cell 2
  have z3 := hR3.cell 3
  have z4 := hR3.cell 4
  have fr := hR3.free
  have lR := hR3.lt
  simp only [List.getElem?_cons_zero, List.getElem?_cons_succ] at z0 z1 z2 z3 z4
  have HL : Hid (Lists w3 s q1 q2 q3 d1 d2 d3) := ⟨(r3.up v2).up v3, s3.up v3, t3, r1, s1, t1, r2, s2, t2⟩
  have HU := Lib.hid (Up.trans u0 v3')
  have lR0 := hR.lt
  have y1 := v1'.size
  have y2 := v2'.size
  have y0 := (show w0.heap.size ≤ w0.drew.heap.size from Nat.le_refl _)
  have N1 : Hid (∀ b off, q1 = some ⟨b, off, none⟩ → b ≠ w.heap.size + 1) := fun b off e => by have := r4 b off e; omega
  have N2 : Hid (∀ b off, q2 = some ⟨b, off, none⟩ → b ≠ w.heap.size + 1) := fun b off e => by have := s4 b off e; omega
  have N3 : Hid (∀ b off, q3 = some ⟨b, off, none⟩ → b ≠ w.heap.size + 1) := fun b off e => by have := t4 b off e; omega
  have HFr : Hid (Fresh w.heap.size s q1 q2 q3) := ⟨fun _ b off e => by have := r4 b off e; have := u0.size; omega, fun _ b off e => by have := s4 b off e; have := u0.size; omega, fun _ b off e => by have := t4 b off e; have := u0.size; omega⟩
  have hw02 : w.heap.size + 2 ≤ w0.heap.size := by have := hR.lt; omega
  have HMn : Hid (Mine w3 (w.heap.size + 2) s q1 q2 q3 d1 d2 d3) := ⟨ownsRow_up (ownsRow_up (ownsRow_base ow1 (by omega)) v2) v3, ownsRow_up (ownsRow_base ow2 (by omega)) v3, ownsRow_base ow3 (by omega)⟩
  clear ow1 ow2 ow3 hw02 r4 s4 t4 y0 y1 y2 lR0 hHeld D1 D2 D3 u0 v1 v2 v3 v1' v2' v3' r1 r2 r3 s1 s2 s3 t1 t2 t3 c0 c1 c2 c3 c4 hB hR hR3
  refine wpAnyG_tail (by kernel_rfl) ?_
  go_wp2
  have hB := ((((HR.out.set 0 (.slice q1 s.table.length d1)).set 1 (.int .i64 s.lo)).set 2 (.int .i64 s.hi)).set 3 (.slice q2 s.floors.length d2)).set 4 (.slice q3 s.sills.length d3)
  simp only [List.set_cons_zero, List.set_cons_succ] at hB
  have p0 := hB.cell 0
  have p1 := hB.cell 1
  have p2 := hB.cell 2
  have p3 := hB.cell 3
  have p4 := hB.cell 4
  simp only [List.getElem?_cons_zero, List.getElem?_cons_succ] at p0 p1 p2 p3 p4
  refine bodyPost_ret (v := .agg #[.slice q1 s.table.length d1, .int .i64 s.lo, .int .i64 s.hi, .slice q2 s.floors.length d2, .slice q3 s.sills.length d3]) (by simp [results, Tryz.f8, go_sem, p0, p1, p2, p3, p4]) rfl ⟨q1, q2, q3, d1, d2, d3, rfl, ?_, ?_, HFr.out, ?_⟩
  · have h := HL.out
    refine ⟨?_, ?_, ?_, h.ct, h.cf, h.cs, h.mt, h.mf, h.ms⟩
    · repeat (with_reducible refine Row.other ?_ N1.out _)
      exact h.rt
    · repeat (with_reducible refine Row.other ?_ N2.out _)
      exact h.rf
    · repeat (with_reducible refine Row.other ?_ N3.out _)
      exact h.rs
  · have h4 := HU.out
    repeat (first | (with_reducible exact h4) | (with_reducible refine Below.setCell ?_ (by simp only; omega) _))
  · have h5 := HMn.out
    repeat (first | (with_reducible exact h5) | (with_reducible refine Mine.away ?_ (by simp only; omega) _))

theorem own_c (s : Sd) (w : World) (hl : Lists w s pT pF pS cT cF cS) (b1 : s.table.length * 16 ≤ 140737488355328) (b2 : s.floors.length * 8 ≤ 140737488355328) (b3 : s.sills.length * 24 ≤ 140737488355328) :
    Calls Tryz.prog 8 #[sdVal s pT pF pS cT cF cS] w fun e w' => ∃ qT qF qS dT dF dS, e = .returned (sdVal s qT qF qS dT dF dS) ∧ Lists w' s qT qF qS dT dF dS ∧ Up w w' ∧ Fresh w.heap.size s qT qF qS :=
  (own_o s w hl b1 b2 b3).mono (by rintro e w' ⟨qT, qF, qS, dT, dF, dS, e1, e2, e3, e4, -⟩; exact ⟨qT, qF, qS, dT, dF, dS, e1, e2, e3, e4⟩)
end
end Go.Proofs.YtknaajofcbenaaaGreat
namespace Go.Proofs.YtknaajofcbenaaaGreat
open Go.RowKit Go.Shelf

def wideB (s : Sd) : Bool := decide (20 < s.table.length) || (decide (20 < s.floors.length) || decide (30 < s.sills.length))
section
variable {pT pF pS : Option Addr} {cT cF cS : Nat}
set_option maxRecDepth 100000 in
set_option maxHeartbeats 1000000 in
theorem wide_c (s : Sd) (w : World) : Calls Tryz.prog 6 #[sdVal s pT pF pS cT cF cS] w fun e w' => e = .returned (.bool (wideB s)) ∧ Up w w' := by
  have HB := Lib.hid (show wideB s = (decide (20 < s.table.length) || (decide (20 < s.floors.length) || decide (30 < s.sills.length))) by rfl)
  unfold sdVal
  go_enter Tryz.func6, Tryz.ntmps6
  by_cases h1 : 20 < s.table.length
  · have k1 : (20 : Int) < s.table.length := by omega
    go_wp2
    go_ret
    exact ⟨ret_bool (by rw [HB.out]; simp [h1]), by (repeat (first | exact Below.refl _ _ | (with_reducible refine Below.drewN' ?_ _) | (with_reducible refine Below.drew ?_) | (with_reducible refine Below.setCell ?_ (by first | exact Nat.le_refl _ | omega | (with_reducible (repeat (first | refine sz_alloc ?_ | refine sz_setCell ?_ | refine sz_drew ?_ | refine sz_drewN ?_)); first | exact Nat.le_refl _ | omega) | (simp only [World.size_alloc, World.size_setCell, World.size_drew, size_drewN']; omega)) _) | (with_reducible refine Below.alloc ?_ (by first | exact Nat.le_refl _ | omega | (with_reducible (repeat (first | refine sz_alloc ?_ | refine sz_setCell ?_ | refine sz_drew ?_ | refine sz_drewN ?_)); first | exact Nat.le_refl _ | omega) | (simp only [World.size_alloc, World.size_setCell, World.size_drew, size_drewN']; omega)) _) | assumption))⟩
  · have k1 : ¬ (20 : Int) < s.table.length := by omega
    by_cases h2 : 20 < s.floors.length
    · have k2 : (20 : Int) < s.floors.length := by omega
      go_wp2
      go_ret
      exact ⟨ret_bool (by rw [HB.out]; simp [h2]), by (repeat (first | exact Below.refl _ _ | (with_reducible refine Below.drewN' ?_ _) | (with_reducible refine Below.drew ?_) | (with_reducible refine Below.setCell ?_ (by first | exact Nat.le_refl _ | omega | (with_reducible (repeat (first | refine sz_alloc ?_ | refine sz_setCell ?_ | refine sz_drew ?_ | refine sz_drewN ?_)); first | exact Nat.le_refl _ | omega) | (simp only [World.size_alloc, World.size_setCell, World.size_drew, size_drewN']; omega)) _) | (with_reducible refine Below.alloc ?_ (by first | exact Nat.le_refl _ | omega | (with_reducible (repeat (first | refine sz_alloc ?_ | refine sz_setCell ?_ | refine sz_drew ?_ | refine sz_drewN ?_)); first | exact Nat.le_refl _ | omega) | (simp only [World.size_alloc, World.size_setCell, World.size_drew, size_drewN']; omega)) _) | assumption))⟩
    · have k2 : ¬ (20 : Int) < s.floors.length := by omega
      by_cases h3 : 30 < s.sills.length
      · have k3 : (30 : Int) < s.sills.length := by omega
        go_wp2
        go_ret
        exact ⟨ret_bool (by rw [HB.out]; simp [h3]), by (repeat (first | exact Below.refl _ _ | (with_reducible refine Below.drewN' ?_ _) | (with_reducible refine Below.drew ?_) | (with_reducible refine Below.setCell ?_ (by first | exact Nat.le_refl _ | omega | (with_reducible (repeat (first | refine sz_alloc ?_ | refine sz_setCell ?_ | refine sz_drew ?_ | refine sz_drewN ?_)); first | exact Nat.le_refl _ | omega) | (simp only [World.size_alloc, World.size_setCell, World.size_drew, size_drewN']; omega)) _) | (with_reducible refine Below.alloc ?_ (by first | exact Nat.le_refl _ | omega | (with_reducible (repeat (first | refine sz_alloc ?_ | refine sz_setCell ?_ | refine sz_drew ?_ | refine sz_drewN ?_)); first | exact Nat.le_refl _ | omega) | (simp only [World.size_alloc, World.size_setCell, World.size_drew, size_drewN']; omega)) _) | assumption))⟩
      · have k3 : ¬ (30 : Int) < s.sills.length := by omega
        go_wp2
        go_ret
        exact ⟨ret_bool (by rw [HB.out]; simp [h1, h2, h3]), by (repeat (first | exact Below.refl _ _ | (with_reducible refine Below.drewN' ?_ _) | (with_reducible refine Below.drew ?_) | (with_reducible refine Below.setCell ?_ (by first | exact Nat.le_refl _ | omega | (with_reducible (repeat (first | refine sz_alloc ?_ | refine sz_setCell ?_ | refine sz_drew ?_ | refine sz_drewN ?_)); first | exact Nat.le_refl _ | omega) | (simp only [World.size_alloc, World.size_setCell, World.size_drew, size_drewN']; omega)) _) | (with_reducible refine Below.alloc ?_ (by first | exact Nat.le_refl _ | omega | (with_reducible (repeat (first | refine sz_alloc ?_ | refine sz_setCell ?_ | refine sz_drew ?_ | refine sz_drewN ?_)); first | exact Nat.le_refl _ | omega) | (simp only [World.size_alloc, World.size_setCell, World.size_drew, size_drewN']; omega)) _) | assumption))⟩

variable {qT qF qS : Option Addr} {dT dF dS : Nat}
set_option maxRecDepth 100000 in
set_option maxHeartbeats 2000000 in
theorem same_c (s : Sd) (w : World) (h1 : Lists w s pT pF pS cT cF cS) (h2 : Lists w s qT qF qS dT dF dS) :
    Calls Tryz.prog 24 #[sdVal s pT pF pS cT cF cS, sdVal s qT qF qS dT dF dS] w fun e w' => e = .returned (.bool true) ∧ Up w w' := by
  have H1 := Lib.hid h1
  have H2 := Lib.hid h2
  have m1 := Nat.le_trans h1.ct h1.mt
  have m2 := Nat.le_trans h1.cf h1.mf
  have m3 := Nat.le_trans h1.cs h1.ms
  clear h1 h2
  unfold sdVal
  go_enter Tryz.func24, Tryz.ntmps24
  go_wp2_with fail
  refine Calls.world ?_
  intro w0 hw0
  have u0 : Up w w0 := by rw [hw0]; (repeat (first | exact Below.refl _ _ | (with_reducible refine Below.drewN' ?_ _) | (with_reducible refine Below.drew ?_) | (with_reducible refine Below.setCell ?_ (by first | exact Nat.le_refl _ | omega | (with_reducible (repeat (first | refine sz_alloc ?_ | refine sz_setCell ?_ | refine sz_drew ?_ | refine sz_drewN ?_)); first | exact Nat.le_refl _ | omega) | (simp only [World.size_alloc, World.size_setCell, World.size_drew, size_drewN']; omega)) _) | (with_reducible refine Below.alloc ?_ (by first | exact Nat.le_refl _ | omega | (with_reducible (repeat (first | refine sz_alloc ?_ | refine sz_setCell ?_ | refine sz_drew ?_ | refine sz_drewN ?_)); first | exact Nat.le_refl _ | omega) | (simp only [World.size_alloc, World.size_setCell, World.size_drew, size_drewN']; omega)) _) | assumption))
  have hA : Blk w0 w.heap.size (sdCells s pT pF pS cT cF cS) 28 := by rw [hw0]; exact (Blk.new w _ _).alloc _
  have hB : Blk w0 (w.heap.size + 1) (sdCells s qT qF qS dT dF dS) 28 := by rw [hw0]; exact Blk.new' _ (sdCells s qT qF qS dT dF dS) _ (by simp)
  clear hw0
  refine (eqWater_c s.table s.table _ _ _ _ w0 (H1.out.rt.up u0) (H2.out.rt.up u0) m1 m1).mono ?_
  rintro e w1 ⟨rfl, u1⟩
  rw [decide_eq_true (rfl : s.table = s.table)]
  have hA1 := hA.up u1
  have hB1 := hB.up u1
  have a1 := hA1.cell 1
  have a2 := hA1.cell 2
  have a3 := hA1.cell 3
  have b1 := hB1.cell 1
  have b2 := hB1.cell 2
  have b3 := hB1.cell 3
  simp only [sdCells, List.getElem?_cons_zero, List.getElem?_cons_succ] at a1 a2 a3 b1 b2 b3
  have U1 := Lib.hid (Up.trans u0 u1)
  have HA := Lib.hid hA1
  have HB := Lib.hid hB1
  clear hA hB hA1 hB1 u0 u1
  go_wp2_with fail
  refine (eqInt_c s.floors s.floors _ _ _ _ w1 (H1.out.rf.up U1.out) (H2.out.rf.up U1.out) m2 m2).mono ?_
  rintro e w2 ⟨rfl, u2⟩
  rw [decide_eq_true (rfl : s.floors = s.floors)]
  have a4 := (HA.out.up u2).cell 4
  have b4 := (HB.out.up u2).cell 4
  simp only [sdCells, List.getElem?_cons_zero, List.getElem?_cons_succ] at a4 b4
  have U2 := Lib.hid (Up.trans U1.out u2)
  clear u2 a1 a2 a3 b1 b2 b3
  go_wp2_with fail
  refine (eqSill_c s.sills s.sills _ _ _ _ w2 (H1.out.rs.up U2.out) (H2.out.rs.up U2.out) m3 m3).mono ?_
  rintro e w3 ⟨rfl, u3⟩
  rw [decide_eq_true (rfl : s.sills = s.sills)]
  have U3 := Lib.hid (Up.trans U2.out u3)
  clear u3 a4 b4
  go_wp2_with fail
  go_ret
  exact ⟨rfl, U3.out⟩
end
end Go.Proofs.YtknaajofcbenaaaGreat
/- The look that settles most: what the layer's search returns. -/
namespace Go.Proofs.YtknaajofcbenaaaGreat
open Go.RowKit Go.Shelf

def lkc (x : Lk) : List Value := [.int .i64 x.1, .int .i64 x.2.1, .bool x.2.2]
/-- none yet, or one that was wet -/
def AskOr (z : Lk × Int) : Prop := z.1 = (0, 0, false) ∨ z.1.2.2 = true
theorem askOne_or {s : Sd} {m : Int} {z : Lk × Int} {p : Nat} (h : AskOr z) : AskOr (askOne s m z p) := by
  unfold askOne
  split
  · exact .inr rfl
  · exact h
theorem askRow_or {s : Sd} {m : Int} {z : Lk × Int} (h : AskOr z) : ∀ k, AskOr (askRow s m z k)
  | 0 => h
  | k + 1 => askOne_or (askRow_or h k)
theorem askAll_or (s : Sd) : ∀ k, AskOr (askAll s k)
  | 0 => .inl rfl
  | k + 1 => askRow_or (askAll_or s k) _
theorem askMost_rng {s : Sd} (ok : Ok s) (m : Int) (p : Nat) : 0 ≤ askMost s m p ∧ askMost s m p ≤ 101 ∧ 0 ≤ siz (truV s (m, (p : Int), true)) ∧ siz (truV s (m, (p : Int), true)) ≤ 101 ∧ 0 ≤ siz (s.lo, s.hi) ∧ siz (s.lo, s.hi) ≤ 101 := by
  have h1 := siz_part ok m p
  have h2 := siz_wind ok
  have h3 := siz_nonneg (truV s (m, (p : Int), true))
  have h4 := siz_nonneg (truV s (m, (p : Int), false))
  have b0 := ok.lo0
  have b1 := ok.hi1
  unfold askMost
  omega
theorem askOne_rng {s : Sd} (ok : Ok s) {m : Int} {z : Lk × Int} {p : Nat} (h : 0 ≤ z.2 ∧ z.2 ≤ 101) : 0 ≤ (askOne s m z p).2 ∧ (askOne s m z p).2 ≤ 101 := by
  have := askMost_rng ok m p
  unfold askOne
  split
  · exact ⟨this.1, this.2.1⟩
  · exact h
theorem askRow_rng {s : Sd} (ok : Ok s) {m : Int} {z : Lk × Int} (h : 0 ≤ z.2 ∧ z.2 ≤ 101) : ∀ k, 0 ≤ (askRow s m z k).2 ∧ (askRow s m z k).2 ≤ 101
  | 0 => h
  | k + 1 => askOne_rng ok (askRow_rng ok h k)
theorem askAll_rng {s : Sd} (ok : Ok s) : ∀ k, 0 ≤ (askAll s k).2 ∧ (askAll s k).2 ≤ 101
  | 0 => by have := askMost_rng ok 0 0; exact ⟨this.2.2.2.2.1, this.2.2.2.2.2⟩
  | k + 1 => askRow_rng ok (askAll_rng ok k) _
section
variable {pT pF pS : Option Addr} {cT cF cS : Nat}
theorem size_t {a : Int × Int} (h : Near a) (w : World) : Calls Tryz.prog 74 #[.agg #[.int .i64 a.1, .int .i64 a.2]] w fun e w' => e = .returned (.int .i64 (siz a)) ∧ Up w w' := by
  obtain ⟨h1, h2, h3, h4⟩ := h
  exact size_c a.1 a.2 w (by omega) (by omega) (by omega) (by omega)
theorem wind_near {s : Sd} (ok : Ok s) : Near (s.lo, s.hi) := by have b0 := ok.lo0; have b1 := ok.hi1; have b2 := ok.lohi; exact ⟨by dsimp only; omega, by dsimp only; omega, by dsimp only; omega, by dsimp only; omega⟩

set_option maxRecDepth 100000 in
set_option maxHeartbeats 2000000 in
theorem ask_c (bw : Nat) (s : Sd) (w : World) (hw : IsWork w bw s pT pF pS cT cF cS) (ok : Ok s) :
    Calls Tryz.prog 120 #[.pointer (some ⟨bw, 0, none⟩)] w fun e w' => e = .returned (.tuple #[.agg #[.int .i64 (askAll s (dayN s)).1.1, .int .i64 (askAll s (dayN s)).1.2.1, .bool (askAll s (dayN s)).1.2.2], .int .i64 (askAll s (dayN s)).2]) ∧ Up w w' := by
  obtain ⟨hf0, hfl, hl9⟩ := firstM_lt ok.table
  obtain ⟨-, -, ht2, ht12⟩ := ok.table
  have hn : ((dayN s : Nat) : Int) = lastM s.table - firstM s.table + 1 := by unfold dayN; omega
  have hn9 : dayN s ≤ 1441 := by omega
  have s1 : IntKind.i64.wrap (lastM s.table - firstM s.table) = lastM s.table - firstM s.table := IntWalk.i64_in _ (by omega)
  have s2 : IntKind.i64.wrap (lastM s.table - firstM s.table + 1) = (dayN s : Nat) := by rw [IntWalk.i64_in _ (by omega)]; omega
  have hf8 := ok.fl1
  have HFI := Lib.hid (fun W (u : Up w W) => first_c bw s W (hw.sands.up u) ht2)
  have HLA := Lib.hid (fun W (u : Up w W) => last_c bw s W (hw.sands.up u) ht2 ht12)
  have HTR := Lib.hid (fun m (p : Nat) W (u : Up w W) (hm : firstM s.table ≤ m) (hp : p < 8) => truths_c bw s m p true W (hw.up u) ok hm hp)
  have hsz0 := fun W => size_t (w := W) (wind_near ok)
  obtain ⟨al, hal⟩ : ∃ al, siz (s.lo, s.hi) = al := ⟨_, rfl⟩
  rw [hal] at hsz0
  have HSZ := Lib.hid hsz0
  have HAL := Lib.hid hal
  clear hsz0 hal
  have OK := Lib.hid ok
  have q1 := hw.sands.s1
  have q2 := hw.sands.s2
  have q3 := hw.sands.s3
  have lb := cell_lt q1
  clear hw ok
  go_enter Tryz.func120, Tryz.ntmps120
  go_wp2_with fail
  refine Calls.world ?_
  intro w0 hw0
  have u0 : Up w w0 := by rw [hw0]; (repeat (first | exact Below.refl _ _ | (with_reducible refine Below.drewN' ?_ _) | (with_reducible refine Below.drew ?_) | (with_reducible refine Below.setCell ?_ (by first | exact Nat.le_refl _ | omega | (with_reducible (repeat (first | refine sz_alloc ?_ | refine sz_setCell ?_ | refine sz_drew ?_ | refine sz_drewN ?_)); first | exact Nat.le_refl _ | omega) | (simp only [World.size_alloc, World.size_setCell, World.size_drew, size_drewN']; omega)) _) | (with_reducible refine Below.alloc ?_ (by first | exact Nat.le_refl _ | omega | (with_reducible (repeat (first | refine sz_alloc ?_ | refine sz_setCell ?_ | refine sz_drew ?_ | refine sz_drewN ?_)); first | exact Nat.le_refl _ | omega) | (simp only [World.size_alloc, World.size_setCell, World.size_drew, size_drewN']; omega)) _) | assumption))
  have hR : Blk w0 w.heap.size [.int .i64 0, .int .i64 0, .bool false] 62 := by rw [hw0]; exact Blk.new _ _ _
  clear hw0
  refine (HSZ.out w0).mono ?_
  rintro e w1 ⟨rfl, u1⟩
  have U1 := Lib.hid (Up.trans u0 u1)
  have R1 := Lib.hid (hR.up u1)
  have lR := R1.out.lt
  clear u0 u1 hR
  go_wp2_with fail
  refine Calls.world ?_
  intro w2 hw2
  have u2 : Up w1 w2 := by rw [hw2]; (repeat (first | exact Below.refl _ _ | (with_reducible refine Below.drewN' ?_ _) | (with_reducible refine Below.drew ?_) | (with_reducible refine Below.setCell ?_ (by first | exact Nat.le_refl _ | omega | (with_reducible (repeat (first | refine sz_alloc ?_ | refine sz_setCell ?_ | refine sz_drew ?_ | refine sz_drewN ?_)); first | exact Nat.le_refl _ | omega) | (simp only [World.size_alloc, World.size_setCell, World.size_drew, size_drewN']; omega)) _) | (with_reducible refine Below.alloc ?_ (by first | exact Nat.le_refl _ | omega | (with_reducible (repeat (first | refine sz_alloc ?_ | refine sz_setCell ?_ | refine sz_drew ?_ | refine sz_drewN ?_)); first | exact Nat.le_refl _ | omega) | (simp only [World.size_alloc, World.size_setCell, World.size_drew, size_drewN']; omega)) _) | assumption))
  have hB : Blk w2 w1.heap.size [.int .i64 0, .int .i64 0, .bool false] 62 := by rw [hw2]; exact Blk.new _ _ _
  clear hw2
  refine (HLA.out w2 (Up.trans U1.out u2)).mono ?_
  rintro e w3 ⟨rfl, u3⟩
  have U3 := Lib.hid (Up.trans U1.out (Up.trans u2 u3))
  have R3 := Lib.hid (R1.out.up (Up.trans u2 u3))
  have B3 := Lib.hid (hB.up u3)
  clear u2 u3 hB U1 R1
  go_wp2_with fail
  refine (HFI.out w3 U3.out).mono ?_
  rintro e w4 ⟨rfl, u4⟩
  have U4 := Lib.hid (Up.trans U3.out u4)
  have R4 := Lib.hid (R3.out.up u4)
  have B4 := Lib.hid (B3.out.up u4)
  clear u4 U3 R3 B3
  obtain ⟨Bb, hBb⟩ : ∃ Bb, w1.heap.size = Bb := ⟨_, rfl⟩
  rw [hBb] at B4 lR ⊢
  clear hBb w1
  go_wp2_with fail
  rw [← hn]
  obtain ⟨n, hnn⟩ : ∃ n, dayN s = n := ⟨_, rfl⟩
  obtain ⟨a, ha⟩ : ∃ a, firstM s.table = a := ⟨_, rfl⟩
  rw [hnn] at hn hn9
  rw [ha] at hn hf0 hfl HFI HTR
  have HQ := Lib.hid (show lastM s.table = a + n - 1 by omega)
  have HL9 := Lib.hid hl9
  have HA := Lib.hid ha
  have HN := Lib.hid hnn
  simp only [hnn]
  clear s1 s2 hn hnn ha hfl hl9
  go_loopw [25, 6] (fun i f wr => ∃ k : Nat, k ≤ n ∧ i = .int .i64 k ∧ f = .int .i64 (askAll s k).2 ∧ Blk wr Bb (lkc (askAll s k).1) 62 ∧ Blk wr w.heap.size [.int .i64 0, .int .i64 0, .bool false] 62 ∧ Up w wr) (fun i _ _ => n - (intOf i).toNat)
  case atStart => exact ⟨0, Nat.zero_le _, rfl, by rw [← HAL.out]; rfl, B4.out, R4.out, U4.out⟩
  case round =>
    obtain ⟨k, hk, rfl, rfl, hb, hr, hu⟩ := hrel
    have HB := Lib.hid hb
    have HR := Lib.hid hr
    have HU := Lib.hid hu
    have q3' := hu.cellAt q3
    have lb' := cell_lt q3'
    clear hb hr hu
    by_cases hlt : k < n
    · have k1 : (k : Int) < n := by omega
      have b1 : a + k ≤ 1441 := by have := HL9.out; have := HQ.out; omega
      have hz := askAll_or s k
      have hzr := askAll_rng OK.out k
      have HE := Lib.hid (show askAll s (k + 1) = askRow s (a + k) (askAll s k) s.floors.length by rw [← HA.out]; rfl)
      generalize askAll s k = z at *
      have HZ := Lib.hid hz
      have HZR := Lib.hid hzr
      clear hz hzr
      go_wp2_with fail
      go_loopw [34, 6] (fun j f wy => ∃ p : Nat, p ≤ s.floors.length ∧ j = .int .i64 p ∧ f = .int .i64 (askRow s (a + k) z p).2 ∧ Blk wy Bb (lkc (askRow s (a + k) z p).1) 62 ∧ Blk wy w.heap.size [.int .i64 0, .int .i64 0, .bool false] 62 ∧ Up w wy) (fun j _ _ => s.floors.length - (intOf j).toNat)
      case atStart => exact ⟨0, Nat.zero_le _, rfl, rfl, HB.out, HR.out, HU.out⟩
      case round =>
        obtain ⟨p, hp, rfl, rfl, hb, hr, hu⟩ := hrel
        have Hb := Lib.hid hb
        have Hr := Lib.hid hr
        have Hu := Lib.hid hu
        clear hb hr hu
        by_cases hlp : p < s.floors.length
        · have p1 : (p : Int) < s.floors.length := by omega
          have hz := askRow_or (s := s) (m := a + k) HZ.out p
          have hzr := askRow_rng OK.out (m := a + k) HZR.out p
          have HE2 := Lib.hid (show askRow s (a + k) z (p + 1) = askOne s (a + k) (askRow s (a + k) z p) p from rfl)
          generalize askRow s (a + k) z p = y at *
          obtain ⟨⟨ym, yp, yw⟩, yn⟩ := y
          dsimp only at hzr
          have HY := Lib.hid hz
          have mr := askMost_rng OK.out (a + k) p
          rw [HAL.out] at mr
          have NT := Lib.hid (truV_near OK.out (a + k, (p : Int), true) (by rw [HA.out]; show a ≤ a + (k : Int); omega))
          have MS := Lib.hid (show askMost s (a + k) p = max (siz (truV s (a + k, (p : Int), true))) (al - siz (truV s (a + k, (p : Int), true))) by rw [← HAL.out]; rfl)
          have HT := Lib.hid (fun W (u : Up w W) => HTR.out (a + k) p W u (by omega) (by omega))
          generalize truV s (a + k, (p : Int), true) = tv at *
          clear hz
          have s3 : IntKind.i64.wrap (a + k) = a + k := IntWalk.i64_in _ (by omega)
          go_wp2_with fail
          refine (HFI.out _ Hu.out).mono ?_
          rintro e w5 ⟨rfl, u5⟩
          have U5 := Lib.hid (Up.trans Hu.out u5)
          have R5 := Lib.hid (Hr.out.up u5)
          have B5 := Lib.hid (Hb.out.up u5)
          clear u5 Hu Hr Hb
          go_wp2_with fail
          refine Calls.world ?_
          intro w6 hw6
          have u6 : Up w5 w6 := by rw [hw6]; (repeat (first | exact Below.refl _ _ | (with_reducible refine Below.drewN' ?_ _) | (with_reducible refine Below.drew ?_) | (with_reducible refine Below.setCell ?_ (by first | exact Nat.le_refl _ | omega | (with_reducible (repeat (first | refine sz_alloc ?_ | refine sz_setCell ?_ | refine sz_drew ?_ | refine sz_drewN ?_)); first | exact Nat.le_refl _ | omega) | (simp only [World.size_alloc, World.size_setCell, World.size_drew, size_drewN']; omega)) _) | (with_reducible refine Below.alloc ?_ (by first | exact Nat.le_refl _ | omega | (with_reducible (repeat (first | refine sz_alloc ?_ | refine sz_setCell ?_ | refine sz_drew ?_ | refine sz_drewN ?_)); first | exact Nat.le_refl _ | omega) | (simp only [World.size_alloc, World.size_setCell, World.size_drew, size_drewN']; omega)) _) | assumption))
          have L6 : Blk w6 w5.heap.size [.int .i64 (a + k), .int .i64 p, .bool true] 62 := by rw [hw6]; exact Blk.new _ _ _
          clear hw6
          refine (HT.out w6 (Up.trans U5.out u6)).mono ?_
          rintro e w7 ⟨rfl, u7⟩
          go_wp2_with fail
          refine (size_t NT.out w7).mono ?_
          rintro e w8 ⟨rfl, u8⟩
          have L8 := Lib.hid (L6.up (Up.trans u7 u8))
          have U8 := Lib.hid (Up.trans U5.out (Up.trans u6 (Up.trans u7 u8)))
          have R8 := Lib.hid (R5.out.up (Up.trans u6 (Up.trans u7 u8)))
          have B8 := Lib.hid (B5.out.up (Up.trans u6 (Up.trans u7 u8)))
          have sz5 : w5.heap.size ≠ Bb := by have := B5.out.lt; omega
          clear u6 u7 u8 L6 U5 R5 B5 HT NT s3
          generalize siz tv = g at *
          obtain ⟨X, hX⟩ : ∃ X, w5.heap.size = X := ⟨_, rfl⟩
          rw [hX] at L8 sz5 ⊢
          clear hX w5 w6 w7
          have s4 : IntKind.i64.wrap (al - g) = al - g := IntWalk.i64_in _ (by omega)
          have x0 := L8.out.cell 0
          have x1 := L8.out.cell 1
          have x2 := L8.out.cell 2
          have y0 := B8.out.cell 0
          have y1 := B8.out.cell 1
          have y2 := B8.out.cell 2
          have yf := B8.out.free
          have yl := B8.out.lt
          simp only [lkc, List.getElem?_cons_zero, List.getElem?_cons_succ] at x0 x1 x2 y0 y1 y2
          by_cases hm : g < al - g
          · have MM := Lib.hid (show askMost s (a + k) p = al - g by rw [MS.out]; omega)
            rcases HY.out with hy | hy
            · simp only [Prod.mk.injEq] at hy
              obtain ⟨rfl, rfl, rfl⟩ := hy
              have HE3 := Lib.hid (show askRow s (a + k) z (p + 1) = ((a + k, (p : Int), true), al - g) by rw [HE2.out]; unfold askOne; rw [if_pos (.inl rfl), MM.out])
              go_wp2_with fail
              go_roundw
              case rel =>
                refine ⟨p + 1, by omega, by go_num, by rw [HE3.out], ?_, (R8.out.other (by simp only []; omega) _ |>.other (by simp only []; omega) _).other (by simp only []; omega) _, ((U8.out.setCell (by simp only []; omega) _).setCell (by simp only []; omega) _).setCell (by simp only []; omega) _⟩
                rw [HE3.out]
                have h := ((B8.out.set 0 (.int .i64 (a + k))).set 1 (.int .i64 p)).set 2 (.bool true)
                simpa only [lkc, List.set_cons_zero, List.set_cons_succ] using h
              case measure => simp [intOf]; omega
            · have hy' : yw = true := hy
              subst hy'
              by_cases hc : al - g < yn
              · have HE3 := Lib.hid (show askRow s (a + k) z (p + 1) = ((a + k, (p : Int), true), al - g) by rw [HE2.out]; unfold askOne; rw [MM.out, if_pos (.inr hc)])
                go_wp2_with fail
                go_roundw
                case rel =>
                  refine ⟨p + 1, by omega, by go_num, by rw [HE3.out], ?_, (R8.out.other (by simp only []; omega) _ |>.other (by simp only []; omega) _).other (by simp only []; omega) _, ((U8.out.setCell (by simp only []; omega) _).setCell (by simp only []; omega) _).setCell (by simp only []; omega) _⟩
                  rw [HE3.out]
                  have h := ((B8.out.set 0 (.int .i64 (a + k))).set 1 (.int .i64 p)).set 2 (.bool true)
                  simpa only [lkc, List.set_cons_zero, List.set_cons_succ] using h
                case measure => simp [intOf]; omega
              · have HE3 := Lib.hid (show askRow s (a + k) z (p + 1) = ((ym, yp, true), yn) by rw [HE2.out]; unfold askOne; rw [MM.out, if_neg (fun h => by rcases h with h | h <;> first | (exact hc h) | (exact absurd (congrArg (fun t => t.2.2) h) (by simp)))])
                go_wp2_with fail
                go_roundw
                case rel => exact ⟨p + 1, by omega, by go_num, by rw [HE3.out], by rw [HE3.out]; exact B8.out, R8.out, U8.out⟩
                case measure => simp [intOf]; omega
          · have MM := Lib.hid (show askMost s (a + k) p = g by rw [MS.out]; omega)
            rcases HY.out with hy | hy
            · simp only [Prod.mk.injEq] at hy
              obtain ⟨rfl, rfl, rfl⟩ := hy
              have HE3 := Lib.hid (show askRow s (a + k) z (p + 1) = ((a + k, (p : Int), true), g) by rw [HE2.out]; unfold askOne; rw [if_pos (.inl rfl), MM.out])
              go_wp2_with fail
              go_roundw
              case rel =>
                refine ⟨p + 1, by omega, by go_num, by rw [HE3.out], ?_, (R8.out.other (by simp only []; omega) _ |>.other (by simp only []; omega) _).other (by simp only []; omega) _, ((U8.out.setCell (by simp only []; omega) _).setCell (by simp only []; omega) _).setCell (by simp only []; omega) _⟩
                rw [HE3.out]
                have h := ((B8.out.set 0 (.int .i64 (a + k))).set 1 (.int .i64 p)).set 2 (.bool true)
                simpa only [lkc, List.set_cons_zero, List.set_cons_succ] using h
              case measure => simp [intOf]; omega
            · have hy' : yw = true := hy
              subst hy'
              by_cases hc : g < yn
              · have HE3 := Lib.hid (show askRow s (a + k) z (p + 1) = ((a + k, (p : Int), true), g) by rw [HE2.out]; unfold askOne; rw [MM.out, if_pos (.inr hc)])
                go_wp2_with fail
                go_roundw
                case rel =>
                  refine ⟨p + 1, by omega, by go_num, by rw [HE3.out], ?_, (R8.out.other (by simp only []; omega) _ |>.other (by simp only []; omega) _).other (by simp only []; omega) _, ((U8.out.setCell (by simp only []; omega) _).setCell (by simp only []; omega) _).setCell (by simp only []; omega) _⟩
                  rw [HE3.out]
                  have h := ((B8.out.set 0 (.int .i64 (a + k))).set 1 (.int .i64 p)).set 2 (.bool true)
                  simpa only [lkc, List.set_cons_zero, List.set_cons_succ] using h
                case measure => simp [intOf]; omega
              · have HE3 := Lib.hid (show askRow s (a + k) z (p + 1) = ((ym, yp, true), yn) by rw [HE2.out]; unfold askOne; rw [MM.out, if_neg (fun h => by rcases h with h | h <;> first | (exact hc h) | (exact absurd (congrArg (fun t => t.2.2) h) (by simp)))])
                go_wp2_with fail
                go_roundw
                case rel => exact ⟨p + 1, by omega, by go_num, by rw [HE3.out], by rw [HE3.out]; exact B8.out, R8.out, U8.out⟩
                case measure => simp [intOf]; omega
        · obtain rfl : p = s.floors.length := by omega
          go_wp2_with fail
          go_roundw
          case rel => exact ⟨k + 1, by omega, by go_num, by rw [HE.out], by rw [HE.out]; exact Hb.out, Hr.out, Hu.out⟩
          case measure => simp [intOf]; omega
    · obtain rfl : k = n := by omega
      have y0 := HB.out.cell 0
      have y1 := HB.out.cell 1
      have y2 := HB.out.cell 2
      have r0 := HR.out.cell 0
      have r1 := HR.out.cell 1
      have r2 := HR.out.cell 2
      have rf := HR.out.free
      have rl := HR.out.lt
      generalize hz : askAll s k = z at *
      obtain ⟨⟨zm, zp, zw⟩, zn⟩ := z
      have HZ0 := Lib.hid hz
      clear hz
      simp only [lkc, List.getElem?_cons_zero, List.getElem?_cons_succ] at y0 y1 y2 r0 r1 r2
      go_wp2_with fail
      have h := ((HR.out.set 0 (.int .i64 zm)).set 1 (.int .i64 zp)).set 2 (.bool zw)
      have p0 := h.cell 0
      have p1 := h.cell 1
      have p2 := h.cell 2
      simp only [List.set_cons_zero, List.set_cons_succ, List.getElem?_cons_zero, List.getElem?_cons_succ] at p0 p1 p2
      have pl := h.lt
      refine bodyPost_ret (v := .tuple #[.agg #[.int .i64 zm, .int .i64 zp, .bool zw], .int .i64 zn]) (by simp [results, Tryz.f120, go_sem, p0, p1, p2]) rfl ⟨by rw [HN.out, HZ0.out], ?_⟩
      exact ((HU.out.setCell (by simp only []; omega) _).setCell (by simp only []; omega) _).setCell (by simp only []; omega) _

set_option maxRecDepth 100000 in
set_option maxHeartbeats 1000000 in
theorem Ask_c (s : Sd) (w : World) (hl : Lists w s pT pF pS cT cF cS) :
    Calls Tryz.prog 88 #[sdVal s pT pF pS cT cF cS] w fun e w' => e = .returned (.tuple #[.agg #[.int .i64 (askV s).1.1, .int .i64 (askV s).1.2.1, .bool (askV s).1.2.2], .int .i64 (askV s).2, .int .i64 (askE s)]) ∧ Up w w' := by
  have HC := Lib.hid (fun W (u : Up w W) => begin_c s W pT pF pS cT cF cS (hl.up u))
  clear hl
  by_cases hc : chk s = 0
  · have OK := Lib.hid (chk_ok hc)
    have HE := Lib.hid (show askE s = if siz (s.lo, s.hi) = 1 then 6 else 0 by unfold askE; rw [if_pos hc])
    rw [hc] at HC
    clear hc
    unfold sdVal at *
    go_enter Tryz.func88, Tryz.ntmps88
    go_wp2_with fail
    refine Calls.world ?_
    intro w0 hw0
    have u0 : Up w w0 := by rw [hw0]; (repeat (first | exact Below.refl _ _ | (with_reducible refine Below.drewN' ?_ _) | (with_reducible refine Below.drew ?_) | (with_reducible refine Below.setCell ?_ (by first | exact Nat.le_refl _ | omega | (with_reducible (repeat (first | refine sz_alloc ?_ | refine sz_setCell ?_ | refine sz_drew ?_ | refine sz_drewN ?_)); first | exact Nat.le_refl _ | omega) | (simp only [World.size_alloc, World.size_setCell, World.size_drew, size_drewN']; omega)) _) | (with_reducible refine Below.alloc ?_ (by first | exact Nat.le_refl _ | omega | (with_reducible (repeat (first | refine sz_alloc ?_ | refine sz_setCell ?_ | refine sz_drew ?_ | refine sz_drewN ?_)); first | exact Nat.le_refl _ | omega) | (simp only [World.size_alloc, World.size_setCell, World.size_drew, size_drewN']; omega)) _) | assumption))
    have hR : Blk w0 (w.heap.size + 1) [.int .i64 0, .int .i64 0, .bool false] 62 := by rw [hw0]; exact Blk.new' _ [.int .i64 0, .int .i64 0, .bool false] _ (by simp)
    clear hw0
    refine (HC.out _ u0).mono ?_
    rintro e w1 ⟨p, rfl, u1, hok⟩
    obtain ⟨bw, rfl, hW⟩ := hok rfl
    have U1 := Lib.hid (Up.trans u0 u1)
    have HW := Lib.hid hW
    have HB := Lib.hid (hR.up u1)
    have d1 := hW.sands.s1
    have d2 := hW.sands.s2
    clear hok hW u1 u0 HC hR
    go_wp2_with fail
    refine (size_t (wind_near OK.out) _).mono ?_
    rintro e w2 ⟨rfl, u2⟩
    have U2 := Lib.hid (Up.trans U1.out u2)
    have HW2 := Lib.hid (HW.out.up u2)
    have hB := HB.out.up u2
    have q0 := hB.cell 0
    have q1 := hB.cell 1
    have q2 := hB.cell 2
    have fr := hB.free
    have lB := hB.lt
    simp only [List.getElem?_cons_zero, List.getElem?_cons_succ] at q0 q1 q2
    have HB2 := Lib.hid hB
    clear hB u2 d1 d2 HB HW U1
    by_cases h1 : siz (s.lo, s.hi) = 1
    · have HV := Lib.hid (show askV s = ((0, 0, false), 0) by unfold askV; rw [HE.out, if_pos h1, if_neg (by decide)])
      rw [if_pos h1] at HE
      go_wp2_with fail
      have h := ((HB2.out.set 0 (.int .i64 0)).set 1 (.int .i64 0)).set 2 (.bool false)
      have p0 := h.cell 0
      have p1 := h.cell 1
      have p2 := h.cell 2
      simp only [List.set_cons_zero, List.set_cons_succ, List.getElem?_cons_zero, List.getElem?_cons_succ] at p0 p1 p2
      refine bodyPost_ret (v := .tuple #[.agg #[.int .i64 0, .int .i64 0, .bool false], .int .i64 0, .int .i64 6]) (by simp [results, Tryz.f88, go_sem, p0, p1, p2]) rfl ⟨by rw [HV.out, HE.out], ?_⟩
      exact ((U2.out.setCell (by simp only []; omega) _).setCell (by simp only []; omega) _).setCell (by simp only []; omega) _
    · have HV := Lib.hid (show askV s = askAll s (dayN s) by unfold askV; rw [HE.out, if_neg h1, if_pos rfl])
      rw [if_neg h1] at HE
      have h1' : (siz (s.lo, s.hi) == 1) = false := by simpa using h1
      go_wp2_with fail
      refine (ask_c bw s _ HW2.out OK.out).mono ?_
      rintro e w3 ⟨rfl, u3⟩
      rw [← HV.out]
      generalize hz : askV s = z at *
      obtain ⟨⟨zm, zp, zw⟩, zn⟩ := z
      have U3 := Lib.hid (Up.trans U2.out u3)
      have hB := HB2.out.up u3
      have q0' := hB.cell 0
      have q1' := hB.cell 1
      have q2' := hB.cell 2
      have fr' := hB.free
      have lB' := hB.lt
      simp only [List.getElem?_cons_zero, List.getElem?_cons_succ] at q0' q1' q2'
      have HB3 := Lib.hid hB
      have HZ := Lib.hid hz
      clear hB u3 q0 q1 q2 fr HV hz
      go_wp2_with fail
      have h := (((HB3.out.set 0 (.int .i64 zm)).set 1 (.int .i64 zp)).set 2 (.bool zw)).alloc (.cells #[.int .i64 zm, .int .i64 zp, .bool zw] 62)
      have p0 := h.cell 0
      have p1 := h.cell 1
      have p2 := h.cell 2
      simp only [List.set_cons_zero, List.set_cons_succ, List.getElem?_cons_zero, List.getElem?_cons_succ] at p0 p1 p2
      refine bodyPost_ret (v := .tuple #[.agg #[.int .i64 zm, .int .i64 zp, .bool zw], .int .i64 zn, .int .i64 0]) (by simp [results, Tryz.f88, go_sem, p0, p1, p2]) rfl ⟨by rw [HE.out, HZ.out], ?_⟩
      have hU := U3.out
      (repeat (first | exact Below.refl _ _ | (with_reducible refine Below.drewN' ?_ _) | (with_reducible refine Below.drew ?_) | (with_reducible refine Below.setCell ?_ (by first | exact Nat.le_refl _ | omega | (with_reducible (repeat (first | refine sz_alloc ?_ | refine sz_setCell ?_ | refine sz_drew ?_ | refine sz_drewN ?_)); first | exact Nat.le_refl _ | omega) | (simp only []; omega)) _) | (with_reducible refine Below.alloc ?_ (by first | exact Nat.le_refl _ | omega | (with_reducible (repeat (first | refine sz_alloc ?_ | refine sz_setCell ?_ | refine sz_drew ?_ | refine sz_drewN ?_)); first | exact Nat.le_refl _ | omega) | (simp only []; omega)) _) | assumption))
  · have hne : (chk s != 0) = true := by rw [bne_iff_ne]; exact hc
    have HE := Lib.hid (show askE s = chk s by unfold askE; rw [if_neg hc])
    have HV := Lib.hid (show askV s = ((0, 0, false), 0) by unfold askV; rw [HE.out, if_neg hc])
    clear hc
    unfold sdVal at *
    go_enter Tryz.func88, Tryz.ntmps88
    go_wp2_with fail
    refine Calls.world ?_
    intro w0 hw0
    have u0 : Up w w0 := by rw [hw0]; (repeat (first | exact Below.refl _ _ | (with_reducible refine Below.drewN' ?_ _) | (with_reducible refine Below.drew ?_) | (with_reducible refine Below.setCell ?_ (by first | exact Nat.le_refl _ | omega | (with_reducible (repeat (first | refine sz_alloc ?_ | refine sz_setCell ?_ | refine sz_drew ?_ | refine sz_drewN ?_)); first | exact Nat.le_refl _ | omega) | (simp only [World.size_alloc, World.size_setCell, World.size_drew, size_drewN']; omega)) _) | (with_reducible refine Below.alloc ?_ (by first | exact Nat.le_refl _ | omega | (with_reducible (repeat (first | refine sz_alloc ?_ | refine sz_setCell ?_ | refine sz_drew ?_ | refine sz_drewN ?_)); first | exact Nat.le_refl _ | omega) | (simp only [World.size_alloc, World.size_setCell, World.size_drew, size_drewN']; omega)) _) | assumption))
    have hR : Blk w0 (w.heap.size + 1) [.int .i64 0, .int .i64 0, .bool false] 62 := by rw [hw0]; exact Blk.new' _ [.int .i64 0, .int .i64 0, .bool false] _ (by simp)
    clear hw0
    refine (HC.out _ u0).mono ?_
    rintro e w1 ⟨p, rfl, u1, -⟩
    have U1 := Lib.hid (Up.trans u0 u1)
    have hB := hR.up u1
    have q0 := hB.cell 0
    have q1 := hB.cell 1
    have q2 := hB.cell 2
    have fr := hB.free
    have lB := hB.lt
    simp only [List.getElem?_cons_zero, List.getElem?_cons_succ] at q0 q1 q2
    have HB := Lib.hid hB
    clear u1 u0 HC hR hB
    go_wp2_with fail
    have h := ((HB.out.set 0 (.int .i64 0)).set 1 (.int .i64 0)).set 2 (.bool false)
    have p0 := h.cell 0
    have p1 := h.cell 1
    have p2 := h.cell 2
    simp only [List.set_cons_zero, List.set_cons_succ, List.getElem?_cons_zero, List.getElem?_cons_succ] at p0 p1 p2
    refine bodyPost_ret (v := .tuple #[.agg #[.int .i64 0, .int .i64 0, .bool false], .int .i64 0, .int .i64 (chk s)]) (by simp [results, Tryz.f88, go_sem, p0, p1, p2]) rfl ⟨by rw [HV.out, HE.out], ?_⟩
    exact ((U1.out.setCell (by simp only []; omega) _).setCell (by simp only []; omega) _).setCell (by simp only []; omega) _
end
end Go.Proofs.YtknaajofcbenaaaGreat
/- Plain facts: the gates that the law finds by itself, letting the water rise from height to height, are the gates of the layer. -/
namespace Go.Proofs.YtknaajofcbenaaaGreat
section
open Go.RowKit

/-! what no sill lowers any more -/
theorem fixG_fix (s : Sd) : ∀ (n : Nat) (g : List Int), (∀ i : Nat, 0 ≤ g[i]?.getD 0) → g.sum < n → lowered s (fixG s n g) = fixG s n g
  | 0, g, h0, hs => by
    have := (sum_less g g (Less.refl h0)).2.2
    omega
  | n + 1, g, h0, hs => by
    unfold fixG
    split
    · assumption
    · next hne =>
      have hl := lowered_less s g h0
      have := (sum_less g (lowered s g) hl).2.1 hne
      exact fixG_fix s n (lowered s g) (fun i => (hl.2 i).1) (by omega)
theorem gts_fix (s : Sd) : lowered s (gts s) = gts s := fixG_fix s 9000 top top_nonneg (by decide)

theorem ap1_down : ∀ (l : List (Nat × Int)) (g : List Int) (i : Nat), i < g.length → (l.foldl ap1 g)[i]?.getD 0 ≤ g[i]?.getD 0
  | [], _, _, _ => Int.le_refl _
  | u :: r, g, i, hi => by
    refine Int.le_trans (ap1_down r (ap1 g u) i (by simp [ap1, hi])) ?_
    unfold ap1
    rw [List.getElem?_set]
    split
    · next h => subst h; rw [if_pos hi, Option.getD_some]; omega
    · exact Int.le_refl _
theorem ap2_down (f : Nat) : ∀ (l : List (Nat × Int)) (g : List Int) (i : Nat), i < g.length → (l.foldl (ap2 f) g)[i]?.getD 0 ≤ g[i]?.getD 0
  | [], _, _, _ => Int.le_refl _
  | u :: r, g, i, hi => by
    refine Int.le_trans (ap2_down f r (ap2 f g u) i (by simp [ap2, hi])) ?_
    unfold ap2
    rw [List.getElem?_set]
    split
    · next h => subst h; rw [if_pos hi, Option.getD_some]; omega
    · exact Int.le_refl _
theorem ap1_hit : ∀ (l : List (Nat × Int)) (g : List Int) (u : Nat × Int), u ∈ l → u.1 < g.length → (l.foldl ap1 g)[u.1]?.getD 0 ≤ u.2
  | v :: r, g, u, hu, hl => by
    have hl' : u.1 < (ap1 g v).length := by simp [ap1, hl]
    rcases List.mem_cons.1 hu with rfl | hu
    · refine Int.le_trans (ap1_down r _ u.1 hl') ?_
      unfold ap1
      rw [List.getElem?_set_self hl, Option.getD_some]
      omega
    · exact ap1_hit r _ u hu hl'
theorem ap2_hit (f : Nat) : ∀ (l : List (Nat × Int)) (g : List Int) (u : Nat × Int), u ∈ l → u.1 < g.length → f < g.length → (l.foldl (ap2 f) g)[u.1]?.getD 0 ≤ max (max 0 (g[f]?.getD 0)) u.2
  | v :: r, g, u, hu, hl, hf => by
    have hl' : u.1 < (ap2 f g v).length := by simp [ap2, hl]
    rcases List.mem_cons.1 hu with rfl | hu
    · refine Int.le_trans (ap2_down f r _ u.1 hl') ?_
      unfold ap2
      rw [List.getElem?_set_self hl, Option.getD_some, grt2]
      omega
    · have h1 := ap2_hit f r _ u hu hl' (by simp [ap2, hf])
      have h2 := ap2_down f [v] g f hf
      simp only [List.foldl_cons, List.foldl_nil] at h2
      show (r.foldl (ap2 f) (ap2 f g v))[u.1]?.getD 0 ≤ _
      omega
theorem low_len (s : Sd) (l : List Nat) (g : List Int) (h : g.length = 8) : (l.foldl (lowFrom s) g).length = 8 := lowFroms_len s l g h
theorem froms_down (s : Sd) : ∀ (l : List Nat) (g : List Int), g.length = 8 → ∀ i, i < 8 → (l.foldl (lowFrom s) g)[i]?.getD 0 ≤ g[i]?.getD 0
  | [], _, _, _, _ => Int.le_refl _
  | f :: r, g, hg, i, hi => by
    have hl : (lowFrom s g f).length = 8 := low2_len s f _ _ hg
    refine Int.le_trans (froms_down s r (lowFrom s g f) hl i hi) ?_
    rw [lowFrom_up]
    exact ap2_down f _ g i (by omega)
theorem froms_hit (s : Sd) : ∀ (l : List Nat) (g : List Int), g.length = 8 → ∀ f ∈ l, f < 8 → ∀ u ∈ s.sills.filterMap (up1 s.floors f), u.1 < 8 → (l.foldl (lowFrom s) g)[u.1]?.getD 0 ≤ max (max 0 (g[f]?.getD 0)) u.2
  | e :: r, g, hg, f, hf, h8, u, hu, hu8 => by
    have hl : (lowFrom s g e).length = 8 := low2_len s e _ _ hg
    rcases List.mem_cons.1 hf with rfl | hf
    · refine Int.le_trans (froms_down s r _ hl u.1 hu8) ?_
      rw [lowFrom_up]
      exact ap2_hit f _ g u hu (by omega) (by omega)
    · have h1 := froms_hit s r _ hl f hf h8 u hu hu8
      have h2 : (lowFrom s g e)[f]?.getD 0 ≤ g[f]?.getD 0 := by rw [lowFrom_up]; exact ap2_down e _ g f (by omega)
      show (r.foldl (lowFrom s) (lowFrom s g e))[u.1]?.getD 0 ≤ _
      omega
/-- what a sill joins: no gate is above what lets water over it -/
theorem gate_sea (s : Sd) (h8 : s.floors.length ≤ 8) (x : Int × Int × Int) (hx : x ∈ s.sills) (b : Nat) (hb : other x (-1) = b) (hbl : b < s.floors.length) : gateOf s b ≤ max (max 0 x.2.2) (s.floors[b]?.getD 0) := by
  have hu : (b, grt [x.2.2, s.floors[b]?.getD 0]) ∈ s.sills.filterMap (up1 s.floors (-1)) := by
    refine List.mem_filterMap.2 ⟨x, hx, ?_⟩
    unfold up1
    rw [hb, if_pos ⟨by omega, by simpa using hbl⟩]
    rfl
  have h0 : (lowSea s (gts s))[b]?.getD 0 ≤ max (max 0 x.2.2) (s.floors[b]?.getD 0) := by
    rw [lowSea_up]
    exact ap1_hit _ _ _ hu (by rw [gts_len]; exact Nat.lt_of_lt_of_le hbl h8)
  have h1 := froms_down s (List.range s.floors.length) (lowSea s (gts s)) (low1_len s _ _ (gts_len s)) b (by omega)
  have h2 := gts_fix s
  unfold lowered at h2
  rw [h2] at h1
  unfold gateOf
  omega
theorem gate_from (s : Sd) (h8 : s.floors.length ≤ 8) (x : Int × Int × Int) (hx : x ∈ s.sills) (f b : Nat) (hf : f < s.floors.length) (hb : other x f = b) (hbl : b < s.floors.length) : gateOf s b ≤ max (max 0 (gateOf s f)) (max (max 0 x.2.2) (s.floors[b]?.getD 0)) := by
  have hu : (b, grt [x.2.2, s.floors[b]?.getD 0]) ∈ s.sills.filterMap (up1 s.floors f) := by
    refine List.mem_filterMap.2 ⟨x, hx, ?_⟩
    unfold up1
    rw [hb, if_pos ⟨by omega, by simpa using hbl⟩]
    rfl
  have hs : (lowSea s (gts s)).length = 8 := low1_len s _ _ (gts_len s)
  have h1 := froms_hit s (List.range s.floors.length) (lowSea s (gts s)) hs f (List.mem_range.2 hf) (by omega) _ hu (by simp only; omega)
  have h3 : (lowSea s (gts s))[f]?.getD 0 ≤ (gts s)[f]?.getD 0 := by rw [lowSea_up]; exact ap1_down _ _ f (by rw [gts_len]; omega)
  have h2 := gts_fix s
  unfold lowered at h2
  rw [h2] at h1
  simp only [grt2] at h1
  unfold gateOf
  omega

/-! invariants of lowering, by its updates -/
theorem inv_iter (s : Sd) (_h8 : s.floors.length ≤ 8) (I : List Int → Prop)
    (sea : ∀ (g : List Int) (x : Int × Int × Int) (b : Nat), g.length = 8 → x ∈ s.sills → other x (-1) = b → b < s.floors.length → I g → I (g.set b (min (g[b]?.getD 0) (max (max 0 x.2.2) (s.floors[b]?.getD 0)))))
    (from' : ∀ (g : List Int) (x : Int × Int × Int) (f b : Nat), g.length = 8 → x ∈ s.sills → f < s.floors.length → other x f = b → b < s.floors.length → I g → I (g.set b (min (g[b]?.getD 0) (max (max 0 (g[f]?.getD 0)) (max (max 0 x.2.2) (s.floors[b]?.getD 0))))))
    (h0 : I top) : I (gts s) := by
  have up : ∀ (f : Int) (x : Int × Int × Int) (u : Nat × Int), up1 s.floors f x = some u → other x f = u.1 ∧ u.1 < s.floors.length ∧ u.2 = max (max 0 x.2.2) (s.floors[u.1]?.getD 0) := by
    intro f x u hu
    unfold up1 at hu
    split at hu
    · next hc =>
      cases hu
      exact ⟨by simp only; omega, hc.2, rfl⟩
    · cases hu
  have h1 : ∀ (l : List (Int × Int × Int)) (g : List Int), (∀ x ∈ l, x ∈ s.sills) → g.length = 8 → I g → I ((l.filterMap (up1 s.floors (-1))).foldl ap1 g) := by
    intro l
    induction l with
    | nil => exact fun g _ _ h => h
    | cons x r ih =>
      intro g hx hl hI
      cases hu : up1 s.floors (-1) x with
      | none => rw [List.filterMap_cons_none hu]; exact ih g (fun y hy => hx y (by simp [hy])) hl hI
      | some u =>
        rw [List.filterMap_cons_some hu]
        obtain ⟨e1, e2, e3⟩ := up _ _ _ hu
        refine ih (ap1 g u) (fun y hy => hx y (by simp [hy])) (by simp [ap1, hl]) ?_
        unfold ap1
        rw [e3]
        exact sea g x u.1 hl (hx x (by simp)) e1 e2 hI
  have h2 : ∀ (f : Nat), f < s.floors.length → ∀ (l : List (Int × Int × Int)) (g : List Int), (∀ x ∈ l, x ∈ s.sills) → g.length = 8 → I g → I ((l.filterMap (up1 s.floors f)).foldl (ap2 f) g) := by
    intro f hf l
    induction l with
    | nil => exact fun g _ _ h => h
    | cons x r ih =>
      intro g hx hl hI
      cases hu : up1 s.floors f x with
      | none => rw [List.filterMap_cons_none hu]; exact ih g (fun y hy => hx y (by simp [hy])) hl hI
      | some u =>
        rw [List.filterMap_cons_some hu]
        obtain ⟨e1, e2, e3⟩ := up _ _ _ hu
        refine ih (ap2 f g u) (fun y hy => hx y (by simp [hy])) (by simp [ap2, hl]) ?_
        unfold ap2
        rw [e3, grt2]
        exact from' g x f u.1 hl (hx x (by simp)) hf e1 e2 hI
  have h3 : ∀ (l : List Nat) (g : List Int), (∀ f ∈ l, f < s.floors.length) → g.length = 8 → I g → I (l.foldl (lowFrom s) g) := by
    intro l
    induction l with
    | nil => exact fun g _ _ h => h
    | cons f r ih =>
      intro g hf hl hI
      refine ih (lowFrom s g f) (fun y hy => hf y (by simp [hy])) (low2_len s f _ _ hl) ?_
      rw [lowFrom_up]
      exact h2 f (hf f (by simp)) _ _ (fun _ h => h) hl hI
  have h4 : ∀ n (g : List Int), g.length = 8 → I g → I (iterG s n g) := by
    intro n
    induction n with
    | zero => exact fun g _ h => h
    | succ n ih =>
      intro g hl hI
      refine ih _ (lowered_len s g hl) ?_
      unfold lowered
      refine h3 _ _ (fun f hf => List.mem_range.1 hf) (low1_len s _ _ hl) ?_
      rw [lowSea_up]
      exact h1 _ _ (fun _ h => h) hl hI
  unfold gts
  rw [fixG_iter]
  exact h4 _ _ rfl h0

theorem set_get (g : List Int) (b i : Nat) (v : Int) (hb : b < g.length) : (g.set b v)[i]?.getD 0 = if b = i then v else g[i]?.getD 0 := by
  rw [List.getElem?_set]
  split
  · next h => first | rfl | (subst h; rw [if_pos hb]; rfl) | (subst h; simp [hb])
  · rfl
/-- low heights, low gates -/
theorem gate_low (s : Sd) (h8 : s.floors.length ≤ 8) (hF : ∀ x ∈ s.floors, 0 ≤ x ∧ x ≤ 50) (hS : ∀ x ∈ s.sills, x.2.2 ≤ 50) (p : Nat) (hp : p < 8) : gateOf s p ≤ 50 ∨ gateOf s p = 1050 := by
  have fl : ∀ b : Nat, s.floors[b]?.getD 0 ≤ 50 := fun b => by
    by_cases hb : b < s.floors.length
    · rw [List.getElem?_eq_getElem hb]; exact (hF _ (List.getElem_mem hb)).2
    · rw [List.getElem?_eq_none (by omega)]; decide
  have := inv_iter s h8 (fun g => ∀ i, i < 8 → g[i]?.getD 0 ≤ 50 ∨ g[i]?.getD 0 = 1050)
    (fun g x b hl hx hb hbl hI i hi => by
      have h1 := hI i hi
      have h2 := hI b (by omega)
      have h3 := fl b
      have h4 := hS x hx
      rw [set_get g b i _ (by omega)]
      split
      · omega
      · exact h1)
    (fun g x f b hl hx hf hb hbl hI i hi => by
      have h1 := hI i hi
      have h2 := hI b (by omega)
      have h3 := fl b
      have h4 := hS x hx
      have h5 := hI f (by omega)
      rw [set_get g b i _ (by omega)]
      split
      · omega
      · exact h1)
    (fun i hi => Or.inr (by unfold top; rw [List.getElem?_replicate, if_pos hi]; rfl))
  exact this p hp

/-! the law's own way -/
def rel1 (F : List Int) (h : Int) (g : List Int) (y : Int × Int × Int) : List Int :=
  if y.2.2 ≤ h ∧ y.2.1 ≠ -1 ∧ F[y.2.1.toNat]?.getD 0 ≤ h ∧ (y.1 = -1 ∨ g[y.1.toNat]?.getD 0 ≤ h) then g.set y.2.1.toNat (min (g[y.2.1.toNat]?.getD 0) h) else g
def turned (x : Int × Int × Int) : Int × Int × Int := (x.2.1, x.1, x.2.2)
def rel2 (F : List Int) (h : Int) (g : List Int) (x : Int × Int × Int) : List Int := rel1 F h (rel1 F h g x) (turned x)
def pass (s : Sd) (h : Int) (g : List Int) : List Int := s.sills.foldl (rel2 s.floors h) g
def passes (s : Sd) (h : Int) : Nat → List Int → List Int
  | 0, g => g
  | n + 1, g => passes s h n (pass s h g)
def lvls (s : Sd) : Nat → List Int
  | 0 => List.replicate s.floors.length 1000000
  | k + 1 => passes s k s.floors.length (lvls s k)

section
variable {F : List Int} {h : Int}
theorem rel1_len (g : List Int) (y : Int × Int × Int) : (rel1 F h g y).length = g.length := by
  unfold rel1; split
  · simp
  · rfl
theorem rel2_len (g : List Int) (y : Int × Int × Int) : (rel2 F h g y).length = g.length := by unfold rel2; rw [rel1_len, rel1_len]
/-- how many are above -/
def oc (h : Int) (g : List Int) : Nat := g.countP (fun v => decide (h < v))
theorem oc_set (h : Int) : ∀ (g : List Int) (b : Nat), b < g.length → h < g[b]?.getD 0 → oc h (g.set b (min (g[b]?.getD 0) h)) + 1 = oc h g
  | v :: r, 0, _, hv => by
    have hv' : h < v := by simpa using hv
    show oc h (min v h :: r) + 1 = oc h (v :: r)
    unfold oc
    rw [List.countP_cons, List.countP_cons, if_neg (by simp only [decide_eq_true_eq]; omega), if_pos (by simpa using hv')]
  | v :: r, b + 1, hb, hv => by
    have ih := oc_set h r b (by simpa using hb) (by simpa using hv)
    have e : (v :: r)[b + 1]?.getD 0 = r[b]?.getD 0 := by simp
    rw [e]
    show oc h (v :: r.set b _) + 1 = _
    unfold oc at ih ⊢
    rw [List.countP_cons, List.countP_cons]
    omega
theorem set_same (g : List Int) (b : Nat) (hb : b < g.length) (h : Int) (hv : g[b]?.getD 0 ≤ h) : g.set b (min (g[b]?.getD 0) h) = g := by
  rw [Int.min_eq_left hv, List.getElem?_eq_getElem hb, Option.getD_some, List.set_getElem_self]
theorem rel1_or (g : List Int) (y : Int × Int × Int) (hy : y.2.1 ≠ -1 → 0 ≤ y.2.1 ∧ y.2.1 < g.length) : rel1 F h g y = g ∨ oc h (rel1 F h g y) < oc h g := by
  unfold rel1
  split
  · next hc =>
    have hb : y.2.1.toNat < g.length := by have := hy hc.2.1; omega
    by_cases hv : g[y.2.1.toNat]?.getD 0 ≤ h
    · exact Or.inl (set_same g _ hb h hv)
    · have := oc_set h g _ hb (by omega)
      exact Or.inr (by omega)
  · exact Or.inl rfl
end
section
variable {α : Type} {f : List Int → α → List Int} {h : Int} {n : Nat} {P : α → Prop}
theorem fold_or (hf : ∀ g x, g.length = n → P x → (f g x).length = n ∧ (f g x = g ∨ oc h (f g x) < oc h g)) : ∀ (l : List α) (g : List Int), g.length = n → (∀ x ∈ l, P x) →
    (l.foldl f g).length = n ∧ (l.foldl f g = g ∧ (∀ x ∈ l, f g x = g) ∨ oc h (l.foldl f g) < oc h g)
  | [], g, hg, _ => ⟨hg, Or.inl ⟨rfl, by simp⟩⟩
  | x :: r, g, hg, hp => by
    obtain ⟨h1, h2⟩ := hf g x hg (hp x (by simp))
    obtain ⟨h3, h4⟩ := fold_or hf r (f g x) h1 (fun y hy => hp y (by simp [hy]))
    refine ⟨h3, ?_⟩
    rw [List.foldl_cons]
    rcases h2 with h2 | h2
    · rcases h4 with ⟨h4, h5⟩ | h4
      · refine Or.inl ⟨by rw [h4, h2], fun y hy => ?_⟩
        rcases List.mem_cons.1 hy with rfl | hy
        · exact h2
        · have := h5 y hy
          rw [h2] at this; exact this
      · exact Or.inr (by rw [h2] at h4 ⊢; exact h4)
    · rcases h4 with ⟨h4, h5⟩ | h4
      · exact Or.inr (by rw [h4]; exact h2)
      · exact Or.inr (by omega)
end
section
variable {s : Sd} {h : Int}
/-- an end of a sill is a place, or the Sea -/
def EndOk (n : Nat) (y : Int × Int × Int) : Prop := (y.1 = -1 ∨ 0 ≤ y.1 ∧ y.1 < n) ∧ (y.2.1 = -1 ∨ 0 ≤ y.2.1 ∧ y.2.1 < n) ∧ y.1 ≠ y.2.1
theorem EndOk.turned {n : Nat} {y : Int × Int × Int} (hy : EndOk n y) : EndOk n (turned y) := ⟨hy.2.1, hy.1, Ne.symm hy.2.2⟩
theorem EndOk.of (ok : Ok s) {x : Int × Int × Int} (hx : x ∈ s.sills) : EndOk s.floors.length x := ⟨(ok.good x hx).1, (ok.good x hx).2, ok.two x hx⟩
theorem rel2_or (g : List Int) (y : Int × Int × Int) (n : Nat) (hg : g.length = n) (hy : EndOk n y) : (rel2 s.floors h g y).length = n ∧ (rel2 s.floors h g y = g ∧ rel1 s.floors h g y = g ∧ rel1 s.floors h g (turned y) = g ∨ oc h (rel2 s.floors h g y) < oc h g) := by
  refine ⟨by rw [rel2_len]; exact hg, ?_⟩
  have h1 := rel1_or (F := s.floors) (h := h) g y (fun hn => by rcases hy.2.1 with e | e; exact absurd e hn; omega)
  have h2 := rel1_or (F := s.floors) (h := h) (rel1 s.floors h g y) (turned y) (fun hn => by rw [rel1_len]; rcases hy.1 with e | e; exact absurd e hn; exact ⟨e.1, by rw [hg]; exact e.2⟩)
  unfold rel2
  rcases h1 with h1 | h1
  · rcases h2 with h2 | h2
    · rw [h1] at h2 ⊢
      exact Or.inl ⟨h2, rfl, h2⟩
    · rw [h1] at h2 ⊢; exact Or.inr h2
  · rcases h2 with h2 | h2
    · exact Or.inr (by rw [h2]; exact h1)
    · exact Or.inr (by omega)
theorem pass_or (ok : Ok s) (g : List Int) (hg : g.length = s.floors.length) : (pass s h g).length = s.floors.length ∧ (pass s h g = g ∧ (∀ x ∈ s.sills, rel1 s.floors h g x = g ∧ rel1 s.floors h g (turned x) = g) ∨ oc h (pass s h g) < oc h g) := by
  obtain ⟨h1, h2⟩ := fold_or (h := h) (n := s.floors.length) (P := EndOk s.floors.length) (f := rel2 s.floors h) (fun g x hg hx => by
    obtain ⟨k1, k2⟩ := rel2_or (s := s) (h := h) g x _ hg hx
    refine ⟨k1, ?_⟩
    rcases k2 with k2 | k2
    · exact Or.inl k2.1
    · exact Or.inr k2) s.sills g hg (fun x hx => EndOk.of ok hx)
  refine ⟨h1, ?_⟩
  rcases h2 with ⟨h2, h3⟩ | h2
  · refine Or.inl ⟨h2, fun x hx => ?_⟩
    rcases (rel2_or (s := s) (h := h) g x _ hg (EndOk.of ok hx)).2 with k | k
    · exact k.2
    · rw [h3 x hx] at k; omega
  · exact Or.inr h2
theorem passes_len (ok : Ok s) : ∀ n (g : List Int), g.length = s.floors.length → (passes s h n g).length = s.floors.length
  | 0, _, hg => hg
  | n + 1, g, hg => passes_len ok n _ (pass_or ok g hg).1
theorem passes_fix (ok : Ok s) : ∀ n (g : List Int), g.length = s.floors.length → pass s h g = g → passes s h n g = g
  | 0, _, _, _ => rfl
  | n + 1, g, hg, hp => by
    unfold passes
    rw [hp]
    exact passes_fix ok n g hg hp
theorem passes_shut (ok : Ok s) : ∀ n (g : List Int), g.length = s.floors.length → oc h g ≤ n → pass s h (passes s h n g) = passes s h n g
  | 0, g, hg, ho => by
    rcases (pass_or (h := h) ok g hg).2 with k | k
    · exact k.1
    · omega
  | n + 1, g, hg, ho => by
    obtain ⟨h1, k⟩ := pass_or (h := h) ok g hg
    unfold passes
    rcases k with k | k
    · rw [k.1, passes_fix ok n g hg k.1]; exact k.1
    · exact passes_shut ok n _ h1 (by omega)

/-- sound at a height: what is known is the gate, and what is below is known -/
def Snd (s : Sd) (h : Int) (g : List Int) : Prop := ∀ p, p < s.floors.length → (g[p]?.getD 0 = 1000000 ∨ g[p]?.getD 0 = gateOf s p ∧ gateOf s p ≤ h) ∧ (gateOf s p < h → g[p]?.getD 0 = gateOf s p)
theorem other_to (ok : Ok s) {x : Int × Int × Int} (hx : x ∈ s.sills) {a b : Int} (hb : b ≠ -1) (hab : (a, b) = (x.1, x.2.1) ∨ (a, b) = (x.2.1, x.1)) : other x a = b := by
  have := ok.two x hx
  unfold other
  rcases hab with e | e
  · cases e; simp
  · cases e
    have : (x.2.1 == x.1) = false := by rw [beq_eq_false_iff_ne]; omega
    simp [this]
theorem gate_step (ok : Ok s) {x : Int × Int × Int} (hx : x ∈ s.sills) {a b : Int} (hb : 0 ≤ b ∧ b < s.floors.length) (ha : a = -1 ∨ 0 ≤ a ∧ a < s.floors.length) (hab : (a, b) = (x.1, x.2.1) ∨ (a, b) = (x.2.1, x.1)) (h0 : 0 ≤ h) (hh : x.2.2 ≤ h) (hF : s.floors[b.toNat]?.getD 0 ≤ h) (hg : a = -1 ∨ gateOf s a.toNat ≤ h) : gateOf s b.toNat ≤ h := by
  have ho := other_to ok hx (by omega) hab
  have e : ((b.toNat : Nat) : Int) = b := by omega
  rcases hg with hg | hg
  · subst hg
    have := gate_sea s ok.fl1 x hx b.toNat (by rw [e]; exact ho) (by omega)
    omega
  · rcases ha with ha | ha
    · subst ha
      have := gate_sea s ok.fl1 x hx b.toNat (by rw [e]; exact ho) (by omega)
      omega
    · have e2 : ((a.toNat : Nat) : Int) = a := by omega
      have := gate_from s ok.fl1 x hx a.toNat b.toNat (by omega) (by rw [e, e2]; exact ho) (by omega)
      omega
theorem snd_rel1 (ok : Ok s) {x : Int × Int × Int} (hx : x ∈ s.sills) (h0 : 0 ≤ h) (h9 : h ≤ 999) {g : List Int} (hl : g.length = s.floors.length) (hs : Snd s h g) (y : Int × Int × Int) (hy : y = x ∨ y = turned x) : Snd s h (rel1 s.floors h g y) := by
  have he : EndOk s.floors.length y := by
    rcases hy with rfl | rfl
    · exact EndOk.of ok hx
    · exact (EndOk.of ok hx).turned
  have hab : (y.1, y.2.1) = (x.1, x.2.1) ∨ (y.1, y.2.1) = (x.2.1, x.1) := by rcases hy with rfl | rfl; exact Or.inl rfl; exact Or.inr rfl
  have hyh : y.2.2 = x.2.2 := by rcases hy with rfl | rfl <;> rfl
  unfold rel1
  split
  · next hc =>
    obtain ⟨c1, c2, c3, c4⟩ := hc
    have hb : 0 ≤ y.2.1 ∧ y.2.1 < s.floors.length := by rcases he.2.1 with e | e; exact absurd e c2; exact e
    have hgb : gateOf s y.2.1.toNat ≤ h := by
      refine gate_step ok hx hb he.1 hab h0 (by omega) c3 ?_
      rcases c4 with c4 | c4
      · exact Or.inl c4
      · rcases he.1 with e | e
        · exact Or.inl e
        · refine Or.inr ?_
          have := (hs y.1.toNat (by omega)).1
          omega
    intro p hp
    have k := hs p hp
    rw [set_get g _ p _ (by omega)]
    split
    · next e =>
      subst e
      omega
    · exact k
  · exact hs
theorem snd_fold (ok : Ok s) (h0 : 0 ≤ h) (h9 : h ≤ 999) : ∀ (l : List (Int × Int × Int)) (g : List Int), (∀ x ∈ l, x ∈ s.sills) → g.length = s.floors.length → Snd s h g → Snd s h (l.foldl (rel2 s.floors h) g)
  | [], _, _, _, hs => hs
  | x :: r, g, hx, hl, hs => by
    have hm := hx x (by simp)
    refine snd_fold ok h0 h9 r _ (fun y hy => hx y (by simp [hy])) (by rw [rel2_len]; exact hl) ?_
    unfold rel2
    exact snd_rel1 ok hm h0 h9 (by rw [rel1_len]; exact hl) (snd_rel1 ok hm h0 h9 hl hs x (Or.inl rfl)) _ (Or.inr rfl)
theorem snd_passes (ok : Ok s) (h0 : 0 ≤ h) (h9 : h ≤ 999) : ∀ n (g : List Int), g.length = s.floors.length → Snd s h g → Snd s h (passes s h n g)
  | 0, _, _, hs => hs
  | n + 1, g, hl, hs => snd_passes ok h0 h9 n _ (pass_or ok g hl).1 (snd_fold ok h0 h9 _ _ (fun _ h => h) hl hs)
/-- what no pass changes any more has all gates that are not above -/
theorem shut_all (ok : Ok s) (h9 : h ≤ 999) {g : List Int} (hl : g.length = s.floors.length) (hp : pass s h g = g) (p : Nat) (hpl : p < s.floors.length) (hg : gateOf s p ≤ h) : g[p]?.getD 0 ≤ h := by
  have hall : ∀ x ∈ s.sills, rel1 s.floors h g x = g ∧ rel1 s.floors h g (turned x) = g := by
    rcases (pass_or (h := h) ok g hl).2 with k | k
    · exact k.2
    · rw [hp] at k; omega
  have key : ∀ x ∈ s.sills, ∀ a b : Int, (a, b) = (x.1, x.2.1) ∨ (a, b) = (x.2.1, x.1) → 0 ≤ b ∧ b < s.floors.length → x.2.2 ≤ h → s.floors[b.toNat]?.getD 0 ≤ h → (a = -1 ∨ g[a.toNat]?.getD 0 ≤ h) → g[b.toNat]?.getD 0 ≤ h := by
    intro x hx a b hab hb h1 h2 h3
    have hb' : b.toNat < g.length := by omega
    have hr : rel1 s.floors h g (a, b, x.2.2) = g := by
      rcases hab with e | e
      · cases e; exact (hall x hx).1
      · cases e; exact (hall x hx).2
    unfold rel1 at hr
    rw [if_pos ⟨h1, by simp only; omega, h2, h3⟩] at hr
    have e1 := congrArg (fun l => l[b.toNat]?.getD 0) hr
    simp only at e1
    rw [set_get g _ _ _ hb', if_pos rfl] at e1
    omega
  refine Decidable.byContradiction fun hc => ?_
  have := inv_iter s ok.fl1 (fun a => ∀ i, i < s.floors.length → h < g[i]?.getD 0 → h < a[i]?.getD 0)
    (fun a x b hl8 hx hb hbl hI i hi hgi => by
      rw [set_get a b i _ (by have := ok.fl1; omega)]
      split
      · next e =>
        subst e
        have h1 := hI b hi hgi
        have hne : ¬ (x.2.2 ≤ h ∧ s.floors[b]?.getD 0 ≤ h) := fun hcc => by
          have ho : (-1, (b : Int)) = (x.1, x.2.1) ∨ (-1, (b : Int)) = (x.2.1, x.1) := by
            unfold other at hb
            by_cases e1 : (-1 : Int) = x.1
            · rw [show ((-1 : Int) == x.1) = true from beq_iff_eq.2 e1] at hb
              exact Or.inl (by rw [← e1]; simp at hb; rw [hb])
            · rw [show ((-1 : Int) == x.1) = false from beq_eq_false_iff_ne.2 e1] at hb
              by_cases e2 : (-1 : Int) = x.2.1
              · rw [show ((-1 : Int) == x.2.1) = true from beq_iff_eq.2 e2] at hb
                exact Or.inr (by rw [← e2]; simp at hb; rw [hb])
              · rw [show ((-1 : Int) == x.2.1) = false from beq_eq_false_iff_ne.2 e2] at hb
                simp at hb
          have := key x hx (-1) b ho (by omega) hcc.1 (by simpa using hcc.2) (Or.inl rfl)
          simp only [Int.toNat_natCast] at this
          omega
        omega
      · exact hI i hi hgi)
    (fun a x f b hl8 hx hf hb hbl hI i hi hgi => by
      rw [set_get a b i _ (by have := ok.fl1; omega)]
      split
      · next e =>
        subst e
        have h1 := hI b hi hgi
        by_cases hgf : h < g[f]?.getD 0
        · have := hI f hf hgf
          omega
        · have hne : ¬ (x.2.2 ≤ h ∧ s.floors[b]?.getD 0 ≤ h) := fun hcc => by
            have ho : ((f : Int), (b : Int)) = (x.1, x.2.1) ∨ ((f : Int), (b : Int)) = (x.2.1, x.1) := by
              unfold other at hb
              by_cases e1 : (f : Int) = x.1
              · rw [show ((f : Int) == x.1) = true from beq_iff_eq.2 e1] at hb
                exact Or.inl (by rw [← e1]; simp at hb; rw [hb])
              · rw [show ((f : Int) == x.1) = false from beq_eq_false_iff_ne.2 e1] at hb
                by_cases e2 : (f : Int) = x.2.1
                · rw [show ((f : Int) == x.2.1) = true from beq_iff_eq.2 e2] at hb
                  exact Or.inr (by rw [← e2]; simp at hb; rw [hb])
                · rw [show ((f : Int) == x.2.1) = false from beq_eq_false_iff_ne.2 e2] at hb
                  simp at hb
            have := key x hx f b ho (by omega) hcc.1 (by simpa using hcc.2) (Or.inr (by simp only [Int.toNat_natCast]; omega))
            simp only [Int.toNat_natCast] at this
            omega
          omega
      · exact hI i hi hgi)
    (fun i hi _ => by
      have := ok.fl1
      unfold top
      rw [List.getElem?_replicate, if_pos (by omega)]
      show h < 1050
      omega)
  have h1 := this p hpl (by omega)
  unfold gateOf at hg
  omega
theorem lvls_len (ok : Ok s) : ∀ k, (lvls s k).length = s.floors.length
  | 0 => by simp [lvls]
  | k + 1 => passes_len ok _ _ (lvls_len ok k)
theorem lvls_is (ok : Ok s) : ∀ (k : Nat), k ≤ 1000 → ∀ p, p < s.floors.length → (lvls s k)[p]?.getD 0 = if gateOf s p < k then gateOf s p else 1000000
  | 0, _, p, hp => by
    have := (gts_le s p).1
    rw [if_neg (by omega)]
    unfold lvls
    rw [List.getElem?_replicate, if_pos hp]
    rfl
  | k + 1, hk, p, hp => by
    have ih := lvls_is ok k (by omega)
    have hl := lvls_len ok k
    have hs : Snd s k (lvls s k) := fun q hq => by
      have e := ih q hq
      by_cases c : gateOf s q < k
      · rw [if_pos c] at e
        exact ⟨Or.inr ⟨e, by omega⟩, fun _ => e⟩
      · rw [if_neg c] at e
        exact ⟨Or.inl e, fun h => absurd h c⟩
    have h1 := snd_passes ok (h := (k : Int)) (by omega) (by omega) s.floors.length _ hl hs
    have h2 := passes_shut (h := (k : Int)) ok s.floors.length (lvls s k) hl (by rw [← hl]; exact List.countP_le_length)
    have hl2 := passes_len (h := (k : Int)) ok s.floors.length _ hl
    show (passes s k s.floors.length (lvls s k))[p]?.getD 0 = _
    have h3 := shut_all ok (h := (k : Int)) (by omega) hl2 h2 p hp
    have h4 := (h1 p hp).1
    by_cases c : gateOf s p < ((k + 1 : Nat) : Int)
    · rw [if_pos c]
      have := h3 (by omega)
      omega
    · rw [if_neg c]
      omega
/-- the gates that the law finds -/
theorem lvls_gates (ok : Ok s) (hF : ∀ x ∈ s.floors, 0 ≤ x ∧ x ≤ 50) (hS : ∀ x ∈ s.sills, x.2.2 ≤ 50) (p : Nat) (hp : p < s.floors.length) : (lvls s 62)[p]?.getD 0 = if gateOf s p < 1050 then gateOf s p else 1000000 := by
  rw [lvls_is ok 62 (by omega) p hp]
  have := gate_low s ok.fl1 hF hS p (by have := ok.fl1; omega)
  by_cases c : gateOf s p < 1050
  · rw [if_pos c, if_pos (by omega)]
  · rw [if_neg c, if_neg (by omega)]
end
end
end Go.Proofs.YtknaajofcbenaaaGreat
namespace Go.Proofs.YtknaajofcbenaaaGreat
open Go.RowKit Go.Shelf
set_option maxRecDepth 100000 in
theorem v_hold : holdV two 1 [] [1] = 220 ∧ errHold two 1 [] [1] = 0 := by constructor <;> kernel_rfl
theorem hold_two (pT pF pS : Option Addr) (cT cF cS : Nat) (p : Option Addr) (c : Nat) (w : World) (hl : Lists w two pT pF pS cT cF cS) (h : Row w p 1 (ints [1])) :
    Calls Tryz.prog 44 #[sdVal two pT pF pS cT cF cS, .int .i64 1, .slice none 0 0, .slice p 1 c] w fun e w' => e = .returned (.tuple #[.int .i64 220, .int .i64 0]) ∧ Up w w' := by
  have k := Hold_c two 1 [] [1] none p 0 c w hl (Row.nil _ _ _) h (by decide) (by decide)
  rwa [v_hold.1, v_hold.2] at k
end Go.Proofs.YtknaajofcbenaaaGreat
/- Rows that lie in a block of their own, from its first cell on: cells, and what a store changes. -/
namespace Go.Proofs.YtknaajofcbenaaaGreat
section
open Go.RowKit Go.Shelf

theorem flatten_set (k : Nat) : ∀ (rows : List (List Value)) (i j : Nat) (v : Value) (hi : i < rows.length), (∀ r ∈ rows, r.length = k) → j < k → rows.flatten.set (i * k + j) v = (rows.set i (rows[i].set j v)).flatten
  | a :: r, 0, j, v, _, hk, hj => by
    have ha := hk a (by simp)
    rw [Nat.zero_mul, Nat.zero_add, List.flatten_cons, List.set_append_left _ _ (by omega)]
    rfl
  | a :: r, i + 1, j, v, hi, hk, hj => by
    have ha := hk a (by simp)
    have hi' : i < r.length := by simpa using hi
    have ih := flatten_set k r i j v hi' (fun x hx => hk x (by simp [hx])) hj
    rw [List.flatten_cons, List.set_append_right _ _ (by rw [Nat.add_mul]; omega), show (i + 1) * k + j - a.length = i * k + j by rw [Nat.add_mul]; omega, ih]
    rfl
theorem flatten_len (k : Nat) : ∀ (rows : List (List Value)), (∀ r ∈ rows, r.length = k) → rows.flatten.length = rows.length * k
  | [], _ => by simp
  | a :: r, h => by
    rw [List.flatten_cons, List.length_append, flatten_len k r (fun x hx => h x (by simp [hx])), h a (by simp), List.length_cons, Nat.add_mul]
    omega

def RowBlk (w : World) (g : Nat) (T : TypeId) (k : Nat) (rows : List (List Value)) : Prop := (∀ r ∈ rows, r.length = k) ∧ ∃ cur : List Value, Blk w g cur T ∧ cur.take (rows.length * k) = rows.flatten
section
variable {w w' : World} {g k n₀ c : Nat} {T : TypeId} {p : Option Addr} {rows : List (List Value)}
theorem RowBlk.cell (h : RowBlk w g T k rows) {i j : Nat} {row : List Value} {x : Value} (hi : rows[i]? = some row) (hj : row[j]? = some x) : w.cell? ⟨g, i * k + j, none⟩ = some x := by
  obtain ⟨hk, cur, hb, ht⟩ := h
  have hil := (List.getElem?_eq_some_iff.1 hi).1
  have hr : row.length = k := hk row (List.mem_of_getElem? hi)
  have hjl : j < k := by have := (List.getElem?_eq_some_iff.1 hj).1; omega
  have hok : flatOk k rows = true := by unfold flatOk; simpa using hk
  have hf := flat_at k rows hok i row hi j x hj
  have hlt : i * k + j < rows.length * k := by
    have : (i + 1) * k ≤ rows.length * k := Nat.mul_le_mul_right _ (by omega)
    rw [Nat.add_mul] at this; omega
  rw [← ht, List.getElem?_take_of_lt hlt] at hf
  rw [hb.cell, hf]
theorem RowBlk.free (h : RowBlk w g T k rows) (i : Nat) : w.frozen? ⟨g, i, none⟩ = false := by
  obtain ⟨-, cur, hb, -⟩ := h
  exact hb.free i
theorem RowBlk.lt (h : RowBlk w g T k rows) : g < w.heap.size := by
  obtain ⟨-, cur, hb, -⟩ := h
  exact hb.lt
theorem RowBlk.row (h : RowBlk w g T k rows) : Row w (some ⟨g, 0, none⟩) k rows := fun i row hi => ⟨g, 0, rfl, fun j x hj => by rw [Nat.zero_add]; exact h.cell hi hj⟩
theorem RowBlk.up (h : RowBlk w g T k rows) (hu : Up w w') : RowBlk w' g T k rows := by
  obtain ⟨hk, cur, hb, ht⟩ := h
  exact ⟨hk, cur, hb.up hu, ht⟩
theorem RowBlk.other (h : RowBlk w g T k rows) {a : Addr} (ha : g ≠ a.block) (v : Value) : RowBlk (w.setCell a v) g T k rows := by
  obtain ⟨hk, cur, hb, ht⟩ := h
  exact ⟨hk, cur, hb.other ha v, ht⟩
theorem RowBlk.far {B n : Nat} (h : RowBlk w g T k rows) (hf : Far B n w w') (h1 : g < n) (h2 : g ≠ B) : RowBlk w' g T k rows := by
  obtain ⟨hk, cur, hb, ht⟩ := h
  exact ⟨hk, cur, hf.blk hb h1 h2, ht⟩
theorem RowBlk.set (h : RowBlk w g T k rows) {i j : Nat} (hi : i < rows.length) (hj : j < k) (v : Value) : RowBlk (w.setCell ⟨g, i * k + j, none⟩ v) g T k (rows.set i (rows[i].set j v)) := by
  obtain ⟨hk, cur, hb, ht⟩ := h
  refine ⟨fun r hr => ?_, _, hb.set _ _, ?_⟩
  · rcases List.mem_or_eq_of_mem_set hr with h1 | rfl
    · exact hk r h1
    · rw [List.length_set]; exact hk _ (List.getElem_mem _)
  · rw [List.length_set, ← flatten_set k rows i j v hi hk hj, ← ht, List.take_set]
theorem RowBlk.of (h : w.ownsRow n₀ T k (.slice p rows.length c) rows.length rows.flatten) (hk : ∀ r ∈ rows, r.length = k) (hl : 0 < rows.length) : ∃ g, p = some ⟨g, 0, none⟩ ∧ n₀ ≤ g ∧ RowBlk w g T k rows := by
  rcases h.2 with ⟨-, h0⟩ | ⟨g, cap, cur, h1, h2, h3, h4, h5, h6, h7⟩
  · omega
  · injection h1 with e1 e2 e3
    exact ⟨g, e1, h2, hk, cur.toList, h3, h7⟩
/-- rows of another type lie elsewhere -/
theorem RowBlk.ne {E : TypeId} {m n : Nat} {q : Option Addr} {xs : List Value} (h : RowBlk w g T k rows) (h' : w.ownsRow n₀ E m (.slice q n c) n xs) (hE : E ≠ T) : ∀ b off, q = some ⟨b, off, none⟩ → b ≠ g := by
  intro b off e hb
  obtain ⟨-, cur, hc, -⟩ := h
  rcases h'.2 with ⟨h1, -⟩ | ⟨g', cap, cur', h1, h2, h3, h4⟩
  · injection h1 with e1 e2 e3
    rw [e1] at e; cases e
  · injection h1 with e1 e2 e3
    rw [e1] at e
    simp only [Option.some.injEq, Addr.mk.injEq] at e
    have hg : g' = g := by omega
    rw [hg] at h3
    have h5 := h3.symm.trans hc
    simp only [Option.some.injEq, Obj.cells.injEq] at h5
    exact hE h5.2.1
theorem Blk.row {w : World} {B : Nat} {T : TypeId} (k : Nat) {rows : List (List Value)} (hk : ∀ r ∈ rows, r.length = k) (h : Blk w B rows.flatten T) : RowBlk w B T k rows :=
  ⟨hk, _, h, by rw [List.take_of_length_le (by rw [flatten_len k rows hk]; exact Nat.le_refl _)]⟩
/-- own rows lie below the heap's end -/
theorem ownsRow_lt {E : TypeId} {m n : Nat} {q : Option Addr} {xs : List Value} (h : w.ownsRow n₀ E m (.slice q n c) n xs) : ∀ b off, q = some ⟨b, off, none⟩ → n₀ ≤ b ∧ b < w.heap.size := by
  intro b off e
  rcases h.2 with ⟨h1, -⟩ | ⟨g', cap, cur', h1, h2, h3, h4⟩
  · injection h1 with e1 e2 e3
    rw [e1] at e; cases e
  · injection h1 with e1 e2 e3
    rw [e1] at e
    simp only [Option.some.injEq, Addr.mk.injEq] at e
    have hg : g' = b := by omega
    rw [hg] at h3 h2
    exact ⟨h2, (Array.getElem?_eq_some_iff.1 h3).1⟩
end
theorem triples_len (l : List (Int × Int × Int)) : ∀ r ∈ triples l, r.length = 3 := fun r hr => by
  simp only [triples, List.mem_map] at hr
  obtain ⟨x, -, rfl⟩ := hr; rfl
theorem pairs_len (l : List (Int × Int)) : ∀ r ∈ pairs l, r.length = 2 := fun r hr => by
  simp only [pairs, List.mem_map] at hr
  obtain ⟨x, -, rfl⟩ := hr; rfl
theorem ints_len (l : List Int) : ∀ r ∈ ints l, r.length = 1 := fun r hr => by
  simp only [ints, List.mem_map] at hr
  obtain ⟨x, -, rfl⟩ := hr; rfl
theorem triples_set (l : List (Int × Int × Int)) (i : Nat) (hi : i < l.length) (h : Int) : (triples l).set i (((triples l)[i]'(by simpa [triples] using hi)).set 2 (.int .i64 h)) = triples (l.set i (l[i].1, l[i].2.1, h)) := by
  unfold triples
  rw [List.map_set]
  simp
theorem ints_set (l : List Int) (i : Nat) (hi : i < l.length) (h : Int) : (ints l).set i (((ints l)[i]'(by simpa [ints] using hi)).set 0 (.int .i64 h)) = ints (l.set i h) := by
  unfold ints
  rw [List.map_set]
  simp
end
end Go.Proofs.YtknaajofcbenaaaGreat
/- Plain facts: until when a run of minutes lasts; places that are reached over the sills that may be taken; a place behind another one has no lesser gate. -/
namespace Go.Proofs.YtknaajofcbenaaaGreat
section
open Go.RowKit

theorem turnIn_append (l r : List (Int × Int)) (m : Int) : turnIn (l ++ r) m = (turnIn l m).or (turnIn r m) := by
  induction l with
  | nil => simp [turnIn]
  | cons x l ih =>
    rw [List.cons_append, turnIn_cons, turnIn_cons, ih]
    split <;> simp
theorem turnIn_past {l : List (Int × Int)} {m : Int} (h : ∀ x ∈ l, x.2 < m) : turnIn l m = none := by
  induction l with
  | nil => rfl
  | cons x l ih =>
    have := h x (by simp)
    rw [turnIn_cons, if_neg (by omega), ih (fun y hy => h y (by simp [hy]))]

/-- a run from a minute on ends at t -/
def RunTo (f : Int → Bool) (e m t : Int) : Prop := m ≤ t ∧ t < e ∧ (∀ x, m ≤ x → x ≤ t → f x = true) ∧ (t + 1 < e → f (t + 1) = false)
structure SpI (f : Int → Bool) (a : Int) (k : Nat) (st : List (Int × Int) × Int × Bool) : Prop where
  run : st.2.2 = true → a ≤ st.2.1 ∧ st.2.1 < a + k ∧ ∀ x, st.2.1 ≤ x → x < a + k → f x = true
  ends : ∀ x ∈ st.1, x.2 + 1 < a + k ∧ (st.2.2 = true → x.2 < st.2.1)
  some' : ∀ m t, a ≤ m → m < a + k → turnIn st.1 m = some t → m ≤ t ∧ t + 1 < a + k ∧ (∀ x, m ≤ x → x ≤ t → f x = true) ∧ f (t + 1) = false
  none' : ∀ m, a ≤ m → m < a + k → turnIn st.1 m = none → f m = true → st.2.2 = true ∧ st.2.1 ≤ m
theorem spI (f : Int → Bool) (a : Int) : ∀ k, SpI f a k (spSt f a k)
  | 0 => ⟨(by intro h; cases h), (by simp [spSt]), fun m t h1 h2 => (by omega), fun m h1 h2 => (by omega)⟩
  | k + 1 => by
    have h := spI f a k
    obtain ⟨h1, h2, h3, h4⟩ := h
    unfold spSt
    generalize spSt f a k = st at *
    obtain ⟨l, fr, o⟩ := st
    dsimp only at h1 h2 h3 h4 ⊢
    have past : turnIn l (a + k) = none := turnIn_past (fun x hx => by have := (h2 x hx).1; omega)
    by_cases hf : f (a + k) = true
    · rw [if_pos hf]
      cases o with
      | true =>
        obtain ⟨r1, r2, r3⟩ := h1 rfl
        rw [if_pos rfl]
        refine ⟨fun _ => ⟨r1, by show fr < a + ((k + 1 : Nat) : Int); omega, fun x x1 x2 => ?_⟩, fun x hx => ?_, fun m t m1 m2 ht => ?_, fun m m1 m2 ht hm => ?_⟩
        · by_cases hx : x = a + k
          · rw [hx]; exact hf
          · exact r3 x x1 (by omega)
        · have := h2 x hx
          exact ⟨by omega, this.2⟩
        · by_cases hm : m = a + k
          · rw [hm] at ht; rw [show turnIn l (a + k) = none from past] at ht; cases ht
          · obtain ⟨t1, t2, t3, t4⟩ := h3 m t m1 (by omega) ht
            exact ⟨t1, by omega, t3, t4⟩
        · by_cases hm' : m = a + k
          · exact ⟨rfl, by show fr ≤ m; omega⟩
          · exact h4 m m1 (by omega) ht hm
      | false =>
        rw [if_neg (by decide)]
        refine ⟨fun _ => ⟨by show a ≤ a + (k : Int); omega, by show a + (k : Int) < a + ((k + 1 : Nat) : Int); omega, fun x x1 x2 => ?_⟩, fun x hx => ?_, fun m t m1 m2 ht => ?_, fun m m1 m2 ht hm => ?_⟩
        · have x1' : a + (k : Int) ≤ x := x1
          rw [show x = a + k by omega]; exact hf
        · have := (h2 x hx).1
          exact ⟨by omega, fun _ => by show x.2 < a + (k : Int); omega⟩
        · by_cases hm : m = a + k
          · rw [hm] at ht; rw [show turnIn l (a + k) = none from past] at ht; cases ht
          · obtain ⟨t1, t2, t3, t4⟩ := h3 m t m1 (by omega) ht
            exact ⟨t1, by omega, t3, t4⟩
        · by_cases hm' : m = a + k
          · exact ⟨rfl, by show a + (k : Int) ≤ m; omega⟩
          · have := (h4 m m1 (by omega) ht hm).1; cases this
    · rw [if_neg hf]
      have hf' : f (a + k) = false := by simpa using hf
      cases o with
      | true =>
        obtain ⟨r1, r2, r3⟩ := h1 rfl
        rw [if_pos rfl]
        have one : ∀ m, turnIn [(fr, a + (k : Int) - 1)] m = if fr ≤ m ∧ m ≤ a + k - 1 then some (a + (k : Int) - 1) else none := fun m => by rw [turnIn_cons]; rfl
        refine ⟨(by intro h; cases h), fun x hx => ?_, fun m t m1 m2 ht => ?_, fun m m1 m2 ht hm => ?_⟩
        · refine ⟨?_, (by intro h; cases h)⟩
          rw [List.mem_append, List.mem_singleton] at hx
          rcases hx with hx | rfl
          · have := (h2 x hx).1; omega
          · show a + (k : Int) - 1 + 1 < _; omega
        · have ht' : (turnIn l m).or (turnIn [(fr, a + (k : Int) - 1)] m) = some t := by rw [← turnIn_append]; exact ht
          have hk1 : m ≠ a + k ∨ m = a + k := by omega
          rcases hk1 with hm | hm
          · cases hl : turnIn l m with
            | some t' =>
              rw [hl, Option.some_or] at ht'
              cases ht'
              obtain ⟨t1, t2, t3, t4⟩ := h3 m t m1 (by omega) hl
              exact ⟨t1, by omega, t3, t4⟩
            | none =>
              rw [hl, Option.none_or, one] at ht'
              split at ht'
              · next hc =>
                cases ht'
                refine ⟨hc.2, by omega, fun x x1 x2 => r3 x (by omega) (by omega), ?_⟩
                rw [show a + (k : Int) - 1 + 1 = a + k by omega]; exact hf'
              · cases ht'
          · rw [hm, past, Option.none_or, one, if_neg (by omega)] at ht'; cases ht'
        · have ht' : (turnIn l m).or (turnIn [(fr, a + (k : Int) - 1)] m) = none := by rw [← turnIn_append]; exact ht
          have hk1 : m ≠ a + k ∨ m = a + k := by omega
          rcases hk1 with hm' | hm'
          · cases hl : turnIn l m with
            | some t' => rw [hl, Option.some_or] at ht'; cases ht'
            | none =>
              rw [hl, Option.none_or, one] at ht'
              have := h4 m m1 (by omega) hl hm
              rw [if_pos (by omega)] at ht'; cases ht'
          · rw [hm', hf'] at hm; cases hm
      | false =>
        rw [if_neg (by decide)]
        refine ⟨(by intro h; cases h), fun x hx => ⟨?_, (by intro h; cases h)⟩, fun m t m1 m2 ht => ?_, fun m m1 m2 ht hm => ?_⟩
        · have := (h2 x hx).1; omega
        · by_cases hm : m = a + k
          · rw [hm] at ht; rw [show turnIn l (a + k) = none from past] at ht; cases ht
          · obtain ⟨t1, t2, t3, t4⟩ := h3 m t m1 (by omega) ht
            exact ⟨t1, by omega, t3, t4⟩
        · by_cases hm' : m = a + k
          · rw [hm', hf'] at hm; cases hm
          · exact h4 m m1 (by omega) ht hm
theorem turn_run (f : Int → Bool) (a : Int) (n : Nat) (m : Int) (h0 : a ≤ m) (h1 : m < a + n) :
    (f m = true → ∃ t, turnIn (spansOf f a n) m = some t ∧ RunTo f (a + n) m t) ∧ (f m = false → turnIn (spansOf f a n) m = none) := by
  obtain ⟨i1, i2, i3, i4⟩ := spI f a n
  unfold spansOf
  generalize spSt f a n = st at *
  obtain ⟨l, fr, o⟩ := st
  dsimp only at i1 i2 i3 i4 ⊢
  have inl : ∀ t, turnIn l m = some t → RunTo f (a + n) m t := fun t ht => by
    obtain ⟨t1, t2, t3, t4⟩ := i3 m t h0 h1 ht
    exact ⟨t1, by omega, t3, fun _ => t4⟩
  cases o with
  | true =>
    obtain ⟨r1, r2, r3⟩ := i1 rfl
    rw [if_pos rfl, turnIn_append]
    have one : turnIn [(fr, a + (n : Int) - 1)] m = if fr ≤ m ∧ m ≤ a + n - 1 then some (a + (n : Int) - 1) else none := by rw [turnIn_cons]; rfl
    cases hl : turnIn l m with
    | some t =>
      have hr := inl t hl
      refine ⟨fun _ => ⟨t, by rw [Option.some_or], hr⟩, fun hm => ?_⟩
      rw [hr.2.2.1 m (Int.le_refl _) hr.1] at hm; cases hm
    | none =>
      rw [Option.none_or, one]
      refine ⟨fun hm => ?_, fun hm => ?_⟩
      · have := (i4 m h0 h1 hl hm).2
        refine ⟨a + n - 1, if_pos (by omega), by omega, by omega, fun x x1 x2 => r3 x (by omega) (by omega), fun h => by omega⟩
      · by_cases hc : fr ≤ m
        · rw [r3 m hc h1] at hm; cases hm
        · rw [if_neg (by omega)]
  | false =>
    rw [if_neg (by decide)]
    cases hl : turnIn l m with
    | some t =>
      have hr := inl t hl
      refine ⟨fun _ => ⟨t, rfl, hr⟩, fun hm => ?_⟩
      rw [hr.2.2.1 m (Int.le_refl _) hr.1] at hm; cases hm
    | none =>
      refine ⟨fun hm => ?_, fun _ => rfl⟩
      have := (i4 m h0 h1 hl hm).1; cases this
theorem RunTo.le {f g : Int → Bool} {e m t u : Int} (h : RunTo f e m t) (k : RunTo g e m u) (hfg : ∀ x, g x = true → f x = true) : u ≤ t := by
  obtain ⟨h1, h2, h3, h4⟩ := h
  obtain ⟨k1, k2, k3, k4⟩ := k
  by_cases hc : t < u
  · have := h4 (by omega)
    rw [hfg _ (k3 (t + 1) (by omega) (by omega))] at this; cases this
  · omega
theorem fitB_one (s : Sd) (p : Int) (pd : Int → Bool) (m : Int) : fitB s [p] pd m = pd (st s m p.toNat) := by simp [fitB]
section
variable {s : Sd}
/-- until when one can stay -/
theorem turn_in (ok : Ok s) {x : Int} (hx : 0 ≤ x ∧ x < s.floors.length) {m : Int} (hm : inDay s m = true) :
    (st s m x.toNat = 0 → errTurn s x m = 0 ∧ RunTo (fun y => st s y x.toNat == 0) (lastM s.table + 1) m (turnV s x m)) ∧ (st s m x.toNat ≠ 0 → errTurn s x m = 6) := by
  obtain ⟨f0, f1, f2⟩ := firstM_lt ok.table
  obtain ⟨m0, m1⟩ : firstM s.table ≤ m ∧ m ≤ lastM s.table := inB_true.1 hm
  have hd : firstM s.table + (dayN s : Int) = lastM s.table + 1 := by unfold dayN; omega
  have k := turn_run (dryB s [x]) (firstM s.table) (dayN s) m m0 (by omega)
  rw [hd] at k
  have e : dryB s [x] = fun y => st s y x.toNat == 0 := by funext y; unfold dryB; rw [fitB_one]
  unfold errTurn turnV drySpans
  rw [if_pos (errFor_in ok hx), if_pos hm, if_pos (errFor_in ok hx), if_pos hm]
  rw [e] at k ⊢
  refine ⟨fun h => ?_, fun h => ?_⟩
  · obtain ⟨t, ht, hr⟩ := k.1 (by simp [h])
    rw [ht]
    exact ⟨rfl, hr⟩
  · rw [k.2 (by simp [h])]
end

section
variable {s : Sd} {may : Nat → Nat → Bool}
theorem wayAt_nat (ws : Ways) (t : Nat) : wayAt ws (t : Int) = ws[t]?.getD none := rfl
/-- which places are reached -/
abbrev Got (ws : Ways) (t : Nat) : Prop := ∃ l, ws[t]? = some (some l)
theorem leadW_got {way : List Int} {nS nF : Nat} (st : Ways × List Int) (x : Lead nS nF) (t : Nat) (h : Got st.1 t) : Got (leadW may way st x).1 t := by
  unfold leadW
  split
  · next hc =>
    obtain ⟨l, hl⟩ := h
    by_cases e : x.1.2 = t
    · rw [e] at hc; rw [hl] at hc; exact absurd hc.1 (by simp)
    · exact ⟨l, by show (st.1.set _ _)[t]? = _; rw [List.getElem?_set_ne e]; exact hl⟩
  · exact h
theorem leadW_que {way : List Int} {nS nF : Nat} (st : Ways × List Int) (x : Lead nS nF) (t : Nat) (h : (t : Int) ∈ st.2) : (t : Int) ∈ (leadW may way st x).2 := by
  unfold leadW
  split
  · exact List.mem_append_left _ h
  · exact h
theorem leadW_new' {way : List Int} {nS nF : Nat} (st : Ways × List Int) (x : Lead nS nF) (t : Nat) (h : Got (leadW may way st x).1 t) : Got st.1 t ∨ (t : Int) ∈ (leadW may way st x).2 ∧ may x.1.1 t = true := by
  unfold leadW at h ⊢
  split at h
  · next hc =>
    rw [if_pos hc]
    by_cases e : x.1.2 = t
    · exact Or.inr ⟨by rw [← e]; simp, by rw [← e]; exact hc.2⟩
    · obtain ⟨l, hl⟩ := h
      rw [show (st.1.set x.1.2 (some (way ++ [(x.1.1 : Int)])))[t]? = st.1[t]? from List.getElem?_set_ne e] at hl
      exact Or.inl ⟨l, hl⟩
  · exact Or.inl h
theorem leadW_done {way : List Int} {nS nF : Nat} (st : Ways × List Int) (x : Lead nS nF) (h8 : nF ≤ 8) (hl : st.1.length = 8) (hm : may x.1.1 x.1.2 = true) : Got (leadW may way st x).1 x.1.2 := by
  have hx := x.2.2
  have hlt : x.1.2 < st.1.length := by omega
  unfold leadW
  split
  · exact ⟨_, by show (st.1.set _ _)[_]? = _; rw [List.getElem?_set_self hlt]⟩
  · next hc =>
    cases e : st.1[x.1.2] with
    | none => exact absurd ⟨by rw [List.getElem?_eq_getElem hlt, e], hm⟩ hc
    | some l => exact ⟨l, by rw [List.getElem?_eq_getElem hlt, e]⟩
theorem leadW_len {way : List Int} {nS nF : Nat} (st : Ways × List Int) (x : Lead nS nF) : (leadW may way st x).1.length = st.1.length := by
  unfold leadW
  split
  · simp
  · rfl
/-- behind a row of leads -/
theorem led_all {way : List Int} {nS nF : Nat} (h8 : nF ≤ 8) : ∀ (l : List (Lead nS nF)) (st : Ways × List Int), st.1.length = 8 →
    (l.foldl (leadW may way) st).1.length = 8 ∧ (∀ t, Got st.1 t → Got (l.foldl (leadW may way) st).1 t) ∧ (∀ t : Nat, (t : Int) ∈ st.2 → (t : Int) ∈ (l.foldl (leadW may way) st).2) ∧
    (∀ t, Got (l.foldl (leadW may way) st).1 t → Got st.1 t ∨ (t : Int) ∈ (l.foldl (leadW may way) st).2 ∧ ∃ i, may i t = true) ∧ (∀ x ∈ l, may x.1.1 x.1.2 = true → Got (l.foldl (leadW may way) st).1 x.1.2)
  | [], st, hl => ⟨hl, fun _ h => h, fun _ h => h, fun _ h => Or.inl h, fun x hx => by simp at hx⟩
  | y :: r, st, hl => by
    obtain ⟨h1, h2, h3, h4, h5⟩ := led_all (way := way) h8 r (leadW may way st y) (by rw [leadW_len]; exact hl)
    rw [List.foldl_cons]
    refine ⟨h1, fun t h => h2 t (leadW_got st y t h), fun t h => h3 t (leadW_que st y t h), fun t h => ?_, fun x hx hm => ?_⟩
    · rcases h4 t h with h | h
      · rcases leadW_new' st y t h with h | ⟨h, hm⟩
        · exact Or.inl h
        · exact Or.inr ⟨h3 t h, y.1.1, hm⟩
      · exact Or.inr h
    · rcases List.mem_cons.1 hx with rfl | hx
      · exact h2 _ (leadW_done st x h8 hl hm)
      · exact h5 x hx hm

/-- closed: what is led to from the Sea, or from places that were reached and are done, is reached -/
structure Shut (s : Sd) (may : Nat → Nat → Bool) (st : Ways × List Int) : Prop where
  len : st.1.length = 8
  sea : ∀ x ∈ leads s.sills s.floors.length (-1) s.sills.length, may x.1.1 x.1.2 = true → Got st.1 x.1.2
  on : ∀ f : Nat, Got st.1 f → (f : Int) ∈ st.2 ∨ ∀ x ∈ leads s.sills s.floors.length f s.sills.length, may x.1.1 x.1.2 = true → Got st.1 x.1.2
  may' : ∀ t, Got st.1 t → ∃ i, may i t = true
  few : st.2.length + nones st.1 ≤ 8
  nat : ∀ y ∈ st.2, 0 ≤ y ∧ y < s.floors.length
theorem Shut.start (h8 : s.floors.length ≤ 8) : Shut s may (ledW s may (-1) [] (List.replicate 8 none, [])) := by
  obtain ⟨h1, h2, h3, h4, h5⟩ := led_all (way := []) (may := may) h8 (leads s.sills s.floors.length (-1) s.sills.length) (List.replicate 8 none, []) rfl
  have no : ∀ t, ¬ Got (List.replicate 8 (none : Option (List Int))) t := fun t ⟨l, hl⟩ => by
    rw [List.getElem?_replicate] at hl
    split at hl <;> cases hl
  obtain ⟨k1, k2⟩ := foldW_keeps (may := may) (way := []) (leads s.sills s.floors.length (-1) s.sills.length) (List.replicate 8 none, [])
  refine ⟨h1, h5, fun f hf => ?_, fun t ht => ?_, ?_, fun y hy => ?_⟩
  · rcases h4 f hf with h | h
    · exact absurd h (no f)
    · exact Or.inl h.1
  · rcases h4 t ht with h | h
    · exact absurd h (no t)
    · exact h.2
  · unfold ledW
    rw [k1]
    decide
  · rcases k2 y hy with h | h
    · simp at h
    · exact h
theorem Shut.next (h8 : s.floors.length ≤ 8) {ws : Ways} {x : Int} {q : List Int} (h : Shut s may (ws, x :: q)) (way : List Int) : Shut s may (ledW s may x way (ws, q)) ∧ (ledW s may x way (ws, q)).2.length + nones (ledW s may x way (ws, q)).1 + 1 = (x :: q).length + nones ws := by
  obtain ⟨h1, h2, h3, h4, h5⟩ := led_all (way := way) (may := may) h8 (leads s.sills s.floors.length x s.sills.length) (ws, q) h.len
  obtain ⟨k1, k2⟩ := foldW_keeps (may := may) (way := way) (leads s.sills s.floors.length x s.sills.length) (ws, q)
  have hc : (ledW s may x way (ws, q)).2.length + nones (ledW s may x way (ws, q)).1 + 1 = (x :: q).length + nones ws := by
    unfold ledW
    rw [k1]
    simp only [List.length_cons]; omega
  have hx := h.nat x (by simp)
  refine ⟨⟨h1, fun y hy hm => h2 _ (h.sea y hy hm), fun f hf => ?_, fun t ht => ?_, ?_, fun y hy => ?_⟩, hc⟩
  · by_cases e : (f : Int) = x
    · subst e
      exact Or.inr (fun y hy hm => h5 y hy hm)
    · rcases h4 f hf with hg | hg
      · rcases h.on f hg with hq | hq
        · rcases List.mem_cons.1 hq with h' | h'
          · exact absurd h' e
          · exact Or.inl (h3 f h')
        · exact Or.inr (fun y hy hm => h2 _ (hq y hy hm))
      · exact Or.inl hg.1
  · rcases h4 t ht with hg | hg
    · exact h.may' t hg
    · exact hg.2
  · have := h.few
    simp only at this
    omega
  · rcases k2 y hy with hg | hg
    · exact h.nat y (by simp; exact Or.inr hg)
    · exact hg
theorem goW_shut (h8 : s.floors.length ≤ 8) : ∀ n (st : Ways × List Int), Shut s may st → st.2.length + nones st.1 ≤ n → Shut s may (goW s may n st) ∧ (goW s may n st).2 = []
  | 0, (ws, q), h, hn => by
    have : q = [] := List.length_eq_zero_iff.1 (by simp only at hn; omega)
    subst this
    exact ⟨h, rfl⟩
  | n + 1, (ws, []), h, _ => ⟨h, rfl⟩
  | n + 1, (ws, x :: q), h, hn => by
    obtain ⟨k1, k2⟩ := h.next h8 ((wayAt ws x).getD [])
    refine goW_shut h8 n _ k1 ?_
    simp only at hn
    omega
theorem waysOf_shut (h8 : s.floors.length ≤ 8) : (∀ x ∈ leads s.sills s.floors.length (-1) s.sills.length, may x.1.1 x.1.2 = true → Got (waysOf s may) x.1.2) ∧
    (∀ f : Nat, Got (waysOf s may) f → ∀ x ∈ leads s.sills s.floors.length f s.sills.length, may x.1.1 x.1.2 = true → Got (waysOf s may) x.1.2) ∧ (∀ t, Got (waysOf s may) t → ∃ i, may i t = true) := by
  obtain ⟨h, hq⟩ := goW_shut (s := s) (may := may) h8 8 _ (Shut.start h8) (Shut.start h8).few
  refine ⟨h.sea, fun f hf => ?_, h.may'⟩
  rcases h.on f hf with hm | hm
  · rw [hq] at hm; simp at hm
  · exact hm
end

section
variable {s : Sd}
/-- no lesser than the gate of q at places that are not reached without going over q -/
def Beh (U : Nat → Prop) (q : Nat) (g : List Int) : Prop := ∀ x, x < g.length → U x → g[q]?.getD 0 ≤ g[x]?.getD 0
theorem Beh.set {U : Nat → Prop} {q : Nat} {g : List Int} (h : Beh U q g) (t : Nat) (c : Int) (hc : t ≠ q → U t → g[q]?.getD 0 ≤ c) : Beh U q (g.set t (min (g[t]?.getD 0) c)) := by
  intro x hx hu
  rw [List.length_set] at hx
  have k := h x hx hu
  rw [List.getElem?_set, List.getElem?_set]
  by_cases e1 : t = q
  · subst e1
    by_cases e2 : t = x
    · subst e2; exact Int.le_refl _
    · rw [if_pos rfl, if_neg e2]
      by_cases hl : t < g.length
      · rw [if_pos hl, Option.getD_some]; omega
      · rw [if_neg hl]
        rw [List.getElem?_eq_none (by omega)] at k
        exact k
  · rw [if_neg e1]
    by_cases e2 : t = x
    · subst e2
      have := hc e1 hu
      rw [if_pos rfl, if_pos hx, Option.getD_some]; omega
    · rw [if_neg e2]; exact k
theorem beh_low1 {U : Nat → Prop} {q : Nat} : ∀ (l : List (Lead s.sills.length s.floors.length)) (g : List Int), (∀ x ∈ l, x.1.2 ≠ q → ¬ U x.1.2) → Beh U q g → Beh U q (l.foldl (low1 s) g)
  | [], _, _, h => h
  | x :: r, g, hu, h => beh_low1 r (low1 s g x) (fun y hy => hu y (by simp [hy])) (h.set _ _ (fun ht hU => absurd hU (hu x (by simp) ht)))
theorem beh_low2 {U : Nat → Prop} {q f : Nat} (hf : f < 8) : ∀ (l : List (Lead s.sills.length s.floors.length)) (g : List Int), g.length = 8 → (∀ x ∈ l, x.1.2 ≠ q → U x.1.2 → U f) → Beh U q g → Beh U q (l.foldl (low2 s f) g)
  | [], _, _, _, h => h
  | x :: r, g, hl, hu, h => beh_low2 hf r (low2 s f g x) (by simp [low2, hl]) (fun y hy => hu y (by simp [hy])) (h.set _ _ (fun ht hU => by
      have := h f (by omega) (hu x (by simp) ht hU)
      rw [grt2]; omega))
theorem beh_froms {U : Nat → Prop} {q : Nat} : ∀ (l : List Nat) (g : List Int), g.length = 8 → (∀ f ∈ l, f < 8 ∧ ∀ x ∈ leads s.sills s.floors.length f s.sills.length, x.1.2 ≠ q → U x.1.2 → U f) → Beh U q g → Beh U q (l.foldl (lowFrom s) g)
  | [], _, _, _, h => h
  | f :: r, g, hl, hu, h => beh_froms r (lowFrom s g f) (low2_len s f _ _ hl) (fun y hy => hu y (by simp [hy])) (beh_low2 (hu f (by simp)).1 _ _ hl (hu f (by simp)).2 h)
theorem behind_gts (h8 : s.floors.length ≤ 8) (q p : Nat) (hp : p < 8) (hn : ¬ Got (waysOf s (mayHold [] [(q : Int)])) p) : gateOf s q ≤ gateOf s p := by
  obtain ⟨w1, w2, w3⟩ := waysOf_shut (s := s) (may := mayHold [] [(q : Int)]) h8
  have may : ∀ i t, t ≠ q → mayHold [] [(q : Int)] i t = true := fun i t h => by simp [mayHold]; omega
  generalize hU : waysOf s (mayHold [] [(q : Int)]) = ws at *
  have key : ∀ n (g : List Int), g.length = 8 → Beh (fun x => ¬ Got ws x) q g → Beh (fun x => ¬ Got ws x) q (iterG s n g) ∧ (iterG s n g).length = 8 := by
    intro n
    induction n with
    | zero => exact fun g hl h => ⟨h, hl⟩
    | succ n ih =>
      intro g hl h
      refine ih (lowered s g) (lowered_len s g hl) ?_
      unfold lowered
      refine beh_froms _ _ (low1_len s _ _ hl) (fun f hf => ?_) (beh_low1 _ _ (fun x hx ht hu => hu (w1 x hx (may _ _ ht))) h)
      rw [List.mem_range] at hf
      exact ⟨by omega, fun x hx ht hu hf' => hu (w2 f hf' x hx (may _ _ ht))⟩
  have h9 := fun n => key n top rfl (fun x hx _ => by
    unfold top at *
    rw [List.length_replicate] at hx
    rw [List.getElem?_replicate, List.getElem?_replicate, if_pos hx]
    split <;> simp)
  unfold gateOf gts
  rw [fixG_iter]
  exact (h9 _).1 p (by rw [(h9 _).2]; exact hp) hn
theorem st_rng (s : Sd) (m : Int) (p : Nat) : st s m p = 0 ∨ st s m p = 1 ∨ st s m p = 2 := by
  unfold st
  repeat' split
  all_goals simp
theorem not_got {may : Nat → Nat → Bool} (h8 : s.floors.length ≤ 8) (t : Nat) (h : ∀ i, may i t = false) : ¬ Got (waysOf s may) t := fun hg => by
  obtain ⟨i, hi⟩ := (waysOf_shut (s := s) (may := may) h8).2.2 t hg
  rw [h i] at hi; cases hi
theorem way_none {ws : Ways} {t : Nat} : wayAt ws (t : Int) = none ↔ ¬ Got ws t := by
  rw [wayAt_nat]
  constructor
  · rintro h ⟨l, hl⟩; rw [hl] at h; cases h
  · intro h
    cases e : ws[t]? with
    | none => rfl
    | some o =>
      cases o with
      | none => rfl
      | some l => exact absurd ⟨l, e⟩ h
/-- a bank of one place alone -/
theorem hold_one (ok : Ok s) {p q : Nat} (hp : p < s.floors.length) (hq : q < s.floors.length) :
    (errHold s p [] [(q : Int)] = 0 ∨ errHold s p [] [(q : Int)] = 8) ∧ (p = q → errHold s p [] [(q : Int)] = 0) ∧
    (errHold s p [] [(q : Int)] = 0 → holdV s p [] [(q : Int)] = s.floors[q] ∧ gateOf s q ≤ gateOf s p) := by
  have h8 := ok.fl1
  have e : errHold s p [] [(q : Int)] = if wayAt (waysOf s (mayHold [] [(q : Int)])) (p : Int) = none then 0 else 8 := by
    unfold errHold
    rw [if_pos (errFor_in ok (by omega)), if_pos ⟨by simp, by
      rw [List.all_eq_true]; intro y hy
      simp only [List.mem_singleton] at hy
      subst hy
      exact inB_true.2 (by omega)⟩, if_pos ⟨by simp, by simp⟩]
    simp
  have hno : ∀ i, mayHold [] [(q : Int)] i q = false := fun i => by simp [mayHold]
  refine ⟨?_, fun h => ?_, fun h => ?_⟩
  · rw [e]; split
    · exact Or.inl rfl
    · exact Or.inr rfl
  · subst h
    rw [e, if_pos (way_none.2 (not_got h8 _ hno))]
  · have hn : wayAt (waysOf s (mayHold [] [(q : Int)])) (p : Int) = none := by
      rw [e] at h
      split at h
      · assumption
      · cases h
    refine ⟨?_, behind_gts h8 q p (by omega) (way_none.1 hn)⟩
    have hf := ok.floors s.floors[q] (List.getElem_mem hq)
    unfold holdV
    rw [if_pos h]
    simp only [leastF, leastS, List.foldl_cons, List.foldl_nil, Int.toNat_natCast, List.getElem?_eq_getElem hq, Option.getD_some]
    omega
theorem behind_st {p q : Nat} (h : gateOf s q ≤ gateOf s p) (m : Int) : st s m p ≤ st s m q := by
  unfold st
  repeat' split
  all_goals omega
theorem behind_gate (ok : Ok s) {p q : Nat} (hp : p < s.floors.length) (hq : q < s.floors.length) (h : gateOf s q ≤ gateOf s p) :
    (errGate s p = 0 ∨ errGate s p = 6) ∧ (errGate s p = 0 → errGate s q = 0 ∧ gateV s q ≤ gateV s p) := by
  rw [errGate_in ok (x := (p : Int)) (by omega), errGate_in ok (x := (q : Int)) (by omega), gateV_in ok (x := (p : Int)) (by omega), gateV_in ok (x := (q : Int)) (by omega)]
  simp only [Int.toNat_natCast]
  by_cases c : gateOf s p < 1050
  · have c' : gateOf s q < 1050 := by omega
    rw [if_pos c, if_pos c', if_pos c, if_pos c']
    exact ⟨Or.inl rfl, fun _ => ⟨rfl, h⟩⟩
  · rw [if_neg c]
    exact ⟨Or.inr rfl, fun h => by cases h⟩
theorem behind_turn (ok : Ok s) {p q : Nat} (hp : p < s.floors.length) (hq : q < s.floors.length) (h : gateOf s q ≤ gateOf s p) {m : Int} (hm : inDay s m = true) (hd : st s m q = 0) :
    errTurn s p m = 0 ∧ errTurn s q m = 0 ∧ turnV s q m ≤ turnV s p m := by
  have hp0 : st s m p = 0 := by
    have := behind_st h m
    rcases st_rng s m p with h | h | h <;> omega
  obtain ⟨a1, a2⟩ := (turn_in ok (x := (p : Int)) (by omega) hm).1 hp0
  obtain ⟨b1, b2⟩ := (turn_in ok (x := (q : Int)) (by omega) hm).1 hd
  refine ⟨a1, b1, a2.le b2 (fun x hx => ?_)⟩
  simp only [Int.toNat_natCast, beq_iff_eq] at hx ⊢
  have := behind_st h x
  rcases st_rng s x p with h | h | h <;> omega
theorem here_in (_ok : Ok s) {m : Int} (_hm : inDay s m = true) {p : Nat} (hp : p < s.floors.length) (hA : errAt s m = 0) : errHere s m p = 0 ∧ atV s m p = st s m p := by
  have e : errHere s m p = 0 := by
    unfold errHere
    rw [if_pos hA, show isPl s (p : Int) = true from inB_true.2 (by omega)]; rfl
  refine ⟨e, ?_⟩
  unfold atV
  rw [if_pos e]; rfl
end
end
end Go.Proofs.YtknaajofcbenaaaGreat
namespace Go.Proofs.YtknaajofcbenaaaGreat
open Go.RowKit Go.Shelf

theorem infoRW : (Tryz.prog.info? 98).map (fun i => (i.zero, i.size, i.bytes)) = some (some (.agg #[.int .i64 0, .int .i64 0]), 2, 16) := by kernel_rfl
theorem infoRS : (Tryz.prog.info? 99).map (fun i => (i.zero, i.size, i.bytes)) = some (some (.agg #[.int .i64 0, .int .i64 0, .int .i64 0]), 3, 24) := by kernel_rfl

theorem ints_pos (l : List Int) : ∀ r ∈ ints l, 0 < r.length := fun r hr => by simp only [ints, List.mem_map] at hr; obtain ⟨x, -, rfl⟩ := hr; simp
theorem pairs_pos (l : List (Int × Int)) : ∀ r ∈ pairs l, 0 < r.length := fun r hr => by simp only [pairs, List.mem_map] at hr; obtain ⟨x, -, rfl⟩ := hr; simp

section
variable {pT pF pS : Option Addr} {cT cF cS : Nat}
set_option maxRecDepth 100000 in
set_option maxHeartbeats 2000000 in
theorem theirs_c (s : Sd) (w : World) (hl : Lists w s pT pF pS cT cF cS) (b1 : s.table.length * 16 ≤ 140737488355328) (b2 : s.floors.length * 8 ≤ 140737488355328) (b3 : s.sills.length * 24 ≤ 140737488355328) :
    Calls Tryz.prog 9 #[sdVal s pT pF pS cT cF cS] w fun e w' => ∃ qT qF qS dT dF dS, e = .returned (sdVal s qT qF qS dT dF dS) ∧ Lists w' s qT qF qS dT dF dS ∧ Up w w' ∧ Fresh w.heap.size s qT qF qS := by
  have D2 := Lib.hid (fun W (u : Up w W) => dupInt_c s.floors pF cF W (hl.rf.up u) b2)
  have HL := Lib.hid hl
  clear hl
  unfold sdVal
  go_enter Tryz.func9, Tryz.ntmps9
  go_upto_region 1 with fail
  refine Code.wp_world ?_
  intro w0 hw0
  have u0 : Up w w0 := by rw [hw0]; (repeat (first | exact Below.refl _ _ | (with_reducible refine Below.drewN' ?_ _) | (with_reducible refine Below.drew ?_) | (with_reducible refine Below.setCell ?_ (by first | exact Nat.le_refl _ | omega | (with_reducible (repeat (first | refine sz_alloc ?_ | refine sz_setCell ?_ | refine sz_drew ?_ | refine sz_drewN ?_)); first | exact Nat.le_refl _ | omega) | (simp only [World.size_alloc, World.size_setCell, World.size_drew, size_drewN']; omega)) _) | (with_reducible refine Below.alloc ?_ (by first | exact Nat.le_refl _ | omega | (with_reducible (repeat (first | refine sz_alloc ?_ | refine sz_setCell ?_ | refine sz_drew ?_ | refine sz_drewN ?_)); first | exact Nat.le_refl _ | omega) | (simp only [World.size_alloc, World.size_setCell, World.size_drew, size_drewN']; omega)) _) | assumption))
  have z0 : w0.heap.size = w.heap.size + 2 := by rw [hw0]; simp
  have hB : Blk w0 w.heap.size (sdCells s pT pF pS cT cF cS) 28 := by rw [hw0]; exact (Blk.new w _ _).alloc _
  have hR : Blk w0 (w.heap.size + 1) [.slice none 0 0, .int .i64 0, .int .i64 0, .slice none 0 0, .slice none 0 0] 35 := by rw [hw0]; exact Blk.new' _ [.slice none 0 0, .int .i64 0, .int .i64 0, .slice none 0 0, .slice none 0 0] _ (by simp)
  clear hw0
  have c0 := hB.cell 0
  have c1 := hB.cell 1
  have c2 := hB.cell 2
  have c3 := hB.cell 3
  have c4 := hB.cell 4
  simp only [sdCells, List.getElem?_cons_zero, List.getElem?_cons_succ] at c0 c1 c2 c3 c4
  have HB := Lib.hid hB
  have HR := Lib.hid hR
  have HU0 := Lib.hid u0
  have HZ0 := Lib.hid z0
  clear hB hR u0 z0
  go_cut [3] (fun v wx => ∃ B q d, v = .pointer (some ⟨B, 0, none⟩) ∧ w.heap.size + 2 ≤ B ∧ Up w0 wx ∧ Blk wx B [.slice none 0 0, .int .i64 s.lo, .int .i64 s.hi, .slice q s.floors.length d, .slice none 0 0] 35 ∧ s.floors.length ≤ d ∧ d ≤ maxLen ∧ Row wx q 1 (ints s.floors) ∧ (0 < (ints s.floors).length → ∀ b off, q = some ⟨b, off, none⟩ → (b < wx.heap.size ∧ b ≠ B) ∧ w.heap.size + 2 ≤ b))
  case first =>
    have DA : Hid (Calls Tryz.prog 10 #[.slice pF s.floors.length cF] ((w0.alloc (.cells #[.slice none 0 0, .int .i64 0, .int .i64 0, .slice none 0 0, .slice none 0 0] 35)).drew) (fun e w1 => ∃ p' c', e = .returned (.slice p' s.floors.length c') ∧ s.floors.length ≤ c' ∧ c' ≤ maxLen ∧ Row w1 p' 1 (ints s.floors) ∧ (∀ b off, p' = some ⟨b, off, none⟩ → w0.heap.size + 1 ≤ b) ∧ Up w0 w1 ∧ Blk w1 w0.heap.size [.slice none 0 0, .int .i64 0, .int .i64 0, .slice none 0 0, .slice none 0 0] 35)) := by
      have u : Up w0 ((w0.alloc (.cells #[.slice none 0 0, .int .i64 0, .int .i64 0, .slice none 0 0, .slice none 0 0] 35)).drew) := by (repeat (first | exact Below.refl _ _ | (with_reducible refine Below.drewN' ?_ _) | (with_reducible refine Below.drew ?_) | (with_reducible refine Below.setCell ?_ (by first | exact Nat.le_refl _ | omega | (with_reducible (repeat (first | refine sz_alloc ?_ | refine sz_setCell ?_ | refine sz_drew ?_ | refine sz_drewN ?_)); first | exact Nat.le_refl _ | omega) | (simp only [World.size_alloc, World.size_setCell, World.size_drew, size_drewN']; omega)) _) | (with_reducible refine Below.alloc ?_ (by first | exact Nat.le_refl _ | omega | (with_reducible (repeat (first | refine sz_alloc ?_ | refine sz_setCell ?_ | refine sz_drew ?_ | refine sz_drewN ?_)); first | exact Nat.le_refl _ | omega) | (simp only [World.size_alloc, World.size_setCell, World.size_drew, size_drewN']; omega)) _) | assumption))
      refine (D2.out _ (Up.trans HU0.out u)).mono fun e w1 ⟨p', c', h1, h2, h3, h4, h5, h6⟩ => ⟨p', c', h1, h2, h3, h4, fun b off e => ?_, Up.trans u h6, Blk.up ((Blk.new w0 [.slice none 0 0, .int .i64 0, .int .i64 0, .slice none 0 0, .slice none 0 0] _).drew) h6⟩
      have := h5 b off e
      simpa using this
    have DB : Hid (Calls Tryz.prog 10 #[.slice pF s.floors.length cF] w0.drew (fun e w1 => ∃ p' c', e = .returned (.slice p' s.floors.length c') ∧ s.floors.length ≤ c' ∧ c' ≤ maxLen ∧ Row w1 p' 1 (ints s.floors) ∧ (∀ b off, p' = some ⟨b, off, none⟩ → w0.heap.size ≤ b) ∧ Up w0 w1)) := by
      have u : Up w0 w0.drew := (Below.refl _ _).drew
      exact (D2.out _ (Up.trans HU0.out u)).mono fun e w1 ⟨p', c', h1, h2, h3, h4, h5, h6⟩ => ⟨p', c', h1, h2, h3, h4, h5, Up.trans u h6⟩
    go_region_held3 (fun w' => w'.cell? ⟨w.heap.size, 1, none⟩ = some (.int .i64 s.lo) ∧ w'.cell? ⟨w.heap.size, 2, none⟩ = some (.int .i64 s.hi) ∧ w'.cell? ⟨w.heap.size, 3, none⟩ = some (.slice pF s.floors.length cF) ∧ Up w0 w')
      (refine ⟨Up.cellAt (w := w0) ?_ c1, Up.cellAt (w := w0) ?_ c2, Up.cellAt (w := w0) ?_ c3, ?_⟩ <;> (repeat (first | exact Below.refl _ _ | (with_reducible refine Below.drewN' ?_ _) | (with_reducible refine Below.drew ?_) | (with_reducible refine Below.setCell ?_ (by first | exact Nat.le_refl _ | omega | (with_reducible (repeat (first | refine sz_alloc ?_ | refine sz_setCell ?_ | refine sz_drew ?_ | refine sz_drewN ?_)); first | exact Nat.le_refl _ | omega) | (simp only [World.size_alloc, World.size_setCell, World.size_drew, size_drewN']; omega)) _) | (with_reducible refine Below.alloc ?_ (by first | exact Nat.le_refl _ | omega | (with_reducible (repeat (first | refine sz_alloc ?_ | refine sz_setCell ?_ | refine sz_drew ?_ | refine sz_drewN ?_)); first | exact Nat.le_refl _ | omega) | (simp only [World.size_alloc, World.size_setCell, World.size_drew, size_drewN']; omega)) _) | assumption)))
      (first
        | (go_at_call 10; with_reducible refine DA.out.mono ?_; rintro e w1 ⟨p', c', rfl, r1, r2, r3, r4, v1, hN⟩; have n0 := hN.cell 0; have n1 := hN.cell 1; have n2 := hN.cell 2; have n3 := hN.cell 3; have n4 := hN.cell 4; have nf := hN.free; have nl := hN.lt; simp only [List.getElem?_cons_zero, List.getElem?_cons_succ] at n0 n1 n2 n3 n4)
        | (go_at_call 10; with_reducible refine DB.out.mono ?_; rintro e w1 ⟨p', c', rfl, r1, r2, r3, r4, v1⟩; have sz := v1.size))
    · go_wp2_with fail
      go_meet
      refine ⟨w1.heap.size, p', c', rfl, ?_, ?_, ?_, r1, r2, ?_, ?_⟩
      · have := HZ0.out; omega
      · exact v1.alloc (by omega) _
      · exact Blk.new _ [.slice none 0 0, .int .i64 s.lo, .int .i64 s.hi, .slice p' s.floors.length c', .slice none 0 0] _
      · exact r3.up (by (repeat (first | exact Below.refl _ _ | (with_reducible refine Below.drewN' ?_ _) | (with_reducible refine Below.drew ?_) | (with_reducible refine Below.setCell ?_ (by first | exact Nat.le_refl _ | omega | (with_reducible (repeat (first | refine sz_alloc ?_ | refine sz_setCell ?_ | refine sz_drew ?_ | refine sz_drewN ?_)); first | exact Nat.le_refl _ | omega) | (simp only [World.size_alloc, World.size_setCell, World.size_drew, size_drewN']; omega)) _) | (with_reducible refine Below.alloc ?_ (by first | exact Nat.le_refl _ | omega | (with_reducible (repeat (first | refine sz_alloc ?_ | refine sz_setCell ?_ | refine sz_drew ?_ | refine sz_drewN ?_)); first | exact Nat.le_refl _ | omega) | (simp only [World.size_alloc, World.size_setCell, World.size_drew, size_drewN']; omega)) _) | assumption)))
      · intro hl b off e
        have hlt := r3.lt (ints_pos _) hl e
        have hr := r4 b off e
        have := HZ0.out
        rw [World.size_alloc]
        omega
    · go_wp2_with fail
      go_meet
      refine ⟨w0.heap.size, p', c', rfl, ?_, ?_, ?_, r1, r2, ?_, ?_⟩
      · have := HZ0.out; omega
      · repeat (first | (with_reducible exact v1) | (with_reducible refine Below.setCell ?_ (by simp only; omega) _))
      · exact ((((hN.set 0 _).set 1 _).set 2 _).set 3 _).set 4 _
      · have hq : ∀ b off, p' = some ⟨b, off, none⟩ → b ≠ w0.heap.size := fun b off e => by have := r4 b off e; omega
        repeat (with_reducible refine Row.other ?_ hq _)
        exact r3
      · intro hl b off e
        have hlt := r3.lt (ints_pos _) hl e
        have hr := r4 b off e
        have := HZ0.out
        simp only [World.size_setCell]
        omega
  case rest =>
    obtain ⟨B, q, d, rfl, hB2, hu, hBk, h1, h2, hq, hqb⟩ := hcut
    have U := Lib.hid (Up.trans HU0.out hu)
    have HLc := Lib.hid (HL.out.up U.out)
    have HL0 := Lib.hid HL.out
    have HRc := Lib.hid (HR.out.up hu)
    have HBc := Lib.hid (HB.out.up hu)
    have k0 := hu.cellAt c0
    have HBk := Lib.hid hBk
    have lB := hBk.lt
    have HQ := Lib.hid hq
    have HQB := Lib.hid hqb
    clear hq hqb hBk hu HU0 HR HB HL D2 c0 c1 c2 c3 c4
    go_wp2_with fail
    obtain ⟨i0, hi, hz0, hz1, hz2⟩ := info_parts infoRW
    go_loopw [17] (fun i wr => ∃ k : Nat, k ≤ s.table.length ∧ i = .int .i64 k ∧ ∃ v, Blk wr B [v, .int .i64 s.lo, .int .i64 s.hi, .slice q s.floors.length d, .slice none 0 0] 35 ∧ wr.ownsRow wc.heap.size 98 2 v k (pairs (s.table.take k)).flatten ∧ Far B wc.heap.size wc wr) (fun i _ => s.table.length - (intOf i).toNat)
    case atStart => exact ⟨0, Nat.zero_le _, rfl, _, HBk.out, World.ownsRow_nil _ _ _ _, Far.refl _ _ _⟩
    case round =>
      obtain ⟨k, hk, rfl, v, hBk, hown, hfar⟩ := hrel
      have HF := Lib.hid hfar
      have UR : Hid (Up w wr) := (Below.trans U.out (hfar.below (b := w.heap.size) (by omega) (by have := U.out.size; omega)))
      have szr := hfar.size
      have HBk1 := Lib.hid hBk
      have HO := Lib.hid hown
      have q0 := hBk.cell 0
      have q1 := hBk.free 0
      have q2 := hBk.lt
      simp only [List.getElem?_cons_zero] at q0
      clear hBk hfar
      by_cases hlt : k < s.table.length
      · obtain ⟨b, off, rfl, d0, d1⟩ := HLc.out.rt.pair k hlt
        have HP := Lib.hid (pairs_take hlt)
        have x0 : wr.cell? ⟨b, off + k * 2, none⟩ = some (.int .i64 s.table[k].1) := by
          obtain ⟨b', off', e', y0, -⟩ := HL0.out.rt.pair k hlt
          simp only [Option.some.injEq, Addr.mk.injEq, and_true] at e'
          obtain ⟨rfl, rfl⟩ := e'
          exact UR.out.cellAt y0
        have x1 : wr.cell? ⟨b, off + k * 2 + 1, none⟩ = some (.int .i64 s.table[k].2) := by
          obtain ⟨b', off', e', -, y1⟩ := HL0.out.rt.pair k hlt
          simp only [Option.some.injEq, Addr.mk.injEq, and_true] at e'
          obtain ⟨rfl, rfl⟩ := e'
          exact UR.out.cellAt y1
        clear d0 d1
        have bl1 : (k : Int) < (s.table.length : Int) := by omega
        have bl2 : (0 : Int) ≤ k := by omega
        have sk : IntKind.i64.wrap ((k : Int) + 1) = (k : Int) + 1 := IntWalk.i64_in _ (by omega)
        generalize s.table[k] = x at *
        obtain ⟨xa, xb⟩ := x
        dsimp only at x0 x1 HP
        generalize (pairs (s.table.take k)).flatten = xs at *
        have HX := Lib.hid HP.out
        clear HP
        go_wp2_with (at_builtin; refine wpList_append_own _ rfl _ _ 32 rfl wc.heap.size 98 i0 (.agg #[.int .i64 0, .int .i64 0]) 2 16 Tryz.underlying32 hi hz0 hz1 hz2 rfl (by decide) _ _ _ rfl ((hown.alloc _).alloc _) ⟨wr.heap.size + 1, 0, none⟩ 1 1 [.int .i64 xa, .int .i64 xb] rfl rfl (newsAt _ (by simp) [.int .i64 xa, .int .i64 xb] _) (by simp [Value.oneCell']) (by simp [maxLen]; omega) (by omega) (by simp; omega) ?_; intro v' w1 hown1 hgr hnn; clear hnn; have HG : Hid (((wr.alloc (.cells #[.int .i64 xa, .int .i64 xb] 78)).alloc (.cells #[.int .i64 xa, .int .i64 xb] 98)).grownBy w1 v.ownBlock) := hgr; have HB1 := Lib.hid (((HBk1.out.alloc _).alloc _).grown HG.out (fun e => by have := HO.out.lt B e.symm; omega)); have q0 := HB1.out.cell 0; have q1 := HB1.out.free 0; have q2 := HB1.out.lt; have HO1 := Lib.hid hown1; obtain ⟨g', cap', rfl⟩ := ownsRow_succ hown1; simp only [List.getElem?_cons_zero] at q0; clear hown1 hgr)
        go_roundw
        case rel =>
          refine ⟨k + 1, hlt, by go_num, _, HB1.out.set 0 _, ?_, ?_⟩
          · rw [HX.out]
            exact ownsRow_setCell_other HO1.out (fun e => by have := HO1.out.lt B e; omega) _
          · refine ((((HF.out.alloc (by omega) _).alloc (by simp; omega) _).grown HG.out (by simp; omega) (fun j e => (HO.out.lt j e).1)).setIn 0 _)
        case measure => simp [intOf]; omega
      · obtain rfl : k = s.table.length := by omega
        rw [List.take_length] at hown
        obtain ⟨qT, dT, rfl, e1, e2, hT, hTb⟩ := Row.of_own (flatOk_pairs s.table) hown (by simp [pairs])
        have HT := Lib.hid hT
        have HTB := Lib.hid hTb
        have zb := HZ0.out
        have hsB := HF.out.blk HBc.out (by have := HBc.out.lt; omega) (by omega)
        have HS2 := Lib.hid hsB
        have HR2 := Lib.hid (HF.out.blk HRc.out (by have := HRc.out.lt; omega) (by omega))
        have HQ2 := Lib.hid (HF.out.row HQ.out (fun h b off e => (HQB.out h b off e).1))
        have k4 := hsB.cell 4
        simp only [sdCells, List.getElem?_cons_zero, List.getElem?_cons_succ] at k4
        have HB2 := Lib.hid HBk1.out
        clear hT hTb hown zb hsB HBk1 HO HQ HRc HBc HBk q0 q1 k0 HLc hi hz0 hz1 hz2
        obtain ⟨i1, hi, hz0, hz1, hz2⟩ := info_parts infoRS
        obtain ⟨wo, rfl⟩ : ∃ wo : World, wo = wr := ⟨_, rfl⟩
        go_wp2_with fail
        go_loopw [31] (fun i wq => ∃ k : Nat, k ≤ s.sills.length ∧ i = .int .i64 k ∧ ∃ v, Blk wq B [.slice qT s.table.length dT, .int .i64 s.lo, .int .i64 s.hi, .slice q s.floors.length d, v] 35 ∧ wq.ownsRow wo.heap.size 99 3 v k (triples (s.sills.take k)).flatten ∧ Far B wo.heap.size wo wq) (fun i _ => s.sills.length - (intOf i).toNat)
        case atStart => exact ⟨0, Nat.zero_le _, rfl, _, HB2.out, World.ownsRow_nil _ _ _ _, Far.refl _ _ _⟩
        case round =>
          obtain ⟨j, hj, rfl, v, hBk, hown, hfar⟩ := hrel
          have HF2 := Lib.hid hfar
          have UR2 : Hid (Up w wr) := (Below.trans UR.out (hfar.below (b := w.heap.size) (by omega) (by have := UR.out.size; omega)))
          have szq := hfar.size
          have HBk1 := Lib.hid hBk
          have HO := Lib.hid hown
          have q0 := hBk.cell 4
          have q1 := hBk.free 4
          have q2 := hBk.lt
          simp only [List.getElem?_cons_zero, List.getElem?_cons_succ] at q0
          clear hBk hfar
          by_cases hltj : j < s.sills.length
          · have HP := Lib.hid (triples_take hltj)
            have hx : ∃ b off, pS = some ⟨b, off, none⟩ ∧ wr.cell? ⟨b, off + j * 3, none⟩ = some (.int .i64 s.sills[j].1) ∧ wr.cell? ⟨b, off + j * 3 + 1, none⟩ = some (.int .i64 s.sills[j].2.1) ∧ wr.cell? ⟨b, off + j * 3 + 2, none⟩ = some (.int .i64 s.sills[j].2.2) := by
              obtain ⟨b, off, e', y0, y1, y2⟩ := HL0.out.rs.triple j hltj
              exact ⟨b, off, e', UR2.out.cellAt y0, UR2.out.cellAt y1, UR2.out.cellAt y2⟩
            obtain ⟨b, off, rfl, x0, x1, x2⟩ := hx
            have bl1 : (j : Int) < (s.sills.length : Int) := by omega
            have bl2 : (0 : Int) ≤ j := by omega
            have sk : IntKind.i64.wrap ((j : Int) + 1) = (j : Int) + 1 := IntWalk.i64_in _ (by omega)
            generalize s.sills[j] = x at *
            obtain ⟨xa, xb, xc⟩ := x
            dsimp only at x0 x1 x2 HP
            generalize (triples (s.sills.take j)).flatten = xs at *
            have HX := Lib.hid HP.out
            clear HP
            go_wp2_with (at_builtin; refine wpList_append_own _ rfl _ _ 33 rfl wo.heap.size 99 i1 (.agg #[.int .i64 0, .int .i64 0, .int .i64 0]) 3 24 Tryz.underlying33 hi hz0 hz1 hz2 rfl (by decide) _ _ _ rfl ((hown.alloc _).alloc _) ⟨wr.heap.size + 1, 0, none⟩ 1 1 [.int .i64 xa, .int .i64 xb, .int .i64 xc] rfl rfl (newsAt _ (by simp) [.int .i64 xa, .int .i64 xb, .int .i64 xc] _) (by simp [Value.oneCell']) (by simp [maxLen]; omega) (by omega) (by simp; omega) ?_; intro v' w1 hown1 hgr hnn; clear hnn; have HG : Hid (((wr.alloc (.cells #[.int .i64 xa, .int .i64 xb, .int .i64 xc] 80)).alloc (.cells #[.int .i64 xa, .int .i64 xb, .int .i64 xc] 99)).grownBy w1 v.ownBlock) := hgr; have HB1 := Lib.hid (((HBk1.out.alloc _).alloc _).grown HG.out (fun e => by have := HO.out.lt B e.symm; omega)); have q0 := HB1.out.cell 4; have q1 := HB1.out.free 4; have q2 := HB1.out.lt; have HO1 := Lib.hid hown1; obtain ⟨g', cap', rfl⟩ := ownsRow_succ hown1; simp only [List.getElem?_cons_zero, List.getElem?_cons_succ] at q0; clear hown1 hgr)
            go_roundw
            case rel =>
              refine ⟨j + 1, hltj, by go_num, _, HB1.out.set 4 _, ?_, ?_⟩
              · rw [HX.out]
                exact ownsRow_setCell_other HO1.out (fun e => by have := HO1.out.lt B e; omega) _
              · refine ((((HF2.out.alloc (by omega) _).alloc (by simp; omega) _).grown HG.out (by simp; omega) (fun j e => (HO.out.lt j e).1)).setIn 4 _)
            case measure => simp [intOf]; omega
          · obtain rfl : j = s.sills.length := by omega
            rw [List.take_length] at hown
            obtain ⟨qS, dS, rfl, f1, f2, hS, hSb⟩ := Row.of_own (flatOk_triples s.sills) hown (by simp [triples])
            have HS := Lib.hid hS
            have zb := HZ0.out
            have HQ3 := Lib.hid (HF2.out.row HQ2.out (fun h b off e => by obtain ⟨⟨h1, h2⟩, -⟩ := HQB.out h b off e; exact ⟨by omega, h2⟩))
            have HT3 := Lib.hid (HF2.out.row HT.out (fun h b off e => by have h1 := HTB.out b off e; exact ⟨HT.out.lt (pairs_pos _) h e, by omega⟩))
            have HSB := Lib.hid (fun b off (e : qS = some ⟨b, off, none⟩) => hSb b off e)
            have hR := HF2.out.blk HR2.out (by have := HR2.out.lt; omega) (by omega)
            have HR3 := Lib.hid hR
            have z0 := hR.cell 0
            have z1 := hR.cell 1
            have z2 := hR.cell 2
            have z3 := hR.cell 3
            have z4 := hR.cell 4
            have fr := hR.free
            have lR := hR.lt
            have y0 := HBk1.out.cell 0
            have y1 := HBk1.out.cell 1
            have y2 := HBk1.out.cell 2
            have y3 := HBk1.out.cell 3
            simp only [List.getElem?_cons_zero, List.getElem?_cons_succ] at z0 z1 z2 z3 z4 y0 y1 y2 y3
            have HH := Lib.hid (show wc.heap.size ≥ w.heap.size + 2 by omega)
            have HFr : Hid (Fresh w.heap.size s qT q qS) := ⟨fun _ b off e => by have := HTB.out b off e; omega, fun h b off e => by have := (HQB.out (by simpa [ints] using h) b off e).2; omega, fun _ b off e => by have := hSb b off e; omega⟩
            clear hR hS hSb hown zb HO HF HF2 HT HQ2 HS2 HR2 HB2 hi hz0 hz1 hz2 k4
            go_wp2_with fail
            have hB := ((((HR3.out.set 0 (.slice qT s.table.length dT)).set 1 (.int .i64 s.lo)).set 2 (.int .i64 s.hi)).set 3 (.slice q s.floors.length d)).set 4 (.slice qS s.sills.length dS)
            simp only [List.set_cons_zero, List.set_cons_succ] at hB
            have p0 := hB.cell 0
            have p1 := hB.cell 1
            have p2 := hB.cell 2
            have p3 := hB.cell 3
            have p4 := hB.cell 4
            simp only [List.getElem?_cons_zero, List.getElem?_cons_succ] at p0 p1 p2 p3 p4
            refine bodyPost_ret (v := .agg #[.slice qT s.table.length dT, .int .i64 s.lo, .int .i64 s.hi, .slice q s.floors.length d, .slice qS s.sills.length dS]) (by simp [results, Tryz.f9, go_sem, p0, p1, p2, p3, p4]) rfl ⟨qT, q, qS, dT, d, dS, rfl, ⟨?_, ?_, ?_, e1, h1, f1, e2, h2, f2⟩, ?_, HFr.out⟩
            · have hh := HH.out
              repeat (with_reducible refine Row.away ?_ (fun _ b off e => by have := HTB.out b off e; simp only; omega) _)
              exact HT3.out
            · repeat (with_reducible refine Row.away ?_ (fun h b off e => by have := (HQB.out h b off e).2; simp only; omega) _)
              exact HQ3.out
            · have hh := HH.out
              repeat (with_reducible refine Row.away ?_ (fun _ b off e => by have := HSB.out b off e; simp only; omega) _)
              exact HS.out
            · have h4 := UR2.out
              repeat (first | (with_reducible exact h4) | (with_reducible refine Below.setCell ?_ (by simp only; omega) _))
end
end Go.Proofs.YtknaajofcbenaaaGreat
/- The elements of a list that are what they are asked to be; the numbers of all places. -/
namespace Go.Proofs.YtknaajofcbenaaaGreat
open Go.RowKit Go.Shelf

set_option maxRecDepth 100000 in
set_option maxHeartbeats 1000000 in
theorem those_c (f : Nat) (pre post : Array Value) (p : Option Addr) (c : Nat) (l : List Int) (pd : Int → Bool) (w : World) (hr : Row w p 1 (ints l)) (hm : l.length ≤ 100000) (eg : Enters Tryz.prog f)
    (hf : ∀ x, x ∈ l → ∀ W, Up w W → Calls Tryz.prog f (pre ++ #[.int .i64 x] ++ post) W fun e W' => e = .returned (.bool (pd x)) ∧ Up W W') :
    Calls Tryz.prog 62 #[.slice p l.length c, .func (.func f) pre post] w fun e w' => ∃ q d, e = .returned (.slice q (l.filter pd).length d) ∧ (l.filter pd).length ≤ d ∧ d ≤ maxLen ∧ Row w' q 1 (ints (l.filter pd)) ∧ Up w w' := by
  have eg' : ∀ (args : Array Value) (w : World), (callFunc f args).run Tryz.prog w = .ok (.enter f args) w := eg
  have HF := Lib.hid hf
  obtain ⟨i0, hi, hz0, hz1, hz2⟩ := info_parts info3
  clear hf
  go_enter Tryz.func62, Tryz.ntmps62
  go_wp2
  go_loopw [10, 5] (fun i v wr => ∃ k : Nat, k ≤ l.length ∧ i = .int .i64 k ∧ Up w wr ∧ wr.ownsRow w.heap.size 3 1 v ((l.take k).filter pd).length (ints ((l.take k).filter pd)).flatten) (fun i _ _ => l.length - (intOf i).toNat)
  case atStart => exact ⟨0, Nat.zero_le _, rfl, Below.refl _ _, World.ownsRow_nil _ _ _ _⟩
  case round =>
    obtain ⟨k, hk, rfl, hu, hown⟩ := hrel
    have hsz := hu.size
    have hle : ((l.take k).filter pd).length ≤ l.length := Nat.le_trans (List.length_filter_le _ _) (by rw [List.length_take]; omega)
    by_cases hlt : k < l.length
    · obtain ⟨b, off, rfl, hc0⟩ := hr.int k hlt
      have hd0 := hu.cellAt hc0
      clear hc0
      have hfk := fun W h => HF.out l[k] (List.getElem_mem _) W h
      have htk : l.take (k + 1) = l.take k ++ [l[k]] := List.take_succ_eq_append_getElem hlt
      cases hp : pd l[k]
      · rw [hp] at hfk
        have HT := Lib.hid (show (l.take (k + 1)).filter pd = (l.take k).filter pd by rw [htk, List.filter_append]; simp [hp])
        have HK := Lib.hid hfk
        have HO := Lib.hid hown
        clear hfk hown htk hp hle
        go_wp2_with fail
        refine (HK.out _ hu).mono ?_
        rintro e w1 ⟨rfl, hb1⟩
        go_wp2
        go_roundw
        case rel => exact ⟨k + 1, hlt, by go_num, Up.trans hu hb1, by rw [HT.out]; exact ownsRow_up HO.out hb1⟩
        case measure => simp [intOf]; omega
      · rw [hp] at hfk
        have HT := Lib.hid (show (l.take (k + 1)).filter pd = (l.take k).filter pd ++ [l[k]] by rw [htk, List.filter_append]; simp [hp])
        have HK := Lib.hid hfk
        have HO := Lib.hid hown
        clear hfk hown htk hp
        go_wp2_with fail
        refine (HK.out _ hu).mono ?_
        rintro e w1 ⟨rfl, hb1⟩
        have O1 := Lib.hid (ownsRow_up HO.out hb1)
        have U1 := Lib.hid (Up.trans hu hb1)
        have hs1 : w.heap.size ≤ w1.heap.size := U1.out.size
        clear hb1 HO
        go_wp2_with (at_builtin; refine wpList_append_own _ rfl _ _ 25 rfl w.heap.size 3 i0 (.int .i64 0) 1 8 Tryz.underlying25 hi hz0 hz1 hz2 rfl (by decide) _ _ _ rfl (O1.out.alloc _) ⟨w1.heap.size, 0, none⟩ 1 1 [.int .i64 l[k]] rfl rfl (newsAt _ rfl [.int .i64 l[k]] _) (by simp [Value.oneCell']) (by simp [maxLen]; omega) (by omega) (sz_alloc hs1) ?_; intro v' w2 hown hgr hnn; clear hnn)
        have U2 := Lib.hid ((U1.out.alloc hs1 _).grown hgr (sz_alloc hs1) (fun j e => (O1.out.lt j e).1))
        have O2 := Lib.hid hown
        clear hown hgr
        go_roundw
        case rel =>
          refine ⟨k + 1, hlt, by go_num, U2.out, ?_⟩
          rw [HT.out]
          have e : (ints ((l.take k).filter pd ++ [l[k]])).flatten = (ints ((l.take k).filter pd)).flatten ++ [.int .i64 l[k]] := by unfold ints; rw [List.map_append, List.flatten_append]; rfl
          rw [e, List.length_append]
          exact O2.out
        case measure => simp [intOf]; omega
    · obtain rfl : k = l.length := by omega
      rw [List.take_length] at hown
      obtain ⟨q, d, rfl, a1, a2, hR, -⟩ := Row.of_own (rows := ints (l.filter pd)) (flatOk_ints _) hown (by simp [ints])
      go_wp2
      go_ret
      exact ⟨q, d, rfl, a1, a2, hR, hu⟩

section
variable {pT pF pS : Option Addr} {cT cF cS : Nat}
/-- the numbers of all places -/
def allP (s : Sd) : List Int := (List.range s.floors.length).map fun (p : Nat) => (p : Int)
theorem allP_len (s : Sd) : (allP s).length = s.floors.length := by simp [allP]
set_option maxRecDepth 100000 in
set_option maxHeartbeats 1000000 in
theorem allPlaces_c (bw : Nat) (s : Sd) (w : World) (hw : IsWork w bw s pT pF pS cT cF cS) (hf : s.floors.length ≤ 8) :
    Calls Tryz.prog 63 #[.pointer (some ⟨bw, 0, none⟩)] w fun e w' => ∃ q d, e = .returned (.slice q (allP s).length d) ∧ (allP s).length ≤ d ∧ d ≤ maxLen ∧ Row w' q 1 (ints (allP s)) ∧ Up w w' := by
  obtain ⟨i0, hi, hz0, hz1, hz2⟩ := info_parts info3
  have hmk : ∀ u : World, (Instr.makeSlice 25 (.int .i64 (s.floors.length : Int)) (.int .i64 (s.floors.length : Int))).run Tryz.prog u =
      .ok (.slice (some ⟨u.heap.size, 0, none⟩) s.floors.length s.floors.length) (u.alloc (.cells (madeCells #[.int .i64 0] s.floors.length) 3)) := fun u => by
    have h := run_make (P := Tryz.prog) u 25 3 i0 (.int .i64 0) Tryz.underlying25 hi hz0 .i64 .i64 (s.floors.length : Int) (s.floors.length : Int) (by omega) (Int.le_refl _) (by rw [hz2]; omega) (by omega)
    rw [Int.toNat_natCast] at h
    simpa [hz1, Value.cells] using h
  have q3 := hw.sands.s3
  have lb := cell_lt q3
  rw [allP_len]
  clear hi hz0 hz1 hz2 hw
  have HMK := Lib.hid hmk
  go_enter Tryz.func63, Tryz.ntmps63
  go_wp2_with fail
  clear hmk
  go_loopw [14] (fun i wr => ∃ k : Nat, k ≤ s.floors.length ∧ i = .int .i64 k ∧ Blk wr w.heap.size (gcells (fillTo s.floors.length (fun (p : Nat) => (p : Int)) k)) 3 ∧ Up w wr) (fun i _ => s.floors.length - (intOf i).toNat)
  case atStart =>
    refine ⟨0, by omega, rfl, ?_, by (repeat (first | exact Below.refl _ _ | (with_reducible refine Below.drewN' ?_ _) | (with_reducible refine Below.drew ?_) | (with_reducible refine Below.setCell ?_ (by first | exact Nat.le_refl _ | omega | (with_reducible (repeat (first | refine sz_alloc ?_ | refine sz_setCell ?_ | refine sz_drew ?_ | refine sz_drewN ?_)); first | exact Nat.le_refl _ | omega) | (simp only [World.size_alloc, World.size_setCell, World.size_drew, size_drewN']; omega)) _) | (with_reducible refine Below.alloc ?_ (by first | exact Nat.le_refl _ | omega | (with_reducible (repeat (first | refine sz_alloc ?_ | refine sz_setCell ?_ | refine sz_drew ?_ | refine sz_drewN ?_)); first | exact Nat.le_refl _ | omega) | (simp only [World.size_alloc, World.size_setCell, World.size_drew, size_drewN']; omega)) _) | assumption))⟩
    have : (madeCells #[Value.int .i64 0] s.floors.length) = (gcells (fillTo s.floors.length (fun (p : Nat) => (p : Int)) 0)).toArray := by
      apply Array.toList_inj.1
      rw [toList_madeCells_one]
      simp [gcells, fillTo]
    rw [this]
    exact Blk.new _ _ _
  case round =>
    obtain ⟨k, hk, rfl, hB, hu⟩ := hrel
    have c0 := hB.cell k
    have f0 := hB.free k
    have HB := Lib.hid hB
    have HU := Lib.hid hu
    clear hB hu
    by_cases hlt : k < s.floors.length
    · have k1 : (k : Int) < s.floors.length := by omega
      rw [gcells, List.getElem?_map, List.getElem?_eq_getElem (by rw [fillTo_len hk]; exact hlt)] at c0
      simp only [Option.map_some] at c0
      go_wp2_with fail
      go_roundw
      case rel =>
        refine ⟨k + 1, hlt, by go_num, ?_, HU.out.setCell (by simp) _⟩
        have := HB.out.set k (.int .i64 (k : Int))
        rw [gcells, ← List.map_set, fillTo_set (f := fun (p : Nat) => (p : Int)) hlt] at this
        exact this
      case measure => simp [intOf]; omega
    · obtain rfl : k = s.floors.length := by omega
      clear c0
      go_wp2_with fail
      go_ret
      refine ⟨_, _, rfl, Nat.le_refl _, by simp [maxLen]; omega, ?_, HU.out⟩
      have := HB.out
      rw [fillTo_end] at this
      exact Row.of_blk this
end
end Go.Proofs.YtknaajofcbenaaaGreat
/- What the layer's Flood returns. -/
namespace Go.Proofs.YtknaajofcbenaaaGreat
open Go.RowKit Go.Shelf
/-- the places that are dry at a minute -/
def dryL (s : Sd) (m : Int) : List Int := (allP s).filter fun p => st s m p.toNat == 0
/-- one of some places isn't dry -/
def wetAny (s : Sd) (D : List Int) (t : Int) : Bool := D.any fun p => st s t p.toNat != 0
/-- the first of n minutes behind t -/
def flo (f : Int → Bool) (t : Int) : Nat → Option Int
  | 0 => none
  | n + 1 => if f (t + 1) = true then some (t + 1) else flo f (t + 1) n
def floodT (s : Sd) (m : Int) : Option Int := flo (wetAny s (dryL s m)) m (lastM s.table - m).toNat
def errFlood (s : Sd) (m : Int) : Int := if errAt s m = 0 then (if floodT s m = none then 6 else 0) else errAt s m
def floodV (s : Sd) (m : Int) : Int × List Int := if errAt s m = 0 then (match floodT s m with | some t => (t, (dryL s m).filter fun p => st s t p.toNat != 0) | none => (0, [])) else (0, [])

theorem en_flood1 : Enters Tryz.prog 64 := enters_of Tryz.func64 (by kernel_rfl) rfl
theorem en_flood2 : Enters Tryz.prog 68 := enters_of Tryz.func68 (by kernel_rfl) rfl
theorem mem_allP {s : Sd} {x : Int} (h : x ∈ allP s) : ∃ p : Nat, x = p ∧ p < s.floors.length := by
  unfold allP at h
  obtain ⟨p, hp, rfl⟩ := List.mem_map.1 h
  exact ⟨p, rfl, List.mem_range.1 hp⟩
section
variable {pT pF pS : Option Addr} {cT cF cS : Nat}
set_option maxRecDepth 100000 in
set_option maxHeartbeats 1000000 in
theorem flood1_c (bw b7 b3 : Nat) (s : Sd) (m : Int) (p : Nat) (w : World) (hw : IsWork w bw s pT pF pS cT cF cS) (ok : Ok s) (hm : firstM s.table ≤ m) (hp : p < 8) (c7 : w.cell? ⟨b7, 0, none⟩ = some (.pointer (some ⟨bw, 0, none⟩))) (c3 : w.cell? ⟨b3, 0, none⟩ = some (.int .i64 m)) :
    Calls Tryz.prog 64 #[.int .i64 p, .pointer (some ⟨b7, 0, none⟩), .pointer (some ⟨b3, 0, none⟩)] w fun e w' => e = .returned (.bool (st s m p == 0)) ∧ Up w w' := by
  have HS := Lib.hid (fun W (u : Up w W) => state_c bw s m p W (hw.up u) ok hm hp)
  clear hw ok
  go_enter Tryz.func64, Tryz.ntmps64
  go_wp2_with fail
  refine (HS.out _ (Below.refl _ _)).mono ?_
  rintro e w1 ⟨rfl, u1⟩
  have U1 := Lib.hid u1
  clear u1
  go_wp2_with fail
  refine (isDry_c (st s m p) w1).mono ?_
  rintro e w2 ⟨rfl, rfl⟩
  go_wp2_with fail
  go_ret
  exact ⟨rfl, U1.out⟩
set_option maxRecDepth 100000 in
set_option maxHeartbeats 1000000 in
theorem flood2_c (bw b7 b3 : Nat) (s : Sd) (m : Int) (p : Nat) (w : World) (hw : IsWork w bw s pT pF pS cT cF cS) (ok : Ok s) (hm : firstM s.table ≤ m) (hp : p < 8) (c7 : w.cell? ⟨b7, 0, none⟩ = some (.pointer (some ⟨bw, 0, none⟩))) (c3 : w.cell? ⟨b3, 0, none⟩ = some (.int .i64 m)) :
    Calls Tryz.prog 68 #[.int .i64 p, .pointer (some ⟨b7, 0, none⟩), .pointer (some ⟨b3, 0, none⟩)] w fun e w' => e = .returned (.bool (st s m p != 0)) ∧ Up w w' := by
  have HS := Lib.hid (fun W (u : Up w W) => state_c bw s m p W (hw.up u) ok hm hp)
  clear hw ok
  go_enter Tryz.func68, Tryz.ntmps68
  go_wp2_with fail
  refine (HS.out _ (Below.refl _ _)).mono ?_
  rintro e w1 ⟨rfl, u1⟩
  have U1 := Lib.hid u1
  clear u1
  go_wp2_with fail
  refine (isDry_c (st s m p) w1).mono ?_
  rintro e w2 ⟨rfl, rfl⟩
  go_wp2_with fail
  go_ret
  exact ⟨rfl, U1.out⟩

set_option maxRecDepth 100000 in
set_option maxHeartbeats 4000000 in
theorem Flood_c (s : Sd) (m : Int) (w : World) (hl : Lists w s pT pF pS cT cF cS) :
    Calls Tryz.prog 21 #[sdVal s pT pF pS cT cF cS, .int .i64 m] w fun e w' => ∃ q d, e = .returned (.tuple #[.int .i64 (floodV s m).1, .slice q (floodV s m).2.length d, .int .i64 (errFlood s m)]) ∧ Row w' q 1 (ints (floodV s m).2) ∧ Up w w' := by
  have HC := Lib.hid (fun W (u : Up w W) => beginAt_c s m W (hl.up u))
  clear hl
  by_cases hE : errAt s m = 0
  · have hc : chk s = 0 := by
      unfold errAt at hE
      by_cases hk : chk s = 0
      · exact hk
      · rw [if_neg hk] at hE; exact absurd hE hk
    have OK := Lib.hid (chk_ok hc)
    have hd : inDay s m = true := by
      unfold errAt at hE
      rw [if_pos hc] at hE
      cases h : inDay s m
      · rw [h] at hE; cases hE
      · rfl
    have hd2 := inB_true.1 hd
    obtain ⟨ht1, ht2, ht3, ht4⟩ := OK.out.table
    obtain ⟨f0, f1, f2⟩ := firstM_lt OK.out.table
    have f8 := OK.out.fl1
    have HEF : Hid (errFlood s m = if floodT s m = none then 6 else 0) := by show _ = _; unfold errFlood; rw [if_pos hE]
    have HV1 : Hid (floodT s m = none → floodV s m = (0, [])) := fun h => by unfold floodV; rw [if_pos hE, h]
    have HV2 : Hid (∀ t, floodT s m = some t → floodV s m = (t, (dryL s m).filter fun p => st s t p.toNat != 0)) := fun t h => by unfold floodV; rw [if_pos hE, h]
    rw [hE] at HC
    clear hE hc hd
    unfold sdVal at *
    have B3 : Hid (Blk ((w.alloc (.cells #[.slice pT s.table.length cT, .int .i64 s.lo, .int .i64 s.hi, .slice pF s.floors.length cF, .slice pS s.sills.length cS] 28)).alloc (.cells #[.int .i64 m] 3)) (w.heap.size + 1) [.int .i64 m] 3) := Lib.hid (Blk.new' _ [.int .i64 m] _ (by simp))
    have U0 : Hid (Up w ((w.alloc (.cells #[.slice pT s.table.length cT, .int .i64 s.lo, .int .i64 s.hi, .slice pF s.floors.length cF, .slice pS s.sills.length cS] 28)).alloc (.cells #[.int .i64 m] 3))) := Lib.hid (by (repeat (first | exact Below.refl _ _ | (with_reducible refine Below.drewN' ?_ _) | (with_reducible refine Below.drew ?_) | (with_reducible refine Below.setCell ?_ (by first | exact Nat.le_refl _ | omega | (with_reducible (repeat (first | refine sz_alloc ?_ | refine sz_setCell ?_ | refine sz_drew ?_ | refine sz_drewN ?_)); first | exact Nat.le_refl _ | omega) | (simp only [World.size_alloc, World.size_setCell, World.size_drew, size_drewN']; omega)) _) | (with_reducible refine Below.alloc ?_ (by first | exact Nat.le_refl _ | omega | (with_reducible (repeat (first | refine sz_alloc ?_ | refine sz_setCell ?_ | refine sz_drew ?_ | refine sz_drewN ?_)); first | exact Nat.le_refl _ | omega) | (simp only [World.size_alloc, World.size_setCell, World.size_drew, size_drewN']; omega)) _) | assumption)))
    have HC0 := Lib.hid (HC.out _ U0.out)
    clear HC
    go_enter Tryz.func21, Tryz.ntmps21
    go_wp2_with fail
    go_step3
    go_wp2_with fail
    refine HC0.out.mono ?_
    rintro e w1 ⟨p, rfl, u1, hok⟩
    obtain ⟨bw, rfl, hW⟩ := hok rfl
    have U1 := Lib.hid (Up.trans U0.out u1)
    have B31 := Lib.hid (B3.out.up u1)
    have HW := Lib.hid hW
    clear hok hW u1 B3 U0 HC0
    go_wp2_with fail
    refine Calls.world ?_
    intro w2 hw2
    have b7 : Blk w2 w1.heap.size [.pointer (some ⟨bw, 0, none⟩)] 106 := by
      rw [hw2]
      first
        | exact Blk.new w1 [.pointer (some ⟨bw, 0, none⟩)] _
        | exact (Blk.new w1 [.pointer none] _).set 0 _
    have u2 : Up w1 w2 := by rw [hw2]; (repeat (first | exact Below.refl _ _ | (with_reducible refine Below.drewN' ?_ _) | (with_reducible refine Below.drew ?_) | (with_reducible refine Below.setCell ?_ (by first | exact Nat.le_refl _ | omega | (with_reducible (repeat (first | refine sz_alloc ?_ | refine sz_setCell ?_ | refine sz_drew ?_ | refine sz_drewN ?_)); first | exact Nat.le_refl _ | omega) | (simp only [World.size_alloc, World.size_setCell, World.size_drew, size_drewN']; omega)) _) | (with_reducible refine Below.alloc ?_ (by first | exact Nat.le_refl _ | omega | (with_reducible (repeat (first | refine sz_alloc ?_ | refine sz_setCell ?_ | refine sz_drew ?_ | refine sz_drewN ?_)); first | exact Nat.le_refl _ | omega) | (simp only [World.size_alloc, World.size_setCell, World.size_drew, size_drewN']; omega)) _) | assumption))
    have B7 := Lib.hid b7
    have U2 := Lib.hid u2
    have B32 := Lib.hid (B31.out.up u2)
    clear hw2 b7 u2 B31
    refine (allPlaces_c bw s w2 (HW.out.up U2.out) f8).mono ?_
    rintro e w3 ⟨q0, d0, rfl, -, -, r0, u⟩
    have U3 := Lib.hid (Up.trans U2.out u)
    have B73 := Lib.hid (B7.out.up u)
    have B33 := Lib.hid (B32.out.up u)
    have R0 := Lib.hid r0
    clear u r0 U2 B7 B32
    go_wp2_with fail
    refine (those_c 64 #[] #[.pointer (some ⟨w1.heap.size, 0, none⟩), .pointer (some ⟨w.heap.size + 1, 0, none⟩)] q0 d0 (allP s) (fun p => st s m p.toNat == 0) w3 R0.out (by rw [allP_len]; omega) en_flood1 (fun y hy W u => by
      obtain ⟨p, rfl, hp⟩ := mem_allP hy
      have k := flood1_c bw w1.heap.size (w.heap.size + 1) s m p W (HW.out.up (Up.trans U3.out u)) OK.out hd2.1 (by omega) ((B73.out.up u).cell 0) ((B33.out.up u).cell 0)
      exact k)).mono ?_
    rintro e w4 ⟨q1, d1, rfl, -, -, r1, u⟩
    have U4 := Lib.hid (Up.trans U3.out u)
    have B74 := Lib.hid (B73.out.up u)
    have B34 := Lib.hid (B33.out.up u)
    have R1 : Hid (Row w4 q1 1 (ints (dryL s m))) := r1
    rw [show (allP s).filter (fun p => st s m p.toNat == 0) = dryL s m from rfl]
    have HDm : Hid (∀ y ∈ dryL s m, ∃ p : Nat, y = p ∧ p < s.floors.length) := fun y hy => mem_allP (List.mem_filter.1 hy).1
    have HDl : (dryL s m).length ≤ 8 := Nat.le_trans (List.length_filter_le _ _) (by rw [allP_len]; exact f8)
    have HFT : Hid (floodT s m = flo (wetAny s (dryL s m)) m (lastM s.table - m).toNat) := rfl
    clear u r1 U3 B73 B33 R0
    generalize dryL s m = D at *
    have c34 := B34.out.cell 0
    have c74 := B74.out.cell 0
    have l34 := B34.out.lt
    simp only [List.getElem?_cons_zero] at c34 c74
    go_upto_region 6 with fail
    refine Code.wp_world ?_
    intro w5 hw5
    have b10 : Blk w5 w4.heap.size [.int .i64 m] 3 := by
      rw [hw5]
      first
        | exact Blk.new w4 [.int .i64 m] _
        | exact (Blk.new w4 [.int .i64 0] _).set 0 _
    have u5 : Up w4 w5 := by rw [hw5]; (repeat (first | exact Below.refl _ _ | (with_reducible refine Below.drewN' ?_ _) | (with_reducible refine Below.drew ?_) | (with_reducible refine Below.setCell ?_ (by first | exact Nat.le_refl _ | omega | (with_reducible (repeat (first | refine sz_alloc ?_ | refine sz_setCell ?_ | refine sz_drew ?_ | refine sz_drewN ?_)); first | exact Nat.le_refl _ | omega) | (simp only [World.size_alloc, World.size_setCell, World.size_drew, size_drewN']; omega)) _) | (with_reducible refine Below.alloc ?_ (by first | exact Nat.le_refl _ | omega | (with_reducible (repeat (first | refine sz_alloc ?_ | refine sz_setCell ?_ | refine sz_drew ?_ | refine sz_drewN ?_)); first | exact Nat.le_refl _ | omega) | (simp only [World.size_alloc, World.size_setCell, World.size_drew, size_drewN']; omega)) _) | assumption))
    have U5 := Lib.hid (Up.trans U4.out u5)
    have c7 := (B74.out.up u5).cell 0
    have c3 := (B34.out.up u5).cell 0
    simp only [List.getElem?_cons_zero] at c7 c3
    have V5 := Lib.hid u5
    have B10 := Lib.hid b10
    clear hw5 u5 b10 c34 c74 l34
    have s1 : IntKind.i64.wrap (lastM s.table - m) = lastM s.table - m := IntWalk.i64_in _ (by omega)
    go_step3
    go_upto_region 6 with fail
    refine region_tail (fun W' => W'.cell? ⟨w1.heap.size, 0, none⟩ = some (.pointer (some ⟨bw, 0, none⟩)) ∧ W'.cell? ⟨w.heap.size + 1, 0, none⟩ = some (.int .i64 m)) 5 mixed (by kernel_rfl) ⟨c7, c3⟩ (fun hHeld => ?_)
    refine wpAnyG_take 0 28 (v := ?_) rfl rfl (by kernel_rfl) (fun _ _ _ h => h) (Or.inl ⟨by rfl, ?_⟩) (by assumption) ?_
    rotate_left
    · (intro w' hSw; (try dsimp only at hSw); go_split_ands; go_simp; try with_reducible rfl)
    try simp only [List.setIfInBounds_toArray, List.set_cons_zero, List.set_cons_succ]
    refine wpAnyG_take 2 30 (v := ?_) rfl rfl (by kernel_rfl) (fun _ _ _ h => h) (Or.inl ⟨by rfl, ?_⟩) (by assumption) ?_
    rotate_left
    · (intro w' hSw; (try dsimp only at hSw); go_split_ands; go_simp; try with_reducible rfl)
    try simp only [List.setIfInBounds_toArray, List.set_cons_zero, List.set_cons_succ]
    refine wpAnyG_take 4 32 (v := ?_) rfl rfl (by kernel_rfl) (fun _ _ _ h => h) (Or.inl ⟨by rfl, ?_⟩) (by assumption) ?_
    rotate_left
    · (intro w' hSw; (try dsimp only at hSw); go_split_ands; go_simp; try with_reducible rfl)
    try simp only [List.setIfInBounds_toArray, List.set_cons_zero, List.set_cons_succ]
    refine wpAnyG_do 1 rfl (by kernel_rfl) (fun K hK => ?_)
    rw [if_pos (by rfl)]
    go_simp
    refine (last_c bw s _ (HW.out.sands.up (Up.trans U5.out (Below.refl _ _).drew)) ht3 ht4).mono ?_
    rintro e w6 ⟨rfl, v6⟩
    have v6' : Up w5 w6 := Up.trans ((Below.refl _ _).drew) v6
    refine hK.out _ _ ⟨v6'.cellAt c7, v6'.cellAt c3⟩ (fun hHeld => ?_)
    clear hK K
    refine wpAnyG_take 3 31 (v := ?_) rfl rfl (by kernel_rfl) (fun _ _ _ h => h) (Or.inl ⟨by rfl, ?_⟩) (by assumption) ?_
    rotate_left
    · (intro w' hSw; (try dsimp only at hSw); go_split_ands; go_simp; try with_reducible rfl)
    try simp only [List.setIfInBounds_toArray, List.set_cons_zero, List.set_cons_succ]
    refine wpAnyG_tail (by kernel_rfl) ?_
    change wpList _ _ _ [] _ _
    have V6 := Lib.hid (Up.trans V5.out v6')
    have B106 := Lib.hid (B10.out.up v6')
    clear hHeld c7 c3 v6 v6' V5 B10 U5
    obtain ⟨N, hN⟩ := Int.eq_ofNat_of_zero_le (show 0 ≤ lastM s.table - m by omega)
    rw [show (lastM s.table - m).toNat = N by omega] at HFT
    rw [hN]
    have hlast : m + N ≤ 2000 := by omega
    have hfm := hd2.1
    clear s1 hN
    go_upto_block 0 with fail
    go_cut [11] (fun fl wx => ∃ t : Int, ((fl = .bool true ∧ flo (wetAny s D) m N = some t) ∨ (fl = .bool false ∧ flo (wetAny s D) m N = none)) ∧ firstM s.table ≤ t ∧ Blk wx w4.heap.size [.int .i64 t] 3 ∧ Up w4 wx)
    case first =>
      go_wp2_with fail
      go_loopw [11, 13, 32] (fun fl _ i wr => ∃ j : Nat, j ≤ N ∧ fl = .bool false ∧ i = .int .i64 j ∧ flo (wetAny s D) m N = flo (wetAny s D) (m + j) (N - j) ∧ Blk wr w4.heap.size [.int .i64 (m + j)] 3 ∧ Up w4 wr) (fun _ _ i _ => N - (intOf i).toNat)
      case atStart => exact ⟨0, Nat.zero_le _, rfl, rfl, by simp, by simpa using B106.out, V6.out⟩
      case round =>
        obtain ⟨j, hj, rfl, rfl, hf, hb, hu⟩ := hrel
        have HFj := Lib.hid hf
        have HB := Lib.hid hb
        have HU := Lib.hid hu
        clear hf hb hu
        by_cases hlt : j < N
        · have j1 : (j : Int) < (N : Int) := by omega
          have c10 := HB.out.cell 0
          have f10 := HB.out.free
          have l10 := HB.out.lt
          simp only [List.getElem?_cons_zero] at c10
          have s2 : IntKind.i64.wrap (m + (j : Int) + 1) = m + (j : Int) + 1 := IntWalk.i64_in _ (by omega)
          have HB2 : Hid (Blk (wr.setCell ⟨w4.heap.size, 0, none⟩ (.int .i64 (m + (j : Int) + 1))) w4.heap.size [.int .i64 (m + (j : Int) + 1)] 3) := HB.out.set 0 _
          have HU2 : Hid (Up w4 (wr.setCell ⟨w4.heap.size, 0, none⟩ (.int .i64 (m + (j : Int) + 1)))) := HU.out.setCell (by simp) _
          have HFs : Hid (flo (wetAny s D) (m + j) (N - j) = if wetAny s D (m + j + 1) = true then some (m + j + 1) else flo (wetAny s D) (m + j + 1) (N - (j + 1))) := by
            show _ = _
            rw [show N - j = (N - (j + 1)) + 1 by omega]
            rfl
          have ht0 : firstM s.table ≤ m + (j : Int) + 1 := by omega
          have j2 : ((j + 1 : Nat) : Int) = (j : Int) + 1 := by omega
          have HMJ := Lib.hid (show m + ((j + 1 : Nat) : Int) = m + (j : Int) + 1 by omega)
          clear HB HU
          go_wp2_with fail
          clear c10 f10 l10 s2
          generalize m + (j : Int) + 1 = t at *
          go_loopw [11, 13, 38] (fun fl _ i wx => ∃ k : Nat, k ≤ D.length ∧ fl = .bool false ∧ i = .int .i64 k ∧ (D.take k).any (fun p => st s t p.toNat != 0) = false ∧ Blk wx w4.heap.size [.int .i64 t] 3 ∧ Up w4 wx) (fun _ _ i _ => D.length - (intOf i).toNat)
          case atStart => exact ⟨0, Nat.zero_le _, rfl, rfl, rfl, HB2.out, HU2.out⟩
          case round =>
            obtain ⟨k, hk, rfl, rfl, ha, hb, hu⟩ := hrel
            have HA := Lib.hid ha
            have HB := Lib.hid hb
            have HU := Lib.hid hu
            clear ha hb
            by_cases hkl : k < D.length
            · obtain ⟨b, off, rfl, d0⟩ := (R1.out.up hu).int k hkl
              obtain ⟨p, hp, hp8⟩ := HDm.out D[k] (List.getElem_mem hkl)
              have HT := Lib.hid (show D.take (k + 1) = D.take k ++ [D[k]] from List.take_succ_eq_append_getElem hkl)
              have HM := Lib.hid (List.getElem_mem hkl)
              generalize D[k] = y at *
              subst hp
              have k1 : (k : Int) < (D.length : Int) := by omega
              have c7 := (B74.out.up hu).cell 0
              have c10 := HB.out.cell 0
              simp only [List.getElem?_cons_zero] at c7 c10
              clear hu
              go_wp2_with fail
              refine (state_c bw s t p _ (HW.out.up (Up.trans U4.out HU.out)) OK.out ht0 (by omega)).mono ?_
              rintro e w7 ⟨rfl, u⟩
              have U7 := Lib.hid (Up.trans HU.out u)
              have B7x := Lib.hid (HB.out.up u)
              clear u HU HB c7 c10 d0
              go_wp2_with fail
              refine (isDry_c (st s t p) w7).mono ?_
              rintro e w8 ⟨he, rfl⟩
              by_cases hs : st s t p = 0
              · rw [show (st s t p == 0) = true by rw [hs]; rfl] at he
                subst he
                have HS := Lib.hid hs
                clear hs
                go_wp2_with fail
                go_roundw
                case rel =>
                  try ((repeat apply Exists.intro); refine ⟨?_, rfl⟩)
                  refine ⟨k + 1, hkl, rfl, by go_num, ?_, B7x.out, U7.out⟩
                  rw [HT.out, List.any_append, HA.out]
                  simp [HS.out]
                case measure => simp [intOf]; omega
              · rw [show (st s t p == 0) = false from beq_eq_false_iff_ne.2 hs] at he
                subst he
                have HX : Hid (flo (wetAny s D) m N = some t) := by
                  show _ = _
                  rw [HFj.out, HFs.out, if_pos]
                  unfold wetAny
                  rw [List.any_eq_true]
                  exact ⟨_, HM.out, by rw [Int.toNat_natCast, bne_iff_ne]; exact hs⟩
                clear hs
                go_wp2_with fail
                go_meet
                exact ⟨t, .inl ⟨rfl, HX.out⟩, ht0, B7x.out, U7.out⟩
            · obtain rfl : k = D.length := by omega
              have HX : Hid (flo (wetAny s D) m N = flo (wetAny s D) t (N - (j + 1))) := by
                show _ = _
                rw [HFj.out, HFs.out, if_neg]
                have := HA.out
                rw [List.take_length] at this
                unfold wetAny
                rw [this]
                decide
              clear hu
              go_wp2_with fail
              go_roundw
              case rel =>
                try ((repeat apply Exists.intro); refine ⟨?_, rfl⟩)
                exact ⟨j + 1, hlt, rfl, by go_num, by rw [HMJ.out]; exact HX.out, by rw [HMJ.out]; exact HB.out, HU.out⟩
              case measure => simp [intOf]; omega
        · obtain rfl : j = N := by omega
          have HX : Hid (flo (wetAny s D) m j = none) := by
            show _ = _
            rw [HFj.out, Nat.sub_self]
            rfl
          go_wp2_with fail
          go_meet
          exact ⟨m + j, .inr ⟨rfl, HX.out⟩, by omega, HB.out, HU.out⟩
    case rest =>
      obtain ⟨t, hh, ht0, hb, hu⟩ := hcut
      have HB := Lib.hid hb
      have HU := Lib.hid hu
      clear V6 B106
      generalize wc = w6 at *
      rcases hh with ⟨rfl, hfl⟩ | ⟨rfl, hfl⟩
      · have hft : floodT s m = some t := HFT.out.trans hfl
        have HX : Hid (errFlood s m = 0) := by show _ = _; rw [HEF.out, hft]; rfl
        have HY := Lib.hid (HV2.out t hft)
        clear hfl hft hb
        have c7 := (B74.out.up hu).cell 0
        have c10 := HB.out.cell 0
        simp only [List.getElem?_cons_zero] at c7 c10
        have l7 := (B74.out.up hu).lt
        have l10 := HB.out.lt
        clear hu
        go_upto_region 18 with fail
        refine region_tail (fun W' => W'.cell? ⟨w1.heap.size, 0, none⟩ = some (.pointer (some ⟨bw, 0, none⟩)) ∧ W'.cell? ⟨w4.heap.size, 0, none⟩ = some (.int .i64 t)) 7 mixed (by kernel_rfl) ⟨c7, c10⟩ (fun hHeld => ?_)
        refine wpAnyG_take 0 52 (v := ?_) rfl rfl (by kernel_rfl) (fun _ _ _ h => h) (Or.inl ⟨by rfl, ?_⟩) (by assumption) ?_
        rotate_left
        · (intro w' hSw; (try dsimp only at hSw); go_split_ands; go_simp; try with_reducible rfl)
        try simp only [List.setIfInBounds_toArray, List.set_cons_zero, List.set_cons_succ]
        refine wpAnyG_take 1 53 (v := ?_) rfl rfl (by kernel_rfl) (fun _ _ _ h => h) (Or.inl ⟨by rfl, ?_⟩) (by assumption) ?_
        rotate_left
        · (intro w' hSw; (try dsimp only at hSw); go_split_ands; go_simp; try with_reducible rfl)
        try simp only [List.setIfInBounds_toArray, List.set_cons_zero, List.set_cons_succ]
        refine wpAnyG_take 2 54 (v := ?_) rfl rfl (by kernel_rfl) (fun _ _ _ h => h) (Or.inl ⟨by rfl, ?_⟩) (by assumption) ?_
        rotate_left
        · (intro w' hSw; (try dsimp only at hSw); go_split_ands; go_simp; try with_reducible rfl)
        try simp only [List.setIfInBounds_toArray, List.set_cons_zero, List.set_cons_succ]
        refine wpAnyG_do 3 rfl (by kernel_rfl) (fun K hK => ?_)
        rw [if_pos (by rfl)]
        go_simp
        refine (those_c 68 #[] #[.pointer (some ⟨w1.heap.size, 0, none⟩), .pointer (some ⟨w4.heap.size, 0, none⟩)] q1 d1 D (fun p => st s t p.toNat != 0) _ (R1.out.up (Up.trans HU.out (Below.refl _ _).drew)) (by omega) en_flood2 (fun y hy W u => by
          obtain ⟨p, rfl, hp⟩ := HDm.out y hy
          have v := Up.trans (Below.refl _ _).drew u
          have k := flood2_c bw w1.heap.size w4.heap.size s t p W (HW.out.up (Up.trans U4.out (Up.trans HU.out v))) OK.out ht0 (by omega) (v.cellAt c7) (v.cellAt c10)
          exact k)).mono ?_
        rintro e w7 ⟨q2, d2, rfl, -, -, r2, v⟩
        have v' : Up w6 w7 := Up.trans ((Below.refl _ _).drew) v
        refine hK.out _ _ ⟨v'.cellAt c7, v'.cellAt c10⟩ (fun hHeld => ?_)
        clear hK K
        refine wpAnyG_take 4 4 (v := ?_) rfl rfl (by kernel_rfl) (fun _ _ _ h => h) (Or.inl ⟨by rfl, ?_⟩) (by assumption) ?_
        rotate_left
        · (intro w' hSw; (try dsimp only at hSw); go_split_ands; go_simp; try with_reducible rfl)
        try simp only [List.setIfInBounds_toArray, List.set_cons_zero, List.set_cons_succ]
        refine wpAnyG_take 5 5 (v := ?_) rfl rfl (by kernel_rfl) (fun _ _ _ h => h) (Or.inl ⟨by rfl, ?_⟩) (by assumption) ?_
        rotate_left
        · (intro w' hSw; (try dsimp only at hSw); go_split_ands; go_simp; try with_reducible rfl)
        try simp only [List.setIfInBounds_toArray, List.set_cons_zero, List.set_cons_succ]
        refine wpAnyG_take 6 6 (v := ?_) rfl rfl (by kernel_rfl) (fun _ _ _ h => h) (Or.inl ⟨by rfl, ?_⟩) (by assumption) ?_
        rotate_left
        · (intro w' hSw; (try dsimp only at hSw); go_split_ands; go_simp; try with_reducible rfl)
        try simp only [List.setIfInBounds_toArray, List.set_cons_zero, List.set_cons_succ]
        refine wpAnyG_tail (by kernel_rfl) ?_
        change wpList _ _ _ [] _ _
        have R2 := Lib.hid r2
        have U7 := Lib.hid (Up.trans U1.out (Up.trans U4.out (Up.trans HU.out v')))
        clear hHeld c7 c10 r2 v v'
        go_wp2_with fail
        try rw [Exit.noGoto_ret]
        refine bodyPost_ret (v := .tuple #[.int .i64 t, .slice q2 (D.filter fun p => st s t p.toNat != 0).length d2, .int .i64 0]) (by simp [results, Tryz.f21, go_sem]) rfl ?_
        rw [HX.out, HY.out]
        exact ⟨q2, d2, rfl, R2.out, U7.out⟩
      · have hft : floodT s m = none := HFT.out.trans hfl
        have HX : Hid (errFlood s m = 6) := by show _ = _; rw [HEF.out, hft]; rfl
        have HY := Lib.hid (HV1.out hft)
        clear hfl hft hb hu
        go_wp2_with fail
        try rw [Exit.noGoto_ret]
        refine bodyPost_ret (v := .tuple #[.int .i64 0, .slice none 0 0, .int .i64 6]) (by simp [results, Tryz.f21, go_sem]) rfl ?_
        rw [HX.out, HY.out]
        exact ⟨none, 0, rfl, Row.nil _ _ _, Up.trans U1.out (Up.trans U4.out HU.out)⟩
  · have hne : (errAt s m != 0) = true := by rw [bne_iff_ne]; exact hE
    have HX : Hid (errFlood s m = errAt s m) := by show _ = _; unfold errFlood; rw [if_neg hE]
    have HY : Hid (floodV s m = (0, [])) := by show _ = _; unfold floodV; rw [if_neg hE]
    clear hE
    unfold sdVal at *
    have U0 : Hid (Up w ((w.alloc (.cells #[.slice pT s.table.length cT, .int .i64 s.lo, .int .i64 s.hi, .slice pF s.floors.length cF, .slice pS s.sills.length cS] 28)).alloc (.cells #[.int .i64 m] 3))) := Lib.hid (by (repeat (first | exact Below.refl _ _ | (with_reducible refine Below.drewN' ?_ _) | (with_reducible refine Below.drew ?_) | (with_reducible refine Below.setCell ?_ (by first | exact Nat.le_refl _ | omega | (with_reducible (repeat (first | refine sz_alloc ?_ | refine sz_setCell ?_ | refine sz_drew ?_ | refine sz_drewN ?_)); first | exact Nat.le_refl _ | omega) | (simp only [World.size_alloc, World.size_setCell, World.size_drew, size_drewN']; omega)) _) | (with_reducible refine Below.alloc ?_ (by first | exact Nat.le_refl _ | omega | (with_reducible (repeat (first | refine sz_alloc ?_ | refine sz_setCell ?_ | refine sz_drew ?_ | refine sz_drewN ?_)); first | exact Nat.le_refl _ | omega) | (simp only [World.size_alloc, World.size_setCell, World.size_drew, size_drewN']; omega)) _) | assumption)))
    have HC0 := Lib.hid (HC.out _ U0.out)
    clear HC
    go_enter Tryz.func21, Tryz.ntmps21
    go_wp2_with fail
    go_step3
    go_wp2_with fail
    refine HC0.out.mono ?_
    rintro e w1 ⟨p, rfl, u1, -⟩
    have U1 := Lib.hid (Up.trans U0.out u1)
    clear u1 U0 HC0
    go_wp2_with fail
    try rw [Exit.noGoto_ret]
    refine bodyPost_ret (v := .tuple #[.int .i64 0, .slice none 0 0, .int .i64 (errAt s m)]) (by simp [results, Tryz.f21, go_sem]) rfl ?_
    rw [HX.out, HY.out]
    exact ⟨none, 0, rfl, Row.nil _ _ _, Up.trans U1.out (by (repeat (first | exact Below.refl _ _ | (with_reducible refine Below.drewN' ?_ _) | (with_reducible refine Below.drew ?_) | (with_reducible refine Below.setCell ?_ (by first | exact Nat.le_refl _ | omega | (with_reducible (repeat (first | refine sz_alloc ?_ | refine sz_setCell ?_ | refine sz_drew ?_ | refine sz_drewN ?_)); first | exact Nat.le_refl _ | omega) | (simp only [World.size_alloc, World.size_setCell, World.size_drew, size_drewN']; omega)) _) | (with_reducible refine Below.alloc ?_ (by first | exact Nat.le_refl _ | omega | (with_reducible (repeat (first | refine sz_alloc ?_ | refine sz_setCell ?_ | refine sz_drew ?_ | refine sz_drewN ?_)); first | exact Nat.le_refl _ | omega) | (simp only [World.size_alloc, World.size_setCell, World.size_drew, size_drewN']; omega)) _) | assumption)))⟩
end
end Go.Proofs.YtknaajofcbenaaaGreat
/- Plain facts: the reference's least crests, by letting crests fall from sill to sill as many times as there are places. -/
namespace Go.Proofs.YtknaajofcbenaaaGreat
section
open Go.RowKit

/-- the crest over one sill more -/
def ovr (s : Sd) (g : List Int) (a b h : Int) : Int := max (max (if 0 ≤ a then g[a.toNat]?.getD 0 else 0) h) (s.floors[b.toNat]?.getD 0)
def relB (s : Sd) (ss ps : List Int) (i : Nat) (g : List Int) (a b h : Int) : List Int :=
  if 0 ≤ b ∧ (i : Int) ∉ ss ∧ b ∉ ps then g.set b.toNat (min (g[b.toNat]?.getD 0) (ovr s g a b h)) else g
def rsill (s : Sd) (ss ps : List Int) (g : List Int) (i : Nat) (x : Int × Int × Int) : List Int := relB s ss ps i (relB s ss ps i g x.1 x.2.1 x.2.2) x.2.1 x.1 x.2.2
def rpass (s : Sd) (ss ps : List Int) (g : List Int) : Nat → List Int
  | 0 => g
  | k + 1 => rsill s ss ps (rpass s ss ps g k) k (s.sills[k]?.getD (0, 0, 0))
def rounds (s : Sd) (ss ps : List Int) : Nat → List Int
  | 0 => List.replicate s.floors.length 5000
  | k + 1 => rpass s ss ps (rounds s ss ps k) s.sills.length
/-- the least crests without some sills and places -/
def lowR (s : Sd) (ss ps : List Int) : List Int := rounds s ss ps s.floors.length

section
variable {s : Sd} {ss ps : List Int} {c : Int}
theorem relB_len (i : Nat) (g : List Int) (a b h : Int) : (relB s ss ps i g a b h).length = g.length := by
  unfold relB
  split <;> simp
theorem rsill_len (g : List Int) (i : Nat) (x : Int × Int × Int) : (rsill s ss ps g i x).length = g.length := by unfold rsill; rw [relB_len, relB_len]
theorem rpass_len (g : List Int) : ∀ k, (rpass s ss ps g k).length = g.length
  | 0 => rfl
  | k + 1 => by unfold rpass; rw [rsill_len, rpass_len]
theorem rounds_len : ∀ k, (rounds s ss ps k).length = s.floors.length
  | 0 => by simp [rounds]
  | k + 1 => by unfold rounds; rw [rpass_len, rounds_len]

/-- what holds at the start, and with each sill, holds at the end -/
theorem rounds_inv (I : List Int → Prop) (h0 : I (List.replicate s.floors.length 5000))
    (step : ∀ (g : List Int) (i : Nat) (hi : i < s.sills.length) (a b : Int), g.length = s.floors.length → (a, b) = (s.sills[i].1, s.sills[i].2.1) ∨ (a, b) = (s.sills[i].2.1, s.sills[i].1) → I g → I (relB s ss ps i g a b s.sills[i].2.2)) : ∀ k, I (rounds s ss ps k)
  | 0 => h0
  | k + 1 => by
    have h := rounds_inv I h0 step k
    have hl := rounds_len (s := s) (ss := ss) (ps := ps) k
    unfold rounds
    generalize rounds s ss ps k = g at *
    have key : ∀ n, n ≤ s.sills.length → I (rpass s ss ps g n) := by
      intro n
      induction n with
      | zero => exact fun _ => h
      | succ n ih =>
        intro hn
        have h1 := ih (by omega)
        have l1 : (rpass s ss ps g n).length = s.floors.length := by rw [rpass_len, hl]
        unfold rpass rsill
        rw [List.getElem?_eq_getElem (show n < s.sills.length by omega), Option.getD_some]
        have h2 := step _ n (by omega) _ _ l1 (.inl rfl) h1
        exact step _ n (by omega) _ _ (by rw [relB_len]; exact l1) (.inr rfl) h2
    exact key _ (Nat.le_refl _)

/-- closed under what lets water of this height through -/
def ClE (s : Sd) (ss ps : List Int) (c : Int) (g : List Int) (i : Nat) (a b h : Int) : Prop :=
  0 ≤ b → (i : Int) ∉ ss → b ∉ ps → h ≤ c → s.floors[b.toNat]?.getD 0 ≤ c → (a = -1 ∨ g[a.toNat]?.getD 0 ≤ c) → g[b.toNat]?.getD 0 ≤ c
/-- the same are not above -/
def SameAt (c : Int) (g g' : List Int) : Prop := ∀ p : Nat, g'[p]?.getD 0 ≤ c ↔ g[p]?.getD 0 ≤ c
theorem SameAt.cl {g g' : List Int} (h : SameAt c g g') {i : Nat} {a b x : Int} (k : ClE s ss ps c g' i a b x) : ClE s ss ps c g i a b x := by
  intro h1 h2 h3 h4 h5 h6
  refine (h _).1 (k h1 h2 h3 h4 h5 ?_)
  rcases h6 with h6 | h6
  · exact .inl h6
  · exact .inr ((h _).2 h6)
theorem oc_le : ∀ (g g' : List Int), g'.length = g.length → (∀ p : Nat, p < g.length → g'[p]?.getD 0 ≤ g[p]?.getD 0) → oc c g' ≤ oc c g
  | [], [], _, _ => Nat.le_refl _
  | [], y :: r', h, _ => by simp at h
  | x :: r, [], h, _ => by simp at h
  | x :: r, y :: r', h, k => by
    have h0 := k 0 (by simp)
    simp only [List.getElem?_cons_zero, Option.getD_some] at h0
    have ih := oc_le r r' (by simpa using h) (fun p hp => by have := k (p + 1) (by simpa using hp); simpa using this)
    unfold oc at ih ⊢
    rw [List.countP_cons, List.countP_cons]
    by_cases e : c < y
    · rw [if_pos (by simpa using e), if_pos (by simp only [decide_eq_true_eq]; omega)]; omega
    · rw [if_neg (by simpa using e)]; omega
theorem oc_lt : ∀ (g g' : List Int) (b : Nat), g'.length = g.length → (∀ p : Nat, p < g.length → g'[p]?.getD 0 ≤ g[p]?.getD 0) → b < g.length → g'[b]?.getD 0 ≤ c → c < g[b]?.getD 0 → oc c g' < oc c g
  | [], _, _, _, _, hb, _, _ => by simp at hb
  | x :: r, [], _, h, _, _, _, _ => by simp at h
  | x :: r, y :: r', 0, h, k, _, h1, h2 => by
    have ih := oc_le (c := c) r r' (by simpa using h) (fun p hp => by have := k (p + 1) (by simpa using hp); simpa using this)
    simp only [List.getElem?_cons_zero, Option.getD_some] at h1 h2
    unfold oc at ih ⊢
    rw [List.countP_cons, List.countP_cons, if_neg (by simp only [decide_eq_true_eq]; omega), if_pos (by simpa using h2)]
    omega
  | x :: r, y :: r', b + 1, h, k, hb, h1, h2 => by
    have h0 := k 0 (by simp)
    simp only [List.getElem?_cons_zero, Option.getD_some] at h0
    have ih := oc_lt r r' b (by simpa using h) (fun p hp => by have := k (p + 1) (by simpa using hp); simpa using this) (by simpa using hb) (by simpa using h1) (by simpa using h2)
    unfold oc at ih ⊢
    rw [List.countP_cons, List.countP_cons]
    by_cases e : c < y
    · rw [if_pos (by simpa using e), if_pos (by simp only [decide_eq_true_eq]; omega)]; omega
    · rw [if_neg (by simpa using e)]; omega
theorem relB_down (i : Nat) (g : List Int) (a b h : Int) (p : Nat) (hb : b < g.length) : (relB s ss ps i g a b h)[p]?.getD 0 ≤ g[p]?.getD 0 := by
  unfold relB
  split
  · next hc =>
    rw [set_get g _ _ _ (by omega)]
    split
    · next e => subst e; omega
    · exact Int.le_refl _
  · exact Int.le_refl _
/-- one step: fewer are above, or the same; then the step is closed -/
theorem relB_or (c0 : 0 ≤ c) (i : Nat) (g : List Int) (a b h : Int) (ha : a = -1 ∨ 0 ≤ a) (hb : b < g.length) :
    oc c (relB s ss ps i g a b h) < oc c g ∨ (SameAt c g (relB s ss ps i g a b h) ∧ ClE s ss ps c g i a b h) := by
  by_cases hs : SameAt c g (relB s ss ps i g a b h)
  · right
    refine ⟨hs, fun h1 h2 h3 h4 h5 h6 => ?_⟩
    refine (hs b.toNat).1 ?_
    unfold relB
    rw [if_pos ⟨h1, h2, h3⟩, set_get g _ _ _ (by omega), if_pos rfl]
    have : ovr s g a b h ≤ c := by
      unfold ovr
      rcases h6 with rfl | h6
      · rw [if_neg (by decide)]; omega
      · split <;> omega
    omega
  · left
    have : ∃ p, ¬ ((relB s ss ps i g a b h)[p]?.getD 0 ≤ c ↔ g[p]?.getD 0 ≤ c) := Classical.not_forall.1 hs
    obtain ⟨p, hp⟩ := this
    have hd := relB_down (s := s) (ss := ss) (ps := ps) i g a b h p hb
    have h1 : (relB s ss ps i g a b h)[p]?.getD 0 ≤ c ∧ c < g[p]?.getD 0 := by
      by_cases e : g[p]?.getD 0 ≤ c
      · exact absurd ⟨fun _ => e, fun _ => by omega⟩ hp
      · refine ⟨?_, by omega⟩
        refine Decidable.byContradiction fun e' => hp ⟨fun k => absurd k e', fun k => absurd k e⟩
    have hpl : p < g.length := by
      refine Decidable.byContradiction fun e => ?_
      rw [List.getElem?_eq_none (show g.length ≤ p by omega)] at h1
      have := h1.2
      simp only [Option.getD_none] at this
      omega
    exact oc_lt g _ p (relB_len i g a b h) (fun q _ => relB_down i g a b h q hb) hpl h1.1 h1.2
/-- closed at all sills -/
def ClAll (s : Sd) (ss ps : List Int) (c : Int) (g : List Int) (n : Nat) : Prop := ∀ i (hi : i < s.sills.length), i < n → ClE s ss ps c g i s.sills[i].1 s.sills[i].2.1 s.sills[i].2.2 ∧ ClE s ss ps c g i s.sills[i].2.1 s.sills[i].1 s.sills[i].2.2
theorem SameAt.refl (g : List Int) : SameAt c g g := fun _ => Iff.rfl
theorem SameAt.trans {g g' g'' : List Int} (h : SameAt c g g') (k : SameAt c g' g'') : SameAt c g g'' := fun p => (k p).trans (h p)
theorem countP_same : ∀ {g g' : List Int}, g'.length = g.length → SameAt c g g' → oc c g' = oc c g
  | [], [], _, _ => rfl
  | [], y :: r', h, _ => by simp at h
  | x :: r, [], h, _ => by simp at h
  | x :: r, y :: r', h, k => by
    have h0 := k 0
    simp only [List.getElem?_cons_zero, Option.getD_some] at h0
    have ih := countP_same (g := r) (g' := r') (by simpa using h) (fun p => by have := k (p + 1); simpa using this)
    unfold oc at ih ⊢
    rw [List.countP_cons, List.countP_cons, ih]
    by_cases e : c < y
    · rw [if_pos (by simpa using e), if_pos (by simp only [decide_eq_true_eq]; omega)]
    · rw [if_neg (by simpa using e), if_neg (by simp only [decide_eq_true_eq]; omega)]
theorem rpass_or (ok : Ok s) (c0 : 0 ≤ c) (g : List Int) (hg : g.length = s.floors.length) : ∀ n, n ≤ s.sills.length → oc c (rpass s ss ps g n) < oc c g ∨ (SameAt c g (rpass s ss ps g n) ∧ ClAll s ss ps c g n)
  | 0, _ => .inr ⟨SameAt.refl _, fun i hi h => absurd h (by omega)⟩
  | n + 1, hn => by
    have ih := rpass_or ok c0 g hg n (by omega)
    have l1 := rpass_len (s := s) (ss := ss) (ps := ps) g n
    have hx := EndOk.of ok (List.getElem_mem (show n < s.sills.length by omega))
    obtain ⟨e1, e2, -⟩ := hx
    have hr : rpass s ss ps g (n + 1) = relB s ss ps n (relB s ss ps n (rpass s ss ps g n) s.sills[n].1 s.sills[n].2.1 s.sills[n].2.2) s.sills[n].2.1 s.sills[n].1 s.sills[n].2.2 := by
      show rsill s ss ps (rpass s ss ps g n) n (s.sills[n]?.getD (0, 0, 0)) = _
      rw [List.getElem?_eq_getElem (show n < s.sills.length by omega), Option.getD_some]
      rfl
    rw [hr]
    generalize rpass s ss ps g n = u at *
    have k1 := relB_or (s := s) (ss := ss) (ps := ps) c0 n u s.sills[n].1 s.sills[n].2.1 s.sills[n].2.2 (by omega) (by omega)
    have d1 := oc_le (c := c) u (relB s ss ps n u s.sills[n].1 s.sills[n].2.1 s.sills[n].2.2) (relB_len ..) (fun p _ => relB_down n u _ _ _ p (by omega))
    have l2 := relB_len (s := s) (ss := ss) (ps := ps) n u s.sills[n].1 s.sills[n].2.1 s.sills[n].2.2
    generalize relB s ss ps n u s.sills[n].1 s.sills[n].2.1 s.sills[n].2.2 = v at *
    have k2 := relB_or (s := s) (ss := ss) (ps := ps) c0 n v s.sills[n].2.1 s.sills[n].1 s.sills[n].2.2 (by omega) (by omega)
    have d2 := oc_le (c := c) v (relB s ss ps n v s.sills[n].2.1 s.sills[n].1 s.sills[n].2.2) (relB_len ..) (fun p _ => relB_down n v _ _ _ p (by omega))
    rcases ih with ih | ⟨ih1, ih2⟩
    · left; omega
    · rcases k1 with k1 | ⟨k1, k1'⟩
      · left
        have : oc c u = oc c g := countP_same l1 ih1
        omega
      · rcases k2 with k2 | ⟨k2, k2'⟩
        · left
          have e1 : oc c u = oc c g := countP_same l1 ih1
          have e2 : oc c v = oc c u := countP_same l2 k1
          omega
        · right
          refine ⟨(ih1.trans k1).trans k2, fun i hi h => ?_⟩
          by_cases e : i = n
          · subst e
            exact ⟨ih1.cl k1', (ih1.trans k1).cl k2'⟩
          · exact ih2 i hi (by omega)

/-- a closed step changes nothing at this height -/
theorem relB_same (i : Nat) (g : List Int) (a b h : Int) (ha : a = -1 ∨ 0 ≤ a) (hb : b < g.length) (k : ClE s ss ps c g i a b h) : SameAt c g (relB s ss ps i g a b h) := by
  intro p
  have hd := relB_down (s := s) (ss := ss) (ps := ps) i g a b h p hb
  refine ⟨fun h1 => ?_, fun h1 => by omega⟩
  unfold relB at h1
  split at h1
  · next hc =>
    rw [set_get g _ _ _ (by omega)] at h1
    split at h1
    · next e =>
      by_cases h2 : g[b.toNat]?.getD 0 ≤ c
      · rw [← e]; exact h2
      · have h3 : ovr s g a b h ≤ c := by omega
        unfold ovr at h3
        rw [← e]
        refine k hc.1 hc.2.1 hc.2.2 (by omega) (by omega) ?_
        rcases ha with ha | ha
        · exact .inl ha
        · rw [if_pos ha] at h3; exact .inr (by omega)
    · exact h1
  · exact h1
theorem rpass_same (ok : Ok s) (g : List Int) (hg : g.length = s.floors.length) (k : ClAll s ss ps c g s.sills.length) : ∀ n, n ≤ s.sills.length → SameAt c g (rpass s ss ps g n)
  | 0, _ => SameAt.refl _
  | n + 1, hn => by
    have ih := rpass_same ok g hg k n (by omega)
    have l1 := rpass_len (s := s) (ss := ss) (ps := ps) g n
    obtain ⟨e1, e2, -⟩ := EndOk.of ok (List.getElem_mem (show n < s.sills.length by omega))
    obtain ⟨k1, k2⟩ := k n (by omega) (by omega)
    have hr : rpass s ss ps g (n + 1) = relB s ss ps n (relB s ss ps n (rpass s ss ps g n) s.sills[n].1 s.sills[n].2.1 s.sills[n].2.2) s.sills[n].2.1 s.sills[n].1 s.sills[n].2.2 := by
      show rsill s ss ps (rpass s ss ps g n) n (s.sills[n]?.getD (0, 0, 0)) = _
      rw [List.getElem?_eq_getElem (show n < s.sills.length by omega), Option.getD_some]
      rfl
    rw [hr]
    generalize rpass s ss ps g n = u at *
    have sy : ∀ {x y : List Int}, SameAt c x y → SameAt c y x := fun h p => (h p).symm
    have j1 := relB_same n u s.sills[n].1 s.sills[n].2.1 s.sills[n].2.2 (by omega) (by omega) ((sy ih).cl k1)
    have l2 := relB_len (s := s) (ss := ss) (ps := ps) n u s.sills[n].1 s.sills[n].2.1 s.sills[n].2.2
    generalize relB s ss ps n u s.sills[n].1 s.sills[n].2.1 s.sills[n].2.2 = v at *
    have i2 := ih.trans j1
    exact i2.trans (relB_same n v s.sills[n].2.1 s.sills[n].1 s.sills[n].2.2 (by omega) (by omega) ((sy i2).cl k2))
theorem rounds_or (ok : Ok s) (c0 : 0 ≤ c) : ∀ k, ClAll s ss ps c (rounds s ss ps k) s.sills.length ∨ oc c (rounds s ss ps k) + k ≤ s.floors.length
  | 0 => by
    right
    unfold rounds oc
    have := List.countP_le_length (p := fun v => decide (c < v)) (l := List.replicate s.floors.length (5000 : Int))
    rw [List.length_replicate] at this
    omega
  | k + 1 => by
    have ih := rounds_or ok c0 k
    have hl := rounds_len (s := s) (ss := ss) (ps := ps) k
    have hr : rounds s ss ps (k + 1) = rpass s ss ps (rounds s ss ps k) s.sills.length := rfl
    rw [hr]
    generalize rounds s ss ps k = g at *
    have sy : ∀ {x y : List Int}, SameAt c x y → SameAt c y x := fun h p => (h p).symm
    rcases ih with ih | ih
    · left
      have j := rpass_same ok g hl ih _ (Nat.le_refl _)
      exact fun i hi h => ⟨(sy j).cl (ih i hi h).1, (sy j).cl (ih i hi h).2⟩
    · rcases rpass_or (ss := ss) (ps := ps) ok c0 g hl _ (Nat.le_refl _) with j | ⟨j1, j2⟩
      · right; omega
      · left
        exact fun i hi h => ⟨(sy j1).cl (j2 i hi h).1, (sy j1).cl (j2 i hi h).2⟩
theorem oc_zero : ∀ {g : List Int}, oc c g = 0 → ∀ p, p < g.length → g[p]?.getD 0 ≤ c
  | [], _, p, h => by simp at h
  | x :: r, h, p, hp => by
    unfold oc at h
    rw [List.countP_cons] at h
    have h1 : List.countP (fun v => decide (c < v)) r = 0 := by omega
    have h2 : ¬ c < x := fun e => by rw [if_pos (by simpa using e)] at h; omega
    cases p with
    | zero => simp; omega
    | succ p =>
      have := oc_zero (g := r) h1 p (by simpa using hp)
      simpa using this
/-- the least crests let no water through that they do not count -/
theorem low_closed (ok : Ok s) (c0 : 0 ≤ c) : ClAll s ss ps c (lowR s ss ps) s.sills.length := by
  have hl := rounds_len (s := s) (ss := ss) (ps := ps) s.floors.length
  rcases rounds_or (ss := ss) (ps := ps) ok c0 s.floors.length with h | h
  · exact h
  · have h0 : oc c (lowR s ss ps) = 0 := by unfold lowR; omega
    intro i hi _
    obtain ⟨e1, e2, -⟩ := EndOk.of ok (List.getElem_mem hi)
    have hl' : (lowR s ss ps).length = s.floors.length := hl
    exact ⟨fun b0 _ _ _ _ _ => oc_zero h0 _ (by omega), fun b0 _ _ _ _ _ => oc_zero h0 _ (by omega)⟩
theorem closed_all {h : Int} (ok : Ok s) (h9 : h < 1050) {g : List Int} (k : ClAll s [] [] h g s.sills.length) (p : Nat) (hpl : p < s.floors.length) (hg : gateOf s p ≤ h) : g[p]?.getD 0 ≤ h := by
  have key : ∀ x ∈ s.sills, ∀ a b : Int, (a, b) = (x.1, x.2.1) ∨ (a, b) = (x.2.1, x.1) → 0 ≤ b ∧ b < s.floors.length → x.2.2 ≤ h → s.floors[b.toNat]?.getD 0 ≤ h → (a = -1 ∨ g[a.toNat]?.getD 0 ≤ h) → g[b.toNat]?.getD 0 ≤ h := by
    intro x hx a b hab hb h1 h2 h3
    obtain ⟨i, hi, rfl⟩ := List.getElem_of_mem hx
    obtain ⟨k1, k2⟩ := k i hi hi
    rcases hab with e | e
    · cases e; exact k1 hb.1 (by simp) (by simp) h1 h2 h3
    · cases e; exact k2 hb.1 (by simp) (by simp) h1 h2 h3
  refine Decidable.byContradiction fun hc => ?_
  have := inv_iter s ok.fl1 (fun a => ∀ i, i < s.floors.length → h < g[i]?.getD 0 → h < a[i]?.getD 0)
    (fun a x b hl8 hx hb hbl hI i hi hgi => by
      rw [set_get a b i _ (by have := ok.fl1; omega)]
      split
      · next e =>
        subst e
        have h1 := hI b hi hgi
        have hne : ¬ (x.2.2 ≤ h ∧ s.floors[b]?.getD 0 ≤ h) := fun hcc => by
          have ho : (-1, (b : Int)) = (x.1, x.2.1) ∨ (-1, (b : Int)) = (x.2.1, x.1) := by
            unfold other at hb
            by_cases e1 : (-1 : Int) = x.1
            · rw [show ((-1 : Int) == x.1) = true from beq_iff_eq.2 e1] at hb
              exact Or.inl (by rw [← e1]; simp at hb; rw [hb])
            · rw [show ((-1 : Int) == x.1) = false from beq_eq_false_iff_ne.2 e1] at hb
              by_cases e2 : (-1 : Int) = x.2.1
              · rw [show ((-1 : Int) == x.2.1) = true from beq_iff_eq.2 e2] at hb
                exact Or.inr (by rw [← e2]; simp at hb; rw [hb])
              · rw [show ((-1 : Int) == x.2.1) = false from beq_eq_false_iff_ne.2 e2] at hb
                simp at hb
          have := key x hx (-1) b ho (by omega) hcc.1 (by simpa using hcc.2) (Or.inl rfl)
          simp only [Int.toNat_natCast] at this
          omega
        omega
      · exact hI i hi hgi)
    (fun a x f b hl8 hx hf hb hbl hI i hi hgi => by
      rw [set_get a b i _ (by have := ok.fl1; omega)]
      split
      · next e =>
        subst e
        have h1 := hI b hi hgi
        by_cases hgf : h < g[f]?.getD 0
        · have := hI f hf hgf
          omega
        · have hne : ¬ (x.2.2 ≤ h ∧ s.floors[b]?.getD 0 ≤ h) := fun hcc => by
            have ho : ((f : Int), (b : Int)) = (x.1, x.2.1) ∨ ((f : Int), (b : Int)) = (x.2.1, x.1) := by
              unfold other at hb
              by_cases e1 : (f : Int) = x.1
              · rw [show ((f : Int) == x.1) = true from beq_iff_eq.2 e1] at hb
                exact Or.inl (by rw [← e1]; simp at hb; rw [hb])
              · rw [show ((f : Int) == x.1) = false from beq_eq_false_iff_ne.2 e1] at hb
                by_cases e2 : (f : Int) = x.2.1
                · rw [show ((f : Int) == x.2.1) = true from beq_iff_eq.2 e2] at hb
                  exact Or.inr (by rw [← e2]; simp at hb; rw [hb])
                · rw [show ((f : Int) == x.2.1) = false from beq_eq_false_iff_ne.2 e2] at hb
                  simp at hb
            have := key x hx f b ho (by omega) hcc.1 (by simpa using hcc.2) (Or.inr (by simp only [Int.toNat_natCast]; omega))
            simp only [Int.toNat_natCast] at this
            omega
          omega
      · exact hI i hi hgi)
    (fun i hi _ => by
      have := ok.fl1
      unfold top
      rw [List.getElem?_replicate, if_pos (by omega)]
      show h < 1050
      omega)
  have h1 := this p hpl (by omega)
  unfold gateOf at hg
  omega

theorem low_le (ok : Ok s) : ∀ p, p < s.floors.length → (0 ≤ (lowR s ss ps)[p]?.getD 0 ∧ (lowR s ss ps)[p]?.getD 0 ≤ 999) ∨ (lowR s ss ps)[p]?.getD 0 = 5000 := by
  have := rounds_inv (s := s) (ss := ss) (ps := ps) (fun g => ∀ p, p < s.floors.length → (0 ≤ g[p]?.getD 0 ∧ g[p]?.getD 0 ≤ 999) ∨ g[p]?.getD 0 = 5000)
    (fun p hp => by right; rw [List.getElem?_replicate, if_pos hp]; rfl)
    (fun g i hi a b hl hab hI p hp => by
      obtain ⟨e1, e2, -⟩ := EndOk.of ok (List.getElem_mem hi)
      have hh := ok.heights _ (List.getElem_mem hi)
      unfold relB
      split
      · next hc =>
        have hb : 0 ≤ b ∧ b < s.floors.length := ⟨hc.1, by rcases hab with e | e <;> cases e <;> omega⟩
        have hf : 0 ≤ s.floors[b.toNat]?.getD 0 ∧ s.floors[b.toNat]?.getD 0 ≤ 999 := by
          rw [List.getElem?_eq_getElem (show b.toNat < s.floors.length by omega), Option.getD_some]
          exact ok.floors _ (List.getElem_mem _)
        rw [set_get g _ _ _ (by omega)]
        split
        · next e =>
          have h1 := hI b.toNat (by omega)
          have ha : a = -1 ∨ 0 ≤ a ∧ a < s.floors.length := by rcases hab with e | e <;> cases e <;> omega
          unfold ovr
          rcases ha with ha | ha
          · rw [if_neg (by omega)]; omega
          · rw [if_pos ha.1]
            have h2 := hI a.toNat (by omega)
            omega
        · exact hI p hp
      · exact hI p hp) s.floors.length
  exact this
/-- the reference's gate -/
def gateR (s : Sd) (q : Nat) : Int := if gateOf s q < 1050 then gateOf s q else 5000
theorem low_gate (ok : Ok s) (p : Nat) (hp : p < s.floors.length) : (lowR s [] [])[p]?.getD 0 = gateR s p := by
  have gl := fun q => gts_le s q
  have ge := rounds_inv (s := s) (ss := []) (ps := []) (fun g => ∀ q, q < s.floors.length → gateR s q ≤ g[q]?.getD 0)
    (fun q hq => by rw [List.getElem?_replicate, if_pos hq]; show gateR s q ≤ (5000 : Int); have := gl q; unfold gateR; split <;> omega)
    (fun g i hi a b hl hab hI q hq => by
      obtain ⟨e1, e2, -⟩ := EndOk.of ok (List.getElem_mem hi)
      have hh := ok.heights _ (List.getElem_mem hi)
      unfold relB
      split
      · next hc =>
        have hb : 0 ≤ b ∧ b < s.floors.length := ⟨hc.1, by rcases hab with e | e <;> cases e <;> omega⟩
        have ha : a = -1 ∨ 0 ≤ a ∧ a < s.floors.length := by rcases hab with e | e <;> cases e <;> omega
        have hf : 0 ≤ s.floors[b.toNat]?.getD 0 ∧ s.floors[b.toNat]?.getD 0 ≤ 999 := by
          rw [List.getElem?_eq_getElem (show b.toNat < s.floors.length by omega), Option.getD_some]
          exact ok.floors _ (List.getElem_mem _)
        rw [set_get g _ _ _ (by omega)]
        split
        · next e =>
          subst e
          have h1 := hI b.toNat hq
          have h2' := hI a.toNat
          have key : gateR s b.toNat ≤ ovr s g a b s.sills[i].2.2 := by
            unfold gateR at h2'
            unfold ovr gateR
            rcases ha with ha | ha
            · rw [if_neg (show ¬ 0 ≤ a by omega)]
              have := gate_step ok (List.getElem_mem hi) hb (.inl ha) hab (h := max (max 0 s.sills[i].2.2) (s.floors[b.toNat]?.getD 0)) (by omega) (by omega) (by omega) (.inl ha)
              rw [if_pos (show gateOf s b.toNat < 1050 by omega)]
              exact this
            · rw [if_pos ha.1]
              have h2 := h2' (by omega)
              by_cases hga : gateOf s a.toNat < 1050
              · rw [if_pos hga] at h2
                have g0 := (gl a.toNat).1
                have := gate_step ok (List.getElem_mem hi) hb (.inr ha) hab (h := max (max (gateOf s a.toNat) s.sills[i].2.2) (s.floors[b.toNat]?.getD 0)) (by omega) (by omega) (by omega) (.inr (by omega))
                rw [if_pos (show gateOf s b.toNat < 1050 by omega)]
                omega
              · rw [if_neg hga] at h2
                split <;> omega
          omega
        · exact hI q hq
      · exact hI q hq) s.floors.length p hp
  have g1 := gl p
  unfold gateR at ge ⊢
  split
  · next hlt =>
    rw [if_pos hlt] at ge
    have := closed_all ok hlt (low_closed (ss := []) (ps := []) (c := gateOf s p) ok g1.1) p hp (Int.le_refl _)
    unfold lowR at this ⊢
    omega
  · next hge =>
    rw [if_neg hge] at ge
    have := low_le (ss := []) (ps := []) ok p hp
    unfold lowR at this ⊢
    omega
end
end
end Go.Proofs.YtknaajofcbenaaaGreat
namespace Go.Proofs.YtknaajofcbenaaaGreat
open Go.RowKit Go.Shelf

section
variable {pT pF pS : Option Addr} {cT cF cS : Nat}
theorem h91 (w : World) (hl : Lists w two pT pF pS cT cF cS) : Calls Tryz.prog 42 #[sdVal two pT pF pS cT cF cS, .int .i64 91] w fun e w' => e = .returned (.tuple #[.int .i64 175, .int .i64 0]) ∧ Up w w' := by
  have h := Height_c two 91 w hl
  rwa [v_h1.1, v_h1.2] at h
theorem h400 (w : World) (hl : Lists w two pT pF pS cT cF cS) : Calls Tryz.prog 42 #[sdVal two pT pF pS cT cF cS, .int .i64 400] w fun e w' => e = .returned (.tuple #[.int .i64 370, .int .i64 0]) ∧ Up w w' := by
  have h := Height_c two 400 w hl
  rwa [v_h2.1, v_h2.2] at h
theorem g1 (w : World) (hl : Lists w two pT pF pS cT cF cS) : Calls Tryz.prog 43 #[sdVal two pT pF pS cT cF cS, .int .i64 1] w fun e w' => e = .returned (.tuple #[.int .i64 220, .int .i64 0]) ∧ Up w w' := by
  have h := Gate_c two 1 w hl
  rwa [v_g.1, v_g.2] at h
theorem t00 (w : World) (hl : Lists w two pT pF pS cT cF cS) : Calls Tryz.prog 20 #[sdVal two pT pF pS cT cF cS, .int .i64 0, .int .i64 0] w fun e w' => e = .returned (.tuple #[.int .i64 97, .int .i64 0]) ∧ Up w w' := by
  have h := Turn_c two 0 0 w hl
  rwa [v_t.1, v_t.2] at h
theorem w1' (w : World) (hl : Lists w two pT pF pS cT cF cS) : Calls Tryz.prog 36 #[sdVal two pT pF pS cT cF cS, .int .i64 1] w fun e w' => ∃ p, e = .returned (.tuple #[.slice p 2 2, .int .i64 0]) ∧ Row w' p 1 (ints [0, 1]) ∧ Up w w' := by
  have h := Way_c two 1 w hl
  rw [v_w, v_g.2] at h
  exact h.mono fun e w' ⟨p, h1, h2, _, h3⟩ => ⟨p, h1, h2, h3⟩
theorem a150 (w : World) (hl : Lists w two pT pF pS cT cF cS) : Calls Tryz.prog 45 #[sdVal two pT pF pS cT cF cS, .int .i64 150] w fun e w' => ∃ p c, e = .returned (.tuple #[.slice p 2 c, .int .i64 0]) ∧ Row w' p 1 (ints [2, 1]) ∧ Up w w' := by
  have h := All_c two 150 w hl
  rw [v_a.1, v_a.2] at h
  exact h.mono fun e w' ⟨p, c, h1, _, _, h2, h3⟩ => ⟨p, c, h1, h2, h3⟩
theorem l1 (p : Option Addr) (c : Nat) (w : World) (hl : Lists w two pT pF pS cT cF cS) (hr : Row w p 3 (lrows [(120, 0, true)])) : Calls Tryz.prog 30 #[sdVal two pT pF pS cT cF cS, .slice p 1 c] w fun e w' => e = .returned (.tuple #[.agg #[.int .i64 1, .int .i64 20], .int .i64 0]) ∧ Up w w' := by
  have h := Looks_c two [(120, 0, true)] p c w hl hr (by decide)
  rwa [v_l.1, v_l.2] at h
end

set_option maxRecDepth 100000 in
set_option maxHeartbeats 4000000 in
theorem awake_c (w : World) : Calls Tryz.prog 7 #[] w fun e w' => e = .returned (.bool true) ∧ Up w w' := by
  go_enter Tryz.func7, Tryz.ntmps7
  go_wp2_with fail
  refine (two_c _).mono ?_
  rintro e w1 ⟨b1, rfl, k1, u1⟩
  go_wp2_with fail
  refine (h91 _ k1).mono ?_
  rintro e w2 ⟨rfl, u2⟩
  go_wp2_with fail
  refine (two_c _).mono ?_
  rintro e w3 ⟨b3, rfl, k3, u3⟩
  go_wp2_with fail
  refine (h400 _ k3).mono ?_
  rintro e w4 ⟨rfl, u4⟩
  have U4 := Lib.hid (Up.trans u1 (Up.trans u2 (Up.trans u3 u4)))
  clear u1 u2 u3 u4 k1 k3
  go_wp2_with fail
  refine (two_c _).mono ?_
  rintro e w5 ⟨b5, rfl, k5, u5⟩
  go_wp2_with fail
  refine (g1 _ k5).mono ?_
  rintro e w6 ⟨rfl, u6⟩
  go_wp2_with fail
  refine (two_c _).mono ?_
  rintro e w7 ⟨b7, rfl, k7, u7⟩
  go_wp2_with fail
  refine (t00 _ k7).mono ?_
  rintro e w8 ⟨rfl, u8⟩
  have U8 := Lib.hid (Up.trans U4.out (Up.trans u5 (Up.trans u6 (Up.trans u7 u8))))
  clear u5 u6 u7 u8 k5 k7 U4
  go_wp2_with fail
  refine (two_c _).mono ?_
  rintro e w9 ⟨b9, rfl, k9, u9⟩
  go_wp2_with fail
  refine (w1' _ k9).mono ?_
  rintro e w10 ⟨p10, rfl, r10, u10⟩
  have U10 := Lib.hid (Up.trans U8.out (Up.trans u9 u10))
  have R10 := Lib.hid r10
  clear u9 u10 k9 U8 r10
  go_wp2_with fail
  refine (two_c _).mono ?_
  rintro e w11 ⟨b11, rfl, k11, u11⟩
  have R11 := Lib.hid (R10.out.up u11)
  have U11 := Lib.hid (Up.trans U10.out u11)
  have K11 := Lib.hid k11
  clear u11 k11 R10 U10
  go_wp2_with fail
  refine Calls.world ?_
  intro w12 hw12
  have u12 : Up w11 w12 := by rw [hw12]; (repeat (first | exact Below.refl _ _ | (with_reducible refine Below.drewN' ?_ _) | (with_reducible refine Below.drew ?_) | (with_reducible refine Below.setCell ?_ (by first | exact Nat.le_refl _ | omega | (with_reducible (repeat (first | refine sz_alloc ?_ | refine sz_setCell ?_ | refine sz_drew ?_ | refine sz_drewN ?_)); first | exact Nat.le_refl _ | omega) | (simp only [World.size_alloc, World.size_setCell, World.size_drew, size_drewN']; omega)) _) | (with_reducible refine Below.alloc ?_ (by first | exact Nat.le_refl _ | omega | (with_reducible (repeat (first | refine sz_alloc ?_ | refine sz_setCell ?_ | refine sz_drew ?_ | refine sz_drewN ?_)); first | exact Nat.le_refl _ | omega) | (simp only [World.size_alloc, World.size_setCell, World.size_drew, size_drewN']; omega)) _) | assumption))
  have r12 : Row w12 (some ⟨w11.heap.size, 0, none⟩) 1 (ints [1]) := by rw [hw12]; exact Row.lit w11 [1] _
  clear hw12
  refine (hold_two _ _ _ _ _ _ _ _ w12 (K11.out.up u12) r12).mono ?_
  rintro e w13 ⟨rfl, u13⟩
  have R13 := Lib.hid ((R11.out.up u12).up u13)
  have U13 := Lib.hid (Up.trans U11.out (Up.trans u12 u13))
  clear u12 u13 r12 K11 R11 U11
  go_wp2_with fail
  refine (two_c _).mono ?_
  rintro e w14 ⟨b14, rfl, k14, u14⟩
  go_wp2_with fail
  refine (a150 _ k14).mono ?_
  rintro e w15 ⟨p15, c15, rfl, r15, u15⟩
  have R15 := Lib.hid ((R13.out.up u14).up u15)
  have S15 := Lib.hid r15
  have U15 := Lib.hid (Up.trans U13.out (Up.trans u14 u15))
  clear u14 u15 r15 k14 R13 U13
  go_wp2_with fail
  refine (two_c _).mono ?_
  rintro e w16 ⟨b16, rfl, k16, u16⟩
  have R16 := Lib.hid (R15.out.up u16)
  have S16 := Lib.hid (S15.out.up u16)
  have U16 := Lib.hid (Up.trans U15.out u16)
  have K16 := Lib.hid k16
  clear u16 k16 R15 S15 U15
  go_wp2_with fail
  refine Calls.world ?_
  intro w17 hw17
  have u17 : Up w16 w17 := by rw [hw17]; (repeat (first | exact Below.refl _ _ | (with_reducible refine Below.drewN' ?_ _) | (with_reducible refine Below.drew ?_) | (with_reducible refine Below.setCell ?_ (by first | exact Nat.le_refl _ | omega | (with_reducible (repeat (first | refine sz_alloc ?_ | refine sz_setCell ?_ | refine sz_drew ?_ | refine sz_drewN ?_)); first | exact Nat.le_refl _ | omega) | (simp only [World.size_alloc, World.size_setCell, World.size_drew, size_drewN']; omega)) _) | (with_reducible refine Below.alloc ?_ (by first | exact Nat.le_refl _ | omega | (with_reducible (repeat (first | refine sz_alloc ?_ | refine sz_setCell ?_ | refine sz_drew ?_ | refine sz_drewN ?_)); first | exact Nat.le_refl _ | omega) | (simp only [World.size_alloc, World.size_setCell, World.size_drew, size_drewN']; omega)) _) | assumption))
  have r17 : Row w17 (some ⟨w16.heap.size, 0, none⟩) 3 (lrows [(120, 0, true)]) := by rw [hw17]; exact Row.of_flat rfl (Blk.new w16 (lrows [(120, 0, true)]).flatten _)
  clear hw17
  refine (l1 _ _ w17 (K16.out.up u17) r17).mono ?_
  rintro e w18 ⟨rfl, u18⟩
  have R18 := Lib.hid ((R16.out.up u17).up u18)
  have S18 := Lib.hid ((S16.out.up u17).up u18)
  have U18 := Lib.hid (Up.trans U16.out (Up.trans u17 u18))
  clear u17 u18 r17 K16 R16 S16 U16
  go_wp2_with fail
  refine Calls.world ?_
  intro w19 hw19
  have u19 : Up w18 w19 := by rw [hw19]; (repeat (first | exact Below.refl _ _ | (with_reducible refine Below.drewN' ?_ _) | (with_reducible refine Below.drew ?_) | (with_reducible refine Below.setCell ?_ (by first | exact Nat.le_refl _ | omega | (with_reducible (repeat (first | refine sz_alloc ?_ | refine sz_setCell ?_ | refine sz_drew ?_ | refine sz_drewN ?_)); first | exact Nat.le_refl _ | omega) | (simp only [World.size_alloc, World.size_setCell, World.size_drew, size_drewN']; omega)) _) | (with_reducible refine Below.alloc ?_ (by first | exact Nat.le_refl _ | omega | (with_reducible (repeat (first | refine sz_alloc ?_ | refine sz_setCell ?_ | refine sz_drew ?_ | refine sz_drewN ?_)); first | exact Nat.le_refl _ | omega) | (simp only [World.size_alloc, World.size_setCell, World.size_drew, size_drewN']; omega)) _) | assumption))
  have hz : Blk w19 w18.heap.size [.int .i64 1, .int .i64 20] 24 := by rw [hw19]; exact (Blk.new w18 _ _).alloc _
  have r19 : Row w19 (some ⟨w18.heap.size + 1, 0, none⟩) 1 (ints [0, 1]) := by rw [hw19]; exact Row.of_flat rfl (Blk.new' (w18.alloc _) (ints [0, 1]).flatten _ (by simp))
  clear hw19
  refine (eqInt_c [0, 1] [0, 1] _ _ _ _ w19 (R18.out.up u19) r19 (by decide) (by decide)).mono ?_
  rintro e w20 ⟨rfl, u20⟩
  have S20 := Lib.hid ((S18.out.up u19).up u20)
  have U20 := Lib.hid (Up.trans U18.out (Up.trans u19 u20))
  have Z20 := Lib.hid (hz.up u20)
  clear u19 u20 hz r19 R18 S18 U18
  rw [show decide (([0, 1] : List Int) = [0, 1]) = true by decide]
  go_wp2_with fail
  refine Calls.world ?_
  intro w21 hw21
  have u21 : Up w20 w21 := by rw [hw21]; (repeat (first | exact Below.refl _ _ | (with_reducible refine Below.drewN' ?_ _) | (with_reducible refine Below.drew ?_) | (with_reducible refine Below.setCell ?_ (by first | exact Nat.le_refl _ | omega | (with_reducible (repeat (first | refine sz_alloc ?_ | refine sz_setCell ?_ | refine sz_drew ?_ | refine sz_drewN ?_)); first | exact Nat.le_refl _ | omega) | (simp only [World.size_alloc, World.size_setCell, World.size_drew, size_drewN']; omega)) _) | (with_reducible refine Below.alloc ?_ (by first | exact Nat.le_refl _ | omega | (with_reducible (repeat (first | refine sz_alloc ?_ | refine sz_setCell ?_ | refine sz_drew ?_ | refine sz_drewN ?_)); first | exact Nat.le_refl _ | omega) | (simp only [World.size_alloc, World.size_setCell, World.size_drew, size_drewN']; omega)) _) | assumption))
  have r21 : Row w21 (some ⟨w20.heap.size, 0, none⟩) 1 (ints [2, 1]) := by rw [hw21]; exact Row.of_flat rfl (Blk.new w20 (ints [2, 1]).flatten _)
  clear hw21
  refine (eqState_c [2, 1] [2, 1] _ _ _ _ w21 (S20.out.up u21) r21 (by decide) (by decide)).mono ?_
  rintro e w22 ⟨rfl, u22⟩
  have U22 := Lib.hid (Up.trans U20.out (Up.trans u21 u22))
  have z22 := (Z20.out.up u21).up u22
  have q0 := z22.cell 0
  have q1 := z22.cell 1
  simp only [List.getElem?_cons_zero, List.getElem?_cons_succ] at q0 q1
  clear u21 u22 r21 S20 U20 Z20 z22
  rw [show decide (([2, 1] : List Int) = [2, 1]) = true by decide]
  go_wp2_with fail
  go_ret
  exact ⟨rfl, U22.out⟩
end Go.Proofs.YtknaajofcbenaaaGreat
/- Plain facts: the spans of the minutes of which something is true, and the longest of them. -/
namespace Go.Proofs.YtknaajofcbenaaaGreat
section
open Go.RowKit

/-- each span is inside of the day, all of it is true, and it is as long as can be -/
structure IsRun (f : Int → Bool) (a : Int) (n : Nat) (x : Int × Int) : Prop where
  lo : a ≤ x.1
  le : x.1 ≤ x.2
  hi : x.2 < a + n
  all : ∀ y, x.1 ≤ y → y ≤ x.2 → f y = true
  left : a < x.1 → f (x.1 - 1) = false
  right : x.2 + 1 < a + n → f (x.2 + 1) = false

structure RunI (f : Int → Bool) (a : Int) (k : Nat) (st : List (Int × Int) × Int × Bool) : Prop where
  run : st.2.2 = true → a ≤ st.2.1 ∧ st.2.1 < a + k ∧ (∀ x, st.2.1 ≤ x → x < a + k → f x = true) ∧ (a < st.2.1 → f (st.2.1 - 1) = false)
  shut : st.2.2 = false → 0 < k → f (a + k - 1) = false
  mem : ∀ x ∈ st.1, a ≤ x.1 ∧ x.1 ≤ x.2 ∧ x.2 + 1 < a + k ∧ (∀ y, x.1 ≤ y → y ≤ x.2 → f y = true) ∧ (a < x.1 → f (x.1 - 1) = false) ∧ f (x.2 + 1) = false
  ord : st.1.Pairwise (fun x y => x.2 + 1 < y.1)
  ordl : st.2.2 = true → ∀ x ∈ st.1, x.2 + 1 < st.2.1 

theorem runI (f : Int → Bool) (a : Int) : ∀ k, RunI f a k (spSt f a k)
  | 0 => ⟨(by intro h; cases h), (by intro _ h; omega), (by simp [spSt]), (by simp [spSt]), (by intro h; cases h)⟩
  | k + 1 => by
    have h := runI f a k
    obtain ⟨h1, h2, h3, h4, h5⟩ := h
    unfold spSt
    generalize spSt f a k = st at *
    obtain ⟨l, fr, o⟩ := st
    dsimp only at h1 h2 h3 h4 h5 ⊢
    have ek : a + ((k + 1 : Nat) : Int) - 1 = a + k := by omega
    by_cases hf : f (a + k) = true
    · rw [if_pos hf]
      cases o with
      | true =>
        obtain ⟨r1, r2, r3, r4⟩ := h1 rfl
        rw [if_pos rfl]
        refine ⟨fun _ => ⟨r1, by show fr < a + ((k + 1 : Nat) : Int); omega, fun x x1 x2 => ?_, r4⟩, (by intro h; cases h), fun x hx => ?_, h4, fun _ => h5 rfl⟩
        · by_cases hx : x = a + k
          · rw [hx]; exact hf
          · exact r3 x x1 (by omega)
        · obtain ⟨m1, m2, m3, m4⟩ := h3 x hx
          exact ⟨m1, m2, by omega, m4⟩
      | false =>
        rw [if_neg (by decide)]
        refine ⟨fun _ => ⟨by show a ≤ a + (k : Int); omega, by show a + (k : Int) < a + ((k + 1 : Nat) : Int); omega, fun x x1 x2 => ?_, fun h => ?_⟩, (by intro h; cases h), fun x hx => ?_, h4, fun _ x hx => ?_⟩
        · have x1' : a + (k : Int) ≤ x := x1
          rw [show x = a + k by omega]; exact hf
        · have h' : a < a + (k : Int) := h
          exact h2 rfl (by omega)
        · obtain ⟨m1, m2, m3, m4⟩ := h3 x hx
          exact ⟨m1, m2, by omega, m4⟩
        · have := (h3 x hx).2.2.1
          show x.2 + 1 < a + (k : Int)
          exact this
    · rw [if_neg hf]
      have hf' : f (a + k) = false := by simpa using hf
      cases o with
      | true =>
        obtain ⟨r1, r2, r3, r4⟩ := h1 rfl
        rw [if_pos rfl]
        refine ⟨(by intro h; cases h), fun _ _ => by rw [ek]; exact hf', fun x hx => ?_, ?_, (by intro h; cases h)⟩
        · rw [List.mem_append, List.mem_singleton] at hx
          rcases hx with hx | rfl
          · obtain ⟨m1, m2, m3, m4⟩ := h3 x hx
            exact ⟨m1, m2, by omega, m4⟩
          · refine ⟨r1, by show fr ≤ a + (k : Int) - 1; omega, by show a + (k : Int) - 1 + 1 < _; omega, fun y y1 y2 => ?_, r4, ?_⟩
            · have y1' : fr ≤ y := y1
              have y2' : y ≤ a + (k : Int) - 1 := y2
              exact r3 y y1' (by omega)
            · show f (a + (k : Int) - 1 + 1) = false
              rw [show a + (k : Int) - 1 + 1 = a + k by omega]; exact hf'
        · rw [List.pairwise_append]
          refine ⟨h4, List.pairwise_singleton _ _, fun x hx y hy => ?_⟩
          rw [List.mem_singleton] at hy
          rw [hy]
          exact h5 rfl x hx
      | false =>
        rw [if_neg (by decide)]
        refine ⟨(by intro h; cases h), fun _ _ => by rw [ek]; exact hf', fun x hx => ?_, h4, (by intro h; cases h)⟩
        obtain ⟨m1, m2, m3, m4⟩ := h3 x hx
        exact ⟨m1, m2, by omega, m4⟩

theorem spans_run (f : Int → Bool) (a : Int) (n : Nat) : (∀ x ∈ spansOf f a n, IsRun f a n x) ∧ (spansOf f a n).Pairwise (fun x y => x.2 + 1 < y.1) := by
  obtain ⟨h1, h2, h3, h4, h5⟩ := runI f a n
  unfold spansOf
  generalize spSt f a n = st at *
  obtain ⟨l, fr, o⟩ := st
  dsimp only at *
  have hm : ∀ x ∈ l, IsRun f a n x := fun x hx => by
    obtain ⟨m1, m2, m3, m4, m5, m6⟩ := h3 x hx
    exact ⟨m1, m2, by omega, m4, m5, fun _ => m6⟩
  cases o with
  | true =>
    obtain ⟨r1, r2, r3, r4⟩ := h1 rfl
    rw [if_pos rfl]
    refine ⟨fun x hx => ?_, ?_⟩
    · rw [List.mem_append, List.mem_singleton] at hx
      rcases hx with hx | rfl
      · exact hm x hx
      · exact ⟨r1, by show fr ≤ a + (n : Int) - 1; omega, by show a + (n : Int) - 1 < _; omega, fun y y1 y2 => r3 y y1 (by have : y ≤ a + (n : Int) - 1 := y2; omega), r4, fun h => by have h' : a + (n : Int) - 1 + 1 < a + n := h; omega⟩
    · rw [List.pairwise_append]
      refine ⟨h4, List.pairwise_singleton _ _, fun x hx y hy => ?_⟩
      rw [List.mem_singleton] at hy
      rw [hy]
      exact h5 rfl x hx
  | false =>
    rw [if_neg (by decide)]
    exact ⟨hm, h4⟩

theorem turnIn_mem {l : List (Int × Int)} {m t : Int} (h : turnIn l m = some t) : ∃ x ∈ l, x.1 ≤ m ∧ m ≤ x.2 ∧ x.2 = t := by
  induction l with
  | nil => simp [turnIn] at h
  | cons x l ih =>
    rw [turnIn_cons] at h
    split at h
    · next hc => exact ⟨x, by simp, hc.1, hc.2, by simpa using h⟩
    · obtain ⟨y, hy, h'⟩ := ih h
      exact ⟨y, by simp [hy], h'⟩
/-- what is true all the way lies inside of one span -/
theorem spans_has (f : Int → Bool) (a : Int) (n : Nat) {lo hi : Int} (h0 : a ≤ lo) (h1 : lo ≤ hi) (h2 : hi < a + n) (h : ∀ y, lo ≤ y → y ≤ hi → f y = true) : ∃ x ∈ spansOf f a n, x.1 ≤ lo ∧ hi ≤ x.2 := by
  obtain ⟨t, ht, r⟩ := (turn_run f a n lo h0 (by omega)).1 (h lo (Int.le_refl _) h1)
  obtain ⟨x, hx, x1, x2, rfl⟩ := turnIn_mem ht
  refine ⟨x, hx, x1, ?_⟩
  obtain ⟨r1, r2, r3, r4⟩ := r
  by_cases hc : x.2 < hi
  · have := r4 (by omega)
    rw [h _ (by omega) (by omega)] at this
    cases this
  · omega

def longStep (b x : Int × Int) : Int × Int := if siz b < siz x then x else b
/-- the first of the longest spans -/
def longV : List (Int × Int) → Int × Int
  | [] => (0, 0)
  | a :: r => (a :: r).foldl longStep a
theorem long_fold : ∀ (l : List (Int × Int)) (a : Int × Int), (l.foldl longStep a = a ∨ l.foldl longStep a ∈ l) ∧ siz a ≤ siz (l.foldl longStep a) ∧ ∀ x ∈ l, siz x ≤ siz (l.foldl longStep a)
  | [], a => ⟨.inl rfl, Int.le_refl _, by simp⟩
  | x :: r, a => by
    obtain ⟨h1, h2, h3⟩ := long_fold r (longStep a x)
    rw [List.foldl_cons]
    have k : siz a ≤ siz (longStep a x) ∧ siz x ≤ siz (longStep a x) ∧ (longStep a x = a ∨ longStep a x = x) := by
      unfold longStep
      split
      · exact ⟨by omega, Int.le_refl _, .inr rfl⟩
      · exact ⟨Int.le_refl _, by omega, .inl rfl⟩
    obtain ⟨k1, k2, k3⟩ := k
    refine ⟨?_, by omega, fun y hy => ?_⟩
    · rcases h1 with h1 | h1
      · rcases k3 with k3 | k3
        · left; rw [h1, k3]
        · right; rw [h1, k3]; simp
      · right; simp [h1]
    · rcases List.mem_cons.1 hy with rfl | hy
      · omega
      · exact h3 y hy
theorem long_spec {l : List (Int × Int)} (h : l ≠ []) : longV l ∈ l ∧ ∀ x ∈ l, siz x ≤ siz (longV l) := by
  cases l with
  | nil => exact absurd rfl h
  | cons a r =>
    obtain ⟨h1, h2, h3⟩ := long_fold (a :: r) a
    have e : longV (a :: r) = (a :: r).foldl longStep a := rfl
    rw [e]
    refine ⟨?_, h3⟩
    rcases h1 with h1 | h1
    · rw [h1]; simp
    · exact h1
/-- how long the longest span is: no run is longer, and some run is as long -/
theorem long_run (f : Int → Bool) (a : Int) (n : Nat) (h : spansOf f a n ≠ []) :
    IsRun f a n (longV (spansOf f a n)) ∧ ∀ lo hi, a ≤ lo → lo ≤ hi → hi < a + n → (∀ y, lo ≤ y → y ≤ hi → f y = true) → hi - lo ≤ (longV (spansOf f a n)).2 - (longV (spansOf f a n)).1 := by
  obtain ⟨h1, h2⟩ := long_spec h
  have hr := (spans_run f a n).1 _ h1
  refine ⟨hr, fun lo hi k0 k1 k2 k => ?_⟩
  obtain ⟨x, hx, x1, x2⟩ := spans_has f a n k0 k1 k2 k
  have e := h2 x hx
  have := hr.le
  unfold siz at e
  omega

def errLong (s : Sd) (ps : List Int) : Int := if chk s = 0 then (if ps.all (isPl s) = true then (if drySpans s ps = [] then 6 else 0) else 1) else chk s
def longestV (s : Sd) (ps : List Int) : Int × Int := if errLong s ps = 0 then longV (drySpans s ps) else (0, 0)
/-- the places that are listed, each once -/
def inPl (s : Sd) (ps : List Int) : List Int := ((List.range s.floors.length).map fun (p : Nat) => (p : Int)).filter fun p => decide (0 < ps.count p)
theorem inPl_mem (s : Sd) (ps : List Int) (p : Int) : p ∈ inPl s ps ↔ (0 ≤ p ∧ p < s.floors.length) ∧ p ∈ ps := by
  unfold inPl
  rw [List.mem_filter, decide_eq_true_eq, List.count_pos_iff]
  refine and_congr_left fun _ => ?_
  simp only [List.mem_map, List.mem_range]
  constructor
  · rintro ⟨n, hn, rfl⟩; omega
  · rintro ⟨h0, h1⟩; exact ⟨p.toNat, by omega, by omega⟩
theorem inPl_dry {s : Sd} {ps : List Int} (h : ps.all (isPl s) = true) : drySpans s (inPl s ps) = drySpans s ps := by
  have e : dryB s (inPl s ps) = dryB s ps := by
    funext m
    unfold dryB fitB
    rw [Bool.eq_iff_iff, List.all_eq_true, List.all_eq_true]
    refine forall_congr' fun p => ?_
    rw [inPl_mem]
    refine ⟨fun k hp => k ⟨?_, hp⟩, fun k hp => k hp.2⟩
    have := inB_true.1 (List.all_eq_true.1 h p hp)
    omega
  unfold drySpans
  rw [e]

/-- if the day runs backwards, the longest span is as long -/
theorem mir_long {f g : Int → Bool} {a : Int} {n : Nat} (h : ∀ m, a ≤ m → m < a + n → g (2 * a + n - 1 - m) = f m) :
    (spansOf g a n = [] ↔ spansOf f a n = []) ∧ (longV (spansOf g a n)).2 - (longV (spansOf g a n)).1 = (longV (spansOf f a n)).2 - (longV (spansOf f a n)).1 := by
  have emp : ∀ {u v : Int → Bool}, (∀ m, a ≤ m → m < a + n → v (2 * a + n - 1 - m) = u m) → spansOf v a n = [] → spansOf u a n = [] := by
    intro u v hh he
    apply Classical.byContradiction
    intro hu
    have r := (long_run u a n hu).1
    have r0 := r.lo
    have r1 := r.le
    have r2 := r.hi
    obtain ⟨x, hx, -⟩ := spans_has v a n (lo := 2 * a + n - 1 - (longV (spansOf u a n)).1) (hi := 2 * a + n - 1 - (longV (spansOf u a n)).1) (by omega) (by omega) (by omega) (fun y y0 y1 => by
      obtain rfl : y = 2 * a + n - 1 - (longV (spansOf u a n)).1 := by omega
      rw [hh _ (by omega) (by omega)]
      exact r.all _ (by omega) (by omega))
    rw [he] at hx
    cases hx
  have h' : ∀ m, a ≤ m → m < a + n → f (2 * a + n - 1 - m) = g m := fun m m0 m1 => by
    have := h (2 * a + n - 1 - m) (by omega) (by omega)
    rw [show 2 * a + (n : Int) - 1 - (2 * a + n - 1 - m) = m by omega] at this
    exact this.symm
  have le : ∀ {u v : Int → Bool}, (∀ m, a ≤ m → m < a + n → v (2 * a + n - 1 - m) = u m) → spansOf u a n ≠ [] → spansOf v a n ≠ [] → (longV (spansOf u a n)).2 - (longV (spansOf u a n)).1 ≤ (longV (spansOf v a n)).2 - (longV (spansOf v a n)).1 := by
    intro u v hh hu hv
    have r := (long_run u a n hu).1
    have r0 := r.lo
    have r1 := r.le
    have r2 := r.hi
    have k := (long_run v a n hv).2 (2 * a + n - 1 - (longV (spansOf u a n)).2) (2 * a + n - 1 - (longV (spansOf u a n)).1) (by omega) (by omega) (by omega) (fun y y0 y1 => by
      have e := hh (2 * a + n - 1 - y) (by omega) (by omega)
      rw [show 2 * a + (n : Int) - 1 - (2 * a + n - 1 - y) = y by omega] at e
      rw [e]
      exact r.all _ (by omega) (by omega))
    omega
  refine ⟨⟨emp h, emp h'⟩, ?_⟩
  by_cases hf : spansOf f a n = []
  · rw [hf, emp h' hf]
  · have hg : spansOf g a n ≠ [] := fun e => hf (emp h e)
    have k1 := le h hf hg
    have k2 := le h' hg hf
    omega
end
end Go.Proofs.YtknaajofcbenaaaGreat
namespace Go.Proofs.YtknaajofcbenaaaGreat
open Go.RowKit Go.Shelf

section
variable {pT pF pS : Option Addr} {cT cF cS : Nat}

theorem wide_chk {s : Sd} (h : wideB s = true) : chk s = 2 := by
  have : okCounts s = false := by
    unfold okCounts
    unfold wideB at h
    simp only [Bool.or_eq_true, decide_eq_true_eq] at h
    rcases h with h | h | h
    · have : inB s.table.length 2 12 = false := by
        cases hb : inB s.table.length 2 12
        · rfl
        · have := inB_true.1 hb; omega
      rw [this]; rfl
    · have : inB s.floors.length 1 8 = false := by
        cases hb : inB s.floors.length 1 8
        · rfl
        · have := inB_true.1 hb; omega
      rw [this]; simp
    · have : decide ((s.sills.length : Int) ≤ 16) = false := by simp; omega
      rw [this]; simp
  unfold chk
  rw [if_pos this]

/-- blocks from n on, below N, lie as they lay -/
structure Mid (n N : Nat) (w w' : World) : Prop where
  size : w.heap.size ≤ w'.heap.size
  block : ∀ b, n ≤ b → b < N → w'.heap[b]? = w.heap[b]?
theorem Mid.refl (n N : Nat) (w : World) : Mid n N w w := ⟨Nat.le_refl _, fun _ _ _ => rfl⟩
theorem Mid.drew {n N : Nat} {w w' : World} (h : Mid n N w w') : Mid n N w w'.drew := ⟨h.size, h.block⟩
theorem Mid.up {n N : Nat} {w w' w'' : World} (h : Mid n N w w') (u : Up w' w'') (hN : N ≤ w'.heap.size) : Mid n N w w'' :=
  ⟨Nat.le_trans h.size u.size, fun b h1 h2 => (u.block b (by omega)).trans (h.block b h1 h2)⟩
theorem Mid.alloc {n N : Nat} {w w' : World} (h : Mid n N w w') (hN : N ≤ w'.heap.size) (o : Obj) : Mid n N w (w'.alloc o) := h.up ((Below.refl _ _).alloc (Nat.le_refl _) o) hN
theorem Mid.setCell {n N : Nat} {w w' : World} (h : Mid n N w w') {a : Addr} (ha : a.block < n ∨ N ≤ a.block) (v : Value) : Mid n N w (w'.setCell a v) :=
  ⟨by simpa [World.setCell] using h.size, fun b h1 h2 => (Below.heap_setCell w' a v b (by omega)).trans (h.block b h1 h2)⟩
theorem Mid.row {n N : Nat} {w w' : World} (h : Mid n N w w') {p : Option Addr} {k : Nat} {rows : List (List Value)} (hr : Row w p k rows) (hp : 0 < rows.length → ∀ b off, p = some ⟨b, off, none⟩ → n ≤ b) (hk : ∀ r ∈ rows, 0 < r.length) (hN : w.heap.size ≤ N) : Row w' p k rows := by
  intro i row hi
  have hl : 0 < rows.length := by have := (List.getElem?_eq_some_iff.1 hi).1; omega
  obtain ⟨b, off, e, hc⟩ := hr i row hi
  have h1 := hp hl b off e
  have h2 := hr.lt hk hl e
  exact ⟨b, off, e, fun j x hj => (World.cell?_of_block (a := ⟨b, off + i * k + j, none⟩) (h.block b h1 (by omega))).trans (hc j x hj)⟩
theorem triples_pos (l : List (Int × Int × Int)) : ∀ r ∈ triples l, 0 < r.length := fun r hr => by simp only [triples, List.mem_map] at hr; obtain ⟨x, -, rfl⟩ := hr; simp
theorem Mid.lists {n N : Nat} {w w' : World} {s : Sd} (h : Mid n N w w') (hl : Lists w s pT pF pS cT cF cS) (hf : Fresh n s pT pF pS) (hN : w.heap.size ≤ N) : Lists w' s pT pF pS cT cF cS :=
  ⟨h.row hl.rt (fun h => hf.1 (by simpa [pairs] using h)) (pairs_pos _) hN, h.row hl.rf (fun h => hf.2.1 (by simpa [ints] using h)) (ints_pos _) hN, h.row hl.rs (fun h => hf.2.2 (by simpa [triples] using h)) (triples_pos _) hN, hl.ct, hl.cf, hl.cs, hl.mt, hl.mf, hl.ms⟩

/-- the five cells of sands at a block -/
structure At5 (w : World) (B : Nat) (s : Sd) (pT pF pS : Option Addr) (cT cF cS : Nat) : Prop where
  c0 : w.cell? ⟨B, 0, none⟩ = some (.slice pT s.table.length cT)
  c1 : w.cell? ⟨B, 1, none⟩ = some (.int .i64 s.lo)
  c2 : w.cell? ⟨B, 2, none⟩ = some (.int .i64 s.hi)
  c3 : w.cell? ⟨B, 3, none⟩ = some (.slice pF s.floors.length cF)
  c4 : w.cell? ⟨B, 4, none⟩ = some (.slice pS s.sills.length cS)
theorem At5.up {w w' : World} {B : Nat} {s : Sd} (h : At5 w B s pT pF pS cT cF cS) (u : Up w w') : At5 w' B s pT pF pS cT cF cS := ⟨u.cellAt h.c0, u.cellAt h.c1, u.cellAt h.c2, u.cellAt h.c3, u.cellAt h.c4⟩

/-- sands held twice: the layer's own copy, and the reference's -/
def Both (w0 wx : World) (s : Sd) (a b : Value) : Prop :=
  ∃ B5 B6 qT qF qS dT dF dS rT rF rS gT gF gS, a = .pointer (some ⟨B5, 0, none⟩) ∧ b = .pointer (some ⟨B6, 0, none⟩) ∧ Up w0 wx ∧ Lists wx s qT qF qS dT dF dS ∧ Lists wx s rT rF rS gT gF gS ∧
    At5 wx B5 s qT qF qS dT dF dS ∧ At5 wx B6 s rT rF rS gT gF gS

/-- a value is none of the places where copies lie -/
def Off (s : Sd) (pT pF pS : Option Addr) (v : Value) : Prop :=
  (0 < s.table.length → ∀ b off, pT = some ⟨b, off, none⟩ → v ≠ .pointer (some ⟨b, 0, none⟩)) ∧ (0 < s.floors.length → ∀ b off, pF = some ⟨b, off, none⟩ → v ≠ .pointer (some ⟨b, 0, none⟩)) ∧ (0 < s.sills.length → ∀ b off, pS = some ⟨b, off, none⟩ → v ≠ .pointer (some ⟨b, 0, none⟩))

theorem Fresh.off {n : Nat} {s : Sd} (h : Fresh n s pT pF pS) {v : Value} (hv : ∀ b, v = .pointer (some ⟨b, 0, none⟩) → b < n) : Off s pT pF pS v :=
  ⟨fun h0 b off e ev => by have := h.1 h0 b off e; have := hv b ev; omega, fun h0 b off e ev => by have := h.2.1 h0 b off e; have := hv b ev; omega, fun h0 b off e ev => by have := h.2.2 h0 b off e; have := hv b ev; omega⟩
theorem Lists.off {w : World} {s : Sd} (h : Lists w s pT pF pS cT cF cS) {B : Nat} (hB : w.heap.size ≤ B) : Off s pT pF pS (.pointer (some ⟨B, 0, none⟩)) :=
  ⟨fun h0 b off e ev => by have := h.rt.lt (pairs_pos _) (by simpa [pairs] using h0) e; simp only [Value.pointer.injEq, Option.some.injEq, Addr.mk.injEq] at ev; omega,
   fun h0 b off e ev => by have := h.rf.lt (ints_pos _) (by simpa [ints] using h0) e; simp only [Value.pointer.injEq, Option.some.injEq, Addr.mk.injEq] at ev; omega,
   fun h0 b off e ev => by have := h.rs.lt (triples_pos _) (by simpa [triples] using h0) e; simp only [Value.pointer.injEq, Option.some.injEq, Addr.mk.injEq] at ev; omega⟩
theorem Lists.setOff {w : World} {s : Sd} (h : Lists w s pT pF pS cT cF cS) {B : Nat} (ho : Off s pT pF pS (.pointer (some ⟨B, 0, none⟩))) (i : Nat) (v : Value) : Lists (w.setCell ⟨B, i, none⟩ v) s pT pF pS cT cF cS :=
  ⟨h.rt.away (fun h0 b off e he => ho.1 (by simpa [pairs] using h0) b off e (by simp only at he; rw [he])) v, h.rf.away (fun h0 b off e he => ho.2.1 (by simpa [ints] using h0) b off e (by simp only at he; rw [he])) v,
   h.rs.away (fun h0 b off e he => ho.2.2 (by simpa [triples] using h0) b off e (by simp only at he; rw [he])) v, h.ct, h.cf, h.cs, h.mt, h.mf, h.ms⟩

/-- a value that holds sands, copied to places of its own -/
def Copied (w : World) (s : Sd) (v v4 v5 : Value) : Prop := ∃ qT qF qS dT dF dS, v = sdVal s qT qF qS dT dF dS ∧ Lists w s qT qF qS dT dF dS ∧ Off s qT qF qS v4 ∧ Off s qT qF qS v5

def zero5 : List Value := [.slice none 0 0, .int .i64 0, .int .i64 0, .slice none 0 0, .slice none 0 0]
/-- how far the statement 'own, x := Own(s), theirs(s)' has come -/
structure Pair (w1 : World) (s : Sd) (val : Value) (done : Nat → Bool) (w : World) (v0 v1 v2 v3 v4 v5 : Value) : Prop where
  up : Up w1 w
  l0 : done 0 = true → v0 = val
  l2 : done 2 = true → v2 = val
  own : done 1 = true → Copied w s v1 v4 v5
  the : done 3 = true → Copied w s v3 v4 v5
  a4 : done 4 = true → ∃ B, v4 = .pointer (some ⟨B, 0, none⟩) ∧ Blk w B zero5 28 ∧ w1.heap.size ≤ B
  a5 : done 5 = true → ∃ B, v5 = .pointer (some ⟨B, 0, none⟩) ∧ Blk w B zero5 35 ∧ w1.heap.size ≤ B
  n4 : done 4 = false → v4 = undef
  n5 : done 5 = false → v5 = undef

theorem Copied.up {w w' : World} {s : Sd} {v v4 v5 : Value} (h : Copied w s v v4 v5) (u : Up w w') : Copied w' s v v4 v5 := by
  obtain ⟨qT, qF, qS, dT, dF, dS, h1, h2, h3, h4⟩ := h
  exact ⟨qT, qF, qS, dT, dF, dS, h1, h2.up u, h3, h4⟩

theorem At5.of {w : World} {B : Nat} {s : Sd} {T : TypeId} (h : Blk w B (sdCells s pT pF pS cT cF cS) T) : At5 w B s pT pF pS cT cF cS := by
  have c0 := h.cell 0
  have c1 := h.cell 1
  have c2 := h.cell 2
  have c3 := h.cell 3
  have c4 := h.cell 4
  simp only [sdCells, List.getElem?_cons_zero, List.getElem?_cons_succ] at c0 c1 c2 c3 c4
  exact ⟨c0, c1, c2, c3, c4⟩
/-- five stores fill a block -/
def fill (w : World) (B : Nat) (s : Sd) (pT pF pS : Option Addr) (cT cF cS : Nat) : World :=
  ((((w.setCell ⟨B, 0, none⟩ (.slice pT s.table.length cT)).setCell ⟨B, 1, none⟩ (.int .i64 s.lo)).setCell ⟨B, 2, none⟩ (.int .i64 s.hi)).setCell ⟨B, 3, none⟩ (.slice pF s.floors.length cF)).setCell ⟨B, 4, none⟩ (.slice pS s.sills.length cS)
theorem fill_blk {w : World} {B : Nat} {T : TypeId} (h : Blk w B zero5 T) (s : Sd) (pT pF pS : Option Addr) (cT cF cS : Nat) : Blk (fill w B s pT pF pS cT cF cS) B (sdCells s pT pF pS cT cF cS) T := by
  exact ((((h.set 0 _).set 1 _).set 2 _).set 3 _).set 4 _
theorem fill_other {w : World} {B C : Nat} {cs : List Value} {T : TypeId} (h : Blk w C cs T) (hne : C ≠ B) (s : Sd) (pT pF pS : Option Addr) (cT cF cS : Nat) : Blk (fill w B s pT pF pS cT cF cS) C cs T := by
  exact ((((h.other (a := ⟨B, 0, none⟩) hne _).other (a := ⟨B, 1, none⟩) hne _).other (a := ⟨B, 2, none⟩) hne _).other (a := ⟨B, 3, none⟩) hne _).other (a := ⟨B, 4, none⟩) hne _
theorem fill_up {w1 w : World} (u : Up w1 w) {B : Nat} (hB : w1.heap.size ≤ B) (s : Sd) (pT pF pS : Option Addr) (cT cF cS : Nat) : Up w1 (fill w B s pT pF pS cT cF cS) := by
  exact ((((u.setCell (p := ⟨B, 0, none⟩) hB _).setCell (p := ⟨B, 1, none⟩) hB _).setCell (p := ⟨B, 2, none⟩) hB _).setCell (p := ⟨B, 3, none⟩) hB _).setCell (p := ⟨B, 4, none⟩) hB _
theorem fill_lists {w : World} {s : Sd} {qT qF qS : Option Addr} {dT dF dS : Nat} (h : Lists w s qT qF qS dT dF dS) {B : Nat} (ho : Off s qT qF qS (.pointer (some ⟨B, 0, none⟩))) (pT pF pS : Option Addr) (cT cF cS : Nat) : Lists (fill w B s pT pF pS cT cF cS) s qT qF qS dT dF dS :=
  ((((h.setOff ho 0 _).setOff ho 1 _).setOff ho 2 _).setOff ho 3 _).setOff ho 4 _

section
variable {w1 w w' : World} {s : Sd} {val : Value} {done : Nat → Bool} {v0 v1 v2 v3 v4 v5 : Value}
theorem Pair.start (w : World) (s : Sd) (val : Value) : Pair w s val (fun _ => false) w.drew undef undef undef undef undef undef :=
  ⟨(Below.refl _ _).drew, fun h => (by cases h), fun h => (by cases h), fun h => (by cases h), fun h => (by cases h), fun h => (by cases h), fun h => (by cases h), fun _ => rfl, fun _ => rfl⟩
theorem Pair.load0 (h : Pair w1 s val done w v0 v1 v2 v3 v4 v5) : Pair w1 s val (upd done 0) w val v1 v2 v3 v4 v5 :=
  ⟨h.up, fun _ => rfl, fun e => h.l2 (by simpa [upd] using e), fun e => h.own (by simpa [upd] using e), fun e => h.the (by simpa [upd] using e), fun e => h.a4 (by simpa [upd] using e), fun e => h.a5 (by simpa [upd] using e), fun e => h.n4 (by simpa [upd] using e), fun e => h.n5 (by simpa [upd] using e)⟩
theorem Pair.load2 (h : Pair w1 s val done w v0 v1 v2 v3 v4 v5) : Pair w1 s val (upd done 2) w v0 v1 val v3 v4 v5 :=
  ⟨h.up, fun e => h.l0 (by simpa [upd] using e), fun _ => rfl, fun e => h.own (by simpa [upd] using e), fun e => h.the (by simpa [upd] using e), fun e => h.a4 (by simpa [upd] using e), fun e => h.a5 (by simpa [upd] using e), fun e => h.n4 (by simpa [upd] using e), fun e => h.n5 (by simpa [upd] using e)⟩
theorem Pair.low4 (h : Pair w1 s val done w v0 v1 v2 v3 v4 v5) : ∀ b, v4 = .pointer (some ⟨b, 0, none⟩) → b < w.heap.size := fun b e => by
  cases hd : done 4
  · rw [h.n4 hd] at e; cases e
  · obtain ⟨B, rfl, hB, -⟩ := h.a4 hd
    simp only [Value.pointer.injEq, Option.some.injEq, Addr.mk.injEq, and_true] at e
    obtain ⟨rfl, -⟩ := e
    exact hB.lt
theorem Pair.low5 (h : Pair w1 s val done w v0 v1 v2 v3 v4 v5) : ∀ b, v5 = .pointer (some ⟨b, 0, none⟩) → b < w.heap.size := fun b e => by
  cases hd : done 5
  · rw [h.n5 hd] at e; cases e
  · obtain ⟨B, rfl, hB, -⟩ := h.a5 hd
    simp only [Value.pointer.injEq, Option.some.injEq, Addr.mk.injEq, and_true] at e
    obtain ⟨rfl, -⟩ := e
    exact hB.lt
theorem Pair.call1 {qT qF qS : Option Addr} {dT dF dS : Nat} (h : Pair w1 s val done w v0 v1 v2 v3 v4 v5) (u : Up w w') (hl : Lists w' s qT qF qS dT dF dS) (hf : Fresh w.heap.size s qT qF qS) : Pair w1 s val (upd done 1) w' v0 (sdVal s qT qF qS dT dF dS) v2 v3 v4 v5 :=
  ⟨Up.trans h.up u, fun e => h.l0 (by simpa [upd] using e), fun e => h.l2 (by simpa [upd] using e), fun _ => ⟨_, _, _, _, _, _, rfl, hl, hf.off h.low4, hf.off h.low5⟩, fun e => (h.the (by simpa [upd] using e)).up u,
   fun e => (by obtain ⟨B, e1, e2, e3⟩ := h.a4 (by simpa [upd] using e); exact ⟨B, e1, e2.up u, e3⟩), fun e => (by obtain ⟨B, e1, e2, e3⟩ := h.a5 (by simpa [upd] using e); exact ⟨B, e1, e2.up u, e3⟩), fun e => h.n4 (by simpa [upd] using e), fun e => h.n5 (by simpa [upd] using e)⟩
theorem Pair.call3 {qT qF qS : Option Addr} {dT dF dS : Nat} (h : Pair w1 s val done w v0 v1 v2 v3 v4 v5) (u : Up w w') (hl : Lists w' s qT qF qS dT dF dS) (hf : Fresh w.heap.size s qT qF qS) : Pair w1 s val (upd done 3) w' v0 v1 v2 (sdVal s qT qF qS dT dF dS) v4 v5 :=
  ⟨Up.trans h.up u, fun e => h.l0 (by simpa [upd] using e), fun e => h.l2 (by simpa [upd] using e), fun e => (h.own (by simpa [upd] using e)).up u, fun _ => ⟨_, _, _, _, _, _, rfl, hl, hf.off h.low4, hf.off h.low5⟩,
   fun e => (by obtain ⟨B, e1, e2, e3⟩ := h.a4 (by simpa [upd] using e); exact ⟨B, e1, e2.up u, e3⟩), fun e => (by obtain ⟨B, e1, e2, e3⟩ := h.a5 (by simpa [upd] using e); exact ⟨B, e1, e2.up u, e3⟩), fun e => h.n4 (by simpa [upd] using e), fun e => h.n5 (by simpa [upd] using e)⟩
theorem Copied.alloc4 {v : Value} (h : Copied w s v v4 v5) (o : Obj) : Copied (w.alloc o) s v (.pointer (some ⟨w.heap.size, 0, none⟩)) v5 := by
  obtain ⟨qT, qF, qS, dT, dF, dS, h1, h2, h3, h4⟩ := h
  exact ⟨qT, qF, qS, dT, dF, dS, h1, h2.up (by (repeat (first | exact Below.refl _ _ | (with_reducible refine Below.drewN' ?_ _) | (with_reducible refine Below.drew ?_) | (with_reducible refine Below.setCell ?_ (by first | exact Nat.le_refl _ | omega | (with_reducible (repeat (first | refine sz_alloc ?_ | refine sz_setCell ?_ | refine sz_drew ?_ | refine sz_drewN ?_)); first | exact Nat.le_refl _ | omega) | (simp only [World.size_alloc, World.size_setCell, World.size_drew, size_drewN']; omega)) _) | (with_reducible refine Below.alloc ?_ (by first | exact Nat.le_refl _ | omega | (with_reducible (repeat (first | refine sz_alloc ?_ | refine sz_setCell ?_ | refine sz_drew ?_ | refine sz_drewN ?_)); first | exact Nat.le_refl _ | omega) | (simp only [World.size_alloc, World.size_setCell, World.size_drew, size_drewN']; omega)) _) | assumption))), h2.off (Nat.le_refl _), h4⟩
theorem Copied.alloc5 {v : Value} (h : Copied w s v v4 v5) (o : Obj) : Copied (w.alloc o) s v v4 (.pointer (some ⟨w.heap.size, 0, none⟩)) := by
  obtain ⟨qT, qF, qS, dT, dF, dS, h1, h2, h3, h4⟩ := h
  exact ⟨qT, qF, qS, dT, dF, dS, h1, h2.up (by (repeat (first | exact Below.refl _ _ | (with_reducible refine Below.drewN' ?_ _) | (with_reducible refine Below.drew ?_) | (with_reducible refine Below.setCell ?_ (by first | exact Nat.le_refl _ | omega | (with_reducible (repeat (first | refine sz_alloc ?_ | refine sz_setCell ?_ | refine sz_drew ?_ | refine sz_drewN ?_)); first | exact Nat.le_refl _ | omega) | (simp only [World.size_alloc, World.size_setCell, World.size_drew, size_drewN']; omega)) _) | (with_reducible refine Below.alloc ?_ (by first | exact Nat.le_refl _ | omega | (with_reducible (repeat (first | refine sz_alloc ?_ | refine sz_setCell ?_ | refine sz_drew ?_ | refine sz_drewN ?_)); first | exact Nat.le_refl _ | omega) | (simp only [World.size_alloc, World.size_setCell, World.size_drew, size_drewN']; omega)) _) | assumption))), h3, h2.off (Nat.le_refl _)⟩
theorem Pair.alloc4 (h : Pair w1 s val done w v0 v1 v2 v3 v4 v5) : Pair w1 s val (upd done 4) (w.alloc (.cells #[.slice none 0 0, .int .i64 0, .int .i64 0, .slice none 0 0, .slice none 0 0] 28)) v0 v1 v2 v3 (.pointer (some ⟨w.heap.size, 0, none⟩)) v5 :=
  have u : Up w (w.alloc (.cells #[.slice none 0 0, .int .i64 0, .int .i64 0, .slice none 0 0, .slice none 0 0] 28)) := by (repeat (first | exact Below.refl _ _ | (with_reducible refine Below.drewN' ?_ _) | (with_reducible refine Below.drew ?_) | (with_reducible refine Below.setCell ?_ (by first | exact Nat.le_refl _ | omega | (with_reducible (repeat (first | refine sz_alloc ?_ | refine sz_setCell ?_ | refine sz_drew ?_ | refine sz_drewN ?_)); first | exact Nat.le_refl _ | omega) | (simp only [World.size_alloc, World.size_setCell, World.size_drew, size_drewN']; omega)) _) | (with_reducible refine Below.alloc ?_ (by first | exact Nat.le_refl _ | omega | (with_reducible (repeat (first | refine sz_alloc ?_ | refine sz_setCell ?_ | refine sz_drew ?_ | refine sz_drewN ?_)); first | exact Nat.le_refl _ | omega) | (simp only [World.size_alloc, World.size_setCell, World.size_drew, size_drewN']; omega)) _) | assumption))
  ⟨Up.trans h.up u, fun e => h.l0 (by simpa [upd] using e), fun e => h.l2 (by simpa [upd] using e), fun e => (h.own (by simpa [upd] using e)).alloc4 _, fun e => (h.the (by simpa [upd] using e)).alloc4 _,
   fun _ => ⟨_, rfl, Blk.new w zero5 _, h.up.size⟩, fun e => (by obtain ⟨B, e1, e2, e3⟩ := h.a5 (by simpa [upd] using e); exact ⟨B, e1, e2.up u, e3⟩), fun e => (by simp [upd] at e), fun e => h.n5 (by simpa [upd] using e)⟩
theorem Pair.alloc5 (h : Pair w1 s val done w v0 v1 v2 v3 v4 v5) : Pair w1 s val (upd done 5) (w.alloc (.cells #[.slice none 0 0, .int .i64 0, .int .i64 0, .slice none 0 0, .slice none 0 0] 35)) v0 v1 v2 v3 v4 (.pointer (some ⟨w.heap.size, 0, none⟩)) :=
  have u : Up w (w.alloc (.cells #[.slice none 0 0, .int .i64 0, .int .i64 0, .slice none 0 0, .slice none 0 0] 35)) := by (repeat (first | exact Below.refl _ _ | (with_reducible refine Below.drewN' ?_ _) | (with_reducible refine Below.drew ?_) | (with_reducible refine Below.setCell ?_ (by first | exact Nat.le_refl _ | omega | (with_reducible (repeat (first | refine sz_alloc ?_ | refine sz_setCell ?_ | refine sz_drew ?_ | refine sz_drewN ?_)); first | exact Nat.le_refl _ | omega) | (simp only [World.size_alloc, World.size_setCell, World.size_drew, size_drewN']; omega)) _) | (with_reducible refine Below.alloc ?_ (by first | exact Nat.le_refl _ | omega | (with_reducible (repeat (first | refine sz_alloc ?_ | refine sz_setCell ?_ | refine sz_drew ?_ | refine sz_drewN ?_)); first | exact Nat.le_refl _ | omega) | (simp only [World.size_alloc, World.size_setCell, World.size_drew, size_drewN']; omega)) _) | assumption))
  ⟨Up.trans h.up u, fun e => h.l0 (by simpa [upd] using e), fun e => h.l2 (by simpa [upd] using e), fun e => (h.own (by simpa [upd] using e)).alloc5 _, fun e => (h.the (by simpa [upd] using e)).alloc5 _,
   fun e => (by obtain ⟨B, e1, e2, e3⟩ := h.a4 (by simpa [upd] using e); exact ⟨B, e1, e2.up u, e3⟩), fun _ => ⟨_, rfl, Blk.new w zero5 _, h.up.size⟩, fun e => h.n4 (by simpa [upd] using e), fun e => (by simp [upd] at e)⟩
end
end
end Go.Proofs.YtknaajofcbenaaaGreat
