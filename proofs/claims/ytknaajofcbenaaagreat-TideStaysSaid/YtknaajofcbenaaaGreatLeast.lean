import Derived.Test.YtknaajofcbenaaaGreatBase
import Derived.Test.YtknaajofcbenaaaGreatHeight
import Derived.Test.YtknaajofcbenaaaGreatChk2
import Derived.Test.YtknaajofcbenaaaGreatCheck
import Derived.Test.YtknaajofcbenaaaGreatOn
import Derived.Test.YtknaajofcbenaaaGreatGates
import Derived.Test.YtknaajofcbenaaaGreatBegin
import Derived.Test.YtknaajofcbenaaaGreatLead
import Derived.Test.YtknaajofcbenaaaGreatWaysF
import Derived.WalkKit
import Derived.WalkSpells
import Derived.WalkLawsBesides
import Derived.Deep.QuietTactic
import Derived.BigQuiet
import Derived.Lib.Hide
import Derived.Shelf.Abstract
import Derived.BigGuardPart
import Derived.RangeFuncNested
import Derived.RangeFuncBound
import Derived.RangeFuncCalls
import Derived.RangeFuncLeaves
import Derived.Shelf.RegionOpen
import Derived.OwnWalkIn
import Derived.TacticsInMore
import Derived.LoopNIn
import Derived.LoopIn
import Derived.StillTailTactics
import Derived.Deep.RegionHeld3
import Derived.StillTail
import Derived.RangeFuncWrites
import Derived.Laws.StructEq
import Derived.Deep.LoopGhost
import Derived.IntWalk
import Derived.RangeFuncBox
import Derived.ArgAppend
import Derived.Laws.CopyOwn
import Derived.OwnWalk
import Derived.Lib.SliceRun
namespace Go.Proofs.YtknaajofcbenaaaGreat
open Go.RowKit Go.Shelf

def leastS (s : Sd) (h : Int) (l : List Int) : Int := l.foldl (fun h i => min h (s.sills[i.toNat]?.getD (0, 0, 0)).2.2) h
def leastF (s : Sd) (h : Int) (l : List Int) : Int := l.foldl (fun h p => min h (s.floors[p.toNat]?.getD 0)) h
theorem leastS_step (s : Sd) (h : Int) (l : List Int) (k : Nat) (hk : k < l.length) : leastS s h (l.drop k) = leastS s (min h (s.sills[l[k].toNat]?.getD (0, 0, 0)).2.2) (l.drop (k + 1)) := by
  rw [List.drop_eq_getElem_cons hk]; rfl
theorem leastF_step (s : Sd) (h : Int) (l : List Int) (k : Nat) (hk : k < l.length) : leastF s h (l.drop k) = leastF s (min h (s.floors[l[k].toNat]?.getD 0)) (l.drop (k + 1)) := by
  rw [List.drop_eq_getElem_cons hk]; rfl

section
variable {pT pF pS : Option Addr} {cT cF cS : Nat}
set_option maxRecDepth 100000 in
set_option maxHeartbeats 4000000 in
theorem least_c (bw : Nat) (s : Sd) (ss ps : List Int) (p1 p2 : Option Addr) (c1 c2 : Nat) (w : World) (hw : SandsAt w bw 0 s pT pF pS cT cF cS) (_m2 : s.floors.length ≤ 8) (_m3 : s.sills.length ≤ 16) (h1 : Row w p1 1 (ints ss)) (h2 : Row w p2 1 (ints ps)) (l1 : ss.length ≤ 10000) (l2 : ps.length ≤ 10000)
    (g1 : ∀ i ∈ ss, 0 ≤ i ∧ i < s.sills.length) (g2 : ∀ p ∈ ps, 0 ≤ p ∧ p < s.floors.length) :
    Calls Tryz.prog 109 #[.pointer (some ⟨bw, 0, none⟩), .slice p1 ss.length c1, .slice p2 ps.length c2] w fun e w' => e = .returned (.int .i64 (leastF s (leastS s 999 ss) ps)) ∧ Up w w' := by
  have d3 := hw.s3
  have d4 := hw.s4
  have lb := cell_lt d3
  have HW := Lib.hid hw
  have H1 := Lib.hid h1
  have H2 := Lib.hid h2
  clear hw h1 h2
  go_enter Tryz.func109, Tryz.ntmps109
  go_wp2_with fail
  go_loopw [7, 14] (fun v i wr => ∃ (k : Nat) (h : Int), k ≤ ss.length ∧ i = .int .i64 k ∧ v = .int .i64 h ∧ leastS s 999 ss = leastS s h (ss.drop k) ∧ wr = w) (fun _ i _ => ss.length - (intOf i).toNat)
  case atStart => exact ⟨0, 999, Nat.zero_le _, rfl, rfl, rfl, rfl⟩
  case round =>
    obtain ⟨k, h, hk, rfl, rfl, ht, rfl⟩ := hrel
    have HT := Lib.hid ht
    clear ht
    by_cases hlt : k < ss.length
    · obtain ⟨b, off, rfl, e0⟩ := H1.out.int k hlt
      obtain ⟨r1, r2⟩ := g1 ss[k] (List.getElem_mem hlt)
      have HS := Lib.hid (leastS_step s h ss k hlt)
      generalize ss[k] = x at *
      obtain ⟨n, rfl⟩ := Int.eq_ofNat_of_zero_le r1
      have hn : n < s.sills.length := by omega
      obtain ⟨b', off', rfl, -, -, e3⟩ := HW.out.rs.triple n hn
      have HX := Lib.hid (show (s.sills[(n : Int).toNat]?.getD (0, 0, 0)).2.2 = s.sills[n].2.2 by rw [Int.toNat_natCast, List.getElem?_eq_getElem hn]; rfl)
      go_wp2_with fail
      go_roundw
      case rel =>
        refine ⟨k + 1, min h s.sills[n].2.2, hlt, by go_num, ?_, by rw [HT.out, HS.out, HX.out], trivial⟩
        congr 1; simp only [Int.min_def]; split <;> omega
      case measure => simp [intOf]; omega
    · obtain rfl : k = ss.length := by omega
      have HSS := Lib.hid (show leastS s 999 ss = h by rw [HT.out]; simp [leastS])
      go_wp2_with fail
      clear HT d4
      go_loopw [7, 32] (fun v i ww => ∃ (k : Nat) (h' : Int), k ≤ ps.length ∧ i = .int .i64 k ∧ v = .int .i64 h' ∧ leastF s h ps = leastF s h' (ps.drop k) ∧ ww = wr) (fun _ i _ => ps.length - (intOf i).toNat)
      case atStart => exact ⟨0, h, Nat.zero_le _, rfl, rfl, rfl, rfl⟩
      case round =>
        obtain ⟨k, h', hk', rfl, rfl, ht, rfl⟩ := hrel
        have HT := Lib.hid ht
        clear ht
        by_cases hlt : k < ps.length
        · obtain ⟨b, off, rfl, e0⟩ := H2.out.int k hlt
          obtain ⟨r1, r2⟩ := g2 ps[k] (List.getElem_mem hlt)
          have HS := Lib.hid (leastF_step s h' ps k hlt)
          generalize ps[k] = x at *
          obtain ⟨n, rfl⟩ := Int.eq_ofNat_of_zero_le r1
          have hn : n < s.floors.length := by omega
          obtain ⟨b', off', rfl, e3⟩ := HW.out.rf.int n hn
          have HX := Lib.hid (show s.floors[(n : Int).toNat]?.getD 0 = s.floors[n] by rw [Int.toNat_natCast, List.getElem?_eq_getElem hn]; rfl)
          go_wp2_with fail
          go_roundw
          case rel =>
            refine ⟨k + 1, min h' s.floors[n], hlt, by go_num, ?_, by rw [HT.out, HS.out, HX.out], trivial⟩
            congr 1; simp only [Int.min_def]; split <;> omega
          case measure => simp [intOf]; omega
        · obtain rfl : k = ps.length := by omega
          have HS := Lib.hid (show leastF s h ps = h' by rw [HT.out]; simp [leastF])
          go_wp2_with fail
          go_ret
          exact ⟨by rw [HSS.out, HS.out]; rfl, Below.refl _ _⟩
end
end Go.Proofs.YtknaajofcbenaaaGreat
