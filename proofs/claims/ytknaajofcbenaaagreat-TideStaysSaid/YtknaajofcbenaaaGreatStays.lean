/- Proved: whatever sands, minute, place and places are passed in, the law TideStays returns true, and the arguments read behind the call as they read before it. Conditions: none but those that the given row states of itself. -/
import Derived.Test.YtknaajofcbenaaaGreatStaysL
import Derived.Test.YtknaajofcbenaaaGreatPost
import Derived.Test.YtknaajofcbenaaaGreatOpen
import Derived.WalkKit
import Derived.WalkSpells
import Derived.WalkLawsBesides
import Derived.Deep.QuietTactic
import Derived.BigQuiet
import Derived.Lib.Hide
import Derived.Shelf.Abstract
import Derived.BigGuardPart
import Derived.RangeFuncNested
import Derived.RangeFuncBound
import Derived.RangeFuncCalls
import Derived.RangeFuncLeaves
import Derived.Shelf.RegionOpen
import Derived.OwnWalkIn
import Derived.TacticsInMore
import Derived.LoopNIn
import Derived.LoopIn
import Derived.StillTailTactics
import Derived.Deep.RegionHeld3
import Derived.StillTail
import Derived.RangeFuncWrites
import Derived.Laws.StructEq
import Derived.Deep.LoopGhost
import Derived.IntWalk
import Derived.RangeFuncBox
import Derived.ArgAppend
import Derived.Laws.CopyOwn
import Derived.OwnWalk
import Derived.Lib.SliceRun
import Derived.Maps.OwnOps
import Derived.Maps.OwnSet
import Derived.Deep.AppendSrc
import Derived.Deep.Upon
import Derived.Deep.Cut
import Derived.Deep.DeepCutAuto
import Derived.Carry
import Derived.ChangeSame
import Derived.SizedLaws
import Derived.ProofKit
import Derived.OpenShut
import Derived.JoinedOf
import Derived.Deep.Slices
namespace Go.Proofs.YtknaajofcbenaaaGreat
open Go.ChangeShapes Go.WideShapes Go.ChangeAt Go.RowKit

section
variable {H : Type} {enc : TypeId × Value → H}
set_option maxRecDepth 100000 in
theorem open_ints {w : World} {base : Nat} {v : Value} {d : DataW H} {ps : List MemPlace} (hv : Value.okWide Tryz.prog w .any base 25 v) (h : DataW.Trod enc Tryz.prog w 0 (fun _ => true) true 25 v d ps) (hz : ∀ n ∈ DataW.weights Tryz.prog 25 d, n ≤ reachBytes) :
    ∃ p l c, v = .slice p l.length c ∧ Row w p 1 (ints l) ∧ l.length * 8 ≤ 140737488355328 := by
  obtain ⟨fuel, hf⟩ := h
  obtain ⟨p0, n0, c0, rfl⟩ := okWide_slice Tryz.underlying25 hv
  have hf' : DataW.trod enc Tryz.prog w 0 (fun _ => true) true fuel 25 [.slice p0 n0 c0] = some (d, ps) := hf
  obtain ⟨p, len, cap, rows, e, a1, a2, a3, a4, a5, a6⟩ := open_rows Tryz.underlying25 cellsInt (by decide) el_int hf'
  obtain ⟨l, rfl⟩ := ints_of a5
  have q : (ints l).length = l.length := by simp [ints]
  rw [q] at a3
  subst a3
  exact ⟨p, l, cap, e, a4, room_of Tryz.underlying25 bytesInt a1 a6 hz⟩
end

section
variable {pT pF pS : Option Addr} {cT cF cS : Nat}
set_option maxRecDepth 100000 in
set_option maxHeartbeats 1000000 in
theorem staysWide_c (s : Sd) (m x : Int) (la : List Int) (qa : Option Addr) (da : Nat) (w : World) (hw : wideB s = true ∨ 20 < la.length) :
    Calls Tryz.prog 3 #[sdVal s pT pF pS cT cF cS, .int .i64 m, .int .i64 x, .slice qa la.length da] w fun e w' => e = .returned (.bool true) ∧ Up w w' := by
  have HW := Lib.hid hw
  clear hw
  unfold sdVal
  go_enter Tryz.func3, Tryz.ntmps3
  go_wp2_with fail
  refine (wide_c s _).mono ?_
  rintro e w1 ⟨rfl, u1⟩
  have U1 : Hid (Up w w1) := Up.trans (by (repeat (first | exact Below.refl _ _ | (with_reducible refine Below.drewN' ?_ _) | (with_reducible refine Below.drew ?_) | (with_reducible refine Below.setCell ?_ (by first | exact Nat.le_refl _ | omega | (with_reducible (repeat (first | refine sz_alloc ?_ | refine sz_setCell ?_ | refine sz_drew ?_ | refine sz_drewN ?_)); first | exact Nat.le_refl _ | omega) | (simp only [World.size_alloc, World.size_setCell, World.size_drew, size_drewN']; omega)) _) | (with_reducible refine Below.alloc ?_ (by first | exact Nat.le_refl _ | omega | (with_reducible (repeat (first | refine sz_alloc ?_ | refine sz_setCell ?_ | refine sz_drew ?_ | refine sz_drewN ?_)); first | exact Nat.le_refl _ | omega) | (simp only [World.size_alloc, World.size_setCell, World.size_drew, size_drewN']; omega)) _) | assumption))) u1
  have HA := Lib.hid (awake_c w1)
  clear u1
  cases hb : wideB s with
  | true =>
    have HB := Lib.hid hb
    clear hb
    go_wp2_with fail
    all_goals
      refine HA.out.mono ?_
      rintro e w4 ⟨rfl, u4⟩
      have U4 := Lib.hid (Up.trans U1.out u4)
      clear u4 U1 HA
      go_wp2_with fail
      go_ret
      exact ⟨rfl, U4.out⟩
  | false =>
    have hw : 20 < la.length := by
      rcases HW.out with h | h
      · rw [hb] at h; cases h
      · exact h
    have HB := Lib.hid hb
    clear hb HW
    have g1 : (20 : Int) < (la.length : Int) := by omega
    go_wp2_with fail
    all_goals
      refine HA.out.mono ?_
      rintro e w4 ⟨rfl, u4⟩
      have U4 := Lib.hid (Up.trans U1.out u4)
      clear u4 U1 HA
      go_wp2_with fail
      go_ret
      exact ⟨rfl, U4.out⟩

theorem tideStays_c (s : Sd) (m x : Int) (la : List Int) (qa : Option Addr) (da : Nat) (w : World) (hl : Lists w s pT pF pS cT cF cS) (ra : Row w qa 1 (ints la)) (b1 : s.table.length * 16 ≤ 140737488355328) (b2 : s.floors.length * 8 ≤ 140737488355328) (b3 : s.sills.length * 24 ≤ 140737488355328) :
    Calls Tryz.prog 3 #[sdVal s pT pF pS cT cF cS, .int .i64 m, .int .i64 x, .slice qa la.length da] w fun e w' => e = .returned (.bool true) ∧ Up w w' := by
  by_cases h : wideB s = true ∨ 20 < la.length
  · exact staysWide_c s m x la qa da w h
  · have h1 : wideB s = false := by
      cases hb : wideB s
      · rfl
      · exact absurd (.inl hb) h
    exact stays_c s m x la qa da w hl ra b1 b2 b3 h1 (by omega)
end

set_option maxRecDepth 100000 in
theorem stays_contract (H : Type) (enc : TypeId × Value → H) (W : World) (base : Nat) (args : Array Value) (ds gs : List (DataW H)) (before : List MemPlace)
    (hval : ∀ (j : Nat) t v, Tryz.f3.params[j]? = some t → args[j]? = some v → Value.okWide Tryz.prog W .any base t v)
    (hW : DataW.Whole enc Tryz.prog Tryz.f3.params.toList Rows.tideStaysSpec.vars false W args.toList ds gs before)
    (hsz0 : (DataW.weightsEach Tryz.prog (Tryz.f3.params.toList ++ Rows.tideStaysSpec.plain.varTypes Tryz.prog) (ds ++ gs)).all (· ≤ reachBytes) = true) :
    Calls Tryz.prog 3 args W fun e W' => ∃ v, e = .returned v ∧ Rows.tideStaysSpec.post enc Tryz.prog Tryz.f3 false true false false W args v W' := by
  have hW' := hW
  obtain ⟨p, q, hA0, hV, rfl, -, -⟩ := hW
  have hA : DataW.TrodAll enc Tryz.prog W 0 (fun _ => true) true Tryz.f3.params.toList args.toList ds p := hA0
  rw [Tryz.params3] at hA hval
  obtain ⟨v0, vs0, d0, ds0, p0, q0, hargs, rfl, rfl, h0, r0⟩ := trodAll_cons hA
  obtain ⟨v1, vs1, d1, ds1, p1, q1, rfl, rfl, rfl, h1, r1⟩ := trodAll_cons r0
  obtain ⟨v2, vs2, d2, ds2, p2, q2, rfl, rfl, rfl, h2, r2⟩ := trodAll_cons r1
  obtain ⟨v3, vs3, d3, ds3, p3, q3, rfl, rfl, rfl, h3, r3⟩ := trodAll_cons r2
  obtain ⟨rfl, rfl, rfl⟩ := trodAll_nil r3
  obtain rfl : args = #[v0, v1, v2, v3] := by cases args; simp_all
  obtain ⟨rfl, rfl⟩ := trodVars_none hV
  have hz : ∀ n ∈ DataW.weights Tryz.prog 28 d0, n ≤ reachBytes := fun n hn => by
    have := List.all_eq_true.1 hsz0 n (DataW.weights_mem_each (j := 0) (t := 28) rfl rfl n hn)
    simpa using this
  obtain ⟨s, pT, pF, pS, cT, cF, cS, rfl, hl, b1, b2, b3⟩ := open_sands (hval 0 _ v0 rfl rfl) h0 hz
  obtain ⟨m, rfl, rfl, rfl, -⟩ := open_int Tryz.underlying3 (hval 1 _ v1 rfl rfl) h1
  obtain ⟨x, rfl, rfl, rfl, -⟩ := open_int Tryz.underlying3 (hval 2 _ v2 rfl rfl) h2
  have hz' : ∀ n ∈ DataW.weights Tryz.prog 25 d3, n ≤ reachBytes := fun n hn => by
    have := List.all_eq_true.1 hsz0 n (DataW.weights_mem_each (j := 3) (t := 25) rfl rfl n hn)
    simpa using this
  obtain ⟨qa, la, da, rfl, ra, -⟩ := open_ints (hval 3 _ v3 rfl rfl) h3 hz'
  refine (tideStays_c s m x la qa da W hl ra b1 b2 b3).mono fun e W' ⟨he, hb⟩ => ?_
  exact ⟨_, he, law_post hW' rfl laidOut (by kernel_rfl) rfl Tryz.underlying4 ⟨rfl, rfl, rfl⟩ hb⟩

set_option maxRecDepth 100000 in
theorem stays_lifted (os : Os) (started : os.Started) (H : Type) (enc : TypeId × Value → H) :
    ReturnsInHanded {} Tryz.checked os 3 .any (Rows.tideStaysSpec.pre6 enc Tryz.prog Tryz.f3 Rows.tideStaysRow.domain false) (Rows.tideStaysSpec.post enc Tryz.prog Tryz.f3 false true false false) := by
  refine returnsInHanded_of_change_sized (C := Tryz.checked) own started (by kernel_rfl) Tryz.func3
    (ChangeSpec.witness6 (enc := enc) (C := Tryz.checked) false ⟨#[], #[.agg #[.slice none 0 0, .int .i64 0, .int .i64 0, .slice none 0 0, .slice none 0 0], .int .i64 0, .int .i64 0, .slice none 0 0], []⟩ 8 (by kernel_rfl) (by kernel_rfl) (by kernel_rfl) (by kernel_rfl)) ?_
  intro W base args ds gs before hval hW _ hsz _
  exact stays_contract H enc W base args ds gs before hval hW hsz

theorem stays_holds : Rows.TideStaysSaid :=
  OpenClaim.holds_of_wide 3 Tryz.f3 rfl rfl rfl rfl rfl rfl rfl ⟨rfl, rfl, rfl, rfl, rfl⟩ rfl rfl rfl rfl rfl (by kernel_rfl) Tryz.func3 (by kernel_rfl)
    (of_decide_eq_true (by kernel_rfl)) (by unfold Func.isWrapper; first | (rw [if_pos (by decide +kernel)]; kernel_rfl) | (rw [if_neg (by decide +kernel)]; exact ⟨rfl, rfl⟩))
    (fun os started H enc _ => stays_lifted os started H enc)
#print axioms stays_holds
end Go.Proofs.YtknaajofcbenaaaGreat
