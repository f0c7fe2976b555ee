/- Proved: whatever numbers are passed in, for the sands and for what is tried, the law TideCrossed returns true, and all arguments read behind the call as they read before it. Conditions: none but those that the given row states of itself. -/
import Derived.Test.YtifcmbeejichdaaOpen
import Derived.Test.YtifcmbeejichdaaHeap
import Derived.Test.YtifcmbeejichdaaBase
import Derived.Test.YtifcmbeejichdaaHeight
import Derived.Test.YtifcmbeejichdaaChk2
import Derived.Test.YtifcmbeejichdaaPost
import Derived.Test.YtifcmbeejichdaaCrossL
import Derived.WalkKit
import Derived.WalkSpells
import Derived.WalkLawsBesides
import Derived.Deep.QuietTactic
import Derived.BigQuiet
import Derived.Lib.Hide
import Derived.Shelf.Abstract
import Derived.BigGuardPart
import Derived.Carry
import Derived.ChangeSame
import Derived.SizedLaws
import Derived.ProofKit
import Derived.OpenShut
import Derived.JoinedOf
import Derived.Deep.Slices
import Derived.RangeFuncNested
import Derived.RangeFuncBound
import Derived.RangeFuncCalls
import Derived.RangeFuncLeaves
import Derived.Shelf.RegionOpen
import Derived.OwnWalkIn
import Derived.TacticsInMore
import Derived.LoopNIn
import Derived.LoopIn
import Derived.StillTailTactics
import Derived.Deep.RegionHeld3
import Derived.StillTail
import Derived.RangeFuncWrites
import Derived.Laws.StructEq
import Derived.Deep.LoopGhost
import Derived.IntWalk
import Derived.RangeFuncBox
import Derived.ArgAppend
import Derived.Laws.CopyOwn
import Derived.OwnWalk
import Derived.Lib.SliceRun
import Derived.Maps.OwnOps
import Derived.Maps.OwnSet
import Derived.Deep.AppendSrc
import Derived.Deep.Upon
import Derived.Deep.Cut
import Derived.Deep.DeepCutAuto
/- Slices of bytes, and bytes, that came in. -/
namespace Go.Proofs.Ytifcmbeejichdaa
section
open Go.ChangeShapes Go.WideShapes Go.ChangeAt Go.RowKit

section
variable {H : Type} {enc : TypeId × Value → H} {P : Program}
/-- a slice that came in, as rows of k cells -/
theorem open_rowsQ {w : World} {t e : TypeId} {fuel k : Nat} {Q : List Value → Prop} {v : Value} {x : DataW H × List MemPlace} (ht : P.underlying t = some (.slice e)) (hC : P.cellsOf e = k) (hk : 0 < k) (hQ : ∀ r, Q r → r.length = k)
    (hel : ∀ fuel cs y, DataW.trod enc P w 0 (fun _ => true) true fuel e cs = some y → Q cs) (h : DataW.trod enc P w 0 (fun _ => true) true fuel t [v] = some x) :
    ∃ p len cap rows, v = .slice p len cap ∧ len ≤ cap ∧ cap ≤ maxLen ∧ rows.length = len ∧ Row w p k rows ∧ (∀ r ∈ rows, Q r) ∧ ((x.1 = .nil ∧ cap = 0) ∨ ∃ el sp, x.1 = .slice el sp ∧ el.length + sp.length = cap) := by
  rcases Go.Deep.open_slice ht h with ⟨hv, rfl⟩ | ⟨a, len, cap, m, n, D, Pl, hv, -, hl, hm, hmm, rfl, hi⟩
  · simp only [List.cons.injEq, and_true] at hv
    exact ⟨none, 0, 0, [], hv, Nat.le_refl _, by simp [maxLen], rfl, fun i row hr => by simp at hr, fun r hr => by simp at hr, .inl ⟨rfl, rfl⟩⟩
  · simp only [List.cons.injEq, and_true] at hv
    simp only [if_true] at hmm
    subst hmm
    rw [hC] at hi
    have hch : ∀ i, ∃ cs, i < len → Q cs ∧ ∀ j c, cs[j]? = some c → w.cell? (a.add (i * k + j)) = some c := fun i => by
      by_cases hlt : i < len
      · obtain ⟨cs, hc, ht'⟩ := hi i (by omega)
        obtain ⟨-, hcl, hat⟩ := World.cells?_some hc
        refine ⟨cs, fun _ => ⟨hel _ _ _ ht', fun j c hj => ?_⟩⟩
        have hjl : j < k := by have := (List.getElem?_eq_some_iff.1 hj).1; omega
        rw [← Go.Deep.add_add, hat j hjl, hj]
      · exact ⟨[], fun h => absurd h hlt⟩
    obtain ⟨f, hf⟩ := Classical.axiomOfChoice hch
    refine ⟨some a, len, m, (List.range len).map f, hv, hl, hm, by simp, fun i row hr => ?_, fun r hr => ?_, .inr ⟨_, _, rfl, by simp; omega⟩⟩
    · rw [List.getElem?_map] at hr
      by_cases hlt : i < len
      · rw [List.getElem?_range hlt] at hr
        simp only [Option.map_some, Option.some.injEq] at hr
        subst hr
        obtain ⟨g2, g3⟩ := hf 0 (by omega)
        have g1 := hQ _ g2
        have h0 := g3 0 _ (List.getElem?_eq_getElem (by omega))
        have hs : a.spot = none := spot_of (by simpa [Addr.add] using h0)
        obtain ⟨b, off, sp⟩ := a
        simp only at hs
        subst hs
        refine ⟨b, off, rfl, fun j c hj => ?_⟩
        have := (hf i hlt).2 j c hj
        rwa [Addr.add_lit, ← Nat.add_assoc] at this
      · rw [List.getElem?_eq_none (by simp; omega)] at hr
        cases hr
    · simp only [List.mem_map, List.mem_range] at hr
      obtain ⟨i, hlt, rfl⟩ := hr
      exact (hf i hlt).1

/-- a row of one byte -/
def OneByte (r : List Value) : Prop := ∃ n, r = [.int .u8 n]
theorem bytes_of : ∀ {rows : List (List Value)}, (∀ r ∈ rows, OneByte r) → ∃ l : List Int, rows = bytes l
  | [], _ => ⟨[], rfl⟩
  | r :: rest, h => by
    obtain ⟨l, hl⟩ := bytes_of (rows := rest) (fun r hr => h r (by simp [hr]))
    obtain ⟨n, rfl⟩ := h r (by simp)
    exact ⟨n :: l, by rw [hl]; rfl⟩
theorem cellsByte : Try.prog.cellsOf 5 = 1 := by kernel_rfl
theorem bytesByte : Try.prog.bytesOf 5 = 1 := by kernel_rfl
set_option maxRecDepth 100000 in
theorem open_bytes {w : World} {base : Nat} {v : Value} {d : DataW H} {ps : List MemPlace} (hv : Value.okWide Try.prog w .any base 83 v) (h : DataW.Trod enc Try.prog w 0 (fun _ => true) true 83 v d ps) (hz : ∀ n ∈ DataW.weights Try.prog 83 d, n ≤ reachBytes) :
    ∃ p l c, v = .slice p l.length c ∧ Row w p 1 (bytes l) ∧ l.length ≤ 140737488355328 := by
  obtain ⟨fuel, hf⟩ := h
  obtain ⟨p0, n0, c0, rfl⟩ := okWide_slice Try.underlying83 hv
  have hf' : DataW.trod enc Try.prog w 0 (fun _ => true) true fuel 83 [.slice p0 n0 c0] = some (d, ps) := hf
  obtain ⟨p, len, cap, rows, e, a1, a2, a3, a4, a5, a6⟩ := open_rowsQ (Q := OneByte) Try.underlying83 cellsByte (by decide) (fun r ⟨n, e⟩ => by rw [e]; rfl) (fun fuel cs y hy => by
    obtain ⟨n, e, -, -⟩ := DataW.trod_int Try.underlying5 hy
    exact ⟨n, e⟩) hf'
  obtain ⟨l, rfl⟩ := bytes_of a5
  have q : (bytes l).length = l.length := by simp [bytes]
  rw [q] at a3
  subst a3
  have hr := room_of Try.underlying83 bytesByte a1 a6 hz
  exact ⟨p, l, cap, e, a4, by omega⟩
theorem byte_rng {n : Int} (h : (Lit.int .u8 n).wf = true) : 0 ≤ n ∧ n ≤ 255 := by
  simp [Lit.wf] at h
  have e1 : IntKind.u8.min = 0 := rfl
  have e2 : IntKind.u8.max = 255 := rfl
  omega
end
end
end Go.Proofs.Ytifcmbeejichdaa
namespace Go.Proofs.Ytifcmbeejichdaa
section
open Go.ChangeShapes Go.WideShapes Go.ChangeAt Go.RowKit

set_option maxRecDepth 100000 in
theorem crossed_contract (H : Type) (enc : TypeId × Value → H) (W : World) (base : Nat) (args : Array Value) (ds gs : List (DataW H)) (before : List MemPlace)
    (hval : ∀ (j : Nat) t v, Try.f9.params[j]? = some t → args[j]? = some v → Value.okWide Try.prog W .any base t v)
    (hW : DataW.Whole enc Try.prog Try.f9.params.toList Rows.tideCrossedSpec.vars false W args.toList ds gs before)
    (hsz0 : (DataW.weightsEach Try.prog (Try.f9.params.toList ++ Rows.tideCrossedSpec.plain.varTypes Try.prog) (ds ++ gs)).all (· ≤ reachBytes) = true) :
    Calls Try.prog 9 args W fun e W' => ∃ v, e = .returned v ∧ Rows.tideCrossedSpec.post enc Try.prog Try.f9 false true false false W args v W' := by
  have hW' := hW
  obtain ⟨p, q, hA0, hV, rfl, -, -⟩ := hW
  have hA : DataW.TrodAll enc Try.prog W 0 (fun _ => true) true Try.f9.params.toList args.toList ds p := hA0
  rw [Try.params9] at hA hval
  obtain ⟨v0, vs0, d0, ds0, p0, q0, hargs, rfl, rfl, h0, r0⟩ := trodAll_cons hA
  obtain ⟨v1, vs1, d1, ds1, p1, q1, rfl, rfl, rfl, h1, r1⟩ := trodAll_cons r0
  obtain ⟨rfl, rfl, rfl⟩ := trodAll_nil r1
  obtain rfl : args = #[v0, v1] := by cases args; simp_all
  obtain ⟨rfl, rfl⟩ := trodVars_none hV
  have hz : ∀ n ∈ DataW.weights Try.prog 83 d0, n ≤ reachBytes := fun n hn => by
    have := List.all_eq_true.1 hsz0 n (DataW.weights_mem_each (j := 0) (t := 83) rfl rfl n hn)
    simpa using this
  have hz' : ∀ n ∈ DataW.weights Try.prog 83 d1, n ≤ reachBytes := fun n hn => by
    have := List.all_eq_true.1 hsz0 n (DataW.weights_mem_each (j := 1) (t := 83) rfl rfl n hn)
    simpa using this
  obtain ⟨pb, l, c, rfl, hr, hl⟩ := open_bytes (hval 0 _ v0 rfl rfl) h0 hz
  obtain ⟨pb', l', c', rfl, hr', hl'⟩ := open_bytes (hval 1 _ v1 rfl rfl) h1 hz'
  refine (crossedLaw_c l l' W hr hr' hl hl').mono fun e W' ⟨he, hbl⟩ => ?_
  exact ⟨_, he, law_post hW' rfl laidOut (by kernel_rfl) rfl Try.underlying4 ⟨rfl, rfl, rfl⟩ hbl⟩

set_option maxRecDepth 100000 in
theorem crossed_lifted (os : Os) (started : os.Started) (H : Type) (enc : TypeId × Value → H) :
    ReturnsInHanded {} Try.checked os 9 .any (Rows.tideCrossedSpec.pre6 enc Try.prog Try.f9 Rows.tideCrossedRow.domain false) (Rows.tideCrossedSpec.post enc Try.prog Try.f9 false true false false) := by
  refine returnsInHanded_of_change_sized (C := Try.checked) own started (by kernel_rfl) Try.func9
    (ChangeSpec.witness6 (enc := enc) (C := Try.checked) false ⟨#[], #[.slice none 0 0, .slice none 0 0], []⟩ 8 (by kernel_rfl) (by kernel_rfl) (by kernel_rfl) (by kernel_rfl)) ?_
  intro W base args ds gs before hval hW _ hsz _
  exact crossed_contract H enc W base args ds gs before hval hW hsz

theorem crossed_holds : Rows.TideCrossedSaid :=
  OpenClaim.holds_of_wide 9 Try.f9 rfl rfl rfl rfl rfl rfl rfl ⟨rfl, rfl, rfl, rfl, rfl⟩ rfl rfl rfl rfl rfl (by kernel_rfl) Try.func9 (by kernel_rfl)
    (of_decide_eq_true (by kernel_rfl)) (by unfold Func.isWrapper; first | (rw [if_pos (by decide +kernel)]; kernel_rfl) | (rw [if_neg (by decide +kernel)]; exact ⟨rfl, rfl⟩))
    (fun os started H enc _ => crossed_lifted os started H enc)
#print axioms crossed_holds
end
end Go.Proofs.Ytifcmbeejichdaa
