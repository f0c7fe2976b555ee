/- Plain law: a region that draws its order, carried out within a round of a range over a function, goes as anywhere. -/
import Derived.Test.YtknaajofcbenaaaGreatBase
import Derived.Test.YtknaajofcbenaaaGreatHeight
import Derived.Test.YtknaajofcbenaaaGreatChk2
import Derived.Test.YtknaajofcbenaaaGreatOn
import Derived.WalkKit
import Derived.WalkSpells
import Derived.WalkLawsBesides
import Derived.Deep.QuietTactic
import Derived.BigQuiet
import Derived.Lib.Hide
import Derived.Shelf.Abstract
import Derived.BigGuardPart
import Derived.RangeFuncNested
import Derived.RangeFuncBound
import Derived.RangeFuncCalls
import Derived.RangeFuncLeaves
import Derived.Shelf.RegionOpen
import Derived.OwnWalkIn
import Derived.TacticsInMore
import Derived.LoopNIn
import Derived.LoopIn
import Derived.Deep.RegionHeld3
import Derived.StillTail
namespace Go.Proofs.YtknaajofcbenaaaGreat
open Go.RowKit Go.Shelf

theorem rowsIn_round {l n : Nat} {P : Program} {row : String} {args : Array Value} {w : World} {R : Value → World → Prop} (h : Rows P row args w R) : RowsIn (Fence.wide.inRound l) n P row args w R :=
  fun c cs _ => let ⟨v, w', r, s⟩ := h c cs; ⟨v, w', r, stepsIn_wide.2 s⟩

theorem oper_round {l n : Nat} {P : Program} {o : Oper} {a : Act} {w : World} {K : Act → World → Prop} {Q : Exit → Act → World → Prop} (hd : ∀ c, o.op ≠ .defer c) (h : o.wp P a w K Q) :
    o.wpIn (Fence.wide.inRound l) n P a w K Q := by
  refine ⟨fun _ _ => trivial, ?_⟩
  show Oper.uponIn _ _ _ _ _ _ _ ((Oper.semAt (some l) a.eval o).run P w)
  rw [Oper.semAt_some l a.eval o hd]
  unfold Oper.wp at h
  generalize (execOp a.eval o).run P w = r at *
  cases r with
  | ok x w' =>
    cases x <;> simp only [Oper.upon] at h <;> simp only [Oper.uponIn]
    case value => exact h
    case skip => exact h
    case defer => exact h
    case enter f args =>
      refine ⟨(fun hh => absurd hh (by simp [Fence.wide])), CallsIn.inRound l ((callsIn_wide.2 h).mono fun e w'' he => ?_)⟩
      cases e <;> exact he
    case row row args => exact ⟨(fun hh => absurd hh (by simp [Fence.wide])), rowsIn_round h⟩
  | halt x w' =>
    cases x <;> simp only [Oper.upon] at h <;> simp only [Oper.uponIn]
    case panic => exact h

theorem wpAny_round {l n : Nat} {P : Program} {md : Region.Mode} {ops : Array Oper} {Q : Exit → Act → World → Prop} (hd : ∀ (i : Nat) (o : Oper) (c : Call), ops[i]? = some o → o.op ≠ .defer c) (hQ : ¬ LetsOut Q) :
    ∀ (fuel : Nat) (listed : Array Bool) (a : Act) (w : World), wpAny P md ops Q fuel listed a w → wpAnyIn (Fence.wide.inRound l) n P md ops Q fuel listed a w
  | 0, _, _, _, h => h
  | fuel + 1, listed, a, w, h => ⟨h.1, fun i hi => by
      have h1 := h.2 i hi
      unfold wpOp at h1
      unfold wpOpIn
      cases ho : ops[i]? with
      | none => simp only [ho] at h1 ⊢; exact wpAny_round hd hQ fuel _ _ _ h1
      | some o =>
        simp only [ho] at h1 ⊢
        split
        · rename_i hw
          simp only [hw, if_true] at h1
          rcases h1 with h1 | ⟨_, h1⟩
          · exact Oper.wpIn_mono (fun a' w' h' => wpAny_round hd hQ fuel _ _ _ h') (oper_round (hd i o · ho) h1)
          · exact absurd h1 hQ
        · rename_i hw
          simp only [hw] at h1
          exact ⟨fun _ _ => trivial, wpAny_round hd hQ fuel _ _ _ h1⟩⟩

def noDefer (ops : Array Oper) : Bool := ops.all fun o => match o.op with | .defer _ => false | _ => true

theorem region_round {l n : Nat} {P : Program} {id : Nat} {ops : Array Oper} {Q : Exit → Act → World → Prop} {a : Act} {w : World} (S : World → Prop) (hm : P.follows .mixedOrders = true) (hd : noDefer ops = true) (hQ : ∀ a w, ¬ Q .outgrown a w)
    (hS : S w.drew) (h : S w.drew → wpAnyH P .any ops Q S ops.size (Array.replicate ops.size false) a w.drew) : (Code.region id ops true).wpIn (Fence.wide.inRound l) n P Q a w := by
  refine wpIn_region_any hm (wpAny_round (fun i o c ho he => ?_) (fun ⟨a, w, h⟩ => hQ a w h) _ _ _ _ (wpAny_of_held _ _ _ _ (h hS)))
  unfold noDefer at hd
  rw [Array.all_eq_true] at hd
  obtain ⟨hi, rfl⟩ := Array.getElem?_eq_some_iff.1 ho
  have := hd i hi
  rw [he] at this
  cases this

/-! A region whose last operations wait for all others: the first N in whatever order, loads taken first; then the tail. -/
section
variable {P : Program} {ops : Array Oper} {Q : Exit → Act → World → Prop} {md : Region.Mode} {S : World → Prop} {N : Nat} {R : Array Bool → Act → World → Prop}

def wpAnyG (P : Program) (md : Region.Mode) (ops : Array Oper) (Q : Exit → Act → World → Prop) (S : World → Prop) (N : Nat) (R : Array Bool → Act → World → Prop) : Nat → Array Bool → Act → World → Prop
  | 0, listed, a, w => (∀ j, j < N → listed.getD j false = true) ∧ R listed a w
  | f + 1, listed, a, w => Region.ready md ops listed ≠ [] ∧ ∀ i ∈ Region.ready md ops listed, i < N ∧ wpOp P ops Q i (fun a' w' => S w' ∧ wpAnyG P md ops Q S N R f (listed.setIfInBounds i true) a' w') a w

theorem wpAny_of_G {g : Nat} (hR : ∀ listed a w, R listed a w → wpAny P md ops Q g listed a w) :
    ∀ (f : Nat) (listed : Array Bool) (a : Act) (w : World), wpAnyG P md ops Q S N R f listed a w → wpAny P md ops Q (f + g) listed a w
  | 0, _, _, _, h => by rw [Nat.zero_add]; exact hR _ _ _ h.2
  | f + 1, _, _, _, h => by
    rw [show f + 1 + g = (f + g) + 1 by omega]
    exact ⟨fun h0 => absurd h0 h.1, fun i hi => wpOp_mono (fun a' w' h' => wpAny_of_G hR f _ a' w' h'.2) (h.2 i hi).2⟩

/-- each operation from N on waits for each before N -/
def tailWaits (md : Region.Mode) (ops : Array Oper) (N : Nat) : Bool :=
  (List.range ops.size).all fun t => decide (t < N) || (List.range N).all fun i => Region.waitsFor md ops t i

theorem head_of_ready {listed : Array Bool} {i j : Nat} (ht : tailWaits md ops N = true) (hi : i < N) (hun : listed.getD i false = false) (hj : j ∈ Region.ready md ops listed) : j < N := by
  rcases Nat.lt_or_ge j N with h | h
  · exact h
  · exfalso
    obtain ⟨_, oj, hoj, hall⟩ := mem_ready.1 hj
    have hjs : j < ops.size := (Array.getElem?_eq_some_iff.1 hoj).1
    have h1 := List.all_eq_true.1 ht j (List.mem_range.2 hjs)
    simp only [Bool.or_eq_true, decide_eq_true_eq] at h1
    have h2 := h1.resolve_left (by omega)
    have h3 := List.all_eq_true.1 h2 i (List.mem_range.2 hi)
    obtain ⟨o', ho', e, he, hb, hon⟩ := Region.waitsFor_spec h3
    have : o' = oj := Option.some.inj (ho'.symm.trans hoj)
    subst this
    have h4 := hall e he hb
    rw [hon, hun] at h4
    cases h4

theorem wpAnyG_first {i : Nat} {oi : Oper} {v : Value} (hi : ops[i]? = some oi) (hsel : ∀ (j : Nat) (o : Oper) cs b, ops[j]? = some o → o.op ≠ .select cs b)
    (hQ : ∀ c a w, Q (.panic c) (a.put oi.dst v) w → Q (.panic c) a w) (ht : tailWaits md ops N = true) (hiN : i < N) :
    ∀ (fuel : Nat) (listed : Array Bool) (a : Act) (w : World),
      (∀ j oj, ops[j]? = some oj → j ≠ i → listed.getD j true = false → (∀ e ∈ oj.after, Region.binds md e = true → e.on ≠ i) → oi.apart ops oj = true) →
      i ∈ Region.ready md ops listed → YieldsIf P ops S oi v a → S w →
      wpAnyG P md ops Q S N R fuel (listed.setIfInBounds i true) (a.put oi.dst v) w → wpAnyG P md ops Q S N R (fuel + 1) listed a w := by
  intro fuel
  induction fuel with
  | zero =>
    intro listed a w _ hr hy hS H
    have hun := (mem_ready.1 hr).1
    refine ⟨fun h => (by rw [h] at hr; cases hr), fun j hj => ⟨head_of_ready ht hiN (getD_both hun) hj, ?_⟩⟩
    by_cases hji : j = i
    · subst hji; exact hy.wpOp hi hS ⟨hS, H⟩
    · exfalso
      have h1 := H.1 j (head_of_ready ht hiN (getD_both hun) hj)
      rw [getD_set_ne false (Ne.symm hji)] at h1
      have h2 := getD_both (mem_ready.1 hj).1
      rw [h1] at h2
      cases h2
  | succ fuel ih =>
    intro listed a w hfree hr hy hS H
    have hun := (mem_ready.1 hr).1
    refine ⟨fun h => (by rw [h] at hr; cases hr), fun j hj => ⟨head_of_ready ht hiN (getD_both hun) hj, ?_⟩⟩
    by_cases hji : j = i
    · subst hji; exact hy.wpOp hi hS ⟨hS, H⟩
    · have h1 := (H.2 j (ready_mono hj hji)).2
      obtain ⟨hjun, oj, hoj, hall⟩ := mem_ready.1 hj
      have hnot : ∀ e ∈ oj.after, Region.binds md e = true → e.on ≠ i := fun e he hb heq => by
        have h4 := hall e he hb
        rw [heq, getD_both hun] at h4
        cases h4
      have h2 := wpOp_putIf hoj (hfree j oj hoj hji hjun hnot) (fun cs b => hsel i oi cs b hi) (fun cs b => hsel j oj cs b hoj) hQ hy h1
      refine wpOp_mono (fun a' w' h3 => ⟨h3.2.1, ih (listed.setIfInBounds j true) a' w' (fun k ok hk hki hu hno => ?_) (ready_mono hr (Ne.symm hji)) h3.1 h3.2.1 ?_⟩) h2
      · refine hfree k ok hk hki ?_ hno
        by_cases hjk : j = k
        · subst hjk; exact hjun
        · rw [getD_set_ne true hjk] at hu; exact hu
      · rw [Array.setIfInBounds_comm _ _ hji]
        exact h3.2.2

theorem wpAnyG_take (i d : Nat) {oi : Oper} {v : Value} {fuel : Nat} {listed : Array Bool} {a : Act} {w : World} (hi : ops[i]? = some oi) (hd : oi.dst = some d)
    (hs : (Region.noSelect ops && tailWaits md ops N && decide (i < N) && Region.free md ops listed i && (Region.ready md ops listed).contains i) = true)
    (hQ : ∀ c (a : Act) w, Q (.panic c) { a with tmps := a.tmps.setIfInBounds d v } w → Q (.panic c) a w) (hy : YieldsIf P ops S oi v a) (hS : S w)
    (h : wpAnyG P md ops Q S N R fuel (listed.setIfInBounds i true) { tmps := a.tmps.setIfInBounds d v, defers := a.defers } w) : wpAnyG P md ops Q S N R (fuel + 1) listed a w := by
  simp only [Bool.and_eq_true, decide_eq_true_eq] at hs
  obtain ⟨⟨⟨⟨h1, h2⟩, h3⟩, h4⟩, h5⟩ := hs
  have hput : ∀ a : Act, a.put oi.dst v = { a with tmps := a.tmps.setIfInBounds d v } := fun a => by rw [hd]; rfl
  exact wpAnyG_first hi (Region.noSelect_spec h1) (fun c a w hq => hQ c a w (hput a ▸ hq)) h2 h3 fuel listed a w (Region.free_spec hi h4) (by simpa using h5) hy hS (hput a ▸ h)

/-- the one that comes up now -/
theorem wpAnyG_do (i : Nat) {o : Oper} {fuel : Nat} {listed : Array Bool} {a : Act} {w : World} (ho : ops[i]? = some o) (hs : (decide (Region.ready md ops listed = [i]) && decide (i < N)) = true)
    (h : ∀ K : Act → World → Prop, Shut (∀ a w, S w → (S w → wpAnyG P md ops Q S N R fuel (listed.setIfInBounds i true) a w) → K a w) → if Region.wanted o (yielded ops a.tmps) = true then Oper.wp P o a w K Q else K (a.put o.dst undef) w) :
    wpAnyG P md ops Q S N R (fuel + 1) listed a w := by
  simp only [Bool.and_eq_true, decide_eq_true_eq] at hs
  refine ⟨by rw [hs.1]; simp, fun j hj => ?_⟩
  rw [hs.1] at hj
  obtain rfl : j = i := by simpa using hj
  exact ⟨hs.2, wpOp_step ho (fun K' hK => h K' (fun a w hS hW => hK a w ⟨hS, hW hS⟩))⟩

def headDone (N : Nat) (listed : Array Bool) : Bool := (List.range N).all fun j => listed.getD j false

/-- all before N have come up: the tail, in its order -/
theorem wpAnyG_tail {l : List Oper} {listed : Array Bool} {a : Act} {w : World} (hs : (headDone N listed && Region.seqB md l.toArray (l.drop N).length N listed) = true) (h : wpList P l.toArray Q (l.drop N) a w) :
    wpAnyG P md l.toArray Q S N (wpAny P md l.toArray Q (l.drop N).length) 0 listed a w := by
  simp only [Bool.and_eq_true] at hs
  refine ⟨fun j hj => List.all_eq_true.1 hs.1 j (List.mem_range.2 hj), wpAny_of_seq (l.drop N) N listed a w (fun j => by simp [List.getElem?_drop]) hs.2 h⟩

theorem region_tail {id : Nat} {l : List Oper} {a : Act} {w : World} (S : World → Prop) (N : Nat) (hm : P.follows .mixedOrders = true) (hN : (decide (N ≤ l.length)) = true)
    (hS : S w.drew) (h : S w.drew → wpAnyG P .any l.toArray Q S N (wpAny P .any l.toArray Q (l.drop N).length) N (Array.replicate l.toArray.size false) a w.drew) : (Code.region id l.toArray true).wp P Q a w := by
  have := wpAny_of_G (fun _ _ _ h => h) _ _ _ _ (h hS)
  rw [show N + (l.drop N).length = l.toArray.size by simp; have := of_decide_eq_true hN; omega] at this
  exact wp_region_any hm this

theorem region_tail_round {l n : Nat} {id : Nat} {ol : List Oper} {a : Act} {w : World} (S : World → Prop) (N : Nat) (hm : P.follows .mixedOrders = true) (hN : (decide (N ≤ ol.length) && noDefer ol.toArray) = true) (hQ : ∀ a w, ¬ Q .outgrown a w)
    (hS : S w.drew) (h : S w.drew → wpAnyG P .any ol.toArray Q S N (wpAny P .any ol.toArray Q (ol.drop N).length) N (Array.replicate ol.toArray.size false) a w.drew) : (Code.region id ol.toArray true).wpIn (Fence.wide.inRound l) n P Q a w := by
  simp only [Bool.and_eq_true] at hN
  have := wpAny_of_G (fun _ _ _ h => h) _ _ _ _ (h hS)
  rw [show N + (ol.drop N).length = ol.toArray.size by simp; have := of_decide_eq_true hN.1; omega] at this
  refine wpIn_region_any hm (wpAny_round (fun i o c ho he => ?_) (fun ⟨a, w, h⟩ => hQ a w h) _ _ _ _ this)
  have hd := hN.2
  unfold noDefer at hd
  rw [Array.all_eq_true] at hd
  obtain ⟨hi, rfl⟩ := Array.getElem?_eq_some_iff.1 ho
  have := hd i hi
  rw [he] at this
  cases this
end
end Go.Proofs.YtknaajofcbenaaaGreat
