/- As Draw: but an operation of the tail may wait for one of the head by way of another one of the tail. -/
import Derived.Test.YtknaajofcbenaaaGreatBase
import Derived.Test.YtknaajofcbenaaaGreatHeight
import Derived.Test.YtknaajofcbenaaaGreatOn
import Derived.Test.YtknaajofcbenaaaGreatRound
import Derived.WalkKit
import Derived.WalkSpells
import Derived.WalkLawsBesides
import Derived.Deep.QuietTactic
import Derived.BigQuiet
import Derived.Lib.Hide
import Derived.Shelf.Abstract
import Derived.BigGuardPart
import Derived.RangeFuncNested
import Derived.RangeFuncBound
import Derived.RangeFuncCalls
import Derived.RangeFuncLeaves
import Derived.Shelf.RegionOpen
import Derived.OwnWalkIn
import Derived.TacticsInMore
import Derived.LoopNIn
import Derived.LoopIn
import Derived.Deep.RegionHeld3
import Derived.StillTail
import Derived.Test.YtknaajofcbenaaaGreatDraw
namespace Go.Proofs.YtknaajofcbenaaaGreat
open Go.RowKit Go.Shelf

/-- each operation from N on waits for each before N, at once or by way of others -/
def tailWaits3 (md : Region.Mode) (ops : Array Oper) (N : Nat) : Bool :=
  (List.range ops.size).all fun t => decide (t < N) || (List.range N).all fun j => waitsT md ops ops.size 6 t j

theorem head_of_ready3 {md : Region.Mode} {ops : Array Oper} {N : Nat} {listed : Array Bool} {i j : Nat} (ht : tailWaits3 md ops N = true) (hcl : Closed md ops (fun j => listed.getD j false)) (hi : i < N) (hun : listed.getD i false = false) (hj : j ∈ Region.ready md ops listed) : j < N := by
  rcases Nat.lt_or_ge j N with h | h
  · exact h
  · exfalso
    obtain ⟨_, oj, hoj, hall⟩ := mem_ready.1 hj
    have hjs : j < ops.size := (Array.getElem?_eq_some_iff.1 hoj).1
    have h1 := List.all_eq_true.1 ht j (List.mem_range.2 hjs)
    simp only [Bool.or_eq_true, decide_eq_true_eq] at h1
    have h2 := h1.resolve_left (by omega)
    have h3 := List.all_eq_true.1 h2 i (List.mem_range.2 hi)
    have one : ∀ k, Region.waitsFor md ops j k = true → listed.getD k false = true := fun k hk => by
      obtain ⟨o', ho', e, he, hb, hon⟩ := Region.waitsFor_spec hk
      have : o' = oj := Option.some.inj (ho'.symm.trans hoj)
      subst this
      rw [← hon]
      exact hall e he hb
    simp only [waitsT, Bool.or_eq_true, List.any_eq_true, Bool.and_eq_true] at h3
    rcases h3 with h3 | ⟨k, -, h4, h5⟩
    · rw [one i h3] at hun; cases hun
    · have h6 : listed.getD i false = true := hcl.all (N := ops.size) 5 k i (one k h4) (by simp only [waitsT, Bool.or_eq_true, List.any_eq_true, Bool.and_eq_true]; exact h5)
      rw [h6] at hun; cases hun

section
variable {P : Program} {Q : Exit → Act → World → Prop} {N : Nat}

theorem inv_G3 {md : Region.Mode} {ops : Array Oper} {R : Array Bool → Act → World → Prop} (Inv : (Nat → Bool) → Act → World → Prop) (hb : backward ops = true) (ht : tailWaits3 md ops N = true) (hN : N ≤ ops.size)
    (step : ∀ (done : Nat → Bool) (a : Act) (w : World) (i : Nat) (o : Oper), i < N → done i = false → ops[i]? = some o → (∀ e ∈ o.after, Region.binds md e = true → done e.on = true) → Inv done a w → wpOp P ops Q i (fun a' w' => Inv (upd done i) a' w') a w)
    (hR : ∀ (listed : Array Bool) (a : Act) (w : World), listed.size = ops.size → (∀ j, listed.getD j false = decide (j < N)) → Inv (fun j => decide (j < N)) a w → R listed a w) :
    ∀ (f : Nat) (listed : Array Bool) (a : Act) (w : World), listed.size = ops.size → (∀ j, N ≤ j → listed.getD j false = false) → cnt (fun j => listed.getD j false) N = f → Closed md ops (fun j => listed.getD j false) → Inv (fun j => listed.getD j false) a w →
      wpAnyG P md ops Q (fun _ => True) N R f listed a w
  | 0, listed, a, w, hs, hf, hc, _, hi => by
    have hall := cnt_zero hc
    have hg : ∀ j, listed.getD j false = decide (j < N) := fun j => by
      by_cases h : j < N
      · rw [hall j h]; simp [h]
      · rw [hf j (by omega)]; simp [h]
    refine ⟨hall, hR listed a w hs hg ?_⟩
    rw [show (fun j => listed.getD j false) = (fun j => decide (j < N)) from funext hg] at hi
    exact hi
  | f + 1, listed, a, w, hs, hf, hc, hcl, hi => by
    obtain ⟨j, hj, hun, hbefore⟩ := cnt_first (g := fun j => listed.getD j false) (n := N) (by omega)
    have hjs : j < ops.size := by omega
    have hready : j ∈ Region.ready md ops listed := by
      refine mem_ready.2 ⟨?_, ops[j], Array.getElem?_eq_getElem hjs, fun e he _ => ?_⟩
      · have hun' : listed.getD j false = false := hun
        rw [Array.getD_eq_getD_getElem?] at hun' ⊢
        rw [Array.getElem?_eq_getElem (by omega)] at hun' ⊢
        exact hun'
      · have h1 := List.all_eq_true.1 hb j (List.mem_range.2 hjs)
        rw [Array.getElem?_eq_getElem hjs] at h1
        have h2 := (Array.all_eq_true_iff_forall_mem.1 h1) e he
        simp only [decide_eq_true_eq] at h2
        exact hbefore _ h2
    refine ⟨fun h0 => (by rw [h0] at hready; cases hready), fun i hir => ?_⟩
    have hiN := head_of_ready3 ht hcl hj hun hir
    obtain ⟨hiun, o, ho, hall⟩ := mem_ready.1 hir
    have hiun' : listed.getD i false = false := getD_both hiun
    refine ⟨hiN, wpOp_mono (fun a' w' h' => ⟨trivial, ?_⟩) (step (fun j => listed.getD j false) a w i o hiN hiun' ho hall hi)⟩
    have hset : (fun j => (listed.setIfInBounds i true).getD j false) = upd (fun j => listed.getD j false) i := by
      funext k
      by_cases hk : i = k
      · subst hk
        have : i < (listed.setIfInBounds i true).size := by simp; omega
        rw [Array.getD_eq_getD_getElem?, Array.getElem?_eq_getElem this]
        simp [upd]
      · rw [getD_set_ne false hk]
        have : (k == i) = false := by rw [beq_eq_false_iff_ne]; omega
        simp [upd, this]
    refine inv_G3 Inv hb ht hN step hR f _ a' w' (by simpa using hs) (fun k hk => ?_) ?_ ?_ ?_
    · rw [getD_set_ne false (by omega)]; exact hf k hk
    · rw [hset]
      have := cnt_set (fun j => listed.getD j false) i hiun' N hiN
      omega
    · rw [hset]
      intro k ok hok hk e he hb
      have hk' : listed.getD k false = true ∨ k = i := by simpa [upd] using hk
      have : listed.getD e.on false = true := by
        rcases hk' with hk' | rfl
        · exact hcl k ok hok hk' e he hb
        · have : ok = o := Option.some.inj (hok.symm.trans ho)
          subst this
          exact hall e he hb
      simp [upd, this]
    · rw [hset]; exact h'

/-- the order is right for the rule: the first N, in whatever order, then the others as they stand -/
def drawOk3 (md : Region.Mode) (l : List Oper) (N : Nat) : Bool :=
  decide (N ≤ l.length) && backward l.toArray && tailWaits3 md l.toArray N && (headDone N (List.replicate N true ++ List.replicate (l.length - N) false).toArray && Region.seqB md l.toArray (l.drop N).length N (List.replicate N true ++ List.replicate (l.length - N) false).toArray)

theorem region_inv3 {id : Nat} {l : List Oper} {a : Act} {w : World} (N : Nat) (Inv : (Nat → Bool) → Act → World → Prop) (hm : P.follows .mixedOrders = true) (hd : drawOk3 .any l N = true)
    (start : Inv (fun _ => false) a w.drew)
    (step : ∀ (done : Nat → Bool) (a : Act) (w : World) (i : Nat) (o : Oper), i < N → done i = false → l.toArray[i]? = some o → (∀ e ∈ o.after, Region.binds .any e = true → done e.on = true) → Inv done a w → wpOp P l.toArray Q i (fun a' w' => Inv (upd done i) a' w') a w)
    (tail : ∀ a w, Inv (fun j => decide (j < N)) a w → wpList P l.toArray Q (l.drop N) a w) : (Code.region id l.toArray true).wp P Q a w := by
  unfold drawOk3 at hd
  simp only [Bool.and_eq_true, decide_eq_true_eq] at hd
  obtain ⟨⟨⟨hN, hb⟩, ht⟩, hh, hseq⟩ := hd
  refine region_tail (fun _ => True) N hm (by simpa using hN) trivial (fun _ => ?_)
  refine inv_G3 Inv hb ht (by simpa using hN) step (fun listed a w hs hg hi => ?_) N _ a w.drew (by simp) (fun j _ => none_listed _ j) ?_ (fun i o _ hi => ?_) ?_
  · rw [listed_eq (n := l.length) (by simpa using hs) hN hg]
    have := wpAnyG_tail (P := P) (Q := Q) (S := fun _ => True) (a := a) (w := w) (by rw [Bool.and_eq_true]; exact ⟨hh, hseq⟩) (tail a w hi)
    exact this.2
  · have : (fun j => (Array.replicate l.toArray.size false).getD j false) = fun _ => false := by funext j; exact none_listed _ j
    rw [this]; exact cnt_none N
  · have hi' : (Array.replicate l.toArray.size false).getD i false = true := hi
    rw [none_listed] at hi'; cases hi'
  · have : (fun j => (Array.replicate l.toArray.size false).getD j false) = fun _ => false := by funext j; exact none_listed _ j
    rw [this]; exact start
end
end Go.Proofs.YtknaajofcbenaaaGreat
