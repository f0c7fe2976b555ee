/- Proved: whatever numbers are passed in, for the sands and for the looks, the law TideTold returns true, and all arguments read behind the call as they read before it. Conditions: none but those that the given row states of itself. -/
import Derived.Test.YtcljkkojeleakaaBegin2
import Derived.Test.YtcljkkojeleakaaOut1
import Derived.Test.YtcljkkojeleakaaAll
import Derived.Test.YtcljkkojeleakaaState2
import Derived.Test.YtcljkkojeleakaaShifts
import Derived.Test.YtcljkkojeleakaaBase
import Derived.Test.YtcljkkojeleakaaFar
import Derived.Test.YtcljkkojeleakaaOwn
import Derived.Test.YtcljkkojeleakaaRound
import Derived.Test.YtcljkkojeleakaaLower
import Derived.Test.YtcljkkojeleakaaMade
import Derived.Test.YtcljkkojeleakaaDraw
import Derived.Test.YtcljkkojeleakaaPair
import Derived.Test.YtcljkkojeleakaaLooks
import Derived.Test.YtcljkkojeleakaaLooks3
import Derived.Test.YtcljkkojeleakaaAwake
import Derived.Test.YtcljkkojeleakaaOpen
import Derived.Test.YtcljkkojeleakaaHeap
import Derived.Test.YtcljkkojeleakaaHeight
import Derived.Test.YtcljkkojeleakaaChk2
import Derived.Test.YtcljkkojeleakaaPost
import Derived.Deep.Cut
import Derived.Deep.DeepCutAuto
import Derived.WalkKit
import Derived.WalkSpells
import Derived.WalkLawsBesides
import Derived.Deep.QuietTactic
import Derived.BigQuiet
import Derived.Lib.Hide
import Derived.Shelf.Abstract
import Derived.BigGuardPart
import Derived.Carry
import Derived.ChangeSame
import Derived.SizedLaws
import Derived.ProofKit
import Derived.OpenShut
import Derived.JoinedOf
import Derived.Deep.Slices
import Derived.RangeFuncNested
import Derived.RangeFuncBound
import Derived.RangeFuncCalls
import Derived.RangeFuncLeaves
import Derived.Shelf.RegionOpen
import Derived.OwnWalkIn
import Derived.TacticsInMore
import Derived.LoopNIn
import Derived.LoopIn
import Derived.StillTailTactics
import Derived.Deep.RegionHeld3
import Derived.StillTail
import Derived.RangeFuncWrites
import Derived.Laws.StructEq
import Derived.Deep.LoopGhost
import Derived.IntWalk
import Derived.RangeFuncBox
import Derived.ArgAppend
import Derived.Laws.CopyOwn
import Derived.OwnWalk
import Derived.Lib.SliceRun
import Derived.Maps.OwnOps
import Derived.Maps.OwnSet
import Derived.Deep.AppendSrc
import Derived.Deep.Upon
/- Plain facts: the lowering of gates as a row of updates; gates of raised sands, and of sands with one sill more. -/
namespace Go.Proofs.Ytcljkkojeleakaa
section
open Go.RowKit

/-- what a sill lowers that leads on from a place: which gate, and to what at most -/
def up1 (F : List Int) (f : Int) (x : Int × Int × Int) : Option (Nat × Int) :=
  if 0 ≤ other x f ∧ (other x f).toNat < F.length then some ((other x f).toNat, grt [x.2.2, F[(other x f).toNat]?.getD 0]) else none
def ap1 (g : List Int) (u : Nat × Int) : List Int := g.set u.1 (min (g[u.1]?.getD 0) u.2)
def ap2 (f : Nat) (g : List Int) (u : Nat × Int) : List Int := g.set u.1 (min (g[u.1]?.getD 0) (grt [g[f]?.getD 0, u.2]))

/-- a lead as an update -/
def ofLead (s : Sd) (x : Lead s.sills.length s.floors.length) : Nat × Int := (x.1.2, grt [(s.sills[x.1.1]'x.2.1).2.2, s.floors[x.1.2]'x.2.2])
theorem lead1_up (s : Sd) (f : Int) (i : Nat) : (lead1 s.sills s.floors.length f i).map (ofLead s) = if i < s.sills.length then up1 s.floors f (s.sills[i]?.getD (0, 0, 0)) else none := by
  unfold lead1 up1
  by_cases hi : i < s.sills.length
  · rw [if_pos hi]
    have e : s.sills[i] = s.sills[i]?.getD (0, 0, 0) := by rw [List.getElem?_eq_getElem hi]; rfl
    by_cases h : 0 ≤ other (s.sills[i]?.getD (0, 0, 0)) f ∧ (other (s.sills[i]?.getD (0, 0, 0)) f).toNat < s.floors.length
    · rw [dif_pos ⟨hi, h⟩, if_pos h]
      simp only [Option.map_some, ofLead]
      rw [e, List.getElem?_eq_getElem h.2, Option.getD_some]
    · rw [dif_neg (fun h' => h h'.2), if_neg h]; rfl
  · rw [if_neg hi, dif_neg (fun h' => hi h'.1)]; rfl
theorem fm_congr {α β : Type} {l : List α} {f g : α → Option β} (h : ∀ x ∈ l, f x = g x) : l.filterMap f = l.filterMap g := by
  induction l with
  | nil => rfl
  | cons a r ih => rw [List.filterMap_cons, List.filterMap_cons, h a (by simp), ih (fun x hx => h x (by simp [hx]))]
theorem filterMap_range {α β : Type} (l : List α) (d : α) (q : α → Option β) : (List.range l.length).filterMap (fun i => if i < l.length then q (l[i]?.getD d) else none) = l.filterMap q := by
  have e : l = (List.range l.length).map (fun i => l[i]?.getD d) := by
    apply List.ext_getElem
    · simp
    · intro i h1 h2; simp [List.getElem?_eq_getElem h1]
  conv => rhs; rw [e]
  rw [List.filterMap_map]
  apply fm_congr
  intro i hi
  rw [List.mem_range] at hi
  simp [hi]
theorem leads_up (s : Sd) (f : Int) : (leads s.sills s.floors.length f s.sills.length).map (ofLead s) = s.sills.filterMap (up1 s.floors f) := by
  unfold leads
  rw [List.map_filterMap, ← filterMap_range s.sills (0, 0, 0)]
  apply fm_congr
  intro i _
  exact lead1_up s f i
theorem lowSea_up (s : Sd) (g : List Int) : lowSea s g = (s.sills.filterMap (up1 s.floors (-1))).foldl ap1 g := by
  unfold lowSea
  rw [← leads_up, List.foldl_map]
  rfl
theorem lowFrom_up (s : Sd) (f : Nat) (g : List Int) : lowFrom s g f = (s.sills.filterMap (up1 s.floors f)).foldl (ap2 f) g := by
  unfold lowFrom
  rw [← leads_up, List.foldl_map]
  rfl

theorem grt2 (a b : Int) : grt [a, b] = max (max 0 a) b := rfl

/-- gates that are as low, or lower -/
def Leq (g g' : List Int) : Prop := g.length = g'.length ∧ ∀ i : Nat, g[i]?.getD 0 ≤ g'[i]?.getD 0 ∧ (g[i]?.getD 0 < 1050 → g'[i]?.getD 0 < 1050)
theorem Leq.refl (g : List Int) : Leq g g := ⟨rfl, fun _ => ⟨Int.le_refl _, id⟩⟩
theorem Leq.set {a b : List Int} (h : Leq a b) (t : Nat) {c d : Int} (hc : c ≤ d) (hd : c < 1050 → d < 1050) : Leq (a.set t (min (a[t]?.getD 0) c)) (b.set t (min (b[t]?.getD 0) d)) := by
  refine ⟨by simp [h.1], fun i => ?_⟩
  have h1 := h.2 i
  have h0 := h.1
  rw [List.getElem?_set, List.getElem?_set]
  by_cases hi : t = i
  · subst hi
    by_cases hl : t < a.length
    · have hl' : t < b.length := by omega
      simp only [if_true, hl, hl', Option.getD_some]
      omega
    · have hl' : ¬ t < b.length := by omega
      simp [hl, hl']
  · rw [if_neg hi, if_neg hi]; exact h1

/-- sills of which some are higher, and floors -/
inductive HiS : List (Int × Int × Int) → List (Int × Int × Int) → Prop
  | nil : HiS [] []
  | cons {a b h h' : Int} {r r' : List (Int × Int × Int)} : h ≤ h' → h' ≤ 999 → HiS r r' → HiS ((a, b, h) :: r) ((a, b, h') :: r')
def HiF (F F' : List Int) : Prop := F.length = F'.length ∧ ∀ i : Nat, F[i]?.getD 0 ≤ F'[i]?.getD 0 ∧ F'[i]?.getD 0 ≤ 999
theorem HiS.refl : ∀ {l : List (Int × Int × Int)}, (∀ x ∈ l, x.2.2 ≤ 999) → HiS l l
  | [], _ => .nil
  | (a, b, h) :: r, k => .cons (Int.le_refl _) (k (a, b, h) (by simp)) (HiS.refl (fun x hx => k x (by simp [hx])))
theorem HiS.at : ∀ {l : List (Int × Int × Int)} (i : Nat) (d : Int) (hi : i < l.length), 0 ≤ d → (∀ x ∈ l, x.2.2 ≤ 999) → l[i].2.2 + d ≤ 999 → HiS l (l.set i (l[i].1, l[i].2.1, l[i].2.2 + d))
  | (a, b, h) :: r, 0, d, _, h0, k, k9 => .cons (show h ≤ h + d by omega) k9 (HiS.refl (fun x hx => k x (by simp [hx])))
  | (a, b, h) :: r, i + 1, d, hi, h0, k, k9 => by
    have hi' : i < r.length := by simpa using hi
    exact .cons (Int.le_refl _) (k (a, b, h) (by simp)) (HiS.at i d hi' h0 (fun x hx => k x (by simp [hx])) (by simpa using k9))
theorem HiF.refl {F : List Int} (h : ∀ x ∈ F, x ≤ 999) : HiF F F := ⟨rfl, fun i => ⟨Int.le_refl _, by
  by_cases hi : i < F.length
  · rw [List.getElem?_eq_getElem hi]; exact h _ (List.getElem_mem _)
  · rw [List.getElem?_eq_none (by omega)]; decide⟩⟩
theorem HiF.at {F : List Int} (i : Nat) (d : Int) (hi : i < F.length) (d0 : 0 ≤ d) (h : ∀ x ∈ F, x ≤ 999) (h9 : F[i] + d ≤ 999) : HiF F (F.set i (F[i] + d)) := by
  refine ⟨by simp, fun j => ?_⟩
  have k := (HiF.refl h).2 j
  rw [List.getElem?_set]
  by_cases hj : i = j
  · subst hj
    rw [if_pos rfl, if_pos hi, List.getElem?_eq_getElem hi]
    simp only [Option.getD_some]
    omega
  · rw [if_neg hj]; exact k

theorem hi_ap1 {F F' : List Int} (hF : HiF F F') (f : Int) {l l' : List (Int × Int × Int)} (hS : HiS l l') : ∀ {g g' : List Int}, Leq g g' → Leq ((l.filterMap (up1 F f)).foldl ap1 g) ((l'.filterMap (up1 F' f)).foldl ap1 g') := by
  induction hS with
  | nil => exact fun h => h
  | @cons a b h h' r r' hh h9 _ ih =>
    intro g g' hg
    have eo : other (a, b, h') f = other (a, b, h) f := rfl
    by_cases hc : 0 ≤ other (a, b, h) f ∧ (other (a, b, h) f).toNat < F.length
    · have e1 : up1 F f (a, b, h) = some ((other (a, b, h) f).toNat, grt [h, F[(other (a, b, h) f).toNat]?.getD 0]) := if_pos hc
      have e2 : up1 F' f (a, b, h') = some ((other (a, b, h) f).toNat, grt [h', F'[(other (a, b, h) f).toNat]?.getD 0]) := if_pos (by rw [← hF.1]; exact hc)
      rw [List.filterMap_cons_some e1, List.filterMap_cons_some e2, List.foldl_cons, List.foldl_cons]
      refine ih (hg.set _ ?_ ?_)
      · have := hF.2 (other (a, b, h) f).toNat
        simp only [grt2]; omega
      · have := hF.2 (other (a, b, h) f).toNat
        simp only [grt2]; omega
    · have e1 : up1 F f (a, b, h) = none := if_neg hc
      have e2 : up1 F' f (a, b, h') = none := if_neg (by rw [← hF.1]; exact hc)
      rw [List.filterMap_cons_none e1, List.filterMap_cons_none e2]
      exact ih hg
theorem hi_ap2 {F F' : List Int} (hF : HiF F F') (f : Nat) {l l' : List (Int × Int × Int)} (hS : HiS l l') : ∀ {g g' : List Int}, Leq g g' → Leq ((l.filterMap (up1 F f)).foldl (ap2 f) g) ((l'.filterMap (up1 F' f)).foldl (ap2 f) g') := by
  induction hS with
  | nil => exact fun h => h
  | @cons a b h h' r r' hh h9 _ ih =>
    intro g g' hg
    have eo : other (a, b, h') f = other (a, b, h) f := rfl
    by_cases hc : 0 ≤ other (a, b, h) f ∧ (other (a, b, h) f).toNat < F.length
    · have e1 : up1 F f (a, b, h) = some ((other (a, b, h) f).toNat, grt [h, F[(other (a, b, h) f).toNat]?.getD 0]) := if_pos hc
      have e2 : up1 F' f (a, b, h') = some ((other (a, b, h) f).toNat, grt [h', F'[(other (a, b, h) f).toNat]?.getD 0]) := if_pos (by rw [← hF.1]; exact hc)
      rw [List.filterMap_cons_some e1, List.filterMap_cons_some e2, List.foldl_cons, List.foldl_cons]
      have h1 := hF.2 (other (a, b, h) f).toNat
      have h2 := hg.2 f
      refine ih (hg.set _ ?_ ?_)
      · simp only [grt2]; omega
      · simp only [grt2]; omega
    · have e1 : up1 F f (a, b, h) = none := if_neg hc
      have e2 : up1 F' f (a, b, h') = none := if_neg (by rw [← hF.1]; exact hc)
      rw [List.filterMap_cons_none e1, List.filterMap_cons_none e2]
      exact ih hg
theorem hi_lowered {s t : Sd} (hF : HiF s.floors t.floors) (hS : HiS s.sills t.sills) {g g' : List Int} (hg : Leq g g') : Leq (lowered s g) (lowered t g') := by
  unfold lowered
  rw [← hF.1]
  have h0 : Leq (lowSea s g) (lowSea t g') := by rw [lowSea_up, lowSea_up]; exact hi_ap1 hF _ hS hg
  generalize lowSea s g = a at *
  generalize lowSea t g' = b at *
  generalize List.range s.floors.length = l
  induction l generalizing a b with
  | nil => exact h0
  | cons x r ih =>
    refine ih _ _ ?_
    rw [lowFrom_up, lowFrom_up]
    exact hi_ap2 hF _ hS h0

/-- lowered so many times -/
def iterG (s : Sd) : Nat → List Int → List Int
  | 0, g => g
  | n + 1, g => iterG s n (lowered s g)
theorem iterG_fix {s : Sd} {g : List Int} (h : lowered s g = g) : ∀ n, iterG s n g = g
  | 0 => rfl
  | n + 1 => by unfold iterG; rw [h]; exact iterG_fix h n
theorem fixG_iter (s : Sd) : ∀ n g, fixG s n g = iterG s n g
  | 0, g => rfl
  | n + 1, g => by
    unfold fixG
    split
    · next h => exact (iterG_fix h (n + 1)).symm
    · exact fixG_iter s n _
theorem hi_iter {s t : Sd} (hF : HiF s.floors t.floors) (hS : HiS s.sills t.sills) : ∀ n {g g' : List Int}, Leq g g' → Leq (iterG s n g) (iterG t n g')
  | 0, _, _, h => h
  | n + 1, _, _, h => hi_iter hF hS n (hi_lowered hF hS h)
theorem hi_gts {s t : Sd} (hF : HiF s.floors t.floors) (hS : HiS s.sills t.sills) : Leq (gts s) (gts t) := by
  unfold gts
  rw [fixG_iter, fixG_iter]
  exact hi_iter hF hS _ (Leq.refl _)

/-- with one sill more -/
def Geq (g g' : List Int) : Prop := g.length = g'.length ∧ ∀ i : Nat, g'[i]?.getD 0 ≤ g[i]?.getD 0
theorem Geq.set {a b : List Int} (h : Geq a b) (t : Nat) {c d : Int} (hc : d ≤ c) : Geq (a.set t (min (a[t]?.getD 0) c)) (b.set t (min (b[t]?.getD 0) d)) := by
  refine ⟨by simp [h.1], fun i => ?_⟩
  have h1 := h.2 i
  have h0 := h.1
  rw [List.getElem?_set, List.getElem?_set]
  by_cases hi : t = i
  · subst hi
    by_cases hl : t < a.length
    · have hl' : t < b.length := by omega
      simp only [if_true, hl, hl', Option.getD_some]
      omega
    · have hl' : ¬ t < b.length := by omega
      simp [hl, hl']
  · rw [if_neg hi, if_neg hi]; exact h1
theorem Geq.right {a b : List Int} (h : Geq a b) (t : Nat) (d : Int) : Geq a (b.set t (min (b[t]?.getD 0) d)) := by
  refine ⟨by simp [h.1], fun i => ?_⟩
  have h1 := h.2 i
  rw [List.getElem?_set]
  by_cases hi : t = i
  · subst hi
    by_cases hl : t < b.length
    · simp only [if_true, hl, Option.getD_some]
      omega
    · have hl' : ¬ t < a.length := by have := h.1; omega
      simp [hl, hl']
  · rw [if_neg hi]; exact h1
theorem more_ap1 (F : List Int) (f : Int) (l e : List (Int × Int × Int)) {g g' : List Int} (hg : Geq g g') : Geq ((l.filterMap (up1 F f)).foldl ap1 g) (((l ++ e).filterMap (up1 F f)).foldl ap1 g') := by
  rw [List.filterMap_append, List.foldl_append]
  have h0 : Geq ((l.filterMap (up1 F f)).foldl ap1 g) ((l.filterMap (up1 F f)).foldl ap1 g') := by
    generalize l.filterMap (up1 F f) = k
    induction k generalizing g g' with
    | nil => exact hg
    | cons x r ih => exact ih (hg.set _ (Int.le_refl _))
  generalize (l.filterMap (up1 F f)).foldl ap1 g = a at *
  generalize (l.filterMap (up1 F f)).foldl ap1 g' = b at *
  generalize e.filterMap (up1 F f) = k
  induction k generalizing b with
  | nil => exact h0
  | cons x r ih => exact ih _ (h0.right _ _)
theorem more_ap2 (F : List Int) (f : Nat) (l e : List (Int × Int × Int)) {g g' : List Int} (hg : Geq g g') : Geq ((l.filterMap (up1 F f)).foldl (ap2 f) g) (((l ++ e).filterMap (up1 F f)).foldl (ap2 f) g') := by
  rw [List.filterMap_append, List.foldl_append]
  have h0 : Geq ((l.filterMap (up1 F f)).foldl (ap2 f) g) ((l.filterMap (up1 F f)).foldl (ap2 f) g') := by
    generalize l.filterMap (up1 F f) = k
    induction k generalizing g g' with
    | nil => exact hg
    | cons x r ih =>
      refine ih (hg.set _ ?_)
      have := hg.2 f
      simp only [grt2]; omega
  generalize (l.filterMap (up1 F f)).foldl (ap2 f) g = a at *
  generalize (l.filterMap (up1 F f)).foldl (ap2 f) g' = b at *
  generalize e.filterMap (up1 F f) = k
  induction k generalizing b with
  | nil => exact h0
  | cons x r ih => exact ih _ (h0.right _ _)
theorem more_lowered {s t : Sd} {e : List (Int × Int × Int)} (hF : t.floors = s.floors) (hS : t.sills = s.sills ++ e) {g g' : List Int} (hg : Geq g g') : Geq (lowered s g) (lowered t g') := by
  unfold lowered
  rw [hF]
  have h0 : Geq (lowSea s g) (lowSea t g') := by rw [lowSea_up, lowSea_up, hF, hS]; exact more_ap1 _ _ _ _ hg
  generalize lowSea s g = a at *
  generalize lowSea t g' = b at *
  generalize List.range s.floors.length = l
  induction l generalizing a b with
  | nil => exact h0
  | cons x r ih =>
    refine ih _ _ ?_
    rw [lowFrom_up, lowFrom_up, hF, hS]
    exact more_ap2 _ _ _ _ h0
theorem more_iter {s t : Sd} {e : List (Int × Int × Int)} (hF : t.floors = s.floors) (hS : t.sills = s.sills ++ e) : ∀ n {g g' : List Int}, Geq g g' → Geq (iterG s n g) (iterG t n g')
  | 0, _, _, h => h
  | n + 1, _, _, h => more_iter hF hS n (more_lowered hF hS h)
theorem more_gts {s t : Sd} {e : List (Int × Int × Int)} (hF : t.floors = s.floors) (hS : t.sills = s.sills ++ e) : Geq (gts s) (gts t) := by
  unfold gts
  rw [fixG_iter, fixG_iter]
  exact more_iter hF hS _ ⟨rfl, fun _ => Int.le_refl _⟩

/-- no gate is above 1050 -/
theorem iter_less (s : Sd) : ∀ n {g : List Int}, Less top g → Less top (iterG s n g)
  | 0, _, h => h
  | n + 1, g, h => iter_less s n (h.trans (lowered_less s g (fun i => (h.2 i).1)))
theorem gts_le (s : Sd) (p : Nat) : 0 ≤ gateOf s p ∧ gateOf s p ≤ 1050 := by
  have h : Less top (gts s) := by
    unfold gts
    rw [fixG_iter]
    exact iter_less s _ (Less.refl top_nonneg)
  have h1 := h.2 p
  have h2 : top[p]?.getD 0 ≤ 1050 := by
    unfold top
    rw [List.getElem?_replicate]
    split <;> simp
  unfold gateOf
  omega
theorem hasWay_lt (s : Sd) (p : Nat) : hasWayB s p = decide (gateOf s p < 1050) := by
  have hg := gts_le s p
  unfold gateOf at hg ⊢
  unfold hasWayB
  generalize (gts s)[p]?.getD 0 = g at *
  by_cases h : g = 1050
  · subst h; rfl
  · rw [decide_eq_true (show g < 1050 by omega), bne_iff_ne]; exact h

section
variable {s t : Sd}
theorem errFor_in (ok : Ok s) {x : Int} (h : 0 ≤ x ∧ x < s.floors.length) : errFor s x = 0 := by
  unfold errFor
  rw [if_pos (chk_zero ok)]
  have : isPl s x = true := inB_true.2 (by omega)
  rw [this]; rfl
theorem errGate_in (ok : Ok s) {x : Int} (h : 0 ≤ x ∧ x < s.floors.length) : errGate s x = if gateOf s x.toNat < 1050 then 0 else 6 := by
  unfold errGate
  rw [if_pos (errFor_in ok h), hasWay_lt]
  by_cases h : gateOf s x.toNat < 1050 <;> simp [h]
theorem gateV_in (ok : Ok s) {x : Int} (h : 0 ≤ x ∧ x < s.floors.length) : gateV s x = if gateOf s x.toNat < 1050 then gateOf s x.toNat else 0 := by
  unfold gateV
  rw [errGate_in ok h]
  by_cases h : gateOf s x.toNat < 1050 <;> simp [h]
/-- raised: the same errors, no lesser gates, no greater states -/
theorem hi_gate (ok : Ok s) (ok' : Ok t) (hF : HiF s.floors t.floors) (hS : HiS s.sills t.sills) {x : Int} (h : 0 ≤ x ∧ x < s.floors.length) : errGate t x = errGate s x ∧ gateV s x ≤ gateV t x := by
  have h' : 0 ≤ x ∧ x < t.floors.length := by rw [← hF.1]; exact h
  have k := (hi_gts hF hS).2 x.toNat
  rw [errGate_in ok h, errGate_in ok' h', gateV_in ok h, gateV_in ok' h']
  unfold gateOf at *
  by_cases c : (gts s)[x.toNat]?.getD 0 < 1050
  · have c' := k.2 c
    rw [if_pos c, if_pos c', if_pos c, if_pos c']
    exact ⟨rfl, k.1⟩
  · have c' : ¬ (gts t)[x.toNat]?.getD 0 < 1050 := by omega
    rw [if_neg c, if_neg c', if_neg c, if_neg c']
    exact ⟨rfl, Int.le_refl _⟩
theorem hi_st (hF : HiF s.floors t.floors) (hS : HiS s.sills t.sills) (hT : t.table = s.table) (hl : t.lo = s.lo) (hh : t.hi = s.hi) (m : Int) (p : Nat) : st t m p ≤ st s m p := by
  have k := (hi_gts hF hS).2 p
  unfold st gateOf
  rw [hT, hl, hh]
  repeat' split
  all_goals omega
theorem more_gate {e : List (Int × Int × Int)} (ok : Ok s) (ok' : Ok t) (hF : t.floors = s.floors) (hS : t.sills = s.sills ++ e) {x : Int} (h : 0 ≤ x ∧ x < s.floors.length) : errGate s x = 0 → errGate t x = 0 ∧ gateV t x ≤ gateV s x := by
  have h' : 0 ≤ x ∧ x < t.floors.length := by rw [hF]; exact h
  have k := (more_gts hF hS).2 x.toNat
  rw [errGate_in ok h, errGate_in ok' h', gateV_in ok h, gateV_in ok' h']
  unfold gateOf at *
  by_cases c : (gts s)[x.toNat]?.getD 0 < 1050
  · have c' : (gts t)[x.toNat]?.getD 0 < 1050 := by omega
    rw [if_pos c, if_pos c', if_pos c, if_pos c']
    exact fun _ => ⟨rfl, k⟩
  · rw [if_neg c]
    exact fun h => by cases h
theorem more_st {e : List (Int × Int × Int)} (hF : t.floors = s.floors) (hS : t.sills = s.sills ++ e) (hT : t.table = s.table) (hl : t.lo = s.lo) (hh : t.hi = s.hi) (m : Int) (p : Nat) : st s m p ≤ st t m p := by
  have k := (more_gts hF hS).2 p
  unfold st gateOf
  rw [hT, hl, hh]
  repeat' split
  all_goals omega
end
end
end Go.Proofs.Ytcljkkojeleakaa
/- Rows that lie in a block of their own, from its first cell on: cells, and what a store changes. -/
namespace Go.Proofs.Ytcljkkojeleakaa
section
open Go.RowKit Go.Shelf

theorem flatten_set (k : Nat) : ∀ (rows : List (List Value)) (i j : Nat) (v : Value) (hi : i < rows.length), (∀ r ∈ rows, r.length = k) → j < k → rows.flatten.set (i * k + j) v = (rows.set i (rows[i].set j v)).flatten
  | a :: r, 0, j, v, _, hk, hj => by
    have ha := hk a (by simp)
    rw [Nat.zero_mul, Nat.zero_add, List.flatten_cons, List.set_append_left _ _ (by omega)]
    rfl
  | a :: r, i + 1, j, v, hi, hk, hj => by
    have ha := hk a (by simp)
    have hi' : i < r.length := by simpa using hi
    have ih := flatten_set k r i j v hi' (fun x hx => hk x (by simp [hx])) hj
    rw [List.flatten_cons, List.set_append_right _ _ (by rw [Nat.add_mul]; omega), show (i + 1) * k + j - a.length = i * k + j by rw [Nat.add_mul]; omega, ih]
    rfl
theorem flatten_len (k : Nat) : ∀ (rows : List (List Value)), (∀ r ∈ rows, r.length = k) → rows.flatten.length = rows.length * k
  | [], _ => by simp
  | a :: r, h => by
    rw [List.flatten_cons, List.length_append, flatten_len k r (fun x hx => h x (by simp [hx])), h a (by simp), List.length_cons, Nat.add_mul]
    omega

def RowBlk (w : World) (g : Nat) (T : TypeId) (k : Nat) (rows : List (List Value)) : Prop := (∀ r ∈ rows, r.length = k) ∧ ∃ cur : List Value, Blk w g cur T ∧ cur.take (rows.length * k) = rows.flatten
section
variable {w w' : World} {g k n₀ c : Nat} {T : TypeId} {p : Option Addr} {rows : List (List Value)}
theorem RowBlk.cell (h : RowBlk w g T k rows) {i j : Nat} {row : List Value} {x : Value} (hi : rows[i]? = some row) (hj : row[j]? = some x) : w.cell? ⟨g, i * k + j, none⟩ = some x := by
  obtain ⟨hk, cur, hb, ht⟩ := h
  have hil := (List.getElem?_eq_some_iff.1 hi).1
  have hr : row.length = k := hk row (List.mem_of_getElem? hi)
  have hjl : j < k := by have := (List.getElem?_eq_some_iff.1 hj).1; omega
  have hok : flatOk k rows = true := by unfold flatOk; simpa using hk
  have hf := flat_at k rows hok i row hi j x hj
  have hlt : i * k + j < rows.length * k := by
    have : (i + 1) * k ≤ rows.length * k := Nat.mul_le_mul_right _ (by omega)
    rw [Nat.add_mul] at this; omega
  rw [← ht, List.getElem?_take_of_lt hlt] at hf
  rw [hb.cell, hf]
theorem RowBlk.free (h : RowBlk w g T k rows) (i : Nat) : w.frozen? ⟨g, i, none⟩ = false := by
  obtain ⟨-, cur, hb, -⟩ := h
  exact hb.free i
theorem RowBlk.lt (h : RowBlk w g T k rows) : g < w.heap.size := by
  obtain ⟨-, cur, hb, -⟩ := h
  exact hb.lt
theorem RowBlk.row (h : RowBlk w g T k rows) : Row w (some ⟨g, 0, none⟩) k rows := fun i row hi => ⟨g, 0, rfl, fun j x hj => by rw [Nat.zero_add]; exact h.cell hi hj⟩
theorem RowBlk.up (h : RowBlk w g T k rows) (hu : Up w w') : RowBlk w' g T k rows := by
  obtain ⟨hk, cur, hb, ht⟩ := h
  exact ⟨hk, cur, hb.up hu, ht⟩
theorem RowBlk.other (h : RowBlk w g T k rows) {a : Addr} (ha : g ≠ a.block) (v : Value) : RowBlk (w.setCell a v) g T k rows := by
  obtain ⟨hk, cur, hb, ht⟩ := h
  exact ⟨hk, cur, hb.other ha v, ht⟩
theorem RowBlk.far {B n : Nat} (h : RowBlk w g T k rows) (hf : Far B n w w') (h1 : g < n) (h2 : g ≠ B) : RowBlk w' g T k rows := by
  obtain ⟨hk, cur, hb, ht⟩ := h
  exact ⟨hk, cur, hf.blk hb h1 h2, ht⟩
theorem RowBlk.set (h : RowBlk w g T k rows) {i j : Nat} (hi : i < rows.length) (hj : j < k) (v : Value) : RowBlk (w.setCell ⟨g, i * k + j, none⟩ v) g T k (rows.set i (rows[i].set j v)) := by
  obtain ⟨hk, cur, hb, ht⟩ := h
  refine ⟨fun r hr => ?_, _, hb.set _ _, ?_⟩
  · rcases List.mem_or_eq_of_mem_set hr with h1 | rfl
    · exact hk r h1
    · rw [List.length_set]; exact hk _ (List.getElem_mem _)
  · rw [List.length_set, ← flatten_set k rows i j v hi hk hj, ← ht, List.take_set]
theorem RowBlk.of (h : w.ownsRow n₀ T k (.slice p rows.length c) rows.length rows.flatten) (hk : ∀ r ∈ rows, r.length = k) (hl : 0 < rows.length) : ∃ g, p = some ⟨g, 0, none⟩ ∧ n₀ ≤ g ∧ RowBlk w g T k rows := by
  rcases h.2 with ⟨-, h0⟩ | ⟨g, cap, cur, h1, h2, h3, h4, h5, h6, h7⟩
  · omega
  · injection h1 with e1 e2 e3
    exact ⟨g, e1, h2, hk, cur.toList, h3, h7⟩
/-- rows of another type lie elsewhere -/
theorem RowBlk.ne {E : TypeId} {m n : Nat} {q : Option Addr} {xs : List Value} (h : RowBlk w g T k rows) (h' : w.ownsRow n₀ E m (.slice q n c) n xs) (hE : E ≠ T) : ∀ b off, q = some ⟨b, off, none⟩ → b ≠ g := by
  intro b off e hb
  obtain ⟨-, cur, hc, -⟩ := h
  rcases h'.2 with ⟨h1, -⟩ | ⟨g', cap, cur', h1, h2, h3, h4⟩
  · injection h1 with e1 e2 e3
    rw [e1] at e; cases e
  · injection h1 with e1 e2 e3
    rw [e1] at e
    simp only [Option.some.injEq, Addr.mk.injEq] at e
    have hg : g' = g := by omega
    rw [hg] at h3
    have h5 := h3.symm.trans hc
    simp only [Option.some.injEq, Obj.cells.injEq] at h5
    exact hE h5.2.1
theorem Blk.row {w : World} {B : Nat} {T : TypeId} (k : Nat) {rows : List (List Value)} (hk : ∀ r ∈ rows, r.length = k) (h : Blk w B rows.flatten T) : RowBlk w B T k rows :=
  ⟨hk, _, h, by rw [List.take_of_length_le (by rw [flatten_len k rows hk]; exact Nat.le_refl _)]⟩
/-- own rows lie below the heap's end -/
theorem ownsRow_lt {E : TypeId} {m n : Nat} {q : Option Addr} {xs : List Value} (h : w.ownsRow n₀ E m (.slice q n c) n xs) : ∀ b off, q = some ⟨b, off, none⟩ → n₀ ≤ b ∧ b < w.heap.size := by
  intro b off e
  rcases h.2 with ⟨h1, -⟩ | ⟨g', cap, cur', h1, h2, h3, h4⟩
  · injection h1 with e1 e2 e3
    rw [e1] at e; cases e
  · injection h1 with e1 e2 e3
    rw [e1] at e
    simp only [Option.some.injEq, Addr.mk.injEq] at e
    have hg : g' = b := by omega
    rw [hg] at h3 h2
    exact ⟨h2, (Array.getElem?_eq_some_iff.1 h3).1⟩
end
theorem triples_len (l : List (Int × Int × Int)) : ∀ r ∈ triples l, r.length = 3 := fun r hr => by
  simp only [triples, List.mem_map] at hr
  obtain ⟨x, -, rfl⟩ := hr; rfl
theorem pairs_len (l : List (Int × Int)) : ∀ r ∈ pairs l, r.length = 2 := fun r hr => by
  simp only [pairs, List.mem_map] at hr
  obtain ⟨x, -, rfl⟩ := hr; rfl
theorem ints_len (l : List Int) : ∀ r ∈ ints l, r.length = 1 := fun r hr => by
  simp only [ints, List.mem_map] at hr
  obtain ⟨x, -, rfl⟩ := hr; rfl
theorem triples_set (l : List (Int × Int × Int)) (i : Nat) (hi : i < l.length) (h : Int) : (triples l).set i (((triples l)[i]'(by simpa [triples] using hi)).set 2 (.int .i64 h)) = triples (l.set i (l[i].1, l[i].2.1, h)) := by
  unfold triples
  rw [List.map_set]
  simp
theorem ints_set (l : List Int) (i : Nat) (hi : i < l.length) (h : Int) : (ints l).set i (((ints l)[i]'(by simpa [ints] using hi)).set 0 (.int .i64 h)) = ints (l.set i h) := by
  unfold ints
  rw [List.map_set]
  simp
end
end Go.Proofs.Ytcljkkojeleakaa
/- Plain facts: the gates that the law finds by itself, letting the water rise from height to height, are the gates of the layer. -/
namespace Go.Proofs.Ytcljkkojeleakaa
section
open Go.RowKit

/-! what no sill lowers any more -/
theorem fixG_fix (s : Sd) : ∀ (n : Nat) (g : List Int), (∀ i : Nat, 0 ≤ g[i]?.getD 0) → g.sum < n → lowered s (fixG s n g) = fixG s n g
  | 0, g, h0, hs => by
    have := (sum_less g g (Less.refl h0)).2.2
    omega
  | n + 1, g, h0, hs => by
    unfold fixG
    split
    · assumption
    · next hne =>
      have hl := lowered_less s g h0
      have := (sum_less g (lowered s g) hl).2.1 hne
      exact fixG_fix s n (lowered s g) (fun i => (hl.2 i).1) (by omega)
theorem gts_fix (s : Sd) : lowered s (gts s) = gts s := fixG_fix s 9000 top top_nonneg (by decide)

theorem ap1_down : ∀ (l : List (Nat × Int)) (g : List Int) (i : Nat), i < g.length → (l.foldl ap1 g)[i]?.getD 0 ≤ g[i]?.getD 0
  | [], _, _, _ => Int.le_refl _
  | u :: r, g, i, hi => by
    refine Int.le_trans (ap1_down r (ap1 g u) i (by simp [ap1, hi])) ?_
    unfold ap1
    rw [List.getElem?_set]
    split
    · next h => subst h; rw [if_pos hi, Option.getD_some]; omega
    · exact Int.le_refl _
theorem ap2_down (f : Nat) : ∀ (l : List (Nat × Int)) (g : List Int) (i : Nat), i < g.length → (l.foldl (ap2 f) g)[i]?.getD 0 ≤ g[i]?.getD 0
  | [], _, _, _ => Int.le_refl _
  | u :: r, g, i, hi => by
    refine Int.le_trans (ap2_down f r (ap2 f g u) i (by simp [ap2, hi])) ?_
    unfold ap2
    rw [List.getElem?_set]
    split
    · next h => subst h; rw [if_pos hi, Option.getD_some]; omega
    · exact Int.le_refl _
theorem ap1_hit : ∀ (l : List (Nat × Int)) (g : List Int) (u : Nat × Int), u ∈ l → u.1 < g.length → (l.foldl ap1 g)[u.1]?.getD 0 ≤ u.2
  | v :: r, g, u, hu, hl => by
    have hl' : u.1 < (ap1 g v).length := by simp [ap1, hl]
    rcases List.mem_cons.1 hu with rfl | hu
    · refine Int.le_trans (ap1_down r _ u.1 hl') ?_
      unfold ap1
      rw [List.getElem?_set_self hl, Option.getD_some]
      omega
    · exact ap1_hit r _ u hu hl'
theorem ap2_hit (f : Nat) : ∀ (l : List (Nat × Int)) (g : List Int) (u : Nat × Int), u ∈ l → u.1 < g.length → f < g.length → (l.foldl (ap2 f) g)[u.1]?.getD 0 ≤ max (max 0 (g[f]?.getD 0)) u.2
  | v :: r, g, u, hu, hl, hf => by
    have hl' : u.1 < (ap2 f g v).length := by simp [ap2, hl]
    rcases List.mem_cons.1 hu with rfl | hu
    · refine Int.le_trans (ap2_down f r _ u.1 hl') ?_
      unfold ap2
      rw [List.getElem?_set_self hl, Option.getD_some, grt2]
      omega
    · have h1 := ap2_hit f r _ u hu hl' (by simp [ap2, hf])
      have h2 := ap2_down f [v] g f hf
      simp only [List.foldl_cons, List.foldl_nil] at h2
      show (r.foldl (ap2 f) (ap2 f g v))[u.1]?.getD 0 ≤ _
      omega
theorem low_len (s : Sd) (l : List Nat) (g : List Int) (h : g.length = 8) : (l.foldl (lowFrom s) g).length = 8 := lowFroms_len s l g h
theorem froms_down (s : Sd) : ∀ (l : List Nat) (g : List Int), g.length = 8 → ∀ i, i < 8 → (l.foldl (lowFrom s) g)[i]?.getD 0 ≤ g[i]?.getD 0
  | [], _, _, _, _ => Int.le_refl _
  | f :: r, g, hg, i, hi => by
    have hl : (lowFrom s g f).length = 8 := low2_len s f _ _ hg
    refine Int.le_trans (froms_down s r (lowFrom s g f) hl i hi) ?_
    rw [lowFrom_up]
    exact ap2_down f _ g i (by omega)
theorem froms_hit (s : Sd) : ∀ (l : List Nat) (g : List Int), g.length = 8 → ∀ f ∈ l, f < 8 → ∀ u ∈ s.sills.filterMap (up1 s.floors f), u.1 < 8 → (l.foldl (lowFrom s) g)[u.1]?.getD 0 ≤ max (max 0 (g[f]?.getD 0)) u.2
  | e :: r, g, hg, f, hf, h8, u, hu, hu8 => by
    have hl : (lowFrom s g e).length = 8 := low2_len s e _ _ hg
    rcases List.mem_cons.1 hf with rfl | hf
    · refine Int.le_trans (froms_down s r _ hl u.1 hu8) ?_
      rw [lowFrom_up]
      exact ap2_hit f _ g u hu (by omega) (by omega)
    · have h1 := froms_hit s r _ hl f hf h8 u hu hu8
      have h2 : (lowFrom s g e)[f]?.getD 0 ≤ g[f]?.getD 0 := by rw [lowFrom_up]; exact ap2_down e _ g f (by omega)
      show (r.foldl (lowFrom s) (lowFrom s g e))[u.1]?.getD 0 ≤ _
      omega
/-- what a sill joins: no gate is above what lets water over it -/
theorem gate_sea (s : Sd) (h8 : s.floors.length ≤ 8) (x : Int × Int × Int) (hx : x ∈ s.sills) (b : Nat) (hb : other x (-1) = b) (hbl : b < s.floors.length) : gateOf s b ≤ max (max 0 x.2.2) (s.floors[b]?.getD 0) := by
  have hu : (b, grt [x.2.2, s.floors[b]?.getD 0]) ∈ s.sills.filterMap (up1 s.floors (-1)) := by
    refine List.mem_filterMap.2 ⟨x, hx, ?_⟩
    unfold up1
    rw [hb, if_pos ⟨by omega, by simpa using hbl⟩]
    rfl
  have h0 : (lowSea s (gts s))[b]?.getD 0 ≤ max (max 0 x.2.2) (s.floors[b]?.getD 0) := by
    rw [lowSea_up]
    exact ap1_hit _ _ _ hu (by rw [gts_len]; exact Nat.lt_of_lt_of_le hbl h8)
  have h1 := froms_down s (List.range s.floors.length) (lowSea s (gts s)) (low1_len s _ _ (gts_len s)) b (by omega)
  have h2 := gts_fix s
  unfold lowered at h2
  rw [h2] at h1
  unfold gateOf
  omega
theorem gate_from (s : Sd) (h8 : s.floors.length ≤ 8) (x : Int × Int × Int) (hx : x ∈ s.sills) (f b : Nat) (hf : f < s.floors.length) (hb : other x f = b) (hbl : b < s.floors.length) : gateOf s b ≤ max (max 0 (gateOf s f)) (max (max 0 x.2.2) (s.floors[b]?.getD 0)) := by
  have hu : (b, grt [x.2.2, s.floors[b]?.getD 0]) ∈ s.sills.filterMap (up1 s.floors f) := by
    refine List.mem_filterMap.2 ⟨x, hx, ?_⟩
    unfold up1
    rw [hb, if_pos ⟨by omega, by simpa using hbl⟩]
    rfl
  have hs : (lowSea s (gts s)).length = 8 := low1_len s _ _ (gts_len s)
  have h1 := froms_hit s (List.range s.floors.length) (lowSea s (gts s)) hs f (List.mem_range.2 hf) (by omega) _ hu (by simp only; omega)
  have h3 : (lowSea s (gts s))[f]?.getD 0 ≤ (gts s)[f]?.getD 0 := by rw [lowSea_up]; exact ap1_down _ _ f (by rw [gts_len]; omega)
  have h2 := gts_fix s
  unfold lowered at h2
  rw [h2] at h1
  simp only [grt2] at h1
  unfold gateOf
  omega

/-! invariants of lowering, by its updates -/
theorem inv_iter (s : Sd) (h8 : s.floors.length ≤ 8) (I : List Int → Prop)
    (sea : ∀ (g : List Int) (x : Int × Int × Int) (b : Nat), g.length = 8 → x ∈ s.sills → other x (-1) = b → b < s.floors.length → I g → I (g.set b (min (g[b]?.getD 0) (max (max 0 x.2.2) (s.floors[b]?.getD 0)))))
    (from' : ∀ (g : List Int) (x : Int × Int × Int) (f b : Nat), g.length = 8 → x ∈ s.sills → f < s.floors.length → other x f = b → b < s.floors.length → I g → I (g.set b (min (g[b]?.getD 0) (max (max 0 (g[f]?.getD 0)) (max (max 0 x.2.2) (s.floors[b]?.getD 0))))))
    (h0 : I top) : I (gts s) := by
  have up : ∀ (f : Int) (x : Int × Int × Int) (u : Nat × Int), up1 s.floors f x = some u → other x f = u.1 ∧ u.1 < s.floors.length ∧ u.2 = max (max 0 x.2.2) (s.floors[u.1]?.getD 0) := by
    intro f x u hu
    unfold up1 at hu
    split at hu
    · next hc =>
      cases hu
      exact ⟨by simp only; omega, hc.2, rfl⟩
    · cases hu
  have h1 : ∀ (l : List (Int × Int × Int)) (g : List Int), (∀ x ∈ l, x ∈ s.sills) → g.length = 8 → I g → I ((l.filterMap (up1 s.floors (-1))).foldl ap1 g) := by
    intro l
    induction l with
    | nil => exact fun g _ _ h => h
    | cons x r ih =>
      intro g hx hl hI
      cases hu : up1 s.floors (-1) x with
      | none => rw [List.filterMap_cons_none hu]; exact ih g (fun y hy => hx y (by simp [hy])) hl hI
      | some u =>
        rw [List.filterMap_cons_some hu]
        obtain ⟨e1, e2, e3⟩ := up _ _ _ hu
        refine ih (ap1 g u) (fun y hy => hx y (by simp [hy])) (by simp [ap1, hl]) ?_
        unfold ap1
        rw [e3]
        exact sea g x u.1 hl (hx x (by simp)) e1 e2 hI
  have h2 : ∀ (f : Nat), f < s.floors.length → ∀ (l : List (Int × Int × Int)) (g : List Int), (∀ x ∈ l, x ∈ s.sills) → g.length = 8 → I g → I ((l.filterMap (up1 s.floors f)).foldl (ap2 f) g) := by
    intro f hf l
    induction l with
    | nil => exact fun g _ _ h => h
    | cons x r ih =>
      intro g hx hl hI
      cases hu : up1 s.floors f x with
      | none => rw [List.filterMap_cons_none hu]; exact ih g (fun y hy => hx y (by simp [hy])) hl hI
      | some u =>
        rw [List.filterMap_cons_some hu]
        obtain ⟨e1, e2, e3⟩ := up _ _ _ hu
        refine ih (ap2 f g u) (fun y hy => hx y (by simp [hy])) (by simp [ap2, hl]) ?_
        unfold ap2
        rw [e3, grt2]
        exact from' g x f u.1 hl (hx x (by simp)) hf e1 e2 hI
  have h3 : ∀ (l : List Nat) (g : List Int), (∀ f ∈ l, f < s.floors.length) → g.length = 8 → I g → I (l.foldl (lowFrom s) g) := by
    intro l
    induction l with
    | nil => exact fun g _ _ h => h
    | cons f r ih =>
      intro g hf hl hI
      refine ih (lowFrom s g f) (fun y hy => hf y (by simp [hy])) (low2_len s f _ _ hl) ?_
      rw [lowFrom_up]
      exact h2 f (hf f (by simp)) _ _ (fun _ h => h) hl hI
  have h4 : ∀ n (g : List Int), g.length = 8 → I g → I (iterG s n g) := by
    intro n
    induction n with
    | zero => exact fun g _ h => h
    | succ n ih =>
      intro g hl hI
      refine ih _ (lowered_len s g hl) ?_
      unfold lowered
      refine h3 _ _ (fun f hf => List.mem_range.1 hf) (low1_len s _ _ hl) ?_
      rw [lowSea_up]
      exact h1 _ _ (fun _ h => h) hl hI
  unfold gts
  rw [fixG_iter]
  exact h4 _ _ rfl h0

theorem set_get (g : List Int) (b i : Nat) (v : Int) (hb : b < g.length) : (g.set b v)[i]?.getD 0 = if b = i then v else g[i]?.getD 0 := by
  rw [List.getElem?_set]
  split
  · next h => first | rfl | (subst h; rw [if_pos hb]; rfl) | (subst h; simp [hb])
  · rfl
/-- low heights, low gates -/
theorem gate_low (s : Sd) (h8 : s.floors.length ≤ 8) (hF : ∀ x ∈ s.floors, 0 ≤ x ∧ x ≤ 50) (hS : ∀ x ∈ s.sills, x.2.2 ≤ 50) (p : Nat) (hp : p < 8) : gateOf s p ≤ 50 ∨ gateOf s p = 1050 := by
  have fl : ∀ b : Nat, s.floors[b]?.getD 0 ≤ 50 := fun b => by
    by_cases hb : b < s.floors.length
    · rw [List.getElem?_eq_getElem hb]; exact (hF _ (List.getElem_mem hb)).2
    · rw [List.getElem?_eq_none (by omega)]; decide
  have := inv_iter s h8 (fun g => ∀ i, i < 8 → g[i]?.getD 0 ≤ 50 ∨ g[i]?.getD 0 = 1050)
    (fun g x b hl hx hb hbl hI i hi => by
      have h1 := hI i hi
      have h2 := hI b (by omega)
      have h3 := fl b
      have h4 := hS x hx
      rw [set_get g b i _ (by omega)]
      split
      · omega
      · exact h1)
    (fun g x f b hl hx hf hb hbl hI i hi => by
      have h1 := hI i hi
      have h2 := hI b (by omega)
      have h3 := fl b
      have h4 := hS x hx
      have h5 := hI f (by omega)
      rw [set_get g b i _ (by omega)]
      split
      · omega
      · exact h1)
    (fun i hi => Or.inr (by unfold top; rw [List.getElem?_replicate, if_pos hi]; rfl))
  exact this p hp

/-! the law's own way -/
def rel1 (F : List Int) (h : Int) (g : List Int) (y : Int × Int × Int) : List Int :=
  if y.2.2 ≤ h ∧ y.2.1 ≠ -1 ∧ F[y.2.1.toNat]?.getD 0 ≤ h ∧ (y.1 = -1 ∨ g[y.1.toNat]?.getD 0 ≤ h) then g.set y.2.1.toNat (min (g[y.2.1.toNat]?.getD 0) h) else g
def turned (x : Int × Int × Int) : Int × Int × Int := (x.2.1, x.1, x.2.2)
def rel2 (F : List Int) (h : Int) (g : List Int) (x : Int × Int × Int) : List Int := rel1 F h (rel1 F h g x) (turned x)
def pass (s : Sd) (h : Int) (g : List Int) : List Int := s.sills.foldl (rel2 s.floors h) g
def passes (s : Sd) (h : Int) : Nat → List Int → List Int
  | 0, g => g
  | n + 1, g => passes s h n (pass s h g)
def lvls (s : Sd) : Nat → List Int
  | 0 => List.replicate s.floors.length 1000000
  | k + 1 => passes s k s.floors.length (lvls s k)

section
variable {F : List Int} {h : Int}
theorem rel1_len (g : List Int) (y : Int × Int × Int) : (rel1 F h g y).length = g.length := by
  unfold rel1; split
  · simp
  · rfl
theorem rel2_len (g : List Int) (y : Int × Int × Int) : (rel2 F h g y).length = g.length := by unfold rel2; rw [rel1_len, rel1_len]
/-- how many are above -/
def oc (h : Int) (g : List Int) : Nat := g.countP (fun v => decide (h < v))
theorem oc_set (h : Int) : ∀ (g : List Int) (b : Nat), b < g.length → h < g[b]?.getD 0 → oc h (g.set b (min (g[b]?.getD 0) h)) + 1 = oc h g
  | v :: r, 0, _, hv => by
    have hv' : h < v := by simpa using hv
    show oc h (min v h :: r) + 1 = oc h (v :: r)
    unfold oc
    rw [List.countP_cons, List.countP_cons, if_neg (by simp only [decide_eq_true_eq]; omega), if_pos (by simpa using hv')]
  | v :: r, b + 1, hb, hv => by
    have ih := oc_set h r b (by simpa using hb) (by simpa using hv)
    have e : (v :: r)[b + 1]?.getD 0 = r[b]?.getD 0 := by simp
    rw [e]
    show oc h (v :: r.set b _) + 1 = _
    unfold oc at ih ⊢
    rw [List.countP_cons, List.countP_cons]
    omega
theorem set_same (g : List Int) (b : Nat) (hb : b < g.length) (h : Int) (hv : g[b]?.getD 0 ≤ h) : g.set b (min (g[b]?.getD 0) h) = g := by
  rw [Int.min_eq_left hv, List.getElem?_eq_getElem hb, Option.getD_some, List.set_getElem_self]
theorem rel1_or (g : List Int) (y : Int × Int × Int) (hy : y.2.1 ≠ -1 → 0 ≤ y.2.1 ∧ y.2.1 < g.length) : rel1 F h g y = g ∨ oc h (rel1 F h g y) < oc h g := by
  unfold rel1
  split
  · next hc =>
    have hb : y.2.1.toNat < g.length := by have := hy hc.2.1; omega
    by_cases hv : g[y.2.1.toNat]?.getD 0 ≤ h
    · exact Or.inl (set_same g _ hb h hv)
    · have := oc_set h g _ hb (by omega)
      exact Or.inr (by omega)
  · exact Or.inl rfl
end
section
variable {α : Type} {f : List Int → α → List Int} {h : Int} {n : Nat} {P : α → Prop}
theorem fold_or (hf : ∀ g x, g.length = n → P x → (f g x).length = n ∧ (f g x = g ∨ oc h (f g x) < oc h g)) : ∀ (l : List α) (g : List Int), g.length = n → (∀ x ∈ l, P x) →
    (l.foldl f g).length = n ∧ (l.foldl f g = g ∧ (∀ x ∈ l, f g x = g) ∨ oc h (l.foldl f g) < oc h g)
  | [], g, hg, _ => ⟨hg, Or.inl ⟨rfl, by simp⟩⟩
  | x :: r, g, hg, hp => by
    obtain ⟨h1, h2⟩ := hf g x hg (hp x (by simp))
    obtain ⟨h3, h4⟩ := fold_or hf r (f g x) h1 (fun y hy => hp y (by simp [hy]))
    refine ⟨h3, ?_⟩
    rw [List.foldl_cons]
    rcases h2 with h2 | h2
    · rcases h4 with ⟨h4, h5⟩ | h4
      · refine Or.inl ⟨by rw [h4, h2], fun y hy => ?_⟩
        rcases List.mem_cons.1 hy with rfl | hy
        · exact h2
        · have := h5 y hy
          rw [h2] at this; exact this
      · exact Or.inr (by rw [h2] at h4 ⊢; exact h4)
    · rcases h4 with ⟨h4, h5⟩ | h4
      · exact Or.inr (by rw [h4]; exact h2)
      · exact Or.inr (by omega)
end
section
variable {s : Sd} {h : Int}
/-- an end of a sill is a place, or the Sea -/
def EndOk (n : Nat) (y : Int × Int × Int) : Prop := (y.1 = -1 ∨ 0 ≤ y.1 ∧ y.1 < n) ∧ (y.2.1 = -1 ∨ 0 ≤ y.2.1 ∧ y.2.1 < n) ∧ y.1 ≠ y.2.1
theorem EndOk.turned {n : Nat} {y : Int × Int × Int} (hy : EndOk n y) : EndOk n (turned y) := ⟨hy.2.1, hy.1, Ne.symm hy.2.2⟩
theorem EndOk.of (ok : Ok s) {x : Int × Int × Int} (hx : x ∈ s.sills) : EndOk s.floors.length x := ⟨(ok.good x hx).1, (ok.good x hx).2, ok.two x hx⟩
theorem rel2_or (g : List Int) (y : Int × Int × Int) (n : Nat) (hg : g.length = n) (hy : EndOk n y) : (rel2 s.floors h g y).length = n ∧ (rel2 s.floors h g y = g ∧ rel1 s.floors h g y = g ∧ rel1 s.floors h g (turned y) = g ∨ oc h (rel2 s.floors h g y) < oc h g) := by
  refine ⟨by rw [rel2_len]; exact hg, ?_⟩
  have h1 := rel1_or (F := s.floors) (h := h) g y (fun hn => by rcases hy.2.1 with e | e; exact absurd e hn; omega)
  have h2 := rel1_or (F := s.floors) (h := h) (rel1 s.floors h g y) (turned y) (fun hn => by rw [rel1_len]; rcases hy.1 with e | e; exact absurd e hn; exact ⟨e.1, by rw [hg]; exact e.2⟩)
  unfold rel2
  rcases h1 with h1 | h1
  · rcases h2 with h2 | h2
    · rw [h1] at h2 ⊢
      exact Or.inl ⟨h2, rfl, h2⟩
    · rw [h1] at h2 ⊢; exact Or.inr h2
  · rcases h2 with h2 | h2
    · exact Or.inr (by rw [h2]; exact h1)
    · exact Or.inr (by omega)
theorem pass_or (ok : Ok s) (g : List Int) (hg : g.length = s.floors.length) : (pass s h g).length = s.floors.length ∧ (pass s h g = g ∧ (∀ x ∈ s.sills, rel1 s.floors h g x = g ∧ rel1 s.floors h g (turned x) = g) ∨ oc h (pass s h g) < oc h g) := by
  obtain ⟨h1, h2⟩ := fold_or (h := h) (n := s.floors.length) (P := EndOk s.floors.length) (f := rel2 s.floors h) (fun g x hg hx => by
    obtain ⟨k1, k2⟩ := rel2_or (s := s) (h := h) g x _ hg hx
    refine ⟨k1, ?_⟩
    rcases k2 with k2 | k2
    · exact Or.inl k2.1
    · exact Or.inr k2) s.sills g hg (fun x hx => EndOk.of ok hx)
  refine ⟨h1, ?_⟩
  rcases h2 with ⟨h2, h3⟩ | h2
  · refine Or.inl ⟨h2, fun x hx => ?_⟩
    rcases (rel2_or (s := s) (h := h) g x _ hg (EndOk.of ok hx)).2 with k | k
    · exact k.2
    · rw [h3 x hx] at k; omega
  · exact Or.inr h2
theorem passes_len (ok : Ok s) : ∀ n (g : List Int), g.length = s.floors.length → (passes s h n g).length = s.floors.length
  | 0, _, hg => hg
  | n + 1, g, hg => passes_len ok n _ (pass_or ok g hg).1
theorem passes_fix (ok : Ok s) : ∀ n (g : List Int), g.length = s.floors.length → pass s h g = g → passes s h n g = g
  | 0, _, _, _ => rfl
  | n + 1, g, hg, hp => by
    unfold passes
    rw [hp]
    exact passes_fix ok n g hg hp
theorem passes_shut (ok : Ok s) : ∀ n (g : List Int), g.length = s.floors.length → oc h g ≤ n → pass s h (passes s h n g) = passes s h n g
  | 0, g, hg, ho => by
    rcases (pass_or (h := h) ok g hg).2 with k | k
    · exact k.1
    · omega
  | n + 1, g, hg, ho => by
    obtain ⟨h1, k⟩ := pass_or (h := h) ok g hg
    unfold passes
    rcases k with k | k
    · rw [k.1, passes_fix ok n g hg k.1]; exact k.1
    · exact passes_shut ok n _ h1 (by omega)

/-- sound at a height: what is known is the gate, and what is below is known -/
def Snd (s : Sd) (h : Int) (g : List Int) : Prop := ∀ p, p < s.floors.length → (g[p]?.getD 0 = 1000000 ∨ g[p]?.getD 0 = gateOf s p ∧ gateOf s p ≤ h) ∧ (gateOf s p < h → g[p]?.getD 0 = gateOf s p)
theorem other_to (ok : Ok s) {x : Int × Int × Int} (hx : x ∈ s.sills) {a b : Int} (hb : b ≠ -1) (hab : (a, b) = (x.1, x.2.1) ∨ (a, b) = (x.2.1, x.1)) : other x a = b := by
  have := ok.two x hx
  unfold other
  rcases hab with e | e
  · cases e; simp
  · cases e
    have : (x.2.1 == x.1) = false := by rw [beq_eq_false_iff_ne]; omega
    simp [this]
theorem gate_step (ok : Ok s) {x : Int × Int × Int} (hx : x ∈ s.sills) {a b : Int} (hb : 0 ≤ b ∧ b < s.floors.length) (ha : a = -1 ∨ 0 ≤ a ∧ a < s.floors.length) (hab : (a, b) = (x.1, x.2.1) ∨ (a, b) = (x.2.1, x.1)) (h0 : 0 ≤ h) (hh : x.2.2 ≤ h) (hF : s.floors[b.toNat]?.getD 0 ≤ h) (hg : a = -1 ∨ gateOf s a.toNat ≤ h) : gateOf s b.toNat ≤ h := by
  have ho := other_to ok hx (by omega) hab
  have e : ((b.toNat : Nat) : Int) = b := by omega
  rcases hg with hg | hg
  · subst hg
    have := gate_sea s ok.fl1 x hx b.toNat (by rw [e]; exact ho) (by omega)
    omega
  · rcases ha with ha | ha
    · subst ha
      have := gate_sea s ok.fl1 x hx b.toNat (by rw [e]; exact ho) (by omega)
      omega
    · have e2 : ((a.toNat : Nat) : Int) = a := by omega
      have := gate_from s ok.fl1 x hx a.toNat b.toNat (by omega) (by rw [e, e2]; exact ho) (by omega)
      omega
theorem snd_rel1 (ok : Ok s) {x : Int × Int × Int} (hx : x ∈ s.sills) (h0 : 0 ≤ h) (h9 : h ≤ 999) {g : List Int} (hl : g.length = s.floors.length) (hs : Snd s h g) (y : Int × Int × Int) (hy : y = x ∨ y = turned x) : Snd s h (rel1 s.floors h g y) := by
  have he : EndOk s.floors.length y := by
    rcases hy with rfl | rfl
    · exact EndOk.of ok hx
    · exact (EndOk.of ok hx).turned
  have hab : (y.1, y.2.1) = (x.1, x.2.1) ∨ (y.1, y.2.1) = (x.2.1, x.1) := by rcases hy with rfl | rfl; exact Or.inl rfl; exact Or.inr rfl
  have hyh : y.2.2 = x.2.2 := by rcases hy with rfl | rfl <;> rfl
  unfold rel1
  split
  · next hc =>
    obtain ⟨c1, c2, c3, c4⟩ := hc
    have hb : 0 ≤ y.2.1 ∧ y.2.1 < s.floors.length := by rcases he.2.1 with e | e; exact absurd e c2; exact e
    have hgb : gateOf s y.2.1.toNat ≤ h := by
      refine gate_step ok hx hb he.1 hab h0 (by omega) c3 ?_
      rcases c4 with c4 | c4
      · exact Or.inl c4
      · rcases he.1 with e | e
        · exact Or.inl e
        · refine Or.inr ?_
          have := (hs y.1.toNat (by omega)).1
          omega
    intro p hp
    have k := hs p hp
    rw [set_get g _ p _ (by omega)]
    split
    · next e =>
      subst e
      omega
    · exact k
  · exact hs
theorem snd_fold (ok : Ok s) (h0 : 0 ≤ h) (h9 : h ≤ 999) : ∀ (l : List (Int × Int × Int)) (g : List Int), (∀ x ∈ l, x ∈ s.sills) → g.length = s.floors.length → Snd s h g → Snd s h (l.foldl (rel2 s.floors h) g)
  | [], _, _, _, hs => hs
  | x :: r, g, hx, hl, hs => by
    have hm := hx x (by simp)
    refine snd_fold ok h0 h9 r _ (fun y hy => hx y (by simp [hy])) (by rw [rel2_len]; exact hl) ?_
    unfold rel2
    exact snd_rel1 ok hm h0 h9 (by rw [rel1_len]; exact hl) (snd_rel1 ok hm h0 h9 hl hs x (Or.inl rfl)) _ (Or.inr rfl)
theorem snd_passes (ok : Ok s) (h0 : 0 ≤ h) (h9 : h ≤ 999) : ∀ n (g : List Int), g.length = s.floors.length → Snd s h g → Snd s h (passes s h n g)
  | 0, _, _, hs => hs
  | n + 1, g, hl, hs => snd_passes ok h0 h9 n _ (pass_or ok g hl).1 (snd_fold ok h0 h9 _ _ (fun _ h => h) hl hs)
/-- what no pass changes any more has all gates that are not above -/
theorem shut_all (ok : Ok s) (h9 : h ≤ 999) {g : List Int} (hl : g.length = s.floors.length) (hp : pass s h g = g) (p : Nat) (hpl : p < s.floors.length) (hg : gateOf s p ≤ h) : g[p]?.getD 0 ≤ h := by
  have hall : ∀ x ∈ s.sills, rel1 s.floors h g x = g ∧ rel1 s.floors h g (turned x) = g := by
    rcases (pass_or (h := h) ok g hl).2 with k | k
    · exact k.2
    · rw [hp] at k; omega
  have key : ∀ x ∈ s.sills, ∀ a b : Int, (a, b) = (x.1, x.2.1) ∨ (a, b) = (x.2.1, x.1) → 0 ≤ b ∧ b < s.floors.length → x.2.2 ≤ h → s.floors[b.toNat]?.getD 0 ≤ h → (a = -1 ∨ g[a.toNat]?.getD 0 ≤ h) → g[b.toNat]?.getD 0 ≤ h := by
    intro x hx a b hab hb h1 h2 h3
    have hb' : b.toNat < g.length := by omega
    have hr : rel1 s.floors h g (a, b, x.2.2) = g := by
      rcases hab with e | e
      · cases e; exact (hall x hx).1
      · cases e; exact (hall x hx).2
    unfold rel1 at hr
    rw [if_pos ⟨h1, by simp only; omega, h2, h3⟩] at hr
    have e1 := congrArg (fun l => l[b.toNat]?.getD 0) hr
    simp only at e1
    rw [set_get g _ _ _ hb', if_pos rfl] at e1
    omega
  refine Decidable.byContradiction fun hc => ?_
  have := inv_iter s ok.fl1 (fun a => ∀ i, i < s.floors.length → h < g[i]?.getD 0 → h < a[i]?.getD 0)
    (fun a x b hl8 hx hb hbl hI i hi hgi => by
      rw [set_get a b i _ (by have := ok.fl1; omega)]
      split
      · next e =>
        subst e
        have h1 := hI b hi hgi
        have hne : ¬ (x.2.2 ≤ h ∧ s.floors[b]?.getD 0 ≤ h) := fun hcc => by
          have ho : (-1, (b : Int)) = (x.1, x.2.1) ∨ (-1, (b : Int)) = (x.2.1, x.1) := by
            unfold other at hb
            by_cases e1 : (-1 : Int) = x.1
            · rw [show ((-1 : Int) == x.1) = true from beq_iff_eq.2 e1] at hb
              exact Or.inl (by rw [← e1]; simp at hb; rw [hb])
            · rw [show ((-1 : Int) == x.1) = false from beq_eq_false_iff_ne.2 e1] at hb
              by_cases e2 : (-1 : Int) = x.2.1
              · rw [show ((-1 : Int) == x.2.1) = true from beq_iff_eq.2 e2] at hb
                exact Or.inr (by rw [← e2]; simp at hb; rw [hb])
              · rw [show ((-1 : Int) == x.2.1) = false from beq_eq_false_iff_ne.2 e2] at hb
                simp at hb
          have := key x hx (-1) b ho (by omega) hcc.1 (by simpa using hcc.2) (Or.inl rfl)
          simp only [Int.toNat_natCast] at this
          omega
        omega
      · exact hI i hi hgi)
    (fun a x f b hl8 hx hf hb hbl hI i hi hgi => by
      rw [set_get a b i _ (by have := ok.fl1; omega)]
      split
      · next e =>
        subst e
        have h1 := hI b hi hgi
        by_cases hgf : h < g[f]?.getD 0
        · have := hI f hf hgf
          omega
        · have hne : ¬ (x.2.2 ≤ h ∧ s.floors[b]?.getD 0 ≤ h) := fun hcc => by
            have ho : ((f : Int), (b : Int)) = (x.1, x.2.1) ∨ ((f : Int), (b : Int)) = (x.2.1, x.1) := by
              unfold other at hb
              by_cases e1 : (f : Int) = x.1
              · rw [show ((f : Int) == x.1) = true from beq_iff_eq.2 e1] at hb
                exact Or.inl (by rw [← e1]; simp at hb; rw [hb])
              · rw [show ((f : Int) == x.1) = false from beq_eq_false_iff_ne.2 e1] at hb
                by_cases e2 : (f : Int) = x.2.1
                · rw [show ((f : Int) == x.2.1) = true from beq_iff_eq.2 e2] at hb
                  exact Or.inr (by rw [← e2]; simp at hb; rw [hb])
                · rw [show ((f : Int) == x.2.1) = false from beq_eq_false_iff_ne.2 e2] at hb
                  simp at hb
            have := key x hx f b ho (by omega) hcc.1 (by simpa using hcc.2) (Or.inr (by simp only [Int.toNat_natCast]; omega))
            simp only [Int.toNat_natCast] at this
            omega
          omega
      · exact hI i hi hgi)
    (fun i hi _ => by
      have := ok.fl1
      unfold top
      rw [List.getElem?_replicate, if_pos (by omega)]
      show h < 1050
      omega)
  have h1 := this p hpl (by omega)
  unfold gateOf at hg
  omega
theorem lvls_len (ok : Ok s) : ∀ k, (lvls s k).length = s.floors.length
  | 0 => by simp [lvls]
  | k + 1 => passes_len ok _ _ (lvls_len ok k)
theorem lvls_is (ok : Ok s) : ∀ (k : Nat), k ≤ 1000 → ∀ p, p < s.floors.length → (lvls s k)[p]?.getD 0 = if gateOf s p < k then gateOf s p else 1000000
  | 0, _, p, hp => by
    have := (gts_le s p).1
    rw [if_neg (by omega)]
    unfold lvls
    rw [List.getElem?_replicate, if_pos hp]
    rfl
  | k + 1, hk, p, hp => by
    have ih := lvls_is ok k (by omega)
    have hl := lvls_len ok k
    have hs : Snd s k (lvls s k) := fun q hq => by
      have e := ih q hq
      by_cases c : gateOf s q < k
      · rw [if_pos c] at e
        exact ⟨Or.inr ⟨e, by omega⟩, fun _ => e⟩
      · rw [if_neg c] at e
        exact ⟨Or.inl e, fun h => absurd h c⟩
    have h1 := snd_passes ok (h := (k : Int)) (by omega) (by omega) s.floors.length _ hl hs
    have h2 := passes_shut (h := (k : Int)) ok s.floors.length (lvls s k) hl (by rw [← hl]; exact List.countP_le_length)
    have hl2 := passes_len (h := (k : Int)) ok s.floors.length _ hl
    show (passes s k s.floors.length (lvls s k))[p]?.getD 0 = _
    have h3 := shut_all ok (h := (k : Int)) (by omega) hl2 h2 p hp
    have h4 := (h1 p hp).1
    by_cases c : gateOf s p < ((k + 1 : Nat) : Int)
    · rw [if_pos c]
      have := h3 (by omega)
      omega
    · rw [if_neg c]
      omega
/-- the gates that the law finds -/
theorem lvls_gates (ok : Ok s) (hF : ∀ x ∈ s.floors, 0 ≤ x ∧ x ≤ 50) (hS : ∀ x ∈ s.sills, x.2.2 ≤ 50) (p : Nat) (hp : p < s.floors.length) : (lvls s 62)[p]?.getD 0 = if gateOf s p < 1050 then gateOf s p else 1000000 := by
  rw [lvls_is ok 62 (by omega) p hp]
  have := gate_low s ok.fl1 hF hS p (by have := ok.fl1; omega)
  by_cases c : gateOf s p < 1050
  · rw [if_pos c, if_pos (by omega)]
  · rw [if_neg c, if_neg (by omega)]
end
end
end Go.Proofs.Ytcljkkojeleakaa
/- The law's own gates: what the call returns. -/
namespace Go.Proofs.Ytcljkkojeleakaa
open Go.RowKit Go.Shelf

theorem rowInt {w : World} {b off : Nat} {l : List Int} (h : Row w (some ⟨b, off, none⟩) 1 (ints l)) {i : Nat} (hi : i < l.length) : w.cell? ⟨b, off + i, none⟩ = some (.int .i64 l[i]) := by
  obtain ⟨b', off', e, hc⟩ := h.int i hi
  simp only [Option.some.injEq, Addr.mk.injEq, and_true] at e
  obtain ⟨rfl, rfl⟩ := e
  exact hc
theorem gcell {w : World} {g : Nat} {l : List Int} {T : TypeId} (h : Blk w g (gcells l) T) {i : Nat} (hi : i < l.length) : w.cell? ⟨g, i, none⟩ = some (.int .i64 (l[i]?.getD 0)) := by
  rw [h.cell i, gcells, List.getElem?_map, List.getElem?_eq_getElem hi]
  rfl
theorem gset {w : World} {g : Nat} {l : List Int} {T : TypeId} (h : Blk w g (gcells l) T) (i : Nat) (v : Int) : Blk (w.setCell ⟨g, i, none⟩ (.int .i64 v)) g (gcells (l.set i v)) T := by
  have := h.set i (.int .i64 v)
  unfold gcells at this ⊢
  rw [List.map_set]
  exact this

section
variable {pT pF pS : Option Addr} {cT cF cS : Nat}
set_option maxRecDepth 100000 in
set_option maxHeartbeats 3000000 in
theorem gates_c (s : Sd) (w : World) (ok : Ok s) (hl : Lists w s pT pF pS cT cF cS) :
    Calls Try.prog 52 #[sdVal s pT pF pS cT cF cS] w fun e w' => ∃ g, e = .returned (.slice (some ⟨g, 0, none⟩) s.floors.length s.floors.length) ∧ Blk w' g (gcells (lvls s 62)) 3 ∧ w.heap.size ≤ g ∧ Up w w' := by
  have f0 := ok.fl0
  have f8 := ok.fl1
  have s16 := ok.sl
  obtain ⟨gF, oF, rfl, -⟩ := hl.rf.int 0 (by omega)
  have HL := Lib.hid hl
  have OK := Lib.hid ok
  clear hl
  obtain ⟨i0, hi, hz0, hz1, hz2⟩ := info_parts info3
  have hmk : ∀ u : World, (Instr.makeSlice 25 (.int .i64 (s.floors.length : Int)) (.int .i64 (s.floors.length : Int))).run Try.prog u =
      .ok (.slice (some ⟨u.heap.size, 0, none⟩) s.floors.length s.floors.length) (u.alloc (.cells (madeCells #[.int .i64 0] s.floors.length) 3)) := fun u => by
    have h := run_make (P := Try.prog) u 25 3 i0 (.int .i64 0) Try.underlying25 hi hz0 .i64 .i64 (s.floors.length : Int) (s.floors.length : Int) (by omega) (Int.le_refl _) (by rw [hz2]; omega) (by omega)
    rw [Int.toNat_natCast] at h
    simpa [hz1, Value.cells] using h
  have HMK := Lib.hid hmk
  clear hi hz0 hz1 hz2
  unfold sdVal
  go_enter Try.func52, Try.ntmps52
  go_wp2_with fail
  clear hmk
  have HB1 : Hid (Blk ((w.alloc (.cells #[.slice pT s.table.length cT, .int .i64 s.lo, .int .i64 s.hi, .slice (some ⟨gF, oF, none⟩) s.floors.length cF, .slice pS s.sills.length cS] 28)).alloc (.cells (madeCells #[Value.int IntKind.i64 0] s.floors.length) 3)) w.heap.size (sdCells s pT (some ⟨gF, oF, none⟩) pS cT cF cS) 28) := Lib.hid ((Blk.new w (sdCells s pT (some ⟨gF, oF, none⟩) pS cT cF cS) 28).alloc _)
  have HG : Hid (Blk ((w.alloc (.cells #[.slice pT s.table.length cT, .int .i64 s.lo, .int .i64 s.hi, .slice (some ⟨gF, oF, none⟩) s.floors.length cF, .slice pS s.sills.length cS] 28)).alloc (.cells (madeCells #[Value.int IntKind.i64 0] s.floors.length) 3)) (w.heap.size + 1) (gcells (fillTo s.floors.length (fun _ => 1000000) 0)) 3) := Lib.hid (by
    have e : (madeCells #[Value.int IntKind.i64 0] s.floors.length) = (gcells (fillTo s.floors.length (fun _ => 1000000) 0)).toArray := by
      apply Array.toList_inj.1
      rw [toList_madeCells_one]
      simp [gcells, fillTo]
    rw [e]
    exact Blk.new' _ _ _ (by simp))
  have HU : Hid (Up w ((w.alloc (.cells #[.slice pT s.table.length cT, .int .i64 s.lo, .int .i64 s.hi, .slice (some ⟨gF, oF, none⟩) s.floors.length cF, .slice pS s.sills.length cS] 28)).alloc (.cells (madeCells #[Value.int IntKind.i64 0] s.floors.length) 3))) := Lib.hid (by (repeat (first | exact Below.refl _ _ | (with_reducible refine Below.drewN' ?_ _) | (with_reducible refine Below.drew ?_) | (with_reducible refine Below.setCell ?_ (by first | exact Nat.le_refl _ | omega | (with_reducible (repeat (first | refine sz_alloc ?_ | refine sz_setCell ?_ | refine sz_drew ?_ | refine sz_drewN ?_)); first | exact Nat.le_refl _ | omega) | (simp only [World.size_alloc, World.size_setCell, World.size_drew, size_drewN']; omega)) _) | (with_reducible refine Below.alloc ?_ (by first | exact Nat.le_refl _ | omega | (with_reducible (repeat (first | refine sz_alloc ?_ | refine sz_setCell ?_ | refine sz_drew ?_ | refine sz_drewN ?_)); first | exact Nat.le_refl _ | omega) | (simp only [World.size_alloc, World.size_setCell, World.size_drew, size_drewN']; omega)) _) | assumption)))
  generalize ((w.alloc (.cells #[.slice pT s.table.length cT, .int .i64 s.lo, .int .i64 s.hi, .slice (some ⟨gF, oF, none⟩) s.floors.length cF, .slice pS s.sills.length cS] 28)).alloc (.cells (madeCells #[Value.int IntKind.i64 0] s.floors.length) 3)) = w1 at *
  have hw1 := HG.out.lt
  have NF : Hid (∀ wr : World, Far (w.heap.size + 1) w1.heap.size w1 wr → Up w wr) := Lib.hid (fun wr h => Below.trans HU.out (h.below (by omega) (by omega)))
  go_loopw [16] (fun i wr => ∃ j : Nat, i = .int .i64 j ∧ j ≤ s.floors.length ∧ Blk wr (w.heap.size + 1) (gcells (fillTo s.floors.length (fun _ => 1000000) j)) 3 ∧ Far (w.heap.size + 1) w1.heap.size w1 wr) (fun i _ => s.floors.length - (intOf i).toNat)
  case atStart => exact ⟨0, rfl, by omega, HG.out, Far.refl _ _ _⟩
  case round =>
    obtain ⟨j, rfl, hj, hb, hf⟩ := hrel
    have HBk := Lib.hid hb
    have HF := Lib.hid hf
    clear hf
    by_cases hlt : j < s.floors.length
    · have q1 : (j : Int) < s.floors.length := by omega
      have c0 := gcell hb (i := j) (by rw [fillTo_len hj]; exact hlt)
      have cf := hb.free j
      have cl := hb.lt
      clear hb
      go_wp2_with fail
      go_roundw
      case rel =>
        refine ⟨j + 1, by go_num, by omega, ?_, HF.out.setIn _ _⟩
        have := gset HBk.out j 1000000
        rw [fillTo_set (f := fun _ => 1000000) hlt] at this
        exact this
      case measure => simp [intOf]; omega
    · obtain rfl : j = s.floors.length := by omega
      have e0 : fillTo s.floors.length (fun _ => (1000000 : Int)) s.floors.length = lvls s 0 := by
        rw [fillTo_end]
        show (List.range s.floors.length).map (fun _ => (1000000 : Int)) = List.replicate s.floors.length 1000000
        exact List.ext_getElem (by simp) (fun i h1 h2 => by rw [List.getElem_map, List.getElem_replicate])
      rw [e0] at HBk
      clear hb e0 hlt hj
      go_wp2_with fail
      go_loopw [23] (fun i wr => ∃ k : Nat, i = .int .i64 k ∧ k ≤ 61 ∧ Blk wr (w.heap.size + 1) (gcells (lvls s k)) 3 ∧ Far (w.heap.size + 1) w1.heap.size w1 wr) (fun i _ => 62 - (intOf i).toNat)
      case atStart => exact ⟨0, rfl, by omega, HBk.out, HF.out⟩
      case round =>
        obtain ⟨k, rfl, hk, hb, hf⟩ := hrel
        clear HBk HF
        have HBk := Lib.hid hb
        have HF := Lib.hid hf
        have q1 : (k : Int) < 1000 := by omega
        obtain ⟨c0, c1, c2, c3, c4⟩ := five (hf.blk HB1.out HB1.out.lt (by omega))
        clear hb hf
        have HP : Hid (passes s k (s.floors.length - 0) (lvls s k) = lvls s (k + 1)) := Lib.hid rfl
        go_wp2_with fail
        go_loopw [29] (fun i wr => ∃ (j : Nat) (cur : List Int), i = .int .i64 j ∧ j ≤ s.floors.length ∧ cur.length = s.floors.length ∧ passes s k (s.floors.length - j) cur = lvls s (k + 1) ∧ Blk wr (w.heap.size + 1) (gcells cur) 3 ∧ Far (w.heap.size + 1) w1.heap.size w1 wr) (fun i _ => s.floors.length - (intOf i).toNat)
        case atStart => exact ⟨0, lvls s k, rfl, by omega, lvls_len OK.out k, HP.out, HBk.out, HF.out⟩
        case round =>
          obtain ⟨j, cur, rfl, hj, hcl, hps, hb, hf⟩ := hrel
          clear HBk HF HP c0 c1 c2 c3 c4
          have HBk := Lib.hid hb
          have HF := Lib.hid hf
          have HP := Lib.hid hps
          obtain ⟨c0, c1, c2, c3, c4⟩ := five (hf.blk HB1.out HB1.out.lt (by omega))
          clear hb hf hps
          by_cases hlt : j < s.floors.length
          · have q2 : (j : Int) < s.floors.length := by omega
            have HP2 : Hid (passes s k (s.floors.length - (j + 1)) (pass s k cur) = lvls s (k + 1)) := Lib.hid (by
              have h := HP.out
              rw [show s.floors.length - j = (s.floors.length - (j + 1)) + 1 by omega] at h
              exact h)
            go_wp2_with fail
            go_loopw [34] (fun i wr => ∃ (m : Nat) (cu : List Int), i = .int .i64 m ∧ m ≤ s.sills.length ∧ cu.length = s.floors.length ∧ (s.sills.drop m).foldl (rel2 s.floors k) cu = pass s k cur ∧ Blk wr (w.heap.size + 1) (gcells cu) 3 ∧ Far (w.heap.size + 1) w1.heap.size w1 wr) (fun i _ => s.sills.length - (intOf i).toNat)
            case atStart => exact ⟨0, cur, rfl, by omega, hcl, rfl, HBk.out, HF.out⟩
            case round =>
              obtain ⟨m, cu, rfl, hm, hul, hfo, hb, hf⟩ := hrel
              clear HBk HF HP c0 c1 c2 c3 c4
              have HBk := Lib.hid hb
              have HF := Lib.hid hf
              have HO := Lib.hid hfo
              obtain ⟨c0, c1, c2, c3, c4⟩ := five (hf.blk HB1.out HB1.out.lt (by omega))
              have lr := (HL.out.up (NF.out _ hf)).rs
              clear hb hf hfo
              by_cases hlm : m < s.sills.length
              · obtain ⟨gS, oS, rfl, d0, d1, d2⟩ := lr.triple m hlm
                have dl := cell_lt d0
                clear lr
                have q3 : (m : Int) < s.sills.length := by omega
                have HO2 : Hid ((s.sills.drop (m + 1)).foldl (rel2 s.floors k) (rel2 s.floors k cu s.sills[m]) = pass s k cur) := Lib.hid (by
                  have h := HO.out
                  rw [List.drop_eq_getElem_cons hlm, List.foldl_cons] at h
                  exact h)
                have EK := Lib.hid (EndOk.of OK.out (List.getElem_mem hlm))
                generalize hx : s.sills[m] = x at *
                obtain ⟨A, B, H⟩ := x
                dsimp only at d0 d1 d2
                clear hx HO
                go_wp2_with fail
                have ux : Up wr ((wr.alloc (.cells #[.int .i64 A, .int .i64 B, .int .i64 H] 97)).alloc (.cells #[.int .i64 A, .int .i64 B, .int .i64 H, .int .i64 B, .int .i64 A, .int .i64 H] 97)) := by (repeat (first | exact Below.refl _ _ | (with_reducible refine Below.drewN' ?_ _) | (with_reducible refine Below.drew ?_) | (with_reducible refine Below.setCell ?_ (by first | exact Nat.le_refl _ | omega | (with_reducible (repeat (first | refine sz_alloc ?_ | refine sz_setCell ?_ | refine sz_drew ?_ | refine sz_drewN ?_)); first | exact Nat.le_refl _ | omega) | (simp only [World.size_alloc, World.size_setCell, World.size_drew, size_drewN']; omega)) _) | (with_reducible refine Below.alloc ?_ (by first | exact Nat.le_refl _ | omega | (with_reducible (repeat (first | refine sz_alloc ?_ | refine sz_setCell ?_ | refine sz_drew ?_ | refine sz_drewN ?_)); first | exact Nat.le_refl _ | omega) | (simp only [World.size_alloc, World.size_setCell, World.size_drew, size_drewN']; omega)) _) | assumption))
                have R2 : Hid (RowBlk ((wr.alloc (.cells #[.int .i64 A, .int .i64 B, .int .i64 H] 97)).alloc (.cells #[.int .i64 A, .int .i64 B, .int .i64 H, .int .i64 B, .int .i64 A, .int .i64 H] 97)) (wr.heap.size + 1) 97 3 (triples [(A, B, H), (B, A, H)])) :=
                  Lib.hid (Blk.row 3 (triples_len _) (Blk.new' _ _ _ (by simp)))
                have HB2 := Lib.hid (HBk.out.up ux)
                have HF2 := Lib.hid (HF.out.trans (Far.of (ux.mono HF.out.size)))
                generalize hw2 : ((wr.alloc (.cells #[.int .i64 A, .int .i64 B, .int .i64 H] 97)).alloc (.cells #[.int .i64 A, .int .i64 B, .int .i64 H, .int .i64 B, .int .i64 A, .int .i64 H] 97)) = w2 at *
                have lw2 : wr.heap.size + 1 < w2.heap.size := R2.out.lt
                have lwr : w1.heap.size ≤ wr.heap.size := HF.out.size
                generalize wr.heap.size = Z at *
                have lB : w.heap.size < w1.heap.size := HB1.out.lt
                clear hw2 ux HBk HF d0 d1 d2 dl c0 c1 c2 c3 c4
                go_loopw [48] (fun i wr => ∃ (d : Nat) (cv : List Int), i = .int .i64 d ∧ d ≤ 2 ∧ cv.length = s.floors.length ∧ ([(A, B, H), (B, A, H)].drop d).foldl (rel1 s.floors k) cv = rel2 s.floors k cu (A, B, H) ∧ Blk wr (w.heap.size + 1) (gcells cv) 3 ∧ Far (w.heap.size + 1) w2.heap.size w2 wr) (fun i _ => 2 - (intOf i).toNat)
                case atStart => exact ⟨0, cu, rfl, by omega, hul, rfl, HB2.out, Far.refl _ _ _⟩
                case round =>
                  obtain ⟨d, cv, rfl, hd, hvl, hfo, hb, hf⟩ := hrel
                  have HBk := Lib.hid hb
                  have HF := Lib.hid hf
                  have HF1 := Lib.hid (HF2.out.trans (hf.mono (by omega)))
                  have HO := Lib.hid hfo
                  clear hb hf hfo
                  by_cases hld : d < 2
                  · have q4 : (d : Int) < 2 := by omega
                    have ey : ∃ yA yB, [(A, B, H), (B, A, H)][d]? = some (yA, yB, H) ∧ EndOk s.floors.length (yA, yB, H) := by
                      obtain rfl | rfl : d = 0 ∨ d = 1 := by omega
                      · exact ⟨A, B, rfl, EK.out⟩
                      · exact ⟨B, A, rfl, EK.out.turned⟩
                    obtain ⟨yA, yB, ey, he⟩ := ey
                    have HN : Hid (([(A, B, H), (B, A, H)].drop (d + 1)).foldl (rel1 s.floors k) (rel1 s.floors k cv (yA, yB, H)) = rel2 s.floors k cu (A, B, H)) := Lib.hid (by
                      have h := HO.out
                      obtain ⟨hdl, hde⟩ := List.getElem?_eq_some_iff.1 ey
                      rw [List.drop_eq_getElem_cons hdl, List.foldl_cons, hde] at h
                      exact h)
                    have r2 := R2.out.far HF.out lw2 (by omega)
                    have hrow : (triples [(A, B, H), (B, A, H)])[d]? = some [.int .i64 yA, .int .i64 yB, .int .i64 H] := by unfold triples; rw [List.getElem?_map, ey]; rfl
                    have d0 : wr.cell? ⟨Z + 1, d * 3, none⟩ = some (.int .i64 yA) := r2.cell (j := 0) hrow rfl
                    have d1 := r2.cell (j := 1) hrow rfl
                    have d2 := r2.cell (j := 2) hrow rfl
                    have dl := r2.lt
                    clear r2 hrow HO
                    obtain ⟨c0, c1, c2, c3, c4⟩ := five (HF1.out.blk HB1.out HB1.out.lt (by omega))
                    have lz := HF.out.size
                    have lb0 : w.heap.size < wr.heap.size := by omega
                    have lb1 : w.heap.size + 1 < wr.heap.size := HBk.out.lt
                    have Lw := Lib.hid (HL.out.up (NF.out _ HF1.out)).rf
                    by_cases h1 : H ≤ k
                    · by_cases h2 : yB = -1
                      · subst h2
                        go_wp2_with fail
                        go_roundw
                        case rel =>
                          refine ⟨d + 1, cv, by go_num, by omega, hvl, ?_, HBk.out.up (by (repeat (first | exact Below.refl _ _ | (with_reducible refine Below.drewN' ?_ _) | (with_reducible refine Below.drew ?_) | (with_reducible refine Below.setCell ?_ (by first | exact Nat.le_refl _ | omega | (with_reducible (repeat (first | refine sz_alloc ?_ | refine sz_setCell ?_ | refine sz_drew ?_ | refine sz_drewN ?_)); first | exact Nat.le_refl _ | omega) | (simp only [World.size_alloc, World.size_setCell, World.size_drew, size_drewN']; omega)) _) | (with_reducible refine Below.alloc ?_ (by first | exact Nat.le_refl _ | omega | (with_reducible (repeat (first | refine sz_alloc ?_ | refine sz_setCell ?_ | refine sz_drew ?_ | refine sz_drewN ?_)); first | exact Nat.le_refl _ | omega) | (simp only [World.size_alloc, World.size_setCell, World.size_drew, size_drewN']; omega)) _) | assumption))), HF.out.alloc (by omega) _⟩
                          have h := HN.out
                          rw [show rel1 s.floors k cv (yA, -1, H) = cv from if_neg (fun hc => hc.2.1 rfl)] at h
                          exact h
                        case measure => simp [intOf]; omega
                      · obtain ⟨b0, b1⟩ : 0 ≤ yB ∧ yB < s.floors.length := by rcases he.2.1 with e | e; exact absurd e h2; exact e
                        obtain ⟨b, rfl⟩ : ∃ b : Nat, yB = b := ⟨yB.toNat, by omega⟩
                        have hbl : b < s.floors.length := by omega
                        have x0 := rowInt Lw.out hbl
                        have xl := cell_lt x0
                        have y0 := gcell HBk.out (i := b) (by omega)
                        have yf := HBk.out.free
                        have h2' : ¬ ((b : Int) = -1) := h2
                        by_cases h3 : s.floors[b] ≤ k
                        · by_cases h4 : yA = -1
                          · subst h4
                            go_wp2_with fail
                            go_region
                            go_wp2_with fail
                            go_roundw
                            case rel =>
                              refine ⟨d + 1, cv.set b (min (cv[b]?.getD 0) k), by go_num, by omega, by rw [List.length_set]; exact hvl, ?_, ?_, ?_⟩
                              · have h := HN.out
                                rw [show rel1 s.floors k cv (-1, (b : Int), H) = cv.set b (min (cv[b]?.getD 0) k) from if_pos ⟨h1, h2, by simpa [List.getElem?_eq_getElem hbl] using h3, Or.inl rfl⟩] at h
                                exact h
                              · have hbv : b < cv.length := by omega
                                have e : (if (k : Int) < cv[b] then (k : Int) else cv[b]) = min (cv[b]?.getD 0) k := by
                                  rw [List.getElem?_eq_getElem hbv, Option.getD_some]
                                  split <;> omega
                                rw [e]
                                exact ((gset HBk.out b _).alloc _).drew
                              · exact ((HF.out.setIn b _).alloc (by rw [World.size_setCell]; omega) _).drew
                            case measure => simp [intOf]; omega
                          · obtain ⟨a0, a1⟩ : 0 ≤ yA ∧ yA < s.floors.length := by rcases he.1 with e | e; exact absurd e h4; exact e
                            obtain ⟨a, rfl⟩ : ∃ a : Nat, yA = a := ⟨yA.toNat, by omega⟩
                            have z0 := gcell HBk.out (i := a) (by omega)
                            have h4' : ¬ ((a : Int) = -1) := h4
                            by_cases h5 : cv[a]?.getD 0 ≤ k
                            · go_wp2_with fail
                              go_region
                              go_wp2_with fail
                              go_roundw
                              case rel =>
                                refine ⟨d + 1, cv.set b (min (cv[b]?.getD 0) k), by go_num, by omega, by rw [List.length_set]; exact hvl, ?_, ?_, ?_⟩
                                · have h := HN.out
                                  rw [show rel1 s.floors k cv ((a : Int), (b : Int), H) = cv.set b (min (cv[b]?.getD 0) k) from if_pos ⟨h1, h2, by simpa [List.getElem?_eq_getElem hbl] using h3, Or.inr h5⟩] at h
                                  exact h
                                · have hbv : b < cv.length := by omega
                                  have e : (if (k : Int) < cv[b] then (k : Int) else cv[b]) = min (cv[b]?.getD 0) k := by
                                    rw [List.getElem?_eq_getElem hbv, Option.getD_some]
                                    split <;> omega
                                  rw [e]
                                  exact ((gset HBk.out b _).alloc _).drew
                                · exact ((HF.out.setIn b _).alloc (by rw [World.size_setCell]; omega) _).drew
                              case measure => simp [intOf]; omega
                            · go_wp2_with fail
                              go_roundw
                              case rel =>
                                refine ⟨d + 1, cv, by go_num, by omega, hvl, ?_, HBk.out.up (by (repeat (first | exact Below.refl _ _ | (with_reducible refine Below.drewN' ?_ _) | (with_reducible refine Below.drew ?_) | (with_reducible refine Below.setCell ?_ (by first | exact Nat.le_refl _ | omega | (with_reducible (repeat (first | refine sz_alloc ?_ | refine sz_setCell ?_ | refine sz_drew ?_ | refine sz_drewN ?_)); first | exact Nat.le_refl _ | omega) | (simp only [World.size_alloc, World.size_setCell, World.size_drew, size_drewN']; omega)) _) | (with_reducible refine Below.alloc ?_ (by first | exact Nat.le_refl _ | omega | (with_reducible (repeat (first | refine sz_alloc ?_ | refine sz_setCell ?_ | refine sz_drew ?_ | refine sz_drewN ?_)); first | exact Nat.le_refl _ | omega) | (simp only [World.size_alloc, World.size_setCell, World.size_drew, size_drewN']; omega)) _) | assumption))), HF.out.alloc (by omega) _⟩
                                have h := HN.out
                                rw [show rel1 s.floors k cv ((a : Int), (b : Int), H) = cv from if_neg (fun hc => by rcases hc.2.2.2 with e | e; exact h4 e; exact h5 e)] at h
                                exact h
                              case measure => simp [intOf]; omega
                        · go_wp2_with fail
                          go_roundw
                          case rel =>
                            refine ⟨d + 1, cv, by go_num, by omega, hvl, ?_, HBk.out.up (by (repeat (first | exact Below.refl _ _ | (with_reducible refine Below.drewN' ?_ _) | (with_reducible refine Below.drew ?_) | (with_reducible refine Below.setCell ?_ (by first | exact Nat.le_refl _ | omega | (with_reducible (repeat (first | refine sz_alloc ?_ | refine sz_setCell ?_ | refine sz_drew ?_ | refine sz_drewN ?_)); first | exact Nat.le_refl _ | omega) | (simp only [World.size_alloc, World.size_setCell, World.size_drew, size_drewN']; omega)) _) | (with_reducible refine Below.alloc ?_ (by first | exact Nat.le_refl _ | omega | (with_reducible (repeat (first | refine sz_alloc ?_ | refine sz_setCell ?_ | refine sz_drew ?_ | refine sz_drewN ?_)); first | exact Nat.le_refl _ | omega) | (simp only [World.size_alloc, World.size_setCell, World.size_drew, size_drewN']; omega)) _) | assumption))), HF.out.alloc (by omega) _⟩
                            have h := HN.out
                            rw [show rel1 s.floors k cv (yA, (b : Int), H) = cv from if_neg (fun hc => h3 (by simpa [List.getElem?_eq_getElem hbl] using hc.2.2.1))] at h
                            exact h
                          case measure => simp [intOf]; omega
                    · go_wp2_with fail
                      go_roundw
                      case rel =>
                        refine ⟨d + 1, cv, by go_num, by omega, hvl, ?_, HBk.out.up (by (repeat (first | exact Below.refl _ _ | (with_reducible refine Below.drewN' ?_ _) | (with_reducible refine Below.drew ?_) | (with_reducible refine Below.setCell ?_ (by first | exact Nat.le_refl _ | omega | (with_reducible (repeat (first | refine sz_alloc ?_ | refine sz_setCell ?_ | refine sz_drew ?_ | refine sz_drewN ?_)); first | exact Nat.le_refl _ | omega) | (simp only [World.size_alloc, World.size_setCell, World.size_drew, size_drewN']; omega)) _) | (with_reducible refine Below.alloc ?_ (by first | exact Nat.le_refl _ | omega | (with_reducible (repeat (first | refine sz_alloc ?_ | refine sz_setCell ?_ | refine sz_drew ?_ | refine sz_drewN ?_)); first | exact Nat.le_refl _ | omega) | (simp only [World.size_alloc, World.size_setCell, World.size_drew, size_drewN']; omega)) _) | assumption))), HF.out.alloc (by omega) _⟩
                        have h := HN.out
                        rw [show rel1 s.floors k cv (yA, yB, H) = cv from if_neg (fun hc => h1 hc.1)] at h
                        exact h
                      case measure => simp [intOf]; omega
                  · obtain rfl : d = 2 := by omega
                    have e2 : cv = rel2 s.floors k cu (A, B, H) := HO.out
                    subst e2
                    go_wp2_with fail
                    go_roundw
                    case rel => exact ⟨m + 1, _, by go_num, by omega, hvl, HO2.out, HBk.out, HF1.out⟩
                    case measure => simp [intOf]; omega
              · obtain rfl : m = s.sills.length := by omega
                have e2 : cu = pass s k cur := by have h := HO.out; rw [List.drop_length] at h; exact h
                subst e2
                go_wp2_with fail
                go_roundw
                case rel => exact ⟨j + 1, _, by go_num, by omega, hul, HP2.out, HBk.out, HF.out⟩
                case measure => simp [intOf]; omega
          · obtain rfl : j = s.floors.length := by omega
            have e2 : cur = lvls s (k + 1) := by have h := HP.out; rw [Nat.sub_self] at h; exact h
            subst e2
            by_cases hk61 : k = 61
            · subst hk61
              go_wp2_with fail
              go_ret
              exact ⟨_, rfl, HBk.out, by omega, NF.out _ HF.out⟩
            · have hk60 : (k : Int) ≤ 60 := by omega
              go_wp2_with fail
              go_roundw
              case rel => exact ⟨k + 1, by go_num, by omega, HBk.out, HF.out⟩
              case measure => simp [intOf]; omega
end
end Go.Proofs.Ytcljkkojeleakaa
/- The law's own word whether a place is wet in a truth. -/
namespace Go.Proofs.Ytcljkkojeleakaa
open Go.RowKit Go.Shelf

section
variable {pT pF pS : Option Addr} {cT cF cS : Nat}
set_option maxRecDepth 100000 in
set_option maxHeartbeats 1000000 in
theorem wet_c (s : Sd) (m : Int) (p : Nat) (tr : Int) (G : List Int) (g cg : Nat) (w : World) (ok : Ok s) (hl : Lists w s pT pF pS cT cF cS) (hd : inDay s m = true) (hr : Row w (some ⟨g, 0, none⟩) 1 (ints G)) (hp : p < G.length) (h1 : -1000 ≤ tr) (h2 : tr ≤ 1000) :
    Calls Try.prog 57 #[sdVal s pT pF pS cT cF cS, .slice (some ⟨g, 0, none⟩) G.length cg, .int .i64 m, .int .i64 p, .int .i64 tr] w fun e w' => e = .returned (.bool (decide (G[p] < hgt s.table m + tr))) ∧ Up w w' := by
  obtain ⟨hm0, hm1⟩ : firstM s.table ≤ m ∧ m ≤ lastM s.table := inB_true.1 hd
  obtain ⟨r0, r1⟩ := hgt_rng ok.table m hm0
  have LN := Lib.hid (fun W (u : Up w W) => line_c s m W (hl.up u) ok.table hd)
  have RW := Lib.hid hr
  have q1 : (p : Int) < G.length := by omega
  have q0 : (0 : Int) ≤ p := by omega
  have sw : IntKind.i64.wrap (hgt s.table m + tr) = hgt s.table m + tr := IntWalk.i64_in _ (by omega)
  clear hl hr
  unfold sdVal
  go_enter Try.func57, Try.ntmps57
  go_wp2_with fail
  have HB : Hid (Blk (w.alloc (.cells #[.slice pT s.table.length cT, .int .i64 s.lo, .int .i64 s.hi, .slice pF s.floors.length cF, .slice pS s.sills.length cS] 28)) w.heap.size (sdCells s pT pF pS cT cF cS) 28) := Blk.new w (sdCells s pT pF pS cT cF cS) 28
  have U1 : Hid (Up w (w.alloc (.cells #[.slice pT s.table.length cT, .int .i64 s.lo, .int .i64 s.hi, .slice pF s.floors.length cF, .slice pS s.sills.length cS] 28))) := Lib.hid (by (repeat (first | exact Below.refl _ _ | (with_reducible refine Below.drewN' ?_ _) | (with_reducible refine Below.drew ?_) | (with_reducible refine Below.setCell ?_ (by first | exact Nat.le_refl _ | omega | (with_reducible (repeat (first | refine sz_alloc ?_ | refine sz_setCell ?_ | refine sz_drew ?_ | refine sz_drewN ?_)); first | exact Nat.le_refl _ | omega) | (simp only [World.size_alloc, World.size_setCell, World.size_drew, size_drewN']; omega)) _) | (with_reducible refine Below.alloc ?_ (by first | exact Nat.le_refl _ | omega | (with_reducible (repeat (first | refine sz_alloc ?_ | refine sz_setCell ?_ | refine sz_drew ?_ | refine sz_drewN ?_)); first | exact Nat.le_refl _ | omega) | (simp only [World.size_alloc, World.size_setCell, World.size_drew, size_drewN']; omega)) _) | assumption)))
  generalize (w.alloc (.cells #[.slice pT s.table.length cT, .int .i64 s.lo, .int .i64 s.hi, .slice pF s.floors.length cF, .slice pS s.sills.length cS] 28)) = w1 at *
  obtain ⟨c0, c1, c2, c3, c4⟩ := five HB.out
  have cg0 : w1.cell? ⟨g, p, none⟩ = some (.int .i64 G[p]) := by
    have := rowInt (RW.out.up U1.out) hp
    rwa [Nat.zero_add] at this
  refine region_tail (fun W' => W'.cell? ⟨w.heap.size, 0, none⟩ = some (.slice pT s.table.length cT) ∧ W'.cell? ⟨w.heap.size, 1, none⟩ = some (.int .i64 s.lo) ∧ W'.cell? ⟨w.heap.size, 2, none⟩ = some (.int .i64 s.hi) ∧ W'.cell? ⟨w.heap.size, 3, none⟩ = some (.slice pF s.floors.length cF) ∧ W'.cell? ⟨w.heap.size, 4, none⟩ = some (.slice pS s.sills.length cS) ∧ W'.cell? ⟨g, p, none⟩ = some (.int .i64 G[p])) 10 mixed (by kernel_rfl) ⟨c0, c1, c2, c3, c4, cg0⟩ (fun hHeld => ?_)
  refine wpAnyG_take 0 11 (v := ?_) rfl rfl (by kernel_rfl) (fun _ _ _ h => h) (Or.inl ⟨by rfl, ?_⟩) (by assumption) ?_
  rotate_left
  · (intro w' hSw; (try dsimp only at hSw); go_split_ands; go_simp; try with_reducible rfl)
  try simp only [List.setIfInBounds_toArray, List.set_cons_zero, List.set_cons_succ]
  refine wpAnyG_take 1 12 (v := ?_) rfl rfl (by kernel_rfl) (fun _ _ _ h => h) (Or.inl ⟨by rfl, ?_⟩) (by assumption) ?_
  rotate_left
  · (intro w' hSw; (try dsimp only at hSw); go_split_ands; go_simp; try with_reducible rfl)
  try simp only [List.setIfInBounds_toArray, List.set_cons_zero, List.set_cons_succ]
  refine wpAnyG_take 3 14 (v := ?_) rfl rfl (by kernel_rfl) (fun _ _ _ h => h) (Or.inl ⟨by rfl, ?_⟩) (by assumption) ?_
  rotate_left
  · (intro w' hSw; (try dsimp only at hSw); go_split_ands; go_simp; try with_reducible rfl)
  try simp only [List.setIfInBounds_toArray, List.set_cons_zero, List.set_cons_succ]
  refine wpAnyG_take 5 16 (v := ?_) rfl rfl (by kernel_rfl) (fun _ _ _ h => h) (Or.inl ⟨by rfl, ?_⟩) (by assumption) ?_
  rotate_left
  · (intro w' hSw; (try dsimp only at hSw); go_split_ands; go_simp; try with_reducible rfl)
  try simp only [List.setIfInBounds_toArray, List.set_cons_zero, List.set_cons_succ]
  refine wpAnyG_take 6 17 (v := ?_) rfl rfl (by kernel_rfl) (fun _ _ _ h => h) (Or.inl ⟨by rfl, ?_⟩) (by assumption) ?_
  rotate_left
  · (intro w' hSw; (try dsimp only at hSw); go_split_ands; go_simp; try with_reducible rfl)
  try simp only [List.setIfInBounds_toArray, List.set_cons_zero, List.set_cons_succ]
  refine wpAnyG_take 7 18 (v := ?_) rfl rfl (by kernel_rfl) (fun _ _ _ h => h) (Or.inl ⟨by rfl, ?_⟩) (by assumption) ?_
  rotate_left
  · (intro w' hSw; (try dsimp only at hSw); go_split_ands; go_simp; try with_reducible rfl)
  try simp only [List.setIfInBounds_toArray, List.set_cons_zero, List.set_cons_succ]
  refine wpAnyG_take 8 19 (v := ?_) rfl rfl (by kernel_rfl) (fun _ _ _ h => h) (Or.inl ⟨by rfl, ?_⟩) (by assumption) ?_
  rotate_left
  · (intro w' hSw; (try dsimp only at hSw); go_split_ands; go_simp; try with_reducible rfl)
  try simp only [List.setIfInBounds_toArray, List.set_cons_zero, List.set_cons_succ]
  refine wpAnyG_do 2 rfl (by kernel_rfl) (fun K hK => ?_)
  rw [if_pos (by rfl)]
  go_simp
  refine (LN.out _ (Up.trans U1.out ((Below.refl _ _).drew))).mono ?_
  rintro e w2 ⟨rfl, v2⟩
  have v2' : Up w1 w2 := Up.trans ((Below.refl _ _).drew) v2
  refine hK.out _ _ ⟨v2'.cellAt c0, v2'.cellAt c1, v2'.cellAt c2, v2'.cellAt c3, v2'.cellAt c4, v2'.cellAt cg0⟩ (fun hHeld => ?_)
  clear hK K
  refine wpAnyG_take 4 15 (v := ?_) rfl rfl (by kernel_rfl) (fun _ _ _ h => h) (Or.inl ⟨by rfl, ?_⟩) (by assumption) ?_
  rotate_left
  · (intro w' hSw; (try dsimp only at hSw); go_split_ands; go_simp; try with_reducible rfl)
  try simp only [List.setIfInBounds_toArray, List.set_cons_zero, List.set_cons_succ]
  refine wpAnyG_take 9 20 (v := ?_) rfl rfl (by kernel_rfl) (fun _ _ _ h => h) (Or.inl ⟨by rfl, ?_⟩) (by assumption) ?_
  rotate_left
  · (intro w' hSw; (try dsimp only at hSw); go_split_ands; go_simp; try with_reducible rfl)
  try simp only [List.setIfInBounds_toArray, List.set_cons_zero, List.set_cons_succ]
  refine wpAnyG_tail (by kernel_rfl) ?_
  have U2 := Lib.hid (Up.trans U1.out v2')
  clear v2 v2' hHeld c0 c1 c2 c3 c4 cg0
  change wpList _ _ _ [_] _ _
  go_wp2_with fail
  go_ret
  exact ⟨rfl, U2.out⟩
end
end Go.Proofs.Ytcljkkojeleakaa
/- The law's own looks, each true in a truth. -/
namespace Go.Proofs.Ytcljkkojeleakaa
open Go.RowKit Go.Shelf

/-- a look that is true in a truth, by given gates -/
def LookIs (s : Sd) (G : List Int) (tr : Int) (x : Lk) : Prop := inDay s x.1 = true ∧ ∃ p : Nat, x.2.1 = p ∧ p < s.floors.length ∧ x.2.2 = decide (G[p]?.getD 0 < hgt s.table x.1 + tr)
theorem wet_n {pT pF pS : Option Addr} {cT cF cS : Nat} (s : Sd) (m : Int) (p : Nat) (tr : Int) (G : List Int) (n : Nat) (hn : G.length = n) (g cg : Nat) (w : World) (ok : Ok s) (hl : Lists w s pT pF pS cT cF cS) (hd : inDay s m = true) (hr : Row w (some ⟨g, 0, none⟩) 1 (ints G)) (hp : p < n) (h1 : -1000 ≤ tr) (h2 : tr ≤ 1000) :
    Calls Try.prog 57 #[sdVal s pT pF pS cT cF cS, .slice (some ⟨g, 0, none⟩) n cg, .int .i64 m, .int .i64 p, .int .i64 tr] w fun e w' => e = .returned (.bool (decide (G[p]?.getD 0 < hgt s.table m + tr))) ∧ Up w w' := by
  subst hn
  have := wet_c s m p tr G g cg w ok hl hd hr hp h1 h2
  rwa [show G[p] = G[p]?.getD 0 by rw [List.getElem?_eq_getElem hp]; rfl] at this
theorem infoL : (Try.prog.info? 80).map (fun i => (i.zero, i.size, i.bytes)) = some (some (.agg #[.int .i64 0, .int .i64 0, .bool false]), 3, 24) := by kernel_rfl
theorem listsFar {w w' : World} {s : Sd} {pT pF pS : Option Addr} {cT cF cS hb n : Nat} (h : Lists w s pT pF pS cT cF cS) (hx : (0 < s.table.length → ∀ b off, pT = some ⟨b, off, none⟩ → b ≠ hb) ∧ (0 < s.floors.length → ∀ b off, pF = some ⟨b, off, none⟩ → b ≠ hb) ∧ (0 < s.sills.length → ∀ b off, pS = some ⟨b, off, none⟩ → b ≠ hb)) (hf : Far hb n w w') (hn : w.heap.size ≤ n) : Lists w' s pT pF pS cT cF cS :=
  ⟨hf.row h.rt (fun h0 b off e => ⟨by have := h.rt.lt (pairs_pos _) h0 e; omega, hx.1 (by simpa [pairs] using h0) b off e⟩), hf.row h.rf (fun h0 b off e => ⟨by have := h.rf.lt (ints_pos _) h0 e; omega, hx.2.1 (by simpa [ints] using h0) b off e⟩), hf.row h.rs (fun h0 b off e => ⟨by have := h.rs.lt (triples_pos _) h0 e; omega, hx.2.2 (by simpa [triples] using h0) b off e⟩), h.ct, h.cf, h.cs, h.mt, h.mf, h.ms⟩
/-- what the statement that makes a look makes, operation by operation -/
def LkP (s : Sd) (hb B n0 : Nat) (val fl : Value) : Nat → Value → Prop
  | 0, v => v = .pointer (some ⟨hb, 0, none⟩)
  | 1, v => v = val
  | 2, v => v = .int .i64 (firstM s.table)
  | 3, v => v = val
  | 4, v => v = .int .i64 (lastM s.table)
  | 5, v => ∃ m : Int, v = .int .i64 m ∧ firstM s.table ≤ m ∧ m ≤ lastM s.table
  | 6, v => v = .pointer (some ⟨hb, 0, none⟩)
  | 7, v => v = .pointer (some ⟨B, 3, none⟩)
  | 8, v => v = fl
  | 9, v => v = .int .i64 s.floors.length
  | 10, v => v = .int .i64 ((s.floors.length : Int) - 1)
  | 11, v => ∃ q : Nat, v = .int .i64 q ∧ q < s.floors.length
  | 12, v => ∃ (m : Int) (q : Nat), v = .agg #[.int .i64 m, .int .i64 q, .bool false] ∧ firstM s.table ≤ m ∧ m ≤ lastM s.table ∧ q < s.floors.length
  | 13, v => ∃ X : Nat, v = .pointer (some ⟨X, 0, none⟩) ∧ n0 ≤ X
  | _, _ => True
section
variable {pT pF pS : Option Addr} {cT cF cS : Nat} {pB : Option Addr} {cB : Nat} {lB : List Int}
set_option maxRecDepth 100000 in
set_option maxHeartbeats 1000000 in
theorem looked_c (hb : Nat) (s : Sd) (G : List Int) (g cg : Nat) (tr most : Int) (w : World) (ok : Ok s) (h : HeapAt w hb pB cB lB) (ha : Apart pB hb w.heap.size lB) (hlB : lB.length ≤ 140737488355328) (hl : Lists w s pT pF pS cT cF cS)
    (hx : (0 < s.table.length → ∀ b off, pT = some ⟨b, off, none⟩ → b ≠ hb) ∧ (0 < s.floors.length → ∀ b off, pF = some ⟨b, off, none⟩ → b ≠ hb) ∧ (0 < s.sills.length → ∀ b off, pS = some ⟨b, off, none⟩ → b ≠ hb)) (hg : g ≠ hb) (hr : Row w (some ⟨g, 0, none⟩) 1 (ints G)) (hG : G.length = s.floors.length) (t1 : -1000 ≤ tr) (t2 : tr ≤ 1000) (m0 : 0 ≤ most) (m1 : most ≤ 100) :
    Calls Try.prog 53 #[.pointer (some ⟨hb, 0, none⟩), sdVal s pT pF pS cT cF cS, .slice (some ⟨g, 0, none⟩) G.length cg, .int .i64 tr, .int .i64 most] w fun e w' => ∃ lk pL cL, e = .returned (.slice pL (lk : List Lk).length cL) ∧ (lk.length : Int) ≤ most ∧ Row w' pL 3 (lrows lk) ∧ (∀ x ∈ lk, LookIs s G tr x) ∧ HeapAt w' hb pB cB lB ∧ Far hb w.heap.size w w' := by
  have OK := Lib.hid ok
  have HA := Lib.hid ha
  have HL := Lib.hid hl
  have HR := Lib.hid hr
  have HX := Lib.hid hx
  have HH := Lib.hid h
  have hbw : hb < w.heap.size := by obtain ⟨k, r, hB, -⟩ := h; exact hB.lt
  have f0 := ok.fl0
  have f8 := ok.fl1
  obtain ⟨d0, d1, d2⟩ := firstM_lt ok.table
  clear ok ha hl hr hx h
  unfold sdVal
  go_enter Try.func53, Try.ntmps53
  go_wp2_with fail
  have HB1 : Hid (Blk (w.alloc (.cells #[.slice pT s.table.length cT, .int .i64 s.lo, .int .i64 s.hi, .slice pF s.floors.length cF, .slice pS s.sills.length cS] 28)) w.heap.size (sdCells s pT pF pS cT cF cS) 28) := Blk.new w (sdCells s pT pF pS cT cF cS) 28
  have u1 : Up w (w.alloc (.cells #[.slice pT s.table.length cT, .int .i64 s.lo, .int .i64 s.hi, .slice pF s.floors.length cF, .slice pS s.sills.length cS] 28)) := by (repeat (first | exact Below.refl _ _ | (with_reducible refine Below.drewN' ?_ _) | (with_reducible refine Below.drew ?_) | (with_reducible refine Below.setCell ?_ (by first | exact Nat.le_refl _ | omega | (with_reducible (repeat (first | refine sz_alloc ?_ | refine sz_setCell ?_ | refine sz_drew ?_ | refine sz_drewN ?_)); first | exact Nat.le_refl _ | omega) | (simp only [World.size_alloc, World.size_setCell, World.size_drew, size_drewN']; omega)) _) | (with_reducible refine Below.alloc ?_ (by first | exact Nat.le_refl _ | omega | (with_reducible (repeat (first | refine sz_alloc ?_ | refine sz_setCell ?_ | refine sz_drew ?_ | refine sz_drewN ?_)); first | exact Nat.le_refl _ | omega) | (simp only [World.size_alloc, World.size_setCell, World.size_drew, size_drewN']; omega)) _) | assumption))
  have U1 := Lib.hid u1
  have HL1 := Lib.hid (HL.out.up u1)
  have HR1 := Lib.hid (HR.out.up u1)
  have HH1 := Lib.hid (HH.out.up u1)
  have HA1 := Lib.hid (HA.out.mono u1.size)
  clear u1 HL HR HH HA
  generalize (w.alloc (.cells #[.slice pT s.table.length cT, .int .i64 s.lo, .int .i64 s.hi, .slice pF s.floors.length cF, .slice pS s.sills.length cS] 28)) = w1 at *
  have l1 := HB1.out.lt
  refine (upto_c hb pB cB lB most w1 HH1.out HA1.out hlB (by omega) (by omega)).mono ?_
  rintro e w2 ⟨nv, ⟨y0, y1, -⟩, rfl, g2, f2⟩
  have y1' := y1 m0
  obtain ⟨N, rfl⟩ : ∃ N : Nat, nv = N := ⟨nv.toNat, by omega⟩
  have HH2 := Lib.hid g2
  have HF2 := Lib.hid f2
  clear g2 f2 y1 HH1
  go_wp2_with fail
  go_loopw [16, 11] (fun i v wr => ∃ (k : Nat) (lk : List Lk), i = .int .i64 k ∧ k ≤ N ∧ lk.length = k ∧ (∀ x ∈ lk, LookIs s G tr x) ∧ wr.ownsRow w1.heap.size 80 3 v k (lrows lk).flatten ∧ HeapAt wr hb pB cB lB ∧ Far hb w1.heap.size w1 wr) (fun i _ _ => N - (intOf i).toNat)
  case atStart => exact ⟨0, [], rfl, by omega, rfl, by simp, ⟨rfl, .inl ⟨rfl, rfl⟩⟩, HH2.out, HF2.out⟩
  case round =>
    obtain ⟨k, lk, rfl, hk, hlen, hlk, hown, hh, hf⟩ := hrel
    have HO := Lib.hid hown
    have HF := Lib.hid hf
    have HHr := Lib.hid hh
    have HLK := Lib.hid hlk
    clear hown hf hh hlk
    by_cases hlt : k < N
    · have q1 : (k : Int) < (N : Int) := by omega
      go_wp2_with fail
      have ew : w1.heap.size ≤ wr.heap.size := HF.out.size
      have sn : IntKind.i64.wrap ((s.floors.length : Int) - 1) = (s.floors.length : Int) - 1 := IntWalk.i64_in _ (by omega)
      refine region_inv 14 (fun done a W => ∃ V : Nat → Value, a = ⟨#[.pointer (some ⟨hb, 0, none⟩), .agg #[.slice pT s.table.length cT, .int .i64 s.lo, .int .i64 s.hi, .slice pF s.floors.length cF, .slice pS s.sills.length cS], .slice (some ⟨g, 0, none⟩) s.floors.length cg, .int .i64 tr, .int .i64 most, undef, .pointer (some ⟨w.heap.size, 0, none⟩), undef, undef, undef, .slice none 0 0, u11, V 13, .pointer (some ⟨hb, 0, none⟩), .int .i64 most, .int .i64 N, .int .i64 k, .bool true, V 0, V 1, V 2, V 3, V 4, V 5, V 6, V 7, V 8, V 9, V 10, V 11, V 12, u31, u32, u33, u34, u35, u36, u37, u38, u39, u40, u41, u42, u43, u44, undef], []⟩ ∧ (∀ i, done i = true → LkP s hb w.heap.size w1.heap.size (.agg #[.slice pT s.table.length cT, .int .i64 s.lo, .int .i64 s.hi, .slice pF s.floors.length cF, .slice pS s.sills.length cS]) (.slice pF s.floors.length cF) i (V i)) ∧ W.ownsRow w1.heap.size 80 3 u11 k (lrows lk).flatten ∧ HeapAt W hb pB cB lB ∧ Far hb w1.heap.size w1 W ∧ wr.heap.size ≤ W.heap.size ∧ (done 13 = true → ∃ X, V 13 = .pointer (some ⟨X, 0, none⟩) ∧ wr.heap.size ≤ X ∧ Blk W X [.int .i64 0, .int .i64 0, .bool false] 80)) mixed (by kernel_rfl) ?_ ?_ ?_
      · exact ⟨fun i => if i = 0 then u18 else if i = 1 then u19 else if i = 2 then u20 else if i = 3 then u21 else if i = 4 then u22 else if i = 5 then u23 else if i = 6 then u24 else if i = 7 then u25 else if i = 8 then u26 else if i = 9 then u27 else if i = 10 then u28 else if i = 11 then u29 else if i = 12 then u30 else u12, rfl, (fun i h => by cases h), HO.out, HHr.out, HF.out.drew, Nat.le_refl _, (fun h => by cases h)⟩
      · intro done a W i o hi hd ho hall hinv
        obtain ⟨V, rfl, hv, ho', hh', hf', hs', hx'⟩ := hinv
        have ltb : hb < w1.heap.size := by omega
        obtain ⟨c0, c1, c2, c3, c4⟩ := five (hf'.blk HB1.out l1 (by omega))
        have LW := Lib.hid (listsFar HL1.out HX.out hf' (Nat.le_refl _))
        have HV := Lib.hid hv
        have HOw := Lib.hid ho'
        have HHw := Lib.hid hh'
        have HFw := Lib.hid hf'
        have HXw := Lib.hid hx'
        have HD := Lib.hid hd
        obtain rfl | rfl | rfl | rfl | rfl | rfl | rfl | rfl | rfl | rfl | rfl | rfl | rfl | rfl : i = 0 ∨ i = 1 ∨ i = 2 ∨ i = 3 ∨ i = 4 ∨ i = 5 ∨ i = 6 ∨ i = 7 ∨ i = 8 ∨ i = 9 ∨ i = 10 ∨ i = 11 ∨ i = 12 ∨ i = 13 := by omega
        · clear hall
          clear ho hv ho' hh' hf' hx' hd
          refine wpOp_step rfl (fun K hK => ?_)
          rw [if_pos (by rfl)]
          have HK := Lib.hid hK
          clear hK
          go_simp
          exact HK.out _ _ ⟨fun k => if k = 0 then .pointer (some ⟨hb, 0, none⟩) else V k, rfl, facts_upd HV.out rfl, HOw.out, HHw.out, HFw.out, hs', fun h => HXw.out (by simpa [upd] using h)⟩
        · clear hall
          clear ho hv ho' hh' hf' hx' hd
          refine wpOp_step rfl (fun K hK => ?_)
          rw [if_pos (by rfl)]
          have HK := Lib.hid hK
          clear hK
          go_simp
          exact HK.out _ _ ⟨fun k => if k = 1 then .agg #[.slice pT s.table.length cT, .int .i64 s.lo, .int .i64 s.hi, .slice pF s.floors.length cF, .slice pS s.sills.length cS] else V k, rfl, facts_upd HV.out rfl, HOw.out, HHw.out, HFw.out, hs', fun h => HXw.out (by simpa [upd] using h)⟩
        · have e1 : V 1 = _ := hv 1 (hall ⟨1, .data⟩ (by cases ho; simp) rfl)
          clear ho hv ho' hh' hf' hx' hd hall
          refine wpOp_step rfl (fun K hK => ?_)
          rw [if_pos (by rfl)]
          have HK := Lib.hid hK
          clear hK
          go_simp
          refine (firstL_c s W LW.out OK.out.table.2.2.1).mono ?_
          rintro e w3 ⟨rfl, u3⟩
          exact HK.out _ _ ⟨fun k => if k = 2 then .int .i64 (firstM s.table) else V k, (by simp only [e1]; rfl), facts_upd HV.out rfl, ownsRow_up HOw.out u3, HHw.out.up u3, HFw.out.trans (Far.of (u3.mono (HFw.out.size))), Nat.le_trans hs' u3.size, fun h => (by obtain ⟨X, h1, h2, h3⟩ := HXw.out (by simpa [upd] using h); exact ⟨X, h1, h2, h3.up u3⟩)⟩
        · clear hall
          clear ho hv ho' hh' hf' hx' hd
          refine wpOp_step rfl (fun K hK => ?_)
          rw [if_pos (by rfl)]
          have HK := Lib.hid hK
          clear hK
          go_simp
          exact HK.out _ _ ⟨fun k => if k = 3 then .agg #[.slice pT s.table.length cT, .int .i64 s.lo, .int .i64 s.hi, .slice pF s.floors.length cF, .slice pS s.sills.length cS] else V k, rfl, facts_upd HV.out rfl, HOw.out, HHw.out, HFw.out, hs', fun h => HXw.out (by simpa [upd] using h)⟩
        · have e3 : V 3 = _ := hv 3 (hall ⟨3, .data⟩ (by cases ho; simp) rfl)
          clear ho hv ho' hh' hf' hx' hd hall
          refine wpOp_step rfl (fun K hK => ?_)
          rw [if_pos (by rfl)]
          have HK := Lib.hid hK
          clear hK
          go_simp
          refine (lastL_c s W LW.out OK.out.table.2.2.1 OK.out.table.2.2.2).mono ?_
          rintro e w3 ⟨rfl, u3⟩
          exact HK.out _ _ ⟨fun k => if k = 4 then .int .i64 (lastM s.table) else V k, (by simp only [e3]; rfl), facts_upd HV.out rfl, ownsRow_up HOw.out u3, HHw.out.up u3, HFw.out.trans (Far.of (u3.mono (HFw.out.size))), Nat.le_trans hs' u3.size, fun h => (by obtain ⟨X, h1, h2, h3⟩ := HXw.out (by simpa [upd] using h); exact ⟨X, h1, h2, h3.up u3⟩)⟩
        · have e0 : V 0 = _ := hv 0 (hall ⟨0, .data⟩ (by cases ho; simp) rfl)
          have e2 : V 2 = _ := hv 2 (hall ⟨2, .data⟩ (by cases ho; simp) rfl)
          have e4 : V 4 = _ := hv 4 (hall ⟨4, .data⟩ (by cases ho; simp) rfl)
          clear ho hv ho' hh' hf' hx' hd hall
          refine wpOp_step rfl (fun K hK => ?_)
          rw [if_pos (by rfl)]
          have HK := Lib.hid hK
          clear hK
          go_simp
          refine (from_c hb pB cB lB (firstM s.table) (lastM s.table) W HHw.out (HA1.out.mono HFw.out.size) hlB (by omega) (by omega) (by omega) (by omega)).mono ?_
          rintro e w3 ⟨m, ⟨m1', m2', -⟩, rfl, g3, f3⟩
          exact HK.out _ _ ⟨fun k => if k = 5 then .int .i64 m else V k, (by simp only [e0, e2, e4]; rfl), facts_upd HV.out ⟨m, rfl, m1', m2' (by omega)⟩, f3.own HOw.out (by omega), g3, HFw.out.trans (f3.mono HFw.out.size), Nat.le_trans hs' f3.size, fun h => (by obtain ⟨X, h1, h2, h3⟩ := HXw.out (by simpa [upd] using h); exact ⟨X, h1, h2, f3.blk h3 h3.lt (by omega)⟩)⟩
        · clear hall
          clear ho hv ho' hh' hf' hx' hd
          refine wpOp_step rfl (fun K hK => ?_)
          rw [if_pos (by rfl)]
          have HK := Lib.hid hK
          clear hK
          go_simp
          exact HK.out _ _ ⟨fun k => if k = 6 then .pointer (some ⟨hb, 0, none⟩) else V k, rfl, facts_upd HV.out rfl, HOw.out, HHw.out, HFw.out, hs', fun h => HXw.out (by simpa [upd] using h)⟩
        · clear hall
          clear ho hv ho' hh' hf' hx' hd
          refine wpOp_step rfl (fun K hK => ?_)
          rw [if_pos (by rfl)]
          have HK := Lib.hid hK
          clear hK
          go_simp
          exact HK.out _ _ ⟨fun k => if k = 7 then .pointer (some ⟨w.heap.size, 3, none⟩) else V k, rfl, facts_upd HV.out rfl, HOw.out, HHw.out, HFw.out, hs', fun h => HXw.out (by simpa [upd] using h)⟩
        · have e7 : V 7 = _ := hv 7 (hall ⟨7, .data⟩ (by cases ho; simp) rfl)
          clear ho hv ho' hh' hf' hx' hd hall
          refine wpOp_step rfl (fun K hK => ?_)
          rw [if_pos (by rfl)]
          have HK := Lib.hid hK
          clear hK
          go_simp
          exact HK.out _ _ ⟨fun k => if k = 8 then .slice pF s.floors.length cF else V k, (by simp only [e7]; rfl), facts_upd HV.out rfl, HOw.out, HHw.out, HFw.out, hs', fun h => HXw.out (by simpa [upd] using h)⟩
        · have e8 : V 8 = _ := hv 8 (hall ⟨8, .data⟩ (by cases ho; simp) rfl)
          clear ho hv ho' hh' hf' hx' hd hall
          refine wpOp_step rfl (fun K hK => ?_)
          rw [if_pos (by rfl)]
          have HK := Lib.hid hK
          clear hK
          go_simp
          exact HK.out _ _ ⟨fun k => if k = 9 then .int .i64 s.floors.length else V k, (by simp only [e8]; rfl), facts_upd HV.out rfl, HOw.out, HHw.out, HFw.out, hs', fun h => HXw.out (by simpa [upd] using h)⟩
        · have e9 : V 9 = _ := hv 9 (hall ⟨9, .data⟩ (by cases ho; simp) rfl)
          clear ho hv ho' hh' hf' hx' hd hall
          refine wpOp_step rfl (fun K hK => ?_)
          rw [if_pos (by rfl)]
          have HK := Lib.hid hK
          clear hK
          go_simp
          exact HK.out _ _ ⟨fun k => if k = 10 then .int .i64 ((s.floors.length : Int) - 1) else V k, (by simp only [e9, sn]; rfl), facts_upd HV.out rfl, HOw.out, HHw.out, HFw.out, hs', fun h => HXw.out (by simpa [upd] using h)⟩
        · have e6 : V 6 = _ := hv 6 (hall ⟨6, .data⟩ (by cases ho; simp) rfl)
          have e10 : V 10 = _ := hv 10 (hall ⟨10, .data⟩ (by cases ho; simp) rfl)
          clear ho hv ho' hh' hf' hx' hd hall
          refine wpOp_step rfl (fun K hK => ?_)
          rw [if_pos (by rfl)]
          have HK := Lib.hid hK
          clear hK
          go_simp
          refine (upto_c hb pB cB lB ((s.floors.length : Int) - 1) W HHw.out (HA1.out.mono HFw.out.size) hlB (by omega) (by omega)).mono ?_
          rintro e w3 ⟨m, ⟨m1', m2', -⟩, rfl, g3, f3⟩
          have m3' := m2' (by omega)
          obtain ⟨q, rfl⟩ : ∃ q : Nat, m = q := ⟨m.toNat, by omega⟩
          exact HK.out _ _ ⟨fun k => if k = 11 then .int .i64 q else V k, (by simp only [e6, e10]; rfl), facts_upd HV.out ⟨q, rfl, by omega⟩, f3.own HOw.out (by omega), g3, HFw.out.trans (f3.mono HFw.out.size), Nat.le_trans hs' f3.size, fun h => (by obtain ⟨X, h1, h2, h3⟩ := HXw.out (by simpa [upd] using h); exact ⟨X, h1, h2, f3.blk h3 h3.lt (by omega)⟩)⟩
        · obtain ⟨m, e5, m1', m2'⟩ := hv 5 (hall ⟨5, .data⟩ (by cases ho; simp) rfl)
          obtain ⟨q, e11, q1'⟩ := hv 11 (hall ⟨11, .data⟩ (by cases ho; simp) rfl)
          clear ho hv ho' hh' hf' hx' hd hall
          refine wpOp_step rfl (fun K hK => ?_)
          rw [if_pos (by rfl)]
          have HK := Lib.hid hK
          clear hK
          go_simp
          exact HK.out _ _ ⟨fun k => if k = 12 then .agg #[.int .i64 m, .int .i64 q, .bool false] else V k, (by simp only [e5, e11]; rfl), facts_upd HV.out ⟨m, q, rfl, m1', m2', q1'⟩, HOw.out, HHw.out, HFw.out, hs', fun h => HXw.out (by simpa [upd] using h)⟩
        · clear hall
          clear ho hv ho' hh' hf' hx' hd
          refine wpOp_step rfl (fun K hK => ?_)
          rw [if_pos (by rfl)]
          have HK := Lib.hid hK
          clear hK
          go_simp
          have u3 : Up W (W.alloc (.cells #[.int .i64 0, .int .i64 0, .bool false] 80)) := by (repeat (first | exact Below.refl _ _ | (with_reducible refine Below.drewN' ?_ _) | (with_reducible refine Below.drew ?_) | (with_reducible refine Below.setCell ?_ (by first | exact Nat.le_refl _ | omega | (with_reducible (repeat (first | refine sz_alloc ?_ | refine sz_setCell ?_ | refine sz_drew ?_ | refine sz_drewN ?_)); first | exact Nat.le_refl _ | omega) | (simp only [World.size_alloc, World.size_setCell, World.size_drew, size_drewN']; omega)) _) | (with_reducible refine Below.alloc ?_ (by first | exact Nat.le_refl _ | omega | (with_reducible (repeat (first | refine sz_alloc ?_ | refine sz_setCell ?_ | refine sz_drew ?_ | refine sz_drewN ?_)); first | exact Nat.le_refl _ | omega) | (simp only [World.size_alloc, World.size_setCell, World.size_drew, size_drewN']; omega)) _) | assumption))
          exact HK.out _ _ ⟨fun k => if k = 13 then .pointer (some ⟨W.heap.size, 0, none⟩) else V k, rfl, facts_upd HV.out ⟨_, rfl, HFw.out.size⟩, ownsRow_up HOw.out u3, HHw.out.up u3, HFw.out.trans (Far.of (u3.mono (HFw.out.size))), Nat.le_trans hs' u3.size, fun _ => ⟨_, rfl, hs', Blk.new W [.int .i64 0, .int .i64 0, .bool false] _⟩⟩
      · rintro a W ⟨V, rfl, hv, ho', hh', hf', hs', hx'⟩
        obtain ⟨X, e13, x1, x2⟩ := hx' rfl
        obtain ⟨m, q, e12, m1', m2', q1'⟩ := hv 12 rfl
        rw [e12, e13]
        change wpList _ _ _ [_] _ _
        have x3 := ((x2.set 0 (.int .i64 m)).set 1 (.int .i64 q)).set 2 (.bool false)
        simp only [List.set_cons_zero, List.set_cons_succ] at x3
        have f3 : Far hb w1.heap.size w1 (((W.setCell ⟨X, 0, none⟩ (.int .i64 m)).setCell ⟨X, 1, none⟩ (.int .i64 q)).setCell ⟨X, 2, none⟩ (.bool false)) := ((hf'.setNew (a := ⟨X, 0, none⟩) (by simp only; omega) _).setNew (a := ⟨X, 1, none⟩) (by simp only; omega) _).setNew (a := ⟨X, 2, none⟩) (by simp only; omega) _
        have nX : u11.ownBlock ≠ some X := fun e => by have := (HO.out.lt X e).2; omega
        have o3 : (((W.setCell ⟨X, 0, none⟩ (.int .i64 m)).setCell ⟨X, 1, none⟩ (.int .i64 q)).setCell ⟨X, 2, none⟩ (.bool false)).ownsRow w1.heap.size 80 3 u11 k (lrows lk).flatten := ownsRow_setCell_other (ownsRow_setCell_other (ownsRow_setCell_other ho' (a := ⟨X, 0, none⟩) nX _) (a := ⟨X, 1, none⟩) nX _) (a := ⟨X, 2, none⟩) nX _
        have h3 : HeapAt (((W.setCell ⟨X, 0, none⟩ (.int .i64 m)).setCell ⟨X, 1, none⟩ (.int .i64 q)).setCell ⟨X, 2, none⟩ (.bool false)) hb pB cB lB := by
          have b3 : Below w1.heap.size W (((W.setCell ⟨X, 0, none⟩ (.int .i64 m)).setCell ⟨X, 1, none⟩ (.int .i64 q)).setCell ⟨X, 2, none⟩ (.bool false)) := (((Below.refl _ _).setCell (p := ⟨X, 0, none⟩) (by simp only; omega) _).setCell (p := ⟨X, 1, none⟩) (by simp only; omega) _).setCell (p := ⟨X, 2, none⟩) (by simp only; omega) _
          exact hh'.below b3 (by omega) HA1.out
        have xc0 := x2.cell 0
        have xc1 := x2.cell 1
        have xc2 := x2.cell 2
        have xf := x2.free
        have xl := x2.lt
        have X3 := Lib.hid x3
        have F3 := Lib.hid f3
        have O3 := Lib.hid o3
        have H3 := Lib.hid h3
        clear hv ho' hh' hf' hs' hx' x3 f3 o3 h3 x2 e12 e13 HHr
        simp only [List.getElem?_cons_zero, List.getElem?_cons_succ] at xc0 xc1 xc2
        go_upto_region 5 with fail
        generalize hw3 : (((W.setCell ⟨X, 0, none⟩ (.int .i64 m)).setCell ⟨X, 1, none⟩ (.int .i64 q)).setCell ⟨X, 2, none⟩ (.bool false)) = w3 at *
        clear hw3 xc0 xc1 xc2 xf xl
        obtain ⟨c0, c1, c2, c3, c4⟩ := five (F3.out.blk HB1.out l1 (by omega))
        have xc0 := X3.out.cell 0
        have xc1 := X3.out.cell 1
        have xc2 := X3.out.cell 2
        simp only [List.getElem?_cons_zero, List.getElem?_cons_succ] at xc0 xc1 xc2
        have LW := Lib.hid (listsFar HL1.out HX.out F3.out (Nat.le_refl _))
        have RW := Lib.hid (F3.out.row HR1.out (fun h0 b off e => by
          simp only [Option.some.injEq, Addr.mk.injEq, and_true] at e
          obtain ⟨rfl, rfl⟩ := e
          exact ⟨HR1.out.lt (ints_pos _) h0 rfl, hg⟩))
        have hd : inDay s m = true := inB_true.2 ⟨m1', m2'⟩
        go_wp2_with fail
        refine (wet_n s m q tr G s.floors.length hG g cg w3 OK.out LW.out hd RW.out q1' t1 t2).mono ?_
        rintro e w4 ⟨rfl, u4⟩
        generalize hbb : decide (G[q]?.getD 0 < hgt s.table m + tr) = bb
        have xw := X3.out.up u4
        have xb := xw.set 2 (.bool bb)
        simp only [List.set_cons_zero, List.set_cons_succ] at xb
        have xf := xw.free
        have xl := xw.lt
        have F5 : Hid (Far hb w1.heap.size w1 (w4.setCell ⟨X, 2, none⟩ (.bool bb))) := Lib.hid ((F3.out.trans (Far.of (u4.mono F3.out.size))).setNew (a := ⟨X, 2, none⟩) (by simp only; omega) _)
        have O5 : Hid ((w4.setCell ⟨X, 2, none⟩ (.bool bb)).ownsRow w1.heap.size 80 3 u11 k (lrows lk).flatten) := Lib.hid (ownsRow_setCell_other (ownsRow_up O3.out u4) (a := ⟨X, 2, none⟩) nX _)
        have H5 : Hid (HeapAt (w4.setCell ⟨X, 2, none⟩ (.bool bb)) hb pB cB lB) := Lib.hid ((H3.out.up u4).below ((Below.refl w1.heap.size w4).setCell (p := ⟨X, 2, none⟩) (by simp only; omega) _) (by omega) HA1.out)
        have xd0 := xw.cell 0
        have xd1 := xw.cell 1
        have xd2 := xw.cell 2

        simp only [List.getElem?_cons_zero, List.getElem?_cons_succ] at xd0 xd1 xd2
        have HI : Hid (LookIs s G tr (m, (q : Int), bb)) := Lib.hid ⟨hd, q, rfl, q1', hbb.symm⟩
        obtain ⟨i2, hi, hz0, hz1, hz2⟩ := info_parts infoL
        clear xw xb c0 c1 c2 c3 c4 xc0 xc1 xc2 LW RW u4 O3 H3 F3 X3 hbb
        have hs5 : w1.heap.size ≤ (w4.setCell ⟨X, 2, none⟩ (.bool bb)).heap.size := F5.out.size
        go_wp2_with (at_builtin; refine wpList_append_own _ rfl _ _ 89 rfl w1.heap.size 80 i2 (.agg #[.int .i64 0, .int .i64 0, .bool false]) 3 24 Try.underlying89 hi hz0 hz1 hz2 rfl (by decide) _ _ _ rfl (O5.out.alloc _) ⟨w4.heap.size, 0, none⟩ 1 1 [.int .i64 m, .int .i64 q, .bool bb] rfl rfl (newsAt _ (by simp only [World.size_setCell]) [.int .i64 m, .int .i64 q, .bool bb] _) (by simp [Value.oneCell']) (by simp [maxLen]; omega) (by omega) (sz_alloc hs5) ?_; intro v' w6 hown hgr hnn; clear hnn)
        have F6 := Lib.hid ((F5.out.alloc hs5 _).grown hgr (sz_alloc hs5) (fun j e => (O5.out.lt j e).1))
        have H6 := Lib.hid (H5.out.below (((Below.refl w1.heap.size _).alloc hs5 _).grown hgr (sz_alloc hs5) (fun j e => (O5.out.lt j e).1)) (by omega) HA1.out)
        have O6 := Lib.hid hown
        clear hown hgr
        go_roundw
        case rel =>
          refine ⟨k + 1, lk ++ [(m, (q : Int), bb)], by go_num, by omega, by rw [List.length_append, hlen]; rfl, fun x hx => ?_, ?_, H6.out, F6.out⟩
          · rw [List.mem_append] at hx
            rcases hx with hx | hx
            · exact HLK.out x hx
            · rw [List.mem_singleton] at hx; subst hx; exact HI.out
          · have e : (lrows (lk ++ [(m, (q : Int), bb)])).flatten = (lrows lk).flatten ++ [.int .i64 m, .int .i64 q, .bool bb] := by unfold lrows; rw [List.map_append, List.flatten_append]; rfl
            rw [e]
            exact O6.out
        case measure => simp [intOf]; omega
    · obtain rfl : k = N := by omega
      obtain ⟨qL, dL, rfl, a1, a2, hR, -⟩ := Row.of_own (rows := lrows lk) (by simp [flatOk, lrows]) HO.out (by simp [lrows, hlen])
      subst hlen
      go_wp2_with fail
      go_ret
      exact ⟨lk, qL, dL, rfl, by omega, hR, HLK.out, HHr.out, ⟨HF.out.os.trans U1.out.os, HF.out.tape.trans U1.out.tape, HF.out.output.trans U1.out.output, Nat.le_trans U1.out.size HF.out.size, fun b hb1 hb2 => (HF.out.block b (Nat.lt_of_lt_of_le hb1 U1.out.size) hb2).trans (U1.out.block b hb1)⟩⟩
theorem looked_n (hb : Nat) (s : Sd) (G : List Int) (n : Nat) (hn : G.length = n) (g cg : Nat) (tr most : Int) (w : World) (ok : Ok s) (h : HeapAt w hb pB cB lB) (ha : Apart pB hb w.heap.size lB) (hlB : lB.length ≤ 140737488355328) (hl : Lists w s pT pF pS cT cF cS)
    (hx : (0 < s.table.length → ∀ b off, pT = some ⟨b, off, none⟩ → b ≠ hb) ∧ (0 < s.floors.length → ∀ b off, pF = some ⟨b, off, none⟩ → b ≠ hb) ∧ (0 < s.sills.length → ∀ b off, pS = some ⟨b, off, none⟩ → b ≠ hb)) (hg : g ≠ hb) (hr : Row w (some ⟨g, 0, none⟩) 1 (ints G)) (hG : n = s.floors.length) (t1 : -1000 ≤ tr) (t2 : tr ≤ 1000) (m0 : 0 ≤ most) (m1 : most ≤ 100) :
    Calls Try.prog 53 #[.pointer (some ⟨hb, 0, none⟩), sdVal s pT pF pS cT cF cS, .slice (some ⟨g, 0, none⟩) n cg, .int .i64 tr, .int .i64 most] w fun e w' => ∃ lk pL cL, e = .returned (.slice pL (lk : List Lk).length cL) ∧ (lk.length : Int) ≤ most ∧ Row w' pL 3 (lrows lk) ∧ (∀ x ∈ lk, LookIs s G tr x) ∧ HeapAt w' hb pB cB lB ∧ Far hb w.heap.size w w' := by
  subst hn
  exact looked_c hb s G g cg tr most w ok h ha hlB hl hx hg hr hG t1 t2 m0 m1
end
end Go.Proofs.Ytcljkkojeleakaa
/- Plain facts: sands with a higher sill, with a higher floor, with one sill more. -/
namespace Go.Proofs.Ytcljkkojeleakaa
section
open Go.RowKit

def hiSill (s : Sd) (i : Nat) (d : Int) : Sd := ⟨s.table, s.lo, s.hi, s.floors, s.sills.set i ((s.sills[i]?.getD (0, 0, 0)).1, (s.sills[i]?.getD (0, 0, 0)).2.1, (s.sills[i]?.getD (0, 0, 0)).2.2 + d)⟩
def hiFloor (s : Sd) (i : Nat) (d : Int) : Sd := ⟨s.table, s.lo, s.hi, s.floors.set i (s.floors[i]?.getD 0 + d), s.sills⟩
def oneMore (s : Sd) (x : Int × Int × Int) : Sd := ⟨s.table, s.lo, s.hi, s.floors, s.sills ++ [x]⟩
section
variable {s : Sd}
theorem hiSill_none {i : Nat} {d : Int} (h : s.sills.length ≤ i) : hiSill s i d = s := by
  unfold hiSill
  rw [List.set_eq_of_length_le h]
theorem hiSill_ok (ok : Ok s) (i : Nat) (d : Int) (d0 : 0 ≤ d) (h : ∀ x ∈ s.sills, x.2.2 + d ≤ 999) : Ok (hiSill s i d) := by
  by_cases hi : i < s.sills.length
  · have hm := List.getElem_mem (l := s.sills) hi
    have e : s.sills[i]?.getD (0, 0, 0) = s.sills[i] := by rw [List.getElem?_eq_getElem hi]; rfl
    refine ⟨ok.table, ok.fl0, ok.fl1, ?_, ok.lo0, ok.hi1, ok.lohi, ok.floors, fun x hx => ?_, fun x hx => ?_, fun x hx => ?_⟩
    · show (s.sills.set _ _).length ≤ 16
      rw [List.length_set]; exact ok.sl
    · rcases List.mem_or_eq_of_mem_set hx with h1 | rfl
      · exact ok.heights x h1
      · rw [e]
        have h1 := ok.heights _ hm
        have h2 := h _ hm
        show 0 ≤ s.sills[i].2.2 + d ∧ s.sills[i].2.2 + d ≤ 999
        omega
    · rcases List.mem_or_eq_of_mem_set hx with h1 | rfl
      · exact ok.good x h1
      · rw [e]; exact ok.good s.sills[i] hm
    · rcases List.mem_or_eq_of_mem_set hx with h1 | rfl
      · exact ok.two x h1
      · rw [e]; exact ok.two s.sills[i] hm
  · rw [hiSill_none (by omega)]; exact ok
theorem hiFloor_ok (ok : Ok s) (i : Nat) (d : Int) (d0 : 0 ≤ d) (h : ∀ x ∈ s.floors, x + d ≤ 999) : Ok (hiFloor s i d) := by
  by_cases hi : i < s.floors.length
  · have hm := List.getElem_mem (l := s.floors) hi
    have e : s.floors[i]?.getD 0 = s.floors[i] := by rw [List.getElem?_eq_getElem hi]; rfl
    have hl : (hiFloor s i d).floors.length = s.floors.length := List.length_set ..
    refine ⟨ok.table, by rw [hl]; exact ok.fl0, by rw [hl]; exact ok.fl1, ok.sl, ok.lo0, ok.hi1, ok.lohi, fun x hx => ?_, ok.heights, ?_, ok.two⟩
    · rcases List.mem_or_eq_of_mem_set hx with h1 | rfl
      · exact ok.floors x h1
      · rw [e]
        have h1 := ok.floors _ hm
        have h2 := h _ hm
        omega
    · rw [hl]; exact ok.good
  · have : hiFloor s i d = s := by unfold hiFloor; rw [List.set_eq_of_length_le (by omega)]
    rw [this]; exact ok
theorem oneMore_ok (ok : Ok s) (x : Int × Int × Int) (hl : s.sills.length < 16) (h0 : 0 ≤ x.2.2 ∧ x.2.2 ≤ 999) (hA : x.1 = -1) (hB : 0 ≤ x.2.1 ∧ x.2.1 < s.floors.length) : Ok (oneMore s x) := by
  refine ⟨ok.table, ok.fl0, ok.fl1, ?_, ok.lo0, ok.hi1, ok.lohi, ok.floors, fun y hy => ?_, fun y hy => ?_, fun y hy => ?_⟩
  · show (s.sills ++ [x]).length ≤ 16
    rw [List.length_append]; exact hl
  · rcases List.mem_append.1 hy with h1 | h1
    · exact ok.heights y h1
    · rw [List.mem_singleton] at h1; subst h1; exact h0
  · rcases List.mem_append.1 hy with h1 | h1
    · exact ok.good y h1
    · rw [List.mem_singleton] at h1; subst h1; exact ⟨Or.inl hA, Or.inr hB⟩
  · rcases List.mem_append.1 hy with h1 | h1
    · exact ok.two y h1
    · rw [List.mem_singleton] at h1; subst h1; omega

/-- as long lists, and the same wind -/
structure Dims (s t : Sd) : Prop where
  tl : t.table.length = s.table.length
  lo : t.lo = s.lo
  hi : t.hi = s.hi
  fl : t.floors.length = s.floors.length
  sl : t.sills.length = s.sills.length
theorem Dims.refl (s : Sd) : Dims s s := ⟨rfl, rfl, rfl, rfl, rfl⟩
theorem dims_sill (s : Sd) (i : Nat) (d : Int) : Dims s (hiSill s i d) := ⟨rfl, rfl, rfl, rfl, List.length_set ..⟩
theorem dims_floor (s : Sd) (i : Nat) (d : Int) : Dims s (hiFloor s i d) := ⟨rfl, rfl, rfl, List.length_set .., rfl⟩

theorem Dims.cells {s t : Sd} (h : Dims s t) (pT pF pS : Option Addr) (cT cF cS : Nat) : sdCells s pT pF pS cT cF cS = sdCells t pT pF pS cT cF cS := by
  unfold sdCells
  rw [h.tl, h.lo, h.hi, h.fl, h.sl]
/-- the first, second or third of three -/
def pick3 {α : Type} (a b c : α) (i : Nat) : α := if i = 0 then a else if i = 1 then b else c
theorem pick3_row (t1 t2 t3 : Sd) (xT yT zT xF yF zF xS yS zS : Option Addr) (jT kT iT jF kF iF jS kS iS : Nat) (i : Nat) (hi : i < 3) :
    [sdCells t1 xT xF xS jT jF jS, sdCells t2 yT yF yS kT kF kS, sdCells t3 zT zF zS iT iF iS][i]? = some (sdCells (pick3 t1 t2 t3 i) (pick3 xT yT zT i) (pick3 xF yF zF i) (pick3 xS yS zS i) (pick3 jT kT iT i) (pick3 jF kF iF i) (pick3 jS kS iS i)) := by
  obtain rfl | rfl | rfl : i = 0 ∨ i = 1 ∨ i = 2 := by omega
  all_goals rfl
theorem sdCells_len (s : Sd) (pT pF pS : Option Addr) (cT cF cS : Nat) : (sdCells s pT pF pS cT cF cS).length = 5 := rfl
/-- what the law asks of raised sands -/
structure NoLess (s t : Sd) : Prop where
  ok : Ok t
  fl : t.floors.length = s.floors.length
  day : ∀ m, inDay t m = inDay s m
  gate : ∀ x : Int, 0 ≤ x → x < s.floors.length → errGate t x = errGate s x ∧ gateV s x ≤ gateV t x
  st : ∀ (m : Int) (p : Nat), st t m p ≤ st s m p
structure NoMore (s t : Sd) : Prop where
  ok : Ok t
  fl : t.floors.length = s.floors.length
  day : ∀ m, inDay t m = inDay s m
  gate : ∀ x : Int, 0 ≤ x → x < s.floors.length → errGate s x = 0 → errGate t x = 0 ∧ gateV t x ≤ gateV s x
  st : ∀ (m : Int) (p : Nat), st s m p ≤ st t m p
theorem noLess_sill (ok : Ok s) (i : Nat) (d : Int) (d0 : 0 ≤ d) (h : ∀ x ∈ s.sills, x.2.2 + d ≤ 999) : NoLess s (hiSill s i d) := by
  have hF : HiF s.floors (hiSill s i d).floors := HiF.refl (fun x hx => (ok.floors x hx).2)
  have hS : HiS s.sills (hiSill s i d).sills := by
    by_cases hi : i < s.sills.length
    · unfold hiSill
      have e : s.sills[i]?.getD (0, 0, 0) = s.sills[i] := by rw [List.getElem?_eq_getElem hi]; rfl
      rw [e]
      exact HiS.at i d hi d0 (fun x hx => (ok.heights x hx).2) (h _ (List.getElem_mem hi))
    · rw [hiSill_none (by omega)]
      exact HiS.refl (fun x hx => (ok.heights x hx).2)
  have ok' := hiSill_ok ok i d d0 h
  exact ⟨ok', rfl, fun _ => rfl, fun x h0 h1 => hi_gate ok ok' hF hS ⟨h0, h1⟩, hi_st hF hS rfl rfl rfl⟩
theorem noLess_floor (ok : Ok s) (i : Nat) (d : Int) (hi : i < s.floors.length) (d0 : 0 ≤ d) (h : ∀ x ∈ s.floors, x + d ≤ 999) : NoLess s (hiFloor s i d) := by
  have hS : HiS s.sills (hiFloor s i d).sills := HiS.refl (fun x hx => (ok.heights x hx).2)
  have hF : HiF s.floors (hiFloor s i d).floors := by
    unfold hiFloor
    have e : s.floors[i]?.getD 0 = s.floors[i] := by rw [List.getElem?_eq_getElem hi]; rfl
    rw [e]
    exact HiF.at i d hi d0 (fun x hx => (ok.floors x hx).2) (h _ (List.getElem_mem hi))
  have ok' := hiFloor_ok ok i d d0 h
  exact ⟨ok', List.length_set .., fun _ => rfl, fun x h0 h1 => hi_gate ok ok' hF hS ⟨h0, h1⟩, hi_st hF hS rfl rfl rfl⟩
theorem noMore_one (ok : Ok s) (x : Int × Int × Int) (hl : s.sills.length < 16) (h0 : 0 ≤ x.2.2 ∧ x.2.2 ≤ 999) (hA : x.1 = -1) (hB : 0 ≤ x.2.1 ∧ x.2.1 < s.floors.length) : NoMore s (oneMore s x) := by
  have ok' := oneMore_ok ok x hl h0 hA hB
  exact ⟨ok', rfl, fun _ => rfl, fun y y0 y1 => more_gate (e := [x]) ok ok' rfl rfl ⟨y0, y1⟩, more_st (e := [x]) rfl rfl rfl rfl rfl⟩
theorem allV_get (ok : Ok s) {m : Int} (hm : inDay s m = true) : (allV s m).length = s.floors.length ∧ ∀ (j : Nat) (h : j < (allV s m).length), (allV s m)[j] = st s m j := by
  have e : allV s m = allS s m := by unfold allV; rw [if_pos (errAt_in ok hm)]
  rw [e]
  exact ⟨by simp [allS], fun j h => by simp [allS]⟩
/-- what the law asks of the one of three -/
structure Like (s t : Sd) (k : Nat) : Prop where
  ok : Ok t
  fl : t.floors.length = s.floors.length
  day : ∀ m, inDay t m = inDay s m
  less : k < 2 → (∀ x : Int, 0 ≤ x → x < s.floors.length → errGate t x = errGate s x ∧ gateV s x ≤ gateV t x) ∧ ∀ (m : Int) (p : Nat), st t m p ≤ st s m p
  more : k = 2 → (∀ x : Int, 0 ≤ x → x < s.floors.length → errGate s x = 0 → errGate t x = 0 ∧ gateV t x ≤ gateV s x) ∧ ∀ (m : Int) (p : Nat), st s m p ≤ st t m p
theorem like3 {t1 t2 t3 : Sd} (h1 : NoLess s t1) (h2 : NoLess s t2) (h3 : NoMore s t3) (i : Nat) (hi : i < 3) : Like s (pick3 t1 t2 t3 i) i := by
  obtain rfl | rfl | rfl : i = 0 ∨ i = 1 ∨ i = 2 := by omega
  · exact ⟨h1.ok, h1.fl, h1.day, fun _ => ⟨h1.gate, h1.st⟩, fun h => by omega⟩
  · exact ⟨h2.ok, h2.fl, h2.day, fun _ => ⟨h2.gate, h2.st⟩, fun h => by omega⟩
  · exact ⟨h3.ok, h3.fl, h3.day, fun h => by omega, fun _ => ⟨h3.gate, h3.st⟩⟩
theorem errGate_or (ok : Ok s) {x : Int} (h : 0 ≤ x ∧ x < s.floors.length) : errGate s x = 0 ∨ errGate s x = 6 := by
  rw [errGate_in ok h]
  by_cases c : gateOf s x.toNat < 1050
  · exact Or.inl (if_pos c)
  · exact Or.inr (if_neg c)
end
end
end Go.Proofs.Ytcljkkojeleakaa
/- Plain facts for the law TideTold: looks that are true in a truth leave it; what is certain remains so with the wind that they leave. -/
namespace Go.Proofs.Ytcljkkojeleakaa
section
open Go.RowKit
section
variable {s : Sd} {G : List Int} {tr : Int}
/-- gates as the law has them -/
def GatesAre (s : Sd) (G : List Int) : Prop := ∀ p, p < s.floors.length → G[p]?.getD 0 = if gateOf s p < 1050 then gateOf s p else 1000000
theorem gates_are (ok : Ok s) (hF : ∀ x ∈ s.floors, 0 ≤ x ∧ x ≤ 50) (hS : ∀ x ∈ s.sills, x.2.2 ≤ 50) : GatesAre s (lvls s 62) := fun p hp => lvls_gates ok hF hS p hp
theorem look_in (ok : Ok s) (hG : GatesAre s G) (h1 : s.lo ≤ tr) (h2 : tr ≤ s.hi) {x : Lk} (hx : LookIs s G tr x) : (truV s x).1 ≤ tr ∧ tr ≤ (truV s x).2 := by
  obtain ⟨hd, p, e, hp, hw⟩ := hx
  obtain ⟨m, q, b⟩ := x
  simp only at e hd hw
  subst e
  have hg := hG p hp
  have l0 := ok.lo0
  have h9 := ok.hi1
  obtain ⟨m0, m1⟩ : firstM s.table ≤ m ∧ m ≤ lastM s.table := inB_true.1 hd
  obtain ⟨r0, r1⟩ := hgt_rng ok.table m m0
  have gl := gts_le s p
  rw [hg] at hw
  unfold truV com
  cases b with
  | true =>
    have hw' : (if gateOf s p < 1050 then gateOf s p else 1000000) < hgt s.table m + tr := of_decide_eq_true hw.symm
    simp only [if_true, Int.toNat_natCast]
    split at hw' <;> omega
  | false =>
    have hw' : ¬ ((if gateOf s p < 1050 then gateOf s p else 1000000) < hgt s.table m + tr) := of_decide_eq_false hw.symm
    simp only [Bool.false_eq_true, if_false, Int.toNat_natCast]
    split at hw' <;> omega
theorem looks_in (ok : Ok s) (hG : GatesAre s G) (h1 : s.lo ≤ tr) (h2 : tr ≤ s.hi) : ∀ (l : List Lk) (z : Int × Int), (∀ x ∈ l, LookIs s G tr x) → s.lo ≤ z.1 → z.1 ≤ tr → tr ≤ z.2 → z.2 ≤ s.hi →
    s.lo ≤ (lkOf s z l).1 ∧ (lkOf s z l).1 ≤ tr ∧ tr ≤ (lkOf s z l).2 ∧ (lkOf s z l).2 ≤ s.hi
  | [], _, _, a, b, c, d => ⟨a, b, c, d⟩
  | x :: r, z, hx, a, b, c, d => by
    have k := look_in ok hG h1 h2 (hx x (by simp))
    refine looks_in ok hG h1 h2 r (com z (truV s x)) (fun y hy => hx y (by simp [hy])) ?_ ?_ ?_ ?_
    · show s.lo ≤ max z.1 (truV s x).1; omega
    · show max z.1 (truV s x).1 ≤ tr; omega
    · show tr ≤ min z.2 (truV s x).2; omega
    · show min z.2 (truV s x).2 ≤ s.hi; omega
theorem lkErr_none : ∀ (l : List Lk), (∀ x ∈ l, LookIs s G tr x) → lkErr s l = 0
  | [], _ => rfl
  | x :: r, hx => by
    obtain ⟨hd, p, e, hp, -⟩ := hx x (by simp)
    unfold lkErr
    rw [if_pos hd, if_pos (by rw [e]; exact inB_true.2 (by omega))]
    exact lkErr_none r (fun y hy => hx y (by simp [hy]))
/-- looks that are true in a truth leave it -/
theorem told (ok : Ok s) (hG : GatesAre s G) (h1 : s.lo ≤ tr) (h2 : tr ≤ s.hi) (l : List Lk) (hl : l.length ≤ 10) (hx : ∀ x ∈ l, LookIs s G tr x) :
    looksE s l = 0 ∧ s.lo ≤ (looksV s l).1 ∧ (looksV s l).1 ≤ tr ∧ tr ≤ (looksV s l).2 ∧ (looksV s l).2 ≤ s.hi := by
  obtain ⟨a, b, c, d⟩ := looks_in ok hG h1 h2 l (s.lo, s.hi) hx (Int.le_refl _) h1 h2 (Int.le_refl _)
  have e0 : errLooks s l = 0 := by
    unfold errLooks
    rw [if_pos (chk_zero ok), if_neg (by omega)]
    exact lkErr_none l hx
  have e1 : looksE s l = 0 := by
    unfold looksE
    rw [if_pos e0, if_neg (by unfold siz; omega)]
  refine ⟨e1, ?_⟩
  unfold looksV
  rw [if_pos e1]
  exact ⟨a, b, c, d⟩
/-- with a narrower wind -/
def within (s : Sd) (z : Int × Int) : Sd := ⟨s.table, z.1, z.2, s.floors, s.sills⟩
theorem within_ok (ok : Ok s) {z : Int × Int} (h1 : s.lo ≤ z.1) (h2 : z.1 ≤ z.2) (h3 : z.2 ≤ s.hi) : Ok (within s z) :=
  ⟨ok.table, ok.fl0, ok.fl1, ok.sl, Int.le_trans ok.lo0 h1, Int.le_trans h3 ok.hi1, h2, ok.floors, ok.heights, ok.good, ok.two⟩
theorem st_law (ok : Ok s) (hG : GatesAre s G) {m : Int} (hm : inDay s m = true) {p : Nat} (hp : p < s.floors.length) :
    st s m p = if G[p]?.getD 0 < hgt s.table m + s.lo then 2 else if G[p]?.getD 0 < hgt s.table m + s.hi then 1 else 0 := by
  obtain ⟨m0, m1⟩ : firstM s.table ≤ m ∧ m ≤ lastM s.table := inB_true.1 hm
  obtain ⟨r0, r1⟩ := hgt_rng ok.table m m0
  have gl := gts_le s p
  have l0 := ok.lohi
  have h9 := ok.hi1
  rw [hG p hp]
  unfold st
  by_cases c : gateOf s p < 1050
  · rw [if_pos c]
  · rw [if_neg c]
    repeat' split
    all_goals omega
theorem st_within (hG : GatesAre s G) {z : Int × Int} (h1 : s.lo ≤ z.1) (h2 : z.1 ≤ tr) (h3 : tr ≤ z.2) (h4 : z.2 ≤ s.hi) (ok : Ok s) {m : Int} (hm : inDay s m = true) {p : Nat} (hp : p < s.floors.length) :
    (st s m p ≠ 1 → st (within s z) m p = st s m p) ∧ (st (within s z) m p = 0 → ¬ G[p]?.getD 0 < hgt s.table m + tr) ∧ (st (within s z) m p = 2 → G[p]?.getD 0 < hgt s.table m + tr) := by
  have hG' : GatesAre (within s z) G := fun q hq => by
    rw [hG q hq]
    have : gateOf (within s z) q = gateOf s q := by unfold gateOf; rw [gts_eq (s := within s z) (t := s) rfl rfl]
    rw [this]
  have ok' := within_ok ok h1 (Int.le_trans h2 h3) h4
  have e1 := st_law ok hG hm hp
  have e2 := st_law ok' hG' (m := m) hm (p := p) hp
  have k1 : (within s z).lo = z.1 := rfl
  have k2 : (within s z).hi = z.2 := rfl
  have k3 : hgt (within s z).table m = hgt s.table m := rfl
  rw [k1, k2, k3] at e2
  rw [e1, e2]
  generalize G[p]?.getD 0 = gg
  generalize hgt s.table m = hh
  refine ⟨fun h => ?_, fun h => ?_, fun h => ?_⟩
  · revert h
    repeat' split
    all_goals omega
  · revert h
    repeat' split
    all_goals omega
  · revert h
    repeat' split
    all_goals omega
end
end
end Go.Proofs.Ytcljkkojeleakaa
/- The law TideTold returns true, whatever numbers are passed in. -/
namespace Go.Proofs.Ytcljkkojeleakaa
open Go.RowKit Go.Shelf

section
variable {p p' : Option Addr} {c c' : Nat}
theorem sLooks_c {s : Sd} {l : List Lk} {pT pF pS pL : Option Addr} {cT cF cS cL : Nat} {w : World} (he : looksE s l = 0) (hl : Lists w s pT pF pS cT cF cS) (hr : Row w pL 3 (lrows l)) (hln : l.length ≤ maxLen) :
    Calls Try.prog 54 #[sdVal s pT pF pS cT cF cS, .slice pL l.length cL] w fun e w' => e = .returned (.tuple #[.agg #[.int .i64 (looksV s l).1, .int .i64 (looksV s l).2], .int .i64 0]) ∧ Up w w' := by
  have := Looks_c s l pL cL w hl hr hln
  rwa [he] at this
theorem sCheck_c {s : Sd} {pT pF pS : Option Addr} {cT cF cS : Nat} {w : World} (ok : Ok s) (hl : Lists w s pT pF pS cT cF cS) :
    Calls Try.prog 18 #[sdVal s pT pF pS cT cF cS] w fun e w' => e = .returned (.int .i64 0) ∧ Up w w' := by
  have := check_c s w pT pF pS cT cF cS hl
  rwa [chk_zero ok] at this
theorem st_rng' (s : Sd) (m : Int) (p : Nat) : st s m p = 0 ∨ st s m p = 1 ∨ st s m p = 2 := by
  unfold st
  repeat' split
  all_goals simp
theorem five' {w : World} {B : Nat} {a b : Value} {T : TypeId} (h : Blk w B [a, b] T) : w.cell? ⟨B, 0, none⟩ = some a ∧ w.cell? ⟨B, 1, none⟩ = some b := ⟨h.cell 0, h.cell 1⟩
set_option maxRecDepth 100000 in
set_option maxHeartbeats 3000000 in
theorem toldLaw_c (l l' : List Int) (w : World) (hr : Row w p 1 (bytes l)) (hr' : Row w p' 1 (bytes l')) (hl : l.length ≤ 140737488355328) (hl' : l'.length ≤ 140737488355328) :
    Calls Try.prog 8 #[.slice p l.length c, .slice p' l'.length c'] w fun e w' => e = .returned (.bool true) ∧ Up w w' := by
  have HP := Lib.hid (fun W (u : Up w W) => pile_c p c l W (hr.up u))
  have HP' := Lib.hid (fun W (u : Up w W) => pile_c p' c' l' W (hr'.up u))
  clear hr hr'
  go_enter Try.func8, Try.ntmps8
  go_wp2_with fail
  refine (HP.out _ (by (repeat (first | exact Below.refl _ _ | (with_reducible refine Below.drewN' ?_ _) | (with_reducible refine Below.drew ?_) | (with_reducible refine Below.setCell ?_ (by first | exact Nat.le_refl _ | omega | (with_reducible (repeat (first | refine sz_alloc ?_ | refine sz_setCell ?_ | refine sz_drew ?_ | refine sz_drewN ?_)); first | exact Nat.le_refl _ | omega) | (simp only [World.size_alloc, World.size_setCell, World.size_drew, size_drewN']; omega)) _) | (with_reducible refine Below.alloc ?_ (by first | exact Nat.le_refl _ | omega | (with_reducible (repeat (first | refine sz_alloc ?_ | refine sz_setCell ?_ | refine sz_drew ?_ | refine sz_drewN ?_)); first | exact Nat.le_refl _ | omega) | (simp only [World.size_alloc, World.size_setCell, World.size_drew, size_drewN']; omega)) _) | assumption)))).mono ?_
  rintro e w1 ⟨rfl, g1, u1, s1, ap⟩
  have U1 := Lib.hid u1
  have G1 := Lib.hid g1
  have AP := Lib.hid ap
  clear g1 u1 ap HP
  go_wp2_with fail
  refine (made_c (p := p) (c := c) (l := l) w.heap.size 6 8 w1 G1.out (AP.out.mono (by omega)) hl (by decide) (by decide) (by decide) (by decide)).mono ?_
  rintro e w2 ⟨s, qT, qF, qS, dT, dF, dS, rfl, mk, l2, -, -, f2⟩
  have MK := Lib.hid mk
  have L2 := Lib.hid l2
  have U2 : Hid (Up w w2) := Below.trans U1.out (f2.below (Nat.le_refl _) (by omega))
  have OK := Lib.hid (mk.ok (by decide) (by decide))
  have m2 := mk.t2
  have m4 := mk.t4
  have mlo := mk.lo
  have mhi := mk.hi
  have mf1 := mk.f1
  have mf6 := mk.fn
  obtain ⟨gF, oF, rfl, -⟩ := l2.rf.int 0 (by omega)
  clear mk l2 f2 G1 AP U1 s1
  unfold sdVal
  go_wp2_with fail
  have BS : Hid (Blk (w2.alloc (.cells #[.slice qT s.table.length dT, .int .i64 s.lo, .int .i64 s.hi, .slice (some ⟨gF, oF, none⟩) s.floors.length dF, .slice qS s.sills.length dS] 28)) w2.heap.size (sdCells s qT (some ⟨gF, oF, none⟩) qS dT dF dS) 28) := Blk.new w2 (sdCells s qT (some ⟨gF, oF, none⟩) qS dT dF dS) 28
  have LS : Hid (Lists (w2.alloc (.cells #[.slice qT s.table.length dT, .int .i64 s.lo, .int .i64 s.hi, .slice (some ⟨gF, oF, none⟩) s.floors.length dF, .slice qS s.sills.length dS] 28)) s qT (some ⟨gF, oF, none⟩) qS dT dF dS) := L2.out.up (by (repeat (first | exact Below.refl _ _ | (with_reducible refine Below.drewN' ?_ _) | (with_reducible refine Below.drew ?_) | (with_reducible refine Below.setCell ?_ (by first | exact Nat.le_refl _ | omega | (with_reducible (repeat (first | refine sz_alloc ?_ | refine sz_setCell ?_ | refine sz_drew ?_ | refine sz_drewN ?_)); first | exact Nat.le_refl _ | omega) | (simp only [World.size_alloc, World.size_setCell, World.size_drew, size_drewN']; omega)) _) | (with_reducible refine Below.alloc ?_ (by first | exact Nat.le_refl _ | omega | (with_reducible (repeat (first | refine sz_alloc ?_ | refine sz_setCell ?_ | refine sz_drew ?_ | refine sz_drewN ?_)); first | exact Nat.le_refl _ | omega) | (simp only [World.size_alloc, World.size_setCell, World.size_drew, size_drewN']; omega)) _) | assumption)))
  have UR : Hid (Up w (w2.alloc (.cells #[.slice qT s.table.length dT, .int .i64 s.lo, .int .i64 s.hi, .slice (some ⟨gF, oF, none⟩) s.floors.length dF, .slice qS s.sills.length dS] 28))) := Up.trans U2.out (by (repeat (first | exact Below.refl _ _ | (with_reducible refine Below.drewN' ?_ _) | (with_reducible refine Below.drew ?_) | (with_reducible refine Below.setCell ?_ (by first | exact Nat.le_refl _ | omega | (with_reducible (repeat (first | refine sz_alloc ?_ | refine sz_setCell ?_ | refine sz_drew ?_ | refine sz_drewN ?_)); first | exact Nat.le_refl _ | omega) | (simp only [World.size_alloc, World.size_setCell, World.size_drew, size_drewN']; omega)) _) | (with_reducible refine Below.alloc ?_ (by first | exact Nat.le_refl _ | omega | (with_reducible (repeat (first | refine sz_alloc ?_ | refine sz_setCell ?_ | refine sz_drew ?_ | refine sz_drewN ?_)); first | exact Nat.le_refl _ | omega) | (simp only [World.size_alloc, World.size_setCell, World.size_drew, size_drewN']; omega)) _) | assumption)))
  generalize (w2.alloc (.cells #[.slice qT s.table.length dT, .int .i64 s.lo, .int .i64 s.hi, .slice (some ⟨gF, oF, none⟩) s.floors.length dF, .slice qS s.sills.length dS] 28)) = w3 at *
  generalize w2.heap.size = M at *
  clear L2 U2 w2
  refine (HP'.out w3 UR.out).mono ?_
  rintro e w4 ⟨rfl, g4, u4, s4, ap4⟩
  have AP := Lib.hid ap4
  have G4 := Lib.hid g4
  have V4 := Lib.hid u4
  clear g4 ap4 HP'
  obtain ⟨c0, c1, c2, c3, c4⟩ := five (BS.out.up u4)
  clear u4
  go_wp2_with fail
  refine (from_c w3.heap.size p' c' l' s.lo s.hi w4 G4.out (AP.out.mono (by omega)) hl' (by omega) (by omega) (by omega) (by omega)).mono ?_
  rintro e w5 ⟨tr, ⟨tr0, tr1, -⟩, rfl, g5, f5⟩
  have tr1' := tr1 (by omega)
  have G5 := Lib.hid g5
  have V5 : Hid (Up w3 w5) := Lib.hid (Below.trans V4.out (f5.below (Nat.le_refl _) (by omega)))
  have z5 : w3.heap.size < w5.heap.size := by have := f5.size; omega
  clear g5 f5 tr1 G4 V4 c0 c1 c2 c3 c4
  obtain ⟨c0, c1, c2, c3, c4⟩ := five (BS.out.up V5.out)
  go_wp2_with fail
  refine (gates_c s w5 OK.out (LS.out.up V5.out)).mono ?_
  rintro e w6 ⟨g, rfl, bg, lg, u6⟩
  have ng : g ≠ w3.heap.size := by omega
  have BG := Lib.hid bg
  have G6 := Lib.hid (G5.out.up u6)
  have V6 := Lib.hid (Up.trans V5.out u6)
  have z6 : w3.heap.size < w6.heap.size := by have := u6.size; omega
  clear bg u6 V5 G5 c0 c1 c2 c3 c4
  obtain ⟨c0, c1, c2, c3, c4⟩ := five (BS.out.up V6.out)
  have GA : Hid (GatesAre s (lvls s 62)) := Lib.hid (gates_are OK.out MK.out.floors (fun x hx => (MK.out.sills x hx).2.2.2.2))
  have gl : (lvls s 62).length = s.floors.length := lvls_len OK.out 62
  have HX : Hid ((0 < s.table.length → ∀ b off, qT = some ⟨b, off, none⟩ → b ≠ w3.heap.size) ∧ (0 < s.floors.length → ∀ b off, (some ⟨gF, oF, none⟩ : Option Addr) = some ⟨b, off, none⟩ → b ≠ w3.heap.size) ∧ (0 < s.sills.length → ∀ b off, qS = some ⟨b, off, none⟩ → b ≠ w3.heap.size)) :=
    Lib.hid ⟨fun h0 b off e => by have := LS.out.rt.lt (pairs_pos _) (by simpa [pairs] using h0) e; omega, fun h0 b off e => by have := LS.out.rf.lt (ints_pos _) (by simpa [ints] using h0) e; omega, fun h0 b off e => by have := LS.out.rs.lt (triples_pos _) (by simpa [triples] using h0) e; omega⟩
  go_wp2_with fail
  refine (looked_n w3.heap.size s (lvls s 62) s.floors.length gl g s.floors.length tr 6 w6 OK.out G6.out (AP.out.mono (by omega)) hl' (LS.out.up V6.out) HX.out ng (Row.of_blk BG.out) rfl (by omega) (by omega) (by decide) (by decide)).mono ?_
  rintro e w7 ⟨lk, pL, dL, rfl, lk6, rL, hLk, -, f7⟩
  have V7 : Hid (Up w3 w7) := Lib.hid (Below.trans V6.out (f7.below (Nat.le_refl _) (by omega)))
  have BG7 := Lib.hid (f7.blk BG.out BG.out.lt ng)
  obtain ⟨e1, k1, k2, k3, k4⟩ := told OK.out GA.out tr0 tr1' lk (by omega) hLk
  have RL := Lib.hid rL
  clear f7 rL hLk V6 BG G6 AP HX c0 c1 c2 c3 c4 ng lg
  obtain ⟨c0, c1, c2, c3, c4⟩ := five (BS.out.up V7.out)
  go_wp2_with fail
  refine (sLooks_c e1 (LS.out.up V7.out) RL.out (by simp only [maxLen]; omega)).mono ?_
  rintro e w8 ⟨rfl, u8⟩
  have V8 := Lib.hid (Up.trans V7.out u8)
  have BG8 := Lib.hid (BG7.out.up u8)
  clear u8 V7 BG7 RL e1 c0 c1 c2 c3 c4
  generalize looksV s lk = z at *
  obtain ⟨z1, z2⟩ := z
  dsimp only at k1 k2 k3 k4
  obtain ⟨c0, c1, c2, c3, c4⟩ := five (BS.out.up V8.out)
  have lM8 : M < w8.heap.size := (BS.out.up V8.out).lt
  go_upto_region 7 with fail
  have BZ : Hid (Blk (w8.alloc (.cells #[.int .i64 z1, .int .i64 z2] 24)) w8.heap.size [.int .i64 z1, .int .i64 z2] 24) := Blk.new w8 [.int .i64 z1, .int .i64 z2] 24
  have u9 : Up w8 (w8.alloc (.cells #[.int .i64 z1, .int .i64 z2] 24)) := by (repeat (first | exact Below.refl _ _ | (with_reducible refine Below.drewN' ?_ _) | (with_reducible refine Below.drew ?_) | (with_reducible refine Below.setCell ?_ (by first | exact Nat.le_refl _ | omega | (with_reducible (repeat (first | refine sz_alloc ?_ | refine sz_setCell ?_ | refine sz_drew ?_ | refine sz_drewN ?_)); first | exact Nat.le_refl _ | omega) | (simp only [World.size_alloc, World.size_setCell, World.size_drew, size_drewN']; omega)) _) | (with_reducible refine Below.alloc ?_ (by first | exact Nat.le_refl _ | omega | (with_reducible (repeat (first | refine sz_alloc ?_ | refine sz_setCell ?_ | refine sz_drew ?_ | refine sz_drewN ?_)); first | exact Nat.le_refl _ | omega) | (simp only [World.size_alloc, World.size_setCell, World.size_drew, size_drewN']; omega)) _) | assumption))
  have V9 := Lib.hid (Up.trans V8.out u9)
  have BG9 := Lib.hid (BG8.out.up u9)
  clear u9 V8 BG8
  generalize (w8.alloc (.cells #[.int .i64 z1, .int .i64 z2] 24)) = w9 at *
  generalize w8.heap.size = Z at *
  clear c0 c1 c2 c3 c4 lM8
  obtain ⟨c0, c1, c2, c3, c4⟩ := five (BS.out.up V9.out)
  go_wp2_with fail
  refine (sCheck_c OK.out (LS.out.up V9.out)).mono ?_
  rintro e wa ⟨rfl, ua⟩
  have Va := Lib.hid (Up.trans V9.out ua)
  have BGa := Lib.hid (BG9.out.up ua)
  have BZa := Lib.hid (BZ.out.up ua)
  clear ua V9 BG9 BZ c0 c1 c2 c3 c4
  obtain ⟨c0, c1, c2, c3, c4⟩ := five (BS.out.up Va.out)
  obtain ⟨x0, x1⟩ := five' BZa.out
  have b1 : ¬ z1 < s.lo := by omega
  have b2 : ¬ s.hi < z2 := by omega
  have b3 : ¬ tr < z1 := by omega
  have b4 : ¬ z2 < tr := by omega
  go_wp2_with fail
  refine (own_o s wa (LS.out.up Va.out) (by omega) (by have : s.floors.length ≤ 6 := mf6; omega) (by have : s.sills.length ≤ 8 := MK.out.sn; omega)).mono ?_
  rintro e wb ⟨rT, rF, rS, eT, eF, eS, rfl, lb, ub, -, -⟩
  have Lb := Lib.hid lb
  have Vb := Lib.hid (Up.trans Va.out ub)
  have BGb := Lib.hid (BGa.out.up ub)
  have BZb := Lib.hid (BZa.out.up ub)
  clear ub lb Va BGa BZa c0 c1 c2 c3 c4 x0 x1
  unfold sdVal
  obtain ⟨x0, x1⟩ := five' BZb.out
  have lZ := BZb.out.lt
  go_upto_region 11 with fail
  have BT : Hid (Blk (wb.alloc (.cells #[.slice rT s.table.length eT, .int .i64 z1, .int .i64 z2, .slice rF s.floors.length eF, .slice rS s.sills.length eS] 28)) wb.heap.size (sdCells (within s (z1, z2)) rT rF rS eT eF eS) 28) := Lib.hid (Blk.new wb (sdCells (within s (z1, z2)) rT rF rS eT eF eS) 28)
  have ud : Up wb (wb.alloc (.cells #[.slice rT s.table.length eT, .int .i64 z1, .int .i64 z2, .slice rF s.floors.length eF, .slice rS s.sills.length eS] 28)) := by (repeat (first | exact Below.refl _ _ | (with_reducible refine Below.drewN' ?_ _) | (with_reducible refine Below.drew ?_) | (with_reducible refine Below.setCell ?_ (by first | exact Nat.le_refl _ | omega | (with_reducible (repeat (first | refine sz_alloc ?_ | refine sz_setCell ?_ | refine sz_drew ?_ | refine sz_drewN ?_)); first | exact Nat.le_refl _ | omega) | (simp only [World.size_alloc, World.size_setCell, World.size_drew, size_drewN']; omega)) _) | (with_reducible refine Below.alloc ?_ (by first | exact Nat.le_refl _ | omega | (with_reducible (repeat (first | refine sz_alloc ?_ | refine sz_setCell ?_ | refine sz_drew ?_ | refine sz_drewN ?_)); first | exact Nat.le_refl _ | omega) | (simp only [World.size_alloc, World.size_setCell, World.size_drew, size_drewN']; omega)) _) | assumption))
  have Vd := Lib.hid (Up.trans Vb.out ud)
  have BGd := Lib.hid (BGb.out.up ud)
  have LTd : Hid (Lists (wb.alloc (.cells #[.slice rT s.table.length eT, .int .i64 z1, .int .i64 z2, .slice rF s.floors.length eF, .slice rS s.sills.length eS] 28)) (within s (z1, z2)) rT rF rS eT eF eS) := Lib.hid (by have h := Lb.out.up ud; exact ⟨h.rt, h.rf, h.rs, h.ct, h.cf, h.cs, h.mt, h.mf, h.ms⟩)
  have LSd := Lib.hid (LS.out.up Vd.out)
  have BSd := Lib.hid (BS.out.up Vd.out)
  have URd : Hid (Up w (wb.alloc (.cells #[.slice rT s.table.length eT, .int .i64 z1, .int .i64 z2, .slice rF s.floors.length eF, .slice rS s.sills.length eS] 28))) := Lib.hid (Up.trans UR.out Vd.out)
  clear ud Vb BGb Lb BZb x0 x1 lZ Vd LS BS UR
  generalize (wb.alloc (.cells #[.slice rT s.table.length eT, .int .i64 z1, .int .i64 z2, .slice rF s.floors.length eF, .slice rS s.sills.length eS] 28)) = wd at *
  generalize wb.heap.size = Tb at *
  have OKt := Lib.hid (within_ok OK.out (z := (z1, z2)) k1 (Int.le_trans k2 k3) k4)
  obtain ⟨c0, c1, c2, c3, c4⟩ := five BSd.out
  go_wp2_with fail
  refine (firstL_c s wd LSd.out m2).mono ?_
  rintro e we ⟨rfl, ue⟩
  have Ue : Hid (Up wd we) := Lib.hid ue
  clear ue c0 c1 c2 c3 c4
  obtain ⟨f0, f1, f2⟩ := firstM_lt OK.out.table
  go_wp2_with fail
  go_loopw [13] (fun i wx => ∃ y : Int, i = .int .i64 y ∧ firstM s.table ≤ y ∧ y ≤ lastM s.table + 1 ∧ Up wd wx) (fun i _ => (lastM s.table + 1 - intOf i).toNat)
  case atStart => exact ⟨_, rfl, Int.le_refl _, by omega, Ue.out⟩
  case round =>
    obtain ⟨y, rfl, y0, y1, hu⟩ := hrel
    have Ux : Hid (Up wd wr) := Lib.hid hu
    obtain ⟨c0, c1, c2, c3, c4⟩ := five (BSd.out.up hu)
    clear hu
    go_wp2_with fail
    refine (lastL_c s wr (LSd.out.up Ux.out) m2 (by omega)).mono ?_
    rintro e wf ⟨rfl, uf⟩
    have Uf : Hid (Up wd wf) := Lib.hid (Up.trans Ux.out uf)
    clear uf Ux c0 c1 c2 c3 c4
    obtain ⟨c0, c1, c2, c3, c4⟩ := five (BSd.out.up Uf.out)
    by_cases hy : y ≤ lastM s.table
    · have hin : Hid (inDay s y = true) := Lib.hid (inB_true.2 ⟨y0, hy⟩)
      have hint : Hid (inDay (within s (z1, z2)) y = true) := hin
      go_wp2_with fail
      refine (sAll_c OK.out hin.out (LSd.out.up Uf.out)).mono ?_
      rintro e wg ⟨pa, ka, rfl, -, -, a3, ug⟩
      have Ug : Hid (Up wd wg) := Lib.hid (Up.trans Uf.out ug)
      have A3 := Lib.hid a3
      clear ug a3 Uf c0 c1 c2 c3 c4
      obtain ⟨c0, c1, c2, c3, c4⟩ := five (BT.out.up Ug.out)
      go_wp2_with fail
      refine (sAll_c OKt.out hint.out (LTd.out.up Ug.out)).mono ?_
      rintro e wh ⟨pb, kb, rfl, -, -, b3', uh⟩
      have Uh : Hid (Up wd wh) := Lib.hid (Up.trans Ug.out uh)
      have A4 := Lib.hid (A3.out.up uh)
      have B4 := Lib.hid b3'
      clear uh b3' Ug A3 c0 c1 c2 c3 c4
      obtain ⟨la, va⟩ := allV_get OK.out hin.out
      obtain ⟨lb, vb⟩ := allV_get OKt.out hint.out
      have lb' : (allV (within s (z1, z2)) y).length = s.floors.length := lb
      obtain ⟨gA, oA, rfl, -⟩ := A4.out.int 0 (by omega)
      obtain ⟨gB, oB, rfl, -⟩ := B4.out.int 0 (by omega)
      rw [la, lb']
      obtain ⟨c0, c1, c2, c3, c4⟩ := five (BSd.out.up Uh.out)
      go_wp2_with fail
      go_loopw [132] (fun i wj => ∃ k : Nat, i = .int .i64 k ∧ k ≤ s.floors.length ∧ Up wh wj) (fun i _ => s.floors.length - (intOf i).toNat)
      case atStart => exact ⟨0, rfl, Nat.zero_le _, Below.refl _ _⟩
      case round =>
        obtain ⟨k, rfl, hk, hu⟩ := hrel
        have Uhr := Lib.hid hu
        have Uj : Hid (Up wd wr) := Lib.hid (Up.trans Uh.out hu)
        clear hu c0 c1 c2 c3 c4
        by_cases hkl : k < s.floors.length
        · have q1 : (k : Int) < s.floors.length := by omega
          have ca := rowInt (A4.out.up Uhr.out) (i := k) (by omega)
          have cb := rowInt (B4.out.up Uhr.out) (i := k) (by omega)
          rw [va] at ca
          rw [vb] at cb
          have ll1 := cell_lt ca
          have ll2 := cell_lt cb
          obtain ⟨c0, c1, c2, c3, c4⟩ := five (BSd.out.up Uj.out)
          have HW1 := Lib.hid (fun W (u : Up wr W) => wet_n s y k s.lo (lvls s 62) s.floors.length gl g s.floors.length W OK.out (LSd.out.up (Up.trans Uj.out u)) hin.out (Row.of_blk (BGd.out.up (Up.trans Uj.out u))) hkl (by omega) (by omega))
          have HW2 := Lib.hid (fun W (u : Up wr W) => wet_n s y k s.hi (lvls s 62) s.floors.length gl g s.floors.length W OK.out (LSd.out.up (Up.trans Uj.out u)) hin.out (Row.of_blk (BGd.out.up (Up.trans Uj.out u))) hkl (by omega) (by omega))
          go_upto_region 22 with fail
          refine region_tail (fun W' => W'.cell? ⟨M, 0, none⟩ = some (.slice qT s.table.length dT) ∧ W'.cell? ⟨M, 1, none⟩ = some (.int .i64 s.lo) ∧ W'.cell? ⟨M, 2, none⟩ = some (.int .i64 s.hi) ∧ W'.cell? ⟨M, 3, none⟩ = some (.slice (some ⟨gF, oF, none⟩) s.floors.length dF) ∧ W'.cell? ⟨M, 4, none⟩ = some (.slice qS s.sills.length dS)) 18 mixed (by kernel_rfl) ⟨c0, c1, c2, c3, c4⟩ (fun hHeld => ?_)
          refine wpAnyG_take 0 137 (v := ?_) rfl rfl (by kernel_rfl) (fun _ _ _ h => h) (Or.inl ⟨by rfl, ?_⟩) (by assumption) ?_
          rotate_left
          · (intro w' hSw; (try dsimp only at hSw); go_split_ands; go_simp; try with_reducible rfl)
          try simp only [List.setIfInBounds_toArray, List.set_cons_zero, List.set_cons_succ]
          refine wpAnyG_take 1 138 (v := ?_) rfl rfl (by kernel_rfl) (fun _ _ _ h => h) (Or.inl ⟨by rfl, ?_⟩) (by assumption) ?_
          rotate_left
          · (intro w' hSw; (try dsimp only at hSw); go_split_ands; go_simp; try with_reducible rfl)
          try simp only [List.setIfInBounds_toArray, List.set_cons_zero, List.set_cons_succ]
          refine wpAnyG_take 2 139 (v := ?_) rfl rfl (by kernel_rfl) (fun _ _ _ h => h) (Or.inl ⟨by rfl, ?_⟩) (by assumption) ?_
          rotate_left
          · (intro w' hSw; (try dsimp only at hSw); go_split_ands; go_simp; try with_reducible rfl)
          try simp only [List.setIfInBounds_toArray, List.set_cons_zero, List.set_cons_succ]
          refine wpAnyG_take 3 140 (v := ?_) rfl rfl (by kernel_rfl) (fun _ _ _ h => h) (Or.inl ⟨by rfl, ?_⟩) (by assumption) ?_
          rotate_left
          · (intro w' hSw; (try dsimp only at hSw); go_split_ands; go_simp; try with_reducible rfl)
          try simp only [List.setIfInBounds_toArray, List.set_cons_zero, List.set_cons_succ]
          refine wpAnyG_take 4 141 (v := ?_) rfl rfl (by kernel_rfl) (fun _ _ _ h => h) (Or.inl ⟨by rfl, ?_⟩) (by assumption) ?_
          rotate_left
          · (intro w' hSw; (try dsimp only at hSw); go_split_ands; go_simp; try with_reducible rfl)
          try simp only [List.setIfInBounds_toArray, List.set_cons_zero, List.set_cons_succ]
          refine wpAnyG_take 5 142 (v := ?_) rfl rfl (by kernel_rfl) (fun _ _ _ h => h) (Or.inl ⟨by rfl, ?_⟩) (by assumption) ?_
          rotate_left
          · (intro w' hSw; (try dsimp only at hSw); go_split_ands; go_simp; try with_reducible rfl)
          try simp only [List.setIfInBounds_toArray, List.set_cons_zero, List.set_cons_succ]
          refine wpAnyG_take 6 143 (v := ?_) rfl rfl (by kernel_rfl) (fun _ _ _ h => h) (Or.inl ⟨by rfl, ?_⟩) (by assumption) ?_
          rotate_left
          · (intro w' hSw; (try dsimp only at hSw); go_split_ands; go_simp; try with_reducible rfl)
          try simp only [List.setIfInBounds_toArray, List.set_cons_zero, List.set_cons_succ]
          refine wpAnyG_take 8 145 (v := ?_) rfl rfl (by kernel_rfl) (fun _ _ _ h => h) (Or.inl ⟨by rfl, ?_⟩) (by assumption) ?_
          rotate_left
          · (intro w' hSw; (try dsimp only at hSw); go_split_ands; go_simp; try with_reducible rfl)
          try simp only [List.setIfInBounds_toArray, List.set_cons_zero, List.set_cons_succ]
          refine wpAnyG_take 9 146 (v := ?_) rfl rfl (by kernel_rfl) (fun _ _ _ h => h) (Or.inl ⟨by rfl, ?_⟩) (by assumption) ?_
          rotate_left
          · (intro w' hSw; (try dsimp only at hSw); go_split_ands; go_simp; try with_reducible rfl)
          try simp only [List.setIfInBounds_toArray, List.set_cons_zero, List.set_cons_succ]
          refine wpAnyG_take 10 147 (v := ?_) rfl rfl (by kernel_rfl) (fun _ _ _ h => h) (Or.inl ⟨by rfl, ?_⟩) (by assumption) ?_
          rotate_left
          · (intro w' hSw; (try dsimp only at hSw); go_split_ands; go_simp; try with_reducible rfl)
          try simp only [List.setIfInBounds_toArray, List.set_cons_zero, List.set_cons_succ]
          refine wpAnyG_take 11 148 (v := ?_) rfl rfl (by kernel_rfl) (fun _ _ _ h => h) (Or.inl ⟨by rfl, ?_⟩) (by assumption) ?_
          rotate_left
          · (intro w' hSw; (try dsimp only at hSw); go_split_ands; go_simp; try with_reducible rfl)
          try simp only [List.setIfInBounds_toArray, List.set_cons_zero, List.set_cons_succ]
          refine wpAnyG_take 12 149 (v := ?_) rfl rfl (by kernel_rfl) (fun _ _ _ h => h) (Or.inl ⟨by rfl, ?_⟩) (by assumption) ?_
          rotate_left
          · (intro w' hSw; (try dsimp only at hSw); go_split_ands; go_simp; try with_reducible rfl)
          try simp only [List.setIfInBounds_toArray, List.set_cons_zero, List.set_cons_succ]
          refine wpAnyG_take 13 150 (v := ?_) rfl rfl (by kernel_rfl) (fun _ _ _ h => h) (Or.inl ⟨by rfl, ?_⟩) (by assumption) ?_
          rotate_left
          · (intro w' hSw; (try dsimp only at hSw); go_split_ands; go_simp; try with_reducible rfl)
          try simp only [List.setIfInBounds_toArray, List.set_cons_zero, List.set_cons_succ]
          refine wpAnyG_take 14 151 (v := ?_) rfl rfl (by kernel_rfl) (fun _ _ _ h => h) (Or.inl ⟨by rfl, ?_⟩) (by assumption) ?_
          rotate_left
          · (intro w' hSw; (try dsimp only at hSw); go_split_ands; go_simp; try with_reducible rfl)
          try simp only [List.setIfInBounds_toArray, List.set_cons_zero, List.set_cons_succ]
          refine wpAnyG_do 7 rfl (by kernel_rfl) (fun K hK => ?_)
          rw [if_pos (by rfl)]
          go_simp
          refine (HW1.out _ ((Below.refl _ _).drew)).mono ?_
          rintro e wi ⟨he, vi⟩
          generalize hba : decide ((lvls s 62)[k]?.getD 0 < hgt s.table y + s.lo) = ba at he
          subst he
          have vi' : Up wr wi := Up.trans ((Below.refl _ _).drew) vi
          refine hK.out _ _ ⟨vi'.cellAt c0, vi'.cellAt c1, vi'.cellAt c2, vi'.cellAt c3, vi'.cellAt c4⟩ (fun hHeld => ?_)
          clear hK K
          refine wpAnyG_do 15 rfl (by kernel_rfl) (fun K hK => ?_)
          rw [if_pos (by rfl)]
          go_simp
          refine (HW2.out _ vi').mono ?_
          rintro e wj ⟨he, vj⟩
          generalize hbb : decide ((lvls s 62)[k]?.getD 0 < hgt s.table y + s.hi) = bb at he
          subst he
          have vj' : Up wr wj := Up.trans vi' vj
          refine hK.out _ _ ⟨vj'.cellAt c0, vj'.cellAt c1, vj'.cellAt c2, vj'.cellAt c3, vj'.cellAt c4⟩ (fun hHeld => ?_)
          clear hK K
          refine wpAnyG_take 16 21 (v := ?_) rfl rfl (by kernel_rfl) (fun _ _ _ h => h) (Or.inl ⟨by rfl, ?_⟩) (by assumption) ?_
          rotate_left
          · (intro w' hSw; (try dsimp only at hSw); go_split_ands; go_simp; try with_reducible rfl)
          try simp only [List.setIfInBounds_toArray, List.set_cons_zero, List.set_cons_succ]
          refine wpAnyG_take 17 22 (v := ?_) rfl rfl (by kernel_rfl) (fun _ _ _ h => h) (Or.inl ⟨by rfl, ?_⟩) (by assumption) ?_
          rotate_left
          · (intro w' hSw; (try dsimp only at hSw); go_split_ands; go_simp; try with_reducible rfl)
          try simp only [List.setIfInBounds_toArray, List.set_cons_zero, List.set_cons_succ]
          refine wpAnyG_tail (by kernel_rfl) ?_
          change wpList _ _ _ [] _ _
          have ca' := vj'.cellAt ca
          have cb' := vj'.cellAt cb
          have lc1 := cell_lt ca'
          have lc2 := cell_lt cb'
          have Uk := Lib.hid (Up.trans Uhr.out vj')
          have Uj' : Hid (Up wd wj) := Lib.hid (Up.trans Uh.out Uk.out)
          obtain ⟨d0, d1, d2, d3, d4⟩ := five (BSd.out.up Uj'.out)
          obtain ⟨n1, n2, n3⟩ := st_within GA.out (tr := tr) (z := (z1, z2)) k1 k2 k3 k4 OK.out hin.out hkl
          have e := st_law OK.out GA.out hin.out hkl
          have er := st_rng' (within s (z1, z2)) y k
          clear c0 c1 c2 c3 c4 ca cb ll1 ll2 hHeld vi vj vi' vj' HW1 HW2 Uj
          have lohi := OK.out.lohi
          by_cases hA : (lvls s 62)[k]?.getD 0 < hgt s.table y + s.lo
          · have hB : (lvls s 62)[k]?.getD 0 < hgt s.table y + s.hi := by omega
            have e1 : st s y k = 2 := by rw [e, if_pos hA]
            have e2 : st (within s (z1, z2)) y k = 2 := (n1 (by omega)).trans e1
            have hC := n3 e2
            rw [e1] at ca'
            rw [e1]
            rw [e2] at cb'
            rw [decide_eq_true hA] at hba; rw [decide_eq_true hB] at hbb; subst hba hbb
            clear e e1 e2 er n1 n2 n3 hA hB GA MK OKt LTd BT URd
            go_wp2_with fail
            refine (wet_n s y k tr (lvls s 62) s.floors.length gl g s.floors.length wj OK.out (LSd.out.up Uj'.out) hin.out (Row.of_blk (BGd.out.up Uj'.out)) hkl (by omega) (by omega)).mono ?_
            rintro e' wl ⟨he', ul⟩
            have Ul := Lib.hid (Up.trans Uk.out ul)
            clear ul
            rw [decide_eq_true hC] at he'
            subst he'
            go_wp2_with fail
            go_roundw
            case rel => exact ⟨k + 1, by go_num, by omega, Ul.out⟩
            case measure => simp [intOf]; omega
          · by_cases hB : (lvls s 62)[k]?.getD 0 < hgt s.table y + s.hi
            · have e1 : st s y k = 1 := by rw [e, if_neg hA, if_pos hB]
              rw [e1] at ca'
              rw [e1]
              rw [decide_eq_false hA] at hba; rw [decide_eq_true hB] at hbb; subst hba hbb
              rcases er with e2 | e2 | e2
              · have hC := n2 e2
                rw [e2] at cb'
                clear e e1 e2 n1 n2 n3 hA hB GA MK OKt LTd BT URd
                go_wp2_with fail
                refine (wet_n s y k tr (lvls s 62) s.floors.length gl g s.floors.length wj OK.out (LSd.out.up Uj'.out) hin.out (Row.of_blk (BGd.out.up Uj'.out)) hkl (by omega) (by omega)).mono ?_
                rintro e' wl ⟨he', ul⟩
                have Ul := Lib.hid (Up.trans Uk.out ul)
                clear ul
                rw [decide_eq_false (show ¬ (lvls s 62)[k]?.getD 0 < hgt s.table y + tr by omega)] at he'
                subst he'
                go_wp2_with fail
                go_roundw
                case rel => exact ⟨k + 1, by go_num, by omega, Ul.out⟩
                case measure => simp [intOf]; omega
              · rw [e2] at cb'
                clear e e1 e2 n1 n2 n3 hA hB GA MK OKt LTd BT URd
                go_wp2_with fail
                go_roundw
                case rel => exact ⟨k + 1, by go_num, by omega, Uk.out⟩
                case measure => simp [intOf]; omega
              · have hC := n3 e2
                rw [e2] at cb'
                clear e e1 e2 n1 n2 n3 hA hB GA MK OKt LTd BT URd
                go_wp2_with fail
                refine (wet_n s y k tr (lvls s 62) s.floors.length gl g s.floors.length wj OK.out (LSd.out.up Uj'.out) hin.out (Row.of_blk (BGd.out.up Uj'.out)) hkl (by omega) (by omega)).mono ?_
                rintro e' wl ⟨he', ul⟩
                have Ul := Lib.hid (Up.trans Uk.out ul)
                clear ul
                rw [decide_eq_true hC] at he'
                subst he'
                go_wp2_with fail
                go_roundw
                case rel => exact ⟨k + 1, by go_num, by omega, Ul.out⟩
                case measure => simp [intOf]; omega
            · have e1 : st s y k = 0 := by rw [e, if_neg hA, if_neg hB]
              have e2 : st (within s (z1, z2)) y k = 0 := (n1 (by omega)).trans e1
              have hC := n2 e2
              rw [e1] at ca'
              rw [e1]
              rw [e2] at cb'
              rw [decide_eq_false hA] at hba; rw [decide_eq_false hB] at hbb; subst hba hbb
              clear e e1 e2 er n1 n2 n3 hA hB GA MK OKt LTd BT URd
              go_wp2_with fail
              refine (wet_n s y k tr (lvls s 62) s.floors.length gl g s.floors.length wj OK.out (LSd.out.up Uj'.out) hin.out (Row.of_blk (BGd.out.up Uj'.out)) hkl (by omega) (by omega)).mono ?_
              rintro e' wl ⟨he', ul⟩
              have Ul := Lib.hid (Up.trans Uk.out ul)
              clear ul
              rw [decide_eq_false (show ¬ (lvls s 62)[k]?.getD 0 < hgt s.table y + tr by omega)] at he'
              subst he'
              go_wp2_with fail
              go_roundw
              case rel => exact ⟨k + 1, by go_num, by omega, Ul.out⟩
              case measure => simp [intOf]; omega
        · obtain rfl : k = s.floors.length := by omega
          go_wp2_with fail
          go_roundw
          case rel => exact ⟨y + 1, by go_num, by omega, by omega, Uj.out⟩
          case measure => simp [intOf]; omega
    · have Uw : Hid (Up w wf) := Lib.hid (Up.trans URd.out Uf.out)
      go_wp2_with fail
      refine (awake_c wf).mono ?_
      rintro e wq ⟨rfl, uq⟩
      have Uq : Hid (Up w wq) := Lib.hid (Up.trans Uw.out uq)
      clear uq
      go_wp2_with fail
      go_ret
      exact ⟨rfl, Uq.out⟩
end
end Go.Proofs.Ytcljkkojeleakaa
/- Slices of bytes, and bytes, that came in. -/
namespace Go.Proofs.Ytcljkkojeleakaa
section
open Go.ChangeShapes Go.WideShapes Go.ChangeAt Go.RowKit

section
variable {H : Type} {enc : TypeId × Value → H} {P : Program}
/-- a slice that came in, as rows of k cells -/
theorem open_rowsQ {w : World} {t e : TypeId} {fuel k : Nat} {Q : List Value → Prop} {v : Value} {x : DataW H × List MemPlace} (ht : P.underlying t = some (.slice e)) (hC : P.cellsOf e = k) (hk : 0 < k) (hQ : ∀ r, Q r → r.length = k)
    (hel : ∀ fuel cs y, DataW.trod enc P w 0 (fun _ => true) true fuel e cs = some y → Q cs) (h : DataW.trod enc P w 0 (fun _ => true) true fuel t [v] = some x) :
    ∃ p len cap rows, v = .slice p len cap ∧ len ≤ cap ∧ cap ≤ maxLen ∧ rows.length = len ∧ Row w p k rows ∧ (∀ r ∈ rows, Q r) ∧ ((x.1 = .nil ∧ cap = 0) ∨ ∃ el sp, x.1 = .slice el sp ∧ el.length + sp.length = cap) := by
  rcases Go.Deep.open_slice ht h with ⟨hv, rfl⟩ | ⟨a, len, cap, m, n, D, Pl, hv, -, hl, hm, hmm, rfl, hi⟩
  · simp only [List.cons.injEq, and_true] at hv
    exact ⟨none, 0, 0, [], hv, Nat.le_refl _, by simp [maxLen], rfl, fun i row hr => by simp at hr, fun r hr => by simp at hr, .inl ⟨rfl, rfl⟩⟩
  · simp only [List.cons.injEq, and_true] at hv
    simp only [if_true] at hmm
    subst hmm
    rw [hC] at hi
    have hch : ∀ i, ∃ cs, i < len → Q cs ∧ ∀ j c, cs[j]? = some c → w.cell? (a.add (i * k + j)) = some c := fun i => by
      by_cases hlt : i < len
      · obtain ⟨cs, hc, ht'⟩ := hi i (by omega)
        obtain ⟨-, hcl, hat⟩ := World.cells?_some hc
        refine ⟨cs, fun _ => ⟨hel _ _ _ ht', fun j c hj => ?_⟩⟩
        have hjl : j < k := by have := (List.getElem?_eq_some_iff.1 hj).1; omega
        rw [← Go.Deep.add_add, hat j hjl, hj]
      · exact ⟨[], fun h => absurd h hlt⟩
    obtain ⟨f, hf⟩ := Classical.axiomOfChoice hch
    refine ⟨some a, len, m, (List.range len).map f, hv, hl, hm, by simp, fun i row hr => ?_, fun r hr => ?_, .inr ⟨_, _, rfl, by simp; omega⟩⟩
    · rw [List.getElem?_map] at hr
      by_cases hlt : i < len
      · rw [List.getElem?_range hlt] at hr
        simp only [Option.map_some, Option.some.injEq] at hr
        subst hr
        obtain ⟨g2, g3⟩ := hf 0 (by omega)
        have g1 := hQ _ g2
        have h0 := g3 0 _ (List.getElem?_eq_getElem (by omega))
        have hs : a.spot = none := spot_of (by simpa [Addr.add] using h0)
        obtain ⟨b, off, sp⟩ := a
        simp only at hs
        subst hs
        refine ⟨b, off, rfl, fun j c hj => ?_⟩
        have := (hf i hlt).2 j c hj
        rwa [Addr.add_lit, ← Nat.add_assoc] at this
      · rw [List.getElem?_eq_none (by simp; omega)] at hr
        cases hr
    · simp only [List.mem_map, List.mem_range] at hr
      obtain ⟨i, hlt, rfl⟩ := hr
      exact (hf i hlt).1

/-- a row of one byte -/
def OneByte (r : List Value) : Prop := ∃ n, r = [.int .u8 n]
theorem bytes_of : ∀ {rows : List (List Value)}, (∀ r ∈ rows, OneByte r) → ∃ l : List Int, rows = bytes l
  | [], _ => ⟨[], rfl⟩
  | r :: rest, h => by
    obtain ⟨l, hl⟩ := bytes_of (rows := rest) (fun r hr => h r (by simp [hr]))
    obtain ⟨n, rfl⟩ := h r (by simp)
    exact ⟨n :: l, by rw [hl]; rfl⟩
theorem cellsByte : Try.prog.cellsOf 5 = 1 := by kernel_rfl
theorem bytesByte : Try.prog.bytesOf 5 = 1 := by kernel_rfl
set_option maxRecDepth 100000 in
theorem open_bytes {w : World} {base : Nat} {v : Value} {d : DataW H} {ps : List MemPlace} (hv : Value.okWide Try.prog w .any base 83 v) (h : DataW.Trod enc Try.prog w 0 (fun _ => true) true 83 v d ps) (hz : ∀ n ∈ DataW.weights Try.prog 83 d, n ≤ reachBytes) :
    ∃ p l c, v = .slice p l.length c ∧ Row w p 1 (bytes l) ∧ l.length ≤ 140737488355328 := by
  obtain ⟨fuel, hf⟩ := h
  obtain ⟨p0, n0, c0, rfl⟩ := okWide_slice Try.underlying83 hv
  have hf' : DataW.trod enc Try.prog w 0 (fun _ => true) true fuel 83 [.slice p0 n0 c0] = some (d, ps) := hf
  obtain ⟨p, len, cap, rows, e, a1, a2, a3, a4, a5, a6⟩ := open_rowsQ (Q := OneByte) Try.underlying83 cellsByte (by decide) (fun r ⟨n, e⟩ => by rw [e]; rfl) (fun fuel cs y hy => by
    obtain ⟨n, e, -, -⟩ := DataW.trod_int Try.underlying5 hy
    exact ⟨n, e⟩) hf'
  obtain ⟨l, rfl⟩ := bytes_of a5
  have q : (bytes l).length = l.length := by simp [bytes]
  rw [q] at a3
  subst a3
  have hr := room_of Try.underlying83 bytesByte a1 a6 hz
  exact ⟨p, l, cap, e, a4, by omega⟩
theorem byte_rng {n : Int} (h : (Lit.int .u8 n).wf = true) : 0 ≤ n ∧ n ≤ 255 := by
  simp [Lit.wf] at h
  have e1 : IntKind.u8.min = 0 := rfl
  have e2 : IntKind.u8.max = 255 := rfl
  omega
end
end
end Go.Proofs.Ytcljkkojeleakaa
namespace Go.Proofs.Ytcljkkojeleakaa
section
open Go.ChangeShapes Go.WideShapes Go.ChangeAt Go.RowKit

set_option maxRecDepth 100000 in
theorem told_contract (H : Type) (enc : TypeId × Value → H) (W : World) (base : Nat) (args : Array Value) (ds gs : List (DataW H)) (before : List MemPlace)
    (hval : ∀ (j : Nat) t v, Try.f8.params[j]? = some t → args[j]? = some v → Value.okWide Try.prog W .any base t v)
    (hW : DataW.Whole enc Try.prog Try.f8.params.toList Rows.tideToldSpec.vars false W args.toList ds gs before)
    (hsz0 : (DataW.weightsEach Try.prog (Try.f8.params.toList ++ Rows.tideToldSpec.plain.varTypes Try.prog) (ds ++ gs)).all (· ≤ reachBytes) = true) :
    Calls Try.prog 8 args W fun e W' => ∃ v, e = .returned v ∧ Rows.tideToldSpec.post enc Try.prog Try.f8 false true false false W args v W' := by
  have hW' := hW
  obtain ⟨p, q, hA0, hV, rfl, -, -⟩ := hW
  have hA : DataW.TrodAll enc Try.prog W 0 (fun _ => true) true Try.f8.params.toList args.toList ds p := hA0
  rw [Try.params8] at hA hval
  obtain ⟨v0, vs0, d0, ds0, p0, q0, hargs, rfl, rfl, h0, r0⟩ := trodAll_cons hA
  obtain ⟨v1, vs1, d1, ds1, p1, q1, rfl, rfl, rfl, h1, r1⟩ := trodAll_cons r0
  obtain ⟨rfl, rfl, rfl⟩ := trodAll_nil r1
  obtain rfl : args = #[v0, v1] := by cases args; simp_all
  obtain ⟨rfl, rfl⟩ := trodVars_none hV
  have hz : ∀ n ∈ DataW.weights Try.prog 83 d0, n ≤ reachBytes := fun n hn => by
    have := List.all_eq_true.1 hsz0 n (DataW.weights_mem_each (j := 0) (t := 83) rfl rfl n hn)
    simpa using this
  have hz' : ∀ n ∈ DataW.weights Try.prog 83 d1, n ≤ reachBytes := fun n hn => by
    have := List.all_eq_true.1 hsz0 n (DataW.weights_mem_each (j := 1) (t := 83) rfl rfl n hn)
    simpa using this
  obtain ⟨pb, l, c, rfl, hr, hl⟩ := open_bytes (hval 0 _ v0 rfl rfl) h0 hz
  obtain ⟨pb', l', c', rfl, hr', hl'⟩ := open_bytes (hval 1 _ v1 rfl rfl) h1 hz'
  refine (toldLaw_c l l' W hr hr' hl hl').mono fun e W' ⟨he, hbl⟩ => ?_
  exact ⟨_, he, law_post hW' rfl laidOut (by kernel_rfl) rfl Try.underlying4 ⟨rfl, rfl, rfl⟩ hbl⟩

set_option maxRecDepth 100000 in
theorem told_lifted (os : Os) (started : os.Started) (H : Type) (enc : TypeId × Value → H) :
    ReturnsInHanded {} Try.checked os 8 .any (Rows.tideToldSpec.pre6 enc Try.prog Try.f8 Rows.tideToldRow.domain false) (Rows.tideToldSpec.post enc Try.prog Try.f8 false true false false) := by
  refine returnsInHanded_of_change_sized (C := Try.checked) own started (by kernel_rfl) Try.func8
    (ChangeSpec.witness6 (enc := enc) (C := Try.checked) false ⟨#[], #[.slice none 0 0, .slice none 0 0], []⟩ 8 (by kernel_rfl) (by kernel_rfl) (by kernel_rfl) (by kernel_rfl)) ?_
  intro W base args ds gs before hval hW _ hsz _
  exact told_contract H enc W base args ds gs before hval hW hsz

theorem told_holds : Rows.TideToldSaid :=
  OpenClaim.holds_of_wide 8 Try.f8 rfl rfl rfl rfl rfl rfl rfl ⟨rfl, rfl, rfl, rfl, rfl⟩ rfl rfl rfl rfl rfl (by kernel_rfl) Try.func8 (by kernel_rfl)
    (of_decide_eq_true (by kernel_rfl)) (by unfold Func.isWrapper; first | (rw [if_pos (by decide +kernel)]; kernel_rfl) | (rw [if_neg (by decide +kernel)]; exact ⟨rfl, rfl⟩))
    (fun os started H enc _ => told_lifted os started H enc)
#print axioms told_holds
end
end Go.Proofs.Ytcljkkojeleakaa
