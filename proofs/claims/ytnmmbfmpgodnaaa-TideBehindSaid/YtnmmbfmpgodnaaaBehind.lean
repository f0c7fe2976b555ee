/- Proved: whatever numbers and minute are passed in, the law TideBehind returns true, and all arguments read behind the call as they read before it. Conditions: none but those that the given row states of itself. -/
import Derived.Test.YtnmmbfmpgodnaaaBegin2
import Derived.Test.YtnmmbfmpgodnaaaOut1
import Derived.Test.YtnmmbfmpgodnaaaAll
import Derived.Test.YtnmmbfmpgodnaaaState2
import Derived.Test.YtnmmbfmpgodnaaaShifts
import Derived.Test.YtnmmbfmpgodnaaaTurn
import Derived.Test.YtnmmbfmpgodnaaaHold
import Derived.Test.YtnmmbfmpgodnaaaOpen
import Derived.Test.YtnmmbfmpgodnaaaHeap
import Derived.Test.YtnmmbfmpgodnaaaBase
import Derived.Test.YtnmmbfmpgodnaaaHeight
import Derived.Test.YtnmmbfmpgodnaaaChk2
import Derived.Test.YtnmmbfmpgodnaaaPost
import Derived.Test.YtnmmbfmpgodnaaaAwake
import Derived.WalkKit
import Derived.WalkSpells
import Derived.WalkLawsBesides
import Derived.Deep.QuietTactic
import Derived.BigQuiet
import Derived.Lib.Hide
import Derived.Shelf.Abstract
import Derived.BigGuardPart
import Derived.RangeFuncNested
import Derived.RangeFuncBound
import Derived.RangeFuncCalls
import Derived.RangeFuncLeaves
import Derived.Shelf.RegionOpen
import Derived.OwnWalkIn
import Derived.TacticsInMore
import Derived.LoopNIn
import Derived.LoopIn
import Derived.StillTailTactics
import Derived.Deep.RegionHeld3
import Derived.StillTail
import Derived.RangeFuncWrites
import Derived.Laws.StructEq
import Derived.Deep.LoopGhost
import Derived.IntWalk
import Derived.Carry
import Derived.ChangeSame
import Derived.SizedLaws
import Derived.ProofKit
import Derived.OpenShut
import Derived.JoinedOf
import Derived.Deep.Slices
import Derived.RangeFuncBox
import Derived.ArgAppend
import Derived.Laws.CopyOwn
import Derived.OwnWalk
import Derived.Lib.SliceRun
import Derived.Maps.OwnOps
import Derived.Maps.OwnSet
import Derived.Deep.AppendSrc
import Derived.Deep.Upon
import Derived.Deep.Cut
import Derived.Deep.DeepCutAuto
/- Plain facts: the lowering of gates as a row of updates; gates of raised sands, and of sands with one sill more. -/
namespace Go.Proofs.Ytnmmbfmpgodnaaa
section
open Go.RowKit

/-- what a sill lowers that leads on from a place: which gate, and to what at most -/
def up1 (F : List Int) (f : Int) (x : Int × Int × Int) : Option (Nat × Int) :=
  if 0 ≤ other x f ∧ (other x f).toNat < F.length then some ((other x f).toNat, grt [x.2.2, F[(other x f).toNat]?.getD 0]) else none
def ap1 (g : List Int) (u : Nat × Int) : List Int := g.set u.1 (min (g[u.1]?.getD 0) u.2)
def ap2 (f : Nat) (g : List Int) (u : Nat × Int) : List Int := g.set u.1 (min (g[u.1]?.getD 0) (grt [g[f]?.getD 0, u.2]))

/-- a lead as an update -/
def ofLead (s : Sd) (x : Lead s.sills.length s.floors.length) : Nat × Int := (x.1.2, grt [(s.sills[x.1.1]'x.2.1).2.2, s.floors[x.1.2]'x.2.2])
theorem lead1_up (s : Sd) (f : Int) (i : Nat) : (lead1 s.sills s.floors.length f i).map (ofLead s) = if i < s.sills.length then up1 s.floors f (s.sills[i]?.getD (0, 0, 0)) else none := by
  unfold lead1 up1
  by_cases hi : i < s.sills.length
  · rw [if_pos hi]
    have e : s.sills[i] = s.sills[i]?.getD (0, 0, 0) := by rw [List.getElem?_eq_getElem hi]; rfl
    by_cases h : 0 ≤ other (s.sills[i]?.getD (0, 0, 0)) f ∧ (other (s.sills[i]?.getD (0, 0, 0)) f).toNat < s.floors.length
    · rw [dif_pos ⟨hi, h⟩, if_pos h]
      simp only [Option.map_some, ofLead]
      rw [e, List.getElem?_eq_getElem h.2, Option.getD_some]
    · rw [dif_neg (fun h' => h h'.2), if_neg h]; rfl
  · rw [if_neg hi, dif_neg (fun h' => hi h'.1)]; rfl
theorem fm_congr {α β : Type} {l : List α} {f g : α → Option β} (h : ∀ x ∈ l, f x = g x) : l.filterMap f = l.filterMap g := by
  induction l with
  | nil => rfl
  | cons a r ih => rw [List.filterMap_cons, List.filterMap_cons, h a (by simp), ih (fun x hx => h x (by simp [hx]))]
theorem filterMap_range {α β : Type} (l : List α) (d : α) (q : α → Option β) : (List.range l.length).filterMap (fun i => if i < l.length then q (l[i]?.getD d) else none) = l.filterMap q := by
  have e : l = (List.range l.length).map (fun i => l[i]?.getD d) := by
    apply List.ext_getElem
    · simp
    · intro i h1 h2; simp [List.getElem?_eq_getElem h1]
  conv => rhs; rw [e]
  rw [List.filterMap_map]
  apply fm_congr
  intro i hi
  rw [List.mem_range] at hi
  simp [hi]
theorem leads_up (s : Sd) (f : Int) : (leads s.sills s.floors.length f s.sills.length).map (ofLead s) = s.sills.filterMap (up1 s.floors f) := by
  unfold leads
  rw [List.map_filterMap, ← filterMap_range s.sills (0, 0, 0)]
  apply fm_congr
  intro i _
  exact lead1_up s f i
theorem lowSea_up (s : Sd) (g : List Int) : lowSea s g = (s.sills.filterMap (up1 s.floors (-1))).foldl ap1 g := by
  unfold lowSea
  rw [← leads_up, List.foldl_map]
  rfl
theorem lowFrom_up (s : Sd) (f : Nat) (g : List Int) : lowFrom s g f = (s.sills.filterMap (up1 s.floors f)).foldl (ap2 f) g := by
  unfold lowFrom
  rw [← leads_up, List.foldl_map]
  rfl

theorem grt2 (a b : Int) : grt [a, b] = max (max 0 a) b := rfl

/-- gates that are as low, or lower -/
def Leq (g g' : List Int) : Prop := g.length = g'.length ∧ ∀ i : Nat, g[i]?.getD 0 ≤ g'[i]?.getD 0 ∧ (g[i]?.getD 0 < 1050 → g'[i]?.getD 0 < 1050)
theorem Leq.refl (g : List Int) : Leq g g := ⟨rfl, fun _ => ⟨Int.le_refl _, id⟩⟩
theorem Leq.set {a b : List Int} (h : Leq a b) (t : Nat) {c d : Int} (hc : c ≤ d) (hd : c < 1050 → d < 1050) : Leq (a.set t (min (a[t]?.getD 0) c)) (b.set t (min (b[t]?.getD 0) d)) := by
  refine ⟨by simp [h.1], fun i => ?_⟩
  have h1 := h.2 i
  have h0 := h.1
  rw [List.getElem?_set, List.getElem?_set]
  by_cases hi : t = i
  · subst hi
    by_cases hl : t < a.length
    · have hl' : t < b.length := by omega
      simp only [if_true, hl, hl', Option.getD_some]
      omega
    · have hl' : ¬ t < b.length := by omega
      simp [hl, hl']
  · rw [if_neg hi, if_neg hi]; exact h1

/-- sills of which some are higher, and floors -/
inductive HiS : List (Int × Int × Int) → List (Int × Int × Int) → Prop
  | nil : HiS [] []
  | cons {a b h h' : Int} {r r' : List (Int × Int × Int)} : h ≤ h' → h' ≤ 999 → HiS r r' → HiS ((a, b, h) :: r) ((a, b, h') :: r')
def HiF (F F' : List Int) : Prop := F.length = F'.length ∧ ∀ i : Nat, F[i]?.getD 0 ≤ F'[i]?.getD 0 ∧ F'[i]?.getD 0 ≤ 999
theorem HiS.refl : ∀ {l : List (Int × Int × Int)}, (∀ x ∈ l, x.2.2 ≤ 999) → HiS l l
  | [], _ => .nil
  | (a, b, h) :: r, k => .cons (Int.le_refl _) (k (a, b, h) (by simp)) (HiS.refl (fun x hx => k x (by simp [hx])))
theorem HiS.at : ∀ {l : List (Int × Int × Int)} (i : Nat) (d : Int) (hi : i < l.length), 0 ≤ d → (∀ x ∈ l, x.2.2 ≤ 999) → l[i].2.2 + d ≤ 999 → HiS l (l.set i (l[i].1, l[i].2.1, l[i].2.2 + d))
  | (a, b, h) :: r, 0, d, _, h0, k, k9 => .cons (show h ≤ h + d by omega) k9 (HiS.refl (fun x hx => k x (by simp [hx])))
  | (a, b, h) :: r, i + 1, d, hi, h0, k, k9 => by
    have hi' : i < r.length := by simpa using hi
    exact .cons (Int.le_refl _) (k (a, b, h) (by simp)) (HiS.at i d hi' h0 (fun x hx => k x (by simp [hx])) (by simpa using k9))
theorem HiF.refl {F : List Int} (h : ∀ x ∈ F, x ≤ 999) : HiF F F := ⟨rfl, fun i => ⟨Int.le_refl _, by
  by_cases hi : i < F.length
  · rw [List.getElem?_eq_getElem hi]; exact h _ (List.getElem_mem _)
  · rw [List.getElem?_eq_none (by omega)]; decide⟩⟩
theorem HiF.at {F : List Int} (i : Nat) (d : Int) (hi : i < F.length) (d0 : 0 ≤ d) (h : ∀ x ∈ F, x ≤ 999) (h9 : F[i] + d ≤ 999) : HiF F (F.set i (F[i] + d)) := by
  refine ⟨by simp, fun j => ?_⟩
  have k := (HiF.refl h).2 j
  rw [List.getElem?_set]
  by_cases hj : i = j
  · subst hj
    rw [if_pos rfl, if_pos hi, List.getElem?_eq_getElem hi]
    simp only [Option.getD_some]
    omega
  · rw [if_neg hj]; exact k

theorem hi_ap1 {F F' : List Int} (hF : HiF F F') (f : Int) {l l' : List (Int × Int × Int)} (hS : HiS l l') : ∀ {g g' : List Int}, Leq g g' → Leq ((l.filterMap (up1 F f)).foldl ap1 g) ((l'.filterMap (up1 F' f)).foldl ap1 g') := by
  induction hS with
  | nil => exact fun h => h
  | @cons a b h h' r r' hh h9 _ ih =>
    intro g g' hg
    have eo : other (a, b, h') f = other (a, b, h) f := rfl
    by_cases hc : 0 ≤ other (a, b, h) f ∧ (other (a, b, h) f).toNat < F.length
    · have e1 : up1 F f (a, b, h) = some ((other (a, b, h) f).toNat, grt [h, F[(other (a, b, h) f).toNat]?.getD 0]) := if_pos hc
      have e2 : up1 F' f (a, b, h') = some ((other (a, b, h) f).toNat, grt [h', F'[(other (a, b, h) f).toNat]?.getD 0]) := if_pos (by rw [← hF.1]; exact hc)
      rw [List.filterMap_cons_some e1, List.filterMap_cons_some e2, List.foldl_cons, List.foldl_cons]
      refine ih (hg.set _ ?_ ?_)
      · have := hF.2 (other (a, b, h) f).toNat
        simp only [grt2]; omega
      · have := hF.2 (other (a, b, h) f).toNat
        simp only [grt2]; omega
    · have e1 : up1 F f (a, b, h) = none := if_neg hc
      have e2 : up1 F' f (a, b, h') = none := if_neg (by rw [← hF.1]; exact hc)
      rw [List.filterMap_cons_none e1, List.filterMap_cons_none e2]
      exact ih hg
theorem hi_ap2 {F F' : List Int} (hF : HiF F F') (f : Nat) {l l' : List (Int × Int × Int)} (hS : HiS l l') : ∀ {g g' : List Int}, Leq g g' → Leq ((l.filterMap (up1 F f)).foldl (ap2 f) g) ((l'.filterMap (up1 F' f)).foldl (ap2 f) g') := by
  induction hS with
  | nil => exact fun h => h
  | @cons a b h h' r r' hh h9 _ ih =>
    intro g g' hg
    have eo : other (a, b, h') f = other (a, b, h) f := rfl
    by_cases hc : 0 ≤ other (a, b, h) f ∧ (other (a, b, h) f).toNat < F.length
    · have e1 : up1 F f (a, b, h) = some ((other (a, b, h) f).toNat, grt [h, F[(other (a, b, h) f).toNat]?.getD 0]) := if_pos hc
      have e2 : up1 F' f (a, b, h') = some ((other (a, b, h) f).toNat, grt [h', F'[(other (a, b, h) f).toNat]?.getD 0]) := if_pos (by rw [← hF.1]; exact hc)
      rw [List.filterMap_cons_some e1, List.filterMap_cons_some e2, List.foldl_cons, List.foldl_cons]
      have h1 := hF.2 (other (a, b, h) f).toNat
      have h2 := hg.2 f
      refine ih (hg.set _ ?_ ?_)
      · simp only [grt2]; omega
      · simp only [grt2]; omega
    · have e1 : up1 F f (a, b, h) = none := if_neg hc
      have e2 : up1 F' f (a, b, h') = none := if_neg (by rw [← hF.1]; exact hc)
      rw [List.filterMap_cons_none e1, List.filterMap_cons_none e2]
      exact ih hg
theorem hi_lowered {s t : Sd} (hF : HiF s.floors t.floors) (hS : HiS s.sills t.sills) {g g' : List Int} (hg : Leq g g') : Leq (lowered s g) (lowered t g') := by
  unfold lowered
  rw [← hF.1]
  have h0 : Leq (lowSea s g) (lowSea t g') := by rw [lowSea_up, lowSea_up]; exact hi_ap1 hF _ hS hg
  generalize lowSea s g = a at *
  generalize lowSea t g' = b at *
  generalize List.range s.floors.length = l
  induction l generalizing a b with
  | nil => exact h0
  | cons x r ih =>
    refine ih _ _ ?_
    rw [lowFrom_up, lowFrom_up]
    exact hi_ap2 hF _ hS h0

/-- lowered so many times -/
def iterG (s : Sd) : Nat → List Int → List Int
  | 0, g => g
  | n + 1, g => iterG s n (lowered s g)
theorem iterG_fix {s : Sd} {g : List Int} (h : lowered s g = g) : ∀ n, iterG s n g = g
  | 0 => rfl
  | n + 1 => by unfold iterG; rw [h]; exact iterG_fix h n
theorem fixG_iter (s : Sd) : ∀ n g, fixG s n g = iterG s n g
  | 0, g => rfl
  | n + 1, g => by
    unfold fixG
    split
    · next h => exact (iterG_fix h (n + 1)).symm
    · exact fixG_iter s n _
theorem hi_iter {s t : Sd} (hF : HiF s.floors t.floors) (hS : HiS s.sills t.sills) : ∀ n {g g' : List Int}, Leq g g' → Leq (iterG s n g) (iterG t n g')
  | 0, _, _, h => h
  | n + 1, _, _, h => hi_iter hF hS n (hi_lowered hF hS h)
theorem hi_gts {s t : Sd} (hF : HiF s.floors t.floors) (hS : HiS s.sills t.sills) : Leq (gts s) (gts t) := by
  unfold gts
  rw [fixG_iter, fixG_iter]
  exact hi_iter hF hS _ (Leq.refl _)

/-- with one sill more -/
def Geq (g g' : List Int) : Prop := g.length = g'.length ∧ ∀ i : Nat, g'[i]?.getD 0 ≤ g[i]?.getD 0
theorem Geq.set {a b : List Int} (h : Geq a b) (t : Nat) {c d : Int} (hc : d ≤ c) : Geq (a.set t (min (a[t]?.getD 0) c)) (b.set t (min (b[t]?.getD 0) d)) := by
  refine ⟨by simp [h.1], fun i => ?_⟩
  have h1 := h.2 i
  have h0 := h.1
  rw [List.getElem?_set, List.getElem?_set]
  by_cases hi : t = i
  · subst hi
    by_cases hl : t < a.length
    · have hl' : t < b.length := by omega
      simp only [if_true, hl, hl', Option.getD_some]
      omega
    · have hl' : ¬ t < b.length := by omega
      simp [hl, hl']
  · rw [if_neg hi, if_neg hi]; exact h1
theorem Geq.right {a b : List Int} (h : Geq a b) (t : Nat) (d : Int) : Geq a (b.set t (min (b[t]?.getD 0) d)) := by
  refine ⟨by simp [h.1], fun i => ?_⟩
  have h1 := h.2 i
  rw [List.getElem?_set]
  by_cases hi : t = i
  · subst hi
    by_cases hl : t < b.length
    · simp only [if_true, hl, Option.getD_some]
      omega
    · have hl' : ¬ t < a.length := by have := h.1; omega
      simp [hl, hl']
  · rw [if_neg hi]; exact h1
theorem more_ap1 (F : List Int) (f : Int) (l e : List (Int × Int × Int)) {g g' : List Int} (hg : Geq g g') : Geq ((l.filterMap (up1 F f)).foldl ap1 g) (((l ++ e).filterMap (up1 F f)).foldl ap1 g') := by
  rw [List.filterMap_append, List.foldl_append]
  have h0 : Geq ((l.filterMap (up1 F f)).foldl ap1 g) ((l.filterMap (up1 F f)).foldl ap1 g') := by
    generalize l.filterMap (up1 F f) = k
    induction k generalizing g g' with
    | nil => exact hg
    | cons x r ih => exact ih (hg.set _ (Int.le_refl _))
  generalize (l.filterMap (up1 F f)).foldl ap1 g = a at *
  generalize (l.filterMap (up1 F f)).foldl ap1 g' = b at *
  generalize e.filterMap (up1 F f) = k
  induction k generalizing b with
  | nil => exact h0
  | cons x r ih => exact ih _ (h0.right _ _)
theorem more_ap2 (F : List Int) (f : Nat) (l e : List (Int × Int × Int)) {g g' : List Int} (hg : Geq g g') : Geq ((l.filterMap (up1 F f)).foldl (ap2 f) g) (((l ++ e).filterMap (up1 F f)).foldl (ap2 f) g') := by
  rw [List.filterMap_append, List.foldl_append]
  have h0 : Geq ((l.filterMap (up1 F f)).foldl (ap2 f) g) ((l.filterMap (up1 F f)).foldl (ap2 f) g') := by
    generalize l.filterMap (up1 F f) = k
    induction k generalizing g g' with
    | nil => exact hg
    | cons x r ih =>
      refine ih (hg.set _ ?_)
      have := hg.2 f
      simp only [grt2]; omega
  generalize (l.filterMap (up1 F f)).foldl (ap2 f) g = a at *
  generalize (l.filterMap (up1 F f)).foldl (ap2 f) g' = b at *
  generalize e.filterMap (up1 F f) = k
  induction k generalizing b with
  | nil => exact h0
  | cons x r ih => exact ih _ (h0.right _ _)
theorem more_lowered {s t : Sd} {e : List (Int × Int × Int)} (hF : t.floors = s.floors) (hS : t.sills = s.sills ++ e) {g g' : List Int} (hg : Geq g g') : Geq (lowered s g) (lowered t g') := by
  unfold lowered
  rw [hF]
  have h0 : Geq (lowSea s g) (lowSea t g') := by rw [lowSea_up, lowSea_up, hF, hS]; exact more_ap1 _ _ _ _ hg
  generalize lowSea s g = a at *
  generalize lowSea t g' = b at *
  generalize List.range s.floors.length = l
  induction l generalizing a b with
  | nil => exact h0
  | cons x r ih =>
    refine ih _ _ ?_
    rw [lowFrom_up, lowFrom_up, hF, hS]
    exact more_ap2 _ _ _ _ h0
theorem more_iter {s t : Sd} {e : List (Int × Int × Int)} (hF : t.floors = s.floors) (hS : t.sills = s.sills ++ e) : ∀ n {g g' : List Int}, Geq g g' → Geq (iterG s n g) (iterG t n g')
  | 0, _, _, h => h
  | n + 1, _, _, h => more_iter hF hS n (more_lowered hF hS h)
theorem more_gts {s t : Sd} {e : List (Int × Int × Int)} (hF : t.floors = s.floors) (hS : t.sills = s.sills ++ e) : Geq (gts s) (gts t) := by
  unfold gts
  rw [fixG_iter, fixG_iter]
  exact more_iter hF hS _ ⟨rfl, fun _ => Int.le_refl _⟩

/-- no gate is above 1050 -/
theorem iter_less (s : Sd) : ∀ n {g : List Int}, Less top g → Less top (iterG s n g)
  | 0, _, h => h
  | n + 1, g, h => iter_less s n (h.trans (lowered_less s g (fun i => (h.2 i).1)))
theorem gts_le (s : Sd) (p : Nat) : 0 ≤ gateOf s p ∧ gateOf s p ≤ 1050 := by
  have h : Less top (gts s) := by
    unfold gts
    rw [fixG_iter]
    exact iter_less s _ (Less.refl top_nonneg)
  have h1 := h.2 p
  have h2 : top[p]?.getD 0 ≤ 1050 := by
    unfold top
    rw [List.getElem?_replicate]
    split <;> simp
  unfold gateOf
  omega
theorem hasWay_lt (s : Sd) (p : Nat) : hasWayB s p = decide (gateOf s p < 1050) := by
  have hg := gts_le s p
  unfold gateOf at hg ⊢
  unfold hasWayB
  generalize (gts s)[p]?.getD 0 = g at *
  by_cases h : g = 1050
  · subst h; rfl
  · rw [decide_eq_true (show g < 1050 by omega), bne_iff_ne]; exact h

section
variable {s t : Sd}
theorem errFor_in (ok : Ok s) {x : Int} (h : 0 ≤ x ∧ x < s.floors.length) : errFor s x = 0 := by
  unfold errFor
  rw [if_pos (chk_zero ok)]
  have : isPl s x = true := inB_true.2 (by omega)
  rw [this]; rfl
theorem errGate_in (ok : Ok s) {x : Int} (h : 0 ≤ x ∧ x < s.floors.length) : errGate s x = if gateOf s x.toNat < 1050 then 0 else 6 := by
  unfold errGate
  rw [if_pos (errFor_in ok h), hasWay_lt]
  by_cases h : gateOf s x.toNat < 1050 <;> simp [h]
theorem gateV_in (ok : Ok s) {x : Int} (h : 0 ≤ x ∧ x < s.floors.length) : gateV s x = if gateOf s x.toNat < 1050 then gateOf s x.toNat else 0 := by
  unfold gateV
  rw [errGate_in ok h]
  by_cases h : gateOf s x.toNat < 1050 <;> simp [h]
/-- raised: the same errors, no lesser gates, no greater states -/
theorem hi_gate (ok : Ok s) (ok' : Ok t) (hF : HiF s.floors t.floors) (hS : HiS s.sills t.sills) {x : Int} (h : 0 ≤ x ∧ x < s.floors.length) : errGate t x = errGate s x ∧ gateV s x ≤ gateV t x := by
  have h' : 0 ≤ x ∧ x < t.floors.length := by rw [← hF.1]; exact h
  have k := (hi_gts hF hS).2 x.toNat
  rw [errGate_in ok h, errGate_in ok' h', gateV_in ok h, gateV_in ok' h']
  unfold gateOf at *
  by_cases c : (gts s)[x.toNat]?.getD 0 < 1050
  · have c' := k.2 c
    rw [if_pos c, if_pos c', if_pos c, if_pos c']
    exact ⟨rfl, k.1⟩
  · have c' : ¬ (gts t)[x.toNat]?.getD 0 < 1050 := by omega
    rw [if_neg c, if_neg c', if_neg c, if_neg c']
    exact ⟨rfl, Int.le_refl _⟩
theorem hi_st (hF : HiF s.floors t.floors) (hS : HiS s.sills t.sills) (hT : t.table = s.table) (hl : t.lo = s.lo) (hh : t.hi = s.hi) (m : Int) (p : Nat) : st t m p ≤ st s m p := by
  have k := (hi_gts hF hS).2 p
  unfold st gateOf
  rw [hT, hl, hh]
  repeat' split
  all_goals omega
theorem more_gate {e : List (Int × Int × Int)} (ok : Ok s) (ok' : Ok t) (hF : t.floors = s.floors) (hS : t.sills = s.sills ++ e) {x : Int} (h : 0 ≤ x ∧ x < s.floors.length) : errGate s x = 0 → errGate t x = 0 ∧ gateV t x ≤ gateV s x := by
  have h' : 0 ≤ x ∧ x < t.floors.length := by rw [hF]; exact h
  have k := (more_gts hF hS).2 x.toNat
  rw [errGate_in ok h, errGate_in ok' h', gateV_in ok h, gateV_in ok' h']
  unfold gateOf at *
  by_cases c : (gts s)[x.toNat]?.getD 0 < 1050
  · have c' : (gts t)[x.toNat]?.getD 0 < 1050 := by omega
    rw [if_pos c, if_pos c', if_pos c, if_pos c']
    exact fun _ => ⟨rfl, k⟩
  · rw [if_neg c]
    exact fun h => by cases h
theorem more_st {e : List (Int × Int × Int)} (hF : t.floors = s.floors) (hS : t.sills = s.sills ++ e) (hT : t.table = s.table) (hl : t.lo = s.lo) (hh : t.hi = s.hi) (m : Int) (p : Nat) : st s m p ≤ st t m p := by
  have k := (more_gts hF hS).2 p
  unfold st gateOf
  rw [hT, hl, hh]
  repeat' split
  all_goals omega
end
end
end Go.Proofs.Ytnmmbfmpgodnaaa
/- The exported At: the state of a place at a minute, or the error. -/
namespace Go.Proofs.Ytnmmbfmpgodnaaa
open Go.RowKit Go.Shelf

def errHere (s : Sd) (m x : Int) : Int := if errAt s m = 0 then (bif isPl s x then 0 else 1) else errAt s m
def atV (s : Sd) (m x : Int) : Int := if errHere s m x = 0 then st s m x.toNat else 0
section
variable {pT pF pS : Option Addr} {cT cF cS : Nat}

set_option maxRecDepth 100000 in
set_option maxHeartbeats 1000000 in
theorem At_c (s : Sd) (m x : Int) (w : World) (hl : Lists w s pT pF pS cT cF cS) :
    Calls Try.prog 41 #[sdVal s pT pF pS cT cF cS, .int .i64 m, .int .i64 x] w fun e w' => e = .returned (.tuple #[.int .i64 (atV s m x), .int .i64 (errHere s m x)]) ∧ Up w w' := by
  have HC := Lib.hid (fun W (u : Up w W) => beginAt_c s m W (hl.up u))
  unfold atV errHere
  clear hl
  by_cases hE : errAt s m = 0
  · obtain ⟨hc, hm, -⟩ := errAt_zero hE
    have hf8 := (chk_ok hc).fl1
    have HO := Lib.hid (chk_ok hc)
    rw [if_pos hE]
    rw [hE] at HC
    unfold sdVal at *
    cases hp : isPl s x with
    | false =>
      have hp' : inB x 0 (s.floors.length - 1) = false := hp
      go_enter Try.func41, Try.ntmps41
      go_wp2_with fail
      refine (HC.out _ (by (repeat (first | exact Below.refl _ _ | (with_reducible refine Below.drewN' ?_ _) | (with_reducible refine Below.drew ?_) | (with_reducible refine Below.setCell ?_ (by first | exact Nat.le_refl _ | omega | (with_reducible (repeat (first | refine sz_alloc ?_ | refine sz_setCell ?_ | refine sz_drew ?_ | refine sz_drewN ?_)); first | exact Nat.le_refl _ | omega) | (simp only [World.size_alloc, World.size_setCell, World.size_drew, size_drewN']; omega)) _) | (with_reducible refine Below.alloc ?_ (by first | exact Nat.le_refl _ | omega | (with_reducible (repeat (first | refine sz_alloc ?_ | refine sz_setCell ?_ | refine sz_drew ?_ | refine sz_drewN ?_)); first | exact Nat.le_refl _ | omega) | (simp only [World.size_alloc, World.size_setCell, World.size_drew, size_drewN']; omega)) _) | assumption)))).mono ?_
      rintro e w1 ⟨p, rfl, u1, hok⟩
      obtain ⟨bw, rfl, hW⟩ := hok rfl
      have U1 := Lib.hid (Up.trans (show Up w (w.alloc (.cells (sdCells s pT pF pS cT cF cS).toArray 28)) by (repeat (first | exact Below.refl _ _ | (with_reducible refine Below.drewN' ?_ _) | (with_reducible refine Below.drew ?_) | (with_reducible refine Below.setCell ?_ (by first | exact Nat.le_refl _ | omega | (with_reducible (repeat (first | refine sz_alloc ?_ | refine sz_setCell ?_ | refine sz_drew ?_ | refine sz_drewN ?_)); first | exact Nat.le_refl _ | omega) | (simp only [World.size_alloc, World.size_setCell, World.size_drew, size_drewN']; omega)) _) | (with_reducible refine Below.alloc ?_ (by first | exact Nat.le_refl _ | omega | (with_reducible (repeat (first | refine sz_alloc ?_ | refine sz_setCell ?_ | refine sz_drew ?_ | refine sz_drewN ?_)); first | exact Nat.le_refl _ | omega) | (simp only [World.size_alloc, World.size_setCell, World.size_drew, size_drewN']; omega)) _) | assumption))) u1)
      have HW := Lib.hid hW
      clear hok hW u1 HC
      go_wp2_with fail
      refine (isPlace_c bw _ _ _ x _ HW.out.sands.s3 (by simp only [maxLen]; omega)).mono ?_
      rintro e w2 ⟨he, rfl⟩
      rw [hp'] at he
      subst he
      go_wp2_with fail
      go_ret2
      exact ⟨rfl, U1.out⟩
    | true =>
      have hp' : inB x 0 (s.floors.length - 1) = true := hp
      obtain ⟨x0, x1⟩ := inB_true.1 hp'
      obtain ⟨k, rfl⟩ : ∃ k : Nat, x = k := ⟨x.toNat, by omega⟩
      go_enter Try.func41, Try.ntmps41
      go_wp2_with fail
      refine (HC.out _ (by (repeat (first | exact Below.refl _ _ | (with_reducible refine Below.drewN' ?_ _) | (with_reducible refine Below.drew ?_) | (with_reducible refine Below.setCell ?_ (by first | exact Nat.le_refl _ | omega | (with_reducible (repeat (first | refine sz_alloc ?_ | refine sz_setCell ?_ | refine sz_drew ?_ | refine sz_drewN ?_)); first | exact Nat.le_refl _ | omega) | (simp only [World.size_alloc, World.size_setCell, World.size_drew, size_drewN']; omega)) _) | (with_reducible refine Below.alloc ?_ (by first | exact Nat.le_refl _ | omega | (with_reducible (repeat (first | refine sz_alloc ?_ | refine sz_setCell ?_ | refine sz_drew ?_ | refine sz_drewN ?_)); first | exact Nat.le_refl _ | omega) | (simp only [World.size_alloc, World.size_setCell, World.size_drew, size_drewN']; omega)) _) | assumption)))).mono ?_
      rintro e w1 ⟨p, rfl, u1, hok⟩
      obtain ⟨bw, rfl, hW⟩ := hok rfl
      have U1 := Lib.hid (Up.trans (show Up w (w.alloc (.cells (sdCells s pT pF pS cT cF cS).toArray 28)) by (repeat (first | exact Below.refl _ _ | (with_reducible refine Below.drewN' ?_ _) | (with_reducible refine Below.drew ?_) | (with_reducible refine Below.setCell ?_ (by first | exact Nat.le_refl _ | omega | (with_reducible (repeat (first | refine sz_alloc ?_ | refine sz_setCell ?_ | refine sz_drew ?_ | refine sz_drewN ?_)); first | exact Nat.le_refl _ | omega) | (simp only [World.size_alloc, World.size_setCell, World.size_drew, size_drewN']; omega)) _) | (with_reducible refine Below.alloc ?_ (by first | exact Nat.le_refl _ | omega | (with_reducible (repeat (first | refine sz_alloc ?_ | refine sz_setCell ?_ | refine sz_drew ?_ | refine sz_drewN ?_)); first | exact Nat.le_refl _ | omega) | (simp only [World.size_alloc, World.size_setCell, World.size_drew, size_drewN']; omega)) _) | assumption))) u1)
      have HW := Lib.hid hW
      clear hok hW u1 HC
      go_wp2_with fail
      refine (isPlace_c bw _ _ _ (k : Int) _ HW.out.sands.s3 (by simp only [maxLen]; omega)).mono ?_
      rintro e w2 ⟨he, rfl⟩
      rw [hp'] at he
      subst he
      go_wp2_with fail
      refine (state_c bw s m k _ HW.out HO.out hm (by omega)).mono ?_
      rintro e w2 ⟨rfl, u2⟩
      have U2 := Lib.hid (Up.trans U1.out u2)
      clear u2
      go_wp2_with fail
      go_ret2
      exact ⟨rfl, U2.out⟩
  · have hne : (errAt s m != 0) = true := by rw [bne_iff_ne]; exact hE
    rw [if_neg hE, if_neg hE]
    clear hE
    unfold sdVal at *
    go_enter Try.func41, Try.ntmps41
    go_wp2_with fail
    refine (HC.out _ (by (repeat (first | exact Below.refl _ _ | (with_reducible refine Below.drewN' ?_ _) | (with_reducible refine Below.drew ?_) | (with_reducible refine Below.setCell ?_ (by first | exact Nat.le_refl _ | omega | (with_reducible (repeat (first | refine sz_alloc ?_ | refine sz_setCell ?_ | refine sz_drew ?_ | refine sz_drewN ?_)); first | exact Nat.le_refl _ | omega) | (simp only [World.size_alloc, World.size_setCell, World.size_drew, size_drewN']; omega)) _) | (with_reducible refine Below.alloc ?_ (by first | exact Nat.le_refl _ | omega | (with_reducible (repeat (first | refine sz_alloc ?_ | refine sz_setCell ?_ | refine sz_drew ?_ | refine sz_drewN ?_)); first | exact Nat.le_refl _ | omega) | (simp only [World.size_alloc, World.size_setCell, World.size_drew, size_drewN']; omega)) _) | assumption)))).mono ?_
    rintro e w1 ⟨p, rfl, u1, -⟩
    have U1 := Lib.hid (Up.trans (show Up w (w.alloc (.cells (sdCells s pT pF pS cT cF cS).toArray 28)) by (repeat (first | exact Below.refl _ _ | (with_reducible refine Below.drewN' ?_ _) | (with_reducible refine Below.drew ?_) | (with_reducible refine Below.setCell ?_ (by first | exact Nat.le_refl _ | omega | (with_reducible (repeat (first | refine sz_alloc ?_ | refine sz_setCell ?_ | refine sz_drew ?_ | refine sz_drewN ?_)); first | exact Nat.le_refl _ | omega) | (simp only [World.size_alloc, World.size_setCell, World.size_drew, size_drewN']; omega)) _) | (with_reducible refine Below.alloc ?_ (by first | exact Nat.le_refl _ | omega | (with_reducible (repeat (first | refine sz_alloc ?_ | refine sz_setCell ?_ | refine sz_drew ?_ | refine sz_drewN ?_)); first | exact Nat.le_refl _ | omega) | (simp only [World.size_alloc, World.size_setCell, World.size_drew, size_drewN']; omega)) _) | assumption))) u1)
    clear u1 HC
    go_wp2_with fail
    go_ret2
    exact ⟨rfl, U1.out⟩
end
end Go.Proofs.Ytnmmbfmpgodnaaa
/- Plain facts: until when a run of minutes lasts; places that are reached over the sills that may be taken; a place behind another one has no lesser gate. -/
namespace Go.Proofs.Ytnmmbfmpgodnaaa
section
open Go.RowKit

theorem turnIn_append (l r : List (Int × Int)) (m : Int) : turnIn (l ++ r) m = (turnIn l m).or (turnIn r m) := by
  induction l with
  | nil => simp [turnIn]
  | cons x l ih =>
    rw [List.cons_append, turnIn_cons, turnIn_cons, ih]
    split <;> simp
theorem turnIn_past {l : List (Int × Int)} {m : Int} (h : ∀ x ∈ l, x.2 < m) : turnIn l m = none := by
  induction l with
  | nil => rfl
  | cons x l ih =>
    have := h x (by simp)
    rw [turnIn_cons, if_neg (by omega), ih (fun y hy => h y (by simp [hy]))]

/-- a run from a minute on ends at t -/
def RunTo (f : Int → Bool) (e m t : Int) : Prop := m ≤ t ∧ t < e ∧ (∀ x, m ≤ x → x ≤ t → f x = true) ∧ (t + 1 < e → f (t + 1) = false)
structure SpI (f : Int → Bool) (a : Int) (k : Nat) (st : List (Int × Int) × Int × Bool) : Prop where
  run : st.2.2 = true → a ≤ st.2.1 ∧ st.2.1 < a + k ∧ ∀ x, st.2.1 ≤ x → x < a + k → f x = true
  ends : ∀ x ∈ st.1, x.2 + 1 < a + k ∧ (st.2.2 = true → x.2 < st.2.1)
  some' : ∀ m t, a ≤ m → m < a + k → turnIn st.1 m = some t → m ≤ t ∧ t + 1 < a + k ∧ (∀ x, m ≤ x → x ≤ t → f x = true) ∧ f (t + 1) = false
  none' : ∀ m, a ≤ m → m < a + k → turnIn st.1 m = none → f m = true → st.2.2 = true ∧ st.2.1 ≤ m
theorem spI (f : Int → Bool) (a : Int) : ∀ k, SpI f a k (spSt f a k)
  | 0 => ⟨(by intro h; cases h), (by simp [spSt]), fun m t h1 h2 => (by omega), fun m h1 h2 => (by omega)⟩
  | k + 1 => by
    have h := spI f a k
    obtain ⟨h1, h2, h3, h4⟩ := h
    unfold spSt
    generalize spSt f a k = st at *
    obtain ⟨l, fr, o⟩ := st
    dsimp only at h1 h2 h3 h4 ⊢
    have past : turnIn l (a + k) = none := turnIn_past (fun x hx => by have := (h2 x hx).1; omega)
    by_cases hf : f (a + k) = true
    · rw [if_pos hf]
      cases o with
      | true =>
        obtain ⟨r1, r2, r3⟩ := h1 rfl
        rw [if_pos rfl]
        refine ⟨fun _ => ⟨r1, by show fr < a + ((k + 1 : Nat) : Int); omega, fun x x1 x2 => ?_⟩, fun x hx => ?_, fun m t m1 m2 ht => ?_, fun m m1 m2 ht hm => ?_⟩
        · by_cases hx : x = a + k
          · rw [hx]; exact hf
          · exact r3 x x1 (by omega)
        · have := h2 x hx
          exact ⟨by omega, this.2⟩
        · by_cases hm : m = a + k
          · rw [hm] at ht; rw [show turnIn l (a + k) = none from past] at ht; cases ht
          · obtain ⟨t1, t2, t3, t4⟩ := h3 m t m1 (by omega) ht
            exact ⟨t1, by omega, t3, t4⟩
        · by_cases hm' : m = a + k
          · exact ⟨rfl, by show fr ≤ m; omega⟩
          · exact h4 m m1 (by omega) ht hm
      | false =>
        rw [if_neg (by decide)]
        refine ⟨fun _ => ⟨by show a ≤ a + (k : Int); omega, by show a + (k : Int) < a + ((k + 1 : Nat) : Int); omega, fun x x1 x2 => ?_⟩, fun x hx => ?_, fun m t m1 m2 ht => ?_, fun m m1 m2 ht hm => ?_⟩
        · have x1' : a + (k : Int) ≤ x := x1
          rw [show x = a + k by omega]; exact hf
        · have := (h2 x hx).1
          exact ⟨by omega, fun _ => by show x.2 < a + (k : Int); omega⟩
        · by_cases hm : m = a + k
          · rw [hm] at ht; rw [show turnIn l (a + k) = none from past] at ht; cases ht
          · obtain ⟨t1, t2, t3, t4⟩ := h3 m t m1 (by omega) ht
            exact ⟨t1, by omega, t3, t4⟩
        · by_cases hm' : m = a + k
          · exact ⟨rfl, by show a + (k : Int) ≤ m; omega⟩
          · have := (h4 m m1 (by omega) ht hm).1; cases this
    · rw [if_neg hf]
      have hf' : f (a + k) = false := by simpa using hf
      cases o with
      | true =>
        obtain ⟨r1, r2, r3⟩ := h1 rfl
        rw [if_pos rfl]
        have one : ∀ m, turnIn [(fr, a + (k : Int) - 1)] m = if fr ≤ m ∧ m ≤ a + k - 1 then some (a + (k : Int) - 1) else none := fun m => by rw [turnIn_cons]; rfl
        refine ⟨(by intro h; cases h), fun x hx => ?_, fun m t m1 m2 ht => ?_, fun m m1 m2 ht hm => ?_⟩
        · refine ⟨?_, (by intro h; cases h)⟩
          rw [List.mem_append, List.mem_singleton] at hx
          rcases hx with hx | rfl
          · have := (h2 x hx).1; omega
          · show a + (k : Int) - 1 + 1 < _; omega
        · have ht' : (turnIn l m).or (turnIn [(fr, a + (k : Int) - 1)] m) = some t := by rw [← turnIn_append]; exact ht
          have hk1 : m ≠ a + k ∨ m = a + k := by omega
          rcases hk1 with hm | hm
          · cases hl : turnIn l m with
            | some t' =>
              rw [hl, Option.some_or] at ht'
              cases ht'
              obtain ⟨t1, t2, t3, t4⟩ := h3 m t m1 (by omega) hl
              exact ⟨t1, by omega, t3, t4⟩
            | none =>
              rw [hl, Option.none_or, one] at ht'
              split at ht'
              · next hc =>
                cases ht'
                refine ⟨hc.2, by omega, fun x x1 x2 => r3 x (by omega) (by omega), ?_⟩
                rw [show a + (k : Int) - 1 + 1 = a + k by omega]; exact hf'
              · cases ht'
          · rw [hm, past, Option.none_or, one, if_neg (by omega)] at ht'; cases ht'
        · have ht' : (turnIn l m).or (turnIn [(fr, a + (k : Int) - 1)] m) = none := by rw [← turnIn_append]; exact ht
          have hk1 : m ≠ a + k ∨ m = a + k := by omega
          rcases hk1 with hm' | hm'
          · cases hl : turnIn l m with
            | some t' => rw [hl, Option.some_or] at ht'; cases ht'
            | none =>
              rw [hl, Option.none_or, one] at ht'
              have := h4 m m1 (by omega) hl hm
              rw [if_pos (by omega)] at ht'; cases ht'
          · rw [hm', hf'] at hm; cases hm
      | false =>
        rw [if_neg (by decide)]
        refine ⟨(by intro h; cases h), fun x hx => ⟨?_, (by intro h; cases h)⟩, fun m t m1 m2 ht => ?_, fun m m1 m2 ht hm => ?_⟩
        · have := (h2 x hx).1; omega
        · by_cases hm : m = a + k
          · rw [hm] at ht; rw [show turnIn l (a + k) = none from past] at ht; cases ht
          · obtain ⟨t1, t2, t3, t4⟩ := h3 m t m1 (by omega) ht
            exact ⟨t1, by omega, t3, t4⟩
        · by_cases hm' : m = a + k
          · rw [hm', hf'] at hm; cases hm
          · exact h4 m m1 (by omega) ht hm
theorem turn_run (f : Int → Bool) (a : Int) (n : Nat) (m : Int) (h0 : a ≤ m) (h1 : m < a + n) :
    (f m = true → ∃ t, turnIn (spansOf f a n) m = some t ∧ RunTo f (a + n) m t) ∧ (f m = false → turnIn (spansOf f a n) m = none) := by
  obtain ⟨i1, i2, i3, i4⟩ := spI f a n
  unfold spansOf
  generalize spSt f a n = st at *
  obtain ⟨l, fr, o⟩ := st
  dsimp only at i1 i2 i3 i4 ⊢
  have inl : ∀ t, turnIn l m = some t → RunTo f (a + n) m t := fun t ht => by
    obtain ⟨t1, t2, t3, t4⟩ := i3 m t h0 h1 ht
    exact ⟨t1, by omega, t3, fun _ => t4⟩
  cases o with
  | true =>
    obtain ⟨r1, r2, r3⟩ := i1 rfl
    rw [if_pos rfl, turnIn_append]
    have one : turnIn [(fr, a + (n : Int) - 1)] m = if fr ≤ m ∧ m ≤ a + n - 1 then some (a + (n : Int) - 1) else none := by rw [turnIn_cons]; rfl
    cases hl : turnIn l m with
    | some t =>
      have hr := inl t hl
      refine ⟨fun _ => ⟨t, by rw [Option.some_or], hr⟩, fun hm => ?_⟩
      rw [hr.2.2.1 m (Int.le_refl _) hr.1] at hm; cases hm
    | none =>
      rw [Option.none_or, one]
      refine ⟨fun hm => ?_, fun hm => ?_⟩
      · have := (i4 m h0 h1 hl hm).2
        refine ⟨a + n - 1, if_pos (by omega), by omega, by omega, fun x x1 x2 => r3 x (by omega) (by omega), fun h => by omega⟩
      · by_cases hc : fr ≤ m
        · rw [r3 m hc h1] at hm; cases hm
        · rw [if_neg (by omega)]
  | false =>
    rw [if_neg (by decide)]
    cases hl : turnIn l m with
    | some t =>
      have hr := inl t hl
      refine ⟨fun _ => ⟨t, rfl, hr⟩, fun hm => ?_⟩
      rw [hr.2.2.1 m (Int.le_refl _) hr.1] at hm; cases hm
    | none =>
      refine ⟨fun hm => ?_, fun _ => rfl⟩
      have := (i4 m h0 h1 hl hm).1; cases this
theorem RunTo.le {f g : Int → Bool} {e m t u : Int} (h : RunTo f e m t) (k : RunTo g e m u) (hfg : ∀ x, g x = true → f x = true) : u ≤ t := by
  obtain ⟨h1, h2, h3, h4⟩ := h
  obtain ⟨k1, k2, k3, k4⟩ := k
  by_cases hc : t < u
  · have := h4 (by omega)
    rw [hfg _ (k3 (t + 1) (by omega) (by omega))] at this; cases this
  · omega
theorem fitB_one (s : Sd) (p : Int) (pd : Int → Bool) (m : Int) : fitB s [p] pd m = pd (st s m p.toNat) := by simp [fitB]
section
variable {s : Sd}
/-- until when one can stay -/
theorem turn_in (ok : Ok s) {x : Int} (hx : 0 ≤ x ∧ x < s.floors.length) {m : Int} (hm : inDay s m = true) :
    (st s m x.toNat = 0 → errTurn s x m = 0 ∧ RunTo (fun y => st s y x.toNat == 0) (lastM s.table + 1) m (turnV s x m)) ∧ (st s m x.toNat ≠ 0 → errTurn s x m = 6) := by
  obtain ⟨f0, f1, f2⟩ := firstM_lt ok.table
  obtain ⟨m0, m1⟩ : firstM s.table ≤ m ∧ m ≤ lastM s.table := inB_true.1 hm
  have hd : firstM s.table + (dayN s : Int) = lastM s.table + 1 := by unfold dayN; omega
  have k := turn_run (dryB s [x]) (firstM s.table) (dayN s) m m0 (by omega)
  rw [hd] at k
  have e : dryB s [x] = fun y => st s y x.toNat == 0 := by funext y; unfold dryB; rw [fitB_one]
  unfold errTurn turnV drySpans
  rw [if_pos (errFor_in ok hx), if_pos hm, if_pos (errFor_in ok hx), if_pos hm]
  rw [e] at k ⊢
  refine ⟨fun h => ?_, fun h => ?_⟩
  · obtain ⟨t, ht, hr⟩ := k.1 (by simp [h])
    rw [ht]
    exact ⟨rfl, hr⟩
  · rw [k.2 (by simp [h])]
end

section
variable {s : Sd} {may : Nat → Nat → Bool}
theorem wayAt_nat (ws : Ways) (t : Nat) : wayAt ws (t : Int) = ws[t]?.getD none := rfl
/-- which places are reached -/
abbrev Got (ws : Ways) (t : Nat) : Prop := ∃ l, ws[t]? = some (some l)
theorem leadW_got {way : List Int} {nS nF : Nat} (st : Ways × List Int) (x : Lead nS nF) (t : Nat) (h : Got st.1 t) : Got (leadW may way st x).1 t := by
  unfold leadW
  split
  · next hc =>
    obtain ⟨l, hl⟩ := h
    by_cases e : x.1.2 = t
    · rw [e] at hc; rw [hl] at hc; exact absurd hc.1 (by simp)
    · exact ⟨l, by show (st.1.set _ _)[t]? = _; rw [List.getElem?_set_ne e]; exact hl⟩
  · exact h
theorem leadW_que {way : List Int} {nS nF : Nat} (st : Ways × List Int) (x : Lead nS nF) (t : Nat) (h : (t : Int) ∈ st.2) : (t : Int) ∈ (leadW may way st x).2 := by
  unfold leadW
  split
  · exact List.mem_append_left _ h
  · exact h
theorem leadW_new' {way : List Int} {nS nF : Nat} (st : Ways × List Int) (x : Lead nS nF) (t : Nat) (h : Got (leadW may way st x).1 t) : Got st.1 t ∨ (t : Int) ∈ (leadW may way st x).2 ∧ may x.1.1 t = true := by
  unfold leadW at h ⊢
  split at h
  · next hc =>
    rw [if_pos hc]
    by_cases e : x.1.2 = t
    · exact Or.inr ⟨by rw [← e]; simp, by rw [← e]; exact hc.2⟩
    · obtain ⟨l, hl⟩ := h
      rw [show (st.1.set x.1.2 (some (way ++ [(x.1.1 : Int)])))[t]? = st.1[t]? from List.getElem?_set_ne e] at hl
      exact Or.inl ⟨l, hl⟩
  · exact Or.inl h
theorem leadW_done {way : List Int} {nS nF : Nat} (st : Ways × List Int) (x : Lead nS nF) (h8 : nF ≤ 8) (hl : st.1.length = 8) (hm : may x.1.1 x.1.2 = true) : Got (leadW may way st x).1 x.1.2 := by
  have hx := x.2.2
  have hlt : x.1.2 < st.1.length := by omega
  unfold leadW
  split
  · exact ⟨_, by show (st.1.set _ _)[_]? = _; rw [List.getElem?_set_self hlt]⟩
  · next hc =>
    cases e : st.1[x.1.2] with
    | none => exact absurd ⟨by rw [List.getElem?_eq_getElem hlt, e], hm⟩ hc
    | some l => exact ⟨l, by rw [List.getElem?_eq_getElem hlt, e]⟩
theorem leadW_len {way : List Int} {nS nF : Nat} (st : Ways × List Int) (x : Lead nS nF) : (leadW may way st x).1.length = st.1.length := by
  unfold leadW
  split
  · simp
  · rfl
/-- behind a row of leads -/
theorem led_all {way : List Int} {nS nF : Nat} (h8 : nF ≤ 8) : ∀ (l : List (Lead nS nF)) (st : Ways × List Int), st.1.length = 8 →
    (l.foldl (leadW may way) st).1.length = 8 ∧ (∀ t, Got st.1 t → Got (l.foldl (leadW may way) st).1 t) ∧ (∀ t : Nat, (t : Int) ∈ st.2 → (t : Int) ∈ (l.foldl (leadW may way) st).2) ∧
    (∀ t, Got (l.foldl (leadW may way) st).1 t → Got st.1 t ∨ (t : Int) ∈ (l.foldl (leadW may way) st).2 ∧ ∃ i, may i t = true) ∧ (∀ x ∈ l, may x.1.1 x.1.2 = true → Got (l.foldl (leadW may way) st).1 x.1.2)
  | [], st, hl => ⟨hl, fun _ h => h, fun _ h => h, fun _ h => Or.inl h, fun x hx => by simp at hx⟩
  | y :: r, st, hl => by
    obtain ⟨h1, h2, h3, h4, h5⟩ := led_all (way := way) h8 r (leadW may way st y) (by rw [leadW_len]; exact hl)
    rw [List.foldl_cons]
    refine ⟨h1, fun t h => h2 t (leadW_got st y t h), fun t h => h3 t (leadW_que st y t h), fun t h => ?_, fun x hx hm => ?_⟩
    · rcases h4 t h with h | h
      · rcases leadW_new' st y t h with h | ⟨h, hm⟩
        · exact Or.inl h
        · exact Or.inr ⟨h3 t h, y.1.1, hm⟩
      · exact Or.inr h
    · rcases List.mem_cons.1 hx with rfl | hx
      · exact h2 _ (leadW_done st x h8 hl hm)
      · exact h5 x hx hm

/-- closed: what is led to from the Sea, or from places that were reached and are done, is reached -/
structure Shut (s : Sd) (may : Nat → Nat → Bool) (st : Ways × List Int) : Prop where
  len : st.1.length = 8
  sea : ∀ x ∈ leads s.sills s.floors.length (-1) s.sills.length, may x.1.1 x.1.2 = true → Got st.1 x.1.2
  on : ∀ f : Nat, Got st.1 f → (f : Int) ∈ st.2 ∨ ∀ x ∈ leads s.sills s.floors.length f s.sills.length, may x.1.1 x.1.2 = true → Got st.1 x.1.2
  may' : ∀ t, Got st.1 t → ∃ i, may i t = true
  few : st.2.length + nones st.1 ≤ 8
  nat : ∀ y ∈ st.2, 0 ≤ y ∧ y < s.floors.length
theorem Shut.start (h8 : s.floors.length ≤ 8) : Shut s may (ledW s may (-1) [] (List.replicate 8 none, [])) := by
  obtain ⟨h1, h2, h3, h4, h5⟩ := led_all (way := []) (may := may) h8 (leads s.sills s.floors.length (-1) s.sills.length) (List.replicate 8 none, []) rfl
  have no : ∀ t, ¬ Got (List.replicate 8 (none : Option (List Int))) t := fun t ⟨l, hl⟩ => by
    rw [List.getElem?_replicate] at hl
    split at hl <;> cases hl
  obtain ⟨k1, k2⟩ := foldW_keeps (may := may) (way := []) (leads s.sills s.floors.length (-1) s.sills.length) (List.replicate 8 none, [])
  refine ⟨h1, h5, fun f hf => ?_, fun t ht => ?_, ?_, fun y hy => ?_⟩
  · rcases h4 f hf with h | h
    · exact absurd h (no f)
    · exact Or.inl h.1
  · rcases h4 t ht with h | h
    · exact absurd h (no t)
    · exact h.2
  · unfold ledW
    rw [k1]
    decide
  · rcases k2 y hy with h | h
    · simp at h
    · exact h
theorem Shut.next (h8 : s.floors.length ≤ 8) {ws : Ways} {x : Int} {q : List Int} (h : Shut s may (ws, x :: q)) (way : List Int) : Shut s may (ledW s may x way (ws, q)) ∧ (ledW s may x way (ws, q)).2.length + nones (ledW s may x way (ws, q)).1 + 1 = (x :: q).length + nones ws := by
  obtain ⟨h1, h2, h3, h4, h5⟩ := led_all (way := way) (may := may) h8 (leads s.sills s.floors.length x s.sills.length) (ws, q) h.len
  obtain ⟨k1, k2⟩ := foldW_keeps (may := may) (way := way) (leads s.sills s.floors.length x s.sills.length) (ws, q)
  have hc : (ledW s may x way (ws, q)).2.length + nones (ledW s may x way (ws, q)).1 + 1 = (x :: q).length + nones ws := by
    unfold ledW
    rw [k1]
    simp only [List.length_cons]; omega
  have hx := h.nat x (by simp)
  refine ⟨⟨h1, fun y hy hm => h2 _ (h.sea y hy hm), fun f hf => ?_, fun t ht => ?_, ?_, fun y hy => ?_⟩, hc⟩
  · by_cases e : (f : Int) = x
    · subst e
      exact Or.inr (fun y hy hm => h5 y hy hm)
    · rcases h4 f hf with hg | hg
      · rcases h.on f hg with hq | hq
        · rcases List.mem_cons.1 hq with h' | h'
          · exact absurd h' e
          · exact Or.inl (h3 f h')
        · exact Or.inr (fun y hy hm => h2 _ (hq y hy hm))
      · exact Or.inl hg.1
  · rcases h4 t ht with hg | hg
    · exact h.may' t hg
    · exact hg.2
  · have := h.few
    simp only at this
    omega
  · rcases k2 y hy with hg | hg
    · exact h.nat y (by simp; exact Or.inr hg)
    · exact hg
theorem goW_shut (h8 : s.floors.length ≤ 8) : ∀ n (st : Ways × List Int), Shut s may st → st.2.length + nones st.1 ≤ n → Shut s may (goW s may n st) ∧ (goW s may n st).2 = []
  | 0, (ws, q), h, hn => by
    have : q = [] := List.length_eq_zero_iff.1 (by simp only at hn; omega)
    subst this
    exact ⟨h, rfl⟩
  | n + 1, (ws, []), h, _ => ⟨h, rfl⟩
  | n + 1, (ws, x :: q), h, hn => by
    obtain ⟨k1, k2⟩ := h.next h8 ((wayAt ws x).getD [])
    refine goW_shut h8 n _ k1 ?_
    simp only at hn
    omega
theorem waysOf_shut (h8 : s.floors.length ≤ 8) : (∀ x ∈ leads s.sills s.floors.length (-1) s.sills.length, may x.1.1 x.1.2 = true → Got (waysOf s may) x.1.2) ∧
    (∀ f : Nat, Got (waysOf s may) f → ∀ x ∈ leads s.sills s.floors.length f s.sills.length, may x.1.1 x.1.2 = true → Got (waysOf s may) x.1.2) ∧ (∀ t, Got (waysOf s may) t → ∃ i, may i t = true) := by
  obtain ⟨h, hq⟩ := goW_shut (s := s) (may := may) h8 8 _ (Shut.start h8) (Shut.start h8).few
  refine ⟨h.sea, fun f hf => ?_, h.may'⟩
  rcases h.on f hf with hm | hm
  · rw [hq] at hm; simp at hm
  · exact hm
end

section
variable {s : Sd}
/-- no lesser than the gate of q at places that are not reached without going over q -/
def Beh (U : Nat → Prop) (q : Nat) (g : List Int) : Prop := ∀ x, x < g.length → U x → g[q]?.getD 0 ≤ g[x]?.getD 0
theorem Beh.set {U : Nat → Prop} {q : Nat} {g : List Int} (h : Beh U q g) (t : Nat) (c : Int) (hc : t ≠ q → U t → g[q]?.getD 0 ≤ c) : Beh U q (g.set t (min (g[t]?.getD 0) c)) := by
  intro x hx hu
  rw [List.length_set] at hx
  have k := h x hx hu
  rw [List.getElem?_set, List.getElem?_set]
  by_cases e1 : t = q
  · subst e1
    by_cases e2 : t = x
    · subst e2; exact Int.le_refl _
    · rw [if_pos rfl, if_neg e2]
      by_cases hl : t < g.length
      · rw [if_pos hl, Option.getD_some]; omega
      · rw [if_neg hl]
        rw [List.getElem?_eq_none (by omega)] at k
        exact k
  · rw [if_neg e1]
    by_cases e2 : t = x
    · subst e2
      have := hc e1 hu
      rw [if_pos rfl, if_pos hx, Option.getD_some]; omega
    · rw [if_neg e2]; exact k
theorem beh_low1 {U : Nat → Prop} {q : Nat} : ∀ (l : List (Lead s.sills.length s.floors.length)) (g : List Int), (∀ x ∈ l, x.1.2 ≠ q → ¬ U x.1.2) → Beh U q g → Beh U q (l.foldl (low1 s) g)
  | [], _, _, h => h
  | x :: r, g, hu, h => beh_low1 r (low1 s g x) (fun y hy => hu y (by simp [hy])) (h.set _ _ (fun ht hU => absurd hU (hu x (by simp) ht)))
theorem beh_low2 {U : Nat → Prop} {q f : Nat} (hf : f < 8) : ∀ (l : List (Lead s.sills.length s.floors.length)) (g : List Int), g.length = 8 → (∀ x ∈ l, x.1.2 ≠ q → U x.1.2 → U f) → Beh U q g → Beh U q (l.foldl (low2 s f) g)
  | [], _, _, _, h => h
  | x :: r, g, hl, hu, h => beh_low2 hf r (low2 s f g x) (by simp [low2, hl]) (fun y hy => hu y (by simp [hy])) (h.set _ _ (fun ht hU => by
      have := h f (by omega) (hu x (by simp) ht hU)
      rw [grt2]; omega))
theorem beh_froms {U : Nat → Prop} {q : Nat} : ∀ (l : List Nat) (g : List Int), g.length = 8 → (∀ f ∈ l, f < 8 ∧ ∀ x ∈ leads s.sills s.floors.length f s.sills.length, x.1.2 ≠ q → U x.1.2 → U f) → Beh U q g → Beh U q (l.foldl (lowFrom s) g)
  | [], _, _, _, h => h
  | f :: r, g, hl, hu, h => beh_froms r (lowFrom s g f) (low2_len s f _ _ hl) (fun y hy => hu y (by simp [hy])) (beh_low2 (hu f (by simp)).1 _ _ hl (hu f (by simp)).2 h)
theorem behind_gts (h8 : s.floors.length ≤ 8) (q p : Nat) (hp : p < 8) (hn : ¬ Got (waysOf s (mayHold [] [(q : Int)])) p) : gateOf s q ≤ gateOf s p := by
  obtain ⟨w1, w2, w3⟩ := waysOf_shut (s := s) (may := mayHold [] [(q : Int)]) h8
  have may : ∀ i t, t ≠ q → mayHold [] [(q : Int)] i t = true := fun i t h => by simp [mayHold]; omega
  generalize hU : waysOf s (mayHold [] [(q : Int)]) = ws at *
  have key : ∀ n (g : List Int), g.length = 8 → Beh (fun x => ¬ Got ws x) q g → Beh (fun x => ¬ Got ws x) q (iterG s n g) ∧ (iterG s n g).length = 8 := by
    intro n
    induction n with
    | zero => exact fun g hl h => ⟨h, hl⟩
    | succ n ih =>
      intro g hl h
      refine ih (lowered s g) (lowered_len s g hl) ?_
      unfold lowered
      refine beh_froms _ _ (low1_len s _ _ hl) (fun f hf => ?_) (beh_low1 _ _ (fun x hx ht hu => hu (w1 x hx (may _ _ ht))) h)
      rw [List.mem_range] at hf
      exact ⟨by omega, fun x hx ht hu hf' => hu (w2 f hf' x hx (may _ _ ht))⟩
  have h9 := fun n => key n top rfl (fun x hx _ => by
    unfold top at *
    rw [List.length_replicate] at hx
    rw [List.getElem?_replicate, List.getElem?_replicate, if_pos hx]
    split <;> simp)
  unfold gateOf gts
  rw [fixG_iter]
  exact (h9 _).1 p (by rw [(h9 _).2]; exact hp) hn
theorem st_rng (s : Sd) (m : Int) (p : Nat) : st s m p = 0 ∨ st s m p = 1 ∨ st s m p = 2 := by
  unfold st
  repeat' split
  all_goals simp
theorem not_got {may : Nat → Nat → Bool} (h8 : s.floors.length ≤ 8) (t : Nat) (h : ∀ i, may i t = false) : ¬ Got (waysOf s may) t := fun hg => by
  obtain ⟨i, hi⟩ := (waysOf_shut (s := s) (may := may) h8).2.2 t hg
  rw [h i] at hi; cases hi
theorem way_none {ws : Ways} {t : Nat} : wayAt ws (t : Int) = none ↔ ¬ Got ws t := by
  rw [wayAt_nat]
  constructor
  · rintro h ⟨l, hl⟩; rw [hl] at h; cases h
  · intro h
    cases e : ws[t]? with
    | none => rfl
    | some o =>
      cases o with
      | none => rfl
      | some l => exact absurd ⟨l, e⟩ h
/-- a bank of one place alone -/
theorem hold_one (ok : Ok s) {p q : Nat} (hp : p < s.floors.length) (hq : q < s.floors.length) :
    (errHold s p [] [(q : Int)] = 0 ∨ errHold s p [] [(q : Int)] = 8) ∧ (p = q → errHold s p [] [(q : Int)] = 0) ∧
    (errHold s p [] [(q : Int)] = 0 → holdV s p [] [(q : Int)] = s.floors[q] ∧ gateOf s q ≤ gateOf s p) := by
  have h8 := ok.fl1
  have e : errHold s p [] [(q : Int)] = if wayAt (waysOf s (mayHold [] [(q : Int)])) (p : Int) = none then 0 else 8 := by
    unfold errHold
    rw [if_pos (errFor_in ok (by omega)), if_pos ⟨by simp, by
      rw [List.all_eq_true]; intro y hy
      simp only [List.mem_singleton] at hy
      subst hy
      exact inB_true.2 (by omega)⟩, if_pos ⟨by simp, by simp⟩]
    simp
  have hno : ∀ i, mayHold [] [(q : Int)] i q = false := fun i => by simp [mayHold]
  refine ⟨?_, fun h => ?_, fun h => ?_⟩
  · rw [e]; split
    · exact Or.inl rfl
    · exact Or.inr rfl
  · subst h
    rw [e, if_pos (way_none.2 (not_got h8 _ hno))]
  · have hn : wayAt (waysOf s (mayHold [] [(q : Int)])) (p : Int) = none := by
      rw [e] at h
      split at h
      · assumption
      · cases h
    refine ⟨?_, behind_gts h8 q p (by omega) (way_none.1 hn)⟩
    have hf := ok.floors s.floors[q] (List.getElem_mem hq)
    unfold holdV
    rw [if_pos h]
    simp only [leastF, leastS, List.foldl_cons, List.foldl_nil, Int.toNat_natCast, List.getElem?_eq_getElem hq, Option.getD_some]
    omega
theorem behind_st {p q : Nat} (h : gateOf s q ≤ gateOf s p) (m : Int) : st s m p ≤ st s m q := by
  unfold st
  repeat' split
  all_goals omega
theorem behind_gate (ok : Ok s) {p q : Nat} (hp : p < s.floors.length) (hq : q < s.floors.length) (h : gateOf s q ≤ gateOf s p) :
    (errGate s p = 0 ∨ errGate s p = 6) ∧ (errGate s p = 0 → errGate s q = 0 ∧ gateV s q ≤ gateV s p) := by
  rw [errGate_in ok (x := (p : Int)) (by omega), errGate_in ok (x := (q : Int)) (by omega), gateV_in ok (x := (p : Int)) (by omega), gateV_in ok (x := (q : Int)) (by omega)]
  simp only [Int.toNat_natCast]
  by_cases c : gateOf s p < 1050
  · have c' : gateOf s q < 1050 := by omega
    rw [if_pos c, if_pos c', if_pos c, if_pos c']
    exact ⟨Or.inl rfl, fun _ => ⟨rfl, h⟩⟩
  · rw [if_neg c]
    exact ⟨Or.inr rfl, fun h => by cases h⟩
theorem behind_turn (ok : Ok s) {p q : Nat} (hp : p < s.floors.length) (hq : q < s.floors.length) (h : gateOf s q ≤ gateOf s p) {m : Int} (hm : inDay s m = true) (hd : st s m q = 0) :
    errTurn s p m = 0 ∧ errTurn s q m = 0 ∧ turnV s q m ≤ turnV s p m := by
  have hp0 : st s m p = 0 := by
    have := behind_st h m
    rcases st_rng s m p with h | h | h <;> omega
  obtain ⟨a1, a2⟩ := (turn_in ok (x := (p : Int)) (by omega) hm).1 hp0
  obtain ⟨b1, b2⟩ := (turn_in ok (x := (q : Int)) (by omega) hm).1 hd
  refine ⟨a1, b1, a2.le b2 (fun x hx => ?_)⟩
  simp only [Int.toNat_natCast, beq_iff_eq] at hx ⊢
  have := behind_st h x
  rcases st_rng s x p with h | h | h <;> omega
theorem here_in (ok : Ok s) {m : Int} (hm : inDay s m = true) {p : Nat} (hp : p < s.floors.length) (hA : errAt s m = 0) : errHere s m p = 0 ∧ atV s m p = st s m p := by
  have e : errHere s m p = 0 := by
    unfold errHere
    rw [if_pos hA, show isPl s (p : Int) = true from inB_true.2 (by omega)]; rfl
  refine ⟨e, ?_⟩
  unfold atV
  rw [if_pos e]; rfl
end
end
end Go.Proofs.Ytnmmbfmpgodnaaa
/- Slices of bytes, and bytes, that came in. -/
namespace Go.Proofs.Ytnmmbfmpgodnaaa
section
open Go.ChangeShapes Go.WideShapes Go.ChangeAt Go.RowKit

section
variable {H : Type} {enc : TypeId × Value → H} {P : Program}
/-- a slice that came in, as rows of k cells -/
theorem open_rowsQ {w : World} {t e : TypeId} {fuel k : Nat} {Q : List Value → Prop} {v : Value} {x : DataW H × List MemPlace} (ht : P.underlying t = some (.slice e)) (hC : P.cellsOf e = k) (hk : 0 < k) (hQ : ∀ r, Q r → r.length = k)
    (hel : ∀ fuel cs y, DataW.trod enc P w 0 (fun _ => true) true fuel e cs = some y → Q cs) (h : DataW.trod enc P w 0 (fun _ => true) true fuel t [v] = some x) :
    ∃ p len cap rows, v = .slice p len cap ∧ len ≤ cap ∧ cap ≤ maxLen ∧ rows.length = len ∧ Row w p k rows ∧ (∀ r ∈ rows, Q r) ∧ ((x.1 = .nil ∧ cap = 0) ∨ ∃ el sp, x.1 = .slice el sp ∧ el.length + sp.length = cap) := by
  rcases Go.Deep.open_slice ht h with ⟨hv, rfl⟩ | ⟨a, len, cap, m, n, D, Pl, hv, -, hl, hm, hmm, rfl, hi⟩
  · simp only [List.cons.injEq, and_true] at hv
    exact ⟨none, 0, 0, [], hv, Nat.le_refl _, by simp [maxLen], rfl, fun i row hr => by simp at hr, fun r hr => by simp at hr, .inl ⟨rfl, rfl⟩⟩
  · simp only [List.cons.injEq, and_true] at hv
    simp only [if_true] at hmm
    subst hmm
    rw [hC] at hi
    have hch : ∀ i, ∃ cs, i < len → Q cs ∧ ∀ j c, cs[j]? = some c → w.cell? (a.add (i * k + j)) = some c := fun i => by
      by_cases hlt : i < len
      · obtain ⟨cs, hc, ht'⟩ := hi i (by omega)
        obtain ⟨-, hcl, hat⟩ := World.cells?_some hc
        refine ⟨cs, fun _ => ⟨hel _ _ _ ht', fun j c hj => ?_⟩⟩
        have hjl : j < k := by have := (List.getElem?_eq_some_iff.1 hj).1; omega
        rw [← Go.Deep.add_add, hat j hjl, hj]
      · exact ⟨[], fun h => absurd h hlt⟩
    obtain ⟨f, hf⟩ := Classical.axiomOfChoice hch
    refine ⟨some a, len, m, (List.range len).map f, hv, hl, hm, by simp, fun i row hr => ?_, fun r hr => ?_, .inr ⟨_, _, rfl, by simp; omega⟩⟩
    · rw [List.getElem?_map] at hr
      by_cases hlt : i < len
      · rw [List.getElem?_range hlt] at hr
        simp only [Option.map_some, Option.some.injEq] at hr
        subst hr
        obtain ⟨g2, g3⟩ := hf 0 (by omega)
        have g1 := hQ _ g2
        have h0 := g3 0 _ (List.getElem?_eq_getElem (by omega))
        have hs : a.spot = none := spot_of (by simpa [Addr.add] using h0)
        obtain ⟨b, off, sp⟩ := a
        simp only at hs
        subst hs
        refine ⟨b, off, rfl, fun j c hj => ?_⟩
        have := (hf i hlt).2 j c hj
        rwa [Addr.add_lit, ← Nat.add_assoc] at this
      · rw [List.getElem?_eq_none (by simp; omega)] at hr
        cases hr
    · simp only [List.mem_map, List.mem_range] at hr
      obtain ⟨i, hlt, rfl⟩ := hr
      exact (hf i hlt).1

/-- a row of one byte -/
def OneByte (r : List Value) : Prop := ∃ n, r = [.int .u8 n]
theorem bytes_of : ∀ {rows : List (List Value)}, (∀ r ∈ rows, OneByte r) → ∃ l : List Int, rows = bytes l
  | [], _ => ⟨[], rfl⟩
  | r :: rest, h => by
    obtain ⟨l, hl⟩ := bytes_of (rows := rest) (fun r hr => h r (by simp [hr]))
    obtain ⟨n, rfl⟩ := h r (by simp)
    exact ⟨n :: l, by rw [hl]; rfl⟩
theorem cellsByte : Try.prog.cellsOf 5 = 1 := by kernel_rfl
theorem bytesByte : Try.prog.bytesOf 5 = 1 := by kernel_rfl
set_option maxRecDepth 100000 in
theorem open_bytes {w : World} {base : Nat} {v : Value} {d : DataW H} {ps : List MemPlace} (hv : Value.okWide Try.prog w .any base 83 v) (h : DataW.Trod enc Try.prog w 0 (fun _ => true) true 83 v d ps) (hz : ∀ n ∈ DataW.weights Try.prog 83 d, n ≤ reachBytes) :
    ∃ p l c, v = .slice p l.length c ∧ Row w p 1 (bytes l) ∧ l.length ≤ 140737488355328 := by
  obtain ⟨fuel, hf⟩ := h
  obtain ⟨p0, n0, c0, rfl⟩ := okWide_slice Try.underlying83 hv
  have hf' : DataW.trod enc Try.prog w 0 (fun _ => true) true fuel 83 [.slice p0 n0 c0] = some (d, ps) := hf
  obtain ⟨p, len, cap, rows, e, a1, a2, a3, a4, a5, a6⟩ := open_rowsQ (Q := OneByte) Try.underlying83 cellsByte (by decide) (fun r ⟨n, e⟩ => by rw [e]; rfl) (fun fuel cs y hy => by
    obtain ⟨n, e, -, -⟩ := DataW.trod_int Try.underlying5 hy
    exact ⟨n, e⟩) hf'
  obtain ⟨l, rfl⟩ := bytes_of a5
  have q : (bytes l).length = l.length := by simp [bytes]
  rw [q] at a3
  subst a3
  have hr := room_of Try.underlying83 bytesByte a1 a6 hz
  exact ⟨p, l, cap, e, a4, by omega⟩
theorem byte_rng {n : Int} (h : (Lit.int .u8 n).wf = true) : 0 ≤ n ∧ n ≤ 255 := by
  simp [Lit.wf] at h
  have e1 : IntKind.u8.min = 0 := rfl
  have e2 : IntKind.u8.max = 255 := rfl
  omega
end
end
end Go.Proofs.Ytnmmbfmpgodnaaa
/- The law TideBehind returns true, whatever numbers are passed in. -/
namespace Go.Proofs.Ytnmmbfmpgodnaaa
open Go.RowKit Go.Shelf

section
variable {p : Option Addr} {c : Nat} {s : Sd} {pT pF pS : Option Addr} {cT cF cS : Nat} {w : World}
theorem rowInt {b off : Nat} {l : List Int} (h : Row w (some ⟨b, off, none⟩) 1 (ints l)) {i : Nat} (hi : i < l.length) : w.cell? ⟨b, off + i, none⟩ = some (.int .i64 l[i]) := by
  obtain ⟨b', off', e, hc⟩ := h.int i hi
  simp only [Option.some.injEq, Addr.mk.injEq, and_true] at e
  obtain ⟨rfl, rfl⟩ := e
  exact hc
theorem hold1_c (x q : Nat) (P : Option Addr) (C : Nat) (hl : Lists w s pT pF pS cT cF cS) (h : Row w P 1 (ints [(q : Int)])) :
    Calls Try.prog 37 #[sdVal s pT pF pS cT cF cS, .int .i64 x, .slice none 0 0, .slice P 1 C] w fun e w' => e = .returned (.tuple #[.int .i64 (holdV s x [] [(q : Int)]), .int .i64 (errHold s x [] [(q : Int)])]) ∧ Up w w' :=
  Hold_c s x [] [(q : Int)] none P 0 C w hl (Row.nil _ _ _) h (by decide) (by simp)
theorem sAt_c (ok : Ok s) {m : Int} (hm : inDay s m = true) {x : Nat} (hx : x < s.floors.length) (hl : Lists w s pT pF pS cT cF cS) :
    Calls Try.prog 41 #[sdVal s pT pF pS cT cF cS, .int .i64 m, .int .i64 x] w fun e w' => e = .returned (.tuple #[.int .i64 (st s m x), .int .i64 0]) ∧ Up w w' := by
  have k := At_c s m x w hl
  obtain ⟨h1, h2⟩ := here_in ok hm hx (errAt_in ok hm)
  rwa [h1, h2] at k
set_option maxRecDepth 100000 in
set_option maxHeartbeats 4000000 in
theorem behindLaw_c (l : List Int) (T : Int) (w : World) (hr : Row w p 1 (bytes l)) (hl : l.length ≤ 140737488355328) (t0 : 0 ≤ T) (t1 : T ≤ 255) :
    Calls Try.prog 16 #[.slice p l.length c, .int .u8 T] w fun e w' => e = .returned (.bool true) ∧ Up w w' := by
  have HP := Lib.hid (fun W (u : Up w W) => pile_c p c l W (hr.up u))
  clear hr
  go_enter Try.func16, Try.ntmps16
  go_wp2_with fail
  refine (HP.out _ (by (repeat (first | exact Below.refl _ _ | (with_reducible refine Below.drewN' ?_ _) | (with_reducible refine Below.drew ?_) | (with_reducible refine Below.setCell ?_ (by first | exact Nat.le_refl _ | omega | (with_reducible (repeat (first | refine sz_alloc ?_ | refine sz_setCell ?_ | refine sz_drew ?_ | refine sz_drewN ?_)); first | exact Nat.le_refl _ | omega) | (simp only [World.size_alloc, World.size_setCell, World.size_drew, size_drewN']; omega)) _) | (with_reducible refine Below.alloc ?_ (by first | exact Nat.le_refl _ | omega | (with_reducible (repeat (first | refine sz_alloc ?_ | refine sz_setCell ?_ | refine sz_drew ?_ | refine sz_drewN ?_)); first | exact Nat.le_refl _ | omega) | (simp only [World.size_alloc, World.size_setCell, World.size_drew, size_drewN']; omega)) _) | assumption)))).mono ?_
  rintro e w1 ⟨rfl, g1, u1, s1, ap⟩
  have U1 := Lib.hid u1
  have G1 := Lib.hid g1
  have AP := Lib.hid ap
  clear g1 u1 ap HP
  go_wp2_with fail
  refine (made_c (p := p) (c := c) (l := l) w.heap.size 6 8 w1 G1.out (AP.out.mono (by omega)) hl (by decide) (by decide) (by decide) (by decide)).mono ?_
  rintro e w2 ⟨s, qT, qF, qS, dT, dF, dS, rfl, mk, l2, -, -, f2⟩
  obtain ⟨gF, oF, rfl, -⟩ := l2.rf.int 0 (by have := mk.f1; omega)
  have L2 := Lib.hid l2
  have U2 : Hid (Up w w2) := Below.trans U1.out (f2.below (Nat.le_refl _) (by omega))
  have OK := Lib.hid (mk.ok (by decide) (by decide))
  have m2 := mk.t2
  have m4 := mk.t4
  have mf1 := mk.f1
  have mf6 := mk.fn
  clear mk l2 f2 G1 AP U1 s1
  unfold sdVal
  go_wp2_with fail
  have BS : Hid (Blk (w2.alloc (.cells #[.slice qT s.table.length dT, .int .i64 s.lo, .int .i64 s.hi, .slice (some ⟨gF, oF, none⟩) s.floors.length dF, .slice qS s.sills.length dS] 28)) w2.heap.size (sdCells s qT (some ⟨gF, oF, none⟩) qS dT dF dS) 28) := Blk.new w2 (sdCells s qT (some ⟨gF, oF, none⟩) qS dT dF dS) 28
  have LS : Hid (Lists (w2.alloc (.cells #[.slice qT s.table.length dT, .int .i64 s.lo, .int .i64 s.hi, .slice (some ⟨gF, oF, none⟩) s.floors.length dF, .slice qS s.sills.length dS] 28)) s qT (some ⟨gF, oF, none⟩) qS dT dF dS) := L2.out.up (by (repeat (first | exact Below.refl _ _ | (with_reducible refine Below.drewN' ?_ _) | (with_reducible refine Below.drew ?_) | (with_reducible refine Below.setCell ?_ (by first | exact Nat.le_refl _ | omega | (with_reducible (repeat (first | refine sz_alloc ?_ | refine sz_setCell ?_ | refine sz_drew ?_ | refine sz_drewN ?_)); first | exact Nat.le_refl _ | omega) | (simp only [World.size_alloc, World.size_setCell, World.size_drew, size_drewN']; omega)) _) | (with_reducible refine Below.alloc ?_ (by first | exact Nat.le_refl _ | omega | (with_reducible (repeat (first | refine sz_alloc ?_ | refine sz_setCell ?_ | refine sz_drew ?_ | refine sz_drewN ?_)); first | exact Nat.le_refl _ | omega) | (simp only [World.size_alloc, World.size_setCell, World.size_drew, size_drewN']; omega)) _) | assumption)))
  have UR : Hid (Up w (w2.alloc (.cells #[.slice qT s.table.length dT, .int .i64 s.lo, .int .i64 s.hi, .slice (some ⟨gF, oF, none⟩) s.floors.length dF, .slice qS s.sills.length dS] 28))) := Up.trans U2.out (by (repeat (first | exact Below.refl _ _ | (with_reducible refine Below.drewN' ?_ _) | (with_reducible refine Below.drew ?_) | (with_reducible refine Below.setCell ?_ (by first | exact Nat.le_refl _ | omega | (with_reducible (repeat (first | refine sz_alloc ?_ | refine sz_setCell ?_ | refine sz_drew ?_ | refine sz_drewN ?_)); first | exact Nat.le_refl _ | omega) | (simp only [World.size_alloc, World.size_setCell, World.size_drew, size_drewN']; omega)) _) | (with_reducible refine Below.alloc ?_ (by first | exact Nat.le_refl _ | omega | (with_reducible (repeat (first | refine sz_alloc ?_ | refine sz_setCell ?_ | refine sz_drew ?_ | refine sz_drewN ?_)); first | exact Nat.le_refl _ | omega) | (simp only [World.size_alloc, World.size_setCell, World.size_drew, size_drewN']; omega)) _) | assumption)))
  generalize (w2.alloc (.cells #[.slice qT s.table.length dT, .int .i64 s.lo, .int .i64 s.hi, .slice (some ⟨gF, oF, none⟩) s.floors.length dF, .slice qS s.sills.length dS] 28)) = wr at *
  generalize w2.heap.size = M at *
  clear L2 U2 w2
  obtain ⟨f0, f1, f2⟩ := firstM_lt OK.out.table
  have HFst := Lib.hid (fun W (u : Up wr W) => firstL_c s W (LS.out.up u) m2)
  have HLst := Lib.hid (fun W (u : Up wr W) => lastL_c s W (LS.out.up u) m2 (by omega))
  obtain ⟨c0, c1, c2, c3, c4⟩ := five BS.out
  have z2 : ¬ (lastM s.table - firstM s.table + 1 = 0) := by omega
  have z3 : 0 ≤ T % (lastM s.table - firstM s.table + 1) ∧ T % (lastM s.table - firstM s.table + 1) < lastM s.table - firstM s.table + 1 := ⟨Int.emod_nonneg _ z2, Int.emod_lt_of_pos _ (by omega)⟩
  refine region_tail (fun W' => W'.cell? ⟨M, 0, none⟩ = some (.slice qT s.table.length dT) ∧ W'.cell? ⟨M, 1, none⟩ = some (.int .i64 s.lo) ∧ W'.cell? ⟨M, 2, none⟩ = some (.int .i64 s.hi) ∧ W'.cell? ⟨M, 3, none⟩ = some (.slice (some ⟨gF, oF, none⟩) s.floors.length dF) ∧ W'.cell? ⟨M, 4, none⟩ = some (.slice qS s.sills.length dS) ∧ Up wr W') 12 mixed (by kernel_rfl) ⟨c0, c1, c2, c3, c4, (Below.refl _ _).drew⟩ (fun hHeld => ?_)
  refine wpAnyG_take 0 22 (v := ?_) rfl rfl (by kernel_rfl) (fun _ _ _ h => h) (Or.inl ⟨by rfl, ?_⟩) (by assumption) ?_
  rotate_left
  · (intro w' hSw; (try dsimp only at hSw); go_split_ands; go_simp; try with_reducible rfl)
  try simp only [List.setIfInBounds_toArray, List.set_cons_zero, List.set_cons_succ]
  refine wpAnyG_take 2 24 (v := ?_) rfl rfl (by kernel_rfl) (fun _ _ _ h => h) (Or.inl ⟨by rfl, ?_⟩) (by assumption) ?_
  rotate_left
  · (intro w' hSw; (try dsimp only at hSw); go_split_ands; go_simp; try with_reducible rfl)
  try simp only [List.setIfInBounds_toArray, List.set_cons_zero, List.set_cons_succ]
  refine wpAnyG_take 3 25 (v := ?_) rfl rfl (by kernel_rfl) (fun _ _ _ h => h) (Or.inl ⟨by rfl, ?_⟩) (by assumption) ?_
  rotate_left
  · (intro w' hSw; (try dsimp only at hSw); go_split_ands; go_simp; try with_reducible rfl)
  try simp only [List.setIfInBounds_toArray, List.set_cons_zero, List.set_cons_succ]
  refine wpAnyG_take 4 26 (v := ?_) rfl rfl (by kernel_rfl) (fun _ _ _ h => h) (Or.inl ⟨by rfl, ?_⟩) (by assumption) ?_
  rotate_left
  · (intro w' hSw; (try dsimp only at hSw); go_split_ands; go_simp; try with_reducible rfl)
  try simp only [List.setIfInBounds_toArray, List.set_cons_zero, List.set_cons_succ]
  refine wpAnyG_take 6 28 (v := ?_) rfl rfl (by kernel_rfl) (fun _ _ _ h => h) (Or.inl ⟨by rfl, ?_⟩) (by assumption) ?_
  rotate_left
  · (intro w' hSw; (try dsimp only at hSw); go_split_ands; go_simp; try with_reducible rfl)
  try simp only [List.setIfInBounds_toArray, List.set_cons_zero, List.set_cons_succ]
  refine wpAnyG_do 1 rfl (by kernel_rfl) (fun K hK => ?_)
  rw [if_pos (by rfl)]
  go_simp
  refine (HFst.out _ ((Below.refl _ _).drew)).mono ?_
  rintro e w6 ⟨rfl, v6⟩
  have v6' : Up wr w6 := Up.trans ((Below.refl _ _).drew) v6
  refine hK.out _ _ ⟨v6'.cellAt c0, v6'.cellAt c1, v6'.cellAt c2, v6'.cellAt c3, v6'.cellAt c4, v6'⟩ (fun hHeld => ?_)
  clear hK K
  refine wpAnyG_do 5 rfl (by kernel_rfl) (fun K hK => ?_)
  rw [if_pos (by rfl)]
  go_simp
  refine (HLst.out _ v6').mono ?_
  rintro e w7 ⟨rfl, v7⟩
  have v7' : Up wr w7 := Up.trans v6' v7
  refine hK.out _ _ ⟨v7'.cellAt c0, v7'.cellAt c1, v7'.cellAt c2, v7'.cellAt c3, v7'.cellAt c4, v7'⟩ (fun hHeld => ?_)
  clear hK K
  refine wpAnyG_do 7 rfl (by kernel_rfl) (fun K hK => ?_)
  rw [if_pos (by rfl)]
  go_simp
  refine (HFst.out _ v7').mono ?_
  rintro e w8 ⟨rfl, v8⟩
  have v8' : Up wr w8 := Up.trans v7' v8
  refine hK.out _ _ ⟨v8'.cellAt c0, v8'.cellAt c1, v8'.cellAt c2, v8'.cellAt c3, v8'.cellAt c4, v8'⟩ (fun hHeld => ?_)
  clear hK K
  have s1 : IntKind.i64.wrap (lastM s.table - firstM s.table) = lastM s.table - firstM s.table := IntWalk.i64_in _ (by omega)
  have s2 : IntKind.i64.wrap (lastM s.table - firstM s.table + 1) = lastM s.table - firstM s.table + 1 := IntWalk.i64_in _ (by omega)
  have s3 : IntKind.i64.wrap T = T := IntWalk.i64_in _ (by omega)
  have s4 : IntKind.i64.wrap (firstM s.table + T % (lastM s.table - firstM s.table + 1)) = firstM s.table + T % (lastM s.table - firstM s.table + 1) := IntWalk.i64_in _ (by omega)
  have s5 : T.tmod (lastM s.table - firstM s.table + 1) = T % (lastM s.table - firstM s.table + 1) := Int.tmod_eq_emod_of_nonneg t0
  refine wpAnyG_take 8 30 (v := .int .i64 (lastM s.table - firstM s.table)) rfl rfl (by kernel_rfl) (fun _ _ _ h => h) (Or.inl ⟨by rfl, ?_⟩) (by assumption) ?_
  · intro w' _
    go_simp
  try simp only [List.setIfInBounds_toArray, List.set_cons_zero, List.set_cons_succ]
  refine wpAnyG_take 9 31 (v := .int .i64 (lastM s.table - firstM s.table + 1)) rfl rfl (by kernel_rfl) (fun _ _ _ h => h) (Or.inl ⟨by rfl, ?_⟩) (by assumption) ?_
  · intro w' _
    go_simp
  try simp only [List.setIfInBounds_toArray, List.set_cons_zero, List.set_cons_succ]
  refine wpAnyG_take 10 32 (v := .int .i64 (T % (lastM s.table - firstM s.table + 1))) rfl rfl (by kernel_rfl) (fun _ _ _ h => h) (Or.inl ⟨by rfl, ?_⟩) (by assumption) ?_
  · intro w' _
    go_simp
  try simp only [List.setIfInBounds_toArray, List.set_cons_zero, List.set_cons_succ]
  refine wpAnyG_take 11 33 (v := .int .i64 (firstM s.table + T % (lastM s.table - firstM s.table + 1))) rfl rfl (by kernel_rfl) (fun _ _ _ h => h) (Or.inl ⟨by rfl, ?_⟩) (by assumption) ?_
  · intro w' _
    go_simp
  try simp only [List.setIfInBounds_toArray, List.set_cons_zero, List.set_cons_succ]
  have mm : firstM s.table ≤ firstM s.table + T % (lastM s.table - firstM s.table + 1) ∧ firstM s.table + T % (lastM s.table - firstM s.table + 1) ≤ lastM s.table := by omega
  have HM : Hid (inDay s (firstM s.table + T % (lastM s.table - firstM s.table + 1)) = true) := Lib.hid (inB_true.2 mm)
  generalize firstM s.table + T % (lastM s.table - firstM s.table + 1) = m at *
  have L8 := Lib.hid (LS.out.up v8')
  have B8 := Lib.hid (BS.out.up v8')
  have U8 : Hid (Up w w8) := Lib.hid (Up.trans UR.out v8')
  refine wpAnyG_tail (by kernel_rfl) ?_
  clear s1 s2 s3 s4 s5 z2 z3 mm f0 f1 f2 c0 c1 c2 c3 c4 hHeld HFst HLst LS BS UR v6 v7 v8 v6' v7' v8' t0 t1
  obtain ⟨c0, c1, c2, c3, c4⟩ := five B8.out
  change wpList _ _ _ [_] _ _
  go_wp2_with fail
  go_loopw [37] (fun i wx => ∃ k : Nat, i = .int .i64 k ∧ k ≤ s.floors.length ∧ Up w8 wx) (fun i _ => s.floors.length - (intOf i).toNat)
  case atStart => exact ⟨0, rfl, Nat.zero_le _, Below.refl _ _⟩
  case round =>
    obtain ⟨k, rfl, hk, hu⟩ := hrel
    have Ux := Lib.hid hu
    obtain ⟨c0, c1, c2, c3, c4⟩ := five (B8.out.up hu)
    clear hu
    by_cases hlt : k < s.floors.length
    · have q1 : (k : Int) < s.floors.length := by omega
      go_wp2_with fail
      go_loopw [43] (fun i wy => ∃ j : Nat, i = .int .i64 j ∧ j ≤ s.floors.length ∧ Up w8 wy) (fun i _ => s.floors.length - (intOf i).toNat)
      case atStart => exact ⟨0, rfl, Nat.zero_le _, Ux.out⟩
      case round =>
        obtain ⟨j, rfl, hj, hu⟩ := hrel
        have Uy := Lib.hid hu
        obtain ⟨c0, c1, c2, c3, c4⟩ := five (B8.out.up hu)
        clear hu Ux
        by_cases hlj : j < s.floors.length
        · have q2 : (j : Int) < s.floors.length := by omega
          obtain ⟨h1, h2, h3⟩ := hold_one OK.out hlt hlj
          have H2 := Lib.hid h2
          have H3 := Lib.hid h3
          clear h2 h3
          go_wp2_with fail
          refine (hold1_c k j _ _ ((L8.out.up Uy.out).up (by (repeat (first | exact Below.refl _ _ | (with_reducible refine Below.drewN' ?_ _) | (with_reducible refine Below.drew ?_) | (with_reducible refine Below.setCell ?_ (by first | exact Nat.le_refl _ | omega | (with_reducible (repeat (first | refine sz_alloc ?_ | refine sz_setCell ?_ | refine sz_drew ?_ | refine sz_drewN ?_)); first | exact Nat.le_refl _ | omega) | (simp only [World.size_alloc, World.size_setCell, World.size_drew, size_drewN']; omega)) _) | (with_reducible refine Below.alloc ?_ (by first | exact Nat.le_refl _ | omega | (with_reducible (repeat (first | refine sz_alloc ?_ | refine sz_setCell ?_ | refine sz_drew ?_ | refine sz_drewN ?_)); first | exact Nat.le_refl _ | omega) | (simp only [World.size_alloc, World.size_setCell, World.size_drew, size_drewN']; omega)) _) | assumption)))) (Row.lit wr [(j : Int)] 3)).mono ?_
          rintro e wa ⟨rfl, ua⟩
          have Ua : Hid (Up w8 wa) := Lib.hid (Up.trans (Up.trans Uy.out (by (repeat (first | exact Below.refl _ _ | (with_reducible refine Below.drewN' ?_ _) | (with_reducible refine Below.drew ?_) | (with_reducible refine Below.setCell ?_ (by first | exact Nat.le_refl _ | omega | (with_reducible (repeat (first | refine sz_alloc ?_ | refine sz_setCell ?_ | refine sz_drew ?_ | refine sz_drewN ?_)); first | exact Nat.le_refl _ | omega) | (simp only [World.size_alloc, World.size_setCell, World.size_drew, size_drewN']; omega)) _) | (with_reducible refine Below.alloc ?_ (by first | exact Nat.le_refl _ | omega | (with_reducible (repeat (first | refine sz_alloc ?_ | refine sz_setCell ?_ | refine sz_drew ?_ | refine sz_drewN ?_)); first | exact Nat.le_refl _ | omega) | (simp only [World.size_alloc, World.size_setCell, World.size_drew, size_drewN']; omega)) _) | assumption)))) ua)
          clear ua Uy
          rcases h1 with h0 | h0
          · obtain ⟨hv, hg⟩ := H3.out h0
            rw [h0, hv]
            have B1 := Lib.hid (behind_gate OK.out hlt hlj hg)
            have B2 := Lib.hid (behind_st hg m)
            have B3 := Lib.hid (behind_turn OK.out hlt hlj hg HM.out)
            clear H2 H3 h0 hv hg
            obtain ⟨c0, c1, c2, c3, c4⟩ := five (B8.out.up Ua.out)
            go_wp2_with fail
            refine (Gate_c s k wa (L8.out.up Ua.out)).mono ?_
            rintro e wb ⟨rfl, ub⟩
            have Ub : Hid (Up w8 wb) := Lib.hid (Up.trans Ua.out ub)
            clear ub Ua c0 c1 c2 c3 c4
            obtain ⟨c0, c1, c2, c3, c4⟩ := five (B8.out.up Ub.out)
            go_wp2_with fail
            refine (Gate_c s j wb (L8.out.up Ub.out)).mono ?_
            rintro e wc ⟨rfl, uc⟩
            have Uc : Hid (Up w8 wc) := Lib.hid (Up.trans Ub.out uc)
            clear uc Ub c0 c1 c2 c3 c4
            obtain ⟨c0, c1, c2, c3, c4⟩ := five (B8.out.up Uc.out)
            have cj := rowInt (L8.out.up Uc.out).rf hlj
            have lj := cell_lt cj
            generalize hfj : s.floors[j] = fj at *
            obtain ⟨b1, b2⟩ := B1.out
            clear B1 hfj
            generalize gateV s k = ga at *
            generalize gateV s j = gb at *
            rcases b1 with b1 | b1
            · obtain ⟨b3, b4⟩ := b2 b1
              rw [b1, b3]
              have b5 : ¬ ga < gb := by omega
              clear b1 b2 b3
              go_wp2_with fail
              refine (sAt_c OK.out HM.out hlt (L8.out.up Uc.out)).mono ?_
              rintro e wd ⟨rfl, ud⟩
              have Ud : Hid (Up w8 wd) := Lib.hid (Up.trans Uc.out ud)
              clear ud Uc c0 c1 c2 c3 c4 cj lj
              obtain ⟨c0, c1, c2, c3, c4⟩ := five (B8.out.up Ud.out)
              go_wp2_with fail
              refine (sAt_c OK.out HM.out hlj (L8.out.up Ud.out)).mono ?_
              rintro e we ⟨rfl, ue⟩
              have Ue : Hid (Up w8 we) := Lib.hid (Up.trans Ud.out ue)
              clear ue Ud c0 c1 c2 c3 c4
              obtain ⟨c0, c1, c2, c3, c4⟩ := five (B8.out.up Ue.out)
              have hxy := B2.out
              have hT := B3.out
              clear B2 B3
              generalize st s m k = sx at *
              generalize st s m j = sy at *
              have hxy' : ¬ sy < sx := by omega
              by_cases hs : sy = 0
              · obtain ⟨t2, t3, t4⟩ := hT hs
                subst hs
                go_wp2_with fail
                refine (Turn_c s k m we (L8.out.up Ue.out)).mono ?_
                rintro e wf ⟨rfl, uf⟩
                have Uf : Hid (Up w8 wf) := Lib.hid (Up.trans Ue.out uf)
                clear uf Ue c0 c1 c2 c3 c4
                obtain ⟨c0, c1, c2, c3, c4⟩ := five (B8.out.up Uf.out)
                go_wp2_with fail
                refine (Turn_c s j m wf (L8.out.up Uf.out)).mono ?_
                rintro e wg ⟨rfl, ug⟩
                have Ug : Hid (Up w8 wg) := Lib.hid (Up.trans Uf.out ug)
                clear ug Uf c0 c1 c2 c3 c4
                first | rw [t2, t3] | rw [t3]
                generalize turnV s k m = tk at *
                generalize turnV s j m = tj at *
                have t5 : ¬ tk < tj := by omega
                clear t2 t3
                go_wp2_with fail
                go_roundw
                case rel => exact ⟨j + 1, by go_num, by omega, Ug.out⟩
                case measure => simp [intOf]; omega
              · go_wp2_with fail
                go_roundw
                case rel => exact ⟨j + 1, by go_num, by omega, Ue.out⟩
                case measure => simp [intOf]; omega
            · rw [b1]
              generalize errGate s j = eg at *
              clear b1 b2
              go_wp2_with fail
              refine (sAt_c OK.out HM.out hlt (L8.out.up Uc.out)).mono ?_
              rintro e wd ⟨rfl, ud⟩
              have Ud : Hid (Up w8 wd) := Lib.hid (Up.trans Uc.out ud)
              clear ud Uc c0 c1 c2 c3 c4 cj lj
              obtain ⟨c0, c1, c2, c3, c4⟩ := five (B8.out.up Ud.out)
              go_wp2_with fail
              refine (sAt_c OK.out HM.out hlj (L8.out.up Ud.out)).mono ?_
              rintro e we ⟨rfl, ue⟩
              have Ue : Hid (Up w8 we) := Lib.hid (Up.trans Ud.out ue)
              clear ue Ud c0 c1 c2 c3 c4
              obtain ⟨c0, c1, c2, c3, c4⟩ := five (B8.out.up Ue.out)
              have hxy := B2.out
              have hT := B3.out
              clear B2 B3
              generalize st s m k = sx at *
              generalize st s m j = sy at *
              have hxy' : ¬ sy < sx := by omega
              by_cases hs : sy = 0
              · obtain ⟨t2, t3, t4⟩ := hT hs
                subst hs
                go_wp2_with fail
                refine (Turn_c s k m we (L8.out.up Ue.out)).mono ?_
                rintro e wf ⟨rfl, uf⟩
                have Uf : Hid (Up w8 wf) := Lib.hid (Up.trans Ue.out uf)
                clear uf Ue c0 c1 c2 c3 c4
                obtain ⟨c0, c1, c2, c3, c4⟩ := five (B8.out.up Uf.out)
                go_wp2_with fail
                refine (Turn_c s j m wf (L8.out.up Uf.out)).mono ?_
                rintro e wg ⟨rfl, ug⟩
                have Ug : Hid (Up w8 wg) := Lib.hid (Up.trans Uf.out ug)
                clear ug Uf c0 c1 c2 c3 c4
                first | rw [t2, t3] | rw [t3]
                generalize turnV s k m = tk at *
                generalize turnV s j m = tj at *
                have t5 : ¬ tk < tj := by omega
                clear t2 t3
                go_wp2_with fail
                go_roundw
                case rel => exact ⟨j + 1, by go_num, by omega, Ug.out⟩
                case measure => simp [intOf]; omega
              · go_wp2_with fail
                go_roundw
                case rel => exact ⟨j + 1, by go_num, by omega, Ue.out⟩
                case measure => simp [intOf]; omega
          · have hkj : ¬ ((k : Int) = (j : Int)) := fun e => by
              have := H2.out (by omega)
              rw [h0] at this; cases this
            rw [h0]
            clear H2 H3 h0
            go_wp2_with fail
            go_roundw
            case rel => exact ⟨j + 1, by go_num, by omega, Ua.out⟩
            case measure => simp [intOf]; omega
        · obtain rfl : j = s.floors.length := by omega
          go_wp2_with fail
          go_roundw
          case rel => exact ⟨k + 1, by go_num, by omega, Uy.out⟩
          case measure => simp [intOf]; omega
    · obtain rfl : k = s.floors.length := by omega
      have Ue : Hid (Up w wr) := Lib.hid (Up.trans U8.out Ux.out)
      go_wp2_with fail
      refine (awake_c wr).mono ?_
      rintro e wd ⟨rfl, ud⟩
      have Ud : Hid (Up w wd) := Lib.hid (Up.trans Ue.out ud)
      clear ud
      go_wp2_with fail
      go_ret
      exact ⟨rfl, Ud.out⟩
end
end Go.Proofs.Ytnmmbfmpgodnaaa
namespace Go.Proofs.Ytnmmbfmpgodnaaa
section
open Go.ChangeShapes Go.WideShapes Go.ChangeAt Go.RowKit

set_option maxRecDepth 100000 in
theorem behind_contract (H : Type) (enc : TypeId × Value → H) (W : World) (base : Nat) (args : Array Value) (ds gs : List (DataW H)) (before : List MemPlace)
    (hval : ∀ (j : Nat) t v, Try.f16.params[j]? = some t → args[j]? = some v → Value.okWide Try.prog W .any base t v)
    (hW : DataW.Whole enc Try.prog Try.f16.params.toList Rows.tideBehindSpec.vars false W args.toList ds gs before)
    (hsz0 : (DataW.weightsEach Try.prog (Try.f16.params.toList ++ Rows.tideBehindSpec.plain.varTypes Try.prog) (ds ++ gs)).all (· ≤ reachBytes) = true) :
    Calls Try.prog 16 args W fun e W' => ∃ v, e = .returned v ∧ Rows.tideBehindSpec.post enc Try.prog Try.f16 false true false false W args v W' := by
  have hW' := hW
  obtain ⟨p, q, hA0, hV, rfl, -, -⟩ := hW
  have hA : DataW.TrodAll enc Try.prog W 0 (fun _ => true) true Try.f16.params.toList args.toList ds p := hA0
  rw [Try.params16] at hA hval
  obtain ⟨v0, vs0, d0, ds0, p0, q0, hargs, rfl, rfl, h0, r0⟩ := trodAll_cons hA
  obtain ⟨v1, vs1, d1, ds1, p1, q1, rfl, rfl, rfl, h1, r1⟩ := trodAll_cons r0
  obtain ⟨rfl, rfl, rfl⟩ := trodAll_nil r1
  obtain rfl : args = #[v0, v1] := by cases args; simp_all
  obtain ⟨rfl, rfl⟩ := trodVars_none hV
  have hz : ∀ n ∈ DataW.weights Try.prog 83 d0, n ≤ reachBytes := fun n hn => by
    have := List.all_eq_true.1 hsz0 n (DataW.weights_mem_each (j := 0) (t := 83) rfl rfl n hn)
    simpa using this
  obtain ⟨pb, l, c, rfl, hr, hl⟩ := open_bytes (hval 0 _ v0 rfl rfl) h0 hz
  obtain ⟨t, rfl, rfl, rfl, ht⟩ := open_int Try.underlying5 (hval 1 _ v1 rfl rfl) h1
  obtain ⟨t0, t1⟩ := byte_rng ht
  refine (behindLaw_c l t W hr hl t0 t1).mono fun e W' ⟨he, hbl⟩ => ?_
  exact ⟨_, he, law_post hW' rfl laidOut (by kernel_rfl) rfl Try.underlying4 ⟨rfl, rfl, rfl⟩ hbl⟩

set_option maxRecDepth 100000 in
theorem behind_lifted (os : Os) (started : os.Started) (H : Type) (enc : TypeId × Value → H) :
    ReturnsInHanded {} Try.checked os 16 .any (Rows.tideBehindSpec.pre6 enc Try.prog Try.f16 Rows.tideBehindRow.domain false) (Rows.tideBehindSpec.post enc Try.prog Try.f16 false true false false) := by
  refine returnsInHanded_of_change_sized (C := Try.checked) own started (by kernel_rfl) Try.func16
    (ChangeSpec.witness6 (enc := enc) (C := Try.checked) false ⟨#[], #[.slice none 0 0, .int .u8 0], []⟩ 8 (by kernel_rfl) (by kernel_rfl) (by kernel_rfl) (by kernel_rfl)) ?_
  intro W base args ds gs before hval hW _ hsz _
  exact behind_contract H enc W base args ds gs before hval hW hsz

theorem behind_holds : Rows.TideBehindSaid :=
  OpenClaim.holds_of_wide 16 Try.f16 rfl rfl rfl rfl rfl rfl rfl ⟨rfl, rfl, rfl, rfl, rfl⟩ rfl rfl rfl rfl rfl (by kernel_rfl) Try.func16 (by kernel_rfl)
    (of_decide_eq_true (by kernel_rfl)) (by unfold Func.isWrapper; first | (rw [if_pos (by decide +kernel)]; kernel_rfl) | (rw [if_neg (by decide +kernel)]; exact ⟨rfl, rfl⟩))
    (fun os started H enc _ => behind_lifted os started H enc)
#print axioms behind_holds
end
end Go.Proofs.Ytnmmbfmpgodnaaa
