/- Proved: whatever numbers are passed in, whichever sill and floor are raised, however much, and whenever, the law TideHigher returns true, and all arguments read behind the call as they read before it. Conditions: none but those that the given row states of itself. -/
import Derived.Test.YtcljkkojeleakaaBegin2
import Derived.Test.YtcljkkojeleakaaOut1
import Derived.Test.YtcljkkojeleakaaAll
import Derived.Test.YtcljkkojeleakaaState2
import Derived.Test.YtcljkkojeleakaaShifts
import Derived.Test.YtcljkkojeleakaaBase
import Derived.Test.YtcljkkojeleakaaFar
import Derived.Test.YtcljkkojeleakaaOwn
import Derived.Test.YtcljkkojeleakaaPair
import Derived.Test.YtcljkkojeleakaaDraw
import Derived.Test.YtcljkkojeleakaaHeight
import Derived.Test.YtcljkkojeleakaaOn
import Derived.Test.YtcljkkojeleakaaRound
import Derived.Test.YtcljkkojeleakaaLower
import Derived.Test.YtcljkkojeleakaaAwake
import Derived.Test.YtcljkkojeleakaaOpen
import Derived.Test.YtcljkkojeleakaaHeap
import Derived.Test.YtcljkkojeleakaaChk2
import Derived.Test.YtcljkkojeleakaaPost
import Derived.WalkKit
import Derived.WalkSpells
import Derived.WalkLawsBesides
import Derived.Deep.QuietTactic
import Derived.BigQuiet
import Derived.Lib.Hide
import Derived.Shelf.Abstract
import Derived.BigGuardPart
import Derived.RangeFuncNested
import Derived.RangeFuncBound
import Derived.RangeFuncCalls
import Derived.RangeFuncLeaves
import Derived.Shelf.RegionOpen
import Derived.OwnWalkIn
import Derived.TacticsInMore
import Derived.LoopNIn
import Derived.LoopIn
import Derived.Deep.RegionHeld3
import Derived.StillTail
import Derived.Deep.Cut
import Derived.Deep.DeepCutAuto
import Derived.Carry
import Derived.ChangeSame
import Derived.SizedLaws
import Derived.ProofKit
import Derived.OpenShut
import Derived.JoinedOf
import Derived.Deep.Slices
import Derived.StillTailTactics
import Derived.RangeFuncWrites
import Derived.Laws.StructEq
import Derived.Deep.LoopGhost
import Derived.IntWalk
import Derived.RangeFuncBox
import Derived.ArgAppend
import Derived.Laws.CopyOwn
import Derived.OwnWalk
import Derived.Lib.SliceRun
import Derived.Maps.OwnOps
import Derived.Maps.OwnSet
import Derived.Deep.AppendSrc
import Derived.Deep.Upon
/- Plain facts: the lowering of gates as a row of updates; gates of raised sands, and of sands with one sill more. -/
namespace Go.Proofs.Ytcljkkojeleakaa
section
open Go.RowKit

/-- what a sill lowers that leads on from a place: which gate, and to what at most -/
def up1 (F : List Int) (f : Int) (x : Int × Int × Int) : Option (Nat × Int) :=
  if 0 ≤ other x f ∧ (other x f).toNat < F.length then some ((other x f).toNat, grt [x.2.2, F[(other x f).toNat]?.getD 0]) else none
def ap1 (g : List Int) (u : Nat × Int) : List Int := g.set u.1 (min (g[u.1]?.getD 0) u.2)
def ap2 (f : Nat) (g : List Int) (u : Nat × Int) : List Int := g.set u.1 (min (g[u.1]?.getD 0) (grt [g[f]?.getD 0, u.2]))

/-- a lead as an update -/
def ofLead (s : Sd) (x : Lead s.sills.length s.floors.length) : Nat × Int := (x.1.2, grt [(s.sills[x.1.1]'x.2.1).2.2, s.floors[x.1.2]'x.2.2])
theorem lead1_up (s : Sd) (f : Int) (i : Nat) : (lead1 s.sills s.floors.length f i).map (ofLead s) = if i < s.sills.length then up1 s.floors f (s.sills[i]?.getD (0, 0, 0)) else none := by
  unfold lead1 up1
  by_cases hi : i < s.sills.length
  · rw [if_pos hi]
    have e : s.sills[i] = s.sills[i]?.getD (0, 0, 0) := by rw [List.getElem?_eq_getElem hi]; rfl
    by_cases h : 0 ≤ other (s.sills[i]?.getD (0, 0, 0)) f ∧ (other (s.sills[i]?.getD (0, 0, 0)) f).toNat < s.floors.length
    · rw [dif_pos ⟨hi, h⟩, if_pos h]
      simp only [Option.map_some, ofLead]
      rw [e, List.getElem?_eq_getElem h.2, Option.getD_some]
    · rw [dif_neg (fun h' => h h'.2), if_neg h]; rfl
  · rw [if_neg hi, dif_neg (fun h' => hi h'.1)]; rfl
theorem fm_congr {α β : Type} {l : List α} {f g : α → Option β} (h : ∀ x ∈ l, f x = g x) : l.filterMap f = l.filterMap g := by
  induction l with
  | nil => rfl
  | cons a r ih => rw [List.filterMap_cons, List.filterMap_cons, h a (by simp), ih (fun x hx => h x (by simp [hx]))]
theorem filterMap_range {α β : Type} (l : List α) (d : α) (q : α → Option β) : (List.range l.length).filterMap (fun i => if i < l.length then q (l[i]?.getD d) else none) = l.filterMap q := by
  have e : l = (List.range l.length).map (fun i => l[i]?.getD d) := by
    apply List.ext_getElem
    · simp
    · intro i h1 h2; simp [List.getElem?_eq_getElem h1]
  conv => rhs; rw [e]
  rw [List.filterMap_map]
  apply fm_congr
  intro i hi
  rw [List.mem_range] at hi
  simp [hi]
theorem leads_up (s : Sd) (f : Int) : (leads s.sills s.floors.length f s.sills.length).map (ofLead s) = s.sills.filterMap (up1 s.floors f) := by
  unfold leads
  rw [List.map_filterMap, ← filterMap_range s.sills (0, 0, 0)]
  apply fm_congr
  intro i _
  exact lead1_up s f i
theorem lowSea_up (s : Sd) (g : List Int) : lowSea s g = (s.sills.filterMap (up1 s.floors (-1))).foldl ap1 g := by
  unfold lowSea
  rw [← leads_up, List.foldl_map]
  rfl
theorem lowFrom_up (s : Sd) (f : Nat) (g : List Int) : lowFrom s g f = (s.sills.filterMap (up1 s.floors f)).foldl (ap2 f) g := by
  unfold lowFrom
  rw [← leads_up, List.foldl_map]
  rfl

theorem grt2 (a b : Int) : grt [a, b] = max (max 0 a) b := rfl

/-- gates that are as low, or lower -/
def Leq (g g' : List Int) : Prop := g.length = g'.length ∧ ∀ i : Nat, g[i]?.getD 0 ≤ g'[i]?.getD 0 ∧ (g[i]?.getD 0 < 1050 → g'[i]?.getD 0 < 1050)
theorem Leq.refl (g : List Int) : Leq g g := ⟨rfl, fun _ => ⟨Int.le_refl _, id⟩⟩
theorem Leq.set {a b : List Int} (h : Leq a b) (t : Nat) {c d : Int} (hc : c ≤ d) (hd : c < 1050 → d < 1050) : Leq (a.set t (min (a[t]?.getD 0) c)) (b.set t (min (b[t]?.getD 0) d)) := by
  refine ⟨by simp [h.1], fun i => ?_⟩
  have h1 := h.2 i
  have h0 := h.1
  rw [List.getElem?_set, List.getElem?_set]
  by_cases hi : t = i
  · subst hi
    by_cases hl : t < a.length
    · have hl' : t < b.length := by omega
      simp only [if_true, hl, hl', Option.getD_some]
      omega
    · have hl' : ¬ t < b.length := by omega
      simp [hl, hl']
  · rw [if_neg hi, if_neg hi]; exact h1

/-- sills of which some are higher, and floors -/
inductive HiS : List (Int × Int × Int) → List (Int × Int × Int) → Prop
  | nil : HiS [] []
  | cons {a b h h' : Int} {r r' : List (Int × Int × Int)} : h ≤ h' → h' ≤ 999 → HiS r r' → HiS ((a, b, h) :: r) ((a, b, h') :: r')
def HiF (F F' : List Int) : Prop := F.length = F'.length ∧ ∀ i : Nat, F[i]?.getD 0 ≤ F'[i]?.getD 0 ∧ F'[i]?.getD 0 ≤ 999
theorem HiS.refl : ∀ {l : List (Int × Int × Int)}, (∀ x ∈ l, x.2.2 ≤ 999) → HiS l l
  | [], _ => .nil
  | (a, b, h) :: r, k => .cons (Int.le_refl _) (k (a, b, h) (by simp)) (HiS.refl (fun x hx => k x (by simp [hx])))
theorem HiS.at : ∀ {l : List (Int × Int × Int)} (i : Nat) (d : Int) (hi : i < l.length), 0 ≤ d → (∀ x ∈ l, x.2.2 ≤ 999) → l[i].2.2 + d ≤ 999 → HiS l (l.set i (l[i].1, l[i].2.1, l[i].2.2 + d))
  | (a, b, h) :: r, 0, d, _, h0, k, k9 => .cons (show h ≤ h + d by omega) k9 (HiS.refl (fun x hx => k x (by simp [hx])))
  | (a, b, h) :: r, i + 1, d, hi, h0, k, k9 => by
    have hi' : i < r.length := by simpa using hi
    exact .cons (Int.le_refl _) (k (a, b, h) (by simp)) (HiS.at i d hi' h0 (fun x hx => k x (by simp [hx])) (by simpa using k9))
theorem HiF.refl {F : List Int} (h : ∀ x ∈ F, x ≤ 999) : HiF F F := ⟨rfl, fun i => ⟨Int.le_refl _, by
  by_cases hi : i < F.length
  · rw [List.getElem?_eq_getElem hi]; exact h _ (List.getElem_mem _)
  · rw [List.getElem?_eq_none (by omega)]; decide⟩⟩
theorem HiF.at {F : List Int} (i : Nat) (d : Int) (hi : i < F.length) (d0 : 0 ≤ d) (h : ∀ x ∈ F, x ≤ 999) (h9 : F[i] + d ≤ 999) : HiF F (F.set i (F[i] + d)) := by
  refine ⟨by simp, fun j => ?_⟩
  have k := (HiF.refl h).2 j
  rw [List.getElem?_set]
  by_cases hj : i = j
  · subst hj
    rw [if_pos rfl, if_pos hi, List.getElem?_eq_getElem hi]
    simp only [Option.getD_some]
    omega
  · rw [if_neg hj]; exact k

theorem hi_ap1 {F F' : List Int} (hF : HiF F F') (f : Int) {l l' : List (Int × Int × Int)} (hS : HiS l l') : ∀ {g g' : List Int}, Leq g g' → Leq ((l.filterMap (up1 F f)).foldl ap1 g) ((l'.filterMap (up1 F' f)).foldl ap1 g') := by
  induction hS with
  | nil => exact fun h => h
  | @cons a b h h' r r' hh h9 _ ih =>
    intro g g' hg
    have eo : other (a, b, h') f = other (a, b, h) f := rfl
    by_cases hc : 0 ≤ other (a, b, h) f ∧ (other (a, b, h) f).toNat < F.length
    · have e1 : up1 F f (a, b, h) = some ((other (a, b, h) f).toNat, grt [h, F[(other (a, b, h) f).toNat]?.getD 0]) := if_pos hc
      have e2 : up1 F' f (a, b, h') = some ((other (a, b, h) f).toNat, grt [h', F'[(other (a, b, h) f).toNat]?.getD 0]) := if_pos (by rw [← hF.1]; exact hc)
      rw [List.filterMap_cons_some e1, List.filterMap_cons_some e2, List.foldl_cons, List.foldl_cons]
      refine ih (hg.set _ ?_ ?_)
      · have := hF.2 (other (a, b, h) f).toNat
        simp only [grt2]; omega
      · have := hF.2 (other (a, b, h) f).toNat
        simp only [grt2]; omega
    · have e1 : up1 F f (a, b, h) = none := if_neg hc
      have e2 : up1 F' f (a, b, h') = none := if_neg (by rw [← hF.1]; exact hc)
      rw [List.filterMap_cons_none e1, List.filterMap_cons_none e2]
      exact ih hg
theorem hi_ap2 {F F' : List Int} (hF : HiF F F') (f : Nat) {l l' : List (Int × Int × Int)} (hS : HiS l l') : ∀ {g g' : List Int}, Leq g g' → Leq ((l.filterMap (up1 F f)).foldl (ap2 f) g) ((l'.filterMap (up1 F' f)).foldl (ap2 f) g') := by
  induction hS with
  | nil => exact fun h => h
  | @cons a b h h' r r' hh h9 _ ih =>
    intro g g' hg
    have eo : other (a, b, h') f = other (a, b, h) f := rfl
    by_cases hc : 0 ≤ other (a, b, h) f ∧ (other (a, b, h) f).toNat < F.length
    · have e1 : up1 F f (a, b, h) = some ((other (a, b, h) f).toNat, grt [h, F[(other (a, b, h) f).toNat]?.getD 0]) := if_pos hc
      have e2 : up1 F' f (a, b, h') = some ((other (a, b, h) f).toNat, grt [h', F'[(other (a, b, h) f).toNat]?.getD 0]) := if_pos (by rw [← hF.1]; exact hc)
      rw [List.filterMap_cons_some e1, List.filterMap_cons_some e2, List.foldl_cons, List.foldl_cons]
      have h1 := hF.2 (other (a, b, h) f).toNat
      have h2 := hg.2 f
      refine ih (hg.set _ ?_ ?_)
      · simp only [grt2]; omega
      · simp only [grt2]; omega
    · have e1 : up1 F f (a, b, h) = none := if_neg hc
      have e2 : up1 F' f (a, b, h') = none := if_neg (by rw [← hF.1]; exact hc)
      rw [List.filterMap_cons_none e1, List.filterMap_cons_none e2]
      exact ih hg
theorem hi_lowered {s t : Sd} (hF : HiF s.floors t.floors) (hS : HiS s.sills t.sills) {g g' : List Int} (hg : Leq g g') : Leq (lowered s g) (lowered t g') := by
  unfold lowered
  rw [← hF.1]
  have h0 : Leq (lowSea s g) (lowSea t g') := by rw [lowSea_up, lowSea_up]; exact hi_ap1 hF _ hS hg
  generalize lowSea s g = a at *
  generalize lowSea t g' = b at *
  generalize List.range s.floors.length = l
  induction l generalizing a b with
  | nil => exact h0
  | cons x r ih =>
    refine ih _ _ ?_
    rw [lowFrom_up, lowFrom_up]
    exact hi_ap2 hF _ hS h0

/-- lowered so many times -/
def iterG (s : Sd) : Nat → List Int → List Int
  | 0, g => g
  | n + 1, g => iterG s n (lowered s g)
theorem iterG_fix {s : Sd} {g : List Int} (h : lowered s g = g) : ∀ n, iterG s n g = g
  | 0 => rfl
  | n + 1 => by unfold iterG; rw [h]; exact iterG_fix h n
theorem fixG_iter (s : Sd) : ∀ n g, fixG s n g = iterG s n g
  | 0, g => rfl
  | n + 1, g => by
    unfold fixG
    split
    · next h => exact (iterG_fix h (n + 1)).symm
    · exact fixG_iter s n _
theorem hi_iter {s t : Sd} (hF : HiF s.floors t.floors) (hS : HiS s.sills t.sills) : ∀ n {g g' : List Int}, Leq g g' → Leq (iterG s n g) (iterG t n g')
  | 0, _, _, h => h
  | n + 1, _, _, h => hi_iter hF hS n (hi_lowered hF hS h)
theorem hi_gts {s t : Sd} (hF : HiF s.floors t.floors) (hS : HiS s.sills t.sills) : Leq (gts s) (gts t) := by
  unfold gts
  rw [fixG_iter, fixG_iter]
  exact hi_iter hF hS _ (Leq.refl _)

/-- with one sill more -/
def Geq (g g' : List Int) : Prop := g.length = g'.length ∧ ∀ i : Nat, g'[i]?.getD 0 ≤ g[i]?.getD 0
theorem Geq.set {a b : List Int} (h : Geq a b) (t : Nat) {c d : Int} (hc : d ≤ c) : Geq (a.set t (min (a[t]?.getD 0) c)) (b.set t (min (b[t]?.getD 0) d)) := by
  refine ⟨by simp [h.1], fun i => ?_⟩
  have h1 := h.2 i
  have h0 := h.1
  rw [List.getElem?_set, List.getElem?_set]
  by_cases hi : t = i
  · subst hi
    by_cases hl : t < a.length
    · have hl' : t < b.length := by omega
      simp only [if_true, hl, hl', Option.getD_some]
      omega
    · have hl' : ¬ t < b.length := by omega
      simp [hl, hl']
  · rw [if_neg hi, if_neg hi]; exact h1
theorem Geq.right {a b : List Int} (h : Geq a b) (t : Nat) (d : Int) : Geq a (b.set t (min (b[t]?.getD 0) d)) := by
  refine ⟨by simp [h.1], fun i => ?_⟩
  have h1 := h.2 i
  rw [List.getElem?_set]
  by_cases hi : t = i
  · subst hi
    by_cases hl : t < b.length
    · simp only [if_true, hl, Option.getD_some]
      omega
    · have hl' : ¬ t < a.length := by have := h.1; omega
      simp [hl, hl']
  · rw [if_neg hi]; exact h1
theorem more_ap1 (F : List Int) (f : Int) (l e : List (Int × Int × Int)) {g g' : List Int} (hg : Geq g g') : Geq ((l.filterMap (up1 F f)).foldl ap1 g) (((l ++ e).filterMap (up1 F f)).foldl ap1 g') := by
  rw [List.filterMap_append, List.foldl_append]
  have h0 : Geq ((l.filterMap (up1 F f)).foldl ap1 g) ((l.filterMap (up1 F f)).foldl ap1 g') := by
    generalize l.filterMap (up1 F f) = k
    induction k generalizing g g' with
    | nil => exact hg
    | cons x r ih => exact ih (hg.set _ (Int.le_refl _))
  generalize (l.filterMap (up1 F f)).foldl ap1 g = a at *
  generalize (l.filterMap (up1 F f)).foldl ap1 g' = b at *
  generalize e.filterMap (up1 F f) = k
  induction k generalizing b with
  | nil => exact h0
  | cons x r ih => exact ih _ (h0.right _ _)
theorem more_ap2 (F : List Int) (f : Nat) (l e : List (Int × Int × Int)) {g g' : List Int} (hg : Geq g g') : Geq ((l.filterMap (up1 F f)).foldl (ap2 f) g) (((l ++ e).filterMap (up1 F f)).foldl (ap2 f) g') := by
  rw [List.filterMap_append, List.foldl_append]
  have h0 : Geq ((l.filterMap (up1 F f)).foldl (ap2 f) g) ((l.filterMap (up1 F f)).foldl (ap2 f) g') := by
    generalize l.filterMap (up1 F f) = k
    induction k generalizing g g' with
    | nil => exact hg
    | cons x r ih =>
      refine ih (hg.set _ ?_)
      have := hg.2 f
      simp only [grt2]; omega
  generalize (l.filterMap (up1 F f)).foldl (ap2 f) g = a at *
  generalize (l.filterMap (up1 F f)).foldl (ap2 f) g' = b at *
  generalize e.filterMap (up1 F f) = k
  induction k generalizing b with
  | nil => exact h0
  | cons x r ih => exact ih _ (h0.right _ _)
theorem more_lowered {s t : Sd} {e : List (Int × Int × Int)} (hF : t.floors = s.floors) (hS : t.sills = s.sills ++ e) {g g' : List Int} (hg : Geq g g') : Geq (lowered s g) (lowered t g') := by
  unfold lowered
  rw [hF]
  have h0 : Geq (lowSea s g) (lowSea t g') := by rw [lowSea_up, lowSea_up, hF, hS]; exact more_ap1 _ _ _ _ hg
  generalize lowSea s g = a at *
  generalize lowSea t g' = b at *
  generalize List.range s.floors.length = l
  induction l generalizing a b with
  | nil => exact h0
  | cons x r ih =>
    refine ih _ _ ?_
    rw [lowFrom_up, lowFrom_up, hF, hS]
    exact more_ap2 _ _ _ _ h0
theorem more_iter {s t : Sd} {e : List (Int × Int × Int)} (hF : t.floors = s.floors) (hS : t.sills = s.sills ++ e) : ∀ n {g g' : List Int}, Geq g g' → Geq (iterG s n g) (iterG t n g')
  | 0, _, _, h => h
  | n + 1, _, _, h => more_iter hF hS n (more_lowered hF hS h)
theorem more_gts {s t : Sd} {e : List (Int × Int × Int)} (hF : t.floors = s.floors) (hS : t.sills = s.sills ++ e) : Geq (gts s) (gts t) := by
  unfold gts
  rw [fixG_iter, fixG_iter]
  exact more_iter hF hS _ ⟨rfl, fun _ => Int.le_refl _⟩

/-- no gate is above 1050 -/
theorem iter_less (s : Sd) : ∀ n {g : List Int}, Less top g → Less top (iterG s n g)
  | 0, _, h => h
  | n + 1, g, h => iter_less s n (h.trans (lowered_less s g (fun i => (h.2 i).1)))
theorem gts_le (s : Sd) (p : Nat) : 0 ≤ gateOf s p ∧ gateOf s p ≤ 1050 := by
  have h : Less top (gts s) := by
    unfold gts
    rw [fixG_iter]
    exact iter_less s _ (Less.refl top_nonneg)
  have h1 := h.2 p
  have h2 : top[p]?.getD 0 ≤ 1050 := by
    unfold top
    rw [List.getElem?_replicate]
    split <;> simp
  unfold gateOf
  omega
theorem hasWay_lt (s : Sd) (p : Nat) : hasWayB s p = decide (gateOf s p < 1050) := by
  have hg := gts_le s p
  unfold gateOf at hg ⊢
  unfold hasWayB
  generalize (gts s)[p]?.getD 0 = g at *
  by_cases h : g = 1050
  · subst h; rfl
  · rw [decide_eq_true (show g < 1050 by omega), bne_iff_ne]; exact h

section
variable {s t : Sd}
theorem errFor_in (ok : Ok s) {x : Int} (h : 0 ≤ x ∧ x < s.floors.length) : errFor s x = 0 := by
  unfold errFor
  rw [if_pos (chk_zero ok)]
  have : isPl s x = true := inB_true.2 (by omega)
  rw [this]; rfl
theorem errGate_in (ok : Ok s) {x : Int} (h : 0 ≤ x ∧ x < s.floors.length) : errGate s x = if gateOf s x.toNat < 1050 then 0 else 6 := by
  unfold errGate
  rw [if_pos (errFor_in ok h), hasWay_lt]
  by_cases h : gateOf s x.toNat < 1050 <;> simp [h]
theorem gateV_in (ok : Ok s) {x : Int} (h : 0 ≤ x ∧ x < s.floors.length) : gateV s x = if gateOf s x.toNat < 1050 then gateOf s x.toNat else 0 := by
  unfold gateV
  rw [errGate_in ok h]
  by_cases h : gateOf s x.toNat < 1050 <;> simp [h]
/-- raised: the same errors, no lesser gates, no greater states -/
theorem hi_gate (ok : Ok s) (ok' : Ok t) (hF : HiF s.floors t.floors) (hS : HiS s.sills t.sills) {x : Int} (h : 0 ≤ x ∧ x < s.floors.length) : errGate t x = errGate s x ∧ gateV s x ≤ gateV t x := by
  have h' : 0 ≤ x ∧ x < t.floors.length := by rw [← hF.1]; exact h
  have k := (hi_gts hF hS).2 x.toNat
  rw [errGate_in ok h, errGate_in ok' h', gateV_in ok h, gateV_in ok' h']
  unfold gateOf at *
  by_cases c : (gts s)[x.toNat]?.getD 0 < 1050
  · have c' := k.2 c
    rw [if_pos c, if_pos c', if_pos c, if_pos c']
    exact ⟨rfl, k.1⟩
  · have c' : ¬ (gts t)[x.toNat]?.getD 0 < 1050 := by omega
    rw [if_neg c, if_neg c', if_neg c, if_neg c']
    exact ⟨rfl, Int.le_refl _⟩
theorem hi_st (hF : HiF s.floors t.floors) (hS : HiS s.sills t.sills) (hT : t.table = s.table) (hl : t.lo = s.lo) (hh : t.hi = s.hi) (m : Int) (p : Nat) : st t m p ≤ st s m p := by
  have k := (hi_gts hF hS).2 p
  unfold st gateOf
  rw [hT, hl, hh]
  repeat' split
  all_goals omega
theorem more_gate {e : List (Int × Int × Int)} (ok : Ok s) (ok' : Ok t) (hF : t.floors = s.floors) (hS : t.sills = s.sills ++ e) {x : Int} (h : 0 ≤ x ∧ x < s.floors.length) : errGate s x = 0 → errGate t x = 0 ∧ gateV t x ≤ gateV s x := by
  have h' : 0 ≤ x ∧ x < t.floors.length := by rw [hF]; exact h
  have k := (more_gts hF hS).2 x.toNat
  rw [errGate_in ok h, errGate_in ok' h', gateV_in ok h, gateV_in ok' h']
  unfold gateOf at *
  by_cases c : (gts s)[x.toNat]?.getD 0 < 1050
  · have c' : (gts t)[x.toNat]?.getD 0 < 1050 := by omega
    rw [if_pos c, if_pos c', if_pos c, if_pos c']
    exact fun _ => ⟨rfl, k⟩
  · rw [if_neg c]
    exact fun h => by cases h
theorem more_st {e : List (Int × Int × Int)} (hF : t.floors = s.floors) (hS : t.sills = s.sills ++ e) (hT : t.table = s.table) (hl : t.lo = s.lo) (hh : t.hi = s.hi) (m : Int) (p : Nat) : st s m p ≤ st t m p := by
  have k := (more_gts hF hS).2 p
  unfold st gateOf
  rw [hT, hl, hh]
  repeat' split
  all_goals omega
end
end
end Go.Proofs.Ytcljkkojeleakaa
/- Plain facts: sands with a higher sill, with a higher floor, with one sill more. -/
namespace Go.Proofs.Ytcljkkojeleakaa
section
open Go.RowKit

def hiSill (s : Sd) (i : Nat) (d : Int) : Sd := ⟨s.table, s.lo, s.hi, s.floors, s.sills.set i ((s.sills[i]?.getD (0, 0, 0)).1, (s.sills[i]?.getD (0, 0, 0)).2.1, (s.sills[i]?.getD (0, 0, 0)).2.2 + d)⟩
def hiFloor (s : Sd) (i : Nat) (d : Int) : Sd := ⟨s.table, s.lo, s.hi, s.floors.set i (s.floors[i]?.getD 0 + d), s.sills⟩
def oneMore (s : Sd) (x : Int × Int × Int) : Sd := ⟨s.table, s.lo, s.hi, s.floors, s.sills ++ [x]⟩
section
variable {s : Sd}
theorem hiSill_none {i : Nat} {d : Int} (h : s.sills.length ≤ i) : hiSill s i d = s := by
  unfold hiSill
  rw [List.set_eq_of_length_le h]
theorem hiSill_ok (ok : Ok s) (i : Nat) (d : Int) (d0 : 0 ≤ d) (h : ∀ x ∈ s.sills, x.2.2 + d ≤ 999) : Ok (hiSill s i d) := by
  by_cases hi : i < s.sills.length
  · have hm := List.getElem_mem (l := s.sills) hi
    have e : s.sills[i]?.getD (0, 0, 0) = s.sills[i] := by rw [List.getElem?_eq_getElem hi]; rfl
    refine ⟨ok.table, ok.fl0, ok.fl1, ?_, ok.lo0, ok.hi1, ok.lohi, ok.floors, fun x hx => ?_, fun x hx => ?_, fun x hx => ?_⟩
    · show (s.sills.set _ _).length ≤ 16
      rw [List.length_set]; exact ok.sl
    · rcases List.mem_or_eq_of_mem_set hx with h1 | rfl
      · exact ok.heights x h1
      · rw [e]
        have h1 := ok.heights _ hm
        have h2 := h _ hm
        show 0 ≤ s.sills[i].2.2 + d ∧ s.sills[i].2.2 + d ≤ 999
        omega
    · rcases List.mem_or_eq_of_mem_set hx with h1 | rfl
      · exact ok.good x h1
      · rw [e]; exact ok.good s.sills[i] hm
    · rcases List.mem_or_eq_of_mem_set hx with h1 | rfl
      · exact ok.two x h1
      · rw [e]; exact ok.two s.sills[i] hm
  · rw [hiSill_none (by omega)]; exact ok
theorem hiFloor_ok (ok : Ok s) (i : Nat) (d : Int) (d0 : 0 ≤ d) (h : ∀ x ∈ s.floors, x + d ≤ 999) : Ok (hiFloor s i d) := by
  by_cases hi : i < s.floors.length
  · have hm := List.getElem_mem (l := s.floors) hi
    have e : s.floors[i]?.getD 0 = s.floors[i] := by rw [List.getElem?_eq_getElem hi]; rfl
    have hl : (hiFloor s i d).floors.length = s.floors.length := List.length_set ..
    refine ⟨ok.table, by rw [hl]; exact ok.fl0, by rw [hl]; exact ok.fl1, ok.sl, ok.lo0, ok.hi1, ok.lohi, fun x hx => ?_, ok.heights, ?_, ok.two⟩
    · rcases List.mem_or_eq_of_mem_set hx with h1 | rfl
      · exact ok.floors x h1
      · rw [e]
        have h1 := ok.floors _ hm
        have h2 := h _ hm
        omega
    · rw [hl]; exact ok.good
  · have : hiFloor s i d = s := by unfold hiFloor; rw [List.set_eq_of_length_le (by omega)]
    rw [this]; exact ok
theorem oneMore_ok (ok : Ok s) (x : Int × Int × Int) (hl : s.sills.length < 16) (h0 : 0 ≤ x.2.2 ∧ x.2.2 ≤ 999) (hA : x.1 = -1) (hB : 0 ≤ x.2.1 ∧ x.2.1 < s.floors.length) : Ok (oneMore s x) := by
  refine ⟨ok.table, ok.fl0, ok.fl1, ?_, ok.lo0, ok.hi1, ok.lohi, ok.floors, fun y hy => ?_, fun y hy => ?_, fun y hy => ?_⟩
  · show (s.sills ++ [x]).length ≤ 16
    rw [List.length_append]; exact hl
  · rcases List.mem_append.1 hy with h1 | h1
    · exact ok.heights y h1
    · rw [List.mem_singleton] at h1; subst h1; exact h0
  · rcases List.mem_append.1 hy with h1 | h1
    · exact ok.good y h1
    · rw [List.mem_singleton] at h1; subst h1; exact ⟨Or.inl hA, Or.inr hB⟩
  · rcases List.mem_append.1 hy with h1 | h1
    · exact ok.two y h1
    · rw [List.mem_singleton] at h1; subst h1; omega

/-- as long lists, and the same wind -/
structure Dims (s t : Sd) : Prop where
  tl : t.table.length = s.table.length
  lo : t.lo = s.lo
  hi : t.hi = s.hi
  fl : t.floors.length = s.floors.length
  sl : t.sills.length = s.sills.length
theorem Dims.refl (s : Sd) : Dims s s := ⟨rfl, rfl, rfl, rfl, rfl⟩
theorem dims_sill (s : Sd) (i : Nat) (d : Int) : Dims s (hiSill s i d) := ⟨rfl, rfl, rfl, rfl, List.length_set ..⟩
theorem dims_floor (s : Sd) (i : Nat) (d : Int) : Dims s (hiFloor s i d) := ⟨rfl, rfl, rfl, List.length_set .., rfl⟩

theorem Dims.cells {s t : Sd} (h : Dims s t) (pT pF pS : Option Addr) (cT cF cS : Nat) : sdCells s pT pF pS cT cF cS = sdCells t pT pF pS cT cF cS := by
  unfold sdCells
  rw [h.tl, h.lo, h.hi, h.fl, h.sl]
/-- the first, second or third of three -/
def pick3 {α : Type} (a b c : α) (i : Nat) : α := if i = 0 then a else if i = 1 then b else c
theorem pick3_row (t1 t2 t3 : Sd) (xT yT zT xF yF zF xS yS zS : Option Addr) (jT kT iT jF kF iF jS kS iS : Nat) (i : Nat) (hi : i < 3) :
    [sdCells t1 xT xF xS jT jF jS, sdCells t2 yT yF yS kT kF kS, sdCells t3 zT zF zS iT iF iS][i]? = some (sdCells (pick3 t1 t2 t3 i) (pick3 xT yT zT i) (pick3 xF yF zF i) (pick3 xS yS zS i) (pick3 jT kT iT i) (pick3 jF kF iF i) (pick3 jS kS iS i)) := by
  obtain rfl | rfl | rfl : i = 0 ∨ i = 1 ∨ i = 2 := by omega
  all_goals rfl
theorem sdCells_len (s : Sd) (pT pF pS : Option Addr) (cT cF cS : Nat) : (sdCells s pT pF pS cT cF cS).length = 5 := rfl
/-- what the law asks of raised sands -/
structure NoLess (s t : Sd) : Prop where
  ok : Ok t
  fl : t.floors.length = s.floors.length
  day : ∀ m, inDay t m = inDay s m
  gate : ∀ x : Int, 0 ≤ x → x < s.floors.length → errGate t x = errGate s x ∧ gateV s x ≤ gateV t x
  st : ∀ (m : Int) (p : Nat), st t m p ≤ st s m p
structure NoMore (s t : Sd) : Prop where
  ok : Ok t
  fl : t.floors.length = s.floors.length
  day : ∀ m, inDay t m = inDay s m
  gate : ∀ x : Int, 0 ≤ x → x < s.floors.length → errGate s x = 0 → errGate t x = 0 ∧ gateV t x ≤ gateV s x
  st : ∀ (m : Int) (p : Nat), st s m p ≤ st t m p
theorem noLess_sill (ok : Ok s) (i : Nat) (d : Int) (d0 : 0 ≤ d) (h : ∀ x ∈ s.sills, x.2.2 + d ≤ 999) : NoLess s (hiSill s i d) := by
  have hF : HiF s.floors (hiSill s i d).floors := HiF.refl (fun x hx => (ok.floors x hx).2)
  have hS : HiS s.sills (hiSill s i d).sills := by
    by_cases hi : i < s.sills.length
    · unfold hiSill
      have e : s.sills[i]?.getD (0, 0, 0) = s.sills[i] := by rw [List.getElem?_eq_getElem hi]; rfl
      rw [e]
      exact HiS.at i d hi d0 (fun x hx => (ok.heights x hx).2) (h _ (List.getElem_mem hi))
    · rw [hiSill_none (by omega)]
      exact HiS.refl (fun x hx => (ok.heights x hx).2)
  have ok' := hiSill_ok ok i d d0 h
  exact ⟨ok', rfl, fun _ => rfl, fun x h0 h1 => hi_gate ok ok' hF hS ⟨h0, h1⟩, hi_st hF hS rfl rfl rfl⟩
theorem noLess_floor (ok : Ok s) (i : Nat) (d : Int) (hi : i < s.floors.length) (d0 : 0 ≤ d) (h : ∀ x ∈ s.floors, x + d ≤ 999) : NoLess s (hiFloor s i d) := by
  have hS : HiS s.sills (hiFloor s i d).sills := HiS.refl (fun x hx => (ok.heights x hx).2)
  have hF : HiF s.floors (hiFloor s i d).floors := by
    unfold hiFloor
    have e : s.floors[i]?.getD 0 = s.floors[i] := by rw [List.getElem?_eq_getElem hi]; rfl
    rw [e]
    exact HiF.at i d hi d0 (fun x hx => (ok.floors x hx).2) (h _ (List.getElem_mem hi))
  have ok' := hiFloor_ok ok i d d0 h
  exact ⟨ok', List.length_set .., fun _ => rfl, fun x h0 h1 => hi_gate ok ok' hF hS ⟨h0, h1⟩, hi_st hF hS rfl rfl rfl⟩
theorem noMore_one (ok : Ok s) (x : Int × Int × Int) (hl : s.sills.length < 16) (h0 : 0 ≤ x.2.2 ∧ x.2.2 ≤ 999) (hA : x.1 = -1) (hB : 0 ≤ x.2.1 ∧ x.2.1 < s.floors.length) : NoMore s (oneMore s x) := by
  have ok' := oneMore_ok ok x hl h0 hA hB
  exact ⟨ok', rfl, fun _ => rfl, fun y y0 y1 => more_gate (e := [x]) ok ok' rfl rfl ⟨y0, y1⟩, more_st (e := [x]) rfl rfl rfl rfl rfl⟩
theorem allV_get (ok : Ok s) {m : Int} (hm : inDay s m = true) : (allV s m).length = s.floors.length ∧ ∀ (j : Nat) (h : j < (allV s m).length), (allV s m)[j] = st s m j := by
  have e : allV s m = allS s m := by unfold allV; rw [if_pos (errAt_in ok hm)]
  rw [e]
  exact ⟨by simp [allS], fun j h => by simp [allS]⟩
/-- what the law asks of the one of three -/
structure Like (s t : Sd) (k : Nat) : Prop where
  ok : Ok t
  fl : t.floors.length = s.floors.length
  day : ∀ m, inDay t m = inDay s m
  less : k < 2 → (∀ x : Int, 0 ≤ x → x < s.floors.length → errGate t x = errGate s x ∧ gateV s x ≤ gateV t x) ∧ ∀ (m : Int) (p : Nat), st t m p ≤ st s m p
  more : k = 2 → (∀ x : Int, 0 ≤ x → x < s.floors.length → errGate s x = 0 → errGate t x = 0 ∧ gateV t x ≤ gateV s x) ∧ ∀ (m : Int) (p : Nat), st s m p ≤ st t m p
theorem like3 {t1 t2 t3 : Sd} (h1 : NoLess s t1) (h2 : NoLess s t2) (h3 : NoMore s t3) (i : Nat) (hi : i < 3) : Like s (pick3 t1 t2 t3 i) i := by
  obtain rfl | rfl | rfl : i = 0 ∨ i = 1 ∨ i = 2 := by omega
  · exact ⟨h1.ok, h1.fl, h1.day, fun _ => ⟨h1.gate, h1.st⟩, fun h => by omega⟩
  · exact ⟨h2.ok, h2.fl, h2.day, fun _ => ⟨h2.gate, h2.st⟩, fun h => by omega⟩
  · exact ⟨h3.ok, h3.fl, h3.day, fun h => by omega, fun _ => ⟨h3.gate, h3.st⟩⟩
theorem errGate_or (ok : Ok s) {x : Int} (h : 0 ≤ x ∧ x < s.floors.length) : errGate s x = 0 ∨ errGate s x = 6 := by
  rw [errGate_in ok h]
  by_cases c : gateOf s x.toNat < 1050
  · exact Or.inl (if_pos c)
  · exact Or.inr (if_neg c)
end
end
end Go.Proofs.Ytcljkkojeleakaa
/- Rows that lie in a block of their own, from its first cell on: cells, and what a store changes. -/
namespace Go.Proofs.Ytcljkkojeleakaa
section
open Go.RowKit Go.Shelf

theorem flatten_set (k : Nat) : ∀ (rows : List (List Value)) (i j : Nat) (v : Value) (hi : i < rows.length), (∀ r ∈ rows, r.length = k) → j < k → rows.flatten.set (i * k + j) v = (rows.set i (rows[i].set j v)).flatten
  | a :: r, 0, j, v, _, hk, hj => by
    have ha := hk a (by simp)
    rw [Nat.zero_mul, Nat.zero_add, List.flatten_cons, List.set_append_left _ _ (by omega)]
    rfl
  | a :: r, i + 1, j, v, hi, hk, hj => by
    have ha := hk a (by simp)
    have hi' : i < r.length := by simpa using hi
    have ih := flatten_set k r i j v hi' (fun x hx => hk x (by simp [hx])) hj
    rw [List.flatten_cons, List.set_append_right _ _ (by rw [Nat.add_mul]; omega), show (i + 1) * k + j - a.length = i * k + j by rw [Nat.add_mul]; omega, ih]
    rfl
theorem flatten_len (k : Nat) : ∀ (rows : List (List Value)), (∀ r ∈ rows, r.length = k) → rows.flatten.length = rows.length * k
  | [], _ => by simp
  | a :: r, h => by
    rw [List.flatten_cons, List.length_append, flatten_len k r (fun x hx => h x (by simp [hx])), h a (by simp), List.length_cons, Nat.add_mul]
    omega

def RowBlk (w : World) (g : Nat) (T : TypeId) (k : Nat) (rows : List (List Value)) : Prop := (∀ r ∈ rows, r.length = k) ∧ ∃ cur : List Value, Blk w g cur T ∧ cur.take (rows.length * k) = rows.flatten
section
variable {w w' : World} {g k n₀ c : Nat} {T : TypeId} {p : Option Addr} {rows : List (List Value)}
theorem RowBlk.cell (h : RowBlk w g T k rows) {i j : Nat} {row : List Value} {x : Value} (hi : rows[i]? = some row) (hj : row[j]? = some x) : w.cell? ⟨g, i * k + j, none⟩ = some x := by
  obtain ⟨hk, cur, hb, ht⟩ := h
  have hil := (List.getElem?_eq_some_iff.1 hi).1
  have hr : row.length = k := hk row (List.mem_of_getElem? hi)
  have hjl : j < k := by have := (List.getElem?_eq_some_iff.1 hj).1; omega
  have hok : flatOk k rows = true := by unfold flatOk; simpa using hk
  have hf := flat_at k rows hok i row hi j x hj
  have hlt : i * k + j < rows.length * k := by
    have : (i + 1) * k ≤ rows.length * k := Nat.mul_le_mul_right _ (by omega)
    rw [Nat.add_mul] at this; omega
  rw [← ht, List.getElem?_take_of_lt hlt] at hf
  rw [hb.cell, hf]
theorem RowBlk.free (h : RowBlk w g T k rows) (i : Nat) : w.frozen? ⟨g, i, none⟩ = false := by
  obtain ⟨-, cur, hb, -⟩ := h
  exact hb.free i
theorem RowBlk.lt (h : RowBlk w g T k rows) : g < w.heap.size := by
  obtain ⟨-, cur, hb, -⟩ := h
  exact hb.lt
theorem RowBlk.row (h : RowBlk w g T k rows) : Row w (some ⟨g, 0, none⟩) k rows := fun i row hi => ⟨g, 0, rfl, fun j x hj => by rw [Nat.zero_add]; exact h.cell hi hj⟩
theorem RowBlk.up (h : RowBlk w g T k rows) (hu : Up w w') : RowBlk w' g T k rows := by
  obtain ⟨hk, cur, hb, ht⟩ := h
  exact ⟨hk, cur, hb.up hu, ht⟩
theorem RowBlk.other (h : RowBlk w g T k rows) {a : Addr} (ha : g ≠ a.block) (v : Value) : RowBlk (w.setCell a v) g T k rows := by
  obtain ⟨hk, cur, hb, ht⟩ := h
  exact ⟨hk, cur, hb.other ha v, ht⟩
theorem RowBlk.far {B n : Nat} (h : RowBlk w g T k rows) (hf : Far B n w w') (h1 : g < n) (h2 : g ≠ B) : RowBlk w' g T k rows := by
  obtain ⟨hk, cur, hb, ht⟩ := h
  exact ⟨hk, cur, hf.blk hb h1 h2, ht⟩
theorem RowBlk.set (h : RowBlk w g T k rows) {i j : Nat} (hi : i < rows.length) (hj : j < k) (v : Value) : RowBlk (w.setCell ⟨g, i * k + j, none⟩ v) g T k (rows.set i (rows[i].set j v)) := by
  obtain ⟨hk, cur, hb, ht⟩ := h
  refine ⟨fun r hr => ?_, _, hb.set _ _, ?_⟩
  · rcases List.mem_or_eq_of_mem_set hr with h1 | rfl
    · exact hk r h1
    · rw [List.length_set]; exact hk _ (List.getElem_mem _)
  · rw [List.length_set, ← flatten_set k rows i j v hi hk hj, ← ht, List.take_set]
theorem RowBlk.of (h : w.ownsRow n₀ T k (.slice p rows.length c) rows.length rows.flatten) (hk : ∀ r ∈ rows, r.length = k) (hl : 0 < rows.length) : ∃ g, p = some ⟨g, 0, none⟩ ∧ n₀ ≤ g ∧ RowBlk w g T k rows := by
  rcases h.2 with ⟨-, h0⟩ | ⟨g, cap, cur, h1, h2, h3, h4, h5, h6, h7⟩
  · omega
  · injection h1 with e1 e2 e3
    exact ⟨g, e1, h2, hk, cur.toList, h3, h7⟩
/-- rows of another type lie elsewhere -/
theorem RowBlk.ne {E : TypeId} {m n : Nat} {q : Option Addr} {xs : List Value} (h : RowBlk w g T k rows) (h' : w.ownsRow n₀ E m (.slice q n c) n xs) (hE : E ≠ T) : ∀ b off, q = some ⟨b, off, none⟩ → b ≠ g := by
  intro b off e hb
  obtain ⟨-, cur, hc, -⟩ := h
  rcases h'.2 with ⟨h1, -⟩ | ⟨g', cap, cur', h1, h2, h3, h4⟩
  · injection h1 with e1 e2 e3
    rw [e1] at e; cases e
  · injection h1 with e1 e2 e3
    rw [e1] at e
    simp only [Option.some.injEq, Addr.mk.injEq] at e
    have hg : g' = g := by omega
    rw [hg] at h3
    have h5 := h3.symm.trans hc
    simp only [Option.some.injEq, Obj.cells.injEq] at h5
    exact hE h5.2.1
theorem Blk.row {w : World} {B : Nat} {T : TypeId} (k : Nat) {rows : List (List Value)} (hk : ∀ r ∈ rows, r.length = k) (h : Blk w B rows.flatten T) : RowBlk w B T k rows :=
  ⟨hk, _, h, by rw [List.take_of_length_le (by rw [flatten_len k rows hk]; exact Nat.le_refl _)]⟩
/-- own rows lie below the heap's end -/
theorem ownsRow_lt {E : TypeId} {m n : Nat} {q : Option Addr} {xs : List Value} (h : w.ownsRow n₀ E m (.slice q n c) n xs) : ∀ b off, q = some ⟨b, off, none⟩ → n₀ ≤ b ∧ b < w.heap.size := by
  intro b off e
  rcases h.2 with ⟨h1, -⟩ | ⟨g', cap, cur', h1, h2, h3, h4⟩
  · injection h1 with e1 e2 e3
    rw [e1] at e; cases e
  · injection h1 with e1 e2 e3
    rw [e1] at e
    simp only [Option.some.injEq, Addr.mk.injEq] at e
    have hg : g' = b := by omega
    rw [hg] at h3 h2
    exact ⟨h2, (Array.getElem?_eq_some_iff.1 h3).1⟩
end
theorem triples_len (l : List (Int × Int × Int)) : ∀ r ∈ triples l, r.length = 3 := fun r hr => by
  simp only [triples, List.mem_map] at hr
  obtain ⟨x, -, rfl⟩ := hr; rfl
theorem pairs_len (l : List (Int × Int)) : ∀ r ∈ pairs l, r.length = 2 := fun r hr => by
  simp only [pairs, List.mem_map] at hr
  obtain ⟨x, -, rfl⟩ := hr; rfl
theorem ints_len (l : List Int) : ∀ r ∈ ints l, r.length = 1 := fun r hr => by
  simp only [ints, List.mem_map] at hr
  obtain ⟨x, -, rfl⟩ := hr; rfl
theorem triples_set (l : List (Int × Int × Int)) (i : Nat) (hi : i < l.length) (h : Int) : (triples l).set i (((triples l)[i]'(by simpa [triples] using hi)).set 2 (.int .i64 h)) = triples (l.set i (l[i].1, l[i].2.1, h)) := by
  unfold triples
  rw [List.map_set]
  simp
theorem ints_set (l : List Int) (i : Nat) (hi : i < l.length) (h : Int) : (ints l).set i (((ints l)[i]'(by simpa [ints] using hi)).set 0 (.int .i64 h)) = ints (l.set i h) := by
  unfold ints
  rw [List.map_set]
  simp
end
end Go.Proofs.Ytcljkkojeleakaa
/- The statement 'a, b, c := Own(s), Own(s), Own(s)', operation by operation: three copies of sands, each in rows of its own. -/
namespace Go.Proofs.Ytcljkkojeleakaa
section
open Go.RowKit Go.Shelf

section
variable {w w' w1 W : World} {s : Sd} {pT pF pS : Option Addr} {cT cF cS n : Nat}
theorem Mine.lists (h : Mine w n s pT pF pS cT cF cS) : Lists w s pT pF pS cT cF cS := by
  obtain ⟨p1, c1, e1, a1, b1, r1, -⟩ := Row.of_own (flatOk_pairs _) h.ot (by simp [pairs])
  obtain ⟨p2, c2, e2, a2, b2, r2, -⟩ := Row.of_own (flatOk_ints _) h.of (by simp [ints])
  obtain ⟨p3, c3, e3, a3, b3, r3, -⟩ := Row.of_own (flatOk_triples _) h.os (by simp [triples])
  simp only [Value.slice.injEq, true_and] at e1 e2 e3
  obtain ⟨rfl, rfl⟩ := e1
  obtain ⟨rfl, rfl⟩ := e2
  obtain ⟨rfl, rfl⟩ := e3
  exact ⟨r1, r2, r3, a1, a2, a3, b1, b2, b3⟩
theorem ownsRow_typ {base k : Nat} {E T : TypeId} {v : Value} {xs cs : List Value} {m B : Nat} (h : w.ownsRow base E k v m xs) (hb : Blk w B cs T) (ht : T ≠ E) (i : Nat) (x : Value) : (w.setCell ⟨B, i, none⟩ x).ownsRow base E k v m xs :=
  ownsRow_setCell_other h (hb.not_row ht h) x
theorem Mine.typ {cs : List Value} {B : Nat} (h : Mine w n s pT pF pS cT cF cS) (hb : Blk w B cs 28) (i : Nat) (x : Value) : Mine (w.setCell ⟨B, i, none⟩ x) n s pT pF pS cT cF cS :=
  ⟨ownsRow_typ h.ot hb (by decide) i x, ownsRow_typ h.of hb (by decide) i x, ownsRow_typ h.os hb (by decide) i x⟩
theorem Mine.fill {B : Nat} {qT qF qS : Option Addr} {dT dF dS : Nat} (h : Mine w n s qT qF qS dT dF dS) (hb : Blk w B zero5 28) (s' : Sd) (pT pF pS : Option Addr) (cT cF cS : Nat) : Mine (fill w B s' pT pF pS cT cF cS) n s qT qF qS dT dF dS :=
  ((((h.typ hb 0 _).typ (hb.set 0 _) 1 _).typ ((hb.set 0 _).set 1 _) 2 _).typ (((hb.set 0 _).set 1 _).set 2 _) 3 _).typ ((((hb.set 0 _).set 1 _).set 2 _).set 3 _) 4 _

theorem Mine.size (h : Mine w n s pT pF pS cT cF cS) (hl : 0 < s.table.length) : n ≤ w.heap.size := by
  rcases h.ot.2 with ⟨-, h0⟩ | ⟨g, cap, cur, -, h2, h3, -⟩
  · omega
  · have := (Array.getElem?_eq_some_iff.1 h3).1; omega
/-- rows lie below m -/
def Under (m : Nat) (pT pF pS : Option Addr) : Prop := ∀ b off, (pT = some ⟨b, off, none⟩ ∨ pF = some ⟨b, off, none⟩ ∨ pS = some ⟨b, off, none⟩) → b < m
theorem Mine.under (h : Mine w n s pT pF pS cT cF cS) : Under w.heap.size pT pF pS := fun b off e => by
  rcases e with e | e | e
  · exact (ownsRow_lt h.ot b off e).2
  · exact (ownsRow_lt h.of b off e).2
  · exact (ownsRow_lt h.os b off e).2

/-- a copy, in rows of its own from n on, below m -/
def Copy (w1 W : World) (s : Sd) (v : Value) (n m : Nat) : Prop := ∃ qT qF qS dT dF dS, v = sdVal s qT qF qS dT dF dS ∧ Mine W n s qT qF qS dT dF dS ∧ Under m qT qF qS ∧ m ≤ W.heap.size ∧ w1.heap.size ≤ n ∧ n ≤ m
theorem Copy.up {v : Value} {n m : Nat} (h : Copy w1 W s v n m) (u : Up W w') : Copy w1 w' s v n m := by
  obtain ⟨qT, qF, qS, dT, dF, dS, h1, h2, h3, h4, h5, h6⟩ := h
  have := u.size
  exact ⟨qT, qF, qS, dT, dF, dS, h1, h2.up u, h3, by omega, h5, h6⟩

/-- how far the statement has come -/
structure Tri (w1 : World) (s : Sd) (val : Value) (done : Nat → Bool) (W : World) (V : Nat → Value) : Prop where
  up : Up w1 W
  vals : ∀ i, done i = true → (i = 0 ∨ i = 2 ∨ i = 4) → V i = val
  ord : (done 3 = true → done 1 = true) ∧ (done 5 = true → done 3 = true)
  cps : ∃ n m : Nat → Nat, (∀ i, done i = true → (i = 1 ∨ i = 3 ∨ i = 5) → Copy w1 W s (V i) (n i) (m i)) ∧ (∀ i j, done i = true → done j = true → (i = 1 ∨ i = 3 ∨ i = 5) → (j = 1 ∨ j = 3 ∨ j = 5) → i < j → m i ≤ n j)
  als : ∃ B : Nat → Nat, (∀ i, done i = true → 6 ≤ i → i ≤ 8 → V i = .pointer (some ⟨B i, 0, none⟩) ∧ Blk W (B i) zero5 28 ∧ w1.heap.size ≤ B i) ∧ ∀ i j, done i = true → done j = true → 6 ≤ i → i ≤ 8 → 6 ≤ j → j ≤ 8 → i ≠ j → B i ≠ B j
theorem upd_or {done : Nat → Bool} {i k : Nat} (h : upd done i k = true) : k = i ∨ k ≠ i ∧ done k = true := by
  by_cases e : k = i
  · exact Or.inl e
  · refine Or.inr ⟨e, ?_⟩
    have : (k == i) = false := by rw [beq_eq_false_iff_ne]; exact e
    simpa [upd, this] using h
theorem upd_self (done : Nat → Bool) (i : Nat) : upd done i i = true := by simp [upd]
theorem upd_of {done : Nat → Bool} {i k : Nat} (h : done k = true) : upd done i k = true := by simp [upd, h]
section
variable {val : Value} {done : Nat → Bool} {V : Nat → Value}
theorem Tri.start (w : World) (s : Sd) (val : Value) : Tri w s val (fun _ => false) w.drew (fun _ => undef) :=
  ⟨(Below.refl _ _).drew, fun _ h => (by cases h), ⟨fun h => (by cases h), fun h => (by cases h)⟩, ⟨fun _ => 0, fun _ => 0, fun _ h => (by cases h), fun _ _ h => (by cases h)⟩, ⟨fun _ => 0, fun _ h => (by cases h), fun _ _ h => (by cases h)⟩⟩
theorem Tri.load (h : Tri w1 s val done W V) (i : Nat) (hi : i = 0 ∨ i = 2 ∨ i = 4) : Tri w1 s val (upd done i) W (fun k => if k = i then val else V k) := by
  obtain ⟨n, m, c1, c2⟩ := h.cps
  obtain ⟨B, a1, a2⟩ := h.als
  refine ⟨h.up, fun k hk hk' => ?_, ⟨fun hk => ?_, fun hk => ?_⟩, ⟨n, m, fun k hk hk' => ?_, fun k j hk hj k1 j1 => ?_⟩, ⟨B, fun k hk k1 k2 => ?_, fun k j hk hj k1 k2 j1 j2 => ?_⟩⟩
  · show (if k = i then val else V k) = val
    rcases upd_or hk with e | ⟨e, hd⟩
    · rw [if_pos e]
    · rw [if_neg e]; exact h.vals k hd hk'
  · rcases upd_or hk with e | ⟨e, hd⟩
    · omega
    · exact upd_of (h.ord.1 hd)
  · rcases upd_or hk with e | ⟨e, hd⟩
    · omega
    · exact upd_of (h.ord.2 hd)
  · show Copy w1 W s (if k = i then val else V k) _ _
    rcases upd_or hk with e | ⟨e, hd⟩
    · omega
    · rw [if_neg e]; exact c1 k hd hk'
  · rcases upd_or hk with e | ⟨e, hd⟩
    · omega
    · rcases upd_or hj with e' | ⟨e', hd'⟩
      · omega
      · exact c2 k j hd hd' k1 j1
  · show (if k = i then val else V k) = _ ∧ _
    rcases upd_or hk with e | ⟨e, hd⟩
    · omega
    · rw [if_neg e]; exact a1 k hd k1 k2
  · rcases upd_or hk with e | ⟨e, hd⟩
    · omega
    · rcases upd_or hj with e' | ⟨e', hd'⟩
      · omega
      · exact a2 k j hd hd' k1 k2 j1 j2
theorem Tri.call (h : Tri w1 s val done W V) (i : Nat) (hi : i = 1 ∨ i = 3 ∨ i = 5) (hn : done i = false) (hb : (i = 3 → done 1 = true) ∧ (i = 5 → done 3 = true)) {W' : World} (u : Up W W') {qT qF qS : Option Addr} {dT dF dS n0 : Nat} (hm : Mine W' n0 s qT qF qS dT dF dS) (h0 : W.heap.size ≤ n0) (h1 : n0 ≤ W'.heap.size) :
    Tri w1 s val (upd done i) W' (fun k => if k = i then sdVal s qT qF qS dT dF dS else V k) := by
  obtain ⟨n, m, c1, c2⟩ := h.cps
  obtain ⟨B, a1, a2⟩ := h.als
  have hu := h.up.size
  refine ⟨Up.trans h.up u, fun k hk hk' => ?_, ⟨fun hk => ?_, fun hk => ?_⟩, ⟨fun k => if k = i then n0 else n k, fun k => if k = i then W'.heap.size else m k, fun k hk hk' => ?_, fun k j hk hj k1 j1 hkj => ?_⟩, ⟨B, fun k hk k1 k2 => ?_, fun k j hk hj k1 k2 j1 j2 => ?_⟩⟩
  · show (if k = i then _ else V k) = val
    rcases upd_or hk with e | ⟨e, hd⟩
    · omega
    · rw [if_neg e]; exact h.vals k hd hk'
  · rcases upd_or hk with e | ⟨e, hd⟩
    · exact upd_of (hb.1 e.symm)
    · exact upd_of (h.ord.1 hd)
  · rcases upd_or hk with e | ⟨e, hd⟩
    · exact upd_of (hb.2 e.symm)
    · exact upd_of (h.ord.2 hd)
  · show Copy w1 W' s (if k = i then _ else V k) (if k = i then _ else _) (if k = i then _ else _)
    rcases upd_or hk with e | ⟨e, hd⟩
    · rw [if_pos e, if_pos e, if_pos e]
      exact ⟨qT, qF, qS, dT, dF, dS, rfl, hm, hm.under, Nat.le_refl _, by omega, h1⟩
    · rw [if_neg e, if_neg e, if_neg e]; exact (c1 k hd hk').up u
  · show (if k = i then _ else m k) ≤ (if j = i then _ else n j)
    rcases upd_or hk with e | ⟨e, hd⟩
    · exfalso
      rcases upd_or hj with e' | ⟨e', hd'⟩
      · omega
      · have o1 := h.ord.1
        have o2 := h.ord.2
        rcases hi with rfl | rfl | rfl
        · rcases j1 with rfl | rfl | rfl
          · omega
          · rw [o1 hd'] at hn; cases hn
          · rw [o1 (o2 hd')] at hn; cases hn
        · rcases j1 with rfl | rfl | rfl
          · omega
          · omega
          · rw [o2 hd'] at hn; cases hn
        · omega
    · rw [if_neg e]
      rcases upd_or hj with e' | ⟨e', hd'⟩
      · rw [if_pos e']
        obtain ⟨-, -, -, -, -, -, -, -, -, h4, -, -⟩ := c1 k hd k1
        omega
      · rw [if_neg e']
        exact c2 k j hd hd' k1 j1 hkj
  · show (if k = i then _ else V k) = _ ∧ _
    rcases upd_or hk with e | ⟨e, hd⟩
    · omega
    · rw [if_neg e]
      obtain ⟨x1, x2, x3⟩ := a1 k hd k1 k2
      exact ⟨x1, x2.up u, x3⟩
  · rcases upd_or hk with e | ⟨e, hd⟩
    · omega
    · rcases upd_or hj with e' | ⟨e', hd'⟩
      · omega
      · exact a2 k j hd hd' k1 k2 j1 j2
theorem Tri.alloc (h : Tri w1 s val done W V) (i : Nat) (h6 : 6 ≤ i) (h8 : i ≤ 8) :
    Tri w1 s val (upd done i) (W.alloc (.cells #[.slice none 0 0, .int .i64 0, .int .i64 0, .slice none 0 0, .slice none 0 0] 28)) (fun k => if k = i then .pointer (some ⟨W.heap.size, 0, none⟩) else V k) := by
  obtain ⟨n, m, c1, c2⟩ := h.cps
  obtain ⟨B, a1, a2⟩ := h.als
  have hu := h.up.size
  have u : Up W (W.alloc (.cells #[.slice none 0 0, .int .i64 0, .int .i64 0, .slice none 0 0, .slice none 0 0] 28)) := by (repeat (first | exact Below.refl _ _ | (with_reducible refine Below.drewN' ?_ _) | (with_reducible refine Below.drew ?_) | (with_reducible refine Below.setCell ?_ (by first | exact Nat.le_refl _ | omega | (with_reducible (repeat (first | refine sz_alloc ?_ | refine sz_setCell ?_ | refine sz_drew ?_ | refine sz_drewN ?_)); first | exact Nat.le_refl _ | omega) | (simp only [World.size_alloc, World.size_setCell, World.size_drew, size_drewN']; omega)) _) | (with_reducible refine Below.alloc ?_ (by first | exact Nat.le_refl _ | omega | (with_reducible (repeat (first | refine sz_alloc ?_ | refine sz_setCell ?_ | refine sz_drew ?_ | refine sz_drewN ?_)); first | exact Nat.le_refl _ | omega) | (simp only [World.size_alloc, World.size_setCell, World.size_drew, size_drewN']; omega)) _) | assumption))
  refine ⟨Up.trans h.up u, fun k hk hk' => ?_, ⟨fun hk => ?_, fun hk => ?_⟩, ⟨n, m, fun k hk hk' => ?_, fun k j hk hj k1 j1 hkj => ?_⟩, ⟨fun k => if k = i then W.heap.size else B k, fun k hk k1 k2 => ?_, fun k j hk hj k1 k2 j1 j2 hne => ?_⟩⟩
  · show (if k = i then _ else V k) = val
    rcases upd_or hk with e | ⟨e, hd⟩
    · omega
    · rw [if_neg e]; exact h.vals k hd hk'
  · rcases upd_or hk with e | ⟨e, hd⟩
    · omega
    · exact upd_of (h.ord.1 hd)
  · rcases upd_or hk with e | ⟨e, hd⟩
    · omega
    · exact upd_of (h.ord.2 hd)
  · show Copy w1 _ s (if k = i then _ else V k) _ _
    rcases upd_or hk with e | ⟨e, hd⟩
    · omega
    · rw [if_neg e]; exact (c1 k hd hk').up u
  · rcases upd_or hk with e | ⟨e, hd⟩
    · omega
    · rcases upd_or hj with e' | ⟨e', hd'⟩
      · omega
      · exact c2 k j hd hd' k1 j1 hkj
  · show (if k = i then _ else V k) = .pointer (some ⟨if k = i then _ else B k, 0, none⟩) ∧ Blk _ (if k = i then _ else B k) _ _ ∧ _ ≤ (if k = i then _ else B k)
    rcases upd_or hk with e | ⟨e, hd⟩
    · rw [if_pos e, if_pos e]
      exact ⟨rfl, Blk.new W zero5 _, hu⟩
    · rw [if_neg e, if_neg e]
      obtain ⟨x1, x2, x3⟩ := a1 k hd k1 k2
      exact ⟨x1, x2.up u, x3⟩
  · show (if k = i then _ else B k) ≠ (if j = i then _ else B j)
    rcases upd_or hk with e | ⟨e, hd⟩
    · rcases upd_or hj with e' | ⟨e', hd'⟩
      · omega
      · rw [if_pos e, if_neg e']
        have := (a1 j hd' j1 j2).2.1.lt
        omega
    · rcases upd_or hj with e' | ⟨e', hd'⟩
      · rw [if_neg e, if_pos e']
        have := (a1 k hd k1 k2).2.1.lt
        omega
      · rw [if_neg e, if_neg e']
        exact a2 k j hd hd' k1 k2 j1 j2 hne
end

/-- three copies, each in a block of its own with rows of its own -/
def Three (w0 wx : World) (s : Sd) (a b c : Value) : Prop :=
  ∃ B6 B7 B8 qT qF qS dT dF dS rT rF rS gT gF gS uT uF uS hT hF hS n1 n2 n3, a = .pointer (some ⟨B6, 0, none⟩) ∧ b = .pointer (some ⟨B7, 0, none⟩) ∧ c = .pointer (some ⟨B8, 0, none⟩) ∧ Up w0 wx ∧
    Blk wx B6 (sdCells s qT qF qS dT dF dS) 28 ∧ Blk wx B7 (sdCells s rT rF rS gT gF gS) 28 ∧ Blk wx B8 (sdCells s uT uF uS hT hF hS) 28 ∧
    Mine wx n1 s qT qF qS dT dF dS ∧ Under n2 qT qF qS ∧ Mine wx n2 s rT rF rS gT gF gS ∧ Under n3 rT rF rS ∧ Mine wx n3 s uT uF uS hT hF hS ∧ w0.heap.size ≤ n1 ∧ n1 ≤ n2 ∧ n2 ≤ n3 ∧
    w0.heap.size ≤ B6 ∧ w0.heap.size ≤ B7 ∧ w0.heap.size ≤ B8 ∧ B6 ≠ B7 ∧ B6 ≠ B8 ∧ B7 ≠ B8
theorem Under.mono {m m' : Nat} (h : Under m pT pF pS) (hm : m ≤ m') : Under m' pT pF pS := fun b off e => Nat.lt_of_lt_of_le (h b off e) hm
theorem Tri.ends {val : Value} {V : Nat → Value} (h : Tri w1 s val (fun j => decide (j < 9)) W V) :
    ∃ B6 B7 B8 qT qF qS dT dF dS rT rF rS gT gF gS uT uF uS hT hF hS, V 6 = .pointer (some ⟨B6, 0, none⟩) ∧ V 7 = .pointer (some ⟨B7, 0, none⟩) ∧ V 8 = .pointer (some ⟨B8, 0, none⟩) ∧
      V 1 = sdVal s qT qF qS dT dF dS ∧ V 3 = sdVal s rT rF rS gT gF gS ∧ V 5 = sdVal s uT uF uS hT hF hS ∧ V 0 = val ∧ V 2 = val ∧ V 4 = val ∧
      Blk W B6 zero5 28 ∧ Blk W B7 zero5 28 ∧ Blk W B8 zero5 28 ∧ B6 ≠ B7 ∧ B6 ≠ B8 ∧ B7 ≠ B8 ∧
      Three w1 (fill (fill (fill W B6 s qT qF qS dT dF dS) B7 s rT rF rS gT gF gS) B8 s uT uF uS hT hF hS) s (V 6) (V 7) (V 8) := by
  obtain ⟨n, m, c1, c2⟩ := h.cps
  obtain ⟨B, a1, a2⟩ := h.als
  obtain ⟨e6, b6, z6⟩ := a1 6 rfl (by omega) (by omega)
  obtain ⟨e7, b7, z7⟩ := a1 7 rfl (by omega) (by omega)
  obtain ⟨e8, b8, z8⟩ := a1 8 rfl (by omega) (by omega)
  have n67 := a2 6 7 rfl rfl (by omega) (by omega) (by omega) (by omega) (by omega)
  have n68 := a2 6 8 rfl rfl (by omega) (by omega) (by omega) (by omega) (by omega)
  have n78 := a2 7 8 rfl rfl (by omega) (by omega) (by omega) (by omega) (by omega)
  obtain ⟨qT, qF, qS, dT, dF, dS, e1, q2, q3, q4, q5, q6⟩ := c1 1 rfl (by omega)
  obtain ⟨rT, rF, rS, gT, gF, gS, e3, r2, r3, r4, r5, r6⟩ := c1 3 rfl (by omega)
  obtain ⟨uT, uF, uS, hT, hF, hS, e5, u2, u3, u4, u5, u6⟩ := c1 5 rfl (by omega)
  have l1 := c2 1 3 rfl rfl (by omega) (by omega) (by omega)
  have l2 := c2 3 5 rfl rfl (by omega) (by omega) (by omega)
  have b7' := fill_other b7 (Ne.symm n67) s qT qF qS dT dF dS
  have b8' := fill_other (fill_other b8 (Ne.symm n68) s qT qF qS dT dF dS) (Ne.symm n78) s rT rF rS gT gF gS
  refine ⟨B 6, B 7, B 8, qT, qF, qS, dT, dF, dS, rT, rF, rS, gT, gF, gS, uT, uF, uS, hT, hF, hS, e6, e7, e8, e1, e3, e5, h.vals 0 rfl (by omega), h.vals 2 rfl (by omega), h.vals 4 rfl (by omega), b6, b7, b8, n67, n68, n78, ?_⟩
  refine ⟨B 6, B 7, B 8, qT, qF, qS, dT, dF, dS, rT, rF, rS, gT, gF, gS, uT, uF, uS, hT, hF, hS, n 1, n 3, n 5, e6, e7, e8, ?_, ?_, ?_, ?_, ?_, q3.mono l1, ?_, r3.mono l2, ?_, q5, by omega, by omega, z6, z7, z8, n67, n68, n78⟩
  · exact fill_up (fill_up (fill_up h.up z6 _ _ _ _ _ _ _) z7 _ _ _ _ _ _ _) z8 _ _ _ _ _ _ _
  · exact fill_other (fill_other (fill_blk b6 _ _ _ _ _ _ _) n67 _ _ _ _ _ _ _) n68 _ _ _ _ _ _ _
  · exact fill_other (fill_blk b7' _ _ _ _ _ _ _) n78 _ _ _ _ _ _ _
  · exact fill_blk b8' _ _ _ _ _ _ _
  · exact ((q2.fill b6 _ _ _ _ _ _ _).fill b7' _ _ _ _ _ _ _).fill b8' _ _ _ _ _ _ _
  · exact ((r2.fill b6 _ _ _ _ _ _ _).fill b7' _ _ _ _ _ _ _).fill b8' _ _ _ _ _ _ _
  · exact ((u2.fill b6 _ _ _ _ _ _ _).fill b7' _ _ _ _ _ _ _).fill b8' _ _ _ _ _ _ _
end
end
end Go.Proofs.Ytcljkkojeleakaa
/- As Draw: but an operation of the tail may wait for one of the head by way of another one of the tail. -/
namespace Go.Proofs.Ytcljkkojeleakaa
open Go.RowKit Go.Shelf

/-- each operation from N on waits for each before N, at once or by way of others -/
def tailWaits3 (md : Region.Mode) (ops : Array Oper) (N : Nat) : Bool :=
  (List.range ops.size).all fun t => decide (t < N) || (List.range N).all fun j => waitsT md ops ops.size 6 t j

theorem head_of_ready3 {md : Region.Mode} {ops : Array Oper} {N : Nat} {listed : Array Bool} {i j : Nat} (ht : tailWaits3 md ops N = true) (hcl : Closed md ops (fun j => listed.getD j false)) (hi : i < N) (hun : listed.getD i false = false) (hj : j ∈ Region.ready md ops listed) : j < N := by
  rcases Nat.lt_or_ge j N with h | h
  · exact h
  · exfalso
    obtain ⟨_, oj, hoj, hall⟩ := mem_ready.1 hj
    have hjs : j < ops.size := (Array.getElem?_eq_some_iff.1 hoj).1
    have h1 := List.all_eq_true.1 ht j (List.mem_range.2 hjs)
    simp only [Bool.or_eq_true, decide_eq_true_eq] at h1
    have h2 := h1.resolve_left (by omega)
    have h3 := List.all_eq_true.1 h2 i (List.mem_range.2 hi)
    have one : ∀ k, Region.waitsFor md ops j k = true → listed.getD k false = true := fun k hk => by
      obtain ⟨o', ho', e, he, hb, hon⟩ := Region.waitsFor_spec hk
      have : o' = oj := Option.some.inj (ho'.symm.trans hoj)
      subst this
      rw [← hon]
      exact hall e he hb
    simp only [waitsT, Bool.or_eq_true, List.any_eq_true, Bool.and_eq_true] at h3
    rcases h3 with h3 | ⟨k, -, h4, h5⟩
    · rw [one i h3] at hun; cases hun
    · have h6 : listed.getD i false = true := hcl.all (N := ops.size) 5 k i (one k h4) (by simp only [waitsT, Bool.or_eq_true, List.any_eq_true, Bool.and_eq_true]; exact h5)
      rw [h6] at hun; cases hun

section
variable {P : Program} {Q : Exit → Act → World → Prop} {N : Nat}

theorem inv_G3 {md : Region.Mode} {ops : Array Oper} {R : Array Bool → Act → World → Prop} (Inv : (Nat → Bool) → Act → World → Prop) (hb : backward ops = true) (ht : tailWaits3 md ops N = true) (hN : N ≤ ops.size)
    (step : ∀ (done : Nat → Bool) (a : Act) (w : World) (i : Nat) (o : Oper), i < N → done i = false → ops[i]? = some o → (∀ e ∈ o.after, Region.binds md e = true → done e.on = true) → Inv done a w → wpOp P ops Q i (fun a' w' => Inv (upd done i) a' w') a w)
    (hR : ∀ (listed : Array Bool) (a : Act) (w : World), listed.size = ops.size → (∀ j, listed.getD j false = decide (j < N)) → Inv (fun j => decide (j < N)) a w → R listed a w) :
    ∀ (f : Nat) (listed : Array Bool) (a : Act) (w : World), listed.size = ops.size → (∀ j, N ≤ j → listed.getD j false = false) → cnt (fun j => listed.getD j false) N = f → Closed md ops (fun j => listed.getD j false) → Inv (fun j => listed.getD j false) a w →
      wpAnyG P md ops Q (fun _ => True) N R f listed a w
  | 0, listed, a, w, hs, hf, hc, _, hi => by
    have hall := cnt_zero hc
    have hg : ∀ j, listed.getD j false = decide (j < N) := fun j => by
      by_cases h : j < N
      · rw [hall j h]; simp [h]
      · rw [hf j (by omega)]; simp [h]
    refine ⟨hall, hR listed a w hs hg ?_⟩
    rw [show (fun j => listed.getD j false) = (fun j => decide (j < N)) from funext hg] at hi
    exact hi
  | f + 1, listed, a, w, hs, hf, hc, hcl, hi => by
    obtain ⟨j, hj, hun, hbefore⟩ := cnt_first (g := fun j => listed.getD j false) (n := N) (by omega)
    have hjs : j < ops.size := by omega
    have hready : j ∈ Region.ready md ops listed := by
      refine mem_ready.2 ⟨?_, ops[j], Array.getElem?_eq_getElem hjs, fun e he _ => ?_⟩
      · have hun' : listed.getD j false = false := hun
        rw [Array.getD_eq_getD_getElem?] at hun' ⊢
        rw [Array.getElem?_eq_getElem (by omega)] at hun' ⊢
        exact hun'
      · have h1 := List.all_eq_true.1 hb j (List.mem_range.2 hjs)
        rw [Array.getElem?_eq_getElem hjs] at h1
        have h2 := (Array.all_eq_true_iff_forall_mem.1 h1) e he
        simp only [decide_eq_true_eq] at h2
        exact hbefore _ h2
    refine ⟨fun h0 => (by rw [h0] at hready; cases hready), fun i hir => ?_⟩
    have hiN := head_of_ready3 ht hcl hj hun hir
    obtain ⟨hiun, o, ho, hall⟩ := mem_ready.1 hir
    have hiun' : listed.getD i false = false := getD_both hiun
    refine ⟨hiN, wpOp_mono (fun a' w' h' => ⟨trivial, ?_⟩) (step (fun j => listed.getD j false) a w i o hiN hiun' ho hall hi)⟩
    have hset : (fun j => (listed.setIfInBounds i true).getD j false) = upd (fun j => listed.getD j false) i := by
      funext k
      by_cases hk : i = k
      · subst hk
        have : i < (listed.setIfInBounds i true).size := by simp; omega
        rw [Array.getD_eq_getD_getElem?, Array.getElem?_eq_getElem this]
        simp [upd]
      · rw [getD_set_ne false hk]
        have : (k == i) = false := by rw [beq_eq_false_iff_ne]; omega
        simp [upd, this]
    refine inv_G3 Inv hb ht hN step hR f _ a' w' (by simpa using hs) (fun k hk => ?_) ?_ ?_ ?_
    · rw [getD_set_ne false (by omega)]; exact hf k hk
    · rw [hset]
      have := cnt_set (fun j => listed.getD j false) i hiun' N hiN
      omega
    · rw [hset]
      intro k ok hok hk e he hb
      have hk' : listed.getD k false = true ∨ k = i := by simpa [upd] using hk
      have : listed.getD e.on false = true := by
        rcases hk' with hk' | rfl
        · exact hcl k ok hok hk' e he hb
        · have : ok = o := Option.some.inj (hok.symm.trans ho)
          subst this
          exact hall e he hb
      simp [upd, this]
    · rw [hset]; exact h'

/-- the order is right for the rule: the first N, in whatever order, then the others as they stand -/
def drawOk3 (md : Region.Mode) (l : List Oper) (N : Nat) : Bool :=
  decide (N ≤ l.length) && backward l.toArray && tailWaits3 md l.toArray N && (headDone N (List.replicate N true ++ List.replicate (l.length - N) false).toArray && Region.seqB md l.toArray (l.drop N).length N (List.replicate N true ++ List.replicate (l.length - N) false).toArray)

theorem region_inv3 {id : Nat} {l : List Oper} {a : Act} {w : World} (N : Nat) (Inv : (Nat → Bool) → Act → World → Prop) (hm : P.follows .mixedOrders = true) (hd : drawOk3 .any l N = true)
    (start : Inv (fun _ => false) a w.drew)
    (step : ∀ (done : Nat → Bool) (a : Act) (w : World) (i : Nat) (o : Oper), i < N → done i = false → l.toArray[i]? = some o → (∀ e ∈ o.after, Region.binds .any e = true → done e.on = true) → Inv done a w → wpOp P l.toArray Q i (fun a' w' => Inv (upd done i) a' w') a w)
    (tail : ∀ a w, Inv (fun j => decide (j < N)) a w → wpList P l.toArray Q (l.drop N) a w) : (Code.region id l.toArray true).wp P Q a w := by
  unfold drawOk3 at hd
  simp only [Bool.and_eq_true, decide_eq_true_eq] at hd
  obtain ⟨⟨⟨hN, hb⟩, ht⟩, hh, hseq⟩ := hd
  refine region_tail (fun _ => True) N hm (by simpa using hN) trivial (fun _ => ?_)
  refine inv_G3 Inv hb ht (by simpa using hN) step (fun listed a w hs hg hi => ?_) N _ a w.drew (by simp) (fun j _ => none_listed _ j) ?_ (fun i o _ hi => ?_) ?_
  · rw [listed_eq (n := l.length) (by simpa using hs) hN hg]
    have := wpAnyG_tail (P := P) (Q := Q) (S := fun _ => True) (a := a) (w := w) (by rw [Bool.and_eq_true]; exact ⟨hh, hseq⟩) (tail a w hi)
    exact this.2
  · have : (fun j => (Array.replicate l.toArray.size false).getD j false) = fun _ => false := by funext j; exact none_listed _ j
    rw [this]; exact cnt_none N
  · have hi' : (Array.replicate l.toArray.size false).getD i false = true := hi
    rw [none_listed] at hi'; cases hi'
  · have : (fun j => (Array.replicate l.toArray.size false).getD j false) = fun _ => false := by funext j; exact none_listed _ j
    rw [this]; exact start
end
end Go.Proofs.Ytcljkkojeleakaa
/- A region whose operations only read, by its last frame: each operation is looked at once, in that frame, whatever the order. -/
namespace Go.Proofs.Ytcljkkojeleakaa
open Go.RowKit Go.Shelf

/-- what is written, all together -/
def putAll (a : Act) : List Oper → List Value → Act
  | o :: l, v :: vs => putAll (a.put o.dst v) l vs
  | _, _ => a
/-- each operation waits for those whose values it looks at; no two write one slot -/
def readOk (l : List Oper) : Bool :=
  (List.range l.length).all fun i => match l[i]? with
    | none => true
    | some o => (match o.op with | .select .. => false | _ => true) && o.dst.isSome &&
      ((List.range l.length).all fun j => j == i || (match l[j]? with | some oj => oj.dst != o.dst | none => true)) &&
      ((o.looksAt l.toArray).all fun t => (List.range l.length).all fun j => match l[j]? with | some oj => oj.dst != some t || o.after.any (fun e => Region.binds .any e && e.on == j) | none => true)
def slotsIn (n : Nat) (l : List Oper) : Bool := l.all fun o => match o.dst with | some d => decide (d < n) | none => false
/-- each operation yields its value, looked at in the last frame -/
def Cert (P : Program) (ops : Array Oper) (S : World → Prop) (fin : Act) : List Oper → List Value → Prop
  | [], [] => True
  | o :: l, v :: vs => YieldsIf P ops S o v fin ∧ Cert P ops S fin l vs
  | _, _ => False
section
variable {P : Program} {S : World → Prop} {fin : Act}
theorem Cert.get {ops : Array Oper} : ∀ {l : List Oper} {vs : List Value}, Cert P ops S fin l vs → ∀ (i : Nat) (o : Oper), l[i]? = some o → ∃ v, vs[i]? = some v ∧ YieldsIf P ops S o v fin
  | [], [], _, i, o, h => by simp at h
  | a :: l, v :: vs, hc, 0, o, h => by
    simp only [List.getElem?_cons_zero, Option.some.injEq] at h
    subst h
    exact ⟨v, rfl, hc.1⟩
  | a :: l, v :: vs, hc, i + 1, o, h => Cert.get hc.2 i o (by simpa using h)
  | [], _ :: _, hc, _, _, _ => hc.elim
  | _ :: _, [], hc, _, _, _ => hc.elim
theorem Cert.len {ops : Array Oper} : ∀ {l : List Oper} {vs : List Value}, Cert P ops S fin l vs → vs.length = l.length
  | [], [], _ => rfl
  | a :: l, v :: vs, hc => by simp [Cert.len hc.2]
  | [], _ :: _, hc => hc.elim
  | _ :: _, [], hc => hc.elim
end
theorem put_at (a : Act) (d t : Nat) (v : Value) (hd : d < a.tmps.size) : (a.put (some d) v).tmps[t]? = if t = d then some v else a.tmps[t]? := by
  show (a.tmps.setIfInBounds d v)[t]? = _
  by_cases h : t = d
  · subst h; rw [if_pos rfl]; simp [hd]
  · rw [if_neg h, Array.getElem?_setIfInBounds_ne (Ne.symm h)]
theorem put_size (a : Act) (d : Option Nat) (v : Value) : (a.put d v).tmps.size = a.tmps.size := by
  cases d with
  | none => rfl
  | some d => show (a.tmps.setIfInBounds d v).size = _; simp
theorem put_defs (a : Act) (d : Option Nat) (v : Value) : (a.put d v).defers = a.defers := by cases d <;> rfl
theorem putAll_spec : ∀ (l : List Oper) (vs : List Value) (a : Act), vs.length = l.length → (∀ o ∈ l, ∃ d, o.dst = some d ∧ d < a.tmps.size) →
    (∀ (i j : Nat) (o p : Oper), l[i]? = some o → l[j]? = some p → o.dst = p.dst → i = j) →
    (putAll a l vs).tmps.size = a.tmps.size ∧ (putAll a l vs).defers = a.defers ∧ (∀ t, (∀ o ∈ l, o.dst ≠ some t) → (putAll a l vs).tmps[t]? = a.tmps[t]?) ∧
    (∀ (i : Nat) (o : Oper) (v : Value) (d : Nat), l[i]? = some o → vs[i]? = some v → o.dst = some d → (putAll a l vs).tmps[d]? = some v)
  | [], [], a, _, _, _ => ⟨rfl, rfl, fun _ _ => rfl, fun i o v d h => by simp at h⟩
  | o :: l, v :: vs, a, hl, hd, hu => by
    obtain ⟨d, hod, hdl⟩ := hd o (by simp)
    obtain ⟨h1, h2, h3, h4⟩ := putAll_spec l vs (a.put o.dst v) (by simpa using hl) (fun p hp => by rw [put_size]; exact hd p (by simp [hp])) (fun i j p q hi hj he => by
      have := hu (i + 1) (j + 1) p q (by simpa using hi) (by simpa using hj) he
      omega)
    refine ⟨by rw [show putAll a (o :: l) (v :: vs) = putAll (a.put o.dst v) l vs from rfl, h1, put_size], by rw [show putAll a (o :: l) (v :: vs) = putAll (a.put o.dst v) l vs from rfl, h2, put_defs], fun t ht => ?_, fun i p x e hi hx he => ?_⟩
    · show (putAll (a.put o.dst v) l vs).tmps[t]? = _
      rw [h3 t (fun p hp => ht p (by simp [hp])), hod, put_at a d t v hdl, if_neg (fun e => ht o (by simp) (by rw [hod, e]))]
    · show (putAll (a.put o.dst v) l vs).tmps[e]? = _
      cases i with
      | zero =>
        simp only [List.getElem?_cons_zero, Option.some.injEq] at hi hx
        subst hi hx
        have hed : e = d := by rw [hod] at he; exact (Option.some.inj he).symm
        subst hed
        rw [h3 e (fun p hp hpe => by
          obtain ⟨k, hk⟩ := List.getElem?_of_mem hp
          have := hu 0 (k + 1) o p rfl (by simpa using hk) (by rw [hod, hpe])
          omega), hod, put_at a e e v hdl, if_pos rfl]
      | succ i => exact h4 i p x e (by simpa using hi) (by simpa using hx) he
  | [], _ :: _, _, hl, _, _ => by simp at hl
  | _ :: _, [], _, hl, _, _ => by simp at hl

theorem region_read {P : Program} {Q : Exit → Act → World → Prop} {id : Nat} {l : List Oper} {a : Act} {w : World} (S : World → Prop) (vs : List Value) (fin : Act) (hm : P.follows .mixedOrders = true)
    (hd : (drawOk3 .any l l.length && readOk l && slotsIn a.tmps.size l) = true) (hfin : putAll a l vs = fin) (hS : S w.drew) (hc : Cert P l.toArray S fin l vs) (h : wpList P l.toArray Q [] fin w.drew) : (Code.region id l.toArray true).wp P Q a w := by
  simp only [Bool.and_eq_true] at hd
  obtain ⟨⟨hd1, hr⟩, hsl⟩ := hd
  have rd : ∀ (i : Nat) (o : Oper), l[i]? = some o → (∀ cs b, o.op ≠ .select cs b) ∧ (∃ d, o.dst = some d ∧ d < a.tmps.size) ∧ (∀ (j : Nat) (oj : Oper), l[j]? = some oj → oj.dst = o.dst → j = i) ∧
      (∀ t ∈ o.looksAt l.toArray, ∀ (j : Nat) (oj : Oper), l[j]? = some oj → oj.dst = some t → ∃ e ∈ o.after, Region.binds .any e = true ∧ e.on = j) := by
    intro i o ho
    have hi : i < l.length := (List.getElem?_eq_some_iff.1 ho).1
    have k := List.all_eq_true.1 hr i (List.mem_range.2 hi)
    simp only [ho, Bool.and_eq_true] at k
    obtain ⟨⟨⟨k1, k2⟩, k3⟩, k4⟩ := k
    refine ⟨(fun cs b e => by rw [e] at k1; cases k1), ?_, fun j oj hj e => ?_, fun t ht j oj hj e => ?_⟩
    · have hs := List.all_eq_true.1 hsl o (List.mem_of_getElem? ho)
      cases hdst : o.dst with
      | none => rw [hdst] at hs; cases hs
      | some d => rw [hdst] at hs; exact ⟨d, rfl, by simpa using hs⟩
    · have hjl : j < l.length := (List.getElem?_eq_some_iff.1 hj).1
      have := List.all_eq_true.1 k3 j (List.mem_range.2 hjl)
      simp only [hj, Bool.or_eq_true, beq_iff_eq, bne_iff_ne] at this
      rcases this with h | h
      · exact h
      · exact absurd e h
    · have hjl : j < l.length := (List.getElem?_eq_some_iff.1 hj).1
      have := List.all_eq_true.1 (List.all_eq_true.1 k4 t ht) j (List.mem_range.2 hjl)
      simp only [hj, Bool.or_eq_true, bne_iff_ne] at this
      rcases this with h | h
      · exact absurd e h
      · obtain ⟨x, hx, hb⟩ := Array.any_eq_true'.1 h
        simp only [Bool.and_eq_true, beq_iff_eq] at hb
        exact ⟨x, hx, hb.1, hb.2⟩
  obtain ⟨f1, f2, f3, f4⟩ := putAll_spec l vs a hc.len (fun o ho => by obtain ⟨k, hk⟩ := List.getElem?_of_mem ho; exact (rd k o hk).2.1)
    (fun i j o p hi hj e => (rd j p hj).2.2.1 i o hi e)
  rw [hfin] at f1 f2 f3 f4
  refine region_inv3 l.length (fun done a' w' => w' = w.drew ∧ a'.defers = a.defers ∧ a'.tmps.size = a.tmps.size ∧
    (∀ t, (∀ (j : Nat) (o : Oper), l[j]? = some o → o.dst = some t → done j = false) → a'.tmps[t]? = a.tmps[t]?) ∧
    (∀ (j : Nat) (o : Oper) (v : Value) (d : Nat), l[j]? = some o → vs[j]? = some v → o.dst = some d → done j = true → a'.tmps[d]? = some v)) hm hd1 ?_ ?_ ?_
  · exact ⟨rfl, rfl, rfl, fun _ _ => rfl, fun j o v d _ _ _ h => by cases h⟩
  · rintro done a' w' i o hi hn ho hall ⟨rfl, g1, g2, g3, g4⟩
    have ho' : l[i]? = some o := by simpa using ho
    obtain ⟨r1, ⟨d, hd, hdl⟩, r3, r4⟩ := rd i o ho'
    obtain ⟨v, hv, hy⟩ := hc.get i o ho'
    have agree : ∀ t ∈ o.looksAt l.toArray, a'.tmps[t]? = fin.tmps[t]? := by
      intro t ht
      by_cases hex : ∃ (j : Nat) (oj : Oper), l[j]? = some oj ∧ oj.dst = some t
      · obtain ⟨j, oj, hj, hjt⟩ := hex
        obtain ⟨e, he, hb, hon⟩ := r4 t ht j oj hj hjt
        have hdone : done j = true := by rw [← hon]; exact hall e he hb
        obtain ⟨vj, hvj, -⟩ := hc.get j oj hj
        rw [g4 j oj vj t hj hvj hjt hdone, f4 j oj vj t hj hvj hjt]
      · rw [g3 t (fun j oj hj hjt => absurd ⟨j, oj, hj, hjt⟩ hex), f3 t (fun p hp hpt => by
          obtain ⟨k, hk⟩ := List.getElem?_of_mem hp
          exact hex ⟨k, p, hk, hpt⟩)]
    have he : execOp a'.eval o = execOp fin.eval o := execOp_congr o r1 fun x hx => by
      cases x with
      | tmp t =>
        have := agree t (List.mem_append_left _ (List.mem_filterMap.2 ⟨.tmp t, by simpa using hx, rfl⟩))
        simp [Act.eval, this]
      | _ => rfl
    have hw : Region.wanted o (yielded l.toArray a'.tmps) = Region.wanted o (yielded l.toArray fin.tmps) := by
      unfold Region.wanted
      cases hg : o.guard with
      | none => rfl
      | some gw =>
        obtain ⟨g, want⟩ := gw
        have hyy : yielded l.toArray a'.tmps g = yielded l.toArray fin.tmps g := by
          unfold yielded
          cases ht : (l.toArray[g]?).bind (·.dst) with
          | none => rfl
          | some t =>
            have := agree t (List.mem_append_right _ (by simp only [hg, ht]; simp))
            simp only [Option.bind_some, this]
        simp only [hyy]
    refine (hy.of_same he hw).wpOp ho hS ⟨rfl, by rw [put_defs]; exact g1, by rw [put_size]; exact g2, fun t ht => ?_, fun j oj vj dj hj hvj hdj hdone => ?_⟩
    · rw [hd, put_at a' d t v (by rw [g2]; exact hdl), if_neg (fun e => by
        have := ht i o ho' (by rw [hd, e])
        rw [show upd done i i = true by simp [upd]] at this; cases this)]
      exact g3 t (fun j oj hj hjt => by
        have := ht j oj hj hjt
        simp only [upd, Bool.or_eq_false_iff] at this
        exact this.1)
    · by_cases e : j = i
      · subst e
        have e1 : oj = o := Option.some.inj (hj.symm.trans ho')
        subst e1
        have e2 : vj = v := Option.some.inj (hvj.symm.trans hv)
        subst e2
        have e3 : dj = d := by rw [hd] at hdj; exact (Option.some.inj hdj).symm
        subst e3
        rw [hd, put_at a' dj dj vj (by rw [g2]; exact hdl), if_pos rfl]
      · have hne : dj ≠ d := fun e' => e (r3 j oj hj (by rw [hdj, hd, e']))
        rw [hd, put_at a' d dj v (by rw [g2]; exact hdl), if_neg hne]
        refine g4 j oj vj dj hj hvj hdj ?_
        have : (j == i) = false := by rw [beq_eq_false_iff_ne]; exact e
        simpa [upd, this] using hdone
  · rintro a' w' ⟨rfl, g1, g2, g3, g4⟩
    have ea : a' = fin := by
      obtain ⟨t', d'⟩ := a'
      obtain ⟨tf, df⟩ := fin
      simp only at g1 g2 g3 g4 f1 f2 f3 f4
      have hd : d' = df := by rw [g1, f2]
      have ht : t' = tf := by
        apply Array.ext
        · omega
        · intro t h1 h2
          have : t'[t]? = tf[t]? := by
            by_cases hex : ∃ (j : Nat) (oj : Oper), l[j]? = some oj ∧ oj.dst = some t
            · obtain ⟨j, oj, hj, hjt⟩ := hex
              obtain ⟨vj, hvj, -⟩ := hc.get j oj hj
              have hjl : j < l.length := (List.getElem?_eq_some_iff.1 hj).1
              rw [g4 j oj vj t hj hvj hjt (by simp [hjl]), f4 j oj vj t hj hvj hjt]
            · rw [g3 t (fun j oj hj hjt => absurd ⟨j, oj, hj, hjt⟩ hex), f3 t (fun p hp hpt => by
                obtain ⟨k, hk⟩ := List.getElem?_of_mem hp
                exact hex ⟨k, p, hk, hpt⟩)]
          rw [Array.getElem?_eq_getElem h1, Array.getElem?_eq_getElem h2] at this
          exact Option.some.inj this
      rw [hd, ht]
    subst ea
    rw [List.drop_length]
    exact h
end Go.Proofs.Ytcljkkojeleakaa
/- Rows of copies under stores and under an append. -/
namespace Go.Proofs.Ytcljkkojeleakaa
section
open Go.RowKit Go.Shelf

section
variable {w w' : World} {s : Sd} {pT pF pS : Option Addr} {cT cF cS n : Nat}
theorem ownsRow_set {base k : Nat} {E : TypeId} {g c : Nat} {rows : List (List Value)} (h : w.ownsRow base E k (.slice (some ⟨g, 0, none⟩) rows.length c) rows.length rows.flatten) (hk : ∀ r ∈ rows, r.length = k) {i j : Nat} (hi : i < rows.length) (hj : j < k) (v : Value) :
    (w.setCell ⟨g, i * k + j, none⟩ v).ownsRow base E k (.slice (some ⟨g, 0, none⟩) rows.length c) rows.length (rows.set i (rows[i].set j v)).flatten := by
  rw [← flatten_set k rows i j v hi hk hj]
  refine ⟨by rw [List.length_set]; exact h.1, ?_⟩
  rcases h.2 with ⟨h1, -⟩ | ⟨g', cap, cur, h1, h2, h3, h4, h5, h6, h7⟩
  · cases h1
  · simp only [Value.slice.injEq, Option.some.injEq, Addr.mk.injEq, and_true, true_and] at h1
    obtain ⟨rfl, rfl⟩ := h1
    refine .inr ⟨g, c, (cur.toList.set (i * k + j) v).toArray, rfl, h2, ?_, h4, h5, by simpa using h6, ?_⟩
    · have hb : Blk w g cur.toList E := h3
      exact hb.set (i * k + j) v
    · show ((cur.toList.set (i * k + j) v)).take _ = _
      rw [List.take_set, h7]
/-- the rows of a copy are elsewhere than a block -/
def Clear (B : Nat) (pT pF pS : Option Addr) : Prop := ∀ b off, (pT = some ⟨b, off, none⟩ ∨ pF = some ⟨b, off, none⟩ ∨ pS = some ⟨b, off, none⟩) → b ≠ B
theorem ownsRow_clear {base k m : Nat} {E : TypeId} {p : Option Addr} {c B : Nat} {xs : List Value} (h : w.ownsRow base E k (.slice p m c) m xs) (hc : ∀ b off, p = some ⟨b, off, none⟩ → b ≠ B) : (Value.slice p m c).ownBlock ≠ some B := by
  rcases h.2 with ⟨h1, -⟩ | ⟨g', cap, cur, h1, -⟩
  · rw [h1]; simp [Value.ownBlock]
  · rw [h1]
    simp only [Value.slice.injEq] at h1
    have := hc g' 0 h1.1
    simpa [Value.ownBlock] using this
theorem Mine.off (h : Mine w n s pT pF pS cT cF cS) {a : Addr} (ho : Clear a.block pT pF pS) (x : Value) : Mine (w.setCell a x) n s pT pF pS cT cF cS :=
  ⟨ownsRow_setCell_other h.ot (ownsRow_clear h.ot fun b off e => ho b off (Or.inl e)) x, ownsRow_setCell_other h.of (ownsRow_clear h.of fun b off e => ho b off (Or.inr (Or.inl e))) x, ownsRow_setCell_other h.os (ownsRow_clear h.os fun b off e => ho b off (Or.inr (Or.inr e))) x⟩
theorem Mine.clear (h : Mine w n s pT pF pS cT cF cS) {B : Nat} (hB : B < n ∨ w.heap.size ≤ B) : Clear B pT pF pS := fun b off e => by
  have : n ≤ b ∧ b < w.heap.size := by
    rcases e with e | e | e
    · exact ownsRow_lt h.ot b off e
    · exact ownsRow_lt h.of b off e
    · exact ownsRow_lt h.os b off e
  omega
theorem Under.clear {m B : Nat} (h : Under m pT pF pS) (hB : m ≤ B) : Clear B pT pF pS := fun b off e => by have := h b off e; omega
theorem Mine.ofBlk (h : Mine w n s pT pF pS cT cF cS) {B : Nat} {cs : List Value} (hb : Blk w B cs 28) : Clear B pT pF pS := fun b off e he => by
  subst he
  rcases e with e | e | e
  · have := hb.not_row (by decide) h.ot
    rw [e] at this; exact this rfl
  · have := hb.not_row (by decide) h.of
    rw [e] at this; exact this rfl
  · have := hb.not_row (by decide) h.os
    rw [e] at this; exact this rfl
theorem ownsRow_grown {base k m : Nat} {E : TypeId} {p : Option Addr} {c : Nat} {xs : List Value} {row : Option Nat} (h : w.ownsRow base E k (.slice p m c) m xs) (hg : w.grownBy w' row) (hr : ∀ b off, p = some ⟨b, off, none⟩ → row ≠ some b) : w'.ownsRow base E k (.slice p m c) m xs := by
  refine ⟨h.1, ?_⟩
  rcases h.2 with h0 | ⟨g, cap, cur, h1, h2, h3, h4⟩
  · exact .inl h0
  · refine .inr ⟨g, cap, cur, h1, h2, ?_, h4⟩
    have hb : Blk w g cur.toList E := h3
    simp only [Value.slice.injEq] at h1
    exact hb.grown hg (fun e => hr g 0 h1.1 e.symm)
theorem Mine.grown {row : Option Nat} (h : Mine w n s pT pF pS cT cF cS) (hg : w.grownBy w' row) (hr : ∀ b off, (pT = some ⟨b, off, none⟩ ∨ pF = some ⟨b, off, none⟩ ∨ pS = some ⟨b, off, none⟩) → row ≠ some b) : Mine w' n s pT pF pS cT cF cS :=
  ⟨ownsRow_grown h.ot hg fun b off e => hr b off (Or.inl e), ownsRow_grown h.of hg fun b off e => hr b off (Or.inr (Or.inl e)), ownsRow_grown h.os hg fun b off e => hr b off (Or.inr (Or.inr e))⟩
theorem ownsRow_types {base base' k k' m m' : Nat} {E E' : TypeId} {p p' : Option Addr} {c c' : Nat} {xs xs' : List Value} (h : w.ownsRow base E k (.slice p m c) m xs) (h' : w.ownsRow base' E' k' (.slice p' m' c') m' xs') (hE : E ≠ E') : ∀ b off, p = some ⟨b, off, none⟩ → (Value.slice p' m' c').ownBlock ≠ some b := by
  intro b off e
  refine ownsRow_clear h' (fun b' off' e' hb => ?_)
  subst hb
  rcases h.2 with ⟨h1, -⟩ | ⟨g, cap, cur, h1, h2, h3, -⟩
  · simp only [Value.slice.injEq] at h1
    rw [h1.1] at e; cases e
  · rcases h'.2 with ⟨k1, -⟩ | ⟨g', cap', cur', k1, k2, k3, -⟩
    · simp only [Value.slice.injEq] at k1
      rw [k1.1] at e'; cases e'
    · simp only [Value.slice.injEq] at h1 k1
      rw [h1.1] at e
      rw [k1.1] at e'
      simp only [Option.some.injEq, Addr.mk.injEq] at e e'
      have : g = g' := by omega
      rw [this] at h3
      have h5 := h3.symm.trans k3
      simp only [Option.some.injEq, Obj.cells.injEq] at h5
      exact hE h5.2.1
theorem Mine.drew (h : Mine w n s pT pF pS cT cF cS) : Mine w.drew n s pT pF pS cT cF cS := ⟨h.ot, h.of, h.os⟩
theorem Mine.alloc (h : Mine w n s pT pF pS cT cF cS) (o : Obj) : Mine (w.alloc o) n s pT pF pS cT cF cS := h.up ((Below.refl _ _).alloc (Nat.le_refl _) o)
end
end
end Go.Proofs.Ytcljkkojeleakaa
/- The law TideHigher returns true, whatever numbers are passed in. -/
namespace Go.Proofs.Ytcljkkojeleakaa
open Go.RowKit Go.Shelf

section
variable {p : Option Addr} {c : Nat}
theorem rowInt {w : World} {b off : Nat} {l : List Int} (h : Row w (some ⟨b, off, none⟩) 1 (ints l)) {i : Nat} (hi : i < l.length) : w.cell? ⟨b, off + i, none⟩ = some (.int .i64 l[i]) := by
  obtain ⟨b', off', e, hc⟩ := h.int i hi
  simp only [Option.some.injEq, Addr.mk.injEq, and_true] at e
  obtain ⟨rfl, rfl⟩ := e
  exact hc
set_option maxRecDepth 100000 in
set_option maxHeartbeats 4000000 in
theorem higherLaw_c (l : List Int) (A V T : Int) (w : World) (hr : Row w p 1 (bytes l)) (hl : l.length ≤ 140737488355328) (a0 : 0 ≤ A) (a1 : A ≤ 255) (v0 : 0 ≤ V) (v1 : V ≤ 255) (t0 : 0 ≤ T) (t1 : T ≤ 255) :
    Calls Try.prog 10 #[.slice p l.length c, .int .u8 A, .int .u8 V, .int .u8 T] w fun e w' => e = .returned (.bool true) ∧ Up w w' := by
  have HP := Lib.hid (fun W (u : Up w W) => pile_c p c l W (hr.up u))
  clear hr
  go_enter Try.func10, Try.ntmps10
  go_wp2_with fail
  refine (HP.out _ (by (repeat (first | exact Below.refl _ _ | (with_reducible refine Below.drewN' ?_ _) | (with_reducible refine Below.drew ?_) | (with_reducible refine Below.setCell ?_ (by first | exact Nat.le_refl _ | omega | (with_reducible (repeat (first | refine sz_alloc ?_ | refine sz_setCell ?_ | refine sz_drew ?_ | refine sz_drewN ?_)); first | exact Nat.le_refl _ | omega) | (simp only [World.size_alloc, World.size_setCell, World.size_drew, size_drewN']; omega)) _) | (with_reducible refine Below.alloc ?_ (by first | exact Nat.le_refl _ | omega | (with_reducible (repeat (first | refine sz_alloc ?_ | refine sz_setCell ?_ | refine sz_drew ?_ | refine sz_drewN ?_)); first | exact Nat.le_refl _ | omega) | (simp only [World.size_alloc, World.size_setCell, World.size_drew, size_drewN']; omega)) _) | assumption)))).mono ?_
  rintro e w1 ⟨rfl, g1, u1, s1, ap⟩
  have U1 := Lib.hid u1
  have G1 := Lib.hid g1
  have AP := Lib.hid ap
  clear g1 u1 ap HP
  go_wp2_with fail
  refine (made_c (p := p) (c := c) (l := l) w.heap.size 6 9 w1 G1.out (AP.out.mono (by omega)) hl (by decide) (by decide) (by decide) (by decide)).mono ?_
  rintro e w2 ⟨s, qT, qF, qS, dT, dF, dS, rfl, mk, l2, -, -, f2⟩
  have MK := Lib.hid mk
  have L2 := Lib.hid l2
  have U2 : Hid (Up w w2) := Below.trans U1.out (f2.below (Nat.le_refl _) (by omega))
  have OK := Lib.hid (mk.ok (by decide) (by decide))
  have m2 := mk.t2
  have m4 := mk.t4
  have mf1 := mk.f1
  have mf6 := mk.fn
  have ms9 := mk.sn
  clear mk l2 f2 G1 AP U1 s1
  unfold sdVal
  go_wp2_with fail
  have B2 : Hid (Blk (w2.alloc (.cells #[.slice qT s.table.length dT, .int .i64 s.lo, .int .i64 s.hi, .slice qF s.floors.length dF, .slice qS s.sills.length dS] 28)) w2.heap.size (sdCells s qT qF qS dT dF dS) 28) := Blk.new w2 (sdCells s qT qF qS dT dF dS) 28
  have L3 : Hid (Lists (w2.alloc (.cells #[.slice qT s.table.length dT, .int .i64 s.lo, .int .i64 s.hi, .slice qF s.floors.length dF, .slice qS s.sills.length dS] 28)) s qT qF qS dT dF dS) := L2.out.up (by (repeat (first | exact Below.refl _ _ | (with_reducible refine Below.drewN' ?_ _) | (with_reducible refine Below.drew ?_) | (with_reducible refine Below.setCell ?_ (by first | exact Nat.le_refl _ | omega | (with_reducible (repeat (first | refine sz_alloc ?_ | refine sz_setCell ?_ | refine sz_drew ?_ | refine sz_drewN ?_)); first | exact Nat.le_refl _ | omega) | (simp only [World.size_alloc, World.size_setCell, World.size_drew, size_drewN']; omega)) _) | (with_reducible refine Below.alloc ?_ (by first | exact Nat.le_refl _ | omega | (with_reducible (repeat (first | refine sz_alloc ?_ | refine sz_setCell ?_ | refine sz_drew ?_ | refine sz_drewN ?_)); first | exact Nat.le_refl _ | omega) | (simp only [World.size_alloc, World.size_setCell, World.size_drew, size_drewN']; omega)) _) | assumption)))
  have U3 : Hid (Up w (w2.alloc (.cells #[.slice qT s.table.length dT, .int .i64 s.lo, .int .i64 s.hi, .slice qF s.floors.length dF, .slice qS s.sills.length dS] 28))) := Up.trans U2.out (by (repeat (first | exact Below.refl _ _ | (with_reducible refine Below.drewN' ?_ _) | (with_reducible refine Below.drew ?_) | (with_reducible refine Below.setCell ?_ (by first | exact Nat.le_refl _ | omega | (with_reducible (repeat (first | refine sz_alloc ?_ | refine sz_setCell ?_ | refine sz_drew ?_ | refine sz_drewN ?_)); first | exact Nat.le_refl _ | omega) | (simp only [World.size_alloc, World.size_setCell, World.size_drew, size_drewN']; omega)) _) | (with_reducible refine Below.alloc ?_ (by first | exact Nat.le_refl _ | omega | (with_reducible (repeat (first | refine sz_alloc ?_ | refine sz_setCell ?_ | refine sz_drew ?_ | refine sz_drewN ?_)); first | exact Nat.le_refl _ | omega) | (simp only [World.size_alloc, World.size_setCell, World.size_drew, size_drewN']; omega)) _) | assumption)))
  have M3 : Hid (w.heap.size ≤ w2.heap.size) := Lib.hid U2.out.size
  generalize (w2.alloc (.cells #[.slice qT s.table.length dT, .int .i64 s.lo, .int .i64 s.hi, .slice qF s.floors.length dF, .slice qS s.sills.length dS] 28)) = w3 at *
  generalize w2.heap.size = M at *
  clear L2 U2 w2
  have HO := Lib.hid (fun W (u : Up w3 W) => own_o s W (L3.out.up u) (by omega) (by omega) (by omega))
  go_cut [11, 12, 13] (fun a b d wx => Three w3 wx s a b d)
  case first =>
    refine region_inv3 9 (fun done a W => ∃ Z : Nat → Value, a = ⟨#[.slice p l.length c, .int .u8 A, .int .u8 V, .int .u8 T, undef, undef, undef, undef, .bool false, .pointer (some ⟨w.heap.size, 0, none⟩), .pointer (some ⟨M, 0, none⟩), Z 6, Z 7, Z 8, undef, undef, undef, undef, undef, undef, undef, undef, undef, undef, undef, undef, .slice p l.length c, .pointer (some ⟨w.heap.size, 0, none⟩), .pointer (some ⟨w.heap.size, 0, none⟩), .agg #[.slice qT s.table.length dT, .int .i64 s.lo, .int .i64 s.hi, .slice qF s.floors.length dF, .slice qS s.sills.length dS], Z 0, Z 1, Z 2, Z 3, Z 4, Z 5, undef, undef, undef, undef, undef, undef, undef, undef, undef, undef, undef, undef, undef, undef, undef, undef, undef, undef, undef, undef, undef, undef, undef, undef, undef, undef, undef, undef, undef, undef, undef, undef, undef, undef, undef, undef, undef, undef, undef, undef, undef, undef, undef, undef, undef, undef, undef, undef, undef, undef, undef, undef, undef, undef, undef, undef, undef, undef, undef, undef, undef, undef, undef, undef, undef, undef, undef, undef, undef, undef, undef, undef, undef, undef, undef, undef, undef, undef, undef, undef, undef, undef, undef, undef, undef, undef, undef, undef, undef, undef, undef, undef, undef, undef, undef, undef, undef, undef, undef, undef, undef, undef, undef, undef, undef, undef, undef, undef, undef, undef, undef, undef, undef, undef, undef, undef, undef, undef, undef, undef, undef, undef, undef, undef, undef, undef, undef, undef, undef, undef, undef, undef, undef, undef, undef, undef, undef, undef, undef, undef, undef, undef, undef, undef, undef, undef, undef, undef, undef, undef, undef, undef, undef, undef, undef, undef, undef, undef, undef, undef, undef, undef, undef, undef, undef, undef, undef, undef, undef, undef, undef, undef, undef, undef, undef, undef, undef, undef, undef, undef], []⟩ ∧ Tri w3 s (.agg #[.slice qT s.table.length dT, .int .i64 s.lo, .int .i64 s.hi, .slice qF s.floors.length dF, .slice qS s.sills.length dS]) done W Z) mixed (by kernel_rfl) ?_ ?_ ?_
    · exact ⟨_, rfl, Tri.start _ _ _⟩
    · intro done a W i o hi hd ho hall hinv
      obtain ⟨Z, rfl, hC⟩ := hinv
      obtain ⟨c0, c1, c2, c3, c4⟩ := five (B2.out.up hC.up)
      have HC := Lib.hid hC
      have HA := Lib.hid hall
      have HD := Lib.hid hd
      clear hC hall hd
      obtain rfl | rfl | rfl | rfl | rfl | rfl | rfl | rfl | rfl : i = 0 ∨ i = 1 ∨ i = 2 ∨ i = 3 ∨ i = 4 ∨ i = 5 ∨ i = 6 ∨ i = 7 ∨ i = 8 := by omega
      · clear ho HA HD
        refine wpOp_step rfl (fun K hK => ?_)
        rw [if_pos (by rfl)]
        have HK := Lib.hid hK
        clear hK
        go_simp
        exact HK.out _ _ ⟨_, rfl, HC.out.load 0 (by omega)⟩
      · have e0 := Lib.hid (HC.out.vals 0 (HA.out ⟨0, .data⟩ (by cases ho; simp) rfl) (by omega))
        clear ho HA
        refine wpOp_step rfl (fun K hK => ?_)
        rw [if_pos (by rfl)]
        have HK := Lib.hid hK
        clear hK
        go_simp
        have hcall := HO.out W HC.out.up
        rw [show sdVal s qT qF qS dT dF dS = Z 0 from e0.out.symm] at hcall
        refine hcall.mono ?_
        rintro e w4 ⟨qT', qF', qS', dT', dF', dS', rfl, h1, h2, h3, h4⟩
        have hs := h2.size
        have hn := h4.size (by omega)
        exact HK.out _ _ ⟨_, rfl, HC.out.call 1 (by omega) HD.out ⟨by omega, by omega⟩ h2 h4 (by omega) (by omega)⟩
      · clear ho HA HD
        refine wpOp_step rfl (fun K hK => ?_)
        rw [if_pos (by rfl)]
        have HK := Lib.hid hK
        clear hK
        go_simp
        exact HK.out _ _ ⟨_, rfl, HC.out.load 2 (by omega)⟩
      · have e0 := Lib.hid (HC.out.vals 2 (HA.out ⟨2, .data⟩ (by cases ho; simp) rfl) (by omega))
        have d1 := HA.out ⟨1, .chain⟩ (by cases ho; simp) rfl
        clear ho HA
        refine wpOp_step rfl (fun K hK => ?_)
        rw [if_pos (by rfl)]
        have HK := Lib.hid hK
        clear hK
        go_simp
        have hcall := HO.out W HC.out.up
        rw [show sdVal s qT qF qS dT dF dS = Z 2 from e0.out.symm] at hcall
        refine hcall.mono ?_
        rintro e w4 ⟨qT', qF', qS', dT', dF', dS', rfl, h1, h2, h3, h4⟩
        have hs := h2.size
        have hn := h4.size (by omega)
        exact HK.out _ _ ⟨_, rfl, HC.out.call 3 (by omega) HD.out ⟨fun _ => d1, by omega⟩ h2 h4 (by omega) (by omega)⟩
      · clear ho HA HD
        refine wpOp_step rfl (fun K hK => ?_)
        rw [if_pos (by rfl)]
        have HK := Lib.hid hK
        clear hK
        go_simp
        exact HK.out _ _ ⟨_, rfl, HC.out.load 4 (by omega)⟩
      · have e0 := Lib.hid (HC.out.vals 4 (HA.out ⟨4, .data⟩ (by cases ho; simp) rfl) (by omega))
        have d1 := HA.out ⟨3, .chain⟩ (by cases ho; simp) rfl
        clear ho HA
        refine wpOp_step rfl (fun K hK => ?_)
        rw [if_pos (by rfl)]
        have HK := Lib.hid hK
        clear hK
        go_simp
        have hcall := HO.out W HC.out.up
        rw [show sdVal s qT qF qS dT dF dS = Z 4 from e0.out.symm] at hcall
        refine hcall.mono ?_
        rintro e w4 ⟨qT', qF', qS', dT', dF', dS', rfl, h1, h2, h3, h4⟩
        have hs := h2.size
        have hn := h4.size (by omega)
        exact HK.out _ _ ⟨_, rfl, HC.out.call 5 (by omega) HD.out ⟨by omega, fun _ => d1⟩ h2 h4 (by omega) (by omega)⟩
      · clear ho HA HD
        refine wpOp_step rfl (fun K hK => ?_)
        rw [if_pos (by rfl)]
        have HK := Lib.hid hK
        clear hK
        go_simp
        exact HK.out _ _ ⟨_, rfl, HC.out.alloc 6 (by omega) (by omega)⟩
      · clear ho HA HD
        refine wpOp_step rfl (fun K hK => ?_)
        rw [if_pos (by rfl)]
        have HK := Lib.hid hK
        clear hK
        go_simp
        exact HK.out _ _ ⟨_, rfl, HC.out.alloc 7 (by omega) (by omega)⟩
      · clear ho HA HD
        refine wpOp_step rfl (fun K hK => ?_)
        rw [if_pos (by rfl)]
        have HK := Lib.hid hK
        clear hK
        go_simp
        exact HK.out _ _ ⟨_, rfl, HC.out.alloc 8 (by omega) (by omega)⟩
    · rintro a W ⟨Z, rfl, hC⟩
      obtain ⟨B6, B7, B8, xT, xF, xS, jT, jF, jS, yT, yF, yS, kT, kF, kS, zT, zF, zS, iT, iF, iS, z6, z7, z8, z1, z3, z5, z0, z2, z4, b6, b7, b8, n67, n68, n78, h3⟩ := hC.ends
      have H3 := Lib.hid h3
      clear h3 hC
      rw [z0, z1, z2, z3, z4, z5, z6, z7, z8]
      rw [z6, z7, z8] at H3
      change wpList _ _ _ [_, _, _] _ _
      have y0 := b6.cell 0
      have y1 := b6.cell 1
      have y2 := b6.cell 2
      have y3 := b6.cell 3
      have y4 := b6.cell 4
      have yf := b6.free
      have x0 := b7.cell 0
      have x1 := b7.cell 1
      have x2 := b7.cell 2
      have x3 := b7.cell 3
      have x4 := b7.cell 4
      have xf := b7.free
      have v0' := b8.cell 0
      have v1' := b8.cell 1
      have v2' := b8.cell 2
      have v3' := b8.cell 3
      have v4' := b8.cell 4
      have vf := b8.free
      simp only [zero5, List.getElem?_cons_zero, List.getElem?_cons_succ] at y0 y1 y2 y3 y4 x0 x1 x2 x3 x4 v0' v1' v2' v3' v4'
      have n76 := Ne.symm n67
      have n86 := Ne.symm n68
      have n87 := Ne.symm n78
      clear b6 b7 b8 z0 z1 z2 z3 z4 z5 z6 z7 z8 HO
      unfold sdVal
      dsimp only
      go_wp2_with fail
      go_meet
      exact H3.out
  case rest =>
    obtain ⟨B6, B7, B8, xT, xF, xS, jT, jF, jS, yT, yF, yS, kT, kF, kS, zT, zF, zS, iT, iF, iS, n1, n2, n3, rfl, rfl, rfl, u, b6, b7, b8, q1, un1, q2, un2, q3, h01, h12, h23, z6, z7, z8, n67, n68, n78⟩ := hcut
    have Uq := Lib.hid u
    have ltM := B2.out.lt
    have szc := u.size
    have X6 := Lib.hid b6
    have X7 := Lib.hid b7
    have X8 := Lib.hid b8
    have Q1 := Lib.hid q1
    have Q2 := Lib.hid q2
    have Q3 := Lib.hid q3
    have N1 := Lib.hid un1
    have N2 := Lib.hid un2
    have l6 := b6.lt
    have l7 := b7.lt
    have l8 := b8.lt
    have wA : IntKind.i64.wrap A = A := IntWalk.i64_in _ (by omega)
    have wV : IntKind.i64.wrap V = V := IntWalk.i64_in _ (by omega)
    clear b6 b7 b8 q1 q2 q3 un1 un2 HO
    obtain ⟨c0, c1, c2, c3, c4⟩ := five (B2.out.up u)
    obtain ⟨e0, e1, e2, e3, e4⟩ := five X6.out
    clear u
    generalize wc = wq at *
    go_upto_if 39 with fail
    go_cut [] (fun wx => ∃ t1, Up w3 wx ∧ wq.heap.size = wx.heap.size ∧ NoLess s t1 ∧ Dims s t1 ∧ Mine wx n1 t1 xT xF xS jT jF jS ∧ Mine wx n2 s yT yF yS kT kF kS ∧ Mine wx n3 s zT zF zS iT iF iS ∧
      Blk wx B6 (sdCells s xT xF xS jT jF jS) 28 ∧ Blk wx B7 (sdCells s yT yF yS kT kF kS) 28 ∧ Blk wx B8 (sdCells s zT zF zS iT iF iS) 28)
    case first =>
      by_cases hS : s.sills.length = 0
      · rw [show decide (0 < s.sills.length) = false by rw [decide_eq_false_iff_not]; omega]
        go_wp2_with fail
        go_meet
        have hs0 := noLess_sill OK.out 0 0 (by decide) (fun x hx => by have := OK.out.heights x hx; omega)
        rw [hiSill_none (by omega)] at hs0
        exact ⟨s, Uq.out, rfl, hs0, Dims.refl s, Q1.out, Q2.out, Q3.out, X6.out, X7.out, X8.out⟩
      · rw [show decide (0 < s.sills.length) = true by rw [decide_eq_true_eq]; omega]
        have el : (triples s.sills).length = s.sills.length := by simp [triples]
        have os : wq.ownsRow n1 97 3 (.slice xS (triples s.sills).length jS) (triples s.sills).length (triples s.sills).flatten := by
          rw [el]; exact Q1.out.os
        obtain ⟨g, rfl, hg, rb⟩ := RowBlk.of os (triples_len _) (by omega)
        have OS := Lib.hid os
        have z1 : ¬ ((s.sills.length : Int) = 0) := by omega
        obtain ⟨i, hi⟩ : ∃ i : Nat, A % (s.sills.length : Int) = i := ⟨(A % (s.sills.length : Int)).toNat, by have := Int.emod_nonneg A z1; omega⟩
        have hil : i < s.sills.length := by have := Int.emod_lt_of_pos A (show (0 : Int) < s.sills.length by omega); omega
        have tm : A.tmod (s.sills.length : Int) = i := by rw [Int.tmod_eq_emod_of_nonneg a0]; exact hi
        have y2 := rb.cell (i := i) (j := 2) (x := .int .i64 s.sills[i].2.2) (row := [.int .i64 s.sills[i].1, .int .i64 s.sills[i].2.1, .int .i64 s.sills[i].2.2]) (by simp [triples, hil]) rfl
        have yf := rb.free
        have yl := rb.lt
        have RB := Lib.hid rb
        have hi0 : (0 : Int) ≤ i := by omega
        have hi1 : (i : Int) < s.sills.length := by omega
        have hh := MK.out.sills _ (List.getElem_mem hil)
        have hh2 := hh.2.2.2
        have sw : IntKind.i64.wrap (s.sills[i].2.2 + V % 30) = s.sills[i].2.2 + V % 30 := IntWalk.i64_in _ (by omega)
        have HN := Lib.hid (noLess_sill OK.out i (V % 30) (by omega) (fun x hx => by have := (MK.out.sills x hx).2.2.2; omega))
        have HS := Lib.hid (ownsRow_set os (triples_len _) (i := i) (j := 2) (by omega) (by decide) (.int .i64 (s.sills[i].2.2 + V % 30)))
        clear rb os hh
        go_wp2_with fail
        go_region
        go_wp2_with fail
        go_meet
        have hlt := N1.out g 0 (Or.inr (Or.inr rfl))
        have hne : ∀ {B : Nat} {cs : List Value}, Blk wq B cs 28 → B ≠ g := fun hb e => by
          have := Q1.out.ofBlk hb g 0 (Or.inr (Or.inr rfl)); omega
        refine ⟨hiSill s i (V % 30), (Uq.out.setCell (p := ⟨g, i * 3 + 2, none⟩) (by simp only; omega) _).drew, (World.size_setCell ..).symm, HN.out, dims_sill _ _ _, Mine.drew ⟨?_, ?_, ?_⟩, (Q2.out.off (a := ⟨g, i * 3 + 2, none⟩) (Q2.out.clear (Or.inl (show g < n2 by omega))) _).drew, (Q3.out.off (a := ⟨g, i * 3 + 2, none⟩) (Q3.out.clear (Or.inl (show g < n3 by omega))) _).drew, (X6.out.other (a := ⟨g, i * 3 + 2, none⟩) (hne X6.out) _).drew, (X7.out.other (a := ⟨g, i * 3 + 2, none⟩) (hne X7.out) _).drew, (X8.out.other (a := ⟨g, i * 3 + 2, none⟩) (hne X8.out) _).drew⟩
        · exact ownsRow_setCell_other Q1.out.ot (ownsRow_clear Q1.out.ot (RB.out.ne Q1.out.ot (by decide))) _
        · exact ownsRow_setCell_other Q1.out.of (ownsRow_clear Q1.out.of (RB.out.ne Q1.out.of (by decide))) _
        · have h := HS.out
          rw [triples_set s.sills i hil] at h
          have e1 : (hiSill s i (V % 30)).sills = s.sills.set i (s.sills[i].1, s.sills[i].2.1, s.sills[i].2.2 + V % 30) := by
            unfold hiSill
            rw [List.getElem?_eq_getElem hil]; rfl
          have e2 : (hiSill s i (V % 30)).sills.length = s.sills.length := (dims_sill s i _).sl
          rw [e2, e1, ← el]
          exact h
    case rest =>
      obtain ⟨t1, ux, hsz, hN, hD, q1, q2, q3, b6, b7, b8⟩ := hcut
      generalize wc = wx at *
      have UX := Lib.hid ux
      have DM := Lib.hid hD
      have NL1 := Lib.hid hN
      have P1 := Lib.hid q1
      have P2 := Lib.hid q2
      have P3 := Lib.hid q3
      have Y6 := Lib.hid b6
      have Y7 := Lib.hid b7
      have Y8 := Lib.hid b8
      clear X6 X7 X8 Q1 Q2 Q3 Uq c0 c1 c2 c3 c4 e0 e1 e2 e3 e4 b6 b7 b8 q1 q3 hN hD
      obtain ⟨c0, c1, c2, c3, c4⟩ := five (B2.out.up ux)
      obtain ⟨e0, e1, e2, e3, e4⟩ := five Y7.out
      clear ux
      have el : (ints s.floors).length = s.floors.length := by simp [ints]
      have os : wx.ownsRow n2 3 1 (.slice yF (ints s.floors).length kF) (ints s.floors).length (ints s.floors).flatten := by
        rw [el]; exact P2.out.of
      obtain ⟨g, rfl, hg, rb⟩ := RowBlk.of os (ints_len _) (by omega)
      have z1 : ¬ ((s.floors.length : Int) = 0) := by omega
      obtain ⟨j, hj⟩ : ∃ j : Nat, A % (s.floors.length : Int) = j := ⟨(A % (s.floors.length : Int)).toNat, by have := Int.emod_nonneg A z1; omega⟩
      have hjl : j < s.floors.length := by have := Int.emod_lt_of_pos A (show (0 : Int) < s.floors.length by omega); omega
      have tm : A.tmod (s.floors.length : Int) = j := by rw [Int.tmod_eq_emod_of_nonneg a0]; exact hj
      have y2 : wx.cell? ⟨g, j, none⟩ = some (.int .i64 s.floors[j]) := by
        have := rb.cell (i := j) (j := 0) (x := .int .i64 s.floors[j]) (row := [.int .i64 s.floors[j]]) (by simp [ints, hjl]) rfl
        simpa using this
      have yf := rb.free
      have yl := rb.lt
      have RB := Lib.hid rb
      have hj0 : (0 : Int) ≤ j := by omega
      have hj1 : (j : Int) < s.floors.length := by omega
      have hh := MK.out.floors _ (List.getElem_mem hjl)
      have sw : IntKind.i64.wrap (s.floors[j] + V % 30) = s.floors[j] + V % 30 := IntWalk.i64_in _ (by omega)
      have NL2 := Lib.hid (noLess_floor OK.out j (V % 30) hjl (by omega) (fun x hx => by have := MK.out.floors x hx; omega))
      have HS := Lib.hid (ownsRow_set os (ints_len _) (i := j) (j := 0) (by omega) (by decide) (.int .i64 (s.floors[j] + V % 30)))
      rw [Nat.mul_one, Nat.add_zero] at HS
      clear rb os q2
      go_wp2_with fail
      go_region
      go_wp2_with fail
      have hlt := N2.out g 0 (Or.inr (Or.inl rfl))
      have hne : ∀ {B : Nat} {cs : List Value}, Blk wx B cs 28 → B ≠ g := fun hb e => by
        have := P2.out.ofBlk hb g 0 (Or.inr (Or.inl rfl)); omega
      generalize hw6 : (wx.setCell ⟨g, j, none⟩ (.int .i64 (s.floors[j] + V % 30))).drew = w6
      have U6 : Hid (Up w3 w6) := Lib.hid (by rw [← hw6]; exact (UX.out.setCell (p := ⟨g, j, none⟩) (by simp only; omega) _).drew)
      have P1' : Hid (Mine w6 n1 t1 xT xF xS jT jF jS) := Lib.hid (by rw [← hw6]; exact (P1.out.off (a := ⟨g, j, none⟩) (N1.out.clear (show n2 ≤ g by omega)) _).drew)
      have P3' : Hid (Mine w6 n3 s zT zF zS iT iF iS) := Lib.hid (by rw [← hw6]; exact (P3.out.off (a := ⟨g, j, none⟩) (P3.out.clear (Or.inl (show g < n3 by omega))) _).drew)
      have P2' : Hid (Mine w6 n2 (hiFloor s j (V % 30)) yT (some ⟨g, 0, none⟩) yS kT kF kS) := Lib.hid (by
        rw [← hw6]
        refine Mine.drew ⟨?_, ?_, ?_⟩
        · exact ownsRow_setCell_other P2.out.ot (ownsRow_clear P2.out.ot (RB.out.ne P2.out.ot (by decide))) _
        · have h := HS.out
          rw [ints_set s.floors j hjl] at h
          have e1 : (hiFloor s j (V % 30)).floors = s.floors.set j (s.floors[j] + V % 30) := by
            unfold hiFloor
            rw [List.getElem?_eq_getElem hjl]; rfl
          have e2 : (hiFloor s j (V % 30)).floors.length = s.floors.length := (dims_floor s j _).fl
          rw [e2, e1, ← el]
          exact h
        · exact ownsRow_setCell_other P2.out.os (ownsRow_clear P2.out.os (RB.out.ne P2.out.os (by decide))) _)
      have Z6 : Hid (Blk w6 B6 (sdCells s xT xF xS jT jF jS) 28) := Lib.hid (by rw [← hw6]; exact (Y6.out.other (a := ⟨g, j, none⟩) (hne Y6.out) _).drew)
      have Z7 : Hid (Blk w6 B7 (sdCells s yT (some ⟨g, 0, none⟩) yS kT kF kS) 28) := Lib.hid (by rw [← hw6]; exact (Y7.out.other (a := ⟨g, j, none⟩) (hne Y7.out) _).drew)
      have Z8 : Hid (Blk w6 B8 (sdCells s zT zF zS iT iF iS) 28) := Lib.hid (by rw [← hw6]; exact (Y8.out.other (a := ⟨g, j, none⟩) (hne Y8.out) _).drew)
      have hz6 : w6.heap.size = wq.heap.size := by rw [← hw6, hsz]; exact World.size_setCell ..
      clear hw6 hne HS RB Y6 Y7 Y8 P1 P2 P3 UX y2 yf sw c0 c1 c2 c3 c4 e0 e1 e2 e3 e4 hlt hg el yl hsz
      obtain ⟨i2, hi2, hz0, hz1, hz2⟩ := info_parts infoS
      obtain ⟨c0, c1, c2, c3, c4⟩ := five (B2.out.up U6.out)
      obtain ⟨e0, e1, e2, e3, e4⟩ := five Z8.out
      refine region_tail (fun W' => W'.cell? ⟨B8, 4, none⟩ = some (.slice zS s.sills.length iS) ∧ W'.cell? ⟨M, 3, none⟩ = some (.slice qF s.floors.length dF)) 14 mixed (by kernel_rfl) ⟨e4, c3⟩ (fun hHeld => ?_)
      refine wpAnyG_take 0 72 (v := ?_) rfl rfl (by kernel_rfl) (fun _ _ _ h => h) (Or.inl ⟨by rfl, ?_⟩) (by assumption) ?_
      rotate_left
      · (intro w' hSw; (try dsimp only at hSw); go_split_ands; go_simp; try with_reducible rfl)
      try simp only [List.setIfInBounds_toArray, List.set_cons_zero, List.set_cons_succ]
      refine wpAnyG_take 1 73 (v := ?_) rfl rfl (by kernel_rfl) (fun _ _ _ h => h) (Or.inl ⟨by rfl, ?_⟩) (by assumption) ?_
      rotate_left
      · (intro w' hSw; (try dsimp only at hSw); go_split_ands; go_simp; try with_reducible rfl)
      try simp only [List.setIfInBounds_toArray, List.set_cons_zero, List.set_cons_succ]
      refine wpAnyG_take 2 74 (v := ?_) rfl rfl (by kernel_rfl) (fun _ _ _ h => h) (Or.inl ⟨by rfl, ?_⟩) (by assumption) ?_
      rotate_left
      · (intro w' hSw; (try dsimp only at hSw); go_split_ands; go_simp; try with_reducible rfl)
      try simp only [List.setIfInBounds_toArray, List.set_cons_zero, List.set_cons_succ]
      refine wpAnyG_take 3 75 (v := ?_) rfl rfl (by kernel_rfl) (fun _ _ _ h => h) (Or.inl ⟨by rfl, ?_⟩) (by assumption) ?_
      rotate_left
      · (intro w' hSw; (try dsimp only at hSw); go_split_ands; go_simp; try with_reducible rfl)
      try simp only [List.setIfInBounds_toArray, List.set_cons_zero, List.set_cons_succ]
      refine wpAnyG_take 4 76 (v := ?_) rfl rfl (by kernel_rfl) (fun _ _ _ h => h) (Or.inl ⟨by rfl, ?_⟩) (by assumption) ?_
      rotate_left
      · (intro w' hSw; (try dsimp only at hSw); go_split_ands; go_simp; try with_reducible rfl)
      try simp only [List.setIfInBounds_toArray, List.set_cons_zero, List.set_cons_succ]
      refine wpAnyG_take 5 77 (v := ?_) rfl rfl (by kernel_rfl) (fun _ _ _ h => h) (Or.inl ⟨by rfl, ?_⟩) (by assumption) ?_
      rotate_left
      · (intro w' hSw; (try dsimp only at hSw); go_split_ands; go_simp; try with_reducible rfl)
      try simp only [List.setIfInBounds_toArray, List.set_cons_zero, List.set_cons_succ]
      refine wpAnyG_take 6 78 (v := ?_) rfl rfl (by kernel_rfl) (fun _ _ _ h => h) (Or.inl ⟨by rfl, ?_⟩) (by assumption) ?_
      rotate_left
      · (intro w' hSw; (try dsimp only at hSw); go_split_ands; go_simp; try with_reducible rfl)
      try simp only [List.setIfInBounds_toArray, List.set_cons_zero, List.set_cons_succ]
      refine wpAnyG_take 7 79 (v := .int .i64 j) rfl rfl (by kernel_rfl) (fun _ _ _ h => h) (Or.inl ⟨by rfl, ?_⟩) (by assumption) ?_
      · intro w' _
        go_simp
        exact fun e => by rw [e] at mf1; simp at mf1
      try simp only [List.setIfInBounds_toArray, List.set_cons_zero, List.set_cons_succ]
      refine wpAnyG_take 8 80 (v := ?_) rfl rfl (by kernel_rfl) (fun _ _ _ h => h) (Or.inl ⟨by rfl, ?_⟩) (by assumption) ?_
      rotate_left
      · (intro w' hSw; (try dsimp only at hSw); go_split_ands; go_simp; try with_reducible rfl)
      try simp only [List.setIfInBounds_toArray, List.set_cons_zero, List.set_cons_succ]
      refine wpAnyG_take 9 81 (v := ?_) rfl rfl (by kernel_rfl) (fun _ _ _ h => h) (Or.inl ⟨by rfl, ?_⟩) (by assumption) ?_
      rotate_left
      · (intro w' hSw; (try dsimp only at hSw); go_split_ands; go_simp; try with_reducible rfl)
      try simp only [List.setIfInBounds_toArray, List.set_cons_zero, List.set_cons_succ]
      refine wpAnyG_take 10 82 (v := .int .i64 (V % 60)) rfl rfl (by kernel_rfl) (fun _ _ _ h => h) (Or.inl ⟨by rfl, ?_⟩) (by assumption) ?_
      · intro w' _
        go_simp
        exact Int.tmod_eq_emod_of_nonneg v0
      try simp only [List.setIfInBounds_toArray, List.set_cons_zero, List.set_cons_succ]
      refine wpAnyG_take 11 83 (v := ?_) rfl rfl (by kernel_rfl) (fun _ _ _ h => h) (Or.inl ⟨by rfl, ?_⟩) (by assumption) ?_
      rotate_left
      · (intro w' hSw; (try dsimp only at hSw); go_split_ands; go_simp; try with_reducible rfl)
      try simp only [List.setIfInBounds_toArray, List.set_cons_zero, List.set_cons_succ]
      refine wpAnyG_do 12 rfl (by kernel_rfl) (fun K hK => ?_)
      rw [if_pos (by rfl)]
      go_simp
      have ua : Up w6 (w6.alloc (.cells #[.int .i64 (-1), .int .i64 j, .int .i64 (V % 60)] 97)).drew := by (repeat (first | exact Below.refl _ _ | (with_reducible refine Below.drewN' ?_ _) | (with_reducible refine Below.drew ?_) | (with_reducible refine Below.setCell ?_ (by first | exact Nat.le_refl _ | omega | (with_reducible (repeat (first | refine sz_alloc ?_ | refine sz_setCell ?_ | refine sz_drew ?_ | refine sz_drewN ?_)); first | exact Nat.le_refl _ | omega) | (simp only [World.size_alloc, World.size_setCell, World.size_drew, size_drewN']; omega)) _) | (with_reducible refine Below.alloc ?_ (by first | exact Nat.le_refl _ | omega | (with_reducible (repeat (first | refine sz_alloc ?_ | refine sz_setCell ?_ | refine sz_drew ?_ | refine sz_drewN ?_)); first | exact Nat.le_refl _ | omega) | (simp only [World.size_alloc, World.size_setCell, World.size_drew, size_drewN']; omega)) _) | assumption))
      have UA := Lib.hid ua
      refine hK.out _ _ ⟨ua.cellAt e4, ua.cellAt c3⟩ (fun hHeld => ?_)
      clear hK K
      have P3a := Lib.hid (P3'.out.up ua)
      have P1a := Lib.hid (P1'.out.up ua)
      have P2a := Lib.hid (P2'.out.up ua)
      have Y6 := Lib.hid (Z6.out.up ua)
      have Y7 := Lib.hid (Z7.out.up ua)
      have Y8 := Lib.hid (Z8.out.up ua)
      have hu6 := U6.out.size
      refine wpAnyG_do 13 rfl (by kernel_rfl) (fun K hK => ?_)
      rw [if_pos (by rfl)]
      refine wp_append_own _ _ _ 26 rfl w3.heap.size 97 i2 (.agg #[.int .i64 0, .int .i64 0, .int .i64 0]) 3 24 Try.underlying26 hi2 hz0 hz1 hz2 rfl (by decide) (.slice zS s.sills.length iS) s.sills.length (triples s.sills).flatten rfl (ownsRow_base P3a.out.os (by omega)) ⟨w6.heap.size, 0, none⟩ 1 1 [.int .i64 (-1), .int .i64 j, .int .i64 (V % 60)] (by go_simp) rfl (newsAt w6 rfl [.int .i64 (-1), .int .i64 j, .int .i64 (V % 60)] _) (by simp [Value.oneCell']) (by simp [maxLen]; omega) (by omega) (Nat.le_trans hu6 ua.size) ?_
      intro v' w7 hown7 hgr7 _
      obtain ⟨g', cap', rfl⟩ := ownsRow_succ hown7
      have rge : ∀ b, (Value.slice zS s.sills.length iS).ownBlock = some b → n3 ≤ b := fun b e => (P3a.out.os.lt b e).1
      have ne8 : ∀ {B : Nat} {cs : List Value}, Blk (w6.alloc (.cells #[.int .i64 (-1), .int .i64 j, .int .i64 (V % 60)] 97)).drew B cs 28 → some B ≠ (Value.slice zS s.sills.length iS).ownBlock := fun hb e => hb.not_row (by decide) P3a.out.os e.symm
      have A6 := Lib.hid (Y6.out.grown hgr7 (ne8 Y6.out))
      have A7 := Lib.hid (Y7.out.grown hgr7 (ne8 Y7.out))
      have A8 := Lib.hid (Y8.out.grown hgr7 (ne8 Y8.out))
      have u7 : Up w3 w7 := (Up.trans U6.out ua).grown hgr7 (Nat.le_trans hu6 ua.size) (fun k e => by have := rge k e; omega)
      have P1b : Hid (Mine w7 n1 t1 xT xF xS jT jF jS) := Lib.hid (P1a.out.grown hgr7 (fun b off e e' => by have := rge b e'; have := N1.out b off e; omega))
      have P2b : Hid (Mine w7 n2 (hiFloor s j (V % 30)) yT (some ⟨g, 0, none⟩) yS kT kF kS) := Lib.hid (P2a.out.grown hgr7 (fun b off e e' => by have := rge b e'; have := N2.out b off e; omega))
      have ot7 := Lib.hid (ownsRow_grown P3a.out.ot hgr7 (ownsRow_types P3a.out.ot P3a.out.os (by decide)))
      have of7 := Lib.hid (ownsRow_grown P3a.out.of hgr7 (ownsRow_types P3a.out.of P3a.out.os (by decide)))
      have os7 := Lib.hid hown7
      have U7 := Lib.hid u7
      refine hK.out _ _ ⟨A8.out.cell 4, (five (B2.out.up u7)).2.2.2.1⟩ (fun hHeld => ?_)
      clear hK K hown7 hgr7 ua u7
      try simp only [List.setIfInBounds_toArray, List.set_cons_zero, List.set_cons_succ]
      refine wpAnyG_tail (by kernel_rfl) ?_
      clear c0 c1 c2 c3 c4 e0 e1 e2 e3 e4 hHeld P1a P2a P3a Y6 Y7 Y8 UA rge ne8 P1' P2' P3' Z6 Z7 Z8 U6 hi2 hz0 hz1 hz2
      have yf := A8.out.free
      have yl := A8.out.lt
      obtain ⟨e0, e1, e2, e3, e4⟩ := five A8.out
      change wpList _ _ _ [_, _] _ _
      go_wp2_with fail
      generalize hw8 : (w7.setCell ⟨B8, 4, none⟩ (.slice (some ⟨g', 0, none⟩) (s.sills.length + 1) cap')) = w8
      have e3' : (oneMore s (-1, (j : Int), V % 60)).sills.length = s.sills.length + 1 := by show (s.sills ++ [_]).length = _; rw [List.length_append]; rfl
      have R1 : Hid (Mine w8 n1 t1 xT xF xS jT jF jS) := Lib.hid (by rw [← hw8]; exact P1b.out.off (a := ⟨B8, 4, none⟩) (P1b.out.ofBlk A8.out) _)
      have R2 : Hid (Mine w8 n2 (hiFloor s j (V % 30)) yT (some ⟨g, 0, none⟩) yS kT kF kS) := Lib.hid (by rw [← hw8]; exact P2b.out.off (a := ⟨B8, 4, none⟩) (P2b.out.ofBlk A8.out) _)
      have R3 : Hid (Mine w8 w3.heap.size (oneMore s (-1, (j : Int), V % 60)) zT zF (some ⟨g', 0, none⟩) iT iF cap') := Lib.hid (by
        rw [← hw8]
        have hM : Mine w7 w3.heap.size (oneMore s (-1, (j : Int), V % 60)) zT zF (some ⟨g', 0, none⟩) iT iF cap' := by
          refine ⟨ownsRow_base ot7.out (by omega), ownsRow_base of7.out (by omega), ?_⟩
          have h := os7.out
          have ef : (triples (oneMore s (-1, (j : Int), V % 60)).sills).flatten = (triples s.sills).flatten ++ [.int .i64 (-1), .int .i64 j, .int .i64 (V % 60)] := by
            show (triples (s.sills ++ [_])).flatten = _
            unfold triples; rw [List.map_append, List.flatten_append]; rfl
          rw [e3', ef]
          exact h
        exact hM.off (a := ⟨B8, 4, none⟩) (hM.ofBlk A8.out) _)
      have S6 : Hid (Blk w8 B6 (sdCells s xT xF xS jT jF jS) 28) := Lib.hid (by rw [← hw8]; exact A6.out.other (a := ⟨B8, 4, none⟩) n68 _)
      have S7 : Hid (Blk w8 B7 (sdCells s yT (some ⟨g, 0, none⟩) yS kT kF kS) 28) := Lib.hid (by rw [← hw8]; exact A7.out.other (a := ⟨B8, 4, none⟩) n78 _)
      have S8 : Hid (Blk w8 B8 (sdCells (oneMore s (-1, (j : Int), V % 60)) zT zF (some ⟨g', 0, none⟩) iT iF cap') 28) := Lib.hid (by
        rw [← hw8]
        have h := A8.out.set 4 (.slice (some ⟨g', 0, none⟩) (s.sills.length + 1) cap')
        unfold sdCells
        rw [e3']
        exact h)
      have U8 : Hid (Up w w8) := Lib.hid (by rw [← hw8]; exact Up.trans U3.out (U7.out.setCell (p := ⟨B8, 4, none⟩) z8 _))
      have NL3 := Lib.hid (noMore_one OK.out (-1, (j : Int), V % 60) (by omega) (by simp only; omega) rfl (by simp only; omega))
      have LS : Hid (Lists w8 s qT qF qS dT dF dS) := Lib.hid (by rw [← hw8]; exact L3.out.up (U7.out.setCell (p := ⟨B8, 4, none⟩) z8 _))
      have BS : Hid (Blk w8 M (sdCells s qT qF qS dT dF dS) 28) := Lib.hid (by rw [← hw8]; exact B2.out.up (U7.out.setCell (p := ⟨B8, 4, none⟩) z8 _))
      clear hw8 yf yl e0 e1 e2 e3 e4 A6 A7 A8 P1b P2b ot7 of7 os7 U7 L3 B2 U3 N1 N2 wA wV hz6 hu6 e3' tm hj
      have D2 : Dims s (hiFloor s j (V % 30)) := dims_floor s j _
      rw [DM.out.cells] at S6
      rw [D2.cells] at S7
      generalize hT2 : hiFloor s j (V % 30) = t2 at *
      generalize hT3 : oneMore s (-1, (j : Int), V % 60) = t3 at *
      obtain ⟨f0, f1, f2⟩ := firstM_lt OK.out.table
      have HFst := Lib.hid (fun W (u : Up w8 W) => firstL_c s W (LS.out.up u) m2)
      have HLst := Lib.hid (fun W (u : Up w8 W) => lastL_c s W (LS.out.up u) m2 (by omega))
      obtain ⟨c0, c1, c2, c3, c4⟩ := five BS.out
      have z2 : ¬ (lastM s.table - firstM s.table + 1 = 0) := by omega
      have z3 : 0 ≤ T % (lastM s.table - firstM s.table + 1) ∧ T % (lastM s.table - firstM s.table + 1) < lastM s.table - firstM s.table + 1 := ⟨Int.emod_nonneg _ z2, Int.emod_lt_of_pos _ (by omega)⟩
      refine region_tail (fun W' => W'.cell? ⟨M, 0, none⟩ = some (.slice qT s.table.length dT) ∧ W'.cell? ⟨M, 1, none⟩ = some (.int .i64 s.lo) ∧ W'.cell? ⟨M, 2, none⟩ = some (.int .i64 s.hi) ∧ W'.cell? ⟨M, 3, none⟩ = some (.slice qF s.floors.length dF) ∧ W'.cell? ⟨M, 4, none⟩ = some (.slice qS s.sills.length dS) ∧ Up w8 W') 12 mixed (by kernel_rfl) ⟨c0, c1, c2, c3, c4, (Below.refl _ _).drew⟩ (fun hHeld => ?_)
      refine wpAnyG_take 0 87 (v := ?_) rfl rfl (by kernel_rfl) (fun _ _ _ h => h) (Or.inl ⟨by rfl, ?_⟩) (by assumption) ?_
      rotate_left
      · (intro w' hSw; (try dsimp only at hSw); go_split_ands; go_simp; try with_reducible rfl)
      try simp only [List.setIfInBounds_toArray, List.set_cons_zero, List.set_cons_succ]
      refine wpAnyG_take 2 89 (v := ?_) rfl rfl (by kernel_rfl) (fun _ _ _ h => h) (Or.inl ⟨by rfl, ?_⟩) (by assumption) ?_
      rotate_left
      · (intro w' hSw; (try dsimp only at hSw); go_split_ands; go_simp; try with_reducible rfl)
      try simp only [List.setIfInBounds_toArray, List.set_cons_zero, List.set_cons_succ]
      refine wpAnyG_take 3 90 (v := ?_) rfl rfl (by kernel_rfl) (fun _ _ _ h => h) (Or.inl ⟨by rfl, ?_⟩) (by assumption) ?_
      rotate_left
      · (intro w' hSw; (try dsimp only at hSw); go_split_ands; go_simp; try with_reducible rfl)
      try simp only [List.setIfInBounds_toArray, List.set_cons_zero, List.set_cons_succ]
      refine wpAnyG_take 4 91 (v := ?_) rfl rfl (by kernel_rfl) (fun _ _ _ h => h) (Or.inl ⟨by rfl, ?_⟩) (by assumption) ?_
      rotate_left
      · (intro w' hSw; (try dsimp only at hSw); go_split_ands; go_simp; try with_reducible rfl)
      try simp only [List.setIfInBounds_toArray, List.set_cons_zero, List.set_cons_succ]
      refine wpAnyG_take 6 93 (v := ?_) rfl rfl (by kernel_rfl) (fun _ _ _ h => h) (Or.inl ⟨by rfl, ?_⟩) (by assumption) ?_
      rotate_left
      · (intro w' hSw; (try dsimp only at hSw); go_split_ands; go_simp; try with_reducible rfl)
      try simp only [List.setIfInBounds_toArray, List.set_cons_zero, List.set_cons_succ]
      refine wpAnyG_do 1 rfl (by kernel_rfl) (fun K hK => ?_)
      rw [if_pos (by rfl)]
      go_simp
      refine (HFst.out _ ((Below.refl _ _).drew)).mono ?_
      rintro e wa ⟨rfl, v6⟩
      have v6' : Up w8 wa := Up.trans ((Below.refl _ _).drew) v6
      refine hK.out _ _ ⟨v6'.cellAt c0, v6'.cellAt c1, v6'.cellAt c2, v6'.cellAt c3, v6'.cellAt c4, v6'⟩ (fun hHeld => ?_)
      clear hK K
      refine wpAnyG_do 5 rfl (by kernel_rfl) (fun K hK => ?_)
      rw [if_pos (by rfl)]
      go_simp
      refine (HLst.out _ v6').mono ?_
      rintro e wb ⟨rfl, v7⟩
      have v7' : Up w8 wb := Up.trans v6' v7
      refine hK.out _ _ ⟨v7'.cellAt c0, v7'.cellAt c1, v7'.cellAt c2, v7'.cellAt c3, v7'.cellAt c4, v7'⟩ (fun hHeld => ?_)
      clear hK K
      refine wpAnyG_do 7 rfl (by kernel_rfl) (fun K hK => ?_)
      rw [if_pos (by rfl)]
      go_simp
      refine (HFst.out _ v7').mono ?_
      rintro e w9 ⟨rfl, v8⟩
      have v8' : Up w8 w9 := Up.trans v7' v8
      refine hK.out _ _ ⟨v8'.cellAt c0, v8'.cellAt c1, v8'.cellAt c2, v8'.cellAt c3, v8'.cellAt c4, v8'⟩ (fun hHeld => ?_)
      clear hK K
      have s1 : IntKind.i64.wrap (lastM s.table - firstM s.table) = lastM s.table - firstM s.table := IntWalk.i64_in _ (by omega)
      have s2 : IntKind.i64.wrap (lastM s.table - firstM s.table + 1) = lastM s.table - firstM s.table + 1 := IntWalk.i64_in _ (by omega)
      have s3 : IntKind.i64.wrap T = T := IntWalk.i64_in _ (by omega)
      have s4 : IntKind.i64.wrap (firstM s.table + T % (lastM s.table - firstM s.table + 1)) = firstM s.table + T % (lastM s.table - firstM s.table + 1) := IntWalk.i64_in _ (by omega)
      have s5 : T.tmod (lastM s.table - firstM s.table + 1) = T % (lastM s.table - firstM s.table + 1) := Int.tmod_eq_emod_of_nonneg t0
      refine wpAnyG_take 8 95 (v := .int .i64 (lastM s.table - firstM s.table)) rfl rfl (by kernel_rfl) (fun _ _ _ h => h) (Or.inl ⟨by rfl, ?_⟩) (by assumption) ?_
      · intro w' _
        go_simp
      try simp only [List.setIfInBounds_toArray, List.set_cons_zero, List.set_cons_succ]
      refine wpAnyG_take 9 96 (v := .int .i64 (lastM s.table - firstM s.table + 1)) rfl rfl (by kernel_rfl) (fun _ _ _ h => h) (Or.inl ⟨by rfl, ?_⟩) (by assumption) ?_
      · intro w' _
        go_simp
      try simp only [List.setIfInBounds_toArray, List.set_cons_zero, List.set_cons_succ]
      refine wpAnyG_take 10 97 (v := .int .i64 (T % (lastM s.table - firstM s.table + 1))) rfl rfl (by kernel_rfl) (fun _ _ _ h => h) (Or.inl ⟨by rfl, ?_⟩) (by assumption) ?_
      · intro w' _
        go_simp
      try simp only [List.setIfInBounds_toArray, List.set_cons_zero, List.set_cons_succ]
      refine wpAnyG_take 11 98 (v := .int .i64 (firstM s.table + T % (lastM s.table - firstM s.table + 1))) rfl rfl (by kernel_rfl) (fun _ _ _ h => h) (Or.inl ⟨by rfl, ?_⟩) (by assumption) ?_
      · intro w' _
        go_simp
      try simp only [List.setIfInBounds_toArray, List.set_cons_zero, List.set_cons_succ]
      have mm : firstM s.table ≤ firstM s.table + T % (lastM s.table - firstM s.table + 1) ∧ firstM s.table + T % (lastM s.table - firstM s.table + 1) ≤ lastM s.table := by omega
      have HM : Hid (inDay s (firstM s.table + T % (lastM s.table - firstM s.table + 1)) = true) := Lib.hid (inB_true.2 mm)
      generalize firstM s.table + T % (lastM s.table - firstM s.table + 1) = m at *
      have V9 := Lib.hid v8'
      refine wpAnyG_tail (by kernel_rfl) ?_
      clear s1 s2 s3 s4 s5 z2 z3 mm f0 f1 f2 c0 c1 c2 c3 c4 hHeld HFst HLst v6 v7 v8 v6' v7' v8'
      obtain ⟨c0, c1, c2, c3, c4⟩ := five (BS.out.up V9.out)
      change wpList _ _ _ [_] _ _
      go_wp2_with fail
      refine (sAll_c OK.out HM.out (LS.out.up V9.out)).mono ?_
      rintro e wd ⟨pa, ka, rfl, a1', a2', a3', ud⟩
      have Vd := Lib.hid (Up.trans V9.out ud)
      have A3 := Lib.hid a3'
      clear ud a3' c0 c1 c2 c3 c4
      obtain ⟨c0, c1, c2, c3, c4⟩ := five (BS.out.up Vd.out)
      have lenA : (allV s m).length = s.floors.length := by
        unfold allV
        rw [if_pos (errAt_in OK.out HM.out)]
        simp [allS]
      obtain ⟨gA, oA, rfl, -⟩ := A3.out.int 0 (by omega)
      have e6 := five (S6.out.up Vd.out)
      have e7 := five (S7.out.up Vd.out)
      have e8 := five (S8.out.up Vd.out)
      obtain ⟨x0, x1, x2, x3, x4⟩ := e6
      obtain ⟨y0, y1, y2, y3, y4⟩ := e7
      obtain ⟨w0', w1', w2', w3', w4'⟩ := e8
      rw [lenA]
      go_wp2_with fail
      have LK := Lib.hid (like3 NL1.out NL2.out NL3.out)
      have BG : Hid (RowBlk (wd.alloc (.cells #[.slice xT t1.table.length jT, .int .i64 t1.lo, .int .i64 t1.hi, .slice xF t1.floors.length jF, .slice xS t1.sills.length jS, .slice yT t2.table.length kT, .int .i64 t2.lo, .int .i64 t2.hi, .slice (some ⟨g, 0, none⟩) t2.floors.length kF, .slice yS t2.sills.length kS, .slice zT t3.table.length iT, .int .i64 t3.lo, .int .i64 t3.hi, .slice zF t3.floors.length iF, .slice (some ⟨g', 0, none⟩) t3.sills.length cap'] 28)) wd.heap.size 28 5 [sdCells t1 xT xF xS jT jF jS, sdCells t2 yT (some ⟨g, 0, none⟩) yS kT kF kS, sdCells t3 zT zF (some ⟨g', 0, none⟩) iT iF cap']) :=
        Lib.hid (Blk.row 5 (by intro r hr; simp only [List.mem_cons, List.not_mem_nil, or_false] at hr; rcases hr with rfl | rfl | rfl <;> rfl) (Blk.new wd _ _))
      have Ve : Hid (Up w8 (wd.alloc (.cells #[.slice xT t1.table.length jT, .int .i64 t1.lo, .int .i64 t1.hi, .slice xF t1.floors.length jF, .slice xS t1.sills.length jS, .slice yT t2.table.length kT, .int .i64 t2.lo, .int .i64 t2.hi, .slice (some ⟨g, 0, none⟩) t2.floors.length kF, .slice yS t2.sills.length kS, .slice zT t3.table.length iT, .int .i64 t3.lo, .int .i64 t3.hi, .slice zF t3.floors.length iF, .slice (some ⟨g', 0, none⟩) t3.sills.length cap'] 28))) := Lib.hid (Up.trans Vd.out (by (repeat (first | exact Below.refl _ _ | (with_reducible refine Below.drewN' ?_ _) | (with_reducible refine Below.drew ?_) | (with_reducible refine Below.setCell ?_ (by first | exact Nat.le_refl _ | omega | (with_reducible (repeat (first | refine sz_alloc ?_ | refine sz_setCell ?_ | refine sz_drew ?_ | refine sz_drewN ?_)); first | exact Nat.le_refl _ | omega) | (simp only [World.size_alloc, World.size_setCell, World.size_drew, size_drewN']; omega)) _) | (with_reducible refine Below.alloc ?_ (by first | exact Nat.le_refl _ | omega | (with_reducible (repeat (first | refine sz_alloc ?_ | refine sz_setCell ?_ | refine sz_drew ?_ | refine sz_drewN ?_)); first | exact Nat.le_refl _ | omega) | (simp only [World.size_alloc, World.size_setCell, World.size_drew, size_drewN']; omega)) _) | assumption))))
      have Ae : Hid (Row (wd.alloc (.cells #[.slice xT t1.table.length jT, .int .i64 t1.lo, .int .i64 t1.hi, .slice xF t1.floors.length jF, .slice xS t1.sills.length jS, .slice yT t2.table.length kT, .int .i64 t2.lo, .int .i64 t2.hi, .slice (some ⟨g, 0, none⟩) t2.floors.length kF, .slice yS t2.sills.length kS, .slice zT t3.table.length iT, .int .i64 t3.lo, .int .i64 t3.hi, .slice zF t3.floors.length iF, .slice (some ⟨g', 0, none⟩) t3.sills.length cap'] 28)) (some ⟨gA, oA, none⟩) 1 (ints (allV s m))) := Lib.hid (A3.out.up (by (repeat (first | exact Below.refl _ _ | (with_reducible refine Below.drewN' ?_ _) | (with_reducible refine Below.drew ?_) | (with_reducible refine Below.setCell ?_ (by first | exact Nat.le_refl _ | omega | (with_reducible (repeat (first | refine sz_alloc ?_ | refine sz_setCell ?_ | refine sz_drew ?_ | refine sz_drewN ?_)); first | exact Nat.le_refl _ | omega) | (simp only [World.size_alloc, World.size_setCell, World.size_drew, size_drewN']; omega)) _) | (with_reducible refine Below.alloc ?_ (by first | exact Nat.le_refl _ | omega | (with_reducible (repeat (first | refine sz_alloc ?_ | refine sz_setCell ?_ | refine sz_drew ?_ | refine sz_drewN ?_)); first | exact Nat.le_refl _ | omega) | (simp only [World.size_alloc, World.size_setCell, World.size_drew, size_drewN']; omega)) _) | assumption))))
      have LL : Hid (∀ k, k < 3 → Lists w8 (pick3 t1 t2 t3 k) (pick3 xT yT zT k) (pick3 xF (some ⟨g, 0, none⟩) zF k) (pick3 xS yS (some ⟨g', 0, none⟩) k) (pick3 jT kT iT k) (pick3 jF kF iF k) (pick3 jS kS cap' k)) := Lib.hid (by
        intro k hk
        obtain rfl | rfl | rfl : k = 0 ∨ k = 1 ∨ k = 2 := by omega
        · exact R1.out.lists
        · exact R2.out.lists
        · exact R3.out.lists)
      generalize (wd.alloc (.cells #[.slice xT t1.table.length jT, .int .i64 t1.lo, .int .i64 t1.hi, .slice xF t1.floors.length jF, .slice xS t1.sills.length jS, .slice yT t2.table.length kT, .int .i64 t2.lo, .int .i64 t2.hi, .slice (some ⟨g, 0, none⟩) t2.floors.length kF, .slice yS t2.sills.length kS, .slice zT t3.table.length iT, .int .i64 t3.lo, .int .i64 t3.hi, .slice zF t3.floors.length iF, .slice (some ⟨g', 0, none⟩) t3.sills.length cap'] 28)) = we at *
      generalize wd.heap.size = G at *
      clear c0 c1 c2 c3 c4 x0 x1 x2 x3 x4 y0 y1 y2 y3 y4 w0' w1' w2' w3' w4' S6 S7 S8 R1 R2 R3 NL1 NL2 NL3 A3 Vd V9 DM D2 MK
      go_loopw [120] (fun i wz => ∃ k : Nat, i = .int .i64 k ∧ k ≤ 3 ∧ Up we wz) (fun i _ => 3 - (intOf i).toNat)
      case atStart => exact ⟨0, rfl, by omega, Below.refl _ _⟩
      case round =>
        obtain ⟨k, rfl, hk, hu⟩ := hrel
        have Uz := Lib.hid hu
        by_cases hlt : k < 3
        · have q1 : (k : Int) < 3 := by omega
          have hrow := pick3_row t1 t2 t3 xT yT zT xF (some ⟨g, 0, none⟩) zF xS yS (some ⟨g', 0, none⟩) jT kT iT jF kF iF jS kS cap' k hlt
          have LKk := Lib.hid (LK.out k hlt)
          have LLk := Lib.hid (LL.out k hlt)
          generalize pick3 t1 t2 t3 k = tt at *
          generalize pick3 xT yT zT k = rT at *
          generalize pick3 xF (some ⟨g, 0, none⟩) zF k = rF at *
          generalize pick3 xS yS (some ⟨g', 0, none⟩) k = rS at *
          generalize pick3 jT kT iT k = oT at *
          generalize pick3 jF kF iF k = oF at *
          generalize pick3 jS kS cap' k = oS at *
          have bg := BG.out.up hu
          have n0 := bg.cell (j := 0) hrow rfl
          have n1' := bg.cell (j := 1) hrow rfl
          have n2' := bg.cell (j := 2) hrow rfl
          have n3' := bg.cell (j := 3) hrow rfl
          have n4 := bg.cell (j := 4) hrow rfl
          have ltG := bg.lt
          rw [Nat.add_zero] at n0
          clear bg hu hrow
          go_wp2_with fail
          have Bt : Hid (Blk (wr.alloc (.cells #[.slice rT tt.table.length oT, .int .i64 tt.lo, .int .i64 tt.hi, .slice rF tt.floors.length oF, .slice rS tt.sills.length oS] 28)) wr.heap.size (sdCells tt rT rF rS oT oF oS) 28) := Blk.new wr (sdCells tt rT rF rS oT oF oS) 28
          have Uef : Hid (Up we (wr.alloc (.cells #[.slice rT tt.table.length oT, .int .i64 tt.lo, .int .i64 tt.hi, .slice rF tt.floors.length oF, .slice rS tt.sills.length oS] 28))) := Lib.hid (Up.trans Uz.out (by (repeat (first | exact Below.refl _ _ | (with_reducible refine Below.drewN' ?_ _) | (with_reducible refine Below.drew ?_) | (with_reducible refine Below.setCell ?_ (by first | exact Nat.le_refl _ | omega | (with_reducible (repeat (first | refine sz_alloc ?_ | refine sz_setCell ?_ | refine sz_drew ?_ | refine sz_drewN ?_)); first | exact Nat.le_refl _ | omega) | (simp only [World.size_alloc, World.size_setCell, World.size_drew, size_drewN']; omega)) _) | (with_reducible refine Below.alloc ?_ (by first | exact Nat.le_refl _ | omega | (with_reducible (repeat (first | refine sz_alloc ?_ | refine sz_setCell ?_ | refine sz_drew ?_ | refine sz_drewN ?_)); first | exact Nat.le_refl _ | omega) | (simp only [World.size_alloc, World.size_setCell, World.size_drew, size_drewN']; omega)) _) | assumption))))
          generalize (wr.alloc (.cells #[.slice rT tt.table.length oT, .int .i64 tt.lo, .int .i64 tt.hi, .slice rF tt.floors.length oF, .slice rS tt.sills.length oS] 28)) = wf at *
          generalize wr.heap.size = X at *
          have hm' : inDay tt m = true := by rw [LKk.out.day]; exact HM.out
          refine (sAll_c LKk.out.ok hm' (LLk.out.up (Up.trans Ve.out Uef.out))).mono ?_
          rintro e wg ⟨pb, kb, rfl, b1', b2', b3', ug⟩
          have Ueg := Lib.hid (Up.trans Uef.out ug)
          have Bg := Lib.hid b3'
          have Btg := Lib.hid (Bt.out.up ug)
          have LSg := Lib.hid (LS.out.up (Up.trans Ve.out Ueg.out))
          have BSg := Lib.hid (BS.out.up (Up.trans Ve.out Ueg.out))
          have LTg := Lib.hid (LLk.out.up (Up.trans Ve.out Ueg.out))
          have Ag := Lib.hid (Ae.out.up Ueg.out)
          have lenB : (allV tt m).length = s.floors.length := (allV_get LKk.out.ok hm').1.trans LKk.out.fl
          obtain ⟨gB, oB, rfl, -⟩ := Bg.out.int 0 (by omega)
          rw [lenB]
          clear ug b3' b1' b2' Bt Uef LLk LL BG LS BS Ae Uz n0 n1' n2' n3' n4 ltG
          obtain ⟨c0, c1, c2, c3, c4⟩ := five BSg.out
          go_wp2_with fail
          go_loopw [143] (fun i wy => ∃ y : Nat, i = .int .i64 y ∧ y ≤ s.floors.length ∧ Up wg wy) (fun i _ => s.floors.length - (intOf i).toNat)
          case atStart => exact ⟨0, rfl, by omega, Below.refl _ _⟩
          case round =>
            obtain ⟨y, rfl, hy, hu⟩ := hrel
            have Uy := Lib.hid hu
            clear c0 c1 c2 c3 c4
            obtain ⟨c0, c1, c2, c3, c4⟩ := five (BSg.out.up hu)
            clear hu
            by_cases hly : y < s.floors.length
            · have q2 : (y : Int) < s.floors.length := by omega
              go_wp2_with fail
              refine (Gate_c s y wr (LSg.out.up Uy.out)).mono ?_
              rintro e wh ⟨rfl, uh⟩
              have Uh := Lib.hid (Up.trans Uy.out uh)
              clear uh Uy c0 c1 c2 c3 c4
              obtain ⟨c0, c1, c2, c3, c4⟩ := five (Btg.out.up Uh.out)
              go_wp2_with fail
              refine (Gate_c tt y wh (LTg.out.up Uh.out)).mono ?_
              rintro e wi ⟨rfl, ui⟩
              have Ui := Lib.hid (Up.trans Uh.out ui)
              clear ui Uh c0 c1 c2 c3 c4
              have ca := rowInt (Ag.out.up Ui.out) (i := y) (by omega)
              have cb := rowInt (Bg.out.up Ui.out) (i := y) (by omega)
              rw [(allV_get OK.out HM.out).2] at ca
              rw [(allV_get LKk.out.ok hm').2] at cb
              have la := cell_lt ca
              have lb := cell_lt cb
              have hor := errGate_or OK.out (x := (y : Int)) (by omega)
              by_cases hk2 : k < 2
              · obtain ⟨g1, g2⟩ := LKk.out.less hk2
                obtain ⟨g3, g4⟩ := g1 y (by omega) (by omega)
                have g5 := g2 m y
                rw [g3]
                generalize errGate s y = ea at *
                generalize gateV s y = ga at *
                generalize gateV tt y = gb at *
                generalize st s m y = sa at *
                generalize st tt m y = sb at *
                have k1 : (k : Int) < 2 := by omega
                have k2 : ¬ ((k : Int) = 2) := by omega
                have k3 : ¬ gb < ga := by omega
                have k4 : ¬ sa < sb := by omega
                have b1 : decide ((k : Int) < 2) = true := by simpa using k1
                have b2 : ((k : Int) == 2) = false := by simpa using k2
                have b3 : decide (gb < ga) = false := by simpa using k3
                have b4 : decide (sa < sb) = false := by simpa using k4
                clear g1 g2 g3 g4 g5
                rcases hor with rfl | rfl
                · go_wp2_with fail
                  try (clear OK)
                  try (clear HM)
                  try (clear LK)
                  try (clear LKk)
                  try (clear LTg)
                  try (clear Btg)
                  try (clear LSg)
                  try (clear BSg)
                  try (clear Ag)
                  try (clear Bg)
                  try (clear Ueg)
                  try (clear Ve)
                  try (clear U8)
                  try (clear N1)
                  try (clear N2)
                  try (clear D2)
                  try (clear DM)
                  try (clear NL1)
                  try (clear NL2)
                  try (clear NL3)
                  try (clear MK)
                  try (clear HB2)
                  try (clear lenA)
                  try (clear lenB)
                  try (clear hm')
                  try (clear c0)
                  try (clear c1)
                  try (clear c2)
                  try (clear c3)
                  try (clear c4)
                  try (clear rb)
                  try (clear hD)
                  try (clear m2)
                  try (clear m4)
                  try (clear mf1)
                  try (clear ms9)
                  try (clear h01)
                  try (clear h12)
                  try (clear h23)
                  try (clear z6)
                  try (clear z7)
                  try (clear z8)
                  try (clear n67)
                  try (clear n68)
                  try (clear n78)
                  try (clear ltM)
                  try (clear szc)
                  try (clear l6)
                  try (clear l7)
                  try (clear l8)
                  try (clear hT2)
                  try (clear hT3)
                  try (clear a0)
                  try (clear a1)
                  try (clear v0)
                  try (clear v1)
                  try (clear t0)
                  try (clear t1)
                  try (clear M3)
                  try (clear hl)
                  try (clear hlt)
                  try (clear hj0)
                  try (clear hj1)
                  try (clear hh)
                  try (clear z1)
                  try (clear hjl)
                  try (clear a1')
                  try (clear a2')
                  try (clear hk)
                  refine region_read (fun W' => W'.cell? ⟨gA, oA + y, none⟩ = some (.int .i64 sa) ∧ W'.cell? ⟨gB, oB + y, none⟩ = some (.int .i64 sb)) [.int .i64 k, .bool true, .bool true, .int .i64 0, .int .i64 0, .bool false, .bool false, .int .i64 0, .bool true, .bool true, .int .i64 gb, .int .i64 ga, .bool false, .bool false, .bool false, .bool false, .slice (some ⟨gB, oB, none⟩) s.floors.length kb, .int .i64 y, .pointer (some ⟨gB, oB + y, none⟩), .int .i64 sb, .slice (some ⟨gA, oA, none⟩) s.floors.length ka, .int .i64 y, .pointer (some ⟨gA, oA + y, none⟩), .int .i64 sa, .bool false, .bool false, .bool false, .bool false, .int .i64 k, .bool false, .bool false, undef, undef, undef, undef, undef, undef, undef, undef, undef, undef, undef, undef, undef, undef, undef, undef, undef, undef, undef, undef, undef, undef, .bool false, .bool false] ?_ mixed (by kernel_rfl) ?_ ⟨ca, cb⟩ ?_ ?_
                  rotate_left
                  · simp only [putAll, Act.put, List.setIfInBounds_toArray, List.set_cons_zero, List.set_cons_succ]
                    rfl
                  · exact ⟨Or.inl ⟨by rfl, fun w' hSw => by (obtain ⟨h1, h2⟩ := hSw; go_simp; try rfl)⟩,
                      Or.inl ⟨by rfl, fun w' hSw => by (obtain ⟨h1, h2⟩ := hSw; go_simp; try rfl)⟩,
                      Or.inl ⟨by rfl, fun w' hSw => by (obtain ⟨h1, h2⟩ := hSw; go_simp; try rfl)⟩,
                      Or.inl ⟨by rfl, fun w' hSw => by (obtain ⟨h1, h2⟩ := hSw; go_simp; try rfl)⟩,
                      Or.inl ⟨by rfl, fun w' hSw => by (obtain ⟨h1, h2⟩ := hSw; go_simp; try rfl)⟩,
                      Or.inl ⟨by rfl, fun w' hSw => by (obtain ⟨h1, h2⟩ := hSw; go_simp; try rfl)⟩,
                      Or.inl ⟨by rfl, fun w' hSw => by (obtain ⟨h1, h2⟩ := hSw; go_simp; try rfl)⟩,
                      Or.inl ⟨by rfl, fun w' hSw => by (obtain ⟨h1, h2⟩ := hSw; go_simp; try rfl)⟩,
                      Or.inl ⟨by rfl, fun w' hSw => by (obtain ⟨h1, h2⟩ := hSw; go_simp; try rfl)⟩,
                      Or.inl ⟨by rfl, fun w' hSw => by (obtain ⟨h1, h2⟩ := hSw; go_simp; try rfl)⟩,
                      Or.inl ⟨by rfl, fun w' hSw => by (obtain ⟨h1, h2⟩ := hSw; go_simp; try rfl)⟩,
                      Or.inl ⟨by rfl, fun w' hSw => by (obtain ⟨h1, h2⟩ := hSw; go_simp; try rfl)⟩,
                      Or.inl ⟨by rfl, fun w' hSw => by (obtain ⟨h1, h2⟩ := hSw; go_simp; try rfl)⟩,
                      Or.inl ⟨by rfl, fun w' hSw => by (obtain ⟨h1, h2⟩ := hSw; go_simp; try rfl)⟩,
                      Or.inl ⟨by rfl, fun w' hSw => by (obtain ⟨h1, h2⟩ := hSw; go_simp; try rfl)⟩,
                      Or.inl ⟨by rfl, fun w' hSw => by (obtain ⟨h1, h2⟩ := hSw; go_simp; try rfl)⟩,
                      Or.inl ⟨by rfl, fun w' hSw => by (obtain ⟨h1, h2⟩ := hSw; go_simp; try rfl)⟩,
                      Or.inl ⟨by rfl, fun w' hSw => by (obtain ⟨h1, h2⟩ := hSw; go_simp; try rfl)⟩,
                      Or.inl ⟨by rfl, fun w' hSw => by (obtain ⟨h1, h2⟩ := hSw; go_simp; try rfl)⟩,
                      Or.inl ⟨by rfl, fun w' hSw => by (obtain ⟨h1, h2⟩ := hSw; go_simp; try rfl)⟩,
                      Or.inl ⟨by rfl, fun w' hSw => by (obtain ⟨h1, h2⟩ := hSw; go_simp; try rfl)⟩,
                      Or.inl ⟨by rfl, fun w' hSw => by (obtain ⟨h1, h2⟩ := hSw; go_simp; try rfl)⟩,
                      Or.inl ⟨by rfl, fun w' hSw => by (obtain ⟨h1, h2⟩ := hSw; go_simp; try rfl)⟩,
                      Or.inl ⟨by rfl, fun w' hSw => by (obtain ⟨h1, h2⟩ := hSw; go_simp; try rfl)⟩,
                      Or.inl ⟨by rfl, fun w' hSw => by (obtain ⟨h1, h2⟩ := hSw; go_simp; try rfl)⟩,
                      Or.inl ⟨by rfl, fun w' hSw => by (obtain ⟨h1, h2⟩ := hSw; go_simp; try rfl)⟩,
                      Or.inl ⟨by rfl, fun w' hSw => by (obtain ⟨h1, h2⟩ := hSw; go_simp; try rfl)⟩,
                      Or.inl ⟨by rfl, fun w' hSw => by (obtain ⟨h1, h2⟩ := hSw; go_simp; try rfl)⟩,
                      Or.inl ⟨by rfl, fun w' hSw => by (obtain ⟨h1, h2⟩ := hSw; go_simp; try rfl)⟩,
                      Or.inl ⟨by rfl, fun w' hSw => by (obtain ⟨h1, h2⟩ := hSw; go_simp; try rfl)⟩,
                      Or.inl ⟨by rfl, fun w' hSw => by (obtain ⟨h1, h2⟩ := hSw; go_simp; try rfl)⟩,
                      Or.inr ⟨by rfl, rfl⟩,
                      Or.inr ⟨by rfl, rfl⟩,
                      Or.inr ⟨by rfl, rfl⟩,
                      Or.inr ⟨by rfl, rfl⟩,
                      Or.inr ⟨by rfl, rfl⟩,
                      Or.inr ⟨by rfl, rfl⟩,
                      Or.inr ⟨by rfl, rfl⟩,
                      Or.inr ⟨by rfl, rfl⟩,
                      Or.inr ⟨by rfl, rfl⟩,
                      Or.inr ⟨by rfl, rfl⟩,
                      Or.inr ⟨by rfl, rfl⟩,
                      Or.inr ⟨by rfl, rfl⟩,
                      Or.inr ⟨by rfl, rfl⟩,
                      Or.inr ⟨by rfl, rfl⟩,
                      Or.inr ⟨by rfl, rfl⟩,
                      Or.inr ⟨by rfl, rfl⟩,
                      Or.inr ⟨by rfl, rfl⟩,
                      Or.inr ⟨by rfl, rfl⟩,
                      Or.inr ⟨by rfl, rfl⟩,
                      Or.inr ⟨by rfl, rfl⟩,
                      Or.inr ⟨by rfl, rfl⟩,
                      Or.inr ⟨by rfl, rfl⟩,
                      Or.inl ⟨by rfl, fun w' hSw => by (obtain ⟨h1, h2⟩ := hSw; go_simp; try rfl)⟩,
                      Or.inl ⟨by rfl, fun w' hSw => by (obtain ⟨h1, h2⟩ := hSw; go_simp; try rfl)⟩, trivial⟩
                  go_wp2_with fail
                  go_roundw
                  case rel =>
                    try ((repeat apply Exists.intro); refine ⟨?_, rfl⟩)
                    exact ⟨y + 1, by go_num, by omega, Ui.out.drew⟩
                  case measure => simp [intOf]; omega
                · go_wp2_with fail
                  try (clear OK)
                  try (clear HM)
                  try (clear LK)
                  try (clear LKk)
                  try (clear LTg)
                  try (clear Btg)
                  try (clear LSg)
                  try (clear BSg)
                  try (clear Ag)
                  try (clear Bg)
                  try (clear Ueg)
                  try (clear Ve)
                  try (clear U8)
                  try (clear N1)
                  try (clear N2)
                  try (clear D2)
                  try (clear DM)
                  try (clear NL1)
                  try (clear NL2)
                  try (clear NL3)
                  try (clear MK)
                  try (clear HB2)
                  try (clear lenA)
                  try (clear lenB)
                  try (clear hm')
                  try (clear c0)
                  try (clear c1)
                  try (clear c2)
                  try (clear c3)
                  try (clear c4)
                  try (clear rb)
                  try (clear hD)
                  try (clear m2)
                  try (clear m4)
                  try (clear mf1)
                  try (clear ms9)
                  try (clear h01)
                  try (clear h12)
                  try (clear h23)
                  try (clear z6)
                  try (clear z7)
                  try (clear z8)
                  try (clear n67)
                  try (clear n68)
                  try (clear n78)
                  try (clear ltM)
                  try (clear szc)
                  try (clear l6)
                  try (clear l7)
                  try (clear l8)
                  try (clear hT2)
                  try (clear hT3)
                  try (clear a0)
                  try (clear a1)
                  try (clear v0)
                  try (clear v1)
                  try (clear t0)
                  try (clear t1)
                  try (clear M3)
                  try (clear hl)
                  try (clear hlt)
                  try (clear hj0)
                  try (clear hj1)
                  try (clear hh)
                  try (clear z1)
                  try (clear hjl)
                  try (clear a1')
                  try (clear a2')
                  try (clear hk)
                  refine region_read (fun W' => W'.cell? ⟨gA, oA + y, none⟩ = some (.int .i64 sa) ∧ W'.cell? ⟨gB, oB + y, none⟩ = some (.int .i64 sb)) [.int .i64 k, .bool true, .bool true, .int .i64 6, .int .i64 6, .bool false, .bool false, .int .i64 6, .bool false, .bool false, undef, undef, undef, .bool false, .bool false, .bool false, .slice (some ⟨gB, oB, none⟩) s.floors.length kb, .int .i64 y, .pointer (some ⟨gB, oB + y, none⟩), .int .i64 sb, .slice (some ⟨gA, oA, none⟩) s.floors.length ka, .int .i64 y, .pointer (some ⟨gA, oA + y, none⟩), .int .i64 sa, .bool false, .bool false, .bool false, .bool false, .int .i64 k, .bool false, .bool false, undef, undef, undef, undef, undef, undef, undef, undef, undef, undef, undef, undef, undef, undef, undef, undef, undef, undef, undef, undef, undef, undef, .bool false, .bool false] ?_ mixed (by kernel_rfl) ?_ ⟨ca, cb⟩ ?_ ?_
                  rotate_left
                  · simp only [putAll, Act.put, List.setIfInBounds_toArray, List.set_cons_zero, List.set_cons_succ]
                    rfl
                  · exact ⟨Or.inl ⟨by rfl, fun w' hSw => by (obtain ⟨h1, h2⟩ := hSw; go_simp; try rfl)⟩,
                      Or.inl ⟨by rfl, fun w' hSw => by (obtain ⟨h1, h2⟩ := hSw; go_simp; try rfl)⟩,
                      Or.inl ⟨by rfl, fun w' hSw => by (obtain ⟨h1, h2⟩ := hSw; go_simp; try rfl)⟩,
                      Or.inl ⟨by rfl, fun w' hSw => by (obtain ⟨h1, h2⟩ := hSw; go_simp; try rfl)⟩,
                      Or.inl ⟨by rfl, fun w' hSw => by (obtain ⟨h1, h2⟩ := hSw; go_simp; try rfl)⟩,
                      Or.inl ⟨by rfl, fun w' hSw => by (obtain ⟨h1, h2⟩ := hSw; go_simp; try rfl)⟩,
                      Or.inl ⟨by rfl, fun w' hSw => by (obtain ⟨h1, h2⟩ := hSw; go_simp; try rfl)⟩,
                      Or.inl ⟨by rfl, fun w' hSw => by (obtain ⟨h1, h2⟩ := hSw; go_simp; try rfl)⟩,
                      Or.inl ⟨by rfl, fun w' hSw => by (obtain ⟨h1, h2⟩ := hSw; go_simp; try rfl)⟩,
                      Or.inl ⟨by rfl, fun w' hSw => by (obtain ⟨h1, h2⟩ := hSw; go_simp; try rfl)⟩,
                      Or.inr ⟨by rfl, rfl⟩,
                      Or.inr ⟨by rfl, rfl⟩,
                      Or.inr ⟨by rfl, rfl⟩,
                      Or.inl ⟨by rfl, fun w' hSw => by (obtain ⟨h1, h2⟩ := hSw; go_simp; try rfl)⟩,
                      Or.inl ⟨by rfl, fun w' hSw => by (obtain ⟨h1, h2⟩ := hSw; go_simp; try rfl)⟩,
                      Or.inl ⟨by rfl, fun w' hSw => by (obtain ⟨h1, h2⟩ := hSw; go_simp; try rfl)⟩,
                      Or.inl ⟨by rfl, fun w' hSw => by (obtain ⟨h1, h2⟩ := hSw; go_simp; try rfl)⟩,
                      Or.inl ⟨by rfl, fun w' hSw => by (obtain ⟨h1, h2⟩ := hSw; go_simp; try rfl)⟩,
                      Or.inl ⟨by rfl, fun w' hSw => by (obtain ⟨h1, h2⟩ := hSw; go_simp; try rfl)⟩,
                      Or.inl ⟨by rfl, fun w' hSw => by (obtain ⟨h1, h2⟩ := hSw; go_simp; try rfl)⟩,
                      Or.inl ⟨by rfl, fun w' hSw => by (obtain ⟨h1, h2⟩ := hSw; go_simp; try rfl)⟩,
                      Or.inl ⟨by rfl, fun w' hSw => by (obtain ⟨h1, h2⟩ := hSw; go_simp; try rfl)⟩,
                      Or.inl ⟨by rfl, fun w' hSw => by (obtain ⟨h1, h2⟩ := hSw; go_simp; try rfl)⟩,
                      Or.inl ⟨by rfl, fun w' hSw => by (obtain ⟨h1, h2⟩ := hSw; go_simp; try rfl)⟩,
                      Or.inl ⟨by rfl, fun w' hSw => by (obtain ⟨h1, h2⟩ := hSw; go_simp; try rfl)⟩,
                      Or.inl ⟨by rfl, fun w' hSw => by (obtain ⟨h1, h2⟩ := hSw; go_simp; try rfl)⟩,
                      Or.inl ⟨by rfl, fun w' hSw => by (obtain ⟨h1, h2⟩ := hSw; go_simp; try rfl)⟩,
                      Or.inl ⟨by rfl, fun w' hSw => by (obtain ⟨h1, h2⟩ := hSw; go_simp; try rfl)⟩,
                      Or.inl ⟨by rfl, fun w' hSw => by (obtain ⟨h1, h2⟩ := hSw; go_simp; try rfl)⟩,
                      Or.inl ⟨by rfl, fun w' hSw => by (obtain ⟨h1, h2⟩ := hSw; go_simp; try rfl)⟩,
                      Or.inl ⟨by rfl, fun w' hSw => by (obtain ⟨h1, h2⟩ := hSw; go_simp; try rfl)⟩,
                      Or.inr ⟨by rfl, rfl⟩,
                      Or.inr ⟨by rfl, rfl⟩,
                      Or.inr ⟨by rfl, rfl⟩,
                      Or.inr ⟨by rfl, rfl⟩,
                      Or.inr ⟨by rfl, rfl⟩,
                      Or.inr ⟨by rfl, rfl⟩,
                      Or.inr ⟨by rfl, rfl⟩,
                      Or.inr ⟨by rfl, rfl⟩,
                      Or.inr ⟨by rfl, rfl⟩,
                      Or.inr ⟨by rfl, rfl⟩,
                      Or.inr ⟨by rfl, rfl⟩,
                      Or.inr ⟨by rfl, rfl⟩,
                      Or.inr ⟨by rfl, rfl⟩,
                      Or.inr ⟨by rfl, rfl⟩,
                      Or.inr ⟨by rfl, rfl⟩,
                      Or.inr ⟨by rfl, rfl⟩,
                      Or.inr ⟨by rfl, rfl⟩,
                      Or.inr ⟨by rfl, rfl⟩,
                      Or.inr ⟨by rfl, rfl⟩,
                      Or.inr ⟨by rfl, rfl⟩,
                      Or.inr ⟨by rfl, rfl⟩,
                      Or.inr ⟨by rfl, rfl⟩,
                      Or.inl ⟨by rfl, fun w' hSw => by (obtain ⟨h1, h2⟩ := hSw; go_simp; try rfl)⟩,
                      Or.inl ⟨by rfl, fun w' hSw => by (obtain ⟨h1, h2⟩ := hSw; go_simp; try rfl)⟩, trivial⟩
                  go_wp2_with fail
                  go_roundw
                  case rel =>
                    try ((repeat apply Exists.intro); refine ⟨?_, rfl⟩)
                    exact ⟨y + 1, by go_num, by omega, Ui.out.drew⟩
                  case measure => simp [intOf]; omega
              · obtain rfl : k = 2 := by omega
                obtain ⟨g1, g2⟩ := LKk.out.more rfl
                have g3 := g1 y (by omega) (by omega)
                have g5 := g2 m y
                generalize errGate s y = ea at *
                generalize errGate tt y = eb at *
                generalize gateV s y = ga at *
                generalize gateV tt y = gb at *
                generalize st s m y = sa at *
                generalize st tt m y = sb at *
                have k4 : ¬ sb < sa := by omega
                have b4 : decide (sb < sa) = false := by simpa using k4
                clear g1 g2 g5
                rcases hor with rfl | rfl
                · obtain ⟨rfl, g6⟩ := g3 rfl
                  have k3 : ¬ ga < gb := by omega
                  have b3 : decide (ga < gb) = false := by simpa using k3
                  go_wp2_with fail
                  try (clear OK)
                  try (clear HM)
                  try (clear LK)
                  try (clear LKk)
                  try (clear LTg)
                  try (clear Btg)
                  try (clear LSg)
                  try (clear BSg)
                  try (clear Ag)
                  try (clear Bg)
                  try (clear Ueg)
                  try (clear Ve)
                  try (clear U8)
                  try (clear N1)
                  try (clear N2)
                  try (clear D2)
                  try (clear DM)
                  try (clear NL1)
                  try (clear NL2)
                  try (clear NL3)
                  try (clear MK)
                  try (clear HB2)
                  try (clear lenA)
                  try (clear lenB)
                  try (clear hm')
                  try (clear c0)
                  try (clear c1)
                  try (clear c2)
                  try (clear c3)
                  try (clear c4)
                  try (clear rb)
                  try (clear hD)
                  try (clear m2)
                  try (clear m4)
                  try (clear mf1)
                  try (clear ms9)
                  try (clear h01)
                  try (clear h12)
                  try (clear h23)
                  try (clear z6)
                  try (clear z7)
                  try (clear z8)
                  try (clear n67)
                  try (clear n68)
                  try (clear n78)
                  try (clear ltM)
                  try (clear szc)
                  try (clear l6)
                  try (clear l7)
                  try (clear l8)
                  try (clear hT2)
                  try (clear hT3)
                  try (clear a0)
                  try (clear a1)
                  try (clear v0)
                  try (clear v1)
                  try (clear t0)
                  try (clear t1)
                  try (clear M3)
                  try (clear hl)
                  try (clear hlt)
                  try (clear hj0)
                  try (clear hj1)
                  try (clear hh)
                  try (clear z1)
                  try (clear hjl)
                  try (clear a1')
                  try (clear a2')
                  try (clear hk)
                  refine region_read (fun W' => W'.cell? ⟨gA, oA + y, none⟩ = some (.int .i64 sa) ∧ W'.cell? ⟨gB, oB + y, none⟩ = some (.int .i64 sb)) [.int .i64 2, .bool false, .bool false, undef, undef, undef, undef, undef, undef, undef, undef, undef, undef, undef, undef, undef, undef, undef, undef, undef, undef, undef, undef, undef, undef, undef, .bool false, .bool false, .int .i64 2, .bool true, .bool true, .int .i64 0, .bool true, .bool true, .int .i64 0, .bool false, .bool false, .int .i64 gb, .int .i64 ga, .bool false, .bool false, .bool false, .bool false, .slice (some ⟨gB, oB, none⟩) s.floors.length kb, .int .i64 y, .pointer (some ⟨gB, oB + y, none⟩), .int .i64 sb, .slice (some ⟨gA, oA, none⟩) s.floors.length ka, .int .i64 y, .pointer (some ⟨gA, oA + y, none⟩), .int .i64 sa, .bool false, .bool false, .bool false, .bool false] ?_ mixed (by kernel_rfl) ?_ ⟨ca, cb⟩ ?_ ?_
                  rotate_left
                  · simp only [putAll, Act.put, List.setIfInBounds_toArray, List.set_cons_zero, List.set_cons_succ]
                    rfl
                  · exact ⟨Or.inl ⟨by rfl, fun w' hSw => by (obtain ⟨h1, h2⟩ := hSw; go_simp; try rfl)⟩,
                      Or.inl ⟨by rfl, fun w' hSw => by (obtain ⟨h1, h2⟩ := hSw; go_simp; try rfl)⟩,
                      Or.inl ⟨by rfl, fun w' hSw => by (obtain ⟨h1, h2⟩ := hSw; go_simp; try rfl)⟩,
                      Or.inr ⟨by rfl, rfl⟩,
                      Or.inr ⟨by rfl, rfl⟩,
                      Or.inr ⟨by rfl, rfl⟩,
                      Or.inr ⟨by rfl, rfl⟩,
                      Or.inr ⟨by rfl, rfl⟩,
                      Or.inr ⟨by rfl, rfl⟩,
                      Or.inr ⟨by rfl, rfl⟩,
                      Or.inr ⟨by rfl, rfl⟩,
                      Or.inr ⟨by rfl, rfl⟩,
                      Or.inr ⟨by rfl, rfl⟩,
                      Or.inr ⟨by rfl, rfl⟩,
                      Or.inr ⟨by rfl, rfl⟩,
                      Or.inr ⟨by rfl, rfl⟩,
                      Or.inr ⟨by rfl, rfl⟩,
                      Or.inr ⟨by rfl, rfl⟩,
                      Or.inr ⟨by rfl, rfl⟩,
                      Or.inr ⟨by rfl, rfl⟩,
                      Or.inr ⟨by rfl, rfl⟩,
                      Or.inr ⟨by rfl, rfl⟩,
                      Or.inr ⟨by rfl, rfl⟩,
                      Or.inr ⟨by rfl, rfl⟩,
                      Or.inr ⟨by rfl, rfl⟩,
                      Or.inr ⟨by rfl, rfl⟩,
                      Or.inl ⟨by rfl, fun w' hSw => by (obtain ⟨h1, h2⟩ := hSw; go_simp; try rfl)⟩,
                      Or.inl ⟨by rfl, fun w' hSw => by (obtain ⟨h1, h2⟩ := hSw; go_simp; try rfl)⟩,
                      Or.inl ⟨by rfl, fun w' hSw => by (obtain ⟨h1, h2⟩ := hSw; go_simp; try rfl)⟩,
                      Or.inl ⟨by rfl, fun w' hSw => by (obtain ⟨h1, h2⟩ := hSw; go_simp; try rfl)⟩,
                      Or.inl ⟨by rfl, fun w' hSw => by (obtain ⟨h1, h2⟩ := hSw; go_simp; try rfl)⟩,
                      Or.inl ⟨by rfl, fun w' hSw => by (obtain ⟨h1, h2⟩ := hSw; go_simp; try rfl)⟩,
                      Or.inl ⟨by rfl, fun w' hSw => by (obtain ⟨h1, h2⟩ := hSw; go_simp; try rfl)⟩,
                      Or.inl ⟨by rfl, fun w' hSw => by (obtain ⟨h1, h2⟩ := hSw; go_simp; try rfl)⟩,
                      Or.inl ⟨by rfl, fun w' hSw => by (obtain ⟨h1, h2⟩ := hSw; go_simp; try rfl)⟩,
                      Or.inl ⟨by rfl, fun w' hSw => by (obtain ⟨h1, h2⟩ := hSw; go_simp; try rfl)⟩,
                      Or.inl ⟨by rfl, fun w' hSw => by (obtain ⟨h1, h2⟩ := hSw; go_simp; try rfl)⟩,
                      Or.inl ⟨by rfl, fun w' hSw => by (obtain ⟨h1, h2⟩ := hSw; go_simp; try rfl)⟩,
                      Or.inl ⟨by rfl, fun w' hSw => by (obtain ⟨h1, h2⟩ := hSw; go_simp; try rfl)⟩,
                      Or.inl ⟨by rfl, fun w' hSw => by (obtain ⟨h1, h2⟩ := hSw; go_simp; try rfl)⟩,
                      Or.inl ⟨by rfl, fun w' hSw => by (obtain ⟨h1, h2⟩ := hSw; go_simp; try rfl)⟩,
                      Or.inl ⟨by rfl, fun w' hSw => by (obtain ⟨h1, h2⟩ := hSw; go_simp; try rfl)⟩,
                      Or.inl ⟨by rfl, fun w' hSw => by (obtain ⟨h1, h2⟩ := hSw; go_simp; try rfl)⟩,
                      Or.inl ⟨by rfl, fun w' hSw => by (obtain ⟨h1, h2⟩ := hSw; go_simp; try rfl)⟩,
                      Or.inl ⟨by rfl, fun w' hSw => by (obtain ⟨h1, h2⟩ := hSw; go_simp; try rfl)⟩,
                      Or.inl ⟨by rfl, fun w' hSw => by (obtain ⟨h1, h2⟩ := hSw; go_simp; try rfl)⟩,
                      Or.inl ⟨by rfl, fun w' hSw => by (obtain ⟨h1, h2⟩ := hSw; go_simp; try rfl)⟩,
                      Or.inl ⟨by rfl, fun w' hSw => by (obtain ⟨h1, h2⟩ := hSw; go_simp; try rfl)⟩,
                      Or.inl ⟨by rfl, fun w' hSw => by (obtain ⟨h1, h2⟩ := hSw; go_simp; try rfl)⟩,
                      Or.inl ⟨by rfl, fun w' hSw => by (obtain ⟨h1, h2⟩ := hSw; go_simp; try rfl)⟩,
                      Or.inl ⟨by rfl, fun w' hSw => by (obtain ⟨h1, h2⟩ := hSw; go_simp; try rfl)⟩,
                      Or.inl ⟨by rfl, fun w' hSw => by (obtain ⟨h1, h2⟩ := hSw; go_simp; try rfl)⟩,
                      Or.inl ⟨by rfl, fun w' hSw => by (obtain ⟨h1, h2⟩ := hSw; go_simp; try rfl)⟩,
                      Or.inl ⟨by rfl, fun w' hSw => by (obtain ⟨h1, h2⟩ := hSw; go_simp; try rfl)⟩,
                      Or.inl ⟨by rfl, fun w' hSw => by (obtain ⟨h1, h2⟩ := hSw; go_simp; try rfl)⟩, trivial⟩
                  go_wp2_with fail
                  go_roundw
                  case rel =>
                    try ((repeat apply Exists.intro); refine ⟨?_, rfl⟩)
                    exact ⟨y + 1, by go_num, by omega, Ui.out.drew⟩
                  case measure => simp [intOf]; omega
                · clear g3
                  go_wp2_with fail
                  try (clear OK)
                  try (clear HM)
                  try (clear LK)
                  try (clear LKk)
                  try (clear LTg)
                  try (clear Btg)
                  try (clear LSg)
                  try (clear BSg)
                  try (clear Ag)
                  try (clear Bg)
                  try (clear Ueg)
                  try (clear Ve)
                  try (clear U8)
                  try (clear N1)
                  try (clear N2)
                  try (clear D2)
                  try (clear DM)
                  try (clear NL1)
                  try (clear NL2)
                  try (clear NL3)
                  try (clear MK)
                  try (clear HB2)
                  try (clear lenA)
                  try (clear lenB)
                  try (clear hm')
                  try (clear c0)
                  try (clear c1)
                  try (clear c2)
                  try (clear c3)
                  try (clear c4)
                  try (clear rb)
                  try (clear hD)
                  try (clear m2)
                  try (clear m4)
                  try (clear mf1)
                  try (clear ms9)
                  try (clear h01)
                  try (clear h12)
                  try (clear h23)
                  try (clear z6)
                  try (clear z7)
                  try (clear z8)
                  try (clear n67)
                  try (clear n68)
                  try (clear n78)
                  try (clear ltM)
                  try (clear szc)
                  try (clear l6)
                  try (clear l7)
                  try (clear l8)
                  try (clear hT2)
                  try (clear hT3)
                  try (clear a0)
                  try (clear a1)
                  try (clear v0)
                  try (clear v1)
                  try (clear t0)
                  try (clear t1)
                  try (clear M3)
                  try (clear hl)
                  try (clear hlt)
                  try (clear hj0)
                  try (clear hj1)
                  try (clear hh)
                  try (clear z1)
                  try (clear hjl)
                  try (clear a1')
                  try (clear a2')
                  try (clear hk)
                  refine region_read (fun W' => W'.cell? ⟨gA, oA + y, none⟩ = some (.int .i64 sa) ∧ W'.cell? ⟨gB, oB + y, none⟩ = some (.int .i64 sb)) [.int .i64 2, .bool false, .bool false, undef, undef, undef, undef, undef, undef, undef, undef, undef, undef, undef, undef, undef, undef, undef, undef, undef, undef, undef, undef, undef, undef, undef, .bool false, .bool false, .int .i64 2, .bool true, .bool true, .int .i64 6, .bool false, .bool false, undef, undef, undef, undef, undef, undef, undef, .bool false, .bool false, .slice (some ⟨gB, oB, none⟩) s.floors.length kb, .int .i64 y, .pointer (some ⟨gB, oB + y, none⟩), .int .i64 sb, .slice (some ⟨gA, oA, none⟩) s.floors.length ka, .int .i64 y, .pointer (some ⟨gA, oA + y, none⟩), .int .i64 sa, .bool false, .bool false, .bool false, .bool false] ?_ mixed (by kernel_rfl) ?_ ⟨ca, cb⟩ ?_ ?_
                  rotate_left
                  · simp only [putAll, Act.put, List.setIfInBounds_toArray, List.set_cons_zero, List.set_cons_succ]
                    rfl
                  · exact ⟨Or.inl ⟨by rfl, fun w' hSw => by (obtain ⟨h1, h2⟩ := hSw; go_simp; try rfl)⟩,
                      Or.inl ⟨by rfl, fun w' hSw => by (obtain ⟨h1, h2⟩ := hSw; go_simp; try rfl)⟩,
                      Or.inl ⟨by rfl, fun w' hSw => by (obtain ⟨h1, h2⟩ := hSw; go_simp; try rfl)⟩,
                      Or.inr ⟨by rfl, rfl⟩,
                      Or.inr ⟨by rfl, rfl⟩,
                      Or.inr ⟨by rfl, rfl⟩,
                      Or.inr ⟨by rfl, rfl⟩,
                      Or.inr ⟨by rfl, rfl⟩,
                      Or.inr ⟨by rfl, rfl⟩,
                      Or.inr ⟨by rfl, rfl⟩,
                      Or.inr ⟨by rfl, rfl⟩,
                      Or.inr ⟨by rfl, rfl⟩,
                      Or.inr ⟨by rfl, rfl⟩,
                      Or.inr ⟨by rfl, rfl⟩,
                      Or.inr ⟨by rfl, rfl⟩,
                      Or.inr ⟨by rfl, rfl⟩,
                      Or.inr ⟨by rfl, rfl⟩,
                      Or.inr ⟨by rfl, rfl⟩,
                      Or.inr ⟨by rfl, rfl⟩,
                      Or.inr ⟨by rfl, rfl⟩,
                      Or.inr ⟨by rfl, rfl⟩,
                      Or.inr ⟨by rfl, rfl⟩,
                      Or.inr ⟨by rfl, rfl⟩,
                      Or.inr ⟨by rfl, rfl⟩,
                      Or.inr ⟨by rfl, rfl⟩,
                      Or.inr ⟨by rfl, rfl⟩,
                      Or.inl ⟨by rfl, fun w' hSw => by (obtain ⟨h1, h2⟩ := hSw; go_simp; try rfl)⟩,
                      Or.inl ⟨by rfl, fun w' hSw => by (obtain ⟨h1, h2⟩ := hSw; go_simp; try rfl)⟩,
                      Or.inl ⟨by rfl, fun w' hSw => by (obtain ⟨h1, h2⟩ := hSw; go_simp; try rfl)⟩,
                      Or.inl ⟨by rfl, fun w' hSw => by (obtain ⟨h1, h2⟩ := hSw; go_simp; try rfl)⟩,
                      Or.inl ⟨by rfl, fun w' hSw => by (obtain ⟨h1, h2⟩ := hSw; go_simp; try rfl)⟩,
                      Or.inl ⟨by rfl, fun w' hSw => by (obtain ⟨h1, h2⟩ := hSw; go_simp; try rfl)⟩,
                      Or.inl ⟨by rfl, fun w' hSw => by (obtain ⟨h1, h2⟩ := hSw; go_simp; try rfl)⟩,
                      Or.inl ⟨by rfl, fun w' hSw => by (obtain ⟨h1, h2⟩ := hSw; go_simp; try rfl)⟩,
                      Or.inr ⟨by rfl, rfl⟩,
                      Or.inr ⟨by rfl, rfl⟩,
                      Or.inr ⟨by rfl, rfl⟩,
                      Or.inr ⟨by rfl, rfl⟩,
                      Or.inr ⟨by rfl, rfl⟩,
                      Or.inr ⟨by rfl, rfl⟩,
                      Or.inr ⟨by rfl, rfl⟩,
                      Or.inl ⟨by rfl, fun w' hSw => by (obtain ⟨h1, h2⟩ := hSw; go_simp; try rfl)⟩,
                      Or.inl ⟨by rfl, fun w' hSw => by (obtain ⟨h1, h2⟩ := hSw; go_simp; try rfl)⟩,
                      Or.inl ⟨by rfl, fun w' hSw => by (obtain ⟨h1, h2⟩ := hSw; go_simp; try rfl)⟩,
                      Or.inl ⟨by rfl, fun w' hSw => by (obtain ⟨h1, h2⟩ := hSw; go_simp; try rfl)⟩,
                      Or.inl ⟨by rfl, fun w' hSw => by (obtain ⟨h1, h2⟩ := hSw; go_simp; try rfl)⟩,
                      Or.inl ⟨by rfl, fun w' hSw => by (obtain ⟨h1, h2⟩ := hSw; go_simp; try rfl)⟩,
                      Or.inl ⟨by rfl, fun w' hSw => by (obtain ⟨h1, h2⟩ := hSw; go_simp; try rfl)⟩,
                      Or.inl ⟨by rfl, fun w' hSw => by (obtain ⟨h1, h2⟩ := hSw; go_simp; try rfl)⟩,
                      Or.inl ⟨by rfl, fun w' hSw => by (obtain ⟨h1, h2⟩ := hSw; go_simp; try rfl)⟩,
                      Or.inl ⟨by rfl, fun w' hSw => by (obtain ⟨h1, h2⟩ := hSw; go_simp; try rfl)⟩,
                      Or.inl ⟨by rfl, fun w' hSw => by (obtain ⟨h1, h2⟩ := hSw; go_simp; try rfl)⟩,
                      Or.inl ⟨by rfl, fun w' hSw => by (obtain ⟨h1, h2⟩ := hSw; go_simp; try rfl)⟩,
                      Or.inl ⟨by rfl, fun w' hSw => by (obtain ⟨h1, h2⟩ := hSw; go_simp; try rfl)⟩,
                      Or.inl ⟨by rfl, fun w' hSw => by (obtain ⟨h1, h2⟩ := hSw; go_simp; try rfl)⟩, trivial⟩
                  go_wp2_with fail
                  go_roundw
                  case rel =>
                    try ((repeat apply Exists.intro); refine ⟨?_, rfl⟩)
                    exact ⟨y + 1, by go_num, by omega, Ui.out.drew⟩
                  case measure => simp [intOf]; omega
            · obtain rfl : y = s.floors.length := by omega
              go_wp2_with fail
              go_roundw
              case rel => exact ⟨k + 1, by go_num, by omega, Up.trans Ueg.out Uy.out⟩
              case measure => simp [intOf]; omega
        · obtain rfl : k = 3 := by omega
          have Ue : Hid (Up w wr) := Lib.hid (Up.trans U8.out (Up.trans Ve.out Uz.out))
          clear hu
          go_wp2_with fail
          refine (awake_c wr).mono ?_
          rintro e wf ⟨rfl, uf⟩
          have Uf : Hid (Up w wf) := Lib.hid (Up.trans Ue.out uf)
          clear uf
          go_wp2_with fail
          go_ret
          exact ⟨rfl, Uf.out⟩
end
end Go.Proofs.Ytcljkkojeleakaa
/- Slices of bytes, and bytes, that came in. -/
namespace Go.Proofs.Ytcljkkojeleakaa
section
open Go.ChangeShapes Go.WideShapes Go.ChangeAt Go.RowKit

section
variable {H : Type} {enc : TypeId × Value → H} {P : Program}
/-- a slice that came in, as rows of k cells -/
theorem open_rowsQ {w : World} {t e : TypeId} {fuel k : Nat} {Q : List Value → Prop} {v : Value} {x : DataW H × List MemPlace} (ht : P.underlying t = some (.slice e)) (hC : P.cellsOf e = k) (hk : 0 < k) (hQ : ∀ r, Q r → r.length = k)
    (hel : ∀ fuel cs y, DataW.trod enc P w 0 (fun _ => true) true fuel e cs = some y → Q cs) (h : DataW.trod enc P w 0 (fun _ => true) true fuel t [v] = some x) :
    ∃ p len cap rows, v = .slice p len cap ∧ len ≤ cap ∧ cap ≤ maxLen ∧ rows.length = len ∧ Row w p k rows ∧ (∀ r ∈ rows, Q r) ∧ ((x.1 = .nil ∧ cap = 0) ∨ ∃ el sp, x.1 = .slice el sp ∧ el.length + sp.length = cap) := by
  rcases Go.Deep.open_slice ht h with ⟨hv, rfl⟩ | ⟨a, len, cap, m, n, D, Pl, hv, -, hl, hm, hmm, rfl, hi⟩
  · simp only [List.cons.injEq, and_true] at hv
    exact ⟨none, 0, 0, [], hv, Nat.le_refl _, by simp [maxLen], rfl, fun i row hr => by simp at hr, fun r hr => by simp at hr, .inl ⟨rfl, rfl⟩⟩
  · simp only [List.cons.injEq, and_true] at hv
    simp only [if_true] at hmm
    subst hmm
    rw [hC] at hi
    have hch : ∀ i, ∃ cs, i < len → Q cs ∧ ∀ j c, cs[j]? = some c → w.cell? (a.add (i * k + j)) = some c := fun i => by
      by_cases hlt : i < len
      · obtain ⟨cs, hc, ht'⟩ := hi i (by omega)
        obtain ⟨-, hcl, hat⟩ := World.cells?_some hc
        refine ⟨cs, fun _ => ⟨hel _ _ _ ht', fun j c hj => ?_⟩⟩
        have hjl : j < k := by have := (List.getElem?_eq_some_iff.1 hj).1; omega
        rw [← Go.Deep.add_add, hat j hjl, hj]
      · exact ⟨[], fun h => absurd h hlt⟩
    obtain ⟨f, hf⟩ := Classical.axiomOfChoice hch
    refine ⟨some a, len, m, (List.range len).map f, hv, hl, hm, by simp, fun i row hr => ?_, fun r hr => ?_, .inr ⟨_, _, rfl, by simp; omega⟩⟩
    · rw [List.getElem?_map] at hr
      by_cases hlt : i < len
      · rw [List.getElem?_range hlt] at hr
        simp only [Option.map_some, Option.some.injEq] at hr
        subst hr
        obtain ⟨g2, g3⟩ := hf 0 (by omega)
        have g1 := hQ _ g2
        have h0 := g3 0 _ (List.getElem?_eq_getElem (by omega))
        have hs : a.spot = none := spot_of (by simpa [Addr.add] using h0)
        obtain ⟨b, off, sp⟩ := a
        simp only at hs
        subst hs
        refine ⟨b, off, rfl, fun j c hj => ?_⟩
        have := (hf i hlt).2 j c hj
        rwa [Addr.add_lit, ← Nat.add_assoc] at this
      · rw [List.getElem?_eq_none (by simp; omega)] at hr
        cases hr
    · simp only [List.mem_map, List.mem_range] at hr
      obtain ⟨i, hlt, rfl⟩ := hr
      exact (hf i hlt).1

/-- a row of one byte -/
def OneByte (r : List Value) : Prop := ∃ n, r = [.int .u8 n]
theorem bytes_of : ∀ {rows : List (List Value)}, (∀ r ∈ rows, OneByte r) → ∃ l : List Int, rows = bytes l
  | [], _ => ⟨[], rfl⟩
  | r :: rest, h => by
    obtain ⟨l, hl⟩ := bytes_of (rows := rest) (fun r hr => h r (by simp [hr]))
    obtain ⟨n, rfl⟩ := h r (by simp)
    exact ⟨n :: l, by rw [hl]; rfl⟩
theorem cellsByte : Try.prog.cellsOf 5 = 1 := by kernel_rfl
theorem bytesByte : Try.prog.bytesOf 5 = 1 := by kernel_rfl
set_option maxRecDepth 100000 in
theorem open_bytes {w : World} {base : Nat} {v : Value} {d : DataW H} {ps : List MemPlace} (hv : Value.okWide Try.prog w .any base 83 v) (h : DataW.Trod enc Try.prog w 0 (fun _ => true) true 83 v d ps) (hz : ∀ n ∈ DataW.weights Try.prog 83 d, n ≤ reachBytes) :
    ∃ p l c, v = .slice p l.length c ∧ Row w p 1 (bytes l) ∧ l.length ≤ 140737488355328 := by
  obtain ⟨fuel, hf⟩ := h
  obtain ⟨p0, n0, c0, rfl⟩ := okWide_slice Try.underlying83 hv
  have hf' : DataW.trod enc Try.prog w 0 (fun _ => true) true fuel 83 [.slice p0 n0 c0] = some (d, ps) := hf
  obtain ⟨p, len, cap, rows, e, a1, a2, a3, a4, a5, a6⟩ := open_rowsQ (Q := OneByte) Try.underlying83 cellsByte (by decide) (fun r ⟨n, e⟩ => by rw [e]; rfl) (fun fuel cs y hy => by
    obtain ⟨n, e, -, -⟩ := DataW.trod_int Try.underlying5 hy
    exact ⟨n, e⟩) hf'
  obtain ⟨l, rfl⟩ := bytes_of a5
  have q : (bytes l).length = l.length := by simp [bytes]
  rw [q] at a3
  subst a3
  have hr := room_of Try.underlying83 bytesByte a1 a6 hz
  exact ⟨p, l, cap, e, a4, by omega⟩
theorem byte_rng {n : Int} (h : (Lit.int .u8 n).wf = true) : 0 ≤ n ∧ n ≤ 255 := by
  simp [Lit.wf] at h
  have e1 : IntKind.u8.min = 0 := rfl
  have e2 : IntKind.u8.max = 255 := rfl
  omega
end
end
end Go.Proofs.Ytcljkkojeleakaa
namespace Go.Proofs.Ytcljkkojeleakaa
section
open Go.ChangeShapes Go.WideShapes Go.ChangeAt Go.RowKit

set_option maxRecDepth 100000 in
theorem higher_contract (H : Type) (enc : TypeId × Value → H) (W : World) (base : Nat) (args : Array Value) (ds gs : List (DataW H)) (before : List MemPlace)
    (hval : ∀ (j : Nat) t v, Try.f10.params[j]? = some t → args[j]? = some v → Value.okWide Try.prog W .any base t v)
    (hW : DataW.Whole enc Try.prog Try.f10.params.toList Rows.tideHigherSpec.vars false W args.toList ds gs before)
    (hsz0 : (DataW.weightsEach Try.prog (Try.f10.params.toList ++ Rows.tideHigherSpec.plain.varTypes Try.prog) (ds ++ gs)).all (· ≤ reachBytes) = true) :
    Calls Try.prog 10 args W fun e W' => ∃ v, e = .returned v ∧ Rows.tideHigherSpec.post enc Try.prog Try.f10 false true false false W args v W' := by
  have hW' := hW
  obtain ⟨p, q, hA0, hV, rfl, -, -⟩ := hW
  have hA : DataW.TrodAll enc Try.prog W 0 (fun _ => true) true Try.f10.params.toList args.toList ds p := hA0
  rw [Try.params10] at hA hval
  obtain ⟨v0, vs0, d0, ds0, p0, q0, hargs, rfl, rfl, h0, r0⟩ := trodAll_cons hA
  obtain ⟨v1, vs1, d1, ds1, p1, q1, rfl, rfl, rfl, h1, r1⟩ := trodAll_cons r0
  obtain ⟨v2, vs2, d2, ds2, p2, q2, rfl, rfl, rfl, h2, r2⟩ := trodAll_cons r1
  obtain ⟨v3, vs3, d3, ds3, p3, q3, rfl, rfl, rfl, h3, r3⟩ := trodAll_cons r2
  obtain ⟨rfl, rfl, rfl⟩ := trodAll_nil r3
  obtain rfl : args = #[v0, v1, v2, v3] := by cases args; simp_all
  obtain ⟨rfl, rfl⟩ := trodVars_none hV
  have hz : ∀ n ∈ DataW.weights Try.prog 83 d0, n ≤ reachBytes := fun n hn => by
    have := List.all_eq_true.1 hsz0 n (DataW.weights_mem_each (j := 0) (t := 83) rfl rfl n hn)
    simpa using this
  obtain ⟨pb, l, c, rfl, hr, hl⟩ := open_bytes (hval 0 _ v0 rfl rfl) h0 hz
  obtain ⟨a, rfl, rfl, rfl, ha⟩ := open_int Try.underlying5 (hval 1 _ v1 rfl rfl) h1
  obtain ⟨b, rfl, rfl, rfl, hb⟩ := open_int Try.underlying5 (hval 2 _ v2 rfl rfl) h2
  obtain ⟨t, rfl, rfl, rfl, ht⟩ := open_int Try.underlying5 (hval 3 _ v3 rfl rfl) h3
  obtain ⟨a0, a1⟩ := byte_rng ha
  obtain ⟨b0, b1⟩ := byte_rng hb
  obtain ⟨t0, t1⟩ := byte_rng ht
  refine (higherLaw_c l a b t W hr hl a0 a1 b0 b1 t0 t1).mono fun e W' ⟨he, hbl⟩ => ?_
  exact ⟨_, he, law_post hW' rfl laidOut (by kernel_rfl) rfl Try.underlying4 ⟨rfl, rfl, rfl⟩ hbl⟩

set_option maxRecDepth 100000 in
theorem higher_lifted (os : Os) (started : os.Started) (H : Type) (enc : TypeId × Value → H) :
    ReturnsInHanded {} Try.checked os 10 .any (Rows.tideHigherSpec.pre6 enc Try.prog Try.f10 Rows.tideHigherRow.domain false) (Rows.tideHigherSpec.post enc Try.prog Try.f10 false true false false) := by
  refine returnsInHanded_of_change_sized (C := Try.checked) own started (by kernel_rfl) Try.func10
    (ChangeSpec.witness6 (enc := enc) (C := Try.checked) false ⟨#[], #[.slice none 0 0, .int .u8 0, .int .u8 0, .int .u8 0], []⟩ 8 (by kernel_rfl) (by kernel_rfl) (by kernel_rfl) (by kernel_rfl)) ?_
  intro W base args ds gs before hval hW _ hsz _
  exact higher_contract H enc W base args ds gs before hval hW hsz

theorem higher_holds : Rows.TideHigherSaid :=
  OpenClaim.holds_of_wide 10 Try.f10 rfl rfl rfl rfl rfl rfl rfl ⟨rfl, rfl, rfl, rfl, rfl⟩ rfl rfl rfl rfl rfl (by kernel_rfl) Try.func10 (by kernel_rfl)
    (of_decide_eq_true (by kernel_rfl)) (by unfold Func.isWrapper; first | (rw [if_pos (by decide +kernel)]; kernel_rfl) | (rw [if_neg (by decide +kernel)]; exact ⟨rfl, rfl⟩))
    (fun os started H enc _ => higher_lifted os started H enc)
#print axioms higher_holds
end
end Go.Proofs.Ytcljkkojeleakaa
