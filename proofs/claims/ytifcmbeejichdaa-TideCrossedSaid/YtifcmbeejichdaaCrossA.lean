/- Plain facts: a way that wanders over sills, each used at most once, and lists that hold numbers of places and sills. -/
import Derived.Test.YtifcmbeejichdaaChk2
import Derived.Test.YtifcmbeejichdaaCheck
import Derived.Test.YtifcmbeejichdaaTurn
import Derived.Test.YtifcmbeejichdaaBase
import Derived.Test.YtifcmbeejichdaaLine
import Derived.Test.YtifcmbeejichdaaHeight
import Derived.Test.YtifcmbeejichdaaAll
import Derived.Test.YtifcmbeejichdaaQue
import Derived.Test.YtifcmbeejichdaaCounted
import Derived.Test.YtifcmbeejichdaaBegin2
import Derived.Test.YtifcmbeejichdaaOut1
import Derived.Test.YtifcmbeejichdaaState2
import Derived.Test.YtifcmbeejichdaaHold
import Derived.Test.YtifcmbeejichdaaWay
import Derived.WalkKit
import Derived.WalkSpells
import Derived.WalkLawsBesides
import Derived.Deep.QuietTactic
import Derived.BigQuiet
import Derived.Lib.Hide
import Derived.Shelf.Abstract
import Derived.BigGuardPart
import Derived.RangeFuncNested
import Derived.RangeFuncBound
import Derived.RangeFuncCalls
import Derived.RangeFuncLeaves
import Derived.Shelf.RegionOpen
import Derived.OwnWalkIn
import Derived.TacticsInMore
import Derived.LoopNIn
import Derived.LoopIn
import Derived.StillTailTactics
import Derived.Deep.RegionHeld3
import Derived.StillTail
import Derived.RangeFuncWrites
import Derived.Laws.StructEq
import Derived.Deep.LoopGhost
import Derived.IntWalk
import Derived.RangeFuncBox
import Derived.ArgAppend
import Derived.Laws.CopyOwn
import Derived.OwnWalk
import Derived.Lib.SliceRun
import Derived.Maps.OwnOps
import Derived.Maps.OwnSet
import Derived.Deep.AppendSrc
import Derived.Deep.Upon
/- Plain facts: right sands have no error; a block of five cells. -/
namespace Go.Proofs.Ytifcmbeejichdaa
section
open Go.RowKit

theorem chk_zero {s : Sd} (h : Ok s) : chk s = 0 := by
  obtain ⟨⟨t1, t2, t3, t4⟩, f0, f1, sl, lo0, hi1, lohi, fl, hs, good, two⟩ := h
  have h1 : okCounts s = true := by
    simp only [okCounts, Bool.and_eq_true, inB_true, decide_eq_true_eq]
    omega
  have h2 : okNumbers s = true := by
    simp only [okNumbers, Bool.and_eq_true, inB_true, List.all_eq_true, okWater]
    exact ⟨⟨⟨⟨fun x hx => ⟨⟨(t1 x hx).1, (t1 x hx).2.1⟩, (t1 x hx).2.2.1, (t1 x hx).2.2.2⟩, by omega, by omega⟩, by omega, by omega⟩, fl⟩, hs⟩
  have h3 : okOrder s = true := by
    simp only [okOrder, Bool.and_eq_true, decide_eq_true_eq]
    refine ⟨?_, lohi⟩
    unfold ordB
    rw [List.all_eq_true]
    intro i hi
    rw [List.mem_range] at hi
    have := t2 i (by omega)
    simpa [List.getD, List.getElem?_eq_getElem (show i + 1 < s.table.length by omega), List.getElem?_eq_getElem (show i < s.table.length by omega)] using this
  have h4 : s.sills.all (okThings s.floors.length) = true := by
    rw [List.all_eq_true]
    intro x hx
    have := good x hx
    simp only [okThings, Bool.and_eq_true, Bool.or_eq_true, beq_iff_eq, inB_true]
    omega
  have h5 : s.sills.all (fun x => x.1 != x.2.1) = true := by
    rw [List.all_eq_true]
    intro x hx
    simpa using two x hx
  unfold chk
  rw [if_neg (by rw [h1]; decide), if_neg (by rw [h2]; decide), if_neg (by rw [h3]; decide), if_neg (by rw [h4]; decide), if_neg (by rw [h5]; decide)]

theorem five {w : World} {B : Nat} {a b c d e : Value} {T : TypeId} (h : Blk w B [a, b, c, d, e] T) :
    w.cell? ⟨B, 0, none⟩ = some a ∧ w.cell? ⟨B, 1, none⟩ = some b ∧ w.cell? ⟨B, 2, none⟩ = some c ∧ w.cell? ⟨B, 3, none⟩ = some d ∧ w.cell? ⟨B, 4, none⟩ = some e :=
  ⟨h.cell 0, h.cell 1, h.cell 2, h.cell 3, h.cell 4⟩
end
end Go.Proofs.Ytifcmbeejichdaa
namespace Go.Proofs.Ytifcmbeejichdaa
open Go.RowKit Go.Shelf

/-- the height on the k-th stretch of a table -/
theorem hgt_seg (l : List (Int × Int)) (m : Int) (k : Nat) (h : k + 1 < l.length) (h1 : ∀ j (hj : j < l.length), 0 < j → j ≤ k → l[j].1 < m) (h2 : m ≤ l[k + 1].1) : hgt l m = onL l[k] l[k + 1] m := by
  have key : ∀ j (hj : j ≤ k), hgt l m = hgtFrom (l[j]'(by omega)) (l.drop (j + 1)) m := by
    intro j
    induction j with
    | zero =>
      intro _
      cases l with
      | nil => simp at h
      | cons a r => rfl
    | succ j ih =>
      intro hj
      rw [ih (by omega), hgt_step l m j (by omega), if_neg (by have := h1 (j + 1) (by omega) (by omega) hj; omega)]
  rw [key k (Nat.le_refl _), hgt_step l m k h, if_pos h2]
theorem tab_lt {l : List (Int × Int)} (ok : okTable l) : ∀ (i j : Nat) (hj : j < l.length) (hij : i < j), (l[i]'(by omega)).1 < l[j].1 := by
  intro i j
  induction j with
  | zero => intro _ h; omega
  | succ j ih =>
    intro hj hij
    have h1 := ok.2.1 j hj
    by_cases e : i = j
    · subst e; exact h1
    · have := ih (by omega) (by omega); omega
/-- the height at a minute of the table -/
theorem hgt_knot {l : List (Int × Int)} (ok : okTable l) (k : Nat) (hk : k < l.length) : hgt l l[k].1 = l[k].2 := by
  have h2 := ok.2.2.1
  by_cases e : k = 0
  · subst e
    have hd := tab_lt ok 0 1 (by omega) (by omega)
    rw [hgt_seg l _ 0 (by omega) (fun j _ a b => by omega) (by show l[0].1 ≤ l[1].1; omega)]
    unfold onL
    rw [Int.sub_self, Int.mul_zero, Int.add_zero, Int.mul_ediv_cancel _ (by show l[1].1 - l[0].1 ≠ 0; omega)]
  · have hd := tab_lt ok (k - 1) k hk (by omega)
    have e1 : k - 1 + 1 = k := by omega
    have := hgt_seg l l[k].1 (k - 1) (by omega) (fun j hj a b => tab_lt ok j k hk (by omega)) (by simp only [e1]; omega)
    rw [this]
    simp only [e1]
    unfold onL
    rw [← Int.add_mul, show l[k - 1].2 + (l[k].2 - l[k - 1].2) = l[k].2 by omega, Int.mul_ediv_cancel _ (by omega)]
/-- the greatest number that is not above the line -/
theorem onL_great (a b : Int × Int) (m n : Int) (hd : a.1 < b.1) (h1 : (n - a.2) * (b.1 - a.1) ≤ (b.2 - a.2) * (m - a.1)) (h2 : ¬ (n + 1 - a.2) * (b.1 - a.1) ≤ (b.2 - a.2) * (m - a.1)) : onL a b m = n := by
  unfold onL
  obtain ⟨d, hdd⟩ : ∃ d, b.1 - a.1 = d := ⟨_, rfl⟩
  obtain ⟨e, he⟩ : ∃ e, (b.2 - a.2) * (m - a.1) = e := ⟨_, rfl⟩
  rw [hdd, he] at h1 h2 ⊢
  have hp : 0 < d := by omega
  rw [Int.sub_mul] at h1
  rw [Int.sub_mul, Int.add_mul, Int.one_mul] at h2
  apply Int.le_antisymm
  · apply Int.le_of_lt_add_one
    apply Int.ediv_lt_of_lt_mul hp
    rw [Int.add_mul, Int.one_mul]
    omega
  · apply Int.le_ediv_of_mul_le hp
    omega
theorem onL_start (a b : Int × Int) (m : Int) (h2 : a.1 ≤ m) (h3 : m ≤ b.1) : (min a.2 b.2 - a.2) * (b.1 - a.1) ≤ (b.2 - a.2) * (m - a.1) := by
  rcases Int.le_total a.2 b.2 with h | h
  · rw [Int.min_eq_left h, Int.sub_self, Int.zero_mul]
    exact Int.mul_nonneg (by omega) (by omega)
  · rw [Int.min_eq_right h]
    have : 0 ≤ (a.2 - b.2) * ((b.1 - a.1) - (m - a.1)) := Int.mul_nonneg (by omega) (by omega)
    rw [Int.mul_sub, Int.sub_mul, Int.sub_mul] at this
    rw [Int.sub_mul, Int.sub_mul]
    omega
/-- so long as the reference's loop goes on, its number is below the line -/
theorem onL_more (a b : Int × Int) (m n : Int) (hd : a.1 < b.1) (h : (n + 1 - a.2) * (b.1 - a.1) ≤ (b.2 - a.2) * (m - a.1)) : n + 1 ≤ onL a b m := by
  unfold onL
  apply Int.le_ediv_of_mul_le (by omega)
  rw [Int.sub_mul] at h
  omega
end Go.Proofs.Ytifcmbeejichdaa
/- Plain facts: the lowering of gates as a row of updates; gates of raised sands, and of sands with one sill more. -/
namespace Go.Proofs.Ytifcmbeejichdaa
section
open Go.RowKit

/-- what a sill lowers that leads on from a place: which gate, and to what at most -/
def up1 (F : List Int) (f : Int) (x : Int × Int × Int) : Option (Nat × Int) :=
  if 0 ≤ other x f ∧ (other x f).toNat < F.length then some ((other x f).toNat, grt [x.2.2, F[(other x f).toNat]?.getD 0]) else none
def ap1 (g : List Int) (u : Nat × Int) : List Int := g.set u.1 (min (g[u.1]?.getD 0) u.2)
def ap2 (f : Nat) (g : List Int) (u : Nat × Int) : List Int := g.set u.1 (min (g[u.1]?.getD 0) (grt [g[f]?.getD 0, u.2]))

/-- a lead as an update -/
def ofLead (s : Sd) (x : Lead s.sills.length s.floors.length) : Nat × Int := (x.1.2, grt [(s.sills[x.1.1]'x.2.1).2.2, s.floors[x.1.2]'x.2.2])
theorem lead1_up (s : Sd) (f : Int) (i : Nat) : (lead1 s.sills s.floors.length f i).map (ofLead s) = if i < s.sills.length then up1 s.floors f (s.sills[i]?.getD (0, 0, 0)) else none := by
  unfold lead1 up1
  by_cases hi : i < s.sills.length
  · rw [if_pos hi]
    have e : s.sills[i] = s.sills[i]?.getD (0, 0, 0) := by rw [List.getElem?_eq_getElem hi]; rfl
    by_cases h : 0 ≤ other (s.sills[i]?.getD (0, 0, 0)) f ∧ (other (s.sills[i]?.getD (0, 0, 0)) f).toNat < s.floors.length
    · rw [dif_pos ⟨hi, h⟩, if_pos h]
      simp only [Option.map_some, ofLead]
      rw [e, List.getElem?_eq_getElem h.2, Option.getD_some]
    · rw [dif_neg (fun h' => h h'.2), if_neg h]; rfl
  · rw [if_neg hi, dif_neg (fun h' => hi h'.1)]; rfl
theorem fm_congr {α β : Type} {l : List α} {f g : α → Option β} (h : ∀ x ∈ l, f x = g x) : l.filterMap f = l.filterMap g := by
  induction l with
  | nil => rfl
  | cons a r ih => rw [List.filterMap_cons, List.filterMap_cons, h a (by simp), ih (fun x hx => h x (by simp [hx]))]
theorem filterMap_range {α β : Type} (l : List α) (d : α) (q : α → Option β) : (List.range l.length).filterMap (fun i => if i < l.length then q (l[i]?.getD d) else none) = l.filterMap q := by
  have e : l = (List.range l.length).map (fun i => l[i]?.getD d) := by
    apply List.ext_getElem
    · simp
    · intro i h1 h2; simp [List.getElem?_eq_getElem h1]
  conv => rhs; rw [e]
  rw [List.filterMap_map]
  apply fm_congr
  intro i hi
  rw [List.mem_range] at hi
  simp [hi]
theorem leads_up (s : Sd) (f : Int) : (leads s.sills s.floors.length f s.sills.length).map (ofLead s) = s.sills.filterMap (up1 s.floors f) := by
  unfold leads
  rw [List.map_filterMap, ← filterMap_range s.sills (0, 0, 0)]
  apply fm_congr
  intro i _
  exact lead1_up s f i
theorem lowSea_up (s : Sd) (g : List Int) : lowSea s g = (s.sills.filterMap (up1 s.floors (-1))).foldl ap1 g := by
  unfold lowSea
  rw [← leads_up, List.foldl_map]
  rfl
theorem lowFrom_up (s : Sd) (f : Nat) (g : List Int) : lowFrom s g f = (s.sills.filterMap (up1 s.floors f)).foldl (ap2 f) g := by
  unfold lowFrom
  rw [← leads_up, List.foldl_map]
  rfl

theorem grt2 (a b : Int) : grt [a, b] = max (max 0 a) b := rfl

/-- gates that are as low, or lower -/
def Leq (g g' : List Int) : Prop := g.length = g'.length ∧ ∀ i : Nat, g[i]?.getD 0 ≤ g'[i]?.getD 0 ∧ (g[i]?.getD 0 < 1050 → g'[i]?.getD 0 < 1050)
theorem Leq.refl (g : List Int) : Leq g g := ⟨rfl, fun _ => ⟨Int.le_refl _, id⟩⟩
theorem Leq.set {a b : List Int} (h : Leq a b) (t : Nat) {c d : Int} (hc : c ≤ d) (hd : c < 1050 → d < 1050) : Leq (a.set t (min (a[t]?.getD 0) c)) (b.set t (min (b[t]?.getD 0) d)) := by
  refine ⟨by simp [h.1], fun i => ?_⟩
  have h1 := h.2 i
  have h0 := h.1
  rw [List.getElem?_set, List.getElem?_set]
  by_cases hi : t = i
  · subst hi
    by_cases hl : t < a.length
    · have hl' : t < b.length := by omega
      simp only [if_true, hl, hl', Option.getD_some]
      omega
    · have hl' : ¬ t < b.length := by omega
      simp [hl, hl']
  · rw [if_neg hi, if_neg hi]; exact h1

/-- sills of which some are higher, and floors -/
inductive HiS : List (Int × Int × Int) → List (Int × Int × Int) → Prop
  | nil : HiS [] []
  | cons {a b h h' : Int} {r r' : List (Int × Int × Int)} : h ≤ h' → h' ≤ 999 → HiS r r' → HiS ((a, b, h) :: r) ((a, b, h') :: r')
def HiF (F F' : List Int) : Prop := F.length = F'.length ∧ ∀ i : Nat, F[i]?.getD 0 ≤ F'[i]?.getD 0 ∧ F'[i]?.getD 0 ≤ 999
theorem HiS.refl : ∀ {l : List (Int × Int × Int)}, (∀ x ∈ l, x.2.2 ≤ 999) → HiS l l
  | [], _ => .nil
  | (a, b, h) :: r, k => .cons (Int.le_refl _) (k (a, b, h) (by simp)) (HiS.refl (fun x hx => k x (by simp [hx])))
theorem HiS.at : ∀ {l : List (Int × Int × Int)} (i : Nat) (d : Int) (hi : i < l.length), 0 ≤ d → (∀ x ∈ l, x.2.2 ≤ 999) → l[i].2.2 + d ≤ 999 → HiS l (l.set i (l[i].1, l[i].2.1, l[i].2.2 + d))
  | (a, b, h) :: r, 0, d, _, h0, k, k9 => .cons (show h ≤ h + d by omega) k9 (HiS.refl (fun x hx => k x (by simp [hx])))
  | (a, b, h) :: r, i + 1, d, hi, h0, k, k9 => by
    have hi' : i < r.length := by simpa using hi
    exact .cons (Int.le_refl _) (k (a, b, h) (by simp)) (HiS.at i d hi' h0 (fun x hx => k x (by simp [hx])) (by simpa using k9))
theorem HiF.refl {F : List Int} (h : ∀ x ∈ F, x ≤ 999) : HiF F F := ⟨rfl, fun i => ⟨Int.le_refl _, by
  by_cases hi : i < F.length
  · rw [List.getElem?_eq_getElem hi]; exact h _ (List.getElem_mem _)
  · rw [List.getElem?_eq_none (by omega)]; decide⟩⟩
theorem HiF.at {F : List Int} (i : Nat) (d : Int) (hi : i < F.length) (d0 : 0 ≤ d) (h : ∀ x ∈ F, x ≤ 999) (h9 : F[i] + d ≤ 999) : HiF F (F.set i (F[i] + d)) := by
  refine ⟨by simp, fun j => ?_⟩
  have k := (HiF.refl h).2 j
  rw [List.getElem?_set]
  by_cases hj : i = j
  · subst hj
    rw [if_pos rfl, if_pos hi, List.getElem?_eq_getElem hi]
    simp only [Option.getD_some]
    omega
  · rw [if_neg hj]; exact k

theorem hi_ap1 {F F' : List Int} (hF : HiF F F') (f : Int) {l l' : List (Int × Int × Int)} (hS : HiS l l') : ∀ {g g' : List Int}, Leq g g' → Leq ((l.filterMap (up1 F f)).foldl ap1 g) ((l'.filterMap (up1 F' f)).foldl ap1 g') := by
  induction hS with
  | nil => exact fun h => h
  | @cons a b h h' r r' hh h9 _ ih =>
    intro g g' hg
    have eo : other (a, b, h') f = other (a, b, h) f := rfl
    by_cases hc : 0 ≤ other (a, b, h) f ∧ (other (a, b, h) f).toNat < F.length
    · have e1 : up1 F f (a, b, h) = some ((other (a, b, h) f).toNat, grt [h, F[(other (a, b, h) f).toNat]?.getD 0]) := if_pos hc
      have e2 : up1 F' f (a, b, h') = some ((other (a, b, h) f).toNat, grt [h', F'[(other (a, b, h) f).toNat]?.getD 0]) := if_pos (by rw [← hF.1]; exact hc)
      rw [List.filterMap_cons_some e1, List.filterMap_cons_some e2, List.foldl_cons, List.foldl_cons]
      refine ih (hg.set _ ?_ ?_)
      · have := hF.2 (other (a, b, h) f).toNat
        simp only [grt2]; omega
      · have := hF.2 (other (a, b, h) f).toNat
        simp only [grt2]; omega
    · have e1 : up1 F f (a, b, h) = none := if_neg hc
      have e2 : up1 F' f (a, b, h') = none := if_neg (by rw [← hF.1]; exact hc)
      rw [List.filterMap_cons_none e1, List.filterMap_cons_none e2]
      exact ih hg
theorem hi_ap2 {F F' : List Int} (hF : HiF F F') (f : Nat) {l l' : List (Int × Int × Int)} (hS : HiS l l') : ∀ {g g' : List Int}, Leq g g' → Leq ((l.filterMap (up1 F f)).foldl (ap2 f) g) ((l'.filterMap (up1 F' f)).foldl (ap2 f) g') := by
  induction hS with
  | nil => exact fun h => h
  | @cons a b h h' r r' hh h9 _ ih =>
    intro g g' hg
    have eo : other (a, b, h') f = other (a, b, h) f := rfl
    by_cases hc : 0 ≤ other (a, b, h) f ∧ (other (a, b, h) f).toNat < F.length
    · have e1 : up1 F f (a, b, h) = some ((other (a, b, h) f).toNat, grt [h, F[(other (a, b, h) f).toNat]?.getD 0]) := if_pos hc
      have e2 : up1 F' f (a, b, h') = some ((other (a, b, h) f).toNat, grt [h', F'[(other (a, b, h) f).toNat]?.getD 0]) := if_pos (by rw [← hF.1]; exact hc)
      rw [List.filterMap_cons_some e1, List.filterMap_cons_some e2, List.foldl_cons, List.foldl_cons]
      have h1 := hF.2 (other (a, b, h) f).toNat
      have h2 := hg.2 f
      refine ih (hg.set _ ?_ ?_)
      · simp only [grt2]; omega
      · simp only [grt2]; omega
    · have e1 : up1 F f (a, b, h) = none := if_neg hc
      have e2 : up1 F' f (a, b, h') = none := if_neg (by rw [← hF.1]; exact hc)
      rw [List.filterMap_cons_none e1, List.filterMap_cons_none e2]
      exact ih hg
theorem hi_lowered {s t : Sd} (hF : HiF s.floors t.floors) (hS : HiS s.sills t.sills) {g g' : List Int} (hg : Leq g g') : Leq (lowered s g) (lowered t g') := by
  unfold lowered
  rw [← hF.1]
  have h0 : Leq (lowSea s g) (lowSea t g') := by rw [lowSea_up, lowSea_up]; exact hi_ap1 hF _ hS hg
  generalize lowSea s g = a at *
  generalize lowSea t g' = b at *
  generalize List.range s.floors.length = l
  induction l generalizing a b with
  | nil => exact h0
  | cons x r ih =>
    refine ih _ _ ?_
    rw [lowFrom_up, lowFrom_up]
    exact hi_ap2 hF _ hS h0

/-- lowered so many times -/
def iterG (s : Sd) : Nat → List Int → List Int
  | 0, g => g
  | n + 1, g => iterG s n (lowered s g)
theorem iterG_fix {s : Sd} {g : List Int} (h : lowered s g = g) : ∀ n, iterG s n g = g
  | 0 => rfl
  | n + 1 => by unfold iterG; rw [h]; exact iterG_fix h n
theorem fixG_iter (s : Sd) : ∀ n g, fixG s n g = iterG s n g
  | 0, g => rfl
  | n + 1, g => by
    unfold fixG
    split
    · next h => exact (iterG_fix h (n + 1)).symm
    · exact fixG_iter s n _
theorem hi_iter {s t : Sd} (hF : HiF s.floors t.floors) (hS : HiS s.sills t.sills) : ∀ n {g g' : List Int}, Leq g g' → Leq (iterG s n g) (iterG t n g')
  | 0, _, _, h => h
  | n + 1, _, _, h => hi_iter hF hS n (hi_lowered hF hS h)
theorem hi_gts {s t : Sd} (hF : HiF s.floors t.floors) (hS : HiS s.sills t.sills) : Leq (gts s) (gts t) := by
  unfold gts
  rw [fixG_iter, fixG_iter]
  exact hi_iter hF hS _ (Leq.refl _)

/-- with one sill more -/
def Geq (g g' : List Int) : Prop := g.length = g'.length ∧ ∀ i : Nat, g'[i]?.getD 0 ≤ g[i]?.getD 0
theorem Geq.set {a b : List Int} (h : Geq a b) (t : Nat) {c d : Int} (hc : d ≤ c) : Geq (a.set t (min (a[t]?.getD 0) c)) (b.set t (min (b[t]?.getD 0) d)) := by
  refine ⟨by simp [h.1], fun i => ?_⟩
  have h1 := h.2 i
  have h0 := h.1
  rw [List.getElem?_set, List.getElem?_set]
  by_cases hi : t = i
  · subst hi
    by_cases hl : t < a.length
    · have hl' : t < b.length := by omega
      simp only [if_true, hl, hl', Option.getD_some]
      omega
    · have hl' : ¬ t < b.length := by omega
      simp [hl, hl']
  · rw [if_neg hi, if_neg hi]; exact h1
theorem Geq.right {a b : List Int} (h : Geq a b) (t : Nat) (d : Int) : Geq a (b.set t (min (b[t]?.getD 0) d)) := by
  refine ⟨by simp [h.1], fun i => ?_⟩
  have h1 := h.2 i
  rw [List.getElem?_set]
  by_cases hi : t = i
  · subst hi
    by_cases hl : t < b.length
    · simp only [if_true, hl, Option.getD_some]
      omega
    · have hl' : ¬ t < a.length := by have := h.1; omega
      simp [hl, hl']
  · rw [if_neg hi]; exact h1
theorem more_ap1 (F : List Int) (f : Int) (l e : List (Int × Int × Int)) {g g' : List Int} (hg : Geq g g') : Geq ((l.filterMap (up1 F f)).foldl ap1 g) (((l ++ e).filterMap (up1 F f)).foldl ap1 g') := by
  rw [List.filterMap_append, List.foldl_append]
  have h0 : Geq ((l.filterMap (up1 F f)).foldl ap1 g) ((l.filterMap (up1 F f)).foldl ap1 g') := by
    generalize l.filterMap (up1 F f) = k
    induction k generalizing g g' with
    | nil => exact hg
    | cons x r ih => exact ih (hg.set _ (Int.le_refl _))
  generalize (l.filterMap (up1 F f)).foldl ap1 g = a at *
  generalize (l.filterMap (up1 F f)).foldl ap1 g' = b at *
  generalize e.filterMap (up1 F f) = k
  induction k generalizing b with
  | nil => exact h0
  | cons x r ih => exact ih _ (h0.right _ _)
theorem more_ap2 (F : List Int) (f : Nat) (l e : List (Int × Int × Int)) {g g' : List Int} (hg : Geq g g') : Geq ((l.filterMap (up1 F f)).foldl (ap2 f) g) (((l ++ e).filterMap (up1 F f)).foldl (ap2 f) g') := by
  rw [List.filterMap_append, List.foldl_append]
  have h0 : Geq ((l.filterMap (up1 F f)).foldl (ap2 f) g) ((l.filterMap (up1 F f)).foldl (ap2 f) g') := by
    generalize l.filterMap (up1 F f) = k
    induction k generalizing g g' with
    | nil => exact hg
    | cons x r ih =>
      refine ih (hg.set _ ?_)
      have := hg.2 f
      simp only [grt2]; omega
  generalize (l.filterMap (up1 F f)).foldl (ap2 f) g = a at *
  generalize (l.filterMap (up1 F f)).foldl (ap2 f) g' = b at *
  generalize e.filterMap (up1 F f) = k
  induction k generalizing b with
  | nil => exact h0
  | cons x r ih => exact ih _ (h0.right _ _)
theorem more_lowered {s t : Sd} {e : List (Int × Int × Int)} (hF : t.floors = s.floors) (hS : t.sills = s.sills ++ e) {g g' : List Int} (hg : Geq g g') : Geq (lowered s g) (lowered t g') := by
  unfold lowered
  rw [hF]
  have h0 : Geq (lowSea s g) (lowSea t g') := by rw [lowSea_up, lowSea_up, hF, hS]; exact more_ap1 _ _ _ _ hg
  generalize lowSea s g = a at *
  generalize lowSea t g' = b at *
  generalize List.range s.floors.length = l
  induction l generalizing a b with
  | nil => exact h0
  | cons x r ih =>
    refine ih _ _ ?_
    rw [lowFrom_up, lowFrom_up, hF, hS]
    exact more_ap2 _ _ _ _ h0
theorem more_iter {s t : Sd} {e : List (Int × Int × Int)} (hF : t.floors = s.floors) (hS : t.sills = s.sills ++ e) : ∀ n {g g' : List Int}, Geq g g' → Geq (iterG s n g) (iterG t n g')
  | 0, _, _, h => h
  | n + 1, _, _, h => more_iter hF hS n (more_lowered hF hS h)
theorem more_gts {s t : Sd} {e : List (Int × Int × Int)} (hF : t.floors = s.floors) (hS : t.sills = s.sills ++ e) : Geq (gts s) (gts t) := by
  unfold gts
  rw [fixG_iter, fixG_iter]
  exact more_iter hF hS _ ⟨rfl, fun _ => Int.le_refl _⟩

/-- no gate is above 1050 -/
theorem iter_less (s : Sd) : ∀ n {g : List Int}, Less top g → Less top (iterG s n g)
  | 0, _, h => h
  | n + 1, g, h => iter_less s n (h.trans (lowered_less s g (fun i => (h.2 i).1)))
theorem gts_le (s : Sd) (p : Nat) : 0 ≤ gateOf s p ∧ gateOf s p ≤ 1050 := by
  have h : Less top (gts s) := by
    unfold gts
    rw [fixG_iter]
    exact iter_less s _ (Less.refl top_nonneg)
  have h1 := h.2 p
  have h2 : top[p]?.getD 0 ≤ 1050 := by
    unfold top
    rw [List.getElem?_replicate]
    split <;> simp
  unfold gateOf
  omega
theorem hasWay_lt (s : Sd) (p : Nat) : hasWayB s p = decide (gateOf s p < 1050) := by
  have hg := gts_le s p
  unfold gateOf at hg ⊢
  unfold hasWayB
  generalize (gts s)[p]?.getD 0 = g at *
  by_cases h : g = 1050
  · subst h; rfl
  · rw [decide_eq_true (show g < 1050 by omega), bne_iff_ne]; exact h

section
variable {s t : Sd}
theorem errFor_in (ok : Ok s) {x : Int} (h : 0 ≤ x ∧ x < s.floors.length) : errFor s x = 0 := by
  unfold errFor
  rw [if_pos (chk_zero ok)]
  have : isPl s x = true := inB_true.2 (by omega)
  rw [this]; rfl
theorem errGate_in (ok : Ok s) {x : Int} (h : 0 ≤ x ∧ x < s.floors.length) : errGate s x = if gateOf s x.toNat < 1050 then 0 else 6 := by
  unfold errGate
  rw [if_pos (errFor_in ok h), hasWay_lt]
  by_cases h : gateOf s x.toNat < 1050 <;> simp [h]
theorem gateV_in (ok : Ok s) {x : Int} (h : 0 ≤ x ∧ x < s.floors.length) : gateV s x = if gateOf s x.toNat < 1050 then gateOf s x.toNat else 0 := by
  unfold gateV
  rw [errGate_in ok h]
  by_cases h : gateOf s x.toNat < 1050 <;> simp [h]
/-- raised: the same errors, no lesser gates, no greater states -/
theorem hi_gate (ok : Ok s) (ok' : Ok t) (hF : HiF s.floors t.floors) (hS : HiS s.sills t.sills) {x : Int} (h : 0 ≤ x ∧ x < s.floors.length) : errGate t x = errGate s x ∧ gateV s x ≤ gateV t x := by
  have h' : 0 ≤ x ∧ x < t.floors.length := by rw [← hF.1]; exact h
  have k := (hi_gts hF hS).2 x.toNat
  rw [errGate_in ok h, errGate_in ok' h', gateV_in ok h, gateV_in ok' h']
  unfold gateOf at *
  by_cases c : (gts s)[x.toNat]?.getD 0 < 1050
  · have c' := k.2 c
    rw [if_pos c, if_pos c', if_pos c, if_pos c']
    exact ⟨rfl, k.1⟩
  · have c' : ¬ (gts t)[x.toNat]?.getD 0 < 1050 := by omega
    rw [if_neg c, if_neg c', if_neg c, if_neg c']
    exact ⟨rfl, Int.le_refl _⟩
theorem hi_st (hF : HiF s.floors t.floors) (hS : HiS s.sills t.sills) (hT : t.table = s.table) (hl : t.lo = s.lo) (hh : t.hi = s.hi) (m : Int) (p : Nat) : st t m p ≤ st s m p := by
  have k := (hi_gts hF hS).2 p
  unfold st gateOf
  rw [hT, hl, hh]
  repeat' split
  all_goals omega
theorem more_gate {e : List (Int × Int × Int)} (ok : Ok s) (ok' : Ok t) (hF : t.floors = s.floors) (hS : t.sills = s.sills ++ e) {x : Int} (h : 0 ≤ x ∧ x < s.floors.length) : errGate s x = 0 → errGate t x = 0 ∧ gateV t x ≤ gateV s x := by
  have h' : 0 ≤ x ∧ x < t.floors.length := by rw [hF]; exact h
  have k := (more_gts hF hS).2 x.toNat
  rw [errGate_in ok h, errGate_in ok' h', gateV_in ok h, gateV_in ok' h']
  unfold gateOf at *
  by_cases c : (gts s)[x.toNat]?.getD 0 < 1050
  · have c' : (gts t)[x.toNat]?.getD 0 < 1050 := by omega
    rw [if_pos c, if_pos c', if_pos c, if_pos c']
    exact fun _ => ⟨rfl, k⟩
  · rw [if_neg c]
    exact fun h => by cases h
theorem more_st {e : List (Int × Int × Int)} (hF : t.floors = s.floors) (hS : t.sills = s.sills ++ e) (hT : t.table = s.table) (hl : t.lo = s.lo) (hh : t.hi = s.hi) (m : Int) (p : Nat) : st s m p ≤ st t m p := by
  have k := (more_gts hF hS).2 p
  unfold st gateOf
  rw [hT, hl, hh]
  repeat' split
  all_goals omega
end
end
end Go.Proofs.Ytifcmbeejichdaa
/- Plain facts: the gates that the law finds by itself, letting the water rise from height to height, are the gates of the layer. -/
namespace Go.Proofs.Ytifcmbeejichdaa
section
open Go.RowKit

/-! what no sill lowers any more -/
theorem fixG_fix (s : Sd) : ∀ (n : Nat) (g : List Int), (∀ i : Nat, 0 ≤ g[i]?.getD 0) → g.sum < n → lowered s (fixG s n g) = fixG s n g
  | 0, g, h0, hs => by
    have := (sum_less g g (Less.refl h0)).2.2
    omega
  | n + 1, g, h0, hs => by
    unfold fixG
    split
    · assumption
    · next hne =>
      have hl := lowered_less s g h0
      have := (sum_less g (lowered s g) hl).2.1 hne
      exact fixG_fix s n (lowered s g) (fun i => (hl.2 i).1) (by omega)
theorem gts_fix (s : Sd) : lowered s (gts s) = gts s := fixG_fix s 9000 top top_nonneg (by decide)

theorem ap1_down : ∀ (l : List (Nat × Int)) (g : List Int) (i : Nat), i < g.length → (l.foldl ap1 g)[i]?.getD 0 ≤ g[i]?.getD 0
  | [], _, _, _ => Int.le_refl _
  | u :: r, g, i, hi => by
    refine Int.le_trans (ap1_down r (ap1 g u) i (by simp [ap1, hi])) ?_
    unfold ap1
    rw [List.getElem?_set]
    split
    · next h => subst h; rw [if_pos hi, Option.getD_some]; omega
    · exact Int.le_refl _
theorem ap2_down (f : Nat) : ∀ (l : List (Nat × Int)) (g : List Int) (i : Nat), i < g.length → (l.foldl (ap2 f) g)[i]?.getD 0 ≤ g[i]?.getD 0
  | [], _, _, _ => Int.le_refl _
  | u :: r, g, i, hi => by
    refine Int.le_trans (ap2_down f r (ap2 f g u) i (by simp [ap2, hi])) ?_
    unfold ap2
    rw [List.getElem?_set]
    split
    · next h => subst h; rw [if_pos hi, Option.getD_some]; omega
    · exact Int.le_refl _
theorem ap1_hit : ∀ (l : List (Nat × Int)) (g : List Int) (u : Nat × Int), u ∈ l → u.1 < g.length → (l.foldl ap1 g)[u.1]?.getD 0 ≤ u.2
  | v :: r, g, u, hu, hl => by
    have hl' : u.1 < (ap1 g v).length := by simp [ap1, hl]
    rcases List.mem_cons.1 hu with rfl | hu
    · refine Int.le_trans (ap1_down r _ u.1 hl') ?_
      unfold ap1
      rw [List.getElem?_set_self hl, Option.getD_some]
      omega
    · exact ap1_hit r _ u hu hl'
theorem ap2_hit (f : Nat) : ∀ (l : List (Nat × Int)) (g : List Int) (u : Nat × Int), u ∈ l → u.1 < g.length → f < g.length → (l.foldl (ap2 f) g)[u.1]?.getD 0 ≤ max (max 0 (g[f]?.getD 0)) u.2
  | v :: r, g, u, hu, hl, hf => by
    have hl' : u.1 < (ap2 f g v).length := by simp [ap2, hl]
    rcases List.mem_cons.1 hu with rfl | hu
    · refine Int.le_trans (ap2_down f r _ u.1 hl') ?_
      unfold ap2
      rw [List.getElem?_set_self hl, Option.getD_some, grt2]
      omega
    · have h1 := ap2_hit f r _ u hu hl' (by simp [ap2, hf])
      have h2 := ap2_down f [v] g f hf
      simp only [List.foldl_cons, List.foldl_nil] at h2
      show (r.foldl (ap2 f) (ap2 f g v))[u.1]?.getD 0 ≤ _
      omega
theorem low_len (s : Sd) (l : List Nat) (g : List Int) (h : g.length = 8) : (l.foldl (lowFrom s) g).length = 8 := lowFroms_len s l g h
theorem froms_down (s : Sd) : ∀ (l : List Nat) (g : List Int), g.length = 8 → ∀ i, i < 8 → (l.foldl (lowFrom s) g)[i]?.getD 0 ≤ g[i]?.getD 0
  | [], _, _, _, _ => Int.le_refl _
  | f :: r, g, hg, i, hi => by
    have hl : (lowFrom s g f).length = 8 := low2_len s f _ _ hg
    refine Int.le_trans (froms_down s r (lowFrom s g f) hl i hi) ?_
    rw [lowFrom_up]
    exact ap2_down f _ g i (by omega)
theorem froms_hit (s : Sd) : ∀ (l : List Nat) (g : List Int), g.length = 8 → ∀ f ∈ l, f < 8 → ∀ u ∈ s.sills.filterMap (up1 s.floors f), u.1 < 8 → (l.foldl (lowFrom s) g)[u.1]?.getD 0 ≤ max (max 0 (g[f]?.getD 0)) u.2
  | e :: r, g, hg, f, hf, h8, u, hu, hu8 => by
    have hl : (lowFrom s g e).length = 8 := low2_len s e _ _ hg
    rcases List.mem_cons.1 hf with rfl | hf
    · refine Int.le_trans (froms_down s r _ hl u.1 hu8) ?_
      rw [lowFrom_up]
      exact ap2_hit f _ g u hu (by omega) (by omega)
    · have h1 := froms_hit s r _ hl f hf h8 u hu hu8
      have h2 : (lowFrom s g e)[f]?.getD 0 ≤ g[f]?.getD 0 := by rw [lowFrom_up]; exact ap2_down e _ g f (by omega)
      show (r.foldl (lowFrom s) (lowFrom s g e))[u.1]?.getD 0 ≤ _
      omega
/-- what a sill joins: no gate is above what lets water over it -/
theorem gate_sea (s : Sd) (h8 : s.floors.length ≤ 8) (x : Int × Int × Int) (hx : x ∈ s.sills) (b : Nat) (hb : other x (-1) = b) (hbl : b < s.floors.length) : gateOf s b ≤ max (max 0 x.2.2) (s.floors[b]?.getD 0) := by
  have hu : (b, grt [x.2.2, s.floors[b]?.getD 0]) ∈ s.sills.filterMap (up1 s.floors (-1)) := by
    refine List.mem_filterMap.2 ⟨x, hx, ?_⟩
    unfold up1
    rw [hb, if_pos ⟨by omega, by simpa using hbl⟩]
    rfl
  have h0 : (lowSea s (gts s))[b]?.getD 0 ≤ max (max 0 x.2.2) (s.floors[b]?.getD 0) := by
    rw [lowSea_up]
    exact ap1_hit _ _ _ hu (by rw [gts_len]; exact Nat.lt_of_lt_of_le hbl h8)
  have h1 := froms_down s (List.range s.floors.length) (lowSea s (gts s)) (low1_len s _ _ (gts_len s)) b (by omega)
  have h2 := gts_fix s
  unfold lowered at h2
  rw [h2] at h1
  unfold gateOf
  omega
theorem gate_from (s : Sd) (h8 : s.floors.length ≤ 8) (x : Int × Int × Int) (hx : x ∈ s.sills) (f b : Nat) (hf : f < s.floors.length) (hb : other x f = b) (hbl : b < s.floors.length) : gateOf s b ≤ max (max 0 (gateOf s f)) (max (max 0 x.2.2) (s.floors[b]?.getD 0)) := by
  have hu : (b, grt [x.2.2, s.floors[b]?.getD 0]) ∈ s.sills.filterMap (up1 s.floors f) := by
    refine List.mem_filterMap.2 ⟨x, hx, ?_⟩
    unfold up1
    rw [hb, if_pos ⟨by omega, by simpa using hbl⟩]
    rfl
  have hs : (lowSea s (gts s)).length = 8 := low1_len s _ _ (gts_len s)
  have h1 := froms_hit s (List.range s.floors.length) (lowSea s (gts s)) hs f (List.mem_range.2 hf) (by omega) _ hu (by simp only; omega)
  have h3 : (lowSea s (gts s))[f]?.getD 0 ≤ (gts s)[f]?.getD 0 := by rw [lowSea_up]; exact ap1_down _ _ f (by rw [gts_len]; omega)
  have h2 := gts_fix s
  unfold lowered at h2
  rw [h2] at h1
  simp only [grt2] at h1
  unfold gateOf
  omega

/-! invariants of lowering, by its updates -/
theorem inv_iter (s : Sd) (_h8 : s.floors.length ≤ 8) (I : List Int → Prop)
    (sea : ∀ (g : List Int) (x : Int × Int × Int) (b : Nat), g.length = 8 → x ∈ s.sills → other x (-1) = b → b < s.floors.length → I g → I (g.set b (min (g[b]?.getD 0) (max (max 0 x.2.2) (s.floors[b]?.getD 0)))))
    (from' : ∀ (g : List Int) (x : Int × Int × Int) (f b : Nat), g.length = 8 → x ∈ s.sills → f < s.floors.length → other x f = b → b < s.floors.length → I g → I (g.set b (min (g[b]?.getD 0) (max (max 0 (g[f]?.getD 0)) (max (max 0 x.2.2) (s.floors[b]?.getD 0))))))
    (h0 : I top) : I (gts s) := by
  have up : ∀ (f : Int) (x : Int × Int × Int) (u : Nat × Int), up1 s.floors f x = some u → other x f = u.1 ∧ u.1 < s.floors.length ∧ u.2 = max (max 0 x.2.2) (s.floors[u.1]?.getD 0) := by
    intro f x u hu
    unfold up1 at hu
    split at hu
    · next hc =>
      cases hu
      exact ⟨by simp only; omega, hc.2, rfl⟩
    · cases hu
  have h1 : ∀ (l : List (Int × Int × Int)) (g : List Int), (∀ x ∈ l, x ∈ s.sills) → g.length = 8 → I g → I ((l.filterMap (up1 s.floors (-1))).foldl ap1 g) := by
    intro l
    induction l with
    | nil => exact fun g _ _ h => h
    | cons x r ih =>
      intro g hx hl hI
      cases hu : up1 s.floors (-1) x with
      | none => rw [List.filterMap_cons_none hu]; exact ih g (fun y hy => hx y (by simp [hy])) hl hI
      | some u =>
        rw [List.filterMap_cons_some hu]
        obtain ⟨e1, e2, e3⟩ := up _ _ _ hu
        refine ih (ap1 g u) (fun y hy => hx y (by simp [hy])) (by simp [ap1, hl]) ?_
        unfold ap1
        rw [e3]
        exact sea g x u.1 hl (hx x (by simp)) e1 e2 hI
  have h2 : ∀ (f : Nat), f < s.floors.length → ∀ (l : List (Int × Int × Int)) (g : List Int), (∀ x ∈ l, x ∈ s.sills) → g.length = 8 → I g → I ((l.filterMap (up1 s.floors f)).foldl (ap2 f) g) := by
    intro f hf l
    induction l with
    | nil => exact fun g _ _ h => h
    | cons x r ih =>
      intro g hx hl hI
      cases hu : up1 s.floors f x with
      | none => rw [List.filterMap_cons_none hu]; exact ih g (fun y hy => hx y (by simp [hy])) hl hI
      | some u =>
        rw [List.filterMap_cons_some hu]
        obtain ⟨e1, e2, e3⟩ := up _ _ _ hu
        refine ih (ap2 f g u) (fun y hy => hx y (by simp [hy])) (by simp [ap2, hl]) ?_
        unfold ap2
        rw [e3, grt2]
        exact from' g x f u.1 hl (hx x (by simp)) hf e1 e2 hI
  have h3 : ∀ (l : List Nat) (g : List Int), (∀ f ∈ l, f < s.floors.length) → g.length = 8 → I g → I (l.foldl (lowFrom s) g) := by
    intro l
    induction l with
    | nil => exact fun g _ _ h => h
    | cons f r ih =>
      intro g hf hl hI
      refine ih (lowFrom s g f) (fun y hy => hf y (by simp [hy])) (low2_len s f _ _ hl) ?_
      rw [lowFrom_up]
      exact h2 f (hf f (by simp)) _ _ (fun _ h => h) hl hI
  have h4 : ∀ n (g : List Int), g.length = 8 → I g → I (iterG s n g) := by
    intro n
    induction n with
    | zero => exact fun g _ h => h
    | succ n ih =>
      intro g hl hI
      refine ih _ (lowered_len s g hl) ?_
      unfold lowered
      refine h3 _ _ (fun f hf => List.mem_range.1 hf) (low1_len s _ _ hl) ?_
      rw [lowSea_up]
      exact h1 _ _ (fun _ h => h) hl hI
  unfold gts
  rw [fixG_iter]
  exact h4 _ _ rfl h0

theorem set_get (g : List Int) (b i : Nat) (v : Int) (hb : b < g.length) : (g.set b v)[i]?.getD 0 = if b = i then v else g[i]?.getD 0 := by
  rw [List.getElem?_set]
  split
  · next h => first | rfl | (subst h; rw [if_pos hb]; rfl) | (subst h; simp [hb])
  · rfl
/-- low heights, low gates -/
theorem gate_low (s : Sd) (h8 : s.floors.length ≤ 8) (hF : ∀ x ∈ s.floors, 0 ≤ x ∧ x ≤ 50) (hS : ∀ x ∈ s.sills, x.2.2 ≤ 50) (p : Nat) (hp : p < 8) : gateOf s p ≤ 50 ∨ gateOf s p = 1050 := by
  have fl : ∀ b : Nat, s.floors[b]?.getD 0 ≤ 50 := fun b => by
    by_cases hb : b < s.floors.length
    · rw [List.getElem?_eq_getElem hb]; exact (hF _ (List.getElem_mem hb)).2
    · rw [List.getElem?_eq_none (by omega)]; decide
  have := inv_iter s h8 (fun g => ∀ i, i < 8 → g[i]?.getD 0 ≤ 50 ∨ g[i]?.getD 0 = 1050)
    (fun g x b hl hx hb hbl hI i hi => by
      have h1 := hI i hi
      have h2 := hI b (by omega)
      have h3 := fl b
      have h4 := hS x hx
      rw [set_get g b i _ (by omega)]
      split
      · omega
      · exact h1)
    (fun g x f b hl hx hf hb hbl hI i hi => by
      have h1 := hI i hi
      have h2 := hI b (by omega)
      have h3 := fl b
      have h4 := hS x hx
      have h5 := hI f (by omega)
      rw [set_get g b i _ (by omega)]
      split
      · omega
      · exact h1)
    (fun i hi => Or.inr (by unfold top; rw [List.getElem?_replicate, if_pos hi]; rfl))
  exact this p hp

/-! the law's own way -/
def rel1 (F : List Int) (h : Int) (g : List Int) (y : Int × Int × Int) : List Int :=
  if y.2.2 ≤ h ∧ y.2.1 ≠ -1 ∧ F[y.2.1.toNat]?.getD 0 ≤ h ∧ (y.1 = -1 ∨ g[y.1.toNat]?.getD 0 ≤ h) then g.set y.2.1.toNat (min (g[y.2.1.toNat]?.getD 0) h) else g
def turned (x : Int × Int × Int) : Int × Int × Int := (x.2.1, x.1, x.2.2)
def rel2 (F : List Int) (h : Int) (g : List Int) (x : Int × Int × Int) : List Int := rel1 F h (rel1 F h g x) (turned x)
def pass (s : Sd) (h : Int) (g : List Int) : List Int := s.sills.foldl (rel2 s.floors h) g
def passes (s : Sd) (h : Int) : Nat → List Int → List Int
  | 0, g => g
  | n + 1, g => passes s h n (pass s h g)
def lvls (s : Sd) : Nat → List Int
  | 0 => List.replicate s.floors.length 1000000
  | k + 1 => passes s k s.floors.length (lvls s k)

section
variable {F : List Int} {h : Int}
theorem rel1_len (g : List Int) (y : Int × Int × Int) : (rel1 F h g y).length = g.length := by
  unfold rel1; split
  · simp
  · rfl
theorem rel2_len (g : List Int) (y : Int × Int × Int) : (rel2 F h g y).length = g.length := by unfold rel2; rw [rel1_len, rel1_len]
/-- how many are above -/
def oc (h : Int) (g : List Int) : Nat := g.countP (fun v => decide (h < v))
theorem oc_set (h : Int) : ∀ (g : List Int) (b : Nat), b < g.length → h < g[b]?.getD 0 → oc h (g.set b (min (g[b]?.getD 0) h)) + 1 = oc h g
  | v :: r, 0, _, hv => by
    have hv' : h < v := by simpa using hv
    show oc h (min v h :: r) + 1 = oc h (v :: r)
    unfold oc
    rw [List.countP_cons, List.countP_cons, if_neg (by simp only [decide_eq_true_eq]; omega), if_pos (by simpa using hv')]
  | v :: r, b + 1, hb, hv => by
    have ih := oc_set h r b (by simpa using hb) (by simpa using hv)
    have e : (v :: r)[b + 1]?.getD 0 = r[b]?.getD 0 := by simp
    rw [e]
    show oc h (v :: r.set b _) + 1 = _
    unfold oc at ih ⊢
    rw [List.countP_cons, List.countP_cons]
    omega
theorem set_same (g : List Int) (b : Nat) (hb : b < g.length) (h : Int) (hv : g[b]?.getD 0 ≤ h) : g.set b (min (g[b]?.getD 0) h) = g := by
  rw [Int.min_eq_left hv, List.getElem?_eq_getElem hb, Option.getD_some, List.set_getElem_self]
theorem rel1_or (g : List Int) (y : Int × Int × Int) (hy : y.2.1 ≠ -1 → 0 ≤ y.2.1 ∧ y.2.1 < g.length) : rel1 F h g y = g ∨ oc h (rel1 F h g y) < oc h g := by
  unfold rel1
  split
  · next hc =>
    have hb : y.2.1.toNat < g.length := by have := hy hc.2.1; omega
    by_cases hv : g[y.2.1.toNat]?.getD 0 ≤ h
    · exact Or.inl (set_same g _ hb h hv)
    · have := oc_set h g _ hb (by omega)
      exact Or.inr (by omega)
  · exact Or.inl rfl
end
section
variable {α : Type} {f : List Int → α → List Int} {h : Int} {n : Nat} {P : α → Prop}
theorem fold_or (hf : ∀ g x, g.length = n → P x → (f g x).length = n ∧ (f g x = g ∨ oc h (f g x) < oc h g)) : ∀ (l : List α) (g : List Int), g.length = n → (∀ x ∈ l, P x) →
    (l.foldl f g).length = n ∧ (l.foldl f g = g ∧ (∀ x ∈ l, f g x = g) ∨ oc h (l.foldl f g) < oc h g)
  | [], g, hg, _ => ⟨hg, Or.inl ⟨rfl, by simp⟩⟩
  | x :: r, g, hg, hp => by
    obtain ⟨h1, h2⟩ := hf g x hg (hp x (by simp))
    obtain ⟨h3, h4⟩ := fold_or hf r (f g x) h1 (fun y hy => hp y (by simp [hy]))
    refine ⟨h3, ?_⟩
    rw [List.foldl_cons]
    rcases h2 with h2 | h2
    · rcases h4 with ⟨h4, h5⟩ | h4
      · refine Or.inl ⟨by rw [h4, h2], fun y hy => ?_⟩
        rcases List.mem_cons.1 hy with rfl | hy
        · exact h2
        · have := h5 y hy
          rw [h2] at this; exact this
      · exact Or.inr (by rw [h2] at h4 ⊢; exact h4)
    · rcases h4 with ⟨h4, h5⟩ | h4
      · exact Or.inr (by rw [h4]; exact h2)
      · exact Or.inr (by omega)
end
section
variable {s : Sd} {h : Int}
/-- an end of a sill is a place, or the Sea -/
def EndOk (n : Nat) (y : Int × Int × Int) : Prop := (y.1 = -1 ∨ 0 ≤ y.1 ∧ y.1 < n) ∧ (y.2.1 = -1 ∨ 0 ≤ y.2.1 ∧ y.2.1 < n) ∧ y.1 ≠ y.2.1
theorem EndOk.turned {n : Nat} {y : Int × Int × Int} (hy : EndOk n y) : EndOk n (turned y) := ⟨hy.2.1, hy.1, Ne.symm hy.2.2⟩
theorem EndOk.of (ok : Ok s) {x : Int × Int × Int} (hx : x ∈ s.sills) : EndOk s.floors.length x := ⟨(ok.good x hx).1, (ok.good x hx).2, ok.two x hx⟩
theorem rel2_or (g : List Int) (y : Int × Int × Int) (n : Nat) (hg : g.length = n) (hy : EndOk n y) : (rel2 s.floors h g y).length = n ∧ (rel2 s.floors h g y = g ∧ rel1 s.floors h g y = g ∧ rel1 s.floors h g (turned y) = g ∨ oc h (rel2 s.floors h g y) < oc h g) := by
  refine ⟨by rw [rel2_len]; exact hg, ?_⟩
  have h1 := rel1_or (F := s.floors) (h := h) g y (fun hn => by rcases hy.2.1 with e | e; exact absurd e hn; omega)
  have h2 := rel1_or (F := s.floors) (h := h) (rel1 s.floors h g y) (turned y) (fun hn => by rw [rel1_len]; rcases hy.1 with e | e; exact absurd e hn; exact ⟨e.1, by rw [hg]; exact e.2⟩)
  unfold rel2
  rcases h1 with h1 | h1
  · rcases h2 with h2 | h2
    · rw [h1] at h2 ⊢
      exact Or.inl ⟨h2, rfl, h2⟩
    · rw [h1] at h2 ⊢; exact Or.inr h2
  · rcases h2 with h2 | h2
    · exact Or.inr (by rw [h2]; exact h1)
    · exact Or.inr (by omega)
theorem pass_or (ok : Ok s) (g : List Int) (hg : g.length = s.floors.length) : (pass s h g).length = s.floors.length ∧ (pass s h g = g ∧ (∀ x ∈ s.sills, rel1 s.floors h g x = g ∧ rel1 s.floors h g (turned x) = g) ∨ oc h (pass s h g) < oc h g) := by
  obtain ⟨h1, h2⟩ := fold_or (h := h) (n := s.floors.length) (P := EndOk s.floors.length) (f := rel2 s.floors h) (fun g x hg hx => by
    obtain ⟨k1, k2⟩ := rel2_or (s := s) (h := h) g x _ hg hx
    refine ⟨k1, ?_⟩
    rcases k2 with k2 | k2
    · exact Or.inl k2.1
    · exact Or.inr k2) s.sills g hg (fun x hx => EndOk.of ok hx)
  refine ⟨h1, ?_⟩
  rcases h2 with ⟨h2, h3⟩ | h2
  · refine Or.inl ⟨h2, fun x hx => ?_⟩
    rcases (rel2_or (s := s) (h := h) g x _ hg (EndOk.of ok hx)).2 with k | k
    · exact k.2
    · rw [h3 x hx] at k; omega
  · exact Or.inr h2
theorem passes_len (ok : Ok s) : ∀ n (g : List Int), g.length = s.floors.length → (passes s h n g).length = s.floors.length
  | 0, _, hg => hg
  | n + 1, g, hg => passes_len ok n _ (pass_or ok g hg).1
theorem passes_fix (ok : Ok s) : ∀ n (g : List Int), g.length = s.floors.length → pass s h g = g → passes s h n g = g
  | 0, _, _, _ => rfl
  | n + 1, g, hg, hp => by
    unfold passes
    rw [hp]
    exact passes_fix ok n g hg hp
theorem passes_shut (ok : Ok s) : ∀ n (g : List Int), g.length = s.floors.length → oc h g ≤ n → pass s h (passes s h n g) = passes s h n g
  | 0, g, hg, ho => by
    rcases (pass_or (h := h) ok g hg).2 with k | k
    · exact k.1
    · omega
  | n + 1, g, hg, ho => by
    obtain ⟨h1, k⟩ := pass_or (h := h) ok g hg
    unfold passes
    rcases k with k | k
    · rw [k.1, passes_fix ok n g hg k.1]; exact k.1
    · exact passes_shut ok n _ h1 (by omega)

/-- sound at a height: what is known is the gate, and what is below is known -/
def Snd (s : Sd) (h : Int) (g : List Int) : Prop := ∀ p, p < s.floors.length → (g[p]?.getD 0 = 1000000 ∨ g[p]?.getD 0 = gateOf s p ∧ gateOf s p ≤ h) ∧ (gateOf s p < h → g[p]?.getD 0 = gateOf s p)
theorem other_to (ok : Ok s) {x : Int × Int × Int} (hx : x ∈ s.sills) {a b : Int} (hb : b ≠ -1) (hab : (a, b) = (x.1, x.2.1) ∨ (a, b) = (x.2.1, x.1)) : other x a = b := by
  have := ok.two x hx
  unfold other
  rcases hab with e | e
  · cases e; simp
  · cases e
    have : (x.2.1 == x.1) = false := by rw [beq_eq_false_iff_ne]; omega
    simp [this]
theorem gate_step (ok : Ok s) {x : Int × Int × Int} (hx : x ∈ s.sills) {a b : Int} (hb : 0 ≤ b ∧ b < s.floors.length) (ha : a = -1 ∨ 0 ≤ a ∧ a < s.floors.length) (hab : (a, b) = (x.1, x.2.1) ∨ (a, b) = (x.2.1, x.1)) (h0 : 0 ≤ h) (hh : x.2.2 ≤ h) (hF : s.floors[b.toNat]?.getD 0 ≤ h) (hg : a = -1 ∨ gateOf s a.toNat ≤ h) : gateOf s b.toNat ≤ h := by
  have ho := other_to ok hx (by omega) hab
  have e : ((b.toNat : Nat) : Int) = b := by omega
  rcases hg with hg | hg
  · subst hg
    have := gate_sea s ok.fl1 x hx b.toNat (by rw [e]; exact ho) (by omega)
    omega
  · rcases ha with ha | ha
    · subst ha
      have := gate_sea s ok.fl1 x hx b.toNat (by rw [e]; exact ho) (by omega)
      omega
    · have e2 : ((a.toNat : Nat) : Int) = a := by omega
      have := gate_from s ok.fl1 x hx a.toNat b.toNat (by omega) (by rw [e, e2]; exact ho) (by omega)
      omega
theorem snd_rel1 (ok : Ok s) {x : Int × Int × Int} (hx : x ∈ s.sills) (h0 : 0 ≤ h) (h9 : h ≤ 999) {g : List Int} (hl : g.length = s.floors.length) (hs : Snd s h g) (y : Int × Int × Int) (hy : y = x ∨ y = turned x) : Snd s h (rel1 s.floors h g y) := by
  have he : EndOk s.floors.length y := by
    rcases hy with rfl | rfl
    · exact EndOk.of ok hx
    · exact (EndOk.of ok hx).turned
  have hab : (y.1, y.2.1) = (x.1, x.2.1) ∨ (y.1, y.2.1) = (x.2.1, x.1) := by rcases hy with rfl | rfl; exact Or.inl rfl; exact Or.inr rfl
  have hyh : y.2.2 = x.2.2 := by rcases hy with rfl | rfl <;> rfl
  unfold rel1
  split
  · next hc =>
    obtain ⟨c1, c2, c3, c4⟩ := hc
    have hb : 0 ≤ y.2.1 ∧ y.2.1 < s.floors.length := by rcases he.2.1 with e | e; exact absurd e c2; exact e
    have hgb : gateOf s y.2.1.toNat ≤ h := by
      refine gate_step ok hx hb he.1 hab h0 (by omega) c3 ?_
      rcases c4 with c4 | c4
      · exact Or.inl c4
      · rcases he.1 with e | e
        · exact Or.inl e
        · refine Or.inr ?_
          have := (hs y.1.toNat (by omega)).1
          omega
    intro p hp
    have k := hs p hp
    rw [set_get g _ p _ (by omega)]
    split
    · next e =>
      subst e
      omega
    · exact k
  · exact hs
theorem snd_fold (ok : Ok s) (h0 : 0 ≤ h) (h9 : h ≤ 999) : ∀ (l : List (Int × Int × Int)) (g : List Int), (∀ x ∈ l, x ∈ s.sills) → g.length = s.floors.length → Snd s h g → Snd s h (l.foldl (rel2 s.floors h) g)
  | [], _, _, _, hs => hs
  | x :: r, g, hx, hl, hs => by
    have hm := hx x (by simp)
    refine snd_fold ok h0 h9 r _ (fun y hy => hx y (by simp [hy])) (by rw [rel2_len]; exact hl) ?_
    unfold rel2
    exact snd_rel1 ok hm h0 h9 (by rw [rel1_len]; exact hl) (snd_rel1 ok hm h0 h9 hl hs x (Or.inl rfl)) _ (Or.inr rfl)
theorem snd_passes (ok : Ok s) (h0 : 0 ≤ h) (h9 : h ≤ 999) : ∀ n (g : List Int), g.length = s.floors.length → Snd s h g → Snd s h (passes s h n g)
  | 0, _, _, hs => hs
  | n + 1, g, hl, hs => snd_passes ok h0 h9 n _ (pass_or ok g hl).1 (snd_fold ok h0 h9 _ _ (fun _ h => h) hl hs)
/-- what no pass changes any more has all gates that are not above -/
theorem shut_all (ok : Ok s) (h9 : h ≤ 999) {g : List Int} (hl : g.length = s.floors.length) (hp : pass s h g = g) (p : Nat) (hpl : p < s.floors.length) (hg : gateOf s p ≤ h) : g[p]?.getD 0 ≤ h := by
  have hall : ∀ x ∈ s.sills, rel1 s.floors h g x = g ∧ rel1 s.floors h g (turned x) = g := by
    rcases (pass_or (h := h) ok g hl).2 with k | k
    · exact k.2
    · rw [hp] at k; omega
  have key : ∀ x ∈ s.sills, ∀ a b : Int, (a, b) = (x.1, x.2.1) ∨ (a, b) = (x.2.1, x.1) → 0 ≤ b ∧ b < s.floors.length → x.2.2 ≤ h → s.floors[b.toNat]?.getD 0 ≤ h → (a = -1 ∨ g[a.toNat]?.getD 0 ≤ h) → g[b.toNat]?.getD 0 ≤ h := by
    intro x hx a b hab hb h1 h2 h3
    have hb' : b.toNat < g.length := by omega
    have hr : rel1 s.floors h g (a, b, x.2.2) = g := by
      rcases hab with e | e
      · cases e; exact (hall x hx).1
      · cases e; exact (hall x hx).2
    unfold rel1 at hr
    rw [if_pos ⟨h1, by simp only; omega, h2, h3⟩] at hr
    have e1 := congrArg (fun l => l[b.toNat]?.getD 0) hr
    simp only at e1
    rw [set_get g _ _ _ hb', if_pos rfl] at e1
    omega
  refine Decidable.byContradiction fun hc => ?_
  have := inv_iter s ok.fl1 (fun a => ∀ i, i < s.floors.length → h < g[i]?.getD 0 → h < a[i]?.getD 0)
    (fun a x b hl8 hx hb hbl hI i hi hgi => by
      rw [set_get a b i _ (by have := ok.fl1; omega)]
      split
      · next e =>
        subst e
        have h1 := hI b hi hgi
        have hne : ¬ (x.2.2 ≤ h ∧ s.floors[b]?.getD 0 ≤ h) := fun hcc => by
          have ho : (-1, (b : Int)) = (x.1, x.2.1) ∨ (-1, (b : Int)) = (x.2.1, x.1) := by
            unfold other at hb
            by_cases e1 : (-1 : Int) = x.1
            · rw [show ((-1 : Int) == x.1) = true from beq_iff_eq.2 e1] at hb
              exact Or.inl (by rw [← e1]; simp at hb; rw [hb])
            · rw [show ((-1 : Int) == x.1) = false from beq_eq_false_iff_ne.2 e1] at hb
              by_cases e2 : (-1 : Int) = x.2.1
              · rw [show ((-1 : Int) == x.2.1) = true from beq_iff_eq.2 e2] at hb
                exact Or.inr (by rw [← e2]; simp at hb; rw [hb])
              · rw [show ((-1 : Int) == x.2.1) = false from beq_eq_false_iff_ne.2 e2] at hb
                simp at hb
          have := key x hx (-1) b ho (by omega) hcc.1 (by simpa using hcc.2) (Or.inl rfl)
          simp only [Int.toNat_natCast] at this
          omega
        omega
      · exact hI i hi hgi)
    (fun a x f b hl8 hx hf hb hbl hI i hi hgi => by
      rw [set_get a b i _ (by have := ok.fl1; omega)]
      split
      · next e =>
        subst e
        have h1 := hI b hi hgi
        by_cases hgf : h < g[f]?.getD 0
        · have := hI f hf hgf
          omega
        · have hne : ¬ (x.2.2 ≤ h ∧ s.floors[b]?.getD 0 ≤ h) := fun hcc => by
            have ho : ((f : Int), (b : Int)) = (x.1, x.2.1) ∨ ((f : Int), (b : Int)) = (x.2.1, x.1) := by
              unfold other at hb
              by_cases e1 : (f : Int) = x.1
              · rw [show ((f : Int) == x.1) = true from beq_iff_eq.2 e1] at hb
                exact Or.inl (by rw [← e1]; simp at hb; rw [hb])
              · rw [show ((f : Int) == x.1) = false from beq_eq_false_iff_ne.2 e1] at hb
                by_cases e2 : (f : Int) = x.2.1
                · rw [show ((f : Int) == x.2.1) = true from beq_iff_eq.2 e2] at hb
                  exact Or.inr (by rw [← e2]; simp at hb; rw [hb])
                · rw [show ((f : Int) == x.2.1) = false from beq_eq_false_iff_ne.2 e2] at hb
                  simp at hb
            have := key x hx f b ho (by omega) hcc.1 (by simpa using hcc.2) (Or.inr (by simp only [Int.toNat_natCast]; omega))
            simp only [Int.toNat_natCast] at this
            omega
          omega
      · exact hI i hi hgi)
    (fun i hi _ => by
      have := ok.fl1
      unfold top
      rw [List.getElem?_replicate, if_pos (by omega)]
      show h < 1050
      omega)
  have h1 := this p hpl (by omega)
  unfold gateOf at hg
  omega
theorem lvls_len (ok : Ok s) : ∀ k, (lvls s k).length = s.floors.length
  | 0 => by simp [lvls]
  | k + 1 => passes_len ok _ _ (lvls_len ok k)
theorem lvls_is (ok : Ok s) : ∀ (k : Nat), k ≤ 1000 → ∀ p, p < s.floors.length → (lvls s k)[p]?.getD 0 = if gateOf s p < k then gateOf s p else 1000000
  | 0, _, p, hp => by
    have := (gts_le s p).1
    rw [if_neg (by omega)]
    unfold lvls
    rw [List.getElem?_replicate, if_pos hp]
    rfl
  | k + 1, hk, p, hp => by
    have ih := lvls_is ok k (by omega)
    have hl := lvls_len ok k
    have hs : Snd s k (lvls s k) := fun q hq => by
      have e := ih q hq
      by_cases c : gateOf s q < k
      · rw [if_pos c] at e
        exact ⟨Or.inr ⟨e, by omega⟩, fun _ => e⟩
      · rw [if_neg c] at e
        exact ⟨Or.inl e, fun h => absurd h c⟩
    have h1 := snd_passes ok (h := (k : Int)) (by omega) (by omega) s.floors.length _ hl hs
    have h2 := passes_shut (h := (k : Int)) ok s.floors.length (lvls s k) hl (by rw [← hl]; exact List.countP_le_length)
    have hl2 := passes_len (h := (k : Int)) ok s.floors.length _ hl
    show (passes s k s.floors.length (lvls s k))[p]?.getD 0 = _
    have h3 := shut_all ok (h := (k : Int)) (by omega) hl2 h2 p hp
    have h4 := (h1 p hp).1
    by_cases c : gateOf s p < ((k + 1 : Nat) : Int)
    · rw [if_pos c]
      have := h3 (by omega)
      omega
    · rw [if_neg c]
      omega
/-- the gates that the law finds -/
theorem lvls_gates (ok : Ok s) (hF : ∀ x ∈ s.floors, 0 ≤ x ∧ x ≤ 50) (hS : ∀ x ∈ s.sills, x.2.2 ≤ 50) (p : Nat) (hp : p < s.floors.length) : (lvls s 62)[p]?.getD 0 = if gateOf s p < 1050 then gateOf s p else 1000000 := by
  rw [lvls_is ok 62 (by omega) p hp]
  have := gate_low s ok.fl1 hF hS p (by have := ok.fl1; omega)
  by_cases c : gateOf s p < 1050
  · rw [if_pos c, if_pos (by omega)]
  · rw [if_neg c, if_neg (by omega)]
end
end
end Go.Proofs.Ytifcmbeejichdaa
/- Plain facts: where a list of sills leads from the Sea, and how high it is. -/
namespace Go.Proofs.Ytifcmbeejichdaa
open Go.RowKit
def sillAt (s : Sd) (i : Int) : Int × Int × Int := s.sills[i.toNat]?.getD (0, 0, 0)
def flAt (s : Sd) (t : Int) : Int := s.floors[t.toNat]?.getD 0
/-- from the end e, when the places M were met, with the crest c: the end and the crest, if the sills go on so -/
def folS (s : Sd) : List Int → List Int → Int → Int → Option (Int × Int)
  | [], _, e, c => some (e, c)
  | i :: r, M, e, c => if other (sillAt s i) e = -1 ∨ other (sillAt s i) e ∈ M then none else folS s r (M ++ [other (sillAt s i) e]) (other (sillAt s i) e) (max c (max (sillAt s i).2.2 (flAt s (other (sillAt s i) e))))
def folV (s : Sd) (way : List Int) : Int × Int := (folS s way [] (-1) 0).getD (-1, 0)
def errCrest (s : Sd) (x : Int) (way : List Int) : Int :=
  if errFor s x = 0 then (if way.all (isSi s) = true then (if (folV s way).1 = x then 0 else 8) else 1) else errFor s x
def crestV (s : Sd) (x : Int) (way : List Int) : Int := if errCrest s x way = 0 then (folV s way).2 else 0

variable {s : Sd}
theorem sillAt_nat (n : Nat) (h : n < s.sills.length) : sillAt s n = s.sills[n] := by
  unfold sillAt
  rw [Int.toNat_natCast, List.getElem?_eq_getElem h]
  rfl
theorem flAt_nat (n : Nat) (h : n < s.floors.length) : flAt s n = s.floors[n] := by
  unfold flAt
  rw [Int.toNat_natCast, List.getElem?_eq_getElem h]
  rfl
theorem other_rng (ok : Ok s) (n : Nat) (h : n < s.sills.length) (e : Int) : other s.sills[n] e = -1 ∨ ∃ t : Nat, other s.sills[n] e = t ∧ t < s.floors.length := by
  obtain ⟨e1, e2, -⟩ := EndOk.of ok (List.getElem_mem h)
  have key : ∀ y : Int, (y = -1 ∨ 0 ≤ y ∧ y < s.floors.length) → y = -1 ∨ ∃ t : Nat, y = t ∧ t < s.floors.length := fun y hy => by
    rcases hy with h | h
    · exact .inl h
    · exact .inr ⟨y.toNat, by omega, by omega⟩
  unfold other
  cases (e == s.sills[n].1) with
  | true => exact key _ e2
  | false =>
    cases (e == s.sills[n].2.1) with
    | true => exact key _ e1
    | false => exact .inl rfl
/-- the Boolean cells of the places that were met -/
def metB (M : List Int) : List Value := (List.range 8).map fun (i : Nat) => .bool (decide ((i : Int) ∈ M))
theorem metB_len (M : List Int) : (metB M).length = 8 := by simp [metB]
theorem metB_get (M : List Int) (n : Nat) (h : n < 8) : (metB M)[n]? = some (.bool (decide ((n : Int) ∈ M))) := by
  unfold metB
  rw [List.getElem?_map, List.getElem?_range h]
  rfl
theorem metB_set (M : List Int) (n : Nat) (h : n < 8) : (metB M).set n (.bool true) = metB (M ++ [(n : Int)]) := by
  apply List.ext_getElem?
  intro i
  rw [List.getElem?_set]
  split
  · next e =>
    subst e
    rw [if_pos (by rw [metB_len]; exact h), metB_get _ _ h]
    simp
  · next e =>
    by_cases hi : i < 8
    · rw [metB_get _ _ hi, metB_get _ _ hi]
      have : ((i : Int) ∈ M ++ [(n : Int)]) ↔ (i : Int) ∈ M := by
        rw [List.mem_append, List.mem_singleton]
        exact ⟨fun k => k.elim id (fun k => absurd k (by omega)), .inl⟩
      simp only [this]
    · rw [List.getElem?_eq_none (by rw [metB_len]; omega), List.getElem?_eq_none (by rw [metB_len]; omega)]
/-- a step of the search -/
theorem folS_stop {i : Int} {r M : List Int} {e c : Int} (h : other (sillAt s i) e = -1 ∨ other (sillAt s i) e ∈ M) : folS s (i :: r) M e c = none := by
  show (if _ then _ else _) = _
  rw [if_pos h]
theorem folS_go {i : Int} {r M : List Int} {e c : Int} (h : ¬ (other (sillAt s i) e = -1 ∨ other (sillAt s i) e ∈ M)) : folS s (i :: r) M e c = folS s r (M ++ [other (sillAt s i) e]) (other (sillAt s i) e) (max c (max (sillAt s i).2.2 (flAt s (other (sillAt s i) e)))) := by
  show (if _ then _ else _) = _
  rw [if_neg h]
end Go.Proofs.Ytifcmbeejichdaa
/- Plain facts: the reference's least crests, by letting crests fall from sill to sill as many times as there are places. -/
namespace Go.Proofs.Ytifcmbeejichdaa
section
open Go.RowKit

/-- the crest over one sill more -/
def ovr (s : Sd) (g : List Int) (a b h : Int) : Int := max (max (if 0 ≤ a then g[a.toNat]?.getD 0 else 0) h) (s.floors[b.toNat]?.getD 0)
def relB (s : Sd) (ss ps : List Int) (i : Nat) (g : List Int) (a b h : Int) : List Int :=
  if 0 ≤ b ∧ (i : Int) ∉ ss ∧ b ∉ ps then g.set b.toNat (min (g[b.toNat]?.getD 0) (ovr s g a b h)) else g
def rsill (s : Sd) (ss ps : List Int) (g : List Int) (i : Nat) (x : Int × Int × Int) : List Int := relB s ss ps i (relB s ss ps i g x.1 x.2.1 x.2.2) x.2.1 x.1 x.2.2
def rpass (s : Sd) (ss ps : List Int) (g : List Int) : Nat → List Int
  | 0 => g
  | k + 1 => rsill s ss ps (rpass s ss ps g k) k (s.sills[k]?.getD (0, 0, 0))
def rounds (s : Sd) (ss ps : List Int) : Nat → List Int
  | 0 => List.replicate s.floors.length 5000
  | k + 1 => rpass s ss ps (rounds s ss ps k) s.sills.length
/-- the least crests without some sills and places -/
def lowR (s : Sd) (ss ps : List Int) : List Int := rounds s ss ps s.floors.length

section
variable {s : Sd} {ss ps : List Int} {c : Int}
theorem relB_len (i : Nat) (g : List Int) (a b h : Int) : (relB s ss ps i g a b h).length = g.length := by
  unfold relB
  split <;> simp
theorem rsill_len (g : List Int) (i : Nat) (x : Int × Int × Int) : (rsill s ss ps g i x).length = g.length := by unfold rsill; rw [relB_len, relB_len]
theorem rpass_len (g : List Int) : ∀ k, (rpass s ss ps g k).length = g.length
  | 0 => rfl
  | k + 1 => by unfold rpass; rw [rsill_len, rpass_len]
theorem rounds_len : ∀ k, (rounds s ss ps k).length = s.floors.length
  | 0 => by simp [rounds]
  | k + 1 => by unfold rounds; rw [rpass_len, rounds_len]

/-- what holds at the start, and with each sill, holds at the end -/
theorem rounds_inv (I : List Int → Prop) (h0 : I (List.replicate s.floors.length 5000))
    (step : ∀ (g : List Int) (i : Nat) (hi : i < s.sills.length) (a b : Int), g.length = s.floors.length → (a, b) = (s.sills[i].1, s.sills[i].2.1) ∨ (a, b) = (s.sills[i].2.1, s.sills[i].1) → I g → I (relB s ss ps i g a b s.sills[i].2.2)) : ∀ k, I (rounds s ss ps k)
  | 0 => h0
  | k + 1 => by
    have h := rounds_inv I h0 step k
    have hl := rounds_len (s := s) (ss := ss) (ps := ps) k
    unfold rounds
    generalize rounds s ss ps k = g at *
    have key : ∀ n, n ≤ s.sills.length → I (rpass s ss ps g n) := by
      intro n
      induction n with
      | zero => exact fun _ => h
      | succ n ih =>
        intro hn
        have h1 := ih (by omega)
        have l1 : (rpass s ss ps g n).length = s.floors.length := by rw [rpass_len, hl]
        unfold rpass rsill
        rw [List.getElem?_eq_getElem (show n < s.sills.length by omega), Option.getD_some]
        have h2 := step _ n (by omega) _ _ l1 (.inl rfl) h1
        exact step _ n (by omega) _ _ (by rw [relB_len]; exact l1) (.inr rfl) h2
    exact key _ (Nat.le_refl _)

/-- closed under what lets water of this height through -/
def ClE (s : Sd) (ss ps : List Int) (c : Int) (g : List Int) (i : Nat) (a b h : Int) : Prop :=
  0 ≤ b → (i : Int) ∉ ss → b ∉ ps → h ≤ c → s.floors[b.toNat]?.getD 0 ≤ c → (a = -1 ∨ g[a.toNat]?.getD 0 ≤ c) → g[b.toNat]?.getD 0 ≤ c
/-- the same are not above -/
def SameAt (c : Int) (g g' : List Int) : Prop := ∀ p : Nat, g'[p]?.getD 0 ≤ c ↔ g[p]?.getD 0 ≤ c
theorem SameAt.cl {g g' : List Int} (h : SameAt c g g') {i : Nat} {a b x : Int} (k : ClE s ss ps c g' i a b x) : ClE s ss ps c g i a b x := by
  intro h1 h2 h3 h4 h5 h6
  refine (h _).1 (k h1 h2 h3 h4 h5 ?_)
  rcases h6 with h6 | h6
  · exact .inl h6
  · exact .inr ((h _).2 h6)
theorem oc_le : ∀ (g g' : List Int), g'.length = g.length → (∀ p : Nat, p < g.length → g'[p]?.getD 0 ≤ g[p]?.getD 0) → oc c g' ≤ oc c g
  | [], [], _, _ => Nat.le_refl _
  | [], y :: r', h, _ => by simp at h
  | x :: r, [], h, _ => by simp at h
  | x :: r, y :: r', h, k => by
    have h0 := k 0 (by simp)
    simp only [List.getElem?_cons_zero, Option.getD_some] at h0
    have ih := oc_le r r' (by simpa using h) (fun p hp => by have := k (p + 1) (by simpa using hp); simpa using this)
    unfold oc at ih ⊢
    rw [List.countP_cons, List.countP_cons]
    by_cases e : c < y
    · rw [if_pos (by simpa using e), if_pos (by simp only [decide_eq_true_eq]; omega)]; omega
    · rw [if_neg (by simpa using e)]; omega
theorem oc_lt : ∀ (g g' : List Int) (b : Nat), g'.length = g.length → (∀ p : Nat, p < g.length → g'[p]?.getD 0 ≤ g[p]?.getD 0) → b < g.length → g'[b]?.getD 0 ≤ c → c < g[b]?.getD 0 → oc c g' < oc c g
  | [], _, _, _, _, hb, _, _ => by simp at hb
  | x :: r, [], _, h, _, _, _, _ => by simp at h
  | x :: r, y :: r', 0, h, k, _, h1, h2 => by
    have ih := oc_le (c := c) r r' (by simpa using h) (fun p hp => by have := k (p + 1) (by simpa using hp); simpa using this)
    simp only [List.getElem?_cons_zero, Option.getD_some] at h1 h2
    unfold oc at ih ⊢
    rw [List.countP_cons, List.countP_cons, if_neg (by simp only [decide_eq_true_eq]; omega), if_pos (by simpa using h2)]
    omega
  | x :: r, y :: r', b + 1, h, k, hb, h1, h2 => by
    have h0 := k 0 (by simp)
    simp only [List.getElem?_cons_zero, Option.getD_some] at h0
    have ih := oc_lt r r' b (by simpa using h) (fun p hp => by have := k (p + 1) (by simpa using hp); simpa using this) (by simpa using hb) (by simpa using h1) (by simpa using h2)
    unfold oc at ih ⊢
    rw [List.countP_cons, List.countP_cons]
    by_cases e : c < y
    · rw [if_pos (by simpa using e), if_pos (by simp only [decide_eq_true_eq]; omega)]; omega
    · rw [if_neg (by simpa using e)]; omega
theorem relB_down (i : Nat) (g : List Int) (a b h : Int) (p : Nat) (hb : b < g.length) : (relB s ss ps i g a b h)[p]?.getD 0 ≤ g[p]?.getD 0 := by
  unfold relB
  split
  · next hc =>
    rw [set_get g _ _ _ (by omega)]
    split
    · next e => subst e; omega
    · exact Int.le_refl _
  · exact Int.le_refl _
/-- one step: fewer are above, or the same; then the step is closed -/
theorem relB_or (c0 : 0 ≤ c) (i : Nat) (g : List Int) (a b h : Int) (ha : a = -1 ∨ 0 ≤ a) (hb : b < g.length) :
    oc c (relB s ss ps i g a b h) < oc c g ∨ (SameAt c g (relB s ss ps i g a b h) ∧ ClE s ss ps c g i a b h) := by
  by_cases hs : SameAt c g (relB s ss ps i g a b h)
  · right
    refine ⟨hs, fun h1 h2 h3 h4 h5 h6 => ?_⟩
    refine (hs b.toNat).1 ?_
    unfold relB
    rw [if_pos ⟨h1, h2, h3⟩, set_get g _ _ _ (by omega), if_pos rfl]
    have : ovr s g a b h ≤ c := by
      unfold ovr
      rcases h6 with rfl | h6
      · rw [if_neg (by decide)]; omega
      · split <;> omega
    omega
  · left
    have : ∃ p, ¬ ((relB s ss ps i g a b h)[p]?.getD 0 ≤ c ↔ g[p]?.getD 0 ≤ c) := Classical.not_forall.1 hs
    obtain ⟨p, hp⟩ := this
    have hd := relB_down (s := s) (ss := ss) (ps := ps) i g a b h p hb
    have h1 : (relB s ss ps i g a b h)[p]?.getD 0 ≤ c ∧ c < g[p]?.getD 0 := by
      by_cases e : g[p]?.getD 0 ≤ c
      · exact absurd ⟨fun _ => e, fun _ => by omega⟩ hp
      · refine ⟨?_, by omega⟩
        refine Decidable.byContradiction fun e' => hp ⟨fun k => absurd k e', fun k => absurd k e⟩
    have hpl : p < g.length := by
      refine Decidable.byContradiction fun e => ?_
      rw [List.getElem?_eq_none (show g.length ≤ p by omega)] at h1
      have := h1.2
      simp only [Option.getD_none] at this
      omega
    exact oc_lt g _ p (relB_len i g a b h) (fun q _ => relB_down i g a b h q hb) hpl h1.1 h1.2
/-- closed at all sills -/
def ClAll (s : Sd) (ss ps : List Int) (c : Int) (g : List Int) (n : Nat) : Prop := ∀ i (hi : i < s.sills.length), i < n → ClE s ss ps c g i s.sills[i].1 s.sills[i].2.1 s.sills[i].2.2 ∧ ClE s ss ps c g i s.sills[i].2.1 s.sills[i].1 s.sills[i].2.2
theorem SameAt.refl (g : List Int) : SameAt c g g := fun _ => Iff.rfl
theorem SameAt.trans {g g' g'' : List Int} (h : SameAt c g g') (k : SameAt c g' g'') : SameAt c g g'' := fun p => (k p).trans (h p)
theorem countP_same : ∀ {g g' : List Int}, g'.length = g.length → SameAt c g g' → oc c g' = oc c g
  | [], [], _, _ => rfl
  | [], y :: r', h, _ => by simp at h
  | x :: r, [], h, _ => by simp at h
  | x :: r, y :: r', h, k => by
    have h0 := k 0
    simp only [List.getElem?_cons_zero, Option.getD_some] at h0
    have ih := countP_same (g := r) (g' := r') (by simpa using h) (fun p => by have := k (p + 1); simpa using this)
    unfold oc at ih ⊢
    rw [List.countP_cons, List.countP_cons, ih]
    by_cases e : c < y
    · rw [if_pos (by simpa using e), if_pos (by simp only [decide_eq_true_eq]; omega)]
    · rw [if_neg (by simpa using e), if_neg (by simp only [decide_eq_true_eq]; omega)]
theorem rpass_or (ok : Ok s) (c0 : 0 ≤ c) (g : List Int) (hg : g.length = s.floors.length) : ∀ n, n ≤ s.sills.length → oc c (rpass s ss ps g n) < oc c g ∨ (SameAt c g (rpass s ss ps g n) ∧ ClAll s ss ps c g n)
  | 0, _ => .inr ⟨SameAt.refl _, fun i hi h => absurd h (by omega)⟩
  | n + 1, hn => by
    have ih := rpass_or ok c0 g hg n (by omega)
    have l1 := rpass_len (s := s) (ss := ss) (ps := ps) g n
    have hx := EndOk.of ok (List.getElem_mem (show n < s.sills.length by omega))
    obtain ⟨e1, e2, -⟩ := hx
    have hr : rpass s ss ps g (n + 1) = relB s ss ps n (relB s ss ps n (rpass s ss ps g n) s.sills[n].1 s.sills[n].2.1 s.sills[n].2.2) s.sills[n].2.1 s.sills[n].1 s.sills[n].2.2 := by
      show rsill s ss ps (rpass s ss ps g n) n (s.sills[n]?.getD (0, 0, 0)) = _
      rw [List.getElem?_eq_getElem (show n < s.sills.length by omega), Option.getD_some]
      rfl
    rw [hr]
    generalize rpass s ss ps g n = u at *
    have k1 := relB_or (s := s) (ss := ss) (ps := ps) c0 n u s.sills[n].1 s.sills[n].2.1 s.sills[n].2.2 (by omega) (by omega)
    have d1 := oc_le (c := c) u (relB s ss ps n u s.sills[n].1 s.sills[n].2.1 s.sills[n].2.2) (relB_len ..) (fun p _ => relB_down n u _ _ _ p (by omega))
    have l2 := relB_len (s := s) (ss := ss) (ps := ps) n u s.sills[n].1 s.sills[n].2.1 s.sills[n].2.2
    generalize relB s ss ps n u s.sills[n].1 s.sills[n].2.1 s.sills[n].2.2 = v at *
    have k2 := relB_or (s := s) (ss := ss) (ps := ps) c0 n v s.sills[n].2.1 s.sills[n].1 s.sills[n].2.2 (by omega) (by omega)
    have d2 := oc_le (c := c) v (relB s ss ps n v s.sills[n].2.1 s.sills[n].1 s.sills[n].2.2) (relB_len ..) (fun p _ => relB_down n v _ _ _ p (by omega))
    rcases ih with ih | ⟨ih1, ih2⟩
    · left; omega
    · rcases k1 with k1 | ⟨k1, k1'⟩
      · left
        have : oc c u = oc c g := countP_same l1 ih1
        omega
      · rcases k2 with k2 | ⟨k2, k2'⟩
        · left
          have e1 : oc c u = oc c g := countP_same l1 ih1
          have e2 : oc c v = oc c u := countP_same l2 k1
          omega
        · right
          refine ⟨(ih1.trans k1).trans k2, fun i hi h => ?_⟩
          by_cases e : i = n
          · subst e
            exact ⟨ih1.cl k1', (ih1.trans k1).cl k2'⟩
          · exact ih2 i hi (by omega)

/-- a closed step changes nothing at this height -/
theorem relB_same (i : Nat) (g : List Int) (a b h : Int) (ha : a = -1 ∨ 0 ≤ a) (hb : b < g.length) (k : ClE s ss ps c g i a b h) : SameAt c g (relB s ss ps i g a b h) := by
  intro p
  have hd := relB_down (s := s) (ss := ss) (ps := ps) i g a b h p hb
  refine ⟨fun h1 => ?_, fun h1 => by omega⟩
  unfold relB at h1
  split at h1
  · next hc =>
    rw [set_get g _ _ _ (by omega)] at h1
    split at h1
    · next e =>
      by_cases h2 : g[b.toNat]?.getD 0 ≤ c
      · rw [← e]; exact h2
      · have h3 : ovr s g a b h ≤ c := by omega
        unfold ovr at h3
        rw [← e]
        refine k hc.1 hc.2.1 hc.2.2 (by omega) (by omega) ?_
        rcases ha with ha | ha
        · exact .inl ha
        · rw [if_pos ha] at h3; exact .inr (by omega)
    · exact h1
  · exact h1
theorem rpass_same (ok : Ok s) (g : List Int) (hg : g.length = s.floors.length) (k : ClAll s ss ps c g s.sills.length) : ∀ n, n ≤ s.sills.length → SameAt c g (rpass s ss ps g n)
  | 0, _ => SameAt.refl _
  | n + 1, hn => by
    have ih := rpass_same ok g hg k n (by omega)
    have l1 := rpass_len (s := s) (ss := ss) (ps := ps) g n
    obtain ⟨e1, e2, -⟩ := EndOk.of ok (List.getElem_mem (show n < s.sills.length by omega))
    obtain ⟨k1, k2⟩ := k n (by omega) (by omega)
    have hr : rpass s ss ps g (n + 1) = relB s ss ps n (relB s ss ps n (rpass s ss ps g n) s.sills[n].1 s.sills[n].2.1 s.sills[n].2.2) s.sills[n].2.1 s.sills[n].1 s.sills[n].2.2 := by
      show rsill s ss ps (rpass s ss ps g n) n (s.sills[n]?.getD (0, 0, 0)) = _
      rw [List.getElem?_eq_getElem (show n < s.sills.length by omega), Option.getD_some]
      rfl
    rw [hr]
    generalize rpass s ss ps g n = u at *
    have sy : ∀ {x y : List Int}, SameAt c x y → SameAt c y x := fun h p => (h p).symm
    have j1 := relB_same n u s.sills[n].1 s.sills[n].2.1 s.sills[n].2.2 (by omega) (by omega) ((sy ih).cl k1)
    have l2 := relB_len (s := s) (ss := ss) (ps := ps) n u s.sills[n].1 s.sills[n].2.1 s.sills[n].2.2
    generalize relB s ss ps n u s.sills[n].1 s.sills[n].2.1 s.sills[n].2.2 = v at *
    have i2 := ih.trans j1
    exact i2.trans (relB_same n v s.sills[n].2.1 s.sills[n].1 s.sills[n].2.2 (by omega) (by omega) ((sy i2).cl k2))
theorem rounds_or (ok : Ok s) (c0 : 0 ≤ c) : ∀ k, ClAll s ss ps c (rounds s ss ps k) s.sills.length ∨ oc c (rounds s ss ps k) + k ≤ s.floors.length
  | 0 => by
    right
    unfold rounds oc
    have := List.countP_le_length (p := fun v => decide (c < v)) (l := List.replicate s.floors.length (5000 : Int))
    rw [List.length_replicate] at this
    omega
  | k + 1 => by
    have ih := rounds_or ok c0 k
    have hl := rounds_len (s := s) (ss := ss) (ps := ps) k
    have hr : rounds s ss ps (k + 1) = rpass s ss ps (rounds s ss ps k) s.sills.length := rfl
    rw [hr]
    generalize rounds s ss ps k = g at *
    have sy : ∀ {x y : List Int}, SameAt c x y → SameAt c y x := fun h p => (h p).symm
    rcases ih with ih | ih
    · left
      have j := rpass_same ok g hl ih _ (Nat.le_refl _)
      exact fun i hi h => ⟨(sy j).cl (ih i hi h).1, (sy j).cl (ih i hi h).2⟩
    · rcases rpass_or (ss := ss) (ps := ps) ok c0 g hl _ (Nat.le_refl _) with j | ⟨j1, j2⟩
      · right; omega
      · left
        exact fun i hi h => ⟨(sy j1).cl (j2 i hi h).1, (sy j1).cl (j2 i hi h).2⟩
theorem oc_zero : ∀ {g : List Int}, oc c g = 0 → ∀ p, p < g.length → g[p]?.getD 0 ≤ c
  | [], _, p, h => by simp at h
  | x :: r, h, p, hp => by
    unfold oc at h
    rw [List.countP_cons] at h
    have h1 : List.countP (fun v => decide (c < v)) r = 0 := by omega
    have h2 : ¬ c < x := fun e => by rw [if_pos (by simpa using e)] at h; omega
    cases p with
    | zero => simp; omega
    | succ p =>
      have := oc_zero (g := r) h1 p (by simpa using hp)
      simpa using this
/-- the least crests let no water through that they do not count -/
theorem low_closed (ok : Ok s) (c0 : 0 ≤ c) : ClAll s ss ps c (lowR s ss ps) s.sills.length := by
  have hl := rounds_len (s := s) (ss := ss) (ps := ps) s.floors.length
  rcases rounds_or (ss := ss) (ps := ps) ok c0 s.floors.length with h | h
  · exact h
  · have h0 : oc c (lowR s ss ps) = 0 := by unfold lowR; omega
    intro i hi _
    obtain ⟨e1, e2, -⟩ := EndOk.of ok (List.getElem_mem hi)
    have hl' : (lowR s ss ps).length = s.floors.length := hl
    exact ⟨fun b0 _ _ _ _ _ => oc_zero h0 _ (by omega), fun b0 _ _ _ _ _ => oc_zero h0 _ (by omega)⟩
theorem closed_all {h : Int} (ok : Ok s) (h9 : h < 1050) {g : List Int} (k : ClAll s [] [] h g s.sills.length) (p : Nat) (hpl : p < s.floors.length) (hg : gateOf s p ≤ h) : g[p]?.getD 0 ≤ h := by
  have key : ∀ x ∈ s.sills, ∀ a b : Int, (a, b) = (x.1, x.2.1) ∨ (a, b) = (x.2.1, x.1) → 0 ≤ b ∧ b < s.floors.length → x.2.2 ≤ h → s.floors[b.toNat]?.getD 0 ≤ h → (a = -1 ∨ g[a.toNat]?.getD 0 ≤ h) → g[b.toNat]?.getD 0 ≤ h := by
    intro x hx a b hab hb h1 h2 h3
    obtain ⟨i, hi, rfl⟩ := List.getElem_of_mem hx
    obtain ⟨k1, k2⟩ := k i hi hi
    rcases hab with e | e
    · cases e; exact k1 hb.1 (by simp) (by simp) h1 h2 h3
    · cases e; exact k2 hb.1 (by simp) (by simp) h1 h2 h3
  refine Decidable.byContradiction fun hc => ?_
  have := inv_iter s ok.fl1 (fun a => ∀ i, i < s.floors.length → h < g[i]?.getD 0 → h < a[i]?.getD 0)
    (fun a x b hl8 hx hb hbl hI i hi hgi => by
      rw [set_get a b i _ (by have := ok.fl1; omega)]
      split
      · next e =>
        subst e
        have h1 := hI b hi hgi
        have hne : ¬ (x.2.2 ≤ h ∧ s.floors[b]?.getD 0 ≤ h) := fun hcc => by
          have ho : (-1, (b : Int)) = (x.1, x.2.1) ∨ (-1, (b : Int)) = (x.2.1, x.1) := by
            unfold other at hb
            by_cases e1 : (-1 : Int) = x.1
            · rw [show ((-1 : Int) == x.1) = true from beq_iff_eq.2 e1] at hb
              exact Or.inl (by rw [← e1]; simp at hb; rw [hb])
            · rw [show ((-1 : Int) == x.1) = false from beq_eq_false_iff_ne.2 e1] at hb
              by_cases e2 : (-1 : Int) = x.2.1
              · rw [show ((-1 : Int) == x.2.1) = true from beq_iff_eq.2 e2] at hb
                exact Or.inr (by rw [← e2]; simp at hb; rw [hb])
              · rw [show ((-1 : Int) == x.2.1) = false from beq_eq_false_iff_ne.2 e2] at hb
                simp at hb
          have := key x hx (-1) b ho (by omega) hcc.1 (by simpa using hcc.2) (Or.inl rfl)
          simp only [Int.toNat_natCast] at this
          omega
        omega
      · exact hI i hi hgi)
    (fun a x f b hl8 hx hf hb hbl hI i hi hgi => by
      rw [set_get a b i _ (by have := ok.fl1; omega)]
      split
      · next e =>
        subst e
        have h1 := hI b hi hgi
        by_cases hgf : h < g[f]?.getD 0
        · have := hI f hf hgf
          omega
        · have hne : ¬ (x.2.2 ≤ h ∧ s.floors[b]?.getD 0 ≤ h) := fun hcc => by
            have ho : ((f : Int), (b : Int)) = (x.1, x.2.1) ∨ ((f : Int), (b : Int)) = (x.2.1, x.1) := by
              unfold other at hb
              by_cases e1 : (f : Int) = x.1
              · rw [show ((f : Int) == x.1) = true from beq_iff_eq.2 e1] at hb
                exact Or.inl (by rw [← e1]; simp at hb; rw [hb])
              · rw [show ((f : Int) == x.1) = false from beq_eq_false_iff_ne.2 e1] at hb
                by_cases e2 : (f : Int) = x.2.1
                · rw [show ((f : Int) == x.2.1) = true from beq_iff_eq.2 e2] at hb
                  exact Or.inr (by rw [← e2]; simp at hb; rw [hb])
                · rw [show ((f : Int) == x.2.1) = false from beq_eq_false_iff_ne.2 e2] at hb
                  simp at hb
            have := key x hx f b ho (by omega) hcc.1 (by simpa using hcc.2) (Or.inr (by simp only [Int.toNat_natCast]; omega))
            simp only [Int.toNat_natCast] at this
            omega
          omega
      · exact hI i hi hgi)
    (fun i hi _ => by
      have := ok.fl1
      unfold top
      rw [List.getElem?_replicate, if_pos (by omega)]
      show h < 1050
      omega)
  have h1 := this p hpl (by omega)
  unfold gateOf at hg
  omega

theorem low_le (ok : Ok s) : ∀ p, p < s.floors.length → (0 ≤ (lowR s ss ps)[p]?.getD 0 ∧ (lowR s ss ps)[p]?.getD 0 ≤ 999) ∨ (lowR s ss ps)[p]?.getD 0 = 5000 := by
  have := rounds_inv (s := s) (ss := ss) (ps := ps) (fun g => ∀ p, p < s.floors.length → (0 ≤ g[p]?.getD 0 ∧ g[p]?.getD 0 ≤ 999) ∨ g[p]?.getD 0 = 5000)
    (fun p hp => by right; rw [List.getElem?_replicate, if_pos hp]; rfl)
    (fun g i hi a b hl hab hI p hp => by
      obtain ⟨e1, e2, -⟩ := EndOk.of ok (List.getElem_mem hi)
      have hh := ok.heights _ (List.getElem_mem hi)
      unfold relB
      split
      · next hc =>
        have hb : 0 ≤ b ∧ b < s.floors.length := ⟨hc.1, by rcases hab with e | e <;> cases e <;> omega⟩
        have hf : 0 ≤ s.floors[b.toNat]?.getD 0 ∧ s.floors[b.toNat]?.getD 0 ≤ 999 := by
          rw [List.getElem?_eq_getElem (show b.toNat < s.floors.length by omega), Option.getD_some]
          exact ok.floors _ (List.getElem_mem _)
        rw [set_get g _ _ _ (by omega)]
        split
        · next e =>
          have h1 := hI b.toNat (by omega)
          have ha : a = -1 ∨ 0 ≤ a ∧ a < s.floors.length := by rcases hab with e | e <;> cases e <;> omega
          unfold ovr
          rcases ha with ha | ha
          · rw [if_neg (by omega)]; omega
          · rw [if_pos ha.1]
            have h2 := hI a.toNat (by omega)
            omega
        · exact hI p hp
      · exact hI p hp) s.floors.length
  exact this
/-- the reference's gate -/
def gateR (s : Sd) (q : Nat) : Int := if gateOf s q < 1050 then gateOf s q else 5000
theorem low_gate (ok : Ok s) (p : Nat) (hp : p < s.floors.length) : (lowR s [] [])[p]?.getD 0 = gateR s p := by
  have gl := fun q => gts_le s q
  have ge := rounds_inv (s := s) (ss := []) (ps := []) (fun g => ∀ q, q < s.floors.length → gateR s q ≤ g[q]?.getD 0)
    (fun q hq => by rw [List.getElem?_replicate, if_pos hq]; show gateR s q ≤ (5000 : Int); have := gl q; unfold gateR; split <;> omega)
    (fun g i hi a b hl hab hI q hq => by
      obtain ⟨e1, e2, -⟩ := EndOk.of ok (List.getElem_mem hi)
      have hh := ok.heights _ (List.getElem_mem hi)
      unfold relB
      split
      · next hc =>
        have hb : 0 ≤ b ∧ b < s.floors.length := ⟨hc.1, by rcases hab with e | e <;> cases e <;> omega⟩
        have ha : a = -1 ∨ 0 ≤ a ∧ a < s.floors.length := by rcases hab with e | e <;> cases e <;> omega
        have hf : 0 ≤ s.floors[b.toNat]?.getD 0 ∧ s.floors[b.toNat]?.getD 0 ≤ 999 := by
          rw [List.getElem?_eq_getElem (show b.toNat < s.floors.length by omega), Option.getD_some]
          exact ok.floors _ (List.getElem_mem _)
        rw [set_get g _ _ _ (by omega)]
        split
        · next e =>
          subst e
          have h1 := hI b.toNat hq
          have h2' := hI a.toNat
          have key : gateR s b.toNat ≤ ovr s g a b s.sills[i].2.2 := by
            unfold gateR at h2'
            unfold ovr gateR
            rcases ha with ha | ha
            · rw [if_neg (show ¬ 0 ≤ a by omega)]
              have := gate_step ok (List.getElem_mem hi) hb (.inl ha) hab (h := max (max 0 s.sills[i].2.2) (s.floors[b.toNat]?.getD 0)) (by omega) (by omega) (by omega) (.inl ha)
              rw [if_pos (show gateOf s b.toNat < 1050 by omega)]
              exact this
            · rw [if_pos ha.1]
              have h2 := h2' (by omega)
              by_cases hga : gateOf s a.toNat < 1050
              · rw [if_pos hga] at h2
                have g0 := (gl a.toNat).1
                have := gate_step ok (List.getElem_mem hi) hb (.inr ha) hab (h := max (max (gateOf s a.toNat) s.sills[i].2.2) (s.floors[b.toNat]?.getD 0)) (by omega) (by omega) (by omega) (.inr (by omega))
                rw [if_pos (show gateOf s b.toNat < 1050 by omega)]
                omega
              · rw [if_neg hga] at h2
                split <;> omega
          omega
        · exact hI q hq
      · exact hI q hq) s.floors.length p hp
  have g1 := gl p
  unfold gateR at ge ⊢
  split
  · next hlt =>
    rw [if_pos hlt] at ge
    have := closed_all ok hlt (low_closed (ss := []) (ps := []) (c := gateOf s p) ok g1.1) p hp (Int.le_refl _)
    unfold lowR at this ⊢
    omega
  · next hge =>
    rw [if_neg hge] at ge
    have := low_le (ss := []) (ps := []) ok p hp
    unfold lowR at this ⊢
    omega
end
end
end Go.Proofs.Ytifcmbeejichdaa
/- The exported At: the state of a place at a minute, or the error. -/
namespace Go.Proofs.Ytifcmbeejichdaa
open Go.RowKit Go.Shelf

def errHere (s : Sd) (m x : Int) : Int := if errAt s m = 0 then (bif isPl s x then 0 else 1) else errAt s m
def atV (s : Sd) (m x : Int) : Int := if errHere s m x = 0 then st s m x.toNat else 0
section
variable {pT pF pS : Option Addr} {cT cF cS : Nat}

set_option maxRecDepth 100000 in
set_option maxHeartbeats 1000000 in
theorem At_c (s : Sd) (m x : Int) (w : World) (hl : Lists w s pT pF pS cT cF cS) :
    Calls Try.prog 41 #[sdVal s pT pF pS cT cF cS, .int .i64 m, .int .i64 x] w fun e w' => e = .returned (.tuple #[.int .i64 (atV s m x), .int .i64 (errHere s m x)]) ∧ Up w w' := by
  have HC := Lib.hid (fun W (u : Up w W) => beginAt_c s m W (hl.up u))
  unfold atV errHere
  clear hl
  by_cases hE : errAt s m = 0
  · obtain ⟨hc, hm, -⟩ := errAt_zero hE
    have hf8 := (chk_ok hc).fl1
    have HO := Lib.hid (chk_ok hc)
    rw [if_pos hE]
    rw [hE] at HC
    unfold sdVal at *
    cases hp : isPl s x with
    | false =>
      have hp' : inB x 0 (s.floors.length - 1) = false := hp
      go_enter Try.func41, Try.ntmps41
      go_wp2_with fail
      refine (HC.out _ (by (repeat (first | exact Below.refl _ _ | (with_reducible refine Below.drewN' ?_ _) | (with_reducible refine Below.drew ?_) | (with_reducible refine Below.setCell ?_ (by first | exact Nat.le_refl _ | omega | (with_reducible (repeat (first | refine sz_alloc ?_ | refine sz_setCell ?_ | refine sz_drew ?_ | refine sz_drewN ?_)); first | exact Nat.le_refl _ | omega) | (simp only [World.size_alloc, World.size_setCell, World.size_drew, size_drewN']; omega)) _) | (with_reducible refine Below.alloc ?_ (by first | exact Nat.le_refl _ | omega | (with_reducible (repeat (first | refine sz_alloc ?_ | refine sz_setCell ?_ | refine sz_drew ?_ | refine sz_drewN ?_)); first | exact Nat.le_refl _ | omega) | (simp only [World.size_alloc, World.size_setCell, World.size_drew, size_drewN']; omega)) _) | assumption)))).mono ?_
      rintro e w1 ⟨p, rfl, u1, hok⟩
      obtain ⟨bw, rfl, hW⟩ := hok rfl
      have U1 := Lib.hid (Up.trans (show Up w (w.alloc (.cells (sdCells s pT pF pS cT cF cS).toArray 28)) by (repeat (first | exact Below.refl _ _ | (with_reducible refine Below.drewN' ?_ _) | (with_reducible refine Below.drew ?_) | (with_reducible refine Below.setCell ?_ (by first | exact Nat.le_refl _ | omega | (with_reducible (repeat (first | refine sz_alloc ?_ | refine sz_setCell ?_ | refine sz_drew ?_ | refine sz_drewN ?_)); first | exact Nat.le_refl _ | omega) | (simp only [World.size_alloc, World.size_setCell, World.size_drew, size_drewN']; omega)) _) | (with_reducible refine Below.alloc ?_ (by first | exact Nat.le_refl _ | omega | (with_reducible (repeat (first | refine sz_alloc ?_ | refine sz_setCell ?_ | refine sz_drew ?_ | refine sz_drewN ?_)); first | exact Nat.le_refl _ | omega) | (simp only [World.size_alloc, World.size_setCell, World.size_drew, size_drewN']; omega)) _) | assumption))) u1)
      have HW := Lib.hid hW
      clear hok hW u1 HC
      go_wp2_with fail
      refine (isPlace_c bw _ _ _ x _ HW.out.sands.s3 (by simp only [maxLen]; omega)).mono ?_
      rintro e w2 ⟨he, rfl⟩
      rw [hp'] at he
      subst he
      go_wp2_with fail
      go_ret2
      exact ⟨rfl, U1.out⟩
    | true =>
      have hp' : inB x 0 (s.floors.length - 1) = true := hp
      obtain ⟨x0, x1⟩ := inB_true.1 hp'
      obtain ⟨k, rfl⟩ : ∃ k : Nat, x = k := ⟨x.toNat, by omega⟩
      go_enter Try.func41, Try.ntmps41
      go_wp2_with fail
      refine (HC.out _ (by (repeat (first | exact Below.refl _ _ | (with_reducible refine Below.drewN' ?_ _) | (with_reducible refine Below.drew ?_) | (with_reducible refine Below.setCell ?_ (by first | exact Nat.le_refl _ | omega | (with_reducible (repeat (first | refine sz_alloc ?_ | refine sz_setCell ?_ | refine sz_drew ?_ | refine sz_drewN ?_)); first | exact Nat.le_refl _ | omega) | (simp only [World.size_alloc, World.size_setCell, World.size_drew, size_drewN']; omega)) _) | (with_reducible refine Below.alloc ?_ (by first | exact Nat.le_refl _ | omega | (with_reducible (repeat (first | refine sz_alloc ?_ | refine sz_setCell ?_ | refine sz_drew ?_ | refine sz_drewN ?_)); first | exact Nat.le_refl _ | omega) | (simp only [World.size_alloc, World.size_setCell, World.size_drew, size_drewN']; omega)) _) | assumption)))).mono ?_
      rintro e w1 ⟨p, rfl, u1, hok⟩
      obtain ⟨bw, rfl, hW⟩ := hok rfl
      have U1 := Lib.hid (Up.trans (show Up w (w.alloc (.cells (sdCells s pT pF pS cT cF cS).toArray 28)) by (repeat (first | exact Below.refl _ _ | (with_reducible refine Below.drewN' ?_ _) | (with_reducible refine Below.drew ?_) | (with_reducible refine Below.setCell ?_ (by first | exact Nat.le_refl _ | omega | (with_reducible (repeat (first | refine sz_alloc ?_ | refine sz_setCell ?_ | refine sz_drew ?_ | refine sz_drewN ?_)); first | exact Nat.le_refl _ | omega) | (simp only [World.size_alloc, World.size_setCell, World.size_drew, size_drewN']; omega)) _) | (with_reducible refine Below.alloc ?_ (by first | exact Nat.le_refl _ | omega | (with_reducible (repeat (first | refine sz_alloc ?_ | refine sz_setCell ?_ | refine sz_drew ?_ | refine sz_drewN ?_)); first | exact Nat.le_refl _ | omega) | (simp only [World.size_alloc, World.size_setCell, World.size_drew, size_drewN']; omega)) _) | assumption))) u1)
      have HW := Lib.hid hW
      clear hok hW u1 HC
      go_wp2_with fail
      refine (isPlace_c bw _ _ _ (k : Int) _ HW.out.sands.s3 (by simp only [maxLen]; omega)).mono ?_
      rintro e w2 ⟨he, rfl⟩
      rw [hp'] at he
      subst he
      go_wp2_with fail
      refine (state_c bw s m k _ HW.out HO.out hm (by omega)).mono ?_
      rintro e w2 ⟨rfl, u2⟩
      have U2 := Lib.hid (Up.trans U1.out u2)
      clear u2
      go_wp2_with fail
      go_ret2
      exact ⟨rfl, U2.out⟩
  · have hne : (errAt s m != 0) = true := by rw [bne_iff_ne]; exact hE
    rw [if_neg hE, if_neg hE]
    clear hE
    unfold sdVal at *
    go_enter Try.func41, Try.ntmps41
    go_wp2_with fail
    refine (HC.out _ (by (repeat (first | exact Below.refl _ _ | (with_reducible refine Below.drewN' ?_ _) | (with_reducible refine Below.drew ?_) | (with_reducible refine Below.setCell ?_ (by first | exact Nat.le_refl _ | omega | (with_reducible (repeat (first | refine sz_alloc ?_ | refine sz_setCell ?_ | refine sz_drew ?_ | refine sz_drewN ?_)); first | exact Nat.le_refl _ | omega) | (simp only [World.size_alloc, World.size_setCell, World.size_drew, size_drewN']; omega)) _) | (with_reducible refine Below.alloc ?_ (by first | exact Nat.le_refl _ | omega | (with_reducible (repeat (first | refine sz_alloc ?_ | refine sz_setCell ?_ | refine sz_drew ?_ | refine sz_drewN ?_)); first | exact Nat.le_refl _ | omega) | (simp only [World.size_alloc, World.size_setCell, World.size_drew, size_drewN']; omega)) _) | assumption)))).mono ?_
    rintro e w1 ⟨p, rfl, u1, -⟩
    have U1 := Lib.hid (Up.trans (show Up w (w.alloc (.cells (sdCells s pT pF pS cT cF cS).toArray 28)) by (repeat (first | exact Below.refl _ _ | (with_reducible refine Below.drewN' ?_ _) | (with_reducible refine Below.drew ?_) | (with_reducible refine Below.setCell ?_ (by first | exact Nat.le_refl _ | omega | (with_reducible (repeat (first | refine sz_alloc ?_ | refine sz_setCell ?_ | refine sz_drew ?_ | refine sz_drewN ?_)); first | exact Nat.le_refl _ | omega) | (simp only [World.size_alloc, World.size_setCell, World.size_drew, size_drewN']; omega)) _) | (with_reducible refine Below.alloc ?_ (by first | exact Nat.le_refl _ | omega | (with_reducible (repeat (first | refine sz_alloc ?_ | refine sz_setCell ?_ | refine sz_drew ?_ | refine sz_drewN ?_)); first | exact Nat.le_refl _ | omega) | (simp only [World.size_alloc, World.size_setCell, World.size_drew, size_drewN']; omega)) _) | assumption))) u1)
    clear u1 HC
    go_wp2_with fail
    go_ret2
    exact ⟨rfl, U1.out⟩
end
end Go.Proofs.Ytifcmbeejichdaa
/- Plain facts: until when a run of minutes lasts; places that are reached over the sills that may be taken; a place behind another one has no lesser gate. -/
namespace Go.Proofs.Ytifcmbeejichdaa
section
open Go.RowKit

theorem turnIn_append (l r : List (Int × Int)) (m : Int) : turnIn (l ++ r) m = (turnIn l m).or (turnIn r m) := by
  induction l with
  | nil => simp [turnIn]
  | cons x l ih =>
    rw [List.cons_append, turnIn_cons, turnIn_cons, ih]
    split <;> simp
theorem turnIn_past {l : List (Int × Int)} {m : Int} (h : ∀ x ∈ l, x.2 < m) : turnIn l m = none := by
  induction l with
  | nil => rfl
  | cons x l ih =>
    have := h x (by simp)
    rw [turnIn_cons, if_neg (by omega), ih (fun y hy => h y (by simp [hy]))]

/-- a run from a minute on ends at t -/
def RunTo (f : Int → Bool) (e m t : Int) : Prop := m ≤ t ∧ t < e ∧ (∀ x, m ≤ x → x ≤ t → f x = true) ∧ (t + 1 < e → f (t + 1) = false)
structure SpI (f : Int → Bool) (a : Int) (k : Nat) (st : List (Int × Int) × Int × Bool) : Prop where
  run : st.2.2 = true → a ≤ st.2.1 ∧ st.2.1 < a + k ∧ ∀ x, st.2.1 ≤ x → x < a + k → f x = true
  ends : ∀ x ∈ st.1, x.2 + 1 < a + k ∧ (st.2.2 = true → x.2 < st.2.1)
  some' : ∀ m t, a ≤ m → m < a + k → turnIn st.1 m = some t → m ≤ t ∧ t + 1 < a + k ∧ (∀ x, m ≤ x → x ≤ t → f x = true) ∧ f (t + 1) = false
  none' : ∀ m, a ≤ m → m < a + k → turnIn st.1 m = none → f m = true → st.2.2 = true ∧ st.2.1 ≤ m
theorem spI (f : Int → Bool) (a : Int) : ∀ k, SpI f a k (spSt f a k)
  | 0 => ⟨(by intro h; cases h), (by simp [spSt]), fun m t h1 h2 => (by omega), fun m h1 h2 => (by omega)⟩
  | k + 1 => by
    have h := spI f a k
    obtain ⟨h1, h2, h3, h4⟩ := h
    unfold spSt
    generalize spSt f a k = st at *
    obtain ⟨l, fr, o⟩ := st
    dsimp only at h1 h2 h3 h4 ⊢
    have past : turnIn l (a + k) = none := turnIn_past (fun x hx => by have := (h2 x hx).1; omega)
    by_cases hf : f (a + k) = true
    · rw [if_pos hf]
      cases o with
      | true =>
        obtain ⟨r1, r2, r3⟩ := h1 rfl
        rw [if_pos rfl]
        refine ⟨fun _ => ⟨r1, by show fr < a + ((k + 1 : Nat) : Int); omega, fun x x1 x2 => ?_⟩, fun x hx => ?_, fun m t m1 m2 ht => ?_, fun m m1 m2 ht hm => ?_⟩
        · by_cases hx : x = a + k
          · rw [hx]; exact hf
          · exact r3 x x1 (by omega)
        · have := h2 x hx
          exact ⟨by omega, this.2⟩
        · by_cases hm : m = a + k
          · rw [hm] at ht; rw [show turnIn l (a + k) = none from past] at ht; cases ht
          · obtain ⟨t1, t2, t3, t4⟩ := h3 m t m1 (by omega) ht
            exact ⟨t1, by omega, t3, t4⟩
        · by_cases hm' : m = a + k
          · exact ⟨rfl, by show fr ≤ m; omega⟩
          · exact h4 m m1 (by omega) ht hm
      | false =>
        rw [if_neg (by decide)]
        refine ⟨fun _ => ⟨by show a ≤ a + (k : Int); omega, by show a + (k : Int) < a + ((k + 1 : Nat) : Int); omega, fun x x1 x2 => ?_⟩, fun x hx => ?_, fun m t m1 m2 ht => ?_, fun m m1 m2 ht hm => ?_⟩
        · have x1' : a + (k : Int) ≤ x := x1
          rw [show x = a + k by omega]; exact hf
        · have := (h2 x hx).1
          exact ⟨by omega, fun _ => by show x.2 < a + (k : Int); omega⟩
        · by_cases hm : m = a + k
          · rw [hm] at ht; rw [show turnIn l (a + k) = none from past] at ht; cases ht
          · obtain ⟨t1, t2, t3, t4⟩ := h3 m t m1 (by omega) ht
            exact ⟨t1, by omega, t3, t4⟩
        · by_cases hm' : m = a + k
          · exact ⟨rfl, by show a + (k : Int) ≤ m; omega⟩
          · have := (h4 m m1 (by omega) ht hm).1; cases this
    · rw [if_neg hf]
      have hf' : f (a + k) = false := by simpa using hf
      cases o with
      | true =>
        obtain ⟨r1, r2, r3⟩ := h1 rfl
        rw [if_pos rfl]
        have one : ∀ m, turnIn [(fr, a + (k : Int) - 1)] m = if fr ≤ m ∧ m ≤ a + k - 1 then some (a + (k : Int) - 1) else none := fun m => by rw [turnIn_cons]; rfl
        refine ⟨(by intro h; cases h), fun x hx => ?_, fun m t m1 m2 ht => ?_, fun m m1 m2 ht hm => ?_⟩
        · refine ⟨?_, (by intro h; cases h)⟩
          rw [List.mem_append, List.mem_singleton] at hx
          rcases hx with hx | rfl
          · have := (h2 x hx).1; omega
          · show a + (k : Int) - 1 + 1 < _; omega
        · have ht' : (turnIn l m).or (turnIn [(fr, a + (k : Int) - 1)] m) = some t := by rw [← turnIn_append]; exact ht
          have hk1 : m ≠ a + k ∨ m = a + k := by omega
          rcases hk1 with hm | hm
          · cases hl : turnIn l m with
            | some t' =>
              rw [hl, Option.some_or] at ht'
              cases ht'
              obtain ⟨t1, t2, t3, t4⟩ := h3 m t m1 (by omega) hl
              exact ⟨t1, by omega, t3, t4⟩
            | none =>
              rw [hl, Option.none_or, one] at ht'
              split at ht'
              · next hc =>
                cases ht'
                refine ⟨hc.2, by omega, fun x x1 x2 => r3 x (by omega) (by omega), ?_⟩
                rw [show a + (k : Int) - 1 + 1 = a + k by omega]; exact hf'
              · cases ht'
          · rw [hm, past, Option.none_or, one, if_neg (by omega)] at ht'; cases ht'
        · have ht' : (turnIn l m).or (turnIn [(fr, a + (k : Int) - 1)] m) = none := by rw [← turnIn_append]; exact ht
          have hk1 : m ≠ a + k ∨ m = a + k := by omega
          rcases hk1 with hm' | hm'
          · cases hl : turnIn l m with
            | some t' => rw [hl, Option.some_or] at ht'; cases ht'
            | none =>
              rw [hl, Option.none_or, one] at ht'
              have := h4 m m1 (by omega) hl hm
              rw [if_pos (by omega)] at ht'; cases ht'
          · rw [hm', hf'] at hm; cases hm
      | false =>
        rw [if_neg (by decide)]
        refine ⟨(by intro h; cases h), fun x hx => ⟨?_, (by intro h; cases h)⟩, fun m t m1 m2 ht => ?_, fun m m1 m2 ht hm => ?_⟩
        · have := (h2 x hx).1; omega
        · by_cases hm : m = a + k
          · rw [hm] at ht; rw [show turnIn l (a + k) = none from past] at ht; cases ht
          · obtain ⟨t1, t2, t3, t4⟩ := h3 m t m1 (by omega) ht
            exact ⟨t1, by omega, t3, t4⟩
        · by_cases hm' : m = a + k
          · rw [hm', hf'] at hm; cases hm
          · exact h4 m m1 (by omega) ht hm
theorem turn_run (f : Int → Bool) (a : Int) (n : Nat) (m : Int) (h0 : a ≤ m) (h1 : m < a + n) :
    (f m = true → ∃ t, turnIn (spansOf f a n) m = some t ∧ RunTo f (a + n) m t) ∧ (f m = false → turnIn (spansOf f a n) m = none) := by
  obtain ⟨i1, i2, i3, i4⟩ := spI f a n
  unfold spansOf
  generalize spSt f a n = st at *
  obtain ⟨l, fr, o⟩ := st
  dsimp only at i1 i2 i3 i4 ⊢
  have inl : ∀ t, turnIn l m = some t → RunTo f (a + n) m t := fun t ht => by
    obtain ⟨t1, t2, t3, t4⟩ := i3 m t h0 h1 ht
    exact ⟨t1, by omega, t3, fun _ => t4⟩
  cases o with
  | true =>
    obtain ⟨r1, r2, r3⟩ := i1 rfl
    rw [if_pos rfl, turnIn_append]
    have one : turnIn [(fr, a + (n : Int) - 1)] m = if fr ≤ m ∧ m ≤ a + n - 1 then some (a + (n : Int) - 1) else none := by rw [turnIn_cons]; rfl
    cases hl : turnIn l m with
    | some t =>
      have hr := inl t hl
      refine ⟨fun _ => ⟨t, by rw [Option.some_or], hr⟩, fun hm => ?_⟩
      rw [hr.2.2.1 m (Int.le_refl _) hr.1] at hm; cases hm
    | none =>
      rw [Option.none_or, one]
      refine ⟨fun hm => ?_, fun hm => ?_⟩
      · have := (i4 m h0 h1 hl hm).2
        refine ⟨a + n - 1, if_pos (by omega), by omega, by omega, fun x x1 x2 => r3 x (by omega) (by omega), fun h => by omega⟩
      · by_cases hc : fr ≤ m
        · rw [r3 m hc h1] at hm; cases hm
        · rw [if_neg (by omega)]
  | false =>
    rw [if_neg (by decide)]
    cases hl : turnIn l m with
    | some t =>
      have hr := inl t hl
      refine ⟨fun _ => ⟨t, rfl, hr⟩, fun hm => ?_⟩
      rw [hr.2.2.1 m (Int.le_refl _) hr.1] at hm; cases hm
    | none =>
      refine ⟨fun hm => ?_, fun _ => rfl⟩
      have := (i4 m h0 h1 hl hm).1; cases this
theorem RunTo.le {f g : Int → Bool} {e m t u : Int} (h : RunTo f e m t) (k : RunTo g e m u) (hfg : ∀ x, g x = true → f x = true) : u ≤ t := by
  obtain ⟨h1, h2, h3, h4⟩ := h
  obtain ⟨k1, k2, k3, k4⟩ := k
  by_cases hc : t < u
  · have := h4 (by omega)
    rw [hfg _ (k3 (t + 1) (by omega) (by omega))] at this; cases this
  · omega
theorem fitB_one (s : Sd) (p : Int) (pd : Int → Bool) (m : Int) : fitB s [p] pd m = pd (st s m p.toNat) := by simp [fitB]
section
variable {s : Sd}
/-- until when one can stay -/
theorem turn_in (ok : Ok s) {x : Int} (hx : 0 ≤ x ∧ x < s.floors.length) {m : Int} (hm : inDay s m = true) :
    (st s m x.toNat = 0 → errTurn s x m = 0 ∧ RunTo (fun y => st s y x.toNat == 0) (lastM s.table + 1) m (turnV s x m)) ∧ (st s m x.toNat ≠ 0 → errTurn s x m = 6) := by
  obtain ⟨f0, f1, f2⟩ := firstM_lt ok.table
  obtain ⟨m0, m1⟩ : firstM s.table ≤ m ∧ m ≤ lastM s.table := inB_true.1 hm
  have hd : firstM s.table + (dayN s : Int) = lastM s.table + 1 := by unfold dayN; omega
  have k := turn_run (dryB s [x]) (firstM s.table) (dayN s) m m0 (by omega)
  rw [hd] at k
  have e : dryB s [x] = fun y => st s y x.toNat == 0 := by funext y; unfold dryB; rw [fitB_one]
  unfold errTurn turnV drySpans
  rw [if_pos (errFor_in ok hx), if_pos hm, if_pos (errFor_in ok hx), if_pos hm]
  rw [e] at k ⊢
  refine ⟨fun h => ?_, fun h => ?_⟩
  · obtain ⟨t, ht, hr⟩ := k.1 (by simp [h])
    rw [ht]
    exact ⟨rfl, hr⟩
  · rw [k.2 (by simp [h])]
end

section
variable {s : Sd} {may : Nat → Nat → Bool}
theorem wayAt_nat (ws : Ways) (t : Nat) : wayAt ws (t : Int) = ws[t]?.getD none := rfl
/-- which places are reached -/
abbrev Got (ws : Ways) (t : Nat) : Prop := ∃ l, ws[t]? = some (some l)
theorem leadW_got {way : List Int} {nS nF : Nat} (st : Ways × List Int) (x : Lead nS nF) (t : Nat) (h : Got st.1 t) : Got (leadW may way st x).1 t := by
  unfold leadW
  split
  · next hc =>
    obtain ⟨l, hl⟩ := h
    by_cases e : x.1.2 = t
    · rw [e] at hc; rw [hl] at hc; exact absurd hc.1 (by simp)
    · exact ⟨l, by show (st.1.set _ _)[t]? = _; rw [List.getElem?_set_ne e]; exact hl⟩
  · exact h
theorem leadW_que {way : List Int} {nS nF : Nat} (st : Ways × List Int) (x : Lead nS nF) (t : Nat) (h : (t : Int) ∈ st.2) : (t : Int) ∈ (leadW may way st x).2 := by
  unfold leadW
  split
  · exact List.mem_append_left _ h
  · exact h
theorem leadW_new' {way : List Int} {nS nF : Nat} (st : Ways × List Int) (x : Lead nS nF) (t : Nat) (h : Got (leadW may way st x).1 t) : Got st.1 t ∨ (t : Int) ∈ (leadW may way st x).2 ∧ may x.1.1 t = true := by
  unfold leadW at h ⊢
  split at h
  · next hc =>
    rw [if_pos hc]
    by_cases e : x.1.2 = t
    · exact Or.inr ⟨by rw [← e]; simp, by rw [← e]; exact hc.2⟩
    · obtain ⟨l, hl⟩ := h
      rw [show (st.1.set x.1.2 (some (way ++ [(x.1.1 : Int)])))[t]? = st.1[t]? from List.getElem?_set_ne e] at hl
      exact Or.inl ⟨l, hl⟩
  · exact Or.inl h
theorem leadW_done {way : List Int} {nS nF : Nat} (st : Ways × List Int) (x : Lead nS nF) (h8 : nF ≤ 8) (hl : st.1.length = 8) (hm : may x.1.1 x.1.2 = true) : Got (leadW may way st x).1 x.1.2 := by
  have hx := x.2.2
  have hlt : x.1.2 < st.1.length := by omega
  unfold leadW
  split
  · exact ⟨_, by show (st.1.set _ _)[_]? = _; rw [List.getElem?_set_self hlt]⟩
  · next hc =>
    cases e : st.1[x.1.2] with
    | none => exact absurd ⟨by rw [List.getElem?_eq_getElem hlt, e], hm⟩ hc
    | some l => exact ⟨l, by rw [List.getElem?_eq_getElem hlt, e]⟩
theorem leadW_len {way : List Int} {nS nF : Nat} (st : Ways × List Int) (x : Lead nS nF) : (leadW may way st x).1.length = st.1.length := by
  unfold leadW
  split
  · simp
  · rfl
/-- behind a row of leads -/
theorem led_all {way : List Int} {nS nF : Nat} (h8 : nF ≤ 8) : ∀ (l : List (Lead nS nF)) (st : Ways × List Int), st.1.length = 8 →
    (l.foldl (leadW may way) st).1.length = 8 ∧ (∀ t, Got st.1 t → Got (l.foldl (leadW may way) st).1 t) ∧ (∀ t : Nat, (t : Int) ∈ st.2 → (t : Int) ∈ (l.foldl (leadW may way) st).2) ∧
    (∀ t, Got (l.foldl (leadW may way) st).1 t → Got st.1 t ∨ (t : Int) ∈ (l.foldl (leadW may way) st).2 ∧ ∃ i, may i t = true) ∧ (∀ x ∈ l, may x.1.1 x.1.2 = true → Got (l.foldl (leadW may way) st).1 x.1.2)
  | [], st, hl => ⟨hl, fun _ h => h, fun _ h => h, fun _ h => Or.inl h, fun x hx => by simp at hx⟩
  | y :: r, st, hl => by
    obtain ⟨h1, h2, h3, h4, h5⟩ := led_all (way := way) h8 r (leadW may way st y) (by rw [leadW_len]; exact hl)
    rw [List.foldl_cons]
    refine ⟨h1, fun t h => h2 t (leadW_got st y t h), fun t h => h3 t (leadW_que st y t h), fun t h => ?_, fun x hx hm => ?_⟩
    · rcases h4 t h with h | h
      · rcases leadW_new' st y t h with h | ⟨h, hm⟩
        · exact Or.inl h
        · exact Or.inr ⟨h3 t h, y.1.1, hm⟩
      · exact Or.inr h
    · rcases List.mem_cons.1 hx with rfl | hx
      · exact h2 _ (leadW_done st x h8 hl hm)
      · exact h5 x hx hm

/-- closed: what is led to from the Sea, or from places that were reached and are done, is reached -/
structure Shut (s : Sd) (may : Nat → Nat → Bool) (st : Ways × List Int) : Prop where
  len : st.1.length = 8
  sea : ∀ x ∈ leads s.sills s.floors.length (-1) s.sills.length, may x.1.1 x.1.2 = true → Got st.1 x.1.2
  on : ∀ f : Nat, Got st.1 f → (f : Int) ∈ st.2 ∨ ∀ x ∈ leads s.sills s.floors.length f s.sills.length, may x.1.1 x.1.2 = true → Got st.1 x.1.2
  may' : ∀ t, Got st.1 t → ∃ i, may i t = true
  few : st.2.length + nones st.1 ≤ 8
  nat : ∀ y ∈ st.2, 0 ≤ y ∧ y < s.floors.length
theorem Shut.start (h8 : s.floors.length ≤ 8) : Shut s may (ledW s may (-1) [] (List.replicate 8 none, [])) := by
  obtain ⟨h1, h2, h3, h4, h5⟩ := led_all (way := []) (may := may) h8 (leads s.sills s.floors.length (-1) s.sills.length) (List.replicate 8 none, []) rfl
  have no : ∀ t, ¬ Got (List.replicate 8 (none : Option (List Int))) t := fun t ⟨l, hl⟩ => by
    rw [List.getElem?_replicate] at hl
    split at hl <;> cases hl
  obtain ⟨k1, k2⟩ := foldW_keeps (may := may) (way := []) (leads s.sills s.floors.length (-1) s.sills.length) (List.replicate 8 none, [])
  refine ⟨h1, h5, fun f hf => ?_, fun t ht => ?_, ?_, fun y hy => ?_⟩
  · rcases h4 f hf with h | h
    · exact absurd h (no f)
    · exact Or.inl h.1
  · rcases h4 t ht with h | h
    · exact absurd h (no t)
    · exact h.2
  · unfold ledW
    rw [k1]
    decide
  · rcases k2 y hy with h | h
    · simp at h
    · exact h
theorem Shut.next (h8 : s.floors.length ≤ 8) {ws : Ways} {x : Int} {q : List Int} (h : Shut s may (ws, x :: q)) (way : List Int) : Shut s may (ledW s may x way (ws, q)) ∧ (ledW s may x way (ws, q)).2.length + nones (ledW s may x way (ws, q)).1 + 1 = (x :: q).length + nones ws := by
  obtain ⟨h1, h2, h3, h4, h5⟩ := led_all (way := way) (may := may) h8 (leads s.sills s.floors.length x s.sills.length) (ws, q) h.len
  obtain ⟨k1, k2⟩ := foldW_keeps (may := may) (way := way) (leads s.sills s.floors.length x s.sills.length) (ws, q)
  have hc : (ledW s may x way (ws, q)).2.length + nones (ledW s may x way (ws, q)).1 + 1 = (x :: q).length + nones ws := by
    unfold ledW
    rw [k1]
    simp only [List.length_cons]; omega
  have hx := h.nat x (by simp)
  refine ⟨⟨h1, fun y hy hm => h2 _ (h.sea y hy hm), fun f hf => ?_, fun t ht => ?_, ?_, fun y hy => ?_⟩, hc⟩
  · by_cases e : (f : Int) = x
    · subst e
      exact Or.inr (fun y hy hm => h5 y hy hm)
    · rcases h4 f hf with hg | hg
      · rcases h.on f hg with hq | hq
        · rcases List.mem_cons.1 hq with h' | h'
          · exact absurd h' e
          · exact Or.inl (h3 f h')
        · exact Or.inr (fun y hy hm => h2 _ (hq y hy hm))
      · exact Or.inl hg.1
  · rcases h4 t ht with hg | hg
    · exact h.may' t hg
    · exact hg.2
  · have := h.few
    simp only at this
    omega
  · rcases k2 y hy with hg | hg
    · exact h.nat y (by simp; exact Or.inr hg)
    · exact hg
theorem goW_shut (h8 : s.floors.length ≤ 8) : ∀ n (st : Ways × List Int), Shut s may st → st.2.length + nones st.1 ≤ n → Shut s may (goW s may n st) ∧ (goW s may n st).2 = []
  | 0, (ws, q), h, hn => by
    have : q = [] := List.length_eq_zero_iff.1 (by simp only at hn; omega)
    subst this
    exact ⟨h, rfl⟩
  | n + 1, (ws, []), h, _ => ⟨h, rfl⟩
  | n + 1, (ws, x :: q), h, hn => by
    obtain ⟨k1, k2⟩ := h.next h8 ((wayAt ws x).getD [])
    refine goW_shut h8 n _ k1 ?_
    simp only at hn
    omega
theorem waysOf_shut (h8 : s.floors.length ≤ 8) : (∀ x ∈ leads s.sills s.floors.length (-1) s.sills.length, may x.1.1 x.1.2 = true → Got (waysOf s may) x.1.2) ∧
    (∀ f : Nat, Got (waysOf s may) f → ∀ x ∈ leads s.sills s.floors.length f s.sills.length, may x.1.1 x.1.2 = true → Got (waysOf s may) x.1.2) ∧ (∀ t, Got (waysOf s may) t → ∃ i, may i t = true) := by
  obtain ⟨h, hq⟩ := goW_shut (s := s) (may := may) h8 8 _ (Shut.start h8) (Shut.start h8).few
  refine ⟨h.sea, fun f hf => ?_, h.may'⟩
  rcases h.on f hf with hm | hm
  · rw [hq] at hm; simp at hm
  · exact hm
end

section
variable {s : Sd}
/-- no lesser than the gate of q at places that are not reached without going over q -/
def Beh (U : Nat → Prop) (q : Nat) (g : List Int) : Prop := ∀ x, x < g.length → U x → g[q]?.getD 0 ≤ g[x]?.getD 0
theorem Beh.set {U : Nat → Prop} {q : Nat} {g : List Int} (h : Beh U q g) (t : Nat) (c : Int) (hc : t ≠ q → U t → g[q]?.getD 0 ≤ c) : Beh U q (g.set t (min (g[t]?.getD 0) c)) := by
  intro x hx hu
  rw [List.length_set] at hx
  have k := h x hx hu
  rw [List.getElem?_set, List.getElem?_set]
  by_cases e1 : t = q
  · subst e1
    by_cases e2 : t = x
    · subst e2; exact Int.le_refl _
    · rw [if_pos rfl, if_neg e2]
      by_cases hl : t < g.length
      · rw [if_pos hl, Option.getD_some]; omega
      · rw [if_neg hl]
        rw [List.getElem?_eq_none (by omega)] at k
        exact k
  · rw [if_neg e1]
    by_cases e2 : t = x
    · subst e2
      have := hc e1 hu
      rw [if_pos rfl, if_pos hx, Option.getD_some]; omega
    · rw [if_neg e2]; exact k
theorem beh_low1 {U : Nat → Prop} {q : Nat} : ∀ (l : List (Lead s.sills.length s.floors.length)) (g : List Int), (∀ x ∈ l, x.1.2 ≠ q → ¬ U x.1.2) → Beh U q g → Beh U q (l.foldl (low1 s) g)
  | [], _, _, h => h
  | x :: r, g, hu, h => beh_low1 r (low1 s g x) (fun y hy => hu y (by simp [hy])) (h.set _ _ (fun ht hU => absurd hU (hu x (by simp) ht)))
theorem beh_low2 {U : Nat → Prop} {q f : Nat} (hf : f < 8) : ∀ (l : List (Lead s.sills.length s.floors.length)) (g : List Int), g.length = 8 → (∀ x ∈ l, x.1.2 ≠ q → U x.1.2 → U f) → Beh U q g → Beh U q (l.foldl (low2 s f) g)
  | [], _, _, _, h => h
  | x :: r, g, hl, hu, h => beh_low2 hf r (low2 s f g x) (by simp [low2, hl]) (fun y hy => hu y (by simp [hy])) (h.set _ _ (fun ht hU => by
      have := h f (by omega) (hu x (by simp) ht hU)
      rw [grt2]; omega))
theorem beh_froms {U : Nat → Prop} {q : Nat} : ∀ (l : List Nat) (g : List Int), g.length = 8 → (∀ f ∈ l, f < 8 ∧ ∀ x ∈ leads s.sills s.floors.length f s.sills.length, x.1.2 ≠ q → U x.1.2 → U f) → Beh U q g → Beh U q (l.foldl (lowFrom s) g)
  | [], _, _, _, h => h
  | f :: r, g, hl, hu, h => beh_froms r (lowFrom s g f) (low2_len s f _ _ hl) (fun y hy => hu y (by simp [hy])) (beh_low2 (hu f (by simp)).1 _ _ hl (hu f (by simp)).2 h)
theorem behind_gts (h8 : s.floors.length ≤ 8) (q p : Nat) (hp : p < 8) (hn : ¬ Got (waysOf s (mayHold [] [(q : Int)])) p) : gateOf s q ≤ gateOf s p := by
  obtain ⟨w1, w2, w3⟩ := waysOf_shut (s := s) (may := mayHold [] [(q : Int)]) h8
  have may : ∀ i t, t ≠ q → mayHold [] [(q : Int)] i t = true := fun i t h => by simp [mayHold]; omega
  generalize hU : waysOf s (mayHold [] [(q : Int)]) = ws at *
  have key : ∀ n (g : List Int), g.length = 8 → Beh (fun x => ¬ Got ws x) q g → Beh (fun x => ¬ Got ws x) q (iterG s n g) ∧ (iterG s n g).length = 8 := by
    intro n
    induction n with
    | zero => exact fun g hl h => ⟨h, hl⟩
    | succ n ih =>
      intro g hl h
      refine ih (lowered s g) (lowered_len s g hl) ?_
      unfold lowered
      refine beh_froms _ _ (low1_len s _ _ hl) (fun f hf => ?_) (beh_low1 _ _ (fun x hx ht hu => hu (w1 x hx (may _ _ ht))) h)
      rw [List.mem_range] at hf
      exact ⟨by omega, fun x hx ht hu hf' => hu (w2 f hf' x hx (may _ _ ht))⟩
  have h9 := fun n => key n top rfl (fun x hx _ => by
    unfold top at *
    rw [List.length_replicate] at hx
    rw [List.getElem?_replicate, List.getElem?_replicate, if_pos hx]
    split <;> simp)
  unfold gateOf gts
  rw [fixG_iter]
  exact (h9 _).1 p (by rw [(h9 _).2]; exact hp) hn
theorem st_rng (s : Sd) (m : Int) (p : Nat) : st s m p = 0 ∨ st s m p = 1 ∨ st s m p = 2 := by
  unfold st
  repeat' split
  all_goals simp
theorem not_got {may : Nat → Nat → Bool} (h8 : s.floors.length ≤ 8) (t : Nat) (h : ∀ i, may i t = false) : ¬ Got (waysOf s may) t := fun hg => by
  obtain ⟨i, hi⟩ := (waysOf_shut (s := s) (may := may) h8).2.2 t hg
  rw [h i] at hi; cases hi
theorem way_none {ws : Ways} {t : Nat} : wayAt ws (t : Int) = none ↔ ¬ Got ws t := by
  rw [wayAt_nat]
  constructor
  · rintro h ⟨l, hl⟩; rw [hl] at h; cases h
  · intro h
    cases e : ws[t]? with
    | none => rfl
    | some o =>
      cases o with
      | none => rfl
      | some l => exact absurd ⟨l, e⟩ h
/-- a bank of one place alone -/
theorem hold_one (ok : Ok s) {p q : Nat} (hp : p < s.floors.length) (hq : q < s.floors.length) :
    (errHold s p [] [(q : Int)] = 0 ∨ errHold s p [] [(q : Int)] = 8) ∧ (p = q → errHold s p [] [(q : Int)] = 0) ∧
    (errHold s p [] [(q : Int)] = 0 → holdV s p [] [(q : Int)] = s.floors[q] ∧ gateOf s q ≤ gateOf s p) := by
  have h8 := ok.fl1
  have e : errHold s p [] [(q : Int)] = if wayAt (waysOf s (mayHold [] [(q : Int)])) (p : Int) = none then 0 else 8 := by
    unfold errHold
    rw [if_pos (errFor_in ok (by omega)), if_pos ⟨by simp, by
      rw [List.all_eq_true]; intro y hy
      simp only [List.mem_singleton] at hy
      subst hy
      exact inB_true.2 (by omega)⟩, if_pos ⟨by simp, by simp⟩]
    simp
  have hno : ∀ i, mayHold [] [(q : Int)] i q = false := fun i => by simp [mayHold]
  refine ⟨?_, fun h => ?_, fun h => ?_⟩
  · rw [e]; split
    · exact Or.inl rfl
    · exact Or.inr rfl
  · subst h
    rw [e, if_pos (way_none.2 (not_got h8 _ hno))]
  · have hn : wayAt (waysOf s (mayHold [] [(q : Int)])) (p : Int) = none := by
      rw [e] at h
      split at h
      · assumption
      · cases h
    refine ⟨?_, behind_gts h8 q p (by omega) (way_none.1 hn)⟩
    have hf := ok.floors s.floors[q] (List.getElem_mem hq)
    unfold holdV
    rw [if_pos h]
    simp only [leastF, leastS, List.foldl_cons, List.foldl_nil, Int.toNat_natCast, List.getElem?_eq_getElem hq, Option.getD_some]
    omega
theorem behind_st {p q : Nat} (h : gateOf s q ≤ gateOf s p) (m : Int) : st s m p ≤ st s m q := by
  unfold st
  repeat' split
  all_goals omega
theorem behind_gate (ok : Ok s) {p q : Nat} (hp : p < s.floors.length) (hq : q < s.floors.length) (h : gateOf s q ≤ gateOf s p) :
    (errGate s p = 0 ∨ errGate s p = 6) ∧ (errGate s p = 0 → errGate s q = 0 ∧ gateV s q ≤ gateV s p) := by
  rw [errGate_in ok (x := (p : Int)) (by omega), errGate_in ok (x := (q : Int)) (by omega), gateV_in ok (x := (p : Int)) (by omega), gateV_in ok (x := (q : Int)) (by omega)]
  simp only [Int.toNat_natCast]
  by_cases c : gateOf s p < 1050
  · have c' : gateOf s q < 1050 := by omega
    rw [if_pos c, if_pos c', if_pos c, if_pos c']
    exact ⟨Or.inl rfl, fun _ => ⟨rfl, h⟩⟩
  · rw [if_neg c]
    exact ⟨Or.inr rfl, fun h => by cases h⟩
theorem behind_turn (ok : Ok s) {p q : Nat} (hp : p < s.floors.length) (hq : q < s.floors.length) (h : gateOf s q ≤ gateOf s p) {m : Int} (hm : inDay s m = true) (hd : st s m q = 0) :
    errTurn s p m = 0 ∧ errTurn s q m = 0 ∧ turnV s q m ≤ turnV s p m := by
  have hp0 : st s m p = 0 := by
    have := behind_st h m
    rcases st_rng s m p with h | h | h <;> omega
  obtain ⟨a1, a2⟩ := (turn_in ok (x := (p : Int)) (by omega) hm).1 hp0
  obtain ⟨b1, b2⟩ := (turn_in ok (x := (q : Int)) (by omega) hm).1 hd
  refine ⟨a1, b1, a2.le b2 (fun x hx => ?_)⟩
  simp only [Int.toNat_natCast, beq_iff_eq] at hx ⊢
  have := behind_st h x
  rcases st_rng s x p with h | h | h <;> omega
theorem here_in (_ok : Ok s) {m : Int} (_hm : inDay s m = true) {p : Nat} (hp : p < s.floors.length) (hA : errAt s m = 0) : errHere s m p = 0 ∧ atV s m p = st s m p := by
  have e : errHere s m p = 0 := by
    unfold errHere
    rw [if_pos hA, show isPl s (p : Int) = true from inB_true.2 (by omega)]; rfl
  refine ⟨e, ?_⟩
  unfold atV
  rw [if_pos e]; rfl
end
end
end Go.Proofs.Ytifcmbeejichdaa
/- Plain facts: a bank holds just if the reference's crests without it are never; and how high it is. -/
namespace Go.Proofs.Ytifcmbeejichdaa
section
open Go.RowKit
variable {s : Sd} {ss ps : List Int}
/-- what holds of what is led to from the Sea, and from where it holds, holds of all that is reached -/
theorem led_inv {P : Nat → Prop} {may : Nat → Nat → Bool} {way : List Int} {nS nF : Nat} : ∀ (l : List (Lead nS nF)) (st : Ways × List Int), (∀ x ∈ l, may x.1.1 x.1.2 = true → P x.1.2) → (∀ t, Got st.1 t → P t) → (∀ y ∈ st.2, ∃ f : Nat, y = f ∧ P f) →
    (∀ t, Got (l.foldl (leadW may way) st).1 t → P t) ∧ (∀ y ∈ (l.foldl (leadW may way) st).2, ∃ f : Nat, y = f ∧ P f)
  | [], st, _, h1, h2 => ⟨h1, h2⟩
  | x :: r, st, h, h1, h2 => by
    rw [List.foldl_cons]
    refine led_inv r _ (fun y hy => h y (by simp [hy])) ?_ ?_
    · intro t ht
      unfold leadW at ht
      split at ht
      · next hc =>
        by_cases e : x.1.2 = t
        · rw [← e]; exact h x (by simp) hc.2
        · obtain ⟨l, hl⟩ := ht
          rw [show (st.1.set x.1.2 (some (way ++ [(x.1.1 : Int)])))[t]? = st.1[t]? from List.getElem?_set_ne e] at hl
          exact h1 t ⟨l, hl⟩
      · exact h1 t ht
    · intro y hy
      unfold leadW at hy
      split at hy
      · next hc =>
        rcases List.mem_append.1 hy with hy | hy
        · exact h2 y hy
        · rw [List.mem_singleton] at hy
          exact ⟨x.1.2, hy, h x (by simp) hc.2⟩
      · exact h2 y hy
theorem goW_inv {P : Nat → Prop} {may : Nat → Nat → Bool} (hp : ∀ f : Nat, P f → ∀ x ∈ leads s.sills s.floors.length f s.sills.length, may x.1.1 x.1.2 = true → P x.1.2) : ∀ n (st : Ways × List Int), (∀ t, Got st.1 t → P t) → (∀ y ∈ st.2, ∃ f : Nat, y = f ∧ P f) → ∀ t, Got (goW s may n st).1 t → P t
  | 0, st, h1, _ => h1
  | _ + 1, (ws, []), h1, _ => h1
  | n + 1, (ws, x :: q), h1, h2 => by
    obtain ⟨f, rfl, hf⟩ := h2 x (by simp)
    obtain ⟨k1, k2⟩ := led_inv (way := (wayAt ws f).getD []) (leads s.sills s.floors.length f s.sills.length) (ws, q) (hp f hf) h1 (fun y hy => h2 y (by simp [hy]))
    exact goW_inv hp n _ k1 k2
theorem ways_inv {P : Nat → Prop} {may : Nat → Nat → Bool} (hs : ∀ x ∈ leads s.sills s.floors.length (-1) s.sills.length, may x.1.1 x.1.2 = true → P x.1.2)
    (hp : ∀ f : Nat, P f → ∀ x ∈ leads s.sills s.floors.length f s.sills.length, may x.1.1 x.1.2 = true → P x.1.2) : ∀ t, Got (waysOf s may) t → P t := by
  have no : ∀ t, ¬ Got (List.replicate 8 (none : Option (List Int))) t := fun t ⟨l, hl⟩ => by
    rw [List.getElem?_replicate] at hl
    split at hl <;> cases hl
  obtain ⟨k1, k2⟩ := led_inv (way := []) (leads s.sills s.floors.length (-1) s.sills.length) (List.replicate 8 none, []) hs (fun t h => absurd h (no t)) (by simp)
  exact goW_inv hp 8 _ k1 k2

/-- a lead is an end of its sill, from the other -/
theorem lead_ends {f : Int} {x : Lead s.sills.length s.floors.length} (h : x ∈ leads s.sills s.floors.length f s.sills.length) :
    ((f, (x.1.2 : Int)) = (s.sills[x.1.1].1, s.sills[x.1.1].2.1) ∨ (f, (x.1.2 : Int)) = (s.sills[x.1.1].2.1, s.sills[x.1.1].1)) := by
  unfold leads at h
  rw [List.mem_filterMap] at h
  obtain ⟨i, hi, h⟩ := h
  unfold lead1 at h
  split at h
  · next hc =>
    simp only [Option.some.injEq] at h
    subst h
    have hil := hc.1
    have h0 := hc.2.1
    simp only [List.getElem?_eq_getElem hil, Option.getD_some] at h0 ⊢
    unfold other at h0 ⊢
    by_cases e1 : f = s.sills[i].1
    · left
      subst e1
      simp only [beq_self_eq_true, cond_true] at h0 ⊢
      rw [Int.toNat_of_nonneg h0]
    · by_cases e2 : f = s.sills[i].2.1
      · right
        have e1' : (f == s.sills[i].1) = false := beq_eq_false_iff_ne.2 e1
        have e2' : (f == s.sills[i].2.1) = true := by rw [e2]; exact beq_self_eq_true _
        simp only [e1', e2', cond_false, cond_true] at h0 ⊢
        exact Prod.ext e2 (Int.toNat_of_nonneg h0)
      · have e1' : (f == s.sills[i].1) = false := beq_eq_false_iff_ne.2 e1
        have e2' : (f == s.sills[i].2.1) = false := beq_eq_false_iff_ne.2 e2
        simp only [e1', e2', cond_false] at h0
        omega
  · cases h
theorem lead_of (ok : Ok s) {i : Nat} (hi : i < s.sills.length) {a b : Int} (hab : (a, b) = (s.sills[i].1, s.sills[i].2.1) ∨ (a, b) = (s.sills[i].2.1, s.sills[i].1)) (hb : 0 ≤ b) :
    ∃ x ∈ leads s.sills s.floors.length a s.sills.length, x.1.1 = i ∧ (x.1.2 : Int) = b := by
  obtain ⟨e1, e2, e3⟩ := EndOk.of ok (List.getElem_mem hi)
  have ho : other s.sills[i] a = b ∧ b < s.floors.length := by
    unfold other
    rcases hab with hab | hab
    · simp only [Prod.mk.injEq] at hab
      obtain ⟨rfl, rfl⟩ := hab
      simp only [beq_self_eq_true, cond_true, true_and]
      omega
    · simp only [Prod.mk.injEq] at hab
      obtain ⟨rfl, rfl⟩ := hab
      rw [beq_eq_false_iff_ne.2 (Ne.symm e3)]
      simp only [beq_self_eq_true, cond_true, cond_false, true_and]
      omega
  refine ⟨⟨(i, b.toNat), hi, by omega⟩, ?_, rfl, by simp only []; omega⟩
  unfold leads
  rw [List.mem_filterMap]
  refine ⟨i, by simpa using hi, ?_⟩
  rw [lead1_some _ _ _ _ hi (by rw [ho.1]; exact hb) (by rw [ho.1]; exact ho.2)]
  simp [ho.1]

/-- without a bank, what is reached has a crest, and what isn't has none -/
theorem low_got (ok : Ok s) (p : Nat) (hp : p < s.floors.length) : (lowR s ss ps)[p]?.getD 0 = 5000 ↔ ¬ Got (waysOf s (mayHold ss ps)) p := by
  constructor
  · intro h hg
    have hc := low_closed (ss := ss) (ps := ps) (c := 4999) ok (by decide)
    have key : ∀ t, Got (waysOf s (mayHold ss ps)) t → t < s.floors.length ∧ (lowR s ss ps)[t]?.getD 0 ≤ 4999 := by
      have one : ∀ (f : Int) (x : Lead s.sills.length s.floors.length), x ∈ leads s.sills s.floors.length f s.sills.length → mayHold ss ps x.1.1 x.1.2 = true → (f = -1 ∨ (lowR s ss ps)[f.toNat]?.getD 0 ≤ 4999) → x.1.2 < s.floors.length ∧ (lowR s ss ps)[x.1.2]?.getD 0 ≤ 4999 := by
        intro f x hx hm hf
        refine ⟨x.2.2, ?_⟩
        obtain ⟨c1, c2⟩ := hc x.1.1 x.2.1 x.2.1
        unfold mayHold at hm
        simp only [Bool.and_eq_true, decide_eq_true_eq] at hm
        have hh := ok.heights _ (List.getElem_mem x.2.1)
        have hfl : s.floors[x.1.2]?.getD 0 ≤ 999 := by
          rw [List.getElem?_eq_getElem x.2.2]
          exact (ok.floors _ (List.getElem_mem _)).2
        rcases lead_ends hx with he | he
        · simp only [Prod.mk.injEq] at he
          rw [← he.1, ← he.2] at c1
          have := c1 (by omega) hm.1 hm.2 (by omega) (by rw [Int.toNat_natCast]; omega) hf
          rwa [Int.toNat_natCast] at this
        · simp only [Prod.mk.injEq] at he
          rw [← he.1, ← he.2] at c2
          have := c2 (by omega) hm.1 hm.2 (by omega) (by rw [Int.toNat_natCast]; omega) hf
          rwa [Int.toNat_natCast] at this
      exact ways_inv (fun x hx hm => one (-1) x hx hm (.inl rfl)) (fun f hf x hx hm => one f x hx hm (.inr (by rw [Int.toNat_natCast]; exact hf.2)))
    have := (key p hg).2
    omega
  · intro hg
    obtain ⟨w1, w2, -⟩ := waysOf_shut (s := s) (may := mayHold ss ps) ok.fl1
    generalize waysOf s (mayHold ss ps) = ws at *
    have key := rounds_inv (s := s) (ss := ss) (ps := ps) (fun g => ∀ p, p < s.floors.length → ¬ Got ws p → g[p]?.getD 0 = 5000)
      (fun p hp _ => by rw [List.getElem?_replicate, if_pos hp]; rfl)
      (fun g i hi a b hl hab hI p hp hn => by
        unfold relB
        split
        · next hc =>
          have hbl : b.toNat < g.length := by
            obtain ⟨e1, e2, -⟩ := EndOk.of ok (List.getElem_mem hi)
            rcases hab with h | h <;> simp only [Prod.mk.injEq] at h <;> omega
          rw [set_get g _ _ _ hbl]
          split
          · next e =>
            obtain ⟨x, hx, hx1, hx2⟩ := lead_of ok hi hab hc.1
            have hx3 : x.1.2 = p := by omega
            have hm : mayHold ss ps x.1.1 x.1.2 = true := by
              unfold mayHold
              rw [hx1, hx2]
              simp only [Bool.and_eq_true, decide_eq_true_eq]
              exact ⟨hc.2.1, hc.2.2⟩
            have h0 := hI p hp hn
            have hpb : b.toNat = p := by omega
            rw [hpb, h0]
            have : 5000 ≤ ovr s g a b s.sills[i].2.2 := by
              have ha : a = -1 ∨ 0 ≤ a ∧ a < s.floors.length := by
                obtain ⟨e1, e2, -⟩ := EndOk.of ok (List.getElem_mem hi)
                rcases hab with h | h <;> simp only [Prod.mk.injEq] at h <;> omega
              rcases ha with rfl | ⟨a0, a1⟩
              · exact absurd (by have := w1 x hx hm; rwa [hx3] at this) hn
              · obtain ⟨an, rfl⟩ := Int.eq_ofNat_of_zero_le a0
                by_cases hga : Got ws an
                · exact absurd (by have := w2 an hga x hx hm; rwa [hx3] at this) hn
                · have := hI an (by omega) hga
                  unfold ovr
                  rw [if_pos (by omega), Int.toNat_natCast, this]
                  omega
            omega
          · exact hI p hp hn
        · exact hI p hp hn) s.floors.length
    exact key p hp hg

/-- from a higher start -/
theorem leastF_min (h a : Int) : ∀ l, leastF s (min a h) l = min a (leastF s h l)
  | [] => rfl
  | x :: l => by
    show leastF s (min (min a h) (s.floors[x.toNat]?.getD 0)) l = min a (leastF s (min h (s.floors[x.toNat]?.getD 0)) l)
    rw [← leastF_min, show min (min a h) (s.floors[x.toNat]?.getD 0) = min a (min h (s.floors[x.toNat]?.getD 0)) by omega]
theorem leastS_min (h a : Int) : ∀ l, leastS s (min a h) l = min a (leastS s h l)
  | [] => rfl
  | x :: l => by
    show leastS s (min (min a h) (s.sills[x.toNat]?.getD (0, 0, 0)).2.2) l = min a (leastS s (min h (s.sills[x.toNat]?.getD (0, 0, 0)).2.2) l)
    rw [← leastS_min, show min (min a h) (s.sills[x.toNat]?.getD (0, 0, 0)).2.2 = min a (min h (s.sills[x.toNat]?.getD (0, 0, 0)).2.2) by omega]
theorem leastF_le (h : Int) : ∀ l, leastF s h l ≤ h
  | [] => Int.le_refl _
  | x :: l => by
    show leastF s (min h (s.floors[x.toNat]?.getD 0)) l ≤ h
    have := leastF_le (min h (s.floors[x.toNat]?.getD 0)) l
    omega
theorem leastS_le (h : Int) : ∀ l, leastS s h l ≤ h
  | [] => Int.le_refl _
  | x :: l => by
    show leastS s (min h (s.sills[x.toNat]?.getD (0, 0, 0)).2.2) l ≤ h
    have := leastS_le (min h (s.sills[x.toNat]?.getD (0, 0, 0)).2.2) l
    omega
/-- what the reference's Hold reckons: never, or the least of the bank -/
theorem leastR (ok : Ok s) (hs : ss.all (isSi s) = true) (hp : ps.all (isPl s) = true) : leastF s (leastS s 5000 ss) ps = if ss = [] ∧ ps = [] then 5000 else leastF s (leastS s 999 ss) ps := by
  have e : leastF s (leastS s 999 ss) ps = min 999 (leastF s (leastS s 5000 ss) ps) := by
    rw [← leastF_min, ← leastS_min]
    rfl
  split
  · next h =>
    obtain ⟨rfl, rfl⟩ := h
    rfl
  · next h =>
    rw [e]
    have : leastF s (leastS s 5000 ss) ps ≤ 999 := by
      cases ss with
      | cons i r =>
        have hi : isSi s i = true := by simp at hs; exact hs.1
        obtain ⟨h0, h1⟩ := inB_true.1 hi
        have hl : i.toNat < s.sills.length := by omega
        have hh := ok.heights _ (List.getElem_mem hl)
        have k1 := leastF_le (s := s) (leastS s 5000 (i :: r)) ps
        have k2 : leastS s 5000 (i :: r) = leastS s (min 5000 (s.sills[i.toNat]?.getD (0, 0, 0)).2.2) r := rfl
        have k3 := leastS_le (s := s) (min 5000 (s.sills[i.toNat]?.getD (0, 0, 0)).2.2) r
        rw [List.getElem?_eq_getElem hl, Option.getD_some] at k2 k3
        omega
      | nil =>
        cases ps with
        | nil => exact absurd ⟨rfl, rfl⟩ h
        | cons p r =>
          have hi : isPl s p = true := by simp at hp; exact hp.1
          obtain ⟨h0, h1⟩ := inB_true.1 hi
          have hl : p.toNat < s.floors.length := by omega
          have hh := ok.floors _ (List.getElem_mem hl)
          have k2 : leastF s (leastS s 5000 []) (p :: r) = leastF s (min (leastS s 5000 []) (s.floors[p.toNat]?.getD 0)) r := rfl
          have k3 := leastF_le (s := s) (min (leastS s 5000 []) (s.floors[p.toNat]?.getD 0)) r
          rw [List.getElem?_eq_getElem hl, Option.getD_some] at k2 k3
          omega
    omega
end
end Go.Proofs.Ytifcmbeejichdaa
/- Plain facts: the gate of a place is the crest of the way to it that is found, and the height of the bank that is found. -/
namespace Go.Proofs.Ytifcmbeejichdaa
open Go.RowKit
section
variable {s : Sd}
/-- a lead has its sill, and leads to the sill's other end -/
theorem lead_other {f : Int} {x : Lead s.sills.length s.floors.length} (h : x ∈ leads s.sills s.floors.length f s.sills.length) : other (s.sills[x.1.1]'x.2.1) f = (x.1.2 : Int) := by
  unfold leads at h
  rw [List.mem_filterMap] at h
  obtain ⟨i, -, h⟩ := h
  unfold lead1 at h
  split at h
  · next hc =>
    simp only [Option.some.injEq] at h
    subst h
    have h0 := hc.2.1
    simp only [List.getElem?_eq_getElem hc.1, Option.getD_some] at h0 ⊢
    rw [Int.toNat_of_nonneg h0]
  · cases h
theorem lead_to {i : Nat} (hi : i < s.sills.length) {f : Int} {b : Nat} (hb : other s.sills[i] f = b) (hl : b < s.floors.length) : ∃ x ∈ leads s.sills s.floors.length f s.sills.length, x.1 = (i, b) := by
  refine ⟨⟨(i, b), hi, hl⟩, ?_, rfl⟩
  unfold leads
  rw [List.mem_filterMap]
  refine ⟨i, by simpa using hi, ?_⟩
  rw [lead1_some _ _ _ _ hi (by omega) (by omega)]
  simp [hb]
theorem stepV_eq {i t : Nat} (hi : i < s.sills.length) (ht : t < s.floors.length) : stepV s i t = max (max 0 (s.sills[i]).2.2) s.floors[t] := by
  unfold stepV
  rw [grt2, List.getElem?_eq_getElem hi, List.getElem?_eq_getElem ht]
  rfl
theorem gate_lead (ok : Ok s) {f : Int} (hf : f = -1 ∨ ∃ n : Nat, f = n ∧ n < s.floors.length) {x : Lead s.sills.length s.floors.length} (hx : x ∈ leads s.sills s.floors.length f s.sills.length) {h : Int} (h0 : 0 ≤ h) (hs : stepV s x.1.1 x.1.2 ≤ h) (hg : f = -1 ∨ gateOf s f.toNat ≤ h) : gateOf s x.1.2 ≤ h := by
  have ho := lead_other hx
  rw [stepV_eq x.2.1 x.2.2] at hs
  have e : s.floors[x.1.2]?.getD 0 = s.floors[x.1.2]'x.2.2 := by rw [List.getElem?_eq_getElem x.2.2]; rfl
  rcases hf with rfl | ⟨n, rfl, hn⟩
  · have := gate_sea s ok.fl1 _ (List.getElem_mem x.2.1) x.1.2 ho x.2.2
    omega
  · have := gate_from s ok.fl1 _ (List.getElem_mem x.2.1) n x.1.2 hn ho x.2.2
    rw [Int.toNat_natCast] at hg
    have : gateOf s n ≤ h := by
      rcases hg with hg | hg
      · omega
      · exact hg
    omega

/-- a place whose gate is not above h is reached over steps that are not -/
theorem way_got (ok : Ok s) {h : Int} (h9 : h < 1050) (p : Nat) (hp : p < s.floors.length) (hg : gateOf s p ≤ h) : Got (waysOf s (mayGate s h)) p := by
  obtain ⟨w1, w2, -⟩ := waysOf_shut (s := s) (may := mayGate s h) ok.fl1
  have f8 := ok.fl1
  generalize waysOf s (mayGate s h) = ws at *
  have key := inv_iter s ok.fl1 (fun g => ∀ p, p < s.floors.length → ¬ Got ws p → h < g[p]?.getD 0)
    (fun g x b hl hx hb hbl hI q hq hn => by
      rw [set_get g b q _ (by omega)]
      split
      · next e =>
        subst e
        obtain ⟨i, hi, rfl⟩ := List.getElem_of_mem hx
        obtain ⟨y, hy, hy1⟩ := lead_to hi hb hbl
        have hnm : mayGate s h i b = false := by
          cases hm : mayGate s h i b
          · rfl
          · exact absurd (by have := w1 y hy (by rw [hy1]; exact hm); rwa [hy1] at this) hn
        unfold mayGate at hnm
        rw [decide_eq_false_iff_not, stepV_eq hi hbl] at hnm
        have := hI b hq hn
        rw [List.getElem?_eq_getElem hbl, Option.getD_some]
        omega
      · exact hI q hq hn)
    (fun g x f b hl hx hf hb hbl hI q hq hn => by
      rw [set_get g b q _ (by omega)]
      split
      · next e =>
        subst e
        obtain ⟨i, hi, rfl⟩ := List.getElem_of_mem hx
        obtain ⟨y, hy, hy1⟩ := lead_to hi hb hbl
        have := hI b hq hn
        rw [List.getElem?_eq_getElem hbl, Option.getD_some]
        by_cases hgf : Got ws f
        · have hnm : mayGate s h i b = false := by
            cases hm : mayGate s h i b
            · rfl
            · exact absurd (by have := w2 f hgf y hy (by rw [hy1]; exact hm); rwa [hy1] at this) hn
          unfold mayGate at hnm
          rw [decide_eq_false_iff_not, stepV_eq hi hbl] at hnm
          omega
        · have := hI f hf hgf
          omega
      · exact hI q hq hn)
    (fun q hq hn => by
      unfold top
      rw [List.getElem?_replicate, if_pos (by omega)]
      exact h9)
  by_cases hgp : Got ws p
  · exact hgp
  · have := key p hp hgp
    unfold gateOf at hg
    omega
theorem gate_got (ok : Ok s) {h : Int} (h0 : 0 ≤ h) (p : Nat) (hg : Got (waysOf s (mayGate s h)) p) : p < s.floors.length ∧ gateOf s p ≤ h := by
  refine ways_inv (P := fun t => t < s.floors.length ∧ gateOf s t ≤ h) (fun x hx hm => ⟨x.2.2, ?_⟩) (fun f hf x hx hm => ⟨x.2.2, ?_⟩) p hg
  · exact gate_lead ok (.inl rfl) hx h0 (of_decide_eq_true hm) (.inl rfl)
  · exact gate_lead ok (.inr ⟨f, rfl, hf.1⟩) hx h0 (of_decide_eq_true hm) (.inr (by rw [Int.toNat_natCast]; exact hf.2))

/-! ways -/
/-- the sills l lead to e over the places M, with the crest c -/
def FolTo (s : Sd) (l M : List Int) (e c : Int) : Prop := ∀ r, folS s (l ++ r) [] (-1) 0 = folS s r M e c
theorem FolTo.nil : FolTo s [] [] (-1) 0 := fun _ => rfl
theorem FolTo.snoc {l M : List Int} {e c : Int} (h : FolTo s l M e c) {i t : Nat} (hi : i < s.sills.length) (ht : t < s.floors.length) (ho : other s.sills[i] e = t) (hM : (t : Int) ∉ M) : FolTo s (l ++ [(i : Int)]) (M ++ [(t : Int)]) t (max c (max (s.sills[i]).2.2 s.floors[t])) := by
  intro r
  rw [List.append_assoc, h, List.singleton_append, folS_go (by rw [sillAt_nat i hi, ho]; rintro (h | h); omega; exact hM h), sillAt_nat i hi, ho, flAt_nat t ht]
theorem FolTo.val {l M : List Int} {e c : Int} (h : FolTo s l M e c) : folV s l = (e, c) := by
  have := h []
  rw [List.append_nil] at this
  unfold folV
  rw [this]
  rfl
/-- the crest of a list of sills is not below the gate of the place to which they lead -/
theorem fol_gate (ok : Ok s) : ∀ (l M : List Int) (e c : Int), l.all (isSi s) = true → 0 ≤ c → (e = -1 ∨ ∃ n : Nat, e = n ∧ n < s.floors.length ∧ gateOf s n ≤ c) → ∀ e' c', folS s l M e c = some (e', c') → c ≤ c' ∧ (e' = -1 ∨ ∃ n : Nat, e' = n ∧ n < s.floors.length ∧ gateOf s n ≤ c')
  | [], M, e, c, _, _, h, e', c', hr => by
    have : some (e, c) = some (e', c') := hr
    simp only [Option.some.injEq, Prod.mk.injEq] at this
    obtain ⟨rfl, rfl⟩ := this
    exact ⟨Int.le_refl _, h⟩
  | i :: r, M, e, c, ha, c0, h, e', c', hr => by
    by_cases hs : other (sillAt s i) e = -1 ∨ other (sillAt s i) e ∈ M
    · rw [folS_stop hs] at hr; cases hr
    · rw [folS_go hs] at hr
      simp only [List.all_cons, Bool.and_eq_true] at ha
      obtain ⟨i0, i1⟩ := inB_true.1 ha.1
      obtain ⟨n, rfl⟩ := Int.eq_ofNat_of_zero_le i0
      have hn : n < s.sills.length := by omega
      rw [sillAt_nat n hn] at hs hr
      rcases other_rng ok n hn e with ho | ⟨t, ho, ht⟩
      · exact absurd (.inl ho) hs
      · rw [ho, flAt_nat t ht] at hr
        obtain ⟨x, hx, hx1⟩ := lead_to hn ho ht
        have hx2 : x.1.1 = n := by rw [hx1]
        have hx3 : x.1.2 = t := by rw [hx1]
        have hh := ok.heights _ (List.getElem_mem hn)
        have hgt : gateOf s t ≤ max c (max (s.sills[n]).2.2 s.floors[t]) := by
          suffices hq : gateOf s x.1.2 ≤ max c (max (s.sills[n]).2.2 s.floors[t]) by rw [hx3] at hq; exact hq
          refine gate_lead ok ?_ hx (by omega) (by rw [hx2, hx3, stepV_eq hn ht]; omega) ?_
          · rcases h with h | ⟨m, h1, h2, -⟩
            · exact .inl h
            · exact .inr ⟨m, h1, h2⟩
          · rcases h with h | ⟨m, h1, -, h2⟩
            · exact .inl h
            · exact .inr (by rw [h1, Int.toNat_natCast]; omega)
        have := fol_gate ok r _ _ _ ha.2 (by omega) (.inr ⟨t, rfl, ht, hgt⟩) e' c' hr
        exact ⟨by omega, this.2⟩
theorem crest_gate (ok : Ok s) {p : Nat} {l : List Int} (ha : l.all (isSi s) = true) (he : (folV s l).1 = p) : gateOf s p ≤ (folV s l).2 := by
  unfold folV at *
  cases hf : folS s l [] (-1) 0 with
  | none =>
    rw [hf] at he
    have he' : (-1 : Int) = p := he
    omega
  | some z =>
    obtain ⟨e', c'⟩ := z
    rw [hf, Option.getD_some] at he
    rw [Option.getD_some]
    obtain ⟨-, h⟩ := fol_gate ok l [] (-1) 0 ha (by decide) (.inl rfl) e' c' hf
    dsimp only at he ⊢
    rcases h with h | ⟨n, h1, -, h3⟩
    · omega
    · obtain rfl : n = p := by omega
      exact h3
/-- what a way that was found is -/
def Fine (s : Sd) (h : Int) (ws : Ways) (t : Int) (l : List Int) : Prop :=
  ∃ M c, FolTo s l M t c ∧ 0 ≤ c ∧ c ≤ h ∧ l.all (isSi s) = true ∧ M.Nodup ∧ M.length = l.length ∧ ∀ y ∈ M, ∃ n : Nat, y = n ∧ n < s.floors.length ∧ Got ws n
theorem Fine.mono {h : Int} {ws ws' : Ways} {t : Int} {l : List Int} (k : Fine s h ws t l) (hg : ∀ n, Got ws n → Got ws' n) : Fine s h ws' t l := by
  obtain ⟨M, c, h1, h2, h3, h4, h5, h6, h7⟩ := k
  exact ⟨M, c, h1, h2, h3, h4, h5, h6, fun y hy => by obtain ⟨n, e1, e2, e3⟩ := h7 y hy; exact ⟨n, e1, e2, hg n e3⟩⟩
theorem led_fine (ok : Ok s) {h : Int} {f : Int} {way : List Int} : ∀ (l : List (Lead s.sills.length s.floors.length)) (st : Ways × List Int), (∀ x ∈ l, x ∈ leads s.sills s.floors.length f s.sills.length) → Fine s h st.1 f way →
    (∀ (t : Nat) l', st.1[t]? = some (some l') → Fine s h st.1 t l') → (∀ y ∈ st.2, ∃ n : Nat, y = n ∧ Got st.1 n) → ∀ Q, Q = l.foldl (leadW (mayGate s h) way) st →
    (∀ (t : Nat) l', Q.1[t]? = some (some l') → Fine s h Q.1 t l') ∧ (∀ y ∈ Q.2, ∃ n : Nat, y = n ∧ Got Q.1 n)
  | [], st, _, _, h2, h3, _, rfl => ⟨h2, h3⟩
  | x :: r, st, hx, h1, h2, h3, Q, hQ => by
    rw [List.foldl_cons] at hQ
    have hgot := fun t => leadW_got (may := mayGate s h) (way := way) st x t
    refine led_fine ok r _ (fun y hy => hx y (by simp [hy])) (h1.mono hgot) (fun t l' hl => ?_) (fun y hy => ?_) Q hQ
    · by_cases hc : st.1[x.1.2]? = some none ∧ mayGate s h x.1.1 x.1.2 = true
      · by_cases e : x.1.2 = t
        · have e1 : (leadW (mayGate s h) way st x).1 = st.1.set x.1.2 (some (way ++ [(x.1.1 : Int)])) := by unfold leadW; rw [if_pos hc]
          have hlt : x.1.2 < st.1.length := by
            have := (List.getElem?_eq_some_iff.1 hc.1).1
            exact this
          have hl2 := hl
          rw [e1, ← e, List.getElem?_set_self hlt] at hl2
          simp only [Option.some.injEq] at hl2
          subst hl2
          obtain ⟨M, c, k1, k2, k3, k4, k5, k6, k7⟩ := h1
          have ho := lead_other (hx x (by simp))
          have hM : (x.1.2 : Int) ∉ M := fun hm => by
            obtain ⟨n, e1, -, l, hl⟩ := k7 _ hm
            have : n = x.1.2 := by omega
            rw [this, hc.1] at hl
            cases hl
          have hst := of_decide_eq_true (p := stepV s x.1.1 x.1.2 ≤ h) hc.2
          rw [stepV_eq x.2.1 x.2.2] at hst
          rw [← e]
          refine ⟨M ++ [(x.1.2 : Int)], _, k1.snoc x.2.1 x.2.2 ho hM, by omega, by omega, ?_, ?_, by simp [k6], ?_⟩
          · rw [List.all_append, k4]
            simp [isSi, inB]
            have := x.2.1
            omega
          · rw [List.nodup_append]
            refine ⟨k5, by simp, fun a ha b hb => ?_⟩
            rw [List.mem_singleton] at hb
            rintro rfl
            exact hM (hb ▸ ha)
          · intro y hy
            rcases List.mem_append.1 hy with hy | hy
            · obtain ⟨n, e1, e2, e3⟩ := k7 y hy
              exact ⟨n, e1, e2, hgot n e3⟩
            · rw [List.mem_singleton] at hy
              refine ⟨x.1.2, hy, x.2.2, ?_⟩
              rw [e]
              exact ⟨_, hl⟩
        · have hl2 : st.1[t]? = some (some l') := by
            unfold leadW at hl
            rw [if_pos hc, show (st.1.set x.1.2 (some (way ++ [(x.1.1 : Int)])))[t]? = st.1[t]? from List.getElem?_set_ne e] at hl
            exact hl
          exact (h2 t l' hl2).mono hgot
      · unfold leadW at hl ⊢
        rw [if_neg hc] at hl ⊢
        exact h2 t l' hl
    · by_cases hc : st.1[x.1.2]? = some none ∧ mayGate s h x.1.1 x.1.2 = true
      · have e1 : (leadW (mayGate s h) way st x) = (st.1.set x.1.2 (some (way ++ [(x.1.1 : Int)])), st.2 ++ [(x.1.2 : Int)]) := by unfold leadW; rw [if_pos hc]
        have hy2 := hy
        rw [e1] at hy2
        rcases List.mem_append.1 hy2 with hy2 | hy2
        · obtain ⟨n, k1, k2⟩ := h3 y hy2
          exact ⟨n, k1, hgot n k2⟩
        · rw [List.mem_singleton] at hy2
          refine ⟨x.1.2, hy2, ?_⟩
          rw [e1]
          exact ⟨_, List.getElem?_set_self (List.getElem?_eq_some_iff.1 hc.1).1⟩
      · have e1 : (leadW (mayGate s h) way st x) = st := by unfold leadW; rw [if_neg hc]
        rw [e1] at hy ⊢
        exact h3 y hy
theorem goW_fine (ok : Ok s) {h : Int} : ∀ n (st : Ways × List Int), (∀ (t : Nat) l', st.1[t]? = some (some l') → Fine s h st.1 t l') → (∀ y ∈ st.2, ∃ n : Nat, y = n ∧ Got st.1 n) → ∀ Q, Q = goW s (mayGate s h) n st → ∀ (t : Nat) l', Q.1[t]? = some (some l') → Fine s h Q.1 t l'
  | 0, st, h1, _, _, rfl => h1
  | _ + 1, (ws, []), h1, _, _, rfl => h1
  | n + 1, (ws, x :: q), h1, h2, Q, hQ => by
    obtain ⟨f, rfl, l, hf⟩ := h2 x (by simp)
    have hw : wayAt ws (f : Int) = some l := by rw [wayAt_nat, hf]; rfl
    have k0 : Fine s h ws f ((wayAt ws (f : Int)).getD []) := by rw [hw]; exact h1 f l hf
    obtain ⟨k1, k2⟩ := led_fine ok (leads s.sills s.floors.length f s.sills.length) (ws, q) (fun _ h => h) k0 h1 (fun y hy => h2 y (by simp [hy])) _ rfl
    exact goW_fine ok n _ k1 k2 Q hQ
theorem ways_fine (ok : Ok s) {h : Int} (h0 : 0 ≤ h) (t : Nat) (l : List Int) (hl : (waysOf s (mayGate s h))[t]? = some (some l)) : Fine s h (waysOf s (mayGate s h)) t l := by
  have no : ∀ (t : Nat) l', (List.replicate 8 (none : Option (List Int)))[t]? ≠ some (some l') := fun t l' hl => by
    rw [List.getElem?_replicate] at hl
    split at hl <;> cases hl
  obtain ⟨k1, k2⟩ := led_fine ok (h := h) (f := -1) (way := []) (leads s.sills s.floors.length (-1) s.sills.length) (List.replicate 8 none, []) (fun _ h => h)
    ⟨[], 0, FolTo.nil, Int.le_refl _, h0, rfl, by simp, rfl, by simp⟩ (fun t l' h => absurd h (no t l')) (by simp) _ rfl
  exact goW_fine ok 8 _ k1 k2 _ rfl t l hl
theorem few_nat : ∀ (n : Nat) (M : List Int), M.Nodup → (∀ y ∈ M, ∃ k : Nat, y = k ∧ k < n) → M.length ≤ n
  | 0, M, _, hm => by
    cases M with
    | nil => exact Nat.le_refl _
    | cons y r => obtain ⟨k, -, hk⟩ := hm y (by simp); omega
  | n + 1, M, hd, hm => by
    by_cases h : (n : Int) ∈ M
    · have := few_nat n (M.erase (n : Int)) (hd.erase _) (fun y hy => by
        rw [hd.mem_erase_iff] at hy
        obtain ⟨k, rfl, hk⟩ := hm y hy.2
        have := hy.1
        exact ⟨k, rfl, by omega⟩)
      rw [List.length_erase_of_mem h] at this
      omega
    · have := few_nat n M hd (fun y hy => by
        obtain ⟨k, rfl, hk⟩ := hm y hy
        refine ⟨k, rfl, ?_⟩
        by_cases e : k = n
        · subst e; exact absurd hy h
        · omega)
      omega
/-- the way that is found to a place that has one -/
theorem wayV_fol (ok : Ok s) {p : Nat} (hp : p < s.floors.length) (hg : gateOf s p < 1050) (g0 : 0 ≤ gateOf s p) (he : errGate s p = 0) : (wayV s p).all (isSi s) = true ∧ folV s (wayV s p) = ((p : Int), gateOf s p) ∧ (wayV s p).length ≤ 8 := by
  obtain ⟨l, hl⟩ := way_got ok hg p hp (Int.le_refl _)
  have e : wayV s p = l := by
    unfold wayV
    rw [if_pos he, Int.toNat_natCast, wayAt_nat, hl]
    rfl
  obtain ⟨M, c, h1, h2, h3, h4, h5, h6, h7⟩ := ways_fine ok g0 p l hl
  have hv := h1.val
  have hc := crest_gate ok (p := p) h4 (by rw [hv])
  rw [hv] at hc
  dsimp only at hc
  have f8 := ok.fl1
  have := few_nat s.floors.length M h5 (fun y hy => by obtain ⟨n, e1, e2, -⟩ := h7 y hy; exact ⟨n, e1, e2⟩)
  rw [e]
  exact ⟨h4, by rw [hv]; congr 1; omega, by omega⟩
end
end Go.Proofs.Ytifcmbeejichdaa
/- Plain facts: the bank that is found holds off all ways to a place, and is as high as its gate; no bank is higher. -/
namespace Go.Proofs.Ytifcmbeejichdaa
open Go.RowKit
section
variable {s : Sd}
theorem errHold_ok {x : Int} {ss ps : List Int} (he : errFor s x = 0) (h1 : ss.all (isSi s) = true) (h2 : ps.all (isPl s) = true) (h3 : ss.Nodup) (h4 : ps.Nodup) (h5 : wayAt (waysOf s (mayHold ss ps)) x = none) (h6 : ¬ (ss = [] ∧ ps = [])) : errHold s x ss ps = 0 := by
  unfold errHold
  rw [if_pos he, if_pos ⟨h1, h2⟩, if_pos ⟨h3, h4⟩, if_pos h5, if_neg h6]
theorem of_errHold {x : Int} {ss ps : List Int} (h : errHold s x ss ps = 0) : errFor s x = 0 ∧ ss.all (isSi s) = true ∧ ps.all (isPl s) = true ∧ ss.Nodup ∧ ps.Nodup ∧ wayAt (waysOf s (mayHold ss ps)) x = none ∧ ¬ (ss = [] ∧ ps = []) := by
  unfold errHold at h
  split at h
  · next he =>
    split at h
    · next h1 =>
      split at h
      · next h2 =>
        split at h
        · next h3 =>
          split at h
          · cases h
          · next h4 => exact ⟨he, h1.1, h1.2, h2.1, h2.2, h3, h4⟩
        · cases h
      · cases h
    · cases h
  · next he => exact absurd h he
theorem leastS_ge {c h : Int} : ∀ l, c ≤ h → (∀ i ∈ l, c ≤ (s.sills[(i : Int).toNat]?.getD (0, 0, 0)).2.2) → c ≤ leastS s h l
  | [], hc, _ => hc
  | i :: r, hc, hl => by
    show c ≤ leastS s (min h (s.sills[i.toNat]?.getD (0, 0, 0)).2.2) r
    have := hl i (by simp)
    exact leastS_ge r (by omega) (fun j hj => hl j (by simp [hj]))
theorem leastF_ge {c h : Int} : ∀ l, c ≤ h → (∀ i ∈ l, c ≤ s.floors[(i : Int).toNat]?.getD 0) → c ≤ leastF s h l
  | [], hc, _ => hc
  | i :: r, hc, hl => by
    show c ≤ leastF s (min h (s.floors[i.toNat]?.getD 0)) r
    have := hl i (by simp)
    exact leastF_ge r (by omega) (fun j hj => hl j (by simp [hj]))
theorem leastS_mem {h : Int} : ∀ l, ∀ i ∈ l, leastS s h l ≤ (s.sills[(i : Int).toNat]?.getD (0, 0, 0)).2.2
  | i :: r, j, hj => by
    show leastS s (min h (s.sills[i.toNat]?.getD (0, 0, 0)).2.2) r ≤ _
    rcases List.mem_cons.1 hj with rfl | hj
    · have := leastS_le (s := s) (min h (s.sills[j.toNat]?.getD (0, 0, 0)).2.2) r
      omega
    · exact leastS_mem r j hj
theorem leastF_mem {h : Int} : ∀ l, ∀ i ∈ l, leastF s h l ≤ s.floors[(i : Int).toNat]?.getD 0
  | i :: r, j, hj => by
    show leastF s (min h (s.floors[i.toNat]?.getD 0)) r ≤ _
    rcases List.mem_cons.1 hj with rfl | hj
    · have := leastF_le (s := s) (min h (s.floors[j.toNat]?.getD 0)) r
      omega
    · exact leastF_mem r j hj
theorem got_more {may may' : Nat → Nat → Bool} (f8 : s.floors.length ≤ 8) (h : ∀ i t, i < s.sills.length → t < s.floors.length → may i t = true → may' i t = true) (t : Nat) (hg : Got (waysOf s may) t) : Got (waysOf s may') t := by
  obtain ⟨w1, w2, -⟩ := waysOf_shut (s := s) (may := may') f8
  exact ways_inv (P := Got (waysOf s may')) (fun x hx hm => w1 x hx (h _ _ x.2.1 x.2.2 hm)) (fun f hf x hx hm => w2 f hf x hx (h _ _ x.2.1 x.2.2 hm)) t hg
/-- no bank is higher than the gate -/
theorem hold_le (ok : Ok s) {p : Nat} (hp : p < s.floors.length) {ss ps : List Int} (h : errHold s p ss ps = 0) : holdV s p ss ps ≤ gateOf s p := by
  obtain ⟨h1, h2, h3, -, -, h6, -⟩ := of_errHold h
  have hv : holdV s p ss ps = leastF s (leastS s 999 ss) ps := by unfold holdV; rw [if_pos h]
  rw [hv]
  have h9 : leastF s (leastS s 999 ss) ps ≤ 999 := Int.le_trans (leastF_le _ _) (leastS_le _ _)
  by_cases hc : leastF s (leastS s 999 ss) ps ≤ gateOf s p
  · exact hc
  · refine absurd (got_more ok.fl1 ?_ p (way_got ok (h := gateOf s p) (by omega) p hp (Int.le_refl _))) (way_none.1 h6)
    intro i t hi ht hm
    have hst := of_decide_eq_true (p := stepV s i t ≤ gateOf s p) hm
    rw [stepV_eq hi ht] at hst
    unfold mayHold
    rw [Bool.and_eq_true, decide_eq_true_eq, decide_eq_true_eq]
    constructor
    · intro hm
      have k1 := leastS_mem (s := s) (h := 999) ss i hm
      have k2 := leastF_le (s := s) (leastS s 999 ss) ps
      rw [Int.toNat_natCast, List.getElem?_eq_getElem hi, Option.getD_some] at k1
      omega
    · intro hm
      have k1 := leastF_mem (s := s) (h := leastS s 999 ss) ps t hm
      rw [Int.toNat_natCast, List.getElem?_eq_getElem ht, Option.getD_some] at k1
      omega
/-- without a bank, just the places without a way are not reached -/
theorem hold_nil (ok : Ok s) {p : Nat} (hp : p < s.floors.length) (he : errFor s p = 0) : errHold s p [] [] = if gateOf s p < 1050 then 8 else 6 := by
  unfold errHold
  rw [if_pos he, if_pos ⟨rfl, rfl⟩, if_pos ⟨List.nodup_nil, List.nodup_nil⟩]
  split
  · next h =>
    rw [if_pos ⟨rfl, rfl⟩, if_neg]
    intro hg
    refine way_none.1 h (got_more ok.fl1 (fun i t _ _ _ => by simp [mayHold]) p (way_got ok (h := gateOf s p) hg p hp (Int.le_refl _)))
  · next h =>
    rw [if_pos]
    have hg : Got (waysOf s (mayHold [] [])) p := by
      by_cases k : Got (waysOf s (mayHold [] [])) p
      · exact k
      · exact absurd (way_none.2 k) h
    have := gate_got ok (h := 999) (by decide) p (got_more ok.fl1 (fun i t hi ht _ => by
      unfold mayGate
      rw [decide_eq_true_eq, stepV_eq hi ht]
      have := ok.heights _ (List.getElem_mem hi)
      have := ok.floors _ (List.getElem_mem ht)
      omega) p hg)
    omega

/-! the bank that is found -/
def bank1 (s : Sd) (h : Int) (st : List Bool × List Bool) (x : Lead s.sills.length s.floors.length) : List Bool × List Bool :=
  if gateOf s x.1.2 < h then st else if h ≤ (s.sills[x.1.1]'x.2.1).2.2 then (st.1.set x.1.1 true, st.2) else (st.1, st.2.set x.1.2 true)
def leaveW (s : Sd) (h : Int) (st : List Bool × List Bool) (f : Int) : List Bool × List Bool := (leads s.sills s.floors.length f s.sills.length).foldl (bank1 s h) st
def leaveP (s : Sd) (h : Int) (st : List Bool × List Bool) (p : Nat) : List Bool × List Bool := if gateOf s p < h then leaveW s h st p else st
def bankW (s : Sd) (h : Int) : List Bool × List Bool := (List.range s.floors.length).foldl (leaveP s h) (leaveW s h (List.replicate s.sills.length false, List.replicate s.floors.length false) (-1))
def markL (l : List Bool) : List Int := ((List.range l.length).filter fun i => l[i]?.getD false).map fun (i : Nat) => (i : Int)
def bankV (s : Sd) (h : Int) : List Int × List Int := (markL (bankW s h).1, markL (bankW s h).2)

def Sound (s : Sd) (h : Int) (st : List Bool × List Bool) : Prop :=
  st.1.length = s.sills.length ∧ st.2.length = s.floors.length ∧ (∀ i : Nat, st.1[i]? = some true → h ≤ (s.sills[i]?.getD (0, 0, 0)).2.2) ∧ (∀ t : Nat, st.2[t]? = some true → h ≤ s.floors[t]?.getD 0)
def Mark (st : List Bool × List Bool) (x : Nat × Nat) : Prop := st.1[x.1]? = some true ∨ st.2[x.2]? = some true
theorem set_true {l : List Bool} {j i : Nat} (h : l[i]? = some true) : (l.set j true)[i]? = some true := by
  rw [List.getElem?_set]
  split
  · next e =>
    subst e
    rw [if_pos (List.getElem?_eq_some_iff.1 h).1]
  · exact h
theorem bank1_mono {h : Int} {st : List Bool × List Bool} (x : Lead s.sills.length s.floors.length) {y : Nat × Nat} (k : Mark st y) : Mark (bank1 s h st x) y := by
  unfold bank1
  split
  · exact k
  · split
    · exact k.imp set_true id
    · exact k.imp id set_true
theorem leave_mono {h : Int} {y : Nat × Nat} : ∀ (l : List (Lead s.sills.length s.floors.length)) (st : List Bool × List Bool), Mark st y → Mark (l.foldl (bank1 s h) st) y
  | [], _, k => k
  | x :: r, _, k => leave_mono r _ (bank1_mono x k)
theorem bank1_sound (ok : Ok s) {h : Int} (h0 : 0 ≤ h) {f : Int} (hf : f = -1 ∨ ∃ n : Nat, f = n ∧ n < s.floors.length) (hg : f = -1 ∨ gateOf s f.toNat < h) {st : List Bool × List Bool} (k : Sound s h st) {x : Lead s.sills.length s.floors.length} (hx : x ∈ leads s.sills s.floors.length f s.sills.length) : Sound s h (bank1 s h st x) ∧ (h ≤ gateOf s x.1.2 → Mark (bank1 s h st x) x.1) := by
  obtain ⟨k1, k2, k3, k4⟩ := k
  have l1 := x.2.1
  have l2 := x.2.2
  have hst : ∀ (l : List Bool) (j i : Nat), (l.set j true)[i]? = some true → j = i ∨ l[i]? = some true := fun l j i hh => by
    rw [List.getElem?_set] at hh
    split at hh
    · next e => exact .inl e
    · exact .inr hh
  unfold bank1
  split
  · next hc => exact ⟨⟨k1, k2, k3, k4⟩, fun hh => by omega⟩
  · next hc =>
    split
    · next hs =>
      refine ⟨⟨by simp [k1], k2, fun i hi => ?_, k4⟩, fun _ => .inl ?_⟩
      · rcases hst _ _ _ hi with rfl | hi
        · rw [List.getElem?_eq_getElem l1]; exact hs
        · exact k3 i hi
      · show (st.1.set _ true)[_]? = _
        rw [List.getElem?_set_self (by rw [k1]; exact l1)]
    · next hs =>
      refine ⟨⟨k1, by simp [k2], k3, fun t ht => ?_⟩, fun _ => .inr ?_⟩
      · rcases hst _ _ _ ht with rfl | ht
        · rw [List.getElem?_eq_getElem l2, Option.getD_some]
          have hh := ok.heights _ (List.getElem_mem l1)
          by_cases hfl : h ≤ s.floors[x.1.2]'l2
          · exact hfl
          · have := gate_lead ok hf hx (h := h - 1) (by omega) (by rw [stepV_eq l1 l2]; omega) (by rcases hg with e | e; exact .inl e; exact .inr (by omega))
            omega
        · exact k4 t ht
      · show (st.2.set _ true)[_]? = _
        rw [List.getElem?_set_self (by rw [k2]; exact l2)]
theorem leave_sound (ok : Ok s) {h : Int} (h0 : 0 ≤ h) {f : Int} (hf : f = -1 ∨ ∃ n : Nat, f = n ∧ n < s.floors.length) (hg : f = -1 ∨ gateOf s f.toNat < h) : ∀ (l : List (Lead s.sills.length s.floors.length)) (st : List Bool × List Bool), Sound s h st → (∀ x ∈ l, x ∈ leads s.sills s.floors.length f s.sills.length) →
    Sound s h (l.foldl (bank1 s h) st) ∧ ∀ x ∈ l, h ≤ gateOf s x.1.2 → Mark (l.foldl (bank1 s h) st) x.1
  | [], st, k, _ => ⟨k, fun x hx => by simp at hx⟩
  | y :: r, st, k, hl => by
    obtain ⟨k1, k2⟩ := bank1_sound ok h0 hf hg k (hl y (by simp))
    obtain ⟨k3, k4⟩ := leave_sound ok h0 hf hg r _ k1 (fun x hx => hl x (by simp [hx]))
    refine ⟨k3, fun x hx hx2 => ?_⟩
    rcases List.mem_cons.1 hx with rfl | hx
    · exact leave_mono r _ (k2 hx2)
    · exact k4 x hx hx2
/-- where the places with lower gates are left -/
theorem bank_sound (ok : Ok s) {h : Int} (h0 : 0 ≤ h) : Sound s h (bankW s h) ∧ ∀ (f : Int), (f = -1 ∨ ∃ n : Nat, f = n ∧ n < s.floors.length ∧ gateOf s n < h) → ∀ x ∈ leads s.sills s.floors.length f s.sills.length, h ≤ gateOf s x.1.2 → Mark (bankW s h) x.1 := by
  have st0 : Sound s h (List.replicate s.sills.length false, List.replicate s.floors.length false) := by
    refine ⟨by simp, by simp, fun i hi => ?_, fun i hi => ?_⟩ <;>
    · rw [List.getElem?_replicate] at hi
      split at hi <;> cases hi
  obtain ⟨a1, a2⟩ := leave_sound ok h0 (f := -1) (.inl rfl) (.inl rfl) _ _ st0 (fun _ h => h)
  have mono : ∀ (l : List Nat) (st : List Bool × List Bool) (y : Nat × Nat), Mark st y → Mark (l.foldl (leaveP s h) st) y := by
    intro l
    induction l with
    | nil => exact fun _ _ k => k
    | cons p r ih =>
      intro st y k
      refine ih _ y ?_
      unfold leaveP
      split
      · exact leave_mono _ _ k
      · exact k
  have key : ∀ (l : List Nat) (st : List Bool × List Bool), (∀ p ∈ l, p < s.floors.length) → Sound s h st → Sound s h (l.foldl (leaveP s h) st) ∧ ∀ p ∈ l, gateOf s p < h → ∀ x ∈ leads s.sills s.floors.length p s.sills.length, h ≤ gateOf s x.1.2 → Mark (l.foldl (leaveP s h) st) x.1 := by
    intro l
    induction l with
    | nil => exact fun _ _ k => ⟨k, fun p hp => by simp at hp⟩
    | cons p r ih =>
      intro st hl k
      have hone : Sound s h (leaveP s h st p) ∧ (gateOf s p < h → ∀ x ∈ leads s.sills s.floors.length p s.sills.length, h ≤ gateOf s x.1.2 → Mark (leaveP s h st p) x.1) := by
        unfold leaveP
        split
        · next hc =>
          obtain ⟨b1, b2⟩ := leave_sound ok h0 (f := p) (.inr ⟨p, rfl, hl p (by simp)⟩) (.inr (by rw [Int.toNat_natCast]; exact hc)) _ _ k (fun _ h => h)
          exact ⟨b1, fun _ => b2⟩
        · next hc => exact ⟨k, fun hh => absurd hh hc⟩
      obtain ⟨c1, c2⟩ := ih (leaveP s h st p) (fun q hq => hl q (by simp [hq])) hone.1
      refine ⟨c1, fun q hq hg x hx hx2 => ?_⟩
      rcases List.mem_cons.1 hq with rfl | hq
      · exact mono r _ _ (hone.2 hg x hx hx2)
      · exact c2 q hq hg x hx hx2
  obtain ⟨d1, d2⟩ := key (List.range s.floors.length) _ (fun p hp => List.mem_range.1 hp) a1
  refine ⟨d1, fun f hf x hx hx2 => ?_⟩
  rcases hf with rfl | ⟨n, rfl, h1, h2⟩
  · exact mono _ _ _ (a2 x hx hx2)
  · exact d2 n (List.mem_range.2 h1) h2 x hx hx2
theorem mem_markL {l : List Bool} {i : Nat} : (i : Int) ∈ markL l ↔ l[i]? = some true := by
  unfold markL
  rw [List.mem_map]
  constructor
  · rintro ⟨j, hj, e⟩
    obtain rfl : j = i := by omega
    rw [List.mem_filter, List.mem_range] at hj
    rw [List.getElem?_eq_getElem hj.1] at hj ⊢
    rw [Option.getD_some] at hj
    rw [hj.2]
  · intro h
    refine ⟨i, ?_, rfl⟩
    rw [List.mem_filter, List.mem_range, h]
    exact ⟨(List.getElem?_eq_some_iff.1 h).1, rfl⟩
theorem markL_lt {l : List Bool} : ∀ y ∈ markL l, ∃ i : Nat, y = i ∧ i < l.length := by
  intro y hy
  unfold markL at hy
  obtain ⟨i, hi, rfl⟩ := List.mem_map.1 hy
  exact ⟨i, rfl, List.mem_range.1 (List.mem_filter.1 hi).1⟩
theorem markL_up (l : List Bool) : (markL l).Pairwise (· < ·) := by
  unfold markL
  rw [List.pairwise_map]
  refine List.Pairwise.imp ?_ (List.Pairwise.filter _ List.pairwise_lt_range)
  intro a b h
  omega
theorem markL_nodup (l : List Bool) : (markL l).Nodup := (markL_up l).imp (fun h => by omega)
theorem markL_len (l : List Bool) : (markL l).length ≤ l.length := by
  unfold markL
  rw [List.length_map]
  exact Nat.le_trans (List.length_filter_le _ _) (by simp)
/-- the bank of a place with a way: it holds, and is as high as the gate -/
theorem bank_holds (ok : Ok s) {p : Nat} (hp : p < s.floors.length) (he : errFor s p = 0) (g0 : 0 ≤ gateOf s p) (hg : gateOf s p < 1050) :
    errHold s p (bankV s (gateOf s p)).1 (bankV s (gateOf s p)).2 = 0 ∧ holdV s p (bankV s (gateOf s p)).1 (bankV s (gateOf s p)).2 = gateOf s p := by
  obtain ⟨⟨k1, k2, k3, k4⟩, k5⟩ := bank_sound ok g0
  have e1 : (bankV s (gateOf s p)).1 = markL (bankW s (gateOf s p)).1 := rfl
  have e2 : (bankV s (gateOf s p)).2 = markL (bankW s (gateOf s p)).2 := rfl
  rw [e1, e2]
  generalize bankW s (gateOf s p) = st at *
  have hno : ¬ Got (waysOf s (mayHold (markL st.1) (markL st.2))) p := by
    intro h
    have : p < s.floors.length ∧ gateOf s p < gateOf s p := by
      refine ways_inv (P := fun t => t < s.floors.length ∧ gateOf s t < gateOf s p) (fun x hx hm => ⟨x.2.2, ?_⟩) (fun f hf x hx hm => ⟨x.2.2, ?_⟩) p h
      · unfold mayHold at hm
        simp only [Bool.and_eq_true, decide_eq_true_eq, mem_markL] at hm
        by_cases hc : gateOf s x.1.2 < gateOf s p
        · exact hc
        · rcases k5 (-1) (.inl rfl) x hx (by omega) with k | k
          · exact absurd k hm.1
          · exact absurd k hm.2
      · unfold mayHold at hm
        simp only [Bool.and_eq_true, decide_eq_true_eq, mem_markL] at hm
        by_cases hc : gateOf s x.1.2 < gateOf s p
        · exact hc
        · rcases k5 f (.inr ⟨f, rfl, hf.1, hf.2⟩) x hx (by omega) with k | k
          · exact absurd k hm.1
          · exact absurd k hm.2
    omega
  have hE : errHold s p (markL st.1) (markL st.2) = 0 := by
    refine errHold_ok he ?_ ?_ (markL_nodup _) (markL_nodup _) (way_none.2 hno) ?_
    · rw [List.all_eq_true]
      intro y hy
      obtain ⟨i, rfl, hi⟩ := markL_lt y hy
      exact inB_true.2 (by omega)
    · rw [List.all_eq_true]
      intro y hy
      obtain ⟨i, rfl, hi⟩ := markL_lt y hy
      exact inB_true.2 (by omega)
    · rintro ⟨h1, h2⟩
      rw [h1, h2] at hno
      exact hno (got_more ok.fl1 (fun i t _ _ _ => by simp [mayHold]) p (way_got ok (h := gateOf s p) hg p hp (Int.le_refl _)))
  refine ⟨hE, ?_⟩
  have hle := hold_le ok hp hE
  have hv : holdV s p (markL st.1) (markL st.2) = leastF s (leastS s 999 (markL st.1)) (markL st.2) := by unfold holdV; rw [if_pos hE]
  have h9 := gate_got ok (h := 999) (by decide) p (got_more ok.fl1 (fun i t hi ht _ => by
    unfold mayGate
    rw [decide_eq_true_eq, stepV_eq hi ht]
    have := ok.heights _ (List.getElem_mem hi)
    have := ok.floors _ (List.getElem_mem ht)
    omega) p (way_got ok (h := gateOf s p) hg p hp (Int.le_refl _)))
  have hge : gateOf s p ≤ leastF s (leastS s 999 (markL st.1)) (markL st.2) := by
    refine leastF_ge _ (leastS_ge _ h9.2 ?_) ?_
    · intro y hy
      obtain ⟨i, rfl, -⟩ := markL_lt y hy
      rw [Int.toNat_natCast]
      exact k3 i (mem_markL.1 hy)
    · intro y hy
      obtain ⟨i, rfl, -⟩ := markL_lt y hy
      rw [Int.toNat_natCast]
      exact k4 i (mem_markL.1 hy)
  omega
end
end Go.Proofs.Ytifcmbeejichdaa
namespace Go.Proofs.Ytifcmbeejichdaa
open Go.RowKit
section
variable {s : Sd}
/-- the sill, turned so that it begins at e if it ends there -/
def turnTo (y : Int × Int × Int) (e : Int) : Int × Int × Int := if y.2.1 = e then (y.2.1, y.1, y.2.2) else y
theorem turnTo_other {y : Int × Int × Int} {e : Int} (hy : y.1 ≠ y.2.1) (h : (turnTo y e).1 = e) : other y e = (turnTo y e).2.1 := by
  unfold turnTo at *
  unfold other
  by_cases hc : y.2.1 = e
  · rw [if_pos hc] at h ⊢
    have n1 : (e == y.1) = false := beq_eq_false_iff_ne.2 (by rw [← hc]; exact Ne.symm hy)
    have n2 : (e == y.2.1) = true := by rw [hc]; simp
    rw [n1, n2]; rfl
  · rw [if_neg hc] at h ⊢
    have n1 : (e == y.1) = true := by rw [h]; simp
    rw [n1]; rfl
theorem turnTo_rng (ok : Ok s) {n : Nat} (hn : n < s.sills.length) (e : Int) : (-1 ≤ (turnTo s.sills[n] e).2.1 ∧ (turnTo s.sills[n] e).2.1 < s.floors.length) ∧ (-1 ≤ (turnTo s.sills[n] e).1 ∧ (turnTo s.sills[n] e).1 < s.floors.length) := by
  obtain ⟨h1, h2⟩ := ok.good _ (List.getElem_mem hn)
  unfold turnTo
  have key : ∀ y : Int, (y = -1 ∨ 0 ≤ y ∧ y < s.floors.length) → -1 ≤ y ∧ y < s.floors.length := fun y h => by
    rcases h with h | h
    · omega
    · omega
  split
  · exact ⟨key _ h1, key _ h2⟩
  · exact ⟨key _ h2, key _ h1⟩
/-- where one has come to by the sills l, over the places M (the Sea first) -/
def Wand (s : Sd) (l M : List Int) (e : Int) : Prop :=
  ∃ M' c, M = -1 :: M' ∧ FolTo s l M' e c ∧ l.all (isSi s) = true ∧ l.length = M'.length
theorem Wand.start (s : Sd) : Wand s [] [-1] (-1) := ⟨[], 0, rfl, FolTo.nil, rfl, rfl⟩
theorem Wand.step (ok : Ok s) {l M : List Int} {e : Int} (h : Wand s l M e) {n : Nat} (hn : n < s.sills.length) (ha : (turnTo s.sills[n] e).1 = e) (hM : (turnTo s.sills[n] e).2.1 ∉ M) : Wand s (l ++ [(n : Int)]) (M ++ [(turnTo s.sills[n] e).2.1]) (turnTo s.sills[n] e).2.1 := by
  obtain ⟨M', c, rfl, hf, ha', hl⟩ := h
  have ho := turnTo_other (ok.two _ (List.getElem_mem hn)) ha
  obtain ⟨⟨r1, r2⟩, -⟩ := turnTo_rng ok hn e
  generalize (turnTo s.sills[n] e).2.1 = t at *
  have ht : t ≠ -1 := fun h => hM (by rw [h]; simp)
  obtain ⟨t, rfl⟩ := Int.eq_ofNat_of_zero_le (show 0 ≤ t by omega)
  have hin : isSi s (n : Int) = true := inB_true.2 ⟨by omega, by omega⟩
  refine ⟨M' ++ [(t : Int)], _, rfl, hf.snoc hn (by omega) ho (fun h => hM (by simp [h])), by rw [List.all_append, ha']; simp [hin], by simp [hl]⟩
theorem Wand.all {l M : List Int} {e : Int} (h : Wand s l M e) : l.all (isSi s) = true := by
  obtain ⟨M', c, rfl, hf, ha', hl⟩ := h
  exact ha'
theorem Wand.len {l M : List Int} {e : Int} (h : Wand s l M e) : M.length = l.length + 1 := by
  obtain ⟨M', c, rfl, hf, ha', hl⟩ := h
  simp [hl]
theorem Wand.crest (ok : Ok s) {l M : List Int} {e : Int} (h : Wand s l M e) {p : Nat} (hE : errFor s p = 0) : (e = p → errCrest s p l = 0 ∧ gateOf s p ≤ crestV s p l) ∧ (e ≠ p → errCrest s p l = 8) := by
  obtain ⟨M', c, rfl, hf, ha', hl⟩ := h
  have hv := hf.val
  constructor
  · intro he
    have h0 : errCrest s p l = 0 := by
      unfold errCrest
      rw [if_pos hE, if_pos ha', if_pos (by rw [hv]; exact he)]
    refine ⟨h0, ?_⟩
    unfold crestV
    rw [if_pos h0]
    exact crest_gate ok ha' (by rw [hv]; exact he)
  · intro he
    unfold errCrest
    rw [if_pos hE, if_pos ha', if_neg (by rw [hv]; exact he)]
/-- numbers below n, each one greater than those ahead -/
def Rise (n : Nat) (l : List Int) : Prop := l.Pairwise (· < ·) ∧ ∀ y ∈ l, 0 ≤ y ∧ y < n
theorem Rise.nil (n : Nat) : Rise n [] := ⟨List.Pairwise.nil, by simp⟩
theorem Rise.snoc {n : Nat} {l : List Int} (h : Rise n l) : Rise (n + 1) (l ++ [(n : Int)]) := by
  refine ⟨List.pairwise_append.2 ⟨h.1, List.pairwise_singleton _ _, fun a ha b hb => ?_⟩, fun y hy => ?_⟩
  · rw [List.mem_singleton] at hb
    have := h.2 a ha
    omega
  · rcases List.mem_append.1 hy with hy | hy
    · have := h.2 y hy; omega
    · rw [List.mem_singleton] at hy; omega
theorem Rise.mono {n : Nat} {l : List Int} (h : Rise n l) : Rise (n + 1) l := ⟨h.1, fun y hy => by have := h.2 y hy; omega⟩
theorem Rise.len {n : Nat} {l : List Int} (h : Rise n l) : l.length ≤ n :=
  few_nat n l (h.1.imp (fun h => by omega)) (fun y hy => ⟨y.toNat, by have := h.2 y hy; omega, by have := h.2 y hy; omega⟩)
theorem hold_try (ok : Ok s) {p : Nat} (hp : p < s.floors.length) (hE : errFor s p = 0) (hg : gateOf s p < 1050) {ss ps : List Int} (h1 : Rise s.sills.length ss) (h2 : Rise s.floors.length ps) :
    (errHold s p ss ps = 8) ∨ (errHold s p ss ps = 0 ∧ holdV s p ss ps ≤ gateOf s p) := by
  have a1 : ss.all (isSi s) = true := by
    rw [List.all_eq_true]
    intro y hy
    have := h1.2 y hy
    exact inB_true.2 ⟨by omega, by omega⟩
  have a2 : ps.all (isPl s) = true := by
    rw [List.all_eq_true]
    intro y hy
    have := h2.2 y hy
    exact inB_true.2 ⟨by omega, by omega⟩
  have n1 : ss.Nodup := h1.1.imp (fun h => by omega)
  have n2 : ps.Nodup := h2.1.imp (fun h => by omega)
  by_cases hw : wayAt (waysOf s (mayHold ss ps)) p = none
  · by_cases he : ss = [] ∧ ps = []
    · left
      rw [he.1, he.2, hold_nil ok hp hE, if_pos hg]
    · right
      have h0 := errHold_ok hE a1 a2 n1 n2 hw he
      exact ⟨h0, hold_le ok hp h0⟩
  · left
    unfold errHold
    rw [if_pos hE, if_pos ⟨a1, a2⟩, if_pos ⟨n1, n2⟩, if_neg hw]
/-- what a way, a bank and a gate are of a place with one -/
theorem cross_facts (ok : Ok s) {p : Nat} (hp : p < s.floors.length) (hc : chk s = 0) (h0 : 0 ≤ gateOf s p) :
    errFor s p = 0 ∧ (gateOf s p < 1050 → errGate s p = 0 ∧ gateV s p = gateOf s p ∧ errCrest s p (wayV s p) = 0 ∧ crestV s p (wayV s p) = gateOf s p) ∧ (¬ gateOf s p < 1050 → errGate s p = 6 ∧ errHold s p [] [] = 6) := by
  have hE : errFor s p = 0 := by
    unfold errFor
    rw [if_pos hc, show isPl s p = true from inB_true.2 ⟨by omega, by omega⟩]
    rfl
  have gl := gts_le s p
  refine ⟨hE, fun hg => ?_, fun hg => ?_⟩
  · have e : errGate s p = 0 := by
      unfold errGate
      rw [if_pos hE, Int.toNat_natCast]
      have : hasWayB s p = true := by
        unfold hasWayB
        rw [bne_iff_ne]
        unfold gateOf at hg
        omega
      rw [this]; rfl
    obtain ⟨k1, k2, -⟩ := wayV_fol ok hp hg h0 e
    have e2 : errCrest s p (wayV s p) = 0 := by
      unfold errCrest
      rw [if_pos hE, if_pos k1, if_pos (by rw [k2])]
    exact ⟨e, by unfold gateV; rw [if_pos e, Int.toNat_natCast], e2, by unfold crestV; rw [if_pos e2, k2]⟩
  · have e : errGate s p = 6 := by
      unfold errGate
      rw [if_pos hE, Int.toNat_natCast]
      have : hasWayB s p = false := by
        unfold hasWayB
        rw [bne_eq_false_iff_eq]
        unfold gateOf at hg gl
        omega
      rw [this]; rfl
    exact ⟨e, by rw [hold_nil ok hp hE, if_neg hg]⟩
end
end Go.Proofs.Ytifcmbeejichdaa
