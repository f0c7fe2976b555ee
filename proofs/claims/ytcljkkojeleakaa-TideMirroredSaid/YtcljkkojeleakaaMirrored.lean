/- Proved: whatever numbers are passed in, the law TideMirrored returns true, and all arguments read behind the call as they read before it. Conditions: none but those that the given row states of itself. -/
import Derived.Test.YtcljkkojeleakaaAll
import Derived.Test.YtcljkkojeleakaaDup
import Derived.Test.YtcljkkojeleakaaLonger
import Derived.Test.YtcljkkojeleakaaFar
import Derived.Test.YtcljkkojeleakaaOwn
import Derived.Test.YtcljkkojeleakaaBegin2
import Derived.Test.YtcljkkojeleakaaOut1
import Derived.Test.YtcljkkojeleakaaState2
import Derived.Test.YtcljkkojeleakaaShifts
import Derived.Test.YtcljkkojeleakaaTurn
import Derived.Test.YtcljkkojeleakaaHold
import Derived.Test.YtcljkkojeleakaaLooks
import Derived.Test.YtcljkkojeleakaaLooks3
import Derived.Test.YtcljkkojeleakaaSpans2
import Derived.Test.YtcljkkojeleakaaHoldW
import Derived.Test.YtcljkkojeleakaaHgtPure
import Derived.Test.YtcljkkojeleakaaAwake
import Derived.Test.YtcljkkojeleakaaMade
import Derived.Test.YtcljkkojeleakaaOpen
import Derived.Test.YtcljkkojeleakaaHeap
import Derived.Test.YtcljkkojeleakaaBase
import Derived.Test.YtcljkkojeleakaaHeight
import Derived.Test.YtcljkkojeleakaaChk2
import Derived.Test.YtcljkkojeleakaaPost
import Derived.WalkKit
import Derived.WalkSpells
import Derived.WalkLawsBesides
import Derived.Deep.QuietTactic
import Derived.BigQuiet
import Derived.Lib.Hide
import Derived.Shelf.Abstract
import Derived.BigGuardPart
import Derived.RangeFuncNested
import Derived.RangeFuncBound
import Derived.RangeFuncCalls
import Derived.RangeFuncLeaves
import Derived.Shelf.RegionOpen
import Derived.OwnWalkIn
import Derived.TacticsInMore
import Derived.LoopNIn
import Derived.LoopIn
import Derived.StillTailTactics
import Derived.Deep.RegionHeld3
import Derived.StillTail
import Derived.RangeFuncWrites
import Derived.Laws.StructEq
import Derived.Deep.LoopGhost
import Derived.IntWalk
import Derived.RangeFuncBox
import Derived.Deep.Cut
import Derived.Deep.DeepCutAuto
import Derived.Carry
import Derived.ChangeSame
import Derived.SizedLaws
import Derived.ProofKit
import Derived.OpenShut
import Derived.JoinedOf
import Derived.Deep.Slices
import Derived.ArgAppend
import Derived.Laws.CopyOwn
import Derived.OwnWalk
import Derived.Lib.SliceRun
import Derived.Maps.OwnOps
import Derived.Maps.OwnSet
import Derived.Deep.AppendSrc
import Derived.Deep.Upon
/- The elements of a list that are what they are asked to be; the numbers of all places. -/
namespace Go.Proofs.Ytcljkkojeleakaa
open Go.RowKit Go.Shelf

set_option maxRecDepth 100000 in
set_option maxHeartbeats 1000000 in
theorem those_c (f : Nat) (pre post : Array Value) (p : Option Addr) (c : Nat) (l : List Int) (pd : Int → Bool) (w : World) (hr : Row w p 1 (ints l)) (hm : l.length ≤ 100000) (eg : Enters Try.prog f)
    (hf : ∀ x, x ∈ l → ∀ W, Up w W → Calls Try.prog f (pre ++ #[.int .i64 x] ++ post) W fun e W' => e = .returned (.bool (pd x)) ∧ Up W W') :
    Calls Try.prog 128 #[.slice p l.length c, .func (.func f) pre post] w fun e w' => ∃ q d, e = .returned (.slice q (l.filter pd).length d) ∧ (l.filter pd).length ≤ d ∧ d ≤ maxLen ∧ Row w' q 1 (ints (l.filter pd)) ∧ Up w w' := by
  have eg' : ∀ (args : Array Value) (w : World), (callFunc f args).run Try.prog w = .ok (.enter f args) w := eg
  have HF := Lib.hid hf
  obtain ⟨i0, hi, hz0, hz1, hz2⟩ := info_parts info3
  clear hf
  go_enter Try.func128, Try.ntmps128
  go_wp2
  go_loopw [10, 5] (fun i v wr => ∃ k : Nat, k ≤ l.length ∧ i = .int .i64 k ∧ Up w wr ∧ wr.ownsRow w.heap.size 3 1 v ((l.take k).filter pd).length (ints ((l.take k).filter pd)).flatten) (fun i _ _ => l.length - (intOf i).toNat)
  case atStart => exact ⟨0, Nat.zero_le _, rfl, Below.refl _ _, World.ownsRow_nil _ _ _ _⟩
  case round =>
    obtain ⟨k, hk, rfl, hu, hown⟩ := hrel
    have hsz := hu.size
    have hle : ((l.take k).filter pd).length ≤ l.length := Nat.le_trans (List.length_filter_le _ _) (by rw [List.length_take]; omega)
    by_cases hlt : k < l.length
    · obtain ⟨b, off, rfl, hc0⟩ := hr.int k hlt
      have hd0 := hu.cellAt hc0
      clear hc0
      have hfk := fun W h => HF.out l[k] (List.getElem_mem _) W h
      have htk : l.take (k + 1) = l.take k ++ [l[k]] := List.take_succ_eq_append_getElem hlt
      cases hp : pd l[k]
      · rw [hp] at hfk
        have HT := Lib.hid (show (l.take (k + 1)).filter pd = (l.take k).filter pd by rw [htk, List.filter_append]; simp [hp])
        have HK := Lib.hid hfk
        have HO := Lib.hid hown
        clear hfk hown htk hp hle
        go_wp2_with fail
        refine (HK.out _ hu).mono ?_
        rintro e w1 ⟨rfl, hb1⟩
        go_wp2
        go_roundw
        case rel => exact ⟨k + 1, hlt, by go_num, Up.trans hu hb1, by rw [HT.out]; exact ownsRow_up HO.out hb1⟩
        case measure => simp [intOf]; omega
      · rw [hp] at hfk
        have HT := Lib.hid (show (l.take (k + 1)).filter pd = (l.take k).filter pd ++ [l[k]] by rw [htk, List.filter_append]; simp [hp])
        have HK := Lib.hid hfk
        have HO := Lib.hid hown
        clear hfk hown htk hp
        go_wp2_with fail
        refine (HK.out _ hu).mono ?_
        rintro e w1 ⟨rfl, hb1⟩
        have O1 := Lib.hid (ownsRow_up HO.out hb1)
        have U1 := Lib.hid (Up.trans hu hb1)
        have hs1 : w.heap.size ≤ w1.heap.size := U1.out.size
        clear hb1 HO
        go_wp2_with (at_builtin; refine wpList_append_own _ rfl _ _ 25 rfl w.heap.size 3 i0 (.int .i64 0) 1 8 Try.underlying25 hi hz0 hz1 hz2 rfl (by decide) _ _ _ rfl (O1.out.alloc _) ⟨w1.heap.size, 0, none⟩ 1 1 [.int .i64 l[k]] rfl rfl (newsAt _ rfl [.int .i64 l[k]] _) (by simp [Value.oneCell']) (by simp [maxLen]; omega) (by omega) (sz_alloc hs1) ?_; intro v' w2 hown hgr hnn; clear hnn)
        have U2 := Lib.hid ((U1.out.alloc hs1 _).grown hgr (sz_alloc hs1) (fun j e => (O1.out.lt j e).1))
        have O2 := Lib.hid hown
        clear hown hgr
        go_roundw
        case rel =>
          refine ⟨k + 1, hlt, by go_num, U2.out, ?_⟩
          rw [HT.out]
          have e : (ints ((l.take k).filter pd ++ [l[k]])).flatten = (ints ((l.take k).filter pd)).flatten ++ [.int .i64 l[k]] := by unfold ints; rw [List.map_append, List.flatten_append]; rfl
          rw [e, List.length_append]
          exact O2.out
        case measure => simp [intOf]; omega
    · obtain rfl : k = l.length := by omega
      rw [List.take_length] at hown
      obtain ⟨q, d, rfl, a1, a2, hR, -⟩ := Row.of_own (rows := ints (l.filter pd)) (flatOk_ints _) hown (by simp [ints])
      go_wp2
      go_ret
      exact ⟨q, d, rfl, a1, a2, hR, hu⟩

section
variable {pT pF pS : Option Addr} {cT cF cS : Nat}
/-- the numbers of all places -/
def allP (s : Sd) : List Int := (List.range s.floors.length).map fun (p : Nat) => (p : Int)
theorem allP_len (s : Sd) : (allP s).length = s.floors.length := by simp [allP]
set_option maxRecDepth 100000 in
set_option maxHeartbeats 1000000 in
theorem allPlaces_c (bw : Nat) (s : Sd) (w : World) (hw : IsWork w bw s pT pF pS cT cF cS) (hf : s.floors.length ≤ 8) :
    Calls Try.prog 129 #[.pointer (some ⟨bw, 0, none⟩)] w fun e w' => ∃ q d, e = .returned (.slice q (allP s).length d) ∧ (allP s).length ≤ d ∧ d ≤ maxLen ∧ Row w' q 1 (ints (allP s)) ∧ Up w w' := by
  obtain ⟨i0, hi, hz0, hz1, hz2⟩ := info_parts info3
  have hmk : ∀ u : World, (Instr.makeSlice 25 (.int .i64 (s.floors.length : Int)) (.int .i64 (s.floors.length : Int))).run Try.prog u =
      .ok (.slice (some ⟨u.heap.size, 0, none⟩) s.floors.length s.floors.length) (u.alloc (.cells (madeCells #[.int .i64 0] s.floors.length) 3)) := fun u => by
    have h := run_make (P := Try.prog) u 25 3 i0 (.int .i64 0) Try.underlying25 hi hz0 .i64 .i64 (s.floors.length : Int) (s.floors.length : Int) (by omega) (Int.le_refl _) (by rw [hz2]; omega) (by omega)
    rw [Int.toNat_natCast] at h
    simpa [hz1, Value.cells] using h
  have q3 := hw.sands.s3
  have lb := cell_lt q3
  rw [allP_len]
  clear hi hz0 hz1 hz2 hw
  have HMK := Lib.hid hmk
  go_enter Try.func129, Try.ntmps129
  go_wp2_with fail
  clear hmk
  go_loopw [14] (fun i wr => ∃ k : Nat, k ≤ s.floors.length ∧ i = .int .i64 k ∧ Blk wr w.heap.size (gcells (fillTo s.floors.length (fun (p : Nat) => (p : Int)) k)) 3 ∧ Up w wr) (fun i _ => s.floors.length - (intOf i).toNat)
  case atStart =>
    refine ⟨0, by omega, rfl, ?_, by (repeat (first | exact Below.refl _ _ | (with_reducible refine Below.drewN' ?_ _) | (with_reducible refine Below.drew ?_) | (with_reducible refine Below.setCell ?_ (by first | exact Nat.le_refl _ | omega | (with_reducible (repeat (first | refine sz_alloc ?_ | refine sz_setCell ?_ | refine sz_drew ?_ | refine sz_drewN ?_)); first | exact Nat.le_refl _ | omega) | (simp only [World.size_alloc, World.size_setCell, World.size_drew, size_drewN']; omega)) _) | (with_reducible refine Below.alloc ?_ (by first | exact Nat.le_refl _ | omega | (with_reducible (repeat (first | refine sz_alloc ?_ | refine sz_setCell ?_ | refine sz_drew ?_ | refine sz_drewN ?_)); first | exact Nat.le_refl _ | omega) | (simp only [World.size_alloc, World.size_setCell, World.size_drew, size_drewN']; omega)) _) | assumption))⟩
    have : (madeCells #[Value.int .i64 0] s.floors.length) = (gcells (fillTo s.floors.length (fun (p : Nat) => (p : Int)) 0)).toArray := by
      apply Array.toList_inj.1
      rw [toList_madeCells_one]
      simp [gcells, fillTo]
    rw [this]
    exact Blk.new _ _ _
  case round =>
    obtain ⟨k, hk, rfl, hB, hu⟩ := hrel
    have c0 := hB.cell k
    have f0 := hB.free k
    have HB := Lib.hid hB
    have HU := Lib.hid hu
    clear hB hu
    by_cases hlt : k < s.floors.length
    · have k1 : (k : Int) < s.floors.length := by omega
      rw [gcells, List.getElem?_map, List.getElem?_eq_getElem (by rw [fillTo_len hk]; exact hlt)] at c0
      simp only [Option.map_some] at c0
      go_wp2_with fail
      go_roundw
      case rel =>
        refine ⟨k + 1, hlt, by go_num, ?_, HU.out.setCell (by simp) _⟩
        have := HB.out.set k (.int .i64 (k : Int))
        rw [gcells, ← List.map_set, fillTo_set (f := fun (p : Nat) => (p : Int)) hlt] at this
        exact this
      case measure => simp [intOf]; omega
    · obtain rfl : k = s.floors.length := by omega
      clear c0
      go_wp2_with fail
      go_ret
      refine ⟨_, _, rfl, Nat.le_refl _, by simp [maxLen]; omega, ?_, HU.out⟩
      have := HB.out
      rw [fillTo_end] at this
      exact Row.of_blk this
end
end Go.Proofs.Ytcljkkojeleakaa
/- Plain facts: the lowering of gates as a row of updates; gates of raised sands, and of sands with one sill more. -/
namespace Go.Proofs.Ytcljkkojeleakaa
section
open Go.RowKit

/-- what a sill lowers that leads on from a place: which gate, and to what at most -/
def up1 (F : List Int) (f : Int) (x : Int × Int × Int) : Option (Nat × Int) :=
  if 0 ≤ other x f ∧ (other x f).toNat < F.length then some ((other x f).toNat, grt [x.2.2, F[(other x f).toNat]?.getD 0]) else none
def ap1 (g : List Int) (u : Nat × Int) : List Int := g.set u.1 (min (g[u.1]?.getD 0) u.2)
def ap2 (f : Nat) (g : List Int) (u : Nat × Int) : List Int := g.set u.1 (min (g[u.1]?.getD 0) (grt [g[f]?.getD 0, u.2]))

/-- a lead as an update -/
def ofLead (s : Sd) (x : Lead s.sills.length s.floors.length) : Nat × Int := (x.1.2, grt [(s.sills[x.1.1]'x.2.1).2.2, s.floors[x.1.2]'x.2.2])
theorem lead1_up (s : Sd) (f : Int) (i : Nat) : (lead1 s.sills s.floors.length f i).map (ofLead s) = if i < s.sills.length then up1 s.floors f (s.sills[i]?.getD (0, 0, 0)) else none := by
  unfold lead1 up1
  by_cases hi : i < s.sills.length
  · rw [if_pos hi]
    have e : s.sills[i] = s.sills[i]?.getD (0, 0, 0) := by rw [List.getElem?_eq_getElem hi]; rfl
    by_cases h : 0 ≤ other (s.sills[i]?.getD (0, 0, 0)) f ∧ (other (s.sills[i]?.getD (0, 0, 0)) f).toNat < s.floors.length
    · rw [dif_pos ⟨hi, h⟩, if_pos h]
      simp only [Option.map_some, ofLead]
      rw [e, List.getElem?_eq_getElem h.2, Option.getD_some]
    · rw [dif_neg (fun h' => h h'.2), if_neg h]; rfl
  · rw [if_neg hi, dif_neg (fun h' => hi h'.1)]; rfl
theorem fm_congr {α β : Type} {l : List α} {f g : α → Option β} (h : ∀ x ∈ l, f x = g x) : l.filterMap f = l.filterMap g := by
  induction l with
  | nil => rfl
  | cons a r ih => rw [List.filterMap_cons, List.filterMap_cons, h a (by simp), ih (fun x hx => h x (by simp [hx]))]
theorem filterMap_range {α β : Type} (l : List α) (d : α) (q : α → Option β) : (List.range l.length).filterMap (fun i => if i < l.length then q (l[i]?.getD d) else none) = l.filterMap q := by
  have e : l = (List.range l.length).map (fun i => l[i]?.getD d) := by
    apply List.ext_getElem
    · simp
    · intro i h1 h2; simp [List.getElem?_eq_getElem h1]
  conv => rhs; rw [e]
  rw [List.filterMap_map]
  apply fm_congr
  intro i hi
  rw [List.mem_range] at hi
  simp [hi]
theorem leads_up (s : Sd) (f : Int) : (leads s.sills s.floors.length f s.sills.length).map (ofLead s) = s.sills.filterMap (up1 s.floors f) := by
  unfold leads
  rw [List.map_filterMap, ← filterMap_range s.sills (0, 0, 0)]
  apply fm_congr
  intro i _
  exact lead1_up s f i
theorem lowSea_up (s : Sd) (g : List Int) : lowSea s g = (s.sills.filterMap (up1 s.floors (-1))).foldl ap1 g := by
  unfold lowSea
  rw [← leads_up, List.foldl_map]
  rfl
theorem lowFrom_up (s : Sd) (f : Nat) (g : List Int) : lowFrom s g f = (s.sills.filterMap (up1 s.floors f)).foldl (ap2 f) g := by
  unfold lowFrom
  rw [← leads_up, List.foldl_map]
  rfl

theorem grt2 (a b : Int) : grt [a, b] = max (max 0 a) b := rfl

/-- gates that are as low, or lower -/
def Leq (g g' : List Int) : Prop := g.length = g'.length ∧ ∀ i : Nat, g[i]?.getD 0 ≤ g'[i]?.getD 0 ∧ (g[i]?.getD 0 < 1050 → g'[i]?.getD 0 < 1050)
theorem Leq.refl (g : List Int) : Leq g g := ⟨rfl, fun _ => ⟨Int.le_refl _, id⟩⟩
theorem Leq.set {a b : List Int} (h : Leq a b) (t : Nat) {c d : Int} (hc : c ≤ d) (hd : c < 1050 → d < 1050) : Leq (a.set t (min (a[t]?.getD 0) c)) (b.set t (min (b[t]?.getD 0) d)) := by
  refine ⟨by simp [h.1], fun i => ?_⟩
  have h1 := h.2 i
  have h0 := h.1
  rw [List.getElem?_set, List.getElem?_set]
  by_cases hi : t = i
  · subst hi
    by_cases hl : t < a.length
    · have hl' : t < b.length := by omega
      simp only [if_true, hl, hl', Option.getD_some]
      omega
    · have hl' : ¬ t < b.length := by omega
      simp [hl, hl']
  · rw [if_neg hi, if_neg hi]; exact h1

/-- sills of which some are higher, and floors -/
inductive HiS : List (Int × Int × Int) → List (Int × Int × Int) → Prop
  | nil : HiS [] []
  | cons {a b h h' : Int} {r r' : List (Int × Int × Int)} : h ≤ h' → h' ≤ 999 → HiS r r' → HiS ((a, b, h) :: r) ((a, b, h') :: r')
def HiF (F F' : List Int) : Prop := F.length = F'.length ∧ ∀ i : Nat, F[i]?.getD 0 ≤ F'[i]?.getD 0 ∧ F'[i]?.getD 0 ≤ 999
theorem HiS.refl : ∀ {l : List (Int × Int × Int)}, (∀ x ∈ l, x.2.2 ≤ 999) → HiS l l
  | [], _ => .nil
  | (a, b, h) :: r, k => .cons (Int.le_refl _) (k (a, b, h) (by simp)) (HiS.refl (fun x hx => k x (by simp [hx])))
theorem HiS.at : ∀ {l : List (Int × Int × Int)} (i : Nat) (d : Int) (hi : i < l.length), 0 ≤ d → (∀ x ∈ l, x.2.2 ≤ 999) → l[i].2.2 + d ≤ 999 → HiS l (l.set i (l[i].1, l[i].2.1, l[i].2.2 + d))
  | (a, b, h) :: r, 0, d, _, h0, k, k9 => .cons (show h ≤ h + d by omega) k9 (HiS.refl (fun x hx => k x (by simp [hx])))
  | (a, b, h) :: r, i + 1, d, hi, h0, k, k9 => by
    have hi' : i < r.length := by simpa using hi
    exact .cons (Int.le_refl _) (k (a, b, h) (by simp)) (HiS.at i d hi' h0 (fun x hx => k x (by simp [hx])) (by simpa using k9))
theorem HiF.refl {F : List Int} (h : ∀ x ∈ F, x ≤ 999) : HiF F F := ⟨rfl, fun i => ⟨Int.le_refl _, by
  by_cases hi : i < F.length
  · rw [List.getElem?_eq_getElem hi]; exact h _ (List.getElem_mem _)
  · rw [List.getElem?_eq_none (by omega)]; decide⟩⟩
theorem HiF.at {F : List Int} (i : Nat) (d : Int) (hi : i < F.length) (d0 : 0 ≤ d) (h : ∀ x ∈ F, x ≤ 999) (h9 : F[i] + d ≤ 999) : HiF F (F.set i (F[i] + d)) := by
  refine ⟨by simp, fun j => ?_⟩
  have k := (HiF.refl h).2 j
  rw [List.getElem?_set]
  by_cases hj : i = j
  · subst hj
    rw [if_pos rfl, if_pos hi, List.getElem?_eq_getElem hi]
    simp only [Option.getD_some]
    omega
  · rw [if_neg hj]; exact k

theorem hi_ap1 {F F' : List Int} (hF : HiF F F') (f : Int) {l l' : List (Int × Int × Int)} (hS : HiS l l') : ∀ {g g' : List Int}, Leq g g' → Leq ((l.filterMap (up1 F f)).foldl ap1 g) ((l'.filterMap (up1 F' f)).foldl ap1 g') := by
  induction hS with
  | nil => exact fun h => h
  | @cons a b h h' r r' hh h9 _ ih =>
    intro g g' hg
    have eo : other (a, b, h') f = other (a, b, h) f := rfl
    by_cases hc : 0 ≤ other (a, b, h) f ∧ (other (a, b, h) f).toNat < F.length
    · have e1 : up1 F f (a, b, h) = some ((other (a, b, h) f).toNat, grt [h, F[(other (a, b, h) f).toNat]?.getD 0]) := if_pos hc
      have e2 : up1 F' f (a, b, h') = some ((other (a, b, h) f).toNat, grt [h', F'[(other (a, b, h) f).toNat]?.getD 0]) := if_pos (by rw [← hF.1]; exact hc)
      rw [List.filterMap_cons_some e1, List.filterMap_cons_some e2, List.foldl_cons, List.foldl_cons]
      refine ih (hg.set _ ?_ ?_)
      · have := hF.2 (other (a, b, h) f).toNat
        simp only [grt2]; omega
      · have := hF.2 (other (a, b, h) f).toNat
        simp only [grt2]; omega
    · have e1 : up1 F f (a, b, h) = none := if_neg hc
      have e2 : up1 F' f (a, b, h') = none := if_neg (by rw [← hF.1]; exact hc)
      rw [List.filterMap_cons_none e1, List.filterMap_cons_none e2]
      exact ih hg
theorem hi_ap2 {F F' : List Int} (hF : HiF F F') (f : Nat) {l l' : List (Int × Int × Int)} (hS : HiS l l') : ∀ {g g' : List Int}, Leq g g' → Leq ((l.filterMap (up1 F f)).foldl (ap2 f) g) ((l'.filterMap (up1 F' f)).foldl (ap2 f) g') := by
  induction hS with
  | nil => exact fun h => h
  | @cons a b h h' r r' hh h9 _ ih =>
    intro g g' hg
    have eo : other (a, b, h') f = other (a, b, h) f := rfl
    by_cases hc : 0 ≤ other (a, b, h) f ∧ (other (a, b, h) f).toNat < F.length
    · have e1 : up1 F f (a, b, h) = some ((other (a, b, h) f).toNat, grt [h, F[(other (a, b, h) f).toNat]?.getD 0]) := if_pos hc
      have e2 : up1 F' f (a, b, h') = some ((other (a, b, h) f).toNat, grt [h', F'[(other (a, b, h) f).toNat]?.getD 0]) := if_pos (by rw [← hF.1]; exact hc)
      rw [List.filterMap_cons_some e1, List.filterMap_cons_some e2, List.foldl_cons, List.foldl_cons]
      have h1 := hF.2 (other (a, b, h) f).toNat
      have h2 := hg.2 f
      refine ih (hg.set _ ?_ ?_)
      · simp only [grt2]; omega
      · simp only [grt2]; omega
    · have e1 : up1 F f (a, b, h) = none := if_neg hc
      have e2 : up1 F' f (a, b, h') = none := if_neg (by rw [← hF.1]; exact hc)
      rw [List.filterMap_cons_none e1, List.filterMap_cons_none e2]
      exact ih hg
theorem hi_lowered {s t : Sd} (hF : HiF s.floors t.floors) (hS : HiS s.sills t.sills) {g g' : List Int} (hg : Leq g g') : Leq (lowered s g) (lowered t g') := by
  unfold lowered
  rw [← hF.1]
  have h0 : Leq (lowSea s g) (lowSea t g') := by rw [lowSea_up, lowSea_up]; exact hi_ap1 hF _ hS hg
  generalize lowSea s g = a at *
  generalize lowSea t g' = b at *
  generalize List.range s.floors.length = l
  induction l generalizing a b with
  | nil => exact h0
  | cons x r ih =>
    refine ih _ _ ?_
    rw [lowFrom_up, lowFrom_up]
    exact hi_ap2 hF _ hS h0

/-- lowered so many times -/
def iterG (s : Sd) : Nat → List Int → List Int
  | 0, g => g
  | n + 1, g => iterG s n (lowered s g)
theorem iterG_fix {s : Sd} {g : List Int} (h : lowered s g = g) : ∀ n, iterG s n g = g
  | 0 => rfl
  | n + 1 => by unfold iterG; rw [h]; exact iterG_fix h n
theorem fixG_iter (s : Sd) : ∀ n g, fixG s n g = iterG s n g
  | 0, g => rfl
  | n + 1, g => by
    unfold fixG
    split
    · next h => exact (iterG_fix h (n + 1)).symm
    · exact fixG_iter s n _
theorem hi_iter {s t : Sd} (hF : HiF s.floors t.floors) (hS : HiS s.sills t.sills) : ∀ n {g g' : List Int}, Leq g g' → Leq (iterG s n g) (iterG t n g')
  | 0, _, _, h => h
  | n + 1, _, _, h => hi_iter hF hS n (hi_lowered hF hS h)
theorem hi_gts {s t : Sd} (hF : HiF s.floors t.floors) (hS : HiS s.sills t.sills) : Leq (gts s) (gts t) := by
  unfold gts
  rw [fixG_iter, fixG_iter]
  exact hi_iter hF hS _ (Leq.refl _)

/-- with one sill more -/
def Geq (g g' : List Int) : Prop := g.length = g'.length ∧ ∀ i : Nat, g'[i]?.getD 0 ≤ g[i]?.getD 0
theorem Geq.set {a b : List Int} (h : Geq a b) (t : Nat) {c d : Int} (hc : d ≤ c) : Geq (a.set t (min (a[t]?.getD 0) c)) (b.set t (min (b[t]?.getD 0) d)) := by
  refine ⟨by simp [h.1], fun i => ?_⟩
  have h1 := h.2 i
  have h0 := h.1
  rw [List.getElem?_set, List.getElem?_set]
  by_cases hi : t = i
  · subst hi
    by_cases hl : t < a.length
    · have hl' : t < b.length := by omega
      simp only [if_true, hl, hl', Option.getD_some]
      omega
    · have hl' : ¬ t < b.length := by omega
      simp [hl, hl']
  · rw [if_neg hi, if_neg hi]; exact h1
theorem Geq.right {a b : List Int} (h : Geq a b) (t : Nat) (d : Int) : Geq a (b.set t (min (b[t]?.getD 0) d)) := by
  refine ⟨by simp [h.1], fun i => ?_⟩
  have h1 := h.2 i
  rw [List.getElem?_set]
  by_cases hi : t = i
  · subst hi
    by_cases hl : t < b.length
    · simp only [if_true, hl, Option.getD_some]
      omega
    · have hl' : ¬ t < a.length := by have := h.1; omega
      simp [hl, hl']
  · rw [if_neg hi]; exact h1
theorem more_ap1 (F : List Int) (f : Int) (l e : List (Int × Int × Int)) {g g' : List Int} (hg : Geq g g') : Geq ((l.filterMap (up1 F f)).foldl ap1 g) (((l ++ e).filterMap (up1 F f)).foldl ap1 g') := by
  rw [List.filterMap_append, List.foldl_append]
  have h0 : Geq ((l.filterMap (up1 F f)).foldl ap1 g) ((l.filterMap (up1 F f)).foldl ap1 g') := by
    generalize l.filterMap (up1 F f) = k
    induction k generalizing g g' with
    | nil => exact hg
    | cons x r ih => exact ih (hg.set _ (Int.le_refl _))
  generalize (l.filterMap (up1 F f)).foldl ap1 g = a at *
  generalize (l.filterMap (up1 F f)).foldl ap1 g' = b at *
  generalize e.filterMap (up1 F f) = k
  induction k generalizing b with
  | nil => exact h0
  | cons x r ih => exact ih _ (h0.right _ _)
theorem more_ap2 (F : List Int) (f : Nat) (l e : List (Int × Int × Int)) {g g' : List Int} (hg : Geq g g') : Geq ((l.filterMap (up1 F f)).foldl (ap2 f) g) (((l ++ e).filterMap (up1 F f)).foldl (ap2 f) g') := by
  rw [List.filterMap_append, List.foldl_append]
  have h0 : Geq ((l.filterMap (up1 F f)).foldl (ap2 f) g) ((l.filterMap (up1 F f)).foldl (ap2 f) g') := by
    generalize l.filterMap (up1 F f) = k
    induction k generalizing g g' with
    | nil => exact hg
    | cons x r ih =>
      refine ih (hg.set _ ?_)
      have := hg.2 f
      simp only [grt2]; omega
  generalize (l.filterMap (up1 F f)).foldl (ap2 f) g = a at *
  generalize (l.filterMap (up1 F f)).foldl (ap2 f) g' = b at *
  generalize e.filterMap (up1 F f) = k
  induction k generalizing b with
  | nil => exact h0
  | cons x r ih => exact ih _ (h0.right _ _)
theorem more_lowered {s t : Sd} {e : List (Int × Int × Int)} (hF : t.floors = s.floors) (hS : t.sills = s.sills ++ e) {g g' : List Int} (hg : Geq g g') : Geq (lowered s g) (lowered t g') := by
  unfold lowered
  rw [hF]
  have h0 : Geq (lowSea s g) (lowSea t g') := by rw [lowSea_up, lowSea_up, hF, hS]; exact more_ap1 _ _ _ _ hg
  generalize lowSea s g = a at *
  generalize lowSea t g' = b at *
  generalize List.range s.floors.length = l
  induction l generalizing a b with
  | nil => exact h0
  | cons x r ih =>
    refine ih _ _ ?_
    rw [lowFrom_up, lowFrom_up, hF, hS]
    exact more_ap2 _ _ _ _ h0
theorem more_iter {s t : Sd} {e : List (Int × Int × Int)} (hF : t.floors = s.floors) (hS : t.sills = s.sills ++ e) : ∀ n {g g' : List Int}, Geq g g' → Geq (iterG s n g) (iterG t n g')
  | 0, _, _, h => h
  | n + 1, _, _, h => more_iter hF hS n (more_lowered hF hS h)
theorem more_gts {s t : Sd} {e : List (Int × Int × Int)} (hF : t.floors = s.floors) (hS : t.sills = s.sills ++ e) : Geq (gts s) (gts t) := by
  unfold gts
  rw [fixG_iter, fixG_iter]
  exact more_iter hF hS _ ⟨rfl, fun _ => Int.le_refl _⟩

/-- no gate is above 1050 -/
theorem iter_less (s : Sd) : ∀ n {g : List Int}, Less top g → Less top (iterG s n g)
  | 0, _, h => h
  | n + 1, g, h => iter_less s n (h.trans (lowered_less s g (fun i => (h.2 i).1)))
theorem gts_le (s : Sd) (p : Nat) : 0 ≤ gateOf s p ∧ gateOf s p ≤ 1050 := by
  have h : Less top (gts s) := by
    unfold gts
    rw [fixG_iter]
    exact iter_less s _ (Less.refl top_nonneg)
  have h1 := h.2 p
  have h2 : top[p]?.getD 0 ≤ 1050 := by
    unfold top
    rw [List.getElem?_replicate]
    split <;> simp
  unfold gateOf
  omega
theorem hasWay_lt (s : Sd) (p : Nat) : hasWayB s p = decide (gateOf s p < 1050) := by
  have hg := gts_le s p
  unfold gateOf at hg ⊢
  unfold hasWayB
  generalize (gts s)[p]?.getD 0 = g at *
  by_cases h : g = 1050
  · subst h; rfl
  · rw [decide_eq_true (show g < 1050 by omega), bne_iff_ne]; exact h

section
variable {s t : Sd}
theorem errFor_in (ok : Ok s) {x : Int} (h : 0 ≤ x ∧ x < s.floors.length) : errFor s x = 0 := by
  unfold errFor
  rw [if_pos (chk_zero ok)]
  have : isPl s x = true := inB_true.2 (by omega)
  rw [this]; rfl
theorem errGate_in (ok : Ok s) {x : Int} (h : 0 ≤ x ∧ x < s.floors.length) : errGate s x = if gateOf s x.toNat < 1050 then 0 else 6 := by
  unfold errGate
  rw [if_pos (errFor_in ok h), hasWay_lt]
  by_cases h : gateOf s x.toNat < 1050 <;> simp [h]
theorem gateV_in (ok : Ok s) {x : Int} (h : 0 ≤ x ∧ x < s.floors.length) : gateV s x = if gateOf s x.toNat < 1050 then gateOf s x.toNat else 0 := by
  unfold gateV
  rw [errGate_in ok h]
  by_cases h : gateOf s x.toNat < 1050 <;> simp [h]
/-- raised: the same errors, no lesser gates, no greater states -/
theorem hi_gate (ok : Ok s) (ok' : Ok t) (hF : HiF s.floors t.floors) (hS : HiS s.sills t.sills) {x : Int} (h : 0 ≤ x ∧ x < s.floors.length) : errGate t x = errGate s x ∧ gateV s x ≤ gateV t x := by
  have h' : 0 ≤ x ∧ x < t.floors.length := by rw [← hF.1]; exact h
  have k := (hi_gts hF hS).2 x.toNat
  rw [errGate_in ok h, errGate_in ok' h', gateV_in ok h, gateV_in ok' h']
  unfold gateOf at *
  by_cases c : (gts s)[x.toNat]?.getD 0 < 1050
  · have c' := k.2 c
    rw [if_pos c, if_pos c', if_pos c, if_pos c']
    exact ⟨rfl, k.1⟩
  · have c' : ¬ (gts t)[x.toNat]?.getD 0 < 1050 := by omega
    rw [if_neg c, if_neg c', if_neg c, if_neg c']
    exact ⟨rfl, Int.le_refl _⟩
theorem hi_st (hF : HiF s.floors t.floors) (hS : HiS s.sills t.sills) (hT : t.table = s.table) (hl : t.lo = s.lo) (hh : t.hi = s.hi) (m : Int) (p : Nat) : st t m p ≤ st s m p := by
  have k := (hi_gts hF hS).2 p
  unfold st gateOf
  rw [hT, hl, hh]
  repeat' split
  all_goals omega
theorem more_gate {e : List (Int × Int × Int)} (ok : Ok s) (ok' : Ok t) (hF : t.floors = s.floors) (hS : t.sills = s.sills ++ e) {x : Int} (h : 0 ≤ x ∧ x < s.floors.length) : errGate s x = 0 → errGate t x = 0 ∧ gateV t x ≤ gateV s x := by
  have h' : 0 ≤ x ∧ x < t.floors.length := by rw [hF]; exact h
  have k := (more_gts hF hS).2 x.toNat
  rw [errGate_in ok h, errGate_in ok' h', gateV_in ok h, gateV_in ok' h']
  unfold gateOf at *
  by_cases c : (gts s)[x.toNat]?.getD 0 < 1050
  · have c' : (gts t)[x.toNat]?.getD 0 < 1050 := by omega
    rw [if_pos c, if_pos c', if_pos c, if_pos c']
    exact fun _ => ⟨rfl, k⟩
  · rw [if_neg c]
    exact fun h => by cases h
theorem more_st {e : List (Int × Int × Int)} (hF : t.floors = s.floors) (hS : t.sills = s.sills ++ e) (hT : t.table = s.table) (hl : t.lo = s.lo) (hh : t.hi = s.hi) (m : Int) (p : Nat) : st s m p ≤ st t m p := by
  have k := (more_gts hF hS).2 p
  unfold st gateOf
  rw [hT, hl, hh]
  repeat' split
  all_goals omega
end
end
end Go.Proofs.Ytcljkkojeleakaa
/- The exported At: the state of a place at a minute, or the error. -/
namespace Go.Proofs.Ytcljkkojeleakaa
open Go.RowKit Go.Shelf

def errHere (s : Sd) (m x : Int) : Int := if errAt s m = 0 then (bif isPl s x then 0 else 1) else errAt s m
def atV (s : Sd) (m x : Int) : Int := if errHere s m x = 0 then st s m x.toNat else 0
section
variable {pT pF pS : Option Addr} {cT cF cS : Nat}

set_option maxRecDepth 100000 in
set_option maxHeartbeats 1000000 in
theorem At_c (s : Sd) (m x : Int) (w : World) (hl : Lists w s pT pF pS cT cF cS) :
    Calls Try.prog 41 #[sdVal s pT pF pS cT cF cS, .int .i64 m, .int .i64 x] w fun e w' => e = .returned (.tuple #[.int .i64 (atV s m x), .int .i64 (errHere s m x)]) ∧ Up w w' := by
  have HC := Lib.hid (fun W (u : Up w W) => beginAt_c s m W (hl.up u))
  unfold atV errHere
  clear hl
  by_cases hE : errAt s m = 0
  · obtain ⟨hc, hm, -⟩ := errAt_zero hE
    have hf8 := (chk_ok hc).fl1
    have HO := Lib.hid (chk_ok hc)
    rw [if_pos hE]
    rw [hE] at HC
    unfold sdVal at *
    cases hp : isPl s x with
    | false =>
      have hp' : inB x 0 (s.floors.length - 1) = false := hp
      go_enter Try.func41, Try.ntmps41
      go_wp2_with fail
      refine (HC.out _ (by (repeat (first | exact Below.refl _ _ | (with_reducible refine Below.drewN' ?_ _) | (with_reducible refine Below.drew ?_) | (with_reducible refine Below.setCell ?_ (by first | exact Nat.le_refl _ | omega | (with_reducible (repeat (first | refine sz_alloc ?_ | refine sz_setCell ?_ | refine sz_drew ?_ | refine sz_drewN ?_)); first | exact Nat.le_refl _ | omega) | (simp only [World.size_alloc, World.size_setCell, World.size_drew, size_drewN']; omega)) _) | (with_reducible refine Below.alloc ?_ (by first | exact Nat.le_refl _ | omega | (with_reducible (repeat (first | refine sz_alloc ?_ | refine sz_setCell ?_ | refine sz_drew ?_ | refine sz_drewN ?_)); first | exact Nat.le_refl _ | omega) | (simp only [World.size_alloc, World.size_setCell, World.size_drew, size_drewN']; omega)) _) | assumption)))).mono ?_
      rintro e w1 ⟨p, rfl, u1, hok⟩
      obtain ⟨bw, rfl, hW⟩ := hok rfl
      have U1 := Lib.hid (Up.trans (show Up w (w.alloc (.cells (sdCells s pT pF pS cT cF cS).toArray 28)) by (repeat (first | exact Below.refl _ _ | (with_reducible refine Below.drewN' ?_ _) | (with_reducible refine Below.drew ?_) | (with_reducible refine Below.setCell ?_ (by first | exact Nat.le_refl _ | omega | (with_reducible (repeat (first | refine sz_alloc ?_ | refine sz_setCell ?_ | refine sz_drew ?_ | refine sz_drewN ?_)); first | exact Nat.le_refl _ | omega) | (simp only [World.size_alloc, World.size_setCell, World.size_drew, size_drewN']; omega)) _) | (with_reducible refine Below.alloc ?_ (by first | exact Nat.le_refl _ | omega | (with_reducible (repeat (first | refine sz_alloc ?_ | refine sz_setCell ?_ | refine sz_drew ?_ | refine sz_drewN ?_)); first | exact Nat.le_refl _ | omega) | (simp only [World.size_alloc, World.size_setCell, World.size_drew, size_drewN']; omega)) _) | assumption))) u1)
      have HW := Lib.hid hW
      clear hok hW u1 HC
      go_wp2_with fail
      refine (isPlace_c bw _ _ _ x _ HW.out.sands.s3 (by simp only [maxLen]; omega)).mono ?_
      rintro e w2 ⟨he, rfl⟩
      rw [hp'] at he
      subst he
      go_wp2_with fail
      go_ret2
      exact ⟨rfl, U1.out⟩
    | true =>
      have hp' : inB x 0 (s.floors.length - 1) = true := hp
      obtain ⟨x0, x1⟩ := inB_true.1 hp'
      obtain ⟨k, rfl⟩ : ∃ k : Nat, x = k := ⟨x.toNat, by omega⟩
      go_enter Try.func41, Try.ntmps41
      go_wp2_with fail
      refine (HC.out _ (by (repeat (first | exact Below.refl _ _ | (with_reducible refine Below.drewN' ?_ _) | (with_reducible refine Below.drew ?_) | (with_reducible refine Below.setCell ?_ (by first | exact Nat.le_refl _ | omega | (with_reducible (repeat (first | refine sz_alloc ?_ | refine sz_setCell ?_ | refine sz_drew ?_ | refine sz_drewN ?_)); first | exact Nat.le_refl _ | omega) | (simp only [World.size_alloc, World.size_setCell, World.size_drew, size_drewN']; omega)) _) | (with_reducible refine Below.alloc ?_ (by first | exact Nat.le_refl _ | omega | (with_reducible (repeat (first | refine sz_alloc ?_ | refine sz_setCell ?_ | refine sz_drew ?_ | refine sz_drewN ?_)); first | exact Nat.le_refl _ | omega) | (simp only [World.size_alloc, World.size_setCell, World.size_drew, size_drewN']; omega)) _) | assumption)))).mono ?_
      rintro e w1 ⟨p, rfl, u1, hok⟩
      obtain ⟨bw, rfl, hW⟩ := hok rfl
      have U1 := Lib.hid (Up.trans (show Up w (w.alloc (.cells (sdCells s pT pF pS cT cF cS).toArray 28)) by (repeat (first | exact Below.refl _ _ | (with_reducible refine Below.drewN' ?_ _) | (with_reducible refine Below.drew ?_) | (with_reducible refine Below.setCell ?_ (by first | exact Nat.le_refl _ | omega | (with_reducible (repeat (first | refine sz_alloc ?_ | refine sz_setCell ?_ | refine sz_drew ?_ | refine sz_drewN ?_)); first | exact Nat.le_refl _ | omega) | (simp only [World.size_alloc, World.size_setCell, World.size_drew, size_drewN']; omega)) _) | (with_reducible refine Below.alloc ?_ (by first | exact Nat.le_refl _ | omega | (with_reducible (repeat (first | refine sz_alloc ?_ | refine sz_setCell ?_ | refine sz_drew ?_ | refine sz_drewN ?_)); first | exact Nat.le_refl _ | omega) | (simp only [World.size_alloc, World.size_setCell, World.size_drew, size_drewN']; omega)) _) | assumption))) u1)
      have HW := Lib.hid hW
      clear hok hW u1 HC
      go_wp2_with fail
      refine (isPlace_c bw _ _ _ (k : Int) _ HW.out.sands.s3 (by simp only [maxLen]; omega)).mono ?_
      rintro e w2 ⟨he, rfl⟩
      rw [hp'] at he
      subst he
      go_wp2_with fail
      refine (state_c bw s m k _ HW.out HO.out hm (by omega)).mono ?_
      rintro e w2 ⟨rfl, u2⟩
      have U2 := Lib.hid (Up.trans U1.out u2)
      clear u2
      go_wp2_with fail
      go_ret2
      exact ⟨rfl, U2.out⟩
  · have hne : (errAt s m != 0) = true := by rw [bne_iff_ne]; exact hE
    rw [if_neg hE, if_neg hE]
    clear hE
    unfold sdVal at *
    go_enter Try.func41, Try.ntmps41
    go_wp2_with fail
    refine (HC.out _ (by (repeat (first | exact Below.refl _ _ | (with_reducible refine Below.drewN' ?_ _) | (with_reducible refine Below.drew ?_) | (with_reducible refine Below.setCell ?_ (by first | exact Nat.le_refl _ | omega | (with_reducible (repeat (first | refine sz_alloc ?_ | refine sz_setCell ?_ | refine sz_drew ?_ | refine sz_drewN ?_)); first | exact Nat.le_refl _ | omega) | (simp only [World.size_alloc, World.size_setCell, World.size_drew, size_drewN']; omega)) _) | (with_reducible refine Below.alloc ?_ (by first | exact Nat.le_refl _ | omega | (with_reducible (repeat (first | refine sz_alloc ?_ | refine sz_setCell ?_ | refine sz_drew ?_ | refine sz_drewN ?_)); first | exact Nat.le_refl _ | omega) | (simp only [World.size_alloc, World.size_setCell, World.size_drew, size_drewN']; omega)) _) | assumption)))).mono ?_
    rintro e w1 ⟨p, rfl, u1, -⟩
    have U1 := Lib.hid (Up.trans (show Up w (w.alloc (.cells (sdCells s pT pF pS cT cF cS).toArray 28)) by (repeat (first | exact Below.refl _ _ | (with_reducible refine Below.drewN' ?_ _) | (with_reducible refine Below.drew ?_) | (with_reducible refine Below.setCell ?_ (by first | exact Nat.le_refl _ | omega | (with_reducible (repeat (first | refine sz_alloc ?_ | refine sz_setCell ?_ | refine sz_drew ?_ | refine sz_drewN ?_)); first | exact Nat.le_refl _ | omega) | (simp only [World.size_alloc, World.size_setCell, World.size_drew, size_drewN']; omega)) _) | (with_reducible refine Below.alloc ?_ (by first | exact Nat.le_refl _ | omega | (with_reducible (repeat (first | refine sz_alloc ?_ | refine sz_setCell ?_ | refine sz_drew ?_ | refine sz_drewN ?_)); first | exact Nat.le_refl _ | omega) | (simp only [World.size_alloc, World.size_setCell, World.size_drew, size_drewN']; omega)) _) | assumption))) u1)
    clear u1 HC
    go_wp2_with fail
    go_ret2
    exact ⟨rfl, U1.out⟩
end
end Go.Proofs.Ytcljkkojeleakaa
/- Plain facts: until when a run of minutes lasts; places that are reached over the sills that may be taken; a place behind another one has no lesser gate. -/
namespace Go.Proofs.Ytcljkkojeleakaa
section
open Go.RowKit

theorem turnIn_append (l r : List (Int × Int)) (m : Int) : turnIn (l ++ r) m = (turnIn l m).or (turnIn r m) := by
  induction l with
  | nil => simp [turnIn]
  | cons x l ih =>
    rw [List.cons_append, turnIn_cons, turnIn_cons, ih]
    split <;> simp
theorem turnIn_past {l : List (Int × Int)} {m : Int} (h : ∀ x ∈ l, x.2 < m) : turnIn l m = none := by
  induction l with
  | nil => rfl
  | cons x l ih =>
    have := h x (by simp)
    rw [turnIn_cons, if_neg (by omega), ih (fun y hy => h y (by simp [hy]))]

/-- a run from a minute on ends at t -/
def RunTo (f : Int → Bool) (e m t : Int) : Prop := m ≤ t ∧ t < e ∧ (∀ x, m ≤ x → x ≤ t → f x = true) ∧ (t + 1 < e → f (t + 1) = false)
structure SpI (f : Int → Bool) (a : Int) (k : Nat) (st : List (Int × Int) × Int × Bool) : Prop where
  run : st.2.2 = true → a ≤ st.2.1 ∧ st.2.1 < a + k ∧ ∀ x, st.2.1 ≤ x → x < a + k → f x = true
  ends : ∀ x ∈ st.1, x.2 + 1 < a + k ∧ (st.2.2 = true → x.2 < st.2.1)
  some' : ∀ m t, a ≤ m → m < a + k → turnIn st.1 m = some t → m ≤ t ∧ t + 1 < a + k ∧ (∀ x, m ≤ x → x ≤ t → f x = true) ∧ f (t + 1) = false
  none' : ∀ m, a ≤ m → m < a + k → turnIn st.1 m = none → f m = true → st.2.2 = true ∧ st.2.1 ≤ m
theorem spI (f : Int → Bool) (a : Int) : ∀ k, SpI f a k (spSt f a k)
  | 0 => ⟨(by intro h; cases h), (by simp [spSt]), fun m t h1 h2 => (by omega), fun m h1 h2 => (by omega)⟩
  | k + 1 => by
    have h := spI f a k
    obtain ⟨h1, h2, h3, h4⟩ := h
    unfold spSt
    generalize spSt f a k = st at *
    obtain ⟨l, fr, o⟩ := st
    dsimp only at h1 h2 h3 h4 ⊢
    have past : turnIn l (a + k) = none := turnIn_past (fun x hx => by have := (h2 x hx).1; omega)
    by_cases hf : f (a + k) = true
    · rw [if_pos hf]
      cases o with
      | true =>
        obtain ⟨r1, r2, r3⟩ := h1 rfl
        rw [if_pos rfl]
        refine ⟨fun _ => ⟨r1, by show fr < a + ((k + 1 : Nat) : Int); omega, fun x x1 x2 => ?_⟩, fun x hx => ?_, fun m t m1 m2 ht => ?_, fun m m1 m2 ht hm => ?_⟩
        · by_cases hx : x = a + k
          · rw [hx]; exact hf
          · exact r3 x x1 (by omega)
        · have := h2 x hx
          exact ⟨by omega, this.2⟩
        · by_cases hm : m = a + k
          · rw [hm] at ht; rw [show turnIn l (a + k) = none from past] at ht; cases ht
          · obtain ⟨t1, t2, t3, t4⟩ := h3 m t m1 (by omega) ht
            exact ⟨t1, by omega, t3, t4⟩
        · by_cases hm' : m = a + k
          · exact ⟨rfl, by show fr ≤ m; omega⟩
          · exact h4 m m1 (by omega) ht hm
      | false =>
        rw [if_neg (by decide)]
        refine ⟨fun _ => ⟨by show a ≤ a + (k : Int); omega, by show a + (k : Int) < a + ((k + 1 : Nat) : Int); omega, fun x x1 x2 => ?_⟩, fun x hx => ?_, fun m t m1 m2 ht => ?_, fun m m1 m2 ht hm => ?_⟩
        · have x1' : a + (k : Int) ≤ x := x1
          rw [show x = a + k by omega]; exact hf
        · have := (h2 x hx).1
          exact ⟨by omega, fun _ => by show x.2 < a + (k : Int); omega⟩
        · by_cases hm : m = a + k
          · rw [hm] at ht; rw [show turnIn l (a + k) = none from past] at ht; cases ht
          · obtain ⟨t1, t2, t3, t4⟩ := h3 m t m1 (by omega) ht
            exact ⟨t1, by omega, t3, t4⟩
        · by_cases hm' : m = a + k
          · exact ⟨rfl, by show a + (k : Int) ≤ m; omega⟩
          · have := (h4 m m1 (by omega) ht hm).1; cases this
    · rw [if_neg hf]
      have hf' : f (a + k) = false := by simpa using hf
      cases o with
      | true =>
        obtain ⟨r1, r2, r3⟩ := h1 rfl
        rw [if_pos rfl]
        have one : ∀ m, turnIn [(fr, a + (k : Int) - 1)] m = if fr ≤ m ∧ m ≤ a + k - 1 then some (a + (k : Int) - 1) else none := fun m => by rw [turnIn_cons]; rfl
        refine ⟨(by intro h; cases h), fun x hx => ?_, fun m t m1 m2 ht => ?_, fun m m1 m2 ht hm => ?_⟩
        · refine ⟨?_, (by intro h; cases h)⟩
          rw [List.mem_append, List.mem_singleton] at hx
          rcases hx with hx | rfl
          · have := (h2 x hx).1; omega
          · show a + (k : Int) - 1 + 1 < _; omega
        · have ht' : (turnIn l m).or (turnIn [(fr, a + (k : Int) - 1)] m) = some t := by rw [← turnIn_append]; exact ht
          have hk1 : m ≠ a + k ∨ m = a + k := by omega
          rcases hk1 with hm | hm
          · cases hl : turnIn l m with
            | some t' =>
              rw [hl, Option.some_or] at ht'
              cases ht'
              obtain ⟨t1, t2, t3, t4⟩ := h3 m t m1 (by omega) hl
              exact ⟨t1, by omega, t3, t4⟩
            | none =>
              rw [hl, Option.none_or, one] at ht'
              split at ht'
              · next hc =>
                cases ht'
                refine ⟨hc.2, by omega, fun x x1 x2 => r3 x (by omega) (by omega), ?_⟩
                rw [show a + (k : Int) - 1 + 1 = a + k by omega]; exact hf'
              · cases ht'
          · rw [hm, past, Option.none_or, one, if_neg (by omega)] at ht'; cases ht'
        · have ht' : (turnIn l m).or (turnIn [(fr, a + (k : Int) - 1)] m) = none := by rw [← turnIn_append]; exact ht
          have hk1 : m ≠ a + k ∨ m = a + k := by omega
          rcases hk1 with hm' | hm'
          · cases hl : turnIn l m with
            | some t' => rw [hl, Option.some_or] at ht'; cases ht'
            | none =>
              rw [hl, Option.none_or, one] at ht'
              have := h4 m m1 (by omega) hl hm
              rw [if_pos (by omega)] at ht'; cases ht'
          · rw [hm', hf'] at hm; cases hm
      | false =>
        rw [if_neg (by decide)]
        refine ⟨(by intro h; cases h), fun x hx => ⟨?_, (by intro h; cases h)⟩, fun m t m1 m2 ht => ?_, fun m m1 m2 ht hm => ?_⟩
        · have := (h2 x hx).1; omega
        · by_cases hm : m = a + k
          · rw [hm] at ht; rw [show turnIn l (a + k) = none from past] at ht; cases ht
          · obtain ⟨t1, t2, t3, t4⟩ := h3 m t m1 (by omega) ht
            exact ⟨t1, by omega, t3, t4⟩
        · by_cases hm' : m = a + k
          · rw [hm', hf'] at hm; cases hm
          · exact h4 m m1 (by omega) ht hm
theorem turn_run (f : Int → Bool) (a : Int) (n : Nat) (m : Int) (h0 : a ≤ m) (h1 : m < a + n) :
    (f m = true → ∃ t, turnIn (spansOf f a n) m = some t ∧ RunTo f (a + n) m t) ∧ (f m = false → turnIn (spansOf f a n) m = none) := by
  obtain ⟨i1, i2, i3, i4⟩ := spI f a n
  unfold spansOf
  generalize spSt f a n = st at *
  obtain ⟨l, fr, o⟩ := st
  dsimp only at i1 i2 i3 i4 ⊢
  have inl : ∀ t, turnIn l m = some t → RunTo f (a + n) m t := fun t ht => by
    obtain ⟨t1, t2, t3, t4⟩ := i3 m t h0 h1 ht
    exact ⟨t1, by omega, t3, fun _ => t4⟩
  cases o with
  | true =>
    obtain ⟨r1, r2, r3⟩ := i1 rfl
    rw [if_pos rfl, turnIn_append]
    have one : turnIn [(fr, a + (n : Int) - 1)] m = if fr ≤ m ∧ m ≤ a + n - 1 then some (a + (n : Int) - 1) else none := by rw [turnIn_cons]; rfl
    cases hl : turnIn l m with
    | some t =>
      have hr := inl t hl
      refine ⟨fun _ => ⟨t, by rw [Option.some_or], hr⟩, fun hm => ?_⟩
      rw [hr.2.2.1 m (Int.le_refl _) hr.1] at hm; cases hm
    | none =>
      rw [Option.none_or, one]
      refine ⟨fun hm => ?_, fun hm => ?_⟩
      · have := (i4 m h0 h1 hl hm).2
        refine ⟨a + n - 1, if_pos (by omega), by omega, by omega, fun x x1 x2 => r3 x (by omega) (by omega), fun h => by omega⟩
      · by_cases hc : fr ≤ m
        · rw [r3 m hc h1] at hm; cases hm
        · rw [if_neg (by omega)]
  | false =>
    rw [if_neg (by decide)]
    cases hl : turnIn l m with
    | some t =>
      have hr := inl t hl
      refine ⟨fun _ => ⟨t, rfl, hr⟩, fun hm => ?_⟩
      rw [hr.2.2.1 m (Int.le_refl _) hr.1] at hm; cases hm
    | none =>
      refine ⟨fun hm => ?_, fun _ => rfl⟩
      have := (i4 m h0 h1 hl hm).1; cases this
theorem RunTo.le {f g : Int → Bool} {e m t u : Int} (h : RunTo f e m t) (k : RunTo g e m u) (hfg : ∀ x, g x = true → f x = true) : u ≤ t := by
  obtain ⟨h1, h2, h3, h4⟩ := h
  obtain ⟨k1, k2, k3, k4⟩ := k
  by_cases hc : t < u
  · have := h4 (by omega)
    rw [hfg _ (k3 (t + 1) (by omega) (by omega))] at this; cases this
  · omega
theorem fitB_one (s : Sd) (p : Int) (pd : Int → Bool) (m : Int) : fitB s [p] pd m = pd (st s m p.toNat) := by simp [fitB]
section
variable {s : Sd}
/-- until when one can stay -/
theorem turn_in (ok : Ok s) {x : Int} (hx : 0 ≤ x ∧ x < s.floors.length) {m : Int} (hm : inDay s m = true) :
    (st s m x.toNat = 0 → errTurn s x m = 0 ∧ RunTo (fun y => st s y x.toNat == 0) (lastM s.table + 1) m (turnV s x m)) ∧ (st s m x.toNat ≠ 0 → errTurn s x m = 6) := by
  obtain ⟨f0, f1, f2⟩ := firstM_lt ok.table
  obtain ⟨m0, m1⟩ : firstM s.table ≤ m ∧ m ≤ lastM s.table := inB_true.1 hm
  have hd : firstM s.table + (dayN s : Int) = lastM s.table + 1 := by unfold dayN; omega
  have k := turn_run (dryB s [x]) (firstM s.table) (dayN s) m m0 (by omega)
  rw [hd] at k
  have e : dryB s [x] = fun y => st s y x.toNat == 0 := by funext y; unfold dryB; rw [fitB_one]
  unfold errTurn turnV drySpans
  rw [if_pos (errFor_in ok hx), if_pos hm, if_pos (errFor_in ok hx), if_pos hm]
  rw [e] at k ⊢
  refine ⟨fun h => ?_, fun h => ?_⟩
  · obtain ⟨t, ht, hr⟩ := k.1 (by simp [h])
    rw [ht]
    exact ⟨rfl, hr⟩
  · rw [k.2 (by simp [h])]
end

section
variable {s : Sd} {may : Nat → Nat → Bool}
theorem wayAt_nat (ws : Ways) (t : Nat) : wayAt ws (t : Int) = ws[t]?.getD none := rfl
/-- which places are reached -/
abbrev Got (ws : Ways) (t : Nat) : Prop := ∃ l, ws[t]? = some (some l)
theorem leadW_got {way : List Int} {nS nF : Nat} (st : Ways × List Int) (x : Lead nS nF) (t : Nat) (h : Got st.1 t) : Got (leadW may way st x).1 t := by
  unfold leadW
  split
  · next hc =>
    obtain ⟨l, hl⟩ := h
    by_cases e : x.1.2 = t
    · rw [e] at hc; rw [hl] at hc; exact absurd hc.1 (by simp)
    · exact ⟨l, by show (st.1.set _ _)[t]? = _; rw [List.getElem?_set_ne e]; exact hl⟩
  · exact h
theorem leadW_que {way : List Int} {nS nF : Nat} (st : Ways × List Int) (x : Lead nS nF) (t : Nat) (h : (t : Int) ∈ st.2) : (t : Int) ∈ (leadW may way st x).2 := by
  unfold leadW
  split
  · exact List.mem_append_left _ h
  · exact h
theorem leadW_new' {way : List Int} {nS nF : Nat} (st : Ways × List Int) (x : Lead nS nF) (t : Nat) (h : Got (leadW may way st x).1 t) : Got st.1 t ∨ (t : Int) ∈ (leadW may way st x).2 ∧ may x.1.1 t = true := by
  unfold leadW at h ⊢
  split at h
  · next hc =>
    rw [if_pos hc]
    by_cases e : x.1.2 = t
    · exact Or.inr ⟨by rw [← e]; simp, by rw [← e]; exact hc.2⟩
    · obtain ⟨l, hl⟩ := h
      rw [show (st.1.set x.1.2 (some (way ++ [(x.1.1 : Int)])))[t]? = st.1[t]? from List.getElem?_set_ne e] at hl
      exact Or.inl ⟨l, hl⟩
  · exact Or.inl h
theorem leadW_done {way : List Int} {nS nF : Nat} (st : Ways × List Int) (x : Lead nS nF) (h8 : nF ≤ 8) (hl : st.1.length = 8) (hm : may x.1.1 x.1.2 = true) : Got (leadW may way st x).1 x.1.2 := by
  have hx := x.2.2
  have hlt : x.1.2 < st.1.length := by omega
  unfold leadW
  split
  · exact ⟨_, by show (st.1.set _ _)[_]? = _; rw [List.getElem?_set_self hlt]⟩
  · next hc =>
    cases e : st.1[x.1.2] with
    | none => exact absurd ⟨by rw [List.getElem?_eq_getElem hlt, e], hm⟩ hc
    | some l => exact ⟨l, by rw [List.getElem?_eq_getElem hlt, e]⟩
theorem leadW_len {way : List Int} {nS nF : Nat} (st : Ways × List Int) (x : Lead nS nF) : (leadW may way st x).1.length = st.1.length := by
  unfold leadW
  split
  · simp
  · rfl
/-- behind a row of leads -/
theorem led_all {way : List Int} {nS nF : Nat} (h8 : nF ≤ 8) : ∀ (l : List (Lead nS nF)) (st : Ways × List Int), st.1.length = 8 →
    (l.foldl (leadW may way) st).1.length = 8 ∧ (∀ t, Got st.1 t → Got (l.foldl (leadW may way) st).1 t) ∧ (∀ t : Nat, (t : Int) ∈ st.2 → (t : Int) ∈ (l.foldl (leadW may way) st).2) ∧
    (∀ t, Got (l.foldl (leadW may way) st).1 t → Got st.1 t ∨ (t : Int) ∈ (l.foldl (leadW may way) st).2 ∧ ∃ i, may i t = true) ∧ (∀ x ∈ l, may x.1.1 x.1.2 = true → Got (l.foldl (leadW may way) st).1 x.1.2)
  | [], st, hl => ⟨hl, fun _ h => h, fun _ h => h, fun _ h => Or.inl h, fun x hx => by simp at hx⟩
  | y :: r, st, hl => by
    obtain ⟨h1, h2, h3, h4, h5⟩ := led_all (way := way) h8 r (leadW may way st y) (by rw [leadW_len]; exact hl)
    rw [List.foldl_cons]
    refine ⟨h1, fun t h => h2 t (leadW_got st y t h), fun t h => h3 t (leadW_que st y t h), fun t h => ?_, fun x hx hm => ?_⟩
    · rcases h4 t h with h | h
      · rcases leadW_new' st y t h with h | ⟨h, hm⟩
        · exact Or.inl h
        · exact Or.inr ⟨h3 t h, y.1.1, hm⟩
      · exact Or.inr h
    · rcases List.mem_cons.1 hx with rfl | hx
      · exact h2 _ (leadW_done st x h8 hl hm)
      · exact h5 x hx hm

/-- closed: what is led to from the Sea, or from places that were reached and are done, is reached -/
structure Shut (s : Sd) (may : Nat → Nat → Bool) (st : Ways × List Int) : Prop where
  len : st.1.length = 8
  sea : ∀ x ∈ leads s.sills s.floors.length (-1) s.sills.length, may x.1.1 x.1.2 = true → Got st.1 x.1.2
  on : ∀ f : Nat, Got st.1 f → (f : Int) ∈ st.2 ∨ ∀ x ∈ leads s.sills s.floors.length f s.sills.length, may x.1.1 x.1.2 = true → Got st.1 x.1.2
  may' : ∀ t, Got st.1 t → ∃ i, may i t = true
  few : st.2.length + nones st.1 ≤ 8
  nat : ∀ y ∈ st.2, 0 ≤ y ∧ y < s.floors.length
theorem Shut.start (h8 : s.floors.length ≤ 8) : Shut s may (ledW s may (-1) [] (List.replicate 8 none, [])) := by
  obtain ⟨h1, h2, h3, h4, h5⟩ := led_all (way := []) (may := may) h8 (leads s.sills s.floors.length (-1) s.sills.length) (List.replicate 8 none, []) rfl
  have no : ∀ t, ¬ Got (List.replicate 8 (none : Option (List Int))) t := fun t ⟨l, hl⟩ => by
    rw [List.getElem?_replicate] at hl
    split at hl <;> cases hl
  obtain ⟨k1, k2⟩ := foldW_keeps (may := may) (way := []) (leads s.sills s.floors.length (-1) s.sills.length) (List.replicate 8 none, [])
  refine ⟨h1, h5, fun f hf => ?_, fun t ht => ?_, ?_, fun y hy => ?_⟩
  · rcases h4 f hf with h | h
    · exact absurd h (no f)
    · exact Or.inl h.1
  · rcases h4 t ht with h | h
    · exact absurd h (no t)
    · exact h.2
  · unfold ledW
    rw [k1]
    decide
  · rcases k2 y hy with h | h
    · simp at h
    · exact h
theorem Shut.next (h8 : s.floors.length ≤ 8) {ws : Ways} {x : Int} {q : List Int} (h : Shut s may (ws, x :: q)) (way : List Int) : Shut s may (ledW s may x way (ws, q)) ∧ (ledW s may x way (ws, q)).2.length + nones (ledW s may x way (ws, q)).1 + 1 = (x :: q).length + nones ws := by
  obtain ⟨h1, h2, h3, h4, h5⟩ := led_all (way := way) (may := may) h8 (leads s.sills s.floors.length x s.sills.length) (ws, q) h.len
  obtain ⟨k1, k2⟩ := foldW_keeps (may := may) (way := way) (leads s.sills s.floors.length x s.sills.length) (ws, q)
  have hc : (ledW s may x way (ws, q)).2.length + nones (ledW s may x way (ws, q)).1 + 1 = (x :: q).length + nones ws := by
    unfold ledW
    rw [k1]
    simp only [List.length_cons]; omega
  have hx := h.nat x (by simp)
  refine ⟨⟨h1, fun y hy hm => h2 _ (h.sea y hy hm), fun f hf => ?_, fun t ht => ?_, ?_, fun y hy => ?_⟩, hc⟩
  · by_cases e : (f : Int) = x
    · subst e
      exact Or.inr (fun y hy hm => h5 y hy hm)
    · rcases h4 f hf with hg | hg
      · rcases h.on f hg with hq | hq
        · rcases List.mem_cons.1 hq with h' | h'
          · exact absurd h' e
          · exact Or.inl (h3 f h')
        · exact Or.inr (fun y hy hm => h2 _ (hq y hy hm))
      · exact Or.inl hg.1
  · rcases h4 t ht with hg | hg
    · exact h.may' t hg
    · exact hg.2
  · have := h.few
    simp only at this
    omega
  · rcases k2 y hy with hg | hg
    · exact h.nat y (by simp; exact Or.inr hg)
    · exact hg
theorem goW_shut (h8 : s.floors.length ≤ 8) : ∀ n (st : Ways × List Int), Shut s may st → st.2.length + nones st.1 ≤ n → Shut s may (goW s may n st) ∧ (goW s may n st).2 = []
  | 0, (ws, q), h, hn => by
    have : q = [] := List.length_eq_zero_iff.1 (by simp only at hn; omega)
    subst this
    exact ⟨h, rfl⟩
  | n + 1, (ws, []), h, _ => ⟨h, rfl⟩
  | n + 1, (ws, x :: q), h, hn => by
    obtain ⟨k1, k2⟩ := h.next h8 ((wayAt ws x).getD [])
    refine goW_shut h8 n _ k1 ?_
    simp only at hn
    omega
theorem waysOf_shut (h8 : s.floors.length ≤ 8) : (∀ x ∈ leads s.sills s.floors.length (-1) s.sills.length, may x.1.1 x.1.2 = true → Got (waysOf s may) x.1.2) ∧
    (∀ f : Nat, Got (waysOf s may) f → ∀ x ∈ leads s.sills s.floors.length f s.sills.length, may x.1.1 x.1.2 = true → Got (waysOf s may) x.1.2) ∧ (∀ t, Got (waysOf s may) t → ∃ i, may i t = true) := by
  obtain ⟨h, hq⟩ := goW_shut (s := s) (may := may) h8 8 _ (Shut.start h8) (Shut.start h8).few
  refine ⟨h.sea, fun f hf => ?_, h.may'⟩
  rcases h.on f hf with hm | hm
  · rw [hq] at hm; simp at hm
  · exact hm
end

section
variable {s : Sd}
/-- no lesser than the gate of q at places that are not reached without going over q -/
def Beh (U : Nat → Prop) (q : Nat) (g : List Int) : Prop := ∀ x, x < g.length → U x → g[q]?.getD 0 ≤ g[x]?.getD 0
theorem Beh.set {U : Nat → Prop} {q : Nat} {g : List Int} (h : Beh U q g) (t : Nat) (c : Int) (hc : t ≠ q → U t → g[q]?.getD 0 ≤ c) : Beh U q (g.set t (min (g[t]?.getD 0) c)) := by
  intro x hx hu
  rw [List.length_set] at hx
  have k := h x hx hu
  rw [List.getElem?_set, List.getElem?_set]
  by_cases e1 : t = q
  · subst e1
    by_cases e2 : t = x
    · subst e2; exact Int.le_refl _
    · rw [if_pos rfl, if_neg e2]
      by_cases hl : t < g.length
      · rw [if_pos hl, Option.getD_some]; omega
      · rw [if_neg hl]
        rw [List.getElem?_eq_none (by omega)] at k
        exact k
  · rw [if_neg e1]
    by_cases e2 : t = x
    · subst e2
      have := hc e1 hu
      rw [if_pos rfl, if_pos hx, Option.getD_some]; omega
    · rw [if_neg e2]; exact k
theorem beh_low1 {U : Nat → Prop} {q : Nat} : ∀ (l : List (Lead s.sills.length s.floors.length)) (g : List Int), (∀ x ∈ l, x.1.2 ≠ q → ¬ U x.1.2) → Beh U q g → Beh U q (l.foldl (low1 s) g)
  | [], _, _, h => h
  | x :: r, g, hu, h => beh_low1 r (low1 s g x) (fun y hy => hu y (by simp [hy])) (h.set _ _ (fun ht hU => absurd hU (hu x (by simp) ht)))
theorem beh_low2 {U : Nat → Prop} {q f : Nat} (hf : f < 8) : ∀ (l : List (Lead s.sills.length s.floors.length)) (g : List Int), g.length = 8 → (∀ x ∈ l, x.1.2 ≠ q → U x.1.2 → U f) → Beh U q g → Beh U q (l.foldl (low2 s f) g)
  | [], _, _, _, h => h
  | x :: r, g, hl, hu, h => beh_low2 hf r (low2 s f g x) (by simp [low2, hl]) (fun y hy => hu y (by simp [hy])) (h.set _ _ (fun ht hU => by
      have := h f (by omega) (hu x (by simp) ht hU)
      rw [grt2]; omega))
theorem beh_froms {U : Nat → Prop} {q : Nat} : ∀ (l : List Nat) (g : List Int), g.length = 8 → (∀ f ∈ l, f < 8 ∧ ∀ x ∈ leads s.sills s.floors.length f s.sills.length, x.1.2 ≠ q → U x.1.2 → U f) → Beh U q g → Beh U q (l.foldl (lowFrom s) g)
  | [], _, _, _, h => h
  | f :: r, g, hl, hu, h => beh_froms r (lowFrom s g f) (low2_len s f _ _ hl) (fun y hy => hu y (by simp [hy])) (beh_low2 (hu f (by simp)).1 _ _ hl (hu f (by simp)).2 h)
theorem behind_gts (h8 : s.floors.length ≤ 8) (q p : Nat) (hp : p < 8) (hn : ¬ Got (waysOf s (mayHold [] [(q : Int)])) p) : gateOf s q ≤ gateOf s p := by
  obtain ⟨w1, w2, w3⟩ := waysOf_shut (s := s) (may := mayHold [] [(q : Int)]) h8
  have may : ∀ i t, t ≠ q → mayHold [] [(q : Int)] i t = true := fun i t h => by simp [mayHold]; omega
  generalize hU : waysOf s (mayHold [] [(q : Int)]) = ws at *
  have key : ∀ n (g : List Int), g.length = 8 → Beh (fun x => ¬ Got ws x) q g → Beh (fun x => ¬ Got ws x) q (iterG s n g) ∧ (iterG s n g).length = 8 := by
    intro n
    induction n with
    | zero => exact fun g hl h => ⟨h, hl⟩
    | succ n ih =>
      intro g hl h
      refine ih (lowered s g) (lowered_len s g hl) ?_
      unfold lowered
      refine beh_froms _ _ (low1_len s _ _ hl) (fun f hf => ?_) (beh_low1 _ _ (fun x hx ht hu => hu (w1 x hx (may _ _ ht))) h)
      rw [List.mem_range] at hf
      exact ⟨by omega, fun x hx ht hu hf' => hu (w2 f hf' x hx (may _ _ ht))⟩
  have h9 := fun n => key n top rfl (fun x hx _ => by
    unfold top at *
    rw [List.length_replicate] at hx
    rw [List.getElem?_replicate, List.getElem?_replicate, if_pos hx]
    split <;> simp)
  unfold gateOf gts
  rw [fixG_iter]
  exact (h9 _).1 p (by rw [(h9 _).2]; exact hp) hn
theorem st_rng (s : Sd) (m : Int) (p : Nat) : st s m p = 0 ∨ st s m p = 1 ∨ st s m p = 2 := by
  unfold st
  repeat' split
  all_goals simp
theorem not_got {may : Nat → Nat → Bool} (h8 : s.floors.length ≤ 8) (t : Nat) (h : ∀ i, may i t = false) : ¬ Got (waysOf s may) t := fun hg => by
  obtain ⟨i, hi⟩ := (waysOf_shut (s := s) (may := may) h8).2.2 t hg
  rw [h i] at hi; cases hi
theorem way_none {ws : Ways} {t : Nat} : wayAt ws (t : Int) = none ↔ ¬ Got ws t := by
  rw [wayAt_nat]
  constructor
  · rintro h ⟨l, hl⟩; rw [hl] at h; cases h
  · intro h
    cases e : ws[t]? with
    | none => rfl
    | some o =>
      cases o with
      | none => rfl
      | some l => exact absurd ⟨l, e⟩ h
/-- a bank of one place alone -/
theorem hold_one (ok : Ok s) {p q : Nat} (hp : p < s.floors.length) (hq : q < s.floors.length) :
    (errHold s p [] [(q : Int)] = 0 ∨ errHold s p [] [(q : Int)] = 8) ∧ (p = q → errHold s p [] [(q : Int)] = 0) ∧
    (errHold s p [] [(q : Int)] = 0 → holdV s p [] [(q : Int)] = s.floors[q] ∧ gateOf s q ≤ gateOf s p) := by
  have h8 := ok.fl1
  have e : errHold s p [] [(q : Int)] = if wayAt (waysOf s (mayHold [] [(q : Int)])) (p : Int) = none then 0 else 8 := by
    unfold errHold
    rw [if_pos (errFor_in ok (by omega)), if_pos ⟨by simp, by
      rw [List.all_eq_true]; intro y hy
      simp only [List.mem_singleton] at hy
      subst hy
      exact inB_true.2 (by omega)⟩, if_pos ⟨by simp, by simp⟩]
    simp
  have hno : ∀ i, mayHold [] [(q : Int)] i q = false := fun i => by simp [mayHold]
  refine ⟨?_, fun h => ?_, fun h => ?_⟩
  · rw [e]; split
    · exact Or.inl rfl
    · exact Or.inr rfl
  · subst h
    rw [e, if_pos (way_none.2 (not_got h8 _ hno))]
  · have hn : wayAt (waysOf s (mayHold [] [(q : Int)])) (p : Int) = none := by
      rw [e] at h
      split at h
      · assumption
      · cases h
    refine ⟨?_, behind_gts h8 q p (by omega) (way_none.1 hn)⟩
    have hf := ok.floors s.floors[q] (List.getElem_mem hq)
    unfold holdV
    rw [if_pos h]
    simp only [leastF, leastS, List.foldl_cons, List.foldl_nil, Int.toNat_natCast, List.getElem?_eq_getElem hq, Option.getD_some]
    omega
theorem behind_st {p q : Nat} (h : gateOf s q ≤ gateOf s p) (m : Int) : st s m p ≤ st s m q := by
  unfold st
  repeat' split
  all_goals omega
theorem behind_gate (ok : Ok s) {p q : Nat} (hp : p < s.floors.length) (hq : q < s.floors.length) (h : gateOf s q ≤ gateOf s p) :
    (errGate s p = 0 ∨ errGate s p = 6) ∧ (errGate s p = 0 → errGate s q = 0 ∧ gateV s q ≤ gateV s p) := by
  rw [errGate_in ok (x := (p : Int)) (by omega), errGate_in ok (x := (q : Int)) (by omega), gateV_in ok (x := (p : Int)) (by omega), gateV_in ok (x := (q : Int)) (by omega)]
  simp only [Int.toNat_natCast]
  by_cases c : gateOf s p < 1050
  · have c' : gateOf s q < 1050 := by omega
    rw [if_pos c, if_pos c', if_pos c, if_pos c']
    exact ⟨Or.inl rfl, fun _ => ⟨rfl, h⟩⟩
  · rw [if_neg c]
    exact ⟨Or.inr rfl, fun h => by cases h⟩
theorem behind_turn (ok : Ok s) {p q : Nat} (hp : p < s.floors.length) (hq : q < s.floors.length) (h : gateOf s q ≤ gateOf s p) {m : Int} (hm : inDay s m = true) (hd : st s m q = 0) :
    errTurn s p m = 0 ∧ errTurn s q m = 0 ∧ turnV s q m ≤ turnV s p m := by
  have hp0 : st s m p = 0 := by
    have := behind_st h m
    rcases st_rng s m p with h | h | h <;> omega
  obtain ⟨a1, a2⟩ := (turn_in ok (x := (p : Int)) (by omega) hm).1 hp0
  obtain ⟨b1, b2⟩ := (turn_in ok (x := (q : Int)) (by omega) hm).1 hd
  refine ⟨a1, b1, a2.le b2 (fun x hx => ?_)⟩
  simp only [Int.toNat_natCast, beq_iff_eq] at hx ⊢
  have := behind_st h x
  rcases st_rng s x p with h | h | h <;> omega
theorem here_in (ok : Ok s) {m : Int} (hm : inDay s m = true) {p : Nat} (hp : p < s.floors.length) (hA : errAt s m = 0) : errHere s m p = 0 ∧ atV s m p = st s m p := by
  have e : errHere s m p = 0 := by
    unfold errHere
    rw [if_pos hA, show isPl s (p : Int) = true from inB_true.2 (by omega)]; rfl
  refine ⟨e, ?_⟩
  unfold atV
  rw [if_pos e]; rfl
end
end
end Go.Proofs.Ytcljkkojeleakaa
/- Plain facts: the spans of the minutes of which something is true, and the longest of them. -/
namespace Go.Proofs.Ytcljkkojeleakaa
section
open Go.RowKit

/-- each span is inside of the day, all of it is true, and it is as long as can be -/
structure IsRun (f : Int → Bool) (a : Int) (n : Nat) (x : Int × Int) : Prop where
  lo : a ≤ x.1
  le : x.1 ≤ x.2
  hi : x.2 < a + n
  all : ∀ y, x.1 ≤ y → y ≤ x.2 → f y = true
  left : a < x.1 → f (x.1 - 1) = false
  right : x.2 + 1 < a + n → f (x.2 + 1) = false

structure RunI (f : Int → Bool) (a : Int) (k : Nat) (st : List (Int × Int) × Int × Bool) : Prop where
  run : st.2.2 = true → a ≤ st.2.1 ∧ st.2.1 < a + k ∧ (∀ x, st.2.1 ≤ x → x < a + k → f x = true) ∧ (a < st.2.1 → f (st.2.1 - 1) = false)
  shut : st.2.2 = false → 0 < k → f (a + k - 1) = false
  mem : ∀ x ∈ st.1, a ≤ x.1 ∧ x.1 ≤ x.2 ∧ x.2 + 1 < a + k ∧ (∀ y, x.1 ≤ y → y ≤ x.2 → f y = true) ∧ (a < x.1 → f (x.1 - 1) = false) ∧ f (x.2 + 1) = false
  ord : st.1.Pairwise (fun x y => x.2 + 1 < y.1)
  ordl : st.2.2 = true → ∀ x ∈ st.1, x.2 + 1 < st.2.1 

theorem runI (f : Int → Bool) (a : Int) : ∀ k, RunI f a k (spSt f a k)
  | 0 => ⟨(by intro h; cases h), (by intro _ h; omega), (by simp [spSt]), (by simp [spSt]), (by intro h; cases h)⟩
  | k + 1 => by
    have h := runI f a k
    obtain ⟨h1, h2, h3, h4, h5⟩ := h
    unfold spSt
    generalize spSt f a k = st at *
    obtain ⟨l, fr, o⟩ := st
    dsimp only at h1 h2 h3 h4 h5 ⊢
    have ek : a + ((k + 1 : Nat) : Int) - 1 = a + k := by omega
    by_cases hf : f (a + k) = true
    · rw [if_pos hf]
      cases o with
      | true =>
        obtain ⟨r1, r2, r3, r4⟩ := h1 rfl
        rw [if_pos rfl]
        refine ⟨fun _ => ⟨r1, by show fr < a + ((k + 1 : Nat) : Int); omega, fun x x1 x2 => ?_, r4⟩, (by intro h; cases h), fun x hx => ?_, h4, fun _ => h5 rfl⟩
        · by_cases hx : x = a + k
          · rw [hx]; exact hf
          · exact r3 x x1 (by omega)
        · obtain ⟨m1, m2, m3, m4⟩ := h3 x hx
          exact ⟨m1, m2, by omega, m4⟩
      | false =>
        rw [if_neg (by decide)]
        refine ⟨fun _ => ⟨by show a ≤ a + (k : Int); omega, by show a + (k : Int) < a + ((k + 1 : Nat) : Int); omega, fun x x1 x2 => ?_, fun h => ?_⟩, (by intro h; cases h), fun x hx => ?_, h4, fun _ x hx => ?_⟩
        · have x1' : a + (k : Int) ≤ x := x1
          rw [show x = a + k by omega]; exact hf
        · have h' : a < a + (k : Int) := h
          exact h2 rfl (by omega)
        · obtain ⟨m1, m2, m3, m4⟩ := h3 x hx
          exact ⟨m1, m2, by omega, m4⟩
        · have := (h3 x hx).2.2.1
          show x.2 + 1 < a + (k : Int)
          exact this
    · rw [if_neg hf]
      have hf' : f (a + k) = false := by simpa using hf
      cases o with
      | true =>
        obtain ⟨r1, r2, r3, r4⟩ := h1 rfl
        rw [if_pos rfl]
        refine ⟨(by intro h; cases h), fun _ _ => by rw [ek]; exact hf', fun x hx => ?_, ?_, (by intro h; cases h)⟩
        · rw [List.mem_append, List.mem_singleton] at hx
          rcases hx with hx | rfl
          · obtain ⟨m1, m2, m3, m4⟩ := h3 x hx
            exact ⟨m1, m2, by omega, m4⟩
          · refine ⟨r1, by show fr ≤ a + (k : Int) - 1; omega, by show a + (k : Int) - 1 + 1 < _; omega, fun y y1 y2 => ?_, r4, ?_⟩
            · have y1' : fr ≤ y := y1
              have y2' : y ≤ a + (k : Int) - 1 := y2
              exact r3 y y1' (by omega)
            · show f (a + (k : Int) - 1 + 1) = false
              rw [show a + (k : Int) - 1 + 1 = a + k by omega]; exact hf'
        · rw [List.pairwise_append]
          refine ⟨h4, List.pairwise_singleton _ _, fun x hx y hy => ?_⟩
          rw [List.mem_singleton] at hy
          rw [hy]
          exact h5 rfl x hx
      | false =>
        rw [if_neg (by decide)]
        refine ⟨(by intro h; cases h), fun _ _ => by rw [ek]; exact hf', fun x hx => ?_, h4, (by intro h; cases h)⟩
        obtain ⟨m1, m2, m3, m4⟩ := h3 x hx
        exact ⟨m1, m2, by omega, m4⟩

theorem spans_run (f : Int → Bool) (a : Int) (n : Nat) : (∀ x ∈ spansOf f a n, IsRun f a n x) ∧ (spansOf f a n).Pairwise (fun x y => x.2 + 1 < y.1) := by
  obtain ⟨h1, h2, h3, h4, h5⟩ := runI f a n
  unfold spansOf
  generalize spSt f a n = st at *
  obtain ⟨l, fr, o⟩ := st
  dsimp only at *
  have hm : ∀ x ∈ l, IsRun f a n x := fun x hx => by
    obtain ⟨m1, m2, m3, m4, m5, m6⟩ := h3 x hx
    exact ⟨m1, m2, by omega, m4, m5, fun _ => m6⟩
  cases o with
  | true =>
    obtain ⟨r1, r2, r3, r4⟩ := h1 rfl
    rw [if_pos rfl]
    refine ⟨fun x hx => ?_, ?_⟩
    · rw [List.mem_append, List.mem_singleton] at hx
      rcases hx with hx | rfl
      · exact hm x hx
      · exact ⟨r1, by show fr ≤ a + (n : Int) - 1; omega, by show a + (n : Int) - 1 < _; omega, fun y y1 y2 => r3 y y1 (by have : y ≤ a + (n : Int) - 1 := y2; omega), r4, fun h => by have h' : a + (n : Int) - 1 + 1 < a + n := h; omega⟩
    · rw [List.pairwise_append]
      refine ⟨h4, List.pairwise_singleton _ _, fun x hx y hy => ?_⟩
      rw [List.mem_singleton] at hy
      rw [hy]
      exact h5 rfl x hx
  | false =>
    rw [if_neg (by decide)]
    exact ⟨hm, h4⟩

theorem turnIn_mem {l : List (Int × Int)} {m t : Int} (h : turnIn l m = some t) : ∃ x ∈ l, x.1 ≤ m ∧ m ≤ x.2 ∧ x.2 = t := by
  induction l with
  | nil => simp [turnIn] at h
  | cons x l ih =>
    rw [turnIn_cons] at h
    split at h
    · next hc => exact ⟨x, by simp, hc.1, hc.2, by simpa using h⟩
    · obtain ⟨y, hy, h'⟩ := ih h
      exact ⟨y, by simp [hy], h'⟩
/-- what is true all the way lies inside of one span -/
theorem spans_has (f : Int → Bool) (a : Int) (n : Nat) {lo hi : Int} (h0 : a ≤ lo) (h1 : lo ≤ hi) (h2 : hi < a + n) (h : ∀ y, lo ≤ y → y ≤ hi → f y = true) : ∃ x ∈ spansOf f a n, x.1 ≤ lo ∧ hi ≤ x.2 := by
  obtain ⟨t, ht, r⟩ := (turn_run f a n lo h0 (by omega)).1 (h lo (Int.le_refl _) h1)
  obtain ⟨x, hx, x1, x2, rfl⟩ := turnIn_mem ht
  refine ⟨x, hx, x1, ?_⟩
  obtain ⟨r1, r2, r3, r4⟩ := r
  by_cases hc : x.2 < hi
  · have := r4 (by omega)
    rw [h _ (by omega) (by omega)] at this
    cases this
  · omega

def longStep (b x : Int × Int) : Int × Int := if siz b < siz x then x else b
/-- the first of the longest spans -/
def longV : List (Int × Int) → Int × Int
  | [] => (0, 0)
  | a :: r => (a :: r).foldl longStep a
theorem long_fold : ∀ (l : List (Int × Int)) (a : Int × Int), (l.foldl longStep a = a ∨ l.foldl longStep a ∈ l) ∧ siz a ≤ siz (l.foldl longStep a) ∧ ∀ x ∈ l, siz x ≤ siz (l.foldl longStep a)
  | [], a => ⟨.inl rfl, Int.le_refl _, by simp⟩
  | x :: r, a => by
    obtain ⟨h1, h2, h3⟩ := long_fold r (longStep a x)
    rw [List.foldl_cons]
    have k : siz a ≤ siz (longStep a x) ∧ siz x ≤ siz (longStep a x) ∧ (longStep a x = a ∨ longStep a x = x) := by
      unfold longStep
      split
      · exact ⟨by omega, Int.le_refl _, .inr rfl⟩
      · exact ⟨Int.le_refl _, by omega, .inl rfl⟩
    obtain ⟨k1, k2, k3⟩ := k
    refine ⟨?_, by omega, fun y hy => ?_⟩
    · rcases h1 with h1 | h1
      · rcases k3 with k3 | k3
        · left; rw [h1, k3]
        · right; rw [h1, k3]; simp
      · right; simp [h1]
    · rcases List.mem_cons.1 hy with rfl | hy
      · omega
      · exact h3 y hy
theorem long_spec {l : List (Int × Int)} (h : l ≠ []) : longV l ∈ l ∧ ∀ x ∈ l, siz x ≤ siz (longV l) := by
  cases l with
  | nil => exact absurd rfl h
  | cons a r =>
    obtain ⟨h1, h2, h3⟩ := long_fold (a :: r) a
    have e : longV (a :: r) = (a :: r).foldl longStep a := rfl
    rw [e]
    refine ⟨?_, h3⟩
    rcases h1 with h1 | h1
    · rw [h1]; simp
    · exact h1
/-- how long the longest span is: no run is longer, and some run is as long -/
theorem long_run (f : Int → Bool) (a : Int) (n : Nat) (h : spansOf f a n ≠ []) :
    IsRun f a n (longV (spansOf f a n)) ∧ ∀ lo hi, a ≤ lo → lo ≤ hi → hi < a + n → (∀ y, lo ≤ y → y ≤ hi → f y = true) → hi - lo ≤ (longV (spansOf f a n)).2 - (longV (spansOf f a n)).1 := by
  obtain ⟨h1, h2⟩ := long_spec h
  have hr := (spans_run f a n).1 _ h1
  refine ⟨hr, fun lo hi k0 k1 k2 k => ?_⟩
  obtain ⟨x, hx, x1, x2⟩ := spans_has f a n k0 k1 k2 k
  have e := h2 x hx
  have := hr.le
  unfold siz at e
  omega

def errLong (s : Sd) (ps : List Int) : Int := if chk s = 0 then (if ps.all (isPl s) = true then (if drySpans s ps = [] then 6 else 0) else 1) else chk s
def longestV (s : Sd) (ps : List Int) : Int × Int := if errLong s ps = 0 then longV (drySpans s ps) else (0, 0)
/-- the places that are listed, each once -/
def inPl (s : Sd) (ps : List Int) : List Int := ((List.range s.floors.length).map fun (p : Nat) => (p : Int)).filter fun p => decide (0 < ps.count p)
theorem inPl_mem (s : Sd) (ps : List Int) (p : Int) : p ∈ inPl s ps ↔ (0 ≤ p ∧ p < s.floors.length) ∧ p ∈ ps := by
  unfold inPl
  rw [List.mem_filter, decide_eq_true_eq, List.count_pos_iff]
  refine and_congr_left fun _ => ?_
  simp only [List.mem_map, List.mem_range]
  constructor
  · rintro ⟨n, hn, rfl⟩; omega
  · rintro ⟨h0, h1⟩; exact ⟨p.toNat, by omega, by omega⟩
theorem inPl_dry {s : Sd} {ps : List Int} (h : ps.all (isPl s) = true) : drySpans s (inPl s ps) = drySpans s ps := by
  have e : dryB s (inPl s ps) = dryB s ps := by
    funext m
    unfold dryB fitB
    rw [Bool.eq_iff_iff, List.all_eq_true, List.all_eq_true]
    refine forall_congr' fun p => ?_
    rw [inPl_mem]
    refine ⟨fun k hp => k ⟨?_, hp⟩, fun k hp => k hp.2⟩
    have := inB_true.1 (List.all_eq_true.1 h p hp)
    omega
  unfold drySpans
  rw [e]

/-- if the day runs backwards, the longest span is as long -/
theorem mir_long {f g : Int → Bool} {a : Int} {n : Nat} (h : ∀ m, a ≤ m → m < a + n → g (2 * a + n - 1 - m) = f m) :
    (spansOf g a n = [] ↔ spansOf f a n = []) ∧ (longV (spansOf g a n)).2 - (longV (spansOf g a n)).1 = (longV (spansOf f a n)).2 - (longV (spansOf f a n)).1 := by
  have emp : ∀ {u v : Int → Bool}, (∀ m, a ≤ m → m < a + n → v (2 * a + n - 1 - m) = u m) → spansOf v a n = [] → spansOf u a n = [] := by
    intro u v hh he
    apply Classical.byContradiction
    intro hu
    have r := (long_run u a n hu).1
    have r0 := r.lo
    have r1 := r.le
    have r2 := r.hi
    obtain ⟨x, hx, -⟩ := spans_has v a n (lo := 2 * a + n - 1 - (longV (spansOf u a n)).1) (hi := 2 * a + n - 1 - (longV (spansOf u a n)).1) (by omega) (by omega) (by omega) (fun y y0 y1 => by
      obtain rfl : y = 2 * a + n - 1 - (longV (spansOf u a n)).1 := by omega
      rw [hh _ (by omega) (by omega)]
      exact r.all _ (by omega) (by omega))
    rw [he] at hx
    cases hx
  have h' : ∀ m, a ≤ m → m < a + n → f (2 * a + n - 1 - m) = g m := fun m m0 m1 => by
    have := h (2 * a + n - 1 - m) (by omega) (by omega)
    rw [show 2 * a + (n : Int) - 1 - (2 * a + n - 1 - m) = m by omega] at this
    exact this.symm
  have le : ∀ {u v : Int → Bool}, (∀ m, a ≤ m → m < a + n → v (2 * a + n - 1 - m) = u m) → spansOf u a n ≠ [] → spansOf v a n ≠ [] → (longV (spansOf u a n)).2 - (longV (spansOf u a n)).1 ≤ (longV (spansOf v a n)).2 - (longV (spansOf v a n)).1 := by
    intro u v hh hu hv
    have r := (long_run u a n hu).1
    have r0 := r.lo
    have r1 := r.le
    have r2 := r.hi
    have k := (long_run v a n hv).2 (2 * a + n - 1 - (longV (spansOf u a n)).2) (2 * a + n - 1 - (longV (spansOf u a n)).1) (by omega) (by omega) (by omega) (fun y y0 y1 => by
      have e := hh (2 * a + n - 1 - y) (by omega) (by omega)
      rw [show 2 * a + (n : Int) - 1 - (2 * a + n - 1 - y) = y by omega] at e
      rw [e]
      exact r.all _ (by omega) (by omega))
    omega
  refine ⟨⟨emp h, emp h'⟩, ?_⟩
  by_cases hf : spansOf f a n = []
  · rw [hf, emp h' hf]
  · have hg : spansOf g a n ≠ [] := fun e => hf (emp h e)
    have k1 := le h hf hg
    have k2 := le h' hg hf
    omega
end
end Go.Proofs.Ytcljkkojeleakaa
/- Plain facts: the look that settles most. -/
namespace Go.Proofs.Ytcljkkojeleakaa
section
open Go.RowKit

/-- how many truths a look leaves at most, whatever is seen -/
def askMost (s : Sd) (m : Int) (p : Nat) : Int := max (siz (truV s (m, (p : Int), true))) (siz (s.lo, s.hi) - siz (truV s (m, (p : Int), true)))
def askOne (s : Sd) (m : Int) (z : Lk × Int) (p : Nat) : Lk × Int := if z.1 = (0, 0, false) ∨ askMost s m p < z.2 then ((m, (p : Int), true), askMost s m p) else z
def askRow (s : Sd) (m : Int) (z : Lk × Int) : Nat → Lk × Int
  | 0 => z
  | k + 1 => askOne s m (askRow s m z k) k
def askAll (s : Sd) : Nat → Lk × Int
  | 0 => ((0, 0, false), siz (s.lo, s.hi))
  | k + 1 => askRow s (firstM s.table + k) (askAll s k) s.floors.length
def askE (s : Sd) : Int := if chk s = 0 then (if siz (s.lo, s.hi) = 1 then 6 else 0) else chk s
def askV (s : Sd) : Lk × Int := if askE s = 0 then askAll s (dayN s) else ((0, 0, false), 0)

/-- the best of what has been looked at: the first of those that leave fewest -/
def Best (s : Sd) (seen : Int → Nat → Prop) (z : Lk × Int) : Prop :=
  (z = ((0, 0, false), siz (s.lo, s.hi)) ∧ ∀ m p, ¬ seen m p) ∨
  ∃ (m : Int) (p : Nat), z = ((m, (p : Int), true), askMost s m p) ∧ seen m p ∧ ∀ m' p', seen m' p' → askMost s m p ≤ askMost s m' p' ∧ (askMost s m p = askMost s m' p' → m < m' ∨ m = m' ∧ p ≤ p')

theorem Best.one {s : Sd} {seen seen' : Int → Nat → Prop} {z : Lk × Int} {m : Int} {p : Nat} (h : Best s seen z) (h1 : ∀ m' p', seen' m' p' ↔ seen m' p' ∨ m' = m ∧ p' = p) (h2 : ∀ m' p', seen m' p' → m' < m ∨ m' = m ∧ p' < p) :
    Best s seen' (askOne s m z p) := by
  rcases h with ⟨rfl, h0⟩ | ⟨m0, p0, rfl, hs, hb⟩
  · unfold askOne
    rw [if_pos (Or.inl rfl)]
    refine .inr ⟨m, p, rfl, (h1 _ _).2 (.inr ⟨rfl, rfl⟩), fun m' p' h => ?_⟩
    rcases (h1 _ _).1 h with h | ⟨rfl, rfl⟩
    · exact absurd h (h0 _ _)
    · exact ⟨Int.le_refl _, fun _ => .inr ⟨rfl, Nat.le_refl _⟩⟩
  · unfold askOne
    by_cases hc : askMost s m p < askMost s m0 p0
    · rw [if_pos (Or.inr hc)]
      refine .inr ⟨m, p, rfl, (h1 _ _).2 (.inr ⟨rfl, rfl⟩), fun m' p' h => ?_⟩
      rcases (h1 _ _).1 h with h | ⟨rfl, rfl⟩
      · have := (hb m' p' h).1
        exact ⟨by omega, fun e => by omega⟩
      · exact ⟨Int.le_refl _, fun _ => .inr ⟨rfl, Nat.le_refl _⟩⟩
    · rw [if_neg (fun h => by rcases h with h | h <;> first | (exact hc h) | (exact absurd (congrArg (fun t => t.2.2) h) (by simp)))]
      refine .inr ⟨m0, p0, rfl, (h1 _ _).2 (.inl hs), fun m' p' h => ?_⟩
      rcases (h1 _ _).1 h with h | ⟨rfl, rfl⟩
      · exact hb m' p' h
      · have := h2 m0 p0 hs
        exact ⟨by omega, fun _ => by omega⟩

theorem askRow_best {s : Sd} {seen : Int → Nat → Prop} {z : Lk × Int} {m : Int} (h : Best s seen z) (h2 : ∀ m' p', seen m' p' → m' < m) : ∀ k, Best s (fun m' p' => seen m' p' ∨ m' = m ∧ p' < k) (askRow s m z k)
  | 0 => by
    have : (fun m' p' => seen m' p' ∨ m' = m ∧ p' < 0) = seen := by funext a b; simp
    rw [this]; exact h
  | k + 1 => by
    refine (askRow_best h h2 k).one (fun m' p' => ?_) (fun m' p' h => ?_)
    · constructor
      · rintro (h | ⟨h, h'⟩)
        · exact .inl (.inl h)
        · by_cases e : p' = k
          · exact .inr ⟨h, e⟩
          · exact .inl (.inr ⟨h, by omega⟩)
      · rintro ((h | ⟨h, h'⟩) | ⟨h, h'⟩)
        · exact .inl h
        · exact .inr ⟨h, by omega⟩
        · exact .inr ⟨h, by omega⟩
    · rcases h with h | ⟨h, h'⟩
      · exact .inl (h2 _ _ h)
      · exact .inr ⟨h, h'⟩

theorem askAll_best (s : Sd) : ∀ k : Nat, Best s (fun m' p' => firstM s.table ≤ m' ∧ m' < firstM s.table + k ∧ p' < s.floors.length) (askAll s k)
  | 0 => .inl ⟨rfl, fun m p h => by omega⟩
  | k + 1 => by
    have h := askRow_best (m := firstM s.table + k) (askAll_best s k) (fun m' p' h => h.2.1) s.floors.length
    have e : (fun m' p' => (firstM s.table ≤ m' ∧ m' < firstM s.table + (k : Int) ∧ p' < s.floors.length) ∨ m' = firstM s.table + (k : Int) ∧ p' < s.floors.length) = (fun m' p' => firstM s.table ≤ m' ∧ m' < firstM s.table + ((k + 1 : Nat) : Int) ∧ p' < s.floors.length) := by
      funext a b
      apply propext
      constructor
      · rintro (⟨h1, h2, h3⟩ | ⟨h1, h2⟩)
        · exact ⟨h1, by omega, h3⟩
        · exact ⟨by omega, by omega, h2⟩
      · rintro ⟨h1, h2, h3⟩
        by_cases e : a = firstM s.table + k
        · exact .inr ⟨e, h3⟩
        · exact .inl ⟨h1, by omega, h3⟩
    rw [e] at h
    exact h

theorem siz_wind {s : Sd} (ok : Ok s) : siz (s.lo, s.hi) = s.hi - s.lo + 1 := by
  have := ok.lohi
  unfold siz
  dsimp only
  omega
/-- a look and its contrary part the truths -/
theorem siz_part {s : Sd} (ok : Ok s) (m p : Int) : siz (truV s (m, p, true)) + siz (truV s (m, p, false)) = siz (s.lo, s.hi) := by
  have b0 := ok.lo0
  have b1 := ok.hi1
  have b2 := ok.lohi
  rw [siz_wind ok]
  unfold truV siz com
  simp only [if_pos, Bool.false_eq_true, if_false]
  omega
theorem siz_nonneg (a : Int × Int) : 0 ≤ siz a := by unfold siz; omega
theorem truV_com {s : Sd} (x : Lk) : com (s.lo, s.hi) (truV s x) = truV s x := by
  unfold truV com
  split <;> (refine Prod.ext ?_ ?_ <;> dsimp only <;> omega)
theorem truV_in {s : Sd} (x : Lk) : s.lo ≤ (truV s x).1 ∧ (truV s x).2 ≤ s.hi := by
  unfold truV com
  split <;> dsimp only <;> omega
theorem askMost_two {s : Sd} (ok : Ok s) (m : Int) (p : Nat) : askMost s m p = max (siz (truV s (m, (p : Int), true))) (siz (truV s (m, (p : Int), false))) := by
  have := siz_part ok m p
  unfold askMost
  rw [show siz (s.lo, s.hi) - siz (truV s (m, (p : Int), true)) = siz (truV s (m, (p : Int), false)) by omega]
theorem ask_best {s : Sd} (ok : Ok s) : ∃ m p, askAll s (dayN s) = ((m, ((p : Nat) : Int), true), askMost s m p) ∧ inDay s m = true ∧ p < s.floors.length ∧
    ∀ m' p', inDay s m' = true → p' < s.floors.length → askMost s m p ≤ askMost s m' p' ∧ (askMost s m p = askMost s m' p' → m < m' ∨ m = m' ∧ p ≤ p') := by
  obtain ⟨f0, f1, f2⟩ := firstM_lt ok.table
  have hn : ((dayN s : Nat) : Int) = lastM s.table - firstM s.table + 1 := by unfold dayN; omega
  have hfl := ok.fl0
  rcases askAll_best s (dayN s) with ⟨-, h⟩ | ⟨m, p, h1, ⟨h2, h3, h4⟩, h5⟩
  · exact absurd ⟨Int.le_refl _, by omega, hfl⟩ (h (firstM s.table) 0)
  · refine ⟨m, p, h1, inB_true.2 ⟨h2, by omega⟩, h4, fun m' p' hm hp => h5 m' p' ?_⟩
    obtain ⟨i1, i2⟩ := inB_true.1 hm
    exact ⟨i1, by omega, hp⟩
theorem looks_one {s : Sd} (ok : Ok s) {m : Int} (hm : inDay s m = true) {p : Nat} (hp : p < s.floors.length) (b : Bool) :
    looksE s [(m, (p : Int), b)] = (if siz (truV s (m, (p : Int), b)) = 0 then 7 else 0) ∧ looksV s [(m, (p : Int), b)] = (if siz (truV s (m, (p : Int), b)) = 0 then (0, 0) else truV s (m, (p : Int), b)) := by
  have e1 : errLooks s [(m, (p : Int), b)] = 0 := by
    unfold errLooks
    rw [if_pos (chk_zero ok), if_neg (by simp)]
    simp only [lkErr]
    rw [hm, show isPl s (p : Int) = true from inB_true.2 ⟨by omega, by omega⟩]
    rfl
  have e2 : lkOf s (s.lo, s.hi) [(m, (p : Int), b)] = truV s (m, (p : Int), b) := by
    unfold lkOf
    simp only [List.foldl_cons, List.foldl_nil]
    exact truV_com _
  have e3 : looksE s [(m, (p : Int), b)] = (if siz (truV s (m, (p : Int), b)) = 0 then 7 else 0) := by
    unfold looksE
    rw [if_pos e1, e2]
  refine ⟨e3, ?_⟩
  unfold looksV
  rw [e3, e2]
  split
  · rw [if_neg (by decide)]
  · rw [if_pos rfl]
end
end Go.Proofs.Ytcljkkojeleakaa
/- The look that settles most: what the layer's search returns. -/
namespace Go.Proofs.Ytcljkkojeleakaa
open Go.RowKit Go.Shelf

def lkc (x : Lk) : List Value := [.int .i64 x.1, .int .i64 x.2.1, .bool x.2.2]
/-- none yet, or one that was wet -/
def AskOr (z : Lk × Int) : Prop := z.1 = (0, 0, false) ∨ z.1.2.2 = true
theorem askOne_or {s : Sd} {m : Int} {z : Lk × Int} {p : Nat} (h : AskOr z) : AskOr (askOne s m z p) := by
  unfold askOne
  split
  · exact .inr rfl
  · exact h
theorem askRow_or {s : Sd} {m : Int} {z : Lk × Int} (h : AskOr z) : ∀ k, AskOr (askRow s m z k)
  | 0 => h
  | k + 1 => askOne_or (askRow_or h k)
theorem askAll_or (s : Sd) : ∀ k, AskOr (askAll s k)
  | 0 => .inl rfl
  | k + 1 => askRow_or (askAll_or s k) _
theorem askMost_rng {s : Sd} (ok : Ok s) (m : Int) (p : Nat) : 0 ≤ askMost s m p ∧ askMost s m p ≤ 101 ∧ 0 ≤ siz (truV s (m, (p : Int), true)) ∧ siz (truV s (m, (p : Int), true)) ≤ 101 ∧ 0 ≤ siz (s.lo, s.hi) ∧ siz (s.lo, s.hi) ≤ 101 := by
  have h1 := siz_part ok m p
  have h2 := siz_wind ok
  have h3 := siz_nonneg (truV s (m, (p : Int), true))
  have h4 := siz_nonneg (truV s (m, (p : Int), false))
  have b0 := ok.lo0
  have b1 := ok.hi1
  unfold askMost
  omega
theorem askOne_rng {s : Sd} (ok : Ok s) {m : Int} {z : Lk × Int} {p : Nat} (h : 0 ≤ z.2 ∧ z.2 ≤ 101) : 0 ≤ (askOne s m z p).2 ∧ (askOne s m z p).2 ≤ 101 := by
  have := askMost_rng ok m p
  unfold askOne
  split
  · exact ⟨this.1, this.2.1⟩
  · exact h
theorem askRow_rng {s : Sd} (ok : Ok s) {m : Int} {z : Lk × Int} (h : 0 ≤ z.2 ∧ z.2 ≤ 101) : ∀ k, 0 ≤ (askRow s m z k).2 ∧ (askRow s m z k).2 ≤ 101
  | 0 => h
  | k + 1 => askOne_rng ok (askRow_rng ok h k)
theorem askAll_rng {s : Sd} (ok : Ok s) : ∀ k, 0 ≤ (askAll s k).2 ∧ (askAll s k).2 ≤ 101
  | 0 => by have := askMost_rng ok 0 0; exact ⟨this.2.2.2.2.1, this.2.2.2.2.2⟩
  | k + 1 => askRow_rng ok (askAll_rng ok k) _
section
variable {pT pF pS : Option Addr} {cT cF cS : Nat}
theorem size_t {a : Int × Int} (h : Near a) (w : World) : Calls Try.prog 117 #[.agg #[.int .i64 a.1, .int .i64 a.2]] w fun e w' => e = .returned (.int .i64 (siz a)) ∧ Up w w' := by
  obtain ⟨h1, h2, h3, h4⟩ := h
  exact size_c a.1 a.2 w (by omega) (by omega) (by omega) (by omega)
theorem wind_near {s : Sd} (ok : Ok s) : Near (s.lo, s.hi) := by have b0 := ok.lo0; have b1 := ok.hi1; have b2 := ok.lohi; exact ⟨by dsimp only; omega, by dsimp only; omega, by dsimp only; omega, by dsimp only; omega⟩

set_option maxRecDepth 100000 in
set_option maxHeartbeats 2000000 in
theorem ask_c (bw : Nat) (s : Sd) (w : World) (hw : IsWork w bw s pT pF pS cT cF cS) (ok : Ok s) :
    Calls Try.prog 118 #[.pointer (some ⟨bw, 0, none⟩)] w fun e w' => e = .returned (.tuple #[.agg #[.int .i64 (askAll s (dayN s)).1.1, .int .i64 (askAll s (dayN s)).1.2.1, .bool (askAll s (dayN s)).1.2.2], .int .i64 (askAll s (dayN s)).2]) ∧ Up w w' := by
  obtain ⟨hf0, hfl, hl9⟩ := firstM_lt ok.table
  obtain ⟨-, -, ht2, ht12⟩ := ok.table
  have hn : ((dayN s : Nat) : Int) = lastM s.table - firstM s.table + 1 := by unfold dayN; omega
  have hn9 : dayN s ≤ 1441 := by omega
  have s1 : IntKind.i64.wrap (lastM s.table - firstM s.table) = lastM s.table - firstM s.table := IntWalk.i64_in _ (by omega)
  have s2 : IntKind.i64.wrap (lastM s.table - firstM s.table + 1) = (dayN s : Nat) := by rw [IntWalk.i64_in _ (by omega)]; omega
  have hf8 := ok.fl1
  have HFI := Lib.hid (fun W (u : Up w W) => first_c bw s W (hw.sands.up u) ht2)
  have HLA := Lib.hid (fun W (u : Up w W) => last_c bw s W (hw.sands.up u) ht2 ht12)
  have HTR := Lib.hid (fun m (p : Nat) W (u : Up w W) (hm : firstM s.table ≤ m) (hp : p < 8) => truths_c bw s m p true W (hw.up u) ok hm hp)
  have hsz0 := fun W => size_t (w := W) (wind_near ok)
  obtain ⟨al, hal⟩ : ∃ al, siz (s.lo, s.hi) = al := ⟨_, rfl⟩
  rw [hal] at hsz0
  have HSZ := Lib.hid hsz0
  have HAL := Lib.hid hal
  clear hsz0 hal
  have OK := Lib.hid ok
  have q1 := hw.sands.s1
  have q2 := hw.sands.s2
  have q3 := hw.sands.s3
  have lb := cell_lt q1
  clear hw ok
  go_enter Try.func118, Try.ntmps118
  go_wp2_with fail
  refine Calls.world ?_
  intro w0 hw0
  have u0 : Up w w0 := by rw [hw0]; (repeat (first | exact Below.refl _ _ | (with_reducible refine Below.drewN' ?_ _) | (with_reducible refine Below.drew ?_) | (with_reducible refine Below.setCell ?_ (by first | exact Nat.le_refl _ | omega | (with_reducible (repeat (first | refine sz_alloc ?_ | refine sz_setCell ?_ | refine sz_drew ?_ | refine sz_drewN ?_)); first | exact Nat.le_refl _ | omega) | (simp only [World.size_alloc, World.size_setCell, World.size_drew, size_drewN']; omega)) _) | (with_reducible refine Below.alloc ?_ (by first | exact Nat.le_refl _ | omega | (with_reducible (repeat (first | refine sz_alloc ?_ | refine sz_setCell ?_ | refine sz_drew ?_ | refine sz_drewN ?_)); first | exact Nat.le_refl _ | omega) | (simp only [World.size_alloc, World.size_setCell, World.size_drew, size_drewN']; omega)) _) | assumption))
  have hR : Blk w0 w.heap.size [.int .i64 0, .int .i64 0, .bool false] 80 := by rw [hw0]; exact Blk.new _ _ _
  clear hw0
  refine (HSZ.out w0).mono ?_
  rintro e w1 ⟨rfl, u1⟩
  have U1 := Lib.hid (Up.trans u0 u1)
  have R1 := Lib.hid (hR.up u1)
  have lR := R1.out.lt
  clear u0 u1 hR
  go_wp2_with fail
  refine Calls.world ?_
  intro w2 hw2
  have u2 : Up w1 w2 := by rw [hw2]; (repeat (first | exact Below.refl _ _ | (with_reducible refine Below.drewN' ?_ _) | (with_reducible refine Below.drew ?_) | (with_reducible refine Below.setCell ?_ (by first | exact Nat.le_refl _ | omega | (with_reducible (repeat (first | refine sz_alloc ?_ | refine sz_setCell ?_ | refine sz_drew ?_ | refine sz_drewN ?_)); first | exact Nat.le_refl _ | omega) | (simp only [World.size_alloc, World.size_setCell, World.size_drew, size_drewN']; omega)) _) | (with_reducible refine Below.alloc ?_ (by first | exact Nat.le_refl _ | omega | (with_reducible (repeat (first | refine sz_alloc ?_ | refine sz_setCell ?_ | refine sz_drew ?_ | refine sz_drewN ?_)); first | exact Nat.le_refl _ | omega) | (simp only [World.size_alloc, World.size_setCell, World.size_drew, size_drewN']; omega)) _) | assumption))
  have hB : Blk w2 w1.heap.size [.int .i64 0, .int .i64 0, .bool false] 80 := by rw [hw2]; exact Blk.new _ _ _
  clear hw2
  refine (HLA.out w2 (Up.trans U1.out u2)).mono ?_
  rintro e w3 ⟨rfl, u3⟩
  have U3 := Lib.hid (Up.trans U1.out (Up.trans u2 u3))
  have R3 := Lib.hid (R1.out.up (Up.trans u2 u3))
  have B3 := Lib.hid (hB.up u3)
  clear u2 u3 hB U1 R1
  go_wp2_with fail
  refine (HFI.out w3 U3.out).mono ?_
  rintro e w4 ⟨rfl, u4⟩
  have U4 := Lib.hid (Up.trans U3.out u4)
  have R4 := Lib.hid (R3.out.up u4)
  have B4 := Lib.hid (B3.out.up u4)
  clear u4 U3 R3 B3
  obtain ⟨Bb, hBb⟩ : ∃ Bb, w1.heap.size = Bb := ⟨_, rfl⟩
  rw [hBb] at B4 lR ⊢
  clear hBb w1
  go_wp2_with fail
  rw [← hn]
  obtain ⟨n, hnn⟩ : ∃ n, dayN s = n := ⟨_, rfl⟩
  obtain ⟨a, ha⟩ : ∃ a, firstM s.table = a := ⟨_, rfl⟩
  rw [hnn] at hn hn9
  rw [ha] at hn hf0 hfl HFI HTR
  have HQ := Lib.hid (show lastM s.table = a + n - 1 by omega)
  have HL9 := Lib.hid hl9
  have HA := Lib.hid ha
  have HN := Lib.hid hnn
  simp only [hnn]
  clear s1 s2 hn hnn ha hfl hl9
  go_loopw [25, 6] (fun i f wr => ∃ k : Nat, k ≤ n ∧ i = .int .i64 k ∧ f = .int .i64 (askAll s k).2 ∧ Blk wr Bb (lkc (askAll s k).1) 80 ∧ Blk wr w.heap.size [.int .i64 0, .int .i64 0, .bool false] 80 ∧ Up w wr) (fun i _ _ => n - (intOf i).toNat)
  case atStart => exact ⟨0, Nat.zero_le _, rfl, by rw [← HAL.out]; rfl, B4.out, R4.out, U4.out⟩
  case round =>
    obtain ⟨k, hk, rfl, rfl, hb, hr, hu⟩ := hrel
    have HB := Lib.hid hb
    have HR := Lib.hid hr
    have HU := Lib.hid hu
    have q3' := hu.cellAt q3
    have lb' := cell_lt q3'
    clear hb hr hu
    by_cases hlt : k < n
    · have k1 : (k : Int) < n := by omega
      have b1 : a + k ≤ 1441 := by have := HL9.out; have := HQ.out; omega
      have hz := askAll_or s k
      have hzr := askAll_rng OK.out k
      have HE := Lib.hid (show askAll s (k + 1) = askRow s (a + k) (askAll s k) s.floors.length by rw [← HA.out]; rfl)
      generalize askAll s k = z at *
      have HZ := Lib.hid hz
      have HZR := Lib.hid hzr
      clear hz hzr
      go_wp2_with fail
      go_loopw [34, 6] (fun j f wy => ∃ p : Nat, p ≤ s.floors.length ∧ j = .int .i64 p ∧ f = .int .i64 (askRow s (a + k) z p).2 ∧ Blk wy Bb (lkc (askRow s (a + k) z p).1) 80 ∧ Blk wy w.heap.size [.int .i64 0, .int .i64 0, .bool false] 80 ∧ Up w wy) (fun j _ _ => s.floors.length - (intOf j).toNat)
      case atStart => exact ⟨0, Nat.zero_le _, rfl, rfl, HB.out, HR.out, HU.out⟩
      case round =>
        obtain ⟨p, hp, rfl, rfl, hb, hr, hu⟩ := hrel
        have Hb := Lib.hid hb
        have Hr := Lib.hid hr
        have Hu := Lib.hid hu
        clear hb hr hu
        by_cases hlp : p < s.floors.length
        · have p1 : (p : Int) < s.floors.length := by omega
          have hz := askRow_or (s := s) (m := a + k) HZ.out p
          have hzr := askRow_rng OK.out (m := a + k) HZR.out p
          have HE2 := Lib.hid (show askRow s (a + k) z (p + 1) = askOne s (a + k) (askRow s (a + k) z p) p from rfl)
          generalize askRow s (a + k) z p = y at *
          obtain ⟨⟨ym, yp, yw⟩, yn⟩ := y
          dsimp only at hzr
          have HY := Lib.hid hz
          have mr := askMost_rng OK.out (a + k) p
          rw [HAL.out] at mr
          have NT := Lib.hid (truV_near OK.out (a + k, (p : Int), true) (by rw [HA.out]; show a ≤ a + (k : Int); omega))
          have MS := Lib.hid (show askMost s (a + k) p = max (siz (truV s (a + k, (p : Int), true))) (al - siz (truV s (a + k, (p : Int), true))) by rw [← HAL.out]; rfl)
          have HT := Lib.hid (fun W (u : Up w W) => HTR.out (a + k) p W u (by omega) (by omega))
          generalize truV s (a + k, (p : Int), true) = tv at *
          clear hz
          have s3 : IntKind.i64.wrap (a + k) = a + k := IntWalk.i64_in _ (by omega)
          go_wp2_with fail
          refine (HFI.out _ Hu.out).mono ?_
          rintro e w5 ⟨rfl, u5⟩
          have U5 := Lib.hid (Up.trans Hu.out u5)
          have R5 := Lib.hid (Hr.out.up u5)
          have B5 := Lib.hid (Hb.out.up u5)
          clear u5 Hu Hr Hb
          go_wp2_with fail
          refine Calls.world ?_
          intro w6 hw6
          have u6 : Up w5 w6 := by rw [hw6]; (repeat (first | exact Below.refl _ _ | (with_reducible refine Below.drewN' ?_ _) | (with_reducible refine Below.drew ?_) | (with_reducible refine Below.setCell ?_ (by first | exact Nat.le_refl _ | omega | (with_reducible (repeat (first | refine sz_alloc ?_ | refine sz_setCell ?_ | refine sz_drew ?_ | refine sz_drewN ?_)); first | exact Nat.le_refl _ | omega) | (simp only [World.size_alloc, World.size_setCell, World.size_drew, size_drewN']; omega)) _) | (with_reducible refine Below.alloc ?_ (by first | exact Nat.le_refl _ | omega | (with_reducible (repeat (first | refine sz_alloc ?_ | refine sz_setCell ?_ | refine sz_drew ?_ | refine sz_drewN ?_)); first | exact Nat.le_refl _ | omega) | (simp only [World.size_alloc, World.size_setCell, World.size_drew, size_drewN']; omega)) _) | assumption))
          have L6 : Blk w6 w5.heap.size [.int .i64 (a + k), .int .i64 p, .bool true] 80 := by rw [hw6]; exact Blk.new _ _ _
          clear hw6
          refine (HT.out w6 (Up.trans U5.out u6)).mono ?_
          rintro e w7 ⟨rfl, u7⟩
          go_wp2_with fail
          refine (size_t NT.out w7).mono ?_
          rintro e w8 ⟨rfl, u8⟩
          have L8 := Lib.hid (L6.up (Up.trans u7 u8))
          have U8 := Lib.hid (Up.trans U5.out (Up.trans u6 (Up.trans u7 u8)))
          have R8 := Lib.hid (R5.out.up (Up.trans u6 (Up.trans u7 u8)))
          have B8 := Lib.hid (B5.out.up (Up.trans u6 (Up.trans u7 u8)))
          have sz5 : w5.heap.size ≠ Bb := by have := B5.out.lt; omega
          clear u6 u7 u8 L6 U5 R5 B5 HT NT s3
          generalize siz tv = g at *
          obtain ⟨X, hX⟩ : ∃ X, w5.heap.size = X := ⟨_, rfl⟩
          rw [hX] at L8 sz5 ⊢
          clear hX w5 w6 w7
          have s4 : IntKind.i64.wrap (al - g) = al - g := IntWalk.i64_in _ (by omega)
          have x0 := L8.out.cell 0
          have x1 := L8.out.cell 1
          have x2 := L8.out.cell 2
          have y0 := B8.out.cell 0
          have y1 := B8.out.cell 1
          have y2 := B8.out.cell 2
          have yf := B8.out.free
          have yl := B8.out.lt
          simp only [lkc, List.getElem?_cons_zero, List.getElem?_cons_succ] at x0 x1 x2 y0 y1 y2
          by_cases hm : g < al - g
          · have MM := Lib.hid (show askMost s (a + k) p = al - g by rw [MS.out]; omega)
            rcases HY.out with hy | hy
            · simp only [Prod.mk.injEq] at hy
              obtain ⟨rfl, rfl, rfl⟩ := hy
              have HE3 := Lib.hid (show askRow s (a + k) z (p + 1) = ((a + k, (p : Int), true), al - g) by rw [HE2.out]; unfold askOne; rw [if_pos (.inl rfl), MM.out])
              go_wp2_with fail
              go_roundw
              case rel =>
                refine ⟨p + 1, by omega, by go_num, by rw [HE3.out], ?_, (R8.out.other (by simp only []; omega) _ |>.other (by simp only []; omega) _).other (by simp only []; omega) _, ((U8.out.setCell (by simp only []; omega) _).setCell (by simp only []; omega) _).setCell (by simp only []; omega) _⟩
                rw [HE3.out]
                have h := ((B8.out.set 0 (.int .i64 (a + k))).set 1 (.int .i64 p)).set 2 (.bool true)
                simpa only [lkc, List.set_cons_zero, List.set_cons_succ] using h
              case measure => simp [intOf]; omega
            · have hy' : yw = true := hy
              subst hy'
              by_cases hc : al - g < yn
              · have HE3 := Lib.hid (show askRow s (a + k) z (p + 1) = ((a + k, (p : Int), true), al - g) by rw [HE2.out]; unfold askOne; rw [MM.out, if_pos (.inr hc)])
                go_wp2_with fail
                go_roundw
                case rel =>
                  refine ⟨p + 1, by omega, by go_num, by rw [HE3.out], ?_, (R8.out.other (by simp only []; omega) _ |>.other (by simp only []; omega) _).other (by simp only []; omega) _, ((U8.out.setCell (by simp only []; omega) _).setCell (by simp only []; omega) _).setCell (by simp only []; omega) _⟩
                  rw [HE3.out]
                  have h := ((B8.out.set 0 (.int .i64 (a + k))).set 1 (.int .i64 p)).set 2 (.bool true)
                  simpa only [lkc, List.set_cons_zero, List.set_cons_succ] using h
                case measure => simp [intOf]; omega
              · have HE3 := Lib.hid (show askRow s (a + k) z (p + 1) = ((ym, yp, true), yn) by rw [HE2.out]; unfold askOne; rw [MM.out, if_neg (fun h => by rcases h with h | h <;> first | (exact hc h) | (exact absurd (congrArg (fun t => t.2.2) h) (by simp)))])
                go_wp2_with fail
                go_roundw
                case rel => exact ⟨p + 1, by omega, by go_num, by rw [HE3.out], by rw [HE3.out]; exact B8.out, R8.out, U8.out⟩
                case measure => simp [intOf]; omega
          · have MM := Lib.hid (show askMost s (a + k) p = g by rw [MS.out]; omega)
            rcases HY.out with hy | hy
            · simp only [Prod.mk.injEq] at hy
              obtain ⟨rfl, rfl, rfl⟩ := hy
              have HE3 := Lib.hid (show askRow s (a + k) z (p + 1) = ((a + k, (p : Int), true), g) by rw [HE2.out]; unfold askOne; rw [if_pos (.inl rfl), MM.out])
              go_wp2_with fail
              go_roundw
              case rel =>
                refine ⟨p + 1, by omega, by go_num, by rw [HE3.out], ?_, (R8.out.other (by simp only []; omega) _ |>.other (by simp only []; omega) _).other (by simp only []; omega) _, ((U8.out.setCell (by simp only []; omega) _).setCell (by simp only []; omega) _).setCell (by simp only []; omega) _⟩
                rw [HE3.out]
                have h := ((B8.out.set 0 (.int .i64 (a + k))).set 1 (.int .i64 p)).set 2 (.bool true)
                simpa only [lkc, List.set_cons_zero, List.set_cons_succ] using h
              case measure => simp [intOf]; omega
            · have hy' : yw = true := hy
              subst hy'
              by_cases hc : g < yn
              · have HE3 := Lib.hid (show askRow s (a + k) z (p + 1) = ((a + k, (p : Int), true), g) by rw [HE2.out]; unfold askOne; rw [MM.out, if_pos (.inr hc)])
                go_wp2_with fail
                go_roundw
                case rel =>
                  refine ⟨p + 1, by omega, by go_num, by rw [HE3.out], ?_, (R8.out.other (by simp only []; omega) _ |>.other (by simp only []; omega) _).other (by simp only []; omega) _, ((U8.out.setCell (by simp only []; omega) _).setCell (by simp only []; omega) _).setCell (by simp only []; omega) _⟩
                  rw [HE3.out]
                  have h := ((B8.out.set 0 (.int .i64 (a + k))).set 1 (.int .i64 p)).set 2 (.bool true)
                  simpa only [lkc, List.set_cons_zero, List.set_cons_succ] using h
                case measure => simp [intOf]; omega
              · have HE3 := Lib.hid (show askRow s (a + k) z (p + 1) = ((ym, yp, true), yn) by rw [HE2.out]; unfold askOne; rw [MM.out, if_neg (fun h => by rcases h with h | h <;> first | (exact hc h) | (exact absurd (congrArg (fun t => t.2.2) h) (by simp)))])
                go_wp2_with fail
                go_roundw
                case rel => exact ⟨p + 1, by omega, by go_num, by rw [HE3.out], by rw [HE3.out]; exact B8.out, R8.out, U8.out⟩
                case measure => simp [intOf]; omega
        · obtain rfl : p = s.floors.length := by omega
          go_wp2_with fail
          go_roundw
          case rel => exact ⟨k + 1, by omega, by go_num, by rw [HE.out], by rw [HE.out]; exact Hb.out, Hr.out, Hu.out⟩
          case measure => simp [intOf]; omega
    · obtain rfl : k = n := by omega
      have y0 := HB.out.cell 0
      have y1 := HB.out.cell 1
      have y2 := HB.out.cell 2
      have r0 := HR.out.cell 0
      have r1 := HR.out.cell 1
      have r2 := HR.out.cell 2
      have rf := HR.out.free
      have rl := HR.out.lt
      generalize hz : askAll s k = z at *
      obtain ⟨⟨zm, zp, zw⟩, zn⟩ := z
      have HZ0 := Lib.hid hz
      clear hz
      simp only [lkc, List.getElem?_cons_zero, List.getElem?_cons_succ] at y0 y1 y2 r0 r1 r2
      go_wp2_with fail
      have h := ((HR.out.set 0 (.int .i64 zm)).set 1 (.int .i64 zp)).set 2 (.bool zw)
      have p0 := h.cell 0
      have p1 := h.cell 1
      have p2 := h.cell 2
      simp only [List.set_cons_zero, List.set_cons_succ, List.getElem?_cons_zero, List.getElem?_cons_succ] at p0 p1 p2
      have pl := h.lt
      refine bodyPost_ret (v := .tuple #[.agg #[.int .i64 zm, .int .i64 zp, .bool zw], .int .i64 zn]) (by simp [results, Try.f118, go_sem, p0, p1, p2]) rfl ⟨by rw [HN.out, HZ0.out], ?_⟩
      exact ((HU.out.setCell (by simp only []; omega) _).setCell (by simp only []; omega) _).setCell (by simp only []; omega) _

set_option maxRecDepth 100000 in
set_option maxHeartbeats 1000000 in
theorem Ask_c (s : Sd) (w : World) (hl : Lists w s pT pF pS cT cF cS) :
    Calls Try.prog 48 #[sdVal s pT pF pS cT cF cS] w fun e w' => e = .returned (.tuple #[.agg #[.int .i64 (askV s).1.1, .int .i64 (askV s).1.2.1, .bool (askV s).1.2.2], .int .i64 (askV s).2, .int .i64 (askE s)]) ∧ Up w w' := by
  have HC := Lib.hid (fun W (u : Up w W) => begin_c s W pT pF pS cT cF cS (hl.up u))
  clear hl
  by_cases hc : chk s = 0
  · have OK := Lib.hid (chk_ok hc)
    have HE := Lib.hid (show askE s = if siz (s.lo, s.hi) = 1 then 6 else 0 by unfold askE; rw [if_pos hc])
    rw [hc] at HC
    clear hc
    unfold sdVal at *
    go_enter Try.func48, Try.ntmps48
    go_wp2_with fail
    refine Calls.world ?_
    intro w0 hw0
    have u0 : Up w w0 := by rw [hw0]; (repeat (first | exact Below.refl _ _ | (with_reducible refine Below.drewN' ?_ _) | (with_reducible refine Below.drew ?_) | (with_reducible refine Below.setCell ?_ (by first | exact Nat.le_refl _ | omega | (with_reducible (repeat (first | refine sz_alloc ?_ | refine sz_setCell ?_ | refine sz_drew ?_ | refine sz_drewN ?_)); first | exact Nat.le_refl _ | omega) | (simp only [World.size_alloc, World.size_setCell, World.size_drew, size_drewN']; omega)) _) | (with_reducible refine Below.alloc ?_ (by first | exact Nat.le_refl _ | omega | (with_reducible (repeat (first | refine sz_alloc ?_ | refine sz_setCell ?_ | refine sz_drew ?_ | refine sz_drewN ?_)); first | exact Nat.le_refl _ | omega) | (simp only [World.size_alloc, World.size_setCell, World.size_drew, size_drewN']; omega)) _) | assumption))
    have hR : Blk w0 (w.heap.size + 1) [.int .i64 0, .int .i64 0, .bool false] 80 := by rw [hw0]; exact Blk.new' _ [.int .i64 0, .int .i64 0, .bool false] _ (by simp)
    clear hw0
    refine (HC.out _ u0).mono ?_
    rintro e w1 ⟨p, rfl, u1, hok⟩
    obtain ⟨bw, rfl, hW⟩ := hok rfl
    have U1 := Lib.hid (Up.trans u0 u1)
    have HW := Lib.hid hW
    have HB := Lib.hid (hR.up u1)
    have d1 := hW.sands.s1
    have d2 := hW.sands.s2
    clear hok hW u1 u0 HC hR
    go_wp2_with fail
    refine (size_t (wind_near OK.out) _).mono ?_
    rintro e w2 ⟨rfl, u2⟩
    have U2 := Lib.hid (Up.trans U1.out u2)
    have HW2 := Lib.hid (HW.out.up u2)
    have hB := HB.out.up u2
    have q0 := hB.cell 0
    have q1 := hB.cell 1
    have q2 := hB.cell 2
    have fr := hB.free
    have lB := hB.lt
    simp only [List.getElem?_cons_zero, List.getElem?_cons_succ] at q0 q1 q2
    have HB2 := Lib.hid hB
    clear hB u2 d1 d2 HB HW U1
    by_cases h1 : siz (s.lo, s.hi) = 1
    · have HV := Lib.hid (show askV s = ((0, 0, false), 0) by unfold askV; rw [HE.out, if_pos h1, if_neg (by decide)])
      rw [if_pos h1] at HE
      go_wp2_with fail
      have h := ((HB2.out.set 0 (.int .i64 0)).set 1 (.int .i64 0)).set 2 (.bool false)
      have p0 := h.cell 0
      have p1 := h.cell 1
      have p2 := h.cell 2
      simp only [List.set_cons_zero, List.set_cons_succ, List.getElem?_cons_zero, List.getElem?_cons_succ] at p0 p1 p2
      refine bodyPost_ret (v := .tuple #[.agg #[.int .i64 0, .int .i64 0, .bool false], .int .i64 0, .int .i64 6]) (by simp [results, Try.f48, go_sem, p0, p1, p2]) rfl ⟨by rw [HV.out, HE.out], ?_⟩
      exact ((U2.out.setCell (by simp only []; omega) _).setCell (by simp only []; omega) _).setCell (by simp only []; omega) _
    · have HV := Lib.hid (show askV s = askAll s (dayN s) by unfold askV; rw [HE.out, if_neg h1, if_pos rfl])
      rw [if_neg h1] at HE
      have h1' : (siz (s.lo, s.hi) == 1) = false := by simpa using h1
      go_wp2_with fail
      refine (ask_c bw s _ HW2.out OK.out).mono ?_
      rintro e w3 ⟨rfl, u3⟩
      rw [← HV.out]
      generalize hz : askV s = z at *
      obtain ⟨⟨zm, zp, zw⟩, zn⟩ := z
      have U3 := Lib.hid (Up.trans U2.out u3)
      have hB := HB2.out.up u3
      have q0' := hB.cell 0
      have q1' := hB.cell 1
      have q2' := hB.cell 2
      have fr' := hB.free
      have lB' := hB.lt
      simp only [List.getElem?_cons_zero, List.getElem?_cons_succ] at q0' q1' q2'
      have HB3 := Lib.hid hB
      have HZ := Lib.hid hz
      clear hB u3 q0 q1 q2 fr HV hz
      go_wp2_with fail
      have h := (((HB3.out.set 0 (.int .i64 zm)).set 1 (.int .i64 zp)).set 2 (.bool zw)).alloc (.cells #[.int .i64 zm, .int .i64 zp, .bool zw] 80)
      have p0 := h.cell 0
      have p1 := h.cell 1
      have p2 := h.cell 2
      simp only [List.set_cons_zero, List.set_cons_succ, List.getElem?_cons_zero, List.getElem?_cons_succ] at p0 p1 p2
      refine bodyPost_ret (v := .tuple #[.agg #[.int .i64 zm, .int .i64 zp, .bool zw], .int .i64 zn, .int .i64 0]) (by simp [results, Try.f48, go_sem, p0, p1, p2]) rfl ⟨by rw [HE.out, HZ.out], ?_⟩
      have hU := U3.out
      (repeat (first | exact Below.refl _ _ | (with_reducible refine Below.drewN' ?_ _) | (with_reducible refine Below.drew ?_) | (with_reducible refine Below.setCell ?_ (by first | exact Nat.le_refl _ | omega | (with_reducible (repeat (first | refine sz_alloc ?_ | refine sz_setCell ?_ | refine sz_drew ?_ | refine sz_drewN ?_)); first | exact Nat.le_refl _ | omega) | (simp only [World.size_alloc, World.size_setCell, World.size_drew, size_drewN']; omega)) _) | (with_reducible refine Below.alloc ?_ (by first | exact Nat.le_refl _ | omega | (with_reducible (repeat (first | refine sz_alloc ?_ | refine sz_setCell ?_ | refine sz_drew ?_ | refine sz_drewN ?_)); first | exact Nat.le_refl _ | omega) | (simp only [World.size_alloc, World.size_setCell, World.size_drew, size_drewN']; omega)) _) | assumption))
  · have hne : (chk s != 0) = true := by rw [bne_iff_ne]; exact hc
    have HE := Lib.hid (show askE s = chk s by unfold askE; rw [if_neg hc])
    have HV := Lib.hid (show askV s = ((0, 0, false), 0) by unfold askV; rw [HE.out, if_neg hc])
    clear hc
    unfold sdVal at *
    go_enter Try.func48, Try.ntmps48
    go_wp2_with fail
    refine Calls.world ?_
    intro w0 hw0
    have u0 : Up w w0 := by rw [hw0]; (repeat (first | exact Below.refl _ _ | (with_reducible refine Below.drewN' ?_ _) | (with_reducible refine Below.drew ?_) | (with_reducible refine Below.setCell ?_ (by first | exact Nat.le_refl _ | omega | (with_reducible (repeat (first | refine sz_alloc ?_ | refine sz_setCell ?_ | refine sz_drew ?_ | refine sz_drewN ?_)); first | exact Nat.le_refl _ | omega) | (simp only [World.size_alloc, World.size_setCell, World.size_drew, size_drewN']; omega)) _) | (with_reducible refine Below.alloc ?_ (by first | exact Nat.le_refl _ | omega | (with_reducible (repeat (first | refine sz_alloc ?_ | refine sz_setCell ?_ | refine sz_drew ?_ | refine sz_drewN ?_)); first | exact Nat.le_refl _ | omega) | (simp only [World.size_alloc, World.size_setCell, World.size_drew, size_drewN']; omega)) _) | assumption))
    have hR : Blk w0 (w.heap.size + 1) [.int .i64 0, .int .i64 0, .bool false] 80 := by rw [hw0]; exact Blk.new' _ [.int .i64 0, .int .i64 0, .bool false] _ (by simp)
    clear hw0
    refine (HC.out _ u0).mono ?_
    rintro e w1 ⟨p, rfl, u1, -⟩
    have U1 := Lib.hid (Up.trans u0 u1)
    have hB := hR.up u1
    have q0 := hB.cell 0
    have q1 := hB.cell 1
    have q2 := hB.cell 2
    have fr := hB.free
    have lB := hB.lt
    simp only [List.getElem?_cons_zero, List.getElem?_cons_succ] at q0 q1 q2
    have HB := Lib.hid hB
    clear u1 u0 HC hR hB
    go_wp2_with fail
    have h := ((HB.out.set 0 (.int .i64 0)).set 1 (.int .i64 0)).set 2 (.bool false)
    have p0 := h.cell 0
    have p1 := h.cell 1
    have p2 := h.cell 2
    simp only [List.set_cons_zero, List.set_cons_succ, List.getElem?_cons_zero, List.getElem?_cons_succ] at p0 p1 p2
    refine bodyPost_ret (v := .tuple #[.agg #[.int .i64 0, .int .i64 0, .bool false], .int .i64 0, .int .i64 (chk s)]) (by simp [results, Try.f48, go_sem, p0, p1, p2]) rfl ⟨by rw [HV.out, HE.out], ?_⟩
    exact ((U1.out.setCell (by simp only []; omega) _).setCell (by simp only []; omega) _).setCell (by simp only []; omega) _
end
end Go.Proofs.Ytcljkkojeleakaa
/- The exported Longest: the longest span in which places are dry, or the error. -/
namespace Go.Proofs.Ytcljkkojeleakaa
open Go.RowKit Go.Shelf Go.Maps

set_option maxRecDepth 100000 in
set_option maxHeartbeats 1000000 in
theorem inList_c (ps : List Int) (b m n : Nat) (D : DataW Unit) (hc : CntIs D ps) (w : World) (h : w.cell? ⟨b, 0, none⟩ = some (.map (some m))) (o : w.ownsMap Try.prog 3 (plainElem Try.prog 3) m n D) (x : Int) (h0 : 0 ≤ x) (h1 : x < 1000) :
    Calls Try.prog 134 #[.int .i64 x, .pointer (some ⟨b, 0, none⟩)] w fun e w' => e = .returned (.bool (decide (0 < ps.count x))) ∧ Up w w' := by
  have k1 : keyOf Try.prog 3 (.int .i64 x) = some (.int .i64 x) := keyOf_int_mk Try.underlying3 (wf_small (by omega) (by omega))
  obtain ⟨cn, hcn⟩ : ∃ cn : Int, ((ps.count x : Nat) : Int) = cn := ⟨_, rfl⟩
  have A1 := Lib.hid (show D.atKey (.int .i64 x) (.lit (.int .i64 0)) = .lit (.int .i64 cn) by rw [hc.count, hcn])
  have HM := Lib.hid (show decide (0 < ps.count x) = decide (0 < cn) by rw [← hcn]; simp)
  obtain ⟨x1, hr1, hat1, -⟩ := o.lookup_int law3 Try.underlying150 Try.underlying3 (zero3 _) k1
  obtain rfl : cn = x1 := by rw [A1.out] at hat1; simpa using hat1
  clear o hcn hat1 A1 k1
  go_enter Try.func134, Try.ntmps134
  go_wp2
  go_ret
  exact ⟨ret_bool HM.out.symm, Below.refl _ _⟩
theorem en_inList : Enters Try.prog 134 := enters_of Try.func134 (by kernel_rfl) rfl

/-- the places that are listed, each once -/
theorem inPl_eq (s : Sd) (ps : List Int) : inPl s ps = (allP s).filter (fun p => decide (0 < ps.count p)) := rfl
theorem allP_mem {s : Sd} {x : Int} (h : x ∈ allP s) : 0 ≤ x ∧ x < s.floors.length := by
  simp only [allP, List.mem_map, List.mem_range] at h
  obtain ⟨n, hn, rfl⟩ := h
  omega
theorem span_near {s : Sd} (ok : Ok s) (ps : List Int) : ∀ x ∈ drySpans s ps, Near x := by
  obtain ⟨f0, f1, f2⟩ := firstM_lt ok.table
  have hn : ((dayN s : Nat) : Int) = lastM s.table - firstM s.table + 1 := by unfold dayN; omega
  intro x hx
  have r := (spans_run _ _ _).1 x hx
  have r0 := r.lo
  have r1 := r.le
  have r2 := r.hi
  exact ⟨by omega, by omega, by omega, by omega⟩
section
variable {pT pF pS : Option Addr} {cT cF cS : Nat}
set_option maxRecDepth 100000 in
set_option maxHeartbeats 3000000 in
theorem Longest_c (s : Sd) (ps : List Int) (pp : Option Addr) (c : Nat) (w : World) (hl : Lists w s pT pF pS cT cF cS) (hr : Row w pp 1 (ints ps)) (hn : ps.length ≤ 10000) :
    Calls Try.prog 65 #[sdVal s pT pF pS cT cF cS, .slice pp ps.length c] w fun e w' => e = .returned (.tuple #[.agg #[.int .i64 (longestV s ps).1, .int .i64 (longestV s ps).2], .int .i64 (errLong s ps)]) ∧ Up w w' := by
  have HC := Lib.hid (fun W (u : Up w W) => begin_c s W pT pF pS cT cF cS (hl.up u))
  have HR := Lib.hid hr
  clear hl hr
  by_cases hc : chk s = 0
  · have OK := Lib.hid (chk_ok hc)
    have HE := Lib.hid (show errLong s ps = if ps.all (isPl s) = true then (if drySpans s ps = [] then 6 else 0) else 1 by unfold errLong; rw [if_pos hc])
    rw [hc] at HC
    clear hc
    have hf8 := OK.out.fl1
    unfold sdVal at *
    go_enter Try.func65, Try.ntmps65
    go_wp2_with fail
    refine Calls.world ?_
    intro w0 hw0
    have u0 : Up w w0 := by rw [hw0]; (repeat (first | exact Below.refl _ _ | (with_reducible refine Below.drewN' ?_ _) | (with_reducible refine Below.drew ?_) | (with_reducible refine Below.setCell ?_ (by first | exact Nat.le_refl _ | omega | (with_reducible (repeat (first | refine sz_alloc ?_ | refine sz_setCell ?_ | refine sz_drew ?_ | refine sz_drewN ?_)); first | exact Nat.le_refl _ | omega) | (simp only [World.size_alloc, World.size_setCell, World.size_drew, size_drewN']; omega)) _) | (with_reducible refine Below.alloc ?_ (by first | exact Nat.le_refl _ | omega | (with_reducible (repeat (first | refine sz_alloc ?_ | refine sz_setCell ?_ | refine sz_drew ?_ | refine sz_drewN ?_)); first | exact Nat.le_refl _ | omega) | (simp only [World.size_alloc, World.size_setCell, World.size_drew, size_drewN']; omega)) _) | assumption))
    have hB : Blk w0 (w.heap.size + 1) [.int .i64 0, .int .i64 0] 24 := by rw [hw0]; exact Blk.new' _ [.int .i64 0, .int .i64 0] _ (by simp)
    clear hw0
    refine (HC.out _ u0).mono ?_
    rintro e w1 ⟨p, rfl, u1, hok⟩
    obtain ⟨bw, rfl, hW⟩ := hok rfl
    have U1 := Lib.hid (Up.trans u0 u1)
    have HW := Lib.hid hW
    have HB := Lib.hid (hB.up u1)
    clear hok hW u1 u0 HC hB
    go_wp2_with fail
    refine (everyInt_c 105 #[.pointer (some ⟨bw, 0, none⟩)] #[] pp c ps (isPl s) w1 (HR.out.up U1.out) (by simp only [maxLen]; omega) en_isPlace (fun x _ W uW => (isPlace_c bw _ _ _ x W (HW.out.up uW).sands.s3 (by simp only [maxLen]; omega)).mono (fun e W' h => ⟨h.1, h.2 ▸ Below.refl _ _⟩))).mono ?_
    rintro e w2 ⟨rfl, u2⟩
    have U2 := Lib.hid (Up.trans U1.out u2)
    have HW2 := Lib.hid (HW.out.up u2)
    have HB2 := Lib.hid (HB.out.up u2)
    clear u2 U1 HW HB
    have q0 := HB2.out.cell 0
    have q1 := HB2.out.cell 1
    have fr := HB2.out.free
    have lB := HB2.out.lt
    simp only [List.getElem?_cons_zero, List.getElem?_cons_succ] at q0 q1
    cases hall : ps.all (isPl s) with
    | false =>
      rw [hall, if_neg (by decide)] at HE
      have HV := Lib.hid (show longestV s ps = (0, 0) by unfold longestV; rw [HE.out, if_neg (by decide)])
      go_wp2_with fail
      have h := (HB2.out.set 0 (.int .i64 0)).set 1 (.int .i64 0)
      have p0 := h.cell 0
      have p1 := h.cell 1
      simp only [List.set_cons_zero, List.set_cons_succ, List.getElem?_cons_zero, List.getElem?_cons_succ] at p0 p1
      refine bodyPost_ret (v := .tuple #[.agg #[.int .i64 0, .int .i64 0], .int .i64 1]) (by simp [results, Try.f65, go_sem, p0, p1]) rfl ⟨by rw [HV.out, HE.out], ?_⟩
      exact (U2.out.setCell (by simp only []; omega) _).setCell (by simp only []; omega) _
    | true =>
      rw [hall, if_pos rfl] at HE
      have HPL := Lib.hid (inPl_dry hall)
      have HALL := Lib.hid (fun x (hx : x ∈ ps) => inB_true.1 (List.all_eq_true.1 hall x hx))
      clear hall
      clear q0 q1 fr
      go_wp2_with fail
      refine (counted_c ps pp c w2 (HR.out.up U2.out) hn (fun x hx => by have := HALL.out x hx; omega)).mono ?_
      rintro e w3 ⟨rfl, ⟨D, hD, hM⟩, u3⟩
      have U3 := Lib.hid (Up.trans U2.out u3)
      have HW3 := Lib.hid (HW2.out.up u3)
      have HB3 := Lib.hid (HB2.out.up u3)
      have HM3 := Lib.hid hM
      clear u3 U2 HW2 HB2 hM
      go_wp2_with fail
      refine Calls.world ?_
      intro w4 hw4
      have u4 : Up w3 w4 := by rw [hw4]; (repeat (first | exact Below.refl _ _ | (with_reducible refine Below.drewN' ?_ _) | (with_reducible refine Below.drew ?_) | (with_reducible refine Below.setCell ?_ (by first | exact Nat.le_refl _ | omega | (with_reducible (repeat (first | refine sz_alloc ?_ | refine sz_setCell ?_ | refine sz_drew ?_ | refine sz_drewN ?_)); first | exact Nat.le_refl _ | omega) | (simp only [World.size_alloc, World.size_setCell, World.size_drew, size_drewN']; omega)) _) | (with_reducible refine Below.alloc ?_ (by first | exact Nat.le_refl _ | omega | (with_reducible (repeat (first | refine sz_alloc ?_ | refine sz_setCell ?_ | refine sz_drew ?_ | refine sz_drewN ?_)); first | exact Nat.le_refl _ | omega) | (simp only [World.size_alloc, World.size_setCell, World.size_drew, size_drewN']; omega)) _) | assumption))
      have hBm : Blk w4 w3.heap.size [.map (some w2.heap.size)] 150 := by rw [hw4]; exact Blk.new _ _ _
      clear hw4
      refine (allPlaces_c bw s w4 (HW3.out.up u4) hf8).mono ?_
      rintro e w5 ⟨q, d, rfl, -, -, rP, u5⟩
      have u45 := Up.trans u4 u5
      have U5 := Lib.hid (Up.trans U3.out u45)
      have HW5 := Lib.hid (HW3.out.up u45)
      have HB5 := Lib.hid (HB3.out.up u45)
      have HM5 := Lib.hid (ownsMap_up HM3.out u45)
      have Bm5 := Lib.hid (hBm.up u5)
      have RP := Lib.hid rP
      obtain ⟨bm, hbm⟩ : ∃ bm, w3.heap.size = bm := ⟨_, rfl⟩
      obtain ⟨mm, hmm⟩ : ∃ mm, w2.heap.size = mm := ⟨_, rfl⟩
      rw [hbm] at Bm5
      rw [hmm] at Bm5 HM5
      rw [hmm, hbm]
      clear u4 u5 u45 U3 HW3 HB3 HM3 hBm rP hbm hmm
      go_wp2_with fail
      refine (those_c 134 #[] #[.pointer (some ⟨bm, 0, none⟩)] q d (allP s) (fun p => decide (0 < ps.count p)) w5 RP.out (by rw [allP_len]; omega) en_inList (fun x hx W uW => inList_c ps bm mm ps.length D hD W ((Bm5.out.up uW).cell 0) (ownsMap_up HM5.out uW) x (allP_mem hx).1 (by have := (allP_mem hx).2; omega))).mono ?_
      rintro e w6 ⟨q', d', rfl, -, -, rQ, u6⟩
      rw [← inPl_eq] at rQ ⊢
      have U6 := Lib.hid (Up.trans U5.out u6)
      have HW6 := Lib.hid (HW5.out.up u6)
      have HB6 := Lib.hid (HB5.out.up u6)
      have RQ := Lib.hid rQ
      have IN := Lib.hid (fun x (hx : x ∈ inPl s ps) => ((inPl_mem s ps x).1 hx).1)
      have HIL : Hid ((inPl s ps).length ≤ 8) := Lib.hid (by
        rw [inPl_eq]
        refine Nat.le_trans (List.length_filter_le _ _) ?_
        rw [allP_len]; exact hf8)
      have hil := HIL.out
      obtain ⟨qs, hqs⟩ : ∃ qs, inPl s ps = qs := ⟨_, rfl⟩
      rw [hqs] at RQ IN HPL hil
      rw [hqs]
      clear u6 U5 HW5 HB5 HM5 Bm5 RP rQ hqs HIL
      go_wp2_with fail
      refine (dryTogether_c bw s qs q' d' w6 HW6.out OK.out RQ.out (fun x hx => by have := IN.out x hx; omega) (by simp only [maxLen]; omega)).mono ?_
      rintro e w7 ⟨r, d'', rfl, c1, c2, rD, u7⟩
      have U7 := Lib.hid (Up.trans U6.out u7)
      have HB7 := Lib.hid (HB6.out.up u7)
      have RD := Lib.hid rD
      have NR := Lib.hid (span_near OK.out ps)
      have hln : (drySpans s ps).length ≤ dayN s + 1 := spansOf_len _ _ _
      have hdn : dayN s ≤ 1441 := by have := firstM_lt OK.out.table; unfold dayN; omega
      have HLV := Lib.hid (show longestV s ps = if errLong s ps = 0 then longV (drySpans s ps) else (0, 0) from rfl)
      rw [HPL.out] at RD c1
      rw [HPL.out]
      obtain ⟨ds, hds⟩ : ∃ ds, drySpans s ps = ds := ⟨_, rfl⟩
      rw [hds] at RD c1 NR hln HLV HE
      rw [hds]
      clear u7 U6 HB6 rD hds HPL HALL IN RQ HW6
      have q0 := HB7.out.cell 0
      have q1 := HB7.out.cell 1
      have fr := HB7.out.free
      have lB7 := HB7.out.lt
      simp only [List.getElem?_cons_zero, List.getElem?_cons_succ] at q0 q1
      by_cases h0 : ds = []
      · rw [if_pos h0] at HE
        have HV := Lib.hid (show longestV s ps = (0, 0) by rw [HLV.out, HE.out, if_neg (by decide)])
        subst h0
        go_wp2_with fail
        have h := (HB7.out.set 0 (.int .i64 0)).set 1 (.int .i64 0)
        have p0 := h.cell 0
        have p1 := h.cell 1
        simp only [List.set_cons_zero, List.set_cons_succ, List.getElem?_cons_zero, List.getElem?_cons_succ] at p0 p1
        refine bodyPost_ret (v := .tuple #[.agg #[.int .i64 0, .int .i64 0], .int .i64 6]) (by simp [results, Try.f65, go_sem, p0, p1]) rfl ⟨by rw [HV.out, HE.out], ?_⟩
        exact (U7.out.setCell (by simp only []; omega) _).setCell (by simp only []; omega) _
      · rw [if_neg h0] at HE
        have HV := Lib.hid (show longestV s ps = longV ds by rw [HLV.out, HE.out, if_pos rfl])
        have hpos : 0 < ds.length := List.length_pos_iff.2 h0
        obtain ⟨b, off, rfl, e0, e1⟩ := RD.out.pair 0 hpos
        have e0' : w7.cell? ⟨b, off, none⟩ = some (.int .i64 ds[0].1) := by simpa using e0
        have e1' : w7.cell? ⟨b, off + 1, none⟩ = some (.int .i64 ds[0].2) := by simpa using e1
        have HL := Lib.hid (show longV ds = ds.foldl longStep ds[0] by cases ds with | nil => exact absurd rfl h0 | cons a r => rfl)
        have N0 := Lib.hid (NR.out ds[0] (List.getElem_mem hpos))
        have hz0 : ((ds.length : Int) == 0) = false := by rw [beq_eq_false_iff_ne]; omega
        have hpi : (0 : Int) < ds.length := by omega
        clear e0 e1 h0 q0 q1 fr
        go_wp2_with fail
        have HB7' := Lib.hid (HB7.out.alloc (.cells #[.int .i64 ds[0].1, .int .i64 ds[0].2] 24))
        have Y7 : Hid (Blk (w7.alloc (.cells #[.int .i64 ds[0].1, .int .i64 ds[0].2] 24)) w7.heap.size [.int .i64 ds[0].1, .int .i64 ds[0].2] 24) := Lib.hid (Blk.new w7 _ _)
        have U7' : Hid (Up w (w7.alloc (.cells #[.int .i64 ds[0].1, .int .i64 ds[0].2] 24))) := Lib.hid (Up.trans U7.out (by (repeat (first | exact Below.refl _ _ | (with_reducible refine Below.drewN' ?_ _) | (with_reducible refine Below.drew ?_) | (with_reducible refine Below.setCell ?_ (by first | exact Nat.le_refl _ | omega | (with_reducible (repeat (first | refine sz_alloc ?_ | refine sz_setCell ?_ | refine sz_drew ?_ | refine sz_drewN ?_)); first | exact Nat.le_refl _ | omega) | (simp only [World.size_alloc, World.size_setCell, World.size_drew, size_drewN']; omega)) _) | (with_reducible refine Below.alloc ?_ (by first | exact Nat.le_refl _ | omega | (with_reducible (repeat (first | refine sz_alloc ?_ | refine sz_setCell ?_ | refine sz_drew ?_ | refine sz_drewN ?_)); first | exact Nat.le_refl _ | omega) | (simp only [World.size_alloc, World.size_setCell, World.size_drew, size_drewN']; omega)) _) | assumption))))
        have D7 : Hid (Up w7 (w7.alloc (.cells #[.int .i64 ds[0].1, .int .i64 ds[0].2] 24))) := Lib.hid (by (repeat (first | exact Below.refl _ _ | (with_reducible refine Below.drewN' ?_ _) | (with_reducible refine Below.drew ?_) | (with_reducible refine Below.setCell ?_ (by first | exact Nat.le_refl _ | omega | (with_reducible (repeat (first | refine sz_alloc ?_ | refine sz_setCell ?_ | refine sz_drew ?_ | refine sz_drewN ?_)); first | exact Nat.le_refl _ | omega) | (simp only [World.size_alloc, World.size_setCell, World.size_drew, size_drewN']; omega)) _) | (with_reducible refine Below.alloc ?_ (by first | exact Nat.le_refl _ | omega | (with_reducible (repeat (first | refine sz_alloc ?_ | refine sz_setCell ?_ | refine sz_drew ?_ | refine sz_drewN ?_)); first | exact Nat.le_refl _ | omega) | (simp only [World.size_alloc, World.size_setCell, World.size_drew, size_drewN']; omega)) _) | assumption)))
        have hw7 := U7.out.size
        obtain ⟨Y, hY⟩ : ∃ Y, w7.heap.size = Y := ⟨_, rfl⟩
        rw [hY] at Y7 lB7 hw7 ⊢
        generalize (w7.alloc (.cells #[.int .i64 ds[0].1, .int .i64 ds[0].2] 24)) = w8 at *
        clear HB7 U7 e0' e1'
        have HYY := Lib.hid hY
        clear hY
        go_loopw [45] (fun i wr => ∃ (k : Nat) (z : Int × Int), k ≤ ds.length ∧ i = .int .i64 k ∧ z = (ds.take k).foldl longStep ds[0] ∧ Near z ∧ Blk wr Y [.int .i64 z.1, .int .i64 z.2] 24 ∧ Blk wr (w.heap.size + 1) [.int .i64 0, .int .i64 0] 24 ∧ Up w wr ∧ Below Y w7 wr) (fun i _ => ds.length - (intOf i).toNat)
        case atStart => exact ⟨0, ds[0], Nat.zero_le _, rfl, rfl, N0.out, Y7.out, HB7'.out, U7'.out, by have h := D7.out; unfold Up at h; rw [HYY.out] at h; exact h⟩
        case round =>
          obtain ⟨k, z, hk, rfl, hz, hnz, hy, hb, hu, hd⟩ := hrel
          have HZ := Lib.hid hz
          have NZ := Lib.hid hnz
          have HY := Lib.hid hy
          have HBr := Lib.hid hb
          have HU := Lib.hid hu
          have HD := Lib.hid hd
          clear hz hnz hy hb hu hd
          by_cases hlt : k < ds.length
          · have k1 : (k : Int) < ds.length := by omega
            obtain ⟨b', off', hp, e0, e1⟩ := RD.out.pair k hlt
            simp only [Option.some.injEq, Addr.mk.injEq, and_true] at hp
            obtain ⟨rfl, rfl⟩ := hp
            have lbd := cell_lt e0
            have d0 := (HD.out.cell (p := ⟨b, off + k * 2, none⟩) (by have := HYY.out; simp only; omega)).trans e0
            have d1 := (HD.out.cell (p := ⟨b, off + k * 2 + 1, none⟩) (by have := HYY.out; simp only; omega)).trans e1
            have HT := Lib.hid (show (ds.take (k + 1)).foldl longStep ds[0] = longStep z ds[k] by rw [List.take_succ_eq_append_getElem hlt, List.foldl_append, ← HZ.out]; rfl)
            have NX := Lib.hid (NR.out ds[k] (List.getElem_mem hlt))
            clear e0 e1
            generalize ds[k] = x at *
            obtain ⟨x1, x2⟩ := x
            obtain ⟨z1, z2⟩ := z
            dsimp only at d0 d1 HY
            go_wp2_with fail
            refine Code.wp_world ?_
            intro w9 hw9
            have u9 : Up wr w9 := by rw [hw9]; (repeat (first | exact Below.refl _ _ | (with_reducible refine Below.drewN' ?_ _) | (with_reducible refine Below.drew ?_) | (with_reducible refine Below.setCell ?_ (by first | exact Nat.le_refl _ | omega | (with_reducible (repeat (first | refine sz_alloc ?_ | refine sz_setCell ?_ | refine sz_drew ?_ | refine sz_drewN ?_)); first | exact Nat.le_refl _ | omega) | (simp only [World.size_alloc, World.size_setCell, World.size_drew, size_drewN']; omega)) _) | (with_reducible refine Below.alloc ?_ (by first | exact Nat.le_refl _ | omega | (with_reducible (repeat (first | refine sz_alloc ?_ | refine sz_setCell ?_ | refine sz_drew ?_ | refine sz_drewN ?_)); first | exact Nat.le_refl _ | omega) | (simp only [World.size_alloc, World.size_setCell, World.size_drew, size_drewN']; omega)) _) | assumption))
            have hX : Blk w9 wr.heap.size [.int .i64 x1, .int .i64 x2] 24 := by rw [hw9]; exact Blk.new wr _ _
            clear hw9
            have hY9 := HY.out.up u9
            have x0 := hX.cell 0
            have x1' := hX.cell 1
            have y0 := hY9.cell 0
            have y1 := hY9.cell 1
            simp only [List.getElem?_cons_zero, List.getElem?_cons_succ] at x0 x1' y0 y1
            have neq : wr.heap.size ≠ Y := by have := HY.out.lt; omega
            clear d0 d1
            have XW := Lib.hid hX
            have YW := Lib.hid hY9
            have U9 := Lib.hid (Up.trans HU.out u9)
            have D9 := Lib.hid (Below.trans HD.out (u9.mono (by have := HY.out.lt; omega)))
            have B9 := Lib.hid (HBr.out.up u9)
            clear u9 hX hY9 HY HU HD HBr
            refine region_tail (fun W' => W'.cell? ⟨wr.heap.size, 0, none⟩ = some (.int .i64 x1) ∧ W'.cell? ⟨wr.heap.size, 1, none⟩ = some (.int .i64 x2) ∧ W'.cell? ⟨Y, 0, none⟩ = some (.int .i64 z1) ∧ W'.cell? ⟨Y, 1, none⟩ = some (.int .i64 z2)) 5 mixed (by kernel_rfl) ⟨x0, x1', y0, y1⟩ (fun hHeld => ?_)
            refine wpAnyG_take 0 49 (v := ?_) rfl rfl (by kernel_rfl) (fun _ _ _ h => h) (Or.inl ⟨by rfl, ?_⟩) (by assumption) ?_
            rotate_left
            · (intro w' hSw; (try dsimp only at hSw); go_split_ands; go_simp; try with_reducible rfl)
            try simp only [List.setIfInBounds_toArray, List.set_cons_zero, List.set_cons_succ]
            refine wpAnyG_take 2 51 (v := ?_) rfl rfl (by kernel_rfl) (fun _ _ _ h => h) (Or.inl ⟨by rfl, ?_⟩) (by assumption) ?_
            rotate_left
            · (intro w' hSw; (try dsimp only at hSw); go_split_ands; go_simp; try with_reducible rfl)
            try simp only [List.setIfInBounds_toArray, List.set_cons_zero, List.set_cons_succ]
            refine wpAnyG_do 1 rfl (by kernel_rfl) (fun K hK => ?_)
            rw [if_pos (by rfl)]
            go_simp
            refine (size_t NX.out _).mono ?_
            rintro e wa ⟨rfl, va⟩
            have va' : Up w9 wa := Up.trans ((Below.refl _ _).drew) va
            refine hK.out _ _ ⟨va'.cellAt x0, va'.cellAt x1', va'.cellAt y0, va'.cellAt y1⟩ (fun hHeld => ?_)
            clear hK K
            refine wpAnyG_do 3 rfl (by kernel_rfl) (fun K hK => ?_)
            rw [if_pos (by rfl)]
            go_simp
            refine (size_t NZ.out _).mono ?_
            rintro e wb ⟨rfl, vb⟩
            have vb' : Up w9 wb := Up.trans va' vb
            refine hK.out _ _ ⟨vb'.cellAt x0, vb'.cellAt x1', vb'.cellAt y0, vb'.cellAt y1⟩ (fun hHeld => ?_)
            clear hK K
            have x0b := vb'.cellAt x0
            have x1b := vb'.cellAt x1'
            have Yb := YW.out.up vb'
            have y0b := Yb.cell 0
            have y1b := Yb.cell 1
            have yfb := Yb.free
            have ylb := Yb.lt
            simp only [List.getElem?_cons_zero, List.getElem?_cons_succ] at y0b y1b
            have YB := Lib.hid Yb
            have UB := Lib.hid (Up.trans U9.out vb')
            have DB := Lib.hid (Below.trans D9.out (vb'.mono (by have := YW.out.lt; omega)))
            have BB := Lib.hid (B9.out.up vb')
            clear Yb va vb va' vb' x0 x1' y0 y1 YW U9 D9 B9 XW
            generalize hgx : siz (x1, x2) = gx at *
            generalize hgz : siz (z1, z2) = gz at *
            by_cases hcmp : gz < gx
            · have HS := Lib.hid (show longStep (z1, z2) (x1, x2) = (x1, x2) by unfold longStep; rw [hgx, hgz, if_pos hcmp])
              clear hgx hgz
              refine wpAnyG_take 4 53 (v := .bool true) rfl rfl (by kernel_rfl) (fun _ _ _ h => h) (Or.inl ⟨by rfl, ?_⟩) (by assumption) ?_
              · intro w' _
                go_simp
              try simp only [List.setIfInBounds_toArray, List.set_cons_zero, List.set_cons_succ]
              clear hHeld
              refine wpAnyG_tail (by kernel_rfl) ?_
              change wpList _ _ _ [] _ _
              go_wp2_with fail
              go_roundw
              case rel =>
                try ((repeat apply Exists.intro); refine ⟨?_, rfl⟩)
                refine ⟨k + 1, (x1, x2), by omega, by go_num, by rw [HT.out, HS.out], NX.out, ?_, ?_, ?_, ?_⟩
                · have h := (YB.out.set 0 (.int .i64 x1)).set 1 (.int .i64 x2)
                  simpa only [List.set_cons_zero, List.set_cons_succ] using h
                · exact (BB.out.other (by simp only []; omega) _).other (by simp only []; omega) _
                · exact (UB.out.setCell (by simp only []; omega) _).setCell (by simp only []; omega) _
                · exact (DB.out.setCell (by simp only []; omega) _).setCell (by simp only []; omega) _
              case measure => simp [intOf]; omega
            · have HS := Lib.hid (show longStep (z1, z2) (x1, x2) = (z1, z2) by unfold longStep; rw [hgx, hgz, if_neg hcmp])
              clear hgx hgz
              refine wpAnyG_take 4 53 (v := .bool false) rfl rfl (by kernel_rfl) (fun _ _ _ h => h) (Or.inl ⟨by rfl, ?_⟩) (by assumption) ?_
              · intro w' _
                go_simp
              try simp only [List.setIfInBounds_toArray, List.set_cons_zero, List.set_cons_succ]
              clear hHeld
              refine wpAnyG_tail (by kernel_rfl) ?_
              change wpList _ _ _ [] _ _
              go_wp2_with fail
              go_roundw
              case rel =>
                try ((repeat apply Exists.intro); refine ⟨?_, rfl⟩)
                exact ⟨k + 1, (z1, z2), by omega, by go_num, by rw [HT.out, HS.out], NZ.out, YB.out, BB.out, UB.out, DB.out⟩
              case measure => simp [intOf]; omega
          · obtain rfl : k = ds.length := by omega
            rw [List.take_length, ← HL.out] at HZ
            obtain ⟨z1, z2⟩ := z
            have y0 := HY.out.cell 0
            have y1 := HY.out.cell 1
            have r0 := HBr.out.cell 0
            have r1 := HBr.out.cell 1
            have rf := HBr.out.free
            have rl := HBr.out.lt
            simp only [List.getElem?_cons_zero, List.getElem?_cons_succ] at y0 y1 r0 r1
            go_wp2_with fail
            have h := (HBr.out.set 0 (.int .i64 z1)).set 1 (.int .i64 z2)
            have p0 := h.cell 0
            have p1 := h.cell 1
            simp only [List.set_cons_zero, List.set_cons_succ, List.getElem?_cons_zero, List.getElem?_cons_succ] at p0 p1
            refine bodyPost_ret (v := .tuple #[.agg #[.int .i64 z1, .int .i64 z2], .int .i64 0]) (by simp [results, Try.f65, go_sem, p0, p1]) rfl ⟨by rw [HV.out, HE.out, ← HZ.out], ?_⟩
            exact (HU.out.setCell (by simp only []; omega) _).setCell (by simp only []; omega) _
  · have hne : (chk s != 0) = true := by rw [bne_iff_ne]; exact hc
    have HE := Lib.hid (show errLong s ps = chk s by unfold errLong; rw [if_neg hc])
    have HV := Lib.hid (show longestV s ps = (0, 0) by unfold longestV; rw [HE.out, if_neg hc])
    clear hc
    unfold sdVal at *
    go_enter Try.func65, Try.ntmps65
    go_wp2_with fail
    refine Calls.world ?_
    intro w0 hw0
    have u0 : Up w w0 := by rw [hw0]; (repeat (first | exact Below.refl _ _ | (with_reducible refine Below.drewN' ?_ _) | (with_reducible refine Below.drew ?_) | (with_reducible refine Below.setCell ?_ (by first | exact Nat.le_refl _ | omega | (with_reducible (repeat (first | refine sz_alloc ?_ | refine sz_setCell ?_ | refine sz_drew ?_ | refine sz_drewN ?_)); first | exact Nat.le_refl _ | omega) | (simp only [World.size_alloc, World.size_setCell, World.size_drew, size_drewN']; omega)) _) | (with_reducible refine Below.alloc ?_ (by first | exact Nat.le_refl _ | omega | (with_reducible (repeat (first | refine sz_alloc ?_ | refine sz_setCell ?_ | refine sz_drew ?_ | refine sz_drewN ?_)); first | exact Nat.le_refl _ | omega) | (simp only [World.size_alloc, World.size_setCell, World.size_drew, size_drewN']; omega)) _) | assumption))
    have hB : Blk w0 (w.heap.size + 1) [.int .i64 0, .int .i64 0] 24 := by rw [hw0]; exact Blk.new' _ [.int .i64 0, .int .i64 0] _ (by simp)
    clear hw0
    refine (HC.out _ u0).mono ?_
    rintro e w1 ⟨p, rfl, u1, -⟩
    have U1 := Lib.hid (Up.trans u0 u1)
    have hB1 := hB.up u1
    have q0 := hB1.cell 0
    have q1 := hB1.cell 1
    have fr := hB1.free
    have lB := hB1.lt
    simp only [List.getElem?_cons_zero, List.getElem?_cons_succ] at q0 q1
    have HB := Lib.hid hB1
    clear u1 u0 HC hB hB1
    go_wp2_with fail
    have h := (HB.out.set 0 (.int .i64 0)).set 1 (.int .i64 0)
    have p0 := h.cell 0
    have p1 := h.cell 1
    simp only [List.set_cons_zero, List.set_cons_succ, List.getElem?_cons_zero, List.getElem?_cons_succ] at p0 p1
    refine bodyPost_ret (v := .tuple #[.agg #[.int .i64 0, .int .i64 0], .int .i64 (chk s)]) (by simp [results, Try.f65, go_sem, p0, p1]) rfl ⟨by rw [HV.out, HE.out], ?_⟩
    exact (U1.out.setCell (by simp only []; omega) _).setCell (by simp only []; omega) _
end
end Go.Proofs.Ytcljkkojeleakaa
/- Plain facts: sands whose day runs backwards. -/
namespace Go.Proofs.Ytcljkkojeleakaa
section
open Go.RowKit

def mirT (S : Int) (l : List (Int × Int)) : List (Int × Int) := l.reverse.map fun x => (S - x.1, x.2)
def mirror (s : Sd) : Sd := { s with table := mirT (firstM s.table + lastM s.table) s.table }
section
variable {S : Int} {l : List (Int × Int)}
theorem mirT_len : (mirT S l).length = l.length := by simp [mirT]
theorem mirT_get (i : Nat) (h : i < (mirT S l).length) : (mirT S l)[i] = (S - (l[l.length - 1 - i]'(by rw [mirT_len] at h; omega)).1, (l[l.length - 1 - i]'(by rw [mirT_len] at h; omega)).2) := by
  simp only [mirT, List.getElem_map, List.getElem_reverse]
theorem first_get (h : 0 < l.length) : firstM l = l[0].1 := by simp [firstM, List.getElem?_eq_getElem h]
theorem last_get (h : 0 < l.length) : lastM l = (l[l.length - 1]'(by omega)).1 := by simp [lastM, List.getElem?_eq_getElem (show l.length - 1 < l.length by omega)]
theorem tab_le (ok : okTable l) (i j : Nat) (hj : j < l.length) (hij : i ≤ j) : (l[i]'(by omega)).1 ≤ l[j].1 := by
  rcases Nat.lt_or_eq_of_le hij with h | rfl
  · have := tab_lt ok i j hj h; omega
  · exact Int.le_refl _
theorem mirT_ok (ok : okTable l) (hS : S = firstM l + lastM l) : okTable (mirT S l) := by
  have h2 := ok.2.2.1
  have e1 := first_get (l := l) (by omega)
  have e2 := last_get (l := l) (by omega)
  refine ⟨fun x hx => ?_, fun i hi => ?_, by rw [mirT_len]; exact ok.2.2.1, by rw [mirT_len]; exact ok.2.2.2⟩
  · obtain ⟨i, hi, rfl⟩ := List.getElem_of_mem hx
    rw [mirT_len] at hi
    rw [mirT_get _ (by rw [mirT_len]; exact hi)]
    have b := ok.1 _ (List.getElem_mem (show l.length - 1 - i < l.length by omega))
    have c1 := tab_le ok 0 (l.length - 1 - i) (by omega) (by omega)
    have c2 := tab_le ok (l.length - 1 - i) (l.length - 1) (by omega) (by omega)
    have d1 := (ok.1 _ (List.getElem_mem (show 0 < l.length by omega)))
    have d2 := (ok.1 _ (List.getElem_mem (show l.length - 1 < l.length by omega)))
    refine ⟨?_, ?_, b.2.2.1, b.2.2.2⟩ <;> dsimp only <;> omega
  · rw [mirT_len] at hi
    rw [mirT_get _ (by rw [mirT_len]; omega), mirT_get _ (by rw [mirT_len]; omega)]
    dsimp only
    have := tab_lt ok (l.length - 1 - (i + 1)) (l.length - 1 - i) (by omega) (by omega)
    omega
theorem mirT_first (ok : okTable l) (hS : S = firstM l + lastM l) : firstM (mirT S l) = firstM l := by
  have h2 := ok.2.2.1
  have e2 := last_get (l := l) (by omega)
  rw [first_get (by rw [mirT_len]; omega), mirT_get]
  dsimp only
  simp only [Nat.sub_zero]
  omega
theorem mirT_last (ok : okTable l) (hS : S = firstM l + lastM l) : lastM (mirT S l) = lastM l := by
  have h2 := ok.2.2.1
  have e1 := first_get (l := l) (by omega)
  rw [last_get (by rw [mirT_len]; omega), mirT_get]
  dsimp only
  simp only [mirT_len, Nat.sub_self]
  omega
theorem onL_mir (a b : Int × Int) (S m : Int) : onL (S - b.1, b.2) (S - a.1, a.2) (S - m) = onL a b m := by
  unfold onL
  dsimp only
  rw [show S - a.1 - (S - b.1) = b.1 - a.1 by omega, show S - m - (S - b.1) = b.1 - m by omega]
  congr 1
  simp only [Int.sub_mul, Int.mul_sub]
  omega
/-- each minute has the height of the minute that it was -/
theorem mirT_hgt (ok : okTable l) (hS : S = firstM l + lastM l) (m : Int) (h0 : firstM l ≤ m) (h1 : m ≤ lastM l) : hgt (mirT S l) (S - m) = hgt l m := by
  have h2 := ok.2.2.1
  have e1 := first_get (l := l) (by omega)
  have e2 := last_get (l := l) (by omega)
  have okm := mirT_ok ok hS
  by_cases hk : ∃ i, ∃ h : i < l.length, l[i].1 = m
  · obtain ⟨i, hi, rfl⟩ := hk
    rw [hgt_knot ok i hi]
    have k := hgt_knot okm (l.length - 1 - i) (by rw [mirT_len]; omega)
    rw [mirT_get] at k
    simp only [show l.length - 1 - (l.length - 1 - i) = i by omega] at k
    exact k
  · -- the first knot behind the minute
    have key : ∀ n (hn : n < l.length), (∀ j (hj : j < l.length), j ≤ n → l[j].1 < m) ∨ ∃ k, ∃ h : k + 1 < l.length, (∀ j (hj : j < l.length), j ≤ k → l[j].1 < m) ∧ m < l[k + 1].1 := by
      intro n
      induction n with
      | zero =>
        intro hn
        left
        intro j hj hj0
        obtain rfl : j = 0 := by omega
        have : l[0].1 ≠ m := fun e => hk ⟨0, hn, e⟩
        omega
      | succ n ih =>
        intro hn
        rcases ih (by omega) with h | h
        · by_cases hc : l[n + 1].1 < m
          · left
            intro j hj hjn
            by_cases e : j = n + 1
            · subst e; exact hc
            · exact h j hj (by omega)
          · have : l[n + 1].1 ≠ m := fun e => hk ⟨n + 1, hn, e⟩
            exact .inr ⟨n, hn, h, by omega⟩
        · exact .inr h
    rcases key (l.length - 1) (by omega) with h | ⟨k, hkl, hb, ha⟩
    · have := h (l.length - 1) (by omega) (Nat.le_refl _)
      omega
    · rw [hgt_seg l m k hkl (fun j hj _ hjk => hb j hj hjk) (by omega)]
      have q := hgt_seg (mirT S l) (S - m) (l.length - 2 - k) (by rw [mirT_len]; omega) (fun j hj j0 jk => by
        rw [mirT_len] at hj
        rw [mirT_get _ (by rw [mirT_len]; exact hj)]
        dsimp only
        have := tab_le ok (k + 1) (l.length - 1 - j) (by omega) (by omega)
        omega) (by
        rw [mirT_get _ (by rw [mirT_len]; omega)]
        dsimp only
        have := hb (l.length - 1 - (l.length - 2 - k + 1)) (by omega) (by omega)
        omega)
      rw [q, mirT_get _ (by rw [mirT_len]; omega), mirT_get _ (by rw [mirT_len]; omega)]
      simp only [show l.length - 1 - (l.length - 2 - k) = k + 1 by omega, show l.length - 1 - (l.length - 2 - k + 1) = k by omega]
      exact onL_mir l[k] l[k + 1] S m
end
section
variable {s : Sd}
theorem mirror_ok (ok : Ok s) : Ok (mirror s) := by
  have h := mirT_ok (S := firstM s.table + lastM s.table) ok.table rfl
  obtain ⟨-, f0, f1, sl, lo0, hi1, lohi, fl, hs, good, two⟩ := ok
  exact ⟨h, f0, f1, sl, lo0, hi1, lohi, fl, hs, good, two⟩
theorem mirror_first (ok : Ok s) : firstM (mirror s).table = firstM s.table := mirT_first ok.table rfl
theorem mirror_last (ok : Ok s) : lastM (mirror s).table = lastM s.table := mirT_last ok.table rfl
theorem mirror_day (ok : Ok s) (m : Int) : inDay (mirror s) (firstM s.table + lastM s.table - m) = inDay s m := by
  unfold inDay
  rw [mirror_first ok, mirror_last ok, Bool.eq_iff_iff, inB_true, inB_true]
  omega
theorem mirror_hgt (ok : Ok s) {m : Int} (hm : inDay s m = true) : hgt (mirror s).table (firstM s.table + lastM s.table - m) = hgt s.table m := by
  obtain ⟨h0, h1⟩ := inB_true.1 hm
  exact mirT_hgt ok.table rfl m h0 h1
theorem mirror_st (ok : Ok s) {m : Int} (hm : inDay s m = true) (p : Nat) : st (mirror s) (firstM s.table + lastM s.table - m) p = st s m p := by
  have e : gateOf (mirror s) p = gateOf s p := by unfold gateOf; rw [gts_eq (s := mirror s) (t := s) rfl rfl]
  unfold st
  rw [e, mirror_hgt ok hm]
  rfl
theorem mirror_allV (ok : Ok s) {m : Int} (hm : inDay s m = true) : allV (mirror s) (firstM s.table + lastM s.table - m) = allV s m := by
  unfold allV
  rw [errAt_in (mirror_ok ok) (by rw [mirror_day ok]; exact hm), errAt_in ok hm, if_pos rfl, if_pos rfl]
  unfold allS
  show (List.range s.floors.length).map _ = _
  exact List.map_congr_left (fun p _ => mirror_st ok hm p)
theorem mirror_long (ok : Ok s) (ps : List Int) (h : ps.all (isPl s) = true) : errLong (mirror s) ps = errLong s ps ∧ (longestV (mirror s) ps).2 - (longestV (mirror s) ps).1 = (longestV s ps).2 - (longestV s ps).1 := by
  have hd : dayN (mirror s) = dayN s := by unfold dayN; rw [mirror_first ok, mirror_last ok]
  obtain ⟨f0, f1, f2⟩ := firstM_lt ok.table
  have hn : ((dayN s : Nat) : Int) = lastM s.table - firstM s.table + 1 := by unfold dayN; omega
  have k := mir_long (f := dryB s ps) (g := dryB (mirror s) ps) (a := firstM s.table) (n := dayN s) (fun m m0 m1 => by
    rw [show 2 * firstM s.table + (dayN s : Int) - 1 - m = firstM s.table + lastM s.table - m by omega]
    unfold dryB fitB
    have hm : inDay s m = true := inB_true.2 ⟨m0, by omega⟩
    simp only [mirror_st ok hm])
  have e1 : drySpans (mirror s) ps = spansOf (dryB (mirror s) ps) (firstM s.table) (dayN s) := by unfold drySpans; rw [mirror_first ok, hd]
  have e2 : drySpans s ps = spansOf (dryB s ps) (firstM s.table) (dayN s) := rfl
  have h' : ps.all (isPl (mirror s)) = true := h
  have e3 : errLong (mirror s) ps = errLong s ps := by
    unfold errLong
    rw [chk_zero (mirror_ok ok), chk_zero ok, h, h', e1, e2]
    simp only [if_pos, k.1]
  refine ⟨e3, ?_⟩
  unfold longestV
  rw [e3, e1, e2]
  split
  · exact k.2
  · rfl
end
end
end Go.Proofs.Ytcljkkojeleakaa
/- The library's Reverse, of a row of waters that is one's own; a row that is changed pair by pair. -/
namespace Go.Proofs.Ytcljkkojeleakaa
open Go.RowKit Go.Shelf

theorem flat_put : ∀ (l : List (Int × Int)) (k : Nat) (v : Int × Int) (_ : k < l.length), ((pairs l).flatten.set (k * 2) (.int .i64 v.1)).set (k * 2 + 1) (.int .i64 v.2) = (pairs (l.set k v)).flatten
  | a :: r, 0, v, _ => rfl
  | a :: r, k + 1, v, h => by
    have hk : k < r.length := by simpa using h
    have ih := flat_put r k v hk
    show ((.int .i64 a.1 :: .int .i64 a.2 :: (pairs r).flatten).set ((k + 1) * 2) (.int .i64 v.1)).set ((k + 1) * 2 + 1) (.int .i64 v.2) = .int .i64 a.1 :: .int .i64 a.2 :: (pairs (r.set k v)).flatten
    rw [show (k + 1) * 2 + 1 = k * 2 + 1 + 1 + 1 by omega, show (k + 1) * 2 = k * 2 + 1 + 1 by omega, List.set_cons_succ, List.set_cons_succ, List.set_cons_succ, List.set_cons_succ, ih]
theorem flat_set1 : ∀ (l : List (Int × Int)) (k : Nat) (v : Int) (h : k < l.length), (pairs l).flatten.set (k * 2) (.int .i64 v) = (pairs (l.set k (v, l[k].2))).flatten
  | a :: r, 0, v, _ => rfl
  | a :: r, k + 1, v, h => by
    have hk : k < r.length := by simpa using h
    have ih := flat_set1 r k v hk
    show (.int .i64 a.1 :: .int .i64 a.2 :: (pairs r).flatten).set ((k + 1) * 2) (.int .i64 v) = .int .i64 a.1 :: .int .i64 a.2 :: (pairs (r.set k (v, r[k].2))).flatten
    rw [show (k + 1) * 2 = k * 2 + 1 + 1 by omega, List.set_cons_succ, List.set_cons_succ, ih]
section
variable {w : World} {g k : Nat} {l : List (Int × Int)}
theorem PairBlk.put (h : PairBlk w g l) (hk : k < l.length) (v : Int × Int) : PairBlk ((w.setCell ⟨g, k * 2, none⟩ (.int .i64 v.1)).setCell ⟨g, k * 2 + 1, none⟩ (.int .i64 v.2)) g (l.set k v) := by
  obtain ⟨cur, hb, ht⟩ := h
  refine ⟨_, (hb.set _ _).set _ _, ?_⟩
  rw [List.length_set, List.take_set, List.take_set, ht, flat_put l k v hk]
theorem PairBlk.put1 (h : PairBlk w g l) (hk : k < l.length) (v : Int) : PairBlk (w.setCell ⟨g, k * 2, none⟩ (.int .i64 v)) g (l.set k (v, l[k].2)) := by
  obtain ⟨cur, hb, ht⟩ := h
  refine ⟨_, hb.set _ _, ?_⟩
  rw [List.length_set, List.take_set, ht, flat_set1 l k v hk]
theorem PairBlk.drew (h : PairBlk w g l) : PairBlk w.drew g l := by obtain ⟨cur, hb, ht⟩ := h; exact ⟨cur, hb, ht⟩
theorem PairBlk.up {w' : World} (h : PairBlk w g l) (u : Up w w') : PairBlk w' g l := by obtain ⟨cur, hb, ht⟩ := h; exact ⟨cur, hb.up u, ht⟩
end
/-- the first k and the last k exchanged -/
def revTo (l : List (Int × Int)) (k : Nat) : List (Int × Int) := (List.range l.length).map fun x => if x < k ∨ l.length - k ≤ x then l.getD (l.length - 1 - x) (0, 0) else l.getD x (0, 0)
theorem revTo_len (l : List (Int × Int)) (k : Nat) : (revTo l k).length = l.length := by simp [revTo]
theorem revTo_get (l : List (Int × Int)) (k x : Nat) (h : x < l.length) : (revTo l k)[x]'(by rw [revTo_len]; exact h) = if x < k ∨ l.length - k ≤ x then l[l.length - 1 - x]'(by omega) else l[x] := by
  simp only [revTo, List.getElem_map, List.getElem_range, List.getD, List.getElem?_eq_getElem h, List.getElem?_eq_getElem (show l.length - 1 - x < l.length by omega), Option.getD_some]
theorem revTo_zero (l : List (Int × Int)) : revTo l 0 = l := by
  refine List.ext_getElem (by rw [revTo_len]) (fun i h1 h2 => ?_)
  rw [revTo_get l 0 i h2, if_neg (by omega)]
theorem revTo_end (l : List (Int × Int)) (k : Nat) (h : l.length ≤ 2 * k + 1) : revTo l k = l.reverse := by
  refine List.ext_getElem (by rw [revTo_len, List.length_reverse]) (fun i h1 h2 => ?_)
  rw [revTo_len] at h1
  rw [revTo_get l k i h1, List.getElem_reverse]
  split
  · rfl
  · have : l.length - 1 - i = i := by omega
    simp only [this]
theorem revTo_step (l : List (Int × Int)) (k : Nat) (h : 2 * k + 1 < l.length) : ((revTo l k).set k (l[l.length - 1 - k]'(by omega))).set (l.length - 1 - k) (l[k]'(by omega)) = revTo l (k + 1) := by
  refine List.ext_getElem (by rw [List.length_set, List.length_set, revTo_len, revTo_len]) (fun i h1 h2 => ?_)
  rw [revTo_len] at h2
  rw [List.getElem_set, revTo_get l (k + 1) i h2]
  by_cases e1 : l.length - 1 - k = i
  · rw [if_pos e1, if_pos (by omega)]
    have : l.length - 1 - i = k := by omega
    simp only [this]
  · rw [if_neg e1, List.getElem_set]
    by_cases e2 : k = i
    · subst e2
      rw [if_pos rfl, if_pos (by omega)]
    · rw [if_neg e2, revTo_get l k i h2]
      by_cases e3 : i < k ∨ l.length - k ≤ i
      · rw [if_pos e3, if_pos (by omega)]
      · rw [if_neg e3, if_neg (by omega)]

set_option maxRecDepth 100000 in
set_option maxHeartbeats 1000000 in
theorem reverse_c (g c : Nat) (l : List (Int × Int)) (w : World) (h : PairBlk w g l) (hl : l.length ≤ 1000) :
    Calls Try.prog 74 #[.slice (some ⟨g, 0, none⟩) l.length c] w fun e w' => e = .returned (.tuple #[]) ∧ PairBlk w' g l.reverse ∧ Far g w.heap.size w w' := by
  have s1 : IntKind.i64.wrap ((l.length : Int) - 1) = (l.length : Int) - 1 := IntWalk.i64_in _ (by omega)
  have HP := Lib.hid h
  clear h
  go_enter Try.func74, Try.ntmps74
  go_wp2_with fail
  go_loopw [2, 3] (fun i j wr => ∃ k : Nat, 2 * k ≤ l.length + 1 ∧ i = .int .i64 k ∧ j = .int .i64 ((l.length : Int) - 1 - k) ∧ PairBlk wr g (revTo l k) ∧ Far g w.heap.size w wr) (fun i _ _ => l.length - (intOf i).toNat)
  case atStart => exact ⟨0, by omega, rfl, by simp, by rw [revTo_zero]; exact HP.out, Far.refl _ _ _⟩
  case round =>
    obtain ⟨k, hk, rfl, rfl, hp, hf⟩ := hrel
    by_cases hlt : 2 * k + 1 < l.length
    · have q1 : (k : Int) < (l.length : Int) - 1 - k := by omega
      obtain ⟨j, hj⟩ : ∃ j : Nat, l.length - 1 - k = j := ⟨_, rfl⟩
      have hj' : (l.length : Int) - 1 - k = j := by omega
      have hjl : j < l.length := by omega
      have hkj : k < j := by omega
      obtain ⟨a0, a1⟩ := hp.cells (k := k) (by rw [revTo_len]; omega)
      obtain ⟨b0, b1⟩ := hp.cells (k := j) (by rw [revTo_len]; omega)
      rw [revTo_get l k k (by omega), if_neg (by omega)] at a0 a1
      rw [revTo_get l k j hjl, if_neg (by omega)] at b0 b1
      have hkl : k < l.length := by omega
      have hst := revTo_step l k hlt
      simp only [hj] at hst
      obtain ⟨⟨xa, xb⟩, hx⟩ : ∃ x, l[k] = x := ⟨_, rfl⟩
      obtain ⟨⟨ya, yb⟩, hy⟩ : ∃ y, l[j] = y := ⟨_, rfl⟩
      rw [hx] at a0 a1 hst
      rw [hy] at b0 b1 hst
      dsimp only at a0 a1 b0 b1
      have yf := hp.free
      have yl := hp.lt
      have HPr := Lib.hid hp
      have HF := Lib.hid hf
      have HST := Lib.hid hst
      have HJ := Lib.hid hj'
      rw [hj'] at q1
      rw [hj']
      have k0 : (k : Int) < l.length := by omega
      have k1 : (j : Int) < l.length := by omega
      clear hp hf hj' hx hy hst hj
      go_wp2_with fail
      go_region
      go_wp2_with fail
      have ej : (j : Int) - 1 = (l.length : Int) - 1 - ((k + 1 : Nat) : Int) := by have := HJ.out; omega
      refine ⟨⟨k + 1, by omega, by go_num, by rw [ej], ?_, ((((HF.out.setIn _ _).setIn _ _).setIn _ _).setIn _ _).drew⟩, by simp [intOf]; omega⟩
      rw [← HST.out]
      exact ((HPr.out.put (k := k) (by rw [revTo_len]; exact hkl) (ya, yb)).put (k := j) (by rw [List.length_set, revTo_len]; exact hjl) (xa, xb)).drew
    · have q1 : ¬ (k : Int) < (l.length : Int) - 1 - k := by omega
      rw [revTo_end l k (by omega)] at hp
      go_wp2_with fail
      go_end0
      exact ⟨rfl, hp, hf⟩
end Go.Proofs.Ytcljkkojeleakaa
/- The law TideMirrored returns true, whatever numbers are passed in. -/
namespace Go.Proofs.Ytcljkkojeleakaa
open Go.RowKit Go.Shelf

/-- the first k changed by f -/
def partF (f : Int × Int → Int × Int) (l : List (Int × Int)) (k : Nat) : List (Int × Int) := (l.take k).map f ++ l.drop k
section
variable {f : Int × Int → Int × Int} {l : List (Int × Int)} {k : Nat}
theorem partF_len : (partF f l k).length = l.length := by
  unfold partF
  rw [List.length_append, List.length_map, List.length_take, List.length_drop]
  omega
theorem partF_at (h : k < l.length) : (partF f l k)[k]'(by rw [partF_len]; exact h) = l[k] := by
  simp only [partF]
  rw [List.getElem_append_right (by rw [List.length_map, List.length_take]; omega)]
  simp only [List.length_map, List.length_take, List.getElem_drop]
  congr 1
  omega
theorem partF_step (h : k < l.length) : (partF f l k).set k (f l[k]) = partF f l (k + 1) := by
  unfold partF
  have e : ((l.take k).map f).length = k := by rw [List.length_map, List.length_take]; omega
  rw [List.set_append_right _ _ (by omega), e, Nat.sub_self, List.drop_eq_getElem_cons h, List.set_cons_zero]
  rw [List.take_succ_eq_append_getElem h, List.map_append, List.append_assoc]
  rfl
theorem partF_zero : partF f l 0 = l := by simp [partF]
theorem partF_all : partF f l l.length = l.map f := by simp [partF]
end
/-- two sands in two variables, with their lists -/
structure Pr (W : World) (M N : Nat) (s t : Sd) (qT qF qS rT rF rS : Option Addr) (dT dF dS eT eF eS : Nat) : Prop where
  ls : Lists W s qT qF qS dT dF dS
  lt : Lists W t rT rF rS eT eF eS
  bm : Blk W M (sdCells s qT qF qS dT dF dS) 28
  bn : Blk W N (sdCells t rT rF rS eT eF eS) 28
theorem Pr.up {W W' : World} {M N : Nat} {s t : Sd} {qT qF qS rT rF rS : Option Addr} {dT dF dS eT eF eS : Nat} (h : Pr W M N s t qT qF qS rT rF rS dT dF dS eT eF eS) (u : Up W W') : Pr W' M N s t qT qF qS rT rF rS dT dF dS eT eF eS :=
  ⟨h.ls.up u, h.lt.up u, h.bm.up u, h.bn.up u⟩

theorem sHeight_c {s : Sd} {y : Int} {pT pF pS : Option Addr} {cT cF cS : Nat} {w : World} (ok : Ok s) (h : inDay s y = true) (hl : Lists w s pT pF pS cT cF cS) :
    Calls Try.prog 25 #[sdVal s pT pF pS cT cF cS, .int .i64 y] w fun e w' => e = .returned (.tuple #[.int .i64 (hgt s.table y), .int .i64 0]) ∧ Up w w' := by
  have := Height_c s y w hl
  unfold heightV at this
  rwa [errAt_in ok h, if_pos rfl] at this
theorem Longest_n {s : Sd} {ps : List Int} {n : Nat} (hn : ps.length = n) {pp : Option Addr} {c : Nat} {pT pF pS : Option Addr} {cT cF cS : Nat} {w : World} (hl : Lists w s pT pF pS cT cF cS) (hr : Row w pp 1 (ints ps)) (h9 : n ≤ 10000) :
    Calls Try.prog 65 #[sdVal s pT pF pS cT cF cS, .slice pp n c] w fun e w' => e = .returned (.tuple #[.agg #[.int .i64 (longestV s ps).1, .int .i64 (longestV s ps).2], .int .i64 (errLong s ps)]) ∧ Up w w' := by
  subst hn
  exact Longest_c s ps pp c w hl hr h9
theorem long_rng {s : Sd} (ok : Ok s) (ps : List Int) : Near (longestV s ps) := by
  unfold longestV
  split
  · by_cases h : drySpans s ps = []
    · rw [h]; exact ⟨by simp [longV], by simp [longV], by simp [longV], by simp [longV]⟩
    · exact span_near ok ps _ (long_spec h).1
  · exact ⟨by simp, by simp, by simp, by simp⟩
section
variable {p : Option Addr} {c : Nat}
set_option maxRecDepth 100000 in
set_option maxHeartbeats 3000000 in
theorem mirroredLaw_c (l : List Int) (w : World) (hr : Row w p 1 (bytes l)) (hl : l.length ≤ 140737488355328) :
    Calls Try.prog 15 #[.slice p l.length c] w fun e w' => e = .returned (.bool true) ∧ Up w w' := by
  have HP := Lib.hid (fun W (u : Up w W) => pile_c p c l W (hr.up u))
  clear hr
  go_enter Try.func15, Try.ntmps15
  go_wp2_with fail
  refine (HP.out _ (by (repeat (first | exact Below.refl _ _ | (with_reducible refine Below.drewN' ?_ _) | (with_reducible refine Below.drew ?_) | (with_reducible refine Below.setCell ?_ (by first | exact Nat.le_refl _ | omega | (with_reducible (repeat (first | refine sz_alloc ?_ | refine sz_setCell ?_ | refine sz_drew ?_ | refine sz_drewN ?_)); first | exact Nat.le_refl _ | omega) | (simp only [World.size_alloc, World.size_setCell, World.size_drew, size_drewN']; omega)) _) | (with_reducible refine Below.alloc ?_ (by first | exact Nat.le_refl _ | omega | (with_reducible (repeat (first | refine sz_alloc ?_ | refine sz_setCell ?_ | refine sz_drew ?_ | refine sz_drewN ?_)); first | exact Nat.le_refl _ | omega) | (simp only [World.size_alloc, World.size_setCell, World.size_drew, size_drewN']; omega)) _) | assumption)))).mono ?_
  rintro e w1 ⟨rfl, g1, u1, s1, ap⟩
  have U1 := Lib.hid u1
  have G1 := Lib.hid g1
  have AP := Lib.hid ap
  clear g1 u1 ap HP
  go_wp2_with fail
  refine (made_c (p := p) (c := c) (l := l) w.heap.size 6 9 w1 G1.out (AP.out.mono (by omega)) hl (by decide) (by decide) (by decide) (by decide)).mono ?_
  rintro e w2 ⟨s, qT, qF, qS, dT, dF, dS, rfl, mk, l2, -, -, f2⟩
  have L2 := Lib.hid l2
  have U2 : Hid (Up w w2) := Below.trans U1.out (f2.below (Nat.le_refl _) (by omega))
  have OK := Lib.hid (mk.ok (by decide) (by decide))
  have m2 := mk.t2
  have m4 := mk.t4
  have mf1 := mk.f1
  have mf6 := mk.fn
  have ms9 := mk.sn
  obtain ⟨gF, oF, rfl, -⟩ := l2.rf.int 0 (by omega)
  clear mk l2 f2 G1 AP U1 s1
  unfold sdVal
  go_wp2_with fail
  have B2 : Hid (Blk (w2.alloc (.cells #[.slice qT s.table.length dT, .int .i64 s.lo, .int .i64 s.hi, .slice (some ⟨gF, oF, none⟩) s.floors.length dF, .slice qS s.sills.length dS] 28)) w2.heap.size (sdCells s qT (some ⟨gF, oF, none⟩) qS dT dF dS) 28) := Blk.new w2 (sdCells s qT (some ⟨gF, oF, none⟩) qS dT dF dS) 28
  have L3 : Hid (Lists (w2.alloc (.cells #[.slice qT s.table.length dT, .int .i64 s.lo, .int .i64 s.hi, .slice (some ⟨gF, oF, none⟩) s.floors.length dF, .slice qS s.sills.length dS] 28)) s qT (some ⟨gF, oF, none⟩) qS dT dF dS) := L2.out.up (by (repeat (first | exact Below.refl _ _ | (with_reducible refine Below.drewN' ?_ _) | (with_reducible refine Below.drew ?_) | (with_reducible refine Below.setCell ?_ (by first | exact Nat.le_refl _ | omega | (with_reducible (repeat (first | refine sz_alloc ?_ | refine sz_setCell ?_ | refine sz_drew ?_ | refine sz_drewN ?_)); first | exact Nat.le_refl _ | omega) | (simp only [World.size_alloc, World.size_setCell, World.size_drew, size_drewN']; omega)) _) | (with_reducible refine Below.alloc ?_ (by first | exact Nat.le_refl _ | omega | (with_reducible (repeat (first | refine sz_alloc ?_ | refine sz_setCell ?_ | refine sz_drew ?_ | refine sz_drewN ?_)); first | exact Nat.le_refl _ | omega) | (simp only [World.size_alloc, World.size_setCell, World.size_drew, size_drewN']; omega)) _) | assumption)))
  have U3 : Hid (Up w (w2.alloc (.cells #[.slice qT s.table.length dT, .int .i64 s.lo, .int .i64 s.hi, .slice (some ⟨gF, oF, none⟩) s.floors.length dF, .slice qS s.sills.length dS] 28))) := Up.trans U2.out (by (repeat (first | exact Below.refl _ _ | (with_reducible refine Below.drewN' ?_ _) | (with_reducible refine Below.drew ?_) | (with_reducible refine Below.setCell ?_ (by first | exact Nat.le_refl _ | omega | (with_reducible (repeat (first | refine sz_alloc ?_ | refine sz_setCell ?_ | refine sz_drew ?_ | refine sz_drewN ?_)); first | exact Nat.le_refl _ | omega) | (simp only [World.size_alloc, World.size_setCell, World.size_drew, size_drewN']; omega)) _) | (with_reducible refine Below.alloc ?_ (by first | exact Nat.le_refl _ | omega | (with_reducible (repeat (first | refine sz_alloc ?_ | refine sz_setCell ?_ | refine sz_drew ?_ | refine sz_drewN ?_)); first | exact Nat.le_refl _ | omega) | (simp only [World.size_alloc, World.size_setCell, World.size_drew, size_drewN']; omega)) _) | assumption)))
  have M3 : Hid (w.heap.size ≤ w2.heap.size) := Lib.hid U2.out.size
  generalize (w2.alloc (.cells #[.slice qT s.table.length dT, .int .i64 s.lo, .int .i64 s.hi, .slice (some ⟨gF, oF, none⟩) s.floors.length dF, .slice qS s.sills.length dS] 28)) = w3 at *
  generalize w2.heap.size = M at *
  clear L2 U2 w2
  refine (own_o s w3 L3.out (by omega) (by omega) (by omega)).mono ?_
  rintro e w4 ⟨rT, rF, rS, eT, eF, eS, rfl, l4, u4, -, mn⟩
  have L4 := Lib.hid l4
  have U4 := Lib.hid u4
  have MN := Lib.hid mn
  have ltM3 := B2.out.lt
  have b4 := B2.out.up u4
  have B4 := Lib.hid b4
  clear l4 u4 mn b4 B2
  unfold sdVal
  obtain ⟨g, rfl, hg, pb⟩ := PairBlk.of MN.out.ot (by omega)
  have PB := Lib.hid pb
  have ltg := pb.lt
  clear pb
  go_wp2_with fail
  have BN : Hid (Blk (w4.alloc (.cells #[.slice (some ⟨g, 0, none⟩) s.table.length eT, .int .i64 s.lo, .int .i64 s.hi, .slice rF s.floors.length eF, .slice rS s.sills.length eS] 28)) w4.heap.size [.slice (some ⟨g, 0, none⟩) s.table.length eT, .int .i64 s.lo, .int .i64 s.hi, .slice rF s.floors.length eF, .slice rS s.sills.length eS] 28) := Lib.hid (Blk.new w4 _ _)
  have U5 : Hid (Up w4 (w4.alloc (.cells #[.slice (some ⟨g, 0, none⟩) s.table.length eT, .int .i64 s.lo, .int .i64 s.hi, .slice rF s.floors.length eF, .slice rS s.sills.length eS] 28))) := Lib.hid (by (repeat (first | exact Below.refl _ _ | (with_reducible refine Below.drewN' ?_ _) | (with_reducible refine Below.drew ?_) | (with_reducible refine Below.setCell ?_ (by first | exact Nat.le_refl _ | omega | (with_reducible (repeat (first | refine sz_alloc ?_ | refine sz_setCell ?_ | refine sz_drew ?_ | refine sz_drewN ?_)); first | exact Nat.le_refl _ | omega) | (simp only [World.size_alloc, World.size_setCell, World.size_drew, size_drewN']; omega)) _) | (with_reducible refine Below.alloc ?_ (by first | exact Nat.le_refl _ | omega | (with_reducible (repeat (first | refine sz_alloc ?_ | refine sz_setCell ?_ | refine sz_drew ?_ | refine sz_drewN ?_)); first | exact Nat.le_refl _ | omega) | (simp only [World.size_alloc, World.size_setCell, World.size_drew, size_drewN']; omega)) _) | assumption)))
  generalize (w4.alloc (.cells #[.slice (some ⟨g, 0, none⟩) s.table.length eT, .int .i64 s.lo, .int .i64 s.hi, .slice rF s.floors.length eF, .slice rS s.sills.length eS] 28)) = w5 at *
  generalize w4.heap.size = N at *
  have P5 : Hid (PairBlk w5 g s.table) := Lib.hid (PB.out.up U5.out)
  clear PB
  refine (reverse_c g eT s.table w5 P5.out (by omega)).mono ?_
  rintro e w6 ⟨rfl, p6, f6⟩
  have P6 := Lib.hid p6
  have F6 := Lib.hid f6
  have bN := f6.blk BN.out BN.out.lt (by omega)
  have n0 := bN.cell 0
  have lN := bN.lt
  simp only [List.getElem?_cons_zero] at n0
  have rl : s.table.reverse.length = s.table.length := List.length_reverse
  have RL := Lib.hid rl
  clear p6 f6 bN rl
  obtain ⟨f0, f1, f2⟩ := firstM_lt OK.out.table
  obtain ⟨S, hS⟩ : ∃ S, firstM s.table + lastM s.table = S := ⟨_, rfl⟩
  have HS := Lib.hid hS
  clear hS
  go_wp2_with fail
  go_loopw [33] (fun i wr => ∃ k : Nat, k ≤ s.table.length ∧ i = .int .i64 k ∧ Far g w5.heap.size w5 wr ∧ PairBlk wr g (partF (fun x => (S - x.1, x.2)) s.table.reverse k)) (fun i _ => s.table.length - (intOf i).toNat)
  case atStart => exact ⟨0, by omega, rfl, F6.out, by rw [partF_zero]; exact P6.out⟩
  case round =>
    obtain ⟨k, hk, rfl, hf, hp⟩ := hrel
    have HF := Lib.hid hf
    have HPB := Lib.hid hp
    have bN := hf.blk BN.out BN.out.lt (by omega)
    have n0 := bN.cell 0
    have lN := bN.lt
    have bM := hf.blk (B4.out.up U5.out) (by have := BN.out.lt; have := B4.out.lt; omega) (by omega)
    obtain ⟨c0, c1, c2, c3, c4⟩ := five bM
    simp only [List.getElem?_cons_zero] at n0
    have LS : Hid (Lists wr s qT (some ⟨gF, oF, none⟩) qS dT dF dS) := by
      have h := (L3.out.up U4.out).up U5.out
      refine Lib.hid ⟨hf.row h.rt (fun h0 b off e => ?_), hf.row h.rf (fun h0 b off e => ?_), hf.row h.rs (fun h0 b off e => ?_), h.ct, h.cf, h.cs, h.mt, h.mf, h.ms⟩
      · have := L3.out.rt.lt (pairs_pos _) h0 e; have := BN.out.lt; omega
      · have := L3.out.rf.lt (ints_pos _) h0 e; have := BN.out.lt; omega
      · have := L3.out.rs.lt (triples_pos _) h0 e; have := BN.out.lt; omega
    clear hf bN bM
    by_cases hlt : k < s.table.length
    · have hlr : k < s.table.reverse.length := by rw [List.length_reverse]; exact hlt
      obtain ⟨y1, -⟩ := hp.cells (k := k) (by rw [partF_len]; exact hlr)
      rw [partF_at hlr] at y1
      have yf := hp.free
      have yl := hp.lt
      have q1 : (k : Int) < s.table.length := by omega
      have hx := OK.out.table.1 s.table.reverse[k] (List.mem_reverse.1 (List.getElem_mem hlr))
      have HST := Lib.hid (partF_step (f := fun x => (S - x.1, x.2)) hlr)
      have HAT := Lib.hid (partF_at (f := fun x => (S - x.1, x.2)) hlr)
      generalize s.table.reverse[k] = x at *
      obtain ⟨xa, xb⟩ := x
      obtain ⟨x3, x4, -, -⟩ := hx
      dsimp only at y1 x3 x4
      have HFst := Lib.hid (fun W (u : Up wr W) => firstL_c s W (LS.out.up u) m2)
      have HLst := Lib.hid (fun W (u : Up wr W) => lastL_c s W (LS.out.up u) m2 (by omega))
      clear hp
      go_wp2_with fail
      refine region_tail (fun W' => W'.cell? ⟨N, 0, none⟩ = some (.slice (some ⟨g, 0, none⟩) s.table.length eT) ∧ W'.cell? ⟨g, k * 2, none⟩ = some (.int .i64 xa) ∧ W'.cell? ⟨M, 0, none⟩ = some (.slice qT s.table.length dT) ∧ W'.cell? ⟨M, 1, none⟩ = some (.int .i64 s.lo) ∧ W'.cell? ⟨M, 2, none⟩ = some (.int .i64 s.hi) ∧ W'.cell? ⟨M, 3, none⟩ = some (.slice (some ⟨gF, oF, none⟩) s.floors.length dF) ∧ W'.cell? ⟨M, 4, none⟩ = some (.slice qS s.sills.length dS)) 15 mixed (by kernel_rfl) ⟨n0, y1, c0, c1, c2, c3, c4⟩ (fun hHeld => ?_)
      refine wpAnyG_take 0 36 (v := ?_) rfl rfl (by kernel_rfl) (fun _ _ _ h => h) (Or.inl ⟨by rfl, ?_⟩) (by assumption) ?_
      rotate_left
      · (intro w' hSw; (try dsimp only at hSw); go_split_ands; go_simp; try with_reducible rfl)
      try simp only [List.setIfInBounds_toArray, List.set_cons_zero, List.set_cons_succ]
      refine wpAnyG_take 1 37 (v := ?_) rfl rfl (by kernel_rfl) (fun _ _ _ h => h) (Or.inl ⟨by rfl, ?_⟩) (by assumption) ?_
      rotate_left
      · (intro w' hSw; (try dsimp only at hSw); go_split_ands; go_simp; try with_reducible rfl)
      try simp only [List.setIfInBounds_toArray, List.set_cons_zero, List.set_cons_succ]
      refine wpAnyG_take 2 38 (v := ?_) rfl rfl (by kernel_rfl) (fun _ _ _ h => h) (Or.inl ⟨by rfl, ?_⟩) (by assumption) ?_
      rotate_left
      · (intro w' hSw; (try dsimp only at hSw); go_split_ands; go_simp; try with_reducible rfl)
      try simp only [List.setIfInBounds_toArray, List.set_cons_zero, List.set_cons_succ]
      refine wpAnyG_take 3 39 (v := ?_) rfl rfl (by kernel_rfl) (fun _ _ _ h => h) (Or.inl ⟨by rfl, ?_⟩) (by assumption) ?_
      rotate_left
      · (intro w' hSw; (try dsimp only at hSw); go_split_ands; go_simp; try with_reducible rfl)
      try simp only [List.setIfInBounds_toArray, List.set_cons_zero, List.set_cons_succ]
      refine wpAnyG_take 5 41 (v := ?_) rfl rfl (by kernel_rfl) (fun _ _ _ h => h) (Or.inl ⟨by rfl, ?_⟩) (by assumption) ?_
      rotate_left
      · (intro w' hSw; (try dsimp only at hSw); go_split_ands; go_simp; try with_reducible rfl)
      try simp only [List.setIfInBounds_toArray, List.set_cons_zero, List.set_cons_succ]
      refine wpAnyG_take 8 44 (v := ?_) rfl rfl (by kernel_rfl) (fun _ _ _ h => h) (Or.inl ⟨by rfl, ?_⟩) (by assumption) ?_
      rotate_left
      · (intro w' hSw; (try dsimp only at hSw); go_split_ands; go_simp; try with_reducible rfl)
      try simp only [List.setIfInBounds_toArray, List.set_cons_zero, List.set_cons_succ]
      refine wpAnyG_take 9 45 (v := ?_) rfl rfl (by kernel_rfl) (fun _ _ _ h => h) (Or.inl ⟨by rfl, ?_⟩) (by assumption) ?_
      rotate_left
      · (intro w' hSw; (try dsimp only at hSw); go_split_ands; go_simp; try with_reducible rfl)
      try simp only [List.setIfInBounds_toArray, List.set_cons_zero, List.set_cons_succ]
      refine wpAnyG_take 10 46 (v := ?_) rfl rfl (by kernel_rfl) (fun _ _ _ h => h) (Or.inl ⟨by rfl, ?_⟩) (by assumption) ?_
      rotate_left
      · (intro w' hSw; (try dsimp only at hSw); go_split_ands; go_simp; try with_reducible rfl)
      try simp only [List.setIfInBounds_toArray, List.set_cons_zero, List.set_cons_succ]
      refine wpAnyG_take 11 47 (v := ?_) rfl rfl (by kernel_rfl) (fun _ _ _ h => h) (Or.inl ⟨by rfl, ?_⟩) (by assumption) ?_
      rotate_left
      · (intro w' hSw; (try dsimp only at hSw); go_split_ands; go_simp; try with_reducible rfl)
      try simp only [List.setIfInBounds_toArray, List.set_cons_zero, List.set_cons_succ]
      refine wpAnyG_take 12 48 (v := ?_) rfl rfl (by kernel_rfl) (fun _ _ _ h => h) (Or.inl ⟨by rfl, ?_⟩) (by assumption) ?_
      rotate_left
      · (intro w' hSw; (try dsimp only at hSw); go_split_ands; go_simp; try with_reducible rfl)
      try simp only [List.setIfInBounds_toArray, List.set_cons_zero, List.set_cons_succ]
      refine wpAnyG_take 13 49 (v := ?_) rfl rfl (by kernel_rfl) (fun _ _ _ h => h) (Or.inl ⟨by rfl, ?_⟩) (by assumption) ?_
      rotate_left
      · (intro w' hSw; (try dsimp only at hSw); go_split_ands; go_simp; try with_reducible rfl)
      try simp only [List.setIfInBounds_toArray, List.set_cons_zero, List.set_cons_succ]
      refine wpAnyG_do 4 rfl (by kernel_rfl) (fun K hK => ?_)
      rw [if_pos (by rfl)]
      go_simp
      refine (HFst.out _ ((Below.refl _ _).drew)).mono ?_
      rintro e wa ⟨rfl, va⟩
      have va' : Up wr wa := Up.trans ((Below.refl _ _).drew) va
      refine hK.out _ _ ⟨va'.cellAt n0, va'.cellAt y1, va'.cellAt c0, va'.cellAt c1, va'.cellAt c2, va'.cellAt c3, va'.cellAt c4⟩ (fun hHeld => ?_)
      clear hK K
      refine wpAnyG_do 6 rfl (by kernel_rfl) (fun K hK => ?_)
      rw [if_pos (by rfl)]
      go_simp
      refine (HLst.out _ va').mono ?_
      rintro e wb ⟨rfl, vb⟩
      have vb' : Up wr wb := Up.trans va' vb
      refine hK.out _ _ ⟨vb'.cellAt n0, vb'.cellAt y1, vb'.cellAt c0, vb'.cellAt c1, vb'.cellAt c2, vb'.cellAt c3, vb'.cellAt c4⟩ (fun hHeld => ?_)
      clear hK K
      have s1 : IntKind.i64.wrap (firstM s.table + lastM s.table) = firstM s.table + lastM s.table := IntWalk.i64_in _ (by omega)
      have s2 : IntKind.i64.wrap (firstM s.table + lastM s.table - xa) = firstM s.table + lastM s.table - xa := IntWalk.i64_in _ (by omega)
      refine wpAnyG_take 7 43 (v := .int .i64 (firstM s.table + lastM s.table)) rfl rfl (by kernel_rfl) (fun _ _ _ h => h) (Or.inl ⟨by rfl, ?_⟩) (by assumption) ?_
      · intro w' _
        go_simp
      try simp only [List.setIfInBounds_toArray, List.set_cons_zero, List.set_cons_succ]
      refine wpAnyG_take 14 50 (v := .int .i64 (firstM s.table + lastM s.table - xa)) rfl rfl (by kernel_rfl) (fun _ _ _ h => h) (Or.inl ⟨by rfl, ?_⟩) (by assumption) ?_
      · intro w' _
        go_simp
      try simp only [List.setIfInBounds_toArray, List.set_cons_zero, List.set_cons_succ]
      clear hHeld
      refine wpAnyG_tail (by kernel_rfl) ?_
      change wpList _ _ _ [_, _, _] _ _
      have pb := HPB.out.up vb'
      have n0b := vb'.cellAt n0
      have yfb := pb.free
      have ylb := pb.lt
      have y1b := vb'.cellAt y1
      have PBb := Lib.hid pb
      have Fb := Lib.hid (HF.out.trans (Far.of (vb'.mono HF.out.size)))
      clear s1 s2 va va' vb vb' pb y1 yf yl n0 c0 c1 c2 c3 c4
      go_wp2_with fail
      go_roundw
      case rel =>
        try ((repeat apply Exists.intro); refine ⟨?_, rfl⟩)
        refine ⟨k + 1, by omega, by go_num, Fb.out.setIn _ _, ?_⟩
        have h := PBb.out.put1 (k := k) (by rw [partF_len]; exact hlr) (firstM s.table + lastM s.table - xa)
        rw [HAT.out, HS.out] at h
        rw [← HST.out, HS.out]
        exact h
      case measure => simp [intOf]; omega
    · obtain rfl : k = s.table.length := by omega
      have lw5 := BN.out.lt
      have hT : PairBlk wr g (mirror s).table := by
        rw [← RL.out, partF_all, ← HS.out] at hp
        exact hp
      have hlen : (mirror s).table.length = s.table.length := mirT_len
      have PR : Hid (Pr wr M N s (mirror s) qT (some ⟨gF, oF, none⟩) qS (some ⟨g, 0, none⟩) rF rS dT dF dS eT eF eS) := by
        have h := L4.out.up U5.out
        have hm := MN.out.up U5.out
        refine Lib.hid ⟨LS.out, ⟨hT.row, HF.out.row h.rf (fun h0 b off e => ⟨h.rf.lt (ints_pos _) h0 e, ?_⟩), HF.out.row h.rs (fun h0 b off e => ⟨h.rs.lt (triples_pos _) h0 e, ?_⟩), by rw [hlen]; exact h.ct, h.cf, h.cs, h.mt, h.mf, h.ms⟩, HF.out.blk (B4.out.up U5.out) (by have := B4.out.lt; omega) (by omega), ?_⟩
        · exact P5.out.ne hm.of (by decide) b off e
        · exact P5.out.ne hm.os (by decide) b off e
        · have hb := HF.out.blk BN.out lw5 (by omega)
          unfold sdCells
          rw [hlen]
          exact hb
      have UR : Hid (Up w wr) := by
        have h3 := U3.out.size
        exact Lib.hid (Below.trans (Up.trans (Up.trans U3.out U4.out) U5.out) (HF.out.below (by omega) (by omega)))
      have OK' : Hid (Ok (mirror s)) := Lib.hid (mirror_ok OK.out)
      have hlm : M < wr.heap.size := PR.out.bm.lt
      have hln : N < wr.heap.size := PR.out.bn.lt
      clear hlen hp hT HF HPB n0 lN P5 BN U5 MN L4 L3 U3 U4 B4 hg lw5 ltM3 M3 w3 w4 P6 F6 LS c0 c1 c2 c3 c4 ltg
      obtain ⟨c0, c1, c2, c3, c4⟩ := five PR.out.bm
      generalize wr = wq at *
      have DY := Lib.hid (fun y => mirror_day OK.out y)
      have HG := Lib.hid (fun y (h : inDay s y = true) => mirror_hgt OK.out h)
      have AV := Lib.hid (fun y (h : inDay s y = true) => mirror_allV OK.out h)
      have LO := Lib.hid (mirror_long OK.out (allP s) (List.all_eq_true.2 (fun x hx => inB_true.2 (by have := allP_mem hx; omega))))
      generalize mirror s = t at *
      rw [HS.out] at DY HG AV
      obtain ⟨i0, hi, hz0, hz1, hz2⟩ := info_parts info3
      have hqs : wq.heap.size ≤ wq.heap.size := Nat.le_refl _
      go_wp2_with fail
      go_loopw [57, 6] (fun i v wx => ∃ j : Nat, j ≤ s.floors.length ∧ i = .int .i64 j ∧ wx.ownsRow wq.heap.size 3 1 v j (ints ((List.range j).map fun (q : Nat) => (q : Int))).flatten ∧ Up wq wx) (fun i _ _ => s.floors.length - (intOf i).toNat)
      case atStart => exact ⟨0, by omega, rfl, World.ownsRow_nil _ _ _ _, Below.refl _ _⟩
      case round =>
        obtain ⟨j, hj, rfl, hown, hu⟩ := hrel
        have HO := Lib.hid hown
        have HU := Lib.hid hu
        have hsz := hu.size
        clear hown hu
        by_cases hlj : j < s.floors.length
        · have q1 : (j : Int) < s.floors.length := by omega
          go_wp2_with (at_builtin; refine wpList_append_own _ rfl _ _ 25 rfl wq.heap.size 3 i0 (.int .i64 0) 1 8 Try.underlying25 hi hz0 hz1 hz2 rfl (by decide) _ _ _ rfl (HO.out.alloc _) ⟨wr.heap.size, 0, none⟩ 1 1 [.int .i64 (j : Int)] rfl rfl (newsAt _ rfl [.int .i64 (j : Int)] _) (by simp [Value.oneCell']) (by simp [maxLen]; omega) (by omega) (sz_alloc hsz) ?_; intro v' w8 hown8 hgr8 hnn; clear hnn)
          have U8 := Lib.hid ((HU.out.alloc hsz _).grown hgr8 (sz_alloc hsz) (fun j e => (HO.out.lt j e).1))
          have O8 := Lib.hid hown8
          clear hown8 hgr8
          go_roundw
          case rel =>
            try ((repeat apply Exists.intro); refine ⟨?_, rfl⟩)
            refine ⟨j + 1, by omega, by go_num, ?_, U8.out⟩
            have e : (ints ((List.range (j + 1)).map fun (q : Nat) => (q : Int))).flatten = (ints ((List.range j).map fun (q : Nat) => (q : Int))).flatten ++ [.int .i64 (j : Int)] := by
              rw [List.range_succ, List.map_append]
              unfold ints
              rw [List.map_append, List.flatten_append]
              rfl
            rw [e]
            exact O8.out
          case measure => simp [intOf]; omega
        · obtain rfl : j = s.floors.length := by omega
          obtain ⟨q, d, rfl, -, -, hR, -⟩ := Row.of_own (rows := ints (allP s)) (flatOk_ints _) HO.out (by simp [ints, allP])
          have RA := Lib.hid hR
          have PRr := Lib.hid (PR.out.up HU.out)
          have URr := Lib.hid (Up.trans UR.out HU.out)
          generalize wr = wp at *
          have HFst := Lib.hid (fun W (u : Up wp W) => firstL_c s W (PRr.out.ls.up u) m2)
          have HLst := Lib.hid (fun W (u : Up wp W) => lastL_c s W (PRr.out.ls.up u) m2 (by omega))
          clear hR HO HU PR UR hqs hi hz0 hz1 hz2 c0 c1 c2 c3 c4 hlt hlj hsz hlm hln
          obtain ⟨c0, c1, c2, c3, c4⟩ := five PRr.out.bm
          go_wp2_with fail
          refine (HFst.out wp (Below.refl _ _)).mono ?_
          rintro e wa ⟨rfl, ua⟩
          have Ua := Lib.hid ua
          clear ua c0 c1 c2 c3 c4
          go_wp2_with fail
          go_loopw [8] (fun i wx => ∃ y : Int, i = .int .i64 y ∧ firstM s.table ≤ y ∧ y ≤ lastM s.table + 1 ∧ Up wp wx) (fun i _ => (lastM s.table + 1 - intOf i).toNat)
          case atStart => exact ⟨_, rfl, Int.le_refl _, by omega, Ua.out⟩
          case round =>
            obtain ⟨y, rfl, y0, y1, hu⟩ := hrel
            have Ux : Hid (Up wp wr) := Lib.hid hu
            obtain ⟨c0, c1, c2, c3, c4⟩ := five (PRr.out.bm.up hu)
            clear hu
            go_wp2_with fail
            refine (HLst.out wr Ux.out).mono ?_
            rintro e wb ⟨rfl, ub⟩
            have Ub := Lib.hid (Up.trans Ux.out ub)
            clear ub Ux c0 c1 c2 c3 c4
            obtain ⟨c0, c1, c2, c3, c4⟩ := five (PRr.out.bm.up Ub.out)
            by_cases hy : y ≤ lastM s.table
            · have hin : Hid (inDay s y = true) := Lib.hid (inB_true.2 ⟨y0, hy⟩)
              go_wp2_with fail
              refine region_tail (fun W' => W'.cell? ⟨M, 0, none⟩ = some (.slice qT s.table.length dT) ∧ W'.cell? ⟨M, 1, none⟩ = some (.int .i64 s.lo) ∧ W'.cell? ⟨M, 2, none⟩ = some (.int .i64 s.hi) ∧ W'.cell? ⟨M, 3, none⟩ = some (.slice (some ⟨gF, oF, none⟩) s.floors.length dF) ∧ W'.cell? ⟨M, 4, none⟩ = some (.slice qS s.sills.length dS)) 8 mixed (by kernel_rfl) ⟨c0, c1, c2, c3, c4⟩ (fun hHeld => ?_)
              refine wpAnyG_take 0 73 (v := ?_) rfl rfl (by kernel_rfl) (fun _ _ _ h => h) (Or.inl ⟨by rfl, ?_⟩) (by assumption) ?_
              rotate_left
              · (intro w' hSw; (try dsimp only at hSw); go_split_ands; go_simp; try with_reducible rfl)
              try simp only [List.setIfInBounds_toArray, List.set_cons_zero, List.set_cons_succ]
              refine wpAnyG_take 2 75 (v := ?_) rfl rfl (by kernel_rfl) (fun _ _ _ h => h) (Or.inl ⟨by rfl, ?_⟩) (by assumption) ?_
              rotate_left
              · (intro w' hSw; (try dsimp only at hSw); go_split_ands; go_simp; try with_reducible rfl)
              try simp only [List.setIfInBounds_toArray, List.set_cons_zero, List.set_cons_succ]
              refine wpAnyG_take 5 78 (v := ?_) rfl rfl (by kernel_rfl) (fun _ _ _ h => h) (Or.inl ⟨by rfl, ?_⟩) (by assumption) ?_
              rotate_left
              · (intro w' hSw; (try dsimp only at hSw); go_split_ands; go_simp; try with_reducible rfl)
              try simp only [List.setIfInBounds_toArray, List.set_cons_zero, List.set_cons_succ]
              refine wpAnyG_do 1 rfl (by kernel_rfl) (fun K hK => ?_)
              rw [if_pos (by rfl)]
              go_simp
              refine (HFst.out _ (Up.trans Ub.out (Below.refl _ _).drew)).mono ?_
              rintro e wc ⟨rfl, vc⟩
              have vc' : Up wb wc := Up.trans ((Below.refl _ _).drew) vc
              refine hK.out _ _ ⟨vc'.cellAt c0, vc'.cellAt c1, vc'.cellAt c2, vc'.cellAt c3, vc'.cellAt c4⟩ (fun hHeld => ?_)
              clear hK K
              refine wpAnyG_do 3 rfl (by kernel_rfl) (fun K hK => ?_)
              rw [if_pos (by rfl)]
              go_simp
              refine (HLst.out _ (Up.trans Ub.out vc')).mono ?_
              rintro e wd ⟨rfl, vd⟩
              have vd' : Up wb wd := Up.trans vc' vd
              refine hK.out _ _ ⟨vd'.cellAt c0, vd'.cellAt c1, vd'.cellAt c2, vd'.cellAt c3, vd'.cellAt c4⟩ (fun hHeld => ?_)
              clear hK K
              have s1 : IntKind.i64.wrap (firstM s.table + lastM s.table) = firstM s.table + lastM s.table := IntWalk.i64_in _ (by omega)
              have s2 : IntKind.i64.wrap (firstM s.table + lastM s.table - y) = firstM s.table + lastM s.table - y := IntWalk.i64_in _ (by omega)
              refine wpAnyG_take 4 77 (v := .int .i64 (firstM s.table + lastM s.table)) rfl rfl (by kernel_rfl) (fun _ _ _ h => h) (Or.inl ⟨by rfl, ?_⟩) (by assumption) ?_
              · intro w' _
                go_simp
              try simp only [List.setIfInBounds_toArray, List.set_cons_zero, List.set_cons_succ]
              refine wpAnyG_take 6 79 (v := .int .i64 (firstM s.table + lastM s.table - y)) rfl rfl (by kernel_rfl) (fun _ _ _ h => h) (Or.inl ⟨by rfl, ?_⟩) (by assumption) ?_
              · intro w' _
                go_simp
              try simp only [List.setIfInBounds_toArray, List.set_cons_zero, List.set_cons_succ]
              refine wpAnyG_take 7 9 (v := .int .i64 (firstM s.table + lastM s.table - y)) rfl rfl (by kernel_rfl) (fun _ _ _ h => h) (Or.inl ⟨by rfl, ?_⟩) (by assumption) ?_
              · intro w' _
                go_simp
              try simp only [List.setIfInBounds_toArray, List.set_cons_zero, List.set_cons_succ]
              clear hHeld
              refine wpAnyG_tail (by kernel_rfl) ?_
              change wpList _ _ _ [] _ _
              rw [HS.out]
              have Ud := Lib.hid (Up.trans Ub.out vd')
              have hint : Hid (inDay t (S - y) = true) := Lib.hid (by rw [DY.out]; exact hin.out)
              clear s1 s2 vc vd vc' vd' Ub c0 c1 c2 c3 c4
              obtain ⟨c0, c1, c2, c3, c4⟩ := five (PRr.out.bm.up Ud.out)
              go_wp2_with fail
              refine (sHeight_c OK.out hin.out (PRr.out.ls.up Ud.out)).mono ?_
              rintro e we ⟨rfl, ue⟩
              have Ue := Lib.hid (Up.trans Ud.out ue)
              clear ue Ud c0 c1 c2 c3 c4
              obtain ⟨c0, c1, c2, c3, c4⟩ := five (PRr.out.bn.up Ue.out)
              go_wp2_with fail
              refine (sHeight_c OK'.out hint.out (PRr.out.lt.up Ue.out)).mono ?_
              rintro e wf ⟨rfl, uf⟩
              have Uf := Lib.hid (Up.trans Ue.out uf)
              clear uf Ue c0 c1 c2 c3 c4
              obtain ⟨c0, c1, c2, c3, c4⟩ := five (PRr.out.bm.up Uf.out)
              rw [HG.out y hin.out]
              go_wp2_with fail
              refine (sAll_c OK.out hin.out (PRr.out.ls.up Uf.out)).mono ?_
              rintro e wg ⟨pa, ka, rfl, -, -, a3, ug⟩
              have Ug := Lib.hid (Up.trans Uf.out ug)
              have A3 := Lib.hid a3
              clear ug a3 Uf c0 c1 c2 c3 c4
              obtain ⟨c0, c1, c2, c3, c4⟩ := five (PRr.out.bn.up Ug.out)
              go_wp2_with fail
              refine (sAll_c OK'.out hint.out (PRr.out.lt.up Ug.out)).mono ?_
              rintro e wh ⟨pb, kb, rfl, -, -, b3', uh⟩
              rw [AV.out y hin.out] at b3' ⊢
              have Uh := Lib.hid (Up.trans Ug.out uh)
              have A4 := Lib.hid (A3.out.up uh)
              have B4 := Lib.hid b3'
              clear uh b3' Ug A3 c0 c1 c2 c3 c4
              go_wp2_with fail
              have hlA : (allV s y).length ≤ maxLen := by
                rw [show (allV s y).length = s.floors.length by unfold allV; rw [if_pos (errAt_in OK.out hin.out)]; simp [allS]]
                simp only [maxLen]; omega
              have hEq := eqState_c (allV s y) (allV s y) pa pb ka kb wh A4.out B4.out hlA hlA
              rw [decide_eq_true (rfl : allV s y = allV s y)] at hEq
              refine hEq.mono ?_
              rintro e wi ⟨rfl, ui⟩
              have Ui := Lib.hid (Up.trans Uh.out ui)
              clear ui Uh A4 B4 hEq hlA
              have sy : IntKind.i64.wrap (y + 1) = y + 1 := IntWalk.i64_in _ (by omega)
              go_wp2_with fail
              go_roundw
              case rel =>
                try ((repeat apply Exists.intro); refine ⟨?_, rfl⟩)
                exact ⟨y + 1, rfl, by omega, by omega, Ui.out⟩
              case measure => simp [intOf]; omega
            · have Uy := Lib.hid (Up.trans URr.out Ub.out)
              have PRb := Lib.hid (PRr.out.up Ub.out)
              have RAb := Lib.hid (RA.out.up Ub.out)
              clear Ub PRr RA URr
              go_wp2_with fail
              refine (Longest_n (allP_len s) PRb.out.ls RAb.out (by omega)).mono ?_
              rintro e wc ⟨rfl, uc⟩
              have NA := long_rng OK.out (allP s)
              have NB := long_rng OK'.out (allP s)
              obtain ⟨lo1, lo2⟩ := LO.out
              have Uc := Lib.hid (Up.trans Uy.out uc)
              have PRc := Lib.hid (PRb.out.up uc)
              have RAc := Lib.hid (RAb.out.up uc)
              clear uc Uy PRb RAb c0 c1 c2 c3 c4 LO
              generalize hza : longestV s (allP s) = za at *
              obtain ⟨a1, a2⟩ := za
              dsimp only
              have XA : Hid (Blk (wc.alloc (.cells #[.int .i64 a1, .int .i64 a2] 24)) wc.heap.size [.int .i64 a1, .int .i64 a2] 24) := Lib.hid (Blk.new wc [.int .i64 a1, .int .i64 a2] 24)
              have ud : Up wc (wc.alloc (.cells #[.int .i64 a1, .int .i64 a2] 24)) := by (repeat (first | exact Below.refl _ _ | (with_reducible refine Below.drewN' ?_ _) | (with_reducible refine Below.drew ?_) | (with_reducible refine Below.setCell ?_ (by first | exact Nat.le_refl _ | omega | (with_reducible (repeat (first | refine sz_alloc ?_ | refine sz_setCell ?_ | refine sz_drew ?_ | refine sz_drewN ?_)); first | exact Nat.le_refl _ | omega) | (simp only [World.size_alloc, World.size_setCell, World.size_drew, size_drewN']; omega)) _) | (with_reducible refine Below.alloc ?_ (by first | exact Nat.le_refl _ | omega | (with_reducible (repeat (first | refine sz_alloc ?_ | refine sz_setCell ?_ | refine sz_drew ?_ | refine sz_drewN ?_)); first | exact Nat.le_refl _ | omega) | (simp only [World.size_alloc, World.size_setCell, World.size_drew, size_drewN']; omega)) _) | assumption))
              obtain ⟨c0, c1, c2, c3, c4⟩ := five (PRc.out.bn.up ud)
              obtain ⟨d0, d1, d2, d3, d4⟩ := five PRc.out.bn
              have lN' := PRc.out.bn.lt
              go_wp2_with fail
              refine (Longest_n (allP_len s) (PRc.out.lt.up ud) (RAc.out.up ud) (by omega)).mono ?_
              rintro e wd ⟨rfl, ue⟩
              rw [lo1]
              generalize hzb : longestV t (allP s) = zb at *
              obtain ⟨b1, b2⟩ := zb
              obtain ⟨na1, na2, na3, na4⟩ := NA
              obtain ⟨nb1, nb2, nb3, nb4⟩ := NB
              dsimp only at lo2 na1 na2 na3 na4 nb1 nb2 nb3 nb4 ⊢
              have XAe := XA.out.up ue
              have x0 := XAe.cell 0
              have x1 := XAe.cell 1
              have xl := XAe.lt
              simp only [List.getElem?_cons_zero, List.getElem?_cons_succ] at x0 x1
              have Ue := Lib.hid (Up.trans Uc.out (Up.trans ud ue))
              have sa : IntKind.i64.wrap (a2 - a1) = a2 - a1 := IntWalk.i64_in _ (by omega)
              have sb : IntKind.i64.wrap (b2 - b1) = b2 - b1 := IntWalk.i64_in _ (by omega)
              have hab : (a2 - a1 == b2 - b1) = true := by rw [beq_iff_eq]; omega
              clear lo1 lo2 hza hzb c0 c1 c2 c3 c4 d0 d1 d2 d3 d4 ud ue XAe PRc RAc Uc
              go_wp2_with fail
              refine (awake_c _).mono ?_
              rintro e wf ⟨rfl, uf⟩
              go_wp2_with fail
              go_ret
              exact ⟨rfl, Up.trans Ue.out (Up.trans (by (repeat (first | exact Below.refl _ _ | (with_reducible refine Below.drewN' ?_ _) | (with_reducible refine Below.drew ?_) | (with_reducible refine Below.setCell ?_ (by first | exact Nat.le_refl _ | omega | (with_reducible (repeat (first | refine sz_alloc ?_ | refine sz_setCell ?_ | refine sz_drew ?_ | refine sz_drewN ?_)); first | exact Nat.le_refl _ | omega) | (simp only [World.size_alloc, World.size_setCell, World.size_drew, size_drewN']; omega)) _) | (with_reducible refine Below.alloc ?_ (by first | exact Nat.le_refl _ | omega | (with_reducible (repeat (first | refine sz_alloc ?_ | refine sz_setCell ?_ | refine sz_drew ?_ | refine sz_drewN ?_)); first | exact Nat.le_refl _ | omega) | (simp only [World.size_alloc, World.size_setCell, World.size_drew, size_drewN']; omega)) _) | assumption))) uf)⟩
end
end Go.Proofs.Ytcljkkojeleakaa
/- Slices of bytes, and bytes, that came in. -/
namespace Go.Proofs.Ytcljkkojeleakaa
section
open Go.ChangeShapes Go.WideShapes Go.ChangeAt Go.RowKit

section
variable {H : Type} {enc : TypeId × Value → H} {P : Program}
/-- a slice that came in, as rows of k cells -/
theorem open_rowsQ {w : World} {t e : TypeId} {fuel k : Nat} {Q : List Value → Prop} {v : Value} {x : DataW H × List MemPlace} (ht : P.underlying t = some (.slice e)) (hC : P.cellsOf e = k) (hk : 0 < k) (hQ : ∀ r, Q r → r.length = k)
    (hel : ∀ fuel cs y, DataW.trod enc P w 0 (fun _ => true) true fuel e cs = some y → Q cs) (h : DataW.trod enc P w 0 (fun _ => true) true fuel t [v] = some x) :
    ∃ p len cap rows, v = .slice p len cap ∧ len ≤ cap ∧ cap ≤ maxLen ∧ rows.length = len ∧ Row w p k rows ∧ (∀ r ∈ rows, Q r) ∧ ((x.1 = .nil ∧ cap = 0) ∨ ∃ el sp, x.1 = .slice el sp ∧ el.length + sp.length = cap) := by
  rcases Go.Deep.open_slice ht h with ⟨hv, rfl⟩ | ⟨a, len, cap, m, n, D, Pl, hv, -, hl, hm, hmm, rfl, hi⟩
  · simp only [List.cons.injEq, and_true] at hv
    exact ⟨none, 0, 0, [], hv, Nat.le_refl _, by simp [maxLen], rfl, fun i row hr => by simp at hr, fun r hr => by simp at hr, .inl ⟨rfl, rfl⟩⟩
  · simp only [List.cons.injEq, and_true] at hv
    simp only [if_true] at hmm
    subst hmm
    rw [hC] at hi
    have hch : ∀ i, ∃ cs, i < len → Q cs ∧ ∀ j c, cs[j]? = some c → w.cell? (a.add (i * k + j)) = some c := fun i => by
      by_cases hlt : i < len
      · obtain ⟨cs, hc, ht'⟩ := hi i (by omega)
        obtain ⟨-, hcl, hat⟩ := World.cells?_some hc
        refine ⟨cs, fun _ => ⟨hel _ _ _ ht', fun j c hj => ?_⟩⟩
        have hjl : j < k := by have := (List.getElem?_eq_some_iff.1 hj).1; omega
        rw [← Go.Deep.add_add, hat j hjl, hj]
      · exact ⟨[], fun h => absurd h hlt⟩
    obtain ⟨f, hf⟩ := Classical.axiomOfChoice hch
    refine ⟨some a, len, m, (List.range len).map f, hv, hl, hm, by simp, fun i row hr => ?_, fun r hr => ?_, .inr ⟨_, _, rfl, by simp; omega⟩⟩
    · rw [List.getElem?_map] at hr
      by_cases hlt : i < len
      · rw [List.getElem?_range hlt] at hr
        simp only [Option.map_some, Option.some.injEq] at hr
        subst hr
        obtain ⟨g2, g3⟩ := hf 0 (by omega)
        have g1 := hQ _ g2
        have h0 := g3 0 _ (List.getElem?_eq_getElem (by omega))
        have hs : a.spot = none := spot_of (by simpa [Addr.add] using h0)
        obtain ⟨b, off, sp⟩ := a
        simp only at hs
        subst hs
        refine ⟨b, off, rfl, fun j c hj => ?_⟩
        have := (hf i hlt).2 j c hj
        rwa [Addr.add_lit, ← Nat.add_assoc] at this
      · rw [List.getElem?_eq_none (by simp; omega)] at hr
        cases hr
    · simp only [List.mem_map, List.mem_range] at hr
      obtain ⟨i, hlt, rfl⟩ := hr
      exact (hf i hlt).1

/-- a row of one byte -/
def OneByte (r : List Value) : Prop := ∃ n, r = [.int .u8 n]
theorem bytes_of : ∀ {rows : List (List Value)}, (∀ r ∈ rows, OneByte r) → ∃ l : List Int, rows = bytes l
  | [], _ => ⟨[], rfl⟩
  | r :: rest, h => by
    obtain ⟨l, hl⟩ := bytes_of (rows := rest) (fun r hr => h r (by simp [hr]))
    obtain ⟨n, rfl⟩ := h r (by simp)
    exact ⟨n :: l, by rw [hl]; rfl⟩
theorem cellsByte : Try.prog.cellsOf 5 = 1 := by kernel_rfl
theorem bytesByte : Try.prog.bytesOf 5 = 1 := by kernel_rfl
set_option maxRecDepth 100000 in
theorem open_bytes {w : World} {base : Nat} {v : Value} {d : DataW H} {ps : List MemPlace} (hv : Value.okWide Try.prog w .any base 83 v) (h : DataW.Trod enc Try.prog w 0 (fun _ => true) true 83 v d ps) (hz : ∀ n ∈ DataW.weights Try.prog 83 d, n ≤ reachBytes) :
    ∃ p l c, v = .slice p l.length c ∧ Row w p 1 (bytes l) ∧ l.length ≤ 140737488355328 := by
  obtain ⟨fuel, hf⟩ := h
  obtain ⟨p0, n0, c0, rfl⟩ := okWide_slice Try.underlying83 hv
  have hf' : DataW.trod enc Try.prog w 0 (fun _ => true) true fuel 83 [.slice p0 n0 c0] = some (d, ps) := hf
  obtain ⟨p, len, cap, rows, e, a1, a2, a3, a4, a5, a6⟩ := open_rowsQ (Q := OneByte) Try.underlying83 cellsByte (by decide) (fun r ⟨n, e⟩ => by rw [e]; rfl) (fun fuel cs y hy => by
    obtain ⟨n, e, -, -⟩ := DataW.trod_int Try.underlying5 hy
    exact ⟨n, e⟩) hf'
  obtain ⟨l, rfl⟩ := bytes_of a5
  have q : (bytes l).length = l.length := by simp [bytes]
  rw [q] at a3
  subst a3
  have hr := room_of Try.underlying83 bytesByte a1 a6 hz
  exact ⟨p, l, cap, e, a4, by omega⟩
theorem byte_rng {n : Int} (h : (Lit.int .u8 n).wf = true) : 0 ≤ n ∧ n ≤ 255 := by
  simp [Lit.wf] at h
  have e1 : IntKind.u8.min = 0 := rfl
  have e2 : IntKind.u8.max = 255 := rfl
  omega
end
end
end Go.Proofs.Ytcljkkojeleakaa
namespace Go.Proofs.Ytcljkkojeleakaa
section
open Go.ChangeShapes Go.WideShapes Go.ChangeAt Go.RowKit

set_option maxRecDepth 100000 in
theorem mirrored_contract (H : Type) (enc : TypeId × Value → H) (W : World) (base : Nat) (args : Array Value) (ds gs : List (DataW H)) (before : List MemPlace)
    (hval : ∀ (j : Nat) t v, Try.f15.params[j]? = some t → args[j]? = some v → Value.okWide Try.prog W .any base t v)
    (hW : DataW.Whole enc Try.prog Try.f15.params.toList Rows.tideMirroredSpec.vars false W args.toList ds gs before)
    (hsz0 : (DataW.weightsEach Try.prog (Try.f15.params.toList ++ Rows.tideMirroredSpec.plain.varTypes Try.prog) (ds ++ gs)).all (· ≤ reachBytes) = true) :
    Calls Try.prog 15 args W fun e W' => ∃ v, e = .returned v ∧ Rows.tideMirroredSpec.post enc Try.prog Try.f15 false true false false W args v W' := by
  have hW' := hW
  obtain ⟨p, q, hA0, hV, rfl, -, -⟩ := hW
  have hA : DataW.TrodAll enc Try.prog W 0 (fun _ => true) true Try.f15.params.toList args.toList ds p := hA0
  rw [Try.params15] at hA hval
  obtain ⟨v0, vs0, d0, ds0, p0, q0, hargs, rfl, rfl, h0, r0⟩ := trodAll_cons hA
  obtain ⟨rfl, rfl, rfl⟩ := trodAll_nil r0
  obtain rfl : args = #[v0] := by cases args; simp_all
  obtain ⟨rfl, rfl⟩ := trodVars_none hV
  have hz : ∀ n ∈ DataW.weights Try.prog 83 d0, n ≤ reachBytes := fun n hn => by
    have := List.all_eq_true.1 hsz0 n (DataW.weights_mem_each (j := 0) (t := 83) rfl rfl n hn)
    simpa using this
  obtain ⟨pb, l, c, rfl, hr, hl⟩ := open_bytes (hval 0 _ v0 rfl rfl) h0 hz
  refine (mirroredLaw_c l W hr hl).mono fun e W' ⟨he, hbl⟩ => ?_
  exact ⟨_, he, law_post hW' rfl laidOut (by kernel_rfl) rfl Try.underlying4 ⟨rfl, rfl, rfl⟩ hbl⟩

set_option maxRecDepth 100000 in
theorem mirrored_lifted (os : Os) (started : os.Started) (H : Type) (enc : TypeId × Value → H) :
    ReturnsInHanded {} Try.checked os 15 .any (Rows.tideMirroredSpec.pre6 enc Try.prog Try.f15 Rows.tideMirroredRow.domain false) (Rows.tideMirroredSpec.post enc Try.prog Try.f15 false true false false) := by
  refine returnsInHanded_of_change_sized (C := Try.checked) own started (by kernel_rfl) Try.func15
    (ChangeSpec.witness6 (enc := enc) (C := Try.checked) false ⟨#[], #[.slice none 0 0], []⟩ 8 (by kernel_rfl) (by kernel_rfl) (by kernel_rfl) (by kernel_rfl)) ?_
  intro W base args ds gs before hval hW _ hsz _
  exact mirrored_contract H enc W base args ds gs before hval hW hsz

theorem mirrored_holds : Rows.TideMirroredSaid :=
  OpenClaim.holds_of_wide 15 Try.f15 rfl rfl rfl rfl rfl rfl rfl ⟨rfl, rfl, rfl, rfl, rfl⟩ rfl rfl rfl rfl rfl (by kernel_rfl) Try.func15 (by kernel_rfl)
    (of_decide_eq_true (by kernel_rfl)) (by unfold Func.isWrapper; first | (rw [if_pos (by decide +kernel)]; kernel_rfl) | (rw [if_neg (by decide +kernel)]; exact ⟨rfl, rfl⟩))
    (fun os started H enc _ => mirrored_lifted os started H enc)
#print axioms mirrored_holds
end
end Go.Proofs.Ytcljkkojeleakaa
