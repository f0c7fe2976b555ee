/- As Draw2: but an edge that does not bind may lead ahead. -/
import Derived.Test.YtcljkkojeleakaaBase
import Derived.Test.YtcljkkojeleakaaLine
import Derived.Test.YtcljkkojeleakaaHeight
import Derived.Test.YtcljkkojeleakaaChk
import Derived.Test.YtcljkkojeleakaaChk2
import Derived.Test.YtcljkkojeleakaaLower
import Derived.Test.YtcljkkojeleakaaGates
import Derived.Test.YtcljkkojeleakaaBegin
import Derived.Test.YtcljkkojeleakaaBegin2
import Derived.Test.YtcljkkojeleakaaSpans
import Derived.Test.YtcljkkojeleakaaState2
import Derived.Test.YtcljkkojeleakaaFits
import Derived.Test.YtcljkkojeleakaaOut1
import Derived.Test.YtcljkkojeleakaaAll
import Derived.Test.YtcljkkojeleakaaSpans2
import Derived.Test.YtcljkkojeleakaaTurn
import Derived.Test.YtcljkkojeleakaaOwn
import Derived.Test.YtcljkkojeleakaaFar
import Derived.Test.YtcljkkojeleakaaMade
import Derived.Test.YtcljkkojeleakaaHgtPure
import Derived.Test.YtcljkkojeleakaaRound
import Derived.Test.YtcljkkojeleakaaDraw
import Derived.Test.YtcljkkojeleakaaPair
import Derived.Test.YtcljkkojeleakaaLooks
import Derived.Test.YtcljkkojeleakaaLooks3
import Derived.Test.YtcljkkojeleakaaDup
import Derived.Test.YtcljkkojeleakaaStep
import Derived.Test.YtcljkkojeleakaaLead
import Derived.Test.YtcljkkojeleakaaHold
import Derived.Test.YtcljkkojeleakaaLooks2
import Derived.Test.YtcljkkojeleakaaOn
import Derived.WalkKit
import Derived.WalkSpells
import Derived.WalkLawsBesides
import Derived.Deep.QuietTactic
import Derived.BigQuiet
import Derived.Lib.Hide
import Derived.Shelf.Abstract
import Derived.BigGuardPart
import Derived.RangeFuncNested
import Derived.RangeFuncBound
import Derived.RangeFuncCalls
import Derived.RangeFuncLeaves
import Derived.Shelf.RegionOpen
import Derived.OwnWalkIn
import Derived.TacticsInMore
import Derived.LoopNIn
import Derived.LoopIn
import Derived.StillTailTactics
import Derived.Deep.RegionHeld3
import Derived.StillTail
import Derived.RangeFuncWrites
import Derived.Laws.StructEq
import Derived.Deep.LoopGhost
import Derived.IntWalk
import Derived.RangeFuncBox
import Derived.Laws.BitsAllLaws
import Derived.ArgAppend
import Derived.Laws.CopyOwn
import Derived.OwnWalk
import Derived.Lib.SliceRun
import Derived.Maps.OwnOps
import Derived.Maps.OwnSet
import Derived.Deep.AppendSrc
import Derived.Deep.Upon
import Derived.Deep.Cut
import Derived.Deep.DeepCutAuto
import Derived.Laws.OwnMore
import Derived.Laws.IdiomCopy
import Derived.Deep.CutRange
import Derived.Deep.CutBlock
/- Plain facts for the law TideShifted: sands whose table is lifted and whose wind is let down by as much; a row of pairs changed in its place; sands that Made makes are right; the law's own first, last and line. -/
namespace Go.Proofs.Ytcljkkojeleakaa
section
open Go.RowKit

theorem chk_zero {s : Sd} (h : Ok s) : chk s = 0 := by
  obtain ⟨⟨t1, t2, t3, t4⟩, f0, f1, sl, lo0, hi1, lohi, fl, hs, good, two⟩ := h
  have h1 : okCounts s = true := by
    simp only [okCounts, Bool.and_eq_true, inB_true, decide_eq_true_eq]
    omega
  have h2 : okNumbers s = true := by
    simp only [okNumbers, Bool.and_eq_true, inB_true, List.all_eq_true, okWater]
    exact ⟨⟨⟨⟨fun x hx => ⟨⟨(t1 x hx).1, (t1 x hx).2.1⟩, (t1 x hx).2.2.1, (t1 x hx).2.2.2⟩, by omega, by omega⟩, by omega, by omega⟩, fl⟩, hs⟩
  have h3 : okOrder s = true := by
    simp only [okOrder, Bool.and_eq_true, decide_eq_true_eq]
    refine ⟨?_, lohi⟩
    unfold ordB
    rw [List.all_eq_true]
    intro i hi
    rw [List.mem_range] at hi
    have := t2 i (by omega)
    simpa [List.getD, List.getElem?_eq_getElem (show i + 1 < s.table.length by omega), List.getElem?_eq_getElem (show i < s.table.length by omega)] using this
  have h4 : s.sills.all (okThings s.floors.length) = true := by
    rw [List.all_eq_true]
    intro x hx
    have := good x hx
    simp only [okThings, Bool.and_eq_true, Bool.or_eq_true, beq_iff_eq, inB_true]
    omega
  have h5 : s.sills.all (fun x => x.1 != x.2.1) = true := by
    rw [List.all_eq_true]
    intro x hx
    simpa using two x hx
  unfold chk
  rw [if_neg (by rw [h1]; decide), if_neg (by rw [h2]; decide), if_neg (by rw [h3]; decide), if_neg (by rw [h4]; decide), if_neg (by rw [h5]; decide)]

/-- a point of the line, lifted -/
def lift (d : Int) (x : Int × Int) : Int × Int := (x.1, x.2 + d)
theorem onL_lift (d m : Int) (a b : Int × Int) (h : a.1 < b.1) : onL (lift d a) (lift d b) m = onL a b m + d := by
  unfold onL lift
  dsimp only
  rw [show (a.2 + d) * (b.1 - a.1) + (b.2 + d - (a.2 + d)) * (m - a.1) = a.2 * (b.1 - a.1) + (b.2 - a.2) * (m - a.1) + d * (b.1 - a.1) by
    rw [Int.add_mul, show b.2 + d - (a.2 + d) = b.2 - a.2 by omega]; omega]
  rw [Int.add_mul_ediv_right _ _ (by omega)]
theorem hgtFrom_lift (d m : Int) : ∀ (r : List (Int × Int)) (a : Int × Int), (∀ i (h : i + 1 < (a :: r).length), (a :: r)[i].1 < (a :: r)[i + 1].1) → hgtFrom (lift d a) (r.map (lift d)) m = hgtFrom a r m + d
  | [], a, _ => rfl
  | b :: r, a, h => by
    have h0 := h 0 (by simp)
    have hr := hgtFrom_lift d m r b (fun i hi => h (i + 1) (by simp only [List.length_cons] at hi ⊢; omega))
    have h0' : a.1 < b.1 := h0
    show (if m ≤ b.1 then onL (lift d a) (lift d b) m else hgtFrom (lift d b) (r.map (lift d)) m) = (if m ≤ b.1 then onL a b m else hgtFrom b r m) + d
    split
    · exact onL_lift d m a b h0'
    · exact hr
theorem hgt_lift (d m : Int) (l : List (Int × Int)) (h : ∀ i (h : i + 1 < l.length), l[i].1 < l[i + 1].1) (hl : 1 ≤ l.length) : hgt (l.map (lift d)) m = hgt l m + d := by
  match l, h, hl with
  | a :: r, h, _ => exact hgtFrom_lift d m r a h

theorem fixG_eq {s t : Sd} (h : ∀ g, lowered s g = lowered t g) : ∀ n g, fixG s n g = fixG t n g
  | 0, g => rfl
  | n + 1, g => by unfold fixG; rw [h g, fixG_eq h n]
theorem gts_eq {s t : Sd} (h1 : s.floors = t.floors) (h2 : s.sills = t.sills) : gts s = gts t := by
  obtain ⟨l, lo, hi, f, x⟩ := s
  obtain ⟨l', lo', hi', f', x'⟩ := t
  dsimp only at h1 h2
  subst h1 h2
  unfold gts
  generalize (9000 : Nat) = n
  exact fixG_eq (s := ⟨l, lo, hi, f, x⟩) (t := ⟨l', lo', hi', f, x⟩) (fun g => rfl) n top

/-- the wind let down, and the table lifted, by as much -/
def shifted (d : Int) (s : Sd) : Sd := ⟨s.table.map (lift d), s.lo - d, s.hi - d, s.floors, s.sills⟩
section
variable {s : Sd} {d : Int}
theorem shifted_ok (h : Ok s) (d0 : 0 ≤ d) (hd : ∀ x ∈ s.table, x.2 + d ≤ 999) (hlo : -50 ≤ s.lo - d) : Ok (shifted d s) := by
  obtain ⟨⟨t1, t2, t3, t4⟩, f0, f1, sl, lo0, hi1, lohi, fl, hs, good, two⟩ := h
  have hlen : (shifted d s).table.length = s.table.length := List.length_map ..
  refine ⟨⟨fun x hx => ?_, fun i hi => ?_, by omega, by omega⟩, f0, f1, sl, hlo, ?_, ?_, fl, hs, good, two⟩
  · obtain ⟨y, hy, rfl⟩ := List.mem_map.1 hx
    have h1 := t1 y hy
    have h2 := hd y hy
    show 0 ≤ y.1 ∧ y.1 ≤ 1440 ∧ 0 ≤ y.2 + d ∧ y.2 + d ≤ 999
    omega
  · have := t2 i (by omega)
    simpa [shifted, lift] using this
  · show s.hi - d ≤ 50; omega
  · show s.lo - d ≤ s.hi - d; omega
theorem shifted_first : firstM (shifted d s).table = firstM s.table := by
  unfold firstM shifted
  dsimp only
  rw [List.getElem?_map]
  cases s.table[0]? <;> rfl
theorem shifted_last : lastM (shifted d s).table = lastM s.table := by
  unfold lastM shifted
  dsimp only
  rw [List.length_map, List.getElem?_map]
  cases s.table[s.table.length - 1]? <;> rfl
theorem shifted_inDay (m : Int) : inDay (shifted d s) m = inDay s m := by
  unfold inDay
  rw [shifted_first, shifted_last]
theorem shifted_hgt (h : Ok s) (m : Int) : hgt (shifted d s).table m = hgt s.table m + d := hgt_lift d m s.table h.table.2.1 (by have := h.table.2.2.1; omega)
theorem shifted_st (h : Ok s) (m : Int) (p : Nat) : st (shifted d s) m p = st s m p := by
  have e : gateOf (shifted d s) p = gateOf s p := by unfold gateOf; rw [gts_eq (s := shifted d s) (t := s) rfl rfl]
  unfold st
  rw [e, shifted_hgt h]
  have h1 : (shifted d s).lo = s.lo - d := rfl
  have h2 : (shifted d s).hi = s.hi - d := rfl
  rw [h1, h2, show hgt s.table m + d + (s.lo - d) = hgt s.table m + s.lo by omega, show hgt s.table m + d + (s.hi - d) = hgt s.table m + s.hi by omega]
theorem shifted_errAt (h : Ok s) (h' : Ok (shifted d s)) (m : Int) : errAt (shifted d s) m = errAt s m := by
  unfold errAt
  rw [chk_zero h, chk_zero h', shifted_inDay]
theorem shifted_errFor (h : Ok s) (h' : Ok (shifted d s)) (p : Int) : errFor (shifted d s) p = errFor s p := by
  unfold errFor
  rw [chk_zero h, chk_zero h']
  rfl
theorem shifted_allV (h : Ok s) (h' : Ok (shifted d s)) (m : Int) : allV (shifted d s) m = allV s m := by
  unfold allV
  rw [shifted_errAt h h']
  have : allS (shifted d s) m = allS s m := by
    unfold allS
    show (List.range s.floors.length).map _ = _
    exact List.map_congr_left (fun p _ => shifted_st h m p)
  rw [this]
theorem shifted_levelV (h : Ok s) (h' : Ok (shifted d s)) (m : Int) : levelV (shifted d s) m = levelV s m := by
  unfold levelV
  rw [shifted_errAt h h', shifted_hgt h]
  have h1 : (shifted d s).lo = s.lo - d := rfl
  have h2 : (shifted d s).hi = s.hi - d := rfl
  rw [h1, h2, show hgt s.table m + d + (s.lo - d) = hgt s.table m + s.lo by omega, show hgt s.table m + d + (s.hi - d) = hgt s.table m + s.hi by omega]
theorem shifted_drySpans (h : Ok s) (ps : List Int) : drySpans (shifted d s) ps = drySpans s ps := by
  have e : dryB (shifted d s) ps = dryB s ps := by
    funext m
    unfold dryB fitB
    simp only [shifted_st h]
  unfold drySpans dayN
  rw [e, shifted_first, shifted_last]
theorem shifted_turnV (h : Ok s) (h' : Ok (shifted d s)) (p m : Int) : turnV (shifted d s) p m = turnV s p m := by
  unfold turnV
  rw [shifted_errFor h h', shifted_inDay, shifted_drySpans h]
theorem shifted_errTurn (h : Ok s) (h' : Ok (shifted d s)) (p m : Int) : errTurn (shifted d s) p m = errTurn s p m := by
  unfold errTurn
  rw [shifted_errFor h h', shifted_inDay, shifted_drySpans h]
end
end

section
open Go.RowKit Go.Shelf

theorem five {w : World} {B : Nat} {a b c d e : Value} {T : TypeId} (h : Blk w B [a, b, c, d, e] T) :
    w.cell? ⟨B, 0, none⟩ = some a ∧ w.cell? ⟨B, 1, none⟩ = some b ∧ w.cell? ⟨B, 2, none⟩ = some c ∧ w.cell? ⟨B, 3, none⟩ = some d ∧ w.cell? ⟨B, 4, none⟩ = some e :=
  ⟨h.cell 0, h.cell 1, h.cell 2, h.cell 3, h.cell 4⟩
/-- the value of shifted sands -/
def shVal (d : Int) (s : Sd) (pT pF pS : Option Addr) (cT cF cS : Nat) : Value :=
  .agg #[.slice pT s.table.length cT, .int .i64 (s.lo - d), .int .i64 (s.hi - d), .slice pF s.floors.length cF, .slice pS s.sills.length cS]
section
variable {s : Sd} {d y : Int} {pT pF pS : Option Addr} {cT cF cS : Nat} {w : World}
theorem shVal_eq : sdVal (shifted d s) pT pF pS cT cF cS = shVal d s pT pF pS cT cF cS := by
  unfold sdVal shVal shifted
  dsimp only
  rw [List.length_map]
theorem errAt_in (ok : Ok s) (h : inDay s y = true) : errAt s y = 0 := by unfold errAt; rw [if_pos (chk_zero ok), h]; rfl
theorem levelV_in (ok : Ok s) (h : inDay s y = true) : levelV s y = (hgt s.table y + s.lo, hgt s.table y + s.hi) := by unfold levelV; rw [if_pos (errAt_in ok h)]
theorem sAll_c (ok : Ok s) (h : inDay s y = true) (hl : Lists w s pT pF pS cT cF cS) :
    Calls Try.prog 42 #[sdVal s pT pF pS cT cF cS, .int .i64 y] w fun e w' => ∃ p c, e = .returned (.tuple #[.slice p (allV s y).length c, .int .i64 0]) ∧ (allV s y).length ≤ c ∧ c ≤ maxLen ∧ Row w' p 1 (ints (allV s y)) ∧ Up w w' := by
  have := All_c s y w hl
  rw [errAt_in ok h] at this
  exact this
theorem shAll_c (ok : Ok s) (ok' : Ok (shifted d s)) (h : inDay s y = true) (hl : Lists w (shifted d s) pT pF pS cT cF cS) :
    Calls Try.prog 42 #[shVal d s pT pF pS cT cF cS, .int .i64 y] w fun e w' => ∃ p c, e = .returned (.tuple #[.slice p (allV s y).length c, .int .i64 0]) ∧ (allV s y).length ≤ c ∧ c ≤ maxLen ∧ Row w' p 1 (ints (allV s y)) ∧ Up w w' := by
  have := sAll_c ok' (by rw [shifted_inDay]; exact h) hl
  rw [shVal_eq, shifted_allV ok ok'] at this
  exact this
theorem sLevel_c (ok : Ok s) (h : inDay s y = true) (hl : Lists w s pT pF pS cT cF cS) :
    Calls Try.prog 26 #[sdVal s pT pF pS cT cF cS, .int .i64 y] w fun e w' => e = .returned (.tuple #[.agg #[.int .i64 (hgt s.table y + s.lo), .int .i64 (hgt s.table y + s.hi)], .int .i64 0]) ∧ Up w w' := by
  have := Level_c s y w hl
  rw [errAt_in ok h, levelV_in ok h] at this
  exact this
theorem shLevel_c (ok : Ok s) (ok' : Ok (shifted d s)) (h : inDay s y = true) (hl : Lists w (shifted d s) pT pF pS cT cF cS) :
    Calls Try.prog 26 #[shVal d s pT pF pS cT cF cS, .int .i64 y] w fun e w' => e = .returned (.tuple #[.agg #[.int .i64 (hgt s.table y + s.lo), .int .i64 (hgt s.table y + s.hi)], .int .i64 0]) ∧ Up w w' := by
  have := Level_c (shifted d s) y w hl
  rw [shVal_eq, shifted_errAt ok ok', errAt_in ok h, shifted_levelV ok ok', levelV_in ok h] at this
  exact this
theorem shTurn_c (ok : Ok s) (ok' : Ok (shifted d s)) (x : Int) (hl : Lists w (shifted d s) pT pF pS cT cF cS) :
    Calls Try.prog 63 #[shVal d s pT pF pS cT cF cS, .int .i64 x, .int .i64 y] w fun e w' => e = .returned (.tuple #[.int .i64 (turnV s x y), .int .i64 (errTurn s x y)]) ∧ Up w w' := by
  have := Turn_c (shifted d s) x y w hl
  rw [shVal_eq, shifted_turnV ok ok', shifted_errTurn ok ok'] at this
  exact this
theorem errTurn_or (ok : Ok s) (x : Int) (hx : 0 ≤ x ∧ x < s.floors.length) (h : inDay s y = true) : errTurn s x y = 0 ∨ errTurn s x y = 6 := by
  have h1 : errFor s x = 0 := by
    unfold errFor
    rw [if_pos (chk_zero ok)]
    have : isPl s x = true := inB_true.2 (by omega)
    rw [this]; rfl
  unfold errTurn
  rw [if_pos h1, if_pos h]
  split
  · exact Or.inl rfl
  · exact Or.inr rfl
end
end

section
open Go.RowKit Go.Shelf

theorem flat_set : ∀ (l : List (Int × Int)) (k : Nat) (v : Int) (h : k < l.length), (pairs l).flatten.set (k * 2 + 1) (.int .i64 v) = (pairs (l.set k (l[k].1, v))).flatten
  | a :: r, 0, v, _ => rfl
  | a :: r, k + 1, v, h => by
    have hk : k < r.length := by simpa using h
    have ih := flat_set r k v hk
    show (.int .i64 a.1 :: .int .i64 a.2 :: (pairs r).flatten).set ((k + 1) * 2 + 1) (.int .i64 v) = .int .i64 a.1 :: .int .i64 a.2 :: (pairs (r.set k (r[k].1, v))).flatten
    rw [show (k + 1) * 2 + 1 = k * 2 + 1 + 1 + 1 by omega, List.set_cons_succ, List.set_cons_succ, ih]

/-- the first k lifted -/
def partly (d : Int) (l : List (Int × Int)) (k : Nat) : List (Int × Int) := (l.take k).map (lift d) ++ l.drop k
theorem partly_zero (d : Int) (l : List (Int × Int)) : partly d l 0 = l := by simp [partly]
theorem partly_all (d : Int) (l : List (Int × Int)) : partly d l l.length = l.map (lift d) := by simp [partly]
theorem partly_len (d : Int) (l : List (Int × Int)) (k : Nat) : (partly d l k).length = l.length := by
  unfold partly
  rw [List.length_append, List.length_map, List.length_take, List.length_drop]
  omega
theorem partly_at (d : Int) (l : List (Int × Int)) (k : Nat) (h : k < l.length) : (partly d l k)[k]'(by rw [partly_len]; exact h) = l[k] := by
  unfold partly
  rw [List.getElem_append_right (by rw [List.length_map, List.length_take]; omega)]
  simp only [List.length_map, List.length_take, List.getElem_drop]
  congr 1
  omega
theorem partly_step (d : Int) (l : List (Int × Int)) (k : Nat) (h : k < l.length) : (partly d l k).set k (l[k].1, l[k].2 + d) = partly d l (k + 1) := by
  unfold partly
  have e : ((l.take k).map (lift d)).length = k := by rw [List.length_map, List.length_take]; omega
  rw [List.set_append_right _ _ (by omega), e, Nat.sub_self, List.drop_eq_getElem_cons h, List.set_cons_zero]
  rw [List.take_succ_eq_append_getElem h, List.map_append, List.append_assoc]
  rfl

/-- a block of pairs: what its first cells are -/
def PairBlk (w : World) (g : Nat) (l : List (Int × Int)) : Prop := ∃ cur : List Value, Blk w g cur 103 ∧ cur.take (l.length * 2) = (pairs l).flatten
section
variable {w : World} {g n₀ k c : Nat} {l : List (Int × Int)} {d : Int} {p : Option Addr}
theorem PairBlk.cells (h : PairBlk w g l) (hk : k < l.length) : w.cell? ⟨g, k * 2, none⟩ = some (.int .i64 l[k].1) ∧ w.cell? ⟨g, k * 2 + 1, none⟩ = some (.int .i64 l[k].2) := by
  obtain ⟨cur, hb, ht⟩ := h
  have hx : (pairs l)[k]? = some [.int .i64 l[k].1, .int .i64 l[k].2] := by simp [pairs, hk]
  have c0 := flat_at 2 (pairs l) (flatOk_pairs l) k _ hx 0 (.int .i64 l[k].1) rfl
  have c1 := flat_at 2 (pairs l) (flatOk_pairs l) k _ hx 1 (.int .i64 l[k].2) rfl
  rw [← ht, List.getElem?_take_of_lt (by omega)] at c0 c1
  rw [hb.cell, hb.cell]
  exact ⟨c0, c1⟩
theorem PairBlk.free (h : PairBlk w g l) (i : Nat) : w.frozen? ⟨g, i, none⟩ = false := by
  obtain ⟨cur, hb, -⟩ := h
  exact hb.free i
theorem PairBlk.lt (h : PairBlk w g l) : g < w.heap.size := by
  obtain ⟨cur, hb, -⟩ := h
  exact hb.lt
theorem PairBlk.row (h : PairBlk w g l) : Row w (some ⟨g, 0, none⟩) 2 (pairs l) := by
  intro i row hi
  have hl : i < l.length := by have := (List.getElem?_eq_some_iff.1 hi).1; simpa [pairs] using this
  obtain ⟨cur, hb, ht⟩ := h
  refine ⟨g, 0, rfl, fun j x hj => ?_⟩
  have hr := flat_at 2 (pairs l) (flatOk_pairs l) i row hi j x hj
  have hj2 : j < 2 := by
    have h1 : row.length = 2 := by simp only [pairs, List.getElem?_map, Option.map_eq_some_iff] at hi; obtain ⟨y, -, rfl⟩ := hi; rfl
    have := (List.getElem?_eq_some_iff.1 hj).1
    omega
  rw [← ht, List.getElem?_take_of_lt (by omega)] at hr
  rw [hb.cell, Nat.zero_add]
  exact hr
theorem PairBlk.lift (h : PairBlk w g (partly d l k)) (hk : k < l.length) : PairBlk (w.setCell ⟨g, k * 2 + 1, none⟩ (.int .i64 (l[k].2 + d))) g (partly d l (k + 1)) := by
  obtain ⟨cur, hb, ht⟩ := h
  refine ⟨_, hb.set _ _, ?_⟩
  have hm : k < (partly d l k).length := by rw [partly_len]; exact hk
  rw [partly_len] at ht ⊢
  have hs := flat_set (partly d l k) k (l[k].2 + d) hm
  rw [partly_at d l k hk, partly_step d l k hk] at hs
  rw [← hs, ← ht, List.take_set]
theorem PairBlk.of (h : w.ownsRow n₀ 103 2 (.slice p l.length c) l.length (pairs l).flatten) (hl : 0 < l.length) : ∃ g, p = some ⟨g, 0, none⟩ ∧ n₀ ≤ g ∧ PairBlk w g l := by
  rcases h.2 with ⟨-, h0⟩ | ⟨g, cap, cur, h1, h2, h3, h4, h5, h6, h7⟩
  · omega
  · injection h1 with e1 e2 e3
    exact ⟨g, e1, h2, cur.toList, h3, h7⟩
/-- rows of another type lie elsewhere -/
theorem PairBlk.ne {E : TypeId} {m n : Nat} {q : Option Addr} {xs : List Value} (h : PairBlk w g l) (h' : w.ownsRow n₀ E m (.slice q n c) n xs) (hE : E ≠ 103) : ∀ b off, q = some ⟨b, off, none⟩ → b ≠ g := by
  intro b off e hb
  obtain ⟨cur, hc, -⟩ := h
  rcases h'.2 with ⟨h1, -⟩ | ⟨g', cap, cur', h1, h2, h3, h4⟩
  · injection h1 with e1 e2 e3
    rw [e1] at e; cases e
  · injection h1 with e1 e2 e3
    rw [e1] at e
    simp only [Option.some.injEq, Addr.mk.injEq] at e
    have hg : g' = g := by omega
    rw [hg] at h3
    have h5 := h3.symm.trans hc
    simp only [Option.some.injEq, Obj.cells.injEq] at h5
    exact hE h5.2.1
end
end

section
open Go.RowKit

theorem IsMade.ok {places sills : Nat} {s : Sd} (h : IsMade places sills s) (hp : places ≤ 8) (hs : sills ≤ 16) : Ok s := by
  obtain ⟨⟨a, ta, tb, tc, td⟩, t2, t4, lo, hi, f1, fn, fl, sn, sl⟩ := h
  refine ⟨⟨fun x hx => ?_, tb, t2, by omega⟩, f1, by omega, by omega, by omega, by omega, by omega, fun x hx => ?_, fun x hx => ?_, fun x hx => ?_, fun x hx => ?_⟩
  · have := ta x hx; omega
  · have := fl x hx; omega
  · have := (sl x hx).2.2.2; omega
  · obtain ⟨h1, h2, -, -⟩ := sl x hx; omega
  · exact (sl x hx).2.2.1
theorem IsMade.shift {places sills : Nat} {s : Sd} {d : Int} (h : IsMade places sills s) (hp : places ≤ 8) (hs : sills ≤ 16) (d0 : 0 ≤ d) (d1 : d ≤ 40) : Ok (shifted d s) := by
  refine shifted_ok (h.ok hp hs) d0 (fun x hx => ?_) (by have := h.lo; omega)
  obtain ⟨a, ta, -⟩ := h.table
  have := ta x hx; omega
end

section
open Go.RowKit Go.Shelf

section
variable {pT pF pS : Option Addr} {cT cF cS : Nat}
set_option maxRecDepth 100000 in
theorem firstL_c (s : Sd) (w : World) (hl : Lists w s pT pF pS cT cF cS) (h2 : 2 ≤ s.table.length) : Calls Try.prog 55 #[sdVal s pT pF pS cT cF cS] w fun e w' => e = .returned (.int .i64 (firstM s.table)) ∧ Up w w' := by
  obtain ⟨b, off, rfl, c0, -⟩ := hl.rt.pair 0 (by omega)
  have hb2 := cell_lt c0
  simp only [Nat.zero_mul, Nat.add_zero] at c0
  have E := Lib.hid (show firstM s.table = (s.table[0]'(by omega)).1 by simp [firstM, List.getElem?_eq_getElem (show 0 < s.table.length by omega)])
  have k : (0 : Int) < s.table.length := by omega
  clear hl
  unfold sdVal
  go_enter Try.func55, Try.ntmps55
  go_wp2
  go_ret
  exact ⟨ret_int E.out.symm, by (repeat (first | exact Below.refl _ _ | (with_reducible refine Below.drewN' ?_ _) | (with_reducible refine Below.drew ?_) | (with_reducible refine Below.setCell ?_ (by first | exact Nat.le_refl _ | omega | (with_reducible (repeat (first | refine sz_alloc ?_ | refine sz_setCell ?_ | refine sz_drew ?_ | refine sz_drewN ?_)); first | exact Nat.le_refl _ | omega) | (simp only [World.size_alloc, World.size_setCell, World.size_drew, size_drewN']; omega)) _) | (with_reducible refine Below.alloc ?_ (by first | exact Nat.le_refl _ | omega | (with_reducible (repeat (first | refine sz_alloc ?_ | refine sz_setCell ?_ | refine sz_drew ?_ | refine sz_drewN ?_)); first | exact Nat.le_refl _ | omega) | (simp only [World.size_alloc, World.size_setCell, World.size_drew, size_drewN']; omega)) _) | assumption))⟩

set_option maxRecDepth 100000 in
theorem lastL_c (s : Sd) (w : World) (hl : Lists w s pT pF pS cT cF cS) (h2 : 2 ≤ s.table.length) (h12 : s.table.length ≤ 12) : Calls Try.prog 56 #[sdVal s pT pF pS cT cF cS] w fun e w' => e = .returned (.int .i64 (lastM s.table)) ∧ Up w w' := by
  obtain ⟨b, off, rfl, c0, -⟩ := hl.rt.pair (s.table.length - 1) (by omega)
  have hb2 := cell_lt c0
  have E := Lib.hid (show lastM s.table = (s.table[s.table.length - 1]'(by omega)).1 by simp [lastM, List.getElem?_eq_getElem (show s.table.length - 1 < s.table.length by omega)])
  have k : (0 : Int) < s.table.length := by omega
  have k1 : ((s.table.length : Int) - 1) < s.table.length := by omega
  have k2 : (0 : Int) ≤ ((s.table.length : Int) - 1) := by omega
  have k3 : ((s.table.length : Int) - 1).toNat = s.table.length - 1 := by omega
  have s1 : IntKind.i64.wrap ((s.table.length : Int) - 1) = (s.table.length : Int) - 1 := IntWalk.i64_in _ (by omega)
  clear hl
  unfold sdVal
  go_enter Try.func56, Try.ntmps56
  go_wp2
  go_ret
  exact ⟨ret_int E.out.symm, by (repeat (first | exact Below.refl _ _ | (with_reducible refine Below.drewN' ?_ _) | (with_reducible refine Below.drew ?_) | (with_reducible refine Below.setCell ?_ (by first | exact Nat.le_refl _ | omega | (with_reducible (repeat (first | refine sz_alloc ?_ | refine sz_setCell ?_ | refine sz_drew ?_ | refine sz_drewN ?_)); first | exact Nat.le_refl _ | omega) | (simp only [World.size_alloc, World.size_setCell, World.size_drew, size_drewN']; omega)) _) | (with_reducible refine Below.alloc ?_ (by first | exact Nat.le_refl _ | omega | (with_reducible (repeat (first | refine sz_alloc ?_ | refine sz_setCell ?_ | refine sz_drew ?_ | refine sz_drewN ?_)); first | exact Nat.le_refl _ | omega) | (simp only [World.size_alloc, World.size_setCell, World.size_drew, size_drewN']; omega)) _) | assumption))⟩

/-- how the law rounds down -/
theorem round_down (a b : Int × Int) (m : Int) (h : a.1 < b.1) : (a.2 * (b.1 - a.1) + (b.2 - a.2) * (m - a.1) + 1000 * (b.1 - a.1)) / (b.1 - a.1) - 1000 = onL a b m := by
  unfold onL
  rw [Int.add_mul_ediv_right _ _ (by omega)]
  omega

set_option maxRecDepth 100000 in
set_option maxHeartbeats 1000000 in
theorem line_c (s : Sd) (m : Int) (w : World) (hl : Lists w s pT pF pS cT cF cS) (ok : okTable s.table) (hd : inDay s m = true) : Calls Try.prog 62 #[sdVal s pT pF pS cT cF cS, .int .i64 m] w fun e w' => e = .returned (.int .i64 (hgt s.table m)) ∧ Up w w' := by
  have HOK := Lib.hid ok
  obtain ⟨okx, oki, hl2, hl12⟩ := ok
  obtain ⟨d1, d2⟩ := inB_true.1 (show inB m (firstM s.table) (lastM s.table) = true from hd)
  have e1 : firstM s.table = (s.table[0]'(by omega)).1 := by simp [firstM, List.getElem?_eq_getElem (show 0 < s.table.length by omega)]
  have e2 : lastM s.table = (s.table[s.table.length - 1]'(by omega)).1 := by simp [lastM, List.getElem?_eq_getElem (show s.table.length - 1 < s.table.length by omega)]
  rw [e1] at d1
  rw [e2] at d2
  have hr := hl.rt
  have hc := hl.ct
  clear hl e1 e2 hd
  obtain ⟨l, lo, hi, fl, sl⟩ := s
  dsimp only at *
  have hl2' : 2 ≤ l.length := hl2
  have hl12' : l.length ≤ 12 := hl12
  obtain ⟨b, off, rfl, hc0, -⟩ := hr.pair 0 (by omega)
  have hbl := cell_lt hc0
  have kl : (0 : Int) < l.length := by omega
  clear hc0
  unfold sdVal
  go_enter Try.func62, Try.ntmps62
  go_wp2
  go_loopw [12] (fun i wr => ∃ k : Nat, k ≤ l.length ∧ i = .int .i64 k ∧ Up w wr ∧ Blk wr w.heap.size [.slice (some ⟨b, off, none⟩) l.length cT, .int .i64 lo, .int .i64 hi, .slice pF fl.length cF, .slice pS sl.length cS] 28 ∧ ∀ j (hj : j < l.length), j < k → l[j].1 < m) (fun i _ => l.length - (intOf i).toNat)
  case atStart => exact ⟨0, by omega, rfl, by (repeat (first | exact Below.refl _ _ | (with_reducible refine Below.drewN' ?_ _) | (with_reducible refine Below.drew ?_) | (with_reducible refine Below.setCell ?_ (by first | exact Nat.le_refl _ | omega | (with_reducible (repeat (first | refine sz_alloc ?_ | refine sz_setCell ?_ | refine sz_drew ?_ | refine sz_drewN ?_)); first | exact Nat.le_refl _ | omega) | (simp only [World.size_alloc, World.size_setCell, World.size_drew, size_drewN']; omega)) _) | (with_reducible refine Below.alloc ?_ (by first | exact Nat.le_refl _ | omega | (with_reducible (repeat (first | refine sz_alloc ?_ | refine sz_setCell ?_ | refine sz_drew ?_ | refine sz_drewN ?_)); first | exact Nat.le_refl _ | omega) | (simp only [World.size_alloc, World.size_setCell, World.size_drew, size_drewN']; omega)) _) | assumption)), Blk.new _ _ _, fun j _ h => by omega⟩
  case round =>
    obtain ⟨k, hk, rfl, hu, hB, hlow⟩ := hrel
    have HU := Lib.hid hu
    have HBk := Lib.hid hB
    have HLow := Lib.hid hlow
    have B0 := hB.cell 0
    have BL := hB.lt
    simp only [List.getElem?_cons_zero] at B0
    clear hu hB
    by_cases hlt : k < l.length
    · obtain ⟨b', off', e, hd0, hd1⟩ := hr.pair k hlt
      obtain ⟨rfl, rfl⟩ : b = b' ∧ off = off' := by simpa using e
      clear e
      have hd0' := HU.out.cellAt hd0
      have hd1' := HU.out.cellAt hd1
      have q1 : (k : Int) < l.length := by omega
      obtain ⟨x1, x2, x3, x4⟩ := okx l[k] (List.getElem_mem _)
      by_cases hm : l[k].1 = m
      · have HE : Hid (hgt l m = l[k].2) := Lib.hid (by rw [← hm]; exact hgt_knot HOK.out k hlt)
        go_wp2
        go_ret
        refine ⟨ret_int ?_, ?_⟩
        · rw [HE.out]
        · exact Up.trans HU.out (by (repeat (first | exact Below.refl _ _ | (with_reducible refine Below.drewN' ?_ _) | (with_reducible refine Below.drew ?_) | (with_reducible refine Below.setCell ?_ (by first | exact Nat.le_refl _ | omega | (with_reducible (repeat (first | refine sz_alloc ?_ | refine sz_setCell ?_ | refine sz_drew ?_ | refine sz_drewN ?_)); first | exact Nat.le_refl _ | omega) | (simp only [World.size_alloc, World.size_setCell, World.size_drew, size_drewN']; omega)) _) | (with_reducible refine Below.alloc ?_ (by first | exact Nat.le_refl _ | omega | (with_reducible (repeat (first | refine sz_alloc ?_ | refine sz_setCell ?_ | refine sz_drew ?_ | refine sz_drewN ?_)); first | exact Nat.le_refl _ | omega) | (simp only [World.size_alloc, World.size_setCell, World.size_drew, size_drewN']; omega)) _) | assumption)))
      · by_cases hg : m < l[k].1
        · have hk0 : 0 < k := by
            rcases Nat.eq_zero_or_pos k with h0 | h0
            · subst h0; omega
            · exact h0
          obtain ⟨i, rfl⟩ : ∃ i, k = i + 1 := ⟨k - 1, by omega⟩
          obtain ⟨b'', off'', e, ha0, ha1⟩ := hr.pair i (by omega)
          obtain ⟨rfl, rfl⟩ : b = b'' ∧ off = off'' := by simpa using e
          clear e
          have ha0' := HU.out.cellAt ha0
          have ha1' := HU.out.cellAt ha1
          obtain ⟨y1, y2, y3, y4⟩ := okx (l[i]'(by omega)) (List.getElem_mem _)
          have hlow' := hlow i (by omega) (by omega)
          have hlk := oki i hlt
          have HE : Hid (hgt l m = onL (l[i]'(by omega)) l[i + 1] m) := Lib.hid (hgt_seg l m i hlt (fun j hj _ h => hlow j hj (by omega)) (by omega))
          have k1 := mul_rng (l[i + 1].1 - (l[i]'(by omega)).1) (l[i]'(by omega)).2 1440 999 (by omega) (by omega) (by omega) (by omega) (by omega)
          have k2 := mul_rng (m - (l[i]'(by omega)).1) (l[i + 1].2 - (l[i]'(by omega)).2) 1440 999 (by omega) (by omega) (by omega) (by omega) (by omega)
          have k3 := onL_nonneg (l[i]'(by omega)).1 (l[i]'(by omega)).2 l[i + 1].1 l[i + 1].2 m hlk (by omega) (by omega) y3 x3
          have kr := round_down (l[i]'(by omega)) l[i + 1] m hlk
          generalize (l[i]'(by omega)).1 = m0 at *
          generalize (l[i]'(by omega)).2 = h0 at *
          generalize l[i + 1].1 = m1 at *
          generalize l[i + 1].2 = h1 at *
          obtain ⟨k4, k5⟩ := k1
          obtain ⟨k6, k7⟩ := k2
          have k8 : 0 ≤ (h0 * (m1 - m0) + (h1 - h0) * (m - m0) + 1000 * (m1 - m0)) / (m1 - m0) := Int.ediv_nonneg (by omega) (by omega)
          have k9 : (h0 * (m1 - m0) + (h1 - h0) * (m - m0) + 1000 * (m1 - m0)) / (m1 - m0) ≤ 9223372036854775807 := by
            have := Int.ediv_le_self (m1 - m0) (show 0 ≤ h0 * (m1 - m0) + (h1 - h0) * (m - m0) + 1000 * (m1 - m0) by omega)
            omega
          have s1 : IntKind.i64.wrap (((i + 1 : Nat) : Int) - 1) = (i : Int) := by rw [show ((i + 1 : Nat) : Int) - 1 = (i : Int) by omega]; exact IntWalk.i64_in _ (by omega)
          have q2 : (i : Int) < l.length := by omega
          have KR := Lib.hid (kr.trans HE.out.symm)
          have hbr := cell_lt ha0'
          clear hd0 hd1 ha0 ha1 hlow kr HE okx oki d1 d2
          go_wp2
          go_ret
          exact ⟨ret_int KR.out, Up.trans HU.out (by (repeat (first | exact Below.refl _ _ | (with_reducible refine Below.drewN' ?_ _) | (with_reducible refine Below.drew ?_) | (with_reducible refine Below.setCell ?_ (by first | exact Nat.le_refl _ | omega | (with_reducible (repeat (first | refine sz_alloc ?_ | refine sz_setCell ?_ | refine sz_drew ?_ | refine sz_drewN ?_)); first | exact Nat.le_refl _ | omega) | (simp only [World.size_alloc, World.size_setCell, World.size_drew, size_drewN']; omega)) _) | (with_reducible refine Below.alloc ?_ (by first | exact Nat.le_refl _ | omega | (with_reducible (repeat (first | refine sz_alloc ?_ | refine sz_setCell ?_ | refine sz_drew ?_ | refine sz_drewN ?_)); first | exact Nat.le_refl _ | omega) | (simp only [World.size_alloc, World.size_setCell, World.size_drew, size_drewN']; omega)) _) | assumption)))⟩
        · go_wp2
          go_roundw
          case rel =>
            refine ⟨k + 1, by omega, by go_num, Up.trans HU.out (by (repeat (first | exact Below.refl _ _ | (with_reducible refine Below.drewN' ?_ _) | (with_reducible refine Below.drew ?_) | (with_reducible refine Below.setCell ?_ (by first | exact Nat.le_refl _ | omega | (with_reducible (repeat (first | refine sz_alloc ?_ | refine sz_setCell ?_ | refine sz_drew ?_ | refine sz_drewN ?_)); first | exact Nat.le_refl _ | omega) | (simp only [World.size_alloc, World.size_setCell, World.size_drew, size_drewN']; omega)) _) | (with_reducible refine Below.alloc ?_ (by first | exact Nat.le_refl _ | omega | (with_reducible (repeat (first | refine sz_alloc ?_ | refine sz_setCell ?_ | refine sz_drew ?_ | refine sz_drewN ?_)); first | exact Nat.le_refl _ | omega) | (simp only [World.size_alloc, World.size_setCell, World.size_drew, size_drewN']; omega)) _) | assumption))), HBk.out.alloc _, fun j hj h => ?_⟩
            rcases Nat.lt_or_ge j k with h1 | h1
            · exact HLow.out j hj h1
            · obtain rfl : j = k := by omega
              omega
          case measure => simp [intOf]; omega
    · exfalso
      have := hlow (l.length - 1) (by omega) (by omega)
      omega
end
end
end Go.Proofs.Ytcljkkojeleakaa
/- Plain facts: the lowering of gates as a row of updates; gates of raised sands, and of sands with one sill more. -/
namespace Go.Proofs.Ytcljkkojeleakaa
section
open Go.RowKit

/-- what a sill lowers that leads on from a place: which gate, and to what at most -/
def up1 (F : List Int) (f : Int) (x : Int × Int × Int) : Option (Nat × Int) :=
  if 0 ≤ other x f ∧ (other x f).toNat < F.length then some ((other x f).toNat, grt [x.2.2, F[(other x f).toNat]?.getD 0]) else none
def ap1 (g : List Int) (u : Nat × Int) : List Int := g.set u.1 (min (g[u.1]?.getD 0) u.2)
def ap2 (f : Nat) (g : List Int) (u : Nat × Int) : List Int := g.set u.1 (min (g[u.1]?.getD 0) (grt [g[f]?.getD 0, u.2]))

/-- a lead as an update -/
def ofLead (s : Sd) (x : Lead s.sills.length s.floors.length) : Nat × Int := (x.1.2, grt [(s.sills[x.1.1]'x.2.1).2.2, s.floors[x.1.2]'x.2.2])
theorem lead1_up (s : Sd) (f : Int) (i : Nat) : (lead1 s.sills s.floors.length f i).map (ofLead s) = if i < s.sills.length then up1 s.floors f (s.sills[i]?.getD (0, 0, 0)) else none := by
  unfold lead1 up1
  by_cases hi : i < s.sills.length
  · rw [if_pos hi]
    have e : s.sills[i] = s.sills[i]?.getD (0, 0, 0) := by rw [List.getElem?_eq_getElem hi]; rfl
    by_cases h : 0 ≤ other (s.sills[i]?.getD (0, 0, 0)) f ∧ (other (s.sills[i]?.getD (0, 0, 0)) f).toNat < s.floors.length
    · rw [dif_pos ⟨hi, h⟩, if_pos h]
      simp only [Option.map_some, ofLead]
      rw [e, List.getElem?_eq_getElem h.2, Option.getD_some]
    · rw [dif_neg (fun h' => h h'.2), if_neg h]; rfl
  · rw [if_neg hi, dif_neg (fun h' => hi h'.1)]; rfl
theorem fm_congr {α β : Type} {l : List α} {f g : α → Option β} (h : ∀ x ∈ l, f x = g x) : l.filterMap f = l.filterMap g := by
  induction l with
  | nil => rfl
  | cons a r ih => rw [List.filterMap_cons, List.filterMap_cons, h a (by simp), ih (fun x hx => h x (by simp [hx]))]
theorem filterMap_range {α β : Type} (l : List α) (d : α) (q : α → Option β) : (List.range l.length).filterMap (fun i => if i < l.length then q (l[i]?.getD d) else none) = l.filterMap q := by
  have e : l = (List.range l.length).map (fun i => l[i]?.getD d) := by
    apply List.ext_getElem
    · simp
    · intro i h1 h2; simp [List.getElem?_eq_getElem h1]
  conv => rhs; rw [e]
  rw [List.filterMap_map]
  apply fm_congr
  intro i hi
  rw [List.mem_range] at hi
  simp [hi]
theorem leads_up (s : Sd) (f : Int) : (leads s.sills s.floors.length f s.sills.length).map (ofLead s) = s.sills.filterMap (up1 s.floors f) := by
  unfold leads
  rw [List.map_filterMap, ← filterMap_range s.sills (0, 0, 0)]
  apply fm_congr
  intro i _
  exact lead1_up s f i
theorem lowSea_up (s : Sd) (g : List Int) : lowSea s g = (s.sills.filterMap (up1 s.floors (-1))).foldl ap1 g := by
  unfold lowSea
  rw [← leads_up, List.foldl_map]
  rfl
theorem lowFrom_up (s : Sd) (f : Nat) (g : List Int) : lowFrom s g f = (s.sills.filterMap (up1 s.floors f)).foldl (ap2 f) g := by
  unfold lowFrom
  rw [← leads_up, List.foldl_map]
  rfl

theorem grt2 (a b : Int) : grt [a, b] = max (max 0 a) b := rfl

/-- gates that are as low, or lower -/
def Leq (g g' : List Int) : Prop := g.length = g'.length ∧ ∀ i : Nat, g[i]?.getD 0 ≤ g'[i]?.getD 0 ∧ (g[i]?.getD 0 < 1050 → g'[i]?.getD 0 < 1050)
theorem Leq.refl (g : List Int) : Leq g g := ⟨rfl, fun _ => ⟨Int.le_refl _, id⟩⟩
theorem Leq.set {a b : List Int} (h : Leq a b) (t : Nat) {c d : Int} (hc : c ≤ d) (hd : c < 1050 → d < 1050) : Leq (a.set t (min (a[t]?.getD 0) c)) (b.set t (min (b[t]?.getD 0) d)) := by
  refine ⟨by simp [h.1], fun i => ?_⟩
  have h1 := h.2 i
  have h0 := h.1
  rw [List.getElem?_set, List.getElem?_set]
  by_cases hi : t = i
  · subst hi
    by_cases hl : t < a.length
    · have hl' : t < b.length := by omega
      simp only [if_true, hl, hl', Option.getD_some]
      omega
    · have hl' : ¬ t < b.length := by omega
      simp [hl, hl']
  · rw [if_neg hi, if_neg hi]; exact h1

/-- sills of which some are higher, and floors -/
inductive HiS : List (Int × Int × Int) → List (Int × Int × Int) → Prop
  | nil : HiS [] []
  | cons {a b h h' : Int} {r r' : List (Int × Int × Int)} : h ≤ h' → h' ≤ 999 → HiS r r' → HiS ((a, b, h) :: r) ((a, b, h') :: r')
def HiF (F F' : List Int) : Prop := F.length = F'.length ∧ ∀ i : Nat, F[i]?.getD 0 ≤ F'[i]?.getD 0 ∧ F'[i]?.getD 0 ≤ 999
theorem HiS.refl : ∀ {l : List (Int × Int × Int)}, (∀ x ∈ l, x.2.2 ≤ 999) → HiS l l
  | [], _ => .nil
  | (a, b, h) :: r, k => .cons (Int.le_refl _) (k (a, b, h) (by simp)) (HiS.refl (fun x hx => k x (by simp [hx])))
theorem HiS.at : ∀ {l : List (Int × Int × Int)} (i : Nat) (d : Int) (hi : i < l.length), 0 ≤ d → (∀ x ∈ l, x.2.2 ≤ 999) → l[i].2.2 + d ≤ 999 → HiS l (l.set i (l[i].1, l[i].2.1, l[i].2.2 + d))
  | (a, b, h) :: r, 0, d, _, h0, k, k9 => .cons (show h ≤ h + d by omega) k9 (HiS.refl (fun x hx => k x (by simp [hx])))
  | (a, b, h) :: r, i + 1, d, hi, h0, k, k9 => by
    have hi' : i < r.length := by simpa using hi
    exact .cons (Int.le_refl _) (k (a, b, h) (by simp)) (HiS.at i d hi' h0 (fun x hx => k x (by simp [hx])) (by simpa using k9))
theorem HiF.refl {F : List Int} (h : ∀ x ∈ F, x ≤ 999) : HiF F F := ⟨rfl, fun i => ⟨Int.le_refl _, by
  by_cases hi : i < F.length
  · rw [List.getElem?_eq_getElem hi]; exact h _ (List.getElem_mem _)
  · rw [List.getElem?_eq_none (by omega)]; decide⟩⟩
theorem HiF.at {F : List Int} (i : Nat) (d : Int) (hi : i < F.length) (d0 : 0 ≤ d) (h : ∀ x ∈ F, x ≤ 999) (h9 : F[i] + d ≤ 999) : HiF F (F.set i (F[i] + d)) := by
  refine ⟨by simp, fun j => ?_⟩
  have k := (HiF.refl h).2 j
  rw [List.getElem?_set]
  by_cases hj : i = j
  · subst hj
    rw [if_pos rfl, if_pos hi, List.getElem?_eq_getElem hi]
    simp only [Option.getD_some]
    omega
  · rw [if_neg hj]; exact k

theorem hi_ap1 {F F' : List Int} (hF : HiF F F') (f : Int) {l l' : List (Int × Int × Int)} (hS : HiS l l') : ∀ {g g' : List Int}, Leq g g' → Leq ((l.filterMap (up1 F f)).foldl ap1 g) ((l'.filterMap (up1 F' f)).foldl ap1 g') := by
  induction hS with
  | nil => exact fun h => h
  | @cons a b h h' r r' hh h9 _ ih =>
    intro g g' hg
    have eo : other (a, b, h') f = other (a, b, h) f := rfl
    by_cases hc : 0 ≤ other (a, b, h) f ∧ (other (a, b, h) f).toNat < F.length
    · have e1 : up1 F f (a, b, h) = some ((other (a, b, h) f).toNat, grt [h, F[(other (a, b, h) f).toNat]?.getD 0]) := if_pos hc
      have e2 : up1 F' f (a, b, h') = some ((other (a, b, h) f).toNat, grt [h', F'[(other (a, b, h) f).toNat]?.getD 0]) := if_pos (by rw [← hF.1]; exact hc)
      rw [List.filterMap_cons_some e1, List.filterMap_cons_some e2, List.foldl_cons, List.foldl_cons]
      refine ih (hg.set _ ?_ ?_)
      · have := hF.2 (other (a, b, h) f).toNat
        simp only [grt2]; omega
      · have := hF.2 (other (a, b, h) f).toNat
        simp only [grt2]; omega
    · have e1 : up1 F f (a, b, h) = none := if_neg hc
      have e2 : up1 F' f (a, b, h') = none := if_neg (by rw [← hF.1]; exact hc)
      rw [List.filterMap_cons_none e1, List.filterMap_cons_none e2]
      exact ih hg
theorem hi_ap2 {F F' : List Int} (hF : HiF F F') (f : Nat) {l l' : List (Int × Int × Int)} (hS : HiS l l') : ∀ {g g' : List Int}, Leq g g' → Leq ((l.filterMap (up1 F f)).foldl (ap2 f) g) ((l'.filterMap (up1 F' f)).foldl (ap2 f) g') := by
  induction hS with
  | nil => exact fun h => h
  | @cons a b h h' r r' hh h9 _ ih =>
    intro g g' hg
    have eo : other (a, b, h') f = other (a, b, h) f := rfl
    by_cases hc : 0 ≤ other (a, b, h) f ∧ (other (a, b, h) f).toNat < F.length
    · have e1 : up1 F f (a, b, h) = some ((other (a, b, h) f).toNat, grt [h, F[(other (a, b, h) f).toNat]?.getD 0]) := if_pos hc
      have e2 : up1 F' f (a, b, h') = some ((other (a, b, h) f).toNat, grt [h', F'[(other (a, b, h) f).toNat]?.getD 0]) := if_pos (by rw [← hF.1]; exact hc)
      rw [List.filterMap_cons_some e1, List.filterMap_cons_some e2, List.foldl_cons, List.foldl_cons]
      have h1 := hF.2 (other (a, b, h) f).toNat
      have h2 := hg.2 f
      refine ih (hg.set _ ?_ ?_)
      · simp only [grt2]; omega
      · simp only [grt2]; omega
    · have e1 : up1 F f (a, b, h) = none := if_neg hc
      have e2 : up1 F' f (a, b, h') = none := if_neg (by rw [← hF.1]; exact hc)
      rw [List.filterMap_cons_none e1, List.filterMap_cons_none e2]
      exact ih hg
theorem hi_lowered {s t : Sd} (hF : HiF s.floors t.floors) (hS : HiS s.sills t.sills) {g g' : List Int} (hg : Leq g g') : Leq (lowered s g) (lowered t g') := by
  unfold lowered
  rw [← hF.1]
  have h0 : Leq (lowSea s g) (lowSea t g') := by rw [lowSea_up, lowSea_up]; exact hi_ap1 hF _ hS hg
  generalize lowSea s g = a at *
  generalize lowSea t g' = b at *
  generalize List.range s.floors.length = l
  induction l generalizing a b with
  | nil => exact h0
  | cons x r ih =>
    refine ih _ _ ?_
    rw [lowFrom_up, lowFrom_up]
    exact hi_ap2 hF _ hS h0

/-- lowered so many times -/
def iterG (s : Sd) : Nat → List Int → List Int
  | 0, g => g
  | n + 1, g => iterG s n (lowered s g)
theorem iterG_fix {s : Sd} {g : List Int} (h : lowered s g = g) : ∀ n, iterG s n g = g
  | 0 => rfl
  | n + 1 => by unfold iterG; rw [h]; exact iterG_fix h n
theorem fixG_iter (s : Sd) : ∀ n g, fixG s n g = iterG s n g
  | 0, g => rfl
  | n + 1, g => by
    unfold fixG
    split
    · next h => exact (iterG_fix h (n + 1)).symm
    · exact fixG_iter s n _
theorem hi_iter {s t : Sd} (hF : HiF s.floors t.floors) (hS : HiS s.sills t.sills) : ∀ n {g g' : List Int}, Leq g g' → Leq (iterG s n g) (iterG t n g')
  | 0, _, _, h => h
  | n + 1, _, _, h => hi_iter hF hS n (hi_lowered hF hS h)
theorem hi_gts {s t : Sd} (hF : HiF s.floors t.floors) (hS : HiS s.sills t.sills) : Leq (gts s) (gts t) := by
  unfold gts
  rw [fixG_iter, fixG_iter]
  exact hi_iter hF hS _ (Leq.refl _)

/-- with one sill more -/
def Geq (g g' : List Int) : Prop := g.length = g'.length ∧ ∀ i : Nat, g'[i]?.getD 0 ≤ g[i]?.getD 0
theorem Geq.set {a b : List Int} (h : Geq a b) (t : Nat) {c d : Int} (hc : d ≤ c) : Geq (a.set t (min (a[t]?.getD 0) c)) (b.set t (min (b[t]?.getD 0) d)) := by
  refine ⟨by simp [h.1], fun i => ?_⟩
  have h1 := h.2 i
  have h0 := h.1
  rw [List.getElem?_set, List.getElem?_set]
  by_cases hi : t = i
  · subst hi
    by_cases hl : t < a.length
    · have hl' : t < b.length := by omega
      simp only [if_true, hl, hl', Option.getD_some]
      omega
    · have hl' : ¬ t < b.length := by omega
      simp [hl, hl']
  · rw [if_neg hi, if_neg hi]; exact h1
theorem Geq.right {a b : List Int} (h : Geq a b) (t : Nat) (d : Int) : Geq a (b.set t (min (b[t]?.getD 0) d)) := by
  refine ⟨by simp [h.1], fun i => ?_⟩
  have h1 := h.2 i
  rw [List.getElem?_set]
  by_cases hi : t = i
  · subst hi
    by_cases hl : t < b.length
    · simp only [if_true, hl, Option.getD_some]
      omega
    · have hl' : ¬ t < a.length := by have := h.1; omega
      simp [hl, hl']
  · rw [if_neg hi]; exact h1
theorem more_ap1 (F : List Int) (f : Int) (l e : List (Int × Int × Int)) {g g' : List Int} (hg : Geq g g') : Geq ((l.filterMap (up1 F f)).foldl ap1 g) (((l ++ e).filterMap (up1 F f)).foldl ap1 g') := by
  rw [List.filterMap_append, List.foldl_append]
  have h0 : Geq ((l.filterMap (up1 F f)).foldl ap1 g) ((l.filterMap (up1 F f)).foldl ap1 g') := by
    generalize l.filterMap (up1 F f) = k
    induction k generalizing g g' with
    | nil => exact hg
    | cons x r ih => exact ih (hg.set _ (Int.le_refl _))
  generalize (l.filterMap (up1 F f)).foldl ap1 g = a at *
  generalize (l.filterMap (up1 F f)).foldl ap1 g' = b at *
  generalize e.filterMap (up1 F f) = k
  induction k generalizing b with
  | nil => exact h0
  | cons x r ih => exact ih _ (h0.right _ _)
theorem more_ap2 (F : List Int) (f : Nat) (l e : List (Int × Int × Int)) {g g' : List Int} (hg : Geq g g') : Geq ((l.filterMap (up1 F f)).foldl (ap2 f) g) (((l ++ e).filterMap (up1 F f)).foldl (ap2 f) g') := by
  rw [List.filterMap_append, List.foldl_append]
  have h0 : Geq ((l.filterMap (up1 F f)).foldl (ap2 f) g) ((l.filterMap (up1 F f)).foldl (ap2 f) g') := by
    generalize l.filterMap (up1 F f) = k
    induction k generalizing g g' with
    | nil => exact hg
    | cons x r ih =>
      refine ih (hg.set _ ?_)
      have := hg.2 f
      simp only [grt2]; omega
  generalize (l.filterMap (up1 F f)).foldl (ap2 f) g = a at *
  generalize (l.filterMap (up1 F f)).foldl (ap2 f) g' = b at *
  generalize e.filterMap (up1 F f) = k
  induction k generalizing b with
  | nil => exact h0
  | cons x r ih => exact ih _ (h0.right _ _)
theorem more_lowered {s t : Sd} {e : List (Int × Int × Int)} (hF : t.floors = s.floors) (hS : t.sills = s.sills ++ e) {g g' : List Int} (hg : Geq g g') : Geq (lowered s g) (lowered t g') := by
  unfold lowered
  rw [hF]
  have h0 : Geq (lowSea s g) (lowSea t g') := by rw [lowSea_up, lowSea_up, hF, hS]; exact more_ap1 _ _ _ _ hg
  generalize lowSea s g = a at *
  generalize lowSea t g' = b at *
  generalize List.range s.floors.length = l
  induction l generalizing a b with
  | nil => exact h0
  | cons x r ih =>
    refine ih _ _ ?_
    rw [lowFrom_up, lowFrom_up, hF, hS]
    exact more_ap2 _ _ _ _ h0
theorem more_iter {s t : Sd} {e : List (Int × Int × Int)} (hF : t.floors = s.floors) (hS : t.sills = s.sills ++ e) : ∀ n {g g' : List Int}, Geq g g' → Geq (iterG s n g) (iterG t n g')
  | 0, _, _, h => h
  | n + 1, _, _, h => more_iter hF hS n (more_lowered hF hS h)
theorem more_gts {s t : Sd} {e : List (Int × Int × Int)} (hF : t.floors = s.floors) (hS : t.sills = s.sills ++ e) : Geq (gts s) (gts t) := by
  unfold gts
  rw [fixG_iter, fixG_iter]
  exact more_iter hF hS _ ⟨rfl, fun _ => Int.le_refl _⟩

/-- no gate is above 1050 -/
theorem iter_less (s : Sd) : ∀ n {g : List Int}, Less top g → Less top (iterG s n g)
  | 0, _, h => h
  | n + 1, g, h => iter_less s n (h.trans (lowered_less s g (fun i => (h.2 i).1)))
theorem gts_le (s : Sd) (p : Nat) : 0 ≤ gateOf s p ∧ gateOf s p ≤ 1050 := by
  have h : Less top (gts s) := by
    unfold gts
    rw [fixG_iter]
    exact iter_less s _ (Less.refl top_nonneg)
  have h1 := h.2 p
  have h2 : top[p]?.getD 0 ≤ 1050 := by
    unfold top
    rw [List.getElem?_replicate]
    split <;> simp
  unfold gateOf
  omega
theorem hasWay_lt (s : Sd) (p : Nat) : hasWayB s p = decide (gateOf s p < 1050) := by
  have hg := gts_le s p
  unfold gateOf at hg ⊢
  unfold hasWayB
  generalize (gts s)[p]?.getD 0 = g at *
  by_cases h : g = 1050
  · subst h; rfl
  · rw [decide_eq_true (show g < 1050 by omega), bne_iff_ne]; exact h

section
variable {s t : Sd}
theorem errFor_in (ok : Ok s) {x : Int} (h : 0 ≤ x ∧ x < s.floors.length) : errFor s x = 0 := by
  unfold errFor
  rw [if_pos (chk_zero ok)]
  have : isPl s x = true := inB_true.2 (by omega)
  rw [this]; rfl
theorem errGate_in (ok : Ok s) {x : Int} (h : 0 ≤ x ∧ x < s.floors.length) : errGate s x = if gateOf s x.toNat < 1050 then 0 else 6 := by
  unfold errGate
  rw [if_pos (errFor_in ok h), hasWay_lt]
  by_cases h : gateOf s x.toNat < 1050 <;> simp [h]
theorem gateV_in (ok : Ok s) {x : Int} (h : 0 ≤ x ∧ x < s.floors.length) : gateV s x = if gateOf s x.toNat < 1050 then gateOf s x.toNat else 0 := by
  unfold gateV
  rw [errGate_in ok h]
  by_cases h : gateOf s x.toNat < 1050 <;> simp [h]
/-- raised: the same errors, no lesser gates, no greater states -/
theorem hi_gate (ok : Ok s) (ok' : Ok t) (hF : HiF s.floors t.floors) (hS : HiS s.sills t.sills) {x : Int} (h : 0 ≤ x ∧ x < s.floors.length) : errGate t x = errGate s x ∧ gateV s x ≤ gateV t x := by
  have h' : 0 ≤ x ∧ x < t.floors.length := by rw [← hF.1]; exact h
  have k := (hi_gts hF hS).2 x.toNat
  rw [errGate_in ok h, errGate_in ok' h', gateV_in ok h, gateV_in ok' h']
  unfold gateOf at *
  by_cases c : (gts s)[x.toNat]?.getD 0 < 1050
  · have c' := k.2 c
    rw [if_pos c, if_pos c', if_pos c, if_pos c']
    exact ⟨rfl, k.1⟩
  · have c' : ¬ (gts t)[x.toNat]?.getD 0 < 1050 := by omega
    rw [if_neg c, if_neg c', if_neg c, if_neg c']
    exact ⟨rfl, Int.le_refl _⟩
theorem hi_st (hF : HiF s.floors t.floors) (hS : HiS s.sills t.sills) (hT : t.table = s.table) (hl : t.lo = s.lo) (hh : t.hi = s.hi) (m : Int) (p : Nat) : st t m p ≤ st s m p := by
  have k := (hi_gts hF hS).2 p
  unfold st gateOf
  rw [hT, hl, hh]
  repeat' split
  all_goals omega
theorem more_gate {e : List (Int × Int × Int)} (ok : Ok s) (ok' : Ok t) (hF : t.floors = s.floors) (hS : t.sills = s.sills ++ e) {x : Int} (h : 0 ≤ x ∧ x < s.floors.length) : errGate s x = 0 → errGate t x = 0 ∧ gateV t x ≤ gateV s x := by
  have h' : 0 ≤ x ∧ x < t.floors.length := by rw [hF]; exact h
  have k := (more_gts hF hS).2 x.toNat
  rw [errGate_in ok h, errGate_in ok' h', gateV_in ok h, gateV_in ok' h']
  unfold gateOf at *
  by_cases c : (gts s)[x.toNat]?.getD 0 < 1050
  · have c' : (gts t)[x.toNat]?.getD 0 < 1050 := by omega
    rw [if_pos c, if_pos c', if_pos c, if_pos c']
    exact fun _ => ⟨rfl, k⟩
  · rw [if_neg c]
    exact fun h => by cases h
theorem more_st {e : List (Int × Int × Int)} (hF : t.floors = s.floors) (hS : t.sills = s.sills ++ e) (hT : t.table = s.table) (hl : t.lo = s.lo) (hh : t.hi = s.hi) (m : Int) (p : Nat) : st s m p ≤ st t m p := by
  have k := (more_gts hF hS).2 p
  unfold st gateOf
  rw [hT, hl, hh]
  repeat' split
  all_goals omega
end
end
end Go.Proofs.Ytcljkkojeleakaa
/- Plain facts: the gates that the law finds by itself, letting the water rise from height to height, are the gates of the layer. -/
namespace Go.Proofs.Ytcljkkojeleakaa
section
open Go.RowKit

/-! what no sill lowers any more -/
theorem fixG_fix (s : Sd) : ∀ (n : Nat) (g : List Int), (∀ i : Nat, 0 ≤ g[i]?.getD 0) → g.sum < n → lowered s (fixG s n g) = fixG s n g
  | 0, g, h0, hs => by
    have := (sum_less g g (Less.refl h0)).2.2
    omega
  | n + 1, g, h0, hs => by
    unfold fixG
    split
    · assumption
    · next hne =>
      have hl := lowered_less s g h0
      have := (sum_less g (lowered s g) hl).2.1 hne
      exact fixG_fix s n (lowered s g) (fun i => (hl.2 i).1) (by omega)
theorem gts_fix (s : Sd) : lowered s (gts s) = gts s := fixG_fix s 9000 top top_nonneg (by decide)

theorem ap1_down : ∀ (l : List (Nat × Int)) (g : List Int) (i : Nat), i < g.length → (l.foldl ap1 g)[i]?.getD 0 ≤ g[i]?.getD 0
  | [], _, _, _ => Int.le_refl _
  | u :: r, g, i, hi => by
    refine Int.le_trans (ap1_down r (ap1 g u) i (by simp [ap1, hi])) ?_
    unfold ap1
    rw [List.getElem?_set]
    split
    · next h => subst h; rw [if_pos hi, Option.getD_some]; omega
    · exact Int.le_refl _
theorem ap2_down (f : Nat) : ∀ (l : List (Nat × Int)) (g : List Int) (i : Nat), i < g.length → (l.foldl (ap2 f) g)[i]?.getD 0 ≤ g[i]?.getD 0
  | [], _, _, _ => Int.le_refl _
  | u :: r, g, i, hi => by
    refine Int.le_trans (ap2_down f r (ap2 f g u) i (by simp [ap2, hi])) ?_
    unfold ap2
    rw [List.getElem?_set]
    split
    · next h => subst h; rw [if_pos hi, Option.getD_some]; omega
    · exact Int.le_refl _
theorem ap1_hit : ∀ (l : List (Nat × Int)) (g : List Int) (u : Nat × Int), u ∈ l → u.1 < g.length → (l.foldl ap1 g)[u.1]?.getD 0 ≤ u.2
  | v :: r, g, u, hu, hl => by
    have hl' : u.1 < (ap1 g v).length := by simp [ap1, hl]
    rcases List.mem_cons.1 hu with rfl | hu
    · refine Int.le_trans (ap1_down r _ u.1 hl') ?_
      unfold ap1
      rw [List.getElem?_set_self hl, Option.getD_some]
      omega
    · exact ap1_hit r _ u hu hl'
theorem ap2_hit (f : Nat) : ∀ (l : List (Nat × Int)) (g : List Int) (u : Nat × Int), u ∈ l → u.1 < g.length → f < g.length → (l.foldl (ap2 f) g)[u.1]?.getD 0 ≤ max (max 0 (g[f]?.getD 0)) u.2
  | v :: r, g, u, hu, hl, hf => by
    have hl' : u.1 < (ap2 f g v).length := by simp [ap2, hl]
    rcases List.mem_cons.1 hu with rfl | hu
    · refine Int.le_trans (ap2_down f r _ u.1 hl') ?_
      unfold ap2
      rw [List.getElem?_set_self hl, Option.getD_some, grt2]
      omega
    · have h1 := ap2_hit f r _ u hu hl' (by simp [ap2, hf])
      have h2 := ap2_down f [v] g f hf
      simp only [List.foldl_cons, List.foldl_nil] at h2
      show (r.foldl (ap2 f) (ap2 f g v))[u.1]?.getD 0 ≤ _
      omega
theorem low_len (s : Sd) (l : List Nat) (g : List Int) (h : g.length = 8) : (l.foldl (lowFrom s) g).length = 8 := lowFroms_len s l g h
theorem froms_down (s : Sd) : ∀ (l : List Nat) (g : List Int), g.length = 8 → ∀ i, i < 8 → (l.foldl (lowFrom s) g)[i]?.getD 0 ≤ g[i]?.getD 0
  | [], _, _, _, _ => Int.le_refl _
  | f :: r, g, hg, i, hi => by
    have hl : (lowFrom s g f).length = 8 := low2_len s f _ _ hg
    refine Int.le_trans (froms_down s r (lowFrom s g f) hl i hi) ?_
    rw [lowFrom_up]
    exact ap2_down f _ g i (by omega)
theorem froms_hit (s : Sd) : ∀ (l : List Nat) (g : List Int), g.length = 8 → ∀ f ∈ l, f < 8 → ∀ u ∈ s.sills.filterMap (up1 s.floors f), u.1 < 8 → (l.foldl (lowFrom s) g)[u.1]?.getD 0 ≤ max (max 0 (g[f]?.getD 0)) u.2
  | e :: r, g, hg, f, hf, h8, u, hu, hu8 => by
    have hl : (lowFrom s g e).length = 8 := low2_len s e _ _ hg
    rcases List.mem_cons.1 hf with rfl | hf
    · refine Int.le_trans (froms_down s r _ hl u.1 hu8) ?_
      rw [lowFrom_up]
      exact ap2_hit f _ g u hu (by omega) (by omega)
    · have h1 := froms_hit s r _ hl f hf h8 u hu hu8
      have h2 : (lowFrom s g e)[f]?.getD 0 ≤ g[f]?.getD 0 := by rw [lowFrom_up]; exact ap2_down e _ g f (by omega)
      show (r.foldl (lowFrom s) (lowFrom s g e))[u.1]?.getD 0 ≤ _
      omega
/-- what a sill joins: no gate is above what lets water over it -/
theorem gate_sea (s : Sd) (h8 : s.floors.length ≤ 8) (x : Int × Int × Int) (hx : x ∈ s.sills) (b : Nat) (hb : other x (-1) = b) (hbl : b < s.floors.length) : gateOf s b ≤ max (max 0 x.2.2) (s.floors[b]?.getD 0) := by
  have hu : (b, grt [x.2.2, s.floors[b]?.getD 0]) ∈ s.sills.filterMap (up1 s.floors (-1)) := by
    refine List.mem_filterMap.2 ⟨x, hx, ?_⟩
    unfold up1
    rw [hb, if_pos ⟨by omega, by simpa using hbl⟩]
    rfl
  have h0 : (lowSea s (gts s))[b]?.getD 0 ≤ max (max 0 x.2.2) (s.floors[b]?.getD 0) := by
    rw [lowSea_up]
    exact ap1_hit _ _ _ hu (by rw [gts_len]; exact Nat.lt_of_lt_of_le hbl h8)
  have h1 := froms_down s (List.range s.floors.length) (lowSea s (gts s)) (low1_len s _ _ (gts_len s)) b (by omega)
  have h2 := gts_fix s
  unfold lowered at h2
  rw [h2] at h1
  unfold gateOf
  omega
theorem gate_from (s : Sd) (h8 : s.floors.length ≤ 8) (x : Int × Int × Int) (hx : x ∈ s.sills) (f b : Nat) (hf : f < s.floors.length) (hb : other x f = b) (hbl : b < s.floors.length) : gateOf s b ≤ max (max 0 (gateOf s f)) (max (max 0 x.2.2) (s.floors[b]?.getD 0)) := by
  have hu : (b, grt [x.2.2, s.floors[b]?.getD 0]) ∈ s.sills.filterMap (up1 s.floors f) := by
    refine List.mem_filterMap.2 ⟨x, hx, ?_⟩
    unfold up1
    rw [hb, if_pos ⟨by omega, by simpa using hbl⟩]
    rfl
  have hs : (lowSea s (gts s)).length = 8 := low1_len s _ _ (gts_len s)
  have h1 := froms_hit s (List.range s.floors.length) (lowSea s (gts s)) hs f (List.mem_range.2 hf) (by omega) _ hu (by simp only; omega)
  have h3 : (lowSea s (gts s))[f]?.getD 0 ≤ (gts s)[f]?.getD 0 := by rw [lowSea_up]; exact ap1_down _ _ f (by rw [gts_len]; omega)
  have h2 := gts_fix s
  unfold lowered at h2
  rw [h2] at h1
  simp only [grt2] at h1
  unfold gateOf
  omega

/-! invariants of lowering, by its updates -/
theorem inv_iter (s : Sd) (_h8 : s.floors.length ≤ 8) (I : List Int → Prop)
    (sea : ∀ (g : List Int) (x : Int × Int × Int) (b : Nat), g.length = 8 → x ∈ s.sills → other x (-1) = b → b < s.floors.length → I g → I (g.set b (min (g[b]?.getD 0) (max (max 0 x.2.2) (s.floors[b]?.getD 0)))))
    (from' : ∀ (g : List Int) (x : Int × Int × Int) (f b : Nat), g.length = 8 → x ∈ s.sills → f < s.floors.length → other x f = b → b < s.floors.length → I g → I (g.set b (min (g[b]?.getD 0) (max (max 0 (g[f]?.getD 0)) (max (max 0 x.2.2) (s.floors[b]?.getD 0))))))
    (h0 : I top) : I (gts s) := by
  have up : ∀ (f : Int) (x : Int × Int × Int) (u : Nat × Int), up1 s.floors f x = some u → other x f = u.1 ∧ u.1 < s.floors.length ∧ u.2 = max (max 0 x.2.2) (s.floors[u.1]?.getD 0) := by
    intro f x u hu
    unfold up1 at hu
    split at hu
    · next hc =>
      cases hu
      exact ⟨by simp only; omega, hc.2, rfl⟩
    · cases hu
  have h1 : ∀ (l : List (Int × Int × Int)) (g : List Int), (∀ x ∈ l, x ∈ s.sills) → g.length = 8 → I g → I ((l.filterMap (up1 s.floors (-1))).foldl ap1 g) := by
    intro l
    induction l with
    | nil => exact fun g _ _ h => h
    | cons x r ih =>
      intro g hx hl hI
      cases hu : up1 s.floors (-1) x with
      | none => rw [List.filterMap_cons_none hu]; exact ih g (fun y hy => hx y (by simp [hy])) hl hI
      | some u =>
        rw [List.filterMap_cons_some hu]
        obtain ⟨e1, e2, e3⟩ := up _ _ _ hu
        refine ih (ap1 g u) (fun y hy => hx y (by simp [hy])) (by simp [ap1, hl]) ?_
        unfold ap1
        rw [e3]
        exact sea g x u.1 hl (hx x (by simp)) e1 e2 hI
  have h2 : ∀ (f : Nat), f < s.floors.length → ∀ (l : List (Int × Int × Int)) (g : List Int), (∀ x ∈ l, x ∈ s.sills) → g.length = 8 → I g → I ((l.filterMap (up1 s.floors f)).foldl (ap2 f) g) := by
    intro f hf l
    induction l with
    | nil => exact fun g _ _ h => h
    | cons x r ih =>
      intro g hx hl hI
      cases hu : up1 s.floors f x with
      | none => rw [List.filterMap_cons_none hu]; exact ih g (fun y hy => hx y (by simp [hy])) hl hI
      | some u =>
        rw [List.filterMap_cons_some hu]
        obtain ⟨e1, e2, e3⟩ := up _ _ _ hu
        refine ih (ap2 f g u) (fun y hy => hx y (by simp [hy])) (by simp [ap2, hl]) ?_
        unfold ap2
        rw [e3, grt2]
        exact from' g x f u.1 hl (hx x (by simp)) hf e1 e2 hI
  have h3 : ∀ (l : List Nat) (g : List Int), (∀ f ∈ l, f < s.floors.length) → g.length = 8 → I g → I (l.foldl (lowFrom s) g) := by
    intro l
    induction l with
    | nil => exact fun g _ _ h => h
    | cons f r ih =>
      intro g hf hl hI
      refine ih (lowFrom s g f) (fun y hy => hf y (by simp [hy])) (low2_len s f _ _ hl) ?_
      rw [lowFrom_up]
      exact h2 f (hf f (by simp)) _ _ (fun _ h => h) hl hI
  have h4 : ∀ n (g : List Int), g.length = 8 → I g → I (iterG s n g) := by
    intro n
    induction n with
    | zero => exact fun g _ h => h
    | succ n ih =>
      intro g hl hI
      refine ih _ (lowered_len s g hl) ?_
      unfold lowered
      refine h3 _ _ (fun f hf => List.mem_range.1 hf) (low1_len s _ _ hl) ?_
      rw [lowSea_up]
      exact h1 _ _ (fun _ h => h) hl hI
  unfold gts
  rw [fixG_iter]
  exact h4 _ _ rfl h0

theorem set_get (g : List Int) (b i : Nat) (v : Int) (hb : b < g.length) : (g.set b v)[i]?.getD 0 = if b = i then v else g[i]?.getD 0 := by
  rw [List.getElem?_set]
  split
  · next h => first | rfl | (subst h; rw [if_pos hb]; rfl) | (subst h; simp [hb])
  · rfl
/-- low heights, low gates -/
theorem gate_low (s : Sd) (h8 : s.floors.length ≤ 8) (hF : ∀ x ∈ s.floors, 0 ≤ x ∧ x ≤ 50) (hS : ∀ x ∈ s.sills, x.2.2 ≤ 50) (p : Nat) (hp : p < 8) : gateOf s p ≤ 50 ∨ gateOf s p = 1050 := by
  have fl : ∀ b : Nat, s.floors[b]?.getD 0 ≤ 50 := fun b => by
    by_cases hb : b < s.floors.length
    · rw [List.getElem?_eq_getElem hb]; exact (hF _ (List.getElem_mem hb)).2
    · rw [List.getElem?_eq_none (by omega)]; decide
  have := inv_iter s h8 (fun g => ∀ i, i < 8 → g[i]?.getD 0 ≤ 50 ∨ g[i]?.getD 0 = 1050)
    (fun g x b hl hx hb hbl hI i hi => by
      have h1 := hI i hi
      have h2 := hI b (by omega)
      have h3 := fl b
      have h4 := hS x hx
      rw [set_get g b i _ (by omega)]
      split
      · omega
      · exact h1)
    (fun g x f b hl hx hf hb hbl hI i hi => by
      have h1 := hI i hi
      have h2 := hI b (by omega)
      have h3 := fl b
      have h4 := hS x hx
      have h5 := hI f (by omega)
      rw [set_get g b i _ (by omega)]
      split
      · omega
      · exact h1)
    (fun i hi => Or.inr (by unfold top; rw [List.getElem?_replicate, if_pos hi]; rfl))
  exact this p hp

/-! the law's own way -/
def rel1 (F : List Int) (h : Int) (g : List Int) (y : Int × Int × Int) : List Int :=
  if y.2.2 ≤ h ∧ y.2.1 ≠ -1 ∧ F[y.2.1.toNat]?.getD 0 ≤ h ∧ (y.1 = -1 ∨ g[y.1.toNat]?.getD 0 ≤ h) then g.set y.2.1.toNat (min (g[y.2.1.toNat]?.getD 0) h) else g
def turned (x : Int × Int × Int) : Int × Int × Int := (x.2.1, x.1, x.2.2)
def rel2 (F : List Int) (h : Int) (g : List Int) (x : Int × Int × Int) : List Int := rel1 F h (rel1 F h g x) (turned x)
def pass (s : Sd) (h : Int) (g : List Int) : List Int := s.sills.foldl (rel2 s.floors h) g
def passes (s : Sd) (h : Int) : Nat → List Int → List Int
  | 0, g => g
  | n + 1, g => passes s h n (pass s h g)
def lvls (s : Sd) : Nat → List Int
  | 0 => List.replicate s.floors.length 1000000
  | k + 1 => passes s k s.floors.length (lvls s k)

section
variable {F : List Int} {h : Int}
theorem rel1_len (g : List Int) (y : Int × Int × Int) : (rel1 F h g y).length = g.length := by
  unfold rel1; split
  · simp
  · rfl
theorem rel2_len (g : List Int) (y : Int × Int × Int) : (rel2 F h g y).length = g.length := by unfold rel2; rw [rel1_len, rel1_len]
/-- how many are above -/
def oc (h : Int) (g : List Int) : Nat := g.countP (fun v => decide (h < v))
theorem oc_set (h : Int) : ∀ (g : List Int) (b : Nat), b < g.length → h < g[b]?.getD 0 → oc h (g.set b (min (g[b]?.getD 0) h)) + 1 = oc h g
  | v :: r, 0, _, hv => by
    have hv' : h < v := by simpa using hv
    show oc h (min v h :: r) + 1 = oc h (v :: r)
    unfold oc
    rw [List.countP_cons, List.countP_cons, if_neg (by simp only [decide_eq_true_eq]; omega), if_pos (by simpa using hv')]
  | v :: r, b + 1, hb, hv => by
    have ih := oc_set h r b (by simpa using hb) (by simpa using hv)
    have e : (v :: r)[b + 1]?.getD 0 = r[b]?.getD 0 := by simp
    rw [e]
    show oc h (v :: r.set b _) + 1 = _
    unfold oc at ih ⊢
    rw [List.countP_cons, List.countP_cons]
    omega
theorem set_same (g : List Int) (b : Nat) (hb : b < g.length) (h : Int) (hv : g[b]?.getD 0 ≤ h) : g.set b (min (g[b]?.getD 0) h) = g := by
  rw [Int.min_eq_left hv, List.getElem?_eq_getElem hb, Option.getD_some, List.set_getElem_self]
theorem rel1_or (g : List Int) (y : Int × Int × Int) (hy : y.2.1 ≠ -1 → 0 ≤ y.2.1 ∧ y.2.1 < g.length) : rel1 F h g y = g ∨ oc h (rel1 F h g y) < oc h g := by
  unfold rel1
  split
  · next hc =>
    have hb : y.2.1.toNat < g.length := by have := hy hc.2.1; omega
    by_cases hv : g[y.2.1.toNat]?.getD 0 ≤ h
    · exact Or.inl (set_same g _ hb h hv)
    · have := oc_set h g _ hb (by omega)
      exact Or.inr (by omega)
  · exact Or.inl rfl
end
section
variable {α : Type} {f : List Int → α → List Int} {h : Int} {n : Nat} {P : α → Prop}
theorem fold_or (hf : ∀ g x, g.length = n → P x → (f g x).length = n ∧ (f g x = g ∨ oc h (f g x) < oc h g)) : ∀ (l : List α) (g : List Int), g.length = n → (∀ x ∈ l, P x) →
    (l.foldl f g).length = n ∧ (l.foldl f g = g ∧ (∀ x ∈ l, f g x = g) ∨ oc h (l.foldl f g) < oc h g)
  | [], g, hg, _ => ⟨hg, Or.inl ⟨rfl, by simp⟩⟩
  | x :: r, g, hg, hp => by
    obtain ⟨h1, h2⟩ := hf g x hg (hp x (by simp))
    obtain ⟨h3, h4⟩ := fold_or hf r (f g x) h1 (fun y hy => hp y (by simp [hy]))
    refine ⟨h3, ?_⟩
    rw [List.foldl_cons]
    rcases h2 with h2 | h2
    · rcases h4 with ⟨h4, h5⟩ | h4
      · refine Or.inl ⟨by rw [h4, h2], fun y hy => ?_⟩
        rcases List.mem_cons.1 hy with rfl | hy
        · exact h2
        · have := h5 y hy
          rw [h2] at this; exact this
      · exact Or.inr (by rw [h2] at h4 ⊢; exact h4)
    · rcases h4 with ⟨h4, h5⟩ | h4
      · exact Or.inr (by rw [h4]; exact h2)
      · exact Or.inr (by omega)
end
section
variable {s : Sd} {h : Int}
/-- an end of a sill is a place, or the Sea -/
def EndOk (n : Nat) (y : Int × Int × Int) : Prop := (y.1 = -1 ∨ 0 ≤ y.1 ∧ y.1 < n) ∧ (y.2.1 = -1 ∨ 0 ≤ y.2.1 ∧ y.2.1 < n) ∧ y.1 ≠ y.2.1
theorem EndOk.turned {n : Nat} {y : Int × Int × Int} (hy : EndOk n y) : EndOk n (turned y) := ⟨hy.2.1, hy.1, Ne.symm hy.2.2⟩
theorem EndOk.of (ok : Ok s) {x : Int × Int × Int} (hx : x ∈ s.sills) : EndOk s.floors.length x := ⟨(ok.good x hx).1, (ok.good x hx).2, ok.two x hx⟩
theorem rel2_or (g : List Int) (y : Int × Int × Int) (n : Nat) (hg : g.length = n) (hy : EndOk n y) : (rel2 s.floors h g y).length = n ∧ (rel2 s.floors h g y = g ∧ rel1 s.floors h g y = g ∧ rel1 s.floors h g (turned y) = g ∨ oc h (rel2 s.floors h g y) < oc h g) := by
  refine ⟨by rw [rel2_len]; exact hg, ?_⟩
  have h1 := rel1_or (F := s.floors) (h := h) g y (fun hn => by rcases hy.2.1 with e | e; exact absurd e hn; omega)
  have h2 := rel1_or (F := s.floors) (h := h) (rel1 s.floors h g y) (turned y) (fun hn => by rw [rel1_len]; rcases hy.1 with e | e; exact absurd e hn; exact ⟨e.1, by rw [hg]; exact e.2⟩)
  unfold rel2
  rcases h1 with h1 | h1
  · rcases h2 with h2 | h2
    · rw [h1] at h2 ⊢
      exact Or.inl ⟨h2, rfl, h2⟩
    · rw [h1] at h2 ⊢; exact Or.inr h2
  · rcases h2 with h2 | h2
    · exact Or.inr (by rw [h2]; exact h1)
    · exact Or.inr (by omega)
theorem pass_or (ok : Ok s) (g : List Int) (hg : g.length = s.floors.length) : (pass s h g).length = s.floors.length ∧ (pass s h g = g ∧ (∀ x ∈ s.sills, rel1 s.floors h g x = g ∧ rel1 s.floors h g (turned x) = g) ∨ oc h (pass s h g) < oc h g) := by
  obtain ⟨h1, h2⟩ := fold_or (h := h) (n := s.floors.length) (P := EndOk s.floors.length) (f := rel2 s.floors h) (fun g x hg hx => by
    obtain ⟨k1, k2⟩ := rel2_or (s := s) (h := h) g x _ hg hx
    refine ⟨k1, ?_⟩
    rcases k2 with k2 | k2
    · exact Or.inl k2.1
    · exact Or.inr k2) s.sills g hg (fun x hx => EndOk.of ok hx)
  refine ⟨h1, ?_⟩
  rcases h2 with ⟨h2, h3⟩ | h2
  · refine Or.inl ⟨h2, fun x hx => ?_⟩
    rcases (rel2_or (s := s) (h := h) g x _ hg (EndOk.of ok hx)).2 with k | k
    · exact k.2
    · rw [h3 x hx] at k; omega
  · exact Or.inr h2
theorem passes_len (ok : Ok s) : ∀ n (g : List Int), g.length = s.floors.length → (passes s h n g).length = s.floors.length
  | 0, _, hg => hg
  | n + 1, g, hg => passes_len ok n _ (pass_or ok g hg).1
theorem passes_fix (ok : Ok s) : ∀ n (g : List Int), g.length = s.floors.length → pass s h g = g → passes s h n g = g
  | 0, _, _, _ => rfl
  | n + 1, g, hg, hp => by
    unfold passes
    rw [hp]
    exact passes_fix ok n g hg hp
theorem passes_shut (ok : Ok s) : ∀ n (g : List Int), g.length = s.floors.length → oc h g ≤ n → pass s h (passes s h n g) = passes s h n g
  | 0, g, hg, ho => by
    rcases (pass_or (h := h) ok g hg).2 with k | k
    · exact k.1
    · omega
  | n + 1, g, hg, ho => by
    obtain ⟨h1, k⟩ := pass_or (h := h) ok g hg
    unfold passes
    rcases k with k | k
    · rw [k.1, passes_fix ok n g hg k.1]; exact k.1
    · exact passes_shut ok n _ h1 (by omega)

/-- sound at a height: what is known is the gate, and what is below is known -/
def Snd (s : Sd) (h : Int) (g : List Int) : Prop := ∀ p, p < s.floors.length → (g[p]?.getD 0 = 1000000 ∨ g[p]?.getD 0 = gateOf s p ∧ gateOf s p ≤ h) ∧ (gateOf s p < h → g[p]?.getD 0 = gateOf s p)
theorem other_to (ok : Ok s) {x : Int × Int × Int} (hx : x ∈ s.sills) {a b : Int} (hb : b ≠ -1) (hab : (a, b) = (x.1, x.2.1) ∨ (a, b) = (x.2.1, x.1)) : other x a = b := by
  have := ok.two x hx
  unfold other
  rcases hab with e | e
  · cases e; simp
  · cases e
    have : (x.2.1 == x.1) = false := by rw [beq_eq_false_iff_ne]; omega
    simp [this]
theorem gate_step (ok : Ok s) {x : Int × Int × Int} (hx : x ∈ s.sills) {a b : Int} (hb : 0 ≤ b ∧ b < s.floors.length) (ha : a = -1 ∨ 0 ≤ a ∧ a < s.floors.length) (hab : (a, b) = (x.1, x.2.1) ∨ (a, b) = (x.2.1, x.1)) (h0 : 0 ≤ h) (hh : x.2.2 ≤ h) (hF : s.floors[b.toNat]?.getD 0 ≤ h) (hg : a = -1 ∨ gateOf s a.toNat ≤ h) : gateOf s b.toNat ≤ h := by
  have ho := other_to ok hx (by omega) hab
  have e : ((b.toNat : Nat) : Int) = b := by omega
  rcases hg with hg | hg
  · subst hg
    have := gate_sea s ok.fl1 x hx b.toNat (by rw [e]; exact ho) (by omega)
    omega
  · rcases ha with ha | ha
    · subst ha
      have := gate_sea s ok.fl1 x hx b.toNat (by rw [e]; exact ho) (by omega)
      omega
    · have e2 : ((a.toNat : Nat) : Int) = a := by omega
      have := gate_from s ok.fl1 x hx a.toNat b.toNat (by omega) (by rw [e, e2]; exact ho) (by omega)
      omega
theorem snd_rel1 (ok : Ok s) {x : Int × Int × Int} (hx : x ∈ s.sills) (h0 : 0 ≤ h) (h9 : h ≤ 999) {g : List Int} (hl : g.length = s.floors.length) (hs : Snd s h g) (y : Int × Int × Int) (hy : y = x ∨ y = turned x) : Snd s h (rel1 s.floors h g y) := by
  have he : EndOk s.floors.length y := by
    rcases hy with rfl | rfl
    · exact EndOk.of ok hx
    · exact (EndOk.of ok hx).turned
  have hab : (y.1, y.2.1) = (x.1, x.2.1) ∨ (y.1, y.2.1) = (x.2.1, x.1) := by rcases hy with rfl | rfl; exact Or.inl rfl; exact Or.inr rfl
  have hyh : y.2.2 = x.2.2 := by rcases hy with rfl | rfl <;> rfl
  unfold rel1
  split
  · next hc =>
    obtain ⟨c1, c2, c3, c4⟩ := hc
    have hb : 0 ≤ y.2.1 ∧ y.2.1 < s.floors.length := by rcases he.2.1 with e | e; exact absurd e c2; exact e
    have hgb : gateOf s y.2.1.toNat ≤ h := by
      refine gate_step ok hx hb he.1 hab h0 (by omega) c3 ?_
      rcases c4 with c4 | c4
      · exact Or.inl c4
      · rcases he.1 with e | e
        · exact Or.inl e
        · refine Or.inr ?_
          have := (hs y.1.toNat (by omega)).1
          omega
    intro p hp
    have k := hs p hp
    rw [set_get g _ p _ (by omega)]
    split
    · next e =>
      subst e
      omega
    · exact k
  · exact hs
theorem snd_fold (ok : Ok s) (h0 : 0 ≤ h) (h9 : h ≤ 999) : ∀ (l : List (Int × Int × Int)) (g : List Int), (∀ x ∈ l, x ∈ s.sills) → g.length = s.floors.length → Snd s h g → Snd s h (l.foldl (rel2 s.floors h) g)
  | [], _, _, _, hs => hs
  | x :: r, g, hx, hl, hs => by
    have hm := hx x (by simp)
    refine snd_fold ok h0 h9 r _ (fun y hy => hx y (by simp [hy])) (by rw [rel2_len]; exact hl) ?_
    unfold rel2
    exact snd_rel1 ok hm h0 h9 (by rw [rel1_len]; exact hl) (snd_rel1 ok hm h0 h9 hl hs x (Or.inl rfl)) _ (Or.inr rfl)
theorem snd_passes (ok : Ok s) (h0 : 0 ≤ h) (h9 : h ≤ 999) : ∀ n (g : List Int), g.length = s.floors.length → Snd s h g → Snd s h (passes s h n g)
  | 0, _, _, hs => hs
  | n + 1, g, hl, hs => snd_passes ok h0 h9 n _ (pass_or ok g hl).1 (snd_fold ok h0 h9 _ _ (fun _ h => h) hl hs)
/-- what no pass changes any more has all gates that are not above -/
theorem shut_all (ok : Ok s) (h9 : h ≤ 999) {g : List Int} (hl : g.length = s.floors.length) (hp : pass s h g = g) (p : Nat) (hpl : p < s.floors.length) (hg : gateOf s p ≤ h) : g[p]?.getD 0 ≤ h := by
  have hall : ∀ x ∈ s.sills, rel1 s.floors h g x = g ∧ rel1 s.floors h g (turned x) = g := by
    rcases (pass_or (h := h) ok g hl).2 with k | k
    · exact k.2
    · rw [hp] at k; omega
  have key : ∀ x ∈ s.sills, ∀ a b : Int, (a, b) = (x.1, x.2.1) ∨ (a, b) = (x.2.1, x.1) → 0 ≤ b ∧ b < s.floors.length → x.2.2 ≤ h → s.floors[b.toNat]?.getD 0 ≤ h → (a = -1 ∨ g[a.toNat]?.getD 0 ≤ h) → g[b.toNat]?.getD 0 ≤ h := by
    intro x hx a b hab hb h1 h2 h3
    have hb' : b.toNat < g.length := by omega
    have hr : rel1 s.floors h g (a, b, x.2.2) = g := by
      rcases hab with e | e
      · cases e; exact (hall x hx).1
      · cases e; exact (hall x hx).2
    unfold rel1 at hr
    rw [if_pos ⟨h1, by simp only; omega, h2, h3⟩] at hr
    have e1 := congrArg (fun l => l[b.toNat]?.getD 0) hr
    simp only at e1
    rw [set_get g _ _ _ hb', if_pos rfl] at e1
    omega
  refine Decidable.byContradiction fun hc => ?_
  have := inv_iter s ok.fl1 (fun a => ∀ i, i < s.floors.length → h < g[i]?.getD 0 → h < a[i]?.getD 0)
    (fun a x b hl8 hx hb hbl hI i hi hgi => by
      rw [set_get a b i _ (by have := ok.fl1; omega)]
      split
      · next e =>
        subst e
        have h1 := hI b hi hgi
        have hne : ¬ (x.2.2 ≤ h ∧ s.floors[b]?.getD 0 ≤ h) := fun hcc => by
          have ho : (-1, (b : Int)) = (x.1, x.2.1) ∨ (-1, (b : Int)) = (x.2.1, x.1) := by
            unfold other at hb
            by_cases e1 : (-1 : Int) = x.1
            · rw [show ((-1 : Int) == x.1) = true from beq_iff_eq.2 e1] at hb
              exact Or.inl (by rw [← e1]; simp at hb; rw [hb])
            · rw [show ((-1 : Int) == x.1) = false from beq_eq_false_iff_ne.2 e1] at hb
              by_cases e2 : (-1 : Int) = x.2.1
              · rw [show ((-1 : Int) == x.2.1) = true from beq_iff_eq.2 e2] at hb
                exact Or.inr (by rw [← e2]; simp at hb; rw [hb])
              · rw [show ((-1 : Int) == x.2.1) = false from beq_eq_false_iff_ne.2 e2] at hb
                simp at hb
          have := key x hx (-1) b ho (by omega) hcc.1 (by simpa using hcc.2) (Or.inl rfl)
          simp only [Int.toNat_natCast] at this
          omega
        omega
      · exact hI i hi hgi)
    (fun a x f b hl8 hx hf hb hbl hI i hi hgi => by
      rw [set_get a b i _ (by have := ok.fl1; omega)]
      split
      · next e =>
        subst e
        have h1 := hI b hi hgi
        by_cases hgf : h < g[f]?.getD 0
        · have := hI f hf hgf
          omega
        · have hne : ¬ (x.2.2 ≤ h ∧ s.floors[b]?.getD 0 ≤ h) := fun hcc => by
            have ho : ((f : Int), (b : Int)) = (x.1, x.2.1) ∨ ((f : Int), (b : Int)) = (x.2.1, x.1) := by
              unfold other at hb
              by_cases e1 : (f : Int) = x.1
              · rw [show ((f : Int) == x.1) = true from beq_iff_eq.2 e1] at hb
                exact Or.inl (by rw [← e1]; simp at hb; rw [hb])
              · rw [show ((f : Int) == x.1) = false from beq_eq_false_iff_ne.2 e1] at hb
                by_cases e2 : (f : Int) = x.2.1
                · rw [show ((f : Int) == x.2.1) = true from beq_iff_eq.2 e2] at hb
                  exact Or.inr (by rw [← e2]; simp at hb; rw [hb])
                · rw [show ((f : Int) == x.2.1) = false from beq_eq_false_iff_ne.2 e2] at hb
                  simp at hb
            have := key x hx f b ho (by omega) hcc.1 (by simpa using hcc.2) (Or.inr (by simp only [Int.toNat_natCast]; omega))
            simp only [Int.toNat_natCast] at this
            omega
          omega
      · exact hI i hi hgi)
    (fun i hi _ => by
      have := ok.fl1
      unfold top
      rw [List.getElem?_replicate, if_pos (by omega)]
      show h < 1050
      omega)
  have h1 := this p hpl (by omega)
  unfold gateOf at hg
  omega
theorem lvls_len (ok : Ok s) : ∀ k, (lvls s k).length = s.floors.length
  | 0 => by simp [lvls]
  | k + 1 => passes_len ok _ _ (lvls_len ok k)
theorem lvls_is (ok : Ok s) : ∀ (k : Nat), k ≤ 1000 → ∀ p, p < s.floors.length → (lvls s k)[p]?.getD 0 = if gateOf s p < k then gateOf s p else 1000000
  | 0, _, p, hp => by
    have := (gts_le s p).1
    rw [if_neg (by omega)]
    unfold lvls
    rw [List.getElem?_replicate, if_pos hp]
    rfl
  | k + 1, hk, p, hp => by
    have ih := lvls_is ok k (by omega)
    have hl := lvls_len ok k
    have hs : Snd s k (lvls s k) := fun q hq => by
      have e := ih q hq
      by_cases c : gateOf s q < k
      · rw [if_pos c] at e
        exact ⟨Or.inr ⟨e, by omega⟩, fun _ => e⟩
      · rw [if_neg c] at e
        exact ⟨Or.inl e, fun h => absurd h c⟩
    have h1 := snd_passes ok (h := (k : Int)) (by omega) (by omega) s.floors.length _ hl hs
    have h2 := passes_shut (h := (k : Int)) ok s.floors.length (lvls s k) hl (by rw [← hl]; exact List.countP_le_length)
    have hl2 := passes_len (h := (k : Int)) ok s.floors.length _ hl
    show (passes s k s.floors.length (lvls s k))[p]?.getD 0 = _
    have h3 := shut_all ok (h := (k : Int)) (by omega) hl2 h2 p hp
    have h4 := (h1 p hp).1
    by_cases c : gateOf s p < ((k + 1 : Nat) : Int)
    · rw [if_pos c]
      have := h3 (by omega)
      omega
    · rw [if_neg c]
      omega
/-- the gates that the law finds -/
theorem lvls_gates (ok : Ok s) (hF : ∀ x ∈ s.floors, 0 ≤ x ∧ x ≤ 50) (hS : ∀ x ∈ s.sills, x.2.2 ≤ 50) (p : Nat) (hp : p < s.floors.length) : (lvls s 62)[p]?.getD 0 = if gateOf s p < 1050 then gateOf s p else 1000000 := by
  rw [lvls_is ok 62 (by omega) p hp]
  have := gate_low s ok.fl1 hF hS p (by have := ok.fl1; omega)
  by_cases c : gateOf s p < 1050
  · rw [if_pos c, if_pos (by omega)]
  · rw [if_neg c, if_neg (by omega)]
end
end
end Go.Proofs.Ytcljkkojeleakaa
/- Rows that lie in a block of their own, from its first cell on: cells, and what a store changes. -/
namespace Go.Proofs.Ytcljkkojeleakaa
section
open Go.RowKit Go.Shelf

theorem flatten_set (k : Nat) : ∀ (rows : List (List Value)) (i j : Nat) (v : Value) (hi : i < rows.length), (∀ r ∈ rows, r.length = k) → j < k → rows.flatten.set (i * k + j) v = (rows.set i (rows[i].set j v)).flatten
  | a :: r, 0, j, v, _, hk, hj => by
    have ha := hk a (by simp)
    rw [Nat.zero_mul, Nat.zero_add, List.flatten_cons, List.set_append_left _ _ (by omega)]
    rfl
  | a :: r, i + 1, j, v, hi, hk, hj => by
    have ha := hk a (by simp)
    have hi' : i < r.length := by simpa using hi
    have ih := flatten_set k r i j v hi' (fun x hx => hk x (by simp [hx])) hj
    rw [List.flatten_cons, List.set_append_right _ _ (by rw [Nat.add_mul]; omega), show (i + 1) * k + j - a.length = i * k + j by rw [Nat.add_mul]; omega, ih]
    rfl
theorem flatten_len (k : Nat) : ∀ (rows : List (List Value)), (∀ r ∈ rows, r.length = k) → rows.flatten.length = rows.length * k
  | [], _ => by simp
  | a :: r, h => by
    rw [List.flatten_cons, List.length_append, flatten_len k r (fun x hx => h x (by simp [hx])), h a (by simp), List.length_cons, Nat.add_mul]
    omega

def RowBlk (w : World) (g : Nat) (T : TypeId) (k : Nat) (rows : List (List Value)) : Prop := (∀ r ∈ rows, r.length = k) ∧ ∃ cur : List Value, Blk w g cur T ∧ cur.take (rows.length * k) = rows.flatten
section
variable {w w' : World} {g k n₀ c : Nat} {T : TypeId} {p : Option Addr} {rows : List (List Value)}
theorem RowBlk.cell (h : RowBlk w g T k rows) {i j : Nat} {row : List Value} {x : Value} (hi : rows[i]? = some row) (hj : row[j]? = some x) : w.cell? ⟨g, i * k + j, none⟩ = some x := by
  obtain ⟨hk, cur, hb, ht⟩ := h
  have hil := (List.getElem?_eq_some_iff.1 hi).1
  have hr : row.length = k := hk row (List.mem_of_getElem? hi)
  have hjl : j < k := by have := (List.getElem?_eq_some_iff.1 hj).1; omega
  have hok : flatOk k rows = true := by unfold flatOk; simpa using hk
  have hf := flat_at k rows hok i row hi j x hj
  have hlt : i * k + j < rows.length * k := by
    have : (i + 1) * k ≤ rows.length * k := Nat.mul_le_mul_right _ (by omega)
    rw [Nat.add_mul] at this; omega
  rw [← ht, List.getElem?_take_of_lt hlt] at hf
  rw [hb.cell, hf]
theorem RowBlk.free (h : RowBlk w g T k rows) (i : Nat) : w.frozen? ⟨g, i, none⟩ = false := by
  obtain ⟨-, cur, hb, -⟩ := h
  exact hb.free i
theorem RowBlk.lt (h : RowBlk w g T k rows) : g < w.heap.size := by
  obtain ⟨-, cur, hb, -⟩ := h
  exact hb.lt
theorem RowBlk.row (h : RowBlk w g T k rows) : Row w (some ⟨g, 0, none⟩) k rows := fun i row hi => ⟨g, 0, rfl, fun j x hj => by rw [Nat.zero_add]; exact h.cell hi hj⟩
theorem RowBlk.up (h : RowBlk w g T k rows) (hu : Up w w') : RowBlk w' g T k rows := by
  obtain ⟨hk, cur, hb, ht⟩ := h
  exact ⟨hk, cur, hb.up hu, ht⟩
theorem RowBlk.other (h : RowBlk w g T k rows) {a : Addr} (ha : g ≠ a.block) (v : Value) : RowBlk (w.setCell a v) g T k rows := by
  obtain ⟨hk, cur, hb, ht⟩ := h
  exact ⟨hk, cur, hb.other ha v, ht⟩
theorem RowBlk.far {B n : Nat} (h : RowBlk w g T k rows) (hf : Far B n w w') (h1 : g < n) (h2 : g ≠ B) : RowBlk w' g T k rows := by
  obtain ⟨hk, cur, hb, ht⟩ := h
  exact ⟨hk, cur, hf.blk hb h1 h2, ht⟩
theorem RowBlk.set (h : RowBlk w g T k rows) {i j : Nat} (hi : i < rows.length) (hj : j < k) (v : Value) : RowBlk (w.setCell ⟨g, i * k + j, none⟩ v) g T k (rows.set i (rows[i].set j v)) := by
  obtain ⟨hk, cur, hb, ht⟩ := h
  refine ⟨fun r hr => ?_, _, hb.set _ _, ?_⟩
  · rcases List.mem_or_eq_of_mem_set hr with h1 | rfl
    · exact hk r h1
    · rw [List.length_set]; exact hk _ (List.getElem_mem _)
  · rw [List.length_set, ← flatten_set k rows i j v hi hk hj, ← ht, List.take_set]
theorem RowBlk.of (h : w.ownsRow n₀ T k (.slice p rows.length c) rows.length rows.flatten) (hk : ∀ r ∈ rows, r.length = k) (hl : 0 < rows.length) : ∃ g, p = some ⟨g, 0, none⟩ ∧ n₀ ≤ g ∧ RowBlk w g T k rows := by
  rcases h.2 with ⟨-, h0⟩ | ⟨g, cap, cur, h1, h2, h3, h4, h5, h6, h7⟩
  · omega
  · injection h1 with e1 e2 e3
    exact ⟨g, e1, h2, hk, cur.toList, h3, h7⟩
/-- rows of another type lie elsewhere -/
theorem RowBlk.ne {E : TypeId} {m n : Nat} {q : Option Addr} {xs : List Value} (h : RowBlk w g T k rows) (h' : w.ownsRow n₀ E m (.slice q n c) n xs) (hE : E ≠ T) : ∀ b off, q = some ⟨b, off, none⟩ → b ≠ g := by
  intro b off e hb
  obtain ⟨-, cur, hc, -⟩ := h
  rcases h'.2 with ⟨h1, -⟩ | ⟨g', cap, cur', h1, h2, h3, h4⟩
  · injection h1 with e1 e2 e3
    rw [e1] at e; cases e
  · injection h1 with e1 e2 e3
    rw [e1] at e
    simp only [Option.some.injEq, Addr.mk.injEq] at e
    have hg : g' = g := by omega
    rw [hg] at h3
    have h5 := h3.symm.trans hc
    simp only [Option.some.injEq, Obj.cells.injEq] at h5
    exact hE h5.2.1
theorem Blk.row {w : World} {B : Nat} {T : TypeId} (k : Nat) {rows : List (List Value)} (hk : ∀ r ∈ rows, r.length = k) (h : Blk w B rows.flatten T) : RowBlk w B T k rows :=
  ⟨hk, _, h, by rw [List.take_of_length_le (by rw [flatten_len k rows hk]; exact Nat.le_refl _)]⟩
/-- own rows lie below the heap's end -/
theorem ownsRow_lt {E : TypeId} {m n : Nat} {q : Option Addr} {xs : List Value} (h : w.ownsRow n₀ E m (.slice q n c) n xs) : ∀ b off, q = some ⟨b, off, none⟩ → n₀ ≤ b ∧ b < w.heap.size := by
  intro b off e
  rcases h.2 with ⟨h1, -⟩ | ⟨g', cap, cur', h1, h2, h3, h4⟩
  · injection h1 with e1 e2 e3
    rw [e1] at e; cases e
  · injection h1 with e1 e2 e3
    rw [e1] at e
    simp only [Option.some.injEq, Addr.mk.injEq] at e
    have hg : g' = b := by omega
    rw [hg] at h3 h2
    exact ⟨h2, (Array.getElem?_eq_some_iff.1 h3).1⟩
end
theorem triples_len (l : List (Int × Int × Int)) : ∀ r ∈ triples l, r.length = 3 := fun r hr => by
  simp only [triples, List.mem_map] at hr
  obtain ⟨x, -, rfl⟩ := hr; rfl
theorem pairs_len (l : List (Int × Int)) : ∀ r ∈ pairs l, r.length = 2 := fun r hr => by
  simp only [pairs, List.mem_map] at hr
  obtain ⟨x, -, rfl⟩ := hr; rfl
theorem ints_len (l : List Int) : ∀ r ∈ ints l, r.length = 1 := fun r hr => by
  simp only [ints, List.mem_map] at hr
  obtain ⟨x, -, rfl⟩ := hr; rfl
theorem triples_set (l : List (Int × Int × Int)) (i : Nat) (hi : i < l.length) (h : Int) : (triples l).set i (((triples l)[i]'(by simpa [triples] using hi)).set 2 (.int .i64 h)) = triples (l.set i (l[i].1, l[i].2.1, h)) := by
  unfold triples
  rw [List.map_set]
  simp
theorem ints_set (l : List Int) (i : Nat) (hi : i < l.length) (h : Int) : (ints l).set i (((ints l)[i]'(by simpa [ints] using hi)).set 0 (.int .i64 h)) = ints (l.set i h) := by
  unfold ints
  rw [List.map_set]
  simp
end
end Go.Proofs.Ytcljkkojeleakaa
/- The law's own gates: what the call returns. -/
namespace Go.Proofs.Ytcljkkojeleakaa
open Go.RowKit Go.Shelf

theorem rowInt {w : World} {b off : Nat} {l : List Int} (h : Row w (some ⟨b, off, none⟩) 1 (ints l)) {i : Nat} (hi : i < l.length) : w.cell? ⟨b, off + i, none⟩ = some (.int .i64 l[i]) := by
  obtain ⟨b', off', e, hc⟩ := h.int i hi
  simp only [Option.some.injEq, Addr.mk.injEq, and_true] at e
  obtain ⟨rfl, rfl⟩ := e
  exact hc
theorem gcell {w : World} {g : Nat} {l : List Int} {T : TypeId} (h : Blk w g (gcells l) T) {i : Nat} (hi : i < l.length) : w.cell? ⟨g, i, none⟩ = some (.int .i64 (l[i]?.getD 0)) := by
  rw [h.cell i, gcells, List.getElem?_map, List.getElem?_eq_getElem hi]
  rfl
theorem gset {w : World} {g : Nat} {l : List Int} {T : TypeId} (h : Blk w g (gcells l) T) (i : Nat) (v : Int) : Blk (w.setCell ⟨g, i, none⟩ (.int .i64 v)) g (gcells (l.set i v)) T := by
  have := h.set i (.int .i64 v)
  unfold gcells at this ⊢
  rw [List.map_set]
  exact this

section
variable {pT pF pS : Option Addr} {cT cF cS : Nat}
set_option maxRecDepth 100000 in
set_option maxHeartbeats 3000000 in
theorem gates_c (s : Sd) (w : World) (ok : Ok s) (hl : Lists w s pT pF pS cT cF cS) :
    Calls Try.prog 52 #[sdVal s pT pF pS cT cF cS] w fun e w' => ∃ g, e = .returned (.slice (some ⟨g, 0, none⟩) s.floors.length s.floors.length) ∧ Blk w' g (gcells (lvls s 62)) 3 ∧ w.heap.size ≤ g ∧ Up w w' := by
  have f0 := ok.fl0
  have f8 := ok.fl1
  have s16 := ok.sl
  obtain ⟨gF, oF, rfl, -⟩ := hl.rf.int 0 (by omega)
  have HL := Lib.hid hl
  have OK := Lib.hid ok
  clear hl
  obtain ⟨i0, hi, hz0, hz1, hz2⟩ := info_parts info3
  have hmk : ∀ u : World, (Instr.makeSlice 25 (.int .i64 (s.floors.length : Int)) (.int .i64 (s.floors.length : Int))).run Try.prog u =
      .ok (.slice (some ⟨u.heap.size, 0, none⟩) s.floors.length s.floors.length) (u.alloc (.cells (madeCells #[.int .i64 0] s.floors.length) 3)) := fun u => by
    have h := run_make (P := Try.prog) u 25 3 i0 (.int .i64 0) Try.underlying25 hi hz0 .i64 .i64 (s.floors.length : Int) (s.floors.length : Int) (by omega) (Int.le_refl _) (by rw [hz2]; omega) (by omega)
    rw [Int.toNat_natCast] at h
    simpa [hz1, Value.cells] using h
  have HMK := Lib.hid hmk
  clear hi hz0 hz1 hz2
  unfold sdVal
  go_enter Try.func52, Try.ntmps52
  go_wp2_with fail
  clear hmk
  have HB1 : Hid (Blk ((w.alloc (.cells #[.slice pT s.table.length cT, .int .i64 s.lo, .int .i64 s.hi, .slice (some ⟨gF, oF, none⟩) s.floors.length cF, .slice pS s.sills.length cS] 28)).alloc (.cells (madeCells #[Value.int IntKind.i64 0] s.floors.length) 3)) w.heap.size (sdCells s pT (some ⟨gF, oF, none⟩) pS cT cF cS) 28) := Lib.hid ((Blk.new w (sdCells s pT (some ⟨gF, oF, none⟩) pS cT cF cS) 28).alloc _)
  have HG : Hid (Blk ((w.alloc (.cells #[.slice pT s.table.length cT, .int .i64 s.lo, .int .i64 s.hi, .slice (some ⟨gF, oF, none⟩) s.floors.length cF, .slice pS s.sills.length cS] 28)).alloc (.cells (madeCells #[Value.int IntKind.i64 0] s.floors.length) 3)) (w.heap.size + 1) (gcells (fillTo s.floors.length (fun _ => 1000000) 0)) 3) := Lib.hid (by
    have e : (madeCells #[Value.int IntKind.i64 0] s.floors.length) = (gcells (fillTo s.floors.length (fun _ => 1000000) 0)).toArray := by
      apply Array.toList_inj.1
      rw [toList_madeCells_one]
      simp [gcells, fillTo]
    rw [e]
    exact Blk.new' _ _ _ (by simp))
  have HU : Hid (Up w ((w.alloc (.cells #[.slice pT s.table.length cT, .int .i64 s.lo, .int .i64 s.hi, .slice (some ⟨gF, oF, none⟩) s.floors.length cF, .slice pS s.sills.length cS] 28)).alloc (.cells (madeCells #[Value.int IntKind.i64 0] s.floors.length) 3))) := Lib.hid (by (repeat (first | exact Below.refl _ _ | (with_reducible refine Below.drewN' ?_ _) | (with_reducible refine Below.drew ?_) | (with_reducible refine Below.setCell ?_ (by first | exact Nat.le_refl _ | omega | (with_reducible (repeat (first | refine sz_alloc ?_ | refine sz_setCell ?_ | refine sz_drew ?_ | refine sz_drewN ?_)); first | exact Nat.le_refl _ | omega) | (simp only [World.size_alloc, World.size_setCell, World.size_drew, size_drewN']; omega)) _) | (with_reducible refine Below.alloc ?_ (by first | exact Nat.le_refl _ | omega | (with_reducible (repeat (first | refine sz_alloc ?_ | refine sz_setCell ?_ | refine sz_drew ?_ | refine sz_drewN ?_)); first | exact Nat.le_refl _ | omega) | (simp only [World.size_alloc, World.size_setCell, World.size_drew, size_drewN']; omega)) _) | assumption)))
  generalize ((w.alloc (.cells #[.slice pT s.table.length cT, .int .i64 s.lo, .int .i64 s.hi, .slice (some ⟨gF, oF, none⟩) s.floors.length cF, .slice pS s.sills.length cS] 28)).alloc (.cells (madeCells #[Value.int IntKind.i64 0] s.floors.length) 3)) = w1 at *
  have hw1 := HG.out.lt
  have NF : Hid (∀ wr : World, Far (w.heap.size + 1) w1.heap.size w1 wr → Up w wr) := Lib.hid (fun wr h => Below.trans HU.out (h.below (by omega) (by omega)))
  go_loopw [16] (fun i wr => ∃ j : Nat, i = .int .i64 j ∧ j ≤ s.floors.length ∧ Blk wr (w.heap.size + 1) (gcells (fillTo s.floors.length (fun _ => 1000000) j)) 3 ∧ Far (w.heap.size + 1) w1.heap.size w1 wr) (fun i _ => s.floors.length - (intOf i).toNat)
  case atStart => exact ⟨0, rfl, by omega, HG.out, Far.refl _ _ _⟩
  case round =>
    obtain ⟨j, rfl, hj, hb, hf⟩ := hrel
    have HBk := Lib.hid hb
    have HF := Lib.hid hf
    clear hf
    by_cases hlt : j < s.floors.length
    · have q1 : (j : Int) < s.floors.length := by omega
      have c0 := gcell hb (i := j) (by rw [fillTo_len hj]; exact hlt)
      have cf := hb.free j
      have cl := hb.lt
      clear hb
      go_wp2_with fail
      go_roundw
      case rel =>
        refine ⟨j + 1, by go_num, by omega, ?_, HF.out.setIn _ _⟩
        have := gset HBk.out j 1000000
        rw [fillTo_set (f := fun _ => 1000000) hlt] at this
        exact this
      case measure => simp [intOf]; omega
    · obtain rfl : j = s.floors.length := by omega
      have e0 : fillTo s.floors.length (fun _ => (1000000 : Int)) s.floors.length = lvls s 0 := by
        rw [fillTo_end]
        show (List.range s.floors.length).map (fun _ => (1000000 : Int)) = List.replicate s.floors.length 1000000
        exact List.ext_getElem (by simp) (fun i h1 h2 => by rw [List.getElem_map, List.getElem_replicate])
      rw [e0] at HBk
      clear hb e0 hlt hj
      go_wp2_with fail
      go_loopw [23] (fun i wr => ∃ k : Nat, i = .int .i64 k ∧ k ≤ 61 ∧ Blk wr (w.heap.size + 1) (gcells (lvls s k)) 3 ∧ Far (w.heap.size + 1) w1.heap.size w1 wr) (fun i _ => 62 - (intOf i).toNat)
      case atStart => exact ⟨0, rfl, by omega, HBk.out, HF.out⟩
      case round =>
        obtain ⟨k, rfl, hk, hb, hf⟩ := hrel
        clear HBk HF
        have HBk := Lib.hid hb
        have HF := Lib.hid hf
        have q1 : (k : Int) < 1000 := by omega
        obtain ⟨c0, c1, c2, c3, c4⟩ := five (hf.blk HB1.out HB1.out.lt (by omega))
        clear hb hf
        have HP : Hid (passes s k (s.floors.length - 0) (lvls s k) = lvls s (k + 1)) := Lib.hid rfl
        go_wp2_with fail
        go_loopw [29] (fun i wr => ∃ (j : Nat) (cur : List Int), i = .int .i64 j ∧ j ≤ s.floors.length ∧ cur.length = s.floors.length ∧ passes s k (s.floors.length - j) cur = lvls s (k + 1) ∧ Blk wr (w.heap.size + 1) (gcells cur) 3 ∧ Far (w.heap.size + 1) w1.heap.size w1 wr) (fun i _ => s.floors.length - (intOf i).toNat)
        case atStart => exact ⟨0, lvls s k, rfl, by omega, lvls_len OK.out k, HP.out, HBk.out, HF.out⟩
        case round =>
          obtain ⟨j, cur, rfl, hj, hcl, hps, hb, hf⟩ := hrel
          clear HBk HF HP c0 c1 c2 c3 c4
          have HBk := Lib.hid hb
          have HF := Lib.hid hf
          have HP := Lib.hid hps
          obtain ⟨c0, c1, c2, c3, c4⟩ := five (hf.blk HB1.out HB1.out.lt (by omega))
          clear hb hf hps
          by_cases hlt : j < s.floors.length
          · have q2 : (j : Int) < s.floors.length := by omega
            have HP2 : Hid (passes s k (s.floors.length - (j + 1)) (pass s k cur) = lvls s (k + 1)) := Lib.hid (by
              have h := HP.out
              rw [show s.floors.length - j = (s.floors.length - (j + 1)) + 1 by omega] at h
              exact h)
            go_wp2_with fail
            go_loopw [34] (fun i wr => ∃ (m : Nat) (cu : List Int), i = .int .i64 m ∧ m ≤ s.sills.length ∧ cu.length = s.floors.length ∧ (s.sills.drop m).foldl (rel2 s.floors k) cu = pass s k cur ∧ Blk wr (w.heap.size + 1) (gcells cu) 3 ∧ Far (w.heap.size + 1) w1.heap.size w1 wr) (fun i _ => s.sills.length - (intOf i).toNat)
            case atStart => exact ⟨0, cur, rfl, by omega, hcl, rfl, HBk.out, HF.out⟩
            case round =>
              obtain ⟨m, cu, rfl, hm, hul, hfo, hb, hf⟩ := hrel
              clear HBk HF HP c0 c1 c2 c3 c4
              have HBk := Lib.hid hb
              have HF := Lib.hid hf
              have HO := Lib.hid hfo
              obtain ⟨c0, c1, c2, c3, c4⟩ := five (hf.blk HB1.out HB1.out.lt (by omega))
              have lr := (HL.out.up (NF.out _ hf)).rs
              clear hb hf hfo
              by_cases hlm : m < s.sills.length
              · obtain ⟨gS, oS, rfl, d0, d1, d2⟩ := lr.triple m hlm
                have dl := cell_lt d0
                clear lr
                have q3 : (m : Int) < s.sills.length := by omega
                have HO2 : Hid ((s.sills.drop (m + 1)).foldl (rel2 s.floors k) (rel2 s.floors k cu s.sills[m]) = pass s k cur) := Lib.hid (by
                  have h := HO.out
                  rw [List.drop_eq_getElem_cons hlm, List.foldl_cons] at h
                  exact h)
                have EK := Lib.hid (EndOk.of OK.out (List.getElem_mem hlm))
                generalize hx : s.sills[m] = x at *
                obtain ⟨A, B, H⟩ := x
                dsimp only at d0 d1 d2
                clear hx HO
                go_wp2_with fail
                have ux : Up wr ((wr.alloc (.cells #[.int .i64 A, .int .i64 B, .int .i64 H] 97)).alloc (.cells #[.int .i64 A, .int .i64 B, .int .i64 H, .int .i64 B, .int .i64 A, .int .i64 H] 97)) := by (repeat (first | exact Below.refl _ _ | (with_reducible refine Below.drewN' ?_ _) | (with_reducible refine Below.drew ?_) | (with_reducible refine Below.setCell ?_ (by first | exact Nat.le_refl _ | omega | (with_reducible (repeat (first | refine sz_alloc ?_ | refine sz_setCell ?_ | refine sz_drew ?_ | refine sz_drewN ?_)); first | exact Nat.le_refl _ | omega) | (simp only [World.size_alloc, World.size_setCell, World.size_drew, size_drewN']; omega)) _) | (with_reducible refine Below.alloc ?_ (by first | exact Nat.le_refl _ | omega | (with_reducible (repeat (first | refine sz_alloc ?_ | refine sz_setCell ?_ | refine sz_drew ?_ | refine sz_drewN ?_)); first | exact Nat.le_refl _ | omega) | (simp only [World.size_alloc, World.size_setCell, World.size_drew, size_drewN']; omega)) _) | assumption))
                have R2 : Hid (RowBlk ((wr.alloc (.cells #[.int .i64 A, .int .i64 B, .int .i64 H] 97)).alloc (.cells #[.int .i64 A, .int .i64 B, .int .i64 H, .int .i64 B, .int .i64 A, .int .i64 H] 97)) (wr.heap.size + 1) 97 3 (triples [(A, B, H), (B, A, H)])) :=
                  Lib.hid (Blk.row 3 (triples_len _) (Blk.new' _ _ _ (by simp)))
                have HB2 := Lib.hid (HBk.out.up ux)
                have HF2 := Lib.hid (HF.out.trans (Far.of (ux.mono HF.out.size)))
                generalize hw2 : ((wr.alloc (.cells #[.int .i64 A, .int .i64 B, .int .i64 H] 97)).alloc (.cells #[.int .i64 A, .int .i64 B, .int .i64 H, .int .i64 B, .int .i64 A, .int .i64 H] 97)) = w2 at *
                have lw2 : wr.heap.size + 1 < w2.heap.size := R2.out.lt
                have lwr : w1.heap.size ≤ wr.heap.size := HF.out.size
                generalize wr.heap.size = Z at *
                have lB : w.heap.size < w1.heap.size := HB1.out.lt
                clear hw2 ux HBk HF d0 d1 d2 dl c0 c1 c2 c3 c4
                go_loopw [48] (fun i wr => ∃ (d : Nat) (cv : List Int), i = .int .i64 d ∧ d ≤ 2 ∧ cv.length = s.floors.length ∧ ([(A, B, H), (B, A, H)].drop d).foldl (rel1 s.floors k) cv = rel2 s.floors k cu (A, B, H) ∧ Blk wr (w.heap.size + 1) (gcells cv) 3 ∧ Far (w.heap.size + 1) w2.heap.size w2 wr) (fun i _ => 2 - (intOf i).toNat)
                case atStart => exact ⟨0, cu, rfl, by omega, hul, rfl, HB2.out, Far.refl _ _ _⟩
                case round =>
                  obtain ⟨d, cv, rfl, hd, hvl, hfo, hb, hf⟩ := hrel
                  have HBk := Lib.hid hb
                  have HF := Lib.hid hf
                  have HF1 := Lib.hid (HF2.out.trans (hf.mono (by omega)))
                  have HO := Lib.hid hfo
                  clear hb hf hfo
                  by_cases hld : d < 2
                  · have q4 : (d : Int) < 2 := by omega
                    have ey : ∃ yA yB, [(A, B, H), (B, A, H)][d]? = some (yA, yB, H) ∧ EndOk s.floors.length (yA, yB, H) := by
                      obtain rfl | rfl : d = 0 ∨ d = 1 := by omega
                      · exact ⟨A, B, rfl, EK.out⟩
                      · exact ⟨B, A, rfl, EK.out.turned⟩
                    obtain ⟨yA, yB, ey, he⟩ := ey
                    have HN : Hid (([(A, B, H), (B, A, H)].drop (d + 1)).foldl (rel1 s.floors k) (rel1 s.floors k cv (yA, yB, H)) = rel2 s.floors k cu (A, B, H)) := Lib.hid (by
                      have h := HO.out
                      obtain ⟨hdl, hde⟩ := List.getElem?_eq_some_iff.1 ey
                      rw [List.drop_eq_getElem_cons hdl, List.foldl_cons, hde] at h
                      exact h)
                    have r2 := R2.out.far HF.out lw2 (by omega)
                    have hrow : (triples [(A, B, H), (B, A, H)])[d]? = some [.int .i64 yA, .int .i64 yB, .int .i64 H] := by unfold triples; rw [List.getElem?_map, ey]; rfl
                    have d0 : wr.cell? ⟨Z + 1, d * 3, none⟩ = some (.int .i64 yA) := r2.cell (j := 0) hrow rfl
                    have d1 := r2.cell (j := 1) hrow rfl
                    have d2 := r2.cell (j := 2) hrow rfl
                    have dl := r2.lt
                    clear r2 hrow HO
                    obtain ⟨c0, c1, c2, c3, c4⟩ := five (HF1.out.blk HB1.out HB1.out.lt (by omega))
                    have lz := HF.out.size
                    have lb0 : w.heap.size < wr.heap.size := by omega
                    have lb1 : w.heap.size + 1 < wr.heap.size := HBk.out.lt
                    have Lw := Lib.hid (HL.out.up (NF.out _ HF1.out)).rf
                    by_cases h1 : H ≤ k
                    · by_cases h2 : yB = -1
                      · subst h2
                        go_wp2_with fail
                        go_roundw
                        case rel =>
                          refine ⟨d + 1, cv, by go_num, by omega, hvl, ?_, HBk.out.up (by (repeat (first | exact Below.refl _ _ | (with_reducible refine Below.drewN' ?_ _) | (with_reducible refine Below.drew ?_) | (with_reducible refine Below.setCell ?_ (by first | exact Nat.le_refl _ | omega | (with_reducible (repeat (first | refine sz_alloc ?_ | refine sz_setCell ?_ | refine sz_drew ?_ | refine sz_drewN ?_)); first | exact Nat.le_refl _ | omega) | (simp only [World.size_alloc, World.size_setCell, World.size_drew, size_drewN']; omega)) _) | (with_reducible refine Below.alloc ?_ (by first | exact Nat.le_refl _ | omega | (with_reducible (repeat (first | refine sz_alloc ?_ | refine sz_setCell ?_ | refine sz_drew ?_ | refine sz_drewN ?_)); first | exact Nat.le_refl _ | omega) | (simp only [World.size_alloc, World.size_setCell, World.size_drew, size_drewN']; omega)) _) | assumption))), HF.out.alloc (by omega) _⟩
                          have h := HN.out
                          rw [show rel1 s.floors k cv (yA, -1, H) = cv from if_neg (fun hc => hc.2.1 rfl)] at h
                          exact h
                        case measure => simp [intOf]; omega
                      · obtain ⟨b0, b1⟩ : 0 ≤ yB ∧ yB < s.floors.length := by rcases he.2.1 with e | e; exact absurd e h2; exact e
                        obtain ⟨b, rfl⟩ : ∃ b : Nat, yB = b := ⟨yB.toNat, by omega⟩
                        have hbl : b < s.floors.length := by omega
                        have x0 := rowInt Lw.out hbl
                        have xl := cell_lt x0
                        have y0 := gcell HBk.out (i := b) (by omega)
                        have yf := HBk.out.free
                        have h2' : ¬ ((b : Int) = -1) := h2
                        by_cases h3 : s.floors[b] ≤ k
                        · by_cases h4 : yA = -1
                          · subst h4
                            go_wp2_with fail
                            go_region
                            go_wp2_with fail
                            go_roundw
                            case rel =>
                              refine ⟨d + 1, cv.set b (min (cv[b]?.getD 0) k), by go_num, by omega, by rw [List.length_set]; exact hvl, ?_, ?_, ?_⟩
                              · have h := HN.out
                                rw [show rel1 s.floors k cv (-1, (b : Int), H) = cv.set b (min (cv[b]?.getD 0) k) from if_pos ⟨h1, h2, by simpa [List.getElem?_eq_getElem hbl] using h3, Or.inl rfl⟩] at h
                                exact h
                              · have hbv : b < cv.length := by omega
                                have e : (if (k : Int) < cv[b] then (k : Int) else cv[b]) = min (cv[b]?.getD 0) k := by
                                  rw [List.getElem?_eq_getElem hbv, Option.getD_some]
                                  split <;> omega
                                rw [e]
                                exact ((gset HBk.out b _).alloc _).drew
                              · exact ((HF.out.setIn b _).alloc (by rw [World.size_setCell]; omega) _).drew
                            case measure => simp [intOf]; omega
                          · obtain ⟨a0, a1⟩ : 0 ≤ yA ∧ yA < s.floors.length := by rcases he.1 with e | e; exact absurd e h4; exact e
                            obtain ⟨a, rfl⟩ : ∃ a : Nat, yA = a := ⟨yA.toNat, by omega⟩
                            have z0 := gcell HBk.out (i := a) (by omega)
                            have h4' : ¬ ((a : Int) = -1) := h4
                            by_cases h5 : cv[a]?.getD 0 ≤ k
                            · go_wp2_with fail
                              go_region
                              go_wp2_with fail
                              go_roundw
                              case rel =>
                                refine ⟨d + 1, cv.set b (min (cv[b]?.getD 0) k), by go_num, by omega, by rw [List.length_set]; exact hvl, ?_, ?_, ?_⟩
                                · have h := HN.out
                                  rw [show rel1 s.floors k cv ((a : Int), (b : Int), H) = cv.set b (min (cv[b]?.getD 0) k) from if_pos ⟨h1, h2, by simpa [List.getElem?_eq_getElem hbl] using h3, Or.inr h5⟩] at h
                                  exact h
                                · have hbv : b < cv.length := by omega
                                  have e : (if (k : Int) < cv[b] then (k : Int) else cv[b]) = min (cv[b]?.getD 0) k := by
                                    rw [List.getElem?_eq_getElem hbv, Option.getD_some]
                                    split <;> omega
                                  rw [e]
                                  exact ((gset HBk.out b _).alloc _).drew
                                · exact ((HF.out.setIn b _).alloc (by rw [World.size_setCell]; omega) _).drew
                              case measure => simp [intOf]; omega
                            · go_wp2_with fail
                              go_roundw
                              case rel =>
                                refine ⟨d + 1, cv, by go_num, by omega, hvl, ?_, HBk.out.up (by (repeat (first | exact Below.refl _ _ | (with_reducible refine Below.drewN' ?_ _) | (with_reducible refine Below.drew ?_) | (with_reducible refine Below.setCell ?_ (by first | exact Nat.le_refl _ | omega | (with_reducible (repeat (first | refine sz_alloc ?_ | refine sz_setCell ?_ | refine sz_drew ?_ | refine sz_drewN ?_)); first | exact Nat.le_refl _ | omega) | (simp only [World.size_alloc, World.size_setCell, World.size_drew, size_drewN']; omega)) _) | (with_reducible refine Below.alloc ?_ (by first | exact Nat.le_refl _ | omega | (with_reducible (repeat (first | refine sz_alloc ?_ | refine sz_setCell ?_ | refine sz_drew ?_ | refine sz_drewN ?_)); first | exact Nat.le_refl _ | omega) | (simp only [World.size_alloc, World.size_setCell, World.size_drew, size_drewN']; omega)) _) | assumption))), HF.out.alloc (by omega) _⟩
                                have h := HN.out
                                rw [show rel1 s.floors k cv ((a : Int), (b : Int), H) = cv from if_neg (fun hc => by rcases hc.2.2.2 with e | e; exact h4 e; exact h5 e)] at h
                                exact h
                              case measure => simp [intOf]; omega
                        · go_wp2_with fail
                          go_roundw
                          case rel =>
                            refine ⟨d + 1, cv, by go_num, by omega, hvl, ?_, HBk.out.up (by (repeat (first | exact Below.refl _ _ | (with_reducible refine Below.drewN' ?_ _) | (with_reducible refine Below.drew ?_) | (with_reducible refine Below.setCell ?_ (by first | exact Nat.le_refl _ | omega | (with_reducible (repeat (first | refine sz_alloc ?_ | refine sz_setCell ?_ | refine sz_drew ?_ | refine sz_drewN ?_)); first | exact Nat.le_refl _ | omega) | (simp only [World.size_alloc, World.size_setCell, World.size_drew, size_drewN']; omega)) _) | (with_reducible refine Below.alloc ?_ (by first | exact Nat.le_refl _ | omega | (with_reducible (repeat (first | refine sz_alloc ?_ | refine sz_setCell ?_ | refine sz_drew ?_ | refine sz_drewN ?_)); first | exact Nat.le_refl _ | omega) | (simp only [World.size_alloc, World.size_setCell, World.size_drew, size_drewN']; omega)) _) | assumption))), HF.out.alloc (by omega) _⟩
                            have h := HN.out
                            rw [show rel1 s.floors k cv (yA, (b : Int), H) = cv from if_neg (fun hc => h3 (by simpa [List.getElem?_eq_getElem hbl] using hc.2.2.1))] at h
                            exact h
                          case measure => simp [intOf]; omega
                    · go_wp2_with fail
                      go_roundw
                      case rel =>
                        refine ⟨d + 1, cv, by go_num, by omega, hvl, ?_, HBk.out.up (by (repeat (first | exact Below.refl _ _ | (with_reducible refine Below.drewN' ?_ _) | (with_reducible refine Below.drew ?_) | (with_reducible refine Below.setCell ?_ (by first | exact Nat.le_refl _ | omega | (with_reducible (repeat (first | refine sz_alloc ?_ | refine sz_setCell ?_ | refine sz_drew ?_ | refine sz_drewN ?_)); first | exact Nat.le_refl _ | omega) | (simp only [World.size_alloc, World.size_setCell, World.size_drew, size_drewN']; omega)) _) | (with_reducible refine Below.alloc ?_ (by first | exact Nat.le_refl _ | omega | (with_reducible (repeat (first | refine sz_alloc ?_ | refine sz_setCell ?_ | refine sz_drew ?_ | refine sz_drewN ?_)); first | exact Nat.le_refl _ | omega) | (simp only [World.size_alloc, World.size_setCell, World.size_drew, size_drewN']; omega)) _) | assumption))), HF.out.alloc (by omega) _⟩
                        have h := HN.out
                        rw [show rel1 s.floors k cv (yA, yB, H) = cv from if_neg (fun hc => h1 hc.1)] at h
                        exact h
                      case measure => simp [intOf]; omega
                  · obtain rfl : d = 2 := by omega
                    have e2 : cv = rel2 s.floors k cu (A, B, H) := HO.out
                    subst e2
                    go_wp2_with fail
                    go_roundw
                    case rel => exact ⟨m + 1, _, by go_num, by omega, hvl, HO2.out, HBk.out, HF1.out⟩
                    case measure => simp [intOf]; omega
              · obtain rfl : m = s.sills.length := by omega
                have e2 : cu = pass s k cur := by have h := HO.out; rw [List.drop_length] at h; exact h
                subst e2
                go_wp2_with fail
                go_roundw
                case rel => exact ⟨j + 1, _, by go_num, by omega, hul, HP2.out, HBk.out, HF.out⟩
                case measure => simp [intOf]; omega
          · obtain rfl : j = s.floors.length := by omega
            have e2 : cur = lvls s (k + 1) := by have h := HP.out; rw [Nat.sub_self] at h; exact h
            subst e2
            by_cases hk61 : k = 61
            · subst hk61
              go_wp2_with fail
              go_ret
              exact ⟨_, rfl, HBk.out, by omega, NF.out _ HF.out⟩
            · have hk60 : (k : Int) ≤ 60 := by omega
              go_wp2_with fail
              go_roundw
              case rel => exact ⟨k + 1, by go_num, by omega, HBk.out, HF.out⟩
              case measure => simp [intOf]; omega
end
end Go.Proofs.Ytcljkkojeleakaa
/- The law's own word whether a place is wet in a truth. -/
namespace Go.Proofs.Ytcljkkojeleakaa
open Go.RowKit Go.Shelf

section
variable {pT pF pS : Option Addr} {cT cF cS : Nat}
set_option maxRecDepth 100000 in
set_option maxHeartbeats 1000000 in
theorem wet_c (s : Sd) (m : Int) (p : Nat) (tr : Int) (G : List Int) (g cg : Nat) (w : World) (ok : Ok s) (hl : Lists w s pT pF pS cT cF cS) (hd : inDay s m = true) (hr : Row w (some ⟨g, 0, none⟩) 1 (ints G)) (hp : p < G.length) (h1 : -1000 ≤ tr) (h2 : tr ≤ 1000) :
    Calls Try.prog 57 #[sdVal s pT pF pS cT cF cS, .slice (some ⟨g, 0, none⟩) G.length cg, .int .i64 m, .int .i64 p, .int .i64 tr] w fun e w' => e = .returned (.bool (decide (G[p] < hgt s.table m + tr))) ∧ Up w w' := by
  obtain ⟨hm0, hm1⟩ : firstM s.table ≤ m ∧ m ≤ lastM s.table := inB_true.1 hd
  obtain ⟨r0, r1⟩ := hgt_rng ok.table m hm0
  have LN := Lib.hid (fun W (u : Up w W) => line_c s m W (hl.up u) ok.table hd)
  have RW := Lib.hid hr
  have q1 : (p : Int) < G.length := by omega
  have q0 : (0 : Int) ≤ p := by omega
  have sw : IntKind.i64.wrap (hgt s.table m + tr) = hgt s.table m + tr := IntWalk.i64_in _ (by omega)
  clear hl hr
  unfold sdVal
  go_enter Try.func57, Try.ntmps57
  go_wp2_with fail
  have HB : Hid (Blk (w.alloc (.cells #[.slice pT s.table.length cT, .int .i64 s.lo, .int .i64 s.hi, .slice pF s.floors.length cF, .slice pS s.sills.length cS] 28)) w.heap.size (sdCells s pT pF pS cT cF cS) 28) := Blk.new w (sdCells s pT pF pS cT cF cS) 28
  have U1 : Hid (Up w (w.alloc (.cells #[.slice pT s.table.length cT, .int .i64 s.lo, .int .i64 s.hi, .slice pF s.floors.length cF, .slice pS s.sills.length cS] 28))) := Lib.hid (by (repeat (first | exact Below.refl _ _ | (with_reducible refine Below.drewN' ?_ _) | (with_reducible refine Below.drew ?_) | (with_reducible refine Below.setCell ?_ (by first | exact Nat.le_refl _ | omega | (with_reducible (repeat (first | refine sz_alloc ?_ | refine sz_setCell ?_ | refine sz_drew ?_ | refine sz_drewN ?_)); first | exact Nat.le_refl _ | omega) | (simp only [World.size_alloc, World.size_setCell, World.size_drew, size_drewN']; omega)) _) | (with_reducible refine Below.alloc ?_ (by first | exact Nat.le_refl _ | omega | (with_reducible (repeat (first | refine sz_alloc ?_ | refine sz_setCell ?_ | refine sz_drew ?_ | refine sz_drewN ?_)); first | exact Nat.le_refl _ | omega) | (simp only [World.size_alloc, World.size_setCell, World.size_drew, size_drewN']; omega)) _) | assumption)))
  generalize (w.alloc (.cells #[.slice pT s.table.length cT, .int .i64 s.lo, .int .i64 s.hi, .slice pF s.floors.length cF, .slice pS s.sills.length cS] 28)) = w1 at *
  obtain ⟨c0, c1, c2, c3, c4⟩ := five HB.out
  have cg0 : w1.cell? ⟨g, p, none⟩ = some (.int .i64 G[p]) := by
    have := rowInt (RW.out.up U1.out) hp
    rwa [Nat.zero_add] at this
  refine region_tail (fun W' => W'.cell? ⟨w.heap.size, 0, none⟩ = some (.slice pT s.table.length cT) ∧ W'.cell? ⟨w.heap.size, 1, none⟩ = some (.int .i64 s.lo) ∧ W'.cell? ⟨w.heap.size, 2, none⟩ = some (.int .i64 s.hi) ∧ W'.cell? ⟨w.heap.size, 3, none⟩ = some (.slice pF s.floors.length cF) ∧ W'.cell? ⟨w.heap.size, 4, none⟩ = some (.slice pS s.sills.length cS) ∧ W'.cell? ⟨g, p, none⟩ = some (.int .i64 G[p])) 10 mixed (by kernel_rfl) ⟨c0, c1, c2, c3, c4, cg0⟩ (fun hHeld => ?_)
  refine wpAnyG_take 0 11 (v := ?_) rfl rfl (by kernel_rfl) (fun _ _ _ h => h) (Or.inl ⟨by rfl, ?_⟩) (by assumption) ?_
  rotate_left
  · (intro w' hSw; (try dsimp only at hSw); go_split_ands; go_simp; try with_reducible rfl)
  try simp only [List.setIfInBounds_toArray, List.set_cons_zero, List.set_cons_succ]
  refine wpAnyG_take 1 12 (v := ?_) rfl rfl (by kernel_rfl) (fun _ _ _ h => h) (Or.inl ⟨by rfl, ?_⟩) (by assumption) ?_
  rotate_left
  · (intro w' hSw; (try dsimp only at hSw); go_split_ands; go_simp; try with_reducible rfl)
  try simp only [List.setIfInBounds_toArray, List.set_cons_zero, List.set_cons_succ]
  refine wpAnyG_take 3 14 (v := ?_) rfl rfl (by kernel_rfl) (fun _ _ _ h => h) (Or.inl ⟨by rfl, ?_⟩) (by assumption) ?_
  rotate_left
  · (intro w' hSw; (try dsimp only at hSw); go_split_ands; go_simp; try with_reducible rfl)
  try simp only [List.setIfInBounds_toArray, List.set_cons_zero, List.set_cons_succ]
  refine wpAnyG_take 5 16 (v := ?_) rfl rfl (by kernel_rfl) (fun _ _ _ h => h) (Or.inl ⟨by rfl, ?_⟩) (by assumption) ?_
  rotate_left
  · (intro w' hSw; (try dsimp only at hSw); go_split_ands; go_simp; try with_reducible rfl)
  try simp only [List.setIfInBounds_toArray, List.set_cons_zero, List.set_cons_succ]
  refine wpAnyG_take 6 17 (v := ?_) rfl rfl (by kernel_rfl) (fun _ _ _ h => h) (Or.inl ⟨by rfl, ?_⟩) (by assumption) ?_
  rotate_left
  · (intro w' hSw; (try dsimp only at hSw); go_split_ands; go_simp; try with_reducible rfl)
  try simp only [List.setIfInBounds_toArray, List.set_cons_zero, List.set_cons_succ]
  refine wpAnyG_take 7 18 (v := ?_) rfl rfl (by kernel_rfl) (fun _ _ _ h => h) (Or.inl ⟨by rfl, ?_⟩) (by assumption) ?_
  rotate_left
  · (intro w' hSw; (try dsimp only at hSw); go_split_ands; go_simp; try with_reducible rfl)
  try simp only [List.setIfInBounds_toArray, List.set_cons_zero, List.set_cons_succ]
  refine wpAnyG_take 8 19 (v := ?_) rfl rfl (by kernel_rfl) (fun _ _ _ h => h) (Or.inl ⟨by rfl, ?_⟩) (by assumption) ?_
  rotate_left
  · (intro w' hSw; (try dsimp only at hSw); go_split_ands; go_simp; try with_reducible rfl)
  try simp only [List.setIfInBounds_toArray, List.set_cons_zero, List.set_cons_succ]
  refine wpAnyG_do 2 rfl (by kernel_rfl) (fun K hK => ?_)
  rw [if_pos (by rfl)]
  go_simp
  refine (LN.out _ (Up.trans U1.out ((Below.refl _ _).drew))).mono ?_
  rintro e w2 ⟨rfl, v2⟩
  have v2' : Up w1 w2 := Up.trans ((Below.refl _ _).drew) v2
  refine hK.out _ _ ⟨v2'.cellAt c0, v2'.cellAt c1, v2'.cellAt c2, v2'.cellAt c3, v2'.cellAt c4, v2'.cellAt cg0⟩ (fun hHeld => ?_)
  clear hK K
  refine wpAnyG_take 4 15 (v := ?_) rfl rfl (by kernel_rfl) (fun _ _ _ h => h) (Or.inl ⟨by rfl, ?_⟩) (by assumption) ?_
  rotate_left
  · (intro w' hSw; (try dsimp only at hSw); go_split_ands; go_simp; try with_reducible rfl)
  try simp only [List.setIfInBounds_toArray, List.set_cons_zero, List.set_cons_succ]
  refine wpAnyG_take 9 20 (v := ?_) rfl rfl (by kernel_rfl) (fun _ _ _ h => h) (Or.inl ⟨by rfl, ?_⟩) (by assumption) ?_
  rotate_left
  · (intro w' hSw; (try dsimp only at hSw); go_split_ands; go_simp; try with_reducible rfl)
  try simp only [List.setIfInBounds_toArray, List.set_cons_zero, List.set_cons_succ]
  refine wpAnyG_tail (by kernel_rfl) ?_
  have U2 := Lib.hid (Up.trans U1.out v2')
  clear v2 v2' hHeld c0 c1 c2 c3 c4 cg0
  change wpList _ _ _ [_] _ _
  go_wp2_with fail
  go_ret
  exact ⟨rfl, U2.out⟩
end
end Go.Proofs.Ytcljkkojeleakaa
/- The law's own looks, each true in a truth. -/
namespace Go.Proofs.Ytcljkkojeleakaa
open Go.RowKit Go.Shelf

/-- a look that is true in a truth, by given gates -/
def LookIs (s : Sd) (G : List Int) (tr : Int) (x : Lk) : Prop := inDay s x.1 = true ∧ ∃ p : Nat, x.2.1 = p ∧ p < s.floors.length ∧ x.2.2 = decide (G[p]?.getD 0 < hgt s.table x.1 + tr)
theorem wet_n {pT pF pS : Option Addr} {cT cF cS : Nat} (s : Sd) (m : Int) (p : Nat) (tr : Int) (G : List Int) (n : Nat) (hn : G.length = n) (g cg : Nat) (w : World) (ok : Ok s) (hl : Lists w s pT pF pS cT cF cS) (hd : inDay s m = true) (hr : Row w (some ⟨g, 0, none⟩) 1 (ints G)) (hp : p < n) (h1 : -1000 ≤ tr) (h2 : tr ≤ 1000) :
    Calls Try.prog 57 #[sdVal s pT pF pS cT cF cS, .slice (some ⟨g, 0, none⟩) n cg, .int .i64 m, .int .i64 p, .int .i64 tr] w fun e w' => e = .returned (.bool (decide (G[p]?.getD 0 < hgt s.table m + tr))) ∧ Up w w' := by
  subst hn
  have := wet_c s m p tr G g cg w ok hl hd hr hp h1 h2
  rwa [show G[p] = G[p]?.getD 0 by rw [List.getElem?_eq_getElem hp]; rfl] at this
theorem infoL : (Try.prog.info? 80).map (fun i => (i.zero, i.size, i.bytes)) = some (some (.agg #[.int .i64 0, .int .i64 0, .bool false]), 3, 24) := by kernel_rfl
theorem listsFar {w w' : World} {s : Sd} {pT pF pS : Option Addr} {cT cF cS hb n : Nat} (h : Lists w s pT pF pS cT cF cS) (hx : (0 < s.table.length → ∀ b off, pT = some ⟨b, off, none⟩ → b ≠ hb) ∧ (0 < s.floors.length → ∀ b off, pF = some ⟨b, off, none⟩ → b ≠ hb) ∧ (0 < s.sills.length → ∀ b off, pS = some ⟨b, off, none⟩ → b ≠ hb)) (hf : Far hb n w w') (hn : w.heap.size ≤ n) : Lists w' s pT pF pS cT cF cS :=
  ⟨hf.row h.rt (fun h0 b off e => ⟨by have := h.rt.lt (pairs_pos _) h0 e; omega, hx.1 (by simpa [pairs] using h0) b off e⟩), hf.row h.rf (fun h0 b off e => ⟨by have := h.rf.lt (ints_pos _) h0 e; omega, hx.2.1 (by simpa [ints] using h0) b off e⟩), hf.row h.rs (fun h0 b off e => ⟨by have := h.rs.lt (triples_pos _) h0 e; omega, hx.2.2 (by simpa [triples] using h0) b off e⟩), h.ct, h.cf, h.cs, h.mt, h.mf, h.ms⟩
/-- what the statement that makes a look makes, operation by operation -/
def LkP (s : Sd) (hb B n0 : Nat) (val fl : Value) : Nat → Value → Prop
  | 0, v => v = .pointer (some ⟨hb, 0, none⟩)
  | 1, v => v = val
  | 2, v => v = .int .i64 (firstM s.table)
  | 3, v => v = val
  | 4, v => v = .int .i64 (lastM s.table)
  | 5, v => ∃ m : Int, v = .int .i64 m ∧ firstM s.table ≤ m ∧ m ≤ lastM s.table
  | 6, v => v = .pointer (some ⟨hb, 0, none⟩)
  | 7, v => v = .pointer (some ⟨B, 3, none⟩)
  | 8, v => v = fl
  | 9, v => v = .int .i64 s.floors.length
  | 10, v => v = .int .i64 ((s.floors.length : Int) - 1)
  | 11, v => ∃ q : Nat, v = .int .i64 q ∧ q < s.floors.length
  | 12, v => ∃ (m : Int) (q : Nat), v = .agg #[.int .i64 m, .int .i64 q, .bool false] ∧ firstM s.table ≤ m ∧ m ≤ lastM s.table ∧ q < s.floors.length
  | 13, v => ∃ X : Nat, v = .pointer (some ⟨X, 0, none⟩) ∧ n0 ≤ X
  | _, _ => True
section
variable {pT pF pS : Option Addr} {cT cF cS : Nat} {pB : Option Addr} {cB : Nat} {lB : List Int}
set_option maxRecDepth 100000 in
set_option maxHeartbeats 1000000 in
theorem looked_o (hb : Nat) (s : Sd) (G : List Int) (g cg : Nat) (tr most : Int) (w : World) (ok : Ok s) (h : HeapAt w hb pB cB lB) (ha : Apart pB hb w.heap.size lB) (hlB : lB.length ≤ 140737488355328) (hl : Lists w s pT pF pS cT cF cS)
    (hx : (0 < s.table.length → ∀ b off, pT = some ⟨b, off, none⟩ → b ≠ hb) ∧ (0 < s.floors.length → ∀ b off, pF = some ⟨b, off, none⟩ → b ≠ hb) ∧ (0 < s.sills.length → ∀ b off, pS = some ⟨b, off, none⟩ → b ≠ hb)) (hg : g ≠ hb) (hr : Row w (some ⟨g, 0, none⟩) 1 (ints G)) (hG : G.length = s.floors.length) (t1 : -1000 ≤ tr) (t2 : tr ≤ 1000) (m0 : 0 ≤ most) (m1 : most ≤ 100) :
    Calls Try.prog 53 #[.pointer (some ⟨hb, 0, none⟩), sdVal s pT pF pS cT cF cS, .slice (some ⟨g, 0, none⟩) G.length cg, .int .i64 tr, .int .i64 most] w fun e w' => ∃ lk pL cL, e = .returned (.slice pL (lk : List Lk).length cL) ∧ (lk.length : Int) ≤ most ∧ Row w' pL 3 (lrows lk) ∧ (∀ x ∈ lk, LookIs s G tr x) ∧ HeapAt w' hb pB cB lB ∧ Far hb w.heap.size w w' ∧ w'.ownsRow (w.heap.size + 1) 80 3 (.slice pL lk.length cL) lk.length (lrows lk).flatten ∧ lk.length ≤ cL ∧ cL ≤ maxLen := by
  have OK := Lib.hid ok
  have HA := Lib.hid ha
  have HL := Lib.hid hl
  have HR := Lib.hid hr
  have HX := Lib.hid hx
  have HH := Lib.hid h
  have hbw : hb < w.heap.size := by obtain ⟨k, r, hB, -⟩ := h; exact hB.lt
  have f0 := ok.fl0
  have f8 := ok.fl1
  obtain ⟨d0, d1, d2⟩ := firstM_lt ok.table
  clear ok ha hl hr hx h
  unfold sdVal
  go_enter Try.func53, Try.ntmps53
  go_wp2_with fail
  have HB1 : Hid (Blk (w.alloc (.cells #[.slice pT s.table.length cT, .int .i64 s.lo, .int .i64 s.hi, .slice pF s.floors.length cF, .slice pS s.sills.length cS] 28)) w.heap.size (sdCells s pT pF pS cT cF cS) 28) := Blk.new w (sdCells s pT pF pS cT cF cS) 28
  have u1 : Up w (w.alloc (.cells #[.slice pT s.table.length cT, .int .i64 s.lo, .int .i64 s.hi, .slice pF s.floors.length cF, .slice pS s.sills.length cS] 28)) := by (repeat (first | exact Below.refl _ _ | (with_reducible refine Below.drewN' ?_ _) | (with_reducible refine Below.drew ?_) | (with_reducible refine Below.setCell ?_ (by first | exact Nat.le_refl _ | omega | (with_reducible (repeat (first | refine sz_alloc ?_ | refine sz_setCell ?_ | refine sz_drew ?_ | refine sz_drewN ?_)); first | exact Nat.le_refl _ | omega) | (simp only [World.size_alloc, World.size_setCell, World.size_drew, size_drewN']; omega)) _) | (with_reducible refine Below.alloc ?_ (by first | exact Nat.le_refl _ | omega | (with_reducible (repeat (first | refine sz_alloc ?_ | refine sz_setCell ?_ | refine sz_drew ?_ | refine sz_drewN ?_)); first | exact Nat.le_refl _ | omega) | (simp only [World.size_alloc, World.size_setCell, World.size_drew, size_drewN']; omega)) _) | assumption))
  have U1 := Lib.hid u1
  have HL1 := Lib.hid (HL.out.up u1)
  have HR1 := Lib.hid (HR.out.up u1)
  have HH1 := Lib.hid (HH.out.up u1)
  have HA1 := Lib.hid (HA.out.mono u1.size)
  clear u1 HL HR HH HA
  have SZ : Hid ((w.alloc (.cells #[.slice pT s.table.length cT, .int .i64 s.lo, .int .i64 s.hi, .slice pF s.floors.length cF, .slice pS s.sills.length cS] 28)).heap.size = w.heap.size + 1) := Lib.hid (World.size_alloc _ _)
  generalize (w.alloc (.cells #[.slice pT s.table.length cT, .int .i64 s.lo, .int .i64 s.hi, .slice pF s.floors.length cF, .slice pS s.sills.length cS] 28)) = w1 at *
  have l1 := HB1.out.lt
  refine (upto_c hb pB cB lB most w1 HH1.out HA1.out hlB (by omega) (by omega)).mono ?_
  rintro e w2 ⟨nv, ⟨y0, y1, -⟩, rfl, g2, f2⟩
  have y1' := y1 m0
  obtain ⟨N, rfl⟩ : ∃ N : Nat, nv = N := ⟨nv.toNat, by omega⟩
  have HH2 := Lib.hid g2
  have HF2 := Lib.hid f2
  clear g2 f2 y1 HH1
  go_wp2_with fail
  go_loopw [16, 11] (fun i v wr => ∃ (k : Nat) (lk : List Lk), i = .int .i64 k ∧ k ≤ N ∧ lk.length = k ∧ (∀ x ∈ lk, LookIs s G tr x) ∧ wr.ownsRow w1.heap.size 80 3 v k (lrows lk).flatten ∧ HeapAt wr hb pB cB lB ∧ Far hb w1.heap.size w1 wr) (fun i _ _ => N - (intOf i).toNat)
  case atStart => exact ⟨0, [], rfl, by omega, rfl, by simp, ⟨rfl, .inl ⟨rfl, rfl⟩⟩, HH2.out, HF2.out⟩
  case round =>
    obtain ⟨k, lk, rfl, hk, hlen, hlk, hown, hh, hf⟩ := hrel
    have HO := Lib.hid hown
    have HF := Lib.hid hf
    have HHr := Lib.hid hh
    have HLK := Lib.hid hlk
    clear hown hf hh hlk
    by_cases hlt : k < N
    · have q1 : (k : Int) < (N : Int) := by omega
      go_wp2_with fail
      have ew : w1.heap.size ≤ wr.heap.size := HF.out.size
      have sn : IntKind.i64.wrap ((s.floors.length : Int) - 1) = (s.floors.length : Int) - 1 := IntWalk.i64_in _ (by omega)
      refine region_inv 14 (fun done a W => ∃ V : Nat → Value, a = ⟨#[.pointer (some ⟨hb, 0, none⟩), .agg #[.slice pT s.table.length cT, .int .i64 s.lo, .int .i64 s.hi, .slice pF s.floors.length cF, .slice pS s.sills.length cS], .slice (some ⟨g, 0, none⟩) s.floors.length cg, .int .i64 tr, .int .i64 most, undef, .pointer (some ⟨w.heap.size, 0, none⟩), undef, undef, undef, .slice none 0 0, u11, V 13, .pointer (some ⟨hb, 0, none⟩), .int .i64 most, .int .i64 N, .int .i64 k, .bool true, V 0, V 1, V 2, V 3, V 4, V 5, V 6, V 7, V 8, V 9, V 10, V 11, V 12, u31, u32, u33, u34, u35, u36, u37, u38, u39, u40, u41, u42, u43, u44, undef], []⟩ ∧ (∀ i, done i = true → LkP s hb w.heap.size w1.heap.size (.agg #[.slice pT s.table.length cT, .int .i64 s.lo, .int .i64 s.hi, .slice pF s.floors.length cF, .slice pS s.sills.length cS]) (.slice pF s.floors.length cF) i (V i)) ∧ W.ownsRow w1.heap.size 80 3 u11 k (lrows lk).flatten ∧ HeapAt W hb pB cB lB ∧ Far hb w1.heap.size w1 W ∧ wr.heap.size ≤ W.heap.size ∧ (done 13 = true → ∃ X, V 13 = .pointer (some ⟨X, 0, none⟩) ∧ wr.heap.size ≤ X ∧ Blk W X [.int .i64 0, .int .i64 0, .bool false] 80)) mixed (by kernel_rfl) ?_ ?_ ?_
      · exact ⟨fun i => if i = 0 then u18 else if i = 1 then u19 else if i = 2 then u20 else if i = 3 then u21 else if i = 4 then u22 else if i = 5 then u23 else if i = 6 then u24 else if i = 7 then u25 else if i = 8 then u26 else if i = 9 then u27 else if i = 10 then u28 else if i = 11 then u29 else if i = 12 then u30 else u12, rfl, (fun i h => by cases h), HO.out, HHr.out, HF.out.drew, Nat.le_refl _, (fun h => by cases h)⟩
      · intro done a W i o hi hd ho hall hinv
        obtain ⟨V, rfl, hv, ho', hh', hf', hs', hx'⟩ := hinv
        have ltb : hb < w1.heap.size := by omega
        obtain ⟨c0, c1, c2, c3, c4⟩ := five (hf'.blk HB1.out l1 (by omega))
        have LW := Lib.hid (listsFar HL1.out HX.out hf' (Nat.le_refl _))
        have HV := Lib.hid hv
        have HOw := Lib.hid ho'
        have HHw := Lib.hid hh'
        have HFw := Lib.hid hf'
        have HXw := Lib.hid hx'
        have HD := Lib.hid hd
        obtain rfl | rfl | rfl | rfl | rfl | rfl | rfl | rfl | rfl | rfl | rfl | rfl | rfl | rfl : i = 0 ∨ i = 1 ∨ i = 2 ∨ i = 3 ∨ i = 4 ∨ i = 5 ∨ i = 6 ∨ i = 7 ∨ i = 8 ∨ i = 9 ∨ i = 10 ∨ i = 11 ∨ i = 12 ∨ i = 13 := by omega
        · clear hall
          clear ho hv ho' hh' hf' hx' hd
          refine wpOp_step rfl (fun K hK => ?_)
          rw [if_pos (by rfl)]
          have HK := Lib.hid hK
          clear hK
          go_simp
          exact HK.out _ _ ⟨fun k => if k = 0 then .pointer (some ⟨hb, 0, none⟩) else V k, rfl, facts_upd HV.out rfl, HOw.out, HHw.out, HFw.out, hs', fun h => HXw.out (by simpa [upd] using h)⟩
        · clear hall
          clear ho hv ho' hh' hf' hx' hd
          refine wpOp_step rfl (fun K hK => ?_)
          rw [if_pos (by rfl)]
          have HK := Lib.hid hK
          clear hK
          go_simp
          exact HK.out _ _ ⟨fun k => if k = 1 then .agg #[.slice pT s.table.length cT, .int .i64 s.lo, .int .i64 s.hi, .slice pF s.floors.length cF, .slice pS s.sills.length cS] else V k, rfl, facts_upd HV.out rfl, HOw.out, HHw.out, HFw.out, hs', fun h => HXw.out (by simpa [upd] using h)⟩
        · have e1 : V 1 = _ := hv 1 (hall ⟨1, .data⟩ (by cases ho; simp) rfl)
          clear ho hv ho' hh' hf' hx' hd hall
          refine wpOp_step rfl (fun K hK => ?_)
          rw [if_pos (by rfl)]
          have HK := Lib.hid hK
          clear hK
          go_simp
          refine (firstL_c s W LW.out OK.out.table.2.2.1).mono ?_
          rintro e w3 ⟨rfl, u3⟩
          exact HK.out _ _ ⟨fun k => if k = 2 then .int .i64 (firstM s.table) else V k, (by simp only [e1]; rfl), facts_upd HV.out rfl, ownsRow_up HOw.out u3, HHw.out.up u3, HFw.out.trans (Far.of (u3.mono (HFw.out.size))), Nat.le_trans hs' u3.size, fun h => (by obtain ⟨X, h1, h2, h3⟩ := HXw.out (by simpa [upd] using h); exact ⟨X, h1, h2, h3.up u3⟩)⟩
        · clear hall
          clear ho hv ho' hh' hf' hx' hd
          refine wpOp_step rfl (fun K hK => ?_)
          rw [if_pos (by rfl)]
          have HK := Lib.hid hK
          clear hK
          go_simp
          exact HK.out _ _ ⟨fun k => if k = 3 then .agg #[.slice pT s.table.length cT, .int .i64 s.lo, .int .i64 s.hi, .slice pF s.floors.length cF, .slice pS s.sills.length cS] else V k, rfl, facts_upd HV.out rfl, HOw.out, HHw.out, HFw.out, hs', fun h => HXw.out (by simpa [upd] using h)⟩
        · have e3 : V 3 = _ := hv 3 (hall ⟨3, .data⟩ (by cases ho; simp) rfl)
          clear ho hv ho' hh' hf' hx' hd hall
          refine wpOp_step rfl (fun K hK => ?_)
          rw [if_pos (by rfl)]
          have HK := Lib.hid hK
          clear hK
          go_simp
          refine (lastL_c s W LW.out OK.out.table.2.2.1 OK.out.table.2.2.2).mono ?_
          rintro e w3 ⟨rfl, u3⟩
          exact HK.out _ _ ⟨fun k => if k = 4 then .int .i64 (lastM s.table) else V k, (by simp only [e3]; rfl), facts_upd HV.out rfl, ownsRow_up HOw.out u3, HHw.out.up u3, HFw.out.trans (Far.of (u3.mono (HFw.out.size))), Nat.le_trans hs' u3.size, fun h => (by obtain ⟨X, h1, h2, h3⟩ := HXw.out (by simpa [upd] using h); exact ⟨X, h1, h2, h3.up u3⟩)⟩
        · have e0 : V 0 = _ := hv 0 (hall ⟨0, .data⟩ (by cases ho; simp) rfl)
          have e2 : V 2 = _ := hv 2 (hall ⟨2, .data⟩ (by cases ho; simp) rfl)
          have e4 : V 4 = _ := hv 4 (hall ⟨4, .data⟩ (by cases ho; simp) rfl)
          clear ho hv ho' hh' hf' hx' hd hall
          refine wpOp_step rfl (fun K hK => ?_)
          rw [if_pos (by rfl)]
          have HK := Lib.hid hK
          clear hK
          go_simp
          refine (from_c hb pB cB lB (firstM s.table) (lastM s.table) W HHw.out (HA1.out.mono HFw.out.size) hlB (by omega) (by omega) (by omega) (by omega)).mono ?_
          rintro e w3 ⟨m, ⟨m1', m2', -⟩, rfl, g3, f3⟩
          exact HK.out _ _ ⟨fun k => if k = 5 then .int .i64 m else V k, (by simp only [e0, e2, e4]; rfl), facts_upd HV.out ⟨m, rfl, m1', m2' (by omega)⟩, f3.own HOw.out (by omega), g3, HFw.out.trans (f3.mono HFw.out.size), Nat.le_trans hs' f3.size, fun h => (by obtain ⟨X, h1, h2, h3⟩ := HXw.out (by simpa [upd] using h); exact ⟨X, h1, h2, f3.blk h3 h3.lt (by omega)⟩)⟩
        · clear hall
          clear ho hv ho' hh' hf' hx' hd
          refine wpOp_step rfl (fun K hK => ?_)
          rw [if_pos (by rfl)]
          have HK := Lib.hid hK
          clear hK
          go_simp
          exact HK.out _ _ ⟨fun k => if k = 6 then .pointer (some ⟨hb, 0, none⟩) else V k, rfl, facts_upd HV.out rfl, HOw.out, HHw.out, HFw.out, hs', fun h => HXw.out (by simpa [upd] using h)⟩
        · clear hall
          clear ho hv ho' hh' hf' hx' hd
          refine wpOp_step rfl (fun K hK => ?_)
          rw [if_pos (by rfl)]
          have HK := Lib.hid hK
          clear hK
          go_simp
          exact HK.out _ _ ⟨fun k => if k = 7 then .pointer (some ⟨w.heap.size, 3, none⟩) else V k, rfl, facts_upd HV.out rfl, HOw.out, HHw.out, HFw.out, hs', fun h => HXw.out (by simpa [upd] using h)⟩
        · have e7 : V 7 = _ := hv 7 (hall ⟨7, .data⟩ (by cases ho; simp) rfl)
          clear ho hv ho' hh' hf' hx' hd hall
          refine wpOp_step rfl (fun K hK => ?_)
          rw [if_pos (by rfl)]
          have HK := Lib.hid hK
          clear hK
          go_simp
          exact HK.out _ _ ⟨fun k => if k = 8 then .slice pF s.floors.length cF else V k, (by simp only [e7]; rfl), facts_upd HV.out rfl, HOw.out, HHw.out, HFw.out, hs', fun h => HXw.out (by simpa [upd] using h)⟩
        · have e8 : V 8 = _ := hv 8 (hall ⟨8, .data⟩ (by cases ho; simp) rfl)
          clear ho hv ho' hh' hf' hx' hd hall
          refine wpOp_step rfl (fun K hK => ?_)
          rw [if_pos (by rfl)]
          have HK := Lib.hid hK
          clear hK
          go_simp
          exact HK.out _ _ ⟨fun k => if k = 9 then .int .i64 s.floors.length else V k, (by simp only [e8]; rfl), facts_upd HV.out rfl, HOw.out, HHw.out, HFw.out, hs', fun h => HXw.out (by simpa [upd] using h)⟩
        · have e9 : V 9 = _ := hv 9 (hall ⟨9, .data⟩ (by cases ho; simp) rfl)
          clear ho hv ho' hh' hf' hx' hd hall
          refine wpOp_step rfl (fun K hK => ?_)
          rw [if_pos (by rfl)]
          have HK := Lib.hid hK
          clear hK
          go_simp
          exact HK.out _ _ ⟨fun k => if k = 10 then .int .i64 ((s.floors.length : Int) - 1) else V k, (by simp only [e9]; rfl), facts_upd HV.out rfl, HOw.out, HHw.out, HFw.out, hs', fun h => HXw.out (by simpa [upd] using h)⟩
        · have e6 : V 6 = _ := hv 6 (hall ⟨6, .data⟩ (by cases ho; simp) rfl)
          have e10 : V 10 = _ := hv 10 (hall ⟨10, .data⟩ (by cases ho; simp) rfl)
          clear ho hv ho' hh' hf' hx' hd hall
          refine wpOp_step rfl (fun K hK => ?_)
          rw [if_pos (by rfl)]
          have HK := Lib.hid hK
          clear hK
          go_simp
          refine (upto_c hb pB cB lB ((s.floors.length : Int) - 1) W HHw.out (HA1.out.mono HFw.out.size) hlB (by omega) (by omega)).mono ?_
          rintro e w3 ⟨m, ⟨m1', m2', -⟩, rfl, g3, f3⟩
          have m3' := m2' (by omega)
          obtain ⟨q, rfl⟩ : ∃ q : Nat, m = q := ⟨m.toNat, by omega⟩
          exact HK.out _ _ ⟨fun k => if k = 11 then .int .i64 q else V k, (by simp only [e6, e10]; rfl), facts_upd HV.out ⟨q, rfl, by omega⟩, f3.own HOw.out (by omega), g3, HFw.out.trans (f3.mono HFw.out.size), Nat.le_trans hs' f3.size, fun h => (by obtain ⟨X, h1, h2, h3⟩ := HXw.out (by simpa [upd] using h); exact ⟨X, h1, h2, f3.blk h3 h3.lt (by omega)⟩)⟩
        · obtain ⟨m, e5, m1', m2'⟩ := hv 5 (hall ⟨5, .data⟩ (by cases ho; simp) rfl)
          obtain ⟨q, e11, q1'⟩ := hv 11 (hall ⟨11, .data⟩ (by cases ho; simp) rfl)
          clear ho hv ho' hh' hf' hx' hd hall
          refine wpOp_step rfl (fun K hK => ?_)
          rw [if_pos (by rfl)]
          have HK := Lib.hid hK
          clear hK
          go_simp
          exact HK.out _ _ ⟨fun k => if k = 12 then .agg #[.int .i64 m, .int .i64 q, .bool false] else V k, (by simp only [e5, e11]; rfl), facts_upd HV.out ⟨m, q, rfl, m1', m2', q1'⟩, HOw.out, HHw.out, HFw.out, hs', fun h => HXw.out (by simpa [upd] using h)⟩
        · clear hall
          clear ho hv ho' hh' hf' hx' hd
          refine wpOp_step rfl (fun K hK => ?_)
          rw [if_pos (by rfl)]
          have HK := Lib.hid hK
          clear hK
          go_simp
          have u3 : Up W (W.alloc (.cells #[.int .i64 0, .int .i64 0, .bool false] 80)) := by (repeat (first | exact Below.refl _ _ | (with_reducible refine Below.drewN' ?_ _) | (with_reducible refine Below.drew ?_) | (with_reducible refine Below.setCell ?_ (by first | exact Nat.le_refl _ | omega | (with_reducible (repeat (first | refine sz_alloc ?_ | refine sz_setCell ?_ | refine sz_drew ?_ | refine sz_drewN ?_)); first | exact Nat.le_refl _ | omega) | (simp only [World.size_alloc, World.size_setCell, World.size_drew, size_drewN']; omega)) _) | (with_reducible refine Below.alloc ?_ (by first | exact Nat.le_refl _ | omega | (with_reducible (repeat (first | refine sz_alloc ?_ | refine sz_setCell ?_ | refine sz_drew ?_ | refine sz_drewN ?_)); first | exact Nat.le_refl _ | omega) | (simp only [World.size_alloc, World.size_setCell, World.size_drew, size_drewN']; omega)) _) | assumption))
          exact HK.out _ _ ⟨fun k => if k = 13 then .pointer (some ⟨W.heap.size, 0, none⟩) else V k, rfl, facts_upd HV.out ⟨_, rfl, HFw.out.size⟩, ownsRow_up HOw.out u3, HHw.out.up u3, HFw.out.trans (Far.of (u3.mono (HFw.out.size))), Nat.le_trans hs' u3.size, fun _ => ⟨_, rfl, hs', Blk.new W [.int .i64 0, .int .i64 0, .bool false] _⟩⟩
      · rintro a W ⟨V, rfl, hv, ho', hh', hf', hs', hx'⟩
        obtain ⟨X, e13, x1, x2⟩ := hx' rfl
        obtain ⟨m, q, e12, m1', m2', q1'⟩ := hv 12 rfl
        rw [e12, e13]
        change wpList _ _ _ [_] _ _
        have x3 := ((x2.set 0 (.int .i64 m)).set 1 (.int .i64 q)).set 2 (.bool false)
        simp only [List.set_cons_zero, List.set_cons_succ] at x3
        have f3 : Far hb w1.heap.size w1 (((W.setCell ⟨X, 0, none⟩ (.int .i64 m)).setCell ⟨X, 1, none⟩ (.int .i64 q)).setCell ⟨X, 2, none⟩ (.bool false)) := ((hf'.setNew (a := ⟨X, 0, none⟩) (by simp only; omega) _).setNew (a := ⟨X, 1, none⟩) (by simp only; omega) _).setNew (a := ⟨X, 2, none⟩) (by simp only; omega) _
        have nX : u11.ownBlock ≠ some X := fun e => by have := (HO.out.lt X e).2; omega
        have o3 : (((W.setCell ⟨X, 0, none⟩ (.int .i64 m)).setCell ⟨X, 1, none⟩ (.int .i64 q)).setCell ⟨X, 2, none⟩ (.bool false)).ownsRow w1.heap.size 80 3 u11 k (lrows lk).flatten := ownsRow_setCell_other (ownsRow_setCell_other (ownsRow_setCell_other ho' (a := ⟨X, 0, none⟩) nX _) (a := ⟨X, 1, none⟩) nX _) (a := ⟨X, 2, none⟩) nX _
        have h3 : HeapAt (((W.setCell ⟨X, 0, none⟩ (.int .i64 m)).setCell ⟨X, 1, none⟩ (.int .i64 q)).setCell ⟨X, 2, none⟩ (.bool false)) hb pB cB lB := by
          have b3 : Below w1.heap.size W (((W.setCell ⟨X, 0, none⟩ (.int .i64 m)).setCell ⟨X, 1, none⟩ (.int .i64 q)).setCell ⟨X, 2, none⟩ (.bool false)) := (((Below.refl _ _).setCell (p := ⟨X, 0, none⟩) (by simp only; omega) _).setCell (p := ⟨X, 1, none⟩) (by simp only; omega) _).setCell (p := ⟨X, 2, none⟩) (by simp only; omega) _
          exact hh'.below b3 (by omega) HA1.out
        have xc0 := x2.cell 0
        have xc1 := x2.cell 1
        have xc2 := x2.cell 2
        have xf := x2.free
        have xl := x2.lt
        have X3 := Lib.hid x3
        have F3 := Lib.hid f3
        have O3 := Lib.hid o3
        have H3 := Lib.hid h3
        clear hv ho' hh' hf' hs' hx' x3 f3 o3 h3 x2 e12 e13 HHr
        simp only [List.getElem?_cons_zero, List.getElem?_cons_succ] at xc0 xc1 xc2
        go_upto_region 5 with fail
        generalize hw3 : (((W.setCell ⟨X, 0, none⟩ (.int .i64 m)).setCell ⟨X, 1, none⟩ (.int .i64 q)).setCell ⟨X, 2, none⟩ (.bool false)) = w3 at *
        clear hw3 xc0 xc1 xc2 xf xl
        obtain ⟨c0, c1, c2, c3, c4⟩ := five (F3.out.blk HB1.out l1 (by omega))
        have xc0 := X3.out.cell 0
        have xc1 := X3.out.cell 1
        have xc2 := X3.out.cell 2
        simp only [List.getElem?_cons_zero, List.getElem?_cons_succ] at xc0 xc1 xc2
        have LW := Lib.hid (listsFar HL1.out HX.out F3.out (Nat.le_refl _))
        have RW := Lib.hid (F3.out.row HR1.out (fun h0 b off e => by
          simp only [Option.some.injEq, Addr.mk.injEq, and_true] at e
          obtain ⟨rfl, rfl⟩ := e
          exact ⟨HR1.out.lt (ints_pos _) h0 rfl, hg⟩))
        have hd : inDay s m = true := inB_true.2 ⟨m1', m2'⟩
        go_wp2_with fail
        refine (wet_n s m q tr G s.floors.length hG g cg w3 OK.out LW.out hd RW.out q1' t1 t2).mono ?_
        rintro e w4 ⟨rfl, u4⟩
        generalize hbb : decide (G[q]?.getD 0 < hgt s.table m + tr) = bb
        have xw := X3.out.up u4
        have xb := xw.set 2 (.bool bb)
        simp only [List.set_cons_zero, List.set_cons_succ] at xb
        have xf := xw.free
        have xl := xw.lt
        have F5 : Hid (Far hb w1.heap.size w1 (w4.setCell ⟨X, 2, none⟩ (.bool bb))) := Lib.hid ((F3.out.trans (Far.of (u4.mono F3.out.size))).setNew (a := ⟨X, 2, none⟩) (by simp only; omega) _)
        have O5 : Hid ((w4.setCell ⟨X, 2, none⟩ (.bool bb)).ownsRow w1.heap.size 80 3 u11 k (lrows lk).flatten) := Lib.hid (ownsRow_setCell_other (ownsRow_up O3.out u4) (a := ⟨X, 2, none⟩) nX _)
        have H5 : Hid (HeapAt (w4.setCell ⟨X, 2, none⟩ (.bool bb)) hb pB cB lB) := Lib.hid ((H3.out.up u4).below ((Below.refl w1.heap.size w4).setCell (p := ⟨X, 2, none⟩) (by simp only; omega) _) (by omega) HA1.out)
        have xd0 := xw.cell 0
        have xd1 := xw.cell 1
        have xd2 := xw.cell 2

        simp only [List.getElem?_cons_zero, List.getElem?_cons_succ] at xd0 xd1 xd2
        have HI : Hid (LookIs s G tr (m, (q : Int), bb)) := Lib.hid ⟨hd, q, rfl, q1', hbb.symm⟩
        obtain ⟨i2, hi, hz0, hz1, hz2⟩ := info_parts infoL
        clear xw xb c0 c1 c2 c3 c4 xc0 xc1 xc2 LW RW u4 O3 H3 F3 X3 hbb
        have hs5 : w1.heap.size ≤ (w4.setCell ⟨X, 2, none⟩ (.bool bb)).heap.size := F5.out.size
        go_wp2_with (at_builtin; refine wpList_append_own _ rfl _ _ 89 rfl w1.heap.size 80 i2 (.agg #[.int .i64 0, .int .i64 0, .bool false]) 3 24 Try.underlying89 hi hz0 hz1 hz2 rfl (by decide) _ _ _ rfl (O5.out.alloc _) ⟨w4.heap.size, 0, none⟩ 1 1 [.int .i64 m, .int .i64 q, .bool bb] rfl rfl (newsAt _ (by simp only [World.size_setCell]) [.int .i64 m, .int .i64 q, .bool bb] _) (by simp [Value.oneCell']) (by simp [maxLen]; omega) (by omega) (sz_alloc hs5) ?_; intro v' w6 hown hgr hnn; clear hnn)
        have F6 := Lib.hid ((F5.out.alloc hs5 _).grown hgr (sz_alloc hs5) (fun j e => (O5.out.lt j e).1))
        have H6 := Lib.hid (H5.out.below (((Below.refl w1.heap.size _).alloc hs5 _).grown hgr (sz_alloc hs5) (fun j e => (O5.out.lt j e).1)) (by omega) HA1.out)
        have O6 := Lib.hid hown
        clear hown hgr
        go_roundw
        case rel =>
          refine ⟨k + 1, lk ++ [(m, (q : Int), bb)], by go_num, by omega, by rw [List.length_append, hlen]; rfl, fun x hx => ?_, ?_, H6.out, F6.out⟩
          · rw [List.mem_append] at hx
            rcases hx with hx | hx
            · exact HLK.out x hx
            · rw [List.mem_singleton] at hx; subst hx; exact HI.out
          · have e : (lrows (lk ++ [(m, (q : Int), bb)])).flatten = (lrows lk).flatten ++ [.int .i64 m, .int .i64 q, .bool bb] := by unfold lrows; rw [List.map_append, List.flatten_append]; rfl
            rw [e]
            exact O6.out
        case measure => simp [intOf]; omega
    · obtain rfl : k = N := by omega
      obtain ⟨qL, dL, rfl, a1, a2, hR, -⟩ := Row.of_own (rows := lrows lk) (by simp [flatOk, lrows]) HO.out (by simp [lrows, hlen])
      subst hlen
      go_wp2_with fail
      go_ret
      exact ⟨lk, qL, dL, rfl, by omega, hR, HLK.out, HHr.out, ⟨HF.out.os.trans U1.out.os, HF.out.tape.trans U1.out.tape, HF.out.output.trans U1.out.output, Nat.le_trans U1.out.size HF.out.size, fun b hb1 hb2 => (HF.out.block b (Nat.lt_of_lt_of_le hb1 U1.out.size) hb2).trans (U1.out.block b hb1)⟩, by have h := HO.out; rw [show w1.heap.size = w.heap.size + 1 from SZ.out] at h; exact h, a1, a2⟩
theorem looked_c (hb : Nat) (s : Sd) (G : List Int) (g cg : Nat) (tr most : Int) (w : World) (ok : Ok s) (h : HeapAt w hb pB cB lB) (ha : Apart pB hb w.heap.size lB) (hlB : lB.length ≤ 140737488355328) (hl : Lists w s pT pF pS cT cF cS)
    (hx : (0 < s.table.length → ∀ b off, pT = some ⟨b, off, none⟩ → b ≠ hb) ∧ (0 < s.floors.length → ∀ b off, pF = some ⟨b, off, none⟩ → b ≠ hb) ∧ (0 < s.sills.length → ∀ b off, pS = some ⟨b, off, none⟩ → b ≠ hb)) (hg : g ≠ hb) (hr : Row w (some ⟨g, 0, none⟩) 1 (ints G)) (hG : G.length = s.floors.length) (t1 : -1000 ≤ tr) (t2 : tr ≤ 1000) (m0 : 0 ≤ most) (m1 : most ≤ 100) :
    Calls Try.prog 53 #[.pointer (some ⟨hb, 0, none⟩), sdVal s pT pF pS cT cF cS, .slice (some ⟨g, 0, none⟩) G.length cg, .int .i64 tr, .int .i64 most] w fun e w' => ∃ lk pL cL, e = .returned (.slice pL (lk : List Lk).length cL) ∧ (lk.length : Int) ≤ most ∧ Row w' pL 3 (lrows lk) ∧ (∀ x ∈ lk, LookIs s G tr x) ∧ HeapAt w' hb pB cB lB ∧ Far hb w.heap.size w w' := by
  refine (looked_o hb s G g cg tr most w ok h ha hlB hl hx hg hr hG t1 t2 m0 m1).mono ?_
  rintro e w' ⟨lk, pL, cL, h1, h2, h3, h4, h5, h6, -⟩
  exact ⟨lk, pL, cL, h1, h2, h3, h4, h5, h6⟩
theorem looked_no (hb : Nat) (s : Sd) (G : List Int) (n : Nat) (hn : G.length = n) (g cg : Nat) (tr most : Int) (w : World) (ok : Ok s) (h : HeapAt w hb pB cB lB) (ha : Apart pB hb w.heap.size lB) (hlB : lB.length ≤ 140737488355328) (hl : Lists w s pT pF pS cT cF cS)
    (hx : (0 < s.table.length → ∀ b off, pT = some ⟨b, off, none⟩ → b ≠ hb) ∧ (0 < s.floors.length → ∀ b off, pF = some ⟨b, off, none⟩ → b ≠ hb) ∧ (0 < s.sills.length → ∀ b off, pS = some ⟨b, off, none⟩ → b ≠ hb)) (hg : g ≠ hb) (hr : Row w (some ⟨g, 0, none⟩) 1 (ints G)) (hG : n = s.floors.length) (t1 : -1000 ≤ tr) (t2 : tr ≤ 1000) (m0 : 0 ≤ most) (m1 : most ≤ 100) :
    Calls Try.prog 53 #[.pointer (some ⟨hb, 0, none⟩), sdVal s pT pF pS cT cF cS, .slice (some ⟨g, 0, none⟩) n cg, .int .i64 tr, .int .i64 most] w fun e w' => ∃ lk pL cL, e = .returned (.slice pL (lk : List Lk).length cL) ∧ (lk.length : Int) ≤ most ∧ Row w' pL 3 (lrows lk) ∧ (∀ x ∈ lk, LookIs s G tr x) ∧ HeapAt w' hb pB cB lB ∧ Far hb w.heap.size w w' ∧ w'.ownsRow (w.heap.size + 1) 80 3 (.slice pL lk.length cL) lk.length (lrows lk).flatten ∧ lk.length ≤ cL ∧ cL ≤ maxLen := by
  subst hn
  exact looked_o hb s G g cg tr most w ok h ha hlB hl hx hg hr hG t1 t2 m0 m1
theorem looked_n (hb : Nat) (s : Sd) (G : List Int) (n : Nat) (hn : G.length = n) (g cg : Nat) (tr most : Int) (w : World) (ok : Ok s) (h : HeapAt w hb pB cB lB) (ha : Apart pB hb w.heap.size lB) (hlB : lB.length ≤ 140737488355328) (hl : Lists w s pT pF pS cT cF cS)
    (hx : (0 < s.table.length → ∀ b off, pT = some ⟨b, off, none⟩ → b ≠ hb) ∧ (0 < s.floors.length → ∀ b off, pF = some ⟨b, off, none⟩ → b ≠ hb) ∧ (0 < s.sills.length → ∀ b off, pS = some ⟨b, off, none⟩ → b ≠ hb)) (hg : g ≠ hb) (hr : Row w (some ⟨g, 0, none⟩) 1 (ints G)) (hG : n = s.floors.length) (t1 : -1000 ≤ tr) (t2 : tr ≤ 1000) (m0 : 0 ≤ most) (m1 : most ≤ 100) :
    Calls Try.prog 53 #[.pointer (some ⟨hb, 0, none⟩), sdVal s pT pF pS cT cF cS, .slice (some ⟨g, 0, none⟩) n cg, .int .i64 tr, .int .i64 most] w fun e w' => ∃ lk pL cL, e = .returned (.slice pL (lk : List Lk).length cL) ∧ (lk.length : Int) ≤ most ∧ Row w' pL 3 (lrows lk) ∧ (∀ x ∈ lk, LookIs s G tr x) ∧ HeapAt w' hb pB cB lB ∧ Far hb w.heap.size w w' := by
  subst hn
  exact looked_c hb s G g cg tr most w ok h ha hlB hl hx hg hr hG t1 t2 m0 m1
end
end Go.Proofs.Ytcljkkojeleakaa
/- Plain facts: sands with a higher sill, with a higher floor, with one sill more. -/
namespace Go.Proofs.Ytcljkkojeleakaa
section
open Go.RowKit

def hiSill (s : Sd) (i : Nat) (d : Int) : Sd := ⟨s.table, s.lo, s.hi, s.floors, s.sills.set i ((s.sills[i]?.getD (0, 0, 0)).1, (s.sills[i]?.getD (0, 0, 0)).2.1, (s.sills[i]?.getD (0, 0, 0)).2.2 + d)⟩
def hiFloor (s : Sd) (i : Nat) (d : Int) : Sd := ⟨s.table, s.lo, s.hi, s.floors.set i (s.floors[i]?.getD 0 + d), s.sills⟩
def oneMore (s : Sd) (x : Int × Int × Int) : Sd := ⟨s.table, s.lo, s.hi, s.floors, s.sills ++ [x]⟩
section
variable {s : Sd}
theorem hiSill_none {i : Nat} {d : Int} (h : s.sills.length ≤ i) : hiSill s i d = s := by
  unfold hiSill
  rw [List.set_eq_of_length_le h]
theorem hiSill_ok (ok : Ok s) (i : Nat) (d : Int) (d0 : 0 ≤ d) (h : ∀ x ∈ s.sills, x.2.2 + d ≤ 999) : Ok (hiSill s i d) := by
  by_cases hi : i < s.sills.length
  · have hm := List.getElem_mem (l := s.sills) hi
    have e : s.sills[i]?.getD (0, 0, 0) = s.sills[i] := by rw [List.getElem?_eq_getElem hi]; rfl
    refine ⟨ok.table, ok.fl0, ok.fl1, ?_, ok.lo0, ok.hi1, ok.lohi, ok.floors, fun x hx => ?_, fun x hx => ?_, fun x hx => ?_⟩
    · show (s.sills.set _ _).length ≤ 16
      rw [List.length_set]; exact ok.sl
    · rcases List.mem_or_eq_of_mem_set hx with h1 | rfl
      · exact ok.heights x h1
      · rw [e]
        have h1 := ok.heights _ hm
        have h2 := h _ hm
        show 0 ≤ s.sills[i].2.2 + d ∧ s.sills[i].2.2 + d ≤ 999
        omega
    · rcases List.mem_or_eq_of_mem_set hx with h1 | rfl
      · exact ok.good x h1
      · rw [e]; exact ok.good s.sills[i] hm
    · rcases List.mem_or_eq_of_mem_set hx with h1 | rfl
      · exact ok.two x h1
      · rw [e]; exact ok.two s.sills[i] hm
  · rw [hiSill_none (by omega)]; exact ok
theorem hiFloor_ok (ok : Ok s) (i : Nat) (d : Int) (d0 : 0 ≤ d) (h : ∀ x ∈ s.floors, x + d ≤ 999) : Ok (hiFloor s i d) := by
  by_cases hi : i < s.floors.length
  · have hm := List.getElem_mem (l := s.floors) hi
    have e : s.floors[i]?.getD 0 = s.floors[i] := by rw [List.getElem?_eq_getElem hi]; rfl
    have hl : (hiFloor s i d).floors.length = s.floors.length := List.length_set ..
    refine ⟨ok.table, by rw [hl]; exact ok.fl0, by rw [hl]; exact ok.fl1, ok.sl, ok.lo0, ok.hi1, ok.lohi, fun x hx => ?_, ok.heights, ?_, ok.two⟩
    · rcases List.mem_or_eq_of_mem_set hx with h1 | rfl
      · exact ok.floors x h1
      · rw [e]
        have h1 := ok.floors _ hm
        have h2 := h _ hm
        omega
    · rw [hl]; exact ok.good
  · have : hiFloor s i d = s := by unfold hiFloor; rw [List.set_eq_of_length_le (by omega)]
    rw [this]; exact ok
theorem oneMore_ok (ok : Ok s) (x : Int × Int × Int) (hl : s.sills.length < 16) (h0 : 0 ≤ x.2.2 ∧ x.2.2 ≤ 999) (hA : x.1 = -1) (hB : 0 ≤ x.2.1 ∧ x.2.1 < s.floors.length) : Ok (oneMore s x) := by
  refine ⟨ok.table, ok.fl0, ok.fl1, ?_, ok.lo0, ok.hi1, ok.lohi, ok.floors, fun y hy => ?_, fun y hy => ?_, fun y hy => ?_⟩
  · show (s.sills ++ [x]).length ≤ 16
    rw [List.length_append]; exact hl
  · rcases List.mem_append.1 hy with h1 | h1
    · exact ok.heights y h1
    · rw [List.mem_singleton] at h1; subst h1; exact h0
  · rcases List.mem_append.1 hy with h1 | h1
    · exact ok.good y h1
    · rw [List.mem_singleton] at h1; subst h1; exact ⟨Or.inl hA, Or.inr hB⟩
  · rcases List.mem_append.1 hy with h1 | h1
    · exact ok.two y h1
    · rw [List.mem_singleton] at h1; subst h1; omega

/-- as long lists, and the same wind -/
structure Dims (s t : Sd) : Prop where
  tl : t.table.length = s.table.length
  lo : t.lo = s.lo
  hi : t.hi = s.hi
  fl : t.floors.length = s.floors.length
  sl : t.sills.length = s.sills.length
theorem Dims.refl (s : Sd) : Dims s s := ⟨rfl, rfl, rfl, rfl, rfl⟩
theorem dims_sill (s : Sd) (i : Nat) (d : Int) : Dims s (hiSill s i d) := ⟨rfl, rfl, rfl, rfl, List.length_set ..⟩
theorem dims_floor (s : Sd) (i : Nat) (d : Int) : Dims s (hiFloor s i d) := ⟨rfl, rfl, rfl, List.length_set .., rfl⟩

theorem Dims.cells {s t : Sd} (h : Dims s t) (pT pF pS : Option Addr) (cT cF cS : Nat) : sdCells s pT pF pS cT cF cS = sdCells t pT pF pS cT cF cS := by
  unfold sdCells
  rw [h.tl, h.lo, h.hi, h.fl, h.sl]
/-- the first, second or third of three -/
def pick3 {α : Type} (a b c : α) (i : Nat) : α := if i = 0 then a else if i = 1 then b else c
theorem pick3_row (t1 t2 t3 : Sd) (xT yT zT xF yF zF xS yS zS : Option Addr) (jT kT iT jF kF iF jS kS iS : Nat) (i : Nat) (hi : i < 3) :
    [sdCells t1 xT xF xS jT jF jS, sdCells t2 yT yF yS kT kF kS, sdCells t3 zT zF zS iT iF iS][i]? = some (sdCells (pick3 t1 t2 t3 i) (pick3 xT yT zT i) (pick3 xF yF zF i) (pick3 xS yS zS i) (pick3 jT kT iT i) (pick3 jF kF iF i) (pick3 jS kS iS i)) := by
  obtain rfl | rfl | rfl : i = 0 ∨ i = 1 ∨ i = 2 := by omega
  all_goals rfl
theorem sdCells_len (s : Sd) (pT pF pS : Option Addr) (cT cF cS : Nat) : (sdCells s pT pF pS cT cF cS).length = 5 := rfl
/-- what the law asks of raised sands -/
structure NoLess (s t : Sd) : Prop where
  ok : Ok t
  fl : t.floors.length = s.floors.length
  day : ∀ m, inDay t m = inDay s m
  gate : ∀ x : Int, 0 ≤ x → x < s.floors.length → errGate t x = errGate s x ∧ gateV s x ≤ gateV t x
  st : ∀ (m : Int) (p : Nat), st t m p ≤ st s m p
structure NoMore (s t : Sd) : Prop where
  ok : Ok t
  fl : t.floors.length = s.floors.length
  day : ∀ m, inDay t m = inDay s m
  gate : ∀ x : Int, 0 ≤ x → x < s.floors.length → errGate s x = 0 → errGate t x = 0 ∧ gateV t x ≤ gateV s x
  st : ∀ (m : Int) (p : Nat), st s m p ≤ st t m p
theorem noLess_sill (ok : Ok s) (i : Nat) (d : Int) (d0 : 0 ≤ d) (h : ∀ x ∈ s.sills, x.2.2 + d ≤ 999) : NoLess s (hiSill s i d) := by
  have hF : HiF s.floors (hiSill s i d).floors := HiF.refl (fun x hx => (ok.floors x hx).2)
  have hS : HiS s.sills (hiSill s i d).sills := by
    by_cases hi : i < s.sills.length
    · unfold hiSill
      have e : s.sills[i]?.getD (0, 0, 0) = s.sills[i] := by rw [List.getElem?_eq_getElem hi]; rfl
      rw [e]
      exact HiS.at i d hi d0 (fun x hx => (ok.heights x hx).2) (h _ (List.getElem_mem hi))
    · rw [hiSill_none (by omega)]
      exact HiS.refl (fun x hx => (ok.heights x hx).2)
  have ok' := hiSill_ok ok i d d0 h
  exact ⟨ok', rfl, fun _ => rfl, fun x h0 h1 => hi_gate ok ok' hF hS ⟨h0, h1⟩, hi_st hF hS rfl rfl rfl⟩
theorem noLess_floor (ok : Ok s) (i : Nat) (d : Int) (hi : i < s.floors.length) (d0 : 0 ≤ d) (h : ∀ x ∈ s.floors, x + d ≤ 999) : NoLess s (hiFloor s i d) := by
  have hS : HiS s.sills (hiFloor s i d).sills := HiS.refl (fun x hx => (ok.heights x hx).2)
  have hF : HiF s.floors (hiFloor s i d).floors := by
    unfold hiFloor
    have e : s.floors[i]?.getD 0 = s.floors[i] := by rw [List.getElem?_eq_getElem hi]; rfl
    rw [e]
    exact HiF.at i d hi d0 (fun x hx => (ok.floors x hx).2) (h _ (List.getElem_mem hi))
  have ok' := hiFloor_ok ok i d d0 h
  exact ⟨ok', List.length_set .., fun _ => rfl, fun x h0 h1 => hi_gate ok ok' hF hS ⟨h0, h1⟩, hi_st hF hS rfl rfl rfl⟩
theorem noMore_one (ok : Ok s) (x : Int × Int × Int) (hl : s.sills.length < 16) (h0 : 0 ≤ x.2.2 ∧ x.2.2 ≤ 999) (hA : x.1 = -1) (hB : 0 ≤ x.2.1 ∧ x.2.1 < s.floors.length) : NoMore s (oneMore s x) := by
  have ok' := oneMore_ok ok x hl h0 hA hB
  exact ⟨ok', rfl, fun _ => rfl, fun y y0 y1 => more_gate (e := [x]) ok ok' rfl rfl ⟨y0, y1⟩, more_st (e := [x]) rfl rfl rfl rfl rfl⟩
theorem allV_get (ok : Ok s) {m : Int} (hm : inDay s m = true) : (allV s m).length = s.floors.length ∧ ∀ (j : Nat) (h : j < (allV s m).length), (allV s m)[j] = st s m j := by
  have e : allV s m = allS s m := by unfold allV; rw [if_pos (errAt_in ok hm)]
  rw [e]
  exact ⟨by simp [allS], fun j h => by simp [allS]⟩
/-- what the law asks of the one of three -/
structure Like (s t : Sd) (k : Nat) : Prop where
  ok : Ok t
  fl : t.floors.length = s.floors.length
  day : ∀ m, inDay t m = inDay s m
  less : k < 2 → (∀ x : Int, 0 ≤ x → x < s.floors.length → errGate t x = errGate s x ∧ gateV s x ≤ gateV t x) ∧ ∀ (m : Int) (p : Nat), st t m p ≤ st s m p
  more : k = 2 → (∀ x : Int, 0 ≤ x → x < s.floors.length → errGate s x = 0 → errGate t x = 0 ∧ gateV t x ≤ gateV s x) ∧ ∀ (m : Int) (p : Nat), st s m p ≤ st t m p
theorem like3 {t1 t2 t3 : Sd} (h1 : NoLess s t1) (h2 : NoLess s t2) (h3 : NoMore s t3) (i : Nat) (hi : i < 3) : Like s (pick3 t1 t2 t3 i) i := by
  obtain rfl | rfl | rfl : i = 0 ∨ i = 1 ∨ i = 2 := by omega
  · exact ⟨h1.ok, h1.fl, h1.day, fun _ => ⟨h1.gate, h1.st⟩, fun h => by omega⟩
  · exact ⟨h2.ok, h2.fl, h2.day, fun _ => ⟨h2.gate, h2.st⟩, fun h => by omega⟩
  · exact ⟨h3.ok, h3.fl, h3.day, fun h => by omega, fun _ => ⟨h3.gate, h3.st⟩⟩
theorem errGate_or (ok : Ok s) {x : Int} (h : 0 ≤ x ∧ x < s.floors.length) : errGate s x = 0 ∨ errGate s x = 6 := by
  rw [errGate_in ok h]
  by_cases c : gateOf s x.toNat < 1050
  · exact Or.inl (if_pos c)
  · exact Or.inr (if_neg c)
end
end
end Go.Proofs.Ytcljkkojeleakaa
/- Plain facts for the law TideTold: looks that are true in a truth leave it; what is certain remains so with the wind that they leave. -/
namespace Go.Proofs.Ytcljkkojeleakaa
section
open Go.RowKit
section
variable {s : Sd} {G : List Int} {tr : Int}
/-- gates as the law has them -/
def GatesAre (s : Sd) (G : List Int) : Prop := ∀ p, p < s.floors.length → G[p]?.getD 0 = if gateOf s p < 1050 then gateOf s p else 1000000
theorem gates_are (ok : Ok s) (hF : ∀ x ∈ s.floors, 0 ≤ x ∧ x ≤ 50) (hS : ∀ x ∈ s.sills, x.2.2 ≤ 50) : GatesAre s (lvls s 62) := fun p hp => lvls_gates ok hF hS p hp
theorem look_in (ok : Ok s) (hG : GatesAre s G) (h1 : s.lo ≤ tr) (h2 : tr ≤ s.hi) {x : Lk} (hx : LookIs s G tr x) : (truV s x).1 ≤ tr ∧ tr ≤ (truV s x).2 := by
  obtain ⟨hd, p, e, hp, hw⟩ := hx
  obtain ⟨m, q, b⟩ := x
  simp only at e hd hw
  subst e
  have hg := hG p hp
  have l0 := ok.lo0
  have h9 := ok.hi1
  obtain ⟨m0, m1⟩ : firstM s.table ≤ m ∧ m ≤ lastM s.table := inB_true.1 hd
  obtain ⟨r0, r1⟩ := hgt_rng ok.table m m0
  have gl := gts_le s p
  rw [hg] at hw
  unfold truV com
  cases b with
  | true =>
    have hw' : (if gateOf s p < 1050 then gateOf s p else 1000000) < hgt s.table m + tr := of_decide_eq_true hw.symm
    simp only [if_true, Int.toNat_natCast]
    split at hw' <;> omega
  | false =>
    have hw' : ¬ ((if gateOf s p < 1050 then gateOf s p else 1000000) < hgt s.table m + tr) := of_decide_eq_false hw.symm
    simp only [Bool.false_eq_true, if_false, Int.toNat_natCast]
    split at hw' <;> omega
theorem looks_in (ok : Ok s) (hG : GatesAre s G) (h1 : s.lo ≤ tr) (h2 : tr ≤ s.hi) : ∀ (l : List Lk) (z : Int × Int), (∀ x ∈ l, LookIs s G tr x) → s.lo ≤ z.1 → z.1 ≤ tr → tr ≤ z.2 → z.2 ≤ s.hi →
    s.lo ≤ (lkOf s z l).1 ∧ (lkOf s z l).1 ≤ tr ∧ tr ≤ (lkOf s z l).2 ∧ (lkOf s z l).2 ≤ s.hi
  | [], _, _, a, b, c, d => ⟨a, b, c, d⟩
  | x :: r, z, hx, a, b, c, d => by
    have k := look_in ok hG h1 h2 (hx x (by simp))
    refine looks_in ok hG h1 h2 r (com z (truV s x)) (fun y hy => hx y (by simp [hy])) ?_ ?_ ?_ ?_
    · show s.lo ≤ max z.1 (truV s x).1; omega
    · show max z.1 (truV s x).1 ≤ tr; omega
    · show tr ≤ min z.2 (truV s x).2; omega
    · show min z.2 (truV s x).2 ≤ s.hi; omega
theorem lkErr_none : ∀ (l : List Lk), (∀ x ∈ l, LookIs s G tr x) → lkErr s l = 0
  | [], _ => rfl
  | x :: r, hx => by
    obtain ⟨hd, p, e, hp, -⟩ := hx x (by simp)
    unfold lkErr
    rw [if_pos hd, if_pos (by rw [e]; exact inB_true.2 (by omega))]
    exact lkErr_none r (fun y hy => hx y (by simp [hy]))
/-- looks that are true in a truth leave it -/
theorem told (ok : Ok s) (hG : GatesAre s G) (h1 : s.lo ≤ tr) (h2 : tr ≤ s.hi) (l : List Lk) (hl : l.length ≤ 10) (hx : ∀ x ∈ l, LookIs s G tr x) :
    looksE s l = 0 ∧ s.lo ≤ (looksV s l).1 ∧ (looksV s l).1 ≤ tr ∧ tr ≤ (looksV s l).2 ∧ (looksV s l).2 ≤ s.hi := by
  obtain ⟨a, b, c, d⟩ := looks_in ok hG h1 h2 l (s.lo, s.hi) hx (Int.le_refl _) h1 h2 (Int.le_refl _)
  have e0 : errLooks s l = 0 := by
    unfold errLooks
    rw [if_pos (chk_zero ok), if_neg (by omega)]
    exact lkErr_none l hx
  have e1 : looksE s l = 0 := by
    unfold looksE
    rw [if_pos e0, if_neg (by unfold siz; omega)]
  refine ⟨e1, ?_⟩
  unfold looksV
  rw [if_pos e1]
  exact ⟨a, b, c, d⟩
/-- with a narrower wind -/
def within (s : Sd) (z : Int × Int) : Sd := ⟨s.table, z.1, z.2, s.floors, s.sills⟩
theorem within_ok (ok : Ok s) {z : Int × Int} (h1 : s.lo ≤ z.1) (h2 : z.1 ≤ z.2) (h3 : z.2 ≤ s.hi) : Ok (within s z) :=
  ⟨ok.table, ok.fl0, ok.fl1, ok.sl, Int.le_trans ok.lo0 h1, Int.le_trans h3 ok.hi1, h2, ok.floors, ok.heights, ok.good, ok.two⟩
theorem st_law (ok : Ok s) (hG : GatesAre s G) {m : Int} (hm : inDay s m = true) {p : Nat} (hp : p < s.floors.length) :
    st s m p = if G[p]?.getD 0 < hgt s.table m + s.lo then 2 else if G[p]?.getD 0 < hgt s.table m + s.hi then 1 else 0 := by
  obtain ⟨m0, m1⟩ : firstM s.table ≤ m ∧ m ≤ lastM s.table := inB_true.1 hm
  obtain ⟨r0, r1⟩ := hgt_rng ok.table m m0
  have gl := gts_le s p
  have l0 := ok.lohi
  have h9 := ok.hi1
  rw [hG p hp]
  unfold st
  by_cases c : gateOf s p < 1050
  · rw [if_pos c]
  · rw [if_neg c]
    repeat' split
    all_goals omega
theorem st_within (hG : GatesAre s G) {z : Int × Int} (h1 : s.lo ≤ z.1) (h2 : z.1 ≤ tr) (h3 : tr ≤ z.2) (h4 : z.2 ≤ s.hi) (ok : Ok s) {m : Int} (hm : inDay s m = true) {p : Nat} (hp : p < s.floors.length) :
    (st s m p ≠ 1 → st (within s z) m p = st s m p) ∧ (st (within s z) m p = 0 → ¬ G[p]?.getD 0 < hgt s.table m + tr) ∧ (st (within s z) m p = 2 → G[p]?.getD 0 < hgt s.table m + tr) := by
  have hG' : GatesAre (within s z) G := fun q hq => by
    rw [hG q hq]
    have : gateOf (within s z) q = gateOf s q := by unfold gateOf; rw [gts_eq (s := within s z) (t := s) rfl rfl]
    rw [this]
  have ok' := within_ok ok h1 (Int.le_trans h2 h3) h4
  have e1 := st_law ok hG hm hp
  have e2 := st_law ok' hG' (m := m) hm (p := p) hp
  have k1 : (within s z).lo = z.1 := rfl
  have k2 : (within s z).hi = z.2 := rfl
  have k3 : hgt (within s z).table m = hgt s.table m := rfl
  rw [k1, k2, k3] at e2
  rw [e1, e2]
  generalize G[p]?.getD 0 = gg
  generalize hgt s.table m = hh
  refine ⟨fun h => ?_, fun h => ?_, fun h => ?_⟩
  · revert h
    repeat' split
    all_goals omega
  · revert h
    repeat' split
    all_goals omega
  · revert h
    repeat' split
    all_goals omega
end
end
end Go.Proofs.Ytcljkkojeleakaa
/- Plain facts: the look that settles most. -/
namespace Go.Proofs.Ytcljkkojeleakaa
section
open Go.RowKit

/-- how many truths a look leaves at most, whatever is seen -/
def askMost (s : Sd) (m : Int) (p : Nat) : Int := max (siz (truV s (m, (p : Int), true))) (siz (s.lo, s.hi) - siz (truV s (m, (p : Int), true)))
def askOne (s : Sd) (m : Int) (z : Lk × Int) (p : Nat) : Lk × Int := if z.1 = (0, 0, false) ∨ askMost s m p < z.2 then ((m, (p : Int), true), askMost s m p) else z
def askRow (s : Sd) (m : Int) (z : Lk × Int) : Nat → Lk × Int
  | 0 => z
  | k + 1 => askOne s m (askRow s m z k) k
def askAll (s : Sd) : Nat → Lk × Int
  | 0 => ((0, 0, false), siz (s.lo, s.hi))
  | k + 1 => askRow s (firstM s.table + k) (askAll s k) s.floors.length
def askE (s : Sd) : Int := if chk s = 0 then (if siz (s.lo, s.hi) = 1 then 6 else 0) else chk s
def askV (s : Sd) : Lk × Int := if askE s = 0 then askAll s (dayN s) else ((0, 0, false), 0)

/-- the best of what has been looked at: the first of those that leave fewest -/
def Best (s : Sd) (seen : Int → Nat → Prop) (z : Lk × Int) : Prop :=
  (z = ((0, 0, false), siz (s.lo, s.hi)) ∧ ∀ m p, ¬ seen m p) ∨
  ∃ (m : Int) (p : Nat), z = ((m, (p : Int), true), askMost s m p) ∧ seen m p ∧ ∀ m' p', seen m' p' → askMost s m p ≤ askMost s m' p' ∧ (askMost s m p = askMost s m' p' → m < m' ∨ m = m' ∧ p ≤ p')

theorem Best.one {s : Sd} {seen seen' : Int → Nat → Prop} {z : Lk × Int} {m : Int} {p : Nat} (h : Best s seen z) (h1 : ∀ m' p', seen' m' p' ↔ seen m' p' ∨ m' = m ∧ p' = p) (h2 : ∀ m' p', seen m' p' → m' < m ∨ m' = m ∧ p' < p) :
    Best s seen' (askOne s m z p) := by
  rcases h with ⟨rfl, h0⟩ | ⟨m0, p0, rfl, hs, hb⟩
  · unfold askOne
    rw [if_pos (Or.inl rfl)]
    refine .inr ⟨m, p, rfl, (h1 _ _).2 (.inr ⟨rfl, rfl⟩), fun m' p' h => ?_⟩
    rcases (h1 _ _).1 h with h | ⟨rfl, rfl⟩
    · exact absurd h (h0 _ _)
    · exact ⟨Int.le_refl _, fun _ => .inr ⟨rfl, Nat.le_refl _⟩⟩
  · unfold askOne
    by_cases hc : askMost s m p < askMost s m0 p0
    · rw [if_pos (Or.inr hc)]
      refine .inr ⟨m, p, rfl, (h1 _ _).2 (.inr ⟨rfl, rfl⟩), fun m' p' h => ?_⟩
      rcases (h1 _ _).1 h with h | ⟨rfl, rfl⟩
      · have := (hb m' p' h).1
        exact ⟨by omega, fun e => by omega⟩
      · exact ⟨Int.le_refl _, fun _ => .inr ⟨rfl, Nat.le_refl _⟩⟩
    · rw [if_neg (fun h => by rcases h with h | h <;> first | (exact hc h) | (exact absurd (congrArg (fun t => t.2.2) h) (by simp)))]
      refine .inr ⟨m0, p0, rfl, (h1 _ _).2 (.inl hs), fun m' p' h => ?_⟩
      rcases (h1 _ _).1 h with h | ⟨rfl, rfl⟩
      · exact hb m' p' h
      · have := h2 m0 p0 hs
        exact ⟨by omega, fun _ => by omega⟩

theorem askRow_best {s : Sd} {seen : Int → Nat → Prop} {z : Lk × Int} {m : Int} (h : Best s seen z) (h2 : ∀ m' p', seen m' p' → m' < m) : ∀ k, Best s (fun m' p' => seen m' p' ∨ m' = m ∧ p' < k) (askRow s m z k)
  | 0 => by
    have : (fun m' p' => seen m' p' ∨ m' = m ∧ p' < 0) = seen := by funext a b; simp
    rw [this]; exact h
  | k + 1 => by
    refine (askRow_best h h2 k).one (fun m' p' => ?_) (fun m' p' h => ?_)
    · constructor
      · rintro (h | ⟨h, h'⟩)
        · exact .inl (.inl h)
        · by_cases e : p' = k
          · exact .inr ⟨h, e⟩
          · exact .inl (.inr ⟨h, by omega⟩)
      · rintro ((h | ⟨h, h'⟩) | ⟨h, h'⟩)
        · exact .inl h
        · exact .inr ⟨h, by omega⟩
        · exact .inr ⟨h, by omega⟩
    · rcases h with h | ⟨h, h'⟩
      · exact .inl (h2 _ _ h)
      · exact .inr ⟨h, h'⟩

theorem askAll_best (s : Sd) : ∀ k : Nat, Best s (fun m' p' => firstM s.table ≤ m' ∧ m' < firstM s.table + k ∧ p' < s.floors.length) (askAll s k)
  | 0 => .inl ⟨rfl, fun m p h => by omega⟩
  | k + 1 => by
    have h := askRow_best (m := firstM s.table + k) (askAll_best s k) (fun m' p' h => h.2.1) s.floors.length
    have e : (fun m' p' => (firstM s.table ≤ m' ∧ m' < firstM s.table + (k : Int) ∧ p' < s.floors.length) ∨ m' = firstM s.table + (k : Int) ∧ p' < s.floors.length) = (fun m' p' => firstM s.table ≤ m' ∧ m' < firstM s.table + ((k + 1 : Nat) : Int) ∧ p' < s.floors.length) := by
      funext a b
      apply propext
      constructor
      · rintro (⟨h1, h2, h3⟩ | ⟨h1, h2⟩)
        · exact ⟨h1, by omega, h3⟩
        · exact ⟨by omega, by omega, h2⟩
      · rintro ⟨h1, h2, h3⟩
        by_cases e : a = firstM s.table + k
        · exact .inr ⟨e, h3⟩
        · exact .inl ⟨h1, by omega, h3⟩
    rw [e] at h
    exact h

theorem siz_wind {s : Sd} (ok : Ok s) : siz (s.lo, s.hi) = s.hi - s.lo + 1 := by
  have := ok.lohi
  unfold siz
  dsimp only
  omega
/-- a look and its contrary part the truths -/
theorem siz_part {s : Sd} (ok : Ok s) (m p : Int) : siz (truV s (m, p, true)) + siz (truV s (m, p, false)) = siz (s.lo, s.hi) := by
  have b0 := ok.lo0
  have b1 := ok.hi1
  have b2 := ok.lohi
  rw [siz_wind ok]
  unfold truV siz com
  simp only [if_pos, Bool.false_eq_true, if_false]
  omega
theorem siz_nonneg (a : Int × Int) : 0 ≤ siz a := by unfold siz; omega
theorem truV_com {s : Sd} (x : Lk) : com (s.lo, s.hi) (truV s x) = truV s x := by
  unfold truV com
  split <;> (refine Prod.ext ?_ ?_ <;> dsimp only <;> omega)
theorem truV_in {s : Sd} (x : Lk) : s.lo ≤ (truV s x).1 ∧ (truV s x).2 ≤ s.hi := by
  unfold truV com
  split <;> dsimp only <;> omega
theorem askMost_two {s : Sd} (ok : Ok s) (m : Int) (p : Nat) : askMost s m p = max (siz (truV s (m, (p : Int), true))) (siz (truV s (m, (p : Int), false))) := by
  have := siz_part ok m p
  unfold askMost
  rw [show siz (s.lo, s.hi) - siz (truV s (m, (p : Int), true)) = siz (truV s (m, (p : Int), false)) by omega]
theorem ask_best {s : Sd} (ok : Ok s) : ∃ m p, askAll s (dayN s) = ((m, ((p : Nat) : Int), true), askMost s m p) ∧ inDay s m = true ∧ p < s.floors.length ∧
    ∀ m' p', inDay s m' = true → p' < s.floors.length → askMost s m p ≤ askMost s m' p' ∧ (askMost s m p = askMost s m' p' → m < m' ∨ m = m' ∧ p ≤ p') := by
  obtain ⟨f0, f1, f2⟩ := firstM_lt ok.table
  have hn : ((dayN s : Nat) : Int) = lastM s.table - firstM s.table + 1 := by unfold dayN; omega
  have hfl := ok.fl0
  rcases askAll_best s (dayN s) with ⟨-, h⟩ | ⟨m, p, h1, ⟨h2, h3, h4⟩, h5⟩
  · exact absurd ⟨Int.le_refl _, by omega, hfl⟩ (h (firstM s.table) 0)
  · refine ⟨m, p, h1, inB_true.2 ⟨h2, by omega⟩, h4, fun m' p' hm hp => h5 m' p' ?_⟩
    obtain ⟨i1, i2⟩ := inB_true.1 hm
    exact ⟨i1, by omega, hp⟩
theorem looks_one {s : Sd} (ok : Ok s) {m : Int} (hm : inDay s m = true) {p : Nat} (hp : p < s.floors.length) (b : Bool) :
    looksE s [(m, (p : Int), b)] = (if siz (truV s (m, (p : Int), b)) = 0 then 7 else 0) ∧ looksV s [(m, (p : Int), b)] = (if siz (truV s (m, (p : Int), b)) = 0 then (0, 0) else truV s (m, (p : Int), b)) := by
  have e1 : errLooks s [(m, (p : Int), b)] = 0 := by
    unfold errLooks
    rw [if_pos (chk_zero ok), if_neg (by simp)]
    simp only [lkErr]
    rw [hm, show isPl s (p : Int) = true from inB_true.2 ⟨by omega, by omega⟩]
    rfl
  have e2 : lkOf s (s.lo, s.hi) [(m, (p : Int), b)] = truV s (m, (p : Int), b) := by
    unfold lkOf
    simp only [List.foldl_cons, List.foldl_nil]
    exact truV_com _
  have e3 : looksE s [(m, (p : Int), b)] = (if siz (truV s (m, (p : Int), b)) = 0 then 7 else 0) := by
    unfold looksE
    rw [if_pos e1, e2]
  refine ⟨e3, ?_⟩
  unfold looksV
  rw [e3, e2]
  split
  · rw [if_neg (by decide)]
  · rw [if_pos rfl]
end
end Go.Proofs.Ytcljkkojeleakaa
/- Plain facts: looks that clash. -/
namespace Go.Proofs.Ytcljkkojeleakaa
section
open Go.RowKit
/-- what is found: a look that no truth agrees with, or two of them, or nothing -/
def ClashIs (s : Sd) (l : List Lk) (r : List Int) : Prop :=
  (∃ i, ∃ h : i < l.length, r = [(i : Int)] ∧ siz (truV s l[i]) = 0 ∧ ∀ j (hj : j < l.length), j < i → siz (truV s l[j]) ≠ 0) ∨
  ((∀ x ∈ l, siz (truV s x) ≠ 0) ∧
    ((∃ i j, ∃ hi : i < l.length, ∃ hj : j < l.length, i < j ∧ r = [(i : Int), (j : Int)] ∧ siz (com (truV s l[i]) (truV s l[j])) = 0 ∧
        ∀ i' j' (hi' : i' < l.length) (hj' : j' < l.length), i' < j' → (i' < i ∨ i' = i ∧ j' < j) → siz (com (truV s l[i']) (truV s l[j'])) ≠ 0) ∨
     (r = [] ∧ ∀ i' j' (hi' : i' < l.length) (hj' : j' < l.length), i' < j' → siz (com (truV s l[i']) (truV s l[j'])) ≠ 0)))
/-- what Clash returns -/
def ClashR (s : Sd) (l : List Lk) (r : List Int) (E : Int) : Prop := if errLooks s l = 0 then ClashIs s l r ∧ E = (if r = [] then 6 else 0) else r = [] ∧ E = errLooks s l

section
variable {s : Sd} {l : List Lk} {r : List Int}
theorem siz_zero (a : Int × Int) : siz a = 0 ↔ a.2 < a.1 := by unfold siz; omega
theorem lkOf_snoc (z : Int × Int) (l : List Lk) (x : Lk) : lkOf s z (l ++ [x]) = com (lkOf s z l) (truV s x) := by unfold lkOf; rw [List.foldl_append]; rfl
/-- from where what is left goes on, and where it ends: an end of the wind, or of a look -/
theorem lkOf_spec (s : Sd) : ∀ (l : List Lk) (z : Int × Int), z.1 ≤ (lkOf s z l).1 ∧ (lkOf s z l).2 ≤ z.2 ∧ (∀ x ∈ l, (truV s x).1 ≤ (lkOf s z l).1 ∧ (lkOf s z l).2 ≤ (truV s x).2) ∧
    ((lkOf s z l).1 = z.1 ∨ ∃ x ∈ l, (lkOf s z l).1 = (truV s x).1) ∧ ((lkOf s z l).2 = z.2 ∨ ∃ x ∈ l, (lkOf s z l).2 = (truV s x).2)
  | [], z => ⟨Int.le_refl _, Int.le_refl _, by simp, .inl rfl, .inl rfl⟩
  | x :: l, z => by
    obtain ⟨h1, h2, h3, h4, h5⟩ := lkOf_spec s l (com z (truV s x))
    have e : lkOf s z (x :: l) = lkOf s (com z (truV s x)) l := rfl
    rw [e]
    have c1 : (com z (truV s x)).1 = max z.1 (truV s x).1 := rfl
    have c2 : (com z (truV s x)).2 = min z.2 (truV s x).2 := rfl
    rw [c1] at h1 h4
    rw [c2] at h2 h5
    have k1 := h1
    have k2 := h2
    clear h1 h2
    have j1 : z.1 ≤ (lkOf s (com z (truV s x)) l).1 ∧ (truV s x).1 ≤ (lkOf s (com z (truV s x)) l).1 := by clear h3 h4 h5; omega
    have j2 : (lkOf s (com z (truV s x)) l).2 ≤ z.2 ∧ (lkOf s (com z (truV s x)) l).2 ≤ (truV s x).2 := by clear h3 h4 h5; omega
    refine ⟨j1.1, j2.1, fun y hy => ?_, ?_, ?_⟩
    · rcases List.mem_cons.1 hy with rfl | hy
      · exact ⟨j1.2, j2.2⟩
      · exact h3 y hy
    · rcases h4 with h4 | ⟨y, hy, h4⟩
      · by_cases hc : z.1 ≤ (truV s x).1
        · exact .inr ⟨x, by simp, by clear h3 h5; omega⟩
        · exact .inl (by clear h3 h5; omega)
      · exact .inr ⟨y, by simp [hy], h4⟩
    · rcases h5 with h5 | ⟨y, hy, h5⟩
      · by_cases hc : (truV s x).2 ≤ z.2
        · exact .inr ⟨x, by simp, by clear h3 h4; omega⟩
        · exact .inl (by clear h3 h4; omega)
      · exact .inr ⟨y, by simp [hy], h5⟩
/-- looks that a truth agrees with do not clash -/
theorem clash_told {tr : Int} (h : ∀ x ∈ l, (truV s x).1 ≤ tr ∧ tr ≤ (truV s x).2) (hc : ClashIs s l r) : r = [] := by
  rcases hc with ⟨i, hi, -, h0, -⟩ | ⟨-, ⟨i, j, hi, hj, -, -, h0, -⟩ | ⟨h0, -⟩⟩
  · rw [siz_zero] at h0
    have := h _ (List.getElem_mem hi)
    omega
  · rw [siz_zero] at h0
    have k1 := h _ (List.getElem_mem hi)
    have k2 := h _ (List.getElem_mem hj)
    unfold com at h0
    dsimp only at h0
    omega
  · exact h0
/-- nothing is left just if some looks clash -/
theorem clash_iff (ok : Ok s) (hc : ClashIs s l r) : siz (lkOf s (s.lo, s.hi) l) = 0 ↔ r ≠ [] := by
  have b := ok.lohi
  obtain ⟨h1, h2, h3, h4, h5⟩ := lkOf_spec s l (s.lo, s.hi)
  dsimp only at h1 h2 h4 h5
  rw [siz_zero]
  rcases hc with ⟨i, hi, rfl, h0, -⟩ | ⟨hs, ⟨i, j, hi, hj, -, rfl, h0, -⟩ | ⟨rfl, h0⟩⟩
  · rw [siz_zero] at h0
    have := h3 _ (List.getElem_mem hi)
    exact ⟨fun _ => by simp, fun _ => by omega⟩
  · rw [siz_zero] at h0
    have k1 := h3 _ (List.getElem_mem hi)
    have k2 := h3 _ (List.getElem_mem hj)
    unfold com at h0
    dsimp only at h0
    exact ⟨fun _ => by simp, fun _ => by omega⟩
  · refine ⟨fun hlt => ?_, fun h => absurd rfl h⟩
    exfalso
    rcases h4 with h4 | ⟨x, hx, h4⟩
    · rcases h5 with h5 | ⟨y, hy, h5⟩
      · omega
      · have k := hs y hy
        rw [Ne, siz_zero] at k
        have := truV_in (s := s) y
        omega
    · rcases h5 with h5 | ⟨y, hy, h5⟩
      · have k := hs x hx
        rw [Ne, siz_zero] at k
        have := truV_in (s := s) x
        omega
      · obtain ⟨i, hi, rfl⟩ := List.getElem_of_mem hx
        obtain ⟨j, hj, rfl⟩ := List.getElem_of_mem hy
        rcases Nat.lt_trichotomy i j with hij | rfl | hij
        · have k := h0 i j hi hj hij
          rw [Ne, siz_zero] at k
          unfold com at k
          dsimp only at k
          omega
        · have k := hs _ hx
          rw [Ne, siz_zero] at k
          omega
        · have k := h0 j i hj hi hij
          rw [Ne, siz_zero] at k
          unfold com at k
          dsimp only at k
          omega
end
end
end Go.Proofs.Ytcljkkojeleakaa
/- Plain facts for the law TideLooked: what looks leave, one after another; the looks that clash, and one less. -/
namespace Go.Proofs.Ytcljkkojeleakaa
section
open Go.RowKit
/-- a look that can be: a minute of the day, and a place -/
def okL (s : Sd) (x : Lk) : Prop := inDay s x.1 = true ∧ isPl s x.2.1 = true
/-- the looks of a list that are listed -/
def pickL (l : List Lk) (r : List Int) : List Lk := r.map fun k => l.getD k.toNat (0, 0, false)
section
variable {s : Sd} {l : List Lk} {r : List Int}
theorem lkErr_ok : ∀ (l : List Lk), (∀ x ∈ l, okL s x) → lkErr s l = 0
  | [], _ => rfl
  | x :: r, hx => by
    obtain ⟨h1, h2⟩ := hx x (by simp)
    unfold lkErr
    rw [if_pos h1, if_pos h2]
    exact lkErr_ok r (fun y hy => hx y (by simp [hy]))
theorem err_ok (ok : Ok s) (h : l.length ≤ 10) (hx : ∀ x ∈ l, okL s x) : errLooks s l = 0 := by
  unfold errLooks
  rw [if_pos (chk_zero ok), if_neg (by omega)]
  exact lkErr_ok l hx
theorem lookIs_ok {G : List Int} {tr : Int} {x : Lk} (h : LookIs s G tr x) : okL s x := by
  obtain ⟨hd, p, e, hp, -⟩ := h
  exact ⟨hd, by rw [e]; exact inB_true.2 (by omega)⟩
theorem E_ok (ok : Ok s) (h : l.length ≤ 10) (hx : ∀ x ∈ l, okL s x) : looksE s l = if siz (lkOf s (s.lo, s.hi) l) = 0 then 7 else 0 := by
  unfold looksE
  rw [if_pos (err_ok ok h hx)]
theorem V_ok (h : looksE s l = 0) : looksV s l = lkOf s (s.lo, s.hi) l := by
  unfold looksV
  rw [if_pos h]
/-- what is found, of both -/
theorem two_cases (ok : Ok s) {E : Int} (h : l.length ≤ 10) (hx : ∀ x ∈ l, okL s x) (hc : ClashR s l r E) : ClashIs s l r ∧ ((r = [] ∧ E = 6 ∧ looksE s l = 0) ∨ (r ≠ [] ∧ E = 0 ∧ looksE s l = 7)) := by
  unfold ClashR at hc
  rw [if_pos (err_ok ok h hx)] at hc
  obtain ⟨h1, h2⟩ := hc
  have h3 := clash_iff ok h1
  refine ⟨h1, ?_⟩
  rw [E_ok ok h hx]
  by_cases hr : r = []
  · rw [if_pos hr] at h2
    exact .inl ⟨hr, h2, if_neg (fun hh => h3.1 hh hr)⟩
  · rw [if_neg hr] at h2
    exact .inr ⟨hr, h2, if_pos (h3.2 hr)⟩
theorem clash_in (hc : ClashIs s l r) : ∀ k ∈ r, ∃ q : Nat, k = q ∧ q < l.length := by
  rcases hc with ⟨i, hi, rfl, -⟩ | ⟨-, ⟨i, j, hi, hj, -, rfl, -⟩ | ⟨rfl, -⟩⟩
  · intro k hk
    simp only [List.mem_cons, List.not_mem_nil, or_false] at hk
    exact ⟨i, hk, hi⟩
  · intro k hk
    simp only [List.mem_cons, List.not_mem_nil, or_false] at hk
    rcases hk with hk | hk
    · exact ⟨i, hk, hi⟩
    · exact ⟨j, hk, hj⟩
  · intro k hk; cases hk
theorem clash_len (hc : ClashIs s l r) : r.length ≤ 2 := by
  rcases hc with ⟨i, hi, rfl, -⟩ | ⟨-, ⟨i, j, hi, hj, -, rfl, -⟩ | ⟨rfl, -⟩⟩ <;> simp
theorem clash_asc (hc : ClashIs s l r) (i : Nat) (h : i + 1 < r.length) : r[i] < r[i + 1] := by
  rcases hc with ⟨a, hi, rfl, -⟩ | ⟨-, ⟨a, b, hi, hj, hab, rfl, -⟩ | ⟨rfl, -⟩⟩
  · simp at h
  · simp only [List.length_cons, List.length_nil] at h
    obtain rfl : i = 0 := by omega
    simpa using hab
  · simp at h
theorem pick_ok (hx : ∀ x ∈ l, okL s x) (hc : ClashIs s l r) : ∀ x ∈ pickL l r, okL s x := by
  intro x h
  unfold pickL at h
  obtain ⟨k, hk, rfl⟩ := List.mem_map.1 h
  obtain ⟨q, rfl, hq⟩ := clash_in hc k hk
  refine hx _ ?_
  rw [Int.toNat_natCast, List.getD_eq_getElem?_getD, List.getElem?_eq_getElem hq]
  exact List.getElem_mem hq
theorem pick_one {i : Nat} (hi : i < l.length) : pickL l [(i : Int)] = [l[i]] := by simp [pickL, hi]
theorem pick_two {i j : Nat} (hi : i < l.length) (hj : j < l.length) : pickL l [(i : Int), (j : Int)] = [l[i], l[j]] := by simp [pickL, hi, hj]
/-- no truth agrees with those that are listed -/
theorem own_clash (ok : Ok s) (hx : ∀ x ∈ l, okL s x) (hc : ClashIs s l r) (hr : r ≠ []) : looksE s (pickL l r) = 7 := by
  have hl := clash_len hc
  rw [E_ok ok (by unfold pickL; rw [List.length_map]; omega) (pick_ok hx hc), if_pos]
  rw [siz_zero]
  obtain ⟨-, -, h3, -, -⟩ := lkOf_spec s (pickL l r) (s.lo, s.hi)
  rcases hc with ⟨i, hi, rfl, h0, -⟩ | ⟨-, ⟨i, j, hi, hj, -, rfl, h0, -⟩ | ⟨rfl, -⟩⟩
  · rw [pick_one hi] at h3 ⊢
    rw [siz_zero] at h0
    have := h3 _ (List.mem_singleton.2 rfl)
    omega
  · rw [pick_two hi hj] at h3 ⊢
    rw [siz_zero] at h0
    have k1 := h3 l[i] (by simp)
    have k2 := h3 l[j] (by simp)
    unfold com at h0
    dsimp only at h0
    omega
  · exact absurd rfl hr
/-- some truth agrees with all but one of them -/
theorem own_less (ok : Ok s) (hx : ∀ x ∈ l, okL s x) (hc : ClashIs s l r) (i : Nat) (hi : i < (pickL l r).length) : looksE s ((pickL l r).eraseIdx i) = 0 := by
  have hl := clash_len hc
  have hp := pick_ok hx hc
  have hlen : (pickL l r).length = r.length := by unfold pickL; rw [List.length_map]
  have hle : ((pickL l r).eraseIdx i).length = (pickL l r).length - 1 := List.length_eraseIdx_of_lt hi
  have b := ok.lohi
  rw [E_ok ok (by omega) (fun x h => hp x (List.mem_of_mem_eraseIdx h)), if_neg]
  have one : ∀ x ∈ l, siz (truV s x) ≠ 0 → ¬ siz (lkOf s (s.lo, s.hi) [x]) = 0 := by
    intro x _ h0
    rw [Ne, siz_zero] at h0
    rw [siz_zero]
    have := truV_in (s := s) x
    show ¬ min s.hi (truV s x).2 < max s.lo (truV s x).1
    omega
  rcases hc with ⟨k, hk, rfl, -⟩ | ⟨hs, ⟨k, j, hk, hj, -, rfl, -⟩ | ⟨rfl, -⟩⟩
  · rw [pick_one hk] at hi ⊢
    simp only [List.length_cons, List.length_nil] at hi
    obtain rfl : i = 0 := by omega
    show ¬ siz (s.lo, s.hi) = 0
    rw [siz_zero]
    show ¬ s.hi < s.lo
    omega
  · rw [pick_two hk hj] at hi ⊢
    simp only [List.length_cons, List.length_nil] at hi
    obtain rfl | rfl : i = 0 ∨ i = 1 := by omega
    · exact one _ (List.getElem_mem hj) (hs _ (List.getElem_mem hj))
    · exact one _ (List.getElem_mem hk) (hs _ (List.getElem_mem hk))
  · simp [pickL] at hi
/-- a look more leaves no more -/
theorem pre_step (i : Nat) (hi : i < l.length) : (lkOf s (s.lo, s.hi) (l.take i)).1 ≤ (lkOf s (s.lo, s.hi) (l.take (i + 1))).1 ∧ (lkOf s (s.lo, s.hi) (l.take (i + 1))).2 ≤ (lkOf s (s.lo, s.hi) (l.take i)).2 := by
  rw [List.take_succ_eq_append_getElem hi, lkOf_snoc]
  unfold com
  dsimp only
  omega
theorem pre_some (ok : Ok s) {i : Nat} (h10 : l.length ≤ 10) (hx : ∀ x ∈ l, okL s x) : (looksE s (l.take i) = 7) ∨ (looksE s (l.take i) = 0 ∧ looksV s (l.take i) = lkOf s (s.lo, s.hi) (l.take i) ∧ (lkOf s (s.lo, s.hi) (l.take i)).1 ≤ (lkOf s (s.lo, s.hi) (l.take i)).2) := by
  have e := E_ok ok (l := l.take i) (by rw [List.length_take]; omega) (fun x h => hx x (List.mem_of_mem_take h))
  by_cases h : siz (lkOf s (s.lo, s.hi) (l.take i)) = 0
  · exact .inl (by rw [e, if_pos h])
  · rw [if_neg h] at e
    rw [siz_zero] at h
    exact .inr ⟨e, V_ok e, by omega⟩
theorem rows_take {W : World} {p : Option Addr} (h : Row W p 3 (lrows l)) (k : Nat) : Row W p 3 (lrows (l.take k)) := by
  intro i row hi
  refine h i row ?_
  unfold lrows at hi ⊢
  rw [List.map_take, List.getElem?_take] at hi
  split at hi
  · exact hi
  · cases hi
end
end
end Go.Proofs.Ytcljkkojeleakaa
/- What the library's Clone and Delete return of looks. -/
namespace Go.Proofs.Ytcljkkojeleakaa
open Go.RowKit Go.Shelf
theorem flatOk_looks (l : List Lk) : flatOk 3 (lrows l) = true := by simp [flatOk, lrows]
theorem looks_len (l : List Lk) : ∀ r ∈ lrows l, r.length = 3 := fun r hr => by
  simp only [lrows, List.mem_map] at hr
  obtain ⟨x, -, rfl⟩ := hr; rfl
theorem looks_cells (l : List Lk) : ∀ u ∈ (lrows l).flatten, u.oneCell' = true := by
  intro u hu
  obtain ⟨r, hr1, hr2⟩ := List.mem_flatten.1 hu
  simp only [lrows, List.mem_map] at hr1
  obtain ⟨y, -, rfl⟩ := hr1
  simp only [List.mem_cons, List.not_mem_nil, or_false] at hr2
  rcases hr2 with rfl | rfl | rfl <;> rfl
theorem sl_eqL (W : World) (a : Addr) (n c : Nat) : (binOp .eql 89 (.slice (some a) n c) (.slice none 0 0)).run Try.prog W = .ok (.bool false) W :=
  Lib.run_eql_slice_nil W 89 80 (some a) n c 0 0 Try.underlying89
set_option maxRecDepth 100000 in
set_option maxHeartbeats 1000000 in
theorem cloneLook_c (l : List Lk) (h0 : 0 < l.length) (h10 : l.length ≤ 100) (p : Option Addr) (c : Nat) (w : World) (hr : Row w p 3 (lrows l)) :
    Calls Try.prog 71 #[.slice p l.length c] w fun e w' => ∃ g d, e = .returned (.slice (some ⟨g, 0, none⟩) l.length d) ∧ w.heap.size ≤ g ∧ Up w w' ∧ w'.ownsRow w.heap.size 80 3 (.slice (some ⟨g, 0, none⟩) l.length d) l.length (lrows l).flatten := by
  obtain ⟨i0, hi, hz0, hz1, hz2⟩ := info_parts infoL
  have hrl : (lrows l).length = l.length := by simp [lrows]
  obtain ⟨b, off, rfl, hsrc⟩ := hr.src (flatOk_looks l) (by omega) (by decide)
  have hown : (w.alloc (.cells #[] 80)).ownsRow w.heap.size 80 3 (.slice (some ⟨w.heap.size, 0, none⟩) 0 0) 0 [] := World.ownsRow_lit w #[] 0 (Nat.le_refl _) (by simp) rfl
  obtain ⟨v', w', hrun, ho, hg, -⟩ := run_append_own (P := Try.prog) (w.alloc (.cells #[] 80)) w.heap.size 89 89 80 i0 (.agg #[.int .i64 0, .int .i64 0, .bool false]) 3 24 Try.underlying89 hi hz0 hz1 hz2 rfl (by decide) _ 0 [] hown ⟨b, off, none⟩ l.length c (lrows l).flatten
    (by rw [flatten_len 3 _ (looks_len l), hrl]) (fun j u h => hsrc _ (by (repeat (first | exact Below.refl _ _ | (with_reducible refine Below.drewN' ?_ _) | (with_reducible refine Below.drew ?_) | (with_reducible refine Below.setCell ?_ (by first | exact Nat.le_refl _ | omega | (with_reducible (repeat (first | refine sz_alloc ?_ | refine sz_setCell ?_ | refine sz_drew ?_ | refine sz_drewN ?_)); first | exact Nat.le_refl _ | omega) | (simp only [World.size_alloc, World.size_setCell, World.size_drew, size_drewN']; omega)) _) | (with_reducible refine Below.alloc ?_ (by first | exact Nat.le_refl _ | omega | (with_reducible (repeat (first | refine sz_alloc ?_ | refine sz_setCell ?_ | refine sz_drew ?_ | refine sz_drewN ?_)); first | exact Nat.le_refl _ | omega) | (simp only [World.size_alloc, World.size_setCell, World.size_drew, size_drewN']; omega)) _) | assumption))) j u h) (looks_cells l) (by simp [maxLen]; omega) (by omega) (by simp)
  rw [Nat.zero_add, List.nil_append] at ho
  rcases ho.2 with ⟨rfl, h9⟩ | ⟨g, cap, cur, rfl, hbg, hgg, hrest⟩
  · omega
  · have HO := Lib.hid ho
    have HU : Hid (Up w w') := Below.grown (by (repeat (first | exact Below.refl _ _ | (with_reducible refine Below.drewN' ?_ _) | (with_reducible refine Below.drew ?_) | (with_reducible refine Below.setCell ?_ (by first | exact Nat.le_refl _ | omega | (with_reducible (repeat (first | refine sz_alloc ?_ | refine sz_setCell ?_ | refine sz_drew ?_ | refine sz_drewN ?_)); first | exact Nat.le_refl _ | omega) | (simp only [World.size_alloc, World.size_setCell, World.size_drew, size_drewN']; omega)) _) | (with_reducible refine Below.alloc ?_ (by first | exact Nat.le_refl _ | omega | (with_reducible (repeat (first | refine sz_alloc ?_ | refine sz_setCell ?_ | refine sz_drew ?_ | refine sz_drewN ?_)); first | exact Nat.le_refl _ | omega) | (simp only [World.size_alloc, World.size_setCell, World.size_drew, size_drewN']; omega)) _) | assumption))) hg (by simp) (fun k e => by simp only [Value.ownBlock, Option.some.injEq] at e; omega)
    have HG := Lib.hid hbg
    have hsl := sl_eqL
    clear hi hz0 hz1 hz2 hr hsrc hown hg ho hgg hrest hbg
    go_enter Try.func71, Try.ntmps71
    go_wp2_with (at_builtin; refine wpList_append_run rfl _ _ 89 rfl _ _ _ w' rfl rfl hrun ?_)
    go_ret
    exact ⟨g, cap, rfl, HG.out, HU.out, HO.out⟩

theorem wp_append_o {P : Program} {w : World} {o : Oper} {a : Act} {K : Act → World → Prop} {Q : Exit → Act → World → Prop} (s x : Operand) (t : TypeId)
    (ho : o.op = .call { callee := .builtin .append, args := #[s, x], argTypes := #[t, t] }) (v1 v2 v' : Value) (w' : World) (hs : a.eval s = v1) (hx : a.eval x = v2) (hr : (Builtin.append_ #[t, t] o.type #[v1, v2]).run P w = .ok v' w')
    (h : K (a.put o.dst v') w') : Oper.wp P o a w K Q := by
  unfold Oper.wp execOp
  simp only [ho, resolve, invoke, builtin, Sem.run_bind, Sem.run_pure, Result.andThen_ok, List.map_toArray, List.map_cons, List.map_nil, hs, hx, hr]
  exact h
theorem cellFar (w : World) (g o1 o2 : Nat) (v : Value) (h : o1 ≠ o2) : (w.setCell ⟨g, o1, none⟩ v).cell? ⟨g, o2, none⟩ = w.cell? ⟨g, o2, none⟩ :=
  World.cell?_setCell_other _ _ _ _ (by simp only [ne_eq, Addr.mk.injEq, not_and]; intro _ h'; omega)
theorem run_clearL (w : World) (ty : TypeId) (g o c : Nat) (hc : ∀ j, j < 3 → (w.cell? ⟨g, o + j, none⟩).isSome = true) (hf : ∀ j, j < 3 → w.frozen? ⟨g, o + j, none⟩ = false) :
    (Builtin.clear_ #[89] ty #[.slice (some ⟨g, o, none⟩) 1 c]).run Try.prog w = .ok (.tuple #[]) (((w.setCell ⟨g, o, none⟩ (.int .i64 0)).setCell ⟨g, o + 1, none⟩ (.int .i64 0)).setCell ⟨g, o + 2, none⟩ (.bool false)) := by
  have hzc : (Builtin.zeroCells (Value.agg #[.int .i64 0, .int .i64 0, .bool false]).cells 1).toList = [.int .i64 0, .int .i64 0, .bool false] := by
    first
      | kernel_rfl
      | (simp [Builtin.zeroCells, Value.cells]; done)
      | (apply List.ext_getElem? ; intro i; simp [Builtin.zeroCells, Value.cells])
  have hst := run_storeCells_cells (P := Try.prog) g o [.int .i64 0, .int .i64 0, .bool false] 0 w (by simpa using hc) (by simpa using hf) (by intro v hv; simp only [List.mem_cons, List.not_mem_nil, or_false] at hv; rcases hv with rfl | rfl | rfl <;> rfl)
  have hv : ∀ w, (zeroValue 80).run Try.prog w = .ok (.agg #[.int .i64 0, .int .i64 0, .bool false]) w := fun w => by
    obtain ⟨i0, hi, hz0, -⟩ := info_parts infoL
    simp [zeroValue, typeInfo, hi, hz0]
  simp only [Nat.add_zero] at hst
  simp [Builtin.clear_, run_underlying Try.underlying89, hv, hzc, hst]
  rfl
theorem erase_rows (l : List Lk) (i : Nat) : lrows (l.eraseIdx i) = (lrows l).take i ++ (lrows l).drop (i + 1) := by
  unfold lrows
  rw [List.eraseIdx_eq_take_drop_succ, List.map_append, List.map_take, List.map_drop]
set_option maxRecDepth 100000 in
set_option maxHeartbeats 4000000 in
theorem delete_c (l : List Lk) (i : Nat) (hi' : i < l.length) (h10 : l.length ≤ 100) (g d B : Nat) (w : World) (hB : w.ownsRow B 80 3 (.slice (some ⟨g, 0, none⟩) l.length d) l.length (lrows l).flatten) :
    Calls Try.prog 70 #[.slice (some ⟨g, 0, none⟩) l.length d, .int .i64 i, .int .i64 ((i : Int) + 1)] w fun e w' => ∃ d', e = .returned (.slice (some ⟨g, 0, none⟩) (l.length - 1) d') ∧ l.length - 1 ≤ d' ∧ d' ≤ maxLen ∧ Row w' (some ⟨g, 0, none⟩) 3 (lrows (l.eraseIdx i)) ∧ w.grownBy w' (some g) := by
  obtain ⟨i0, hi, hz0, hz1, hz2⟩ := info_parts infoL
  have hrl : (lrows l).length = l.length := by simp [lrows]
  have hl3 := looks_len l
  rcases hB.2 with ⟨h, -⟩ | ⟨g', cap, cur, h, hbg, hg, hnc, hcm, hcs, htake⟩
  · simp at h
  simp only [Value.slice.injEq, Option.some.injEq, Addr.mk.injEq, and_true, true_and] at h
  obtain ⟨rfl, rfl⟩ := h
  have hd63 : d ≤ 9223372036854775807 := by unfold maxLen at hcm; omega
  -- the part ahead, and the part behind
  have hpre : (w.drew).ownsRow B 80 3 (.slice (some ⟨g, 0, none⟩) i d) i ((lrows l).take i).flatten := by
    refine ⟨?_, .inr ⟨g, d, cur, rfl, hbg, hg, by omega, hcm, hcs, ?_⟩⟩
    · rw [flatten_len 3 _ (fun r hr => hl3 r (List.mem_of_mem_take hr)), List.length_take, hrl]
      congr 1; omega
    · have e1 : (lrows l).flatten = ((lrows l).take i).flatten ++ ((lrows l).drop i).flatten := by rw [← List.flatten_append, List.take_append_drop]
      have e2 : ((lrows l).take i).flatten.length = i * 3 := by
        rw [flatten_len 3 _ (fun r hr => hl3 r (List.mem_of_mem_take hr)), List.length_take, hrl]
        congr 1; omega
      have e3 : cur.toList.take (i * 3) = (cur.toList.take (l.length * 3)).take (i * 3) := by rw [List.take_take]; congr 1; omega
      rw [e3, htake, e1, List.take_left' e2]
  have hcell : ∀ k v, (lrows l).flatten[k]? = some v → w.cell? ⟨g, k, none⟩ = some v := fun k v hk => by
    have hlt : k < l.length * 3 := by
      have := (List.getElem?_eq_some_iff.1 hk).1
      rw [flatten_len 3 _ hl3, hrl] at this
      exact this
    rw [hB.cellAt k hlt]
    exact hk
  have hnews : ∀ j v, ((lrows l).drop (i + 1)).flatten[j]? = some v → w.drew.cell? ((⟨g, (i + 1) * 3, none⟩ : Addr).add j) = some v := fun j v hj => by
    rw [Addr.add_lit]
    refine hcell _ _ ?_
    have e1 : (lrows l).flatten = ((lrows l).take (i + 1)).flatten ++ ((lrows l).drop (i + 1)).flatten := by rw [← List.flatten_append, List.take_append_drop]
    have e2 : ((lrows l).take (i + 1)).flatten.length = (i + 1) * 3 := by
      rw [flatten_len 3 _ (fun r hr => hl3 r (List.mem_of_mem_take hr)), List.length_take, hrl]
      congr 1; omega
    rw [e1, List.getElem?_append_right (by omega), e2, Nat.add_sub_cancel_left]
    exact hj
  have hm : ((lrows l).drop (i + 1)).flatten.length = (l.length - (i + 1)) * 3 := by
    rw [flatten_len 3 _ (fun r hr => hl3 r (List.mem_of_mem_drop hr)), List.length_drop, hrl]
  have h1c : ∀ u ∈ ((lrows l).drop (i + 1)).flatten, u.oneCell' = true := fun u hu => by
    refine looks_cells l u ?_
    obtain ⟨r, hr1, hr2⟩ := List.mem_flatten.1 hu
    exact List.mem_flatten.2 ⟨r, List.mem_of_mem_drop hr1, hr2⟩
  have i1 : (i : Int) ≤ (i : Int) + 1 := by omega
  have i2 : (i : Int) + 1 ≤ (l.length : Int) := by omega
  have i3 : (l.length : Int) ≤ (d : Int) := by omega
  have i4 : ((i : Int) == (i : Int) + 1) = false := beq_eq_false_iff_ne.2 (by omega)
  have i5 : (0 : Int) ≤ (i : Int) := by omega
  have i6 : (0 : Int) ≤ (i : Int) + 1 := by omega
  have hN : i + (l.length - (i + 1)) = l.length - 1 := by omega
  have hn1 : l.length - (l.length - 1) = 1 := by omega
  have q1 : ((l.length - 1 : Nat) : Int) ≤ (l.length : Int) := by omega
  have q2 : (0 : Int) ≤ ((l.length - 1 : Nat) : Int) := by omega
  have q3 : ¬ d = l.length - 1 := by omega
  have i7 : i ≤ d := by omega
  have q4 : l.length - 1 ≤ d := by omega
  by_cases hend : d = i + 1
  · have hE : (d = i + 1) = True := eq_true hend
    obtain ⟨w', hrun, ho, hgw⟩ := run_append_fits (P := Try.prog) w.drew B 89 89 80 i0 3 Try.underlying89 hi hz1 g i d ((lrows l).take i).flatten hpre ⟨g, 0, none⟩ (l.length - (i + 1)) (d - (i + 1)) ((lrows l).drop (i + 1)).flatten hm (fun j v hj => by have h9 := (List.getElem?_eq_some_iff.1 hj).1; rw [hm] at h9; omega) h1c (by omega)
    rw [hN] at hrun ho
    rw [← List.flatten_append, ← erase_rows] at ho
    have HO := Lib.hid ho
    have HG := Lib.hid hgw
    rcases ho.2 with ⟨h, -⟩ | ⟨g', cap', cur', h, -, hg', -, -, hcs', -⟩
    · simp at h
    simp only [Value.slice.injEq, Option.some.injEq, Addr.mk.injEq, and_true, true_and] at h
    obtain ⟨rfl, rfl⟩ := h
    have hblk : Blk w' g cur'.toList 80 := by show w'.heap[g]? = _; rw [hg']
    have hcl : ∀ j, j < 3 → (w'.cell? ⟨g, (l.length - 1) * 3 + j, none⟩).isSome = true := fun j hj => by
      have hlen : cur'.toList.length = d * 3 := (Array.length_toList (xs := cur')).trans hcs'
      rw [hblk.cell, List.getElem?_eq_getElem (by omega)]
      rfl
    have hclear := fun ty c => run_clearL w' ty g ((l.length - 1) * 3) c hcl (fun j _ => hblk.free _)
    have HB := Lib.hid hblk
    clear hi hz0 hz1 hz2 hB hbg hg hnc hcs htake hpre hcell hnews hm h1c ho hgw hg' hcs' hblk hcl hl3 hrl hend
    go_enter Try.func70, Try.ntmps70
    go_upto_region 5 with fail
    refine region_tail (fun _ => True) 7 mixed (by kernel_rfl) trivial (fun hHeld => ?_)
    refine wpAnyG_take 0 20 (v := ?_) rfl rfl (by kernel_rfl) (fun _ _ _ h => h) (Or.inl ⟨by rfl, ?_⟩) (by assumption) ?_
    rotate_left
    · (intro w' hSw; (try dsimp only at hSw); go_split_ands; go_simp; try with_reducible rfl)
    try simp only [List.setIfInBounds_toArray, List.set_cons_zero, List.set_cons_succ]
    refine wpAnyG_take 1 21 (v := ?_) rfl rfl (by kernel_rfl) (fun _ _ _ h => h) (Or.inl ⟨by rfl, ?_⟩) (by assumption) ?_
    rotate_left
    · (intro w' hSw; (try dsimp only at hSw); go_split_ands; go_simp; try with_reducible rfl)
    try simp only [List.setIfInBounds_toArray, List.set_cons_zero, List.set_cons_succ]
    refine wpAnyG_take 2 22 (v := ?_) rfl rfl (by kernel_rfl) (fun _ _ _ h => h) (Or.inl ⟨by rfl, ?_⟩) (by assumption) ?_
    rotate_left
    · (intro w' hSw; (try dsimp only at hSw); go_split_ands; go_simp; try with_reducible rfl)
    try simp only [List.setIfInBounds_toArray, List.set_cons_zero, List.set_cons_succ]
    refine wpAnyG_take 3 23 (v := ?_) rfl rfl (by kernel_rfl) (fun _ _ _ h => h) (Or.inl ⟨by rfl, ?_⟩) (by assumption) ?_
    rotate_left
    · (intro w' hSw; (try dsimp only at hSw); go_split_ands; go_simp; try with_reducible rfl)
    try simp only [List.setIfInBounds_toArray, List.set_cons_zero, List.set_cons_succ]
    refine wpAnyG_take 4 24 (v := ?_) rfl rfl (by kernel_rfl) (fun _ _ _ h => h) (Or.inl ⟨by rfl, ?_⟩) (by assumption) ?_
    rotate_left
    · (intro w' hSw; (try dsimp only at hSw); go_split_ands; go_simp; try with_reducible rfl)
    try simp only [List.setIfInBounds_toArray, List.set_cons_zero, List.set_cons_succ]
    refine wpAnyG_take 5 25 (v := ?_) rfl rfl (by kernel_rfl) (fun _ _ _ h => h) (Or.inl ⟨by rfl, ?_⟩) (by assumption) ?_
    rotate_left
    · (intro w' hSw; (try dsimp only at hSw); go_split_ands; go_simp; try with_reducible rfl)
    try simp only [List.setIfInBounds_toArray, List.set_cons_zero, List.set_cons_succ]
    refine wpAnyG_do 6 rfl (by kernel_rfl) (fun K hK => ?_)
    rw [if_pos (by rfl)]
    refine wp_append_o (.tmp 22) (.tmp 25) 89 rfl _ _ _ w' rfl rfl hrun (hK.out _ _ trivial (fun hHeld => ?_))
    clear hK K
    try simp only [Act.put, List.setIfInBounds_toArray]
    refine wpAnyG_tail (by kernel_rfl) ?_
    change wpList _ _ _ [_] _ _
    clear hHeld
    go_wp2_with fail
    go_ret
    have HZ : Hid (Row (((w'.setCell ⟨g, (l.length - 1) * 3, none⟩ (.int .i64 0)).setCell ⟨g, (l.length - 1) * 3 + 1, none⟩ (.int .i64 0)).setCell ⟨g, (l.length - 1) * 3 + 2, none⟩ (.bool false)) (some ⟨g, 0, none⟩) 3 (lrows (l.eraseIdx i))) := by
      have hel : (l.eraseIdx i).length = l.length - 1 := List.length_eraseIdx_of_lt hi'
      obtain ⟨p', c', e', -, -, hR, -⟩ := Row.of_own (rows := lrows (l.eraseIdx i)) (flatOk_looks _) HO.out (by simp [lrows, hel])
      simp only [Value.slice.injEq, true_and] at e'
      obtain ⟨rfl, rfl⟩ := e'
      intro r row hr
      obtain ⟨b, off, hb, hc⟩ := hR r row hr
      refine ⟨b, off, hb, fun j x hj => ?_⟩
      have hrr : r < l.length - 1 := by
        have := (List.getElem?_eq_some_iff.1 hr).1
        simp only [lrows, List.length_map] at this
        omega
      have hjj : j < 3 := by
        have h1 := (List.getElem?_eq_some_iff.1 hj).1
        have h2 := looks_len (l.eraseIdx i) row (List.mem_of_getElem? hr)
        omega
      simp only [Option.some.injEq, Addr.mk.injEq, and_true] at hb
      obtain ⟨rfl, rfl⟩ := hb
      have hk := hc j x hj
      refine (cellFar _ g _ _ _ ?_).trans ((cellFar _ g _ _ _ ?_).trans ((cellFar _ g _ _ _ ?_).trans hk)) <;> omega
    refine ⟨_, rfl, q4, hcm, HZ.out, ?_⟩
    have hg0 := HG.out
    exact ⟨hg0.os, hg0.tape, hg0.output, by simpa using hg0.size, fun k hk hne => by
      have hkg : k ≠ g := fun e => hne (by rw [e])
      rw [Below.heap_setCell _ _ _ _ hkg, Below.heap_setCell _ _ _ _ hkg, Below.heap_setCell _ _ _ _ hkg]
      exact hg0.block k hk hne⟩
  · have hD := hend
    obtain ⟨w', hrun, ho, hgw⟩ := run_append_fits (P := Try.prog) w.drew B 89 89 80 i0 3 Try.underlying89 hi hz1 g i d ((lrows l).take i).flatten hpre ⟨g, (i + 1) * 3, none⟩ (l.length - (i + 1)) (d - (i + 1)) ((lrows l).drop (i + 1)).flatten hm hnews h1c (by omega)
    rw [hN] at hrun ho
    rw [← List.flatten_append, ← erase_rows] at ho
    have HO := Lib.hid ho
    have HG := Lib.hid hgw
    rcases ho.2 with ⟨h, -⟩ | ⟨g', cap', cur', h, -, hg', -, -, hcs', -⟩
    · simp at h
    simp only [Value.slice.injEq, Option.some.injEq, Addr.mk.injEq, and_true, true_and] at h
    obtain ⟨rfl, rfl⟩ := h
    have hblk : Blk w' g cur'.toList 80 := by show w'.heap[g]? = _; rw [hg']
    have hcl : ∀ j, j < 3 → (w'.cell? ⟨g, (l.length - 1) * 3 + j, none⟩).isSome = true := fun j hj => by
      have hlen : cur'.toList.length = d * 3 := (Array.length_toList (xs := cur')).trans hcs'
      rw [hblk.cell, List.getElem?_eq_getElem (by omega)]
      rfl
    have hclear := fun ty c => run_clearL w' ty g ((l.length - 1) * 3) c hcl (fun j _ => hblk.free _)
    have HB := Lib.hid hblk
    clear hi hz0 hz1 hz2 hB hbg hg hnc hcs htake hpre hcell hnews hm h1c ho hgw hg' hcs' hblk hcl hl3 hrl
    go_enter Try.func70, Try.ntmps70
    go_upto_region 5 with fail
    refine region_tail (fun _ => True) 7 mixed (by kernel_rfl) trivial (fun hHeld => ?_)
    refine wpAnyG_take 0 20 (v := ?_) rfl rfl (by kernel_rfl) (fun _ _ _ h => h) (Or.inl ⟨by rfl, ?_⟩) (by assumption) ?_
    rotate_left
    · (intro w' hSw; (try dsimp only at hSw); go_split_ands; go_simp; try with_reducible rfl)
    try simp only [List.setIfInBounds_toArray, List.set_cons_zero, List.set_cons_succ]
    refine wpAnyG_take 1 21 (v := ?_) rfl rfl (by kernel_rfl) (fun _ _ _ h => h) (Or.inl ⟨by rfl, ?_⟩) (by assumption) ?_
    rotate_left
    · (intro w' hSw; (try dsimp only at hSw); go_split_ands; go_simp; try with_reducible rfl)
    try simp only [List.setIfInBounds_toArray, List.set_cons_zero, List.set_cons_succ]
    refine wpAnyG_take 2 22 (v := ?_) rfl rfl (by kernel_rfl) (fun _ _ _ h => h) (Or.inl ⟨by rfl, ?_⟩) (by assumption) ?_
    rotate_left
    · (intro w' hSw; (try dsimp only at hSw); go_split_ands; go_simp; try with_reducible rfl)
    try simp only [List.setIfInBounds_toArray, List.set_cons_zero, List.set_cons_succ]
    refine wpAnyG_take 3 23 (v := ?_) rfl rfl (by kernel_rfl) (fun _ _ _ h => h) (Or.inl ⟨by rfl, ?_⟩) (by assumption) ?_
    rotate_left
    · (intro w' hSw; (try dsimp only at hSw); go_split_ands; go_simp; try with_reducible rfl)
    try simp only [List.setIfInBounds_toArray, List.set_cons_zero, List.set_cons_succ]
    refine wpAnyG_take 4 24 (v := ?_) rfl rfl (by kernel_rfl) (fun _ _ _ h => h) (Or.inl ⟨by rfl, ?_⟩) (by assumption) ?_
    rotate_left
    · (intro w' hSw; (try dsimp only at hSw); go_split_ands; go_simp; try with_reducible rfl)
    try simp only [List.setIfInBounds_toArray, List.set_cons_zero, List.set_cons_succ]
    refine wpAnyG_take 5 25 (v := ?_) rfl rfl (by kernel_rfl) (fun _ _ _ h => h) (Or.inl ⟨by rfl, ?_⟩) (by assumption) ?_
    rotate_left
    · (intro w' hSw; (try dsimp only at hSw); go_split_ands; go_simp; try with_reducible rfl)
    try simp only [List.setIfInBounds_toArray, List.set_cons_zero, List.set_cons_succ]
    refine wpAnyG_do 6 rfl (by kernel_rfl) (fun K hK => ?_)
    rw [if_pos (by rfl)]
    refine wp_append_o (.tmp 22) (.tmp 25) 89 rfl _ _ _ w' rfl rfl hrun (hK.out _ _ trivial (fun hHeld => ?_))
    clear hK K
    try simp only [Act.put, List.setIfInBounds_toArray]
    refine wpAnyG_tail (by kernel_rfl) ?_
    change wpList _ _ _ [_] _ _
    clear hHeld
    go_wp2_with fail
    go_ret
    have HZ : Hid (Row (((w'.setCell ⟨g, (l.length - 1) * 3, none⟩ (.int .i64 0)).setCell ⟨g, (l.length - 1) * 3 + 1, none⟩ (.int .i64 0)).setCell ⟨g, (l.length - 1) * 3 + 2, none⟩ (.bool false)) (some ⟨g, 0, none⟩) 3 (lrows (l.eraseIdx i))) := by
      have hel : (l.eraseIdx i).length = l.length - 1 := List.length_eraseIdx_of_lt hi'
      obtain ⟨p', c', e', -, -, hR, -⟩ := Row.of_own (rows := lrows (l.eraseIdx i)) (flatOk_looks _) HO.out (by simp [lrows, hel])
      simp only [Value.slice.injEq, true_and] at e'
      obtain ⟨rfl, rfl⟩ := e'
      intro r row hr
      obtain ⟨b, off, hb, hc⟩ := hR r row hr
      refine ⟨b, off, hb, fun j x hj => ?_⟩
      have hrr : r < l.length - 1 := by
        have := (List.getElem?_eq_some_iff.1 hr).1
        simp only [lrows, List.length_map] at this
        omega
      have hjj : j < 3 := by
        have h1 := (List.getElem?_eq_some_iff.1 hj).1
        have h2 := looks_len (l.eraseIdx i) row (List.mem_of_getElem? hr)
        omega
      simp only [Option.some.injEq, Addr.mk.injEq, and_true] at hb
      obtain ⟨rfl, rfl⟩ := hb
      have hk := hc j x hj
      refine (cellFar _ g _ _ _ ?_).trans ((cellFar _ g _ _ _ ?_).trans ((cellFar _ g _ _ _ ?_).trans hk)) <;> omega
    refine ⟨_, rfl, q4, hcm, HZ.out, ?_⟩
    have hg0 := HG.out
    exact ⟨hg0.os, hg0.tape, hg0.output, by simpa using hg0.size, fun k hk hne => by
      have hkg : k ≠ g := fun e => hne (by rw [e])
      rw [Below.heap_setCell _ _ _ _ hkg, Below.heap_setCell _ _ _ _ hkg, Below.heap_setCell _ _ _ _ hkg]
      exact hg0.block k hk hne⟩
end Go.Proofs.Ytcljkkojeleakaa
/- What the layer's clash and Clash return. -/
namespace Go.Proofs.Ytcljkkojeleakaa
open Go.RowKit Go.Shelf
theorem near_siz {a : Int × Int} (h : Near a) : -100000 ≤ a.1 ∧ a.1 ≤ 100000 ∧ -100000 ≤ a.2 ∧ a.2 ≤ 100000 := by
  obtain ⟨h1, h2, h3, h4⟩ := h
  omega
section
variable {pT pF pS : Option Addr} {cT cF cS : Nat}
set_option maxRecDepth 100000 in
set_option maxHeartbeats 4000000 in
theorem clash_c (bw : Nat) (s : Sd) (l : List Lk) (pL : Option Addr) (cL : Nat) (w : World) (hw : IsWork w bw s pT pF pS cT cF cS) (ok : Ok s) (hx : ∀ x ∈ l, firstM s.table ≤ x.1 ∧ ∃ p : Nat, x.2.1 = p ∧ p < s.floors.length ∧ p < 8) (_h10 : l.length ≤ 10) (hc : l.length ≤ cL) (hm : cL ≤ maxLen) (hr : Row w pL 3 (lrows l)) :
    Calls Try.prog 136 #[.pointer (some ⟨bw, 0, none⟩), .slice pL l.length cL] w fun e w' => ∃ r q, e = .returned (.slice q r.length r.length) ∧ ClashIs s l r ∧ (r = [] ↔ q = none) ∧ Row w' q 1 (ints r) ∧ Up w w' := by
  unfold maxLen at hm
  have HTr : Hid (∀ x ∈ l, ∃ p : Nat, x.2.1 = p ∧ Near (truV s x) ∧ ∀ W, Up w W → Calls Try.prog 121 #[.pointer (some ⟨bw, 0, none⟩), .agg #[.int .i64 x.1, .int .i64 p, .bool x.2.2]] W (fun e w' => e = .returned (.agg #[.int .i64 (truV s x).1, .int .i64 (truV s x).2]) ∧ Up W w')) := by
    rintro ⟨xm, xp, xw⟩ h
    obtain ⟨h1, p, h2, -, h3⟩ := hx _ h
    dsimp only at h1 h2
    subst h2
    exact ⟨p, rfl, truV_near ok _ h1, fun W u => truths_c bw s xm p xw W (hw.up u) ok h1 h3⟩
  have HR := Lib.hid hr
  clear hx hr hw ok
  go_enter Try.func136, Try.ntmps136
  go_wp2_with fail
  go_loopw [5, 6, 13] (fun _ _ i wr => ∃ k : Nat, k ≤ l.length ∧ i = .int .i64 k ∧ (∀ j (hj : j < l.length), j < k → siz (truV s l[j]) ≠ 0) ∧ Up w wr) (fun _ _ i _ => l.length - (intOf i).toNat)
  case atStart => exact ⟨0, Nat.zero_le _, rfl, fun j _ h => by omega, Below.refl _ _⟩
  case round =>
    obtain ⟨k, hk, rfl, ha, hu⟩ := hrel
    have HA := Lib.hid ha
    have HU := Lib.hid hu
    clear ha
    by_cases hlt : k < l.length
    · obtain ⟨b, off, rfl, d0, d1, d2⟩ := (HR.out.up hu).look k hlt
      obtain ⟨p, hp, NR, hcall⟩ := HTr.out _ (List.getElem_mem hlt)
      have HC := Lib.hid hcall
      have NS := near_siz NR
      clear hcall NR
      generalize hxx : l[k] = x at *
      have HXX := Lib.hid hxx
      clear hxx
      obtain ⟨xm, xp, xw⟩ := x
      dsimp only at d0 d1 d2 hp NS HC
      subst hp
      have k1 : (k : Int) < (l.length : Int) := by omega
      clear hu
      go_wp2_with fail
      refine Calls.world ?_
      intro w1 hw1
      have u1 : Up wr w1 := by rw [hw1]; (repeat (first | exact Below.refl _ _ | (with_reducible refine Below.drewN' ?_ _) | (with_reducible refine Below.drew ?_) | (with_reducible refine Below.setCell ?_ (by first | exact Nat.le_refl _ | omega | (with_reducible (repeat (first | refine sz_alloc ?_ | refine sz_setCell ?_ | refine sz_drew ?_ | refine sz_drewN ?_)); first | exact Nat.le_refl _ | omega) | (simp only [World.size_alloc, World.size_setCell, World.size_drew, size_drewN']; omega)) _) | (with_reducible refine Below.alloc ?_ (by first | exact Nat.le_refl _ | omega | (with_reducible (repeat (first | refine sz_alloc ?_ | refine sz_setCell ?_ | refine sz_drew ?_ | refine sz_drewN ?_)); first | exact Nat.le_refl _ | omega) | (simp only [World.size_alloc, World.size_setCell, World.size_drew, size_drewN']; omega)) _) | assumption))
      have U1 := Lib.hid (Up.trans HU.out u1)
      clear hw1 u1 d0 d1 d2
      refine (HC.out w1 U1.out).mono ?_
      rintro e w2 ⟨rfl, u2⟩
      have U2 := Lib.hid (Up.trans U1.out u2)
      clear u2 HC
      generalize htv : truV s (xm, (p : Int), xw) = tv at *
      have HTV := Lib.hid htv
      clear htv
      go_wp2_with fail
      refine (size_c tv.1 tv.2 w2 NS.1 NS.2.1 NS.2.2.1 NS.2.2.2).mono ?_
      rintro e w3 ⟨rfl, u3⟩
      have U3 := Lib.hid (Up.trans U2.out u3)
      clear u3
      have HTK : Hid (truV s (l[k]'hlt) = tv) := by show _ = _; rw [HXX.out, HTV.out]
      by_cases hz : siz tv = 0
      · have n1 : (siz (tv.1, tv.2) == 0) = true := by rw [show siz (tv.1, tv.2) = siz tv from rfl, hz]; rfl
        have HZ := Lib.hid hz
        clear hz
        go_wp2_with fail
        go_ret
        refine ⟨[(k : Int)], _, rfl, .inl ⟨k, hlt, rfl, by rw [HTK.out]; exact HZ.out, fun j hj hjk => HA.out j hj hjk⟩, by simp, Row.lit w3 [(k : Int)] _, Up.trans U3.out (by (repeat (first | exact Below.refl _ _ | (with_reducible refine Below.drewN' ?_ _) | (with_reducible refine Below.drew ?_) | (with_reducible refine Below.setCell ?_ (by first | exact Nat.le_refl _ | omega | (with_reducible (repeat (first | refine sz_alloc ?_ | refine sz_setCell ?_ | refine sz_drew ?_ | refine sz_drewN ?_)); first | exact Nat.le_refl _ | omega) | (simp only [World.size_alloc, World.size_setCell, World.size_drew, size_drewN']; omega)) _) | (with_reducible refine Below.alloc ?_ (by first | exact Nat.le_refl _ | omega | (with_reducible (repeat (first | refine sz_alloc ?_ | refine sz_setCell ?_ | refine sz_drew ?_ | refine sz_drewN ?_)); first | exact Nat.le_refl _ | omega) | (simp only [World.size_alloc, World.size_setCell, World.size_drew, size_drewN']; omega)) _) | assumption)))⟩
      · have n1 : (siz (tv.1, tv.2) == 0) = false := beq_eq_false_iff_ne.2 hz
        have HZ := Lib.hid hz
        clear hz
        go_wp2_with fail
        go_roundw
        case rel =>
          try ((repeat apply Exists.intro); refine ⟨?_, rfl⟩)
          refine ⟨k + 1, hlt, by go_num, fun j hj hjk => ?_, U3.out⟩
          by_cases e : j = k
          · subst e
            rw [HTK.out]
            exact HZ.out
          · exact HA.out j hj (by omega)
        case measure => simp [intOf]; omega
    · obtain rfl : k = l.length := by omega
      have HN : Hid (∀ x ∈ l, siz (truV s x) ≠ 0) := fun x hx => by
        obtain ⟨j, hj, rfl⟩ := List.getElem_of_mem hx
        exact HA.out j hj hj
      clear hu hlt HA hk
      generalize wr = w1 at *
      go_wp2_with fail
      go_loopw [7, 8, 9, 10, 28] (fun _ _ _ _ i wr => ∃ k : Nat, k ≤ l.length ∧ i = .int .i64 k ∧ (∀ i' j' (hi' : i' < l.length) (hj' : j' < l.length), i' < j' → i' < k → siz (com (truV s l[i']) (truV s l[j'])) ≠ 0) ∧ Up w wr) (fun _ _ _ _ i _ => l.length - (intOf i).toNat)
      case atStart => exact ⟨0, Nat.zero_le _, rfl, fun _ _ _ _ _ h => by omega, HU.out⟩
      case round =>
        obtain ⟨k, hk, rfl, ha, hu⟩ := hrel
        have HA := Lib.hid ha
        have HV := Lib.hid hu
        clear ha HU
        by_cases hlt : k < l.length
        · obtain ⟨b, off, rfl, d0, d1, d2⟩ := (HR.out.up hu).look k hlt
          obtain ⟨p, hp, NR, hcall⟩ := HTr.out _ (List.getElem_mem hlt)
          have HC := Lib.hid hcall
          have NSA := Lib.hid NR
          clear hcall NR
          generalize hxx : l[k] = x at *
          have HXX := Lib.hid hxx
          clear hxx
          obtain ⟨xm, xp, xw⟩ := x
          dsimp only at d0 d1 d2 hp HC
          subst hp
          have k1 : (k : Int) < (l.length : Int) := by omega
          have k2 : (0 : Int) ≤ (k : Int) + 1 := by omega
          have k3 : (k : Int) + 1 ≤ (l.length : Int) := by omega
          have k4 : (l.length : Int) ≤ (cL : Int) := by omega
          have s1 : IntKind.i64.wrap ((k : Int) + 1) = ((k + 1 : Nat) : Int) := by rw [IntWalk.i64_in _ (by omega)]; omega
          have HN2 : Hid ((∀ j' (hj' : j' < l.length), k < j' → siz (com (truV s (l[k]'hlt)) (truV s l[j'])) ≠ 0) → ∀ i' j' (hi' : i' < l.length) (hj' : j' < l.length), i' < j' → i' < k + 1 → siz (com (truV s l[i']) (truV s l[j'])) ≠ 0) := fun h i' j' hi' hj' hij hik => by
            by_cases e : i' = k
            · subst e
              exact h j' hj' hij
            · exact HA.out i' j' hi' hj' hij (by omega)
          clear hu
          by_cases hend : cL = k + 1
          · have hle : l.length = k + 1 := by omega
            subst hend
            go_wp2_with fail
            have u1 : Up wr (wr.alloc (.cells #[.int .i64 xm, .int .i64 p, .bool xw] 80)) := by (repeat (first | exact Below.refl _ _ | (with_reducible refine Below.drewN' ?_ _) | (with_reducible refine Below.drew ?_) | (with_reducible refine Below.setCell ?_ (by first | exact Nat.le_refl _ | omega | (with_reducible (repeat (first | refine sz_alloc ?_ | refine sz_setCell ?_ | refine sz_drew ?_ | refine sz_drewN ?_)); first | exact Nat.le_refl _ | omega) | (simp only [World.size_alloc, World.size_setCell, World.size_drew, size_drewN']; omega)) _) | (with_reducible refine Below.alloc ?_ (by first | exact Nat.le_refl _ | omega | (with_reducible (repeat (first | refine sz_alloc ?_ | refine sz_setCell ?_ | refine sz_drew ?_ | refine sz_drewN ?_)); first | exact Nat.le_refl _ | omega) | (simp only [World.size_alloc, World.size_setCell, World.size_drew, size_drewN']; omega)) _) | assumption))
            have V1 := Lib.hid (Up.trans HV.out u1)
            clear u1 d0 d1 d2
            go_loopw [9, 10, 38] (fun _ _ i wx => i = .int .i64 0 ∧ Up w wx) (fun _ _ _ _ => 0)
            case atStart => exact ⟨rfl, V1.out⟩
            case round =>
              obtain ⟨rfl, hu⟩ := hrel
              have HU := Lib.hid hu
              clear hu
              go_wp2_with fail
              go_roundw
              case rel =>
                try ((repeat apply Exists.intro); refine ⟨?_, rfl⟩)
                exact ⟨k + 1, by omega, by go_num, HN2.out (fun j' hj' h => by omega), HU.out⟩
              case measure => simp [intOf]; omega
          · have hce : ¬ cL - (k + 1) = 0 := by omega
            go_wp2_with fail
            have b8 : Blk (wr.alloc (.cells #[.int .i64 xm, .int .i64 p, .bool xw] 80)) wr.heap.size [.int .i64 xm, .int .i64 p, .bool xw] 80 := Blk.new wr [.int .i64 xm, .int .i64 p, .bool xw] _
            have u1 : Up wr (wr.alloc (.cells #[.int .i64 xm, .int .i64 p, .bool xw] 80)) := by (repeat (first | exact Below.refl _ _ | (with_reducible refine Below.drewN' ?_ _) | (with_reducible refine Below.drew ?_) | (with_reducible refine Below.setCell ?_ (by first | exact Nat.le_refl _ | omega | (with_reducible (repeat (first | refine sz_alloc ?_ | refine sz_setCell ?_ | refine sz_drew ?_ | refine sz_drewN ?_)); first | exact Nat.le_refl _ | omega) | (simp only [World.size_alloc, World.size_setCell, World.size_drew, size_drewN']; omega)) _) | (with_reducible refine Below.alloc ?_ (by first | exact Nat.le_refl _ | omega | (with_reducible (repeat (first | refine sz_alloc ?_ | refine sz_setCell ?_ | refine sz_drew ?_ | refine sz_drewN ?_)); first | exact Nat.le_refl _ | omega) | (simp only [World.size_alloc, World.size_setCell, World.size_drew, size_drewN']; omega)) _) | assumption))
            have V1 := Lib.hid (Up.trans HV.out u1)
            have B8 := Lib.hid b8
            clear u1 b8 d0 d1 d2
            generalize wr.heap.size = bA at *
            go_loopw [9, 10, 38] (fun _ _ i wx => ∃ j : Nat, j ≤ l.length - (k + 1) ∧ i = .int .i64 j ∧ (∀ j' (hj' : j' < l.length), k < j' → j' < k + 1 + j → siz (com (truV s (l[k]'hlt)) (truV s l[j'])) ≠ 0) ∧ Blk wx bA [.int .i64 xm, .int .i64 p, .bool xw] 80 ∧ Up w wx) (fun _ _ i _ => (l.length - (k + 1)) - (intOf i).toNat)
            case atStart => exact ⟨0, Nat.zero_le _, rfl, fun j' _ h1 h2 => by omega, B8.out, V1.out⟩
            case round =>
              obtain ⟨j, hj, rfl, hq, hb, hu⟩ := hrel
              have HQ := Lib.hid hq
              have HB := Lib.hid hb
              have HU := Lib.hid hu
              clear hq hb
              by_cases hjl : j < l.length - (k + 1)
              · have hj2 : k + 1 + j < l.length := by omega
                obtain ⟨b', off', he, e0, e1, e2⟩ := (HR.out.up hu).look (k + 1 + j) hj2
                obtain ⟨rfl, rfl⟩ : b = b' ∧ off = off' := by simpa using he
                rw [show off + (k + 1 + j) * 3 = off + (k + 1) * 3 + j * 3 by omega] at e0 e1 e2
                obtain ⟨p2, hp2, NR2, hcall2⟩ := HTr.out _ (List.getElem_mem hj2)
                have HC2 := Lib.hid hcall2
                have NSB := Lib.hid NR2
                clear hcall2 NR2 he
                generalize hyy : l[k + 1 + j] = y at *
                have HYY := Lib.hid hyy
                clear hyy
                obtain ⟨ym, yp, yw⟩ := y
                dsimp only at e0 e1 e2 hp2 HC2
                subst hp2
                have j1 : (j : Int) < ((l.length - (k + 1) : Nat) : Int) := by omega
                clear hu
                go_upto_region 13 with fail
                refine Code.wp_world ?_
                intro w3 hw3
                have u3 : Up wr w3 := by rw [hw3]; (repeat (first | exact Below.refl _ _ | (with_reducible refine Below.drewN' ?_ _) | (with_reducible refine Below.drew ?_) | (with_reducible refine Below.setCell ?_ (by first | exact Nat.le_refl _ | omega | (with_reducible (repeat (first | refine sz_alloc ?_ | refine sz_setCell ?_ | refine sz_drew ?_ | refine sz_drewN ?_)); first | exact Nat.le_refl _ | omega) | (simp only [World.size_alloc, World.size_setCell, World.size_drew, size_drewN']; omega)) _) | (with_reducible refine Below.alloc ?_ (by first | exact Nat.le_refl _ | omega | (with_reducible (repeat (first | refine sz_alloc ?_ | refine sz_setCell ?_ | refine sz_drew ?_ | refine sz_drewN ?_)); first | exact Nat.le_refl _ | omega) | (simp only [World.size_alloc, World.size_setCell, World.size_drew, size_drewN']; omega)) _) | assumption))
                have hBk : Blk w3 wr.heap.size [.int .i64 ym, .int .i64 p2, .bool yw] 80 := by rw [hw3]; exact Blk.new wr [.int .i64 ym, .int .i64 p2, .bool yw] _
                have b0 := hBk.cell 0
                have b1 := hBk.cell 1
                have b2 := hBk.cell 2
                have c0 := (HB.out.up u3).cell 0
                have c1 := (HB.out.up u3).cell 1
                have c2 := (HB.out.up u3).cell 2
                have V3 := Lib.hid (Up.trans HU.out u3)
                have B83 := Lib.hid (HB.out.up u3)
                simp only [List.getElem?_cons_zero, List.getElem?_cons_succ] at b0 b1 b2 c0 c1 c2
                clear hw3 u3 e0 e1 e2 hBk
                refine region_tail (fun W' => W'.cell? ⟨bA, 0, none⟩ = some (.int .i64 xm) ∧ W'.cell? ⟨bA, 1, none⟩ = some (.int .i64 p) ∧ W'.cell? ⟨bA, 2, none⟩ = some (.bool xw) ∧ W'.cell? ⟨wr.heap.size, 0, none⟩ = some (.int .i64 ym) ∧ W'.cell? ⟨wr.heap.size, 1, none⟩ = some (.int .i64 p2) ∧ W'.cell? ⟨wr.heap.size, 2, none⟩ = some (.bool yw)) 9 mixed (by kernel_rfl) ⟨c0, c1, c2, b0, b1, b2⟩ (fun hHeld => ?_)
                refine wpAnyG_take 0 43 (v := ?_) rfl rfl (by kernel_rfl) (fun _ _ _ h => h) (Or.inl ⟨by rfl, ?_⟩) (by assumption) ?_
                rotate_left
                · (intro w' hSw; (try dsimp only at hSw); go_split_ands; go_simp; try with_reducible rfl)
                try simp only [List.setIfInBounds_toArray, List.set_cons_zero, List.set_cons_succ]
                refine wpAnyG_take 1 44 (v := ?_) rfl rfl (by kernel_rfl) (fun _ _ _ h => h) (Or.inl ⟨by rfl, ?_⟩) (by assumption) ?_
                rotate_left
                · (intro w' hSw; (try dsimp only at hSw); go_split_ands; go_simp; try with_reducible rfl)
                try simp only [List.setIfInBounds_toArray, List.set_cons_zero, List.set_cons_succ]
                refine wpAnyG_take 3 46 (v := ?_) rfl rfl (by kernel_rfl) (fun _ _ _ h => h) (Or.inl ⟨by rfl, ?_⟩) (by assumption) ?_
                rotate_left
                · (intro w' hSw; (try dsimp only at hSw); go_split_ands; go_simp; try with_reducible rfl)
                try simp only [List.setIfInBounds_toArray, List.set_cons_zero, List.set_cons_succ]
                refine wpAnyG_take 4 47 (v := ?_) rfl rfl (by kernel_rfl) (fun _ _ _ h => h) (Or.inl ⟨by rfl, ?_⟩) (by assumption) ?_
                rotate_left
                · (intro w' hSw; (try dsimp only at hSw); go_split_ands; go_simp; try with_reducible rfl)
                try simp only [List.setIfInBounds_toArray, List.set_cons_zero, List.set_cons_succ]
                refine wpAnyG_do 2 rfl (by kernel_rfl) (fun K hK => ?_)
                rw [if_pos (by rfl)]
                go_simp
                refine (HC.out _ (Up.trans V3.out (Below.refl _ _).drew)).mono ?_
                rintro e wa ⟨rfl, v1⟩
                have v1' : Up w3 wa := Up.trans ((Below.refl _ _).drew) v1
                refine hK.out _ _ ⟨v1'.cellAt c0, v1'.cellAt c1, v1'.cellAt c2, v1'.cellAt b0, v1'.cellAt b1, v1'.cellAt b2⟩ (fun hHeld => ?_)
                clear hK K
                refine wpAnyG_do 5 rfl (by kernel_rfl) (fun K hK => ?_)
                rw [if_pos (by rfl)]
                go_simp
                refine (HC2.out _ (Up.trans V3.out v1')).mono ?_
                rintro e wb ⟨rfl, v2⟩
                have v2' : Up w3 wb := Up.trans v1' v2
                refine hK.out _ _ ⟨v2'.cellAt c0, v2'.cellAt c1, v2'.cellAt c2, v2'.cellAt b0, v2'.cellAt b1, v2'.cellAt b2⟩ (fun hHeld => ?_)
                clear hK K
                have HCN := Lib.hid (near_siz (Near.com NSA.out NSB.out))
                have HTA : Hid (truV s (l[k]'hlt) = truV s (xm, (p : Int), xw)) := by show _ = _; rw [HXX.out]
                have HTB : Hid (truV s (l[k + 1 + j]'hj2) = truV s (ym, (p2 : Int), yw)) := by show _ = _; rw [HYY.out]
                generalize truV s (xm, (p : Int), xw) = ta at *
                generalize truV s (ym, (p2 : Int), yw) = tb at *
                refine wpAnyG_do 6 rfl (by kernel_rfl) (fun K hK => ?_)
                rw [if_pos (by rfl)]
                go_simp
                refine (common_c ta.1 ta.2 tb.1 tb.2 wb).mono ?_
                rintro e wd ⟨rfl, v3⟩
                have v3' : Up w3 wd := Up.trans v2' v3
                refine hK.out _ _ ⟨v3'.cellAt c0, v3'.cellAt c1, v3'.cellAt c2, v3'.cellAt b0, v3'.cellAt b1, v3'.cellAt b2⟩ (fun hHeld => ?_)
                clear hK K
                refine wpAnyG_do 7 rfl (by kernel_rfl) (fun K hK => ?_)
                rw [if_pos (by rfl)]
                go_simp
                refine (size_c (com (ta.1, ta.2) (tb.1, tb.2)).1 (com (ta.1, ta.2) (tb.1, tb.2)).2 wd HCN.out.1 HCN.out.2.1 HCN.out.2.2.1 HCN.out.2.2.2).mono ?_
                rintro e wf ⟨rfl, v4⟩
                have v4' : Up w3 wf := Up.trans v3' v4
                refine hK.out _ _ ⟨v4'.cellAt c0, v4'.cellAt c1, v4'.cellAt c2, v4'.cellAt b0, v4'.cellAt b1, v4'.cellAt b2⟩ (fun hHeld => ?_)
                clear hK K
                have V4 := Lib.hid (Up.trans V3.out v4')
                have B84 := Lib.hid (B83.out.up v4')
                have HZZ : Hid (siz ((com (ta.1, ta.2) (tb.1, tb.2)).1, (com (ta.1, ta.2) (tb.1, tb.2)).2) = siz (com (truV s (l[k]'hlt)) (truV s (l[k + 1 + j]'hj2)))) := by show _ = _; rw [HTA.out, HTB.out]
                generalize siz ((com (ta.1, ta.2) (tb.1, tb.2)).1, (com (ta.1, ta.2) (tb.1, tb.2)).2) = zz at *
                by_cases hz : zz = 0
                · have HZ : Hid (siz (com (truV s (l[k]'hlt)) (truV s (l[k + 1 + j]'hj2))) = 0) := by show _ = _; rw [← HZZ.out]; exact hz
                  have n1 : (zz == 0) = true := by rw [hz]; rfl
                  have s2 : IntKind.i64.wrap ((k : Int) + 1 + (j : Int)) = (k : Int) + 1 + (j : Int) := IntWalk.i64_in _ (by omega)
                  clear hz
                  refine wpAnyG_take 8 51 (v := ?_) rfl rfl (by kernel_rfl) (fun _ _ _ h => h) (Or.inl ⟨by rfl, ?_⟩) (by assumption) ?_
                  rotate_left
                  · (intro w' hSw; (try dsimp only at hSw); go_split_ands; go_simp; try with_reducible rfl)
                  try simp only [List.setIfInBounds_toArray, List.set_cons_zero, List.set_cons_succ]
                  refine wpAnyG_tail (by kernel_rfl) ?_
                  change wpList _ _ _ [] _ _
                  clear hHeld c0 c1 c2 b0 b1 b2 v1 v2 v3 v4 v1' v2' v3' v4'
                  go_wp2_with fail
                  go_ret
                  refine ⟨[(k : Int), (k : Int) + 1 + (j : Int)], _, rfl, .inr ⟨HN.out, .inl ⟨k, k + 1 + j, hlt, hj2, by omega, by rw [show ((k + 1 + j : Nat) : Int) = (k : Int) + 1 + (j : Int) by omega], HZ.out, fun i' j' hi' hj' hij ho => ?_⟩⟩, by simp, Row.lit wf [(k : Int), (k : Int) + 1 + (j : Int)] _, Up.trans V4.out (by (repeat (first | exact Below.refl _ _ | (with_reducible refine Below.drewN' ?_ _) | (with_reducible refine Below.drew ?_) | (with_reducible refine Below.setCell ?_ (by first | exact Nat.le_refl _ | omega | (with_reducible (repeat (first | refine sz_alloc ?_ | refine sz_setCell ?_ | refine sz_drew ?_ | refine sz_drewN ?_)); first | exact Nat.le_refl _ | omega) | (simp only [World.size_alloc, World.size_setCell, World.size_drew, size_drewN']; omega)) _) | (with_reducible refine Below.alloc ?_ (by first | exact Nat.le_refl _ | omega | (with_reducible (repeat (first | refine sz_alloc ?_ | refine sz_setCell ?_ | refine sz_drew ?_ | refine sz_drewN ?_)); first | exact Nat.le_refl _ | omega) | (simp only [World.size_alloc, World.size_setCell, World.size_drew, size_drewN']; omega)) _) | assumption)))⟩
                  rcases ho with ho | ⟨rfl, ho⟩
                  · exact HA.out i' j' hi' hj' hij ho
                  · exact HQ.out j' hj' hij ho
                · have HZ : Hid (siz (com (truV s (l[k]'hlt)) (truV s (l[k + 1 + j]'hj2))) ≠ 0) := by show _ ≠ _; rw [← HZZ.out]; exact hz
                  have n1 : (zz == 0) = false := beq_eq_false_iff_ne.2 hz
                  clear hz
                  refine wpAnyG_take 8 51 (v := ?_) rfl rfl (by kernel_rfl) (fun _ _ _ h => h) (Or.inl ⟨by rfl, ?_⟩) (by assumption) ?_
                  rotate_left
                  · (intro w' hSw; (try dsimp only at hSw); go_split_ands; go_simp; try with_reducible rfl)
                  try simp only [List.setIfInBounds_toArray, List.set_cons_zero, List.set_cons_succ]
                  refine wpAnyG_tail (by kernel_rfl) ?_
                  change wpList _ _ _ [] _ _
                  clear hHeld c0 c1 c2 b0 b1 b2 v1 v2 v3 v4 v1' v2' v3' v4'
                  go_wp2_with fail
                  go_roundw
                  case rel =>
                    try ((repeat apply Exists.intro); refine ⟨?_, rfl⟩)
                    refine ⟨j + 1, hjl, by go_num, fun j' hj' h1 h2 => ?_, B84.out, V4.out⟩
                    by_cases e : j' = k + 1 + j
                    · subst e
                      exact HZ.out
                    · exact HQ.out j' hj' h1 (by omega)
                  case measure => simp [intOf]; omega
              · obtain rfl : j = l.length - (k + 1) := by omega
                clear hu
                go_wp2_with fail
                go_roundw
                case rel =>
                  try ((repeat apply Exists.intro); refine ⟨?_, rfl⟩)
                  exact ⟨k + 1, hlt, by go_num, HN2.out (fun j' hj' h => HQ.out j' hj' h (by omega)), HU.out⟩
                case measure => simp [intOf]; omega
        · obtain rfl : k = l.length := by omega
          clear hu
          go_wp2_with fail
          go_ret
          exact ⟨[], none, rfl, .inr ⟨HN.out, .inr ⟨rfl, fun i' j' hi' hj' hij => HA.out i' j' hi' hj' hij hi'⟩⟩, by simp, Row.nil _ _ _, HV.out⟩
end
end Go.Proofs.Ytcljkkojeleakaa
/- What the layer's Clash returns; a copy of looks, and one look less. -/
namespace Go.Proofs.Ytcljkkojeleakaa
open Go.RowKit Go.Shelf
section
variable {pT pF pS : Option Addr} {cT cF cS : Nat}
set_option maxRecDepth 100000 in
set_option maxHeartbeats 4000000 in
theorem Clash_c (s : Sd) (l : List Lk) (pL : Option Addr) (cL : Nat) (w : World) (hl : Lists w s pT pF pS cT cF cS) (hr : Row w pL 3 (lrows l)) (hc : l.length ≤ cL) (hm : cL ≤ maxLen) :
    Calls Try.prog 69 #[sdVal s pT pF pS cT cF cS, .slice pL l.length cL] w fun e w' => ∃ r q E, e = .returned (.tuple #[.slice q r.length r.length, .int .i64 E]) ∧ ClashR s l r E ∧ Row w' q 1 (ints r) ∧ Up w w' := by
  have HC := Lib.hid (fun W (u : Up w W) => beginLooks_c s l pL cL W (hl.up u) (hr.up u) (by omega))
  have HR := Lib.hid hr
  clear hl hr
  by_cases hE : errLooks s l = 0
  · obtain ⟨hk, h10, hx⟩ := errLooks_zero hE
    have HO := Lib.hid (chk_ok hk)
    have HX := Lib.hid hx
    have HE := Lib.hid hE
    rw [hE] at HC
    clear hE hk hx
    unfold sdVal at *
    go_enter Try.func69, Try.ntmps69
    go_wp2_with fail
    refine (HC.out _ (by (repeat (first | exact Below.refl _ _ | (with_reducible refine Below.drewN' ?_ _) | (with_reducible refine Below.drew ?_) | (with_reducible refine Below.setCell ?_ (by first | exact Nat.le_refl _ | omega | (with_reducible (repeat (first | refine sz_alloc ?_ | refine sz_setCell ?_ | refine sz_drew ?_ | refine sz_drewN ?_)); first | exact Nat.le_refl _ | omega) | (simp only [World.size_alloc, World.size_setCell, World.size_drew, size_drewN']; omega)) _) | (with_reducible refine Below.alloc ?_ (by first | exact Nat.le_refl _ | omega | (with_reducible (repeat (first | refine sz_alloc ?_ | refine sz_setCell ?_ | refine sz_drew ?_ | refine sz_drewN ?_)); first | exact Nat.le_refl _ | omega) | (simp only [World.size_alloc, World.size_setCell, World.size_drew, size_drewN']; omega)) _) | assumption)))).mono ?_
    rintro e w1 ⟨p, rfl, u1, hok⟩
    obtain ⟨bw, rfl, hW⟩ := hok rfl
    have U1 := Lib.hid (Up.trans (show Up w (w.alloc (.cells (sdCells s pT pF pS cT cF cS).toArray 28)) by (repeat (first | exact Below.refl _ _ | (with_reducible refine Below.drewN' ?_ _) | (with_reducible refine Below.drew ?_) | (with_reducible refine Below.setCell ?_ (by first | exact Nat.le_refl _ | omega | (with_reducible (repeat (first | refine sz_alloc ?_ | refine sz_setCell ?_ | refine sz_drew ?_ | refine sz_drewN ?_)); first | exact Nat.le_refl _ | omega) | (simp only [World.size_alloc, World.size_setCell, World.size_drew, size_drewN']; omega)) _) | (with_reducible refine Below.alloc ?_ (by first | exact Nat.le_refl _ | omega | (with_reducible (repeat (first | refine sz_alloc ?_ | refine sz_setCell ?_ | refine sz_drew ?_ | refine sz_drewN ?_)); first | exact Nat.le_refl _ | omega) | (simp only [World.size_alloc, World.size_setCell, World.size_drew, size_drewN']; omega)) _) | assumption))) u1)
    have HW := Lib.hid hW
    clear hok hW u1 HC
    go_wp2_with fail
    refine (clash_c bw s l pL cL w1 HW.out HO.out HX.out h10 hc hm (HR.out.up U1.out)).mono ?_
    rintro e w2 ⟨r, q, rfl, h1, h2, h3, u2⟩
    have U2 := Lib.hid (Up.trans U1.out u2)
    have H1 := Lib.hid h1
    have H3 := Lib.hid h3
    clear h1 h3 u2
    have hsl := sl_neq
    cases q with
    | none =>
      have hr : r = [] := h2.2 rfl
      subst hr
      clear h2
      go_wp2_with fail
      go_ret2
      refine ⟨[], none, 6, rfl, ?_, Row.nil _ _ _, U2.out⟩
      unfold ClashR
      rw [if_pos HE.out]
      exact ⟨H1.out, rfl⟩
    | some a =>
      have hr : r ≠ [] := fun h => by have := h2.1 h; cases this
      have HN := Lib.hid hr
      clear h2 hr
      go_wp2_with fail
      go_ret2
      refine ⟨r, some a, 0, rfl, ?_, H3.out, U2.out⟩
      unfold ClashR
      rw [if_pos HE.out]
      exact ⟨H1.out, by rw [if_neg HN.out]⟩
  · have hne : (errLooks s l != 0) = true := by rw [bne_iff_ne]; exact hE
    have HE := Lib.hid hE
    clear hE
    unfold sdVal at *
    go_enter Try.func69, Try.ntmps69
    go_wp2_with fail
    refine (HC.out _ (by (repeat (first | exact Below.refl _ _ | (with_reducible refine Below.drewN' ?_ _) | (with_reducible refine Below.drew ?_) | (with_reducible refine Below.setCell ?_ (by first | exact Nat.le_refl _ | omega | (with_reducible (repeat (first | refine sz_alloc ?_ | refine sz_setCell ?_ | refine sz_drew ?_ | refine sz_drewN ?_)); first | exact Nat.le_refl _ | omega) | (simp only [World.size_alloc, World.size_setCell, World.size_drew, size_drewN']; omega)) _) | (with_reducible refine Below.alloc ?_ (by first | exact Nat.le_refl _ | omega | (with_reducible (repeat (first | refine sz_alloc ?_ | refine sz_setCell ?_ | refine sz_drew ?_ | refine sz_drewN ?_)); first | exact Nat.le_refl _ | omega) | (simp only [World.size_alloc, World.size_setCell, World.size_drew, size_drewN']; omega)) _) | assumption)))).mono ?_
    rintro e w1 ⟨p, rfl, u1, -⟩
    have U1 := Lib.hid (Up.trans (show Up w (w.alloc (.cells (sdCells s pT pF pS cT cF cS).toArray 28)) by (repeat (first | exact Below.refl _ _ | (with_reducible refine Below.drewN' ?_ _) | (with_reducible refine Below.drew ?_) | (with_reducible refine Below.setCell ?_ (by first | exact Nat.le_refl _ | omega | (with_reducible (repeat (first | refine sz_alloc ?_ | refine sz_setCell ?_ | refine sz_drew ?_ | refine sz_drewN ?_)); first | exact Nat.le_refl _ | omega) | (simp only [World.size_alloc, World.size_setCell, World.size_drew, size_drewN']; omega)) _) | (with_reducible refine Below.alloc ?_ (by first | exact Nat.le_refl _ | omega | (with_reducible (repeat (first | refine sz_alloc ?_ | refine sz_setCell ?_ | refine sz_drew ?_ | refine sz_drewN ?_)); first | exact Nat.le_refl _ | omega) | (simp only [World.size_alloc, World.size_setCell, World.size_drew, size_drewN']; omega)) _) | assumption))) u1)
    clear u1 HC
    go_wp2_with fail
    go_ret2
    refine ⟨[], none, errLooks s l, rfl, ?_, Row.nil _ _ _, U1.out⟩
    unfold ClashR
    rw [if_neg HE.out]
    exact ⟨rfl, rfl⟩
end
end Go.Proofs.Ytcljkkojeleakaa
/- As Draw: but an operation of the tail may wait for one of the head by way of another one of the tail. -/
namespace Go.Proofs.Ytcljkkojeleakaa
open Go.RowKit Go.Shelf

/-- each operation from N on waits for each before N, at once or by way of others -/
def tailWaits3 (md : Region.Mode) (ops : Array Oper) (N : Nat) : Bool :=
  (List.range ops.size).all fun t => decide (t < N) || (List.range N).all fun j => waitsT md ops ops.size 6 t j

theorem head_of_ready3 {md : Region.Mode} {ops : Array Oper} {N : Nat} {listed : Array Bool} {i j : Nat} (ht : tailWaits3 md ops N = true) (hcl : Closed md ops (fun j => listed.getD j false)) (hi : i < N) (hun : listed.getD i false = false) (hj : j ∈ Region.ready md ops listed) : j < N := by
  rcases Nat.lt_or_ge j N with h | h
  · exact h
  · exfalso
    obtain ⟨_, oj, hoj, hall⟩ := mem_ready.1 hj
    have hjs : j < ops.size := (Array.getElem?_eq_some_iff.1 hoj).1
    have h1 := List.all_eq_true.1 ht j (List.mem_range.2 hjs)
    simp only [Bool.or_eq_true, decide_eq_true_eq] at h1
    have h2 := h1.resolve_left (by omega)
    have h3 := List.all_eq_true.1 h2 i (List.mem_range.2 hi)
    have one : ∀ k, Region.waitsFor md ops j k = true → listed.getD k false = true := fun k hk => by
      obtain ⟨o', ho', e, he, hb, hon⟩ := Region.waitsFor_spec hk
      have : o' = oj := Option.some.inj (ho'.symm.trans hoj)
      subst this
      rw [← hon]
      exact hall e he hb
    simp only [waitsT, Bool.or_eq_true, List.any_eq_true, Bool.and_eq_true] at h3
    rcases h3 with h3 | ⟨k, -, h4, h5⟩
    · rw [one i h3] at hun; cases hun
    · have h6 : listed.getD i false = true := hcl.all (N := ops.size) 5 k i (one k h4) (by simp only [waitsT, Bool.or_eq_true, List.any_eq_true, Bool.and_eq_true]; exact h5)
      rw [h6] at hun; cases hun

section
variable {P : Program} {Q : Exit → Act → World → Prop} {N : Nat}

theorem inv_G3 {md : Region.Mode} {ops : Array Oper} {R : Array Bool → Act → World → Prop} (Inv : (Nat → Bool) → Act → World → Prop) (hb : backward ops = true) (ht : tailWaits3 md ops N = true) (hN : N ≤ ops.size)
    (step : ∀ (done : Nat → Bool) (a : Act) (w : World) (i : Nat) (o : Oper), i < N → done i = false → ops[i]? = some o → (∀ e ∈ o.after, Region.binds md e = true → done e.on = true) → Inv done a w → wpOp P ops Q i (fun a' w' => Inv (upd done i) a' w') a w)
    (hR : ∀ (listed : Array Bool) (a : Act) (w : World), listed.size = ops.size → (∀ j, listed.getD j false = decide (j < N)) → Inv (fun j => decide (j < N)) a w → R listed a w) :
    ∀ (f : Nat) (listed : Array Bool) (a : Act) (w : World), listed.size = ops.size → (∀ j, N ≤ j → listed.getD j false = false) → cnt (fun j => listed.getD j false) N = f → Closed md ops (fun j => listed.getD j false) → Inv (fun j => listed.getD j false) a w →
      wpAnyG P md ops Q (fun _ => True) N R f listed a w
  | 0, listed, a, w, hs, hf, hc, _, hi => by
    have hall := cnt_zero hc
    have hg : ∀ j, listed.getD j false = decide (j < N) := fun j => by
      by_cases h : j < N
      · rw [hall j h]; simp [h]
      · rw [hf j (by omega)]; simp [h]
    refine ⟨hall, hR listed a w hs hg ?_⟩
    rw [show (fun j => listed.getD j false) = (fun j => decide (j < N)) from funext hg] at hi
    exact hi
  | f + 1, listed, a, w, hs, hf, hc, hcl, hi => by
    obtain ⟨j, hj, hun, hbefore⟩ := cnt_first (g := fun j => listed.getD j false) (n := N) (by omega)
    have hjs : j < ops.size := by omega
    have hready : j ∈ Region.ready md ops listed := by
      refine mem_ready.2 ⟨?_, ops[j], Array.getElem?_eq_getElem hjs, fun e he _ => ?_⟩
      · have hun' : listed.getD j false = false := hun
        rw [Array.getD_eq_getD_getElem?] at hun' ⊢
        rw [Array.getElem?_eq_getElem (by omega)] at hun' ⊢
        exact hun'
      · have h1 := List.all_eq_true.1 hb j (List.mem_range.2 hjs)
        rw [Array.getElem?_eq_getElem hjs] at h1
        have h2 := (Array.all_eq_true_iff_forall_mem.1 h1) e he
        simp only [decide_eq_true_eq] at h2
        exact hbefore _ h2
    refine ⟨fun h0 => (by rw [h0] at hready; cases hready), fun i hir => ?_⟩
    have hiN := head_of_ready3 ht hcl hj hun hir
    obtain ⟨hiun, o, ho, hall⟩ := mem_ready.1 hir
    have hiun' : listed.getD i false = false := getD_both hiun
    refine ⟨hiN, wpOp_mono (fun a' w' h' => ⟨trivial, ?_⟩) (step (fun j => listed.getD j false) a w i o hiN hiun' ho hall hi)⟩
    have hset : (fun j => (listed.setIfInBounds i true).getD j false) = upd (fun j => listed.getD j false) i := by
      funext k
      by_cases hk : i = k
      · subst hk
        have : i < (listed.setIfInBounds i true).size := by simp; omega
        rw [Array.getD_eq_getD_getElem?, Array.getElem?_eq_getElem this]
        simp [upd]
      · rw [getD_set_ne false hk]
        have : (k == i) = false := by rw [beq_eq_false_iff_ne]; omega
        simp [upd, this]
    refine inv_G3 Inv hb ht hN step hR f _ a' w' (by simpa using hs) (fun k hk => ?_) ?_ ?_ ?_
    · rw [getD_set_ne false (by omega)]; exact hf k hk
    · rw [hset]
      have := cnt_set (fun j => listed.getD j false) i hiun' N hiN
      omega
    · rw [hset]
      intro k ok hok hk e he hb
      have hk' : listed.getD k false = true ∨ k = i := by simpa [upd] using hk
      have : listed.getD e.on false = true := by
        rcases hk' with hk' | rfl
        · exact hcl k ok hok hk' e he hb
        · have : ok = o := Option.some.inj (hok.symm.trans ho)
          subst this
          exact hall e he hb
      simp [upd, this]
    · rw [hset]; exact h'

/-- the order is right for the rule: the first N, in whatever order, then the others as they stand -/
def drawOk3 (md : Region.Mode) (l : List Oper) (N : Nat) : Bool :=
  decide (N ≤ l.length) && backward l.toArray && tailWaits3 md l.toArray N && (headDone N (List.replicate N true ++ List.replicate (l.length - N) false).toArray && Region.seqB md l.toArray (l.drop N).length N (List.replicate N true ++ List.replicate (l.length - N) false).toArray)

theorem region_inv3 {id : Nat} {l : List Oper} {a : Act} {w : World} (N : Nat) (Inv : (Nat → Bool) → Act → World → Prop) (hm : P.follows .mixedOrders = true) (hd : drawOk3 .any l N = true)
    (start : Inv (fun _ => false) a w.drew)
    (step : ∀ (done : Nat → Bool) (a : Act) (w : World) (i : Nat) (o : Oper), i < N → done i = false → l.toArray[i]? = some o → (∀ e ∈ o.after, Region.binds .any e = true → done e.on = true) → Inv done a w → wpOp P l.toArray Q i (fun a' w' => Inv (upd done i) a' w') a w)
    (tail : ∀ a w, Inv (fun j => decide (j < N)) a w → wpList P l.toArray Q (l.drop N) a w) : (Code.region id l.toArray true).wp P Q a w := by
  unfold drawOk3 at hd
  simp only [Bool.and_eq_true, decide_eq_true_eq] at hd
  obtain ⟨⟨⟨hN, hb⟩, ht⟩, hh, hseq⟩ := hd
  refine region_tail (fun _ => True) N hm (by simpa using hN) trivial (fun _ => ?_)
  refine inv_G3 Inv hb ht (by simpa using hN) step (fun listed a w hs hg hi => ?_) N _ a w.drew (by simp) (fun j _ => none_listed _ j) ?_ (fun i o _ hi => ?_) ?_
  · rw [listed_eq (n := l.length) (by simpa using hs) hN hg]
    have := wpAnyG_tail (P := P) (Q := Q) (S := fun _ => True) (a := a) (w := w) (by rw [Bool.and_eq_true]; exact ⟨hh, hseq⟩) (tail a w hi)
    exact this.2
  · have : (fun j => (Array.replicate l.toArray.size false).getD j false) = fun _ => false := by funext j; exact none_listed _ j
    rw [this]; exact cnt_none N
  · have hi' : (Array.replicate l.toArray.size false).getD i false = true := hi
    rw [none_listed] at hi'; cases hi'
  · have : (fun j => (Array.replicate l.toArray.size false).getD j false) = fun _ => false := by funext j; exact none_listed _ j
    rw [this]; exact start
end
end Go.Proofs.Ytcljkkojeleakaa
namespace Go.Proofs.Ytcljkkojeleakaa
open Go.RowKit Go.Shelf

/-- each edge that binds leads back -/
def backwardB (md : Region.Mode) (ops : Array Oper) : Bool := (List.range ops.size).all fun i => match ops[i]? with | some o => o.after.all (fun e => !Region.binds md e || decide (e.on < i)) | none => true

section
variable {P : Program} {Q : Exit → Act → World → Prop} {N : Nat}

theorem inv_G4 {md : Region.Mode} {ops : Array Oper} {R : Array Bool → Act → World → Prop} (Inv : (Nat → Bool) → Act → World → Prop) (hb : backwardB md ops = true) (ht : tailWaits3 md ops N = true) (hN : N ≤ ops.size)
    (step : ∀ (done : Nat → Bool) (a : Act) (w : World) (i : Nat) (o : Oper), i < N → done i = false → ops[i]? = some o → (∀ e ∈ o.after, Region.binds md e = true → done e.on = true) → Inv done a w → wpOp P ops Q i (fun a' w' => Inv (upd done i) a' w') a w)
    (hR : ∀ (listed : Array Bool) (a : Act) (w : World), listed.size = ops.size → (∀ j, listed.getD j false = decide (j < N)) → Inv (fun j => decide (j < N)) a w → R listed a w) :
    ∀ (f : Nat) (listed : Array Bool) (a : Act) (w : World), listed.size = ops.size → (∀ j, N ≤ j → listed.getD j false = false) → cnt (fun j => listed.getD j false) N = f → Closed md ops (fun j => listed.getD j false) → Inv (fun j => listed.getD j false) a w →
      wpAnyG P md ops Q (fun _ => True) N R f listed a w
  | 0, listed, a, w, hs, hf, hc, _, hi => by
    have hall := cnt_zero hc
    have hg : ∀ j, listed.getD j false = decide (j < N) := fun j => by
      by_cases h : j < N
      · rw [hall j h]; simp [h]
      · rw [hf j (by omega)]; simp [h]
    refine ⟨hall, hR listed a w hs hg ?_⟩
    rw [show (fun j => listed.getD j false) = (fun j => decide (j < N)) from funext hg] at hi
    exact hi
  | f + 1, listed, a, w, hs, hf, hc, hcl, hi => by
    obtain ⟨j, hj, hun, hbefore⟩ := cnt_first (g := fun j => listed.getD j false) (n := N) (by omega)
    have hjs : j < ops.size := by omega
    have hready : j ∈ Region.ready md ops listed := by
      refine mem_ready.2 ⟨?_, ops[j], Array.getElem?_eq_getElem hjs, fun e he heb => ?_⟩
      · have hun' : listed.getD j false = false := hun
        rw [Array.getD_eq_getD_getElem?] at hun' ⊢
        rw [Array.getElem?_eq_getElem (by omega)] at hun' ⊢
        exact hun'
      · have h1 := List.all_eq_true.1 hb j (List.mem_range.2 hjs)
        rw [Array.getElem?_eq_getElem hjs] at h1
        have h2 := (Array.all_eq_true_iff_forall_mem.1 h1) e he
        simp only [heb, Bool.not_true, Bool.false_or, decide_eq_true_eq] at h2
        exact hbefore _ h2
    refine ⟨fun h0 => (by rw [h0] at hready; cases hready), fun i hir => ?_⟩
    have hiN := head_of_ready3 ht hcl hj hun hir
    obtain ⟨hiun, o, ho, hall⟩ := mem_ready.1 hir
    have hiun' : listed.getD i false = false := getD_both hiun
    refine ⟨hiN, wpOp_mono (fun a' w' h' => ⟨trivial, ?_⟩) (step (fun j => listed.getD j false) a w i o hiN hiun' ho hall hi)⟩
    have hset : (fun j => (listed.setIfInBounds i true).getD j false) = upd (fun j => listed.getD j false) i := by
      funext k
      by_cases hk : i = k
      · subst hk
        have : i < (listed.setIfInBounds i true).size := by simp; omega
        rw [Array.getD_eq_getD_getElem?, Array.getElem?_eq_getElem this]
        simp [upd]
      · rw [getD_set_ne false hk]
        have : (k == i) = false := by rw [beq_eq_false_iff_ne]; omega
        simp [upd, this]
    refine inv_G4 Inv hb ht hN step hR f _ a' w' (by simpa using hs) (fun k hk => ?_) ?_ ?_ ?_
    · rw [getD_set_ne false (by omega)]; exact hf k hk
    · rw [hset]
      have := cnt_set (fun j => listed.getD j false) i hiun' N hiN
      omega
    · rw [hset]
      intro k ok hok hk e he hb
      have hk' : listed.getD k false = true ∨ k = i := by simpa [upd] using hk
      have : listed.getD e.on false = true := by
        rcases hk' with hk' | rfl
        · exact hcl k ok hok hk' e he hb
        · have : ok = o := Option.some.inj (hok.symm.trans ho)
          subst this
          exact hall e he hb
      simp [upd, this]
    · rw [hset]; exact h'

/-- the order is right for the rule: the first N, in whatever order, then the others as they stand -/
def drawOk4 (md : Region.Mode) (l : List Oper) (N : Nat) : Bool :=
  decide (N ≤ l.length) && backwardB md l.toArray && tailWaits3 md l.toArray N && (headDone N (List.replicate N true ++ List.replicate (l.length - N) false).toArray && Region.seqB md l.toArray (l.drop N).length N (List.replicate N true ++ List.replicate (l.length - N) false).toArray)

theorem region_inv4 {id : Nat} {l : List Oper} {a : Act} {w : World} (N : Nat) (Inv : (Nat → Bool) → Act → World → Prop) (hm : P.follows .mixedOrders = true) (hd : drawOk4 .any l N = true)
    (start : Inv (fun _ => false) a w.drew)
    (step : ∀ (done : Nat → Bool) (a : Act) (w : World) (i : Nat) (o : Oper), i < N → done i = false → l.toArray[i]? = some o → (∀ e ∈ o.after, Region.binds .any e = true → done e.on = true) → Inv done a w → wpOp P l.toArray Q i (fun a' w' => Inv (upd done i) a' w') a w)
    (tail : ∀ a w, Inv (fun j => decide (j < N)) a w → wpList P l.toArray Q (l.drop N) a w) : (Code.region id l.toArray true).wp P Q a w := by
  unfold drawOk4 at hd
  simp only [Bool.and_eq_true, decide_eq_true_eq] at hd
  obtain ⟨⟨⟨hN, hb⟩, ht⟩, hh, hseq⟩ := hd
  refine region_tail (fun _ => True) N hm (by simpa using hN) trivial (fun _ => ?_)
  refine inv_G4 Inv hb ht (by simpa using hN) step (fun listed a w hs hg hi => ?_) N _ a w.drew (by simp) (fun j _ => none_listed _ j) ?_ (fun i o _ hi => ?_) ?_
  · rw [listed_eq (n := l.length) (by simpa using hs) hN hg]
    have := wpAnyG_tail (P := P) (Q := Q) (S := fun _ => True) (a := a) (w := w) (by rw [Bool.and_eq_true]; exact ⟨hh, hseq⟩) (tail a w hi)
    exact this.2
  · have : (fun j => (Array.replicate l.toArray.size false).getD j false) = fun _ => false := by funext j; exact none_listed _ j
    rw [this]; exact cnt_none N
  · have hi' : (Array.replicate l.toArray.size false).getD i false = true := hi
    rw [none_listed] at hi'; cases hi'
  · have : (fun j => (Array.replicate l.toArray.size false).getD j false) = fun _ => false := by funext j; exact none_listed _ j
    rw [this]; exact start
end
end Go.Proofs.Ytcljkkojeleakaa
