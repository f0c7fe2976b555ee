/- The reference's Spans: what it answers is what the walk over the minutes answers. -/
import Derived.Test.YtcljkkojeleakaaBase
import Derived.Test.YtcljkkojeleakaaLine
import Derived.Test.YtcljkkojeleakaaHeight
import Derived.Test.YtcljkkojeleakaaChk
import Derived.Test.YtcljkkojeleakaaChk2
import Derived.Test.YtcljkkojeleakaaLower
import Derived.Test.YtcljkkojeleakaaGates
import Derived.Test.YtcljkkojeleakaaBegin
import Derived.Test.YtcljkkojeleakaaBegin2
import Derived.Test.YtcljkkojeleakaaSpans
import Derived.Test.YtcljkkojeleakaaState2
import Derived.Test.YtcljkkojeleakaaFits
import Derived.Test.YtcljkkojeleakaaOut1
import Derived.Test.YtcljkkojeleakaaAll
import Derived.Test.YtcljkkojeleakaaSpans2
import Derived.Test.YtcljkkojeleakaaTurn
import Derived.Test.YtcljkkojeleakaaOwn
import Derived.Test.YtcljkkojeleakaaFar
import Derived.Test.YtcljkkojeleakaaMade
import Derived.Test.YtcljkkojeleakaaHgtPure
import Derived.Test.YtcljkkojeleakaaHold
import Derived.Test.YtcljkkojeleakaaRef
import Derived.Test.YtcljkkojeleakaaRound
import Derived.Test.YtcljkkojeleakaaLonger
import Derived.Test.YtcljkkojeleakaaDup
import Derived.Test.YtcljkkojeleakaaLooks3
import Derived.Test.YtcljkkojeleakaaRefHgt
import Derived.WalkKit
import Derived.WalkSpells
import Derived.WalkLawsBesides
import Derived.Deep.QuietTactic
import Derived.BigQuiet
import Derived.Lib.Hide
import Derived.Shelf.Abstract
import Derived.BigGuardPart
import Derived.RangeFuncNested
import Derived.RangeFuncBound
import Derived.RangeFuncCalls
import Derived.RangeFuncLeaves
import Derived.Shelf.RegionOpen
import Derived.OwnWalkIn
import Derived.TacticsInMore
import Derived.LoopNIn
import Derived.LoopIn
import Derived.StillTailTactics
import Derived.Deep.RegionHeld3
import Derived.StillTail
import Derived.RangeFuncWrites
import Derived.Laws.StructEq
import Derived.Deep.LoopGhost
import Derived.IntWalk
import Derived.RangeFuncBox
import Derived.Laws.BitsAllLaws
import Derived.ArgAppend
import Derived.Laws.CopyOwn
import Derived.OwnWalk
import Derived.Lib.SliceRun
import Derived.Maps.OwnOps
import Derived.Maps.OwnSet
import Derived.Deep.AppendSrc
import Derived.Deep.Upon
import Derived.Deep.Cut
import Derived.Deep.DeepCutAuto
import Derived.Deep.CutRange
import Derived.Deep.CutBlock
/- Plain facts for the law TideShifted: sands whose table is lifted and whose wind is let down by as much; a row of pairs changed in its place; sands that Made makes are right; the law's own first, last and line. -/
namespace Go.Proofs.Ytcljkkojeleakaa
section
open Go.RowKit

theorem chk_zero {s : Sd} (h : Ok s) : chk s = 0 := by
  obtain ⟨⟨t1, t2, t3, t4⟩, f0, f1, sl, lo0, hi1, lohi, fl, hs, good, two⟩ := h
  have h1 : okCounts s = true := by
    simp only [okCounts, Bool.and_eq_true, inB_true, decide_eq_true_eq]
    omega
  have h2 : okNumbers s = true := by
    simp only [okNumbers, Bool.and_eq_true, inB_true, List.all_eq_true, okWater]
    exact ⟨⟨⟨⟨fun x hx => ⟨⟨(t1 x hx).1, (t1 x hx).2.1⟩, (t1 x hx).2.2.1, (t1 x hx).2.2.2⟩, by omega, by omega⟩, by omega, by omega⟩, fl⟩, hs⟩
  have h3 : okOrder s = true := by
    simp only [okOrder, Bool.and_eq_true, decide_eq_true_eq]
    refine ⟨?_, lohi⟩
    unfold ordB
    rw [List.all_eq_true]
    intro i hi
    rw [List.mem_range] at hi
    have := t2 i (by omega)
    simpa [List.getD, List.getElem?_eq_getElem (show i + 1 < s.table.length by omega), List.getElem?_eq_getElem (show i < s.table.length by omega)] using this
  have h4 : s.sills.all (okThings s.floors.length) = true := by
    rw [List.all_eq_true]
    intro x hx
    have := good x hx
    simp only [okThings, Bool.and_eq_true, Bool.or_eq_true, beq_iff_eq, inB_true]
    omega
  have h5 : s.sills.all (fun x => x.1 != x.2.1) = true := by
    rw [List.all_eq_true]
    intro x hx
    simpa using two x hx
  unfold chk
  rw [if_neg (by rw [h1]; decide), if_neg (by rw [h2]; decide), if_neg (by rw [h3]; decide), if_neg (by rw [h4]; decide), if_neg (by rw [h5]; decide)]

/-- a point of the line, lifted -/
def lift (d : Int) (x : Int × Int) : Int × Int := (x.1, x.2 + d)
theorem onL_lift (d m : Int) (a b : Int × Int) (h : a.1 < b.1) : onL (lift d a) (lift d b) m = onL a b m + d := by
  unfold onL lift
  dsimp only
  rw [show (a.2 + d) * (b.1 - a.1) + (b.2 + d - (a.2 + d)) * (m - a.1) = a.2 * (b.1 - a.1) + (b.2 - a.2) * (m - a.1) + d * (b.1 - a.1) by
    rw [Int.add_mul, show b.2 + d - (a.2 + d) = b.2 - a.2 by omega]; omega]
  rw [Int.add_mul_ediv_right _ _ (by omega)]
theorem hgtFrom_lift (d m : Int) : ∀ (r : List (Int × Int)) (a : Int × Int), (∀ i (h : i + 1 < (a :: r).length), (a :: r)[i].1 < (a :: r)[i + 1].1) → hgtFrom (lift d a) (r.map (lift d)) m = hgtFrom a r m + d
  | [], a, _ => rfl
  | b :: r, a, h => by
    have h0 := h 0 (by simp)
    have hr := hgtFrom_lift d m r b (fun i hi => h (i + 1) (by simp only [List.length_cons] at hi ⊢; omega))
    have h0' : a.1 < b.1 := h0
    show (if m ≤ b.1 then onL (lift d a) (lift d b) m else hgtFrom (lift d b) (r.map (lift d)) m) = (if m ≤ b.1 then onL a b m else hgtFrom b r m) + d
    split
    · exact onL_lift d m a b h0'
    · exact hr
theorem hgt_lift (d m : Int) (l : List (Int × Int)) (h : ∀ i (h : i + 1 < l.length), l[i].1 < l[i + 1].1) (hl : 1 ≤ l.length) : hgt (l.map (lift d)) m = hgt l m + d := by
  match l, h, hl with
  | a :: r, h, _ => exact hgtFrom_lift d m r a h

theorem fixG_eq {s t : Sd} (h : ∀ g, lowered s g = lowered t g) : ∀ n g, fixG s n g = fixG t n g
  | 0, g => rfl
  | n + 1, g => by unfold fixG; rw [h g, fixG_eq h n]
theorem gts_eq {s t : Sd} (h1 : s.floors = t.floors) (h2 : s.sills = t.sills) : gts s = gts t := by
  obtain ⟨l, lo, hi, f, x⟩ := s
  obtain ⟨l', lo', hi', f', x'⟩ := t
  dsimp only at h1 h2
  subst h1 h2
  unfold gts
  generalize (9000 : Nat) = n
  exact fixG_eq (s := ⟨l, lo, hi, f, x⟩) (t := ⟨l', lo', hi', f, x⟩) (fun g => rfl) n top

/-- the wind let down, and the table lifted, by as much -/
def shifted (d : Int) (s : Sd) : Sd := ⟨s.table.map (lift d), s.lo - d, s.hi - d, s.floors, s.sills⟩
section
variable {s : Sd} {d : Int}
theorem shifted_ok (h : Ok s) (d0 : 0 ≤ d) (hd : ∀ x ∈ s.table, x.2 + d ≤ 999) (hlo : -50 ≤ s.lo - d) : Ok (shifted d s) := by
  obtain ⟨⟨t1, t2, t3, t4⟩, f0, f1, sl, lo0, hi1, lohi, fl, hs, good, two⟩ := h
  have hlen : (shifted d s).table.length = s.table.length := List.length_map ..
  refine ⟨⟨fun x hx => ?_, fun i hi => ?_, by omega, by omega⟩, f0, f1, sl, hlo, ?_, ?_, fl, hs, good, two⟩
  · obtain ⟨y, hy, rfl⟩ := List.mem_map.1 hx
    have h1 := t1 y hy
    have h2 := hd y hy
    show 0 ≤ y.1 ∧ y.1 ≤ 1440 ∧ 0 ≤ y.2 + d ∧ y.2 + d ≤ 999
    omega
  · have := t2 i (by omega)
    simpa [shifted, lift] using this
  · show s.hi - d ≤ 50; omega
  · show s.lo - d ≤ s.hi - d; omega
theorem shifted_first : firstM (shifted d s).table = firstM s.table := by
  unfold firstM shifted
  dsimp only
  rw [List.getElem?_map]
  cases s.table[0]? <;> rfl
theorem shifted_last : lastM (shifted d s).table = lastM s.table := by
  unfold lastM shifted
  dsimp only
  rw [List.length_map, List.getElem?_map]
  cases s.table[s.table.length - 1]? <;> rfl
theorem shifted_inDay (m : Int) : inDay (shifted d s) m = inDay s m := by
  unfold inDay
  rw [shifted_first, shifted_last]
theorem shifted_hgt (h : Ok s) (m : Int) : hgt (shifted d s).table m = hgt s.table m + d := hgt_lift d m s.table h.table.2.1 (by have := h.table.2.2.1; omega)
theorem shifted_st (h : Ok s) (m : Int) (p : Nat) : st (shifted d s) m p = st s m p := by
  have e : gateOf (shifted d s) p = gateOf s p := by unfold gateOf; rw [gts_eq (s := shifted d s) (t := s) rfl rfl]
  unfold st
  rw [e, shifted_hgt h]
  have h1 : (shifted d s).lo = s.lo - d := rfl
  have h2 : (shifted d s).hi = s.hi - d := rfl
  rw [h1, h2, show hgt s.table m + d + (s.lo - d) = hgt s.table m + s.lo by omega, show hgt s.table m + d + (s.hi - d) = hgt s.table m + s.hi by omega]
theorem shifted_errAt (h : Ok s) (h' : Ok (shifted d s)) (m : Int) : errAt (shifted d s) m = errAt s m := by
  unfold errAt
  rw [chk_zero h, chk_zero h', shifted_inDay]
theorem shifted_errFor (h : Ok s) (h' : Ok (shifted d s)) (p : Int) : errFor (shifted d s) p = errFor s p := by
  unfold errFor
  rw [chk_zero h, chk_zero h']
  rfl
theorem shifted_allV (h : Ok s) (h' : Ok (shifted d s)) (m : Int) : allV (shifted d s) m = allV s m := by
  unfold allV
  rw [shifted_errAt h h']
  have : allS (shifted d s) m = allS s m := by
    unfold allS
    show (List.range s.floors.length).map _ = _
    exact List.map_congr_left (fun p _ => shifted_st h m p)
  rw [this]
theorem shifted_levelV (h : Ok s) (h' : Ok (shifted d s)) (m : Int) : levelV (shifted d s) m = levelV s m := by
  unfold levelV
  rw [shifted_errAt h h', shifted_hgt h]
  have h1 : (shifted d s).lo = s.lo - d := rfl
  have h2 : (shifted d s).hi = s.hi - d := rfl
  rw [h1, h2, show hgt s.table m + d + (s.lo - d) = hgt s.table m + s.lo by omega, show hgt s.table m + d + (s.hi - d) = hgt s.table m + s.hi by omega]
theorem shifted_drySpans (h : Ok s) (ps : List Int) : drySpans (shifted d s) ps = drySpans s ps := by
  have e : dryB (shifted d s) ps = dryB s ps := by
    funext m
    unfold dryB fitB
    simp only [shifted_st h]
  unfold drySpans dayN
  rw [e, shifted_first, shifted_last]
theorem shifted_turnV (h : Ok s) (h' : Ok (shifted d s)) (p m : Int) : turnV (shifted d s) p m = turnV s p m := by
  unfold turnV
  rw [shifted_errFor h h', shifted_inDay, shifted_drySpans h]
theorem shifted_errTurn (h : Ok s) (h' : Ok (shifted d s)) (p m : Int) : errTurn (shifted d s) p m = errTurn s p m := by
  unfold errTurn
  rw [shifted_errFor h h', shifted_inDay, shifted_drySpans h]
end
end

section
open Go.RowKit Go.Shelf

theorem five {w : World} {B : Nat} {a b c d e : Value} {T : TypeId} (h : Blk w B [a, b, c, d, e] T) :
    w.cell? ⟨B, 0, none⟩ = some a ∧ w.cell? ⟨B, 1, none⟩ = some b ∧ w.cell? ⟨B, 2, none⟩ = some c ∧ w.cell? ⟨B, 3, none⟩ = some d ∧ w.cell? ⟨B, 4, none⟩ = some e :=
  ⟨h.cell 0, h.cell 1, h.cell 2, h.cell 3, h.cell 4⟩
/-- the value of shifted sands -/
def shVal (d : Int) (s : Sd) (pT pF pS : Option Addr) (cT cF cS : Nat) : Value :=
  .agg #[.slice pT s.table.length cT, .int .i64 (s.lo - d), .int .i64 (s.hi - d), .slice pF s.floors.length cF, .slice pS s.sills.length cS]
section
variable {s : Sd} {d y : Int} {pT pF pS : Option Addr} {cT cF cS : Nat} {w : World}
theorem shVal_eq : sdVal (shifted d s) pT pF pS cT cF cS = shVal d s pT pF pS cT cF cS := by
  unfold sdVal shVal shifted
  dsimp only
  rw [List.length_map]
theorem errAt_in (ok : Ok s) (h : inDay s y = true) : errAt s y = 0 := by unfold errAt; rw [if_pos (chk_zero ok), h]; rfl
theorem levelV_in (ok : Ok s) (h : inDay s y = true) : levelV s y = (hgt s.table y + s.lo, hgt s.table y + s.hi) := by unfold levelV; rw [if_pos (errAt_in ok h)]
theorem sAll_c (ok : Ok s) (h : inDay s y = true) (hl : Lists w s pT pF pS cT cF cS) :
    Calls Try.prog 42 #[sdVal s pT pF pS cT cF cS, .int .i64 y] w fun e w' => ∃ p c, e = .returned (.tuple #[.slice p (allV s y).length c, .int .i64 0]) ∧ (allV s y).length ≤ c ∧ c ≤ maxLen ∧ Row w' p 1 (ints (allV s y)) ∧ Up w w' := by
  have := All_c s y w hl
  rw [errAt_in ok h] at this
  exact this
theorem shAll_c (ok : Ok s) (ok' : Ok (shifted d s)) (h : inDay s y = true) (hl : Lists w (shifted d s) pT pF pS cT cF cS) :
    Calls Try.prog 42 #[shVal d s pT pF pS cT cF cS, .int .i64 y] w fun e w' => ∃ p c, e = .returned (.tuple #[.slice p (allV s y).length c, .int .i64 0]) ∧ (allV s y).length ≤ c ∧ c ≤ maxLen ∧ Row w' p 1 (ints (allV s y)) ∧ Up w w' := by
  have := sAll_c ok' (by rw [shifted_inDay]; exact h) hl
  rw [shVal_eq, shifted_allV ok ok'] at this
  exact this
theorem sLevel_c (ok : Ok s) (h : inDay s y = true) (hl : Lists w s pT pF pS cT cF cS) :
    Calls Try.prog 26 #[sdVal s pT pF pS cT cF cS, .int .i64 y] w fun e w' => e = .returned (.tuple #[.agg #[.int .i64 (hgt s.table y + s.lo), .int .i64 (hgt s.table y + s.hi)], .int .i64 0]) ∧ Up w w' := by
  have := Level_c s y w hl
  rw [errAt_in ok h, levelV_in ok h] at this
  exact this
theorem shLevel_c (ok : Ok s) (ok' : Ok (shifted d s)) (h : inDay s y = true) (hl : Lists w (shifted d s) pT pF pS cT cF cS) :
    Calls Try.prog 26 #[shVal d s pT pF pS cT cF cS, .int .i64 y] w fun e w' => e = .returned (.tuple #[.agg #[.int .i64 (hgt s.table y + s.lo), .int .i64 (hgt s.table y + s.hi)], .int .i64 0]) ∧ Up w w' := by
  have := Level_c (shifted d s) y w hl
  rw [shVal_eq, shifted_errAt ok ok', errAt_in ok h, shifted_levelV ok ok', levelV_in ok h] at this
  exact this
theorem shTurn_c (ok : Ok s) (ok' : Ok (shifted d s)) (x : Int) (hl : Lists w (shifted d s) pT pF pS cT cF cS) :
    Calls Try.prog 63 #[shVal d s pT pF pS cT cF cS, .int .i64 x, .int .i64 y] w fun e w' => e = .returned (.tuple #[.int .i64 (turnV s x y), .int .i64 (errTurn s x y)]) ∧ Up w w' := by
  have := Turn_c (shifted d s) x y w hl
  rw [shVal_eq, shifted_turnV ok ok', shifted_errTurn ok ok'] at this
  exact this
theorem errTurn_or (ok : Ok s) (x : Int) (hx : 0 ≤ x ∧ x < s.floors.length) (h : inDay s y = true) : errTurn s x y = 0 ∨ errTurn s x y = 6 := by
  have h1 : errFor s x = 0 := by
    unfold errFor
    rw [if_pos (chk_zero ok)]
    have : isPl s x = true := inB_true.2 (by omega)
    rw [this]; rfl
  unfold errTurn
  rw [if_pos h1, if_pos h]
  split
  · exact Or.inl rfl
  · exact Or.inr rfl
end
end

section
open Go.RowKit Go.Shelf

theorem flat_set : ∀ (l : List (Int × Int)) (k : Nat) (v : Int) (h : k < l.length), (pairs l).flatten.set (k * 2 + 1) (.int .i64 v) = (pairs (l.set k (l[k].1, v))).flatten
  | a :: r, 0, v, _ => rfl
  | a :: r, k + 1, v, h => by
    have hk : k < r.length := by simpa using h
    have ih := flat_set r k v hk
    show (.int .i64 a.1 :: .int .i64 a.2 :: (pairs r).flatten).set ((k + 1) * 2 + 1) (.int .i64 v) = .int .i64 a.1 :: .int .i64 a.2 :: (pairs (r.set k (r[k].1, v))).flatten
    rw [show (k + 1) * 2 + 1 = k * 2 + 1 + 1 + 1 by omega, List.set_cons_succ, List.set_cons_succ, ih]

/-- the first k lifted -/
def partly (d : Int) (l : List (Int × Int)) (k : Nat) : List (Int × Int) := (l.take k).map (lift d) ++ l.drop k
theorem partly_zero (d : Int) (l : List (Int × Int)) : partly d l 0 = l := by simp [partly]
theorem partly_all (d : Int) (l : List (Int × Int)) : partly d l l.length = l.map (lift d) := by simp [partly]
theorem partly_len (d : Int) (l : List (Int × Int)) (k : Nat) : (partly d l k).length = l.length := by
  unfold partly
  rw [List.length_append, List.length_map, List.length_take, List.length_drop]
  omega
theorem partly_at (d : Int) (l : List (Int × Int)) (k : Nat) (h : k < l.length) : (partly d l k)[k]'(by rw [partly_len]; exact h) = l[k] := by
  unfold partly
  rw [List.getElem_append_right (by rw [List.length_map, List.length_take]; omega)]
  simp only [List.length_map, List.length_take, List.getElem_drop]
  congr 1
  omega
theorem partly_step (d : Int) (l : List (Int × Int)) (k : Nat) (h : k < l.length) : (partly d l k).set k (l[k].1, l[k].2 + d) = partly d l (k + 1) := by
  unfold partly
  have e : ((l.take k).map (lift d)).length = k := by rw [List.length_map, List.length_take]; omega
  rw [List.set_append_right _ _ (by omega), e, Nat.sub_self, List.drop_eq_getElem_cons h, List.set_cons_zero]
  rw [List.take_succ_eq_append_getElem h, List.map_append, List.append_assoc]
  rfl

/-- a block of pairs: what its first cells are -/
def PairBlk (w : World) (g : Nat) (l : List (Int × Int)) : Prop := ∃ cur : List Value, Blk w g cur 103 ∧ cur.take (l.length * 2) = (pairs l).flatten
section
variable {w : World} {g n₀ k c : Nat} {l : List (Int × Int)} {d : Int} {p : Option Addr}
theorem PairBlk.cells (h : PairBlk w g l) (hk : k < l.length) : w.cell? ⟨g, k * 2, none⟩ = some (.int .i64 l[k].1) ∧ w.cell? ⟨g, k * 2 + 1, none⟩ = some (.int .i64 l[k].2) := by
  obtain ⟨cur, hb, ht⟩ := h
  have hx : (pairs l)[k]? = some [.int .i64 l[k].1, .int .i64 l[k].2] := by simp [pairs, hk]
  have c0 := flat_at 2 (pairs l) (flatOk_pairs l) k _ hx 0 (.int .i64 l[k].1) rfl
  have c1 := flat_at 2 (pairs l) (flatOk_pairs l) k _ hx 1 (.int .i64 l[k].2) rfl
  rw [← ht, List.getElem?_take_of_lt (by omega)] at c0 c1
  rw [hb.cell, hb.cell]
  exact ⟨c0, c1⟩
theorem PairBlk.free (h : PairBlk w g l) (i : Nat) : w.frozen? ⟨g, i, none⟩ = false := by
  obtain ⟨cur, hb, -⟩ := h
  exact hb.free i
theorem PairBlk.lt (h : PairBlk w g l) : g < w.heap.size := by
  obtain ⟨cur, hb, -⟩ := h
  exact hb.lt
theorem PairBlk.row (h : PairBlk w g l) : Row w (some ⟨g, 0, none⟩) 2 (pairs l) := by
  intro i row hi
  have hl : i < l.length := by have := (List.getElem?_eq_some_iff.1 hi).1; simpa [pairs] using this
  obtain ⟨cur, hb, ht⟩ := h
  refine ⟨g, 0, rfl, fun j x hj => ?_⟩
  have hr := flat_at 2 (pairs l) (flatOk_pairs l) i row hi j x hj
  have hj2 : j < 2 := by
    have h1 : row.length = 2 := by simp only [pairs, List.getElem?_map, Option.map_eq_some_iff] at hi; obtain ⟨y, -, rfl⟩ := hi; rfl
    have := (List.getElem?_eq_some_iff.1 hj).1
    omega
  rw [← ht, List.getElem?_take_of_lt (by omega)] at hr
  rw [hb.cell, Nat.zero_add]
  exact hr
theorem PairBlk.lift (h : PairBlk w g (partly d l k)) (hk : k < l.length) : PairBlk (w.setCell ⟨g, k * 2 + 1, none⟩ (.int .i64 (l[k].2 + d))) g (partly d l (k + 1)) := by
  obtain ⟨cur, hb, ht⟩ := h
  refine ⟨_, hb.set _ _, ?_⟩
  have hm : k < (partly d l k).length := by rw [partly_len]; exact hk
  rw [partly_len] at ht ⊢
  have hs := flat_set (partly d l k) k (l[k].2 + d) hm
  rw [partly_at d l k hk, partly_step d l k hk] at hs
  rw [← hs, ← ht, List.take_set]
theorem PairBlk.of (h : w.ownsRow n₀ 103 2 (.slice p l.length c) l.length (pairs l).flatten) (hl : 0 < l.length) : ∃ g, p = some ⟨g, 0, none⟩ ∧ n₀ ≤ g ∧ PairBlk w g l := by
  rcases h.2 with ⟨-, h0⟩ | ⟨g, cap, cur, h1, h2, h3, h4, h5, h6, h7⟩
  · omega
  · injection h1 with e1 e2 e3
    exact ⟨g, e1, h2, cur.toList, h3, h7⟩
/-- rows of another type lie elsewhere -/
theorem PairBlk.ne {E : TypeId} {m n : Nat} {q : Option Addr} {xs : List Value} (h : PairBlk w g l) (h' : w.ownsRow n₀ E m (.slice q n c) n xs) (hE : E ≠ 103) : ∀ b off, q = some ⟨b, off, none⟩ → b ≠ g := by
  intro b off e hb
  obtain ⟨cur, hc, -⟩ := h
  rcases h'.2 with ⟨h1, -⟩ | ⟨g', cap, cur', h1, h2, h3, h4⟩
  · injection h1 with e1 e2 e3
    rw [e1] at e; cases e
  · injection h1 with e1 e2 e3
    rw [e1] at e
    simp only [Option.some.injEq, Addr.mk.injEq] at e
    have hg : g' = g := by omega
    rw [hg] at h3
    have h5 := h3.symm.trans hc
    simp only [Option.some.injEq, Obj.cells.injEq] at h5
    exact hE h5.2.1
end
end

section
open Go.RowKit

theorem IsMade.ok {places sills : Nat} {s : Sd} (h : IsMade places sills s) (hp : places ≤ 8) (hs : sills ≤ 16) : Ok s := by
  obtain ⟨⟨a, ta, tb, tc, td⟩, t2, t4, lo, hi, f1, fn, fl, sn, sl⟩ := h
  refine ⟨⟨fun x hx => ?_, tb, t2, by omega⟩, f1, by omega, by omega, by omega, by omega, by omega, fun x hx => ?_, fun x hx => ?_, fun x hx => ?_, fun x hx => ?_⟩
  · have := ta x hx; omega
  · have := fl x hx; omega
  · have := (sl x hx).2.2.2; omega
  · obtain ⟨h1, h2, -, -⟩ := sl x hx; omega
  · exact (sl x hx).2.2.1
theorem IsMade.shift {places sills : Nat} {s : Sd} {d : Int} (h : IsMade places sills s) (hp : places ≤ 8) (hs : sills ≤ 16) (d0 : 0 ≤ d) (d1 : d ≤ 40) : Ok (shifted d s) := by
  refine shifted_ok (h.ok hp hs) d0 (fun x hx => ?_) (by have := h.lo; omega)
  obtain ⟨a, ta, -⟩ := h.table
  have := ta x hx; omega
end

section
open Go.RowKit Go.Shelf

section
variable {pT pF pS : Option Addr} {cT cF cS : Nat}
set_option maxRecDepth 100000 in
theorem firstL_c (s : Sd) (w : World) (hl : Lists w s pT pF pS cT cF cS) (h2 : 2 ≤ s.table.length) : Calls Try.prog 55 #[sdVal s pT pF pS cT cF cS] w fun e w' => e = .returned (.int .i64 (firstM s.table)) ∧ Up w w' := by
  obtain ⟨b, off, rfl, c0, -⟩ := hl.rt.pair 0 (by omega)
  have hb2 := cell_lt c0
  simp only [Nat.zero_mul, Nat.add_zero] at c0
  have E := Lib.hid (show firstM s.table = (s.table[0]'(by omega)).1 by simp [firstM, List.getElem?_eq_getElem (show 0 < s.table.length by omega)])
  have k : (0 : Int) < s.table.length := by omega
  clear hl
  unfold sdVal
  go_enter Try.func55, Try.ntmps55
  go_wp2
  go_ret
  exact ⟨ret_int E.out.symm, by (repeat (first | exact Below.refl _ _ | (with_reducible refine Below.drewN' ?_ _) | (with_reducible refine Below.drew ?_) | (with_reducible refine Below.setCell ?_ (by first | exact Nat.le_refl _ | omega | (with_reducible (repeat (first | refine sz_alloc ?_ | refine sz_setCell ?_ | refine sz_drew ?_ | refine sz_drewN ?_)); first | exact Nat.le_refl _ | omega) | (simp only [World.size_alloc, World.size_setCell, World.size_drew, size_drewN']; omega)) _) | (with_reducible refine Below.alloc ?_ (by first | exact Nat.le_refl _ | omega | (with_reducible (repeat (first | refine sz_alloc ?_ | refine sz_setCell ?_ | refine sz_drew ?_ | refine sz_drewN ?_)); first | exact Nat.le_refl _ | omega) | (simp only [World.size_alloc, World.size_setCell, World.size_drew, size_drewN']; omega)) _) | assumption))⟩

set_option maxRecDepth 100000 in
theorem lastL_c (s : Sd) (w : World) (hl : Lists w s pT pF pS cT cF cS) (h2 : 2 ≤ s.table.length) (h12 : s.table.length ≤ 12) : Calls Try.prog 56 #[sdVal s pT pF pS cT cF cS] w fun e w' => e = .returned (.int .i64 (lastM s.table)) ∧ Up w w' := by
  obtain ⟨b, off, rfl, c0, -⟩ := hl.rt.pair (s.table.length - 1) (by omega)
  have hb2 := cell_lt c0
  have E := Lib.hid (show lastM s.table = (s.table[s.table.length - 1]'(by omega)).1 by simp [lastM, List.getElem?_eq_getElem (show s.table.length - 1 < s.table.length by omega)])
  have k : (0 : Int) < s.table.length := by omega
  have k1 : ((s.table.length : Int) - 1) < s.table.length := by omega
  have k2 : (0 : Int) ≤ ((s.table.length : Int) - 1) := by omega
  have k3 : ((s.table.length : Int) - 1).toNat = s.table.length - 1 := by omega
  have s1 : IntKind.i64.wrap ((s.table.length : Int) - 1) = (s.table.length : Int) - 1 := IntWalk.i64_in _ (by omega)
  clear hl
  unfold sdVal
  go_enter Try.func56, Try.ntmps56
  go_wp2
  go_ret
  exact ⟨ret_int E.out.symm, by (repeat (first | exact Below.refl _ _ | (with_reducible refine Below.drewN' ?_ _) | (with_reducible refine Below.drew ?_) | (with_reducible refine Below.setCell ?_ (by first | exact Nat.le_refl _ | omega | (with_reducible (repeat (first | refine sz_alloc ?_ | refine sz_setCell ?_ | refine sz_drew ?_ | refine sz_drewN ?_)); first | exact Nat.le_refl _ | omega) | (simp only [World.size_alloc, World.size_setCell, World.size_drew, size_drewN']; omega)) _) | (with_reducible refine Below.alloc ?_ (by first | exact Nat.le_refl _ | omega | (with_reducible (repeat (first | refine sz_alloc ?_ | refine sz_setCell ?_ | refine sz_drew ?_ | refine sz_drewN ?_)); first | exact Nat.le_refl _ | omega) | (simp only [World.size_alloc, World.size_setCell, World.size_drew, size_drewN']; omega)) _) | assumption))⟩

/-- how the law rounds down -/
theorem round_down (a b : Int × Int) (m : Int) (h : a.1 < b.1) : (a.2 * (b.1 - a.1) + (b.2 - a.2) * (m - a.1) + 1000 * (b.1 - a.1)) / (b.1 - a.1) - 1000 = onL a b m := by
  unfold onL
  rw [Int.add_mul_ediv_right _ _ (by omega)]
  omega

set_option maxRecDepth 100000 in
set_option maxHeartbeats 1000000 in
theorem line_c (s : Sd) (m : Int) (w : World) (hl : Lists w s pT pF pS cT cF cS) (ok : okTable s.table) (hd : inDay s m = true) : Calls Try.prog 62 #[sdVal s pT pF pS cT cF cS, .int .i64 m] w fun e w' => e = .returned (.int .i64 (hgt s.table m)) ∧ Up w w' := by
  have HOK := Lib.hid ok
  obtain ⟨okx, oki, hl2, hl12⟩ := ok
  obtain ⟨d1, d2⟩ := inB_true.1 (show inB m (firstM s.table) (lastM s.table) = true from hd)
  have e1 : firstM s.table = (s.table[0]'(by omega)).1 := by simp [firstM, List.getElem?_eq_getElem (show 0 < s.table.length by omega)]
  have e2 : lastM s.table = (s.table[s.table.length - 1]'(by omega)).1 := by simp [lastM, List.getElem?_eq_getElem (show s.table.length - 1 < s.table.length by omega)]
  rw [e1] at d1
  rw [e2] at d2
  have hr := hl.rt
  have hc := hl.ct
  clear hl e1 e2 hd
  obtain ⟨l, lo, hi, fl, sl⟩ := s
  dsimp only at *
  have hl2' : 2 ≤ l.length := hl2
  have hl12' : l.length ≤ 12 := hl12
  obtain ⟨b, off, rfl, hc0, -⟩ := hr.pair 0 (by omega)
  have hbl := cell_lt hc0
  have kl : (0 : Int) < l.length := by omega
  clear hc0
  unfold sdVal
  go_enter Try.func62, Try.ntmps62
  go_wp2
  go_loopw [12] (fun i wr => ∃ k : Nat, k ≤ l.length ∧ i = .int .i64 k ∧ Up w wr ∧ Blk wr w.heap.size [.slice (some ⟨b, off, none⟩) l.length cT, .int .i64 lo, .int .i64 hi, .slice pF fl.length cF, .slice pS sl.length cS] 28 ∧ ∀ j (hj : j < l.length), j < k → l[j].1 < m) (fun i _ => l.length - (intOf i).toNat)
  case atStart => exact ⟨0, by omega, rfl, by (repeat (first | exact Below.refl _ _ | (with_reducible refine Below.drewN' ?_ _) | (with_reducible refine Below.drew ?_) | (with_reducible refine Below.setCell ?_ (by first | exact Nat.le_refl _ | omega | (with_reducible (repeat (first | refine sz_alloc ?_ | refine sz_setCell ?_ | refine sz_drew ?_ | refine sz_drewN ?_)); first | exact Nat.le_refl _ | omega) | (simp only [World.size_alloc, World.size_setCell, World.size_drew, size_drewN']; omega)) _) | (with_reducible refine Below.alloc ?_ (by first | exact Nat.le_refl _ | omega | (with_reducible (repeat (first | refine sz_alloc ?_ | refine sz_setCell ?_ | refine sz_drew ?_ | refine sz_drewN ?_)); first | exact Nat.le_refl _ | omega) | (simp only [World.size_alloc, World.size_setCell, World.size_drew, size_drewN']; omega)) _) | assumption)), Blk.new _ _ _, fun j _ h => by omega⟩
  case round =>
    obtain ⟨k, hk, rfl, hu, hB, hlow⟩ := hrel
    have HU := Lib.hid hu
    have HBk := Lib.hid hB
    have HLow := Lib.hid hlow
    have B0 := hB.cell 0
    have BL := hB.lt
    simp only [List.getElem?_cons_zero] at B0
    clear hu hB
    by_cases hlt : k < l.length
    · obtain ⟨b', off', e, hd0, hd1⟩ := hr.pair k hlt
      obtain ⟨rfl, rfl⟩ : b = b' ∧ off = off' := by simpa using e
      clear e
      have hd0' := HU.out.cellAt hd0
      have hd1' := HU.out.cellAt hd1
      have q1 : (k : Int) < l.length := by omega
      obtain ⟨x1, x2, x3, x4⟩ := okx l[k] (List.getElem_mem _)
      by_cases hm : l[k].1 = m
      · have HE : Hid (hgt l m = l[k].2) := Lib.hid (by rw [← hm]; exact hgt_knot HOK.out k hlt)
        go_wp2
        go_ret
        refine ⟨ret_int ?_, ?_⟩
        · rw [HE.out]
        · exact Up.trans HU.out (by (repeat (first | exact Below.refl _ _ | (with_reducible refine Below.drewN' ?_ _) | (with_reducible refine Below.drew ?_) | (with_reducible refine Below.setCell ?_ (by first | exact Nat.le_refl _ | omega | (with_reducible (repeat (first | refine sz_alloc ?_ | refine sz_setCell ?_ | refine sz_drew ?_ | refine sz_drewN ?_)); first | exact Nat.le_refl _ | omega) | (simp only [World.size_alloc, World.size_setCell, World.size_drew, size_drewN']; omega)) _) | (with_reducible refine Below.alloc ?_ (by first | exact Nat.le_refl _ | omega | (with_reducible (repeat (first | refine sz_alloc ?_ | refine sz_setCell ?_ | refine sz_drew ?_ | refine sz_drewN ?_)); first | exact Nat.le_refl _ | omega) | (simp only [World.size_alloc, World.size_setCell, World.size_drew, size_drewN']; omega)) _) | assumption)))
      · by_cases hg : m < l[k].1
        · have hk0 : 0 < k := by
            rcases Nat.eq_zero_or_pos k with h0 | h0
            · subst h0; omega
            · exact h0
          obtain ⟨i, rfl⟩ : ∃ i, k = i + 1 := ⟨k - 1, by omega⟩
          obtain ⟨b'', off'', e, ha0, ha1⟩ := hr.pair i (by omega)
          obtain ⟨rfl, rfl⟩ : b = b'' ∧ off = off'' := by simpa using e
          clear e
          have ha0' := HU.out.cellAt ha0
          have ha1' := HU.out.cellAt ha1
          obtain ⟨y1, y2, y3, y4⟩ := okx (l[i]'(by omega)) (List.getElem_mem _)
          have hlow' := hlow i (by omega) (by omega)
          have hlk := oki i hlt
          have HE : Hid (hgt l m = onL (l[i]'(by omega)) l[i + 1] m) := Lib.hid (hgt_seg l m i hlt (fun j hj _ h => hlow j hj (by omega)) (by omega))
          have k1 := mul_rng (l[i + 1].1 - (l[i]'(by omega)).1) (l[i]'(by omega)).2 1440 999 (by omega) (by omega) (by omega) (by omega) (by omega)
          have k2 := mul_rng (m - (l[i]'(by omega)).1) (l[i + 1].2 - (l[i]'(by omega)).2) 1440 999 (by omega) (by omega) (by omega) (by omega) (by omega)
          have k3 := onL_nonneg (l[i]'(by omega)).1 (l[i]'(by omega)).2 l[i + 1].1 l[i + 1].2 m hlk (by omega) (by omega) y3 x3
          have kr := round_down (l[i]'(by omega)) l[i + 1] m hlk
          generalize (l[i]'(by omega)).1 = m0 at *
          generalize (l[i]'(by omega)).2 = h0 at *
          generalize l[i + 1].1 = m1 at *
          generalize l[i + 1].2 = h1 at *
          obtain ⟨k4, k5⟩ := k1
          obtain ⟨k6, k7⟩ := k2
          have k8 : 0 ≤ (h0 * (m1 - m0) + (h1 - h0) * (m - m0) + 1000 * (m1 - m0)) / (m1 - m0) := Int.ediv_nonneg (by omega) (by omega)
          have k9 : (h0 * (m1 - m0) + (h1 - h0) * (m - m0) + 1000 * (m1 - m0)) / (m1 - m0) ≤ 9223372036854775807 := by
            have := Int.ediv_le_self (m1 - m0) (show 0 ≤ h0 * (m1 - m0) + (h1 - h0) * (m - m0) + 1000 * (m1 - m0) by omega)
            omega
          have s1 : IntKind.i64.wrap (((i + 1 : Nat) : Int) - 1) = (i : Int) := by rw [show ((i + 1 : Nat) : Int) - 1 = (i : Int) by omega]; exact IntWalk.i64_in _ (by omega)
          have q2 : (i : Int) < l.length := by omega
          have KR := Lib.hid (kr.trans HE.out.symm)
          have hbr := cell_lt ha0'
          clear hd0 hd1 ha0 ha1 hlow kr HE okx oki d1 d2
          go_wp2
          go_ret
          exact ⟨ret_int KR.out, Up.trans HU.out (by (repeat (first | exact Below.refl _ _ | (with_reducible refine Below.drewN' ?_ _) | (with_reducible refine Below.drew ?_) | (with_reducible refine Below.setCell ?_ (by first | exact Nat.le_refl _ | omega | (with_reducible (repeat (first | refine sz_alloc ?_ | refine sz_setCell ?_ | refine sz_drew ?_ | refine sz_drewN ?_)); first | exact Nat.le_refl _ | omega) | (simp only [World.size_alloc, World.size_setCell, World.size_drew, size_drewN']; omega)) _) | (with_reducible refine Below.alloc ?_ (by first | exact Nat.le_refl _ | omega | (with_reducible (repeat (first | refine sz_alloc ?_ | refine sz_setCell ?_ | refine sz_drew ?_ | refine sz_drewN ?_)); first | exact Nat.le_refl _ | omega) | (simp only [World.size_alloc, World.size_setCell, World.size_drew, size_drewN']; omega)) _) | assumption)))⟩
        · go_wp2
          go_roundw
          case rel =>
            refine ⟨k + 1, by omega, by go_num, Up.trans HU.out (by (repeat (first | exact Below.refl _ _ | (with_reducible refine Below.drewN' ?_ _) | (with_reducible refine Below.drew ?_) | (with_reducible refine Below.setCell ?_ (by first | exact Nat.le_refl _ | omega | (with_reducible (repeat (first | refine sz_alloc ?_ | refine sz_setCell ?_ | refine sz_drew ?_ | refine sz_drewN ?_)); first | exact Nat.le_refl _ | omega) | (simp only [World.size_alloc, World.size_setCell, World.size_drew, size_drewN']; omega)) _) | (with_reducible refine Below.alloc ?_ (by first | exact Nat.le_refl _ | omega | (with_reducible (repeat (first | refine sz_alloc ?_ | refine sz_setCell ?_ | refine sz_drew ?_ | refine sz_drewN ?_)); first | exact Nat.le_refl _ | omega) | (simp only [World.size_alloc, World.size_setCell, World.size_drew, size_drewN']; omega)) _) | assumption))), HBk.out.alloc _, fun j hj h => ?_⟩
            rcases Nat.lt_or_ge j k with h1 | h1
            · exact HLow.out j hj h1
            · obtain rfl : j = k := by omega
              omega
          case measure => simp [intOf]; omega
    · exfalso
      have := hlow (l.length - 1) (by omega) (by omega)
      omega
end
end
end Go.Proofs.Ytcljkkojeleakaa
/- Plain facts: the lowering of gates as a row of updates; gates of raised sands, and of sands with one sill more. -/
namespace Go.Proofs.Ytcljkkojeleakaa
section
open Go.RowKit

/-- what a sill lowers that leads on from a place: which gate, and to what at most -/
def up1 (F : List Int) (f : Int) (x : Int × Int × Int) : Option (Nat × Int) :=
  if 0 ≤ other x f ∧ (other x f).toNat < F.length then some ((other x f).toNat, grt [x.2.2, F[(other x f).toNat]?.getD 0]) else none
def ap1 (g : List Int) (u : Nat × Int) : List Int := g.set u.1 (min (g[u.1]?.getD 0) u.2)
def ap2 (f : Nat) (g : List Int) (u : Nat × Int) : List Int := g.set u.1 (min (g[u.1]?.getD 0) (grt [g[f]?.getD 0, u.2]))

/-- a lead as an update -/
def ofLead (s : Sd) (x : Lead s.sills.length s.floors.length) : Nat × Int := (x.1.2, grt [(s.sills[x.1.1]'x.2.1).2.2, s.floors[x.1.2]'x.2.2])
theorem lead1_up (s : Sd) (f : Int) (i : Nat) : (lead1 s.sills s.floors.length f i).map (ofLead s) = if i < s.sills.length then up1 s.floors f (s.sills[i]?.getD (0, 0, 0)) else none := by
  unfold lead1 up1
  by_cases hi : i < s.sills.length
  · rw [if_pos hi]
    have e : s.sills[i] = s.sills[i]?.getD (0, 0, 0) := by rw [List.getElem?_eq_getElem hi]; rfl
    by_cases h : 0 ≤ other (s.sills[i]?.getD (0, 0, 0)) f ∧ (other (s.sills[i]?.getD (0, 0, 0)) f).toNat < s.floors.length
    · rw [dif_pos ⟨hi, h⟩, if_pos h]
      simp only [Option.map_some, ofLead]
      rw [e, List.getElem?_eq_getElem h.2, Option.getD_some]
    · rw [dif_neg (fun h' => h h'.2), if_neg h]; rfl
  · rw [if_neg hi, dif_neg (fun h' => hi h'.1)]; rfl
theorem fm_congr {α β : Type} {l : List α} {f g : α → Option β} (h : ∀ x ∈ l, f x = g x) : l.filterMap f = l.filterMap g := by
  induction l with
  | nil => rfl
  | cons a r ih => rw [List.filterMap_cons, List.filterMap_cons, h a (by simp), ih (fun x hx => h x (by simp [hx]))]
theorem filterMap_range {α β : Type} (l : List α) (d : α) (q : α → Option β) : (List.range l.length).filterMap (fun i => if i < l.length then q (l[i]?.getD d) else none) = l.filterMap q := by
  have e : l = (List.range l.length).map (fun i => l[i]?.getD d) := by
    apply List.ext_getElem
    · simp
    · intro i h1 h2; simp [List.getElem?_eq_getElem h1]
  conv => rhs; rw [e]
  rw [List.filterMap_map]
  apply fm_congr
  intro i hi
  rw [List.mem_range] at hi
  simp [hi]
theorem leads_up (s : Sd) (f : Int) : (leads s.sills s.floors.length f s.sills.length).map (ofLead s) = s.sills.filterMap (up1 s.floors f) := by
  unfold leads
  rw [List.map_filterMap, ← filterMap_range s.sills (0, 0, 0)]
  apply fm_congr
  intro i _
  exact lead1_up s f i
theorem lowSea_up (s : Sd) (g : List Int) : lowSea s g = (s.sills.filterMap (up1 s.floors (-1))).foldl ap1 g := by
  unfold lowSea
  rw [← leads_up, List.foldl_map]
  rfl
theorem lowFrom_up (s : Sd) (f : Nat) (g : List Int) : lowFrom s g f = (s.sills.filterMap (up1 s.floors f)).foldl (ap2 f) g := by
  unfold lowFrom
  rw [← leads_up, List.foldl_map]
  rfl

theorem grt2 (a b : Int) : grt [a, b] = max (max 0 a) b := rfl

/-- gates that are as low, or lower -/
def Leq (g g' : List Int) : Prop := g.length = g'.length ∧ ∀ i : Nat, g[i]?.getD 0 ≤ g'[i]?.getD 0 ∧ (g[i]?.getD 0 < 1050 → g'[i]?.getD 0 < 1050)
theorem Leq.refl (g : List Int) : Leq g g := ⟨rfl, fun _ => ⟨Int.le_refl _, id⟩⟩
theorem Leq.set {a b : List Int} (h : Leq a b) (t : Nat) {c d : Int} (hc : c ≤ d) (hd : c < 1050 → d < 1050) : Leq (a.set t (min (a[t]?.getD 0) c)) (b.set t (min (b[t]?.getD 0) d)) := by
  refine ⟨by simp [h.1], fun i => ?_⟩
  have h1 := h.2 i
  have h0 := h.1
  rw [List.getElem?_set, List.getElem?_set]
  by_cases hi : t = i
  · subst hi
    by_cases hl : t < a.length
    · have hl' : t < b.length := by omega
      simp only [if_true, hl, hl', Option.getD_some]
      omega
    · have hl' : ¬ t < b.length := by omega
      simp [hl, hl']
  · rw [if_neg hi, if_neg hi]; exact h1

/-- sills of which some are higher, and floors -/
inductive HiS : List (Int × Int × Int) → List (Int × Int × Int) → Prop
  | nil : HiS [] []
  | cons {a b h h' : Int} {r r' : List (Int × Int × Int)} : h ≤ h' → h' ≤ 999 → HiS r r' → HiS ((a, b, h) :: r) ((a, b, h') :: r')
def HiF (F F' : List Int) : Prop := F.length = F'.length ∧ ∀ i : Nat, F[i]?.getD 0 ≤ F'[i]?.getD 0 ∧ F'[i]?.getD 0 ≤ 999
theorem HiS.refl : ∀ {l : List (Int × Int × Int)}, (∀ x ∈ l, x.2.2 ≤ 999) → HiS l l
  | [], _ => .nil
  | (a, b, h) :: r, k => .cons (Int.le_refl _) (k (a, b, h) (by simp)) (HiS.refl (fun x hx => k x (by simp [hx])))
theorem HiS.at : ∀ {l : List (Int × Int × Int)} (i : Nat) (d : Int) (hi : i < l.length), 0 ≤ d → (∀ x ∈ l, x.2.2 ≤ 999) → l[i].2.2 + d ≤ 999 → HiS l (l.set i (l[i].1, l[i].2.1, l[i].2.2 + d))
  | (a, b, h) :: r, 0, d, _, h0, k, k9 => .cons (show h ≤ h + d by omega) k9 (HiS.refl (fun x hx => k x (by simp [hx])))
  | (a, b, h) :: r, i + 1, d, hi, h0, k, k9 => by
    have hi' : i < r.length := by simpa using hi
    exact .cons (Int.le_refl _) (k (a, b, h) (by simp)) (HiS.at i d hi' h0 (fun x hx => k x (by simp [hx])) (by simpa using k9))
theorem HiF.refl {F : List Int} (h : ∀ x ∈ F, x ≤ 999) : HiF F F := ⟨rfl, fun i => ⟨Int.le_refl _, by
  by_cases hi : i < F.length
  · rw [List.getElem?_eq_getElem hi]; exact h _ (List.getElem_mem _)
  · rw [List.getElem?_eq_none (by omega)]; decide⟩⟩
theorem HiF.at {F : List Int} (i : Nat) (d : Int) (hi : i < F.length) (d0 : 0 ≤ d) (h : ∀ x ∈ F, x ≤ 999) (h9 : F[i] + d ≤ 999) : HiF F (F.set i (F[i] + d)) := by
  refine ⟨by simp, fun j => ?_⟩
  have k := (HiF.refl h).2 j
  rw [List.getElem?_set]
  by_cases hj : i = j
  · subst hj
    rw [if_pos rfl, if_pos hi, List.getElem?_eq_getElem hi]
    simp only [Option.getD_some]
    omega
  · rw [if_neg hj]; exact k

theorem hi_ap1 {F F' : List Int} (hF : HiF F F') (f : Int) {l l' : List (Int × Int × Int)} (hS : HiS l l') : ∀ {g g' : List Int}, Leq g g' → Leq ((l.filterMap (up1 F f)).foldl ap1 g) ((l'.filterMap (up1 F' f)).foldl ap1 g') := by
  induction hS with
  | nil => exact fun h => h
  | @cons a b h h' r r' hh h9 _ ih =>
    intro g g' hg
    have eo : other (a, b, h') f = other (a, b, h) f := rfl
    by_cases hc : 0 ≤ other (a, b, h) f ∧ (other (a, b, h) f).toNat < F.length
    · have e1 : up1 F f (a, b, h) = some ((other (a, b, h) f).toNat, grt [h, F[(other (a, b, h) f).toNat]?.getD 0]) := if_pos hc
      have e2 : up1 F' f (a, b, h') = some ((other (a, b, h) f).toNat, grt [h', F'[(other (a, b, h) f).toNat]?.getD 0]) := if_pos (by rw [← hF.1]; exact hc)
      rw [List.filterMap_cons_some e1, List.filterMap_cons_some e2, List.foldl_cons, List.foldl_cons]
      refine ih (hg.set _ ?_ ?_)
      · have := hF.2 (other (a, b, h) f).toNat
        simp only [grt2]; omega
      · have := hF.2 (other (a, b, h) f).toNat
        simp only [grt2]; omega
    · have e1 : up1 F f (a, b, h) = none := if_neg hc
      have e2 : up1 F' f (a, b, h') = none := if_neg (by rw [← hF.1]; exact hc)
      rw [List.filterMap_cons_none e1, List.filterMap_cons_none e2]
      exact ih hg
theorem hi_ap2 {F F' : List Int} (hF : HiF F F') (f : Nat) {l l' : List (Int × Int × Int)} (hS : HiS l l') : ∀ {g g' : List Int}, Leq g g' → Leq ((l.filterMap (up1 F f)).foldl (ap2 f) g) ((l'.filterMap (up1 F' f)).foldl (ap2 f) g') := by
  induction hS with
  | nil => exact fun h => h
  | @cons a b h h' r r' hh h9 _ ih =>
    intro g g' hg
    have eo : other (a, b, h') f = other (a, b, h) f := rfl
    by_cases hc : 0 ≤ other (a, b, h) f ∧ (other (a, b, h) f).toNat < F.length
    · have e1 : up1 F f (a, b, h) = some ((other (a, b, h) f).toNat, grt [h, F[(other (a, b, h) f).toNat]?.getD 0]) := if_pos hc
      have e2 : up1 F' f (a, b, h') = some ((other (a, b, h) f).toNat, grt [h', F'[(other (a, b, h) f).toNat]?.getD 0]) := if_pos (by rw [← hF.1]; exact hc)
      rw [List.filterMap_cons_some e1, List.filterMap_cons_some e2, List.foldl_cons, List.foldl_cons]
      have h1 := hF.2 (other (a, b, h) f).toNat
      have h2 := hg.2 f
      refine ih (hg.set _ ?_ ?_)
      · simp only [grt2]; omega
      · simp only [grt2]; omega
    · have e1 : up1 F f (a, b, h) = none := if_neg hc
      have e2 : up1 F' f (a, b, h') = none := if_neg (by rw [← hF.1]; exact hc)
      rw [List.filterMap_cons_none e1, List.filterMap_cons_none e2]
      exact ih hg
theorem hi_lowered {s t : Sd} (hF : HiF s.floors t.floors) (hS : HiS s.sills t.sills) {g g' : List Int} (hg : Leq g g') : Leq (lowered s g) (lowered t g') := by
  unfold lowered
  rw [← hF.1]
  have h0 : Leq (lowSea s g) (lowSea t g') := by rw [lowSea_up, lowSea_up]; exact hi_ap1 hF _ hS hg
  generalize lowSea s g = a at *
  generalize lowSea t g' = b at *
  generalize List.range s.floors.length = l
  induction l generalizing a b with
  | nil => exact h0
  | cons x r ih =>
    refine ih _ _ ?_
    rw [lowFrom_up, lowFrom_up]
    exact hi_ap2 hF _ hS h0

/-- lowered so many times -/
def iterG (s : Sd) : Nat → List Int → List Int
  | 0, g => g
  | n + 1, g => iterG s n (lowered s g)
theorem iterG_fix {s : Sd} {g : List Int} (h : lowered s g = g) : ∀ n, iterG s n g = g
  | 0 => rfl
  | n + 1 => by unfold iterG; rw [h]; exact iterG_fix h n
theorem fixG_iter (s : Sd) : ∀ n g, fixG s n g = iterG s n g
  | 0, g => rfl
  | n + 1, g => by
    unfold fixG
    split
    · next h => exact (iterG_fix h (n + 1)).symm
    · exact fixG_iter s n _
theorem hi_iter {s t : Sd} (hF : HiF s.floors t.floors) (hS : HiS s.sills t.sills) : ∀ n {g g' : List Int}, Leq g g' → Leq (iterG s n g) (iterG t n g')
  | 0, _, _, h => h
  | n + 1, _, _, h => hi_iter hF hS n (hi_lowered hF hS h)
theorem hi_gts {s t : Sd} (hF : HiF s.floors t.floors) (hS : HiS s.sills t.sills) : Leq (gts s) (gts t) := by
  unfold gts
  rw [fixG_iter, fixG_iter]
  exact hi_iter hF hS _ (Leq.refl _)

/-- with one sill more -/
def Geq (g g' : List Int) : Prop := g.length = g'.length ∧ ∀ i : Nat, g'[i]?.getD 0 ≤ g[i]?.getD 0
theorem Geq.set {a b : List Int} (h : Geq a b) (t : Nat) {c d : Int} (hc : d ≤ c) : Geq (a.set t (min (a[t]?.getD 0) c)) (b.set t (min (b[t]?.getD 0) d)) := by
  refine ⟨by simp [h.1], fun i => ?_⟩
  have h1 := h.2 i
  have h0 := h.1
  rw [List.getElem?_set, List.getElem?_set]
  by_cases hi : t = i
  · subst hi
    by_cases hl : t < a.length
    · have hl' : t < b.length := by omega
      simp only [if_true, hl, hl', Option.getD_some]
      omega
    · have hl' : ¬ t < b.length := by omega
      simp [hl, hl']
  · rw [if_neg hi, if_neg hi]; exact h1
theorem Geq.right {a b : List Int} (h : Geq a b) (t : Nat) (d : Int) : Geq a (b.set t (min (b[t]?.getD 0) d)) := by
  refine ⟨by simp [h.1], fun i => ?_⟩
  have h1 := h.2 i
  rw [List.getElem?_set]
  by_cases hi : t = i
  · subst hi
    by_cases hl : t < b.length
    · simp only [if_true, hl, Option.getD_some]
      omega
    · have hl' : ¬ t < a.length := by have := h.1; omega
      simp [hl, hl']
  · rw [if_neg hi]; exact h1
theorem more_ap1 (F : List Int) (f : Int) (l e : List (Int × Int × Int)) {g g' : List Int} (hg : Geq g g') : Geq ((l.filterMap (up1 F f)).foldl ap1 g) (((l ++ e).filterMap (up1 F f)).foldl ap1 g') := by
  rw [List.filterMap_append, List.foldl_append]
  have h0 : Geq ((l.filterMap (up1 F f)).foldl ap1 g) ((l.filterMap (up1 F f)).foldl ap1 g') := by
    generalize l.filterMap (up1 F f) = k
    induction k generalizing g g' with
    | nil => exact hg
    | cons x r ih => exact ih (hg.set _ (Int.le_refl _))
  generalize (l.filterMap (up1 F f)).foldl ap1 g = a at *
  generalize (l.filterMap (up1 F f)).foldl ap1 g' = b at *
  generalize e.filterMap (up1 F f) = k
  induction k generalizing b with
  | nil => exact h0
  | cons x r ih => exact ih _ (h0.right _ _)
theorem more_ap2 (F : List Int) (f : Nat) (l e : List (Int × Int × Int)) {g g' : List Int} (hg : Geq g g') : Geq ((l.filterMap (up1 F f)).foldl (ap2 f) g) (((l ++ e).filterMap (up1 F f)).foldl (ap2 f) g') := by
  rw [List.filterMap_append, List.foldl_append]
  have h0 : Geq ((l.filterMap (up1 F f)).foldl (ap2 f) g) ((l.filterMap (up1 F f)).foldl (ap2 f) g') := by
    generalize l.filterMap (up1 F f) = k
    induction k generalizing g g' with
    | nil => exact hg
    | cons x r ih =>
      refine ih (hg.set _ ?_)
      have := hg.2 f
      simp only [grt2]; omega
  generalize (l.filterMap (up1 F f)).foldl (ap2 f) g = a at *
  generalize (l.filterMap (up1 F f)).foldl (ap2 f) g' = b at *
  generalize e.filterMap (up1 F f) = k
  induction k generalizing b with
  | nil => exact h0
  | cons x r ih => exact ih _ (h0.right _ _)
theorem more_lowered {s t : Sd} {e : List (Int × Int × Int)} (hF : t.floors = s.floors) (hS : t.sills = s.sills ++ e) {g g' : List Int} (hg : Geq g g') : Geq (lowered s g) (lowered t g') := by
  unfold lowered
  rw [hF]
  have h0 : Geq (lowSea s g) (lowSea t g') := by rw [lowSea_up, lowSea_up, hF, hS]; exact more_ap1 _ _ _ _ hg
  generalize lowSea s g = a at *
  generalize lowSea t g' = b at *
  generalize List.range s.floors.length = l
  induction l generalizing a b with
  | nil => exact h0
  | cons x r ih =>
    refine ih _ _ ?_
    rw [lowFrom_up, lowFrom_up, hF, hS]
    exact more_ap2 _ _ _ _ h0
theorem more_iter {s t : Sd} {e : List (Int × Int × Int)} (hF : t.floors = s.floors) (hS : t.sills = s.sills ++ e) : ∀ n {g g' : List Int}, Geq g g' → Geq (iterG s n g) (iterG t n g')
  | 0, _, _, h => h
  | n + 1, _, _, h => more_iter hF hS n (more_lowered hF hS h)
theorem more_gts {s t : Sd} {e : List (Int × Int × Int)} (hF : t.floors = s.floors) (hS : t.sills = s.sills ++ e) : Geq (gts s) (gts t) := by
  unfold gts
  rw [fixG_iter, fixG_iter]
  exact more_iter hF hS _ ⟨rfl, fun _ => Int.le_refl _⟩

/-- no gate is above 1050 -/
theorem iter_less (s : Sd) : ∀ n {g : List Int}, Less top g → Less top (iterG s n g)
  | 0, _, h => h
  | n + 1, g, h => iter_less s n (h.trans (lowered_less s g (fun i => (h.2 i).1)))
theorem gts_le (s : Sd) (p : Nat) : 0 ≤ gateOf s p ∧ gateOf s p ≤ 1050 := by
  have h : Less top (gts s) := by
    unfold gts
    rw [fixG_iter]
    exact iter_less s _ (Less.refl top_nonneg)
  have h1 := h.2 p
  have h2 : top[p]?.getD 0 ≤ 1050 := by
    unfold top
    rw [List.getElem?_replicate]
    split <;> simp
  unfold gateOf
  omega
theorem hasWay_lt (s : Sd) (p : Nat) : hasWayB s p = decide (gateOf s p < 1050) := by
  have hg := gts_le s p
  unfold gateOf at hg ⊢
  unfold hasWayB
  generalize (gts s)[p]?.getD 0 = g at *
  by_cases h : g = 1050
  · subst h; rfl
  · rw [decide_eq_true (show g < 1050 by omega), bne_iff_ne]; exact h

section
variable {s t : Sd}
theorem errFor_in (ok : Ok s) {x : Int} (h : 0 ≤ x ∧ x < s.floors.length) : errFor s x = 0 := by
  unfold errFor
  rw [if_pos (chk_zero ok)]
  have : isPl s x = true := inB_true.2 (by omega)
  rw [this]; rfl
theorem errGate_in (ok : Ok s) {x : Int} (h : 0 ≤ x ∧ x < s.floors.length) : errGate s x = if gateOf s x.toNat < 1050 then 0 else 6 := by
  unfold errGate
  rw [if_pos (errFor_in ok h), hasWay_lt]
  by_cases h : gateOf s x.toNat < 1050 <;> simp [h]
theorem gateV_in (ok : Ok s) {x : Int} (h : 0 ≤ x ∧ x < s.floors.length) : gateV s x = if gateOf s x.toNat < 1050 then gateOf s x.toNat else 0 := by
  unfold gateV
  rw [errGate_in ok h]
  by_cases h : gateOf s x.toNat < 1050 <;> simp [h]
/-- raised: the same errors, no lesser gates, no greater states -/
theorem hi_gate (ok : Ok s) (ok' : Ok t) (hF : HiF s.floors t.floors) (hS : HiS s.sills t.sills) {x : Int} (h : 0 ≤ x ∧ x < s.floors.length) : errGate t x = errGate s x ∧ gateV s x ≤ gateV t x := by
  have h' : 0 ≤ x ∧ x < t.floors.length := by rw [← hF.1]; exact h
  have k := (hi_gts hF hS).2 x.toNat
  rw [errGate_in ok h, errGate_in ok' h', gateV_in ok h, gateV_in ok' h']
  unfold gateOf at *
  by_cases c : (gts s)[x.toNat]?.getD 0 < 1050
  · have c' := k.2 c
    rw [if_pos c, if_pos c', if_pos c, if_pos c']
    exact ⟨rfl, k.1⟩
  · have c' : ¬ (gts t)[x.toNat]?.getD 0 < 1050 := by omega
    rw [if_neg c, if_neg c', if_neg c, if_neg c']
    exact ⟨rfl, Int.le_refl _⟩
theorem hi_st (hF : HiF s.floors t.floors) (hS : HiS s.sills t.sills) (hT : t.table = s.table) (hl : t.lo = s.lo) (hh : t.hi = s.hi) (m : Int) (p : Nat) : st t m p ≤ st s m p := by
  have k := (hi_gts hF hS).2 p
  unfold st gateOf
  rw [hT, hl, hh]
  repeat' split
  all_goals omega
theorem more_gate {e : List (Int × Int × Int)} (ok : Ok s) (ok' : Ok t) (hF : t.floors = s.floors) (hS : t.sills = s.sills ++ e) {x : Int} (h : 0 ≤ x ∧ x < s.floors.length) : errGate s x = 0 → errGate t x = 0 ∧ gateV t x ≤ gateV s x := by
  have h' : 0 ≤ x ∧ x < t.floors.length := by rw [hF]; exact h
  have k := (more_gts hF hS).2 x.toNat
  rw [errGate_in ok h, errGate_in ok' h', gateV_in ok h, gateV_in ok' h']
  unfold gateOf at *
  by_cases c : (gts s)[x.toNat]?.getD 0 < 1050
  · have c' : (gts t)[x.toNat]?.getD 0 < 1050 := by omega
    rw [if_pos c, if_pos c', if_pos c, if_pos c']
    exact fun _ => ⟨rfl, k⟩
  · rw [if_neg c]
    exact fun h => by cases h
theorem more_st {e : List (Int × Int × Int)} (hF : t.floors = s.floors) (hS : t.sills = s.sills ++ e) (hT : t.table = s.table) (hl : t.lo = s.lo) (hh : t.hi = s.hi) (m : Int) (p : Nat) : st s m p ≤ st t m p := by
  have k := (more_gts hF hS).2 p
  unfold st gateOf
  rw [hT, hl, hh]
  repeat' split
  all_goals omega
end
end
end Go.Proofs.Ytcljkkojeleakaa
/- Plain facts: the gates that the law finds by itself, letting the water rise from height to height, are the gates of the layer. -/
namespace Go.Proofs.Ytcljkkojeleakaa
section
open Go.RowKit

/-! what no sill lowers any more -/
theorem fixG_fix (s : Sd) : ∀ (n : Nat) (g : List Int), (∀ i : Nat, 0 ≤ g[i]?.getD 0) → g.sum < n → lowered s (fixG s n g) = fixG s n g
  | 0, g, h0, hs => by
    have := (sum_less g g (Less.refl h0)).2.2
    omega
  | n + 1, g, h0, hs => by
    unfold fixG
    split
    · assumption
    · next hne =>
      have hl := lowered_less s g h0
      have := (sum_less g (lowered s g) hl).2.1 hne
      exact fixG_fix s n (lowered s g) (fun i => (hl.2 i).1) (by omega)
theorem gts_fix (s : Sd) : lowered s (gts s) = gts s := fixG_fix s 9000 top top_nonneg (by decide)

theorem ap1_down : ∀ (l : List (Nat × Int)) (g : List Int) (i : Nat), i < g.length → (l.foldl ap1 g)[i]?.getD 0 ≤ g[i]?.getD 0
  | [], _, _, _ => Int.le_refl _
  | u :: r, g, i, hi => by
    refine Int.le_trans (ap1_down r (ap1 g u) i (by simp [ap1, hi])) ?_
    unfold ap1
    rw [List.getElem?_set]
    split
    · next h => subst h; rw [if_pos hi, Option.getD_some]; omega
    · exact Int.le_refl _
theorem ap2_down (f : Nat) : ∀ (l : List (Nat × Int)) (g : List Int) (i : Nat), i < g.length → (l.foldl (ap2 f) g)[i]?.getD 0 ≤ g[i]?.getD 0
  | [], _, _, _ => Int.le_refl _
  | u :: r, g, i, hi => by
    refine Int.le_trans (ap2_down f r (ap2 f g u) i (by simp [ap2, hi])) ?_
    unfold ap2
    rw [List.getElem?_set]
    split
    · next h => subst h; rw [if_pos hi, Option.getD_some]; omega
    · exact Int.le_refl _
theorem ap1_hit : ∀ (l : List (Nat × Int)) (g : List Int) (u : Nat × Int), u ∈ l → u.1 < g.length → (l.foldl ap1 g)[u.1]?.getD 0 ≤ u.2
  | v :: r, g, u, hu, hl => by
    have hl' : u.1 < (ap1 g v).length := by simp [ap1, hl]
    rcases List.mem_cons.1 hu with rfl | hu
    · refine Int.le_trans (ap1_down r _ u.1 hl') ?_
      unfold ap1
      rw [List.getElem?_set_self hl, Option.getD_some]
      omega
    · exact ap1_hit r _ u hu hl'
theorem ap2_hit (f : Nat) : ∀ (l : List (Nat × Int)) (g : List Int) (u : Nat × Int), u ∈ l → u.1 < g.length → f < g.length → (l.foldl (ap2 f) g)[u.1]?.getD 0 ≤ max (max 0 (g[f]?.getD 0)) u.2
  | v :: r, g, u, hu, hl, hf => by
    have hl' : u.1 < (ap2 f g v).length := by simp [ap2, hl]
    rcases List.mem_cons.1 hu with rfl | hu
    · refine Int.le_trans (ap2_down f r _ u.1 hl') ?_
      unfold ap2
      rw [List.getElem?_set_self hl, Option.getD_some, grt2]
      omega
    · have h1 := ap2_hit f r _ u hu hl' (by simp [ap2, hf])
      have h2 := ap2_down f [v] g f hf
      simp only [List.foldl_cons, List.foldl_nil] at h2
      show (r.foldl (ap2 f) (ap2 f g v))[u.1]?.getD 0 ≤ _
      omega
theorem low_len (s : Sd) (l : List Nat) (g : List Int) (h : g.length = 8) : (l.foldl (lowFrom s) g).length = 8 := lowFroms_len s l g h
theorem froms_down (s : Sd) : ∀ (l : List Nat) (g : List Int), g.length = 8 → ∀ i, i < 8 → (l.foldl (lowFrom s) g)[i]?.getD 0 ≤ g[i]?.getD 0
  | [], _, _, _, _ => Int.le_refl _
  | f :: r, g, hg, i, hi => by
    have hl : (lowFrom s g f).length = 8 := low2_len s f _ _ hg
    refine Int.le_trans (froms_down s r (lowFrom s g f) hl i hi) ?_
    rw [lowFrom_up]
    exact ap2_down f _ g i (by omega)
theorem froms_hit (s : Sd) : ∀ (l : List Nat) (g : List Int), g.length = 8 → ∀ f ∈ l, f < 8 → ∀ u ∈ s.sills.filterMap (up1 s.floors f), u.1 < 8 → (l.foldl (lowFrom s) g)[u.1]?.getD 0 ≤ max (max 0 (g[f]?.getD 0)) u.2
  | e :: r, g, hg, f, hf, h8, u, hu, hu8 => by
    have hl : (lowFrom s g e).length = 8 := low2_len s e _ _ hg
    rcases List.mem_cons.1 hf with rfl | hf
    · refine Int.le_trans (froms_down s r _ hl u.1 hu8) ?_
      rw [lowFrom_up]
      exact ap2_hit f _ g u hu (by omega) (by omega)
    · have h1 := froms_hit s r _ hl f hf h8 u hu hu8
      have h2 : (lowFrom s g e)[f]?.getD 0 ≤ g[f]?.getD 0 := by rw [lowFrom_up]; exact ap2_down e _ g f (by omega)
      show (r.foldl (lowFrom s) (lowFrom s g e))[u.1]?.getD 0 ≤ _
      omega
/-- what a sill joins: no gate is above what lets water over it -/
theorem gate_sea (s : Sd) (h8 : s.floors.length ≤ 8) (x : Int × Int × Int) (hx : x ∈ s.sills) (b : Nat) (hb : other x (-1) = b) (hbl : b < s.floors.length) : gateOf s b ≤ max (max 0 x.2.2) (s.floors[b]?.getD 0) := by
  have hu : (b, grt [x.2.2, s.floors[b]?.getD 0]) ∈ s.sills.filterMap (up1 s.floors (-1)) := by
    refine List.mem_filterMap.2 ⟨x, hx, ?_⟩
    unfold up1
    rw [hb, if_pos ⟨by omega, by simpa using hbl⟩]
    rfl
  have h0 : (lowSea s (gts s))[b]?.getD 0 ≤ max (max 0 x.2.2) (s.floors[b]?.getD 0) := by
    rw [lowSea_up]
    exact ap1_hit _ _ _ hu (by rw [gts_len]; exact Nat.lt_of_lt_of_le hbl h8)
  have h1 := froms_down s (List.range s.floors.length) (lowSea s (gts s)) (low1_len s _ _ (gts_len s)) b (by omega)
  have h2 := gts_fix s
  unfold lowered at h2
  rw [h2] at h1
  unfold gateOf
  omega
theorem gate_from (s : Sd) (h8 : s.floors.length ≤ 8) (x : Int × Int × Int) (hx : x ∈ s.sills) (f b : Nat) (hf : f < s.floors.length) (hb : other x f = b) (hbl : b < s.floors.length) : gateOf s b ≤ max (max 0 (gateOf s f)) (max (max 0 x.2.2) (s.floors[b]?.getD 0)) := by
  have hu : (b, grt [x.2.2, s.floors[b]?.getD 0]) ∈ s.sills.filterMap (up1 s.floors f) := by
    refine List.mem_filterMap.2 ⟨x, hx, ?_⟩
    unfold up1
    rw [hb, if_pos ⟨by omega, by simpa using hbl⟩]
    rfl
  have hs : (lowSea s (gts s)).length = 8 := low1_len s _ _ (gts_len s)
  have h1 := froms_hit s (List.range s.floors.length) (lowSea s (gts s)) hs f (List.mem_range.2 hf) (by omega) _ hu (by simp only; omega)
  have h3 : (lowSea s (gts s))[f]?.getD 0 ≤ (gts s)[f]?.getD 0 := by rw [lowSea_up]; exact ap1_down _ _ f (by rw [gts_len]; omega)
  have h2 := gts_fix s
  unfold lowered at h2
  rw [h2] at h1
  simp only [grt2] at h1
  unfold gateOf
  omega

/-! invariants of lowering, by its updates -/
theorem inv_iter (s : Sd) (h8 : s.floors.length ≤ 8) (I : List Int → Prop)
    (sea : ∀ (g : List Int) (x : Int × Int × Int) (b : Nat), g.length = 8 → x ∈ s.sills → other x (-1) = b → b < s.floors.length → I g → I (g.set b (min (g[b]?.getD 0) (max (max 0 x.2.2) (s.floors[b]?.getD 0)))))
    (from' : ∀ (g : List Int) (x : Int × Int × Int) (f b : Nat), g.length = 8 → x ∈ s.sills → f < s.floors.length → other x f = b → b < s.floors.length → I g → I (g.set b (min (g[b]?.getD 0) (max (max 0 (g[f]?.getD 0)) (max (max 0 x.2.2) (s.floors[b]?.getD 0))))))
    (h0 : I top) : I (gts s) := by
  have up : ∀ (f : Int) (x : Int × Int × Int) (u : Nat × Int), up1 s.floors f x = some u → other x f = u.1 ∧ u.1 < s.floors.length ∧ u.2 = max (max 0 x.2.2) (s.floors[u.1]?.getD 0) := by
    intro f x u hu
    unfold up1 at hu
    split at hu
    · next hc =>
      cases hu
      exact ⟨by simp only; omega, hc.2, rfl⟩
    · cases hu
  have h1 : ∀ (l : List (Int × Int × Int)) (g : List Int), (∀ x ∈ l, x ∈ s.sills) → g.length = 8 → I g → I ((l.filterMap (up1 s.floors (-1))).foldl ap1 g) := by
    intro l
    induction l with
    | nil => exact fun g _ _ h => h
    | cons x r ih =>
      intro g hx hl hI
      cases hu : up1 s.floors (-1) x with
      | none => rw [List.filterMap_cons_none hu]; exact ih g (fun y hy => hx y (by simp [hy])) hl hI
      | some u =>
        rw [List.filterMap_cons_some hu]
        obtain ⟨e1, e2, e3⟩ := up _ _ _ hu
        refine ih (ap1 g u) (fun y hy => hx y (by simp [hy])) (by simp [ap1, hl]) ?_
        unfold ap1
        rw [e3]
        exact sea g x u.1 hl (hx x (by simp)) e1 e2 hI
  have h2 : ∀ (f : Nat), f < s.floors.length → ∀ (l : List (Int × Int × Int)) (g : List Int), (∀ x ∈ l, x ∈ s.sills) → g.length = 8 → I g → I ((l.filterMap (up1 s.floors f)).foldl (ap2 f) g) := by
    intro f hf l
    induction l with
    | nil => exact fun g _ _ h => h
    | cons x r ih =>
      intro g hx hl hI
      cases hu : up1 s.floors f x with
      | none => rw [List.filterMap_cons_none hu]; exact ih g (fun y hy => hx y (by simp [hy])) hl hI
      | some u =>
        rw [List.filterMap_cons_some hu]
        obtain ⟨e1, e2, e3⟩ := up _ _ _ hu
        refine ih (ap2 f g u) (fun y hy => hx y (by simp [hy])) (by simp [ap2, hl]) ?_
        unfold ap2
        rw [e3, grt2]
        exact from' g x f u.1 hl (hx x (by simp)) hf e1 e2 hI
  have h3 : ∀ (l : List Nat) (g : List Int), (∀ f ∈ l, f < s.floors.length) → g.length = 8 → I g → I (l.foldl (lowFrom s) g) := by
    intro l
    induction l with
    | nil => exact fun g _ _ h => h
    | cons f r ih =>
      intro g hf hl hI
      refine ih (lowFrom s g f) (fun y hy => hf y (by simp [hy])) (low2_len s f _ _ hl) ?_
      rw [lowFrom_up]
      exact h2 f (hf f (by simp)) _ _ (fun _ h => h) hl hI
  have h4 : ∀ n (g : List Int), g.length = 8 → I g → I (iterG s n g) := by
    intro n
    induction n with
    | zero => exact fun g _ h => h
    | succ n ih =>
      intro g hl hI
      refine ih _ (lowered_len s g hl) ?_
      unfold lowered
      refine h3 _ _ (fun f hf => List.mem_range.1 hf) (low1_len s _ _ hl) ?_
      rw [lowSea_up]
      exact h1 _ _ (fun _ h => h) hl hI
  unfold gts
  rw [fixG_iter]
  exact h4 _ _ rfl h0

theorem set_get (g : List Int) (b i : Nat) (v : Int) (hb : b < g.length) : (g.set b v)[i]?.getD 0 = if b = i then v else g[i]?.getD 0 := by
  rw [List.getElem?_set]
  split
  · next h => first | rfl | (subst h; rw [if_pos hb]; rfl) | (subst h; simp [hb])
  · rfl
/-- low heights, low gates -/
theorem gate_low (s : Sd) (h8 : s.floors.length ≤ 8) (hF : ∀ x ∈ s.floors, 0 ≤ x ∧ x ≤ 50) (hS : ∀ x ∈ s.sills, x.2.2 ≤ 50) (p : Nat) (hp : p < 8) : gateOf s p ≤ 50 ∨ gateOf s p = 1050 := by
  have fl : ∀ b : Nat, s.floors[b]?.getD 0 ≤ 50 := fun b => by
    by_cases hb : b < s.floors.length
    · rw [List.getElem?_eq_getElem hb]; exact (hF _ (List.getElem_mem hb)).2
    · rw [List.getElem?_eq_none (by omega)]; decide
  have := inv_iter s h8 (fun g => ∀ i, i < 8 → g[i]?.getD 0 ≤ 50 ∨ g[i]?.getD 0 = 1050)
    (fun g x b hl hx hb hbl hI i hi => by
      have h1 := hI i hi
      have h2 := hI b (by omega)
      have h3 := fl b
      have h4 := hS x hx
      rw [set_get g b i _ (by omega)]
      split
      · omega
      · exact h1)
    (fun g x f b hl hx hf hb hbl hI i hi => by
      have h1 := hI i hi
      have h2 := hI b (by omega)
      have h3 := fl b
      have h4 := hS x hx
      have h5 := hI f (by omega)
      rw [set_get g b i _ (by omega)]
      split
      · omega
      · exact h1)
    (fun i hi => Or.inr (by unfold top; rw [List.getElem?_replicate, if_pos hi]; rfl))
  exact this p hp

/-! the law's own way -/
def rel1 (F : List Int) (h : Int) (g : List Int) (y : Int × Int × Int) : List Int :=
  if y.2.2 ≤ h ∧ y.2.1 ≠ -1 ∧ F[y.2.1.toNat]?.getD 0 ≤ h ∧ (y.1 = -1 ∨ g[y.1.toNat]?.getD 0 ≤ h) then g.set y.2.1.toNat (min (g[y.2.1.toNat]?.getD 0) h) else g
def turned (x : Int × Int × Int) : Int × Int × Int := (x.2.1, x.1, x.2.2)
def rel2 (F : List Int) (h : Int) (g : List Int) (x : Int × Int × Int) : List Int := rel1 F h (rel1 F h g x) (turned x)
def pass (s : Sd) (h : Int) (g : List Int) : List Int := s.sills.foldl (rel2 s.floors h) g
def passes (s : Sd) (h : Int) : Nat → List Int → List Int
  | 0, g => g
  | n + 1, g => passes s h n (pass s h g)
def lvls (s : Sd) : Nat → List Int
  | 0 => List.replicate s.floors.length 1000000
  | k + 1 => passes s k s.floors.length (lvls s k)

section
variable {F : List Int} {h : Int}
theorem rel1_len (g : List Int) (y : Int × Int × Int) : (rel1 F h g y).length = g.length := by
  unfold rel1; split
  · simp
  · rfl
theorem rel2_len (g : List Int) (y : Int × Int × Int) : (rel2 F h g y).length = g.length := by unfold rel2; rw [rel1_len, rel1_len]
/-- how many are above -/
def oc (h : Int) (g : List Int) : Nat := g.countP (fun v => decide (h < v))
theorem oc_set (h : Int) : ∀ (g : List Int) (b : Nat), b < g.length → h < g[b]?.getD 0 → oc h (g.set b (min (g[b]?.getD 0) h)) + 1 = oc h g
  | v :: r, 0, _, hv => by
    have hv' : h < v := by simpa using hv
    show oc h (min v h :: r) + 1 = oc h (v :: r)
    unfold oc
    rw [List.countP_cons, List.countP_cons, if_neg (by simp only [decide_eq_true_eq]; omega), if_pos (by simpa using hv')]
  | v :: r, b + 1, hb, hv => by
    have ih := oc_set h r b (by simpa using hb) (by simpa using hv)
    have e : (v :: r)[b + 1]?.getD 0 = r[b]?.getD 0 := by simp
    rw [e]
    show oc h (v :: r.set b _) + 1 = _
    unfold oc at ih ⊢
    rw [List.countP_cons, List.countP_cons]
    omega
theorem set_same (g : List Int) (b : Nat) (hb : b < g.length) (h : Int) (hv : g[b]?.getD 0 ≤ h) : g.set b (min (g[b]?.getD 0) h) = g := by
  rw [Int.min_eq_left hv, List.getElem?_eq_getElem hb, Option.getD_some, List.set_getElem_self]
theorem rel1_or (g : List Int) (y : Int × Int × Int) (hy : y.2.1 ≠ -1 → 0 ≤ y.2.1 ∧ y.2.1 < g.length) : rel1 F h g y = g ∨ oc h (rel1 F h g y) < oc h g := by
  unfold rel1
  split
  · next hc =>
    have hb : y.2.1.toNat < g.length := by have := hy hc.2.1; omega
    by_cases hv : g[y.2.1.toNat]?.getD 0 ≤ h
    · exact Or.inl (set_same g _ hb h hv)
    · have := oc_set h g _ hb (by omega)
      exact Or.inr (by omega)
  · exact Or.inl rfl
end
section
variable {α : Type} {f : List Int → α → List Int} {h : Int} {n : Nat} {P : α → Prop}
theorem fold_or (hf : ∀ g x, g.length = n → P x → (f g x).length = n ∧ (f g x = g ∨ oc h (f g x) < oc h g)) : ∀ (l : List α) (g : List Int), g.length = n → (∀ x ∈ l, P x) →
    (l.foldl f g).length = n ∧ (l.foldl f g = g ∧ (∀ x ∈ l, f g x = g) ∨ oc h (l.foldl f g) < oc h g)
  | [], g, hg, _ => ⟨hg, Or.inl ⟨rfl, by simp⟩⟩
  | x :: r, g, hg, hp => by
    obtain ⟨h1, h2⟩ := hf g x hg (hp x (by simp))
    obtain ⟨h3, h4⟩ := fold_or hf r (f g x) h1 (fun y hy => hp y (by simp [hy]))
    refine ⟨h3, ?_⟩
    rw [List.foldl_cons]
    rcases h2 with h2 | h2
    · rcases h4 with ⟨h4, h5⟩ | h4
      · refine Or.inl ⟨by rw [h4, h2], fun y hy => ?_⟩
        rcases List.mem_cons.1 hy with rfl | hy
        · exact h2
        · have := h5 y hy
          rw [h2] at this; exact this
      · exact Or.inr (by rw [h2] at h4 ⊢; exact h4)
    · rcases h4 with ⟨h4, h5⟩ | h4
      · exact Or.inr (by rw [h4]; exact h2)
      · exact Or.inr (by omega)
end
section
variable {s : Sd} {h : Int}
/-- an end of a sill is a place, or the Sea -/
def EndOk (n : Nat) (y : Int × Int × Int) : Prop := (y.1 = -1 ∨ 0 ≤ y.1 ∧ y.1 < n) ∧ (y.2.1 = -1 ∨ 0 ≤ y.2.1 ∧ y.2.1 < n) ∧ y.1 ≠ y.2.1
theorem EndOk.turned {n : Nat} {y : Int × Int × Int} (hy : EndOk n y) : EndOk n (turned y) := ⟨hy.2.1, hy.1, Ne.symm hy.2.2⟩
theorem EndOk.of (ok : Ok s) {x : Int × Int × Int} (hx : x ∈ s.sills) : EndOk s.floors.length x := ⟨(ok.good x hx).1, (ok.good x hx).2, ok.two x hx⟩
theorem rel2_or (g : List Int) (y : Int × Int × Int) (n : Nat) (hg : g.length = n) (hy : EndOk n y) : (rel2 s.floors h g y).length = n ∧ (rel2 s.floors h g y = g ∧ rel1 s.floors h g y = g ∧ rel1 s.floors h g (turned y) = g ∨ oc h (rel2 s.floors h g y) < oc h g) := by
  refine ⟨by rw [rel2_len]; exact hg, ?_⟩
  have h1 := rel1_or (F := s.floors) (h := h) g y (fun hn => by rcases hy.2.1 with e | e; exact absurd e hn; omega)
  have h2 := rel1_or (F := s.floors) (h := h) (rel1 s.floors h g y) (turned y) (fun hn => by rw [rel1_len]; rcases hy.1 with e | e; exact absurd e hn; exact ⟨e.1, by rw [hg]; exact e.2⟩)
  unfold rel2
  rcases h1 with h1 | h1
  · rcases h2 with h2 | h2
    · rw [h1] at h2 ⊢
      exact Or.inl ⟨h2, rfl, h2⟩
    · rw [h1] at h2 ⊢; exact Or.inr h2
  · rcases h2 with h2 | h2
    · exact Or.inr (by rw [h2]; exact h1)
    · exact Or.inr (by omega)
theorem pass_or (ok : Ok s) (g : List Int) (hg : g.length = s.floors.length) : (pass s h g).length = s.floors.length ∧ (pass s h g = g ∧ (∀ x ∈ s.sills, rel1 s.floors h g x = g ∧ rel1 s.floors h g (turned x) = g) ∨ oc h (pass s h g) < oc h g) := by
  obtain ⟨h1, h2⟩ := fold_or (h := h) (n := s.floors.length) (P := EndOk s.floors.length) (f := rel2 s.floors h) (fun g x hg hx => by
    obtain ⟨k1, k2⟩ := rel2_or (s := s) (h := h) g x _ hg hx
    refine ⟨k1, ?_⟩
    rcases k2 with k2 | k2
    · exact Or.inl k2.1
    · exact Or.inr k2) s.sills g hg (fun x hx => EndOk.of ok hx)
  refine ⟨h1, ?_⟩
  rcases h2 with ⟨h2, h3⟩ | h2
  · refine Or.inl ⟨h2, fun x hx => ?_⟩
    rcases (rel2_or (s := s) (h := h) g x _ hg (EndOk.of ok hx)).2 with k | k
    · exact k.2
    · rw [h3 x hx] at k; omega
  · exact Or.inr h2
theorem passes_len (ok : Ok s) : ∀ n (g : List Int), g.length = s.floors.length → (passes s h n g).length = s.floors.length
  | 0, _, hg => hg
  | n + 1, g, hg => passes_len ok n _ (pass_or ok g hg).1
theorem passes_fix (ok : Ok s) : ∀ n (g : List Int), g.length = s.floors.length → pass s h g = g → passes s h n g = g
  | 0, _, _, _ => rfl
  | n + 1, g, hg, hp => by
    unfold passes
    rw [hp]
    exact passes_fix ok n g hg hp
theorem passes_shut (ok : Ok s) : ∀ n (g : List Int), g.length = s.floors.length → oc h g ≤ n → pass s h (passes s h n g) = passes s h n g
  | 0, g, hg, ho => by
    rcases (pass_or (h := h) ok g hg).2 with k | k
    · exact k.1
    · omega
  | n + 1, g, hg, ho => by
    obtain ⟨h1, k⟩ := pass_or (h := h) ok g hg
    unfold passes
    rcases k with k | k
    · rw [k.1, passes_fix ok n g hg k.1]; exact k.1
    · exact passes_shut ok n _ h1 (by omega)

/-- sound at a height: what is known is the gate, and what is below is known -/
def Snd (s : Sd) (h : Int) (g : List Int) : Prop := ∀ p, p < s.floors.length → (g[p]?.getD 0 = 1000000 ∨ g[p]?.getD 0 = gateOf s p ∧ gateOf s p ≤ h) ∧ (gateOf s p < h → g[p]?.getD 0 = gateOf s p)
theorem other_to (ok : Ok s) {x : Int × Int × Int} (hx : x ∈ s.sills) {a b : Int} (hb : b ≠ -1) (hab : (a, b) = (x.1, x.2.1) ∨ (a, b) = (x.2.1, x.1)) : other x a = b := by
  have := ok.two x hx
  unfold other
  rcases hab with e | e
  · cases e; simp
  · cases e
    have : (x.2.1 == x.1) = false := by rw [beq_eq_false_iff_ne]; omega
    simp [this]
theorem gate_step (ok : Ok s) {x : Int × Int × Int} (hx : x ∈ s.sills) {a b : Int} (hb : 0 ≤ b ∧ b < s.floors.length) (ha : a = -1 ∨ 0 ≤ a ∧ a < s.floors.length) (hab : (a, b) = (x.1, x.2.1) ∨ (a, b) = (x.2.1, x.1)) (h0 : 0 ≤ h) (hh : x.2.2 ≤ h) (hF : s.floors[b.toNat]?.getD 0 ≤ h) (hg : a = -1 ∨ gateOf s a.toNat ≤ h) : gateOf s b.toNat ≤ h := by
  have ho := other_to ok hx (by omega) hab
  have e : ((b.toNat : Nat) : Int) = b := by omega
  rcases hg with hg | hg
  · subst hg
    have := gate_sea s ok.fl1 x hx b.toNat (by rw [e]; exact ho) (by omega)
    omega
  · rcases ha with ha | ha
    · subst ha
      have := gate_sea s ok.fl1 x hx b.toNat (by rw [e]; exact ho) (by omega)
      omega
    · have e2 : ((a.toNat : Nat) : Int) = a := by omega
      have := gate_from s ok.fl1 x hx a.toNat b.toNat (by omega) (by rw [e, e2]; exact ho) (by omega)
      omega
theorem snd_rel1 (ok : Ok s) {x : Int × Int × Int} (hx : x ∈ s.sills) (h0 : 0 ≤ h) (h9 : h ≤ 999) {g : List Int} (hl : g.length = s.floors.length) (hs : Snd s h g) (y : Int × Int × Int) (hy : y = x ∨ y = turned x) : Snd s h (rel1 s.floors h g y) := by
  have he : EndOk s.floors.length y := by
    rcases hy with rfl | rfl
    · exact EndOk.of ok hx
    · exact (EndOk.of ok hx).turned
  have hab : (y.1, y.2.1) = (x.1, x.2.1) ∨ (y.1, y.2.1) = (x.2.1, x.1) := by rcases hy with rfl | rfl; exact Or.inl rfl; exact Or.inr rfl
  have hyh : y.2.2 = x.2.2 := by rcases hy with rfl | rfl <;> rfl
  unfold rel1
  split
  · next hc =>
    obtain ⟨c1, c2, c3, c4⟩ := hc
    have hb : 0 ≤ y.2.1 ∧ y.2.1 < s.floors.length := by rcases he.2.1 with e | e; exact absurd e c2; exact e
    have hgb : gateOf s y.2.1.toNat ≤ h := by
      refine gate_step ok hx hb he.1 hab h0 (by omega) c3 ?_
      rcases c4 with c4 | c4
      · exact Or.inl c4
      · rcases he.1 with e | e
        · exact Or.inl e
        · refine Or.inr ?_
          have := (hs y.1.toNat (by omega)).1
          omega
    intro p hp
    have k := hs p hp
    rw [set_get g _ p _ (by omega)]
    split
    · next e =>
      subst e
      omega
    · exact k
  · exact hs
theorem snd_fold (ok : Ok s) (h0 : 0 ≤ h) (h9 : h ≤ 999) : ∀ (l : List (Int × Int × Int)) (g : List Int), (∀ x ∈ l, x ∈ s.sills) → g.length = s.floors.length → Snd s h g → Snd s h (l.foldl (rel2 s.floors h) g)
  | [], _, _, _, hs => hs
  | x :: r, g, hx, hl, hs => by
    have hm := hx x (by simp)
    refine snd_fold ok h0 h9 r _ (fun y hy => hx y (by simp [hy])) (by rw [rel2_len]; exact hl) ?_
    unfold rel2
    exact snd_rel1 ok hm h0 h9 (by rw [rel1_len]; exact hl) (snd_rel1 ok hm h0 h9 hl hs x (Or.inl rfl)) _ (Or.inr rfl)
theorem snd_passes (ok : Ok s) (h0 : 0 ≤ h) (h9 : h ≤ 999) : ∀ n (g : List Int), g.length = s.floors.length → Snd s h g → Snd s h (passes s h n g)
  | 0, _, _, hs => hs
  | n + 1, g, hl, hs => snd_passes ok h0 h9 n _ (pass_or ok g hl).1 (snd_fold ok h0 h9 _ _ (fun _ h => h) hl hs)
/-- what no pass changes any more has all gates that are not above -/
theorem shut_all (ok : Ok s) (h9 : h ≤ 999) {g : List Int} (hl : g.length = s.floors.length) (hp : pass s h g = g) (p : Nat) (hpl : p < s.floors.length) (hg : gateOf s p ≤ h) : g[p]?.getD 0 ≤ h := by
  have hall : ∀ x ∈ s.sills, rel1 s.floors h g x = g ∧ rel1 s.floors h g (turned x) = g := by
    rcases (pass_or (h := h) ok g hl).2 with k | k
    · exact k.2
    · rw [hp] at k; omega
  have key : ∀ x ∈ s.sills, ∀ a b : Int, (a, b) = (x.1, x.2.1) ∨ (a, b) = (x.2.1, x.1) → 0 ≤ b ∧ b < s.floors.length → x.2.2 ≤ h → s.floors[b.toNat]?.getD 0 ≤ h → (a = -1 ∨ g[a.toNat]?.getD 0 ≤ h) → g[b.toNat]?.getD 0 ≤ h := by
    intro x hx a b hab hb h1 h2 h3
    have hb' : b.toNat < g.length := by omega
    have hr : rel1 s.floors h g (a, b, x.2.2) = g := by
      rcases hab with e | e
      · cases e; exact (hall x hx).1
      · cases e; exact (hall x hx).2
    unfold rel1 at hr
    rw [if_pos ⟨h1, by simp only; omega, h2, h3⟩] at hr
    have e1 := congrArg (fun l => l[b.toNat]?.getD 0) hr
    simp only at e1
    rw [set_get g _ _ _ hb', if_pos rfl] at e1
    omega
  refine Decidable.byContradiction fun hc => ?_
  have := inv_iter s ok.fl1 (fun a => ∀ i, i < s.floors.length → h < g[i]?.getD 0 → h < a[i]?.getD 0)
    (fun a x b hl8 hx hb hbl hI i hi hgi => by
      rw [set_get a b i _ (by have := ok.fl1; omega)]
      split
      · next e =>
        subst e
        have h1 := hI b hi hgi
        have hne : ¬ (x.2.2 ≤ h ∧ s.floors[b]?.getD 0 ≤ h) := fun hcc => by
          have ho : (-1, (b : Int)) = (x.1, x.2.1) ∨ (-1, (b : Int)) = (x.2.1, x.1) := by
            unfold other at hb
            by_cases e1 : (-1 : Int) = x.1
            · rw [show ((-1 : Int) == x.1) = true from beq_iff_eq.2 e1] at hb
              exact Or.inl (by rw [← e1]; simp at hb; rw [hb])
            · rw [show ((-1 : Int) == x.1) = false from beq_eq_false_iff_ne.2 e1] at hb
              by_cases e2 : (-1 : Int) = x.2.1
              · rw [show ((-1 : Int) == x.2.1) = true from beq_iff_eq.2 e2] at hb
                exact Or.inr (by rw [← e2]; simp at hb; rw [hb])
              · rw [show ((-1 : Int) == x.2.1) = false from beq_eq_false_iff_ne.2 e2] at hb
                simp at hb
          have := key x hx (-1) b ho (by omega) hcc.1 (by simpa using hcc.2) (Or.inl rfl)
          simp only [Int.toNat_natCast] at this
          omega
        omega
      · exact hI i hi hgi)
    (fun a x f b hl8 hx hf hb hbl hI i hi hgi => by
      rw [set_get a b i _ (by have := ok.fl1; omega)]
      split
      · next e =>
        subst e
        have h1 := hI b hi hgi
        by_cases hgf : h < g[f]?.getD 0
        · have := hI f hf hgf
          omega
        · have hne : ¬ (x.2.2 ≤ h ∧ s.floors[b]?.getD 0 ≤ h) := fun hcc => by
            have ho : ((f : Int), (b : Int)) = (x.1, x.2.1) ∨ ((f : Int), (b : Int)) = (x.2.1, x.1) := by
              unfold other at hb
              by_cases e1 : (f : Int) = x.1
              · rw [show ((f : Int) == x.1) = true from beq_iff_eq.2 e1] at hb
                exact Or.inl (by rw [← e1]; simp at hb; rw [hb])
              · rw [show ((f : Int) == x.1) = false from beq_eq_false_iff_ne.2 e1] at hb
                by_cases e2 : (f : Int) = x.2.1
                · rw [show ((f : Int) == x.2.1) = true from beq_iff_eq.2 e2] at hb
                  exact Or.inr (by rw [← e2]; simp at hb; rw [hb])
                · rw [show ((f : Int) == x.2.1) = false from beq_eq_false_iff_ne.2 e2] at hb
                  simp at hb
            have := key x hx f b ho (by omega) hcc.1 (by simpa using hcc.2) (Or.inr (by simp only [Int.toNat_natCast]; omega))
            simp only [Int.toNat_natCast] at this
            omega
          omega
      · exact hI i hi hgi)
    (fun i hi _ => by
      have := ok.fl1
      unfold top
      rw [List.getElem?_replicate, if_pos (by omega)]
      show h < 1050
      omega)
  have h1 := this p hpl (by omega)
  unfold gateOf at hg
  omega
theorem lvls_len (ok : Ok s) : ∀ k, (lvls s k).length = s.floors.length
  | 0 => by simp [lvls]
  | k + 1 => passes_len ok _ _ (lvls_len ok k)
theorem lvls_is (ok : Ok s) : ∀ (k : Nat), k ≤ 1000 → ∀ p, p < s.floors.length → (lvls s k)[p]?.getD 0 = if gateOf s p < k then gateOf s p else 1000000
  | 0, _, p, hp => by
    have := (gts_le s p).1
    rw [if_neg (by omega)]
    unfold lvls
    rw [List.getElem?_replicate, if_pos hp]
    rfl
  | k + 1, hk, p, hp => by
    have ih := lvls_is ok k (by omega)
    have hl := lvls_len ok k
    have hs : Snd s k (lvls s k) := fun q hq => by
      have e := ih q hq
      by_cases c : gateOf s q < k
      · rw [if_pos c] at e
        exact ⟨Or.inr ⟨e, by omega⟩, fun _ => e⟩
      · rw [if_neg c] at e
        exact ⟨Or.inl e, fun h => absurd h c⟩
    have h1 := snd_passes ok (h := (k : Int)) (by omega) (by omega) s.floors.length _ hl hs
    have h2 := passes_shut (h := (k : Int)) ok s.floors.length (lvls s k) hl (by rw [← hl]; exact List.countP_le_length)
    have hl2 := passes_len (h := (k : Int)) ok s.floors.length _ hl
    show (passes s k s.floors.length (lvls s k))[p]?.getD 0 = _
    have h3 := shut_all ok (h := (k : Int)) (by omega) hl2 h2 p hp
    have h4 := (h1 p hp).1
    by_cases c : gateOf s p < ((k + 1 : Nat) : Int)
    · rw [if_pos c]
      have := h3 (by omega)
      omega
    · rw [if_neg c]
      omega
/-- the gates that the law finds -/
theorem lvls_gates (ok : Ok s) (hF : ∀ x ∈ s.floors, 0 ≤ x ∧ x ≤ 50) (hS : ∀ x ∈ s.sills, x.2.2 ≤ 50) (p : Nat) (hp : p < s.floors.length) : (lvls s 62)[p]?.getD 0 = if gateOf s p < 1050 then gateOf s p else 1000000 := by
  rw [lvls_is ok 62 (by omega) p hp]
  have := gate_low s ok.fl1 hF hS p (by have := ok.fl1; omega)
  by_cases c : gateOf s p < 1050
  · rw [if_pos c, if_pos (by omega)]
  · rw [if_neg c, if_neg (by omega)]
end
end
end Go.Proofs.Ytcljkkojeleakaa
/- Plain facts: the reference's least crests, by letting crests fall from sill to sill as many times as there are places. -/
namespace Go.Proofs.Ytcljkkojeleakaa
section
open Go.RowKit

/-- the crest over one sill more -/
def ovr (s : Sd) (g : List Int) (a b h : Int) : Int := max (max (if 0 ≤ a then g[a.toNat]?.getD 0 else 0) h) (s.floors[b.toNat]?.getD 0)
def relB (s : Sd) (ss ps : List Int) (i : Nat) (g : List Int) (a b h : Int) : List Int :=
  if 0 ≤ b ∧ (i : Int) ∉ ss ∧ b ∉ ps then g.set b.toNat (min (g[b.toNat]?.getD 0) (ovr s g a b h)) else g
def rsill (s : Sd) (ss ps : List Int) (g : List Int) (i : Nat) (x : Int × Int × Int) : List Int := relB s ss ps i (relB s ss ps i g x.1 x.2.1 x.2.2) x.2.1 x.1 x.2.2
def rpass (s : Sd) (ss ps : List Int) (g : List Int) : Nat → List Int
  | 0 => g
  | k + 1 => rsill s ss ps (rpass s ss ps g k) k (s.sills[k]?.getD (0, 0, 0))
def rounds (s : Sd) (ss ps : List Int) : Nat → List Int
  | 0 => List.replicate s.floors.length 5000
  | k + 1 => rpass s ss ps (rounds s ss ps k) s.sills.length
/-- the least crests without some sills and places -/
def lowR (s : Sd) (ss ps : List Int) : List Int := rounds s ss ps s.floors.length

section
variable {s : Sd} {ss ps : List Int} {c : Int}
theorem relB_len (i : Nat) (g : List Int) (a b h : Int) : (relB s ss ps i g a b h).length = g.length := by
  unfold relB
  split <;> simp
theorem rsill_len (g : List Int) (i : Nat) (x : Int × Int × Int) : (rsill s ss ps g i x).length = g.length := by unfold rsill; rw [relB_len, relB_len]
theorem rpass_len (g : List Int) : ∀ k, (rpass s ss ps g k).length = g.length
  | 0 => rfl
  | k + 1 => by unfold rpass; rw [rsill_len, rpass_len]
theorem rounds_len : ∀ k, (rounds s ss ps k).length = s.floors.length
  | 0 => by simp [rounds]
  | k + 1 => by unfold rounds; rw [rpass_len, rounds_len]

/-- what holds at the start, and with each sill, holds at the end -/
theorem rounds_inv (I : List Int → Prop) (h0 : I (List.replicate s.floors.length 5000))
    (step : ∀ (g : List Int) (i : Nat) (hi : i < s.sills.length) (a b : Int), g.length = s.floors.length → (a, b) = (s.sills[i].1, s.sills[i].2.1) ∨ (a, b) = (s.sills[i].2.1, s.sills[i].1) → I g → I (relB s ss ps i g a b s.sills[i].2.2)) : ∀ k, I (rounds s ss ps k)
  | 0 => h0
  | k + 1 => by
    have h := rounds_inv I h0 step k
    have hl := rounds_len (s := s) (ss := ss) (ps := ps) k
    unfold rounds
    generalize rounds s ss ps k = g at *
    have key : ∀ n, n ≤ s.sills.length → I (rpass s ss ps g n) := by
      intro n
      induction n with
      | zero => exact fun _ => h
      | succ n ih =>
        intro hn
        have h1 := ih (by omega)
        have l1 : (rpass s ss ps g n).length = s.floors.length := by rw [rpass_len, hl]
        unfold rpass rsill
        rw [List.getElem?_eq_getElem (show n < s.sills.length by omega), Option.getD_some]
        have h2 := step _ n (by omega) _ _ l1 (.inl rfl) h1
        exact step _ n (by omega) _ _ (by rw [relB_len]; exact l1) (.inr rfl) h2
    exact key _ (Nat.le_refl _)

/-- closed under what lets water of this height through -/
def ClE (s : Sd) (ss ps : List Int) (c : Int) (g : List Int) (i : Nat) (a b h : Int) : Prop :=
  0 ≤ b → (i : Int) ∉ ss → b ∉ ps → h ≤ c → s.floors[b.toNat]?.getD 0 ≤ c → (a = -1 ∨ g[a.toNat]?.getD 0 ≤ c) → g[b.toNat]?.getD 0 ≤ c
/-- the same are not above -/
def SameAt (c : Int) (g g' : List Int) : Prop := ∀ p : Nat, g'[p]?.getD 0 ≤ c ↔ g[p]?.getD 0 ≤ c
theorem SameAt.cl {g g' : List Int} (h : SameAt c g g') {i : Nat} {a b x : Int} (k : ClE s ss ps c g' i a b x) : ClE s ss ps c g i a b x := by
  intro h1 h2 h3 h4 h5 h6
  refine (h _).1 (k h1 h2 h3 h4 h5 ?_)
  rcases h6 with h6 | h6
  · exact .inl h6
  · exact .inr ((h _).2 h6)
theorem oc_le : ∀ (g g' : List Int), g'.length = g.length → (∀ p : Nat, p < g.length → g'[p]?.getD 0 ≤ g[p]?.getD 0) → oc c g' ≤ oc c g
  | [], [], _, _ => Nat.le_refl _
  | [], y :: r', h, _ => by simp at h
  | x :: r, [], h, _ => by simp at h
  | x :: r, y :: r', h, k => by
    have h0 := k 0 (by simp)
    simp only [List.getElem?_cons_zero, Option.getD_some] at h0
    have ih := oc_le r r' (by simpa using h) (fun p hp => by have := k (p + 1) (by simpa using hp); simpa using this)
    unfold oc at ih ⊢
    rw [List.countP_cons, List.countP_cons]
    by_cases e : c < y
    · rw [if_pos (by simpa using e), if_pos (by simp only [decide_eq_true_eq]; omega)]; omega
    · rw [if_neg (by simpa using e)]; omega
theorem oc_lt : ∀ (g g' : List Int) (b : Nat), g'.length = g.length → (∀ p : Nat, p < g.length → g'[p]?.getD 0 ≤ g[p]?.getD 0) → b < g.length → g'[b]?.getD 0 ≤ c → c < g[b]?.getD 0 → oc c g' < oc c g
  | [], _, _, _, _, hb, _, _ => by simp at hb
  | x :: r, [], _, h, _, _, _, _ => by simp at h
  | x :: r, y :: r', 0, h, k, _, h1, h2 => by
    have ih := oc_le (c := c) r r' (by simpa using h) (fun p hp => by have := k (p + 1) (by simpa using hp); simpa using this)
    simp only [List.getElem?_cons_zero, Option.getD_some] at h1 h2
    unfold oc at ih ⊢
    rw [List.countP_cons, List.countP_cons, if_neg (by simp only [decide_eq_true_eq]; omega), if_pos (by simpa using h2)]
    omega
  | x :: r, y :: r', b + 1, h, k, hb, h1, h2 => by
    have h0 := k 0 (by simp)
    simp only [List.getElem?_cons_zero, Option.getD_some] at h0
    have ih := oc_lt r r' b (by simpa using h) (fun p hp => by have := k (p + 1) (by simpa using hp); simpa using this) (by simpa using hb) (by simpa using h1) (by simpa using h2)
    unfold oc at ih ⊢
    rw [List.countP_cons, List.countP_cons]
    by_cases e : c < y
    · rw [if_pos (by simpa using e), if_pos (by simp only [decide_eq_true_eq]; omega)]; omega
    · rw [if_neg (by simpa using e)]; omega
theorem relB_down (i : Nat) (g : List Int) (a b h : Int) (p : Nat) (hb : b < g.length) : (relB s ss ps i g a b h)[p]?.getD 0 ≤ g[p]?.getD 0 := by
  unfold relB
  split
  · next hc =>
    rw [set_get g _ _ _ (by omega)]
    split
    · next e => subst e; omega
    · exact Int.le_refl _
  · exact Int.le_refl _
/-- one step: fewer are above, or the same; then the step is closed -/
theorem relB_or (c0 : 0 ≤ c) (i : Nat) (g : List Int) (a b h : Int) (ha : a = -1 ∨ 0 ≤ a) (hb : b < g.length) :
    oc c (relB s ss ps i g a b h) < oc c g ∨ (SameAt c g (relB s ss ps i g a b h) ∧ ClE s ss ps c g i a b h) := by
  by_cases hs : SameAt c g (relB s ss ps i g a b h)
  · right
    refine ⟨hs, fun h1 h2 h3 h4 h5 h6 => ?_⟩
    refine (hs b.toNat).1 ?_
    unfold relB
    rw [if_pos ⟨h1, h2, h3⟩, set_get g _ _ _ (by omega), if_pos rfl]
    have : ovr s g a b h ≤ c := by
      unfold ovr
      rcases h6 with rfl | h6
      · rw [if_neg (by decide)]; omega
      · split <;> omega
    omega
  · left
    have : ∃ p, ¬ ((relB s ss ps i g a b h)[p]?.getD 0 ≤ c ↔ g[p]?.getD 0 ≤ c) := Classical.not_forall.1 hs
    obtain ⟨p, hp⟩ := this
    have hd := relB_down (s := s) (ss := ss) (ps := ps) i g a b h p hb
    have h1 : (relB s ss ps i g a b h)[p]?.getD 0 ≤ c ∧ c < g[p]?.getD 0 := by
      by_cases e : g[p]?.getD 0 ≤ c
      · exact absurd ⟨fun _ => e, fun _ => by omega⟩ hp
      · refine ⟨?_, by omega⟩
        refine Decidable.byContradiction fun e' => hp ⟨fun k => absurd k e', fun k => absurd k e⟩
    have hpl : p < g.length := by
      refine Decidable.byContradiction fun e => ?_
      rw [List.getElem?_eq_none (show g.length ≤ p by omega)] at h1
      have := h1.2
      simp only [Option.getD_none] at this
      omega
    exact oc_lt g _ p (relB_len i g a b h) (fun q _ => relB_down i g a b h q hb) hpl h1.1 h1.2
/-- closed at all sills -/
def ClAll (s : Sd) (ss ps : List Int) (c : Int) (g : List Int) (n : Nat) : Prop := ∀ i (hi : i < s.sills.length), i < n → ClE s ss ps c g i s.sills[i].1 s.sills[i].2.1 s.sills[i].2.2 ∧ ClE s ss ps c g i s.sills[i].2.1 s.sills[i].1 s.sills[i].2.2
theorem SameAt.refl (g : List Int) : SameAt c g g := fun _ => Iff.rfl
theorem SameAt.trans {g g' g'' : List Int} (h : SameAt c g g') (k : SameAt c g' g'') : SameAt c g g'' := fun p => (k p).trans (h p)
theorem countP_same : ∀ {g g' : List Int}, g'.length = g.length → SameAt c g g' → oc c g' = oc c g
  | [], [], _, _ => rfl
  | [], y :: r', h, _ => by simp at h
  | x :: r, [], h, _ => by simp at h
  | x :: r, y :: r', h, k => by
    have h0 := k 0
    simp only [List.getElem?_cons_zero, Option.getD_some] at h0
    have ih := countP_same (g := r) (g' := r') (by simpa using h) (fun p => by have := k (p + 1); simpa using this)
    unfold oc at ih ⊢
    rw [List.countP_cons, List.countP_cons, ih]
    by_cases e : c < y
    · rw [if_pos (by simpa using e), if_pos (by simp only [decide_eq_true_eq]; omega)]
    · rw [if_neg (by simpa using e), if_neg (by simp only [decide_eq_true_eq]; omega)]
theorem rpass_or (ok : Ok s) (c0 : 0 ≤ c) (g : List Int) (hg : g.length = s.floors.length) : ∀ n, n ≤ s.sills.length → oc c (rpass s ss ps g n) < oc c g ∨ (SameAt c g (rpass s ss ps g n) ∧ ClAll s ss ps c g n)
  | 0, _ => .inr ⟨SameAt.refl _, fun i hi h => absurd h (by omega)⟩
  | n + 1, hn => by
    have ih := rpass_or ok c0 g hg n (by omega)
    have l1 := rpass_len (s := s) (ss := ss) (ps := ps) g n
    have hx := EndOk.of ok (List.getElem_mem (show n < s.sills.length by omega))
    obtain ⟨e1, e2, -⟩ := hx
    have hr : rpass s ss ps g (n + 1) = relB s ss ps n (relB s ss ps n (rpass s ss ps g n) s.sills[n].1 s.sills[n].2.1 s.sills[n].2.2) s.sills[n].2.1 s.sills[n].1 s.sills[n].2.2 := by
      show rsill s ss ps (rpass s ss ps g n) n (s.sills[n]?.getD (0, 0, 0)) = _
      rw [List.getElem?_eq_getElem (show n < s.sills.length by omega), Option.getD_some]
      rfl
    rw [hr]
    generalize rpass s ss ps g n = u at *
    have k1 := relB_or (s := s) (ss := ss) (ps := ps) c0 n u s.sills[n].1 s.sills[n].2.1 s.sills[n].2.2 (by omega) (by omega)
    have d1 := oc_le (c := c) u (relB s ss ps n u s.sills[n].1 s.sills[n].2.1 s.sills[n].2.2) (relB_len ..) (fun p _ => relB_down n u _ _ _ p (by omega))
    have l2 := relB_len (s := s) (ss := ss) (ps := ps) n u s.sills[n].1 s.sills[n].2.1 s.sills[n].2.2
    generalize relB s ss ps n u s.sills[n].1 s.sills[n].2.1 s.sills[n].2.2 = v at *
    have k2 := relB_or (s := s) (ss := ss) (ps := ps) c0 n v s.sills[n].2.1 s.sills[n].1 s.sills[n].2.2 (by omega) (by omega)
    have d2 := oc_le (c := c) v (relB s ss ps n v s.sills[n].2.1 s.sills[n].1 s.sills[n].2.2) (relB_len ..) (fun p _ => relB_down n v _ _ _ p (by omega))
    rcases ih with ih | ⟨ih1, ih2⟩
    · left; omega
    · rcases k1 with k1 | ⟨k1, k1'⟩
      · left
        have : oc c u = oc c g := countP_same l1 ih1
        omega
      · rcases k2 with k2 | ⟨k2, k2'⟩
        · left
          have e1 : oc c u = oc c g := countP_same l1 ih1
          have e2 : oc c v = oc c u := countP_same l2 k1
          omega
        · right
          refine ⟨(ih1.trans k1).trans k2, fun i hi h => ?_⟩
          by_cases e : i = n
          · subst e
            exact ⟨ih1.cl k1', (ih1.trans k1).cl k2'⟩
          · exact ih2 i hi (by omega)

/-- a closed step changes nothing at this height -/
theorem relB_same (i : Nat) (g : List Int) (a b h : Int) (ha : a = -1 ∨ 0 ≤ a) (hb : b < g.length) (k : ClE s ss ps c g i a b h) : SameAt c g (relB s ss ps i g a b h) := by
  intro p
  have hd := relB_down (s := s) (ss := ss) (ps := ps) i g a b h p hb
  refine ⟨fun h1 => ?_, fun h1 => by omega⟩
  unfold relB at h1
  split at h1
  · next hc =>
    rw [set_get g _ _ _ (by omega)] at h1
    split at h1
    · next e =>
      by_cases h2 : g[b.toNat]?.getD 0 ≤ c
      · rw [← e]; exact h2
      · have h3 : ovr s g a b h ≤ c := by omega
        unfold ovr at h3
        rw [← e]
        refine k hc.1 hc.2.1 hc.2.2 (by omega) (by omega) ?_
        rcases ha with ha | ha
        · exact .inl ha
        · rw [if_pos ha] at h3; exact .inr (by omega)
    · exact h1
  · exact h1
theorem rpass_same (ok : Ok s) (g : List Int) (hg : g.length = s.floors.length) (k : ClAll s ss ps c g s.sills.length) : ∀ n, n ≤ s.sills.length → SameAt c g (rpass s ss ps g n)
  | 0, _ => SameAt.refl _
  | n + 1, hn => by
    have ih := rpass_same ok g hg k n (by omega)
    have l1 := rpass_len (s := s) (ss := ss) (ps := ps) g n
    obtain ⟨e1, e2, -⟩ := EndOk.of ok (List.getElem_mem (show n < s.sills.length by omega))
    obtain ⟨k1, k2⟩ := k n (by omega) (by omega)
    have hr : rpass s ss ps g (n + 1) = relB s ss ps n (relB s ss ps n (rpass s ss ps g n) s.sills[n].1 s.sills[n].2.1 s.sills[n].2.2) s.sills[n].2.1 s.sills[n].1 s.sills[n].2.2 := by
      show rsill s ss ps (rpass s ss ps g n) n (s.sills[n]?.getD (0, 0, 0)) = _
      rw [List.getElem?_eq_getElem (show n < s.sills.length by omega), Option.getD_some]
      rfl
    rw [hr]
    generalize rpass s ss ps g n = u at *
    have sy : ∀ {x y : List Int}, SameAt c x y → SameAt c y x := fun h p => (h p).symm
    have j1 := relB_same n u s.sills[n].1 s.sills[n].2.1 s.sills[n].2.2 (by omega) (by omega) ((sy ih).cl k1)
    have l2 := relB_len (s := s) (ss := ss) (ps := ps) n u s.sills[n].1 s.sills[n].2.1 s.sills[n].2.2
    generalize relB s ss ps n u s.sills[n].1 s.sills[n].2.1 s.sills[n].2.2 = v at *
    have i2 := ih.trans j1
    exact i2.trans (relB_same n v s.sills[n].2.1 s.sills[n].1 s.sills[n].2.2 (by omega) (by omega) ((sy i2).cl k2))
theorem rounds_or (ok : Ok s) (c0 : 0 ≤ c) : ∀ k, ClAll s ss ps c (rounds s ss ps k) s.sills.length ∨ oc c (rounds s ss ps k) + k ≤ s.floors.length
  | 0 => by
    right
    unfold rounds oc
    have := List.countP_le_length (p := fun v => decide (c < v)) (l := List.replicate s.floors.length (5000 : Int))
    rw [List.length_replicate] at this
    omega
  | k + 1 => by
    have ih := rounds_or ok c0 k
    have hl := rounds_len (s := s) (ss := ss) (ps := ps) k
    have hr : rounds s ss ps (k + 1) = rpass s ss ps (rounds s ss ps k) s.sills.length := rfl
    rw [hr]
    generalize rounds s ss ps k = g at *
    have sy : ∀ {x y : List Int}, SameAt c x y → SameAt c y x := fun h p => (h p).symm
    rcases ih with ih | ih
    · left
      have j := rpass_same ok g hl ih _ (Nat.le_refl _)
      exact fun i hi h => ⟨(sy j).cl (ih i hi h).1, (sy j).cl (ih i hi h).2⟩
    · rcases rpass_or (ss := ss) (ps := ps) ok c0 g hl _ (Nat.le_refl _) with j | ⟨j1, j2⟩
      · right; omega
      · left
        exact fun i hi h => ⟨(sy j1).cl (j2 i hi h).1, (sy j1).cl (j2 i hi h).2⟩
theorem oc_zero : ∀ {g : List Int}, oc c g = 0 → ∀ p, p < g.length → g[p]?.getD 0 ≤ c
  | [], _, p, h => by simp at h
  | x :: r, h, p, hp => by
    unfold oc at h
    rw [List.countP_cons] at h
    have h1 : List.countP (fun v => decide (c < v)) r = 0 := by omega
    have h2 : ¬ c < x := fun e => by rw [if_pos (by simpa using e)] at h; omega
    cases p with
    | zero => simp; omega
    | succ p =>
      have := oc_zero (g := r) h1 p (by simpa using hp)
      simpa using this
/-- the least crests let no water through that they do not count -/
theorem low_closed (ok : Ok s) (c0 : 0 ≤ c) : ClAll s ss ps c (lowR s ss ps) s.sills.length := by
  have hl := rounds_len (s := s) (ss := ss) (ps := ps) s.floors.length
  rcases rounds_or (ss := ss) (ps := ps) ok c0 s.floors.length with h | h
  · exact h
  · have h0 : oc c (lowR s ss ps) = 0 := by unfold lowR; omega
    intro i hi _
    obtain ⟨e1, e2, -⟩ := EndOk.of ok (List.getElem_mem hi)
    have hl' : (lowR s ss ps).length = s.floors.length := hl
    exact ⟨fun b0 _ _ _ _ _ => oc_zero h0 _ (by omega), fun b0 _ _ _ _ _ => oc_zero h0 _ (by omega)⟩
theorem closed_all {h : Int} (ok : Ok s) (h9 : h < 1050) {g : List Int} (k : ClAll s [] [] h g s.sills.length) (p : Nat) (hpl : p < s.floors.length) (hg : gateOf s p ≤ h) : g[p]?.getD 0 ≤ h := by
  have key : ∀ x ∈ s.sills, ∀ a b : Int, (a, b) = (x.1, x.2.1) ∨ (a, b) = (x.2.1, x.1) → 0 ≤ b ∧ b < s.floors.length → x.2.2 ≤ h → s.floors[b.toNat]?.getD 0 ≤ h → (a = -1 ∨ g[a.toNat]?.getD 0 ≤ h) → g[b.toNat]?.getD 0 ≤ h := by
    intro x hx a b hab hb h1 h2 h3
    obtain ⟨i, hi, rfl⟩ := List.getElem_of_mem hx
    obtain ⟨k1, k2⟩ := k i hi hi
    rcases hab with e | e
    · cases e; exact k1 hb.1 (by simp) (by simp) h1 h2 h3
    · cases e; exact k2 hb.1 (by simp) (by simp) h1 h2 h3
  refine Decidable.byContradiction fun hc => ?_
  have := inv_iter s ok.fl1 (fun a => ∀ i, i < s.floors.length → h < g[i]?.getD 0 → h < a[i]?.getD 0)
    (fun a x b hl8 hx hb hbl hI i hi hgi => by
      rw [set_get a b i _ (by have := ok.fl1; omega)]
      split
      · next e =>
        subst e
        have h1 := hI b hi hgi
        have hne : ¬ (x.2.2 ≤ h ∧ s.floors[b]?.getD 0 ≤ h) := fun hcc => by
          have ho : (-1, (b : Int)) = (x.1, x.2.1) ∨ (-1, (b : Int)) = (x.2.1, x.1) := by
            unfold other at hb
            by_cases e1 : (-1 : Int) = x.1
            · rw [show ((-1 : Int) == x.1) = true from beq_iff_eq.2 e1] at hb
              exact Or.inl (by rw [← e1]; simp at hb; rw [hb])
            · rw [show ((-1 : Int) == x.1) = false from beq_eq_false_iff_ne.2 e1] at hb
              by_cases e2 : (-1 : Int) = x.2.1
              · rw [show ((-1 : Int) == x.2.1) = true from beq_iff_eq.2 e2] at hb
                exact Or.inr (by rw [← e2]; simp at hb; rw [hb])
              · rw [show ((-1 : Int) == x.2.1) = false from beq_eq_false_iff_ne.2 e2] at hb
                simp at hb
          have := key x hx (-1) b ho (by omega) hcc.1 (by simpa using hcc.2) (Or.inl rfl)
          simp only [Int.toNat_natCast] at this
          omega
        omega
      · exact hI i hi hgi)
    (fun a x f b hl8 hx hf hb hbl hI i hi hgi => by
      rw [set_get a b i _ (by have := ok.fl1; omega)]
      split
      · next e =>
        subst e
        have h1 := hI b hi hgi
        by_cases hgf : h < g[f]?.getD 0
        · have := hI f hf hgf
          omega
        · have hne : ¬ (x.2.2 ≤ h ∧ s.floors[b]?.getD 0 ≤ h) := fun hcc => by
            have ho : ((f : Int), (b : Int)) = (x.1, x.2.1) ∨ ((f : Int), (b : Int)) = (x.2.1, x.1) := by
              unfold other at hb
              by_cases e1 : (f : Int) = x.1
              · rw [show ((f : Int) == x.1) = true from beq_iff_eq.2 e1] at hb
                exact Or.inl (by rw [← e1]; simp at hb; rw [hb])
              · rw [show ((f : Int) == x.1) = false from beq_eq_false_iff_ne.2 e1] at hb
                by_cases e2 : (f : Int) = x.2.1
                · rw [show ((f : Int) == x.2.1) = true from beq_iff_eq.2 e2] at hb
                  exact Or.inr (by rw [← e2]; simp at hb; rw [hb])
                · rw [show ((f : Int) == x.2.1) = false from beq_eq_false_iff_ne.2 e2] at hb
                  simp at hb
            have := key x hx f b ho (by omega) hcc.1 (by simpa using hcc.2) (Or.inr (by simp only [Int.toNat_natCast]; omega))
            simp only [Int.toNat_natCast] at this
            omega
          omega
      · exact hI i hi hgi)
    (fun i hi _ => by
      have := ok.fl1
      unfold top
      rw [List.getElem?_replicate, if_pos (by omega)]
      show h < 1050
      omega)
  have h1 := this p hpl (by omega)
  unfold gateOf at hg
  omega

theorem low_le (ok : Ok s) : ∀ p, p < s.floors.length → (0 ≤ (lowR s ss ps)[p]?.getD 0 ∧ (lowR s ss ps)[p]?.getD 0 ≤ 999) ∨ (lowR s ss ps)[p]?.getD 0 = 5000 := by
  have := rounds_inv (s := s) (ss := ss) (ps := ps) (fun g => ∀ p, p < s.floors.length → (0 ≤ g[p]?.getD 0 ∧ g[p]?.getD 0 ≤ 999) ∨ g[p]?.getD 0 = 5000)
    (fun p hp => by right; rw [List.getElem?_replicate, if_pos hp]; rfl)
    (fun g i hi a b hl hab hI p hp => by
      obtain ⟨e1, e2, -⟩ := EndOk.of ok (List.getElem_mem hi)
      have hh := ok.heights _ (List.getElem_mem hi)
      unfold relB
      split
      · next hc =>
        have hb : 0 ≤ b ∧ b < s.floors.length := ⟨hc.1, by rcases hab with e | e <;> cases e <;> omega⟩
        have hf : 0 ≤ s.floors[b.toNat]?.getD 0 ∧ s.floors[b.toNat]?.getD 0 ≤ 999 := by
          rw [List.getElem?_eq_getElem (show b.toNat < s.floors.length by omega), Option.getD_some]
          exact ok.floors _ (List.getElem_mem _)
        rw [set_get g _ _ _ (by omega)]
        split
        · next e =>
          have h1 := hI b.toNat (by omega)
          have ha : a = -1 ∨ 0 ≤ a ∧ a < s.floors.length := by rcases hab with e | e <;> cases e <;> omega
          unfold ovr
          rcases ha with ha | ha
          · rw [if_neg (by omega)]; omega
          · rw [if_pos ha.1]
            have h2 := hI a.toNat (by omega)
            omega
        · exact hI p hp
      · exact hI p hp) s.floors.length
  exact this
/-- the reference's gate -/
def gateR (s : Sd) (q : Nat) : Int := if gateOf s q < 1050 then gateOf s q else 5000
theorem low_gate (ok : Ok s) (p : Nat) (hp : p < s.floors.length) : (lowR s [] [])[p]?.getD 0 = gateR s p := by
  have gl := fun q => gts_le s q
  have ge := rounds_inv (s := s) (ss := []) (ps := []) (fun g => ∀ q, q < s.floors.length → gateR s q ≤ g[q]?.getD 0)
    (fun q hq => by rw [List.getElem?_replicate, if_pos hq]; show gateR s q ≤ (5000 : Int); have := gl q; unfold gateR; split <;> omega)
    (fun g i hi a b hl hab hI q hq => by
      obtain ⟨e1, e2, -⟩ := EndOk.of ok (List.getElem_mem hi)
      have hh := ok.heights _ (List.getElem_mem hi)
      unfold relB
      split
      · next hc =>
        have hb : 0 ≤ b ∧ b < s.floors.length := ⟨hc.1, by rcases hab with e | e <;> cases e <;> omega⟩
        have ha : a = -1 ∨ 0 ≤ a ∧ a < s.floors.length := by rcases hab with e | e <;> cases e <;> omega
        have hf : 0 ≤ s.floors[b.toNat]?.getD 0 ∧ s.floors[b.toNat]?.getD 0 ≤ 999 := by
          rw [List.getElem?_eq_getElem (show b.toNat < s.floors.length by omega), Option.getD_some]
          exact ok.floors _ (List.getElem_mem _)
        rw [set_get g _ _ _ (by omega)]
        split
        · next e =>
          subst e
          have h1 := hI b.toNat hq
          have h2' := hI a.toNat
          have key : gateR s b.toNat ≤ ovr s g a b s.sills[i].2.2 := by
            unfold gateR at h2'
            unfold ovr gateR
            rcases ha with ha | ha
            · rw [if_neg (show ¬ 0 ≤ a by omega)]
              have := gate_step ok (List.getElem_mem hi) hb (.inl ha) hab (h := max (max 0 s.sills[i].2.2) (s.floors[b.toNat]?.getD 0)) (by omega) (by omega) (by omega) (.inl ha)
              rw [if_pos (show gateOf s b.toNat < 1050 by omega)]
              exact this
            · rw [if_pos ha.1]
              have h2 := h2' (by omega)
              by_cases hga : gateOf s a.toNat < 1050
              · rw [if_pos hga] at h2
                have g0 := (gl a.toNat).1
                have := gate_step ok (List.getElem_mem hi) hb (.inr ha) hab (h := max (max (gateOf s a.toNat) s.sills[i].2.2) (s.floors[b.toNat]?.getD 0)) (by omega) (by omega) (by omega) (.inr (by omega))
                rw [if_pos (show gateOf s b.toNat < 1050 by omega)]
                omega
              · rw [if_neg hga] at h2
                split <;> omega
          omega
        · exact hI q hq
      · exact hI q hq) s.floors.length p hp
  have g1 := gl p
  unfold gateR at ge ⊢
  split
  · next hlt =>
    rw [if_pos hlt] at ge
    have := closed_all ok hlt (low_closed (ss := []) (ps := []) (c := gateOf s p) ok g1.1) p hp (Int.le_refl _)
    unfold lowR at this ⊢
    omega
  · next hge =>
    rw [if_neg hge] at ge
    have := low_le (ss := []) (ps := []) ok p hp
    unfold lowR at this ⊢
    omega
end
end
end Go.Proofs.Ytcljkkojeleakaa
/- Rows that lie in a block of their own, from its first cell on: cells, and what a store changes. -/
namespace Go.Proofs.Ytcljkkojeleakaa
section
open Go.RowKit Go.Shelf

theorem flatten_set (k : Nat) : ∀ (rows : List (List Value)) (i j : Nat) (v : Value) (hi : i < rows.length), (∀ r ∈ rows, r.length = k) → j < k → rows.flatten.set (i * k + j) v = (rows.set i (rows[i].set j v)).flatten
  | a :: r, 0, j, v, _, hk, hj => by
    have ha := hk a (by simp)
    rw [Nat.zero_mul, Nat.zero_add, List.flatten_cons, List.set_append_left _ _ (by omega)]
    rfl
  | a :: r, i + 1, j, v, hi, hk, hj => by
    have ha := hk a (by simp)
    have hi' : i < r.length := by simpa using hi
    have ih := flatten_set k r i j v hi' (fun x hx => hk x (by simp [hx])) hj
    rw [List.flatten_cons, List.set_append_right _ _ (by rw [Nat.add_mul]; omega), show (i + 1) * k + j - a.length = i * k + j by rw [Nat.add_mul]; omega, ih]
    rfl
theorem flatten_len (k : Nat) : ∀ (rows : List (List Value)), (∀ r ∈ rows, r.length = k) → rows.flatten.length = rows.length * k
  | [], _ => by simp
  | a :: r, h => by
    rw [List.flatten_cons, List.length_append, flatten_len k r (fun x hx => h x (by simp [hx])), h a (by simp), List.length_cons, Nat.add_mul]
    omega

def RowBlk (w : World) (g : Nat) (T : TypeId) (k : Nat) (rows : List (List Value)) : Prop := (∀ r ∈ rows, r.length = k) ∧ ∃ cur : List Value, Blk w g cur T ∧ cur.take (rows.length * k) = rows.flatten
section
variable {w w' : World} {g k n₀ c : Nat} {T : TypeId} {p : Option Addr} {rows : List (List Value)}
theorem RowBlk.cell (h : RowBlk w g T k rows) {i j : Nat} {row : List Value} {x : Value} (hi : rows[i]? = some row) (hj : row[j]? = some x) : w.cell? ⟨g, i * k + j, none⟩ = some x := by
  obtain ⟨hk, cur, hb, ht⟩ := h
  have hil := (List.getElem?_eq_some_iff.1 hi).1
  have hr : row.length = k := hk row (List.mem_of_getElem? hi)
  have hjl : j < k := by have := (List.getElem?_eq_some_iff.1 hj).1; omega
  have hok : flatOk k rows = true := by unfold flatOk; simpa using hk
  have hf := flat_at k rows hok i row hi j x hj
  have hlt : i * k + j < rows.length * k := by
    have : (i + 1) * k ≤ rows.length * k := Nat.mul_le_mul_right _ (by omega)
    rw [Nat.add_mul] at this; omega
  rw [← ht, List.getElem?_take_of_lt hlt] at hf
  rw [hb.cell, hf]
theorem RowBlk.free (h : RowBlk w g T k rows) (i : Nat) : w.frozen? ⟨g, i, none⟩ = false := by
  obtain ⟨-, cur, hb, -⟩ := h
  exact hb.free i
theorem RowBlk.lt (h : RowBlk w g T k rows) : g < w.heap.size := by
  obtain ⟨-, cur, hb, -⟩ := h
  exact hb.lt
theorem RowBlk.row (h : RowBlk w g T k rows) : Row w (some ⟨g, 0, none⟩) k rows := fun i row hi => ⟨g, 0, rfl, fun j x hj => by rw [Nat.zero_add]; exact h.cell hi hj⟩
theorem RowBlk.up (h : RowBlk w g T k rows) (hu : Up w w') : RowBlk w' g T k rows := by
  obtain ⟨hk, cur, hb, ht⟩ := h
  exact ⟨hk, cur, hb.up hu, ht⟩
theorem RowBlk.other (h : RowBlk w g T k rows) {a : Addr} (ha : g ≠ a.block) (v : Value) : RowBlk (w.setCell a v) g T k rows := by
  obtain ⟨hk, cur, hb, ht⟩ := h
  exact ⟨hk, cur, hb.other ha v, ht⟩
theorem RowBlk.far {B n : Nat} (h : RowBlk w g T k rows) (hf : Far B n w w') (h1 : g < n) (h2 : g ≠ B) : RowBlk w' g T k rows := by
  obtain ⟨hk, cur, hb, ht⟩ := h
  exact ⟨hk, cur, hf.blk hb h1 h2, ht⟩
theorem RowBlk.set (h : RowBlk w g T k rows) {i j : Nat} (hi : i < rows.length) (hj : j < k) (v : Value) : RowBlk (w.setCell ⟨g, i * k + j, none⟩ v) g T k (rows.set i (rows[i].set j v)) := by
  obtain ⟨hk, cur, hb, ht⟩ := h
  refine ⟨fun r hr => ?_, _, hb.set _ _, ?_⟩
  · rcases List.mem_or_eq_of_mem_set hr with h1 | rfl
    · exact hk r h1
    · rw [List.length_set]; exact hk _ (List.getElem_mem _)
  · rw [List.length_set, ← flatten_set k rows i j v hi hk hj, ← ht, List.take_set]
theorem RowBlk.of (h : w.ownsRow n₀ T k (.slice p rows.length c) rows.length rows.flatten) (hk : ∀ r ∈ rows, r.length = k) (hl : 0 < rows.length) : ∃ g, p = some ⟨g, 0, none⟩ ∧ n₀ ≤ g ∧ RowBlk w g T k rows := by
  rcases h.2 with ⟨-, h0⟩ | ⟨g, cap, cur, h1, h2, h3, h4, h5, h6, h7⟩
  · omega
  · injection h1 with e1 e2 e3
    exact ⟨g, e1, h2, hk, cur.toList, h3, h7⟩
/-- rows of another type lie elsewhere -/
theorem RowBlk.ne {E : TypeId} {m n : Nat} {q : Option Addr} {xs : List Value} (h : RowBlk w g T k rows) (h' : w.ownsRow n₀ E m (.slice q n c) n xs) (hE : E ≠ T) : ∀ b off, q = some ⟨b, off, none⟩ → b ≠ g := by
  intro b off e hb
  obtain ⟨-, cur, hc, -⟩ := h
  rcases h'.2 with ⟨h1, -⟩ | ⟨g', cap, cur', h1, h2, h3, h4⟩
  · injection h1 with e1 e2 e3
    rw [e1] at e; cases e
  · injection h1 with e1 e2 e3
    rw [e1] at e
    simp only [Option.some.injEq, Addr.mk.injEq] at e
    have hg : g' = g := by omega
    rw [hg] at h3
    have h5 := h3.symm.trans hc
    simp only [Option.some.injEq, Obj.cells.injEq] at h5
    exact hE h5.2.1
theorem Blk.row {w : World} {B : Nat} {T : TypeId} (k : Nat) {rows : List (List Value)} (hk : ∀ r ∈ rows, r.length = k) (h : Blk w B rows.flatten T) : RowBlk w B T k rows :=
  ⟨hk, _, h, by rw [List.take_of_length_le (by rw [flatten_len k rows hk]; exact Nat.le_refl _)]⟩
/-- own rows lie below the heap's end -/
theorem ownsRow_lt {E : TypeId} {m n : Nat} {q : Option Addr} {xs : List Value} (h : w.ownsRow n₀ E m (.slice q n c) n xs) : ∀ b off, q = some ⟨b, off, none⟩ → n₀ ≤ b ∧ b < w.heap.size := by
  intro b off e
  rcases h.2 with ⟨h1, -⟩ | ⟨g', cap, cur', h1, h2, h3, h4⟩
  · injection h1 with e1 e2 e3
    rw [e1] at e; cases e
  · injection h1 with e1 e2 e3
    rw [e1] at e
    simp only [Option.some.injEq, Addr.mk.injEq] at e
    have hg : g' = b := by omega
    rw [hg] at h3 h2
    exact ⟨h2, (Array.getElem?_eq_some_iff.1 h3).1⟩
end
theorem triples_len (l : List (Int × Int × Int)) : ∀ r ∈ triples l, r.length = 3 := fun r hr => by
  simp only [triples, List.mem_map] at hr
  obtain ⟨x, -, rfl⟩ := hr; rfl
theorem pairs_len (l : List (Int × Int)) : ∀ r ∈ pairs l, r.length = 2 := fun r hr => by
  simp only [pairs, List.mem_map] at hr
  obtain ⟨x, -, rfl⟩ := hr; rfl
theorem ints_len (l : List Int) : ∀ r ∈ ints l, r.length = 1 := fun r hr => by
  simp only [ints, List.mem_map] at hr
  obtain ⟨x, -, rfl⟩ := hr; rfl
theorem triples_set (l : List (Int × Int × Int)) (i : Nat) (hi : i < l.length) (h : Int) : (triples l).set i (((triples l)[i]'(by simpa [triples] using hi)).set 2 (.int .i64 h)) = triples (l.set i (l[i].1, l[i].2.1, h)) := by
  unfold triples
  rw [List.map_set]
  simp
theorem ints_set (l : List Int) (i : Nat) (hi : i < l.length) (h : Int) : (ints l).set i (((ints l)[i]'(by simpa [ints] using hi)).set 0 (.int .i64 h)) = ints (l.set i h) := by
  unfold ints
  rw [List.map_set]
  simp
end
end Go.Proofs.Ytcljkkojeleakaa
/- The reference's least crests: what its functions over, least, Gate and Gates return. -/
namespace Go.Proofs.Ytcljkkojeleakaa
open Go.RowKit Go.Shelf

section
variable {pT pF pS : Option Addr} {cT cF cS : Nat}
set_option maxHeartbeats 400000 in
theorem has_c (l : List Int) (p : Option Addr) (c : Nat) (n : Int) (w : World) (hr : Row w p 1 (ints l)) (hm : l.length ≤ maxLen) :
    Calls Try.prog 99 #[.slice p l.length c, .int .i64 n] w fun e w' => e = .returned (.bool (decide (n ∈ l))) ∧ w = w' := by
  unfold maxLen at hm
  go_enter Try.func99, Try.ntmps99
  go_wp2
  go_loop [5] (fun i => ∃ k : Nat, k ≤ l.length ∧ i = .int .i64 k ∧ n ∉ l.take k) (fun i => l.length - (intOf i).toNat)
  case atStart => exact ⟨0, Nat.zero_le _, rfl, by simp⟩
  case round =>
    obtain ⟨k, hk, rfl, hn⟩ := hrel
    have HN := Lib.hid hn
    clear hn
    by_cases hlt : k < l.length
    · obtain ⟨b, off, rfl, hc0⟩ := hr.int k hlt
      have k1 : (k : Int) < l.length := by omega
      by_cases he : l[k] = n
      · have HE := Lib.hid he
        have he' : (l[k] == n) = true := by simpa using he
        clear he
        go_wp2
        go_ret
        exact ⟨ret_bool (decide_eq_true (by rw [← HE.out]; exact List.getElem_mem _)).symm, rfl⟩
      · have HE := Lib.hid he
        have he' : (l[k] == n) = false := by simpa using he
        clear he
        go_wp2
        go_round
        case rel =>
          refine ⟨k + 1, hlt, by go_num, ?_⟩
          rw [List.take_succ_eq_append_getElem hlt, List.mem_append, List.mem_singleton]
          rintro (h | h)
          · exact HN.out h
          · exact HE.out h.symm
        case measure => simp [intOf]; omega
    · obtain rfl : k = l.length := by omega
      have h := HN.out
      rw [List.take_length] at h
      have HH := Lib.hid h
      clear h
      go_wp2
      go_ret
      exact ⟨ret_bool (decide_eq_false HH.out).symm, rfl⟩

set_option maxRecDepth 100000 in
set_option maxHeartbeats 1000000 in
theorem over_c (s : Sd) (G : List Int) (g : Nat) (n c : Nat) (a b h : Int) (w : World) (hn : G.length = n) (hl : Lists w s pT pF pS cT cF cS) (hr : Row w (some ⟨g, 0, none⟩) 1 (ints G)) (ha : a = -1 ∨ 0 ≤ a ∧ a < n) (hb : 0 ≤ b ∧ b < s.floors.length) (hf : s.floors.length ≤ 1000) (hn9 : n ≤ 1000) :
    Calls Try.prog 147 #[sdVal s pT pF pS cT cF cS, .slice (some ⟨g, 0, none⟩) n c, .int .i64 a, .int .i64 b, .int .i64 h] w fun e w' => e = .returned (.int .i64 (ovr s G a b h)) ∧ Up w w' := by
  subst hn
  obtain ⟨bn, rfl⟩ := Int.eq_ofNat_of_zero_le hb.1
  obtain ⟨gF, oF, rfl, e1⟩ := hl.rf.int bn (by omega)
  have e1' := (show Up w (w.alloc (.cells (sdCells s pT (some ⟨gF, oF, none⟩) pS cT cF cS).toArray 37)) by (repeat (first | exact Below.refl _ _ | (with_reducible refine Below.drewN' ?_ _) | (with_reducible refine Below.drew ?_) | (with_reducible refine Below.setCell ?_ (by first | exact Nat.le_refl _ | omega | (with_reducible (repeat (first | refine sz_alloc ?_ | refine sz_setCell ?_ | refine sz_drew ?_ | refine sz_drewN ?_)); first | exact Nat.le_refl _ | omega) | (simp only [World.size_alloc, World.size_setCell, World.size_drew, size_drewN']; omega)) _) | (with_reducible refine Below.alloc ?_ (by first | exact Nat.le_refl _ | omega | (with_reducible (repeat (first | refine sz_alloc ?_ | refine sz_setCell ?_ | refine sz_drew ?_ | refine sz_drewN ?_)); first | exact Nat.le_refl _ | omega) | (simp only [World.size_alloc, World.size_setCell, World.size_drew, size_drewN']; omega)) _) | assumption))).cellAt e1
  have lF := cell_lt e1
  have hb1 : (bn : Int) < s.floors.length := by omega
  have HF := Lib.hid (show s.floors[((bn : Int)).toNat]?.getD 0 = s.floors[bn]'(by omega) by rw [Int.toNat_natCast, List.getElem?_eq_getElem (by omega)]; rfl)
  have HU : Hid (Up w (w.alloc (.cells (sdCells s pT (some ⟨gF, oF, none⟩) pS cT cF cS).toArray 37))) := Lib.hid (by (repeat (first | exact Below.refl _ _ | (with_reducible refine Below.drewN' ?_ _) | (with_reducible refine Below.drew ?_) | (with_reducible refine Below.setCell ?_ (by first | exact Nat.le_refl _ | omega | (with_reducible (repeat (first | refine sz_alloc ?_ | refine sz_setCell ?_ | refine sz_drew ?_ | refine sz_drewN ?_)); first | exact Nat.le_refl _ | omega) | (simp only [World.size_alloc, World.size_setCell, World.size_drew, size_drewN']; omega)) _) | (with_reducible refine Below.alloc ?_ (by first | exact Nat.le_refl _ | omega | (with_reducible (repeat (first | refine sz_alloc ?_ | refine sz_setCell ?_ | refine sz_drew ?_ | refine sz_drewN ?_)); first | exact Nat.le_refl _ | omega) | (simp only [World.size_alloc, World.size_setCell, World.size_drew, size_drewN']; omega)) _) | assumption)))
  clear hl e1
  unfold sdCells at *
  unfold sdVal
  rcases ha with rfl | ⟨a0, a1⟩
  · have HO := Lib.hid (show ovr s G (-1) bn h = max (max 0 h) (s.floors[bn]'(by omega)) by unfold ovr; rw [if_neg (by decide), HF.out])
    generalize s.floors[bn] = fl at *
    by_cases h1 : 0 < h
    · by_cases h2 : h < fl
      · have HV := Lib.hid (show ovr s G (-1) bn h = fl by rw [HO.out]; omega)
        clear HO
        go_enter Try.func147, Try.ntmps147
        go_wp2
        go_ret
        exact ⟨by rw [HV.out]; rfl, HU.out⟩
      · have HV := Lib.hid (show ovr s G (-1) bn h = h by rw [HO.out]; omega)
        clear HO
        go_enter Try.func147, Try.ntmps147
        go_wp2
        go_ret
        exact ⟨by rw [HV.out]; rfl, HU.out⟩
    · by_cases h2 : 0 < fl
      · have HV := Lib.hid (show ovr s G (-1) bn h = fl by rw [HO.out]; omega)
        clear HO
        go_enter Try.func147, Try.ntmps147
        go_wp2
        go_ret
        exact ⟨by rw [HV.out]; rfl, HU.out⟩
      · have HV := Lib.hid (show ovr s G (-1) bn h = 0 by rw [HO.out]; omega)
        clear HO
        go_enter Try.func147, Try.ntmps147
        go_wp2
        go_ret
        exact ⟨by rw [HV.out]; rfl, HU.out⟩
  · obtain ⟨an, rfl⟩ := Int.eq_ofNat_of_zero_le a0
    have ha1 : an < G.length := by omega
    obtain ⟨g', o', hg, e2⟩ := hr.int an ha1
    simp only [Option.some.injEq, Addr.mk.injEq, and_true] at hg
    obtain ⟨rfl, rfl⟩ := hg
    rw [Nat.zero_add] at e2
    have lG := cell_lt e2
    have e2' := HU.out.cellAt e2
    have HO := Lib.hid (show ovr s G an bn h = max (max G[an] h) (s.floors[bn]'(by omega)) by unfold ovr; rw [if_pos (by omega), HF.out, Int.toNat_natCast, List.getElem?_eq_getElem ha1]; rfl)
    clear e2 hr
    generalize s.floors[bn] = fl at *
    generalize G[an] = cr at *
    by_cases h1 : cr < h
    · by_cases h2 : h < fl
      · have HV := Lib.hid (show ovr s G an bn h = fl by rw [HO.out]; omega)
        clear HO
        go_enter Try.func147, Try.ntmps147
        go_wp2
        go_ret
        exact ⟨by rw [HV.out]; rfl, HU.out⟩
      · have HV := Lib.hid (show ovr s G an bn h = h by rw [HO.out]; omega)
        clear HO
        go_enter Try.func147, Try.ntmps147
        go_wp2
        go_ret
        exact ⟨by rw [HV.out]; rfl, HU.out⟩
    · by_cases h2 : cr < fl
      · have HV := Lib.hid (show ovr s G an bn h = fl by rw [HO.out]; omega)
        clear HO
        go_enter Try.func147, Try.ntmps147
        go_wp2
        go_ret
        exact ⟨by rw [HV.out]; rfl, HU.out⟩
      · have HV := Lib.hid (show ovr s G an bn h = cr by rw [HO.out]; omega)
        clear HO
        go_enter Try.func147, Try.ntmps147
        go_wp2
        go_ret
        exact ⟨by rw [HV.out]; rfl, HU.out⟩

set_option maxRecDepth 100000 in
set_option maxHeartbeats 1000000 in
theorem refPlace_c (s : Sd) (x : Int) (w : World) (hl : Lists w s pT pF pS cT cF cS) :
    Calls Try.prog 28 #[sdVal s pT pF pS cT cF cS, .int .i64 x] w fun e w' => e = .returned (.int .i64 (bif isPl s x then 0 else 1)) ∧ Up w w' := by
  have m1 : (s.floors.length : Int) ≤ 9223372036854775807 := by have := Nat.le_trans hl.cf hl.mf; simp only [maxLen] at this; omega
  have s1 : IntKind.i64.wrap ((s.floors.length : Int) - 1) = (s.floors.length : Int) - 1 := IntWalk.i64_in _ (by omega)
  clear hl
  unfold sdVal
  go_enter Try.func28, Try.ntmps28
  go_wp2_with fail
  refine (off_c _ _ _ _).mono ?_
  rintro e w3 ⟨rfl, rfl⟩
  have hd : inB x 0 (s.floors.length - 1) = isPl s x := rfl
  rw [hd]
  clear hd
  cases hv : isPl s x
  all_goals
    have HD := Lib.hid hv
    clear hv
    go_wp2
    go_ret
    exact ⟨by rw [HD.out]; rfl, by (repeat (first | exact Below.refl _ _ | (with_reducible refine Below.drewN' ?_ _) | (with_reducible refine Below.drew ?_) | (with_reducible refine Below.setCell ?_ (by first | exact Nat.le_refl _ | omega | (with_reducible (repeat (first | refine sz_alloc ?_ | refine sz_setCell ?_ | refine sz_drew ?_ | refine sz_drewN ?_)); first | exact Nat.le_refl _ | omega) | (simp only [World.size_alloc, World.size_setCell, World.size_drew, size_drewN']; omega)) _) | (with_reducible refine Below.alloc ?_ (by first | exact Nat.le_refl _ | omega | (with_reducible (repeat (first | refine sz_alloc ?_ | refine sz_setCell ?_ | refine sz_drew ?_ | refine sz_drewN ?_)); first | exact Nat.le_refl _ | omega) | (simp only [World.size_alloc, World.size_setCell, World.size_drew, size_drewN']; omega)) _) | assumption))⟩

/-- a block of numbers that is stored into -/
abbrev IntBlk (w : World) (g : Nat) (l : List Int) : Prop := RowBlk w g 3 1 (ints l)
theorem IntBlk.at {w : World} {g : Nat} {l : List Int} (h : IntBlk w g l) (i : Nat) (hi : i < l.length) : w.cell? ⟨g, i, none⟩ = some (.int .i64 l[i]) := by
  have := RowBlk.cell h (i := i) (j := 0) (row := [.int .i64 l[i]]) (x := .int .i64 l[i]) (by simp [ints, hi]) rfl
  simpa using this
theorem IntBlk.put {w : World} {g : Nat} {l : List Int} (h : IntBlk w g l) (i : Nat) (hi : i < l.length) (v : Int) : IntBlk (w.setCell ⟨g, i, none⟩ (.int .i64 v)) g (l.set i v) := by
  have := RowBlk.set h (i := i) (j := 0) (by simp [ints, hi]) (by decide) (.int .i64 v)
  rw [ints_set l i hi v, Nat.mul_one, Nat.add_zero] at this
  exact this
theorem relB_ends {s : Sd} {ss ps : List Int} {i : Nat} {g : List Int} {a b h : Int} (hc : ¬ (0 ≤ b ∧ (i : Int) ∉ ss ∧ b ∉ ps)) : relB s ss ps i g a b h = g := by unfold relB; rw [if_neg hc]

set_option maxRecDepth 100000 in
set_option maxHeartbeats 4000000 in
theorem refLeast_c (s : Sd) (tp : Nat) (ss ps : List Int) (qS qP : Option Addr) (dS dP : Nat) (w : World) (ok : Ok s) (hl : Lists w s pT pF pS cT cF cS) (hs : Row w qS 1 (ints ss)) (hp : Row w qP 1 (ints ps)) (ls : ss.length ≤ maxLen) (lp : ps.length ≤ maxLen) (ht : tp < s.floors.length) :
    Calls Try.prog 92 #[sdVal s pT pF pS cT cF cS, .int .i64 tp, .slice qS ss.length dS, .slice qP ps.length dP] w fun e w' => e = .returned (.int .i64 ((lowR s ss ps)[tp]?.getD 0)) ∧ Up w w' := by
  have f8 := ok.fl1
  have s16 := ok.sl
  obtain ⟨i0, hi, hz0, hz1, hz2⟩ := info_parts info3
  have HH := Lib.hid (fun (l : List Int) (p : Option Addr) (c : Nat) (n : Int) (W : World) (hr : Row W p 1 (ints l)) (hm : l.length ≤ maxLen) => has_c l p c n W hr hm)
  have HL := Lib.hid hl
  have HS := Lib.hid hs
  have HP := Lib.hid hp
  have OK := Lib.hid ok
  clear hl hs hp ok
  unfold sdVal
  go_enter Try.func92, Try.ntmps92
  go_wp2_with fail
  have BS : Hid (Blk (w.alloc (.cells #[.slice pT s.table.length cT, .int .i64 s.lo, .int .i64 s.hi, .slice pF s.floors.length cF, .slice pS s.sills.length cS] 37)) w.heap.size (sdCells s pT pF pS cT cF cS) 37) := Lib.hid (Blk.new w (sdCells s pT pF pS cT cF cS) 37)
  have U0 : Hid (Up w (w.alloc (.cells #[.slice pT s.table.length cT, .int .i64 s.lo, .int .i64 s.hi, .slice pF s.floors.length cF, .slice pS s.sills.length cS] 37))) := Lib.hid (by (repeat (first | exact Below.refl _ _ | (with_reducible refine Below.drewN' ?_ _) | (with_reducible refine Below.drew ?_) | (with_reducible refine Below.setCell ?_ (by first | exact Nat.le_refl _ | omega | (with_reducible (repeat (first | refine sz_alloc ?_ | refine sz_setCell ?_ | refine sz_drew ?_ | refine sz_drewN ?_)); first | exact Nat.le_refl _ | omega) | (simp only [World.size_alloc, World.size_setCell, World.size_drew, size_drewN']; omega)) _) | (with_reducible refine Below.alloc ?_ (by first | exact Nat.le_refl _ | omega | (with_reducible (repeat (first | refine sz_alloc ?_ | refine sz_setCell ?_ | refine sz_drew ?_ | refine sz_drewN ?_)); first | exact Nat.le_refl _ | omega) | (simp only [World.size_alloc, World.size_setCell, World.size_drew, size_drewN']; omega)) _) | assumption)))
  generalize (w.alloc (.cells #[.slice pT s.table.length cT, .int .i64 s.lo, .int .i64 s.hi, .slice pF s.floors.length cF, .slice pS s.sills.length cS] 37)) = w0 at *
  have hbs : w.heap.size < w0.heap.size := BS.out.lt
  go_loopw [10, 9] (fun i v wr => ∃ k : Nat, k ≤ s.floors.length ∧ i = .int .i64 k ∧ wr.ownsRow w0.heap.size 3 1 v k (ints (List.replicate k 5000)).flatten ∧ Up w0 wr) (fun i _ _ => s.floors.length - (intOf i).toNat)
  case atStart => exact ⟨0, by omega, rfl, World.ownsRow_nil _ _ _ _, Below.refl _ _⟩
  case round =>
    obtain ⟨k, hk, rfl, hown, hu⟩ := hrel
    have HO := Lib.hid hown
    have HU := Lib.hid hu
    have hsz := hu.size
    obtain ⟨c0, c1, c2, c3, c4⟩ := five (BS.out.up hu)
    clear hown hu
    by_cases hlt : k < s.floors.length
    · have k1 : (k : Int) < s.floors.length := by omega
      go_wp2_with (at_builtin; refine wpList_append_own _ rfl _ _ 25 rfl w0.heap.size 3 i0 (.int .i64 0) 1 8 Try.underlying25 hi hz0 hz1 hz2 rfl (by decide) _ _ _ rfl (HO.out.alloc _) ⟨wr.heap.size, 0, none⟩ 1 1 [.int .i64 5000] rfl rfl (newsAt _ rfl [.int .i64 5000] _) (by simp [Value.oneCell']) (by simp [maxLen]; omega) (by omega) (sz_alloc hsz) ?_; intro v' w8 hown8 hgr8 hnn; clear hnn)
      have U8 := Lib.hid ((HU.out.alloc hsz _).grown hgr8 (sz_alloc hsz) (fun j e => (HO.out.lt j e).1))
      have O8 := Lib.hid hown8
      clear hown8 hgr8
      go_roundw
      case rel =>
        try ((repeat apply Exists.intro); refine ⟨?_, rfl⟩)
        refine ⟨k + 1, by omega, by go_num, ?_, U8.out⟩
        have e : (ints (List.replicate (k + 1) 5000)).flatten = (ints (List.replicate k 5000)).flatten ++ [.int .i64 5000] := by
          rw [List.replicate_succ']
          unfold ints
          rw [List.map_append, List.flatten_append]
          rfl
        rw [e]
        exact O8.out
      case measure => simp [intOf]; omega
    · obtain rfl : k = s.floors.length := by omega
      obtain ⟨q, d, rfl, a1, a2, hR, hge⟩ := Row.of_own (rows := ints (List.replicate s.floors.length 5000)) (flatOk_ints _) HO.out (by simp [ints])
      have hlen : (ints (List.replicate s.floors.length 5000)).length = s.floors.length := by simp [ints]
      obtain ⟨g, hg, hg0, rb⟩ := RowBlk.of (rows := ints (List.replicate s.floors.length 5000)) (p := q) (c := d) (by rw [hlen]; exact HO.out) (ints_len _) (by rw [hlen]; have := OK.out.fl0; omega)
      subst hg
      have RB := Lib.hid rb
      clear rb hR hge HO hi hz0 hz1 hz2 hlen hlt
      generalize wr = w1 at *
      have U1 := Lib.hid (Up.trans U0.out HU.out)
      have ok := OK.out
      go_wp2_with fail
      go_loopw [11] (fun r wr => ∃ k : Nat, k ≤ s.floors.length ∧ r = .int .i64 k ∧ IntBlk wr g (rounds s ss ps k) ∧ Up w0 wr) (fun r _ => s.floors.length - (intOf r).toNat)
      case atStart => exact ⟨0, by omega, rfl, RB.out, HU.out⟩
      case round =>
        obtain ⟨k, hk, rfl, hb, hu⟩ := hrel
        have HB := Lib.hid hb
        have HU2 := Lib.hid hu
        obtain ⟨c0, c1, c2, c3, c4⟩ := five (BS.out.up hu)
        clear hb hu
        by_cases hlt : k < s.floors.length
        · have k1 : (k : Int) < s.floors.length := by omega
          have HRK := Lib.hid (show rounds s ss ps (k + 1) = rpass s ss ps (rounds s ss ps k) s.sills.length from rfl)
          have hgl := rounds_len (s := s) (ss := ss) (ps := ps) k
          generalize rounds s ss ps k = G0 at *
          go_wp2_with fail
          go_loopw [12] (fun r wx => ∃ i : Nat, i ≤ s.sills.length ∧ r = .int .i64 i ∧ IntBlk wx g (rpass s ss ps G0 i) ∧ Up w0 wx) (fun r _ => s.sills.length - (intOf r).toNat)
          case atStart => exact ⟨0, by omega, rfl, HB.out, HU2.out⟩
          case round =>
            obtain ⟨i, hi, rfl, hb, hu⟩ := hrel
            have HB2 := Lib.hid hb
            have HU3 := Lib.hid hu
            clear hb hu c0 c1 c2 c3 c4
            obtain ⟨c0, c1, c2, c3, c4⟩ := five (BS.out.up HU3.out)
            by_cases hli : i < s.sills.length
            · have i1 : (i : Int) < s.sills.length := by omega
              obtain ⟨bs, os, rfl, d0, d1, d2⟩ := HL.out.rs.triple i hli
              have UW := Lib.hid (Up.trans U0.out HU3.out)
              have d0' := UW.out.cellAt d0
              have d1' := UW.out.cellAt d1
              have d2' := UW.out.cellAt d2
              obtain ⟨x1, x2, x3⟩ := EndOk.of ok (List.getElem_mem hli)
              have HRP := Lib.hid (show rpass s ss ps G0 (i + 1) = relB s ss ps i (relB s ss ps i (rpass s ss ps G0 i) s.sills[i].1 s.sills[i].2.1 s.sills[i].2.2) s.sills[i].2.1 s.sills[i].1 s.sills[i].2.2 by
                show rsill s ss ps (rpass s ss ps G0 i) i (s.sills[i]?.getD (0, 0, 0)) = _
                rw [List.getElem?_eq_getElem hli, Option.getD_some]
                rfl)
              have hpl : (rpass s ss ps G0 i).length = s.floors.length := by rw [rpass_len, hgl]
              generalize rpass s ss ps G0 i = G at *
              generalize s.sills[i] = x at *
              obtain ⟨a, b, h⟩ := x
              dsimp only at d0' d1' d2' x1 x2 x3 HRP
              clear d0 d1 d2
              go_upto_region 13 with fail
              have BX : Hid (Blk (wr.alloc (.cells #[.int .i64 a, .int .i64 b, .int .i64 h] 131)) wr.heap.size [.int .i64 a, .int .i64 b, .int .i64 h] 131) := Lib.hid (Blk.new wr [.int .i64 a, .int .i64 b, .int .i64 h] 131)
              have VA : Hid (Up wr (wr.alloc (.cells #[.int .i64 a, .int .i64 b, .int .i64 h] 131))) := Lib.hid (by (repeat (first | exact Below.refl _ _ | (with_reducible refine Below.drewN' ?_ _) | (with_reducible refine Below.drew ?_) | (with_reducible refine Below.setCell ?_ (by first | exact Nat.le_refl _ | omega | (with_reducible (repeat (first | refine sz_alloc ?_ | refine sz_setCell ?_ | refine sz_drew ?_ | refine sz_drewN ?_)); first | exact Nat.le_refl _ | omega) | (simp only [World.size_alloc, World.size_setCell, World.size_drew, size_drewN']; omega)) _) | (with_reducible refine Below.alloc ?_ (by first | exact Nat.le_refl _ | omega | (with_reducible (repeat (first | refine sz_alloc ?_ | refine sz_setCell ?_ | refine sz_drew ?_ | refine sz_drewN ?_)); first | exact Nat.le_refl _ | omega) | (simp only [World.size_alloc, World.size_setCell, World.size_drew, size_drewN']; omega)) _) | assumption)))
              have UA := Lib.hid (Up.trans HU3.out VA.out)
              have IA := Lib.hid (HB2.out.up VA.out)
              have gne : g ≠ wr.heap.size := by have := HB2.out.lt; omega
              clear HB2 HU3 VA UW d0' d1' d2' c0 c1 c2 c3 c4
              generalize (wr.alloc (.cells #[.int .i64 a, .int .i64 b, .int .i64 h] 131)) = wa at *
              generalize wr.heap.size = X at *
              have ha3 : a = -1 ∨ 0 ≤ a ∧ a < s.floors.length := x1
              have hb3 : b = -1 ∨ 0 ≤ b ∧ b < s.floors.length := x2

              have RS := Lib.hid (HS.out.up (Up.trans U0.out UA.out))
              have RP := Lib.hid (HP.out.up (Up.trans U0.out UA.out))
              have y0 := BX.out.cell 0
              have y1 := BX.out.cell 1
              have y2 := BX.out.cell 2
              have ly := BX.out.lt
              simp only [List.getElem?_cons_zero, List.getElem?_cons_succ] at y0 y1 y2
              go_cut [58] (fun c wx => c = .bool (decide (0 ≤ b ∧ (i : Int) ∉ ss ∧ b ∉ ps)) ∧ wa = wx)
              case first =>
                by_cases hb0 : 0 ≤ b
                · have hb5 : decide (0 ≤ b) = true := decide_eq_true hb0
                  go_wp2_with fail
                  refine (HH.out ss qS dS i wa RS.out ls).mono ?_
                  rintro e w' ⟨he, rfl⟩
                  by_cases h1 : (i : Int) ∈ ss
                  · rw [decide_eq_true h1] at he
                    subst he
                    have HV := Lib.hid (show decide (0 ≤ b ∧ (i : Int) ∉ ss ∧ b ∉ ps) = false from decide_eq_false (fun k => k.2.1 h1))
                    clear h1
                    go_wp2_with fail
                    go_meet
                    exact ⟨by rw [HV.out], rfl⟩
                  · rw [decide_eq_false h1] at he
                    subst he
                    have H1 := Lib.hid h1
                    clear h1
                    go_wp2_with fail
                    refine (HH.out ps qP dP b wa RP.out lp).mono ?_
                    rintro e w' ⟨he, rfl⟩
                    by_cases h2 : b ∈ ps
                    · rw [decide_eq_true h2] at he
                      subst he
                      have HV := Lib.hid (show decide (0 ≤ b ∧ (i : Int) ∉ ss ∧ b ∉ ps) = false from decide_eq_false (fun k => k.2.2 h2))
                      clear h2
                      go_wp2_with fail
                      go_meet
                      exact ⟨by rw [HV.out], rfl⟩
                    · rw [decide_eq_false h2] at he
                      subst he
                      have HV := Lib.hid (show decide (0 ≤ b ∧ (i : Int) ∉ ss ∧ b ∉ ps) = true from decide_eq_true ⟨hb0, H1.out, h2⟩)
                      clear h2
                      go_wp2_with fail
                      go_meet
                      exact ⟨by rw [HV.out], rfl⟩
                · have HV := Lib.hid (show decide (0 ≤ b ∧ (i : Int) ∉ ss ∧ b ∉ ps) = false from decide_eq_false (fun k => hb0 k.1))
                  have hb0' : b < 0 := by omega
                  have hb5 : decide (0 ≤ b) = false := decide_eq_false hb0
                  clear hb0
                  go_wp2_with fail
                  go_meet
                  exact ⟨by rw [HV.out], rfl⟩
              case rest =>
                obtain ⟨rfl, rfl⟩ := hcut
                go_upto_if 58 with fail
                go_cut [] (fun wx => IntBlk wx g (relB s ss ps i G a b h) ∧ Blk wx X [.int .i64 a, .int .i64 b, .int .i64 h] 131 ∧ Up w0 wx)
                case first =>
                  by_cases hc : 0 ≤ b ∧ (i : Int) ∉ ss ∧ b ∉ ps
                  · rw [decide_eq_true hc]
                    have hb4 : 0 ≤ b ∧ b < s.floors.length := by have := hc.1; omega
                    have HRB := Lib.hid (show relB s ss ps i G a b h = G.set b.toNat (min (G[b.toNat]?.getD 0) (ovr s G a b h)) by unfold relB; rw [if_pos hc])
                    clear hc
                    have HOV := Lib.hid (fun W (u : Up wa W) => over_c s G g s.floors.length d a b h W hpl (HL.out.up (Up.trans U0.out (Up.trans UA.out u))) (RowBlk.row (RowBlk.up IA.out u)) ha3 hb4 (by omega) (by omega))
                    obtain ⟨n, hn⟩ := Int.eq_ofNat_of_zero_le hb4.1
                    have hnl : n < G.length := by omega
                    have z0 := IntBlk.at IA.out n hnl
                    have HG := Lib.hid (show G[b.toNat]?.getD 0 = G[n] by rw [hn, Int.toNat_natCast, List.getElem?_eq_getElem hnl]; rfl)
                    have HN := Lib.hid (show b.toNat = n by omega)
                    obtain ⟨c0, c1, c2, c3, c4⟩ := five (BS.out.up UA.out)
                    have lg := IA.out.lt
                    have lb := (BS.out.up UA.out).lt
                    subst hn
                    have n1 : (n : Int) < s.floors.length := hb4.2
                    generalize ovr s G a n h = ov at *
                    generalize G[n] = lo at *
                    go_upto_region 14 with fail
                    refine region_tail (fun W' => W'.cell? ⟨X, 0, none⟩ = some (.int .i64 a) ∧ W'.cell? ⟨X, 1, none⟩ = some (.int .i64 (n : Int)) ∧ W'.cell? ⟨X, 2, none⟩ = some (.int .i64 h) ∧ W'.cell? ⟨g, n, none⟩ = some (.int .i64 lo) ∧ W'.cell? ⟨w.heap.size, 0, none⟩ = some (.slice pT s.table.length cT) ∧ W'.cell? ⟨w.heap.size, 1, none⟩ = some (.int .i64 s.lo) ∧ W'.cell? ⟨w.heap.size, 2, none⟩ = some (.int .i64 s.hi) ∧ W'.cell? ⟨w.heap.size, 3, none⟩ = some (.slice pF s.floors.length cF) ∧ W'.cell? ⟨w.heap.size, 4, none⟩ = some (.slice (some ⟨bs, os, none⟩) s.sills.length cS)) 18 mixed (by kernel_rfl) ⟨y0, y1, y2, z0, c0, c1, c2, c3, c4⟩ (fun hHeld => ?_)
                    refine wpAnyG_take 0 59 (v := ?_) rfl rfl (by kernel_rfl) (fun _ _ _ h => h) (Or.inl ⟨by rfl, ?_⟩) (by assumption) ?_
                    rotate_left
                    · (intro w' hSw; (try dsimp only at hSw); go_split_ands; go_simp; try with_reducible rfl)
                    try simp only [List.setIfInBounds_toArray, List.set_cons_zero, List.set_cons_succ]
                    refine wpAnyG_take 1 60 (v := ?_) rfl rfl (by kernel_rfl) (fun _ _ _ h => h) (Or.inl ⟨by rfl, ?_⟩) (by assumption) ?_
                    rotate_left
                    · (intro w' hSw; (try dsimp only at hSw); go_split_ands; go_simp; try with_reducible rfl)
                    try simp only [List.setIfInBounds_toArray, List.set_cons_zero, List.set_cons_succ]
                    refine wpAnyG_take 2 61 (v := ?_) rfl rfl (by kernel_rfl) (fun _ _ _ h => h) (Or.inl ⟨by rfl, ?_⟩) (by assumption) ?_
                    rotate_left
                    · (intro w' hSw; (try dsimp only at hSw); go_split_ands; go_simp; try with_reducible rfl)
                    try simp only [List.setIfInBounds_toArray, List.set_cons_zero, List.set_cons_succ]
                    refine wpAnyG_take 3 62 (v := ?_) rfl rfl (by kernel_rfl) (fun _ _ _ h => h) (Or.inl ⟨by rfl, ?_⟩) (by assumption) ?_
                    rotate_left
                    · (intro w' hSw; (try dsimp only at hSw); go_split_ands; go_simp; try with_reducible rfl)
                    try simp only [List.setIfInBounds_toArray, List.set_cons_zero, List.set_cons_succ]
                    refine wpAnyG_take 4 63 (v := ?_) rfl rfl (by kernel_rfl) (fun _ _ _ h => h) (Or.inl ⟨by rfl, ?_⟩) (by assumption) ?_
                    rotate_left
                    · (intro w' hSw; (try dsimp only at hSw); go_split_ands; go_simp; try with_reducible rfl)
                    try simp only [List.setIfInBounds_toArray, List.set_cons_zero, List.set_cons_succ]
                    refine wpAnyG_take 5 64 (v := ?_) rfl rfl (by kernel_rfl) (fun _ _ _ h => h) (Or.inl ⟨by rfl, ?_⟩) (by assumption) ?_
                    rotate_left
                    · (intro w' hSw; (try dsimp only at hSw); go_split_ands; go_simp; try with_reducible rfl)
                    try simp only [List.setIfInBounds_toArray, List.set_cons_zero, List.set_cons_succ]
                    refine wpAnyG_take 6 65 (v := ?_) rfl rfl (by kernel_rfl) (fun _ _ _ h => h) (Or.inl ⟨by rfl, ?_⟩) (by assumption) ?_
                    rotate_left
                    · (intro w' hSw; (try dsimp only at hSw); go_split_ands; go_simp; try with_reducible rfl)
                    try simp only [List.setIfInBounds_toArray, List.set_cons_zero, List.set_cons_succ]
                    refine wpAnyG_take 7 66 (v := ?_) rfl rfl (by kernel_rfl) (fun _ _ _ h => h) (Or.inl ⟨by rfl, ?_⟩) (by assumption) ?_
                    rotate_left
                    · (intro w' hSw; (try dsimp only at hSw); go_split_ands; go_simp; try with_reducible rfl)
                    try simp only [List.setIfInBounds_toArray, List.set_cons_zero, List.set_cons_succ]
                    refine wpAnyG_take 8 67 (v := ?_) rfl rfl (by kernel_rfl) (fun _ _ _ h => h) (Or.inl ⟨by rfl, ?_⟩) (by assumption) ?_
                    rotate_left
                    · (intro w' hSw; (try dsimp only at hSw); go_split_ands; go_simp; try with_reducible rfl)
                    try simp only [List.setIfInBounds_toArray, List.set_cons_zero, List.set_cons_succ]
                    refine wpAnyG_take 9 68 (v := ?_) rfl rfl (by kernel_rfl) (fun _ _ _ h => h) (Or.inl ⟨by rfl, ?_⟩) (by assumption) ?_
                    rotate_left
                    · (intro w' hSw; (try dsimp only at hSw); go_split_ands; go_simp; try with_reducible rfl)
                    try simp only [List.setIfInBounds_toArray, List.set_cons_zero, List.set_cons_succ]
                    refine wpAnyG_take 10 69 (v := ?_) rfl rfl (by kernel_rfl) (fun _ _ _ h => h) (Or.inl ⟨by rfl, ?_⟩) (by assumption) ?_
                    rotate_left
                    · (intro w' hSw; (try dsimp only at hSw); go_split_ands; go_simp; try with_reducible rfl)
                    try simp only [List.setIfInBounds_toArray, List.set_cons_zero, List.set_cons_succ]
                    refine wpAnyG_take 11 70 (v := ?_) rfl rfl (by kernel_rfl) (fun _ _ _ h => h) (Or.inl ⟨by rfl, ?_⟩) (by assumption) ?_
                    rotate_left
                    · (intro w' hSw; (try dsimp only at hSw); go_split_ands; go_simp; try with_reducible rfl)
                    try simp only [List.setIfInBounds_toArray, List.set_cons_zero, List.set_cons_succ]
                    refine wpAnyG_take 12 71 (v := ?_) rfl rfl (by kernel_rfl) (fun _ _ _ h => h) (Or.inl ⟨by rfl, ?_⟩) (by assumption) ?_
                    rotate_left
                    · (intro w' hSw; (try dsimp only at hSw); go_split_ands; go_simp; try with_reducible rfl)
                    try simp only [List.setIfInBounds_toArray, List.set_cons_zero, List.set_cons_succ]
                    refine wpAnyG_take 13 72 (v := ?_) rfl rfl (by kernel_rfl) (fun _ _ _ h => h) (Or.inl ⟨by rfl, ?_⟩) (by assumption) ?_
                    rotate_left
                    · (intro w' hSw; (try dsimp only at hSw); go_split_ands; go_simp; try with_reducible rfl)
                    try simp only [List.setIfInBounds_toArray, List.set_cons_zero, List.set_cons_succ]
                    refine wpAnyG_take 14 73 (v := ?_) rfl rfl (by kernel_rfl) (fun _ _ _ h => h) (Or.inl ⟨by rfl, ?_⟩) (by assumption) ?_
                    rotate_left
                    · (intro w' hSw; (try dsimp only at hSw); go_split_ands; go_simp; try with_reducible rfl)
                    try simp only [List.setIfInBounds_toArray, List.set_cons_zero, List.set_cons_succ]
                    refine wpAnyG_take 15 74 (v := ?_) rfl rfl (by kernel_rfl) (fun _ _ _ h => h) (Or.inl ⟨by rfl, ?_⟩) (by assumption) ?_
                    rotate_left
                    · (intro w' hSw; (try dsimp only at hSw); go_split_ands; go_simp; try with_reducible rfl)
                    try simp only [List.setIfInBounds_toArray, List.set_cons_zero, List.set_cons_succ]
                    refine wpAnyG_do 16 rfl (by kernel_rfl) (fun K hK => ?_)
                    rw [if_pos (by rfl)]
                    go_simp
                    refine (HOV.out _ ((Below.refl _ _).drew)).mono ?_
                    rintro e wv ⟨rfl, vv⟩
                    have vv' : Up wa wv := Up.trans ((Below.refl _ _).drew) vv
                    refine hK.out _ _ ⟨vv'.cellAt y0, vv'.cellAt y1, vv'.cellAt y2, vv'.cellAt z0, vv'.cellAt c0, vv'.cellAt c1, vv'.cellAt c2, vv'.cellAt c3, vv'.cellAt c4⟩ (fun hHeld => ?_)
                    clear hK K
                    have IV := Lib.hid (RowBlk.up IA.out vv')
                    have XV := Lib.hid (BX.out.up vv')
                    have UV := Lib.hid (Up.trans UA.out vv')
                    have lgv := IV.out.lt
                    have fgv := IV.out.free
                    have zv := vv'.cellAt z0
                    by_cases hmin : ov < lo
                    · have HMIN := Lib.hid (show min lo ov = ov by omega)
                      refine wpAnyG_take 17 76 (v := .int .i64 ov) rfl rfl (by kernel_rfl) (fun _ _ _ h => h) (Or.inl ⟨by rfl, ?_⟩) (by assumption) ?_
                      · intro w' _
                        go_simp
                      try simp only [List.setIfInBounds_toArray, List.set_cons_zero, List.set_cons_succ]
                      clear hHeld vv vv' z0 c0 c1 c2 c3 c4 y0 y1 y2 HOV
                      refine wpAnyG_tail (by kernel_rfl) ?_
                      change wpList _ _ _ [_, _] _ _
                      go_wp2_with fail
                      go_meet
                      refine ⟨?_, XV.out.other (by simp only []; omega) _, UV.out.setCell (by simp only []; omega) _⟩
                      rw [HRB.out, HG.out, HN.out, HMIN.out]
                      exact IntBlk.put IV.out n hnl ov
                    · have HMIN := Lib.hid (show min lo ov = lo by omega)
                      refine wpAnyG_take 17 76 (v := .int .i64 lo) rfl rfl (by kernel_rfl) (fun _ _ _ h => h) (Or.inl ⟨by rfl, ?_⟩) (by assumption) ?_
                      · intro w' _
                        go_simp
                      try simp only [List.setIfInBounds_toArray, List.set_cons_zero, List.set_cons_succ]
                      clear hHeld vv vv' z0 c0 c1 c2 c3 c4 y0 y1 y2 HOV
                      refine wpAnyG_tail (by kernel_rfl) ?_
                      change wpList _ _ _ [_, _] _ _
                      go_wp2_with fail
                      go_meet
                      refine ⟨?_, XV.out.other (by simp only []; omega) _, UV.out.setCell (by simp only []; omega) _⟩
                      rw [HRB.out, HG.out, HN.out, HMIN.out]
                      exact IntBlk.put IV.out n hnl lo
                  · rw [decide_eq_false hc]
                    have HRB := Lib.hid (relB_ends (s := s) (g := G) (a := a) (h := h) hc)
                    clear hc
                    go_wp2_with fail
                    go_meet
                    exact ⟨by rw [HRB.out]; exact IA.out, BX.out, UA.out⟩
                case rest =>
                  obtain ⟨hi4, hx4, hu4⟩ := hcut
                  have hpl4 : (relB s ss ps i G a b h).length = s.floors.length := by rw [relB_len]; exact hpl

                  clear IA UA BX RS RP y0 y1 y2 ly hpl
                  generalize hG1' : relB s ss ps i G a b h = G1 at *
                  have hG1 := Lib.hid hG1'
                  clear hG1'
                  have IA := Lib.hid hi4
                  have BX := Lib.hid hx4
                  have UA := Lib.hid hu4
                  have hpl := hpl4
                  clear hi4 hx4 hu4 hpl4
                  generalize wc = wb at *
                  go_upto_region 15 with fail

                  have RS := Lib.hid (HS.out.up (Up.trans U0.out UA.out))
                  have RP := Lib.hid (HP.out.up (Up.trans U0.out UA.out))
                  have y0 := BX.out.cell 0
                  have y1 := BX.out.cell 1
                  have y2 := BX.out.cell 2
                  have ly := BX.out.lt
                  simp only [List.getElem?_cons_zero, List.getElem?_cons_succ] at y0 y1 y2
                  go_cut [93] (fun c wx => c = .bool (decide (0 ≤ a ∧ (i : Int) ∉ ss ∧ a ∉ ps)) ∧ wb = wx)
                  case first =>
                    by_cases hb0 : 0 ≤ a
                    · have hb5 : decide (0 ≤ a) = true := decide_eq_true hb0
                      go_wp2_with fail
                      refine (HH.out ss qS dS i wb RS.out ls).mono ?_
                      rintro e w' ⟨he, rfl⟩
                      by_cases h1 : (i : Int) ∈ ss
                      · rw [decide_eq_true h1] at he
                        subst he
                        have HV := Lib.hid (show decide (0 ≤ a ∧ (i : Int) ∉ ss ∧ a ∉ ps) = false from decide_eq_false (fun k => k.2.1 h1))
                        clear h1
                        go_wp2_with fail
                        go_meet
                        exact ⟨by rw [HV.out], rfl⟩
                      · rw [decide_eq_false h1] at he
                        subst he
                        have H1 := Lib.hid h1
                        clear h1
                        go_wp2_with fail
                        refine (HH.out ps qP dP a wb RP.out lp).mono ?_
                        rintro e w' ⟨he, rfl⟩
                        by_cases h2 : a ∈ ps
                        · rw [decide_eq_true h2] at he
                          subst he
                          have HV := Lib.hid (show decide (0 ≤ a ∧ (i : Int) ∉ ss ∧ a ∉ ps) = false from decide_eq_false (fun k => k.2.2 h2))
                          clear h2
                          go_wp2_with fail
                          go_meet
                          exact ⟨by rw [HV.out], rfl⟩
                        · rw [decide_eq_false h2] at he
                          subst he
                          have HV := Lib.hid (show decide (0 ≤ a ∧ (i : Int) ∉ ss ∧ a ∉ ps) = true from decide_eq_true ⟨hb0, H1.out, h2⟩)
                          clear h2
                          go_wp2_with fail
                          go_meet
                          exact ⟨by rw [HV.out], rfl⟩
                    · have HV := Lib.hid (show decide (0 ≤ a ∧ (i : Int) ∉ ss ∧ a ∉ ps) = false from decide_eq_false (fun k => hb0 k.1))
                      have hb0' : a < 0 := by omega
                      have hb5 : decide (0 ≤ a) = false := decide_eq_false hb0
                      clear hb0
                      go_wp2_with fail
                      go_meet
                      exact ⟨by rw [HV.out], rfl⟩
                  case rest =>
                    obtain ⟨rfl, rfl⟩ := hcut
                    go_upto_if 93 with fail
                    have HRP2 := Lib.hid (show rpass s ss ps G0 (i + 1) = relB s ss ps i G1 b a h from HRP.out)
                    by_cases hc : 0 ≤ a ∧ (i : Int) ∉ ss ∧ a ∉ ps
                    · rw [decide_eq_true hc]
                      have hb4 : 0 ≤ a ∧ a < s.floors.length := by have := hc.1; omega
                      have HRB := Lib.hid (show relB s ss ps i G1 b a h = G1.set a.toNat (min (G1[a.toNat]?.getD 0) (ovr s G1 b a h)) by unfold relB; rw [if_pos hc])
                      clear hc
                      have HOV := Lib.hid (fun W (u : Up wb W) => over_c s G1 g s.floors.length d b a h W hpl (HL.out.up (Up.trans U0.out (Up.trans UA.out u))) (RowBlk.row (RowBlk.up IA.out u)) hb3 hb4 (by omega) (by omega))
                      obtain ⟨n, hn⟩ := Int.eq_ofNat_of_zero_le hb4.1
                      have hnl : n < G1.length := by omega
                      have z0 := IntBlk.at IA.out n hnl
                      have HG := Lib.hid (show G1[a.toNat]?.getD 0 = G1[n] by rw [hn, Int.toNat_natCast, List.getElem?_eq_getElem hnl]; rfl)
                      have HN := Lib.hid (show a.toNat = n by omega)
                      obtain ⟨c0, c1, c2, c3, c4⟩ := five (BS.out.up UA.out)
                      have lg := IA.out.lt
                      have lb := (BS.out.up UA.out).lt
                      subst hn
                      have n1 : (n : Int) < s.floors.length := hb4.2
                      generalize ovr s G1 b n h = ov at *
                      generalize G1[n] = lo at *
                      go_upto_region 16 with fail
                      refine region_tail (fun W' => W'.cell? ⟨X, 0, none⟩ = some (.int .i64 (n : Int)) ∧ W'.cell? ⟨X, 1, none⟩ = some (.int .i64 b) ∧ W'.cell? ⟨X, 2, none⟩ = some (.int .i64 h) ∧ W'.cell? ⟨g, n, none⟩ = some (.int .i64 lo) ∧ W'.cell? ⟨w.heap.size, 0, none⟩ = some (.slice pT s.table.length cT) ∧ W'.cell? ⟨w.heap.size, 1, none⟩ = some (.int .i64 s.lo) ∧ W'.cell? ⟨w.heap.size, 2, none⟩ = some (.int .i64 s.hi) ∧ W'.cell? ⟨w.heap.size, 3, none⟩ = some (.slice pF s.floors.length cF) ∧ W'.cell? ⟨w.heap.size, 4, none⟩ = some (.slice (some ⟨bs, os, none⟩) s.sills.length cS)) 18 mixed (by kernel_rfl) ⟨y0, y1, y2, z0, c0, c1, c2, c3, c4⟩ (fun hHeld => ?_)
                      refine wpAnyG_take 0 94 (v := ?_) rfl rfl (by kernel_rfl) (fun _ _ _ h => h) (Or.inl ⟨by rfl, ?_⟩) (by assumption) ?_
                      rotate_left
                      · (intro w' hSw; (try dsimp only at hSw); go_split_ands; go_simp; try with_reducible rfl)
                      try simp only [List.setIfInBounds_toArray, List.set_cons_zero, List.set_cons_succ]
                      refine wpAnyG_take 1 95 (v := ?_) rfl rfl (by kernel_rfl) (fun _ _ _ h => h) (Or.inl ⟨by rfl, ?_⟩) (by assumption) ?_
                      rotate_left
                      · (intro w' hSw; (try dsimp only at hSw); go_split_ands; go_simp; try with_reducible rfl)
                      try simp only [List.setIfInBounds_toArray, List.set_cons_zero, List.set_cons_succ]
                      refine wpAnyG_take 2 96 (v := ?_) rfl rfl (by kernel_rfl) (fun _ _ _ h => h) (Or.inl ⟨by rfl, ?_⟩) (by assumption) ?_
                      rotate_left
                      · (intro w' hSw; (try dsimp only at hSw); go_split_ands; go_simp; try with_reducible rfl)
                      try simp only [List.setIfInBounds_toArray, List.set_cons_zero, List.set_cons_succ]
                      refine wpAnyG_take 3 97 (v := ?_) rfl rfl (by kernel_rfl) (fun _ _ _ h => h) (Or.inl ⟨by rfl, ?_⟩) (by assumption) ?_
                      rotate_left
                      · (intro w' hSw; (try dsimp only at hSw); go_split_ands; go_simp; try with_reducible rfl)
                      try simp only [List.setIfInBounds_toArray, List.set_cons_zero, List.set_cons_succ]
                      refine wpAnyG_take 4 98 (v := ?_) rfl rfl (by kernel_rfl) (fun _ _ _ h => h) (Or.inl ⟨by rfl, ?_⟩) (by assumption) ?_
                      rotate_left
                      · (intro w' hSw; (try dsimp only at hSw); go_split_ands; go_simp; try with_reducible rfl)
                      try simp only [List.setIfInBounds_toArray, List.set_cons_zero, List.set_cons_succ]
                      refine wpAnyG_take 5 99 (v := ?_) rfl rfl (by kernel_rfl) (fun _ _ _ h => h) (Or.inl ⟨by rfl, ?_⟩) (by assumption) ?_
                      rotate_left
                      · (intro w' hSw; (try dsimp only at hSw); go_split_ands; go_simp; try with_reducible rfl)
                      try simp only [List.setIfInBounds_toArray, List.set_cons_zero, List.set_cons_succ]
                      refine wpAnyG_take 6 100 (v := ?_) rfl rfl (by kernel_rfl) (fun _ _ _ h => h) (Or.inl ⟨by rfl, ?_⟩) (by assumption) ?_
                      rotate_left
                      · (intro w' hSw; (try dsimp only at hSw); go_split_ands; go_simp; try with_reducible rfl)
                      try simp only [List.setIfInBounds_toArray, List.set_cons_zero, List.set_cons_succ]
                      refine wpAnyG_take 7 101 (v := ?_) rfl rfl (by kernel_rfl) (fun _ _ _ h => h) (Or.inl ⟨by rfl, ?_⟩) (by assumption) ?_
                      rotate_left
                      · (intro w' hSw; (try dsimp only at hSw); go_split_ands; go_simp; try with_reducible rfl)
                      try simp only [List.setIfInBounds_toArray, List.set_cons_zero, List.set_cons_succ]
                      refine wpAnyG_take 8 102 (v := ?_) rfl rfl (by kernel_rfl) (fun _ _ _ h => h) (Or.inl ⟨by rfl, ?_⟩) (by assumption) ?_
                      rotate_left
                      · (intro w' hSw; (try dsimp only at hSw); go_split_ands; go_simp; try with_reducible rfl)
                      try simp only [List.setIfInBounds_toArray, List.set_cons_zero, List.set_cons_succ]
                      refine wpAnyG_take 9 103 (v := ?_) rfl rfl (by kernel_rfl) (fun _ _ _ h => h) (Or.inl ⟨by rfl, ?_⟩) (by assumption) ?_
                      rotate_left
                      · (intro w' hSw; (try dsimp only at hSw); go_split_ands; go_simp; try with_reducible rfl)
                      try simp only [List.setIfInBounds_toArray, List.set_cons_zero, List.set_cons_succ]
                      refine wpAnyG_take 10 104 (v := ?_) rfl rfl (by kernel_rfl) (fun _ _ _ h => h) (Or.inl ⟨by rfl, ?_⟩) (by assumption) ?_
                      rotate_left
                      · (intro w' hSw; (try dsimp only at hSw); go_split_ands; go_simp; try with_reducible rfl)
                      try simp only [List.setIfInBounds_toArray, List.set_cons_zero, List.set_cons_succ]
                      refine wpAnyG_take 11 105 (v := ?_) rfl rfl (by kernel_rfl) (fun _ _ _ h => h) (Or.inl ⟨by rfl, ?_⟩) (by assumption) ?_
                      rotate_left
                      · (intro w' hSw; (try dsimp only at hSw); go_split_ands; go_simp; try with_reducible rfl)
                      try simp only [List.setIfInBounds_toArray, List.set_cons_zero, List.set_cons_succ]
                      refine wpAnyG_take 12 106 (v := ?_) rfl rfl (by kernel_rfl) (fun _ _ _ h => h) (Or.inl ⟨by rfl, ?_⟩) (by assumption) ?_
                      rotate_left
                      · (intro w' hSw; (try dsimp only at hSw); go_split_ands; go_simp; try with_reducible rfl)
                      try simp only [List.setIfInBounds_toArray, List.set_cons_zero, List.set_cons_succ]
                      refine wpAnyG_take 13 107 (v := ?_) rfl rfl (by kernel_rfl) (fun _ _ _ h => h) (Or.inl ⟨by rfl, ?_⟩) (by assumption) ?_
                      rotate_left
                      · (intro w' hSw; (try dsimp only at hSw); go_split_ands; go_simp; try with_reducible rfl)
                      try simp only [List.setIfInBounds_toArray, List.set_cons_zero, List.set_cons_succ]
                      refine wpAnyG_take 14 108 (v := ?_) rfl rfl (by kernel_rfl) (fun _ _ _ h => h) (Or.inl ⟨by rfl, ?_⟩) (by assumption) ?_
                      rotate_left
                      · (intro w' hSw; (try dsimp only at hSw); go_split_ands; go_simp; try with_reducible rfl)
                      try simp only [List.setIfInBounds_toArray, List.set_cons_zero, List.set_cons_succ]
                      refine wpAnyG_take 15 109 (v := ?_) rfl rfl (by kernel_rfl) (fun _ _ _ h => h) (Or.inl ⟨by rfl, ?_⟩) (by assumption) ?_
                      rotate_left
                      · (intro w' hSw; (try dsimp only at hSw); go_split_ands; go_simp; try with_reducible rfl)
                      try simp only [List.setIfInBounds_toArray, List.set_cons_zero, List.set_cons_succ]
                      refine wpAnyG_do 16 rfl (by kernel_rfl) (fun K hK => ?_)
                      rw [if_pos (by rfl)]
                      go_simp
                      refine (HOV.out _ ((Below.refl _ _).drew)).mono ?_
                      rintro e wv ⟨rfl, vv⟩
                      have vv' : Up wb wv := Up.trans ((Below.refl _ _).drew) vv
                      refine hK.out _ _ ⟨vv'.cellAt y0, vv'.cellAt y1, vv'.cellAt y2, vv'.cellAt z0, vv'.cellAt c0, vv'.cellAt c1, vv'.cellAt c2, vv'.cellAt c3, vv'.cellAt c4⟩ (fun hHeld => ?_)
                      clear hK K
                      have IV := Lib.hid (RowBlk.up IA.out vv')
                      have XV := Lib.hid (BX.out.up vv')
                      have UV := Lib.hid (Up.trans UA.out vv')
                      have lgv := IV.out.lt
                      have fgv := IV.out.free
                      have zv := vv'.cellAt z0
                      by_cases hmin : ov < lo
                      · have HMIN := Lib.hid (show min lo ov = ov by omega)
                        refine wpAnyG_take 17 111 (v := .int .i64 ov) rfl rfl (by kernel_rfl) (fun _ _ _ h => h) (Or.inl ⟨by rfl, ?_⟩) (by assumption) ?_
                        · intro w' _
                          go_simp
                        try simp only [List.setIfInBounds_toArray, List.set_cons_zero, List.set_cons_succ]
                        clear hHeld vv vv' z0 c0 c1 c2 c3 c4 y0 y1 y2 HOV
                        refine wpAnyG_tail (by kernel_rfl) ?_
                        change wpList _ _ _ [_, _] _ _
                        go_wp2_with fail
                        go_roundw
                        case rel =>
                          try ((repeat apply Exists.intro); refine ⟨?_, rfl⟩)
                          refine ⟨i + 1, by omega, by go_num, ?_, UV.out.setCell (by simp only []; omega) _⟩
                          rw [HRP2.out, HRB.out, HG.out, HN.out, HMIN.out]
                          exact IntBlk.put IV.out n hnl ov
                        case measure => simp [intOf]; omega
                      · have HMIN := Lib.hid (show min lo ov = lo by omega)
                        refine wpAnyG_take 17 111 (v := .int .i64 lo) rfl rfl (by kernel_rfl) (fun _ _ _ h => h) (Or.inl ⟨by rfl, ?_⟩) (by assumption) ?_
                        · intro w' _
                          go_simp
                        try simp only [List.setIfInBounds_toArray, List.set_cons_zero, List.set_cons_succ]
                        clear hHeld vv vv' z0 c0 c1 c2 c3 c4 y0 y1 y2 HOV
                        refine wpAnyG_tail (by kernel_rfl) ?_
                        change wpList _ _ _ [_, _] _ _
                        go_wp2_with fail
                        go_roundw
                        case rel =>
                          try ((repeat apply Exists.intro); refine ⟨?_, rfl⟩)
                          refine ⟨i + 1, by omega, by go_num, ?_, UV.out.setCell (by simp only []; omega) _⟩
                          rw [HRP2.out, HRB.out, HG.out, HN.out, HMIN.out]
                          exact IntBlk.put IV.out n hnl lo
                        case measure => simp [intOf]; omega
                    · rw [decide_eq_false hc]
                      have HRB := Lib.hid (relB_ends (s := s) (g := G1) (a := b) (h := h) hc)
                      clear hc
                      go_wp2_with fail
                      go_roundw
                      case rel =>
                        try ((repeat apply Exists.intro); refine ⟨?_, rfl⟩)
                        exact ⟨i + 1, by omega, by go_num, by rw [HRP2.out, HRB.out]; exact IA.out, UA.out⟩
                      case measure => simp [intOf]; omega

            · obtain rfl : i = s.sills.length := by omega
              go_wp2_with fail
              go_roundw
              case rel =>
                try ((repeat apply Exists.intro); refine ⟨?_, rfl⟩)
                exact ⟨k + 1, by omega, by go_num, by rw [HRK.out]; exact HB2.out, HU3.out⟩
              case measure => simp [intOf]; omega
        · obtain rfl : k = s.floors.length := by omega
          have hll := rounds_len (s := s) (ss := ss) (ps := ps) s.floors.length
          have z0 := IntBlk.at HB.out tp (by omega)
          have HF := Lib.hid (show (lowR s ss ps)[tp]?.getD 0 = (rounds s ss ps s.floors.length)[tp]'(by omega) by unfold lowR; rw [List.getElem?_eq_getElem (by omega)]; rfl)
          have t1 : (tp : Int) < s.floors.length := by omega
          have lg := HB.out.lt
          generalize (rounds s ss ps s.floors.length)[tp] = rr at *
          go_wp2_with fail
          go_ret
          exact ⟨by rw [HF.out]; rfl, Up.trans U0.out HU2.out⟩
end
end Go.Proofs.Ytcljkkojeleakaa
/- Plain facts: the look that settles most. -/
namespace Go.Proofs.Ytcljkkojeleakaa
section
open Go.RowKit

/-- how many truths a look leaves at most, whatever is seen -/
def askMost (s : Sd) (m : Int) (p : Nat) : Int := max (siz (truV s (m, (p : Int), true))) (siz (s.lo, s.hi) - siz (truV s (m, (p : Int), true)))
def askOne (s : Sd) (m : Int) (z : Lk × Int) (p : Nat) : Lk × Int := if z.1 = (0, 0, false) ∨ askMost s m p < z.2 then ((m, (p : Int), true), askMost s m p) else z
def askRow (s : Sd) (m : Int) (z : Lk × Int) : Nat → Lk × Int
  | 0 => z
  | k + 1 => askOne s m (askRow s m z k) k
def askAll (s : Sd) : Nat → Lk × Int
  | 0 => ((0, 0, false), siz (s.lo, s.hi))
  | k + 1 => askRow s (firstM s.table + k) (askAll s k) s.floors.length
def askE (s : Sd) : Int := if chk s = 0 then (if siz (s.lo, s.hi) = 1 then 6 else 0) else chk s
def askV (s : Sd) : Lk × Int := if askE s = 0 then askAll s (dayN s) else ((0, 0, false), 0)

/-- the best of what has been looked at: the first of those that leave fewest -/
def Best (s : Sd) (seen : Int → Nat → Prop) (z : Lk × Int) : Prop :=
  (z = ((0, 0, false), siz (s.lo, s.hi)) ∧ ∀ m p, ¬ seen m p) ∨
  ∃ (m : Int) (p : Nat), z = ((m, (p : Int), true), askMost s m p) ∧ seen m p ∧ ∀ m' p', seen m' p' → askMost s m p ≤ askMost s m' p' ∧ (askMost s m p = askMost s m' p' → m < m' ∨ m = m' ∧ p ≤ p')

theorem Best.one {s : Sd} {seen seen' : Int → Nat → Prop} {z : Lk × Int} {m : Int} {p : Nat} (h : Best s seen z) (h1 : ∀ m' p', seen' m' p' ↔ seen m' p' ∨ m' = m ∧ p' = p) (h2 : ∀ m' p', seen m' p' → m' < m ∨ m' = m ∧ p' < p) :
    Best s seen' (askOne s m z p) := by
  rcases h with ⟨rfl, h0⟩ | ⟨m0, p0, rfl, hs, hb⟩
  · unfold askOne
    rw [if_pos (Or.inl rfl)]
    refine .inr ⟨m, p, rfl, (h1 _ _).2 (.inr ⟨rfl, rfl⟩), fun m' p' h => ?_⟩
    rcases (h1 _ _).1 h with h | ⟨rfl, rfl⟩
    · exact absurd h (h0 _ _)
    · exact ⟨Int.le_refl _, fun _ => .inr ⟨rfl, Nat.le_refl _⟩⟩
  · unfold askOne
    by_cases hc : askMost s m p < askMost s m0 p0
    · rw [if_pos (Or.inr hc)]
      refine .inr ⟨m, p, rfl, (h1 _ _).2 (.inr ⟨rfl, rfl⟩), fun m' p' h => ?_⟩
      rcases (h1 _ _).1 h with h | ⟨rfl, rfl⟩
      · have := (hb m' p' h).1
        exact ⟨by omega, fun e => by omega⟩
      · exact ⟨Int.le_refl _, fun _ => .inr ⟨rfl, Nat.le_refl _⟩⟩
    · rw [if_neg (fun h => by rcases h with h | h <;> first | (exact hc h) | (exact absurd (congrArg (fun t => t.2.2) h) (by simp)))]
      refine .inr ⟨m0, p0, rfl, (h1 _ _).2 (.inl hs), fun m' p' h => ?_⟩
      rcases (h1 _ _).1 h with h | ⟨rfl, rfl⟩
      · exact hb m' p' h
      · have := h2 m0 p0 hs
        exact ⟨by omega, fun _ => by omega⟩

theorem askRow_best {s : Sd} {seen : Int → Nat → Prop} {z : Lk × Int} {m : Int} (h : Best s seen z) (h2 : ∀ m' p', seen m' p' → m' < m) : ∀ k, Best s (fun m' p' => seen m' p' ∨ m' = m ∧ p' < k) (askRow s m z k)
  | 0 => by
    have : (fun m' p' => seen m' p' ∨ m' = m ∧ p' < 0) = seen := by funext a b; simp
    rw [this]; exact h
  | k + 1 => by
    refine (askRow_best h h2 k).one (fun m' p' => ?_) (fun m' p' h => ?_)
    · constructor
      · rintro (h | ⟨h, h'⟩)
        · exact .inl (.inl h)
        · by_cases e : p' = k
          · exact .inr ⟨h, e⟩
          · exact .inl (.inr ⟨h, by omega⟩)
      · rintro ((h | ⟨h, h'⟩) | ⟨h, h'⟩)
        · exact .inl h
        · exact .inr ⟨h, by omega⟩
        · exact .inr ⟨h, by omega⟩
    · rcases h with h | ⟨h, h'⟩
      · exact .inl (h2 _ _ h)
      · exact .inr ⟨h, h'⟩

theorem askAll_best (s : Sd) : ∀ k : Nat, Best s (fun m' p' => firstM s.table ≤ m' ∧ m' < firstM s.table + k ∧ p' < s.floors.length) (askAll s k)
  | 0 => .inl ⟨rfl, fun m p h => by omega⟩
  | k + 1 => by
    have h := askRow_best (m := firstM s.table + k) (askAll_best s k) (fun m' p' h => h.2.1) s.floors.length
    have e : (fun m' p' => (firstM s.table ≤ m' ∧ m' < firstM s.table + (k : Int) ∧ p' < s.floors.length) ∨ m' = firstM s.table + (k : Int) ∧ p' < s.floors.length) = (fun m' p' => firstM s.table ≤ m' ∧ m' < firstM s.table + ((k + 1 : Nat) : Int) ∧ p' < s.floors.length) := by
      funext a b
      apply propext
      constructor
      · rintro (⟨h1, h2, h3⟩ | ⟨h1, h2⟩)
        · exact ⟨h1, by omega, h3⟩
        · exact ⟨by omega, by omega, h2⟩
      · rintro ⟨h1, h2, h3⟩
        by_cases e : a = firstM s.table + k
        · exact .inr ⟨e, h3⟩
        · exact .inl ⟨h1, by omega, h3⟩
    rw [e] at h
    exact h

theorem siz_wind {s : Sd} (ok : Ok s) : siz (s.lo, s.hi) = s.hi - s.lo + 1 := by
  have := ok.lohi
  unfold siz
  dsimp only
  omega
/-- a look and its contrary part the truths -/
theorem siz_part {s : Sd} (ok : Ok s) (m p : Int) : siz (truV s (m, p, true)) + siz (truV s (m, p, false)) = siz (s.lo, s.hi) := by
  have b0 := ok.lo0
  have b1 := ok.hi1
  have b2 := ok.lohi
  rw [siz_wind ok]
  unfold truV siz com
  simp only [if_pos, Bool.false_eq_true, if_false]
  omega
theorem siz_nonneg (a : Int × Int) : 0 ≤ siz a := by unfold siz; omega
theorem truV_com {s : Sd} (x : Lk) : com (s.lo, s.hi) (truV s x) = truV s x := by
  unfold truV com
  split <;> (refine Prod.ext ?_ ?_ <;> dsimp only <;> omega)
theorem truV_in {s : Sd} (x : Lk) : s.lo ≤ (truV s x).1 ∧ (truV s x).2 ≤ s.hi := by
  unfold truV com
  split <;> dsimp only <;> omega
theorem askMost_two {s : Sd} (ok : Ok s) (m : Int) (p : Nat) : askMost s m p = max (siz (truV s (m, (p : Int), true))) (siz (truV s (m, (p : Int), false))) := by
  have := siz_part ok m p
  unfold askMost
  rw [show siz (s.lo, s.hi) - siz (truV s (m, (p : Int), true)) = siz (truV s (m, (p : Int), false)) by omega]
theorem ask_best {s : Sd} (ok : Ok s) : ∃ m p, askAll s (dayN s) = ((m, ((p : Nat) : Int), true), askMost s m p) ∧ inDay s m = true ∧ p < s.floors.length ∧
    ∀ m' p', inDay s m' = true → p' < s.floors.length → askMost s m p ≤ askMost s m' p' ∧ (askMost s m p = askMost s m' p' → m < m' ∨ m = m' ∧ p ≤ p') := by
  obtain ⟨f0, f1, f2⟩ := firstM_lt ok.table
  have hn : ((dayN s : Nat) : Int) = lastM s.table - firstM s.table + 1 := by unfold dayN; omega
  have hfl := ok.fl0
  rcases askAll_best s (dayN s) with ⟨-, h⟩ | ⟨m, p, h1, ⟨h2, h3, h4⟩, h5⟩
  · exact absurd ⟨Int.le_refl _, by omega, hfl⟩ (h (firstM s.table) 0)
  · refine ⟨m, p, h1, inB_true.2 ⟨h2, by omega⟩, h4, fun m' p' hm hp => h5 m' p' ?_⟩
    obtain ⟨i1, i2⟩ := inB_true.1 hm
    exact ⟨i1, by omega, hp⟩
theorem looks_one {s : Sd} (ok : Ok s) {m : Int} (hm : inDay s m = true) {p : Nat} (hp : p < s.floors.length) (b : Bool) :
    looksE s [(m, (p : Int), b)] = (if siz (truV s (m, (p : Int), b)) = 0 then 7 else 0) ∧ looksV s [(m, (p : Int), b)] = (if siz (truV s (m, (p : Int), b)) = 0 then (0, 0) else truV s (m, (p : Int), b)) := by
  have e1 : errLooks s [(m, (p : Int), b)] = 0 := by
    unfold errLooks
    rw [if_pos (chk_zero ok), if_neg (by simp)]
    simp only [lkErr]
    rw [hm, show isPl s (p : Int) = true from inB_true.2 ⟨by omega, by omega⟩]
    rfl
  have e2 : lkOf s (s.lo, s.hi) [(m, (p : Int), b)] = truV s (m, (p : Int), b) := by
    unfold lkOf
    simp only [List.foldl_cons, List.foldl_nil]
    exact truV_com _
  have e3 : looksE s [(m, (p : Int), b)] = (if siz (truV s (m, (p : Int), b)) = 0 then 7 else 0) := by
    unfold looksE
    rw [if_pos e1, e2]
  refine ⟨e3, ?_⟩
  unfold looksV
  rw [e3, e2]
  split
  · rw [if_neg (by decide)]
  · rw [if_pos rfl]
end
end Go.Proofs.Ytcljkkojeleakaa
/- The look that settles most: what the layer's search returns. -/
namespace Go.Proofs.Ytcljkkojeleakaa
open Go.RowKit Go.Shelf

def lkc (x : Lk) : List Value := [.int .i64 x.1, .int .i64 x.2.1, .bool x.2.2]
/-- none yet, or one that was wet -/
def AskOr (z : Lk × Int) : Prop := z.1 = (0, 0, false) ∨ z.1.2.2 = true
theorem askOne_or {s : Sd} {m : Int} {z : Lk × Int} {p : Nat} (h : AskOr z) : AskOr (askOne s m z p) := by
  unfold askOne
  split
  · exact .inr rfl
  · exact h
theorem askRow_or {s : Sd} {m : Int} {z : Lk × Int} (h : AskOr z) : ∀ k, AskOr (askRow s m z k)
  | 0 => h
  | k + 1 => askOne_or (askRow_or h k)
theorem askAll_or (s : Sd) : ∀ k, AskOr (askAll s k)
  | 0 => .inl rfl
  | k + 1 => askRow_or (askAll_or s k) _
theorem askMost_rng {s : Sd} (ok : Ok s) (m : Int) (p : Nat) : 0 ≤ askMost s m p ∧ askMost s m p ≤ 101 ∧ 0 ≤ siz (truV s (m, (p : Int), true)) ∧ siz (truV s (m, (p : Int), true)) ≤ 101 ∧ 0 ≤ siz (s.lo, s.hi) ∧ siz (s.lo, s.hi) ≤ 101 := by
  have h1 := siz_part ok m p
  have h2 := siz_wind ok
  have h3 := siz_nonneg (truV s (m, (p : Int), true))
  have h4 := siz_nonneg (truV s (m, (p : Int), false))
  have b0 := ok.lo0
  have b1 := ok.hi1
  unfold askMost
  omega
theorem askOne_rng {s : Sd} (ok : Ok s) {m : Int} {z : Lk × Int} {p : Nat} (h : 0 ≤ z.2 ∧ z.2 ≤ 101) : 0 ≤ (askOne s m z p).2 ∧ (askOne s m z p).2 ≤ 101 := by
  have := askMost_rng ok m p
  unfold askOne
  split
  · exact ⟨this.1, this.2.1⟩
  · exact h
theorem askRow_rng {s : Sd} (ok : Ok s) {m : Int} {z : Lk × Int} (h : 0 ≤ z.2 ∧ z.2 ≤ 101) : ∀ k, 0 ≤ (askRow s m z k).2 ∧ (askRow s m z k).2 ≤ 101
  | 0 => h
  | k + 1 => askOne_rng ok (askRow_rng ok h k)
theorem askAll_rng {s : Sd} (ok : Ok s) : ∀ k, 0 ≤ (askAll s k).2 ∧ (askAll s k).2 ≤ 101
  | 0 => by have := askMost_rng ok 0 0; exact ⟨this.2.2.2.2.1, this.2.2.2.2.2⟩
  | k + 1 => askRow_rng ok (askAll_rng ok k) _
section
variable {pT pF pS : Option Addr} {cT cF cS : Nat}
theorem size_t {a : Int × Int} (h : Near a) (w : World) : Calls Try.prog 117 #[.agg #[.int .i64 a.1, .int .i64 a.2]] w fun e w' => e = .returned (.int .i64 (siz a)) ∧ Up w w' := by
  obtain ⟨h1, h2, h3, h4⟩ := h
  exact size_c a.1 a.2 w (by omega) (by omega) (by omega) (by omega)
theorem wind_near {s : Sd} (ok : Ok s) : Near (s.lo, s.hi) := by have b0 := ok.lo0; have b1 := ok.hi1; have b2 := ok.lohi; exact ⟨by dsimp only; omega, by dsimp only; omega, by dsimp only; omega, by dsimp only; omega⟩

set_option maxRecDepth 100000 in
set_option maxHeartbeats 2000000 in
theorem ask_c (bw : Nat) (s : Sd) (w : World) (hw : IsWork w bw s pT pF pS cT cF cS) (ok : Ok s) :
    Calls Try.prog 118 #[.pointer (some ⟨bw, 0, none⟩)] w fun e w' => e = .returned (.tuple #[.agg #[.int .i64 (askAll s (dayN s)).1.1, .int .i64 (askAll s (dayN s)).1.2.1, .bool (askAll s (dayN s)).1.2.2], .int .i64 (askAll s (dayN s)).2]) ∧ Up w w' := by
  obtain ⟨hf0, hfl, hl9⟩ := firstM_lt ok.table
  obtain ⟨-, -, ht2, ht12⟩ := ok.table
  have hn : ((dayN s : Nat) : Int) = lastM s.table - firstM s.table + 1 := by unfold dayN; omega
  have hn9 : dayN s ≤ 1441 := by omega
  have s1 : IntKind.i64.wrap (lastM s.table - firstM s.table) = lastM s.table - firstM s.table := IntWalk.i64_in _ (by omega)
  have s2 : IntKind.i64.wrap (lastM s.table - firstM s.table + 1) = (dayN s : Nat) := by rw [IntWalk.i64_in _ (by omega)]; omega
  have hf8 := ok.fl1
  have HFI := Lib.hid (fun W (u : Up w W) => first_c bw s W (hw.sands.up u) ht2)
  have HLA := Lib.hid (fun W (u : Up w W) => last_c bw s W (hw.sands.up u) ht2 ht12)
  have HTR := Lib.hid (fun m (p : Nat) W (u : Up w W) (hm : firstM s.table ≤ m) (hp : p < 8) => truths_c bw s m p true W (hw.up u) ok hm hp)
  have hsz0 := fun W => size_t (w := W) (wind_near ok)
  obtain ⟨al, hal⟩ : ∃ al, siz (s.lo, s.hi) = al := ⟨_, rfl⟩
  rw [hal] at hsz0
  have HSZ := Lib.hid hsz0
  have HAL := Lib.hid hal
  clear hsz0 hal
  have OK := Lib.hid ok
  have q1 := hw.sands.s1
  have q2 := hw.sands.s2
  have q3 := hw.sands.s3
  have lb := cell_lt q1
  clear hw ok
  go_enter Try.func118, Try.ntmps118
  go_wp2_with fail
  refine Calls.world ?_
  intro w0 hw0
  have u0 : Up w w0 := by rw [hw0]; (repeat (first | exact Below.refl _ _ | (with_reducible refine Below.drewN' ?_ _) | (with_reducible refine Below.drew ?_) | (with_reducible refine Below.setCell ?_ (by first | exact Nat.le_refl _ | omega | (with_reducible (repeat (first | refine sz_alloc ?_ | refine sz_setCell ?_ | refine sz_drew ?_ | refine sz_drewN ?_)); first | exact Nat.le_refl _ | omega) | (simp only [World.size_alloc, World.size_setCell, World.size_drew, size_drewN']; omega)) _) | (with_reducible refine Below.alloc ?_ (by first | exact Nat.le_refl _ | omega | (with_reducible (repeat (first | refine sz_alloc ?_ | refine sz_setCell ?_ | refine sz_drew ?_ | refine sz_drewN ?_)); first | exact Nat.le_refl _ | omega) | (simp only [World.size_alloc, World.size_setCell, World.size_drew, size_drewN']; omega)) _) | assumption))
  have hR : Blk w0 w.heap.size [.int .i64 0, .int .i64 0, .bool false] 80 := by rw [hw0]; exact Blk.new _ _ _
  clear hw0
  refine (HSZ.out w0).mono ?_
  rintro e w1 ⟨rfl, u1⟩
  have U1 := Lib.hid (Up.trans u0 u1)
  have R1 := Lib.hid (hR.up u1)
  have lR := R1.out.lt
  clear u0 u1 hR
  go_wp2_with fail
  refine Calls.world ?_
  intro w2 hw2
  have u2 : Up w1 w2 := by rw [hw2]; (repeat (first | exact Below.refl _ _ | (with_reducible refine Below.drewN' ?_ _) | (with_reducible refine Below.drew ?_) | (with_reducible refine Below.setCell ?_ (by first | exact Nat.le_refl _ | omega | (with_reducible (repeat (first | refine sz_alloc ?_ | refine sz_setCell ?_ | refine sz_drew ?_ | refine sz_drewN ?_)); first | exact Nat.le_refl _ | omega) | (simp only [World.size_alloc, World.size_setCell, World.size_drew, size_drewN']; omega)) _) | (with_reducible refine Below.alloc ?_ (by first | exact Nat.le_refl _ | omega | (with_reducible (repeat (first | refine sz_alloc ?_ | refine sz_setCell ?_ | refine sz_drew ?_ | refine sz_drewN ?_)); first | exact Nat.le_refl _ | omega) | (simp only [World.size_alloc, World.size_setCell, World.size_drew, size_drewN']; omega)) _) | assumption))
  have hB : Blk w2 w1.heap.size [.int .i64 0, .int .i64 0, .bool false] 80 := by rw [hw2]; exact Blk.new _ _ _
  clear hw2
  refine (HLA.out w2 (Up.trans U1.out u2)).mono ?_
  rintro e w3 ⟨rfl, u3⟩
  have U3 := Lib.hid (Up.trans U1.out (Up.trans u2 u3))
  have R3 := Lib.hid (R1.out.up (Up.trans u2 u3))
  have B3 := Lib.hid (hB.up u3)
  clear u2 u3 hB U1 R1
  go_wp2_with fail
  refine (HFI.out w3 U3.out).mono ?_
  rintro e w4 ⟨rfl, u4⟩
  have U4 := Lib.hid (Up.trans U3.out u4)
  have R4 := Lib.hid (R3.out.up u4)
  have B4 := Lib.hid (B3.out.up u4)
  clear u4 U3 R3 B3
  obtain ⟨Bb, hBb⟩ : ∃ Bb, w1.heap.size = Bb := ⟨_, rfl⟩
  rw [hBb] at B4 lR ⊢
  clear hBb w1
  go_wp2_with fail
  rw [← hn]
  obtain ⟨n, hnn⟩ : ∃ n, dayN s = n := ⟨_, rfl⟩
  obtain ⟨a, ha⟩ : ∃ a, firstM s.table = a := ⟨_, rfl⟩
  rw [hnn] at hn hn9
  rw [ha] at hn hf0 hfl HFI HTR
  have HQ := Lib.hid (show lastM s.table = a + n - 1 by omega)
  have HL9 := Lib.hid hl9
  have HA := Lib.hid ha
  have HN := Lib.hid hnn
  simp only [hnn]
  clear s1 s2 hn hnn ha hfl hl9
  go_loopw [25, 6] (fun i f wr => ∃ k : Nat, k ≤ n ∧ i = .int .i64 k ∧ f = .int .i64 (askAll s k).2 ∧ Blk wr Bb (lkc (askAll s k).1) 80 ∧ Blk wr w.heap.size [.int .i64 0, .int .i64 0, .bool false] 80 ∧ Up w wr) (fun i _ _ => n - (intOf i).toNat)
  case atStart => exact ⟨0, Nat.zero_le _, rfl, by rw [← HAL.out]; rfl, B4.out, R4.out, U4.out⟩
  case round =>
    obtain ⟨k, hk, rfl, rfl, hb, hr, hu⟩ := hrel
    have HB := Lib.hid hb
    have HR := Lib.hid hr
    have HU := Lib.hid hu
    have q3' := hu.cellAt q3
    have lb' := cell_lt q3'
    clear hb hr hu
    by_cases hlt : k < n
    · have k1 : (k : Int) < n := by omega
      have b1 : a + k ≤ 1441 := by have := HL9.out; have := HQ.out; omega
      have hz := askAll_or s k
      have hzr := askAll_rng OK.out k
      have HE := Lib.hid (show askAll s (k + 1) = askRow s (a + k) (askAll s k) s.floors.length by rw [← HA.out]; rfl)
      generalize askAll s k = z at *
      have HZ := Lib.hid hz
      have HZR := Lib.hid hzr
      clear hz hzr
      go_wp2_with fail
      go_loopw [34, 6] (fun j f wy => ∃ p : Nat, p ≤ s.floors.length ∧ j = .int .i64 p ∧ f = .int .i64 (askRow s (a + k) z p).2 ∧ Blk wy Bb (lkc (askRow s (a + k) z p).1) 80 ∧ Blk wy w.heap.size [.int .i64 0, .int .i64 0, .bool false] 80 ∧ Up w wy) (fun j _ _ => s.floors.length - (intOf j).toNat)
      case atStart => exact ⟨0, Nat.zero_le _, rfl, rfl, HB.out, HR.out, HU.out⟩
      case round =>
        obtain ⟨p, hp, rfl, rfl, hb, hr, hu⟩ := hrel
        have Hb := Lib.hid hb
        have Hr := Lib.hid hr
        have Hu := Lib.hid hu
        clear hb hr hu
        by_cases hlp : p < s.floors.length
        · have p1 : (p : Int) < s.floors.length := by omega
          have hz := askRow_or (s := s) (m := a + k) HZ.out p
          have hzr := askRow_rng OK.out (m := a + k) HZR.out p
          have HE2 := Lib.hid (show askRow s (a + k) z (p + 1) = askOne s (a + k) (askRow s (a + k) z p) p from rfl)
          generalize askRow s (a + k) z p = y at *
          obtain ⟨⟨ym, yp, yw⟩, yn⟩ := y
          dsimp only at hzr
          have HY := Lib.hid hz
          have mr := askMost_rng OK.out (a + k) p
          rw [HAL.out] at mr
          have NT := Lib.hid (truV_near OK.out (a + k, (p : Int), true) (by rw [HA.out]; show a ≤ a + (k : Int); omega))
          have MS := Lib.hid (show askMost s (a + k) p = max (siz (truV s (a + k, (p : Int), true))) (al - siz (truV s (a + k, (p : Int), true))) by rw [← HAL.out]; rfl)
          have HT := Lib.hid (fun W (u : Up w W) => HTR.out (a + k) p W u (by omega) (by omega))
          generalize truV s (a + k, (p : Int), true) = tv at *
          clear hz
          have s3 : IntKind.i64.wrap (a + k) = a + k := IntWalk.i64_in _ (by omega)
          go_wp2_with fail
          refine (HFI.out _ Hu.out).mono ?_
          rintro e w5 ⟨rfl, u5⟩
          have U5 := Lib.hid (Up.trans Hu.out u5)
          have R5 := Lib.hid (Hr.out.up u5)
          have B5 := Lib.hid (Hb.out.up u5)
          clear u5 Hu Hr Hb
          go_wp2_with fail
          refine Calls.world ?_
          intro w6 hw6
          have u6 : Up w5 w6 := by rw [hw6]; (repeat (first | exact Below.refl _ _ | (with_reducible refine Below.drewN' ?_ _) | (with_reducible refine Below.drew ?_) | (with_reducible refine Below.setCell ?_ (by first | exact Nat.le_refl _ | omega | (with_reducible (repeat (first | refine sz_alloc ?_ | refine sz_setCell ?_ | refine sz_drew ?_ | refine sz_drewN ?_)); first | exact Nat.le_refl _ | omega) | (simp only [World.size_alloc, World.size_setCell, World.size_drew, size_drewN']; omega)) _) | (with_reducible refine Below.alloc ?_ (by first | exact Nat.le_refl _ | omega | (with_reducible (repeat (first | refine sz_alloc ?_ | refine sz_setCell ?_ | refine sz_drew ?_ | refine sz_drewN ?_)); first | exact Nat.le_refl _ | omega) | (simp only [World.size_alloc, World.size_setCell, World.size_drew, size_drewN']; omega)) _) | assumption))
          have L6 : Blk w6 w5.heap.size [.int .i64 (a + k), .int .i64 p, .bool true] 80 := by rw [hw6]; exact Blk.new _ _ _
          clear hw6
          refine (HT.out w6 (Up.trans U5.out u6)).mono ?_
          rintro e w7 ⟨rfl, u7⟩
          go_wp2_with fail
          refine (size_t NT.out w7).mono ?_
          rintro e w8 ⟨rfl, u8⟩
          have L8 := Lib.hid (L6.up (Up.trans u7 u8))
          have U8 := Lib.hid (Up.trans U5.out (Up.trans u6 (Up.trans u7 u8)))
          have R8 := Lib.hid (R5.out.up (Up.trans u6 (Up.trans u7 u8)))
          have B8 := Lib.hid (B5.out.up (Up.trans u6 (Up.trans u7 u8)))
          have sz5 : w5.heap.size ≠ Bb := by have := B5.out.lt; omega
          clear u6 u7 u8 L6 U5 R5 B5 HT NT s3
          generalize siz tv = g at *
          obtain ⟨X, hX⟩ : ∃ X, w5.heap.size = X := ⟨_, rfl⟩
          rw [hX] at L8 sz5 ⊢
          clear hX w5 w6 w7
          have s4 : IntKind.i64.wrap (al - g) = al - g := IntWalk.i64_in _ (by omega)
          have x0 := L8.out.cell 0
          have x1 := L8.out.cell 1
          have x2 := L8.out.cell 2
          have y0 := B8.out.cell 0
          have y1 := B8.out.cell 1
          have y2 := B8.out.cell 2
          have yf := B8.out.free
          have yl := B8.out.lt
          simp only [lkc, List.getElem?_cons_zero, List.getElem?_cons_succ] at x0 x1 x2 y0 y1 y2
          by_cases hm : g < al - g
          · have MM := Lib.hid (show askMost s (a + k) p = al - g by rw [MS.out]; omega)
            rcases HY.out with hy | hy
            · simp only [Prod.mk.injEq] at hy
              obtain ⟨rfl, rfl, rfl⟩ := hy
              have HE3 := Lib.hid (show askRow s (a + k) z (p + 1) = ((a + k, (p : Int), true), al - g) by rw [HE2.out]; unfold askOne; rw [if_pos (.inl rfl), MM.out])
              go_wp2_with fail
              go_roundw
              case rel =>
                refine ⟨p + 1, by omega, by go_num, by rw [HE3.out], ?_, (R8.out.other (by simp only []; omega) _ |>.other (by simp only []; omega) _).other (by simp only []; omega) _, ((U8.out.setCell (by simp only []; omega) _).setCell (by simp only []; omega) _).setCell (by simp only []; omega) _⟩
                rw [HE3.out]
                have h := ((B8.out.set 0 (.int .i64 (a + k))).set 1 (.int .i64 p)).set 2 (.bool true)
                simpa only [lkc, List.set_cons_zero, List.set_cons_succ] using h
              case measure => simp [intOf]; omega
            · have hy' : yw = true := hy
              subst hy'
              by_cases hc : al - g < yn
              · have HE3 := Lib.hid (show askRow s (a + k) z (p + 1) = ((a + k, (p : Int), true), al - g) by rw [HE2.out]; unfold askOne; rw [MM.out, if_pos (.inr hc)])
                go_wp2_with fail
                go_roundw
                case rel =>
                  refine ⟨p + 1, by omega, by go_num, by rw [HE3.out], ?_, (R8.out.other (by simp only []; omega) _ |>.other (by simp only []; omega) _).other (by simp only []; omega) _, ((U8.out.setCell (by simp only []; omega) _).setCell (by simp only []; omega) _).setCell (by simp only []; omega) _⟩
                  rw [HE3.out]
                  have h := ((B8.out.set 0 (.int .i64 (a + k))).set 1 (.int .i64 p)).set 2 (.bool true)
                  simpa only [lkc, List.set_cons_zero, List.set_cons_succ] using h
                case measure => simp [intOf]; omega
              · have HE3 := Lib.hid (show askRow s (a + k) z (p + 1) = ((ym, yp, true), yn) by rw [HE2.out]; unfold askOne; rw [MM.out, if_neg (fun h => by rcases h with h | h <;> first | (exact hc h) | (exact absurd (congrArg (fun t => t.2.2) h) (by simp)))])
                go_wp2_with fail
                go_roundw
                case rel => exact ⟨p + 1, by omega, by go_num, by rw [HE3.out], by rw [HE3.out]; exact B8.out, R8.out, U8.out⟩
                case measure => simp [intOf]; omega
          · have MM := Lib.hid (show askMost s (a + k) p = g by rw [MS.out]; omega)
            rcases HY.out with hy | hy
            · simp only [Prod.mk.injEq] at hy
              obtain ⟨rfl, rfl, rfl⟩ := hy
              have HE3 := Lib.hid (show askRow s (a + k) z (p + 1) = ((a + k, (p : Int), true), g) by rw [HE2.out]; unfold askOne; rw [if_pos (.inl rfl), MM.out])
              go_wp2_with fail
              go_roundw
              case rel =>
                refine ⟨p + 1, by omega, by go_num, by rw [HE3.out], ?_, (R8.out.other (by simp only []; omega) _ |>.other (by simp only []; omega) _).other (by simp only []; omega) _, ((U8.out.setCell (by simp only []; omega) _).setCell (by simp only []; omega) _).setCell (by simp only []; omega) _⟩
                rw [HE3.out]
                have h := ((B8.out.set 0 (.int .i64 (a + k))).set 1 (.int .i64 p)).set 2 (.bool true)
                simpa only [lkc, List.set_cons_zero, List.set_cons_succ] using h
              case measure => simp [intOf]; omega
            · have hy' : yw = true := hy
              subst hy'
              by_cases hc : g < yn
              · have HE3 := Lib.hid (show askRow s (a + k) z (p + 1) = ((a + k, (p : Int), true), g) by rw [HE2.out]; unfold askOne; rw [MM.out, if_pos (.inr hc)])
                go_wp2_with fail
                go_roundw
                case rel =>
                  refine ⟨p + 1, by omega, by go_num, by rw [HE3.out], ?_, (R8.out.other (by simp only []; omega) _ |>.other (by simp only []; omega) _).other (by simp only []; omega) _, ((U8.out.setCell (by simp only []; omega) _).setCell (by simp only []; omega) _).setCell (by simp only []; omega) _⟩
                  rw [HE3.out]
                  have h := ((B8.out.set 0 (.int .i64 (a + k))).set 1 (.int .i64 p)).set 2 (.bool true)
                  simpa only [lkc, List.set_cons_zero, List.set_cons_succ] using h
                case measure => simp [intOf]; omega
              · have HE3 := Lib.hid (show askRow s (a + k) z (p + 1) = ((ym, yp, true), yn) by rw [HE2.out]; unfold askOne; rw [MM.out, if_neg (fun h => by rcases h with h | h <;> first | (exact hc h) | (exact absurd (congrArg (fun t => t.2.2) h) (by simp)))])
                go_wp2_with fail
                go_roundw
                case rel => exact ⟨p + 1, by omega, by go_num, by rw [HE3.out], by rw [HE3.out]; exact B8.out, R8.out, U8.out⟩
                case measure => simp [intOf]; omega
        · obtain rfl : p = s.floors.length := by omega
          go_wp2_with fail
          go_roundw
          case rel => exact ⟨k + 1, by omega, by go_num, by rw [HE.out], by rw [HE.out]; exact Hb.out, Hr.out, Hu.out⟩
          case measure => simp [intOf]; omega
    · obtain rfl : k = n := by omega
      have y0 := HB.out.cell 0
      have y1 := HB.out.cell 1
      have y2 := HB.out.cell 2
      have r0 := HR.out.cell 0
      have r1 := HR.out.cell 1
      have r2 := HR.out.cell 2
      have rf := HR.out.free
      have rl := HR.out.lt
      generalize hz : askAll s k = z at *
      obtain ⟨⟨zm, zp, zw⟩, zn⟩ := z
      have HZ0 := Lib.hid hz
      clear hz
      simp only [lkc, List.getElem?_cons_zero, List.getElem?_cons_succ] at y0 y1 y2 r0 r1 r2
      go_wp2_with fail
      have h := ((HR.out.set 0 (.int .i64 zm)).set 1 (.int .i64 zp)).set 2 (.bool zw)
      have p0 := h.cell 0
      have p1 := h.cell 1
      have p2 := h.cell 2
      simp only [List.set_cons_zero, List.set_cons_succ, List.getElem?_cons_zero, List.getElem?_cons_succ] at p0 p1 p2
      have pl := h.lt
      refine bodyPost_ret (v := .tuple #[.agg #[.int .i64 zm, .int .i64 zp, .bool zw], .int .i64 zn]) (by simp [results, Try.f118, go_sem, p0, p1, p2]) rfl ⟨by rw [HN.out, HZ0.out], ?_⟩
      exact ((HU.out.setCell (by simp only []; omega) _).setCell (by simp only []; omega) _).setCell (by simp only []; omega) _

set_option maxRecDepth 100000 in
set_option maxHeartbeats 1000000 in
theorem Ask_c (s : Sd) (w : World) (hl : Lists w s pT pF pS cT cF cS) :
    Calls Try.prog 48 #[sdVal s pT pF pS cT cF cS] w fun e w' => e = .returned (.tuple #[.agg #[.int .i64 (askV s).1.1, .int .i64 (askV s).1.2.1, .bool (askV s).1.2.2], .int .i64 (askV s).2, .int .i64 (askE s)]) ∧ Up w w' := by
  have HC := Lib.hid (fun W (u : Up w W) => begin_c s W pT pF pS cT cF cS (hl.up u))
  clear hl
  by_cases hc : chk s = 0
  · have OK := Lib.hid (chk_ok hc)
    have HE := Lib.hid (show askE s = if siz (s.lo, s.hi) = 1 then 6 else 0 by unfold askE; rw [if_pos hc])
    rw [hc] at HC
    clear hc
    unfold sdVal at *
    go_enter Try.func48, Try.ntmps48
    go_wp2_with fail
    refine Calls.world ?_
    intro w0 hw0
    have u0 : Up w w0 := by rw [hw0]; (repeat (first | exact Below.refl _ _ | (with_reducible refine Below.drewN' ?_ _) | (with_reducible refine Below.drew ?_) | (with_reducible refine Below.setCell ?_ (by first | exact Nat.le_refl _ | omega | (with_reducible (repeat (first | refine sz_alloc ?_ | refine sz_setCell ?_ | refine sz_drew ?_ | refine sz_drewN ?_)); first | exact Nat.le_refl _ | omega) | (simp only [World.size_alloc, World.size_setCell, World.size_drew, size_drewN']; omega)) _) | (with_reducible refine Below.alloc ?_ (by first | exact Nat.le_refl _ | omega | (with_reducible (repeat (first | refine sz_alloc ?_ | refine sz_setCell ?_ | refine sz_drew ?_ | refine sz_drewN ?_)); first | exact Nat.le_refl _ | omega) | (simp only [World.size_alloc, World.size_setCell, World.size_drew, size_drewN']; omega)) _) | assumption))
    have hR : Blk w0 (w.heap.size + 1) [.int .i64 0, .int .i64 0, .bool false] 80 := by rw [hw0]; exact Blk.new' _ [.int .i64 0, .int .i64 0, .bool false] _ (by simp)
    clear hw0
    refine (HC.out _ u0).mono ?_
    rintro e w1 ⟨p, rfl, u1, hok⟩
    obtain ⟨bw, rfl, hW⟩ := hok rfl
    have U1 := Lib.hid (Up.trans u0 u1)
    have HW := Lib.hid hW
    have HB := Lib.hid (hR.up u1)
    have d1 := hW.sands.s1
    have d2 := hW.sands.s2
    clear hok hW u1 u0 HC hR
    go_wp2_with fail
    refine (size_t (wind_near OK.out) _).mono ?_
    rintro e w2 ⟨rfl, u2⟩
    have U2 := Lib.hid (Up.trans U1.out u2)
    have HW2 := Lib.hid (HW.out.up u2)
    have hB := HB.out.up u2
    have q0 := hB.cell 0
    have q1 := hB.cell 1
    have q2 := hB.cell 2
    have fr := hB.free
    have lB := hB.lt
    simp only [List.getElem?_cons_zero, List.getElem?_cons_succ] at q0 q1 q2
    have HB2 := Lib.hid hB
    clear hB u2 d1 d2 HB HW U1
    by_cases h1 : siz (s.lo, s.hi) = 1
    · have HV := Lib.hid (show askV s = ((0, 0, false), 0) by unfold askV; rw [HE.out, if_pos h1, if_neg (by decide)])
      rw [if_pos h1] at HE
      go_wp2_with fail
      have h := ((HB2.out.set 0 (.int .i64 0)).set 1 (.int .i64 0)).set 2 (.bool false)
      have p0 := h.cell 0
      have p1 := h.cell 1
      have p2 := h.cell 2
      simp only [List.set_cons_zero, List.set_cons_succ, List.getElem?_cons_zero, List.getElem?_cons_succ] at p0 p1 p2
      refine bodyPost_ret (v := .tuple #[.agg #[.int .i64 0, .int .i64 0, .bool false], .int .i64 0, .int .i64 6]) (by simp [results, Try.f48, go_sem, p0, p1, p2]) rfl ⟨by rw [HV.out, HE.out], ?_⟩
      exact ((U2.out.setCell (by simp only []; omega) _).setCell (by simp only []; omega) _).setCell (by simp only []; omega) _
    · have HV := Lib.hid (show askV s = askAll s (dayN s) by unfold askV; rw [HE.out, if_neg h1, if_pos rfl])
      rw [if_neg h1] at HE
      have h1' : (siz (s.lo, s.hi) == 1) = false := by simpa using h1
      go_wp2_with fail
      refine (ask_c bw s _ HW2.out OK.out).mono ?_
      rintro e w3 ⟨rfl, u3⟩
      rw [← HV.out]
      generalize hz : askV s = z at *
      obtain ⟨⟨zm, zp, zw⟩, zn⟩ := z
      have U3 := Lib.hid (Up.trans U2.out u3)
      have hB := HB2.out.up u3
      have q0' := hB.cell 0
      have q1' := hB.cell 1
      have q2' := hB.cell 2
      have fr' := hB.free
      have lB' := hB.lt
      simp only [List.getElem?_cons_zero, List.getElem?_cons_succ] at q0' q1' q2'
      have HB3 := Lib.hid hB
      have HZ := Lib.hid hz
      clear hB u3 q0 q1 q2 fr HV hz
      go_wp2_with fail
      have h := (((HB3.out.set 0 (.int .i64 zm)).set 1 (.int .i64 zp)).set 2 (.bool zw)).alloc (.cells #[.int .i64 zm, .int .i64 zp, .bool zw] 80)
      have p0 := h.cell 0
      have p1 := h.cell 1
      have p2 := h.cell 2
      simp only [List.set_cons_zero, List.set_cons_succ, List.getElem?_cons_zero, List.getElem?_cons_succ] at p0 p1 p2
      refine bodyPost_ret (v := .tuple #[.agg #[.int .i64 zm, .int .i64 zp, .bool zw], .int .i64 zn, .int .i64 0]) (by simp [results, Try.f48, go_sem, p0, p1, p2]) rfl ⟨by rw [HE.out, HZ.out], ?_⟩
      have hU := U3.out
      (repeat (first | exact Below.refl _ _ | (with_reducible refine Below.drewN' ?_ _) | (with_reducible refine Below.drew ?_) | (with_reducible refine Below.setCell ?_ (by first | exact Nat.le_refl _ | omega | (with_reducible (repeat (first | refine sz_alloc ?_ | refine sz_setCell ?_ | refine sz_drew ?_ | refine sz_drewN ?_)); first | exact Nat.le_refl _ | omega) | (simp only [World.size_alloc, World.size_setCell, World.size_drew, size_drewN']; omega)) _) | (with_reducible refine Below.alloc ?_ (by first | exact Nat.le_refl _ | omega | (with_reducible (repeat (first | refine sz_alloc ?_ | refine sz_setCell ?_ | refine sz_drew ?_ | refine sz_drewN ?_)); first | exact Nat.le_refl _ | omega) | (simp only [World.size_alloc, World.size_setCell, World.size_drew, size_drewN']; omega)) _) | assumption))
  · have hne : (chk s != 0) = true := by rw [bne_iff_ne]; exact hc
    have HE := Lib.hid (show askE s = chk s by unfold askE; rw [if_neg hc])
    have HV := Lib.hid (show askV s = ((0, 0, false), 0) by unfold askV; rw [HE.out, if_neg hc])
    clear hc
    unfold sdVal at *
    go_enter Try.func48, Try.ntmps48
    go_wp2_with fail
    refine Calls.world ?_
    intro w0 hw0
    have u0 : Up w w0 := by rw [hw0]; (repeat (first | exact Below.refl _ _ | (with_reducible refine Below.drewN' ?_ _) | (with_reducible refine Below.drew ?_) | (with_reducible refine Below.setCell ?_ (by first | exact Nat.le_refl _ | omega | (with_reducible (repeat (first | refine sz_alloc ?_ | refine sz_setCell ?_ | refine sz_drew ?_ | refine sz_drewN ?_)); first | exact Nat.le_refl _ | omega) | (simp only [World.size_alloc, World.size_setCell, World.size_drew, size_drewN']; omega)) _) | (with_reducible refine Below.alloc ?_ (by first | exact Nat.le_refl _ | omega | (with_reducible (repeat (first | refine sz_alloc ?_ | refine sz_setCell ?_ | refine sz_drew ?_ | refine sz_drewN ?_)); first | exact Nat.le_refl _ | omega) | (simp only [World.size_alloc, World.size_setCell, World.size_drew, size_drewN']; omega)) _) | assumption))
    have hR : Blk w0 (w.heap.size + 1) [.int .i64 0, .int .i64 0, .bool false] 80 := by rw [hw0]; exact Blk.new' _ [.int .i64 0, .int .i64 0, .bool false] _ (by simp)
    clear hw0
    refine (HC.out _ u0).mono ?_
    rintro e w1 ⟨p, rfl, u1, -⟩
    have U1 := Lib.hid (Up.trans u0 u1)
    have hB := hR.up u1
    have q0 := hB.cell 0
    have q1 := hB.cell 1
    have q2 := hB.cell 2
    have fr := hB.free
    have lB := hB.lt
    simp only [List.getElem?_cons_zero, List.getElem?_cons_succ] at q0 q1 q2
    have HB := Lib.hid hB
    clear u1 u0 HC hR hB
    go_wp2_with fail
    have h := ((HB.out.set 0 (.int .i64 0)).set 1 (.int .i64 0)).set 2 (.bool false)
    have p0 := h.cell 0
    have p1 := h.cell 1
    have p2 := h.cell 2
    simp only [List.set_cons_zero, List.set_cons_succ, List.getElem?_cons_zero, List.getElem?_cons_succ] at p0 p1 p2
    refine bodyPost_ret (v := .tuple #[.agg #[.int .i64 0, .int .i64 0, .bool false], .int .i64 0, .int .i64 (chk s)]) (by simp [results, Try.f48, go_sem, p0, p1, p2]) rfl ⟨by rw [HV.out, HE.out], ?_⟩
    exact ((U1.out.setCell (by simp only []; omega) _).setCell (by simp only []; omega) _).setCell (by simp only []; omega) _
end
end Go.Proofs.Ytcljkkojeleakaa
/- The reference's Gate, Gates, Heights and Ask. -/
namespace Go.Proofs.Ytcljkkojeleakaa
open Go.RowKit Go.Shelf

section
variable {pT pF pS : Option Addr} {cT cF cS : Nat}
set_option maxRecDepth 100000 in
set_option maxHeartbeats 1000000 in
theorem refGate_c (s : Sd) (p : Nat) (w : World) (ok : Ok s) (hl : Lists w s pT pF pS cT cF cS) (hp : p < s.floors.length) :
    Calls Try.prog 29 #[sdVal s pT pF pS cT cF cS, .int .i64 p] w fun e w' => e = .returned (.int .i64 (gateR s p)) ∧ Up w w' := by
  have HG := Lib.hid (low_gate ok p hp)
  have HL := Lib.hid (fun W (u : Up w W) => refLeast_c s p [] [] none none 0 0 W ok (hl.up u) (Row.nil _ _ _) (Row.nil _ _ _) (by simp) (by simp) hp)
  clear hl
  unfold sdVal at *
  go_enter Try.func29, Try.ntmps29
  go_wp2_with fail
  refine (HL.out _ (by (repeat (first | exact Below.refl _ _ | (with_reducible refine Below.drewN' ?_ _) | (with_reducible refine Below.drew ?_) | (with_reducible refine Below.setCell ?_ (by first | exact Nat.le_refl _ | omega | (with_reducible (repeat (first | refine sz_alloc ?_ | refine sz_setCell ?_ | refine sz_drew ?_ | refine sz_drewN ?_)); first | exact Nat.le_refl _ | omega) | (simp only [World.size_alloc, World.size_setCell, World.size_drew, size_drewN']; omega)) _) | (with_reducible refine Below.alloc ?_ (by first | exact Nat.le_refl _ | omega | (with_reducible (repeat (first | refine sz_alloc ?_ | refine sz_setCell ?_ | refine sz_drew ?_ | refine sz_drewN ?_)); first | exact Nat.le_refl _ | omega) | (simp only [World.size_alloc, World.size_setCell, World.size_drew, size_drewN']; omega)) _) | assumption)))).mono ?_
  rintro e w1 ⟨rfl, u1⟩
  rw [HG.out]
  have U1 := Lib.hid (Up.trans (show Up w (w.alloc (.cells (sdCells s pT pF pS cT cF cS).toArray 37)) by (repeat (first | exact Below.refl _ _ | (with_reducible refine Below.drewN' ?_ _) | (with_reducible refine Below.drew ?_) | (with_reducible refine Below.setCell ?_ (by first | exact Nat.le_refl _ | omega | (with_reducible (repeat (first | refine sz_alloc ?_ | refine sz_setCell ?_ | refine sz_drew ?_ | refine sz_drewN ?_)); first | exact Nat.le_refl _ | omega) | (simp only [World.size_alloc, World.size_setCell, World.size_drew, size_drewN']; omega)) _) | (with_reducible refine Below.alloc ?_ (by first | exact Nat.le_refl _ | omega | (with_reducible (repeat (first | refine sz_alloc ?_ | refine sz_setCell ?_ | refine sz_drew ?_ | refine sz_drewN ?_)); first | exact Nat.le_refl _ | omega) | (simp only [World.size_alloc, World.size_setCell, World.size_drew, size_drewN']; omega)) _) | assumption))) u1)
  clear u1
  go_wp2_with fail
  go_ret
  exact ⟨rfl, U1.out⟩

/-- the gates of all places as the reference has them -/
def gatesR (s : Sd) : List Int := (List.range s.floors.length).map (gateR s)
theorem gatesR_len (s : Sd) : (gatesR s).length = s.floors.length := by simp [gatesR]
set_option maxRecDepth 100000 in
set_option maxHeartbeats 1000000 in
theorem refGates_c (s : Sd) (w : World) (ok : Ok s) (hl : Lists w s pT pF pS cT cF cS) :
    Calls Try.prog 39 #[sdVal s pT pF pS cT cF cS] w fun e w' => ∃ q d, e = .returned (.slice q (gatesR s).length d) ∧ (gatesR s).length ≤ d ∧ d ≤ maxLen ∧ Row w' q 1 (ints (gatesR s)) ∧ Up w w' := by
  have f8 := ok.fl1
  have HL := Lib.hid (fun (p : Nat) W (u : Up w W) (hp : p < s.floors.length) => refGate_c s p W ok (hl.up u) hp)
  obtain ⟨i0, hi, hz0, hz1, hz2⟩ := info_parts info3
  clear hl
  rw [gatesR_len]
  unfold sdVal at *
  go_enter Try.func39, Try.ntmps39
  go_wp2_with fail
  have BS : Hid (Blk (w.alloc (.cells #[.slice pT s.table.length cT, .int .i64 s.lo, .int .i64 s.hi, .slice pF s.floors.length cF, .slice pS s.sills.length cS] 37)) w.heap.size (sdCells s pT pF pS cT cF cS) 37) := Lib.hid (Blk.new w (sdCells s pT pF pS cT cF cS) 37)
  have U0 : Hid (Up w (w.alloc (.cells #[.slice pT s.table.length cT, .int .i64 s.lo, .int .i64 s.hi, .slice pF s.floors.length cF, .slice pS s.sills.length cS] 37))) := Lib.hid (by (repeat (first | exact Below.refl _ _ | (with_reducible refine Below.drewN' ?_ _) | (with_reducible refine Below.drew ?_) | (with_reducible refine Below.setCell ?_ (by first | exact Nat.le_refl _ | omega | (with_reducible (repeat (first | refine sz_alloc ?_ | refine sz_setCell ?_ | refine sz_drew ?_ | refine sz_drewN ?_)); first | exact Nat.le_refl _ | omega) | (simp only [World.size_alloc, World.size_setCell, World.size_drew, size_drewN']; omega)) _) | (with_reducible refine Below.alloc ?_ (by first | exact Nat.le_refl _ | omega | (with_reducible (repeat (first | refine sz_alloc ?_ | refine sz_setCell ?_ | refine sz_drew ?_ | refine sz_drewN ?_)); first | exact Nat.le_refl _ | omega) | (simp only [World.size_alloc, World.size_setCell, World.size_drew, size_drewN']; omega)) _) | assumption)))
  generalize (w.alloc (.cells #[.slice pT s.table.length cT, .int .i64 s.lo, .int .i64 s.hi, .slice pF s.floors.length cF, .slice pS s.sills.length cS] 37)) = w0 at *
  go_loopw [4, 3] (fun i v wr => ∃ k : Nat, k ≤ s.floors.length ∧ i = .int .i64 k ∧ wr.ownsRow w0.heap.size 3 1 v k (ints ((List.range k).map (gateR s))).flatten ∧ Up w0 wr) (fun i _ _ => s.floors.length - (intOf i).toNat)
  case atStart => exact ⟨0, by omega, rfl, World.ownsRow_nil _ _ _ _, Below.refl _ _⟩
  case round =>
    obtain ⟨k, hk, rfl, hown, hu⟩ := hrel
    have HO := Lib.hid hown
    have HU := Lib.hid hu
    obtain ⟨c0, c1, c2, c3, c4⟩ := five (BS.out.up hu)
    clear hown hu
    by_cases hlt : k < s.floors.length
    · have k1 : (k : Int) < s.floors.length := by omega
      go_wp2_with fail
      refine (HL.out k wr (Up.trans U0.out HU.out) hlt).mono ?_
      rintro e w2 ⟨rfl, u2⟩
      have O2 := Lib.hid (ownsRow_up HO.out u2)
      have U2 := Lib.hid (Up.trans HU.out u2)
      have hsz := U2.out.size
      clear u2 HO HU c0 c1 c2 c3 c4
      go_wp2_with (at_builtin; refine wpList_append_own _ rfl _ _ 25 rfl w0.heap.size 3 i0 (.int .i64 0) 1 8 Try.underlying25 hi hz0 hz1 hz2 rfl (by decide) _ _ _ rfl (O2.out.alloc _) ⟨w2.heap.size, 0, none⟩ 1 1 [.int .i64 (gateR s k)] rfl rfl (newsAt _ rfl [.int .i64 (gateR s k)] _) (by simp [Value.oneCell']) (by simp [maxLen]; omega) (by omega) (sz_alloc hsz) ?_; intro v' w8 hown8 hgr8 hnn; clear hnn)
      have U8 := Lib.hid ((U2.out.alloc hsz _).grown hgr8 (sz_alloc hsz) (fun j e => (O2.out.lt j e).1))
      have O8 := Lib.hid hown8
      clear hown8 hgr8
      go_roundw
      case rel =>
        try ((repeat apply Exists.intro); refine ⟨?_, rfl⟩)
        refine ⟨k + 1, by omega, by go_num, ?_, U8.out⟩
        have e : (ints ((List.range (k + 1)).map (gateR s))).flatten = (ints ((List.range k).map (gateR s))).flatten ++ [.int .i64 (gateR s k)] := by
          rw [List.range_succ, List.map_append]
          unfold ints
          rw [List.map_append, List.flatten_append]
          rfl
        rw [e]
        exact O8.out
      case measure => simp [intOf]; omega
    · obtain rfl : k = s.floors.length := by omega
      obtain ⟨q, d, rfl, a1, a2, hR, -⟩ := Row.of_own (rows := ints (gatesR s)) (flatOk_ints _) HO.out (by simp [ints, gatesR])
      go_wp2_with fail
      go_ret
      exact ⟨q, d, rfl, a1, a2, hR, Up.trans U0.out HU.out⟩

/-- the heights of all minutes of the day -/
def heightsR (s : Sd) : List Int := (List.range (dayN s)).map fun i => hgt s.table (firstM s.table + (i : Nat))
theorem heightsR_len (s : Sd) : (heightsR s).length = dayN s := by simp [heightsR]
set_option maxRecDepth 100000 in
set_option maxHeartbeats 1000000 in
theorem refHeights_c (s : Sd) (w : World) (ok : Ok s) (hl : Lists w s pT pF pS cT cF cS) :
    Calls Try.prog 114 #[sdVal s pT pF pS cT cF cS] w fun e w' => ∃ q d, e = .returned (.slice q (heightsR s).length d) ∧ (heightsR s).length ≤ d ∧ d ≤ maxLen ∧ Row w' q 1 (ints (heightsR s)) ∧ (∀ b off, q = some ⟨b, off, none⟩ → w.heap.size ≤ b) ∧ Up w w' := by
  obtain ⟨f0, f1, f2⟩ := firstM_lt ok.table
  have hn : ((dayN s : Nat) : Int) = lastM s.table - firstM s.table + 1 := by unfold dayN; omega
  have HF := Lib.hid (fun W (u : Up w W) => refFirst_c s W (hl.up u) ok.table.2.2.1)
  have HA := Lib.hid (fun W (u : Up w W) => refLast_c s W (hl.up u) ok.table.2.2.1 ok.table.2.2.2)
  have HH := Lib.hid (fun m W (u : Up w W) (h1 : firstM s.table ≤ m) (h2 : m ≤ lastM s.table) => refHeight_c s m W (hl.up u) ok.table h1 h2)
  obtain ⟨i0, hi, hz0, hz1, hz2⟩ := info_parts info3
  clear hl ok
  rw [heightsR_len]
  unfold sdVal at *
  go_enter Try.func114, Try.ntmps114
  go_wp2_with fail
  have BS : Hid (Blk (w.alloc (.cells #[.slice pT s.table.length cT, .int .i64 s.lo, .int .i64 s.hi, .slice pF s.floors.length cF, .slice pS s.sills.length cS] 37)) w.heap.size (sdCells s pT pF pS cT cF cS) 37) := Lib.hid (Blk.new w (sdCells s pT pF pS cT cF cS) 37)
  have U0 : Hid (Up w (w.alloc (.cells #[.slice pT s.table.length cT, .int .i64 s.lo, .int .i64 s.hi, .slice pF s.floors.length cF, .slice pS s.sills.length cS] 37))) := Lib.hid (by (repeat (first | exact Below.refl _ _ | (with_reducible refine Below.drewN' ?_ _) | (with_reducible refine Below.drew ?_) | (with_reducible refine Below.setCell ?_ (by first | exact Nat.le_refl _ | omega | (with_reducible (repeat (first | refine sz_alloc ?_ | refine sz_setCell ?_ | refine sz_drew ?_ | refine sz_drewN ?_)); first | exact Nat.le_refl _ | omega) | (simp only [World.size_alloc, World.size_setCell, World.size_drew, size_drewN']; omega)) _) | (with_reducible refine Below.alloc ?_ (by first | exact Nat.le_refl _ | omega | (with_reducible (repeat (first | refine sz_alloc ?_ | refine sz_setCell ?_ | refine sz_drew ?_ | refine sz_drewN ?_)); first | exact Nat.le_refl _ | omega) | (simp only [World.size_alloc, World.size_setCell, World.size_drew, size_drewN']; omega)) _) | assumption)))
  generalize (w.alloc (.cells #[.slice pT s.table.length cT, .int .i64 s.lo, .int .i64 s.hi, .slice pF s.floors.length cF, .slice pS s.sills.length cS] 37)) = w0 at *
  refine (HF.out w0 U0.out).mono ?_
  rintro e w1 ⟨rfl, u1⟩
  have U1 := Lib.hid u1
  have hs1 := u1.size
  clear u1
  go_wp2_with fail
  go_loopw [4, 3] (fun i v wr => ∃ k : Nat, k ≤ dayN s ∧ i = .int .i64 (firstM s.table + k) ∧ wr.ownsRow w0.heap.size 3 1 v k (ints ((List.range k).map fun i => hgt s.table (firstM s.table + (i : Nat)))).flatten ∧ Up w0 wr) (fun i _ _ => (lastM s.table + 1 - intOf i).toNat)
  case atStart => exact ⟨0, by omega, by simp, World.ownsRow_nil _ _ _ _, U1.out⟩
  case round =>
    obtain ⟨k, hk, rfl, hown, hu⟩ := hrel
    have HO := Lib.hid hown
    have HU := Lib.hid hu
    obtain ⟨c0, c1, c2, c3, c4⟩ := five (BS.out.up hu)
    clear hown hu
    go_wp2_with fail
    refine (HA.out wr (Up.trans U0.out HU.out)).mono ?_
    rintro e w2 ⟨rfl, u2⟩
    have O2 := Lib.hid (ownsRow_up HO.out u2)
    have U2 := Lib.hid (Up.trans HU.out u2)
    clear u2 HO HU c0 c1 c2 c3 c4
    obtain ⟨c0, c1, c2, c3, c4⟩ := five (BS.out.up U2.out)
    by_cases hlt : k < dayN s
    · have k1 : firstM s.table + (k : Int) ≤ lastM s.table := by omega
      go_wp2_with fail
      refine (HH.out (firstM s.table + k) w2 (Up.trans U0.out U2.out) (by omega) k1).mono ?_
      rintro e w3 ⟨rfl, u3⟩
      have O3 := Lib.hid (ownsRow_up O2.out u3)
      have U3 := Lib.hid (Up.trans U2.out u3)
      have hsz := U3.out.size
      clear u3 O2 U2 c0 c1 c2 c3 c4
      have sy : IntKind.i64.wrap (firstM s.table + k + 1) = firstM s.table + k + 1 := IntWalk.i64_in _ (by omega)
      go_wp2_with (at_builtin; refine wpList_append_own _ rfl _ _ 25 rfl w0.heap.size 3 i0 (.int .i64 0) 1 8 Try.underlying25 hi hz0 hz1 hz2 rfl (by decide) _ _ _ rfl (O3.out.alloc _) ⟨w3.heap.size, 0, none⟩ 1 1 [.int .i64 (hgt s.table (firstM s.table + k))] rfl rfl (newsAt _ rfl [.int .i64 (hgt s.table (firstM s.table + k))] _) (by simp [Value.oneCell']) (by simp [maxLen]; omega) (by omega) (sz_alloc hsz) ?_; intro v' w8 hown8 hgr8 hnn; clear hnn)
      have U8 := Lib.hid ((U3.out.alloc hsz _).grown hgr8 (sz_alloc hsz) (fun j e => (O3.out.lt j e).1))
      have O8 := Lib.hid hown8
      clear hown8 hgr8
      go_roundw
      case rel =>
        try ((repeat apply Exists.intro); refine ⟨?_, rfl⟩)
        refine ⟨k + 1, by omega, by rw [show firstM s.table + (k : Int) + 1 = firstM s.table + ((k + 1 : Nat) : Int) by omega], ?_, U8.out⟩
        have e : (ints ((List.range (k + 1)).map fun i => hgt s.table (firstM s.table + (i : Nat)))).flatten = (ints ((List.range k).map fun i => hgt s.table (firstM s.table + (i : Nat)))).flatten ++ [.int .i64 (hgt s.table (firstM s.table + k))] := by
          rw [List.range_succ, List.map_append]
          unfold ints
          rw [List.map_append, List.flatten_append]
          rfl
        rw [e]
        exact O8.out
      case measure => simp [intOf]; omega
    · obtain rfl : k = dayN s := by omega
      obtain ⟨q, d, rfl, a1, a2, hR, hge⟩ := Row.of_own (rows := ints (heightsR s)) (flatOk_ints _) O2.out (by simp [ints, heightsR])
      have k1 : ¬ firstM s.table + ((dayN s : Nat) : Int) ≤ lastM s.table := by omega
      clear hn
      go_wp2_with fail
      go_ret
      exact ⟨q, d, rfl, a1, a2, hR, fun b off e => Nat.le_trans U0.out.size (hge b off e), Up.trans U0.out U2.out⟩

def rAskOne (s : Sd) (m : Int) (z : Lk × Int) (p : Nat) : Lk × Int := if askMost s m p < z.2 then ((m, (p : Int), true), askMost s m p) else z
def rAskRow (s : Sd) (m : Int) (z : Lk × Int) : Nat → Lk × Int
  | 0 => z
  | k + 1 => rAskOne s m (rAskRow s m z k) k
def rAskAll (s : Sd) : Nat → Lk × Int
  | 0 => ((0, 0, false), siz (s.lo, s.hi) + 1)
  | k + 1 => rAskRow s (firstM s.table + k) (rAskAll s k) s.floors.length
/-- both searches have found the same, or nothing yet -/
def AskEq (s : Sd) (z y : Lk × Int) : Prop := (z = y ∧ z.1.2.2 = true) ∨ (z = ((0, 0, false), siz (s.lo, s.hi)) ∧ y = ((0, 0, false), siz (s.lo, s.hi) + 1))
theorem askMost_le {s : Sd} (ok : Ok s) (m : Int) (p : Nat) : askMost s m p ≤ siz (s.lo, s.hi) := by
  have h1 := siz_part ok m p
  have h3 := siz_nonneg (truV s (m, (p : Int), true))
  have h4 := siz_nonneg (truV s (m, (p : Int), false))
  unfold askMost
  omega
theorem askEq_one {s : Sd} (ok : Ok s) {m : Int} {z y : Lk × Int} (h : AskEq s z y) (p : Nat) : AskEq s (askOne s m z p) (rAskOne s m y p) := by
  have hle := askMost_le ok m p
  rcases h with ⟨rfl, hw⟩ | ⟨rfl, rfl⟩
  · left
    unfold askOne rAskOne
    by_cases hc : askMost s m p < z.2
    · rw [if_pos (.inr hc), if_pos hc]; exact ⟨rfl, rfl⟩
    · rw [if_neg (fun h => by rcases h with h | h; · rw [h] at hw; cases hw
                              · exact hc h), if_neg hc]
      exact ⟨rfl, hw⟩
  · left
    unfold askOne rAskOne
    rw [if_pos (.inl rfl), if_pos (by dsimp only; omega)]
    exact ⟨rfl, rfl⟩
theorem askEq_row {s : Sd} (ok : Ok s) {m : Int} {z y : Lk × Int} (h : AskEq s z y) : ∀ k, AskEq s (askRow s m z k) (rAskRow s m y k)
  | 0 => h
  | k + 1 => askEq_one ok (askEq_row ok h k) k
theorem askEq_all {s : Sd} (ok : Ok s) : ∀ k, AskEq s (askAll s k) (rAskAll s k)
  | 0 => .inr ⟨rfl, rfl⟩
  | k + 1 => askEq_row ok (askEq_all ok k) _
theorem ask_same {s : Sd} (ok : Ok s) : rAskAll s (dayN s) = askAll s (dayN s) := by
  obtain ⟨m, p, h, -⟩ := ask_best ok
  rcases askEq_all ok (dayN s) with ⟨h1, -⟩ | ⟨h1, -⟩
  · exact h1.symm
  · rw [h] at h1
    exact absurd (congrArg (fun t => t.1.2.2) h1) (by simp)
theorem rAskRow_rng {s : Sd} (ok : Ok s) {m : Int} {z : Lk × Int} (h : 0 ≤ z.2 ∧ z.2 ≤ 102) : ∀ k, 0 ≤ (rAskRow s m z k).2 ∧ (rAskRow s m z k).2 ≤ 102
  | 0 => h
  | k + 1 => by
    have ih := rAskRow_rng ok h (m := m) k
    have := askMost_rng ok m k
    unfold rAskRow rAskOne
    split
    · exact ⟨this.1, by dsimp only; omega⟩
    · exact ih
theorem rAskAll_rng {s : Sd} (ok : Ok s) : ∀ k, 0 ≤ (rAskAll s k).2 ∧ (rAskAll s k).2 ≤ 102
  | 0 => by have := askMost_rng ok 0 0; exact ⟨by show 0 ≤ siz (s.lo, s.hi) + 1; omega, by show siz (s.lo, s.hi) + 1 ≤ 102; omega⟩
  | k + 1 => rAskRow_rng ok (rAskAll_rng ok k) _
/-- how many truths say that it is wet -/
theorem Far.cell {B n₀ : Nat} {w w' : World} (h : Far B n₀ w w') {b o : Nat} (h1 : b < n₀) (h2 : b ≠ B) : w'.cell? ⟨b, o, none⟩ = w.cell? ⟨b, o, none⟩ := World.cell?_of_block (h.block b h1 h2)
theorem Far.below2 {B n₀ : Nat} {w w' : World} (h : Far B n₀ w w') (hb : B < n₀) : Below B w w' := h.below (Nat.le_refl _) (by omega)
theorem yes_siz {s : Sd} (ok : Ok s) (m : Int) (p : Nat) (h0 : 0 ≤ hgt s.table m) (h1 : hgt s.table m ≤ 999) : max 0 (s.hi + 1 - max s.lo (gateR s p - hgt s.table m + 1)) = siz (truV s (m, (p : Int), true)) := by
  have b0 := ok.lo0
  have b1 := ok.hi1
  have b2 := ok.lohi
  have gl := gts_le s p
  unfold gateR siz truV com
  simp only [if_true, Int.toNat_natCast]
  split <;> omega
set_option maxRecDepth 100000 in
set_option maxHeartbeats 3000000 in
theorem refAsk_c (s : Sd) (n : Nat) (q : Option Addr) (d : Nat) (w : World) (hn : (gatesR s).length = n) (ok : Ok s) (hl : Lists w s pT pF pS cT cF cS) (hr : Row w q 1 (ints (gatesR s))) :
    Calls Try.prog 47 #[sdVal s pT pF pS cT cF cS, .slice q n d] w fun e w' => e = .returned (.tuple #[.agg #[.int .i64 (askAll s (dayN s)).1.1, .int .i64 (askAll s (dayN s)).1.2.1, .bool (askAll s (dayN s)).1.2.2], .int .i64 (askAll s (dayN s)).2]) ∧ Up w w' := by
  have hnl : n = s.floors.length := by rw [← hn, gatesR_len]
  subst hnl
  obtain ⟨f0, f1, f2⟩ := firstM_lt ok.table
  have hdn : ((dayN s : Nat) : Int) = lastM s.table - firstM s.table + 1 := by unfold dayN; omega
  have f8 := ok.fl1
  have b0 := ok.lo0
  have b1 := ok.hi1
  have b2 := ok.lohi
  have HF := Lib.hid (fun W (u : Up w W) => refFirst_c s W (hl.up u) ok.table.2.2.1)
  have HH := Lib.hid (fun W (u : Up w W) => refHeights_c s W ok (hl.up u))
  have HR := Lib.hid hr
  have OK := Lib.hid ok
  have SAME := Lib.hid (ask_same ok)
  have s1 : IntKind.i64.wrap (s.hi - s.lo) = s.hi - s.lo := IntWalk.i64_in _ (by omega)
  have s2 : IntKind.i64.wrap (s.hi - s.lo + 1) = s.hi - s.lo + 1 := IntWalk.i64_in _ (by omega)
  have s3 : IntKind.i64.wrap (s.hi - s.lo + 1 + 1) = s.hi - s.lo + 1 + 1 := IntWalk.i64_in _ (by omega)
  clear hl hr ok hn
  unfold sdVal at *
  go_enter Try.func47, Try.ntmps47
  go_wp2_with fail
  refine Calls.world ?_
  intro w0 hw0
  have u0 : Up w w0 := by rw [hw0]; (repeat (first | exact Below.refl _ _ | (with_reducible refine Below.drewN' ?_ _) | (with_reducible refine Below.drew ?_) | (with_reducible refine Below.setCell ?_ (by first | exact Nat.le_refl _ | omega | (with_reducible (repeat (first | refine sz_alloc ?_ | refine sz_setCell ?_ | refine sz_drew ?_ | refine sz_drewN ?_)); first | exact Nat.le_refl _ | omega) | (simp only [World.size_alloc, World.size_setCell, World.size_drew, size_drewN']; omega)) _) | (with_reducible refine Below.alloc ?_ (by first | exact Nat.le_refl _ | omega | (with_reducible (repeat (first | refine sz_alloc ?_ | refine sz_setCell ?_ | refine sz_drew ?_ | refine sz_drewN ?_)); first | exact Nat.le_refl _ | omega) | (simp only [World.size_alloc, World.size_setCell, World.size_drew, size_drewN']; omega)) _) | assumption))
  have hS : Blk w0 w.heap.size (sdCells s pT pF pS cT cF cS) 37 := by rw [hw0]; exact ((Blk.new w (sdCells s pT pF pS cT cF cS) _).alloc _).alloc _
  have hR : Blk w0 (w.heap.size + 1) [.int .i64 0, .int .i64 0, .bool false] 77 := by rw [hw0]; exact (Blk.new' _ [.int .i64 0, .int .i64 0, .bool false] _ (by simp)).alloc _
  have hB : Blk w0 (w.heap.size + 1 + 1) [.int .i64 0, .int .i64 0, .bool false] 77 := by rw [hw0]; exact Blk.new' _ [.int .i64 0, .int .i64 0, .bool false] _ (by simp)
  clear hw0
  refine (HH.out w0 u0).mono ?_
  rintro e w1 ⟨qh, dh, rfl, -, -, rh, hfr, u1⟩
  have U1 := Lib.hid (Up.trans u0 u1)
  have S1 := Lib.hid (hS.up u1)
  have R1 := Lib.hid (hR.up u1)
  have B1 := Lib.hid (hB.up u1)
  have HB0 := hB.lt
  have RH := Lib.hid rh
  rw [heightsR_len]
  have hal : siz (s.lo, s.hi) = s.hi - s.lo + 1 := siz_wind OK.out
  have HALL := Lib.hid hal
  clear u0 u1 hS hR hB rh s1 s2 s3 hal
  have hl0 : w.heap.size + 1 + 1 < w0.heap.size := HB0
  obtain ⟨bh, oh, rfl, -⟩ := RH.out.int 0 (by rw [heightsR_len]; omega)
  obtain ⟨bg, og, rfl, -⟩ := HR.out.int 0 (by rw [gatesR_len]; have := OK.out.fl0; omega)
  have hbw : w.heap.size + 1 + 1 < w1.heap.size := B1.out.lt
  have HDN := Lib.hid hdn
  clear hdn
  obtain ⟨dn, hdd⟩ : ∃ dn, dayN s = dn := ⟨_, rfl⟩
  have HDD := Lib.hid hdd
  rw [hdd] at HDN ⊢
  have hd9 : dn ≤ 1441 := by have := HDN.out; omega
  clear hdd
  go_wp2_with fail
  go_loopw [10, 8] (fun i f wr => ∃ k : Nat, k ≤ dn ∧ i = .int .i64 k ∧ f = .int .i64 (rAskAll s k).2 ∧ Blk wr (w.heap.size + 1 + 1) (lkc (rAskAll s k).1) 77 ∧ Blk wr (w.heap.size + 1) [.int .i64 0, .int .i64 0, .bool false] 77 ∧ Blk wr w.heap.size (sdCells s pT pF pS cT cF cS) 37 ∧ Far (w.heap.size + 1 + 1) w1.heap.size w1 wr) (fun i _ _ => dn - (intOf i).toNat)
  case atStart => exact ⟨0, by omega, rfl, by rw [show (rAskAll s 0).2 = s.hi - s.lo + 1 + 1 by rw [← HALL.out]; rfl], B1.out, R1.out, S1.out, Far.refl _ _ _⟩
  case round =>
    obtain ⟨k, hk, rfl, rfl, hb, hr, hs, hd⟩ := hrel
    have HB := Lib.hid hb
    have HRr := Lib.hid hr
    have HSr := Lib.hid hs
    have HD := Lib.hid hd
    clear hb hr hs hd
    by_cases hlt : k < dn
    · have k1 : (k : Int) < dn := by omega
      have hzr := rAskAll_rng OK.out k
      have HE := Lib.hid (show rAskAll s (k + 1) = rAskRow s (firstM s.table + k) (rAskAll s k) s.floors.length from rfl)
      generalize rAskAll s k = z at *
      have HZR := Lib.hid hzr
      clear hzr
      go_wp2_with fail
      go_loopw [11, 8] (fun j f wy => ∃ p : Nat, p ≤ s.floors.length ∧ j = .int .i64 p ∧ f = .int .i64 (rAskRow s (firstM s.table + k) z p).2 ∧ Blk wy (w.heap.size + 1 + 1) (lkc (rAskRow s (firstM s.table + k) z p).1) 77 ∧ Blk wy (w.heap.size + 1) [.int .i64 0, .int .i64 0, .bool false] 77 ∧ Blk wy w.heap.size (sdCells s pT pF pS cT cF cS) 37 ∧ Far (w.heap.size + 1 + 1) w1.heap.size w1 wy) (fun j _ _ => s.floors.length - (intOf j).toNat)
      case atStart => exact ⟨0, Nat.zero_le _, rfl, rfl, HB.out, HRr.out, HSr.out, HD.out⟩
      case round =>
        obtain ⟨p, hp, rfl, rfl, hb, hr, hs, hd⟩ := hrel
        have Hb := Lib.hid hb
        have Hr := Lib.hid hr
        have Hs := Lib.hid hs
        have Hd := Lib.hid hd
        clear hb hr hs hd HB HRr HSr HD
        by_cases hlp : p < s.floors.length
        · have p1 : (p : Int) < s.floors.length := by omega
          have hzr := rAskRow_rng OK.out (m := firstM s.table + k) HZR.out p
          have HE2 := Lib.hid (show rAskRow s (firstM s.table + k) z (p + 1) = rAskOne s (firstM s.table + k) (rAskRow s (firstM s.table + k) z p) p from rfl)
          generalize rAskRow s (firstM s.table + k) z p = y at *
          obtain ⟨⟨ym, yp, yw⟩, yn⟩ := y
          dsimp only at hzr
          obtain ⟨c0, c1, c2, c3, c4⟩ := five Hs.out
          have hm0 : firstM s.table ≤ firstM s.table + (k : Int) := by omega
          have hmr := hgt_rng OK.out.table (firstM s.table + k) hm0
          have mr := askMost_rng OK.out (firstM s.table + k) p
          have YS := Lib.hid (yes_siz OK.out (firstM s.table + k) p hmr.1 hmr.2)
          have MS := Lib.hid (show askMost s (firstM s.table + k) p = max (siz (truV s (firstM s.table + k, (p : Int), true))) (siz (s.lo, s.hi) - siz (truV s (firstM s.table + k, (p : Int), true))) from rfl)
          have yle : siz (truV s (firstM s.table + k, (p : Int), true)) ≤ siz (s.lo, s.hi) := by have h1 := siz_part OK.out (firstM s.table + k) p; have h2 := siz_nonneg (truV s (firstM s.table + k, (p : Int), false)); omega
          have gl := gts_le s p
          have GR : 0 ≤ gateR s p ∧ gateR s p ≤ 5000 := by unfold gateR; split <;> omega
          have hfb := hfr bh oh rfl
          obtain ⟨hx1, hx2⟩ : bh < w1.heap.size ∧ w1.cell? ⟨bh, oh + k, none⟩ = some (.int .i64 (hgt s.table (firstM s.table + k))) := by
            obtain ⟨b', o', e1, e2⟩ := RH.out.int k (by rw [heightsR_len, HDD.out]; omega)
            simp only [Option.some.injEq, Addr.mk.injEq, and_true] at e1
            obtain ⟨rfl, rfl⟩ := e1
            simp only [heightsR, List.getElem_map, List.getElem_range] at e2
            exact ⟨cell_lt e2, e2⟩
          obtain ⟨hy1, hy2⟩ : bg < w.heap.size ∧ w.cell? ⟨bg, og + p, none⟩ = some (.int .i64 (gateR s p)) := by
            obtain ⟨b', o', e1, e2⟩ := HR.out.int p (by rw [gatesR_len]; omega)
            simp only [Option.some.injEq, Addr.mk.injEq, and_true] at e1
            obtain ⟨rfl, rfl⟩ := e1
            simp only [gatesR, List.getElem_map, List.getElem_range] at e2
            exact ⟨cell_lt e2, e2⟩
          have hx3 := (Hd.out.cell hx1 (by omega)).trans hx2
          have hy3 := (Hd.out.cell (b := bg) (by have := U1.out.size; omega) (by omega)).trans (U1.out.cellAt hy2)
          have lx := cell_lt hx3
          have ly := cell_lt hy3
          generalize hgt s.table (firstM s.table + (k : Int)) = hh at *
          generalize gateR s p = gg at *
          generalize siz (truV s (firstM s.table + (k : Int), (p : Int), true)) = yes at *
          clear hx2 hy2 gl
          go_wp2_with fail
          go_loopw [13, 12] (fun v y wz => ∃ t : Int, v = .int .i64 t ∧ s.lo ≤ t ∧ t ≤ s.hi + 1 ∧ y = .int .i64 (max 0 (t - max s.lo (gg - hh + 1))) ∧ Up wr wz) (fun v _ _ => (s.hi + 1 - intOf v).toNat)
          case atStart => exact ⟨s.lo, rfl, Int.le_refl _, by omega, by rw [show max 0 (s.lo - max s.lo (gg - hh + 1)) = 0 by omega], Below.refl _ _⟩
          case round =>
            obtain ⟨t, rfl, t0, t1, rfl, hu⟩ := hrel
            have e0 := hu.cellAt c0
            have e1 := hu.cellAt c1
            have e2 := hu.cellAt c2
            have e3 := hu.cellAt c3
            have e4 := hu.cellAt c4
            have ex := hu.cellAt hx3
            have ey := hu.cellAt hy3
            have le := cell_lt ex
            have lf := cell_lt ey
            have HU := Lib.hid hu
            clear hu c0 c1 c2 c3 c4 hx3 hy3
            by_cases ht : t ≤ s.hi
            · have s4 : IntKind.i64.wrap (hh + t) = hh + t := IntWalk.i64_in _ (by omega)
              have st1 : IntKind.i64.wrap (t + 1) = t + 1 := IntWalk.i64_in _ (by omega)
              obtain ⟨yy, hyy⟩ : ∃ yy, max 0 (t - max s.lo (gg - hh + 1)) = yy := ⟨_, rfl⟩
              have HYY := Lib.hid hyy
              have yr : 0 ≤ yy ∧ yy ≤ 200 := by omega
              have sy1 : IntKind.i64.wrap (yy + 1) = yy + 1 := IntWalk.i64_in _ (by omega)
              rw [hyy]
              clear hyy
              by_cases hw : gg < hh + t
              · have HV := Lib.hid (show max 0 (t + 1 - max s.lo (gg - hh + 1)) = yy + 1 by have := HYY.out; omega)
                go_wp2_with fail
                go_quiet (fail)
                go_wp2
                go_roundw
                case rel =>
                  try ((repeat apply Exists.intro); refine ⟨?_, rfl⟩)
                  exact ⟨t + 1, rfl, by omega, by omega, by rw [HV.out], by have hU := HU.out; (repeat (first | exact Below.refl _ _ | (with_reducible refine Below.drewN' ?_ _) | (with_reducible refine Below.drew ?_) | (with_reducible refine Below.setCell ?_ (by first | exact Nat.le_refl _ | omega | (with_reducible (repeat (first | refine sz_alloc ?_ | refine sz_setCell ?_ | refine sz_drew ?_ | refine sz_drewN ?_)); first | exact Nat.le_refl _ | omega) | (simp only [World.size_alloc, World.size_setCell, World.size_drew, size_drewN']; omega)) _) | (with_reducible refine Below.alloc ?_ (by first | exact Nat.le_refl _ | omega | (with_reducible (repeat (first | refine sz_alloc ?_ | refine sz_setCell ?_ | refine sz_drew ?_ | refine sz_drewN ?_)); first | exact Nat.le_refl _ | omega) | (simp only [World.size_alloc, World.size_setCell, World.size_drew, size_drewN']; omega)) _) | assumption))⟩
                case measure => simp [intOf]; omega
              · have HV := Lib.hid (show max 0 (t + 1 - max s.lo (gg - hh + 1)) = yy by have := HYY.out; omega)
                go_wp2_with fail
                go_quiet (fail)
                go_wp2
                go_roundw
                case rel =>
                  try ((repeat apply Exists.intro); refine ⟨?_, rfl⟩)
                  exact ⟨t + 1, rfl, by omega, by omega, by rw [HV.out], by have hU := HU.out; (repeat (first | exact Below.refl _ _ | (with_reducible refine Below.drewN' ?_ _) | (with_reducible refine Below.drew ?_) | (with_reducible refine Below.setCell ?_ (by first | exact Nat.le_refl _ | omega | (with_reducible (repeat (first | refine sz_alloc ?_ | refine sz_setCell ?_ | refine sz_drew ?_ | refine sz_drewN ?_)); first | exact Nat.le_refl _ | omega) | (simp only [World.size_alloc, World.size_setCell, World.size_drew, size_drewN']; omega)) _) | (with_reducible refine Below.alloc ?_ (by first | exact Nat.le_refl _ | omega | (with_reducible (repeat (first | refine sz_alloc ?_ | refine sz_setCell ?_ | refine sz_drew ?_ | refine sz_drewN ?_)); first | exact Nat.le_refl _ | omega) | (simp only [World.size_alloc, World.size_setCell, World.size_drew, size_drewN']; omega)) _) | assumption))⟩
                case measure => simp [intOf]; omega
            · obtain rfl : t = s.hi + 1 := by omega
              rw [YS.out]
              have Bq := Lib.hid (Hb.out.up HU.out)
              have Rq := Lib.hid (Hr.out.up HU.out)
              have Sq := Lib.hid (Hs.out.up HU.out)
              have Dq := Lib.hid (Hd.out.trans (Far.of (HU.out.mono Hd.out.size)))
              generalize wr = wq at *
              have hal := HALL.out
              have s5 : IntKind.i64.wrap (s.hi - s.lo + 1 - yes) = s.hi - s.lo + 1 - yes := IntWalk.i64_in _ (by omega)
              have mr5 : 0 ≤ yes ∧ yes ≤ s.hi - s.lo + 1 := by omega
              rw [hal] at mr
              clear hal
              by_cases hm : yes < s.hi - s.lo + 1 - yes
              · have MM := Lib.hid (show askMost s (firstM s.table + k) p = s.hi - s.lo + 1 - yes by rw [MS.out, HALL.out]; omega)
                by_cases hc : s.hi - s.lo + 1 - yes < yn
                · have HE3 := Lib.hid (show rAskRow s (firstM s.table + k) z (p + 1) = ((firstM s.table + k, (p : Int), true), s.hi - s.lo + 1 - yes) by rw [HE2.out]; unfold rAskOne; rw [MM.out, if_pos hc])
                  go_wp2_with fail
                  refine (HF.out wq (Below.trans U1.out (Dq.out.below (by omega) (by omega)))).mono ?_
                  rintro e wt ⟨rfl, ut⟩
                  have Bt := Lib.hid (Bq.out.up ut)
                  have Rt := Lib.hid (Rq.out.up ut)
                  have St := Lib.hid (Sq.out.up ut)
                  have Dt := Lib.hid (Dq.out.trans (Far.of (ut.mono Dq.out.size)))
                  have y0 := Bt.out.cell 0
                  have y1 := Bt.out.cell 1
                  have y2 := Bt.out.cell 2
                  have yf := Bt.out.free
                  have yl := Bt.out.lt
                  have s6 : IntKind.i64.wrap (firstM s.table + k) = firstM s.table + k := IntWalk.i64_in _ (by omega)
                  simp only [lkc, List.getElem?_cons_zero, List.getElem?_cons_succ] at y0 y1 y2
                  clear ut
                  go_wp2_with fail
                  go_roundw
                  case rel =>
                    try ((repeat apply Exists.intro); refine ⟨?_, rfl⟩)
                    refine ⟨p + 1, by omega, by go_num, by rw [HE3.out], ?_, ((Rt.out.other (by simp only []; omega) _).other (by simp only []; omega) _).other (by simp only []; omega) _, ((St.out.other (by simp only []; omega) _).other (by simp only []; omega) _).other (by simp only []; omega) _, ((Dt.out.setIn _ _).setIn _ _).setIn _ _⟩
                    rw [HE3.out]
                    have h := ((Bt.out.set 0 (.int .i64 (firstM s.table + k))).set 1 (.int .i64 p)).set 2 (.bool true)
                    simpa only [lkc, List.set_cons_zero, List.set_cons_succ] using h
                  case measure => simp [intOf]; omega
                · have HE3 := Lib.hid (show rAskRow s (firstM s.table + k) z (p + 1) = ((ym, yp, yw), yn) by rw [HE2.out]; unfold rAskOne; rw [MM.out, if_neg hc])
                  go_wp2_with fail
                  go_roundw
                  case rel =>
                    try ((repeat apply Exists.intro); refine ⟨?_, rfl⟩)
                    exact ⟨p + 1, by omega, by go_num, by rw [HE3.out], by rw [HE3.out]; exact Bq.out, Rq.out, Sq.out, Dq.out⟩
                  case measure => simp [intOf]; omega
              · have MM := Lib.hid (show askMost s (firstM s.table + k) p = yes by rw [MS.out, HALL.out]; omega)
                by_cases hc : yes < yn
                · have HE3 := Lib.hid (show rAskRow s (firstM s.table + k) z (p + 1) = ((firstM s.table + k, (p : Int), true), yes) by rw [HE2.out]; unfold rAskOne; rw [MM.out, if_pos hc])
                  go_wp2_with fail
                  refine (HF.out wq (Below.trans U1.out (Dq.out.below (by omega) (by omega)))).mono ?_
                  rintro e wt ⟨rfl, ut⟩
                  have Bt := Lib.hid (Bq.out.up ut)
                  have Rt := Lib.hid (Rq.out.up ut)
                  have St := Lib.hid (Sq.out.up ut)
                  have Dt := Lib.hid (Dq.out.trans (Far.of (ut.mono Dq.out.size)))
                  have y0 := Bt.out.cell 0
                  have y1 := Bt.out.cell 1
                  have y2 := Bt.out.cell 2
                  have yf := Bt.out.free
                  have yl := Bt.out.lt
                  have s6 : IntKind.i64.wrap (firstM s.table + k) = firstM s.table + k := IntWalk.i64_in _ (by omega)
                  simp only [lkc, List.getElem?_cons_zero, List.getElem?_cons_succ] at y0 y1 y2
                  clear ut
                  go_wp2_with fail
                  go_roundw
                  case rel =>
                    try ((repeat apply Exists.intro); refine ⟨?_, rfl⟩)
                    refine ⟨p + 1, by omega, by go_num, by rw [HE3.out], ?_, ((Rt.out.other (by simp only []; omega) _).other (by simp only []; omega) _).other (by simp only []; omega) _, ((St.out.other (by simp only []; omega) _).other (by simp only []; omega) _).other (by simp only []; omega) _, ((Dt.out.setIn _ _).setIn _ _).setIn _ _⟩
                    rw [HE3.out]
                    have h := ((Bt.out.set 0 (.int .i64 (firstM s.table + k))).set 1 (.int .i64 p)).set 2 (.bool true)
                    simpa only [lkc, List.set_cons_zero, List.set_cons_succ] using h
                  case measure => simp [intOf]; omega
                · have HE3 := Lib.hid (show rAskRow s (firstM s.table + k) z (p + 1) = ((ym, yp, yw), yn) by rw [HE2.out]; unfold rAskOne; rw [MM.out, if_neg hc])
                  go_wp2_with fail
                  go_roundw
                  case rel =>
                    try ((repeat apply Exists.intro); refine ⟨?_, rfl⟩)
                    exact ⟨p + 1, by omega, by go_num, by rw [HE3.out], by rw [HE3.out]; exact Bq.out, Rq.out, Sq.out, Dq.out⟩
                  case measure => simp [intOf]; omega
        · obtain rfl : p = s.floors.length := by omega
          go_wp2_with fail
          go_roundw
          case rel =>
            try ((repeat apply Exists.intro); refine ⟨?_, rfl⟩)
            exact ⟨k + 1, by omega, by go_num, by rw [HE.out], by rw [HE.out]; exact Hb.out, Hr.out, Hs.out, Hd.out⟩
          case measure => simp [intOf]; omega
    · obtain rfl : k = dn := by omega
      have hz : rAskAll s k = askAll s (dayN s) := by rw [← SAME.out, HDD.out]
      rw [hz] at HB
      rw [hz]
      generalize hzz : askAll s (dayN s) = z at *
      obtain ⟨⟨zm, zp, zw⟩, zn⟩ := z
      have y0 := HB.out.cell 0
      have y1 := HB.out.cell 1
      have y2 := HB.out.cell 2
      have r0 := HRr.out.cell 0
      have r1 := HRr.out.cell 1
      have r2 := HRr.out.cell 2
      have rf := HRr.out.free
      have rl := HRr.out.lt
      simp only [lkc, List.getElem?_cons_zero, List.getElem?_cons_succ] at y0 y1 y2 r0 r1 r2
      have UW := Lib.hid (Below.trans U1.out (HD.out.below (b := w.heap.size) (by omega) (by omega)))
      have HZZ := Lib.hid hzz
      clear hz hzz
      go_wp2_with fail
      have h := ((HRr.out.set 0 (.int .i64 zm)).set 1 (.int .i64 zp)).set 2 (.bool zw)
      have p0 := h.cell 0
      have p1 := h.cell 1
      have p2 := h.cell 2
      simp only [List.set_cons_zero, List.set_cons_succ, List.getElem?_cons_zero, List.getElem?_cons_succ] at p0 p1 p2
      refine bodyPost_ret (v := .tuple #[.agg #[.int .i64 zm, .int .i64 zp, .bool zw], .int .i64 zn]) (by simp [results, Try.f47, go_sem, p0, p1, p2]) rfl ⟨?_, ?_⟩
      · first | rfl | rw [HZZ.out]
      · exact ((UW.out.setCell (by simp only []; omega) _).setCell (by simp only []; omega) _).setCell (by simp only []; omega) _
end
end Go.Proofs.Ytcljkkojeleakaa
/- The reference's State. -/
namespace Go.Proofs.Ytcljkkojeleakaa
open Go.RowKit Go.Shelf

/-- what the reference's State answers -/
def stR (s : Sd) (h g : Int) : Int := if g < h + s.lo then 2 else if g < h + s.hi then 1 else 0
section
variable {pT pF pS : Option Addr} {cT cF cS : Nat}
set_option maxRecDepth 100000 in
set_option maxHeartbeats 1000000 in
theorem refState_c (s : Sd) (h g : Int) (w : World) (ok : Ok s) (h0 : 0 ≤ h) (h1 : h ≤ 999) (g0 : -100000 ≤ g) (g1 : g ≤ 100000) :
    Calls Try.prog 40 #[sdVal s pT pF pS cT cF cS, .int .i64 h, .int .i64 g] w fun e w' => e = .returned (.int .i64 (stR s h g)) ∧ Up w w' := by
  have b0 := ok.lo0
  have b1 := ok.hi1
  have b2 := ok.lohi
  clear ok
  unfold sdVal
  go_enter Try.func40, Try.ntmps40
  go_wp2_with fail
  have BS : Hid (Blk (w.alloc (.cells #[.slice pT s.table.length cT, .int .i64 s.lo, .int .i64 s.hi, .slice pF s.floors.length cF, .slice pS s.sills.length cS] 37)) w.heap.size (sdCells s pT pF pS cT cF cS) 37) := Lib.hid (Blk.new w (sdCells s pT pF pS cT cF cS) 37)
  have U0 : Hid (Up w (w.alloc (.cells #[.slice pT s.table.length cT, .int .i64 s.lo, .int .i64 s.hi, .slice pF s.floors.length cF, .slice pS s.sills.length cS] 37))) := Lib.hid (by (repeat (first | exact Below.refl _ _ | (with_reducible refine Below.drewN' ?_ _) | (with_reducible refine Below.drew ?_) | (with_reducible refine Below.setCell ?_ (by first | exact Nat.le_refl _ | omega | (with_reducible (repeat (first | refine sz_alloc ?_ | refine sz_setCell ?_ | refine sz_drew ?_ | refine sz_drewN ?_)); first | exact Nat.le_refl _ | omega) | (simp only [World.size_alloc, World.size_setCell, World.size_drew, size_drewN']; omega)) _) | (with_reducible refine Below.alloc ?_ (by first | exact Nat.le_refl _ | omega | (with_reducible (repeat (first | refine sz_alloc ?_ | refine sz_setCell ?_ | refine sz_drew ?_ | refine sz_drewN ?_)); first | exact Nat.le_refl _ | omega) | (simp only [World.size_alloc, World.size_setCell, World.size_drew, size_drewN']; omega)) _) | assumption)))
  generalize (w.alloc (.cells #[.slice pT s.table.length cT, .int .i64 s.lo, .int .i64 s.hi, .slice pF s.floors.length cF, .slice pS s.sills.length cS] 37)) = w0 at *
  go_loopw [9, 8, 7] (fun i va vb wr => ∃ x a b : Int, i = .int .i64 x ∧ va = .int .i64 a ∧ vb = .int .i64 b ∧ s.lo ≤ x ∧ x ≤ s.hi + 1 ∧ a = max 0 (x - max s.lo (g - h + 1)) ∧ b = x - s.lo - a ∧ Up w0 wr) (fun i _ _ _ => (s.hi + 1 - intOf i).toNat)
  case atStart => exact ⟨s.lo, 0, 0, rfl, rfl, rfl, by omega, by omega, by omega, by omega, Below.refl _ _⟩
  case round =>
    obtain ⟨x, a, b, rfl, rfl, rfl, x0, x1, ha, hb, hu⟩ := hrel
    have HU := Lib.hid hu
    obtain ⟨c0, c1, c2, c3, c4⟩ := five (BS.out.up hu)
    clear hu
    have a0 : 0 ≤ a := by omega
    have a1 : a ≤ 101 := by omega
    have d0 : 0 ≤ b := by omega
    have d1 : b ≤ 101 := by omega
    by_cases hlt : x ≤ s.hi
    · have sx : IntKind.i64.wrap (h + x) = h + x := IntWalk.i64_in _ (by omega)
      have sy : IntKind.i64.wrap (x + 1) = x + 1 := IntWalk.i64_in _ (by omega)
      by_cases hg : g < h + x
      · have sw : IntKind.i64.wrap (a + 1) = a + 1 := IntWalk.i64_in _ (by omega)
        have r1 : a + 1 = max 0 (x + 1 - max s.lo (g - h + 1)) := by omega
        have r2 : b = x + 1 - s.lo - (a + 1) := by omega
        have R := Lib.hid (And.intro r1 r2)
        clear ha hb r1 r2
        go_wp2_with fail
        go_roundw
        case rel =>
          try ((repeat apply Exists.intro); refine ⟨?_, rfl⟩)
          exact ⟨x + 1, a + 1, b, rfl, rfl, rfl, by omega, by omega, R.out.1, R.out.2, HU.out⟩
        case measure => simp [intOf]; omega
      · have sw : IntKind.i64.wrap (b + 1) = b + 1 := IntWalk.i64_in _ (by omega)
        have r1 : a = max 0 (x + 1 - max s.lo (g - h + 1)) := by omega
        have r2 : b + 1 = x + 1 - s.lo - a := by omega
        have R := Lib.hid (And.intro r1 r2)
        clear ha hb r1 r2
        go_wp2_with fail
        go_roundw
        case rel =>
          try ((repeat apply Exists.intro); refine ⟨?_, rfl⟩)
          exact ⟨x + 1, a, b + 1, rfl, rfl, rfl, by omega, by omega, R.out.1, R.out.2, HU.out⟩
        case measure => simp [intOf]; omega
    · by_cases ha0 : a = 0
      · have hr : Hid (stR s h g = 0) := by show _ = _; unfold stR; rw [if_neg (by omega), if_neg (by omega)]
        have hn : (a == 0) = true := by rw [ha0]; rfl
        clear ha hb ha0
        go_wp2_with fail
        go_ret
        exact ⟨by rw [hr.out]; rfl, Up.trans U0.out HU.out⟩
      · have hn : (a == 0) = false := beq_eq_false_iff_ne.2 ha0
        by_cases hb0 : b = 0
        · have hr : Hid (stR s h g = 2) := by show _ = _; unfold stR; rw [if_pos (by omega)]
          have hn2 : (b == 0) = true := by rw [hb0]; rfl
          clear ha hb hb0
          go_wp2_with fail
          go_ret
          exact ⟨by rw [hr.out]; rfl, Up.trans U0.out HU.out⟩
        · have hr : Hid (stR s h g = 1) := by show _ = _; unfold stR; rw [if_neg (by omega), if_pos (by omega)]
          have hn2 : (b == 0) = false := beq_eq_false_iff_ne.2 hb0
          clear ha hb
          go_wp2_with fail
          go_ret
          exact ⟨by rw [hr.out]; rfl, Up.trans U0.out HU.out⟩
end
end Go.Proofs.Ytcljkkojeleakaa
/- The reference's Says. -/
namespace Go.Proofs.Ytcljkkojeleakaa
open Go.RowKit Go.Shelf

/-- rows of truths -/
def bools (l : List Bool) : List (List Value) := l.map fun b => [.bool b]
theorem flatOk_bools (l : List Bool) : flatOk 1 (bools l) = true := by simp [flatOk, bools]
theorem Row.bool {w : World} {p : Option Addr} {l : List Bool} (h : Row w p 1 (bools l)) (i : Nat) (hi : i < l.length) :
    ∃ b off, p = some ⟨b, off, none⟩ ∧ w.cell? ⟨b, off + i, none⟩ = some (.bool l[i]) := by
  obtain ⟨b, off, hp, hc⟩ := h i [.bool l[i]] (by simp [bools, hi])
  exact ⟨b, off, hp, by simpa using hc 0 _ rfl⟩
theorem infoB : (Try.prog.info? 4).map (fun i => (i.zero, i.size, i.bytes)) = some (some (.bool false), 1, 1) := by kernel_rfl

/-- whether the reference has the state x in the minute that is i behind the first -/
def sayR (s : Sd) (g x : Int) (i : Nat) : Bool := stR s (hgt s.table (firstM s.table + (i : Nat))) g == x
def saysR (s : Sd) (g x : Int) : List Bool := (List.range (dayN s)).map (sayR s g x)
theorem saysR_len (s : Sd) (g x : Int) : (saysR s g x).length = dayN s := by simp [saysR]
section
variable {pT pF pS : Option Addr} {cT cF cS : Nat}
set_option maxRecDepth 100000 in
set_option maxHeartbeats 1000000 in
theorem refSays_c (s : Sd) (g x : Int) (w : World) (ok : Ok s) (hl : Lists w s pT pF pS cT cF cS) (g0 : -100000 ≤ g) (g1 : g ≤ 100000) :
    Calls Try.prog 45 #[sdVal s pT pF pS cT cF cS, .int .i64 g, .int .i64 x] w fun e w' => ∃ q d, e = .returned (.slice q (saysR s g x).length d) ∧ (saysR s g x).length ≤ d ∧ d ≤ maxLen ∧ Row w' q 1 (bools (saysR s g x)) ∧ Up w w' := by
  obtain ⟨f0, f1, f2⟩ := firstM_lt ok.table
  have hn : ((dayN s : Nat) : Int) = lastM s.table - firstM s.table + 1 := by unfold dayN; omega
  have HH := Lib.hid (fun W (u : Up w W) => refHeights_c s W ok (hl.up u))
  have HS := Lib.hid (fun (i : Nat) W => refState_c (pT := pT) (pF := pF) (pS := pS) (cT := cT) (cF := cF) (cS := cS) s (hgt s.table (firstM s.table + (i : Nat))) g W ok (hgt_rng ok.table _ (by omega)).1 (hgt_rng ok.table _ (by omega)).2 g0 g1)
  obtain ⟨i0, hi, hz0, hz1, hz2⟩ := info_parts infoB
  clear hl ok
  rw [saysR_len]
  unfold sdVal at *
  go_enter Try.func45, Try.ntmps45
  go_wp2_with fail
  have BS : Hid (Blk (w.alloc (.cells #[.slice pT s.table.length cT, .int .i64 s.lo, .int .i64 s.hi, .slice pF s.floors.length cF, .slice pS s.sills.length cS] 37)) w.heap.size (sdCells s pT pF pS cT cF cS) 37) := Lib.hid (Blk.new w (sdCells s pT pF pS cT cF cS) 37)
  have U0 : Hid (Up w (w.alloc (.cells #[.slice pT s.table.length cT, .int .i64 s.lo, .int .i64 s.hi, .slice pF s.floors.length cF, .slice pS s.sills.length cS] 37))) := Lib.hid (by (repeat (first | exact Below.refl _ _ | (with_reducible refine Below.drewN' ?_ _) | (with_reducible refine Below.drew ?_) | (with_reducible refine Below.setCell ?_ (by first | exact Nat.le_refl _ | omega | (with_reducible (repeat (first | refine sz_alloc ?_ | refine sz_setCell ?_ | refine sz_drew ?_ | refine sz_drewN ?_)); first | exact Nat.le_refl _ | omega) | (simp only [World.size_alloc, World.size_setCell, World.size_drew, size_drewN']; omega)) _) | (with_reducible refine Below.alloc ?_ (by first | exact Nat.le_refl _ | omega | (with_reducible (repeat (first | refine sz_alloc ?_ | refine sz_setCell ?_ | refine sz_drew ?_ | refine sz_drewN ?_)); first | exact Nat.le_refl _ | omega) | (simp only [World.size_alloc, World.size_setCell, World.size_drew, size_drewN']; omega)) _) | assumption)))
  generalize (w.alloc (.cells #[.slice pT s.table.length cT, .int .i64 s.lo, .int .i64 s.hi, .slice pF s.floors.length cF, .slice pS s.sills.length cS] 37)) = w0 at *
  refine (HH.out w0 U0.out).mono ?_
  rintro e w1 ⟨qh, dh, rfl, -, -, rh, -, u1⟩
  have U1 := Lib.hid u1
  have RH := Lib.hid rh
  have hs1 := u1.size
  rw [heightsR_len]
  clear u1 rh
  obtain ⟨dn, hdd⟩ : ∃ dn, dayN s = dn := ⟨_, rfl⟩
  have HDD := Lib.hid hdd
  rw [hdd] at hn ⊢
  have hd9 : dn ≤ 1441 := by omega
  clear hdd hn
  go_wp2_with fail
  go_loopw [9, 7] (fun i v wr => ∃ k : Nat, k ≤ dn ∧ i = .int .i64 k ∧ wr.ownsRow w1.heap.size 4 1 v k (bools ((List.range k).map (sayR s g x))).flatten ∧ Up w1 wr) (fun i _ _ => dn - (intOf i).toNat)
  case atStart => exact ⟨0, by omega, rfl, World.ownsRow_nil _ _ _ _, Below.refl _ _⟩
  case round =>
    obtain ⟨k, hk, rfl, hown, hu⟩ := hrel
    have HO := Lib.hid hown
    have HU := Lib.hid hu
    obtain ⟨c0, c1, c2, c3, c4⟩ := five (BS.out.up (Up.trans U1.out hu))
    clear hown hu
    by_cases hlt : k < dn
    · have k1 : (k : Int) < dn := by omega
      obtain ⟨bh, oh, rfl, hc1⟩ := RH.out.int k (by rw [heightsR_len, HDD.out]; exact hlt)
      have hv : (heightsR s)[k]'(by rw [heightsR_len, HDD.out]; exact hlt) = hgt s.table (firstM s.table + (k : Nat)) := by simp [heightsR]
      rw [hv] at hc1
      have hc := HU.out.cellAt hc1
      clear hv
      have SY := Lib.hid (show (stR s (hgt s.table (firstM s.table + (k : Nat))) g == x) = sayR s g x k from rfl)
      have HSk := Lib.hid (HS.out k)
      generalize stR s (hgt s.table (firstM s.table + (k : Nat))) g = sv at *
      generalize hgt s.table (firstM s.table + (k : Nat)) = hv at *
      have k1 : (k : Int) < dn := by omega
      have hsz := HU.out.size
      go_upto_region 6 with fail
      refine region_tail (fun W' => W'.cell? ⟨w.heap.size, 0, none⟩ = some (.slice pT s.table.length cT) ∧ W'.cell? ⟨w.heap.size, 1, none⟩ = some (.int .i64 s.lo) ∧ W'.cell? ⟨w.heap.size, 2, none⟩ = some (.int .i64 s.hi) ∧ W'.cell? ⟨w.heap.size, 3, none⟩ = some (.slice pF s.floors.length cF) ∧ W'.cell? ⟨w.heap.size, 4, none⟩ = some (.slice pS s.sills.length cS) ∧ W'.cell? ⟨bh, oh + k, none⟩ = some (.int .i64 hv)) 12 mixed (by kernel_rfl) ⟨c0, c1, c2, c3, c4, hc⟩ (fun hHeld => ?_)
      refine wpAnyG_take 0 18 (v := ?_) rfl rfl (by kernel_rfl) (fun _ _ _ h => h) (Or.inl ⟨by rfl, ?_⟩) (by assumption) ?_
      rotate_left
      · (intro w' hSw; (try dsimp only at hSw); go_split_ands; go_simp; try with_reducible rfl)
      try simp only [List.setIfInBounds_toArray, List.set_cons_zero, List.set_cons_succ]
      refine wpAnyG_take 1 19 (v := ?_) rfl rfl (by kernel_rfl) (fun _ _ _ h => h) (Or.inl ⟨by rfl, ?_⟩) (by assumption) ?_
      rotate_left
      · (intro w' hSw; (try dsimp only at hSw); go_split_ands; go_simp; try with_reducible rfl)
      try simp only [List.setIfInBounds_toArray, List.set_cons_zero, List.set_cons_succ]
      refine wpAnyG_take 2 20 (v := ?_) rfl rfl (by kernel_rfl) (fun _ _ _ h => h) (Or.inl ⟨by rfl, ?_⟩) (by assumption) ?_
      rotate_left
      · (intro w' hSw; (try dsimp only at hSw); go_split_ands; go_simp; try with_reducible rfl)
      try simp only [List.setIfInBounds_toArray, List.set_cons_zero, List.set_cons_succ]
      refine wpAnyG_take 3 21 (v := ?_) rfl rfl (by kernel_rfl) (fun _ _ _ h => h) (Or.inl ⟨by rfl, ?_⟩) (by assumption) ?_
      rotate_left
      · (intro w' hSw; (try dsimp only at hSw); go_split_ands; go_simp; try with_reducible rfl)
      try simp only [List.setIfInBounds_toArray, List.set_cons_zero, List.set_cons_succ]
      refine wpAnyG_take 4 22 (v := ?_) rfl rfl (by kernel_rfl) (fun _ _ _ h => h) (Or.inl ⟨by rfl, ?_⟩) (by assumption) ?_
      rotate_left
      · (intro w' hSw; (try dsimp only at hSw); go_split_ands; go_simp; try with_reducible rfl)
      try simp only [List.setIfInBounds_toArray, List.set_cons_zero, List.set_cons_succ]
      refine wpAnyG_take 5 23 (v := ?_) rfl rfl (by kernel_rfl) (fun _ _ _ h => h) (Or.inl ⟨by rfl, ?_⟩) (by assumption) ?_
      rotate_left
      · (intro w' hSw; (try dsimp only at hSw); go_split_ands; go_simp; try with_reducible rfl)
      try simp only [List.setIfInBounds_toArray, List.set_cons_zero, List.set_cons_succ]
      refine wpAnyG_take 6 24 (v := ?_) rfl rfl (by kernel_rfl) (fun _ _ _ h => h) (Or.inl ⟨by rfl, ?_⟩) (by assumption) ?_
      rotate_left
      · (intro w' hSw; (try dsimp only at hSw); go_split_ands; go_simp; try with_reducible rfl)
      try simp only [List.setIfInBounds_toArray, List.set_cons_zero, List.set_cons_succ]
      refine wpAnyG_take 8 26 (v := ?_) rfl rfl (by kernel_rfl) (fun _ _ _ h => h) (Or.inl ⟨by rfl, ?_⟩) (by assumption) ?_
      rotate_left
      · (intro w' hSw; (try dsimp only at hSw); go_split_ands; go_simp; try with_reducible rfl)
      try simp only [List.setIfInBounds_toArray, List.set_cons_zero, List.set_cons_succ]
      refine wpAnyG_do 7 rfl (by kernel_rfl) (fun K hK => ?_)
      rw [if_pos (by rfl)]
      go_simp
      refine (HSk.out _).mono ?_
      rintro e w2 ⟨rfl, u2⟩
      have v2 : Up wr w2 := Up.trans (by (repeat (first | exact Below.refl _ _ | (with_reducible refine Below.drewN' ?_ _) | (with_reducible refine Below.drew ?_) | (with_reducible refine Below.setCell ?_ (by first | exact Nat.le_refl _ | omega | (with_reducible (repeat (first | refine sz_alloc ?_ | refine sz_setCell ?_ | refine sz_drew ?_ | refine sz_drewN ?_)); first | exact Nat.le_refl _ | omega) | (simp only [World.size_alloc, World.size_setCell, World.size_drew, size_drewN']; omega)) _) | (with_reducible refine Below.alloc ?_ (by first | exact Nat.le_refl _ | omega | (with_reducible (repeat (first | refine sz_alloc ?_ | refine sz_setCell ?_ | refine sz_drew ?_ | refine sz_drewN ?_)); first | exact Nat.le_refl _ | omega) | (simp only [World.size_alloc, World.size_setCell, World.size_drew, size_drewN']; omega)) _) | assumption))) u2
      refine hK.out _ _ ⟨v2.cellAt c0, v2.cellAt c1, v2.cellAt c2, v2.cellAt c3, v2.cellAt c4, v2.cellAt hc⟩ (fun hHeld => ?_)
      clear hK K
      refine wpAnyG_take 9 27 (v := .bool (sv == x)) rfl rfl (by kernel_rfl) (fun _ _ _ h => h) (Or.inl ⟨by rfl, ?_⟩) (by assumption) ?_
      · intro w' _
        go_simp
      try simp only [List.setIfInBounds_toArray, List.set_cons_zero, List.set_cons_succ]
      refine wpAnyG_do 10 rfl (by kernel_rfl) (fun K hK => ?_)
      rw [if_pos (by rfl)]
      go_simp
      have U2 := Lib.hid (Up.trans HU.out v2)
      have hsz2 := v2.size
      have v3 : Up wr (w2.alloc (.cells #[.bool (sv == x)] 4)) := Up.trans v2 (by (repeat (first | exact Below.refl _ _ | (with_reducible refine Below.drewN' ?_ _) | (with_reducible refine Below.drew ?_) | (with_reducible refine Below.setCell ?_ (by first | exact Nat.le_refl _ | omega | (with_reducible (repeat (first | refine sz_alloc ?_ | refine sz_setCell ?_ | refine sz_drew ?_ | refine sz_drewN ?_)); first | exact Nat.le_refl _ | omega) | (simp only [World.size_alloc, World.size_setCell, World.size_drew, size_drewN']; omega)) _) | (with_reducible refine Below.alloc ?_ (by first | exact Nat.le_refl _ | omega | (with_reducible (repeat (first | refine sz_alloc ?_ | refine sz_setCell ?_ | refine sz_drew ?_ | refine sz_drewN ?_)); first | exact Nat.le_refl _ | omega) | (simp only [World.size_alloc, World.size_setCell, World.size_drew, size_drewN']; omega)) _) | assumption)))
      have O3 := Lib.hid ((ownsRow_up HO.out v2).alloc (.cells #[.bool (sv == x)] 4))
      refine hK.out _ _ ⟨v3.cellAt c0, v3.cellAt c1, v3.cellAt c2, v3.cellAt c3, v3.cellAt c4, v3.cellAt hc⟩ (fun hHeld => ?_)
      clear hK K
      refine wpAnyG_do 11 rfl (by kernel_rfl) (fun K hK => ?_)
      rw [if_pos (by rfl)]
      refine wp_append_own _ _ _ 72 rfl w1.heap.size 4 i0 (.bool false) 1 1 Try.underlying72 hi hz0 hz1 hz2 rfl (by decide) _ k _ rfl O3.out ⟨w2.heap.size, 0, none⟩ 1 1 [.bool (sv == x)] (by go_simp) rfl (newsAt w2 rfl [.bool (sv == x)] _) (by simp [Value.oneCell']) (by simp [maxLen]; omega) (by omega) (sz_alloc (Nat.le_trans hsz hsz2)) ?_
      intro v' w8 hown8 hgr8 hnn
      clear hnn
      have v31 : Up w1 (w2.alloc (.cells #[.bool (sv == x)] 4)) := Up.trans HU.out v3
      have u8 : Up w1 w8 := v31.grown hgr8 v31.size (fun j e => (O3.out.lt j e).1)
      have U8 := Lib.hid u8
      have O8 := Lib.hid hown8
      refine hK.out _ _ (by obtain ⟨a0, a1, a2, a3, a4⟩ := five (BS.out.up (Up.trans U1.out u8)); exact ⟨a0, a1, a2, a3, a4, u8.cellAt hc1⟩) (fun hHeld => ?_)
      clear hK K hown8 hgr8 v2 v3 v31 hc1 u8 O3 HO c0 c1 c2 c3 c4 hc HSk hHeld
      try simp only [List.setIfInBounds_toArray, List.set_cons_zero, List.set_cons_succ]
      refine wpAnyG_tail (by kernel_rfl) ?_
      change wpList _ _ _ [_] _ _
      have sy : IntKind.i64.wrap ((k : Int) + 1) = k + 1 := IntWalk.i64_in _ (by omega)
      go_wp2_with fail
      go_roundw
      case rel =>
        try ((repeat apply Exists.intro); refine ⟨?_, rfl⟩)
        refine ⟨k + 1, by omega, by go_num, ?_, U8.out⟩
        have e : (bools ((List.range (k + 1)).map (sayR s g x))).flatten = (bools ((List.range k).map (sayR s g x))).flatten ++ [.bool (sv == x)] := by
          rw [List.range_succ, List.map_append]
          unfold bools
          rw [List.map_append, List.flatten_append, SY.out]
          rfl
        rw [e]
        exact O8.out
      case measure => simp [intOf]; omega
    · obtain rfl : dn = k := by omega
      obtain ⟨q, d, rfl, a1, a2, hR, hge⟩ := Row.of_own (rows := bools (saysR s g x)) (flatOk_bools _) (show wr.ownsRow w1.heap.size 4 1 _ _ (bools (saysR s g x)).flatten by unfold saysR; rw [HDD.out]; exact HO.out) (by simp [bools, saysR, HDD.out])
      go_wp2_with fail
      go_ret
      rw [HDD.out]
      exact ⟨q, d, rfl, a1, a2, hR, Up.trans U0.out (Up.trans U1.out HU.out)⟩
end
end Go.Proofs.Ytcljkkojeleakaa
/- The reference's Run. -/
namespace Go.Proofs.Ytcljkkojeleakaa
open Go.RowKit Go.Shelf

/-- the truth at j -/
def tr (l : List Bool) (j : Nat) : Bool := l[j]?.getD false
theorem tr_get {l : List Bool} {j : Nat} (h : j < l.length) : l[j] = tr l j := by simp [tr, h]
/-- lo .. hi is the whole run of truths that k lies in -/
def IsRun (l : List Bool) (k lo hi : Nat) : Prop :=
  lo ≤ k ∧ k ≤ hi ∧ hi < l.length ∧ (∀ j, lo ≤ j → j ≤ hi → tr l j = true) ∧ (lo = 0 ∨ tr l (lo - 1) = false) ∧ (hi + 1 = l.length ∨ tr l (hi + 1) = false)
/-- what Run answers at the minute k behind the first -/
def RunEnd (F : Int) (l : List Bool) (k : Nat) (e : Ending) : Prop :=
  tr l k = false ∧ e = .returned (.tuple #[.agg #[.int .i64 0, .int .i64 0], .bool false]) ∨
  ∃ lo hi, IsRun l k lo hi ∧ e = .returned (.tuple #[.agg #[.int .i64 (F + (lo : Nat)), .int .i64 (F + (hi : Nat))], .bool true])
section
variable {pT pF pS : Option Addr} {cT cF cS : Nat}
set_option maxRecDepth 100000 in
set_option maxHeartbeats 2000000 in
theorem refRun_c (s : Sd) (l : List Bool) (n : Nat) (q : Option Addr) (d k : Nat) (w : World) (hn : l.length = n) (ok : Ok s) (hl : Lists w s pT pF pS cT cF cS) (hr : Row w q 1 (bools l)) (hk : k < n) (hm : n ≤ 2000) :
    Calls Try.prog 113 #[sdVal s pT pF pS cT cF cS, .slice q n d, .int .i64 (firstM s.table + (k : Nat))] w fun e w' => RunEnd (firstM s.table) l k e ∧ Up w w' := by
  obtain ⟨f0, f1, f2⟩ := firstM_lt ok.table
  have HF := Lib.hid (fun W (u : Up w W) => refFirst_c s W (hl.up u) ok.table.2.2.1)
  have HR := Lib.hid hr
  have HN := Lib.hid hn
  have hkl : k < l.length := by omega
  obtain ⟨b, off, rfl, hc0⟩ := hr.bool k hkl
  rw [tr_get hkl] at hc0
  have HC := Lib.hid hc0
  have HKL := Lib.hid hkl
  have F9 : firstM s.table ≤ 1440 := by omega
  clear hl ok hr hn hc0 hkl
  generalize firstM s.table = F at *
  unfold sdVal at *
  go_enter Try.func113, Try.ntmps113
  go_wp2_with fail
  refine Calls.world ?_
  intro w0 hw0
  have u0 : Up w w0 := by rw [hw0]; (repeat (first | exact Below.refl _ _ | (with_reducible refine Below.drewN' ?_ _) | (with_reducible refine Below.drew ?_) | (with_reducible refine Below.setCell ?_ (by first | exact Nat.le_refl _ | omega | (with_reducible (repeat (first | refine sz_alloc ?_ | refine sz_setCell ?_ | refine sz_drew ?_ | refine sz_drewN ?_)); first | exact Nat.le_refl _ | omega) | (simp only [World.size_alloc, World.size_setCell, World.size_drew, size_drewN']; omega)) _) | (with_reducible refine Below.alloc ?_ (by first | exact Nat.le_refl _ | omega | (with_reducible (repeat (first | refine sz_alloc ?_ | refine sz_setCell ?_ | refine sz_drew ?_ | refine sz_drewN ?_)); first | exact Nat.le_refl _ | omega) | (simp only [World.size_alloc, World.size_setCell, World.size_drew, size_drewN']; omega)) _) | assumption))
  have hS : Blk w0 w.heap.size (sdCells s pT pF pS cT cF cS) 37 := by rw [hw0]; exact (Blk.new w (sdCells s pT pF pS cT cF cS) _).alloc _
  have hR : Blk w0 (w.heap.size + 1) [.int .i64 0, .int .i64 0] 24 := by rw [hw0]; exact Blk.new' _ [.int .i64 0, .int .i64 0] _ (by simp)
  clear hw0
  refine (HF.out w0 u0).mono ?_
  rintro e w1 ⟨rfl, u1⟩
  have U1 := Lib.hid (Up.trans u0 u1)
  have S1 := Lib.hid (hS.up u1)
  have R1 := Lib.hid (hR.up u1)
  clear u0 u1 hS hR
  have s1 : IntKind.i64.wrap (F + (k : Int) - F) = k := by rw [IntWalk.i64_in _ (by omega)]; omega
  have hc := U1.out.cellAt HC.out
  have k1 : (k : Int) < n := by omega
  cases hv : tr l k with
  | false =>
    rw [hv] at hc
    have r0 := R1.out.cell 0
    have r1 := R1.out.cell 1
    have rl := R1.out.lt
    have rf := R1.out.free
    simp only [List.getElem?_cons_zero, List.getElem?_cons_succ] at r0 r1
    have HV := Lib.hid hv
    clear hv
    go_wp2_with fail
    have h := (R1.out.set 0 (.int .i64 0)).set 1 (.int .i64 0)
    have p0 := h.cell 0
    have p1 := h.cell 1
    simp only [List.set_cons_zero, List.set_cons_succ, List.getElem?_cons_zero, List.getElem?_cons_succ] at p0 p1
    refine bodyPost_ret (v := .tuple #[.agg #[.int .i64 0, .int .i64 0], .bool false]) (by simp [results, Try.f113, go_sem, p0, p1]) rfl ⟨.inl ⟨HV.out, rfl⟩, ?_⟩
    exact (U1.out.setCell (by simp) _).setCell (by simp) _
  | true =>
    rw [hv] at hc
    have HV := Lib.hid hv
    clear hv
    go_upto_block 0 with fail
    clear s1 hc f1
    go_cut [9] (fun a wx => ∃ lo : Nat, a = .int .i64 lo ∧ lo ≤ k ∧ (∀ j, lo ≤ j → j ≤ k → tr l j = true) ∧ (lo = 0 ∨ tr l (lo - 1) = false) ∧ Up w1 wx)
    case first =>
      go_wp2_with fail
      go_loopw [9] (fun i wr => ∃ lo : Nat, i = .int .i64 lo ∧ lo ≤ k ∧ (∀ j, lo ≤ j → j ≤ k → tr l j = true) ∧ Up w1 wr) (fun i _ => (intOf i).toNat)
      case atStart => exact ⟨k, rfl, Nat.le_refl _, fun j h1 h2 => by rw [show j = k by omega]; exact HV.out, Below.refl _ _⟩
      case round =>
        obtain ⟨lo, rfl, hlo, ht, hu⟩ := hrel
        have HU := Lib.hid hu
        have HT := Lib.hid ht
        clear hu ht
        by_cases h0 : lo = 0
        · have g0 : ¬ (0 : Int) < (lo : Int) := by omega
          have g1 : decide ((0 : Int) < (lo : Int)) = false := decide_eq_false g0
          have H0 := Lib.hid h0
          clear h0
          go_wp2_with fail
          go_meet
          exact ⟨lo, rfl, hlo, HT.out, .inl H0.out, HU.out⟩
        · have g0 : (0 : Int) < (lo : Int) := by omega
          have g3 : 0 < lo := by omega
          have g1 : decide ((0 : Int) < (lo : Int)) = true := decide_eq_true g0
          have s2 : IntKind.i64.wrap ((lo : Int) - 1) = ((lo - 1 : Nat) : Int) := by rw [IntWalk.i64_in _ (by omega)]; omega
          have g2 : ((lo - 1 : Nat) : Int) < n := by omega
          have hlt : lo - 1 < l.length := by have := HKL.out; omega
          obtain ⟨b', off', he, hc⟩ := (HR.out.up (Up.trans U1.out HU.out)).bool (lo - 1) hlt
          obtain ⟨rfl, rfl⟩ : b = b' ∧ off = off' := by simpa using he
          rw [tr_get hlt] at hc
          have H0 := Lib.hid h0
          clear he hlt h0
          cases hv : tr l (lo - 1) with
          | false =>
            rw [hv] at hc
            have HV2 := Lib.hid hv
            clear hv
            go_wp2_with fail
            go_meet
            exact ⟨lo, rfl, hlo, HT.out, .inr HV2.out, HU.out⟩
          | true =>
            rw [hv] at hc
            have HV2 := Lib.hid hv
            clear hv
            go_wp2_with fail
            go_roundw
            case rel =>
              try ((repeat apply Exists.intro); refine ⟨?_, rfl⟩)
              exact ⟨lo - 1, rfl, by omega, fun j h1 h2 => if h : j = lo - 1 then by rw [h]; exact HV2.out else HT.out j (by omega) h2, HU.out⟩
            case measure => simp [intOf]; omega
    case rest =>
      obtain ⟨lo, rfl, hlo, ht, hlo2, hu⟩ := hcut
      generalize wc = w2 at *
      have HLO := Lib.hid hlo2
      have HT := Lib.hid ht
      have U2 := Lib.hid (Up.trans U1.out hu)
      have S2 := Lib.hid (S1.out.up hu)
      have R2 := Lib.hid (R1.out.up hu)
      clear hu ht hlo2 U1 S1 R1
      have sm : IntKind.i64.wrap ((n : Int) - 1) = (n : Int) - 1 := IntWalk.i64_in _ (by omega)
      go_upto_block 2 with fail
      go_cut [10] (fun a wx => ∃ hi : Nat, a = .int .i64 hi ∧ k ≤ hi ∧ hi < n ∧ (∀ j, lo ≤ j → j ≤ hi → tr l j = true) ∧ (hi + 1 = n ∨ tr l (hi + 1) = false) ∧ Up w2 wx)
      case first =>
        go_wp2_with fail
        go_loopw [10] (fun i wr => ∃ hi : Nat, i = .int .i64 hi ∧ k ≤ hi ∧ hi < n ∧ (∀ j, lo ≤ j → j ≤ hi → tr l j = true) ∧ Up w2 wr) (fun i _ => n - (intOf i).toNat)
        case atStart => exact ⟨k, rfl, Nat.le_refl _, hk, HT.out, Below.refl _ _⟩
        case round =>
          obtain ⟨hi, rfl, hhi, hin, ht, hu⟩ := hrel
          have HU := Lib.hid hu
          have HTr := Lib.hid ht
          clear hu ht
          by_cases h0 : hi + 1 = n
          · have g0 : ¬ (hi : Int) < (n : Int) - 1 := by omega
            have g1 : decide ((hi : Int) < (n : Int) - 1) = false := decide_eq_false g0
            have H0 := Lib.hid h0
            clear h0
            go_wp2_with fail
            go_meet
            exact ⟨hi, rfl, hhi, hin, HTr.out, .inl H0.out, HU.out⟩
          · have g0 : (hi : Int) < (n : Int) - 1 := by omega
            have g1 : decide ((hi : Int) < (n : Int) - 1) = true := decide_eq_true g0
            have s2 : IntKind.i64.wrap ((hi : Int) + 1) = ((hi + 1 : Nat) : Int) := by rw [IntWalk.i64_in _ (by omega)]; omega
            have g2 : ((hi + 1 : Nat) : Int) < n := by omega
            have hlt : hi + 1 < l.length := by have := HN.out; omega
            obtain ⟨b', off', he, hc⟩ := (HR.out.up (Up.trans U2.out HU.out)).bool (hi + 1) hlt
            obtain ⟨rfl, rfl⟩ : b = b' ∧ off = off' := by simpa using he
            rw [tr_get hlt] at hc
            have H0 := Lib.hid h0
            clear he hlt h0
            cases hv : tr l (hi + 1) with
            | false =>
              rw [hv] at hc
              have HV2 := Lib.hid hv
              clear hv
              go_wp2_with fail
              go_meet
              exact ⟨hi, rfl, hhi, hin, HTr.out, .inr HV2.out, HU.out⟩
            | true =>
              rw [hv] at hc
              have HV2 := Lib.hid hv
              clear hv
              go_wp2_with fail
              go_roundw
              case rel =>
                try ((repeat apply Exists.intro); refine ⟨?_, rfl⟩)
                exact ⟨hi + 1, rfl, by omega, by omega, fun j h1 h2 => if h : j = hi + 1 then by rw [h]; exact HV2.out else HTr.out j h1 (by omega), HU.out⟩
              case measure => simp [intOf]; omega
      case rest =>
        obtain ⟨hi, rfl, hhi, hin, ht, hhi2, hu⟩ := hcut
        generalize wc = w3 at *
        have RUN : Hid (IsRun l k lo hi) := Lib.hid ⟨hlo, hhi, by have := HN.out; omega, ht, HLO.out, by rw [HN.out]; exact hhi2⟩
        have U3 := Lib.hid (Up.trans U2.out hu)
        have S3 := Lib.hid (S2.out.up hu)
        have R3 := Lib.hid (R2.out.up hu)
        clear hu ht hhi2 U2 S2 R2 HLO HT sm
        obtain ⟨c0, c1, c2, c3, c4⟩ := five S3.out
        go_upto_region 9 with fail
        refine region_tail (fun W' => W'.cell? ⟨w.heap.size, 0, none⟩ = some (.slice pT s.table.length cT) ∧ W'.cell? ⟨w.heap.size, 1, none⟩ = some (.int .i64 s.lo) ∧ W'.cell? ⟨w.heap.size, 2, none⟩ = some (.int .i64 s.hi) ∧ W'.cell? ⟨w.heap.size, 3, none⟩ = some (.slice pF s.floors.length cF) ∧ W'.cell? ⟨w.heap.size, 4, none⟩ = some (.slice pS s.sills.length cS)) 9 mixed (by kernel_rfl) ⟨c0, c1, c2, c3, c4⟩ (fun hHeld => ?_)
        refine wpAnyG_take 0 48 (v := ?_) rfl rfl (by kernel_rfl) (fun _ _ _ h => h) (Or.inl ⟨by rfl, ?_⟩) (by assumption) ?_
        rotate_left
        · (intro w' hSw; (try dsimp only at hSw); go_split_ands; go_simp; try with_reducible rfl)
        try simp only [List.setIfInBounds_toArray, List.set_cons_zero, List.set_cons_succ]
        refine wpAnyG_take 2 50 (v := ?_) rfl rfl (by kernel_rfl) (fun _ _ _ h => h) (Or.inl ⟨by rfl, ?_⟩) (by assumption) ?_
        rotate_left
        · (intro w' hSw; (try dsimp only at hSw); go_split_ands; go_simp; try with_reducible rfl)
        try simp only [List.setIfInBounds_toArray, List.set_cons_zero, List.set_cons_succ]
        refine wpAnyG_take 4 52 (v := ?_) rfl rfl (by kernel_rfl) (fun _ _ _ h => h) (Or.inl ⟨by rfl, ?_⟩) (by assumption) ?_
        rotate_left
        · (intro w' hSw; (try dsimp only at hSw); go_split_ands; go_simp; try with_reducible rfl)
        try simp only [List.setIfInBounds_toArray, List.set_cons_zero, List.set_cons_succ]
        refine wpAnyG_take 6 54 (v := ?_) rfl rfl (by kernel_rfl) (fun _ _ _ h => h) (Or.inl ⟨by rfl, ?_⟩) (by assumption) ?_
        rotate_left
        · (intro w' hSw; (try dsimp only at hSw); go_split_ands; go_simp; try with_reducible rfl)
        try simp only [List.setIfInBounds_toArray, List.set_cons_zero, List.set_cons_succ]
        refine wpAnyG_do 1 rfl (by kernel_rfl) (fun K hK => ?_)
        rw [if_pos (by rfl)]
        go_simp
        refine (HF.out _ (Up.trans U3.out (by (repeat (first | exact Below.refl _ _ | (with_reducible refine Below.drewN' ?_ _) | (with_reducible refine Below.drew ?_) | (with_reducible refine Below.setCell ?_ (by first | exact Nat.le_refl _ | omega | (with_reducible (repeat (first | refine sz_alloc ?_ | refine sz_setCell ?_ | refine sz_drew ?_ | refine sz_drewN ?_)); first | exact Nat.le_refl _ | omega) | (simp only [World.size_alloc, World.size_setCell, World.size_drew, size_drewN']; omega)) _) | (with_reducible refine Below.alloc ?_ (by first | exact Nat.le_refl _ | omega | (with_reducible (repeat (first | refine sz_alloc ?_ | refine sz_setCell ?_ | refine sz_drew ?_ | refine sz_drewN ?_)); first | exact Nat.le_refl _ | omega) | (simp only [World.size_alloc, World.size_setCell, World.size_drew, size_drewN']; omega)) _) | assumption))))).mono ?_
        rintro e wa ⟨rfl, v6⟩
        have v6' : Up w3 wa := Up.trans (by (repeat (first | exact Below.refl _ _ | (with_reducible refine Below.drewN' ?_ _) | (with_reducible refine Below.drew ?_) | (with_reducible refine Below.setCell ?_ (by first | exact Nat.le_refl _ | omega | (with_reducible (repeat (first | refine sz_alloc ?_ | refine sz_setCell ?_ | refine sz_drew ?_ | refine sz_drewN ?_)); first | exact Nat.le_refl _ | omega) | (simp only [World.size_alloc, World.size_setCell, World.size_drew, size_drewN']; omega)) _) | (with_reducible refine Below.alloc ?_ (by first | exact Nat.le_refl _ | omega | (with_reducible (repeat (first | refine sz_alloc ?_ | refine sz_setCell ?_ | refine sz_drew ?_ | refine sz_drewN ?_)); first | exact Nat.le_refl _ | omega) | (simp only [World.size_alloc, World.size_setCell, World.size_drew, size_drewN']; omega)) _) | assumption))) v6
        refine hK.out _ _ ⟨v6'.cellAt c0, v6'.cellAt c1, v6'.cellAt c2, v6'.cellAt c3, v6'.cellAt c4⟩ (fun hHeld => ?_)
        clear hK K
        have s1 : IntKind.i64.wrap (F + (lo : Int)) = F + lo := IntWalk.i64_in _ (by omega)
        refine wpAnyG_take 3 51 (v := .int .i64 (F + lo)) rfl rfl (by kernel_rfl) (fun _ _ _ h => h) (Or.inl ⟨by rfl, ?_⟩) (by assumption) ?_
        · intro w' _
          go_simp
        try simp only [List.setIfInBounds_toArray, List.set_cons_zero, List.set_cons_succ]
        refine wpAnyG_do 5 rfl (by kernel_rfl) (fun K hK => ?_)
        rw [if_pos (by rfl)]
        go_simp
        refine (HF.out _ (Up.trans U3.out v6')).mono ?_
        rintro e wb ⟨rfl, v7⟩
        have v7' : Up w3 wb := Up.trans v6' v7
        refine hK.out _ _ ⟨v7'.cellAt c0, v7'.cellAt c1, v7'.cellAt c2, v7'.cellAt c3, v7'.cellAt c4⟩ (fun hHeld => ?_)
        clear hK K
        have s2 : IntKind.i64.wrap (F + (hi : Int)) = F + hi := IntWalk.i64_in _ (by omega)
        refine wpAnyG_take 7 55 (v := .int .i64 (F + hi)) rfl rfl (by kernel_rfl) (fun _ _ _ h => h) (Or.inl ⟨by rfl, ?_⟩) (by assumption) ?_
        · intro w' _
          go_simp
        try simp only [List.setIfInBounds_toArray, List.set_cons_zero, List.set_cons_succ]
        refine wpAnyG_take 8 56 (v := ?_) rfl rfl (by kernel_rfl) (fun _ _ _ h => h) (Or.inl ⟨by rfl, ?_⟩) (by assumption) ?_
        rotate_left
        · (intro w' hSw; (try dsimp only at hSw); go_split_ands; go_simp; try with_reducible rfl)
        try simp only [List.setIfInBounds_toArray, List.set_cons_zero, List.set_cons_succ]
        refine wpAnyG_tail (by kernel_rfl) ?_
        have U4 := Lib.hid (Up.trans U3.out v7')
        have R4 := Lib.hid (R3.out.up v7')
        clear c0 c1 c2 c3 c4 v6 v7 v6' v7' s1 s2 hHeld U3 R3 S3
        have r0 := R4.out.cell 0
        have r1 := R4.out.cell 1
        have rl := R4.out.lt
        have rf := R4.out.free
        simp only [List.getElem?_cons_zero, List.getElem?_cons_succ] at r0 r1
        change wpList _ _ _ [_, _] _ _
        go_wp2_with fail
        have h := (R4.out.set 0 (.int .i64 (F + lo))).set 1 (.int .i64 (F + hi))
        have p0 := h.cell 0
        have p1 := h.cell 1
        simp only [List.set_cons_zero, List.set_cons_succ, List.getElem?_cons_zero, List.getElem?_cons_succ] at p0 p1
        refine bodyPost_ret (v := .tuple #[.agg #[.int .i64 (F + lo), .int .i64 (F + hi)], .bool true]) (by simp [results, Try.f113, go_sem, p0, p1]) rfl ⟨.inr ⟨lo, hi, RUN.out, rfl⟩, ?_⟩
        exact (U4.out.setCell (by simp) _).setCell (by simp) _
end
end Go.Proofs.Ytcljkkojeleakaa
namespace Go.Proofs.Ytcljkkojeleakaa
open Go.RowKit Go.Shelf

theorem spSt_open (f : Int → Bool) (a : Int) (k : Nat) : (spSt f a (k + 1)).2.2 = f (a + k) := by
  show (if f (a + k) then (if (spSt f a k).2.2 then spSt f a k else ((spSt f a k).1, a + k, true)) else (if (spSt f a k).2.2 then ((spSt f a k).1 ++ [((spSt f a k).2.1, a + k - 1)], (spSt f a k).2.1, false) else spSt f a k)).2.2 = f (a + k)
  cases h : f (a + k) <;> cases h2 : (spSt f a k).2.2 <;> simp [h2]
/-- what the reference has gathered of the first k minutes: the last run whole, though it may go on behind them -/
def SpInv (f : Int → Bool) (a : Int) (n k : Nat) (L : List (Int × Int)) : Prop :=
  ((spSt f a k).2.2 = false ∧ L = (spSt f a k).1) ∨
  ∃ e : Nat, (spSt f a k).2.2 = true ∧ L = (spSt f a k).1 ++ [((spSt f a k).2.1, a + (e : Int))] ∧ k ≤ e + 1 ∧ e < n ∧ (∀ j : Nat, k ≤ j → j ≤ e → f (a + j) = true) ∧ (e + 1 = n ∨ f (a + ((e + 1 : Nat) : Int)) = false)
theorem SpInv.start (f : Int → Bool) (a : Int) (n : Nat) : SpInv f a n 0 [] := .inl ⟨rfl, rfl⟩
theorem SpInv.len {f : Int → Bool} {a : Int} {n k : Nat} {L : List (Int × Int)} (h : SpInv f a n k L) : L.length ≤ k + 1 := by
  have := spSt_len f a k
  rcases h with ⟨-, rfl⟩ | ⟨e, -, rfl, -⟩
  · omega
  · simp; omega
/-- a minute of which it is not true -/
theorem SpInv.no {f : Int → Bool} {a : Int} {n k : Nat} {L : List (Int × Int)} (h : SpInv f a n k L) (hf : f (a + k) = false) : SpInv f a n (k + 1) L := by
  have ho := spSt_open f a k
  rw [hf] at ho
  left
  refine ⟨ho, ?_⟩
  show L = (if f (a + k) then (if (spSt f a k).2.2 then spSt f a k else ((spSt f a k).1, a + k, true)) else (if (spSt f a k).2.2 then ((spSt f a k).1 ++ [((spSt f a k).2.1, a + k - 1)], (spSt f a k).2.1, false) else spSt f a k)).1
  rw [hf]
  rcases h with ⟨h0, rfl⟩ | ⟨e, h0, rfl, h1, h2, h3, h4⟩
  · rw [h0]; simp
  · have he : e + 1 = k := by
      by_cases hk : k ≤ e
      · rw [h3 k (Nat.le_refl _) hk] at hf; cases hf
      · omega
    rw [h0]
    simp only [Bool.false_eq_true, if_false, if_true]
    rw [show a + (k : Int) - 1 = a + (e : Int) by omega]
/-- a minute of which it is true, and of the one ahead too -/
theorem SpInv.on {f : Int → Bool} {a : Int} {n k : Nat} {L : List (Int × Int)} (h : SpInv f a n (k + 1) L) (hn : k + 1 < n) (hf : f (a + ((k + 1 : Nat) : Int)) = true) (hp : f (a + k) = true) : SpInv f a n (k + 2) L := by
  have ho := spSt_open f a k
  rw [hp] at ho
  rcases h with ⟨h0, -⟩ | ⟨e, h0, rfl, h1, h2, h3, h4⟩
  · rw [ho] at h0; cases h0
  · right
    have hs : spSt f a (k + 2) = spSt f a (k + 1) := by
      show (if f (a + ((k + 1 : Nat) : Int)) then (if (spSt f a (k + 1)).2.2 then spSt f a (k + 1) else ((spSt f a (k + 1)).1, a + ((k + 1 : Nat) : Int), true)) else (if (spSt f a (k + 1)).2.2 then ((spSt f a (k + 1)).1 ++ [((spSt f a (k + 1)).2.1, a + ((k + 1 : Nat) : Int) - 1)], (spSt f a (k + 1)).2.1, false) else spSt f a (k + 1))) = _
      rw [hf, h0]; simp
    have hke : k + 1 ≤ e := by
      by_cases hk : k + 1 ≤ e
      · exact hk
      · have : e + 1 = k + 1 := by omega
        rcases h4 with h4 | h4
        · omega
        · rw [this, hf] at h4; cases h4
    rw [hs]
    exact ⟨e, h0, rfl, by omega, h2, fun j h5 h6 => h3 j (by omega) h6, h4⟩
/-- a minute with which a run begins -/
theorem SpInv.begin {f : Int → Bool} {a : Int} {n k : Nat} {L : List (Int × Int)} (h : SpInv f a n k L) (hb : k = 0 ∨ f (a + ((k - 1 : Nat) : Int)) = false) {e : Nat} (h1 : k ≤ e) (h2 : e < n) (h3 : ∀ j : Nat, k ≤ j → j ≤ e → f (a + j) = true) (h4 : e + 1 = n ∨ f (a + ((e + 1 : Nat) : Int)) = false) :
    SpInv f a n (k + 1) (L ++ [(a + (k : Int), a + (e : Int))]) := by
  have hk : (spSt f a k).2.2 = false := by
    rcases hb with rfl | hb
    · rfl
    · cases k with
      | zero => rfl
      | succ k => rw [spSt_open]; exact hb
  have hL : L = (spSt f a k).1 := by
    rcases h with ⟨-, h⟩ | ⟨e, h0, -⟩
    · exact h
    · rw [hk] at h0; cases h0
  have hs : spSt f a (k + 1) = ((spSt f a k).1, a + (k : Int), true) := by
    show (if f (a + k) then (if (spSt f a k).2.2 then spSt f a k else ((spSt f a k).1, a + k, true)) else (if (spSt f a k).2.2 then ((spSt f a k).1 ++ [((spSt f a k).2.1, a + k - 1)], (spSt f a k).2.1, false) else spSt f a k)) = _
    rw [h3 k (Nat.le_refl _) h1, hk]; simp
  right
  rw [hs, hL]
  exact ⟨e, rfl, rfl, by omega, h2, fun j h5 h6 => h3 j (by omega) h6, h4⟩
theorem SpInv.done {f : Int → Bool} {a : Int} {n : Nat} {L : List (Int × Int)} (h : SpInv f a n n L) : L = spansOf f a n := by
  unfold spansOf
  rcases h with ⟨h0, rfl⟩ | ⟨e, h0, rfl, h1, h2, h3, h4⟩
  · rw [h0]; simp
  · rw [h0]
    simp only [if_true]
    rw [show a + (n : Int) - 1 = a + (e : Int) by omega]

section
variable {pT pF pS : Option Addr} {cT cF cS : Nat}
set_option maxRecDepth 100000 in
set_option maxHeartbeats 2000000 in
theorem refSpans_c (s : Sd) (f : Int → Bool) (l : List Bool) (n : Nat) (q : Option Addr) (d : Nat) (w : World) (hn : l.length = n) (hd : n = dayN s) (ok : Ok s) (hl : Lists w s pT pF pS cT cF cS) (hr : Row w q 1 (bools l)) (hf : ∀ j : Nat, j < n → f (firstM s.table + (j : Int)) = tr l j) :
    Calls Try.prog 44 #[sdVal s pT pF pS cT cF cS, .slice q n d] w fun e w' => ∃ q' d', e = .returned (.slice q' (spansOf f (firstM s.table) n).length d') ∧ (spansOf f (firstM s.table) n).length ≤ d' ∧ d' ≤ maxLen ∧ Row w' q' 2 (pairs (spansOf f (firstM s.table) n)) ∧ Up w w' := by
  obtain ⟨f0, f1, f2⟩ := firstM_lt ok.table
  have hdn : (n : Int) = lastM s.table - firstM s.table + 1 := by rw [hd]; unfold dayN; omega
  have hF := Lib.hid (fun W (u : Up w W) => refFirst_c s W (hl.up u) ok.table.2.2.1)
  have hA := Lib.hid (fun W (u : Up w W) => refLast_c s W (hl.up u) ok.table.2.2.1 ok.table.2.2.2)
  have HRN := Lib.hid (fun (k : Nat) W (u : Up w W) (hk : k < n) => refRun_c s l n q d k W hn ok (hl.up u) (hr.up u) hk (by omega))
  have HN := Lib.hid hn
  have HFF := Lib.hid hf
  have F9 : firstM s.table ≤ 1440 := by omega
  have hla : lastM s.table = firstM s.table + n - 1 := by omega
  rw [hla] at hA
  have n9 : n ≤ 1441 := by omega
  obtain ⟨i0, hi, hz0, hz1, hz2⟩ := info_parts info24
  clear hl ok hr hn hd hf hdn hla f1 f2
  generalize firstM s.table = F at *
  unfold sdVal at *
  go_enter Try.func44, Try.ntmps44
  go_wp2_with fail
  have BS : Hid (Blk (w.alloc (.cells #[.slice pT s.table.length cT, .int .i64 s.lo, .int .i64 s.hi, .slice pF s.floors.length cF, .slice pS s.sills.length cS] 37)) w.heap.size (sdCells s pT pF pS cT cF cS) 37) := Lib.hid (Blk.new w (sdCells s pT pF pS cT cF cS) 37)
  have U0 : Hid (Up w (w.alloc (.cells #[.slice pT s.table.length cT, .int .i64 s.lo, .int .i64 s.hi, .slice pF s.floors.length cF, .slice pS s.sills.length cS] 37))) := Lib.hid (by (repeat (first | exact Below.refl _ _ | (with_reducible refine Below.drewN' ?_ _) | (with_reducible refine Below.drew ?_) | (with_reducible refine Below.setCell ?_ (by first | exact Nat.le_refl _ | omega | (with_reducible (repeat (first | refine sz_alloc ?_ | refine sz_setCell ?_ | refine sz_drew ?_ | refine sz_drewN ?_)); first | exact Nat.le_refl _ | omega) | (simp only [World.size_alloc, World.size_setCell, World.size_drew, size_drewN']; omega)) _) | (with_reducible refine Below.alloc ?_ (by first | exact Nat.le_refl _ | omega | (with_reducible (repeat (first | refine sz_alloc ?_ | refine sz_setCell ?_ | refine sz_drew ?_ | refine sz_drewN ?_)); first | exact Nat.le_refl _ | omega) | (simp only [World.size_alloc, World.size_setCell, World.size_drew, size_drewN']; omega)) _) | assumption)))
  generalize (w.alloc (.cells #[.slice pT s.table.length cT, .int .i64 s.lo, .int .i64 s.hi, .slice pF s.floors.length cF, .slice pS s.sills.length cS] 37)) = w0 at *
  refine (hF.out w0 U0.out).mono ?_
  rintro e w1 ⟨rfl, u1⟩
  have U1 := Lib.hid u1
  have hs1 := u1.size
  clear u1
  go_wp2_with fail
  go_loopw [6, 5] (fun i v wr => ∃ (k : Nat) (L : List (Int × Int)), k ≤ n ∧ i = .int .i64 (F + k) ∧ SpInv f F n k L ∧ wr.ownsRow w0.heap.size 24 2 v L.length (spc L) ∧ Up w0 wr) (fun i _ _ => (F + n - intOf i).toNat)
  case atStart => exact ⟨0, [], by omega, by simp, SpInv.start _ _ _, World.ownsRow_nil _ _ _ _, U1.out⟩
  case round =>
    obtain ⟨k, L, hk, rfl, hinv, hown, hu⟩ := hrel
    have hL9 := hinv.len
    have HI := Lib.hid hinv
    have HO := Lib.hid hown
    have HU := Lib.hid hu
    obtain ⟨c0, c1, c2, c3, c4⟩ := five (BS.out.up hu)
    clear hown hu hinv
    go_wp2_with fail
    refine (hA.out wr (Up.trans U0.out HU.out)).mono ?_
    rintro e w2 ⟨rfl, u2⟩
    have O2 := Lib.hid (ownsRow_up HO.out u2)
    have U2 := Lib.hid (Up.trans HU.out u2)
    clear u2 HO HU c0 c1 c2 c3 c4
    obtain ⟨c0, c1, c2, c3, c4⟩ := five (BS.out.up U2.out)
    by_cases hlt : k < n
    · have k1 : F + (k : Int) ≤ F + n - 1 := by omega
      have sy : IntKind.i64.wrap (F + (k : Int) + 1) = F + k + 1 := IntWalk.i64_in _ (by omega)
      go_wp2_with fail
      refine (HRN.out k w2 (Up.trans U0.out U2.out) hlt).mono ?_
      rintro e w3 ⟨he, u3⟩
      have O3 := Lib.hid (ownsRow_up O2.out u3)
      have U3 := Lib.hid (Up.trans U2.out u3)
      clear u3 O2 U2 c0 c1 c2 c3 c4
      have hsz := U3.out.size
      rcases he with ⟨hv, rfl⟩ | ⟨lo, hi', hrun, rfl⟩
      · have HI2 := Lib.hid (HI.out.no (by rw [HFF.out k hlt]; exact hv))
        clear hv
        go_wp2_with fail
        go_roundw
        case rel =>
          try ((repeat apply Exists.intro); refine ⟨?_, rfl⟩)
          exact ⟨k + 1, L, by omega, by go_num, HI2.out, O3.out.alloc _, U3.out.alloc hsz _⟩
        case measure => simp [intOf]; omega
      · obtain ⟨r1, r2, r3, r4, r5, r6⟩ := hrun
        rw [HN.out] at r3 r6
        by_cases hlo : lo = k
        · subst hlo
          have HI2 := Lib.hid (HI.out.begin (e := hi') (r5.imp id (fun h => by rw [HFF.out _ (by omega)]; exact h)) r2 r3 (fun j h1 h2 => by rw [HFF.out j (by omega)]; exact r4 j h1 h2) (if h : hi' + 1 = n then .inl h else .inr (by rw [HFF.out _ (by omega)]; exact r6.resolve_left h)))
          clear r4 r5 r6
          go_upto_if 30 with fail
          have h4 : Blk (w3.alloc (.cells #[.int .i64 (F + (lo : Int)), .int .i64 (F + (hi' : Int))] 24)) w3.heap.size [.int .i64 (F + (lo : Int)), .int .i64 (F + (hi' : Int))] 24 := Blk.new w3 [.int .i64 (F + (lo : Int)), .int .i64 (F + (hi' : Int))] _
          have O4 := Lib.hid (O3.out.alloc (.cells #[.int .i64 (F + (lo : Int)), .int .i64 (F + (hi' : Int))] 24))
          have U4 := Lib.hid (U3.out.alloc hsz (.cells #[.int .i64 (F + (lo : Int)), .int .i64 (F + (hi' : Int))] 24))
          generalize w3.alloc (.cells #[.int .i64 (F + (lo : Int)), .int .i64 (F + (hi' : Int))] 24) = w4 at *
          have hsz4 := U4.out.size
          have y0 := h4.cell 0
          have y1 := h4.cell 1
          simp only [List.getElem?_cons_zero, List.getElem?_cons_succ] at y0 y1
          clear h4 O3 U3
          go_wp2_with (at_builtin; refine wpList_append_own _ rfl _ _ 68 rfl w0.heap.size 24 i0 (.agg #[.int .i64 0, .int .i64 0]) 2 16 Try.underlying68 hi hz0 hz1 hz2 rfl (by decide) _ L.length _ rfl (O4.out.alloc _) ⟨w4.heap.size, 0, none⟩ 1 1 [.int .i64 (F + (lo : Int)), .int .i64 (F + (hi' : Int))] rfl rfl (newsAt _ rfl [.int .i64 (F + (lo : Int)), .int .i64 (F + (hi' : Int))] _) (by simp [Value.oneCell']) (by simp [maxLen]; omega) (by omega) (sz_alloc hsz4) ?_; intro v' w8 hown8 hgr8 hnn; clear hnn)
          have U8 := Lib.hid ((U4.out.alloc hsz4 _).grown hgr8 (sz_alloc hsz4) (fun j e => (O4.out.lt j e).1))
          have O8 := Lib.hid hown8
          clear hown8 hgr8 y0 y1
          go_roundw
          case rel =>
            try ((repeat apply Exists.intro); refine ⟨?_, rfl⟩)
            refine ⟨lo + 1, L ++ [(F + (lo : Int), F + (hi' : Int))], by omega, by go_num, HI2.out, ?_, U8.out⟩
            rw [spc_snoc, List.length_append]
            exact O8.out
          case measure => simp [intOf]; omega
        · have hb : (F + (lo : Int) == F + (k : Int)) = false := beq_eq_false_iff_ne.2 (by omega)
          have HI2 : Hid (SpInv f F n (k + 1) L) := by
            obtain ⟨k', rfl⟩ : ∃ k', k = k' + 1 := ⟨k - 1, by omega⟩
            exact HI.out.on hlt (by rw [HFF.out _ hlt]; exact r4 _ r1 r2) (by rw [HFF.out _ (by omega)]; exact r4 _ (by omega) (by omega))
          clear r4 r5 r6
          go_wp2_with fail
          go_roundw
          case rel =>
            try ((repeat apply Exists.intro); refine ⟨?_, rfl⟩)
            exact ⟨k + 1, L, by omega, by go_num, HI2.out, O3.out.alloc _, U3.out.alloc hsz _⟩
          case measure => simp [intOf]; omega
    · obtain rfl : k = n := by omega
      have hL := HI.out.done
      subst hL
      obtain ⟨q', d', rfl, a1, a2, hR⟩ := row_of_owns O2.out
      have k1 : ¬ F + ((k : Nat) : Int) ≤ F + k - 1 := by omega
      go_wp2_with fail
      go_ret
      exact ⟨q', d', rfl, a1, a2, hR, Up.trans U0.out U2.out⟩
end
end Go.Proofs.Ytcljkkojeleakaa
