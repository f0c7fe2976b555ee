/- Plain facts for the law TideShifted: sands whose table is lifted and whose wind is let down by as much; a row of pairs changed in its place; sands that Made makes are right; the law's own first, last and line. -/
import Derived.Test.YtcljkkojeleakaaBase
import Derived.Test.YtcljkkojeleakaaLine
import Derived.Test.YtcljkkojeleakaaHeight
import Derived.Test.YtcljkkojeleakaaChk
import Derived.Test.YtcljkkojeleakaaChk2
import Derived.Test.YtcljkkojeleakaaLower
import Derived.Test.YtcljkkojeleakaaGates
import Derived.Test.YtcljkkojeleakaaBegin
import Derived.Test.YtcljkkojeleakaaBegin2
import Derived.Test.YtcljkkojeleakaaSpans
import Derived.Test.YtcljkkojeleakaaState2
import Derived.Test.YtcljkkojeleakaaFits
import Derived.Test.YtcljkkojeleakaaOut1
import Derived.Test.YtcljkkojeleakaaAll
import Derived.Test.YtcljkkojeleakaaSpans2
import Derived.Test.YtcljkkojeleakaaTurn
import Derived.Test.YtcljkkojeleakaaOwn
import Derived.Test.YtcljkkojeleakaaFar
import Derived.Test.YtcljkkojeleakaaMade
import Derived.Test.YtcljkkojeleakaaHgtPure
import Derived.WalkKit
import Derived.WalkSpells
import Derived.WalkLawsBesides
import Derived.Deep.QuietTactic
import Derived.BigQuiet
import Derived.Lib.Hide
import Derived.Shelf.Abstract
import Derived.BigGuardPart
import Derived.RangeFuncNested
import Derived.RangeFuncBound
import Derived.RangeFuncCalls
import Derived.RangeFuncLeaves
import Derived.Shelf.RegionOpen
import Derived.OwnWalkIn
import Derived.TacticsInMore
import Derived.LoopNIn
import Derived.LoopIn
import Derived.StillTailTactics
import Derived.Deep.RegionHeld3
import Derived.StillTail
import Derived.RangeFuncWrites
import Derived.Laws.StructEq
import Derived.Deep.LoopGhost
import Derived.IntWalk
import Derived.RangeFuncBox
import Derived.Laws.BitsAllLaws
import Derived.ArgAppend
import Derived.Laws.CopyOwn
import Derived.OwnWalk
import Derived.Lib.SliceRun
import Derived.Maps.OwnOps
import Derived.Maps.OwnSet
import Derived.Deep.AppendSrc
import Derived.Deep.Upon
import Derived.Deep.Cut
import Derived.Deep.DeepCutAuto
namespace Go.Proofs.Ytcljkkojeleakaa
section
open Go.RowKit

theorem chk_zero {s : Sd} (h : Ok s) : chk s = 0 := by
  obtain ⟨⟨t1, t2, t3, t4⟩, f0, f1, sl, lo0, hi1, lohi, fl, hs, good, two⟩ := h
  have h1 : okCounts s = true := by
    simp only [okCounts, Bool.and_eq_true, inB_true, decide_eq_true_eq]
    omega
  have h2 : okNumbers s = true := by
    simp only [okNumbers, Bool.and_eq_true, inB_true, List.all_eq_true, okWater]
    exact ⟨⟨⟨⟨fun x hx => ⟨⟨(t1 x hx).1, (t1 x hx).2.1⟩, (t1 x hx).2.2.1, (t1 x hx).2.2.2⟩, by omega, by omega⟩, by omega, by omega⟩, fl⟩, hs⟩
  have h3 : okOrder s = true := by
    simp only [okOrder, Bool.and_eq_true, decide_eq_true_eq]
    refine ⟨?_, lohi⟩
    unfold ordB
    rw [List.all_eq_true]
    intro i hi
    rw [List.mem_range] at hi
    have := t2 i (by omega)
    simpa [List.getD, List.getElem?_eq_getElem (show i + 1 < s.table.length by omega), List.getElem?_eq_getElem (show i < s.table.length by omega)] using this
  have h4 : s.sills.all (okThings s.floors.length) = true := by
    rw [List.all_eq_true]
    intro x hx
    have := good x hx
    simp only [okThings, Bool.and_eq_true, Bool.or_eq_true, beq_iff_eq, inB_true]
    omega
  have h5 : s.sills.all (fun x => x.1 != x.2.1) = true := by
    rw [List.all_eq_true]
    intro x hx
    simpa using two x hx
  unfold chk
  rw [if_neg (by rw [h1]; decide), if_neg (by rw [h2]; decide), if_neg (by rw [h3]; decide), if_neg (by rw [h4]; decide), if_neg (by rw [h5]; decide)]

/-- a point of the line, lifted -/
def lift (d : Int) (x : Int × Int) : Int × Int := (x.1, x.2 + d)
theorem onL_lift (d m : Int) (a b : Int × Int) (h : a.1 < b.1) : onL (lift d a) (lift d b) m = onL a b m + d := by
  unfold onL lift
  dsimp only
  rw [show (a.2 + d) * (b.1 - a.1) + (b.2 + d - (a.2 + d)) * (m - a.1) = a.2 * (b.1 - a.1) + (b.2 - a.2) * (m - a.1) + d * (b.1 - a.1) by
    rw [Int.add_mul, show b.2 + d - (a.2 + d) = b.2 - a.2 by omega]; omega]
  rw [Int.add_mul_ediv_right _ _ (by omega)]
theorem hgtFrom_lift (d m : Int) : ∀ (r : List (Int × Int)) (a : Int × Int), (∀ i (h : i + 1 < (a :: r).length), (a :: r)[i].1 < (a :: r)[i + 1].1) → hgtFrom (lift d a) (r.map (lift d)) m = hgtFrom a r m + d
  | [], a, _ => rfl
  | b :: r, a, h => by
    have h0 := h 0 (by simp)
    have hr := hgtFrom_lift d m r b (fun i hi => h (i + 1) (by simp only [List.length_cons] at hi ⊢; omega))
    have h0' : a.1 < b.1 := h0
    show (if m ≤ b.1 then onL (lift d a) (lift d b) m else hgtFrom (lift d b) (r.map (lift d)) m) = (if m ≤ b.1 then onL a b m else hgtFrom b r m) + d
    split
    · exact onL_lift d m a b h0'
    · exact hr
theorem hgt_lift (d m : Int) (l : List (Int × Int)) (h : ∀ i (h : i + 1 < l.length), l[i].1 < l[i + 1].1) (hl : 1 ≤ l.length) : hgt (l.map (lift d)) m = hgt l m + d := by
  match l, h, hl with
  | a :: r, h, _ => exact hgtFrom_lift d m r a h

theorem fixG_eq {s t : Sd} (h : ∀ g, lowered s g = lowered t g) : ∀ n g, fixG s n g = fixG t n g
  | 0, g => rfl
  | n + 1, g => by unfold fixG; rw [h g, fixG_eq h n]
theorem gts_eq {s t : Sd} (h1 : s.floors = t.floors) (h2 : s.sills = t.sills) : gts s = gts t := by
  obtain ⟨l, lo, hi, f, x⟩ := s
  obtain ⟨l', lo', hi', f', x'⟩ := t
  dsimp only at h1 h2
  subst h1 h2
  unfold gts
  generalize (9000 : Nat) = n
  exact fixG_eq (s := ⟨l, lo, hi, f, x⟩) (t := ⟨l', lo', hi', f, x⟩) (fun g => rfl) n top

/-- the wind let down, and the table lifted, by as much -/
def shifted (d : Int) (s : Sd) : Sd := ⟨s.table.map (lift d), s.lo - d, s.hi - d, s.floors, s.sills⟩
section
variable {s : Sd} {d : Int}
theorem shifted_ok (h : Ok s) (d0 : 0 ≤ d) (hd : ∀ x ∈ s.table, x.2 + d ≤ 999) (hlo : -50 ≤ s.lo - d) : Ok (shifted d s) := by
  obtain ⟨⟨t1, t2, t3, t4⟩, f0, f1, sl, lo0, hi1, lohi, fl, hs, good, two⟩ := h
  have hlen : (shifted d s).table.length = s.table.length := List.length_map ..
  refine ⟨⟨fun x hx => ?_, fun i hi => ?_, by omega, by omega⟩, f0, f1, sl, hlo, ?_, ?_, fl, hs, good, two⟩
  · obtain ⟨y, hy, rfl⟩ := List.mem_map.1 hx
    have h1 := t1 y hy
    have h2 := hd y hy
    show 0 ≤ y.1 ∧ y.1 ≤ 1440 ∧ 0 ≤ y.2 + d ∧ y.2 + d ≤ 999
    omega
  · have := t2 i (by omega)
    simpa [shifted, lift] using this
  · show s.hi - d ≤ 50; omega
  · show s.lo - d ≤ s.hi - d; omega
theorem shifted_first : firstM (shifted d s).table = firstM s.table := by
  unfold firstM shifted
  dsimp only
  rw [List.getElem?_map]
  cases s.table[0]? <;> rfl
theorem shifted_last : lastM (shifted d s).table = lastM s.table := by
  unfold lastM shifted
  dsimp only
  rw [List.length_map, List.getElem?_map]
  cases s.table[s.table.length - 1]? <;> rfl
theorem shifted_inDay (m : Int) : inDay (shifted d s) m = inDay s m := by
  unfold inDay
  rw [shifted_first, shifted_last]
theorem shifted_hgt (h : Ok s) (m : Int) : hgt (shifted d s).table m = hgt s.table m + d := hgt_lift d m s.table h.table.2.1 (by have := h.table.2.2.1; omega)
theorem shifted_st (h : Ok s) (m : Int) (p : Nat) : st (shifted d s) m p = st s m p := by
  have e : gateOf (shifted d s) p = gateOf s p := by unfold gateOf; rw [gts_eq (s := shifted d s) (t := s) rfl rfl]
  unfold st
  rw [e, shifted_hgt h]
  have h1 : (shifted d s).lo = s.lo - d := rfl
  have h2 : (shifted d s).hi = s.hi - d := rfl
  rw [h1, h2, show hgt s.table m + d + (s.lo - d) = hgt s.table m + s.lo by omega, show hgt s.table m + d + (s.hi - d) = hgt s.table m + s.hi by omega]
theorem shifted_errAt (h : Ok s) (h' : Ok (shifted d s)) (m : Int) : errAt (shifted d s) m = errAt s m := by
  unfold errAt
  rw [chk_zero h, chk_zero h', shifted_inDay]
theorem shifted_errFor (h : Ok s) (h' : Ok (shifted d s)) (p : Int) : errFor (shifted d s) p = errFor s p := by
  unfold errFor
  rw [chk_zero h, chk_zero h']
  rfl
theorem shifted_allV (h : Ok s) (h' : Ok (shifted d s)) (m : Int) : allV (shifted d s) m = allV s m := by
  unfold allV
  rw [shifted_errAt h h']
  have : allS (shifted d s) m = allS s m := by
    unfold allS
    show (List.range s.floors.length).map _ = _
    exact List.map_congr_left (fun p _ => shifted_st h m p)
  rw [this]
theorem shifted_levelV (h : Ok s) (h' : Ok (shifted d s)) (m : Int) : levelV (shifted d s) m = levelV s m := by
  unfold levelV
  rw [shifted_errAt h h', shifted_hgt h]
  have h1 : (shifted d s).lo = s.lo - d := rfl
  have h2 : (shifted d s).hi = s.hi - d := rfl
  rw [h1, h2, show hgt s.table m + d + (s.lo - d) = hgt s.table m + s.lo by omega, show hgt s.table m + d + (s.hi - d) = hgt s.table m + s.hi by omega]
theorem shifted_drySpans (h : Ok s) (ps : List Int) : drySpans (shifted d s) ps = drySpans s ps := by
  have e : dryB (shifted d s) ps = dryB s ps := by
    funext m
    unfold dryB fitB
    simp only [shifted_st h]
  unfold drySpans dayN
  rw [e, shifted_first, shifted_last]
theorem shifted_turnV (h : Ok s) (h' : Ok (shifted d s)) (p m : Int) : turnV (shifted d s) p m = turnV s p m := by
  unfold turnV
  rw [shifted_errFor h h', shifted_inDay, shifted_drySpans h]
theorem shifted_errTurn (h : Ok s) (h' : Ok (shifted d s)) (p m : Int) : errTurn (shifted d s) p m = errTurn s p m := by
  unfold errTurn
  rw [shifted_errFor h h', shifted_inDay, shifted_drySpans h]
end
end

section
open Go.RowKit Go.Shelf

theorem five {w : World} {B : Nat} {a b c d e : Value} {T : TypeId} (h : Blk w B [a, b, c, d, e] T) :
    w.cell? ⟨B, 0, none⟩ = some a ∧ w.cell? ⟨B, 1, none⟩ = some b ∧ w.cell? ⟨B, 2, none⟩ = some c ∧ w.cell? ⟨B, 3, none⟩ = some d ∧ w.cell? ⟨B, 4, none⟩ = some e :=
  ⟨h.cell 0, h.cell 1, h.cell 2, h.cell 3, h.cell 4⟩
/-- the value of shifted sands -/
def shVal (d : Int) (s : Sd) (pT pF pS : Option Addr) (cT cF cS : Nat) : Value :=
  .agg #[.slice pT s.table.length cT, .int .i64 (s.lo - d), .int .i64 (s.hi - d), .slice pF s.floors.length cF, .slice pS s.sills.length cS]
section
variable {s : Sd} {d y : Int} {pT pF pS : Option Addr} {cT cF cS : Nat} {w : World}
theorem shVal_eq : sdVal (shifted d s) pT pF pS cT cF cS = shVal d s pT pF pS cT cF cS := by
  unfold sdVal shVal shifted
  dsimp only
  rw [List.length_map]
theorem errAt_in (ok : Ok s) (h : inDay s y = true) : errAt s y = 0 := by unfold errAt; rw [if_pos (chk_zero ok), h]; rfl
theorem levelV_in (ok : Ok s) (h : inDay s y = true) : levelV s y = (hgt s.table y + s.lo, hgt s.table y + s.hi) := by unfold levelV; rw [if_pos (errAt_in ok h)]
theorem sAll_c (ok : Ok s) (h : inDay s y = true) (hl : Lists w s pT pF pS cT cF cS) :
    Calls Try.prog 42 #[sdVal s pT pF pS cT cF cS, .int .i64 y] w fun e w' => ∃ p c, e = .returned (.tuple #[.slice p (allV s y).length c, .int .i64 0]) ∧ (allV s y).length ≤ c ∧ c ≤ maxLen ∧ Row w' p 1 (ints (allV s y)) ∧ Up w w' := by
  have := All_c s y w hl
  rw [errAt_in ok h] at this
  exact this
theorem shAll_c (ok : Ok s) (ok' : Ok (shifted d s)) (h : inDay s y = true) (hl : Lists w (shifted d s) pT pF pS cT cF cS) :
    Calls Try.prog 42 #[shVal d s pT pF pS cT cF cS, .int .i64 y] w fun e w' => ∃ p c, e = .returned (.tuple #[.slice p (allV s y).length c, .int .i64 0]) ∧ (allV s y).length ≤ c ∧ c ≤ maxLen ∧ Row w' p 1 (ints (allV s y)) ∧ Up w w' := by
  have := sAll_c ok' (by rw [shifted_inDay]; exact h) hl
  rw [shVal_eq, shifted_allV ok ok'] at this
  exact this
theorem sLevel_c (ok : Ok s) (h : inDay s y = true) (hl : Lists w s pT pF pS cT cF cS) :
    Calls Try.prog 26 #[sdVal s pT pF pS cT cF cS, .int .i64 y] w fun e w' => e = .returned (.tuple #[.agg #[.int .i64 (hgt s.table y + s.lo), .int .i64 (hgt s.table y + s.hi)], .int .i64 0]) ∧ Up w w' := by
  have := Level_c s y w hl
  rw [errAt_in ok h, levelV_in ok h] at this
  exact this
theorem shLevel_c (ok : Ok s) (ok' : Ok (shifted d s)) (h : inDay s y = true) (hl : Lists w (shifted d s) pT pF pS cT cF cS) :
    Calls Try.prog 26 #[shVal d s pT pF pS cT cF cS, .int .i64 y] w fun e w' => e = .returned (.tuple #[.agg #[.int .i64 (hgt s.table y + s.lo), .int .i64 (hgt s.table y + s.hi)], .int .i64 0]) ∧ Up w w' := by
  have := Level_c (shifted d s) y w hl
  rw [shVal_eq, shifted_errAt ok ok', errAt_in ok h, shifted_levelV ok ok', levelV_in ok h] at this
  exact this
theorem shTurn_c (ok : Ok s) (ok' : Ok (shifted d s)) (x : Int) (hl : Lists w (shifted d s) pT pF pS cT cF cS) :
    Calls Try.prog 63 #[shVal d s pT pF pS cT cF cS, .int .i64 x, .int .i64 y] w fun e w' => e = .returned (.tuple #[.int .i64 (turnV s x y), .int .i64 (errTurn s x y)]) ∧ Up w w' := by
  have := Turn_c (shifted d s) x y w hl
  rw [shVal_eq, shifted_turnV ok ok', shifted_errTurn ok ok'] at this
  exact this
theorem errTurn_or (ok : Ok s) (x : Int) (hx : 0 ≤ x ∧ x < s.floors.length) (h : inDay s y = true) : errTurn s x y = 0 ∨ errTurn s x y = 6 := by
  have h1 : errFor s x = 0 := by
    unfold errFor
    rw [if_pos (chk_zero ok)]
    have : isPl s x = true := inB_true.2 (by omega)
    rw [this]; rfl
  unfold errTurn
  rw [if_pos h1, if_pos h]
  split
  · exact Or.inl rfl
  · exact Or.inr rfl
end
end

section
open Go.RowKit Go.Shelf

theorem flat_set : ∀ (l : List (Int × Int)) (k : Nat) (v : Int) (h : k < l.length), (pairs l).flatten.set (k * 2 + 1) (.int .i64 v) = (pairs (l.set k (l[k].1, v))).flatten
  | a :: r, 0, v, _ => rfl
  | a :: r, k + 1, v, h => by
    have hk : k < r.length := by simpa using h
    have ih := flat_set r k v hk
    show (.int .i64 a.1 :: .int .i64 a.2 :: (pairs r).flatten).set ((k + 1) * 2 + 1) (.int .i64 v) = .int .i64 a.1 :: .int .i64 a.2 :: (pairs (r.set k (r[k].1, v))).flatten
    rw [show (k + 1) * 2 + 1 = k * 2 + 1 + 1 + 1 by omega, List.set_cons_succ, List.set_cons_succ, ih]

/-- the first k lifted -/
def partly (d : Int) (l : List (Int × Int)) (k : Nat) : List (Int × Int) := (l.take k).map (lift d) ++ l.drop k
theorem partly_zero (d : Int) (l : List (Int × Int)) : partly d l 0 = l := by simp [partly]
theorem partly_all (d : Int) (l : List (Int × Int)) : partly d l l.length = l.map (lift d) := by simp [partly]
theorem partly_len (d : Int) (l : List (Int × Int)) (k : Nat) : (partly d l k).length = l.length := by
  unfold partly
  rw [List.length_append, List.length_map, List.length_take, List.length_drop]
  omega
theorem partly_at (d : Int) (l : List (Int × Int)) (k : Nat) (h : k < l.length) : (partly d l k)[k]'(by rw [partly_len]; exact h) = l[k] := by
  unfold partly
  rw [List.getElem_append_right (by rw [List.length_map, List.length_take]; omega)]
  simp only [List.length_map, List.length_take, List.getElem_drop]
  congr 1
  omega
theorem partly_step (d : Int) (l : List (Int × Int)) (k : Nat) (h : k < l.length) : (partly d l k).set k (l[k].1, l[k].2 + d) = partly d l (k + 1) := by
  unfold partly
  have e : ((l.take k).map (lift d)).length = k := by rw [List.length_map, List.length_take]; omega
  rw [List.set_append_right _ _ (by omega), e, Nat.sub_self, List.drop_eq_getElem_cons h, List.set_cons_zero]
  rw [List.take_succ_eq_append_getElem h, List.map_append, List.append_assoc]
  rfl

/-- a block of pairs: what its first cells are -/
def PairBlk (w : World) (g : Nat) (l : List (Int × Int)) : Prop := ∃ cur : List Value, Blk w g cur 103 ∧ cur.take (l.length * 2) = (pairs l).flatten
section
variable {w : World} {g n₀ k c : Nat} {l : List (Int × Int)} {d : Int} {p : Option Addr}
theorem PairBlk.cells (h : PairBlk w g l) (hk : k < l.length) : w.cell? ⟨g, k * 2, none⟩ = some (.int .i64 l[k].1) ∧ w.cell? ⟨g, k * 2 + 1, none⟩ = some (.int .i64 l[k].2) := by
  obtain ⟨cur, hb, ht⟩ := h
  have hx : (pairs l)[k]? = some [.int .i64 l[k].1, .int .i64 l[k].2] := by simp [pairs, hk]
  have c0 := flat_at 2 (pairs l) (flatOk_pairs l) k _ hx 0 (.int .i64 l[k].1) rfl
  have c1 := flat_at 2 (pairs l) (flatOk_pairs l) k _ hx 1 (.int .i64 l[k].2) rfl
  rw [← ht, List.getElem?_take_of_lt (by omega)] at c0 c1
  rw [hb.cell, hb.cell]
  exact ⟨c0, c1⟩
theorem PairBlk.free (h : PairBlk w g l) (i : Nat) : w.frozen? ⟨g, i, none⟩ = false := by
  obtain ⟨cur, hb, -⟩ := h
  exact hb.free i
theorem PairBlk.lt (h : PairBlk w g l) : g < w.heap.size := by
  obtain ⟨cur, hb, -⟩ := h
  exact hb.lt
theorem PairBlk.row (h : PairBlk w g l) : Row w (some ⟨g, 0, none⟩) 2 (pairs l) := by
  intro i row hi
  have hl : i < l.length := by have := (List.getElem?_eq_some_iff.1 hi).1; simpa [pairs] using this
  obtain ⟨cur, hb, ht⟩ := h
  refine ⟨g, 0, rfl, fun j x hj => ?_⟩
  have hr := flat_at 2 (pairs l) (flatOk_pairs l) i row hi j x hj
  have hj2 : j < 2 := by
    have h1 : row.length = 2 := by simp only [pairs, List.getElem?_map, Option.map_eq_some_iff] at hi; obtain ⟨y, -, rfl⟩ := hi; rfl
    have := (List.getElem?_eq_some_iff.1 hj).1
    omega
  rw [← ht, List.getElem?_take_of_lt (by omega)] at hr
  rw [hb.cell, Nat.zero_add]
  exact hr
theorem PairBlk.lift (h : PairBlk w g (partly d l k)) (hk : k < l.length) : PairBlk (w.setCell ⟨g, k * 2 + 1, none⟩ (.int .i64 (l[k].2 + d))) g (partly d l (k + 1)) := by
  obtain ⟨cur, hb, ht⟩ := h
  refine ⟨_, hb.set _ _, ?_⟩
  have hm : k < (partly d l k).length := by rw [partly_len]; exact hk
  rw [partly_len] at ht ⊢
  have hs := flat_set (partly d l k) k (l[k].2 + d) hm
  rw [partly_at d l k hk, partly_step d l k hk] at hs
  rw [← hs, ← ht, List.take_set]
theorem PairBlk.of (h : w.ownsRow n₀ 103 2 (.slice p l.length c) l.length (pairs l).flatten) (hl : 0 < l.length) : ∃ g, p = some ⟨g, 0, none⟩ ∧ n₀ ≤ g ∧ PairBlk w g l := by
  rcases h.2 with ⟨-, h0⟩ | ⟨g, cap, cur, h1, h2, h3, h4, h5, h6, h7⟩
  · omega
  · injection h1 with e1 e2 e3
    exact ⟨g, e1, h2, cur.toList, h3, h7⟩
/-- rows of another type lie elsewhere -/
theorem PairBlk.ne {E : TypeId} {m n : Nat} {q : Option Addr} {xs : List Value} (h : PairBlk w g l) (h' : w.ownsRow n₀ E m (.slice q n c) n xs) (hE : E ≠ 103) : ∀ b off, q = some ⟨b, off, none⟩ → b ≠ g := by
  intro b off e hb
  obtain ⟨cur, hc, -⟩ := h
  rcases h'.2 with ⟨h1, -⟩ | ⟨g', cap, cur', h1, h2, h3, h4⟩
  · injection h1 with e1 e2 e3
    rw [e1] at e; cases e
  · injection h1 with e1 e2 e3
    rw [e1] at e
    simp only [Option.some.injEq, Addr.mk.injEq] at e
    have hg : g' = g := by omega
    rw [hg] at h3
    have h5 := h3.symm.trans hc
    simp only [Option.some.injEq, Obj.cells.injEq] at h5
    exact hE h5.2.1
end
end

section
open Go.RowKit

theorem IsMade.ok {places sills : Nat} {s : Sd} (h : IsMade places sills s) (hp : places ≤ 8) (hs : sills ≤ 16) : Ok s := by
  obtain ⟨⟨a, ta, tb, tc, td⟩, t2, t4, lo, hi, f1, fn, fl, sn, sl⟩ := h
  refine ⟨⟨fun x hx => ?_, tb, t2, by omega⟩, f1, by omega, by omega, by omega, by omega, by omega, fun x hx => ?_, fun x hx => ?_, fun x hx => ?_, fun x hx => ?_⟩
  · have := ta x hx; omega
  · have := fl x hx; omega
  · have := (sl x hx).2.2.2; omega
  · obtain ⟨h1, h2, -, -⟩ := sl x hx; omega
  · exact (sl x hx).2.2.1
theorem IsMade.shift {places sills : Nat} {s : Sd} {d : Int} (h : IsMade places sills s) (hp : places ≤ 8) (hs : sills ≤ 16) (d0 : 0 ≤ d) (d1 : d ≤ 40) : Ok (shifted d s) := by
  refine shifted_ok (h.ok hp hs) d0 (fun x hx => ?_) (by have := h.lo; omega)
  obtain ⟨a, ta, -⟩ := h.table
  have := ta x hx; omega
end

section
open Go.RowKit Go.Shelf

section
variable {pT pF pS : Option Addr} {cT cF cS : Nat}
set_option maxRecDepth 100000 in
theorem firstL_c (s : Sd) (w : World) (hl : Lists w s pT pF pS cT cF cS) (h2 : 2 ≤ s.table.length) : Calls Try.prog 55 #[sdVal s pT pF pS cT cF cS] w fun e w' => e = .returned (.int .i64 (firstM s.table)) ∧ Up w w' := by
  obtain ⟨b, off, rfl, c0, -⟩ := hl.rt.pair 0 (by omega)
  have hb2 := cell_lt c0
  simp only [Nat.zero_mul, Nat.add_zero] at c0
  have E := Lib.hid (show firstM s.table = (s.table[0]'(by omega)).1 by simp [firstM, List.getElem?_eq_getElem (show 0 < s.table.length by omega)])
  have k : (0 : Int) < s.table.length := by omega
  clear hl
  unfold sdVal
  go_enter Try.func55, Try.ntmps55
  go_wp2
  go_ret
  exact ⟨ret_int E.out.symm, by (repeat (first | exact Below.refl _ _ | (with_reducible refine Below.drewN' ?_ _) | (with_reducible refine Below.drew ?_) | (with_reducible refine Below.setCell ?_ (by first | exact Nat.le_refl _ | omega | (with_reducible (repeat (first | refine sz_alloc ?_ | refine sz_setCell ?_ | refine sz_drew ?_ | refine sz_drewN ?_)); first | exact Nat.le_refl _ | omega) | (simp only [World.size_alloc, World.size_setCell, World.size_drew, size_drewN']; omega)) _) | (with_reducible refine Below.alloc ?_ (by first | exact Nat.le_refl _ | omega | (with_reducible (repeat (first | refine sz_alloc ?_ | refine sz_setCell ?_ | refine sz_drew ?_ | refine sz_drewN ?_)); first | exact Nat.le_refl _ | omega) | (simp only [World.size_alloc, World.size_setCell, World.size_drew, size_drewN']; omega)) _) | assumption))⟩

set_option maxRecDepth 100000 in
theorem lastL_c (s : Sd) (w : World) (hl : Lists w s pT pF pS cT cF cS) (h2 : 2 ≤ s.table.length) (h12 : s.table.length ≤ 12) : Calls Try.prog 56 #[sdVal s pT pF pS cT cF cS] w fun e w' => e = .returned (.int .i64 (lastM s.table)) ∧ Up w w' := by
  obtain ⟨b, off, rfl, c0, -⟩ := hl.rt.pair (s.table.length - 1) (by omega)
  have hb2 := cell_lt c0
  have E := Lib.hid (show lastM s.table = (s.table[s.table.length - 1]'(by omega)).1 by simp [lastM, List.getElem?_eq_getElem (show s.table.length - 1 < s.table.length by omega)])
  have k : (0 : Int) < s.table.length := by omega
  have k1 : ((s.table.length : Int) - 1) < s.table.length := by omega
  have k2 : (0 : Int) ≤ ((s.table.length : Int) - 1) := by omega
  have k3 : ((s.table.length : Int) - 1).toNat = s.table.length - 1 := by omega
  have s1 : IntKind.i64.wrap ((s.table.length : Int) - 1) = (s.table.length : Int) - 1 := IntWalk.i64_in _ (by omega)
  clear hl
  unfold sdVal
  go_enter Try.func56, Try.ntmps56
  go_wp2
  go_ret
  exact ⟨ret_int E.out.symm, by (repeat (first | exact Below.refl _ _ | (with_reducible refine Below.drewN' ?_ _) | (with_reducible refine Below.drew ?_) | (with_reducible refine Below.setCell ?_ (by first | exact Nat.le_refl _ | omega | (with_reducible (repeat (first | refine sz_alloc ?_ | refine sz_setCell ?_ | refine sz_drew ?_ | refine sz_drewN ?_)); first | exact Nat.le_refl _ | omega) | (simp only [World.size_alloc, World.size_setCell, World.size_drew, size_drewN']; omega)) _) | (with_reducible refine Below.alloc ?_ (by first | exact Nat.le_refl _ | omega | (with_reducible (repeat (first | refine sz_alloc ?_ | refine sz_setCell ?_ | refine sz_drew ?_ | refine sz_drewN ?_)); first | exact Nat.le_refl _ | omega) | (simp only [World.size_alloc, World.size_setCell, World.size_drew, size_drewN']; omega)) _) | assumption))⟩

/-- how the law rounds down -/
theorem round_down (a b : Int × Int) (m : Int) (h : a.1 < b.1) : (a.2 * (b.1 - a.1) + (b.2 - a.2) * (m - a.1) + 1000 * (b.1 - a.1)) / (b.1 - a.1) - 1000 = onL a b m := by
  unfold onL
  rw [Int.add_mul_ediv_right _ _ (by omega)]
  omega

set_option maxRecDepth 100000 in
set_option maxHeartbeats 1000000 in
theorem line_c (s : Sd) (m : Int) (w : World) (hl : Lists w s pT pF pS cT cF cS) (ok : okTable s.table) (hd : inDay s m = true) : Calls Try.prog 62 #[sdVal s pT pF pS cT cF cS, .int .i64 m] w fun e w' => e = .returned (.int .i64 (hgt s.table m)) ∧ Up w w' := by
  have HOK := Lib.hid ok
  obtain ⟨okx, oki, hl2, hl12⟩ := ok
  obtain ⟨d1, d2⟩ := inB_true.1 (show inB m (firstM s.table) (lastM s.table) = true from hd)
  have e1 : firstM s.table = (s.table[0]'(by omega)).1 := by simp [firstM, List.getElem?_eq_getElem (show 0 < s.table.length by omega)]
  have e2 : lastM s.table = (s.table[s.table.length - 1]'(by omega)).1 := by simp [lastM, List.getElem?_eq_getElem (show s.table.length - 1 < s.table.length by omega)]
  rw [e1] at d1
  rw [e2] at d2
  have hr := hl.rt
  have hc := hl.ct
  clear hl e1 e2 hd
  obtain ⟨l, lo, hi, fl, sl⟩ := s
  dsimp only at *
  have hl2' : 2 ≤ l.length := hl2
  have hl12' : l.length ≤ 12 := hl12
  obtain ⟨b, off, rfl, hc0, -⟩ := hr.pair 0 (by omega)
  have hbl := cell_lt hc0
  have kl : (0 : Int) < l.length := by omega
  clear hc0
  unfold sdVal
  go_enter Try.func62, Try.ntmps62
  go_wp2
  go_loopw [12] (fun i wr => ∃ k : Nat, k ≤ l.length ∧ i = .int .i64 k ∧ Up w wr ∧ Blk wr w.heap.size [.slice (some ⟨b, off, none⟩) l.length cT, .int .i64 lo, .int .i64 hi, .slice pF fl.length cF, .slice pS sl.length cS] 28 ∧ ∀ j (hj : j < l.length), j < k → l[j].1 < m) (fun i _ => l.length - (intOf i).toNat)
  case atStart => exact ⟨0, by omega, rfl, by (repeat (first | exact Below.refl _ _ | (with_reducible refine Below.drewN' ?_ _) | (with_reducible refine Below.drew ?_) | (with_reducible refine Below.setCell ?_ (by first | exact Nat.le_refl _ | omega | (with_reducible (repeat (first | refine sz_alloc ?_ | refine sz_setCell ?_ | refine sz_drew ?_ | refine sz_drewN ?_)); first | exact Nat.le_refl _ | omega) | (simp only [World.size_alloc, World.size_setCell, World.size_drew, size_drewN']; omega)) _) | (with_reducible refine Below.alloc ?_ (by first | exact Nat.le_refl _ | omega | (with_reducible (repeat (first | refine sz_alloc ?_ | refine sz_setCell ?_ | refine sz_drew ?_ | refine sz_drewN ?_)); first | exact Nat.le_refl _ | omega) | (simp only [World.size_alloc, World.size_setCell, World.size_drew, size_drewN']; omega)) _) | assumption)), Blk.new _ _ _, fun j _ h => by omega⟩
  case round =>
    obtain ⟨k, hk, rfl, hu, hB, hlow⟩ := hrel
    have HU := Lib.hid hu
    have HBk := Lib.hid hB
    have HLow := Lib.hid hlow
    have B0 := hB.cell 0
    have BL := hB.lt
    simp only [List.getElem?_cons_zero] at B0
    clear hu hB
    by_cases hlt : k < l.length
    · obtain ⟨b', off', e, hd0, hd1⟩ := hr.pair k hlt
      obtain ⟨rfl, rfl⟩ : b = b' ∧ off = off' := by simpa using e
      clear e
      have hd0' := HU.out.cellAt hd0
      have hd1' := HU.out.cellAt hd1
      have q1 : (k : Int) < l.length := by omega
      obtain ⟨x1, x2, x3, x4⟩ := okx l[k] (List.getElem_mem _)
      by_cases hm : l[k].1 = m
      · have HE : Hid (hgt l m = l[k].2) := Lib.hid (by rw [← hm]; exact hgt_knot HOK.out k hlt)
        go_wp2
        go_ret
        refine ⟨ret_int ?_, ?_⟩
        · rw [HE.out]
        · exact Up.trans HU.out (by (repeat (first | exact Below.refl _ _ | (with_reducible refine Below.drewN' ?_ _) | (with_reducible refine Below.drew ?_) | (with_reducible refine Below.setCell ?_ (by first | exact Nat.le_refl _ | omega | (with_reducible (repeat (first | refine sz_alloc ?_ | refine sz_setCell ?_ | refine sz_drew ?_ | refine sz_drewN ?_)); first | exact Nat.le_refl _ | omega) | (simp only [World.size_alloc, World.size_setCell, World.size_drew, size_drewN']; omega)) _) | (with_reducible refine Below.alloc ?_ (by first | exact Nat.le_refl _ | omega | (with_reducible (repeat (first | refine sz_alloc ?_ | refine sz_setCell ?_ | refine sz_drew ?_ | refine sz_drewN ?_)); first | exact Nat.le_refl _ | omega) | (simp only [World.size_alloc, World.size_setCell, World.size_drew, size_drewN']; omega)) _) | assumption)))
      · by_cases hg : m < l[k].1
        · have hk0 : 0 < k := by
            rcases Nat.eq_zero_or_pos k with h0 | h0
            · subst h0; omega
            · exact h0
          obtain ⟨i, rfl⟩ : ∃ i, k = i + 1 := ⟨k - 1, by omega⟩
          obtain ⟨b'', off'', e, ha0, ha1⟩ := hr.pair i (by omega)
          obtain ⟨rfl, rfl⟩ : b = b'' ∧ off = off'' := by simpa using e
          clear e
          have ha0' := HU.out.cellAt ha0
          have ha1' := HU.out.cellAt ha1
          obtain ⟨y1, y2, y3, y4⟩ := okx (l[i]'(by omega)) (List.getElem_mem _)
          have hlow' := hlow i (by omega) (by omega)
          have hlk := oki i hlt
          have HE : Hid (hgt l m = onL (l[i]'(by omega)) l[i + 1] m) := Lib.hid (hgt_seg l m i hlt (fun j hj _ h => hlow j hj (by omega)) (by omega))
          have k1 := mul_rng (l[i + 1].1 - (l[i]'(by omega)).1) (l[i]'(by omega)).2 1440 999 (by omega) (by omega) (by omega) (by omega) (by omega)
          have k2 := mul_rng (m - (l[i]'(by omega)).1) (l[i + 1].2 - (l[i]'(by omega)).2) 1440 999 (by omega) (by omega) (by omega) (by omega) (by omega)
          have k3 := onL_nonneg (l[i]'(by omega)).1 (l[i]'(by omega)).2 l[i + 1].1 l[i + 1].2 m hlk (by omega) (by omega) y3 x3
          have kr := round_down (l[i]'(by omega)) l[i + 1] m hlk
          generalize (l[i]'(by omega)).1 = m0 at *
          generalize (l[i]'(by omega)).2 = h0 at *
          generalize l[i + 1].1 = m1 at *
          generalize l[i + 1].2 = h1 at *
          obtain ⟨k4, k5⟩ := k1
          obtain ⟨k6, k7⟩ := k2
          have k8 : 0 ≤ (h0 * (m1 - m0) + (h1 - h0) * (m - m0) + 1000 * (m1 - m0)) / (m1 - m0) := Int.ediv_nonneg (by omega) (by omega)
          have k9 : (h0 * (m1 - m0) + (h1 - h0) * (m - m0) + 1000 * (m1 - m0)) / (m1 - m0) ≤ 9223372036854775807 := by
            have := Int.ediv_le_self (m1 - m0) (show 0 ≤ h0 * (m1 - m0) + (h1 - h0) * (m - m0) + 1000 * (m1 - m0) by omega)
            omega
          have s1 : IntKind.i64.wrap (((i + 1 : Nat) : Int) - 1) = (i : Int) := by rw [show ((i + 1 : Nat) : Int) - 1 = (i : Int) by omega]; exact IntWalk.i64_in _ (by omega)
          have q2 : (i : Int) < l.length := by omega
          have KR := Lib.hid (kr.trans HE.out.symm)
          have hbr := cell_lt ha0'
          clear hd0 hd1 ha0 ha1 hlow kr HE okx oki d1 d2
          go_wp2
          go_ret
          exact ⟨ret_int KR.out, Up.trans HU.out (by (repeat (first | exact Below.refl _ _ | (with_reducible refine Below.drewN' ?_ _) | (with_reducible refine Below.drew ?_) | (with_reducible refine Below.setCell ?_ (by first | exact Nat.le_refl _ | omega | (with_reducible (repeat (first | refine sz_alloc ?_ | refine sz_setCell ?_ | refine sz_drew ?_ | refine sz_drewN ?_)); first | exact Nat.le_refl _ | omega) | (simp only [World.size_alloc, World.size_setCell, World.size_drew, size_drewN']; omega)) _) | (with_reducible refine Below.alloc ?_ (by first | exact Nat.le_refl _ | omega | (with_reducible (repeat (first | refine sz_alloc ?_ | refine sz_setCell ?_ | refine sz_drew ?_ | refine sz_drewN ?_)); first | exact Nat.le_refl _ | omega) | (simp only [World.size_alloc, World.size_setCell, World.size_drew, size_drewN']; omega)) _) | assumption)))⟩
        · go_wp2
          go_roundw
          case rel =>
            refine ⟨k + 1, by omega, by go_num, Up.trans HU.out (by (repeat (first | exact Below.refl _ _ | (with_reducible refine Below.drewN' ?_ _) | (with_reducible refine Below.drew ?_) | (with_reducible refine Below.setCell ?_ (by first | exact Nat.le_refl _ | omega | (with_reducible (repeat (first | refine sz_alloc ?_ | refine sz_setCell ?_ | refine sz_drew ?_ | refine sz_drewN ?_)); first | exact Nat.le_refl _ | omega) | (simp only [World.size_alloc, World.size_setCell, World.size_drew, size_drewN']; omega)) _) | (with_reducible refine Below.alloc ?_ (by first | exact Nat.le_refl _ | omega | (with_reducible (repeat (first | refine sz_alloc ?_ | refine sz_setCell ?_ | refine sz_drew ?_ | refine sz_drewN ?_)); first | exact Nat.le_refl _ | omega) | (simp only [World.size_alloc, World.size_setCell, World.size_drew, size_drewN']; omega)) _) | assumption))), HBk.out.alloc _, fun j hj h => ?_⟩
            rcases Nat.lt_or_ge j k with h1 | h1
            · exact HLow.out j hj h1
            · obtain rfl : j = k := by omega
              omega
          case measure => simp [intOf]; omega
    · exfalso
      have := hlow (l.length - 1) (by omega) (by omega)
      omega
end
end
end Go.Proofs.Ytcljkkojeleakaa
