/- Proved: whatever numbers are passed in, for the sands and for the looks, the law TideAsked returns true, and all arguments read behind the call as they read before it. Conditions: none but those that the given row states of itself. -/
import Derived.Test.YtcljkkojeleakaaLooks3
import Derived.Test.YtcljkkojeleakaaSpans2
import Derived.Test.YtcljkkojeleakaaShifts
import Derived.Test.YtcljkkojeleakaaBegin2
import Derived.Test.YtcljkkojeleakaaOut1
import Derived.Test.YtcljkkojeleakaaAll
import Derived.Test.YtcljkkojeleakaaState2
import Derived.Test.YtcljkkojeleakaaBase
import Derived.Test.YtcljkkojeleakaaFar
import Derived.Test.YtcljkkojeleakaaOwn
import Derived.Test.YtcljkkojeleakaaRound
import Derived.Test.YtcljkkojeleakaaLower
import Derived.Test.YtcljkkojeleakaaMade
import Derived.Test.YtcljkkojeleakaaDraw
import Derived.Test.YtcljkkojeleakaaPair
import Derived.Test.YtcljkkojeleakaaLooks
import Derived.Test.YtcljkkojeleakaaAwake
import Derived.Test.YtcljkkojeleakaaOpen
import Derived.Test.YtcljkkojeleakaaHeap
import Derived.Test.YtcljkkojeleakaaHeight
import Derived.Test.YtcljkkojeleakaaChk2
import Derived.Test.YtcljkkojeleakaaPost
import Derived.WalkKit
import Derived.WalkSpells
import Derived.WalkLawsBesides
import Derived.Deep.QuietTactic
import Derived.BigQuiet
import Derived.Lib.Hide
import Derived.Shelf.Abstract
import Derived.BigGuardPart
import Derived.RangeFuncNested
import Derived.RangeFuncBound
import Derived.RangeFuncCalls
import Derived.RangeFuncLeaves
import Derived.Shelf.RegionOpen
import Derived.OwnWalkIn
import Derived.TacticsInMore
import Derived.LoopNIn
import Derived.LoopIn
import Derived.StillTailTactics
import Derived.Deep.RegionHeld3
import Derived.StillTail
import Derived.RangeFuncWrites
import Derived.Laws.StructEq
import Derived.Deep.LoopGhost
import Derived.IntWalk
import Derived.RangeFuncBox
import Derived.Deep.Cut
import Derived.Deep.DeepCutAuto
import Derived.Carry
import Derived.ChangeSame
import Derived.SizedLaws
import Derived.ProofKit
import Derived.OpenShut
import Derived.JoinedOf
import Derived.Deep.Slices
import Derived.ArgAppend
import Derived.Laws.CopyOwn
import Derived.OwnWalk
import Derived.Lib.SliceRun
import Derived.Maps.OwnOps
import Derived.Maps.OwnSet
import Derived.Deep.AppendSrc
import Derived.Deep.Upon
/- Plain facts: the look that settles most. -/
namespace Go.Proofs.Ytcljkkojeleakaa
section
open Go.RowKit

/-- how many truths a look leaves at most, whatever is seen -/
def askMost (s : Sd) (m : Int) (p : Nat) : Int := max (siz (truV s (m, (p : Int), true))) (siz (s.lo, s.hi) - siz (truV s (m, (p : Int), true)))
def askOne (s : Sd) (m : Int) (z : Lk × Int) (p : Nat) : Lk × Int := if z.1 = (0, 0, false) ∨ askMost s m p < z.2 then ((m, (p : Int), true), askMost s m p) else z
def askRow (s : Sd) (m : Int) (z : Lk × Int) : Nat → Lk × Int
  | 0 => z
  | k + 1 => askOne s m (askRow s m z k) k
def askAll (s : Sd) : Nat → Lk × Int
  | 0 => ((0, 0, false), siz (s.lo, s.hi))
  | k + 1 => askRow s (firstM s.table + k) (askAll s k) s.floors.length
def askE (s : Sd) : Int := if chk s = 0 then (if siz (s.lo, s.hi) = 1 then 6 else 0) else chk s
def askV (s : Sd) : Lk × Int := if askE s = 0 then askAll s (dayN s) else ((0, 0, false), 0)

/-- the best of what has been looked at: the first of those that leave fewest -/
def Best (s : Sd) (seen : Int → Nat → Prop) (z : Lk × Int) : Prop :=
  (z = ((0, 0, false), siz (s.lo, s.hi)) ∧ ∀ m p, ¬ seen m p) ∨
  ∃ (m : Int) (p : Nat), z = ((m, (p : Int), true), askMost s m p) ∧ seen m p ∧ ∀ m' p', seen m' p' → askMost s m p ≤ askMost s m' p' ∧ (askMost s m p = askMost s m' p' → m < m' ∨ m = m' ∧ p ≤ p')

theorem Best.one {s : Sd} {seen seen' : Int → Nat → Prop} {z : Lk × Int} {m : Int} {p : Nat} (h : Best s seen z) (h1 : ∀ m' p', seen' m' p' ↔ seen m' p' ∨ m' = m ∧ p' = p) (h2 : ∀ m' p', seen m' p' → m' < m ∨ m' = m ∧ p' < p) :
    Best s seen' (askOne s m z p) := by
  rcases h with ⟨rfl, h0⟩ | ⟨m0, p0, rfl, hs, hb⟩
  · unfold askOne
    rw [if_pos (Or.inl rfl)]
    refine .inr ⟨m, p, rfl, (h1 _ _).2 (.inr ⟨rfl, rfl⟩), fun m' p' h => ?_⟩
    rcases (h1 _ _).1 h with h | ⟨rfl, rfl⟩
    · exact absurd h (h0 _ _)
    · exact ⟨Int.le_refl _, fun _ => .inr ⟨rfl, Nat.le_refl _⟩⟩
  · unfold askOne
    by_cases hc : askMost s m p < askMost s m0 p0
    · rw [if_pos (Or.inr hc)]
      refine .inr ⟨m, p, rfl, (h1 _ _).2 (.inr ⟨rfl, rfl⟩), fun m' p' h => ?_⟩
      rcases (h1 _ _).1 h with h | ⟨rfl, rfl⟩
      · have := (hb m' p' h).1
        exact ⟨by omega, fun e => by omega⟩
      · exact ⟨Int.le_refl _, fun _ => .inr ⟨rfl, Nat.le_refl _⟩⟩
    · rw [if_neg (fun h => by rcases h with h | h <;> first | (exact hc h) | (exact absurd (congrArg (fun t => t.2.2) h) (by simp)))]
      refine .inr ⟨m0, p0, rfl, (h1 _ _).2 (.inl hs), fun m' p' h => ?_⟩
      rcases (h1 _ _).1 h with h | ⟨rfl, rfl⟩
      · exact hb m' p' h
      · have := h2 m0 p0 hs
        exact ⟨by omega, fun _ => by omega⟩

theorem askRow_best {s : Sd} {seen : Int → Nat → Prop} {z : Lk × Int} {m : Int} (h : Best s seen z) (h2 : ∀ m' p', seen m' p' → m' < m) : ∀ k, Best s (fun m' p' => seen m' p' ∨ m' = m ∧ p' < k) (askRow s m z k)
  | 0 => by
    have : (fun m' p' => seen m' p' ∨ m' = m ∧ p' < 0) = seen := by funext a b; simp
    rw [this]; exact h
  | k + 1 => by
    refine (askRow_best h h2 k).one (fun m' p' => ?_) (fun m' p' h => ?_)
    · constructor
      · rintro (h | ⟨h, h'⟩)
        · exact .inl (.inl h)
        · by_cases e : p' = k
          · exact .inr ⟨h, e⟩
          · exact .inl (.inr ⟨h, by omega⟩)
      · rintro ((h | ⟨h, h'⟩) | ⟨h, h'⟩)
        · exact .inl h
        · exact .inr ⟨h, by omega⟩
        · exact .inr ⟨h, by omega⟩
    · rcases h with h | ⟨h, h'⟩
      · exact .inl (h2 _ _ h)
      · exact .inr ⟨h, h'⟩

theorem askAll_best (s : Sd) : ∀ k : Nat, Best s (fun m' p' => firstM s.table ≤ m' ∧ m' < firstM s.table + k ∧ p' < s.floors.length) (askAll s k)
  | 0 => .inl ⟨rfl, fun m p h => by omega⟩
  | k + 1 => by
    have h := askRow_best (m := firstM s.table + k) (askAll_best s k) (fun m' p' h => h.2.1) s.floors.length
    have e : (fun m' p' => (firstM s.table ≤ m' ∧ m' < firstM s.table + (k : Int) ∧ p' < s.floors.length) ∨ m' = firstM s.table + (k : Int) ∧ p' < s.floors.length) = (fun m' p' => firstM s.table ≤ m' ∧ m' < firstM s.table + ((k + 1 : Nat) : Int) ∧ p' < s.floors.length) := by
      funext a b
      apply propext
      constructor
      · rintro (⟨h1, h2, h3⟩ | ⟨h1, h2⟩)
        · exact ⟨h1, by omega, h3⟩
        · exact ⟨by omega, by omega, h2⟩
      · rintro ⟨h1, h2, h3⟩
        by_cases e : a = firstM s.table + k
        · exact .inr ⟨e, h3⟩
        · exact .inl ⟨h1, by omega, h3⟩
    rw [e] at h
    exact h

theorem siz_wind {s : Sd} (ok : Ok s) : siz (s.lo, s.hi) = s.hi - s.lo + 1 := by
  have := ok.lohi
  unfold siz
  dsimp only
  omega
/-- a look and its contrary part the truths -/
theorem siz_part {s : Sd} (ok : Ok s) (m p : Int) : siz (truV s (m, p, true)) + siz (truV s (m, p, false)) = siz (s.lo, s.hi) := by
  have b0 := ok.lo0
  have b1 := ok.hi1
  have b2 := ok.lohi
  rw [siz_wind ok]
  unfold truV siz com
  simp only [if_pos, Bool.false_eq_true, if_false]
  omega
theorem siz_nonneg (a : Int × Int) : 0 ≤ siz a := by unfold siz; omega
theorem truV_com {s : Sd} (x : Lk) : com (s.lo, s.hi) (truV s x) = truV s x := by
  unfold truV com
  split <;> (refine Prod.ext ?_ ?_ <;> dsimp only <;> omega)
theorem truV_in {s : Sd} (x : Lk) : s.lo ≤ (truV s x).1 ∧ (truV s x).2 ≤ s.hi := by
  unfold truV com
  split <;> dsimp only <;> omega
theorem askMost_two {s : Sd} (ok : Ok s) (m : Int) (p : Nat) : askMost s m p = max (siz (truV s (m, (p : Int), true))) (siz (truV s (m, (p : Int), false))) := by
  have := siz_part ok m p
  unfold askMost
  rw [show siz (s.lo, s.hi) - siz (truV s (m, (p : Int), true)) = siz (truV s (m, (p : Int), false)) by omega]
theorem ask_best {s : Sd} (ok : Ok s) : ∃ m p, askAll s (dayN s) = ((m, ((p : Nat) : Int), true), askMost s m p) ∧ inDay s m = true ∧ p < s.floors.length ∧
    ∀ m' p', inDay s m' = true → p' < s.floors.length → askMost s m p ≤ askMost s m' p' ∧ (askMost s m p = askMost s m' p' → m < m' ∨ m = m' ∧ p ≤ p') := by
  obtain ⟨f0, f1, f2⟩ := firstM_lt ok.table
  have hn : ((dayN s : Nat) : Int) = lastM s.table - firstM s.table + 1 := by unfold dayN; omega
  have hfl := ok.fl0
  rcases askAll_best s (dayN s) with ⟨-, h⟩ | ⟨m, p, h1, ⟨h2, h3, h4⟩, h5⟩
  · exact absurd ⟨Int.le_refl _, by omega, hfl⟩ (h (firstM s.table) 0)
  · refine ⟨m, p, h1, inB_true.2 ⟨h2, by omega⟩, h4, fun m' p' hm hp => h5 m' p' ?_⟩
    obtain ⟨i1, i2⟩ := inB_true.1 hm
    exact ⟨i1, by omega, hp⟩
theorem looks_one {s : Sd} (ok : Ok s) {m : Int} (hm : inDay s m = true) {p : Nat} (hp : p < s.floors.length) (b : Bool) :
    looksE s [(m, (p : Int), b)] = (if siz (truV s (m, (p : Int), b)) = 0 then 7 else 0) ∧ looksV s [(m, (p : Int), b)] = (if siz (truV s (m, (p : Int), b)) = 0 then (0, 0) else truV s (m, (p : Int), b)) := by
  have e1 : errLooks s [(m, (p : Int), b)] = 0 := by
    unfold errLooks
    rw [if_pos (chk_zero ok), if_neg (by simp)]
    simp only [lkErr]
    rw [hm, show isPl s (p : Int) = true from inB_true.2 ⟨by omega, by omega⟩]
    rfl
  have e2 : lkOf s (s.lo, s.hi) [(m, (p : Int), b)] = truV s (m, (p : Int), b) := by
    unfold lkOf
    simp only [List.foldl_cons, List.foldl_nil]
    exact truV_com _
  have e3 : looksE s [(m, (p : Int), b)] = (if siz (truV s (m, (p : Int), b)) = 0 then 7 else 0) := by
    unfold looksE
    rw [if_pos e1, e2]
  refine ⟨e3, ?_⟩
  unfold looksV
  rw [e3, e2]
  split
  · rw [if_neg (by decide)]
  · rw [if_pos rfl]
end
end Go.Proofs.Ytcljkkojeleakaa
/- The look that settles most: what the layer's search returns. -/
namespace Go.Proofs.Ytcljkkojeleakaa
open Go.RowKit Go.Shelf

def lkc (x : Lk) : List Value := [.int .i64 x.1, .int .i64 x.2.1, .bool x.2.2]
/-- none yet, or one that was wet -/
def AskOr (z : Lk × Int) : Prop := z.1 = (0, 0, false) ∨ z.1.2.2 = true
theorem askOne_or {s : Sd} {m : Int} {z : Lk × Int} {p : Nat} (h : AskOr z) : AskOr (askOne s m z p) := by
  unfold askOne
  split
  · exact .inr rfl
  · exact h
theorem askRow_or {s : Sd} {m : Int} {z : Lk × Int} (h : AskOr z) : ∀ k, AskOr (askRow s m z k)
  | 0 => h
  | k + 1 => askOne_or (askRow_or h k)
theorem askAll_or (s : Sd) : ∀ k, AskOr (askAll s k)
  | 0 => .inl rfl
  | k + 1 => askRow_or (askAll_or s k) _
theorem askMost_rng {s : Sd} (ok : Ok s) (m : Int) (p : Nat) : 0 ≤ askMost s m p ∧ askMost s m p ≤ 101 ∧ 0 ≤ siz (truV s (m, (p : Int), true)) ∧ siz (truV s (m, (p : Int), true)) ≤ 101 ∧ 0 ≤ siz (s.lo, s.hi) ∧ siz (s.lo, s.hi) ≤ 101 := by
  have h1 := siz_part ok m p
  have h2 := siz_wind ok
  have h3 := siz_nonneg (truV s (m, (p : Int), true))
  have h4 := siz_nonneg (truV s (m, (p : Int), false))
  have b0 := ok.lo0
  have b1 := ok.hi1
  unfold askMost
  omega
theorem askOne_rng {s : Sd} (ok : Ok s) {m : Int} {z : Lk × Int} {p : Nat} (h : 0 ≤ z.2 ∧ z.2 ≤ 101) : 0 ≤ (askOne s m z p).2 ∧ (askOne s m z p).2 ≤ 101 := by
  have := askMost_rng ok m p
  unfold askOne
  split
  · exact ⟨this.1, this.2.1⟩
  · exact h
theorem askRow_rng {s : Sd} (ok : Ok s) {m : Int} {z : Lk × Int} (h : 0 ≤ z.2 ∧ z.2 ≤ 101) : ∀ k, 0 ≤ (askRow s m z k).2 ∧ (askRow s m z k).2 ≤ 101
  | 0 => h
  | k + 1 => askOne_rng ok (askRow_rng ok h k)
theorem askAll_rng {s : Sd} (ok : Ok s) : ∀ k, 0 ≤ (askAll s k).2 ∧ (askAll s k).2 ≤ 101
  | 0 => by have := askMost_rng ok 0 0; exact ⟨this.2.2.2.2.1, this.2.2.2.2.2⟩
  | k + 1 => askRow_rng ok (askAll_rng ok k) _
section
variable {pT pF pS : Option Addr} {cT cF cS : Nat}
theorem size_t {a : Int × Int} (h : Near a) (w : World) : Calls Try.prog 117 #[.agg #[.int .i64 a.1, .int .i64 a.2]] w fun e w' => e = .returned (.int .i64 (siz a)) ∧ Up w w' := by
  obtain ⟨h1, h2, h3, h4⟩ := h
  exact size_c a.1 a.2 w (by omega) (by omega) (by omega) (by omega)
theorem wind_near {s : Sd} (ok : Ok s) : Near (s.lo, s.hi) := by have b0 := ok.lo0; have b1 := ok.hi1; have b2 := ok.lohi; exact ⟨by dsimp only; omega, by dsimp only; omega, by dsimp only; omega, by dsimp only; omega⟩

set_option maxRecDepth 100000 in
set_option maxHeartbeats 2000000 in
theorem ask_c (bw : Nat) (s : Sd) (w : World) (hw : IsWork w bw s pT pF pS cT cF cS) (ok : Ok s) :
    Calls Try.prog 118 #[.pointer (some ⟨bw, 0, none⟩)] w fun e w' => e = .returned (.tuple #[.agg #[.int .i64 (askAll s (dayN s)).1.1, .int .i64 (askAll s (dayN s)).1.2.1, .bool (askAll s (dayN s)).1.2.2], .int .i64 (askAll s (dayN s)).2]) ∧ Up w w' := by
  obtain ⟨hf0, hfl, hl9⟩ := firstM_lt ok.table
  obtain ⟨-, -, ht2, ht12⟩ := ok.table
  have hn : ((dayN s : Nat) : Int) = lastM s.table - firstM s.table + 1 := by unfold dayN; omega
  have hn9 : dayN s ≤ 1441 := by omega
  have s1 : IntKind.i64.wrap (lastM s.table - firstM s.table) = lastM s.table - firstM s.table := IntWalk.i64_in _ (by omega)
  have s2 : IntKind.i64.wrap (lastM s.table - firstM s.table + 1) = (dayN s : Nat) := by rw [IntWalk.i64_in _ (by omega)]; omega
  have hf8 := ok.fl1
  have HFI := Lib.hid (fun W (u : Up w W) => first_c bw s W (hw.sands.up u) ht2)
  have HLA := Lib.hid (fun W (u : Up w W) => last_c bw s W (hw.sands.up u) ht2 ht12)
  have HTR := Lib.hid (fun m (p : Nat) W (u : Up w W) (hm : firstM s.table ≤ m) (hp : p < 8) => truths_c bw s m p true W (hw.up u) ok hm hp)
  have hsz0 := fun W => size_t (w := W) (wind_near ok)
  obtain ⟨al, hal⟩ : ∃ al, siz (s.lo, s.hi) = al := ⟨_, rfl⟩
  rw [hal] at hsz0
  have HSZ := Lib.hid hsz0
  have HAL := Lib.hid hal
  clear hsz0 hal
  have OK := Lib.hid ok
  have q1 := hw.sands.s1
  have q2 := hw.sands.s2
  have q3 := hw.sands.s3
  have lb := cell_lt q1
  clear hw ok
  go_enter Try.func118, Try.ntmps118
  go_wp2_with fail
  refine Calls.world ?_
  intro w0 hw0
  have u0 : Up w w0 := by rw [hw0]; (repeat (first | exact Below.refl _ _ | (with_reducible refine Below.drewN' ?_ _) | (with_reducible refine Below.drew ?_) | (with_reducible refine Below.setCell ?_ (by first | exact Nat.le_refl _ | omega | (with_reducible (repeat (first | refine sz_alloc ?_ | refine sz_setCell ?_ | refine sz_drew ?_ | refine sz_drewN ?_)); first | exact Nat.le_refl _ | omega) | (simp only [World.size_alloc, World.size_setCell, World.size_drew, size_drewN']; omega)) _) | (with_reducible refine Below.alloc ?_ (by first | exact Nat.le_refl _ | omega | (with_reducible (repeat (first | refine sz_alloc ?_ | refine sz_setCell ?_ | refine sz_drew ?_ | refine sz_drewN ?_)); first | exact Nat.le_refl _ | omega) | (simp only [World.size_alloc, World.size_setCell, World.size_drew, size_drewN']; omega)) _) | assumption))
  have hR : Blk w0 w.heap.size [.int .i64 0, .int .i64 0, .bool false] 80 := by rw [hw0]; exact Blk.new _ _ _
  clear hw0
  refine (HSZ.out w0).mono ?_
  rintro e w1 ⟨rfl, u1⟩
  have U1 := Lib.hid (Up.trans u0 u1)
  have R1 := Lib.hid (hR.up u1)
  have lR := R1.out.lt
  clear u0 u1 hR
  go_wp2_with fail
  refine Calls.world ?_
  intro w2 hw2
  have u2 : Up w1 w2 := by rw [hw2]; (repeat (first | exact Below.refl _ _ | (with_reducible refine Below.drewN' ?_ _) | (with_reducible refine Below.drew ?_) | (with_reducible refine Below.setCell ?_ (by first | exact Nat.le_refl _ | omega | (with_reducible (repeat (first | refine sz_alloc ?_ | refine sz_setCell ?_ | refine sz_drew ?_ | refine sz_drewN ?_)); first | exact Nat.le_refl _ | omega) | (simp only [World.size_alloc, World.size_setCell, World.size_drew, size_drewN']; omega)) _) | (with_reducible refine Below.alloc ?_ (by first | exact Nat.le_refl _ | omega | (with_reducible (repeat (first | refine sz_alloc ?_ | refine sz_setCell ?_ | refine sz_drew ?_ | refine sz_drewN ?_)); first | exact Nat.le_refl _ | omega) | (simp only [World.size_alloc, World.size_setCell, World.size_drew, size_drewN']; omega)) _) | assumption))
  have hB : Blk w2 w1.heap.size [.int .i64 0, .int .i64 0, .bool false] 80 := by rw [hw2]; exact Blk.new _ _ _
  clear hw2
  refine (HLA.out w2 (Up.trans U1.out u2)).mono ?_
  rintro e w3 ⟨rfl, u3⟩
  have U3 := Lib.hid (Up.trans U1.out (Up.trans u2 u3))
  have R3 := Lib.hid (R1.out.up (Up.trans u2 u3))
  have B3 := Lib.hid (hB.up u3)
  clear u2 u3 hB U1 R1
  go_wp2_with fail
  refine (HFI.out w3 U3.out).mono ?_
  rintro e w4 ⟨rfl, u4⟩
  have U4 := Lib.hid (Up.trans U3.out u4)
  have R4 := Lib.hid (R3.out.up u4)
  have B4 := Lib.hid (B3.out.up u4)
  clear u4 U3 R3 B3
  obtain ⟨Bb, hBb⟩ : ∃ Bb, w1.heap.size = Bb := ⟨_, rfl⟩
  rw [hBb] at B4 lR ⊢
  clear hBb w1
  go_wp2_with fail
  rw [← hn]
  obtain ⟨n, hnn⟩ : ∃ n, dayN s = n := ⟨_, rfl⟩
  obtain ⟨a, ha⟩ : ∃ a, firstM s.table = a := ⟨_, rfl⟩
  rw [hnn] at hn hn9
  rw [ha] at hn hf0 hfl HFI HTR
  have HQ := Lib.hid (show lastM s.table = a + n - 1 by omega)
  have HL9 := Lib.hid hl9
  have HA := Lib.hid ha
  have HN := Lib.hid hnn
  simp only [hnn]
  clear s1 s2 hn hnn ha hfl hl9
  go_loopw [25, 6] (fun i f wr => ∃ k : Nat, k ≤ n ∧ i = .int .i64 k ∧ f = .int .i64 (askAll s k).2 ∧ Blk wr Bb (lkc (askAll s k).1) 80 ∧ Blk wr w.heap.size [.int .i64 0, .int .i64 0, .bool false] 80 ∧ Up w wr) (fun i _ _ => n - (intOf i).toNat)
  case atStart => exact ⟨0, Nat.zero_le _, rfl, by rw [← HAL.out]; rfl, B4.out, R4.out, U4.out⟩
  case round =>
    obtain ⟨k, hk, rfl, rfl, hb, hr, hu⟩ := hrel
    have HB := Lib.hid hb
    have HR := Lib.hid hr
    have HU := Lib.hid hu
    have q3' := hu.cellAt q3
    have lb' := cell_lt q3'
    clear hb hr hu
    by_cases hlt : k < n
    · have k1 : (k : Int) < n := by omega
      have b1 : a + k ≤ 1441 := by have := HL9.out; have := HQ.out; omega
      have hz := askAll_or s k
      have hzr := askAll_rng OK.out k
      have HE := Lib.hid (show askAll s (k + 1) = askRow s (a + k) (askAll s k) s.floors.length by rw [← HA.out]; rfl)
      generalize askAll s k = z at *
      have HZ := Lib.hid hz
      have HZR := Lib.hid hzr
      clear hz hzr
      go_wp2_with fail
      go_loopw [34, 6] (fun j f wy => ∃ p : Nat, p ≤ s.floors.length ∧ j = .int .i64 p ∧ f = .int .i64 (askRow s (a + k) z p).2 ∧ Blk wy Bb (lkc (askRow s (a + k) z p).1) 80 ∧ Blk wy w.heap.size [.int .i64 0, .int .i64 0, .bool false] 80 ∧ Up w wy) (fun j _ _ => s.floors.length - (intOf j).toNat)
      case atStart => exact ⟨0, Nat.zero_le _, rfl, rfl, HB.out, HR.out, HU.out⟩
      case round =>
        obtain ⟨p, hp, rfl, rfl, hb, hr, hu⟩ := hrel
        have Hb := Lib.hid hb
        have Hr := Lib.hid hr
        have Hu := Lib.hid hu
        clear hb hr hu
        by_cases hlp : p < s.floors.length
        · have p1 : (p : Int) < s.floors.length := by omega
          have hz := askRow_or (s := s) (m := a + k) HZ.out p
          have hzr := askRow_rng OK.out (m := a + k) HZR.out p
          have HE2 := Lib.hid (show askRow s (a + k) z (p + 1) = askOne s (a + k) (askRow s (a + k) z p) p from rfl)
          generalize askRow s (a + k) z p = y at *
          obtain ⟨⟨ym, yp, yw⟩, yn⟩ := y
          dsimp only at hzr
          have HY := Lib.hid hz
          have mr := askMost_rng OK.out (a + k) p
          rw [HAL.out] at mr
          have NT := Lib.hid (truV_near OK.out (a + k, (p : Int), true) (by rw [HA.out]; show a ≤ a + (k : Int); omega))
          have MS := Lib.hid (show askMost s (a + k) p = max (siz (truV s (a + k, (p : Int), true))) (al - siz (truV s (a + k, (p : Int), true))) by rw [← HAL.out]; rfl)
          have HT := Lib.hid (fun W (u : Up w W) => HTR.out (a + k) p W u (by omega) (by omega))
          generalize truV s (a + k, (p : Int), true) = tv at *
          clear hz
          have s3 : IntKind.i64.wrap (a + k) = a + k := IntWalk.i64_in _ (by omega)
          go_wp2_with fail
          refine (HFI.out _ Hu.out).mono ?_
          rintro e w5 ⟨rfl, u5⟩
          have U5 := Lib.hid (Up.trans Hu.out u5)
          have R5 := Lib.hid (Hr.out.up u5)
          have B5 := Lib.hid (Hb.out.up u5)
          clear u5 Hu Hr Hb
          go_wp2_with fail
          refine Calls.world ?_
          intro w6 hw6
          have u6 : Up w5 w6 := by rw [hw6]; (repeat (first | exact Below.refl _ _ | (with_reducible refine Below.drewN' ?_ _) | (with_reducible refine Below.drew ?_) | (with_reducible refine Below.setCell ?_ (by first | exact Nat.le_refl _ | omega | (with_reducible (repeat (first | refine sz_alloc ?_ | refine sz_setCell ?_ | refine sz_drew ?_ | refine sz_drewN ?_)); first | exact Nat.le_refl _ | omega) | (simp only [World.size_alloc, World.size_setCell, World.size_drew, size_drewN']; omega)) _) | (with_reducible refine Below.alloc ?_ (by first | exact Nat.le_refl _ | omega | (with_reducible (repeat (first | refine sz_alloc ?_ | refine sz_setCell ?_ | refine sz_drew ?_ | refine sz_drewN ?_)); first | exact Nat.le_refl _ | omega) | (simp only [World.size_alloc, World.size_setCell, World.size_drew, size_drewN']; omega)) _) | assumption))
          have L6 : Blk w6 w5.heap.size [.int .i64 (a + k), .int .i64 p, .bool true] 80 := by rw [hw6]; exact Blk.new _ _ _
          clear hw6
          refine (HT.out w6 (Up.trans U5.out u6)).mono ?_
          rintro e w7 ⟨rfl, u7⟩
          go_wp2_with fail
          refine (size_t NT.out w7).mono ?_
          rintro e w8 ⟨rfl, u8⟩
          have L8 := Lib.hid (L6.up (Up.trans u7 u8))
          have U8 := Lib.hid (Up.trans U5.out (Up.trans u6 (Up.trans u7 u8)))
          have R8 := Lib.hid (R5.out.up (Up.trans u6 (Up.trans u7 u8)))
          have B8 := Lib.hid (B5.out.up (Up.trans u6 (Up.trans u7 u8)))
          have sz5 : w5.heap.size ≠ Bb := by have := B5.out.lt; omega
          clear u6 u7 u8 L6 U5 R5 B5 HT NT s3
          generalize siz tv = g at *
          obtain ⟨X, hX⟩ : ∃ X, w5.heap.size = X := ⟨_, rfl⟩
          rw [hX] at L8 sz5 ⊢
          clear hX w5 w6 w7
          have s4 : IntKind.i64.wrap (al - g) = al - g := IntWalk.i64_in _ (by omega)
          have x0 := L8.out.cell 0
          have x1 := L8.out.cell 1
          have x2 := L8.out.cell 2
          have y0 := B8.out.cell 0
          have y1 := B8.out.cell 1
          have y2 := B8.out.cell 2
          have yf := B8.out.free
          have yl := B8.out.lt
          simp only [lkc, List.getElem?_cons_zero, List.getElem?_cons_succ] at x0 x1 x2 y0 y1 y2
          by_cases hm : g < al - g
          · have MM := Lib.hid (show askMost s (a + k) p = al - g by rw [MS.out]; omega)
            rcases HY.out with hy | hy
            · simp only [Prod.mk.injEq] at hy
              obtain ⟨rfl, rfl, rfl⟩ := hy
              have HE3 := Lib.hid (show askRow s (a + k) z (p + 1) = ((a + k, (p : Int), true), al - g) by rw [HE2.out]; unfold askOne; rw [if_pos (.inl rfl), MM.out])
              go_wp2_with fail
              go_roundw
              case rel =>
                refine ⟨p + 1, by omega, by go_num, by rw [HE3.out], ?_, (R8.out.other (by simp only []; omega) _ |>.other (by simp only []; omega) _).other (by simp only []; omega) _, ((U8.out.setCell (by simp only []; omega) _).setCell (by simp only []; omega) _).setCell (by simp only []; omega) _⟩
                rw [HE3.out]
                have h := ((B8.out.set 0 (.int .i64 (a + k))).set 1 (.int .i64 p)).set 2 (.bool true)
                simpa only [lkc, List.set_cons_zero, List.set_cons_succ] using h
              case measure => simp [intOf]; omega
            · have hy' : yw = true := hy
              subst hy'
              by_cases hc : al - g < yn
              · have HE3 := Lib.hid (show askRow s (a + k) z (p + 1) = ((a + k, (p : Int), true), al - g) by rw [HE2.out]; unfold askOne; rw [MM.out, if_pos (.inr hc)])
                go_wp2_with fail
                go_roundw
                case rel =>
                  refine ⟨p + 1, by omega, by go_num, by rw [HE3.out], ?_, (R8.out.other (by simp only []; omega) _ |>.other (by simp only []; omega) _).other (by simp only []; omega) _, ((U8.out.setCell (by simp only []; omega) _).setCell (by simp only []; omega) _).setCell (by simp only []; omega) _⟩
                  rw [HE3.out]
                  have h := ((B8.out.set 0 (.int .i64 (a + k))).set 1 (.int .i64 p)).set 2 (.bool true)
                  simpa only [lkc, List.set_cons_zero, List.set_cons_succ] using h
                case measure => simp [intOf]; omega
              · have HE3 := Lib.hid (show askRow s (a + k) z (p + 1) = ((ym, yp, true), yn) by rw [HE2.out]; unfold askOne; rw [MM.out, if_neg (fun h => by rcases h with h | h <;> first | (exact hc h) | (exact absurd (congrArg (fun t => t.2.2) h) (by simp)))])
                go_wp2_with fail
                go_roundw
                case rel => exact ⟨p + 1, by omega, by go_num, by rw [HE3.out], by rw [HE3.out]; exact B8.out, R8.out, U8.out⟩
                case measure => simp [intOf]; omega
          · have MM := Lib.hid (show askMost s (a + k) p = g by rw [MS.out]; omega)
            rcases HY.out with hy | hy
            · simp only [Prod.mk.injEq] at hy
              obtain ⟨rfl, rfl, rfl⟩ := hy
              have HE3 := Lib.hid (show askRow s (a + k) z (p + 1) = ((a + k, (p : Int), true), g) by rw [HE2.out]; unfold askOne; rw [if_pos (.inl rfl), MM.out])
              go_wp2_with fail
              go_roundw
              case rel =>
                refine ⟨p + 1, by omega, by go_num, by rw [HE3.out], ?_, (R8.out.other (by simp only []; omega) _ |>.other (by simp only []; omega) _).other (by simp only []; omega) _, ((U8.out.setCell (by simp only []; omega) _).setCell (by simp only []; omega) _).setCell (by simp only []; omega) _⟩
                rw [HE3.out]
                have h := ((B8.out.set 0 (.int .i64 (a + k))).set 1 (.int .i64 p)).set 2 (.bool true)
                simpa only [lkc, List.set_cons_zero, List.set_cons_succ] using h
              case measure => simp [intOf]; omega
            · have hy' : yw = true := hy
              subst hy'
              by_cases hc : g < yn
              · have HE3 := Lib.hid (show askRow s (a + k) z (p + 1) = ((a + k, (p : Int), true), g) by rw [HE2.out]; unfold askOne; rw [MM.out, if_pos (.inr hc)])
                go_wp2_with fail
                go_roundw
                case rel =>
                  refine ⟨p + 1, by omega, by go_num, by rw [HE3.out], ?_, (R8.out.other (by simp only []; omega) _ |>.other (by simp only []; omega) _).other (by simp only []; omega) _, ((U8.out.setCell (by simp only []; omega) _).setCell (by simp only []; omega) _).setCell (by simp only []; omega) _⟩
                  rw [HE3.out]
                  have h := ((B8.out.set 0 (.int .i64 (a + k))).set 1 (.int .i64 p)).set 2 (.bool true)
                  simpa only [lkc, List.set_cons_zero, List.set_cons_succ] using h
                case measure => simp [intOf]; omega
              · have HE3 := Lib.hid (show askRow s (a + k) z (p + 1) = ((ym, yp, true), yn) by rw [HE2.out]; unfold askOne; rw [MM.out, if_neg (fun h => by rcases h with h | h <;> first | (exact hc h) | (exact absurd (congrArg (fun t => t.2.2) h) (by simp)))])
                go_wp2_with fail
                go_roundw
                case rel => exact ⟨p + 1, by omega, by go_num, by rw [HE3.out], by rw [HE3.out]; exact B8.out, R8.out, U8.out⟩
                case measure => simp [intOf]; omega
        · obtain rfl : p = s.floors.length := by omega
          go_wp2_with fail
          go_roundw
          case rel => exact ⟨k + 1, by omega, by go_num, by rw [HE.out], by rw [HE.out]; exact Hb.out, Hr.out, Hu.out⟩
          case measure => simp [intOf]; omega
    · obtain rfl : k = n := by omega
      have y0 := HB.out.cell 0
      have y1 := HB.out.cell 1
      have y2 := HB.out.cell 2
      have r0 := HR.out.cell 0
      have r1 := HR.out.cell 1
      have r2 := HR.out.cell 2
      have rf := HR.out.free
      have rl := HR.out.lt
      generalize hz : askAll s k = z at *
      obtain ⟨⟨zm, zp, zw⟩, zn⟩ := z
      have HZ0 := Lib.hid hz
      clear hz
      simp only [lkc, List.getElem?_cons_zero, List.getElem?_cons_succ] at y0 y1 y2 r0 r1 r2
      go_wp2_with fail
      have h := ((HR.out.set 0 (.int .i64 zm)).set 1 (.int .i64 zp)).set 2 (.bool zw)
      have p0 := h.cell 0
      have p1 := h.cell 1
      have p2 := h.cell 2
      simp only [List.set_cons_zero, List.set_cons_succ, List.getElem?_cons_zero, List.getElem?_cons_succ] at p0 p1 p2
      have pl := h.lt
      refine bodyPost_ret (v := .tuple #[.agg #[.int .i64 zm, .int .i64 zp, .bool zw], .int .i64 zn]) (by simp [results, Try.f118, go_sem, p0, p1, p2]) rfl ⟨by rw [HN.out, HZ0.out], ?_⟩
      exact ((HU.out.setCell (by simp only []; omega) _).setCell (by simp only []; omega) _).setCell (by simp only []; omega) _

set_option maxRecDepth 100000 in
set_option maxHeartbeats 1000000 in
theorem Ask_c (s : Sd) (w : World) (hl : Lists w s pT pF pS cT cF cS) :
    Calls Try.prog 48 #[sdVal s pT pF pS cT cF cS] w fun e w' => e = .returned (.tuple #[.agg #[.int .i64 (askV s).1.1, .int .i64 (askV s).1.2.1, .bool (askV s).1.2.2], .int .i64 (askV s).2, .int .i64 (askE s)]) ∧ Up w w' := by
  have HC := Lib.hid (fun W (u : Up w W) => begin_c s W pT pF pS cT cF cS (hl.up u))
  clear hl
  by_cases hc : chk s = 0
  · have OK := Lib.hid (chk_ok hc)
    have HE := Lib.hid (show askE s = if siz (s.lo, s.hi) = 1 then 6 else 0 by unfold askE; rw [if_pos hc])
    rw [hc] at HC
    clear hc
    unfold sdVal at *
    go_enter Try.func48, Try.ntmps48
    go_wp2_with fail
    refine Calls.world ?_
    intro w0 hw0
    have u0 : Up w w0 := by rw [hw0]; (repeat (first | exact Below.refl _ _ | (with_reducible refine Below.drewN' ?_ _) | (with_reducible refine Below.drew ?_) | (with_reducible refine Below.setCell ?_ (by first | exact Nat.le_refl _ | omega | (with_reducible (repeat (first | refine sz_alloc ?_ | refine sz_setCell ?_ | refine sz_drew ?_ | refine sz_drewN ?_)); first | exact Nat.le_refl _ | omega) | (simp only [World.size_alloc, World.size_setCell, World.size_drew, size_drewN']; omega)) _) | (with_reducible refine Below.alloc ?_ (by first | exact Nat.le_refl _ | omega | (with_reducible (repeat (first | refine sz_alloc ?_ | refine sz_setCell ?_ | refine sz_drew ?_ | refine sz_drewN ?_)); first | exact Nat.le_refl _ | omega) | (simp only [World.size_alloc, World.size_setCell, World.size_drew, size_drewN']; omega)) _) | assumption))
    have hR : Blk w0 (w.heap.size + 1) [.int .i64 0, .int .i64 0, .bool false] 80 := by rw [hw0]; exact Blk.new' _ [.int .i64 0, .int .i64 0, .bool false] _ (by simp)
    clear hw0
    refine (HC.out _ u0).mono ?_
    rintro e w1 ⟨p, rfl, u1, hok⟩
    obtain ⟨bw, rfl, hW⟩ := hok rfl
    have U1 := Lib.hid (Up.trans u0 u1)
    have HW := Lib.hid hW
    have HB := Lib.hid (hR.up u1)
    have d1 := hW.sands.s1
    have d2 := hW.sands.s2
    clear hok hW u1 u0 HC hR
    go_wp2_with fail
    refine (size_t (wind_near OK.out) _).mono ?_
    rintro e w2 ⟨rfl, u2⟩
    have U2 := Lib.hid (Up.trans U1.out u2)
    have HW2 := Lib.hid (HW.out.up u2)
    have hB := HB.out.up u2
    have q0 := hB.cell 0
    have q1 := hB.cell 1
    have q2 := hB.cell 2
    have fr := hB.free
    have lB := hB.lt
    simp only [List.getElem?_cons_zero, List.getElem?_cons_succ] at q0 q1 q2
    have HB2 := Lib.hid hB
    clear hB u2 d1 d2 HB HW U1
    by_cases h1 : siz (s.lo, s.hi) = 1
    · have HV := Lib.hid (show askV s = ((0, 0, false), 0) by unfold askV; rw [HE.out, if_pos h1, if_neg (by decide)])
      rw [if_pos h1] at HE
      go_wp2_with fail
      have h := ((HB2.out.set 0 (.int .i64 0)).set 1 (.int .i64 0)).set 2 (.bool false)
      have p0 := h.cell 0
      have p1 := h.cell 1
      have p2 := h.cell 2
      simp only [List.set_cons_zero, List.set_cons_succ, List.getElem?_cons_zero, List.getElem?_cons_succ] at p0 p1 p2
      refine bodyPost_ret (v := .tuple #[.agg #[.int .i64 0, .int .i64 0, .bool false], .int .i64 0, .int .i64 6]) (by simp [results, Try.f48, go_sem, p0, p1, p2]) rfl ⟨by rw [HV.out, HE.out], ?_⟩
      exact ((U2.out.setCell (by simp only []; omega) _).setCell (by simp only []; omega) _).setCell (by simp only []; omega) _
    · have HV := Lib.hid (show askV s = askAll s (dayN s) by unfold askV; rw [HE.out, if_neg h1, if_pos rfl])
      rw [if_neg h1] at HE
      have h1' : (siz (s.lo, s.hi) == 1) = false := by simpa using h1
      go_wp2_with fail
      refine (ask_c bw s _ HW2.out OK.out).mono ?_
      rintro e w3 ⟨rfl, u3⟩
      rw [← HV.out]
      generalize hz : askV s = z at *
      obtain ⟨⟨zm, zp, zw⟩, zn⟩ := z
      have U3 := Lib.hid (Up.trans U2.out u3)
      have hB := HB2.out.up u3
      have q0' := hB.cell 0
      have q1' := hB.cell 1
      have q2' := hB.cell 2
      have fr' := hB.free
      have lB' := hB.lt
      simp only [List.getElem?_cons_zero, List.getElem?_cons_succ] at q0' q1' q2'
      have HB3 := Lib.hid hB
      have HZ := Lib.hid hz
      clear hB u3 q0 q1 q2 fr HV hz
      go_wp2_with fail
      have h := (((HB3.out.set 0 (.int .i64 zm)).set 1 (.int .i64 zp)).set 2 (.bool zw)).alloc (.cells #[.int .i64 zm, .int .i64 zp, .bool zw] 80)
      have p0 := h.cell 0
      have p1 := h.cell 1
      have p2 := h.cell 2
      simp only [List.set_cons_zero, List.set_cons_succ, List.getElem?_cons_zero, List.getElem?_cons_succ] at p0 p1 p2
      refine bodyPost_ret (v := .tuple #[.agg #[.int .i64 zm, .int .i64 zp, .bool zw], .int .i64 zn, .int .i64 0]) (by simp [results, Try.f48, go_sem, p0, p1, p2]) rfl ⟨by rw [HE.out, HZ.out], ?_⟩
      have hU := U3.out
      (repeat (first | exact Below.refl _ _ | (with_reducible refine Below.drewN' ?_ _) | (with_reducible refine Below.drew ?_) | (with_reducible refine Below.setCell ?_ (by first | exact Nat.le_refl _ | omega | (with_reducible (repeat (first | refine sz_alloc ?_ | refine sz_setCell ?_ | refine sz_drew ?_ | refine sz_drewN ?_)); first | exact Nat.le_refl _ | omega) | (simp only [World.size_alloc, World.size_setCell, World.size_drew, size_drewN']; omega)) _) | (with_reducible refine Below.alloc ?_ (by first | exact Nat.le_refl _ | omega | (with_reducible (repeat (first | refine sz_alloc ?_ | refine sz_setCell ?_ | refine sz_drew ?_ | refine sz_drewN ?_)); first | exact Nat.le_refl _ | omega) | (simp only [World.size_alloc, World.size_setCell, World.size_drew, size_drewN']; omega)) _) | assumption))
  · have hne : (chk s != 0) = true := by rw [bne_iff_ne]; exact hc
    have HE := Lib.hid (show askE s = chk s by unfold askE; rw [if_neg hc])
    have HV := Lib.hid (show askV s = ((0, 0, false), 0) by unfold askV; rw [HE.out, if_neg hc])
    clear hc
    unfold sdVal at *
    go_enter Try.func48, Try.ntmps48
    go_wp2_with fail
    refine Calls.world ?_
    intro w0 hw0
    have u0 : Up w w0 := by rw [hw0]; (repeat (first | exact Below.refl _ _ | (with_reducible refine Below.drewN' ?_ _) | (with_reducible refine Below.drew ?_) | (with_reducible refine Below.setCell ?_ (by first | exact Nat.le_refl _ | omega | (with_reducible (repeat (first | refine sz_alloc ?_ | refine sz_setCell ?_ | refine sz_drew ?_ | refine sz_drewN ?_)); first | exact Nat.le_refl _ | omega) | (simp only [World.size_alloc, World.size_setCell, World.size_drew, size_drewN']; omega)) _) | (with_reducible refine Below.alloc ?_ (by first | exact Nat.le_refl _ | omega | (with_reducible (repeat (first | refine sz_alloc ?_ | refine sz_setCell ?_ | refine sz_drew ?_ | refine sz_drewN ?_)); first | exact Nat.le_refl _ | omega) | (simp only [World.size_alloc, World.size_setCell, World.size_drew, size_drewN']; omega)) _) | assumption))
    have hR : Blk w0 (w.heap.size + 1) [.int .i64 0, .int .i64 0, .bool false] 80 := by rw [hw0]; exact Blk.new' _ [.int .i64 0, .int .i64 0, .bool false] _ (by simp)
    clear hw0
    refine (HC.out _ u0).mono ?_
    rintro e w1 ⟨p, rfl, u1, -⟩
    have U1 := Lib.hid (Up.trans u0 u1)
    have hB := hR.up u1
    have q0 := hB.cell 0
    have q1 := hB.cell 1
    have q2 := hB.cell 2
    have fr := hB.free
    have lB := hB.lt
    simp only [List.getElem?_cons_zero, List.getElem?_cons_succ] at q0 q1 q2
    have HB := Lib.hid hB
    clear u1 u0 HC hR hB
    go_wp2_with fail
    have h := ((HB.out.set 0 (.int .i64 0)).set 1 (.int .i64 0)).set 2 (.bool false)
    have p0 := h.cell 0
    have p1 := h.cell 1
    have p2 := h.cell 2
    simp only [List.set_cons_zero, List.set_cons_succ, List.getElem?_cons_zero, List.getElem?_cons_succ] at p0 p1 p2
    refine bodyPost_ret (v := .tuple #[.agg #[.int .i64 0, .int .i64 0, .bool false], .int .i64 0, .int .i64 (chk s)]) (by simp [results, Try.f48, go_sem, p0, p1, p2]) rfl ⟨by rw [HV.out, HE.out], ?_⟩
    exact ((U1.out.setCell (by simp only []; omega) _).setCell (by simp only []; omega) _).setCell (by simp only []; omega) _
end
end Go.Proofs.Ytcljkkojeleakaa
/- How many truths a look leaves at most, as the law counts them. -/
namespace Go.Proofs.Ytcljkkojeleakaa
open Go.RowKit Go.Shelf

section
variable {pT pF pS : Option Addr} {cT cF cS : Nat}
theorem Row.lit1 (w : World) (x : Lk) (T : TypeId) : Row (w.alloc (.cells (lkc x).toArray T)) (some ⟨w.heap.size, 0, none⟩) 3 (lrows [x]) := by
  intro i row hi
  have hB := Blk.new w (lkc x) T
  match i, hi with
  | 0, hi =>
    simp only [lrows, List.map_cons, List.map_nil, List.getElem?_cons_zero, Option.some.injEq] at hi
    subst hi
    refine ⟨_, _, rfl, fun j y hj => ?_⟩
    have := hB.cell j
    rw [show (0 : Nat) + 0 * 3 + j = j by omega, this]
    exact hj
  | i + 1, hi => simp [lrows] at hi
def mOut (A B : Int) : Nat → Int
  | 0 => 0
  | 1 => A
  | _ => max A B
def mBit (k : Nat) : Bool := k % 2 == 0
def mSiz (A B : Int) (k : Nat) : Int := if k = 0 then A else B
theorem mOut_succ {A B : Int} (hA : 0 ≤ A) {k : Nat} (hk : k < 2) : mOut A B (k + 1) = max (mOut A B k) (mSiz A B k) := by
  obtain rfl | rfl : k = 0 ∨ k = 1 := by omega
  · simp only [mOut, mSiz, if_pos]; omega
  · simp only [mOut, mSiz]; rfl
theorem mBit_succ (k : Nat) : mBit (k + 1) = !mBit k := by
  unfold mBit
  rw [Bool.eq_iff_iff]
  simp
  omega
set_option maxRecDepth 100000 in
set_option maxHeartbeats 2000000 in
theorem mostLook_c (M : Nat) (s : Sd) (m : Int) (p : Nat) (w : World) (ok : Ok s) (hl : Lists w s pT pF pS cT cF cS) (hB : Blk w M (sdCells s pT pF pS cT cF cS) 28) (hm : inDay s m = true) (hp : p < s.floors.length) :
    Calls Try.prog 72 #[.agg #[.int .i64 m, .int .i64 p, .bool true], .pointer (some ⟨M, 0, none⟩)] w fun e w' => e = .returned (.int .i64 (askMost s m p)) ∧ Up w w' := by
  obtain ⟨A, hA⟩ : ∃ A, siz (truV s (m, (p : Int), true)) = A := ⟨_, rfl⟩
  obtain ⟨B, hB'⟩ : ∃ B, siz (truV s (m, (p : Int), false)) = B := ⟨_, rfl⟩
  have hA0 : 0 ≤ A := by rw [← hA]; exact siz_nonneg _
  have HM := Lib.hid (show askMost s m p = max A B by rw [askMost_two ok, hA, hB'])
  have HT := Lib.hid (show ∀ k, k < 2 → siz (truV s (m, (p : Int), mBit k)) = mSiz A B k from fun k hk => by
    obtain rfl | rfl : k = 0 ∨ k = 1 := by omega
    · exact hA
    · exact hB')
  have HL := Lib.hid (fun (b : Bool) (q : Option Addr) (d : Nat) W (u : Up w W) (h : Row W q 3 (lrows [(m, (p : Int), b)])) => Looks_c s [(m, (p : Int), b)] q d W (hl.up u) h (by simp [maxLen]))
  have HE := Lib.hid (fun b => looks_one ok hm hp b)
  have HN := Lib.hid (fun b => truV_near ok (m, (p : Int), b) (inB_true.1 hm).1)
  have b0 := ok.lo0
  have b1 := ok.hi1
  have BS := Lib.hid hB
  have lM := hB.lt
  clear hA hB' hl hB ok
  go_enter Try.func72, Try.ntmps72
  go_wp2_with fail
  go_loopw [7, 4] (fun i v wr => ∃ k : Nat, k ≤ 2 ∧ i = .int .i64 k ∧ v = .int .i64 (mOut A B k) ∧ Blk wr w.heap.size [.int .i64 m, .int .i64 p, .bool (mBit k)] 80 ∧ Up w wr) (fun i _ _ => 2 - (intOf i).toNat)
  case atStart => exact ⟨0, by omega, rfl, rfl, Blk.new _ _ _, by (repeat (first | exact Below.refl _ _ | (with_reducible refine Below.drewN' ?_ _) | (with_reducible refine Below.drew ?_) | (with_reducible refine Below.setCell ?_ (by first | exact Nat.le_refl _ | omega | (with_reducible (repeat (first | refine sz_alloc ?_ | refine sz_setCell ?_ | refine sz_drew ?_ | refine sz_drewN ?_)); first | exact Nat.le_refl _ | omega) | (simp only [World.size_alloc, World.size_setCell, World.size_drew, size_drewN']; omega)) _) | (with_reducible refine Below.alloc ?_ (by first | exact Nat.le_refl _ | omega | (with_reducible (repeat (first | refine sz_alloc ?_ | refine sz_setCell ?_ | refine sz_drew ?_ | refine sz_drewN ?_)); first | exact Nat.le_refl _ | omega) | (simp only [World.size_alloc, World.size_setCell, World.size_drew, size_drewN']; omega)) _) | assumption))⟩
  case round =>
    obtain ⟨k, hk, rfl, rfl, hb, hu⟩ := hrel
    by_cases hlt : k < 2
    · have k1 : (k : Int) < 2 := by omega
      have MO := Lib.hid (mOut_succ (B := B) hA0 hlt)
      have MB := Lib.hid (mBit_succ k)
      have mo : 0 ≤ mOut A B k := by
        obtain rfl | rfl : k = 0 ∨ k = 1 := by omega
        · exact Int.le_refl _
        · exact hA0
      have hT := HT.out k hlt
      obtain ⟨he, hv⟩ := HE.out (mBit k)
      have hn := HN.out (mBit k)
      rw [hT] at he hv
      generalize hbk : mBit k = bk at *
      have tin := truV_in (s := s) (m, (p : Int), bk)
      generalize truV s (m, (p : Int), bk) = t at *
      generalize mSiz A B k = z at *
      generalize mOut A B k = o at *
      have zz : z = max 0 (t.2 - t.1 + 1) := hT.symm
      obtain ⟨t1, t2⟩ := t
      obtain ⟨n1, n2, n3, n4⟩ := hn
      dsimp only at zz n1 n2 n3 n4 tin
      obtain ⟨c0, c1, c2, c3, c4⟩ := five (BS.out.up hu)
      have x0 := hb.cell 0
      have x1 := hb.cell 1
      have x2 := hb.cell 2
      have lx := hb.lt
      simp only [List.getElem?_cons_zero, List.getElem?_cons_succ] at x0 x1 x2
      have HU := Lib.hid hu
      have Hb := Lib.hid hb
      have HVE := Lib.hid (And.intro he hv)
      clear hu hb he hv hT hbk
      go_wp2_with fail
      refine (HL.out bk _ _ _ (Up.trans HU.out (by (repeat (first | exact Below.refl _ _ | (with_reducible refine Below.drewN' ?_ _) | (with_reducible refine Below.drew ?_) | (with_reducible refine Below.setCell ?_ (by first | exact Nat.le_refl _ | omega | (with_reducible (repeat (first | refine sz_alloc ?_ | refine sz_setCell ?_ | refine sz_drew ?_ | refine sz_drewN ?_)); first | exact Nat.le_refl _ | omega) | (simp only [World.size_alloc, World.size_setCell, World.size_drew, size_drewN']; omega)) _) | (with_reducible refine Below.alloc ?_ (by first | exact Nat.le_refl _ | omega | (with_reducible (repeat (first | refine sz_alloc ?_ | refine sz_setCell ?_ | refine sz_drew ?_ | refine sz_drewN ?_)); first | exact Nat.le_refl _ | omega) | (simp only [World.size_alloc, World.size_setCell, World.size_drew, size_drewN']; omega)) _) | assumption)))) (Row.lit1 wr (m, (p : Int), bk) 80)).mono ?_
      rintro e w1 ⟨rfl, u1⟩
      have HU1 := Lib.hid (Up.trans HU.out (Up.trans (show Up wr (wr.alloc (.cells (lkc (m, (p : Int), bk)).toArray 80)) by (repeat (first | exact Below.refl _ _ | (with_reducible refine Below.drewN' ?_ _) | (with_reducible refine Below.drew ?_) | (with_reducible refine Below.setCell ?_ (by first | exact Nat.le_refl _ | omega | (with_reducible (repeat (first | refine sz_alloc ?_ | refine sz_setCell ?_ | refine sz_drew ?_ | refine sz_drewN ?_)); first | exact Nat.le_refl _ | omega) | (simp only [World.size_alloc, World.size_setCell, World.size_drew, size_drewN']; omega)) _) | (with_reducible refine Below.alloc ?_ (by first | exact Nat.le_refl _ | omega | (with_reducible (repeat (first | refine sz_alloc ?_ | refine sz_setCell ?_ | refine sz_drew ?_ | refine sz_drewN ?_)); first | exact Nat.le_refl _ | omega) | (simp only [World.size_alloc, World.size_setCell, World.size_drew, size_drewN']; omega)) _) | assumption))) u1))
      have Hb1 := Lib.hid (Hb.out.up (Up.trans (show Up wr (wr.alloc (.cells (lkc (m, (p : Int), bk)).toArray 80)) by (repeat (first | exact Below.refl _ _ | (with_reducible refine Below.drewN' ?_ _) | (with_reducible refine Below.drew ?_) | (with_reducible refine Below.setCell ?_ (by first | exact Nat.le_refl _ | omega | (with_reducible (repeat (first | refine sz_alloc ?_ | refine sz_setCell ?_ | refine sz_drew ?_ | refine sz_drewN ?_)); first | exact Nat.le_refl _ | omega) | (simp only [World.size_alloc, World.size_setCell, World.size_drew, size_drewN']; omega)) _) | (with_reducible refine Below.alloc ?_ (by first | exact Nat.le_refl _ | omega | (with_reducible (repeat (first | refine sz_alloc ?_ | refine sz_setCell ?_ | refine sz_drew ?_ | refine sz_drewN ?_)); first | exact Nat.le_refl _ | omega) | (simp only [World.size_alloc, World.size_setCell, World.size_drew, size_drewN']; omega)) _) | assumption))) u1))
      obtain ⟨c0', c1', c2', c3', c4'⟩ := five (BS.out.up HU1.out)
      have y0 := Hb1.out.cell 0
      have y1 := Hb1.out.cell 1
      have y2 := Hb1.out.cell 2
      have yf := Hb1.out.free
      have yl := Hb1.out.lt
      simp only [List.getElem?_cons_zero, List.getElem?_cons_succ] at y0 y1 y2
      clear u1 c0 c1 c2 c3 c4 x0 x1 x2 lx
      have lM1 : M < w1.heap.size := by have := HU1.out.size; omega
      obtain ⟨he, hv⟩ := HVE.out
      by_cases hz : z = 0
      · rw [if_pos hz] at he hv
        rw [he, hv]
        have MO' := Lib.hid (show mOut A B (k + 1) = o by rw [MO.out]; omega)
        clear he hv
        dsimp only
        go_wp2_with fail
        go_roundw
        case rel =>
          refine ⟨k + 1, by omega, by go_num, by rw [MO'.out], ?_, ?_⟩
          · rw [MB.out]
            have h := (Hb1.out.set 2 (.bool (!bk))).alloc (.cells #[.int .i64 0, .int .i64 0] 24)
            simpa only [List.set_cons_zero, List.set_cons_succ] using h
          · have hU := HU1.out
            (repeat (first | exact Below.refl _ _ | (with_reducible refine Below.drewN' ?_ _) | (with_reducible refine Below.drew ?_) | (with_reducible refine Below.setCell ?_ (by first | exact Nat.le_refl _ | omega | (with_reducible (repeat (first | refine sz_alloc ?_ | refine sz_setCell ?_ | refine sz_drew ?_ | refine sz_drewN ?_)); first | exact Nat.le_refl _ | omega) | (simp only [World.size_alloc, World.size_setCell, World.size_drew, size_drewN']; omega)) _) | (with_reducible refine Below.alloc ?_ (by first | exact Nat.le_refl _ | omega | (with_reducible (repeat (first | refine sz_alloc ?_ | refine sz_setCell ?_ | refine sz_drew ?_ | refine sz_drewN ?_)); first | exact Nat.le_refl _ | omega) | (simp only [World.size_alloc, World.size_setCell, World.size_drew, size_drewN']; omega)) _) | assumption))
        case measure => simp [intOf]; omega
      · rw [if_neg hz] at he hv
        rw [he, hv]
        clear he hv
        have zz' : z = t2 - t1 + 1 := by omega
        have s1 : IntKind.i64.wrap (t2 - t1) = t2 - t1 := IntWalk.i64_in _ (by omega)
        have s2 : IntKind.i64.wrap (t2 - t1 + 1) = t2 - t1 + 1 := IntWalk.i64_in _ (by omega)
        have g1 : s.lo ≤ t1 := tin.1
        have g2 : t2 ≤ s.hi := tin.2
        dsimp only
        by_cases hx : o < t2 - t1 + 1
        · have MO' := Lib.hid (show mOut A B (k + 1) = t2 - t1 + 1 by rw [MO.out]; omega)
          clear zz zz' hz tin
          go_wp2_with fail
          go_roundw
          case rel =>
            refine ⟨k + 1, by omega, by go_num, by rw [MO'.out], ?_, ?_⟩
            · rw [MB.out]
              have h := (Hb1.out.set 2 (.bool (!bk))).alloc (.cells #[.int .i64 t1, .int .i64 t2] 24)
              simpa only [List.set_cons_zero, List.set_cons_succ] using h
            · have hU := HU1.out
              (repeat (first | exact Below.refl _ _ | (with_reducible refine Below.drewN' ?_ _) | (with_reducible refine Below.drew ?_) | (with_reducible refine Below.setCell ?_ (by first | exact Nat.le_refl _ | omega | (with_reducible (repeat (first | refine sz_alloc ?_ | refine sz_setCell ?_ | refine sz_drew ?_ | refine sz_drewN ?_)); first | exact Nat.le_refl _ | omega) | (simp only [World.size_alloc, World.size_setCell, World.size_drew, size_drewN']; omega)) _) | (with_reducible refine Below.alloc ?_ (by first | exact Nat.le_refl _ | omega | (with_reducible (repeat (first | refine sz_alloc ?_ | refine sz_setCell ?_ | refine sz_drew ?_ | refine sz_drewN ?_)); first | exact Nat.le_refl _ | omega) | (simp only [World.size_alloc, World.size_setCell, World.size_drew, size_drewN']; omega)) _) | assumption))
          case measure => simp [intOf]; omega
        · have MO' := Lib.hid (show mOut A B (k + 1) = o by rw [MO.out]; omega)
          clear zz zz' hz tin
          go_wp2_with fail
          go_roundw
          case rel =>
            refine ⟨k + 1, by omega, by go_num, by rw [MO'.out], ?_, ?_⟩
            · rw [MB.out]
              have h := (Hb1.out.set 2 (.bool (!bk))).alloc (.cells #[.int .i64 t1, .int .i64 t2] 24)
              simpa only [List.set_cons_zero, List.set_cons_succ] using h
            · have hU := HU1.out
              (repeat (first | exact Below.refl _ _ | (with_reducible refine Below.drewN' ?_ _) | (with_reducible refine Below.drew ?_) | (with_reducible refine Below.setCell ?_ (by first | exact Nat.le_refl _ | omega | (with_reducible (repeat (first | refine sz_alloc ?_ | refine sz_setCell ?_ | refine sz_drew ?_ | refine sz_drewN ?_)); first | exact Nat.le_refl _ | omega) | (simp only [World.size_alloc, World.size_setCell, World.size_drew, size_drewN']; omega)) _) | (with_reducible refine Below.alloc ?_ (by first | exact Nat.le_refl _ | omega | (with_reducible (repeat (first | refine sz_alloc ?_ | refine sz_setCell ?_ | refine sz_drew ?_ | refine sz_drewN ?_)); first | exact Nat.le_refl _ | omega) | (simp only [World.size_alloc, World.size_setCell, World.size_drew, size_drewN']; omega)) _) | assumption))
          case measure => simp [intOf]; omega
    · obtain rfl : k = 2 := by omega
      go_wp2_with fail
      go_ret
      exact ⟨by rw [HM.out]; rfl, hu⟩
end
end Go.Proofs.Ytcljkkojeleakaa
/- Plain facts: the lowering of gates as a row of updates; gates of raised sands, and of sands with one sill more. -/
namespace Go.Proofs.Ytcljkkojeleakaa
section
open Go.RowKit

/-- what a sill lowers that leads on from a place: which gate, and to what at most -/
def up1 (F : List Int) (f : Int) (x : Int × Int × Int) : Option (Nat × Int) :=
  if 0 ≤ other x f ∧ (other x f).toNat < F.length then some ((other x f).toNat, grt [x.2.2, F[(other x f).toNat]?.getD 0]) else none
def ap1 (g : List Int) (u : Nat × Int) : List Int := g.set u.1 (min (g[u.1]?.getD 0) u.2)
def ap2 (f : Nat) (g : List Int) (u : Nat × Int) : List Int := g.set u.1 (min (g[u.1]?.getD 0) (grt [g[f]?.getD 0, u.2]))

/-- a lead as an update -/
def ofLead (s : Sd) (x : Lead s.sills.length s.floors.length) : Nat × Int := (x.1.2, grt [(s.sills[x.1.1]'x.2.1).2.2, s.floors[x.1.2]'x.2.2])
theorem lead1_up (s : Sd) (f : Int) (i : Nat) : (lead1 s.sills s.floors.length f i).map (ofLead s) = if i < s.sills.length then up1 s.floors f (s.sills[i]?.getD (0, 0, 0)) else none := by
  unfold lead1 up1
  by_cases hi : i < s.sills.length
  · rw [if_pos hi]
    have e : s.sills[i] = s.sills[i]?.getD (0, 0, 0) := by rw [List.getElem?_eq_getElem hi]; rfl
    by_cases h : 0 ≤ other (s.sills[i]?.getD (0, 0, 0)) f ∧ (other (s.sills[i]?.getD (0, 0, 0)) f).toNat < s.floors.length
    · rw [dif_pos ⟨hi, h⟩, if_pos h]
      simp only [Option.map_some, ofLead]
      rw [e, List.getElem?_eq_getElem h.2, Option.getD_some]
    · rw [dif_neg (fun h' => h h'.2), if_neg h]; rfl
  · rw [if_neg hi, dif_neg (fun h' => hi h'.1)]; rfl
theorem fm_congr {α β : Type} {l : List α} {f g : α → Option β} (h : ∀ x ∈ l, f x = g x) : l.filterMap f = l.filterMap g := by
  induction l with
  | nil => rfl
  | cons a r ih => rw [List.filterMap_cons, List.filterMap_cons, h a (by simp), ih (fun x hx => h x (by simp [hx]))]
theorem filterMap_range {α β : Type} (l : List α) (d : α) (q : α → Option β) : (List.range l.length).filterMap (fun i => if i < l.length then q (l[i]?.getD d) else none) = l.filterMap q := by
  have e : l = (List.range l.length).map (fun i => l[i]?.getD d) := by
    apply List.ext_getElem
    · simp
    · intro i h1 h2; simp [List.getElem?_eq_getElem h1]
  conv => rhs; rw [e]
  rw [List.filterMap_map]
  apply fm_congr
  intro i hi
  rw [List.mem_range] at hi
  simp [hi]
theorem leads_up (s : Sd) (f : Int) : (leads s.sills s.floors.length f s.sills.length).map (ofLead s) = s.sills.filterMap (up1 s.floors f) := by
  unfold leads
  rw [List.map_filterMap, ← filterMap_range s.sills (0, 0, 0)]
  apply fm_congr
  intro i _
  exact lead1_up s f i
theorem lowSea_up (s : Sd) (g : List Int) : lowSea s g = (s.sills.filterMap (up1 s.floors (-1))).foldl ap1 g := by
  unfold lowSea
  rw [← leads_up, List.foldl_map]
  rfl
theorem lowFrom_up (s : Sd) (f : Nat) (g : List Int) : lowFrom s g f = (s.sills.filterMap (up1 s.floors f)).foldl (ap2 f) g := by
  unfold lowFrom
  rw [← leads_up, List.foldl_map]
  rfl

theorem grt2 (a b : Int) : grt [a, b] = max (max 0 a) b := rfl

/-- gates that are as low, or lower -/
def Leq (g g' : List Int) : Prop := g.length = g'.length ∧ ∀ i : Nat, g[i]?.getD 0 ≤ g'[i]?.getD 0 ∧ (g[i]?.getD 0 < 1050 → g'[i]?.getD 0 < 1050)
theorem Leq.refl (g : List Int) : Leq g g := ⟨rfl, fun _ => ⟨Int.le_refl _, id⟩⟩
theorem Leq.set {a b : List Int} (h : Leq a b) (t : Nat) {c d : Int} (hc : c ≤ d) (hd : c < 1050 → d < 1050) : Leq (a.set t (min (a[t]?.getD 0) c)) (b.set t (min (b[t]?.getD 0) d)) := by
  refine ⟨by simp [h.1], fun i => ?_⟩
  have h1 := h.2 i
  have h0 := h.1
  rw [List.getElem?_set, List.getElem?_set]
  by_cases hi : t = i
  · subst hi
    by_cases hl : t < a.length
    · have hl' : t < b.length := by omega
      simp only [if_true, hl, hl', Option.getD_some]
      omega
    · have hl' : ¬ t < b.length := by omega
      simp [hl, hl']
  · rw [if_neg hi, if_neg hi]; exact h1

/-- sills of which some are higher, and floors -/
inductive HiS : List (Int × Int × Int) → List (Int × Int × Int) → Prop
  | nil : HiS [] []
  | cons {a b h h' : Int} {r r' : List (Int × Int × Int)} : h ≤ h' → h' ≤ 999 → HiS r r' → HiS ((a, b, h) :: r) ((a, b, h') :: r')
def HiF (F F' : List Int) : Prop := F.length = F'.length ∧ ∀ i : Nat, F[i]?.getD 0 ≤ F'[i]?.getD 0 ∧ F'[i]?.getD 0 ≤ 999
theorem HiS.refl : ∀ {l : List (Int × Int × Int)}, (∀ x ∈ l, x.2.2 ≤ 999) → HiS l l
  | [], _ => .nil
  | (a, b, h) :: r, k => .cons (Int.le_refl _) (k (a, b, h) (by simp)) (HiS.refl (fun x hx => k x (by simp [hx])))
theorem HiS.at : ∀ {l : List (Int × Int × Int)} (i : Nat) (d : Int) (hi : i < l.length), 0 ≤ d → (∀ x ∈ l, x.2.2 ≤ 999) → l[i].2.2 + d ≤ 999 → HiS l (l.set i (l[i].1, l[i].2.1, l[i].2.2 + d))
  | (a, b, h) :: r, 0, d, _, h0, k, k9 => .cons (show h ≤ h + d by omega) k9 (HiS.refl (fun x hx => k x (by simp [hx])))
  | (a, b, h) :: r, i + 1, d, hi, h0, k, k9 => by
    have hi' : i < r.length := by simpa using hi
    exact .cons (Int.le_refl _) (k (a, b, h) (by simp)) (HiS.at i d hi' h0 (fun x hx => k x (by simp [hx])) (by simpa using k9))
theorem HiF.refl {F : List Int} (h : ∀ x ∈ F, x ≤ 999) : HiF F F := ⟨rfl, fun i => ⟨Int.le_refl _, by
  by_cases hi : i < F.length
  · rw [List.getElem?_eq_getElem hi]; exact h _ (List.getElem_mem _)
  · rw [List.getElem?_eq_none (by omega)]; decide⟩⟩
theorem HiF.at {F : List Int} (i : Nat) (d : Int) (hi : i < F.length) (d0 : 0 ≤ d) (h : ∀ x ∈ F, x ≤ 999) (h9 : F[i] + d ≤ 999) : HiF F (F.set i (F[i] + d)) := by
  refine ⟨by simp, fun j => ?_⟩
  have k := (HiF.refl h).2 j
  rw [List.getElem?_set]
  by_cases hj : i = j
  · subst hj
    rw [if_pos rfl, if_pos hi, List.getElem?_eq_getElem hi]
    simp only [Option.getD_some]
    omega
  · rw [if_neg hj]; exact k

theorem hi_ap1 {F F' : List Int} (hF : HiF F F') (f : Int) {l l' : List (Int × Int × Int)} (hS : HiS l l') : ∀ {g g' : List Int}, Leq g g' → Leq ((l.filterMap (up1 F f)).foldl ap1 g) ((l'.filterMap (up1 F' f)).foldl ap1 g') := by
  induction hS with
  | nil => exact fun h => h
  | @cons a b h h' r r' hh h9 _ ih =>
    intro g g' hg
    have eo : other (a, b, h') f = other (a, b, h) f := rfl
    by_cases hc : 0 ≤ other (a, b, h) f ∧ (other (a, b, h) f).toNat < F.length
    · have e1 : up1 F f (a, b, h) = some ((other (a, b, h) f).toNat, grt [h, F[(other (a, b, h) f).toNat]?.getD 0]) := if_pos hc
      have e2 : up1 F' f (a, b, h') = some ((other (a, b, h) f).toNat, grt [h', F'[(other (a, b, h) f).toNat]?.getD 0]) := if_pos (by rw [← hF.1]; exact hc)
      rw [List.filterMap_cons_some e1, List.filterMap_cons_some e2, List.foldl_cons, List.foldl_cons]
      refine ih (hg.set _ ?_ ?_)
      · have := hF.2 (other (a, b, h) f).toNat
        simp only [grt2]; omega
      · have := hF.2 (other (a, b, h) f).toNat
        simp only [grt2]; omega
    · have e1 : up1 F f (a, b, h) = none := if_neg hc
      have e2 : up1 F' f (a, b, h') = none := if_neg (by rw [← hF.1]; exact hc)
      rw [List.filterMap_cons_none e1, List.filterMap_cons_none e2]
      exact ih hg
theorem hi_ap2 {F F' : List Int} (hF : HiF F F') (f : Nat) {l l' : List (Int × Int × Int)} (hS : HiS l l') : ∀ {g g' : List Int}, Leq g g' → Leq ((l.filterMap (up1 F f)).foldl (ap2 f) g) ((l'.filterMap (up1 F' f)).foldl (ap2 f) g') := by
  induction hS with
  | nil => exact fun h => h
  | @cons a b h h' r r' hh h9 _ ih =>
    intro g g' hg
    have eo : other (a, b, h') f = other (a, b, h) f := rfl
    by_cases hc : 0 ≤ other (a, b, h) f ∧ (other (a, b, h) f).toNat < F.length
    · have e1 : up1 F f (a, b, h) = some ((other (a, b, h) f).toNat, grt [h, F[(other (a, b, h) f).toNat]?.getD 0]) := if_pos hc
      have e2 : up1 F' f (a, b, h') = some ((other (a, b, h) f).toNat, grt [h', F'[(other (a, b, h) f).toNat]?.getD 0]) := if_pos (by rw [← hF.1]; exact hc)
      rw [List.filterMap_cons_some e1, List.filterMap_cons_some e2, List.foldl_cons, List.foldl_cons]
      have h1 := hF.2 (other (a, b, h) f).toNat
      have h2 := hg.2 f
      refine ih (hg.set _ ?_ ?_)
      · simp only [grt2]; omega
      · simp only [grt2]; omega
    · have e1 : up1 F f (a, b, h) = none := if_neg hc
      have e2 : up1 F' f (a, b, h') = none := if_neg (by rw [← hF.1]; exact hc)
      rw [List.filterMap_cons_none e1, List.filterMap_cons_none e2]
      exact ih hg
theorem hi_lowered {s t : Sd} (hF : HiF s.floors t.floors) (hS : HiS s.sills t.sills) {g g' : List Int} (hg : Leq g g') : Leq (lowered s g) (lowered t g') := by
  unfold lowered
  rw [← hF.1]
  have h0 : Leq (lowSea s g) (lowSea t g') := by rw [lowSea_up, lowSea_up]; exact hi_ap1 hF _ hS hg
  generalize lowSea s g = a at *
  generalize lowSea t g' = b at *
  generalize List.range s.floors.length = l
  induction l generalizing a b with
  | nil => exact h0
  | cons x r ih =>
    refine ih _ _ ?_
    rw [lowFrom_up, lowFrom_up]
    exact hi_ap2 hF _ hS h0

/-- lowered so many times -/
def iterG (s : Sd) : Nat → List Int → List Int
  | 0, g => g
  | n + 1, g => iterG s n (lowered s g)
theorem iterG_fix {s : Sd} {g : List Int} (h : lowered s g = g) : ∀ n, iterG s n g = g
  | 0 => rfl
  | n + 1 => by unfold iterG; rw [h]; exact iterG_fix h n
theorem fixG_iter (s : Sd) : ∀ n g, fixG s n g = iterG s n g
  | 0, g => rfl
  | n + 1, g => by
    unfold fixG
    split
    · next h => exact (iterG_fix h (n + 1)).symm
    · exact fixG_iter s n _
theorem hi_iter {s t : Sd} (hF : HiF s.floors t.floors) (hS : HiS s.sills t.sills) : ∀ n {g g' : List Int}, Leq g g' → Leq (iterG s n g) (iterG t n g')
  | 0, _, _, h => h
  | n + 1, _, _, h => hi_iter hF hS n (hi_lowered hF hS h)
theorem hi_gts {s t : Sd} (hF : HiF s.floors t.floors) (hS : HiS s.sills t.sills) : Leq (gts s) (gts t) := by
  unfold gts
  rw [fixG_iter, fixG_iter]
  exact hi_iter hF hS _ (Leq.refl _)

/-- with one sill more -/
def Geq (g g' : List Int) : Prop := g.length = g'.length ∧ ∀ i : Nat, g'[i]?.getD 0 ≤ g[i]?.getD 0
theorem Geq.set {a b : List Int} (h : Geq a b) (t : Nat) {c d : Int} (hc : d ≤ c) : Geq (a.set t (min (a[t]?.getD 0) c)) (b.set t (min (b[t]?.getD 0) d)) := by
  refine ⟨by simp [h.1], fun i => ?_⟩
  have h1 := h.2 i
  have h0 := h.1
  rw [List.getElem?_set, List.getElem?_set]
  by_cases hi : t = i
  · subst hi
    by_cases hl : t < a.length
    · have hl' : t < b.length := by omega
      simp only [if_true, hl, hl', Option.getD_some]
      omega
    · have hl' : ¬ t < b.length := by omega
      simp [hl, hl']
  · rw [if_neg hi, if_neg hi]; exact h1
theorem Geq.right {a b : List Int} (h : Geq a b) (t : Nat) (d : Int) : Geq a (b.set t (min (b[t]?.getD 0) d)) := by
  refine ⟨by simp [h.1], fun i => ?_⟩
  have h1 := h.2 i
  rw [List.getElem?_set]
  by_cases hi : t = i
  · subst hi
    by_cases hl : t < b.length
    · simp only [if_true, hl, Option.getD_some]
      omega
    · have hl' : ¬ t < a.length := by have := h.1; omega
      simp [hl, hl']
  · rw [if_neg hi]; exact h1
theorem more_ap1 (F : List Int) (f : Int) (l e : List (Int × Int × Int)) {g g' : List Int} (hg : Geq g g') : Geq ((l.filterMap (up1 F f)).foldl ap1 g) (((l ++ e).filterMap (up1 F f)).foldl ap1 g') := by
  rw [List.filterMap_append, List.foldl_append]
  have h0 : Geq ((l.filterMap (up1 F f)).foldl ap1 g) ((l.filterMap (up1 F f)).foldl ap1 g') := by
    generalize l.filterMap (up1 F f) = k
    induction k generalizing g g' with
    | nil => exact hg
    | cons x r ih => exact ih (hg.set _ (Int.le_refl _))
  generalize (l.filterMap (up1 F f)).foldl ap1 g = a at *
  generalize (l.filterMap (up1 F f)).foldl ap1 g' = b at *
  generalize e.filterMap (up1 F f) = k
  induction k generalizing b with
  | nil => exact h0
  | cons x r ih => exact ih _ (h0.right _ _)
theorem more_ap2 (F : List Int) (f : Nat) (l e : List (Int × Int × Int)) {g g' : List Int} (hg : Geq g g') : Geq ((l.filterMap (up1 F f)).foldl (ap2 f) g) (((l ++ e).filterMap (up1 F f)).foldl (ap2 f) g') := by
  rw [List.filterMap_append, List.foldl_append]
  have h0 : Geq ((l.filterMap (up1 F f)).foldl (ap2 f) g) ((l.filterMap (up1 F f)).foldl (ap2 f) g') := by
    generalize l.filterMap (up1 F f) = k
    induction k generalizing g g' with
    | nil => exact hg
    | cons x r ih =>
      refine ih (hg.set _ ?_)
      have := hg.2 f
      simp only [grt2]; omega
  generalize (l.filterMap (up1 F f)).foldl (ap2 f) g = a at *
  generalize (l.filterMap (up1 F f)).foldl (ap2 f) g' = b at *
  generalize e.filterMap (up1 F f) = k
  induction k generalizing b with
  | nil => exact h0
  | cons x r ih => exact ih _ (h0.right _ _)
theorem more_lowered {s t : Sd} {e : List (Int × Int × Int)} (hF : t.floors = s.floors) (hS : t.sills = s.sills ++ e) {g g' : List Int} (hg : Geq g g') : Geq (lowered s g) (lowered t g') := by
  unfold lowered
  rw [hF]
  have h0 : Geq (lowSea s g) (lowSea t g') := by rw [lowSea_up, lowSea_up, hF, hS]; exact more_ap1 _ _ _ _ hg
  generalize lowSea s g = a at *
  generalize lowSea t g' = b at *
  generalize List.range s.floors.length = l
  induction l generalizing a b with
  | nil => exact h0
  | cons x r ih =>
    refine ih _ _ ?_
    rw [lowFrom_up, lowFrom_up, hF, hS]
    exact more_ap2 _ _ _ _ h0
theorem more_iter {s t : Sd} {e : List (Int × Int × Int)} (hF : t.floors = s.floors) (hS : t.sills = s.sills ++ e) : ∀ n {g g' : List Int}, Geq g g' → Geq (iterG s n g) (iterG t n g')
  | 0, _, _, h => h
  | n + 1, _, _, h => more_iter hF hS n (more_lowered hF hS h)
theorem more_gts {s t : Sd} {e : List (Int × Int × Int)} (hF : t.floors = s.floors) (hS : t.sills = s.sills ++ e) : Geq (gts s) (gts t) := by
  unfold gts
  rw [fixG_iter, fixG_iter]
  exact more_iter hF hS _ ⟨rfl, fun _ => Int.le_refl _⟩

/-- no gate is above 1050 -/
theorem iter_less (s : Sd) : ∀ n {g : List Int}, Less top g → Less top (iterG s n g)
  | 0, _, h => h
  | n + 1, g, h => iter_less s n (h.trans (lowered_less s g (fun i => (h.2 i).1)))
theorem gts_le (s : Sd) (p : Nat) : 0 ≤ gateOf s p ∧ gateOf s p ≤ 1050 := by
  have h : Less top (gts s) := by
    unfold gts
    rw [fixG_iter]
    exact iter_less s _ (Less.refl top_nonneg)
  have h1 := h.2 p
  have h2 : top[p]?.getD 0 ≤ 1050 := by
    unfold top
    rw [List.getElem?_replicate]
    split <;> simp
  unfold gateOf
  omega
theorem hasWay_lt (s : Sd) (p : Nat) : hasWayB s p = decide (gateOf s p < 1050) := by
  have hg := gts_le s p
  unfold gateOf at hg ⊢
  unfold hasWayB
  generalize (gts s)[p]?.getD 0 = g at *
  by_cases h : g = 1050
  · subst h; rfl
  · rw [decide_eq_true (show g < 1050 by omega), bne_iff_ne]; exact h

section
variable {s t : Sd}
theorem errFor_in (ok : Ok s) {x : Int} (h : 0 ≤ x ∧ x < s.floors.length) : errFor s x = 0 := by
  unfold errFor
  rw [if_pos (chk_zero ok)]
  have : isPl s x = true := inB_true.2 (by omega)
  rw [this]; rfl
theorem errGate_in (ok : Ok s) {x : Int} (h : 0 ≤ x ∧ x < s.floors.length) : errGate s x = if gateOf s x.toNat < 1050 then 0 else 6 := by
  unfold errGate
  rw [if_pos (errFor_in ok h), hasWay_lt]
  by_cases h : gateOf s x.toNat < 1050 <;> simp [h]
theorem gateV_in (ok : Ok s) {x : Int} (h : 0 ≤ x ∧ x < s.floors.length) : gateV s x = if gateOf s x.toNat < 1050 then gateOf s x.toNat else 0 := by
  unfold gateV
  rw [errGate_in ok h]
  by_cases h : gateOf s x.toNat < 1050 <;> simp [h]
/-- raised: the same errors, no lesser gates, no greater states -/
theorem hi_gate (ok : Ok s) (ok' : Ok t) (hF : HiF s.floors t.floors) (hS : HiS s.sills t.sills) {x : Int} (h : 0 ≤ x ∧ x < s.floors.length) : errGate t x = errGate s x ∧ gateV s x ≤ gateV t x := by
  have h' : 0 ≤ x ∧ x < t.floors.length := by rw [← hF.1]; exact h
  have k := (hi_gts hF hS).2 x.toNat
  rw [errGate_in ok h, errGate_in ok' h', gateV_in ok h, gateV_in ok' h']
  unfold gateOf at *
  by_cases c : (gts s)[x.toNat]?.getD 0 < 1050
  · have c' := k.2 c
    rw [if_pos c, if_pos c', if_pos c, if_pos c']
    exact ⟨rfl, k.1⟩
  · have c' : ¬ (gts t)[x.toNat]?.getD 0 < 1050 := by omega
    rw [if_neg c, if_neg c', if_neg c, if_neg c']
    exact ⟨rfl, Int.le_refl _⟩
theorem hi_st (hF : HiF s.floors t.floors) (hS : HiS s.sills t.sills) (hT : t.table = s.table) (hl : t.lo = s.lo) (hh : t.hi = s.hi) (m : Int) (p : Nat) : st t m p ≤ st s m p := by
  have k := (hi_gts hF hS).2 p
  unfold st gateOf
  rw [hT, hl, hh]
  repeat' split
  all_goals omega
theorem more_gate {e : List (Int × Int × Int)} (ok : Ok s) (ok' : Ok t) (hF : t.floors = s.floors) (hS : t.sills = s.sills ++ e) {x : Int} (h : 0 ≤ x ∧ x < s.floors.length) : errGate s x = 0 → errGate t x = 0 ∧ gateV t x ≤ gateV s x := by
  have h' : 0 ≤ x ∧ x < t.floors.length := by rw [hF]; exact h
  have k := (more_gts hF hS).2 x.toNat
  rw [errGate_in ok h, errGate_in ok' h', gateV_in ok h, gateV_in ok' h']
  unfold gateOf at *
  by_cases c : (gts s)[x.toNat]?.getD 0 < 1050
  · have c' : (gts t)[x.toNat]?.getD 0 < 1050 := by omega
    rw [if_pos c, if_pos c', if_pos c, if_pos c']
    exact fun _ => ⟨rfl, k⟩
  · rw [if_neg c]
    exact fun h => by cases h
theorem more_st {e : List (Int × Int × Int)} (hF : t.floors = s.floors) (hS : t.sills = s.sills ++ e) (hT : t.table = s.table) (hl : t.lo = s.lo) (hh : t.hi = s.hi) (m : Int) (p : Nat) : st s m p ≤ st t m p := by
  have k := (more_gts hF hS).2 p
  unfold st gateOf
  rw [hT, hl, hh]
  repeat' split
  all_goals omega
end
end
end Go.Proofs.Ytcljkkojeleakaa
/- Plain facts: the gates that the law finds by itself, letting the water rise from height to height, are the gates of the layer. -/
namespace Go.Proofs.Ytcljkkojeleakaa
section
open Go.RowKit

/-! what no sill lowers any more -/
theorem fixG_fix (s : Sd) : ∀ (n : Nat) (g : List Int), (∀ i : Nat, 0 ≤ g[i]?.getD 0) → g.sum < n → lowered s (fixG s n g) = fixG s n g
  | 0, g, h0, hs => by
    have := (sum_less g g (Less.refl h0)).2.2
    omega
  | n + 1, g, h0, hs => by
    unfold fixG
    split
    · assumption
    · next hne =>
      have hl := lowered_less s g h0
      have := (sum_less g (lowered s g) hl).2.1 hne
      exact fixG_fix s n (lowered s g) (fun i => (hl.2 i).1) (by omega)
theorem gts_fix (s : Sd) : lowered s (gts s) = gts s := fixG_fix s 9000 top top_nonneg (by decide)

theorem ap1_down : ∀ (l : List (Nat × Int)) (g : List Int) (i : Nat), i < g.length → (l.foldl ap1 g)[i]?.getD 0 ≤ g[i]?.getD 0
  | [], _, _, _ => Int.le_refl _
  | u :: r, g, i, hi => by
    refine Int.le_trans (ap1_down r (ap1 g u) i (by simp [ap1, hi])) ?_
    unfold ap1
    rw [List.getElem?_set]
    split
    · next h => subst h; rw [if_pos hi, Option.getD_some]; omega
    · exact Int.le_refl _
theorem ap2_down (f : Nat) : ∀ (l : List (Nat × Int)) (g : List Int) (i : Nat), i < g.length → (l.foldl (ap2 f) g)[i]?.getD 0 ≤ g[i]?.getD 0
  | [], _, _, _ => Int.le_refl _
  | u :: r, g, i, hi => by
    refine Int.le_trans (ap2_down f r (ap2 f g u) i (by simp [ap2, hi])) ?_
    unfold ap2
    rw [List.getElem?_set]
    split
    · next h => subst h; rw [if_pos hi, Option.getD_some]; omega
    · exact Int.le_refl _
theorem ap1_hit : ∀ (l : List (Nat × Int)) (g : List Int) (u : Nat × Int), u ∈ l → u.1 < g.length → (l.foldl ap1 g)[u.1]?.getD 0 ≤ u.2
  | v :: r, g, u, hu, hl => by
    have hl' : u.1 < (ap1 g v).length := by simp [ap1, hl]
    rcases List.mem_cons.1 hu with rfl | hu
    · refine Int.le_trans (ap1_down r _ u.1 hl') ?_
      unfold ap1
      rw [List.getElem?_set_self hl, Option.getD_some]
      omega
    · exact ap1_hit r _ u hu hl'
theorem ap2_hit (f : Nat) : ∀ (l : List (Nat × Int)) (g : List Int) (u : Nat × Int), u ∈ l → u.1 < g.length → f < g.length → (l.foldl (ap2 f) g)[u.1]?.getD 0 ≤ max (max 0 (g[f]?.getD 0)) u.2
  | v :: r, g, u, hu, hl, hf => by
    have hl' : u.1 < (ap2 f g v).length := by simp [ap2, hl]
    rcases List.mem_cons.1 hu with rfl | hu
    · refine Int.le_trans (ap2_down f r _ u.1 hl') ?_
      unfold ap2
      rw [List.getElem?_set_self hl, Option.getD_some, grt2]
      omega
    · have h1 := ap2_hit f r _ u hu hl' (by simp [ap2, hf])
      have h2 := ap2_down f [v] g f hf
      simp only [List.foldl_cons, List.foldl_nil] at h2
      show (r.foldl (ap2 f) (ap2 f g v))[u.1]?.getD 0 ≤ _
      omega
theorem low_len (s : Sd) (l : List Nat) (g : List Int) (h : g.length = 8) : (l.foldl (lowFrom s) g).length = 8 := lowFroms_len s l g h
theorem froms_down (s : Sd) : ∀ (l : List Nat) (g : List Int), g.length = 8 → ∀ i, i < 8 → (l.foldl (lowFrom s) g)[i]?.getD 0 ≤ g[i]?.getD 0
  | [], _, _, _, _ => Int.le_refl _
  | f :: r, g, hg, i, hi => by
    have hl : (lowFrom s g f).length = 8 := low2_len s f _ _ hg
    refine Int.le_trans (froms_down s r (lowFrom s g f) hl i hi) ?_
    rw [lowFrom_up]
    exact ap2_down f _ g i (by omega)
theorem froms_hit (s : Sd) : ∀ (l : List Nat) (g : List Int), g.length = 8 → ∀ f ∈ l, f < 8 → ∀ u ∈ s.sills.filterMap (up1 s.floors f), u.1 < 8 → (l.foldl (lowFrom s) g)[u.1]?.getD 0 ≤ max (max 0 (g[f]?.getD 0)) u.2
  | e :: r, g, hg, f, hf, h8, u, hu, hu8 => by
    have hl : (lowFrom s g e).length = 8 := low2_len s e _ _ hg
    rcases List.mem_cons.1 hf with rfl | hf
    · refine Int.le_trans (froms_down s r _ hl u.1 hu8) ?_
      rw [lowFrom_up]
      exact ap2_hit f _ g u hu (by omega) (by omega)
    · have h1 := froms_hit s r _ hl f hf h8 u hu hu8
      have h2 : (lowFrom s g e)[f]?.getD 0 ≤ g[f]?.getD 0 := by rw [lowFrom_up]; exact ap2_down e _ g f (by omega)
      show (r.foldl (lowFrom s) (lowFrom s g e))[u.1]?.getD 0 ≤ _
      omega
/-- what a sill joins: no gate is above what lets water over it -/
theorem gate_sea (s : Sd) (h8 : s.floors.length ≤ 8) (x : Int × Int × Int) (hx : x ∈ s.sills) (b : Nat) (hb : other x (-1) = b) (hbl : b < s.floors.length) : gateOf s b ≤ max (max 0 x.2.2) (s.floors[b]?.getD 0) := by
  have hu : (b, grt [x.2.2, s.floors[b]?.getD 0]) ∈ s.sills.filterMap (up1 s.floors (-1)) := by
    refine List.mem_filterMap.2 ⟨x, hx, ?_⟩
    unfold up1
    rw [hb, if_pos ⟨by omega, by simpa using hbl⟩]
    rfl
  have h0 : (lowSea s (gts s))[b]?.getD 0 ≤ max (max 0 x.2.2) (s.floors[b]?.getD 0) := by
    rw [lowSea_up]
    exact ap1_hit _ _ _ hu (by rw [gts_len]; exact Nat.lt_of_lt_of_le hbl h8)
  have h1 := froms_down s (List.range s.floors.length) (lowSea s (gts s)) (low1_len s _ _ (gts_len s)) b (by omega)
  have h2 := gts_fix s
  unfold lowered at h2
  rw [h2] at h1
  unfold gateOf
  omega
theorem gate_from (s : Sd) (h8 : s.floors.length ≤ 8) (x : Int × Int × Int) (hx : x ∈ s.sills) (f b : Nat) (hf : f < s.floors.length) (hb : other x f = b) (hbl : b < s.floors.length) : gateOf s b ≤ max (max 0 (gateOf s f)) (max (max 0 x.2.2) (s.floors[b]?.getD 0)) := by
  have hu : (b, grt [x.2.2, s.floors[b]?.getD 0]) ∈ s.sills.filterMap (up1 s.floors f) := by
    refine List.mem_filterMap.2 ⟨x, hx, ?_⟩
    unfold up1
    rw [hb, if_pos ⟨by omega, by simpa using hbl⟩]
    rfl
  have hs : (lowSea s (gts s)).length = 8 := low1_len s _ _ (gts_len s)
  have h1 := froms_hit s (List.range s.floors.length) (lowSea s (gts s)) hs f (List.mem_range.2 hf) (by omega) _ hu (by simp only; omega)
  have h3 : (lowSea s (gts s))[f]?.getD 0 ≤ (gts s)[f]?.getD 0 := by rw [lowSea_up]; exact ap1_down _ _ f (by rw [gts_len]; omega)
  have h2 := gts_fix s
  unfold lowered at h2
  rw [h2] at h1
  simp only [grt2] at h1
  unfold gateOf
  omega

/-! invariants of lowering, by its updates -/
theorem inv_iter (s : Sd) (h8 : s.floors.length ≤ 8) (I : List Int → Prop)
    (sea : ∀ (g : List Int) (x : Int × Int × Int) (b : Nat), g.length = 8 → x ∈ s.sills → other x (-1) = b → b < s.floors.length → I g → I (g.set b (min (g[b]?.getD 0) (max (max 0 x.2.2) (s.floors[b]?.getD 0)))))
    (from' : ∀ (g : List Int) (x : Int × Int × Int) (f b : Nat), g.length = 8 → x ∈ s.sills → f < s.floors.length → other x f = b → b < s.floors.length → I g → I (g.set b (min (g[b]?.getD 0) (max (max 0 (g[f]?.getD 0)) (max (max 0 x.2.2) (s.floors[b]?.getD 0))))))
    (h0 : I top) : I (gts s) := by
  have up : ∀ (f : Int) (x : Int × Int × Int) (u : Nat × Int), up1 s.floors f x = some u → other x f = u.1 ∧ u.1 < s.floors.length ∧ u.2 = max (max 0 x.2.2) (s.floors[u.1]?.getD 0) := by
    intro f x u hu
    unfold up1 at hu
    split at hu
    · next hc =>
      cases hu
      exact ⟨by simp only; omega, hc.2, rfl⟩
    · cases hu
  have h1 : ∀ (l : List (Int × Int × Int)) (g : List Int), (∀ x ∈ l, x ∈ s.sills) → g.length = 8 → I g → I ((l.filterMap (up1 s.floors (-1))).foldl ap1 g) := by
    intro l
    induction l with
    | nil => exact fun g _ _ h => h
    | cons x r ih =>
      intro g hx hl hI
      cases hu : up1 s.floors (-1) x with
      | none => rw [List.filterMap_cons_none hu]; exact ih g (fun y hy => hx y (by simp [hy])) hl hI
      | some u =>
        rw [List.filterMap_cons_some hu]
        obtain ⟨e1, e2, e3⟩ := up _ _ _ hu
        refine ih (ap1 g u) (fun y hy => hx y (by simp [hy])) (by simp [ap1, hl]) ?_
        unfold ap1
        rw [e3]
        exact sea g x u.1 hl (hx x (by simp)) e1 e2 hI
  have h2 : ∀ (f : Nat), f < s.floors.length → ∀ (l : List (Int × Int × Int)) (g : List Int), (∀ x ∈ l, x ∈ s.sills) → g.length = 8 → I g → I ((l.filterMap (up1 s.floors f)).foldl (ap2 f) g) := by
    intro f hf l
    induction l with
    | nil => exact fun g _ _ h => h
    | cons x r ih =>
      intro g hx hl hI
      cases hu : up1 s.floors f x with
      | none => rw [List.filterMap_cons_none hu]; exact ih g (fun y hy => hx y (by simp [hy])) hl hI
      | some u =>
        rw [List.filterMap_cons_some hu]
        obtain ⟨e1, e2, e3⟩ := up _ _ _ hu
        refine ih (ap2 f g u) (fun y hy => hx y (by simp [hy])) (by simp [ap2, hl]) ?_
        unfold ap2
        rw [e3, grt2]
        exact from' g x f u.1 hl (hx x (by simp)) hf e1 e2 hI
  have h3 : ∀ (l : List Nat) (g : List Int), (∀ f ∈ l, f < s.floors.length) → g.length = 8 → I g → I (l.foldl (lowFrom s) g) := by
    intro l
    induction l with
    | nil => exact fun g _ _ h => h
    | cons f r ih =>
      intro g hf hl hI
      refine ih (lowFrom s g f) (fun y hy => hf y (by simp [hy])) (low2_len s f _ _ hl) ?_
      rw [lowFrom_up]
      exact h2 f (hf f (by simp)) _ _ (fun _ h => h) hl hI
  have h4 : ∀ n (g : List Int), g.length = 8 → I g → I (iterG s n g) := by
    intro n
    induction n with
    | zero => exact fun g _ h => h
    | succ n ih =>
      intro g hl hI
      refine ih _ (lowered_len s g hl) ?_
      unfold lowered
      refine h3 _ _ (fun f hf => List.mem_range.1 hf) (low1_len s _ _ hl) ?_
      rw [lowSea_up]
      exact h1 _ _ (fun _ h => h) hl hI
  unfold gts
  rw [fixG_iter]
  exact h4 _ _ rfl h0

theorem set_get (g : List Int) (b i : Nat) (v : Int) (hb : b < g.length) : (g.set b v)[i]?.getD 0 = if b = i then v else g[i]?.getD 0 := by
  rw [List.getElem?_set]
  split
  · next h => first | rfl | (subst h; rw [if_pos hb]; rfl) | (subst h; simp [hb])
  · rfl
/-- low heights, low gates -/
theorem gate_low (s : Sd) (h8 : s.floors.length ≤ 8) (hF : ∀ x ∈ s.floors, 0 ≤ x ∧ x ≤ 50) (hS : ∀ x ∈ s.sills, x.2.2 ≤ 50) (p : Nat) (hp : p < 8) : gateOf s p ≤ 50 ∨ gateOf s p = 1050 := by
  have fl : ∀ b : Nat, s.floors[b]?.getD 0 ≤ 50 := fun b => by
    by_cases hb : b < s.floors.length
    · rw [List.getElem?_eq_getElem hb]; exact (hF _ (List.getElem_mem hb)).2
    · rw [List.getElem?_eq_none (by omega)]; decide
  have := inv_iter s h8 (fun g => ∀ i, i < 8 → g[i]?.getD 0 ≤ 50 ∨ g[i]?.getD 0 = 1050)
    (fun g x b hl hx hb hbl hI i hi => by
      have h1 := hI i hi
      have h2 := hI b (by omega)
      have h3 := fl b
      have h4 := hS x hx
      rw [set_get g b i _ (by omega)]
      split
      · omega
      · exact h1)
    (fun g x f b hl hx hf hb hbl hI i hi => by
      have h1 := hI i hi
      have h2 := hI b (by omega)
      have h3 := fl b
      have h4 := hS x hx
      have h5 := hI f (by omega)
      rw [set_get g b i _ (by omega)]
      split
      · omega
      · exact h1)
    (fun i hi => Or.inr (by unfold top; rw [List.getElem?_replicate, if_pos hi]; rfl))
  exact this p hp

/-! the law's own way -/
def rel1 (F : List Int) (h : Int) (g : List Int) (y : Int × Int × Int) : List Int :=
  if y.2.2 ≤ h ∧ y.2.1 ≠ -1 ∧ F[y.2.1.toNat]?.getD 0 ≤ h ∧ (y.1 = -1 ∨ g[y.1.toNat]?.getD 0 ≤ h) then g.set y.2.1.toNat (min (g[y.2.1.toNat]?.getD 0) h) else g
def turned (x : Int × Int × Int) : Int × Int × Int := (x.2.1, x.1, x.2.2)
def rel2 (F : List Int) (h : Int) (g : List Int) (x : Int × Int × Int) : List Int := rel1 F h (rel1 F h g x) (turned x)
def pass (s : Sd) (h : Int) (g : List Int) : List Int := s.sills.foldl (rel2 s.floors h) g
def passes (s : Sd) (h : Int) : Nat → List Int → List Int
  | 0, g => g
  | n + 1, g => passes s h n (pass s h g)
def lvls (s : Sd) : Nat → List Int
  | 0 => List.replicate s.floors.length 1000000
  | k + 1 => passes s k s.floors.length (lvls s k)

section
variable {F : List Int} {h : Int}
theorem rel1_len (g : List Int) (y : Int × Int × Int) : (rel1 F h g y).length = g.length := by
  unfold rel1; split
  · simp
  · rfl
theorem rel2_len (g : List Int) (y : Int × Int × Int) : (rel2 F h g y).length = g.length := by unfold rel2; rw [rel1_len, rel1_len]
/-- how many are above -/
def oc (h : Int) (g : List Int) : Nat := g.countP (fun v => decide (h < v))
theorem oc_set (h : Int) : ∀ (g : List Int) (b : Nat), b < g.length → h < g[b]?.getD 0 → oc h (g.set b (min (g[b]?.getD 0) h)) + 1 = oc h g
  | v :: r, 0, _, hv => by
    have hv' : h < v := by simpa using hv
    show oc h (min v h :: r) + 1 = oc h (v :: r)
    unfold oc
    rw [List.countP_cons, List.countP_cons, if_neg (by simp only [decide_eq_true_eq]; omega), if_pos (by simpa using hv')]
  | v :: r, b + 1, hb, hv => by
    have ih := oc_set h r b (by simpa using hb) (by simpa using hv)
    have e : (v :: r)[b + 1]?.getD 0 = r[b]?.getD 0 := by simp
    rw [e]
    show oc h (v :: r.set b _) + 1 = _
    unfold oc at ih ⊢
    rw [List.countP_cons, List.countP_cons]
    omega
theorem set_same (g : List Int) (b : Nat) (hb : b < g.length) (h : Int) (hv : g[b]?.getD 0 ≤ h) : g.set b (min (g[b]?.getD 0) h) = g := by
  rw [Int.min_eq_left hv, List.getElem?_eq_getElem hb, Option.getD_some, List.set_getElem_self]
theorem rel1_or (g : List Int) (y : Int × Int × Int) (hy : y.2.1 ≠ -1 → 0 ≤ y.2.1 ∧ y.2.1 < g.length) : rel1 F h g y = g ∨ oc h (rel1 F h g y) < oc h g := by
  unfold rel1
  split
  · next hc =>
    have hb : y.2.1.toNat < g.length := by have := hy hc.2.1; omega
    by_cases hv : g[y.2.1.toNat]?.getD 0 ≤ h
    · exact Or.inl (set_same g _ hb h hv)
    · have := oc_set h g _ hb (by omega)
      exact Or.inr (by omega)
  · exact Or.inl rfl
end
section
variable {α : Type} {f : List Int → α → List Int} {h : Int} {n : Nat} {P : α → Prop}
theorem fold_or (hf : ∀ g x, g.length = n → P x → (f g x).length = n ∧ (f g x = g ∨ oc h (f g x) < oc h g)) : ∀ (l : List α) (g : List Int), g.length = n → (∀ x ∈ l, P x) →
    (l.foldl f g).length = n ∧ (l.foldl f g = g ∧ (∀ x ∈ l, f g x = g) ∨ oc h (l.foldl f g) < oc h g)
  | [], g, hg, _ => ⟨hg, Or.inl ⟨rfl, by simp⟩⟩
  | x :: r, g, hg, hp => by
    obtain ⟨h1, h2⟩ := hf g x hg (hp x (by simp))
    obtain ⟨h3, h4⟩ := fold_or hf r (f g x) h1 (fun y hy => hp y (by simp [hy]))
    refine ⟨h3, ?_⟩
    rw [List.foldl_cons]
    rcases h2 with h2 | h2
    · rcases h4 with ⟨h4, h5⟩ | h4
      · refine Or.inl ⟨by rw [h4, h2], fun y hy => ?_⟩
        rcases List.mem_cons.1 hy with rfl | hy
        · exact h2
        · have := h5 y hy
          rw [h2] at this; exact this
      · exact Or.inr (by rw [h2] at h4 ⊢; exact h4)
    · rcases h4 with ⟨h4, h5⟩ | h4
      · exact Or.inr (by rw [h4]; exact h2)
      · exact Or.inr (by omega)
end
section
variable {s : Sd} {h : Int}
/-- an end of a sill is a place, or the Sea -/
def EndOk (n : Nat) (y : Int × Int × Int) : Prop := (y.1 = -1 ∨ 0 ≤ y.1 ∧ y.1 < n) ∧ (y.2.1 = -1 ∨ 0 ≤ y.2.1 ∧ y.2.1 < n) ∧ y.1 ≠ y.2.1
theorem EndOk.turned {n : Nat} {y : Int × Int × Int} (hy : EndOk n y) : EndOk n (turned y) := ⟨hy.2.1, hy.1, Ne.symm hy.2.2⟩
theorem EndOk.of (ok : Ok s) {x : Int × Int × Int} (hx : x ∈ s.sills) : EndOk s.floors.length x := ⟨(ok.good x hx).1, (ok.good x hx).2, ok.two x hx⟩
theorem rel2_or (g : List Int) (y : Int × Int × Int) (n : Nat) (hg : g.length = n) (hy : EndOk n y) : (rel2 s.floors h g y).length = n ∧ (rel2 s.floors h g y = g ∧ rel1 s.floors h g y = g ∧ rel1 s.floors h g (turned y) = g ∨ oc h (rel2 s.floors h g y) < oc h g) := by
  refine ⟨by rw [rel2_len]; exact hg, ?_⟩
  have h1 := rel1_or (F := s.floors) (h := h) g y (fun hn => by rcases hy.2.1 with e | e; exact absurd e hn; omega)
  have h2 := rel1_or (F := s.floors) (h := h) (rel1 s.floors h g y) (turned y) (fun hn => by rw [rel1_len]; rcases hy.1 with e | e; exact absurd e hn; exact ⟨e.1, by rw [hg]; exact e.2⟩)
  unfold rel2
  rcases h1 with h1 | h1
  · rcases h2 with h2 | h2
    · rw [h1] at h2 ⊢
      exact Or.inl ⟨h2, rfl, h2⟩
    · rw [h1] at h2 ⊢; exact Or.inr h2
  · rcases h2 with h2 | h2
    · exact Or.inr (by rw [h2]; exact h1)
    · exact Or.inr (by omega)
theorem pass_or (ok : Ok s) (g : List Int) (hg : g.length = s.floors.length) : (pass s h g).length = s.floors.length ∧ (pass s h g = g ∧ (∀ x ∈ s.sills, rel1 s.floors h g x = g ∧ rel1 s.floors h g (turned x) = g) ∨ oc h (pass s h g) < oc h g) := by
  obtain ⟨h1, h2⟩ := fold_or (h := h) (n := s.floors.length) (P := EndOk s.floors.length) (f := rel2 s.floors h) (fun g x hg hx => by
    obtain ⟨k1, k2⟩ := rel2_or (s := s) (h := h) g x _ hg hx
    refine ⟨k1, ?_⟩
    rcases k2 with k2 | k2
    · exact Or.inl k2.1
    · exact Or.inr k2) s.sills g hg (fun x hx => EndOk.of ok hx)
  refine ⟨h1, ?_⟩
  rcases h2 with ⟨h2, h3⟩ | h2
  · refine Or.inl ⟨h2, fun x hx => ?_⟩
    rcases (rel2_or (s := s) (h := h) g x _ hg (EndOk.of ok hx)).2 with k | k
    · exact k.2
    · rw [h3 x hx] at k; omega
  · exact Or.inr h2
theorem passes_len (ok : Ok s) : ∀ n (g : List Int), g.length = s.floors.length → (passes s h n g).length = s.floors.length
  | 0, _, hg => hg
  | n + 1, g, hg => passes_len ok n _ (pass_or ok g hg).1
theorem passes_fix (ok : Ok s) : ∀ n (g : List Int), g.length = s.floors.length → pass s h g = g → passes s h n g = g
  | 0, _, _, _ => rfl
  | n + 1, g, hg, hp => by
    unfold passes
    rw [hp]
    exact passes_fix ok n g hg hp
theorem passes_shut (ok : Ok s) : ∀ n (g : List Int), g.length = s.floors.length → oc h g ≤ n → pass s h (passes s h n g) = passes s h n g
  | 0, g, hg, ho => by
    rcases (pass_or (h := h) ok g hg).2 with k | k
    · exact k.1
    · omega
  | n + 1, g, hg, ho => by
    obtain ⟨h1, k⟩ := pass_or (h := h) ok g hg
    unfold passes
    rcases k with k | k
    · rw [k.1, passes_fix ok n g hg k.1]; exact k.1
    · exact passes_shut ok n _ h1 (by omega)

/-- sound at a height: what is known is the gate, and what is below is known -/
def Snd (s : Sd) (h : Int) (g : List Int) : Prop := ∀ p, p < s.floors.length → (g[p]?.getD 0 = 1000000 ∨ g[p]?.getD 0 = gateOf s p ∧ gateOf s p ≤ h) ∧ (gateOf s p < h → g[p]?.getD 0 = gateOf s p)
theorem other_to (ok : Ok s) {x : Int × Int × Int} (hx : x ∈ s.sills) {a b : Int} (hb : b ≠ -1) (hab : (a, b) = (x.1, x.2.1) ∨ (a, b) = (x.2.1, x.1)) : other x a = b := by
  have := ok.two x hx
  unfold other
  rcases hab with e | e
  · cases e; simp
  · cases e
    have : (x.2.1 == x.1) = false := by rw [beq_eq_false_iff_ne]; omega
    simp [this]
theorem gate_step (ok : Ok s) {x : Int × Int × Int} (hx : x ∈ s.sills) {a b : Int} (hb : 0 ≤ b ∧ b < s.floors.length) (ha : a = -1 ∨ 0 ≤ a ∧ a < s.floors.length) (hab : (a, b) = (x.1, x.2.1) ∨ (a, b) = (x.2.1, x.1)) (h0 : 0 ≤ h) (hh : x.2.2 ≤ h) (hF : s.floors[b.toNat]?.getD 0 ≤ h) (hg : a = -1 ∨ gateOf s a.toNat ≤ h) : gateOf s b.toNat ≤ h := by
  have ho := other_to ok hx (by omega) hab
  have e : ((b.toNat : Nat) : Int) = b := by omega
  rcases hg with hg | hg
  · subst hg
    have := gate_sea s ok.fl1 x hx b.toNat (by rw [e]; exact ho) (by omega)
    omega
  · rcases ha with ha | ha
    · subst ha
      have := gate_sea s ok.fl1 x hx b.toNat (by rw [e]; exact ho) (by omega)
      omega
    · have e2 : ((a.toNat : Nat) : Int) = a := by omega
      have := gate_from s ok.fl1 x hx a.toNat b.toNat (by omega) (by rw [e, e2]; exact ho) (by omega)
      omega
theorem snd_rel1 (ok : Ok s) {x : Int × Int × Int} (hx : x ∈ s.sills) (h0 : 0 ≤ h) (h9 : h ≤ 999) {g : List Int} (hl : g.length = s.floors.length) (hs : Snd s h g) (y : Int × Int × Int) (hy : y = x ∨ y = turned x) : Snd s h (rel1 s.floors h g y) := by
  have he : EndOk s.floors.length y := by
    rcases hy with rfl | rfl
    · exact EndOk.of ok hx
    · exact (EndOk.of ok hx).turned
  have hab : (y.1, y.2.1) = (x.1, x.2.1) ∨ (y.1, y.2.1) = (x.2.1, x.1) := by rcases hy with rfl | rfl; exact Or.inl rfl; exact Or.inr rfl
  have hyh : y.2.2 = x.2.2 := by rcases hy with rfl | rfl <;> rfl
  unfold rel1
  split
  · next hc =>
    obtain ⟨c1, c2, c3, c4⟩ := hc
    have hb : 0 ≤ y.2.1 ∧ y.2.1 < s.floors.length := by rcases he.2.1 with e | e; exact absurd e c2; exact e
    have hgb : gateOf s y.2.1.toNat ≤ h := by
      refine gate_step ok hx hb he.1 hab h0 (by omega) c3 ?_
      rcases c4 with c4 | c4
      · exact Or.inl c4
      · rcases he.1 with e | e
        · exact Or.inl e
        · refine Or.inr ?_
          have := (hs y.1.toNat (by omega)).1
          omega
    intro p hp
    have k := hs p hp
    rw [set_get g _ p _ (by omega)]
    split
    · next e =>
      subst e
      omega
    · exact k
  · exact hs
theorem snd_fold (ok : Ok s) (h0 : 0 ≤ h) (h9 : h ≤ 999) : ∀ (l : List (Int × Int × Int)) (g : List Int), (∀ x ∈ l, x ∈ s.sills) → g.length = s.floors.length → Snd s h g → Snd s h (l.foldl (rel2 s.floors h) g)
  | [], _, _, _, hs => hs
  | x :: r, g, hx, hl, hs => by
    have hm := hx x (by simp)
    refine snd_fold ok h0 h9 r _ (fun y hy => hx y (by simp [hy])) (by rw [rel2_len]; exact hl) ?_
    unfold rel2
    exact snd_rel1 ok hm h0 h9 (by rw [rel1_len]; exact hl) (snd_rel1 ok hm h0 h9 hl hs x (Or.inl rfl)) _ (Or.inr rfl)
theorem snd_passes (ok : Ok s) (h0 : 0 ≤ h) (h9 : h ≤ 999) : ∀ n (g : List Int), g.length = s.floors.length → Snd s h g → Snd s h (passes s h n g)
  | 0, _, _, hs => hs
  | n + 1, g, hl, hs => snd_passes ok h0 h9 n _ (pass_or ok g hl).1 (snd_fold ok h0 h9 _ _ (fun _ h => h) hl hs)
/-- what no pass changes any more has all gates that are not above -/
theorem shut_all (ok : Ok s) (h9 : h ≤ 999) {g : List Int} (hl : g.length = s.floors.length) (hp : pass s h g = g) (p : Nat) (hpl : p < s.floors.length) (hg : gateOf s p ≤ h) : g[p]?.getD 0 ≤ h := by
  have hall : ∀ x ∈ s.sills, rel1 s.floors h g x = g ∧ rel1 s.floors h g (turned x) = g := by
    rcases (pass_or (h := h) ok g hl).2 with k | k
    · exact k.2
    · rw [hp] at k; omega
  have key : ∀ x ∈ s.sills, ∀ a b : Int, (a, b) = (x.1, x.2.1) ∨ (a, b) = (x.2.1, x.1) → 0 ≤ b ∧ b < s.floors.length → x.2.2 ≤ h → s.floors[b.toNat]?.getD 0 ≤ h → (a = -1 ∨ g[a.toNat]?.getD 0 ≤ h) → g[b.toNat]?.getD 0 ≤ h := by
    intro x hx a b hab hb h1 h2 h3
    have hb' : b.toNat < g.length := by omega
    have hr : rel1 s.floors h g (a, b, x.2.2) = g := by
      rcases hab with e | e
      · cases e; exact (hall x hx).1
      · cases e; exact (hall x hx).2
    unfold rel1 at hr
    rw [if_pos ⟨h1, by simp only; omega, h2, h3⟩] at hr
    have e1 := congrArg (fun l => l[b.toNat]?.getD 0) hr
    simp only at e1
    rw [set_get g _ _ _ hb', if_pos rfl] at e1
    omega
  refine Decidable.byContradiction fun hc => ?_
  have := inv_iter s ok.fl1 (fun a => ∀ i, i < s.floors.length → h < g[i]?.getD 0 → h < a[i]?.getD 0)
    (fun a x b hl8 hx hb hbl hI i hi hgi => by
      rw [set_get a b i _ (by have := ok.fl1; omega)]
      split
      · next e =>
        subst e
        have h1 := hI b hi hgi
        have hne : ¬ (x.2.2 ≤ h ∧ s.floors[b]?.getD 0 ≤ h) := fun hcc => by
          have ho : (-1, (b : Int)) = (x.1, x.2.1) ∨ (-1, (b : Int)) = (x.2.1, x.1) := by
            unfold other at hb
            by_cases e1 : (-1 : Int) = x.1
            · rw [show ((-1 : Int) == x.1) = true from beq_iff_eq.2 e1] at hb
              exact Or.inl (by rw [← e1]; simp at hb; rw [hb])
            · rw [show ((-1 : Int) == x.1) = false from beq_eq_false_iff_ne.2 e1] at hb
              by_cases e2 : (-1 : Int) = x.2.1
              · rw [show ((-1 : Int) == x.2.1) = true from beq_iff_eq.2 e2] at hb
                exact Or.inr (by rw [← e2]; simp at hb; rw [hb])
              · rw [show ((-1 : Int) == x.2.1) = false from beq_eq_false_iff_ne.2 e2] at hb
                simp at hb
          have := key x hx (-1) b ho (by omega) hcc.1 (by simpa using hcc.2) (Or.inl rfl)
          simp only [Int.toNat_natCast] at this
          omega
        omega
      · exact hI i hi hgi)
    (fun a x f b hl8 hx hf hb hbl hI i hi hgi => by
      rw [set_get a b i _ (by have := ok.fl1; omega)]
      split
      · next e =>
        subst e
        have h1 := hI b hi hgi
        by_cases hgf : h < g[f]?.getD 0
        · have := hI f hf hgf
          omega
        · have hne : ¬ (x.2.2 ≤ h ∧ s.floors[b]?.getD 0 ≤ h) := fun hcc => by
            have ho : ((f : Int), (b : Int)) = (x.1, x.2.1) ∨ ((f : Int), (b : Int)) = (x.2.1, x.1) := by
              unfold other at hb
              by_cases e1 : (f : Int) = x.1
              · rw [show ((f : Int) == x.1) = true from beq_iff_eq.2 e1] at hb
                exact Or.inl (by rw [← e1]; simp at hb; rw [hb])
              · rw [show ((f : Int) == x.1) = false from beq_eq_false_iff_ne.2 e1] at hb
                by_cases e2 : (f : Int) = x.2.1
                · rw [show ((f : Int) == x.2.1) = true from beq_iff_eq.2 e2] at hb
                  exact Or.inr (by rw [← e2]; simp at hb; rw [hb])
                · rw [show ((f : Int) == x.2.1) = false from beq_eq_false_iff_ne.2 e2] at hb
                  simp at hb
            have := key x hx f b ho (by omega) hcc.1 (by simpa using hcc.2) (Or.inr (by simp only [Int.toNat_natCast]; omega))
            simp only [Int.toNat_natCast] at this
            omega
          omega
      · exact hI i hi hgi)
    (fun i hi _ => by
      have := ok.fl1
      unfold top
      rw [List.getElem?_replicate, if_pos (by omega)]
      show h < 1050
      omega)
  have h1 := this p hpl (by omega)
  unfold gateOf at hg
  omega
theorem lvls_len (ok : Ok s) : ∀ k, (lvls s k).length = s.floors.length
  | 0 => by simp [lvls]
  | k + 1 => passes_len ok _ _ (lvls_len ok k)
theorem lvls_is (ok : Ok s) : ∀ (k : Nat), k ≤ 1000 → ∀ p, p < s.floors.length → (lvls s k)[p]?.getD 0 = if gateOf s p < k then gateOf s p else 1000000
  | 0, _, p, hp => by
    have := (gts_le s p).1
    rw [if_neg (by omega)]
    unfold lvls
    rw [List.getElem?_replicate, if_pos hp]
    rfl
  | k + 1, hk, p, hp => by
    have ih := lvls_is ok k (by omega)
    have hl := lvls_len ok k
    have hs : Snd s k (lvls s k) := fun q hq => by
      have e := ih q hq
      by_cases c : gateOf s q < k
      · rw [if_pos c] at e
        exact ⟨Or.inr ⟨e, by omega⟩, fun _ => e⟩
      · rw [if_neg c] at e
        exact ⟨Or.inl e, fun h => absurd h c⟩
    have h1 := snd_passes ok (h := (k : Int)) (by omega) (by omega) s.floors.length _ hl hs
    have h2 := passes_shut (h := (k : Int)) ok s.floors.length (lvls s k) hl (by rw [← hl]; exact List.countP_le_length)
    have hl2 := passes_len (h := (k : Int)) ok s.floors.length _ hl
    show (passes s k s.floors.length (lvls s k))[p]?.getD 0 = _
    have h3 := shut_all ok (h := (k : Int)) (by omega) hl2 h2 p hp
    have h4 := (h1 p hp).1
    by_cases c : gateOf s p < ((k + 1 : Nat) : Int)
    · rw [if_pos c]
      have := h3 (by omega)
      omega
    · rw [if_neg c]
      omega
/-- the gates that the law finds -/
theorem lvls_gates (ok : Ok s) (hF : ∀ x ∈ s.floors, 0 ≤ x ∧ x ≤ 50) (hS : ∀ x ∈ s.sills, x.2.2 ≤ 50) (p : Nat) (hp : p < s.floors.length) : (lvls s 62)[p]?.getD 0 = if gateOf s p < 1050 then gateOf s p else 1000000 := by
  rw [lvls_is ok 62 (by omega) p hp]
  have := gate_low s ok.fl1 hF hS p (by have := ok.fl1; omega)
  by_cases c : gateOf s p < 1050
  · rw [if_pos c, if_pos (by omega)]
  · rw [if_neg c, if_neg (by omega)]
end
end
end Go.Proofs.Ytcljkkojeleakaa
/- Rows that lie in a block of their own, from its first cell on: cells, and what a store changes. -/
namespace Go.Proofs.Ytcljkkojeleakaa
section
open Go.RowKit Go.Shelf

theorem flatten_set (k : Nat) : ∀ (rows : List (List Value)) (i j : Nat) (v : Value) (hi : i < rows.length), (∀ r ∈ rows, r.length = k) → j < k → rows.flatten.set (i * k + j) v = (rows.set i (rows[i].set j v)).flatten
  | a :: r, 0, j, v, _, hk, hj => by
    have ha := hk a (by simp)
    rw [Nat.zero_mul, Nat.zero_add, List.flatten_cons, List.set_append_left _ _ (by omega)]
    rfl
  | a :: r, i + 1, j, v, hi, hk, hj => by
    have ha := hk a (by simp)
    have hi' : i < r.length := by simpa using hi
    have ih := flatten_set k r i j v hi' (fun x hx => hk x (by simp [hx])) hj
    rw [List.flatten_cons, List.set_append_right _ _ (by rw [Nat.add_mul]; omega), show (i + 1) * k + j - a.length = i * k + j by rw [Nat.add_mul]; omega, ih]
    rfl
theorem flatten_len (k : Nat) : ∀ (rows : List (List Value)), (∀ r ∈ rows, r.length = k) → rows.flatten.length = rows.length * k
  | [], _ => by simp
  | a :: r, h => by
    rw [List.flatten_cons, List.length_append, flatten_len k r (fun x hx => h x (by simp [hx])), h a (by simp), List.length_cons, Nat.add_mul]
    omega

def RowBlk (w : World) (g : Nat) (T : TypeId) (k : Nat) (rows : List (List Value)) : Prop := (∀ r ∈ rows, r.length = k) ∧ ∃ cur : List Value, Blk w g cur T ∧ cur.take (rows.length * k) = rows.flatten
section
variable {w w' : World} {g k n₀ c : Nat} {T : TypeId} {p : Option Addr} {rows : List (List Value)}
theorem RowBlk.cell (h : RowBlk w g T k rows) {i j : Nat} {row : List Value} {x : Value} (hi : rows[i]? = some row) (hj : row[j]? = some x) : w.cell? ⟨g, i * k + j, none⟩ = some x := by
  obtain ⟨hk, cur, hb, ht⟩ := h
  have hil := (List.getElem?_eq_some_iff.1 hi).1
  have hr : row.length = k := hk row (List.mem_of_getElem? hi)
  have hjl : j < k := by have := (List.getElem?_eq_some_iff.1 hj).1; omega
  have hok : flatOk k rows = true := by unfold flatOk; simpa using hk
  have hf := flat_at k rows hok i row hi j x hj
  have hlt : i * k + j < rows.length * k := by
    have : (i + 1) * k ≤ rows.length * k := Nat.mul_le_mul_right _ (by omega)
    rw [Nat.add_mul] at this; omega
  rw [← ht, List.getElem?_take_of_lt hlt] at hf
  rw [hb.cell, hf]
theorem RowBlk.free (h : RowBlk w g T k rows) (i : Nat) : w.frozen? ⟨g, i, none⟩ = false := by
  obtain ⟨-, cur, hb, -⟩ := h
  exact hb.free i
theorem RowBlk.lt (h : RowBlk w g T k rows) : g < w.heap.size := by
  obtain ⟨-, cur, hb, -⟩ := h
  exact hb.lt
theorem RowBlk.row (h : RowBlk w g T k rows) : Row w (some ⟨g, 0, none⟩) k rows := fun i row hi => ⟨g, 0, rfl, fun j x hj => by rw [Nat.zero_add]; exact h.cell hi hj⟩
theorem RowBlk.up (h : RowBlk w g T k rows) (hu : Up w w') : RowBlk w' g T k rows := by
  obtain ⟨hk, cur, hb, ht⟩ := h
  exact ⟨hk, cur, hb.up hu, ht⟩
theorem RowBlk.other (h : RowBlk w g T k rows) {a : Addr} (ha : g ≠ a.block) (v : Value) : RowBlk (w.setCell a v) g T k rows := by
  obtain ⟨hk, cur, hb, ht⟩ := h
  exact ⟨hk, cur, hb.other ha v, ht⟩
theorem RowBlk.far {B n : Nat} (h : RowBlk w g T k rows) (hf : Far B n w w') (h1 : g < n) (h2 : g ≠ B) : RowBlk w' g T k rows := by
  obtain ⟨hk, cur, hb, ht⟩ := h
  exact ⟨hk, cur, hf.blk hb h1 h2, ht⟩
theorem RowBlk.set (h : RowBlk w g T k rows) {i j : Nat} (hi : i < rows.length) (hj : j < k) (v : Value) : RowBlk (w.setCell ⟨g, i * k + j, none⟩ v) g T k (rows.set i (rows[i].set j v)) := by
  obtain ⟨hk, cur, hb, ht⟩ := h
  refine ⟨fun r hr => ?_, _, hb.set _ _, ?_⟩
  · rcases List.mem_or_eq_of_mem_set hr with h1 | rfl
    · exact hk r h1
    · rw [List.length_set]; exact hk _ (List.getElem_mem _)
  · rw [List.length_set, ← flatten_set k rows i j v hi hk hj, ← ht, List.take_set]
theorem RowBlk.of (h : w.ownsRow n₀ T k (.slice p rows.length c) rows.length rows.flatten) (hk : ∀ r ∈ rows, r.length = k) (hl : 0 < rows.length) : ∃ g, p = some ⟨g, 0, none⟩ ∧ n₀ ≤ g ∧ RowBlk w g T k rows := by
  rcases h.2 with ⟨-, h0⟩ | ⟨g, cap, cur, h1, h2, h3, h4, h5, h6, h7⟩
  · omega
  · injection h1 with e1 e2 e3
    exact ⟨g, e1, h2, hk, cur.toList, h3, h7⟩
/-- rows of another type lie elsewhere -/
theorem RowBlk.ne {E : TypeId} {m n : Nat} {q : Option Addr} {xs : List Value} (h : RowBlk w g T k rows) (h' : w.ownsRow n₀ E m (.slice q n c) n xs) (hE : E ≠ T) : ∀ b off, q = some ⟨b, off, none⟩ → b ≠ g := by
  intro b off e hb
  obtain ⟨-, cur, hc, -⟩ := h
  rcases h'.2 with ⟨h1, -⟩ | ⟨g', cap, cur', h1, h2, h3, h4⟩
  · injection h1 with e1 e2 e3
    rw [e1] at e; cases e
  · injection h1 with e1 e2 e3
    rw [e1] at e
    simp only [Option.some.injEq, Addr.mk.injEq] at e
    have hg : g' = g := by omega
    rw [hg] at h3
    have h5 := h3.symm.trans hc
    simp only [Option.some.injEq, Obj.cells.injEq] at h5
    exact hE h5.2.1
theorem Blk.row {w : World} {B : Nat} {T : TypeId} (k : Nat) {rows : List (List Value)} (hk : ∀ r ∈ rows, r.length = k) (h : Blk w B rows.flatten T) : RowBlk w B T k rows :=
  ⟨hk, _, h, by rw [List.take_of_length_le (by rw [flatten_len k rows hk]; exact Nat.le_refl _)]⟩
/-- own rows lie below the heap's end -/
theorem ownsRow_lt {E : TypeId} {m n : Nat} {q : Option Addr} {xs : List Value} (h : w.ownsRow n₀ E m (.slice q n c) n xs) : ∀ b off, q = some ⟨b, off, none⟩ → n₀ ≤ b ∧ b < w.heap.size := by
  intro b off e
  rcases h.2 with ⟨h1, -⟩ | ⟨g', cap, cur', h1, h2, h3, h4⟩
  · injection h1 with e1 e2 e3
    rw [e1] at e; cases e
  · injection h1 with e1 e2 e3
    rw [e1] at e
    simp only [Option.some.injEq, Addr.mk.injEq] at e
    have hg : g' = b := by omega
    rw [hg] at h3 h2
    exact ⟨h2, (Array.getElem?_eq_some_iff.1 h3).1⟩
end
theorem triples_len (l : List (Int × Int × Int)) : ∀ r ∈ triples l, r.length = 3 := fun r hr => by
  simp only [triples, List.mem_map] at hr
  obtain ⟨x, -, rfl⟩ := hr; rfl
theorem pairs_len (l : List (Int × Int)) : ∀ r ∈ pairs l, r.length = 2 := fun r hr => by
  simp only [pairs, List.mem_map] at hr
  obtain ⟨x, -, rfl⟩ := hr; rfl
theorem ints_len (l : List Int) : ∀ r ∈ ints l, r.length = 1 := fun r hr => by
  simp only [ints, List.mem_map] at hr
  obtain ⟨x, -, rfl⟩ := hr; rfl
theorem triples_set (l : List (Int × Int × Int)) (i : Nat) (hi : i < l.length) (h : Int) : (triples l).set i (((triples l)[i]'(by simpa [triples] using hi)).set 2 (.int .i64 h)) = triples (l.set i (l[i].1, l[i].2.1, h)) := by
  unfold triples
  rw [List.map_set]
  simp
theorem ints_set (l : List Int) (i : Nat) (hi : i < l.length) (h : Int) : (ints l).set i (((ints l)[i]'(by simpa [ints] using hi)).set 0 (.int .i64 h)) = ints (l.set i h) := by
  unfold ints
  rw [List.map_set]
  simp
end
end Go.Proofs.Ytcljkkojeleakaa
/- The law's own gates: what the call returns. -/
namespace Go.Proofs.Ytcljkkojeleakaa
open Go.RowKit Go.Shelf

theorem rowInt {w : World} {b off : Nat} {l : List Int} (h : Row w (some ⟨b, off, none⟩) 1 (ints l)) {i : Nat} (hi : i < l.length) : w.cell? ⟨b, off + i, none⟩ = some (.int .i64 l[i]) := by
  obtain ⟨b', off', e, hc⟩ := h.int i hi
  simp only [Option.some.injEq, Addr.mk.injEq, and_true] at e
  obtain ⟨rfl, rfl⟩ := e
  exact hc
theorem gcell {w : World} {g : Nat} {l : List Int} {T : TypeId} (h : Blk w g (gcells l) T) {i : Nat} (hi : i < l.length) : w.cell? ⟨g, i, none⟩ = some (.int .i64 (l[i]?.getD 0)) := by
  rw [h.cell i, gcells, List.getElem?_map, List.getElem?_eq_getElem hi]
  rfl
theorem gset {w : World} {g : Nat} {l : List Int} {T : TypeId} (h : Blk w g (gcells l) T) (i : Nat) (v : Int) : Blk (w.setCell ⟨g, i, none⟩ (.int .i64 v)) g (gcells (l.set i v)) T := by
  have := h.set i (.int .i64 v)
  unfold gcells at this ⊢
  rw [List.map_set]
  exact this

section
variable {pT pF pS : Option Addr} {cT cF cS : Nat}
set_option maxRecDepth 100000 in
set_option maxHeartbeats 3000000 in
theorem gates_c (s : Sd) (w : World) (ok : Ok s) (hl : Lists w s pT pF pS cT cF cS) :
    Calls Try.prog 52 #[sdVal s pT pF pS cT cF cS] w fun e w' => ∃ g, e = .returned (.slice (some ⟨g, 0, none⟩) s.floors.length s.floors.length) ∧ Blk w' g (gcells (lvls s 62)) 3 ∧ w.heap.size ≤ g ∧ Up w w' := by
  have f0 := ok.fl0
  have f8 := ok.fl1
  have s16 := ok.sl
  obtain ⟨gF, oF, rfl, -⟩ := hl.rf.int 0 (by omega)
  have HL := Lib.hid hl
  have OK := Lib.hid ok
  clear hl
  obtain ⟨i0, hi, hz0, hz1, hz2⟩ := info_parts info3
  have hmk : ∀ u : World, (Instr.makeSlice 25 (.int .i64 (s.floors.length : Int)) (.int .i64 (s.floors.length : Int))).run Try.prog u =
      .ok (.slice (some ⟨u.heap.size, 0, none⟩) s.floors.length s.floors.length) (u.alloc (.cells (madeCells #[.int .i64 0] s.floors.length) 3)) := fun u => by
    have h := run_make (P := Try.prog) u 25 3 i0 (.int .i64 0) Try.underlying25 hi hz0 .i64 .i64 (s.floors.length : Int) (s.floors.length : Int) (by omega) (Int.le_refl _) (by rw [hz2]; omega) (by omega)
    rw [Int.toNat_natCast] at h
    simpa [hz1, Value.cells] using h
  have HMK := Lib.hid hmk
  clear hi hz0 hz1 hz2
  unfold sdVal
  go_enter Try.func52, Try.ntmps52
  go_wp2_with fail
  clear hmk
  have HB1 : Hid (Blk ((w.alloc (.cells #[.slice pT s.table.length cT, .int .i64 s.lo, .int .i64 s.hi, .slice (some ⟨gF, oF, none⟩) s.floors.length cF, .slice pS s.sills.length cS] 28)).alloc (.cells (madeCells #[Value.int IntKind.i64 0] s.floors.length) 3)) w.heap.size (sdCells s pT (some ⟨gF, oF, none⟩) pS cT cF cS) 28) := Lib.hid ((Blk.new w (sdCells s pT (some ⟨gF, oF, none⟩) pS cT cF cS) 28).alloc _)
  have HG : Hid (Blk ((w.alloc (.cells #[.slice pT s.table.length cT, .int .i64 s.lo, .int .i64 s.hi, .slice (some ⟨gF, oF, none⟩) s.floors.length cF, .slice pS s.sills.length cS] 28)).alloc (.cells (madeCells #[Value.int IntKind.i64 0] s.floors.length) 3)) (w.heap.size + 1) (gcells (fillTo s.floors.length (fun _ => 1000000) 0)) 3) := Lib.hid (by
    have e : (madeCells #[Value.int IntKind.i64 0] s.floors.length) = (gcells (fillTo s.floors.length (fun _ => 1000000) 0)).toArray := by
      apply Array.toList_inj.1
      rw [toList_madeCells_one]
      simp [gcells, fillTo]
    rw [e]
    exact Blk.new' _ _ _ (by simp))
  have HU : Hid (Up w ((w.alloc (.cells #[.slice pT s.table.length cT, .int .i64 s.lo, .int .i64 s.hi, .slice (some ⟨gF, oF, none⟩) s.floors.length cF, .slice pS s.sills.length cS] 28)).alloc (.cells (madeCells #[Value.int IntKind.i64 0] s.floors.length) 3))) := Lib.hid (by (repeat (first | exact Below.refl _ _ | (with_reducible refine Below.drewN' ?_ _) | (with_reducible refine Below.drew ?_) | (with_reducible refine Below.setCell ?_ (by first | exact Nat.le_refl _ | omega | (with_reducible (repeat (first | refine sz_alloc ?_ | refine sz_setCell ?_ | refine sz_drew ?_ | refine sz_drewN ?_)); first | exact Nat.le_refl _ | omega) | (simp only [World.size_alloc, World.size_setCell, World.size_drew, size_drewN']; omega)) _) | (with_reducible refine Below.alloc ?_ (by first | exact Nat.le_refl _ | omega | (with_reducible (repeat (first | refine sz_alloc ?_ | refine sz_setCell ?_ | refine sz_drew ?_ | refine sz_drewN ?_)); first | exact Nat.le_refl _ | omega) | (simp only [World.size_alloc, World.size_setCell, World.size_drew, size_drewN']; omega)) _) | assumption)))
  generalize ((w.alloc (.cells #[.slice pT s.table.length cT, .int .i64 s.lo, .int .i64 s.hi, .slice (some ⟨gF, oF, none⟩) s.floors.length cF, .slice pS s.sills.length cS] 28)).alloc (.cells (madeCells #[Value.int IntKind.i64 0] s.floors.length) 3)) = w1 at *
  have hw1 := HG.out.lt
  have NF : Hid (∀ wr : World, Far (w.heap.size + 1) w1.heap.size w1 wr → Up w wr) := Lib.hid (fun wr h => Below.trans HU.out (h.below (by omega) (by omega)))
  go_loopw [16] (fun i wr => ∃ j : Nat, i = .int .i64 j ∧ j ≤ s.floors.length ∧ Blk wr (w.heap.size + 1) (gcells (fillTo s.floors.length (fun _ => 1000000) j)) 3 ∧ Far (w.heap.size + 1) w1.heap.size w1 wr) (fun i _ => s.floors.length - (intOf i).toNat)
  case atStart => exact ⟨0, rfl, by omega, HG.out, Far.refl _ _ _⟩
  case round =>
    obtain ⟨j, rfl, hj, hb, hf⟩ := hrel
    have HBk := Lib.hid hb
    have HF := Lib.hid hf
    clear hf
    by_cases hlt : j < s.floors.length
    · have q1 : (j : Int) < s.floors.length := by omega
      have c0 := gcell hb (i := j) (by rw [fillTo_len hj]; exact hlt)
      have cf := hb.free j
      have cl := hb.lt
      clear hb
      go_wp2_with fail
      go_roundw
      case rel =>
        refine ⟨j + 1, by go_num, by omega, ?_, HF.out.setIn _ _⟩
        have := gset HBk.out j 1000000
        rw [fillTo_set (f := fun _ => 1000000) hlt] at this
        exact this
      case measure => simp [intOf]; omega
    · obtain rfl : j = s.floors.length := by omega
      have e0 : fillTo s.floors.length (fun _ => (1000000 : Int)) s.floors.length = lvls s 0 := by
        rw [fillTo_end]
        show (List.range s.floors.length).map (fun _ => (1000000 : Int)) = List.replicate s.floors.length 1000000
        exact List.ext_getElem (by simp) (fun i h1 h2 => by rw [List.getElem_map, List.getElem_replicate])
      rw [e0] at HBk
      clear hb e0 hlt hj
      go_wp2_with fail
      go_loopw [23] (fun i wr => ∃ k : Nat, i = .int .i64 k ∧ k ≤ 61 ∧ Blk wr (w.heap.size + 1) (gcells (lvls s k)) 3 ∧ Far (w.heap.size + 1) w1.heap.size w1 wr) (fun i _ => 62 - (intOf i).toNat)
      case atStart => exact ⟨0, rfl, by omega, HBk.out, HF.out⟩
      case round =>
        obtain ⟨k, rfl, hk, hb, hf⟩ := hrel
        clear HBk HF
        have HBk := Lib.hid hb
        have HF := Lib.hid hf
        have q1 : (k : Int) < 1000 := by omega
        obtain ⟨c0, c1, c2, c3, c4⟩ := five (hf.blk HB1.out HB1.out.lt (by omega))
        clear hb hf
        have HP : Hid (passes s k (s.floors.length - 0) (lvls s k) = lvls s (k + 1)) := Lib.hid rfl
        go_wp2_with fail
        go_loopw [29] (fun i wr => ∃ (j : Nat) (cur : List Int), i = .int .i64 j ∧ j ≤ s.floors.length ∧ cur.length = s.floors.length ∧ passes s k (s.floors.length - j) cur = lvls s (k + 1) ∧ Blk wr (w.heap.size + 1) (gcells cur) 3 ∧ Far (w.heap.size + 1) w1.heap.size w1 wr) (fun i _ => s.floors.length - (intOf i).toNat)
        case atStart => exact ⟨0, lvls s k, rfl, by omega, lvls_len OK.out k, HP.out, HBk.out, HF.out⟩
        case round =>
          obtain ⟨j, cur, rfl, hj, hcl, hps, hb, hf⟩ := hrel
          clear HBk HF HP c0 c1 c2 c3 c4
          have HBk := Lib.hid hb
          have HF := Lib.hid hf
          have HP := Lib.hid hps
          obtain ⟨c0, c1, c2, c3, c4⟩ := five (hf.blk HB1.out HB1.out.lt (by omega))
          clear hb hf hps
          by_cases hlt : j < s.floors.length
          · have q2 : (j : Int) < s.floors.length := by omega
            have HP2 : Hid (passes s k (s.floors.length - (j + 1)) (pass s k cur) = lvls s (k + 1)) := Lib.hid (by
              have h := HP.out
              rw [show s.floors.length - j = (s.floors.length - (j + 1)) + 1 by omega] at h
              exact h)
            go_wp2_with fail
            go_loopw [34] (fun i wr => ∃ (m : Nat) (cu : List Int), i = .int .i64 m ∧ m ≤ s.sills.length ∧ cu.length = s.floors.length ∧ (s.sills.drop m).foldl (rel2 s.floors k) cu = pass s k cur ∧ Blk wr (w.heap.size + 1) (gcells cu) 3 ∧ Far (w.heap.size + 1) w1.heap.size w1 wr) (fun i _ => s.sills.length - (intOf i).toNat)
            case atStart => exact ⟨0, cur, rfl, by omega, hcl, rfl, HBk.out, HF.out⟩
            case round =>
              obtain ⟨m, cu, rfl, hm, hul, hfo, hb, hf⟩ := hrel
              clear HBk HF HP c0 c1 c2 c3 c4
              have HBk := Lib.hid hb
              have HF := Lib.hid hf
              have HO := Lib.hid hfo
              obtain ⟨c0, c1, c2, c3, c4⟩ := five (hf.blk HB1.out HB1.out.lt (by omega))
              have lr := (HL.out.up (NF.out _ hf)).rs
              clear hb hf hfo
              by_cases hlm : m < s.sills.length
              · obtain ⟨gS, oS, rfl, d0, d1, d2⟩ := lr.triple m hlm
                have dl := cell_lt d0
                clear lr
                have q3 : (m : Int) < s.sills.length := by omega
                have HO2 : Hid ((s.sills.drop (m + 1)).foldl (rel2 s.floors k) (rel2 s.floors k cu s.sills[m]) = pass s k cur) := Lib.hid (by
                  have h := HO.out
                  rw [List.drop_eq_getElem_cons hlm, List.foldl_cons] at h
                  exact h)
                have EK := Lib.hid (EndOk.of OK.out (List.getElem_mem hlm))
                generalize hx : s.sills[m] = x at *
                obtain ⟨A, B, H⟩ := x
                dsimp only at d0 d1 d2
                clear hx HO
                go_wp2_with fail
                have ux : Up wr ((wr.alloc (.cells #[.int .i64 A, .int .i64 B, .int .i64 H] 97)).alloc (.cells #[.int .i64 A, .int .i64 B, .int .i64 H, .int .i64 B, .int .i64 A, .int .i64 H] 97)) := by (repeat (first | exact Below.refl _ _ | (with_reducible refine Below.drewN' ?_ _) | (with_reducible refine Below.drew ?_) | (with_reducible refine Below.setCell ?_ (by first | exact Nat.le_refl _ | omega | (with_reducible (repeat (first | refine sz_alloc ?_ | refine sz_setCell ?_ | refine sz_drew ?_ | refine sz_drewN ?_)); first | exact Nat.le_refl _ | omega) | (simp only [World.size_alloc, World.size_setCell, World.size_drew, size_drewN']; omega)) _) | (with_reducible refine Below.alloc ?_ (by first | exact Nat.le_refl _ | omega | (with_reducible (repeat (first | refine sz_alloc ?_ | refine sz_setCell ?_ | refine sz_drew ?_ | refine sz_drewN ?_)); first | exact Nat.le_refl _ | omega) | (simp only [World.size_alloc, World.size_setCell, World.size_drew, size_drewN']; omega)) _) | assumption))
                have R2 : Hid (RowBlk ((wr.alloc (.cells #[.int .i64 A, .int .i64 B, .int .i64 H] 97)).alloc (.cells #[.int .i64 A, .int .i64 B, .int .i64 H, .int .i64 B, .int .i64 A, .int .i64 H] 97)) (wr.heap.size + 1) 97 3 (triples [(A, B, H), (B, A, H)])) :=
                  Lib.hid (Blk.row 3 (triples_len _) (Blk.new' _ _ _ (by simp)))
                have HB2 := Lib.hid (HBk.out.up ux)
                have HF2 := Lib.hid (HF.out.trans (Far.of (ux.mono HF.out.size)))
                generalize hw2 : ((wr.alloc (.cells #[.int .i64 A, .int .i64 B, .int .i64 H] 97)).alloc (.cells #[.int .i64 A, .int .i64 B, .int .i64 H, .int .i64 B, .int .i64 A, .int .i64 H] 97)) = w2 at *
                have lw2 : wr.heap.size + 1 < w2.heap.size := R2.out.lt
                have lwr : w1.heap.size ≤ wr.heap.size := HF.out.size
                generalize wr.heap.size = Z at *
                have lB : w.heap.size < w1.heap.size := HB1.out.lt
                clear hw2 ux HBk HF d0 d1 d2 dl c0 c1 c2 c3 c4
                go_loopw [48] (fun i wr => ∃ (d : Nat) (cv : List Int), i = .int .i64 d ∧ d ≤ 2 ∧ cv.length = s.floors.length ∧ ([(A, B, H), (B, A, H)].drop d).foldl (rel1 s.floors k) cv = rel2 s.floors k cu (A, B, H) ∧ Blk wr (w.heap.size + 1) (gcells cv) 3 ∧ Far (w.heap.size + 1) w2.heap.size w2 wr) (fun i _ => 2 - (intOf i).toNat)
                case atStart => exact ⟨0, cu, rfl, by omega, hul, rfl, HB2.out, Far.refl _ _ _⟩
                case round =>
                  obtain ⟨d, cv, rfl, hd, hvl, hfo, hb, hf⟩ := hrel
                  have HBk := Lib.hid hb
                  have HF := Lib.hid hf
                  have HF1 := Lib.hid (HF2.out.trans (hf.mono (by omega)))
                  have HO := Lib.hid hfo
                  clear hb hf hfo
                  by_cases hld : d < 2
                  · have q4 : (d : Int) < 2 := by omega
                    have ey : ∃ yA yB, [(A, B, H), (B, A, H)][d]? = some (yA, yB, H) ∧ EndOk s.floors.length (yA, yB, H) := by
                      obtain rfl | rfl : d = 0 ∨ d = 1 := by omega
                      · exact ⟨A, B, rfl, EK.out⟩
                      · exact ⟨B, A, rfl, EK.out.turned⟩
                    obtain ⟨yA, yB, ey, he⟩ := ey
                    have HN : Hid (([(A, B, H), (B, A, H)].drop (d + 1)).foldl (rel1 s.floors k) (rel1 s.floors k cv (yA, yB, H)) = rel2 s.floors k cu (A, B, H)) := Lib.hid (by
                      have h := HO.out
                      obtain ⟨hdl, hde⟩ := List.getElem?_eq_some_iff.1 ey
                      rw [List.drop_eq_getElem_cons hdl, List.foldl_cons, hde] at h
                      exact h)
                    have r2 := R2.out.far HF.out lw2 (by omega)
                    have hrow : (triples [(A, B, H), (B, A, H)])[d]? = some [.int .i64 yA, .int .i64 yB, .int .i64 H] := by unfold triples; rw [List.getElem?_map, ey]; rfl
                    have d0 : wr.cell? ⟨Z + 1, d * 3, none⟩ = some (.int .i64 yA) := r2.cell (j := 0) hrow rfl
                    have d1 := r2.cell (j := 1) hrow rfl
                    have d2 := r2.cell (j := 2) hrow rfl
                    have dl := r2.lt
                    clear r2 hrow HO
                    obtain ⟨c0, c1, c2, c3, c4⟩ := five (HF1.out.blk HB1.out HB1.out.lt (by omega))
                    have lz := HF.out.size
                    have lb0 : w.heap.size < wr.heap.size := by omega
                    have lb1 : w.heap.size + 1 < wr.heap.size := HBk.out.lt
                    have Lw := Lib.hid (HL.out.up (NF.out _ HF1.out)).rf
                    by_cases h1 : H ≤ k
                    · by_cases h2 : yB = -1
                      · subst h2
                        go_wp2_with fail
                        go_roundw
                        case rel =>
                          refine ⟨d + 1, cv, by go_num, by omega, hvl, ?_, HBk.out.up (by (repeat (first | exact Below.refl _ _ | (with_reducible refine Below.drewN' ?_ _) | (with_reducible refine Below.drew ?_) | (with_reducible refine Below.setCell ?_ (by first | exact Nat.le_refl _ | omega | (with_reducible (repeat (first | refine sz_alloc ?_ | refine sz_setCell ?_ | refine sz_drew ?_ | refine sz_drewN ?_)); first | exact Nat.le_refl _ | omega) | (simp only [World.size_alloc, World.size_setCell, World.size_drew, size_drewN']; omega)) _) | (with_reducible refine Below.alloc ?_ (by first | exact Nat.le_refl _ | omega | (with_reducible (repeat (first | refine sz_alloc ?_ | refine sz_setCell ?_ | refine sz_drew ?_ | refine sz_drewN ?_)); first | exact Nat.le_refl _ | omega) | (simp only [World.size_alloc, World.size_setCell, World.size_drew, size_drewN']; omega)) _) | assumption))), HF.out.alloc (by omega) _⟩
                          have h := HN.out
                          rw [show rel1 s.floors k cv (yA, -1, H) = cv from if_neg (fun hc => hc.2.1 rfl)] at h
                          exact h
                        case measure => simp [intOf]; omega
                      · obtain ⟨b0, b1⟩ : 0 ≤ yB ∧ yB < s.floors.length := by rcases he.2.1 with e | e; exact absurd e h2; exact e
                        obtain ⟨b, rfl⟩ : ∃ b : Nat, yB = b := ⟨yB.toNat, by omega⟩
                        have hbl : b < s.floors.length := by omega
                        have x0 := rowInt Lw.out hbl
                        have xl := cell_lt x0
                        have y0 := gcell HBk.out (i := b) (by omega)
                        have yf := HBk.out.free
                        have h2' : ¬ ((b : Int) = -1) := h2
                        by_cases h3 : s.floors[b] ≤ k
                        · by_cases h4 : yA = -1
                          · subst h4
                            go_wp2_with fail
                            go_region
                            go_wp2_with fail
                            go_roundw
                            case rel =>
                              refine ⟨d + 1, cv.set b (min (cv[b]?.getD 0) k), by go_num, by omega, by rw [List.length_set]; exact hvl, ?_, ?_, ?_⟩
                              · have h := HN.out
                                rw [show rel1 s.floors k cv (-1, (b : Int), H) = cv.set b (min (cv[b]?.getD 0) k) from if_pos ⟨h1, h2, by simpa [List.getElem?_eq_getElem hbl] using h3, Or.inl rfl⟩] at h
                                exact h
                              · have hbv : b < cv.length := by omega
                                have e : (if (k : Int) < cv[b] then (k : Int) else cv[b]) = min (cv[b]?.getD 0) k := by
                                  rw [List.getElem?_eq_getElem hbv, Option.getD_some]
                                  split <;> omega
                                rw [e]
                                exact ((gset HBk.out b _).alloc _).drew
                              · exact ((HF.out.setIn b _).alloc (by rw [World.size_setCell]; omega) _).drew
                            case measure => simp [intOf]; omega
                          · obtain ⟨a0, a1⟩ : 0 ≤ yA ∧ yA < s.floors.length := by rcases he.1 with e | e; exact absurd e h4; exact e
                            obtain ⟨a, rfl⟩ : ∃ a : Nat, yA = a := ⟨yA.toNat, by omega⟩
                            have z0 := gcell HBk.out (i := a) (by omega)
                            have h4' : ¬ ((a : Int) = -1) := h4
                            by_cases h5 : cv[a]?.getD 0 ≤ k
                            · go_wp2_with fail
                              go_region
                              go_wp2_with fail
                              go_roundw
                              case rel =>
                                refine ⟨d + 1, cv.set b (min (cv[b]?.getD 0) k), by go_num, by omega, by rw [List.length_set]; exact hvl, ?_, ?_, ?_⟩
                                · have h := HN.out
                                  rw [show rel1 s.floors k cv ((a : Int), (b : Int), H) = cv.set b (min (cv[b]?.getD 0) k) from if_pos ⟨h1, h2, by simpa [List.getElem?_eq_getElem hbl] using h3, Or.inr h5⟩] at h
                                  exact h
                                · have hbv : b < cv.length := by omega
                                  have e : (if (k : Int) < cv[b] then (k : Int) else cv[b]) = min (cv[b]?.getD 0) k := by
                                    rw [List.getElem?_eq_getElem hbv, Option.getD_some]
                                    split <;> omega
                                  rw [e]
                                  exact ((gset HBk.out b _).alloc _).drew
                                · exact ((HF.out.setIn b _).alloc (by rw [World.size_setCell]; omega) _).drew
                              case measure => simp [intOf]; omega
                            · go_wp2_with fail
                              go_roundw
                              case rel =>
                                refine ⟨d + 1, cv, by go_num, by omega, hvl, ?_, HBk.out.up (by (repeat (first | exact Below.refl _ _ | (with_reducible refine Below.drewN' ?_ _) | (with_reducible refine Below.drew ?_) | (with_reducible refine Below.setCell ?_ (by first | exact Nat.le_refl _ | omega | (with_reducible (repeat (first | refine sz_alloc ?_ | refine sz_setCell ?_ | refine sz_drew ?_ | refine sz_drewN ?_)); first | exact Nat.le_refl _ | omega) | (simp only [World.size_alloc, World.size_setCell, World.size_drew, size_drewN']; omega)) _) | (with_reducible refine Below.alloc ?_ (by first | exact Nat.le_refl _ | omega | (with_reducible (repeat (first | refine sz_alloc ?_ | refine sz_setCell ?_ | refine sz_drew ?_ | refine sz_drewN ?_)); first | exact Nat.le_refl _ | omega) | (simp only [World.size_alloc, World.size_setCell, World.size_drew, size_drewN']; omega)) _) | assumption))), HF.out.alloc (by omega) _⟩
                                have h := HN.out
                                rw [show rel1 s.floors k cv ((a : Int), (b : Int), H) = cv from if_neg (fun hc => by rcases hc.2.2.2 with e | e; exact h4 e; exact h5 e)] at h
                                exact h
                              case measure => simp [intOf]; omega
                        · go_wp2_with fail
                          go_roundw
                          case rel =>
                            refine ⟨d + 1, cv, by go_num, by omega, hvl, ?_, HBk.out.up (by (repeat (first | exact Below.refl _ _ | (with_reducible refine Below.drewN' ?_ _) | (with_reducible refine Below.drew ?_) | (with_reducible refine Below.setCell ?_ (by first | exact Nat.le_refl _ | omega | (with_reducible (repeat (first | refine sz_alloc ?_ | refine sz_setCell ?_ | refine sz_drew ?_ | refine sz_drewN ?_)); first | exact Nat.le_refl _ | omega) | (simp only [World.size_alloc, World.size_setCell, World.size_drew, size_drewN']; omega)) _) | (with_reducible refine Below.alloc ?_ (by first | exact Nat.le_refl _ | omega | (with_reducible (repeat (first | refine sz_alloc ?_ | refine sz_setCell ?_ | refine sz_drew ?_ | refine sz_drewN ?_)); first | exact Nat.le_refl _ | omega) | (simp only [World.size_alloc, World.size_setCell, World.size_drew, size_drewN']; omega)) _) | assumption))), HF.out.alloc (by omega) _⟩
                            have h := HN.out
                            rw [show rel1 s.floors k cv (yA, (b : Int), H) = cv from if_neg (fun hc => h3 (by simpa [List.getElem?_eq_getElem hbl] using hc.2.2.1))] at h
                            exact h
                          case measure => simp [intOf]; omega
                    · go_wp2_with fail
                      go_roundw
                      case rel =>
                        refine ⟨d + 1, cv, by go_num, by omega, hvl, ?_, HBk.out.up (by (repeat (first | exact Below.refl _ _ | (with_reducible refine Below.drewN' ?_ _) | (with_reducible refine Below.drew ?_) | (with_reducible refine Below.setCell ?_ (by first | exact Nat.le_refl _ | omega | (with_reducible (repeat (first | refine sz_alloc ?_ | refine sz_setCell ?_ | refine sz_drew ?_ | refine sz_drewN ?_)); first | exact Nat.le_refl _ | omega) | (simp only [World.size_alloc, World.size_setCell, World.size_drew, size_drewN']; omega)) _) | (with_reducible refine Below.alloc ?_ (by first | exact Nat.le_refl _ | omega | (with_reducible (repeat (first | refine sz_alloc ?_ | refine sz_setCell ?_ | refine sz_drew ?_ | refine sz_drewN ?_)); first | exact Nat.le_refl _ | omega) | (simp only [World.size_alloc, World.size_setCell, World.size_drew, size_drewN']; omega)) _) | assumption))), HF.out.alloc (by omega) _⟩
                        have h := HN.out
                        rw [show rel1 s.floors k cv (yA, yB, H) = cv from if_neg (fun hc => h1 hc.1)] at h
                        exact h
                      case measure => simp [intOf]; omega
                  · obtain rfl : d = 2 := by omega
                    have e2 : cv = rel2 s.floors k cu (A, B, H) := HO.out
                    subst e2
                    go_wp2_with fail
                    go_roundw
                    case rel => exact ⟨m + 1, _, by go_num, by omega, hvl, HO2.out, HBk.out, HF1.out⟩
                    case measure => simp [intOf]; omega
              · obtain rfl : m = s.sills.length := by omega
                have e2 : cu = pass s k cur := by have h := HO.out; rw [List.drop_length] at h; exact h
                subst e2
                go_wp2_with fail
                go_roundw
                case rel => exact ⟨j + 1, _, by go_num, by omega, hul, HP2.out, HBk.out, HF.out⟩
                case measure => simp [intOf]; omega
          · obtain rfl : j = s.floors.length := by omega
            have e2 : cur = lvls s (k + 1) := by have h := HP.out; rw [Nat.sub_self] at h; exact h
            subst e2
            by_cases hk61 : k = 61
            · subst hk61
              go_wp2_with fail
              go_ret
              exact ⟨_, rfl, HBk.out, by omega, NF.out _ HF.out⟩
            · have hk60 : (k : Int) ≤ 60 := by omega
              go_wp2_with fail
              go_roundw
              case rel => exact ⟨k + 1, by go_num, by omega, HBk.out, HF.out⟩
              case measure => simp [intOf]; omega
end
end Go.Proofs.Ytcljkkojeleakaa
/- The law's own word whether a place is wet in a truth. -/
namespace Go.Proofs.Ytcljkkojeleakaa
open Go.RowKit Go.Shelf

section
variable {pT pF pS : Option Addr} {cT cF cS : Nat}
set_option maxRecDepth 100000 in
set_option maxHeartbeats 1000000 in
theorem wet_c (s : Sd) (m : Int) (p : Nat) (tr : Int) (G : List Int) (g cg : Nat) (w : World) (ok : Ok s) (hl : Lists w s pT pF pS cT cF cS) (hd : inDay s m = true) (hr : Row w (some ⟨g, 0, none⟩) 1 (ints G)) (hp : p < G.length) (h1 : -1000 ≤ tr) (h2 : tr ≤ 1000) :
    Calls Try.prog 57 #[sdVal s pT pF pS cT cF cS, .slice (some ⟨g, 0, none⟩) G.length cg, .int .i64 m, .int .i64 p, .int .i64 tr] w fun e w' => e = .returned (.bool (decide (G[p] < hgt s.table m + tr))) ∧ Up w w' := by
  obtain ⟨hm0, hm1⟩ : firstM s.table ≤ m ∧ m ≤ lastM s.table := inB_true.1 hd
  obtain ⟨r0, r1⟩ := hgt_rng ok.table m hm0
  have LN := Lib.hid (fun W (u : Up w W) => line_c s m W (hl.up u) ok.table hd)
  have RW := Lib.hid hr
  have q1 : (p : Int) < G.length := by omega
  have q0 : (0 : Int) ≤ p := by omega
  have sw : IntKind.i64.wrap (hgt s.table m + tr) = hgt s.table m + tr := IntWalk.i64_in _ (by omega)
  clear hl hr
  unfold sdVal
  go_enter Try.func57, Try.ntmps57
  go_wp2_with fail
  have HB : Hid (Blk (w.alloc (.cells #[.slice pT s.table.length cT, .int .i64 s.lo, .int .i64 s.hi, .slice pF s.floors.length cF, .slice pS s.sills.length cS] 28)) w.heap.size (sdCells s pT pF pS cT cF cS) 28) := Blk.new w (sdCells s pT pF pS cT cF cS) 28
  have U1 : Hid (Up w (w.alloc (.cells #[.slice pT s.table.length cT, .int .i64 s.lo, .int .i64 s.hi, .slice pF s.floors.length cF, .slice pS s.sills.length cS] 28))) := Lib.hid (by (repeat (first | exact Below.refl _ _ | (with_reducible refine Below.drewN' ?_ _) | (with_reducible refine Below.drew ?_) | (with_reducible refine Below.setCell ?_ (by first | exact Nat.le_refl _ | omega | (with_reducible (repeat (first | refine sz_alloc ?_ | refine sz_setCell ?_ | refine sz_drew ?_ | refine sz_drewN ?_)); first | exact Nat.le_refl _ | omega) | (simp only [World.size_alloc, World.size_setCell, World.size_drew, size_drewN']; omega)) _) | (with_reducible refine Below.alloc ?_ (by first | exact Nat.le_refl _ | omega | (with_reducible (repeat (first | refine sz_alloc ?_ | refine sz_setCell ?_ | refine sz_drew ?_ | refine sz_drewN ?_)); first | exact Nat.le_refl _ | omega) | (simp only [World.size_alloc, World.size_setCell, World.size_drew, size_drewN']; omega)) _) | assumption)))
  generalize (w.alloc (.cells #[.slice pT s.table.length cT, .int .i64 s.lo, .int .i64 s.hi, .slice pF s.floors.length cF, .slice pS s.sills.length cS] 28)) = w1 at *
  obtain ⟨c0, c1, c2, c3, c4⟩ := five HB.out
  have cg0 : w1.cell? ⟨g, p, none⟩ = some (.int .i64 G[p]) := by
    have := rowInt (RW.out.up U1.out) hp
    rwa [Nat.zero_add] at this
  refine region_tail (fun W' => W'.cell? ⟨w.heap.size, 0, none⟩ = some (.slice pT s.table.length cT) ∧ W'.cell? ⟨w.heap.size, 1, none⟩ = some (.int .i64 s.lo) ∧ W'.cell? ⟨w.heap.size, 2, none⟩ = some (.int .i64 s.hi) ∧ W'.cell? ⟨w.heap.size, 3, none⟩ = some (.slice pF s.floors.length cF) ∧ W'.cell? ⟨w.heap.size, 4, none⟩ = some (.slice pS s.sills.length cS) ∧ W'.cell? ⟨g, p, none⟩ = some (.int .i64 G[p])) 10 mixed (by kernel_rfl) ⟨c0, c1, c2, c3, c4, cg0⟩ (fun hHeld => ?_)
  refine wpAnyG_take 0 11 (v := ?_) rfl rfl (by kernel_rfl) (fun _ _ _ h => h) (Or.inl ⟨by rfl, ?_⟩) (by assumption) ?_
  rotate_left
  · (intro w' hSw; (try dsimp only at hSw); go_split_ands; go_simp; try with_reducible rfl)
  try simp only [List.setIfInBounds_toArray, List.set_cons_zero, List.set_cons_succ]
  refine wpAnyG_take 1 12 (v := ?_) rfl rfl (by kernel_rfl) (fun _ _ _ h => h) (Or.inl ⟨by rfl, ?_⟩) (by assumption) ?_
  rotate_left
  · (intro w' hSw; (try dsimp only at hSw); go_split_ands; go_simp; try with_reducible rfl)
  try simp only [List.setIfInBounds_toArray, List.set_cons_zero, List.set_cons_succ]
  refine wpAnyG_take 3 14 (v := ?_) rfl rfl (by kernel_rfl) (fun _ _ _ h => h) (Or.inl ⟨by rfl, ?_⟩) (by assumption) ?_
  rotate_left
  · (intro w' hSw; (try dsimp only at hSw); go_split_ands; go_simp; try with_reducible rfl)
  try simp only [List.setIfInBounds_toArray, List.set_cons_zero, List.set_cons_succ]
  refine wpAnyG_take 5 16 (v := ?_) rfl rfl (by kernel_rfl) (fun _ _ _ h => h) (Or.inl ⟨by rfl, ?_⟩) (by assumption) ?_
  rotate_left
  · (intro w' hSw; (try dsimp only at hSw); go_split_ands; go_simp; try with_reducible rfl)
  try simp only [List.setIfInBounds_toArray, List.set_cons_zero, List.set_cons_succ]
  refine wpAnyG_take 6 17 (v := ?_) rfl rfl (by kernel_rfl) (fun _ _ _ h => h) (Or.inl ⟨by rfl, ?_⟩) (by assumption) ?_
  rotate_left
  · (intro w' hSw; (try dsimp only at hSw); go_split_ands; go_simp; try with_reducible rfl)
  try simp only [List.setIfInBounds_toArray, List.set_cons_zero, List.set_cons_succ]
  refine wpAnyG_take 7 18 (v := ?_) rfl rfl (by kernel_rfl) (fun _ _ _ h => h) (Or.inl ⟨by rfl, ?_⟩) (by assumption) ?_
  rotate_left
  · (intro w' hSw; (try dsimp only at hSw); go_split_ands; go_simp; try with_reducible rfl)
  try simp only [List.setIfInBounds_toArray, List.set_cons_zero, List.set_cons_succ]
  refine wpAnyG_take 8 19 (v := ?_) rfl rfl (by kernel_rfl) (fun _ _ _ h => h) (Or.inl ⟨by rfl, ?_⟩) (by assumption) ?_
  rotate_left
  · (intro w' hSw; (try dsimp only at hSw); go_split_ands; go_simp; try with_reducible rfl)
  try simp only [List.setIfInBounds_toArray, List.set_cons_zero, List.set_cons_succ]
  refine wpAnyG_do 2 rfl (by kernel_rfl) (fun K hK => ?_)
  rw [if_pos (by rfl)]
  go_simp
  refine (LN.out _ (Up.trans U1.out ((Below.refl _ _).drew))).mono ?_
  rintro e w2 ⟨rfl, v2⟩
  have v2' : Up w1 w2 := Up.trans ((Below.refl _ _).drew) v2
  refine hK.out _ _ ⟨v2'.cellAt c0, v2'.cellAt c1, v2'.cellAt c2, v2'.cellAt c3, v2'.cellAt c4, v2'.cellAt cg0⟩ (fun hHeld => ?_)
  clear hK K
  refine wpAnyG_take 4 15 (v := ?_) rfl rfl (by kernel_rfl) (fun _ _ _ h => h) (Or.inl ⟨by rfl, ?_⟩) (by assumption) ?_
  rotate_left
  · (intro w' hSw; (try dsimp only at hSw); go_split_ands; go_simp; try with_reducible rfl)
  try simp only [List.setIfInBounds_toArray, List.set_cons_zero, List.set_cons_succ]
  refine wpAnyG_take 9 20 (v := ?_) rfl rfl (by kernel_rfl) (fun _ _ _ h => h) (Or.inl ⟨by rfl, ?_⟩) (by assumption) ?_
  rotate_left
  · (intro w' hSw; (try dsimp only at hSw); go_split_ands; go_simp; try with_reducible rfl)
  try simp only [List.setIfInBounds_toArray, List.set_cons_zero, List.set_cons_succ]
  refine wpAnyG_tail (by kernel_rfl) ?_
  have U2 := Lib.hid (Up.trans U1.out v2')
  clear v2 v2' hHeld c0 c1 c2 c3 c4 cg0
  change wpList _ _ _ [_] _ _
  go_wp2_with fail
  go_ret
  exact ⟨rfl, U2.out⟩
end
end Go.Proofs.Ytcljkkojeleakaa
/- The law's own looks, each true in a truth. -/
namespace Go.Proofs.Ytcljkkojeleakaa
open Go.RowKit Go.Shelf

/-- a look that is true in a truth, by given gates -/
def LookIs (s : Sd) (G : List Int) (tr : Int) (x : Lk) : Prop := inDay s x.1 = true ∧ ∃ p : Nat, x.2.1 = p ∧ p < s.floors.length ∧ x.2.2 = decide (G[p]?.getD 0 < hgt s.table x.1 + tr)
theorem wet_n {pT pF pS : Option Addr} {cT cF cS : Nat} (s : Sd) (m : Int) (p : Nat) (tr : Int) (G : List Int) (n : Nat) (hn : G.length = n) (g cg : Nat) (w : World) (ok : Ok s) (hl : Lists w s pT pF pS cT cF cS) (hd : inDay s m = true) (hr : Row w (some ⟨g, 0, none⟩) 1 (ints G)) (hp : p < n) (h1 : -1000 ≤ tr) (h2 : tr ≤ 1000) :
    Calls Try.prog 57 #[sdVal s pT pF pS cT cF cS, .slice (some ⟨g, 0, none⟩) n cg, .int .i64 m, .int .i64 p, .int .i64 tr] w fun e w' => e = .returned (.bool (decide (G[p]?.getD 0 < hgt s.table m + tr))) ∧ Up w w' := by
  subst hn
  have := wet_c s m p tr G g cg w ok hl hd hr hp h1 h2
  rwa [show G[p] = G[p]?.getD 0 by rw [List.getElem?_eq_getElem hp]; rfl] at this
theorem infoL : (Try.prog.info? 80).map (fun i => (i.zero, i.size, i.bytes)) = some (some (.agg #[.int .i64 0, .int .i64 0, .bool false]), 3, 24) := by kernel_rfl
theorem listsFar {w w' : World} {s : Sd} {pT pF pS : Option Addr} {cT cF cS hb n : Nat} (h : Lists w s pT pF pS cT cF cS) (hx : (0 < s.table.length → ∀ b off, pT = some ⟨b, off, none⟩ → b ≠ hb) ∧ (0 < s.floors.length → ∀ b off, pF = some ⟨b, off, none⟩ → b ≠ hb) ∧ (0 < s.sills.length → ∀ b off, pS = some ⟨b, off, none⟩ → b ≠ hb)) (hf : Far hb n w w') (hn : w.heap.size ≤ n) : Lists w' s pT pF pS cT cF cS :=
  ⟨hf.row h.rt (fun h0 b off e => ⟨by have := h.rt.lt (pairs_pos _) h0 e; omega, hx.1 (by simpa [pairs] using h0) b off e⟩), hf.row h.rf (fun h0 b off e => ⟨by have := h.rf.lt (ints_pos _) h0 e; omega, hx.2.1 (by simpa [ints] using h0) b off e⟩), hf.row h.rs (fun h0 b off e => ⟨by have := h.rs.lt (triples_pos _) h0 e; omega, hx.2.2 (by simpa [triples] using h0) b off e⟩), h.ct, h.cf, h.cs, h.mt, h.mf, h.ms⟩
/-- what the statement that makes a look makes, operation by operation -/
def LkP (s : Sd) (hb B n0 : Nat) (val fl : Value) : Nat → Value → Prop
  | 0, v => v = .pointer (some ⟨hb, 0, none⟩)
  | 1, v => v = val
  | 2, v => v = .int .i64 (firstM s.table)
  | 3, v => v = val
  | 4, v => v = .int .i64 (lastM s.table)
  | 5, v => ∃ m : Int, v = .int .i64 m ∧ firstM s.table ≤ m ∧ m ≤ lastM s.table
  | 6, v => v = .pointer (some ⟨hb, 0, none⟩)
  | 7, v => v = .pointer (some ⟨B, 3, none⟩)
  | 8, v => v = fl
  | 9, v => v = .int .i64 s.floors.length
  | 10, v => v = .int .i64 ((s.floors.length : Int) - 1)
  | 11, v => ∃ q : Nat, v = .int .i64 q ∧ q < s.floors.length
  | 12, v => ∃ (m : Int) (q : Nat), v = .agg #[.int .i64 m, .int .i64 q, .bool false] ∧ firstM s.table ≤ m ∧ m ≤ lastM s.table ∧ q < s.floors.length
  | 13, v => ∃ X : Nat, v = .pointer (some ⟨X, 0, none⟩) ∧ n0 ≤ X
  | _, _ => True
section
variable {pT pF pS : Option Addr} {cT cF cS : Nat} {pB : Option Addr} {cB : Nat} {lB : List Int}
set_option maxRecDepth 100000 in
set_option maxHeartbeats 1000000 in
theorem looked_c (hb : Nat) (s : Sd) (G : List Int) (g cg : Nat) (tr most : Int) (w : World) (ok : Ok s) (h : HeapAt w hb pB cB lB) (ha : Apart pB hb w.heap.size lB) (hlB : lB.length ≤ 140737488355328) (hl : Lists w s pT pF pS cT cF cS)
    (hx : (0 < s.table.length → ∀ b off, pT = some ⟨b, off, none⟩ → b ≠ hb) ∧ (0 < s.floors.length → ∀ b off, pF = some ⟨b, off, none⟩ → b ≠ hb) ∧ (0 < s.sills.length → ∀ b off, pS = some ⟨b, off, none⟩ → b ≠ hb)) (hg : g ≠ hb) (hr : Row w (some ⟨g, 0, none⟩) 1 (ints G)) (hG : G.length = s.floors.length) (t1 : -1000 ≤ tr) (t2 : tr ≤ 1000) (m0 : 0 ≤ most) (m1 : most ≤ 100) :
    Calls Try.prog 53 #[.pointer (some ⟨hb, 0, none⟩), sdVal s pT pF pS cT cF cS, .slice (some ⟨g, 0, none⟩) G.length cg, .int .i64 tr, .int .i64 most] w fun e w' => ∃ lk pL cL, e = .returned (.slice pL (lk : List Lk).length cL) ∧ (lk.length : Int) ≤ most ∧ Row w' pL 3 (lrows lk) ∧ (∀ x ∈ lk, LookIs s G tr x) ∧ HeapAt w' hb pB cB lB ∧ Far hb w.heap.size w w' := by
  have OK := Lib.hid ok
  have HA := Lib.hid ha
  have HL := Lib.hid hl
  have HR := Lib.hid hr
  have HX := Lib.hid hx
  have HH := Lib.hid h
  have hbw : hb < w.heap.size := by obtain ⟨k, r, hB, -⟩ := h; exact hB.lt
  have f0 := ok.fl0
  have f8 := ok.fl1
  obtain ⟨d0, d1, d2⟩ := firstM_lt ok.table
  clear ok ha hl hr hx h
  unfold sdVal
  go_enter Try.func53, Try.ntmps53
  go_wp2_with fail
  have HB1 : Hid (Blk (w.alloc (.cells #[.slice pT s.table.length cT, .int .i64 s.lo, .int .i64 s.hi, .slice pF s.floors.length cF, .slice pS s.sills.length cS] 28)) w.heap.size (sdCells s pT pF pS cT cF cS) 28) := Blk.new w (sdCells s pT pF pS cT cF cS) 28
  have u1 : Up w (w.alloc (.cells #[.slice pT s.table.length cT, .int .i64 s.lo, .int .i64 s.hi, .slice pF s.floors.length cF, .slice pS s.sills.length cS] 28)) := by (repeat (first | exact Below.refl _ _ | (with_reducible refine Below.drewN' ?_ _) | (with_reducible refine Below.drew ?_) | (with_reducible refine Below.setCell ?_ (by first | exact Nat.le_refl _ | omega | (with_reducible (repeat (first | refine sz_alloc ?_ | refine sz_setCell ?_ | refine sz_drew ?_ | refine sz_drewN ?_)); first | exact Nat.le_refl _ | omega) | (simp only [World.size_alloc, World.size_setCell, World.size_drew, size_drewN']; omega)) _) | (with_reducible refine Below.alloc ?_ (by first | exact Nat.le_refl _ | omega | (with_reducible (repeat (first | refine sz_alloc ?_ | refine sz_setCell ?_ | refine sz_drew ?_ | refine sz_drewN ?_)); first | exact Nat.le_refl _ | omega) | (simp only [World.size_alloc, World.size_setCell, World.size_drew, size_drewN']; omega)) _) | assumption))
  have U1 := Lib.hid u1
  have HL1 := Lib.hid (HL.out.up u1)
  have HR1 := Lib.hid (HR.out.up u1)
  have HH1 := Lib.hid (HH.out.up u1)
  have HA1 := Lib.hid (HA.out.mono u1.size)
  clear u1 HL HR HH HA
  generalize (w.alloc (.cells #[.slice pT s.table.length cT, .int .i64 s.lo, .int .i64 s.hi, .slice pF s.floors.length cF, .slice pS s.sills.length cS] 28)) = w1 at *
  have l1 := HB1.out.lt
  refine (upto_c hb pB cB lB most w1 HH1.out HA1.out hlB (by omega) (by omega)).mono ?_
  rintro e w2 ⟨nv, ⟨y0, y1, -⟩, rfl, g2, f2⟩
  have y1' := y1 m0
  obtain ⟨N, rfl⟩ : ∃ N : Nat, nv = N := ⟨nv.toNat, by omega⟩
  have HH2 := Lib.hid g2
  have HF2 := Lib.hid f2
  clear g2 f2 y1 HH1
  go_wp2_with fail
  go_loopw [16, 11] (fun i v wr => ∃ (k : Nat) (lk : List Lk), i = .int .i64 k ∧ k ≤ N ∧ lk.length = k ∧ (∀ x ∈ lk, LookIs s G tr x) ∧ wr.ownsRow w1.heap.size 80 3 v k (lrows lk).flatten ∧ HeapAt wr hb pB cB lB ∧ Far hb w1.heap.size w1 wr) (fun i _ _ => N - (intOf i).toNat)
  case atStart => exact ⟨0, [], rfl, by omega, rfl, by simp, ⟨rfl, .inl ⟨rfl, rfl⟩⟩, HH2.out, HF2.out⟩
  case round =>
    obtain ⟨k, lk, rfl, hk, hlen, hlk, hown, hh, hf⟩ := hrel
    have HO := Lib.hid hown
    have HF := Lib.hid hf
    have HHr := Lib.hid hh
    have HLK := Lib.hid hlk
    clear hown hf hh hlk
    by_cases hlt : k < N
    · have q1 : (k : Int) < (N : Int) := by omega
      go_wp2_with fail
      have ew : w1.heap.size ≤ wr.heap.size := HF.out.size
      have sn : IntKind.i64.wrap ((s.floors.length : Int) - 1) = (s.floors.length : Int) - 1 := IntWalk.i64_in _ (by omega)
      refine region_inv 14 (fun done a W => ∃ V : Nat → Value, a = ⟨#[.pointer (some ⟨hb, 0, none⟩), .agg #[.slice pT s.table.length cT, .int .i64 s.lo, .int .i64 s.hi, .slice pF s.floors.length cF, .slice pS s.sills.length cS], .slice (some ⟨g, 0, none⟩) s.floors.length cg, .int .i64 tr, .int .i64 most, undef, .pointer (some ⟨w.heap.size, 0, none⟩), undef, undef, undef, .slice none 0 0, u11, V 13, .pointer (some ⟨hb, 0, none⟩), .int .i64 most, .int .i64 N, .int .i64 k, .bool true, V 0, V 1, V 2, V 3, V 4, V 5, V 6, V 7, V 8, V 9, V 10, V 11, V 12, u31, u32, u33, u34, u35, u36, u37, u38, u39, u40, u41, u42, u43, u44, undef], []⟩ ∧ (∀ i, done i = true → LkP s hb w.heap.size w1.heap.size (.agg #[.slice pT s.table.length cT, .int .i64 s.lo, .int .i64 s.hi, .slice pF s.floors.length cF, .slice pS s.sills.length cS]) (.slice pF s.floors.length cF) i (V i)) ∧ W.ownsRow w1.heap.size 80 3 u11 k (lrows lk).flatten ∧ HeapAt W hb pB cB lB ∧ Far hb w1.heap.size w1 W ∧ wr.heap.size ≤ W.heap.size ∧ (done 13 = true → ∃ X, V 13 = .pointer (some ⟨X, 0, none⟩) ∧ wr.heap.size ≤ X ∧ Blk W X [.int .i64 0, .int .i64 0, .bool false] 80)) mixed (by kernel_rfl) ?_ ?_ ?_
      · exact ⟨fun i => if i = 0 then u18 else if i = 1 then u19 else if i = 2 then u20 else if i = 3 then u21 else if i = 4 then u22 else if i = 5 then u23 else if i = 6 then u24 else if i = 7 then u25 else if i = 8 then u26 else if i = 9 then u27 else if i = 10 then u28 else if i = 11 then u29 else if i = 12 then u30 else u12, rfl, (fun i h => by cases h), HO.out, HHr.out, HF.out.drew, Nat.le_refl _, (fun h => by cases h)⟩
      · intro done a W i o hi hd ho hall hinv
        obtain ⟨V, rfl, hv, ho', hh', hf', hs', hx'⟩ := hinv
        have ltb : hb < w1.heap.size := by omega
        obtain ⟨c0, c1, c2, c3, c4⟩ := five (hf'.blk HB1.out l1 (by omega))
        have LW := Lib.hid (listsFar HL1.out HX.out hf' (Nat.le_refl _))
        have HV := Lib.hid hv
        have HOw := Lib.hid ho'
        have HHw := Lib.hid hh'
        have HFw := Lib.hid hf'
        have HXw := Lib.hid hx'
        have HD := Lib.hid hd
        obtain rfl | rfl | rfl | rfl | rfl | rfl | rfl | rfl | rfl | rfl | rfl | rfl | rfl | rfl : i = 0 ∨ i = 1 ∨ i = 2 ∨ i = 3 ∨ i = 4 ∨ i = 5 ∨ i = 6 ∨ i = 7 ∨ i = 8 ∨ i = 9 ∨ i = 10 ∨ i = 11 ∨ i = 12 ∨ i = 13 := by omega
        · clear hall
          clear ho hv ho' hh' hf' hx' hd
          refine wpOp_step rfl (fun K hK => ?_)
          rw [if_pos (by rfl)]
          have HK := Lib.hid hK
          clear hK
          go_simp
          exact HK.out _ _ ⟨fun k => if k = 0 then .pointer (some ⟨hb, 0, none⟩) else V k, rfl, facts_upd HV.out rfl, HOw.out, HHw.out, HFw.out, hs', fun h => HXw.out (by simpa [upd] using h)⟩
        · clear hall
          clear ho hv ho' hh' hf' hx' hd
          refine wpOp_step rfl (fun K hK => ?_)
          rw [if_pos (by rfl)]
          have HK := Lib.hid hK
          clear hK
          go_simp
          exact HK.out _ _ ⟨fun k => if k = 1 then .agg #[.slice pT s.table.length cT, .int .i64 s.lo, .int .i64 s.hi, .slice pF s.floors.length cF, .slice pS s.sills.length cS] else V k, rfl, facts_upd HV.out rfl, HOw.out, HHw.out, HFw.out, hs', fun h => HXw.out (by simpa [upd] using h)⟩
        · have e1 : V 1 = _ := hv 1 (hall ⟨1, .data⟩ (by cases ho; simp) rfl)
          clear ho hv ho' hh' hf' hx' hd hall
          refine wpOp_step rfl (fun K hK => ?_)
          rw [if_pos (by rfl)]
          have HK := Lib.hid hK
          clear hK
          go_simp
          refine (firstL_c s W LW.out OK.out.table.2.2.1).mono ?_
          rintro e w3 ⟨rfl, u3⟩
          exact HK.out _ _ ⟨fun k => if k = 2 then .int .i64 (firstM s.table) else V k, (by simp only [e1]; rfl), facts_upd HV.out rfl, ownsRow_up HOw.out u3, HHw.out.up u3, HFw.out.trans (Far.of (u3.mono (HFw.out.size))), Nat.le_trans hs' u3.size, fun h => (by obtain ⟨X, h1, h2, h3⟩ := HXw.out (by simpa [upd] using h); exact ⟨X, h1, h2, h3.up u3⟩)⟩
        · clear hall
          clear ho hv ho' hh' hf' hx' hd
          refine wpOp_step rfl (fun K hK => ?_)
          rw [if_pos (by rfl)]
          have HK := Lib.hid hK
          clear hK
          go_simp
          exact HK.out _ _ ⟨fun k => if k = 3 then .agg #[.slice pT s.table.length cT, .int .i64 s.lo, .int .i64 s.hi, .slice pF s.floors.length cF, .slice pS s.sills.length cS] else V k, rfl, facts_upd HV.out rfl, HOw.out, HHw.out, HFw.out, hs', fun h => HXw.out (by simpa [upd] using h)⟩
        · have e3 : V 3 = _ := hv 3 (hall ⟨3, .data⟩ (by cases ho; simp) rfl)
          clear ho hv ho' hh' hf' hx' hd hall
          refine wpOp_step rfl (fun K hK => ?_)
          rw [if_pos (by rfl)]
          have HK := Lib.hid hK
          clear hK
          go_simp
          refine (lastL_c s W LW.out OK.out.table.2.2.1 OK.out.table.2.2.2).mono ?_
          rintro e w3 ⟨rfl, u3⟩
          exact HK.out _ _ ⟨fun k => if k = 4 then .int .i64 (lastM s.table) else V k, (by simp only [e3]; rfl), facts_upd HV.out rfl, ownsRow_up HOw.out u3, HHw.out.up u3, HFw.out.trans (Far.of (u3.mono (HFw.out.size))), Nat.le_trans hs' u3.size, fun h => (by obtain ⟨X, h1, h2, h3⟩ := HXw.out (by simpa [upd] using h); exact ⟨X, h1, h2, h3.up u3⟩)⟩
        · have e0 : V 0 = _ := hv 0 (hall ⟨0, .data⟩ (by cases ho; simp) rfl)
          have e2 : V 2 = _ := hv 2 (hall ⟨2, .data⟩ (by cases ho; simp) rfl)
          have e4 : V 4 = _ := hv 4 (hall ⟨4, .data⟩ (by cases ho; simp) rfl)
          clear ho hv ho' hh' hf' hx' hd hall
          refine wpOp_step rfl (fun K hK => ?_)
          rw [if_pos (by rfl)]
          have HK := Lib.hid hK
          clear hK
          go_simp
          refine (from_c hb pB cB lB (firstM s.table) (lastM s.table) W HHw.out (HA1.out.mono HFw.out.size) hlB (by omega) (by omega) (by omega) (by omega)).mono ?_
          rintro e w3 ⟨m, ⟨m1', m2', -⟩, rfl, g3, f3⟩
          exact HK.out _ _ ⟨fun k => if k = 5 then .int .i64 m else V k, (by simp only [e0, e2, e4]; rfl), facts_upd HV.out ⟨m, rfl, m1', m2' (by omega)⟩, f3.own HOw.out (by omega), g3, HFw.out.trans (f3.mono HFw.out.size), Nat.le_trans hs' f3.size, fun h => (by obtain ⟨X, h1, h2, h3⟩ := HXw.out (by simpa [upd] using h); exact ⟨X, h1, h2, f3.blk h3 h3.lt (by omega)⟩)⟩
        · clear hall
          clear ho hv ho' hh' hf' hx' hd
          refine wpOp_step rfl (fun K hK => ?_)
          rw [if_pos (by rfl)]
          have HK := Lib.hid hK
          clear hK
          go_simp
          exact HK.out _ _ ⟨fun k => if k = 6 then .pointer (some ⟨hb, 0, none⟩) else V k, rfl, facts_upd HV.out rfl, HOw.out, HHw.out, HFw.out, hs', fun h => HXw.out (by simpa [upd] using h)⟩
        · clear hall
          clear ho hv ho' hh' hf' hx' hd
          refine wpOp_step rfl (fun K hK => ?_)
          rw [if_pos (by rfl)]
          have HK := Lib.hid hK
          clear hK
          go_simp
          exact HK.out _ _ ⟨fun k => if k = 7 then .pointer (some ⟨w.heap.size, 3, none⟩) else V k, rfl, facts_upd HV.out rfl, HOw.out, HHw.out, HFw.out, hs', fun h => HXw.out (by simpa [upd] using h)⟩
        · have e7 : V 7 = _ := hv 7 (hall ⟨7, .data⟩ (by cases ho; simp) rfl)
          clear ho hv ho' hh' hf' hx' hd hall
          refine wpOp_step rfl (fun K hK => ?_)
          rw [if_pos (by rfl)]
          have HK := Lib.hid hK
          clear hK
          go_simp
          exact HK.out _ _ ⟨fun k => if k = 8 then .slice pF s.floors.length cF else V k, (by simp only [e7]; rfl), facts_upd HV.out rfl, HOw.out, HHw.out, HFw.out, hs', fun h => HXw.out (by simpa [upd] using h)⟩
        · have e8 : V 8 = _ := hv 8 (hall ⟨8, .data⟩ (by cases ho; simp) rfl)
          clear ho hv ho' hh' hf' hx' hd hall
          refine wpOp_step rfl (fun K hK => ?_)
          rw [if_pos (by rfl)]
          have HK := Lib.hid hK
          clear hK
          go_simp
          exact HK.out _ _ ⟨fun k => if k = 9 then .int .i64 s.floors.length else V k, (by simp only [e8]; rfl), facts_upd HV.out rfl, HOw.out, HHw.out, HFw.out, hs', fun h => HXw.out (by simpa [upd] using h)⟩
        · have e9 : V 9 = _ := hv 9 (hall ⟨9, .data⟩ (by cases ho; simp) rfl)
          clear ho hv ho' hh' hf' hx' hd hall
          refine wpOp_step rfl (fun K hK => ?_)
          rw [if_pos (by rfl)]
          have HK := Lib.hid hK
          clear hK
          go_simp
          exact HK.out _ _ ⟨fun k => if k = 10 then .int .i64 ((s.floors.length : Int) - 1) else V k, (by simp only [e9, sn]; rfl), facts_upd HV.out rfl, HOw.out, HHw.out, HFw.out, hs', fun h => HXw.out (by simpa [upd] using h)⟩
        · have e6 : V 6 = _ := hv 6 (hall ⟨6, .data⟩ (by cases ho; simp) rfl)
          have e10 : V 10 = _ := hv 10 (hall ⟨10, .data⟩ (by cases ho; simp) rfl)
          clear ho hv ho' hh' hf' hx' hd hall
          refine wpOp_step rfl (fun K hK => ?_)
          rw [if_pos (by rfl)]
          have HK := Lib.hid hK
          clear hK
          go_simp
          refine (upto_c hb pB cB lB ((s.floors.length : Int) - 1) W HHw.out (HA1.out.mono HFw.out.size) hlB (by omega) (by omega)).mono ?_
          rintro e w3 ⟨m, ⟨m1', m2', -⟩, rfl, g3, f3⟩
          have m3' := m2' (by omega)
          obtain ⟨q, rfl⟩ : ∃ q : Nat, m = q := ⟨m.toNat, by omega⟩
          exact HK.out _ _ ⟨fun k => if k = 11 then .int .i64 q else V k, (by simp only [e6, e10]; rfl), facts_upd HV.out ⟨q, rfl, by omega⟩, f3.own HOw.out (by omega), g3, HFw.out.trans (f3.mono HFw.out.size), Nat.le_trans hs' f3.size, fun h => (by obtain ⟨X, h1, h2, h3⟩ := HXw.out (by simpa [upd] using h); exact ⟨X, h1, h2, f3.blk h3 h3.lt (by omega)⟩)⟩
        · obtain ⟨m, e5, m1', m2'⟩ := hv 5 (hall ⟨5, .data⟩ (by cases ho; simp) rfl)
          obtain ⟨q, e11, q1'⟩ := hv 11 (hall ⟨11, .data⟩ (by cases ho; simp) rfl)
          clear ho hv ho' hh' hf' hx' hd hall
          refine wpOp_step rfl (fun K hK => ?_)
          rw [if_pos (by rfl)]
          have HK := Lib.hid hK
          clear hK
          go_simp
          exact HK.out _ _ ⟨fun k => if k = 12 then .agg #[.int .i64 m, .int .i64 q, .bool false] else V k, (by simp only [e5, e11]; rfl), facts_upd HV.out ⟨m, q, rfl, m1', m2', q1'⟩, HOw.out, HHw.out, HFw.out, hs', fun h => HXw.out (by simpa [upd] using h)⟩
        · clear hall
          clear ho hv ho' hh' hf' hx' hd
          refine wpOp_step rfl (fun K hK => ?_)
          rw [if_pos (by rfl)]
          have HK := Lib.hid hK
          clear hK
          go_simp
          have u3 : Up W (W.alloc (.cells #[.int .i64 0, .int .i64 0, .bool false] 80)) := by (repeat (first | exact Below.refl _ _ | (with_reducible refine Below.drewN' ?_ _) | (with_reducible refine Below.drew ?_) | (with_reducible refine Below.setCell ?_ (by first | exact Nat.le_refl _ | omega | (with_reducible (repeat (first | refine sz_alloc ?_ | refine sz_setCell ?_ | refine sz_drew ?_ | refine sz_drewN ?_)); first | exact Nat.le_refl _ | omega) | (simp only [World.size_alloc, World.size_setCell, World.size_drew, size_drewN']; omega)) _) | (with_reducible refine Below.alloc ?_ (by first | exact Nat.le_refl _ | omega | (with_reducible (repeat (first | refine sz_alloc ?_ | refine sz_setCell ?_ | refine sz_drew ?_ | refine sz_drewN ?_)); first | exact Nat.le_refl _ | omega) | (simp only [World.size_alloc, World.size_setCell, World.size_drew, size_drewN']; omega)) _) | assumption))
          exact HK.out _ _ ⟨fun k => if k = 13 then .pointer (some ⟨W.heap.size, 0, none⟩) else V k, rfl, facts_upd HV.out ⟨_, rfl, HFw.out.size⟩, ownsRow_up HOw.out u3, HHw.out.up u3, HFw.out.trans (Far.of (u3.mono (HFw.out.size))), Nat.le_trans hs' u3.size, fun _ => ⟨_, rfl, hs', Blk.new W [.int .i64 0, .int .i64 0, .bool false] _⟩⟩
      · rintro a W ⟨V, rfl, hv, ho', hh', hf', hs', hx'⟩
        obtain ⟨X, e13, x1, x2⟩ := hx' rfl
        obtain ⟨m, q, e12, m1', m2', q1'⟩ := hv 12 rfl
        rw [e12, e13]
        change wpList _ _ _ [_] _ _
        have x3 := ((x2.set 0 (.int .i64 m)).set 1 (.int .i64 q)).set 2 (.bool false)
        simp only [List.set_cons_zero, List.set_cons_succ] at x3
        have f3 : Far hb w1.heap.size w1 (((W.setCell ⟨X, 0, none⟩ (.int .i64 m)).setCell ⟨X, 1, none⟩ (.int .i64 q)).setCell ⟨X, 2, none⟩ (.bool false)) := ((hf'.setNew (a := ⟨X, 0, none⟩) (by simp only; omega) _).setNew (a := ⟨X, 1, none⟩) (by simp only; omega) _).setNew (a := ⟨X, 2, none⟩) (by simp only; omega) _
        have nX : u11.ownBlock ≠ some X := fun e => by have := (HO.out.lt X e).2; omega
        have o3 : (((W.setCell ⟨X, 0, none⟩ (.int .i64 m)).setCell ⟨X, 1, none⟩ (.int .i64 q)).setCell ⟨X, 2, none⟩ (.bool false)).ownsRow w1.heap.size 80 3 u11 k (lrows lk).flatten := ownsRow_setCell_other (ownsRow_setCell_other (ownsRow_setCell_other ho' (a := ⟨X, 0, none⟩) nX _) (a := ⟨X, 1, none⟩) nX _) (a := ⟨X, 2, none⟩) nX _
        have h3 : HeapAt (((W.setCell ⟨X, 0, none⟩ (.int .i64 m)).setCell ⟨X, 1, none⟩ (.int .i64 q)).setCell ⟨X, 2, none⟩ (.bool false)) hb pB cB lB := by
          have b3 : Below w1.heap.size W (((W.setCell ⟨X, 0, none⟩ (.int .i64 m)).setCell ⟨X, 1, none⟩ (.int .i64 q)).setCell ⟨X, 2, none⟩ (.bool false)) := (((Below.refl _ _).setCell (p := ⟨X, 0, none⟩) (by simp only; omega) _).setCell (p := ⟨X, 1, none⟩) (by simp only; omega) _).setCell (p := ⟨X, 2, none⟩) (by simp only; omega) _
          exact hh'.below b3 (by omega) HA1.out
        have xc0 := x2.cell 0
        have xc1 := x2.cell 1
        have xc2 := x2.cell 2
        have xf := x2.free
        have xl := x2.lt
        have X3 := Lib.hid x3
        have F3 := Lib.hid f3
        have O3 := Lib.hid o3
        have H3 := Lib.hid h3
        clear hv ho' hh' hf' hs' hx' x3 f3 o3 h3 x2 e12 e13 HHr
        simp only [List.getElem?_cons_zero, List.getElem?_cons_succ] at xc0 xc1 xc2
        go_upto_region 5 with fail
        generalize hw3 : (((W.setCell ⟨X, 0, none⟩ (.int .i64 m)).setCell ⟨X, 1, none⟩ (.int .i64 q)).setCell ⟨X, 2, none⟩ (.bool false)) = w3 at *
        clear hw3 xc0 xc1 xc2 xf xl
        obtain ⟨c0, c1, c2, c3, c4⟩ := five (F3.out.blk HB1.out l1 (by omega))
        have xc0 := X3.out.cell 0
        have xc1 := X3.out.cell 1
        have xc2 := X3.out.cell 2
        simp only [List.getElem?_cons_zero, List.getElem?_cons_succ] at xc0 xc1 xc2
        have LW := Lib.hid (listsFar HL1.out HX.out F3.out (Nat.le_refl _))
        have RW := Lib.hid (F3.out.row HR1.out (fun h0 b off e => by
          simp only [Option.some.injEq, Addr.mk.injEq, and_true] at e
          obtain ⟨rfl, rfl⟩ := e
          exact ⟨HR1.out.lt (ints_pos _) h0 rfl, hg⟩))
        have hd : inDay s m = true := inB_true.2 ⟨m1', m2'⟩
        go_wp2_with fail
        refine (wet_n s m q tr G s.floors.length hG g cg w3 OK.out LW.out hd RW.out q1' t1 t2).mono ?_
        rintro e w4 ⟨rfl, u4⟩
        generalize hbb : decide (G[q]?.getD 0 < hgt s.table m + tr) = bb
        have xw := X3.out.up u4
        have xb := xw.set 2 (.bool bb)
        simp only [List.set_cons_zero, List.set_cons_succ] at xb
        have xf := xw.free
        have xl := xw.lt
        have F5 : Hid (Far hb w1.heap.size w1 (w4.setCell ⟨X, 2, none⟩ (.bool bb))) := Lib.hid ((F3.out.trans (Far.of (u4.mono F3.out.size))).setNew (a := ⟨X, 2, none⟩) (by simp only; omega) _)
        have O5 : Hid ((w4.setCell ⟨X, 2, none⟩ (.bool bb)).ownsRow w1.heap.size 80 3 u11 k (lrows lk).flatten) := Lib.hid (ownsRow_setCell_other (ownsRow_up O3.out u4) (a := ⟨X, 2, none⟩) nX _)
        have H5 : Hid (HeapAt (w4.setCell ⟨X, 2, none⟩ (.bool bb)) hb pB cB lB) := Lib.hid ((H3.out.up u4).below ((Below.refl w1.heap.size w4).setCell (p := ⟨X, 2, none⟩) (by simp only; omega) _) (by omega) HA1.out)
        have xd0 := xw.cell 0
        have xd1 := xw.cell 1
        have xd2 := xw.cell 2

        simp only [List.getElem?_cons_zero, List.getElem?_cons_succ] at xd0 xd1 xd2
        have HI : Hid (LookIs s G tr (m, (q : Int), bb)) := Lib.hid ⟨hd, q, rfl, q1', hbb.symm⟩
        obtain ⟨i2, hi, hz0, hz1, hz2⟩ := info_parts infoL
        clear xw xb c0 c1 c2 c3 c4 xc0 xc1 xc2 LW RW u4 O3 H3 F3 X3 hbb
        have hs5 : w1.heap.size ≤ (w4.setCell ⟨X, 2, none⟩ (.bool bb)).heap.size := F5.out.size
        go_wp2_with (at_builtin; refine wpList_append_own _ rfl _ _ 89 rfl w1.heap.size 80 i2 (.agg #[.int .i64 0, .int .i64 0, .bool false]) 3 24 Try.underlying89 hi hz0 hz1 hz2 rfl (by decide) _ _ _ rfl (O5.out.alloc _) ⟨w4.heap.size, 0, none⟩ 1 1 [.int .i64 m, .int .i64 q, .bool bb] rfl rfl (newsAt _ (by simp only [World.size_setCell]) [.int .i64 m, .int .i64 q, .bool bb] _) (by simp [Value.oneCell']) (by simp [maxLen]; omega) (by omega) (sz_alloc hs5) ?_; intro v' w6 hown hgr hnn; clear hnn)
        have F6 := Lib.hid ((F5.out.alloc hs5 _).grown hgr (sz_alloc hs5) (fun j e => (O5.out.lt j e).1))
        have H6 := Lib.hid (H5.out.below (((Below.refl w1.heap.size _).alloc hs5 _).grown hgr (sz_alloc hs5) (fun j e => (O5.out.lt j e).1)) (by omega) HA1.out)
        have O6 := Lib.hid hown
        clear hown hgr
        go_roundw
        case rel =>
          refine ⟨k + 1, lk ++ [(m, (q : Int), bb)], by go_num, by omega, by rw [List.length_append, hlen]; rfl, fun x hx => ?_, ?_, H6.out, F6.out⟩
          · rw [List.mem_append] at hx
            rcases hx with hx | hx
            · exact HLK.out x hx
            · rw [List.mem_singleton] at hx; subst hx; exact HI.out
          · have e : (lrows (lk ++ [(m, (q : Int), bb)])).flatten = (lrows lk).flatten ++ [.int .i64 m, .int .i64 q, .bool bb] := by unfold lrows; rw [List.map_append, List.flatten_append]; rfl
            rw [e]
            exact O6.out
        case measure => simp [intOf]; omega
    · obtain rfl : k = N := by omega
      obtain ⟨qL, dL, rfl, a1, a2, hR, -⟩ := Row.of_own (rows := lrows lk) (by simp [flatOk, lrows]) HO.out (by simp [lrows, hlen])
      subst hlen
      go_wp2_with fail
      go_ret
      exact ⟨lk, qL, dL, rfl, by omega, hR, HLK.out, HHr.out, ⟨HF.out.os.trans U1.out.os, HF.out.tape.trans U1.out.tape, HF.out.output.trans U1.out.output, Nat.le_trans U1.out.size HF.out.size, fun b hb1 hb2 => (HF.out.block b (Nat.lt_of_lt_of_le hb1 U1.out.size) hb2).trans (U1.out.block b hb1)⟩⟩
theorem looked_n (hb : Nat) (s : Sd) (G : List Int) (n : Nat) (hn : G.length = n) (g cg : Nat) (tr most : Int) (w : World) (ok : Ok s) (h : HeapAt w hb pB cB lB) (ha : Apart pB hb w.heap.size lB) (hlB : lB.length ≤ 140737488355328) (hl : Lists w s pT pF pS cT cF cS)
    (hx : (0 < s.table.length → ∀ b off, pT = some ⟨b, off, none⟩ → b ≠ hb) ∧ (0 < s.floors.length → ∀ b off, pF = some ⟨b, off, none⟩ → b ≠ hb) ∧ (0 < s.sills.length → ∀ b off, pS = some ⟨b, off, none⟩ → b ≠ hb)) (hg : g ≠ hb) (hr : Row w (some ⟨g, 0, none⟩) 1 (ints G)) (hG : n = s.floors.length) (t1 : -1000 ≤ tr) (t2 : tr ≤ 1000) (m0 : 0 ≤ most) (m1 : most ≤ 100) :
    Calls Try.prog 53 #[.pointer (some ⟨hb, 0, none⟩), sdVal s pT pF pS cT cF cS, .slice (some ⟨g, 0, none⟩) n cg, .int .i64 tr, .int .i64 most] w fun e w' => ∃ lk pL cL, e = .returned (.slice pL (lk : List Lk).length cL) ∧ (lk.length : Int) ≤ most ∧ Row w' pL 3 (lrows lk) ∧ (∀ x ∈ lk, LookIs s G tr x) ∧ HeapAt w' hb pB cB lB ∧ Far hb w.heap.size w w' := by
  subst hn
  exact looked_c hb s G g cg tr most w ok h ha hlB hl hx hg hr hG t1 t2 m0 m1
end
end Go.Proofs.Ytcljkkojeleakaa
/- The law TideAsked returns true, whatever numbers are passed in. -/
namespace Go.Proofs.Ytcljkkojeleakaa
open Go.RowKit Go.Shelf

/-- what the parts of a look that is tried hold, one by one -/
def AkP (s : Sd) (hb B n0 : Nat) (val fl : Value) : Nat → Value → Prop
  | 0, v => v = .pointer (some ⟨hb, 0, none⟩)
  | 1, v => v = val
  | 2, v => v = .int .i64 (firstM s.table)
  | 3, v => v = val
  | 4, v => v = .int .i64 (lastM s.table)
  | 5, v => ∃ m : Int, v = .int .i64 m ∧ firstM s.table ≤ m ∧ m ≤ lastM s.table
  | 6, v => v = .pointer (some ⟨hb, 0, none⟩)
  | 7, v => v = .pointer (some ⟨B, 3, none⟩)
  | 8, v => v = fl
  | 9, v => v = .int .i64 s.floors.length
  | 10, v => v = .int .i64 ((s.floors.length : Int) - 1)
  | 11, v => ∃ q : Nat, v = .int .i64 q ∧ q < s.floors.length
  | 12, v => ∃ (m : Int) (q : Nat), v = .agg #[.int .i64 m, .int .i64 q, .bool true] ∧ firstM s.table ≤ m ∧ m ≤ lastM s.table ∧ q < s.floors.length
  | 13, v => ∃ X : Nat, v = .pointer (some ⟨X, 0, none⟩) ∧ n0 ≤ X
  | _, _ => True
section
variable {p p' : Option Addr} {c c' : Nat}
set_option maxRecDepth 100000 in
set_option maxHeartbeats 3000000 in
theorem askedLaw_c (l l' : List Int) (w : World) (hr : Row w p 1 (bytes l)) (hr' : Row w p' 1 (bytes l')) (hl : l.length ≤ 140737488355328) (hl' : l'.length ≤ 140737488355328) :
    Calls Try.prog 14 #[.slice p l.length c, .slice p' l'.length c'] w fun e w' => e = .returned (.bool true) ∧ Up w w' := by
  have HP := Lib.hid (fun W (u : Up w W) => pile_c p c l W (hr.up u))
  have HP' := Lib.hid (fun W (u : Up w W) => pile_c p' c' l' W (hr'.up u))
  clear hr hr'
  go_enter Try.func14, Try.ntmps14
  go_wp2_with fail
  refine (HP.out _ (by (repeat (first | exact Below.refl _ _ | (with_reducible refine Below.drewN' ?_ _) | (with_reducible refine Below.drew ?_) | (with_reducible refine Below.setCell ?_ (by first | exact Nat.le_refl _ | omega | (with_reducible (repeat (first | refine sz_alloc ?_ | refine sz_setCell ?_ | refine sz_drew ?_ | refine sz_drewN ?_)); first | exact Nat.le_refl _ | omega) | (simp only [World.size_alloc, World.size_setCell, World.size_drew, size_drewN']; omega)) _) | (with_reducible refine Below.alloc ?_ (by first | exact Nat.le_refl _ | omega | (with_reducible (repeat (first | refine sz_alloc ?_ | refine sz_setCell ?_ | refine sz_drew ?_ | refine sz_drewN ?_)); first | exact Nat.le_refl _ | omega) | (simp only [World.size_alloc, World.size_setCell, World.size_drew, size_drewN']; omega)) _) | assumption)))).mono ?_
  rintro e w1 ⟨rfl, g1, u1, s1, ap⟩
  have U1 := Lib.hid u1
  have G1 := Lib.hid g1
  have AP := Lib.hid ap
  clear g1 u1 ap HP
  go_wp2_with fail
  refine (made_c (p := p) (c := c) (l := l) w.heap.size 6 9 w1 G1.out (AP.out.mono (by omega)) hl (by decide) (by decide) (by decide) (by decide)).mono ?_
  rintro e w2 ⟨s, qT, qF, qS, dT, dF, dS, rfl, mk, l2, -, -, f2⟩
  have L2 := Lib.hid l2
  have U2 : Hid (Up w w2) := Below.trans U1.out (f2.below (Nat.le_refl _) (by omega))
  have OK := Lib.hid (mk.ok (by decide) (by decide))
  have m2 := mk.t2
  have m4 := mk.t4
  have mf1 := mk.f1
  have mf6 := mk.fn
  obtain ⟨gF, oF, rfl, -⟩ := l2.rf.int 0 (by omega)
  clear mk l2 f2 G1 AP U1 s1
  unfold sdVal
  go_wp2_with fail
  have BS : Hid (Blk (w2.alloc (.cells #[.slice qT s.table.length dT, .int .i64 s.lo, .int .i64 s.hi, .slice (some ⟨gF, oF, none⟩) s.floors.length dF, .slice qS s.sills.length dS] 28)) w2.heap.size (sdCells s qT (some ⟨gF, oF, none⟩) qS dT dF dS) 28) := Blk.new w2 (sdCells s qT (some ⟨gF, oF, none⟩) qS dT dF dS) 28
  have LS : Hid (Lists (w2.alloc (.cells #[.slice qT s.table.length dT, .int .i64 s.lo, .int .i64 s.hi, .slice (some ⟨gF, oF, none⟩) s.floors.length dF, .slice qS s.sills.length dS] 28)) s qT (some ⟨gF, oF, none⟩) qS dT dF dS) := L2.out.up (by (repeat (first | exact Below.refl _ _ | (with_reducible refine Below.drewN' ?_ _) | (with_reducible refine Below.drew ?_) | (with_reducible refine Below.setCell ?_ (by first | exact Nat.le_refl _ | omega | (with_reducible (repeat (first | refine sz_alloc ?_ | refine sz_setCell ?_ | refine sz_drew ?_ | refine sz_drewN ?_)); first | exact Nat.le_refl _ | omega) | (simp only [World.size_alloc, World.size_setCell, World.size_drew, size_drewN']; omega)) _) | (with_reducible refine Below.alloc ?_ (by first | exact Nat.le_refl _ | omega | (with_reducible (repeat (first | refine sz_alloc ?_ | refine sz_setCell ?_ | refine sz_drew ?_ | refine sz_drewN ?_)); first | exact Nat.le_refl _ | omega) | (simp only [World.size_alloc, World.size_setCell, World.size_drew, size_drewN']; omega)) _) | assumption)))
  have UR : Hid (Up w (w2.alloc (.cells #[.slice qT s.table.length dT, .int .i64 s.lo, .int .i64 s.hi, .slice (some ⟨gF, oF, none⟩) s.floors.length dF, .slice qS s.sills.length dS] 28))) := Up.trans U2.out (by (repeat (first | exact Below.refl _ _ | (with_reducible refine Below.drewN' ?_ _) | (with_reducible refine Below.drew ?_) | (with_reducible refine Below.setCell ?_ (by first | exact Nat.le_refl _ | omega | (with_reducible (repeat (first | refine sz_alloc ?_ | refine sz_setCell ?_ | refine sz_drew ?_ | refine sz_drewN ?_)); first | exact Nat.le_refl _ | omega) | (simp only [World.size_alloc, World.size_setCell, World.size_drew, size_drewN']; omega)) _) | (with_reducible refine Below.alloc ?_ (by first | exact Nat.le_refl _ | omega | (with_reducible (repeat (first | refine sz_alloc ?_ | refine sz_setCell ?_ | refine sz_drew ?_ | refine sz_drewN ?_)); first | exact Nat.le_refl _ | omega) | (simp only [World.size_alloc, World.size_setCell, World.size_drew, size_drewN']; omega)) _) | assumption)))
  generalize (w2.alloc (.cells #[.slice qT s.table.length dT, .int .i64 s.lo, .int .i64 s.hi, .slice (some ⟨gF, oF, none⟩) s.floors.length dF, .slice qS s.sills.length dS] 28)) = w3 at *
  generalize w2.heap.size = M at *
  clear L2 U2 w2
  refine (HP'.out w3 UR.out).mono ?_
  rintro e w4 ⟨rfl, g4, u4, s4, ap4⟩
  have AP := Lib.hid ap4
  have G4 := Lib.hid g4
  have V4 := Lib.hid u4
  clear g4 ap4 HP'
  obtain ⟨c0, c1, c2, c3, c4⟩ := five (BS.out.up u4)
  clear u4
  go_wp2_with fail
  refine (Ask_c s w4 (LS.out.up V4.out)).mono ?_
  rintro e w5 ⟨rfl, u5⟩
  have G5 := Lib.hid (G4.out.up u5)
  have V5 := Lib.hid (Up.trans V4.out u5)
  have z5 : w3.heap.size < w5.heap.size := by have := u5.size; omega
  clear u5 V4 G4 c0 c1 c2 c3 c4
  obtain ⟨c0, c1, c2, c3, c4⟩ := five (BS.out.up V5.out)
  have lM : M < w5.heap.size := (BS.out.up V5.out).lt
  have lohi := OK.out.lohi
  have b0 := OK.out.lo0
  have b1 := OK.out.hi1
  have hsz := siz_wind OK.out
  by_cases hw : s.lo = s.hi
  · have e1 : askE s = 6 := by unfold askE; rw [if_pos (chk_zero OK.out), if_pos (by omega)]
    have hw' : (s.lo == s.hi) = true := by simpa using hw
    rw [e1]
    clear e1 hw hsz
    go_wp2_with fail
    refine (awake_c _).mono ?_
    rintro e w6 ⟨rfl, u6⟩
    go_wp2_with fail
    go_ret
    have V6 := Lib.hid (Up.trans UR.out V5.out)
    exact ⟨rfl, Up.trans V6.out (Up.trans (by (repeat (first | exact Below.refl _ _ | (with_reducible refine Below.drewN' ?_ _) | (with_reducible refine Below.drew ?_) | (with_reducible refine Below.setCell ?_ (by first | exact Nat.le_refl _ | omega | (with_reducible (repeat (first | refine sz_alloc ?_ | refine sz_setCell ?_ | refine sz_drew ?_ | refine sz_drewN ?_)); first | exact Nat.le_refl _ | omega) | (simp only [World.size_alloc, World.size_setCell, World.size_drew, size_drewN']; omega)) _) | (with_reducible refine Below.alloc ?_ (by first | exact Nat.le_refl _ | omega | (with_reducible (repeat (first | refine sz_alloc ?_ | refine sz_setCell ?_ | refine sz_drew ?_ | refine sz_drewN ?_)); first | exact Nat.le_refl _ | omega) | (simp only [World.size_alloc, World.size_setCell, World.size_drew, size_drewN']; omega)) _) | assumption))) u6)⟩
  · have e1 : askE s = 0 := by unfold askE; rw [if_pos (chk_zero OK.out), if_neg (by omega)]
    obtain ⟨m, q, e2, hm, hq, hbest⟩ := ask_best OK.out
    have e3 : askV s = ((m, (q : Int), true), askMost s m q) := by unfold askV; rw [if_pos e1]; exact e2
    rw [e1, e3]
    have HB := Lib.hid hbest
    have HM := Lib.hid hm
    clear e1 e2 e3 hbest hm hsz
    dsimp only
    go_wp2_with fail
    have BX : Hid (Blk (w5.alloc (.cells #[.int .i64 m, .int .i64 q, .bool true] 80)) w5.heap.size [.int .i64 m, .int .i64 q, .bool true] 80) := Lib.hid (Blk.new w5 [.int .i64 m, .int .i64 q, .bool true] 80)
    have V6 : Hid (Up w3 (w5.alloc (.cells #[.int .i64 m, .int .i64 q, .bool true] 80))) := Lib.hid (Up.trans V5.out (by (repeat (first | exact Below.refl _ _ | (with_reducible refine Below.drewN' ?_ _) | (with_reducible refine Below.drew ?_) | (with_reducible refine Below.setCell ?_ (by first | exact Nat.le_refl _ | omega | (with_reducible (repeat (first | refine sz_alloc ?_ | refine sz_setCell ?_ | refine sz_drew ?_ | refine sz_drewN ?_)); first | exact Nat.le_refl _ | omega) | (simp only [World.size_alloc, World.size_setCell, World.size_drew, size_drewN']; omega)) _) | (with_reducible refine Below.alloc ?_ (by first | exact Nat.le_refl _ | omega | (with_reducible (repeat (first | refine sz_alloc ?_ | refine sz_setCell ?_ | refine sz_drew ?_ | refine sz_drewN ?_)); first | exact Nat.le_refl _ | omega) | (simp only [World.size_alloc, World.size_setCell, World.size_drew, size_drewN']; omega)) _) | assumption))))
    have G6 := Lib.hid (G5.out.up (show Up w5 (w5.alloc (.cells #[.int .i64 m, .int .i64 q, .bool true] 80)) by (repeat (first | exact Below.refl _ _ | (with_reducible refine Below.drewN' ?_ _) | (with_reducible refine Below.drew ?_) | (with_reducible refine Below.setCell ?_ (by first | exact Nat.le_refl _ | omega | (with_reducible (repeat (first | refine sz_alloc ?_ | refine sz_setCell ?_ | refine sz_drew ?_ | refine sz_drewN ?_)); first | exact Nat.le_refl _ | omega) | (simp only [World.size_alloc, World.size_setCell, World.size_drew, size_drewN']; omega)) _) | (with_reducible refine Below.alloc ?_ (by first | exact Nat.le_refl _ | omega | (with_reducible (repeat (first | refine sz_alloc ?_ | refine sz_setCell ?_ | refine sz_drew ?_ | refine sz_drewN ?_)); first | exact Nat.le_refl _ | omega) | (simp only [World.size_alloc, World.size_setCell, World.size_drew, size_drewN']; omega)) _) | assumption))))
    have nX : w5.heap.size ≠ w3.heap.size := by omega
    generalize (w5.alloc (.cells #[.int .i64 m, .int .i64 q, .bool true] 80)) = w6 at *
    generalize w5.heap.size = X at *
    clear G5 V5 c0 c1 c2 c3 c4 lM w5
    refine (mostLook_c M s m q w6 OK.out (LS.out.up V6.out) (BS.out.up V6.out) HM.out hq).mono ?_
    rintro e w7 ⟨rfl, u7⟩
    have V7 := Lib.hid (Up.trans V6.out u7)
    have G7 := Lib.hid (G6.out.up u7)
    have X7 := Lib.hid (BX.out.up u7)
    clear u7 V6 G6 BX
    obtain ⟨n, hn⟩ : ∃ n, askMost s m q = n := ⟨_, rfl⟩
    rw [hn] at HB ⊢
    have hh : w3.heap.size < w7.heap.size := by obtain ⟨_, _, hB, -⟩ := G7.out; exact hB.lt
    have MP := Lib.hid (fun (m' : Int) (q' : Nat) W (u : Up w3 W) (hm : inDay s m' = true) (hq : q' < s.floors.length) => mostLook_c M s m' q' W OK.out (LS.out.up u) (BS.out.up u) hm hq)
    have HX : Hid ((0 < s.table.length → ∀ b off, qT = some ⟨b, off, none⟩ → b ≠ w3.heap.size) ∧ (0 < s.floors.length → ∀ b off, (some ⟨gF, oF, none⟩ : Option Addr) = some ⟨b, off, none⟩ → b ≠ w3.heap.size) ∧ (0 < s.sills.length → ∀ b off, qS = some ⟨b, off, none⟩ → b ≠ w3.heap.size)) :=
      Lib.hid ⟨fun h0 b off e => by have := LS.out.rt.lt (pairs_pos _) (by simpa [pairs] using h0) e; omega, fun h0 b off e => by have := LS.out.rf.lt (ints_pos _) (by simpa [ints] using h0) e; omega, fun h0 b off e => by have := LS.out.rs.lt (triples_pos _) (by simpa [triples] using h0) e; omega⟩
    have lM3 : M < w3.heap.size := BS.out.lt
    clear hn
    have L7 := Lib.hid (LS.out.up V7.out)
    have B7 := Lib.hid (BS.out.up V7.out)
    have s7 : w3.heap.size ≤ w7.heap.size := by omega
    go_wp2_with fail
    go_loopw [51] (fun i wr => ∃ k : Nat, k ≤ 12 ∧ i = .int .i64 k ∧ HeapAt wr w3.heap.size p' c' l' ∧ Far w3.heap.size w7.heap.size w7 wr) (fun i _ => 12 - (intOf i).toNat)
    case atStart => exact ⟨0, by omega, rfl, G7.out, Far.refl _ _ _⟩
    case round =>
      obtain ⟨k, hk, rfl, hh', hf⟩ := hrel
      by_cases hlt : k < 12
      · have k1 : (k : Int) < 12 := by omega
        have HHr := Lib.hid hh'
        have HF := Lib.hid hf
        clear hh' hf
        obtain ⟨d0, d1, d2⟩ := firstM_lt OK.out.table
        go_wp2_with fail
        have ew : w7.heap.size ≤ wr.heap.size := HF.out.size
        have sn : IntKind.i64.wrap ((s.floors.length : Int) - 1) = (s.floors.length : Int) - 1 := IntWalk.i64_in _ (by omega)
        refine region_inv 14 (fun done a W => ∃ V : Nat → Value, a = ⟨#[.slice p l.length c, .slice p' l'.length c', undef, undef, u4, .pointer (some ⟨M, 0, none⟩), .pointer (some ⟨w3.heap.size, 0, none⟩), .pointer (some ⟨X, 0, none⟩), .int .i64 n, .int .i64 0, .func (.func 72) #[] #[.pointer (some ⟨M, 0, none⟩)], V 13, u12, .slice p l.length c, .pointer (some ⟨w.heap.size, 0, none⟩), (.agg #[.slice qT s.table.length dT, .int .i64 s.lo, .int .i64 s.hi, .slice (some ⟨gF, oF, none⟩) s.floors.length dF, .slice qS s.sills.length dS]), .slice p' l'.length c', .pointer (some ⟨w3.heap.size, 0, none⟩), .tuple #[.agg #[.int .i64 m, .int .i64 q, .bool true], .int .i64 n, .int .i64 0], (.agg #[.slice qT s.table.length dT, .int .i64 s.lo, .int .i64 s.hi, .slice (some ⟨gF, oF, none⟩) s.floors.length dF, .slice qS s.sills.length dS]), .tuple #[.agg #[.int .i64 m, .int .i64 q, .bool true], .int .i64 n, .int .i64 0], .agg #[.int .i64 m, .int .i64 q, .bool true], .int .i64 n, .int .i64 0, .pointer (some ⟨M, 1, none⟩), .pointer (some ⟨M, 1, none⟩), .int .i64 s.lo, .pointer (some ⟨M, 1, none⟩), .pointer (some ⟨M, 2, none⟩), .int .i64 s.hi, .bool false, undef, undef, undef, undef, undef, .func (.func 72) #[] #[.pointer (some ⟨M, 0, none⟩)], .int .i64 0, .bool false, .bool false, .pointer (some ⟨X, 2, none⟩), .bool true, .bool false, .bool false, .bool false, .func (.func 72) #[] #[.pointer (some ⟨M, 0, none⟩)], .agg #[.int .i64 m, .int .i64 q, .bool true], .int .i64 n, .int .i64 n, .bool false, .bool false, .int .i64 k, .bool true, V 0, V 1, V 2, V 3, V 4, V 5, V 6, V 7, V 8, V 9, V 10, V 11, V 12, u66, u67, u68, u69, u70, u71, u72, u73, u74, u75, u76, u77, u78, u79, u80, u81, u82, u83, u84, u85, u86, u87, u88, u89, u90, u91, u92, u93, u94, u95, u96, u97, u98, undef], []⟩ ∧ (∀ i, done i = true → AkP s w3.heap.size M w7.heap.size (.agg #[.slice qT s.table.length dT, .int .i64 s.lo, .int .i64 s.hi, .slice (some ⟨gF, oF, none⟩) s.floors.length dF, .slice qS s.sills.length dS]) (.slice (some ⟨gF, oF, none⟩) s.floors.length dF) i (V i)) ∧ HeapAt W w3.heap.size p' c' l' ∧ Far w3.heap.size w7.heap.size w7 W ∧ wr.heap.size ≤ W.heap.size ∧ (done 13 = true → ∃ Y, V 13 = .pointer (some ⟨Y, 0, none⟩) ∧ wr.heap.size ≤ Y ∧ Blk W Y [.int .i64 0, .int .i64 0, .bool false] 80)) mixed (by kernel_rfl) ?_ ?_ ?_
        · exact ⟨fun i => if i = 0 then u53 else if i = 1 then u54 else if i = 2 then u55 else if i = 3 then u56 else if i = 4 then u57 else if i = 5 then u58 else if i = 6 then u59 else if i = 7 then u60 else if i = 8 then u61 else if i = 9 then u62 else if i = 10 then u63 else if i = 11 then u64 else if i = 12 then u65 else u11, rfl, (fun i h => by cases h), HHr.out, HF.out.drew, Nat.le_refl _, (fun h => by cases h)⟩
        · intro done a W i o hi hd ho hall hinv
          obtain ⟨V, rfl, hv, hh', hf', hs', hx'⟩ := hinv
          obtain ⟨c0, c1, c2, c3, c4⟩ := five (hf'.blk B7.out (by omega) (by omega))
          have LW := Lib.hid (listsFar L7.out HX.out hf' (Nat.le_refl _))
          have HV := Lib.hid hv
          have HHw := Lib.hid hh'
          have HFw := Lib.hid hf'
          have HXw := Lib.hid hx'
          have HD := Lib.hid hd
          obtain rfl | rfl | rfl | rfl | rfl | rfl | rfl | rfl | rfl | rfl | rfl | rfl | rfl | rfl : i = 0 ∨ i = 1 ∨ i = 2 ∨ i = 3 ∨ i = 4 ∨ i = 5 ∨ i = 6 ∨ i = 7 ∨ i = 8 ∨ i = 9 ∨ i = 10 ∨ i = 11 ∨ i = 12 ∨ i = 13 := by omega
          · clear hall ho hv hh' hf' hx' hd
            refine wpOp_step rfl (fun K hK => ?_)
            rw [if_pos (by rfl)]
            have HK := Lib.hid hK
            clear hK
            go_simp
            exact HK.out _ _ ⟨fun k => if k = 0 then .pointer (some ⟨w3.heap.size, 0, none⟩) else V k, rfl, facts_upd HV.out rfl, HHw.out, HFw.out, hs', fun h => HXw.out (by simpa [upd] using h)⟩
          · clear hall ho hv hh' hf' hx' hd
            refine wpOp_step rfl (fun K hK => ?_)
            rw [if_pos (by rfl)]
            have HK := Lib.hid hK
            clear hK
            go_simp
            exact HK.out _ _ ⟨fun k => if k = 1 then (.agg #[.slice qT s.table.length dT, .int .i64 s.lo, .int .i64 s.hi, .slice (some ⟨gF, oF, none⟩) s.floors.length dF, .slice qS s.sills.length dS]) else V k, rfl, facts_upd HV.out rfl, HHw.out, HFw.out, hs', fun h => HXw.out (by simpa [upd] using h)⟩
          · have e1 : V 1 = _ := hv 1 (hall ⟨1, .data⟩ (by cases ho; simp) rfl)
            clear ho hv hh' hf' hx' hd hall
            refine wpOp_step rfl (fun K hK => ?_)
            rw [if_pos (by rfl)]
            have HK := Lib.hid hK
            clear hK
            go_simp
            refine (firstL_c s W LW.out m2).mono ?_
            rintro e w8 ⟨rfl, u8⟩
            exact HK.out _ _ ⟨fun k => if k = 2 then .int .i64 (firstM s.table) else V k, (by simp only [e1]; rfl), facts_upd HV.out rfl, HHw.out.up u8, HFw.out.trans (Far.of (u8.mono (HFw.out.size))), Nat.le_trans hs' u8.size, fun h => (by obtain ⟨Y, h1, h2, h3⟩ := HXw.out (by simpa [upd] using h); exact ⟨Y, h1, h2, h3.up u8⟩)⟩
          · clear hall ho hv hh' hf' hx' hd
            refine wpOp_step rfl (fun K hK => ?_)
            rw [if_pos (by rfl)]
            have HK := Lib.hid hK
            clear hK
            go_simp
            exact HK.out _ _ ⟨fun k => if k = 3 then (.agg #[.slice qT s.table.length dT, .int .i64 s.lo, .int .i64 s.hi, .slice (some ⟨gF, oF, none⟩) s.floors.length dF, .slice qS s.sills.length dS]) else V k, rfl, facts_upd HV.out rfl, HHw.out, HFw.out, hs', fun h => HXw.out (by simpa [upd] using h)⟩
          · have e3 : V 3 = _ := hv 3 (hall ⟨3, .data⟩ (by cases ho; simp) rfl)
            clear ho hv hh' hf' hx' hd hall
            refine wpOp_step rfl (fun K hK => ?_)
            rw [if_pos (by rfl)]
            have HK := Lib.hid hK
            clear hK
            go_simp
            refine (lastL_c s W LW.out m2 (by omega)).mono ?_
            rintro e w8 ⟨rfl, u8⟩
            exact HK.out _ _ ⟨fun k => if k = 4 then .int .i64 (lastM s.table) else V k, (by simp only [e3]; rfl), facts_upd HV.out rfl, HHw.out.up u8, HFw.out.trans (Far.of (u8.mono (HFw.out.size))), Nat.le_trans hs' u8.size, fun h => (by obtain ⟨Y, h1, h2, h3⟩ := HXw.out (by simpa [upd] using h); exact ⟨Y, h1, h2, h3.up u8⟩)⟩
          · have e0 : V 0 = _ := hv 0 (hall ⟨0, .data⟩ (by cases ho; simp) rfl)
            have e2 : V 2 = _ := hv 2 (hall ⟨2, .data⟩ (by cases ho; simp) rfl)
            have e4 : V 4 = _ := hv 4 (hall ⟨4, .data⟩ (by cases ho; simp) rfl)
            clear ho hv hh' hf' hx' hd hall
            refine wpOp_step rfl (fun K hK => ?_)
            rw [if_pos (by rfl)]
            have HK := Lib.hid hK
            clear hK
            go_simp
            refine (from_c w3.heap.size p' c' l' (firstM s.table) (lastM s.table) W HHw.out (AP.out.mono (Nat.le_trans s7 HFw.out.size)) hl' (by omega) (by omega) (by omega) (by omega)).mono ?_
            rintro e w8 ⟨m', ⟨m1', m2', -⟩, rfl, g8, f8⟩
            exact HK.out _ _ ⟨fun k => if k = 5 then .int .i64 m' else V k, (by simp only [e0, e2, e4]; rfl), facts_upd HV.out ⟨m', rfl, m1', m2' (by omega)⟩, g8, HFw.out.trans (f8.mono HFw.out.size), Nat.le_trans hs' f8.size, fun h => (by obtain ⟨Y, h1, h2, h3⟩ := HXw.out (by simpa [upd] using h); exact ⟨Y, h1, h2, f8.blk h3 h3.lt (by omega)⟩)⟩
          · clear hall ho hv hh' hf' hx' hd
            refine wpOp_step rfl (fun K hK => ?_)
            rw [if_pos (by rfl)]
            have HK := Lib.hid hK
            clear hK
            go_simp
            exact HK.out _ _ ⟨fun k => if k = 6 then .pointer (some ⟨w3.heap.size, 0, none⟩) else V k, rfl, facts_upd HV.out rfl, HHw.out, HFw.out, hs', fun h => HXw.out (by simpa [upd] using h)⟩
          · clear hall ho hv hh' hf' hx' hd
            refine wpOp_step rfl (fun K hK => ?_)
            rw [if_pos (by rfl)]
            have HK := Lib.hid hK
            clear hK
            go_simp
            exact HK.out _ _ ⟨fun k => if k = 7 then .pointer (some ⟨M, 3, none⟩) else V k, rfl, facts_upd HV.out rfl, HHw.out, HFw.out, hs', fun h => HXw.out (by simpa [upd] using h)⟩
          · have e7 : V 7 = _ := hv 7 (hall ⟨7, .data⟩ (by cases ho; simp) rfl)
            clear ho hv hh' hf' hx' hd hall
            refine wpOp_step rfl (fun K hK => ?_)
            rw [if_pos (by rfl)]
            have HK := Lib.hid hK
            clear hK
            go_simp
            exact HK.out _ _ ⟨fun k => if k = 8 then .slice (some ⟨gF, oF, none⟩) s.floors.length dF else V k, (by simp only [e7]; rfl), facts_upd HV.out rfl, HHw.out, HFw.out, hs', fun h => HXw.out (by simpa [upd] using h)⟩
          · have e8 : V 8 = _ := hv 8 (hall ⟨8, .data⟩ (by cases ho; simp) rfl)
            clear ho hv hh' hf' hx' hd hall
            refine wpOp_step rfl (fun K hK => ?_)
            rw [if_pos (by rfl)]
            have HK := Lib.hid hK
            clear hK
            go_simp
            exact HK.out _ _ ⟨fun k => if k = 9 then .int .i64 s.floors.length else V k, (by simp only [e8]; rfl), facts_upd HV.out rfl, HHw.out, HFw.out, hs', fun h => HXw.out (by simpa [upd] using h)⟩
          · have e9 : V 9 = _ := hv 9 (hall ⟨9, .data⟩ (by cases ho; simp) rfl)
            clear ho hv hh' hf' hx' hd hall
            refine wpOp_step rfl (fun K hK => ?_)
            rw [if_pos (by rfl)]
            have HK := Lib.hid hK
            clear hK
            go_simp
            exact HK.out _ _ ⟨fun k => if k = 10 then .int .i64 ((s.floors.length : Int) - 1) else V k, (by simp only [e9]; rfl), facts_upd HV.out rfl, HHw.out, HFw.out, hs', fun h => HXw.out (by simpa [upd] using h)⟩
          · have e6 : V 6 = _ := hv 6 (hall ⟨6, .data⟩ (by cases ho; simp) rfl)
            have e10 : V 10 = _ := hv 10 (hall ⟨10, .data⟩ (by cases ho; simp) rfl)
            clear ho hv hh' hf' hx' hd hall
            refine wpOp_step rfl (fun K hK => ?_)
            rw [if_pos (by rfl)]
            have HK := Lib.hid hK
            clear hK
            go_simp
            refine (upto_c w3.heap.size p' c' l' ((s.floors.length : Int) - 1) W HHw.out (AP.out.mono (Nat.le_trans s7 HFw.out.size)) hl' (by omega) (by omega)).mono ?_
            rintro e w8 ⟨m', ⟨m1', m2', -⟩, rfl, g8, f8⟩
            have m3' := m2' (by omega)
            obtain ⟨q', rfl⟩ : ∃ q' : Nat, m' = q' := ⟨m'.toNat, by omega⟩
            exact HK.out _ _ ⟨fun k => if k = 11 then .int .i64 q' else V k, (by simp only [e6, e10]; rfl), facts_upd HV.out ⟨q', rfl, by omega⟩, g8, HFw.out.trans (f8.mono HFw.out.size), Nat.le_trans hs' f8.size, fun h => (by obtain ⟨Y, h1, h2, h3⟩ := HXw.out (by simpa [upd] using h); exact ⟨Y, h1, h2, f8.blk h3 h3.lt (by omega)⟩)⟩
          · obtain ⟨m', e5, m1', m2'⟩ := hv 5 (hall ⟨5, .data⟩ (by cases ho; simp) rfl)
            obtain ⟨q', e11, q1'⟩ := hv 11 (hall ⟨11, .data⟩ (by cases ho; simp) rfl)
            clear ho hv hh' hf' hx' hd hall
            refine wpOp_step rfl (fun K hK => ?_)
            rw [if_pos (by rfl)]
            have HK := Lib.hid hK
            clear hK
            go_simp
            exact HK.out _ _ ⟨fun k => if k = 12 then .agg #[.int .i64 m', .int .i64 q', .bool true] else V k, (by simp only [e5, e11]; rfl), facts_upd HV.out ⟨m', q', rfl, m1', m2', q1'⟩, HHw.out, HFw.out, hs', fun h => HXw.out (by simpa [upd] using h)⟩
          · clear hall ho hv hh' hf' hx' hd
            refine wpOp_step rfl (fun K hK => ?_)
            rw [if_pos (by rfl)]
            have HK := Lib.hid hK
            clear hK
            go_simp
            have u8 : Up W (W.alloc (.cells #[.int .i64 0, .int .i64 0, .bool false] 80)) := by (repeat (first | exact Below.refl _ _ | (with_reducible refine Below.drewN' ?_ _) | (with_reducible refine Below.drew ?_) | (with_reducible refine Below.setCell ?_ (by first | exact Nat.le_refl _ | omega | (with_reducible (repeat (first | refine sz_alloc ?_ | refine sz_setCell ?_ | refine sz_drew ?_ | refine sz_drewN ?_)); first | exact Nat.le_refl _ | omega) | (simp only [World.size_alloc, World.size_setCell, World.size_drew, size_drewN']; omega)) _) | (with_reducible refine Below.alloc ?_ (by first | exact Nat.le_refl _ | omega | (with_reducible (repeat (first | refine sz_alloc ?_ | refine sz_setCell ?_ | refine sz_drew ?_ | refine sz_drewN ?_)); first | exact Nat.le_refl _ | omega) | (simp only [World.size_alloc, World.size_setCell, World.size_drew, size_drewN']; omega)) _) | assumption))
            exact HK.out _ _ ⟨fun k => if k = 13 then .pointer (some ⟨W.heap.size, 0, none⟩) else V k, rfl, facts_upd HV.out ⟨_, rfl, HFw.out.size⟩, HHw.out.up u8, HFw.out.trans (Far.of (u8.mono (HFw.out.size))), Nat.le_trans hs' u8.size, fun _ => ⟨_, rfl, hs', Blk.new W [.int .i64 0, .int .i64 0, .bool false] _⟩⟩
        · rintro a W ⟨V, rfl, hv, hh', hf', hs', hx'⟩
          obtain ⟨Y, e13, x1, x2⟩ := hx' rfl
          obtain ⟨m', q', e12, m1', m2', q1'⟩ := hv 12 rfl
          rw [e12, e13]
          change wpList _ _ _ [_] _ _
          have xc0 := x2.cell 0
          have xc1 := x2.cell 1
          have xc2 := x2.cell 2
          have xf := x2.free
          have xl := x2.lt
          have x3 := ((x2.set 0 (.int .i64 m')).set 1 (.int .i64 q')).set 2 (.bool true)
          simp only [List.set_cons_zero, List.set_cons_succ] at x3
          have f3 : Far w3.heap.size w7.heap.size w7 (((W.setCell ⟨Y, 0, none⟩ (.int .i64 m')).setCell ⟨Y, 1, none⟩ (.int .i64 q')).setCell ⟨Y, 2, none⟩ (.bool true)) := ((hf'.setNew (a := ⟨Y, 0, none⟩) (by simp only; omega) _).setNew (a := ⟨Y, 1, none⟩) (by simp only; omega) _).setNew (a := ⟨Y, 2, none⟩) (by simp only; omega) _
          have h3 : HeapAt (((W.setCell ⟨Y, 0, none⟩ (.int .i64 m')).setCell ⟨Y, 1, none⟩ (.int .i64 q')).setCell ⟨Y, 2, none⟩ (.bool true)) w3.heap.size p' c' l' := by
            have b3 : Below w7.heap.size W (((W.setCell ⟨Y, 0, none⟩ (.int .i64 m')).setCell ⟨Y, 1, none⟩ (.int .i64 q')).setCell ⟨Y, 2, none⟩ (.bool true)) := (((Below.refl _ _).setCell (p := ⟨Y, 0, none⟩) (by simp only; omega) _).setCell (p := ⟨Y, 1, none⟩) (by simp only; omega) _).setCell (p := ⟨Y, 2, none⟩) (by simp only; omega) _
            exact hh'.below b3 (by omega) (AP.out.mono s7)
          have X3 := Lib.hid x3
          have F3 := Lib.hid f3
          have H3 := Lib.hid h3
          clear hv hh' hf' hs' hx' x2 x3 f3 h3 e12 e13 HHr HF
          simp only [List.getElem?_cons_zero, List.getElem?_cons_succ] at xc0 xc1 xc2
          go_wp2_with fail
          generalize (((W.setCell ⟨Y, 0, none⟩ (.int .i64 m')).setCell ⟨Y, 1, none⟩ (.int .i64 q')).setCell ⟨Y, 2, none⟩ (.bool true)) = w8 at *
          clear xc0 xc1 xc2 xf xl
          have hd : inDay s m' = true := inB_true.2 ⟨m1', m2'⟩
          refine (MP.out m' q' w8 (Below.trans V7.out (F3.out.below (Nat.le_refl _) (by omega))) hd q1').mono ?_
          rintro e w9 ⟨rfl, u9⟩
          obtain ⟨hb1, hb2⟩ := HB.out m' q' hd q1'
          have X9 := Lib.hid (X3.out.up u9)
          have H9 := Lib.hid (H3.out.up u9)
          have F9 := Lib.hid (F3.out.trans (Far.of (u9.mono F3.out.size)))
          have Z9 := Lib.hid (F9.out.blk X7.out (by have := X7.out.lt; omega) nX)
          generalize askMost s m' q' = k' at *
          have xc0 := X9.out.cell 0
          have xc1 := X9.out.cell 1
          have zc0 := Z9.out.cell 0
          have zc1 := Z9.out.cell 1
          simp only [List.getElem?_cons_zero, List.getElem?_cons_succ] at xc0 xc1 zc0 zc1
          have lx := X9.out.lt
          have lz := Z9.out.lt
          clear u9 X3 H3 F3 hd
          have hx1 : ¬ k' < n := by omega
          by_cases hc : n = k'
          · have h2 := hb2 hc
            subst hc
            clear hb2 hb1
            by_cases hmm : m < m'
            · have g1 : ¬ m' < m := by omega
              have g2 : (m' == m) = false := by rw [beq_eq_false_iff_ne]; omega
              clear h2
              go_wp2_with fail
              exact ⟨⟨_, _, _, _, ⟨k + 1, by omega, rfl, H9.out, F9.out⟩, rfl, rfl, rfl, by go_num⟩, by simp [intOf]; omega⟩
            · have hq' : m' = m ∧ q ≤ q' := by omega
              obtain ⟨rfl, hq'⟩ := hq'
              have g1 : ¬ (q' : Int) < q := by omega
              have g3 : ¬ q' < q := by omega
              clear h2
              go_wp2_with fail
              go_roundw
              case rel => first | exact ⟨k + 1, by omega, by go_num, H9.out, F9.out⟩ | exact ⟨_, _, _, _, ⟨k + 1, by omega, rfl, H9.out, F9.out⟩, rfl, rfl, rfl, by go_num⟩ | ((repeat apply Exists.intro); exact ⟨⟨k + 1, by omega, rfl, H9.out, F9.out⟩, rfl⟩)
              case measure => simp [intOf]; omega
          · have g2 : (k' == n) = false := by rw [beq_eq_false_iff_ne]; omega
            have g5 : decide (k' < n) = false := decide_eq_false hx1
            clear hb2 hx1
            go_wp2_with fail
            go_roundw
            case rel => first | exact ⟨k + 1, by omega, by go_num, H9.out, F9.out⟩ | exact ⟨_, _, _, _, ⟨k + 1, by omega, rfl, H9.out, F9.out⟩, rfl, rfl, rfl, by go_num⟩ | ((repeat apply Exists.intro); exact ⟨⟨k + 1, by omega, rfl, H9.out, F9.out⟩, rfl⟩)
            case measure => simp [intOf]; omega
      · obtain rfl : k = 12 := by omega
        have HF := Lib.hid hf
        clear hf hh'
        go_wp2_with fail
        refine (awake_c _).mono ?_
        rintro e w8 ⟨rfl, u8⟩
        have U8 := Lib.hid u8
        clear u8
        go_wp2_with fail
        go_ret
        exact ⟨rfl, Up.trans UR.out (Up.trans (Below.trans V7.out (HF.out.below (Nat.le_refl _) (by omega))) U8.out)⟩
end
end Go.Proofs.Ytcljkkojeleakaa
/- Slices of bytes, and bytes, that came in. -/
namespace Go.Proofs.Ytcljkkojeleakaa
section
open Go.ChangeShapes Go.WideShapes Go.ChangeAt Go.RowKit

section
variable {H : Type} {enc : TypeId × Value → H} {P : Program}
/-- a slice that came in, as rows of k cells -/
theorem open_rowsQ {w : World} {t e : TypeId} {fuel k : Nat} {Q : List Value → Prop} {v : Value} {x : DataW H × List MemPlace} (ht : P.underlying t = some (.slice e)) (hC : P.cellsOf e = k) (hk : 0 < k) (hQ : ∀ r, Q r → r.length = k)
    (hel : ∀ fuel cs y, DataW.trod enc P w 0 (fun _ => true) true fuel e cs = some y → Q cs) (h : DataW.trod enc P w 0 (fun _ => true) true fuel t [v] = some x) :
    ∃ p len cap rows, v = .slice p len cap ∧ len ≤ cap ∧ cap ≤ maxLen ∧ rows.length = len ∧ Row w p k rows ∧ (∀ r ∈ rows, Q r) ∧ ((x.1 = .nil ∧ cap = 0) ∨ ∃ el sp, x.1 = .slice el sp ∧ el.length + sp.length = cap) := by
  rcases Go.Deep.open_slice ht h with ⟨hv, rfl⟩ | ⟨a, len, cap, m, n, D, Pl, hv, -, hl, hm, hmm, rfl, hi⟩
  · simp only [List.cons.injEq, and_true] at hv
    exact ⟨none, 0, 0, [], hv, Nat.le_refl _, by simp [maxLen], rfl, fun i row hr => by simp at hr, fun r hr => by simp at hr, .inl ⟨rfl, rfl⟩⟩
  · simp only [List.cons.injEq, and_true] at hv
    simp only [if_true] at hmm
    subst hmm
    rw [hC] at hi
    have hch : ∀ i, ∃ cs, i < len → Q cs ∧ ∀ j c, cs[j]? = some c → w.cell? (a.add (i * k + j)) = some c := fun i => by
      by_cases hlt : i < len
      · obtain ⟨cs, hc, ht'⟩ := hi i (by omega)
        obtain ⟨-, hcl, hat⟩ := World.cells?_some hc
        refine ⟨cs, fun _ => ⟨hel _ _ _ ht', fun j c hj => ?_⟩⟩
        have hjl : j < k := by have := (List.getElem?_eq_some_iff.1 hj).1; omega
        rw [← Go.Deep.add_add, hat j hjl, hj]
      · exact ⟨[], fun h => absurd h hlt⟩
    obtain ⟨f, hf⟩ := Classical.axiomOfChoice hch
    refine ⟨some a, len, m, (List.range len).map f, hv, hl, hm, by simp, fun i row hr => ?_, fun r hr => ?_, .inr ⟨_, _, rfl, by simp; omega⟩⟩
    · rw [List.getElem?_map] at hr
      by_cases hlt : i < len
      · rw [List.getElem?_range hlt] at hr
        simp only [Option.map_some, Option.some.injEq] at hr
        subst hr
        obtain ⟨g2, g3⟩ := hf 0 (by omega)
        have g1 := hQ _ g2
        have h0 := g3 0 _ (List.getElem?_eq_getElem (by omega))
        have hs : a.spot = none := spot_of (by simpa [Addr.add] using h0)
        obtain ⟨b, off, sp⟩ := a
        simp only at hs
        subst hs
        refine ⟨b, off, rfl, fun j c hj => ?_⟩
        have := (hf i hlt).2 j c hj
        rwa [Addr.add_lit, ← Nat.add_assoc] at this
      · rw [List.getElem?_eq_none (by simp; omega)] at hr
        cases hr
    · simp only [List.mem_map, List.mem_range] at hr
      obtain ⟨i, hlt, rfl⟩ := hr
      exact (hf i hlt).1

/-- a row of one byte -/
def OneByte (r : List Value) : Prop := ∃ n, r = [.int .u8 n]
theorem bytes_of : ∀ {rows : List (List Value)}, (∀ r ∈ rows, OneByte r) → ∃ l : List Int, rows = bytes l
  | [], _ => ⟨[], rfl⟩
  | r :: rest, h => by
    obtain ⟨l, hl⟩ := bytes_of (rows := rest) (fun r hr => h r (by simp [hr]))
    obtain ⟨n, rfl⟩ := h r (by simp)
    exact ⟨n :: l, by rw [hl]; rfl⟩
theorem cellsByte : Try.prog.cellsOf 5 = 1 := by kernel_rfl
theorem bytesByte : Try.prog.bytesOf 5 = 1 := by kernel_rfl
set_option maxRecDepth 100000 in
theorem open_bytes {w : World} {base : Nat} {v : Value} {d : DataW H} {ps : List MemPlace} (hv : Value.okWide Try.prog w .any base 83 v) (h : DataW.Trod enc Try.prog w 0 (fun _ => true) true 83 v d ps) (hz : ∀ n ∈ DataW.weights Try.prog 83 d, n ≤ reachBytes) :
    ∃ p l c, v = .slice p l.length c ∧ Row w p 1 (bytes l) ∧ l.length ≤ 140737488355328 := by
  obtain ⟨fuel, hf⟩ := h
  obtain ⟨p0, n0, c0, rfl⟩ := okWide_slice Try.underlying83 hv
  have hf' : DataW.trod enc Try.prog w 0 (fun _ => true) true fuel 83 [.slice p0 n0 c0] = some (d, ps) := hf
  obtain ⟨p, len, cap, rows, e, a1, a2, a3, a4, a5, a6⟩ := open_rowsQ (Q := OneByte) Try.underlying83 cellsByte (by decide) (fun r ⟨n, e⟩ => by rw [e]; rfl) (fun fuel cs y hy => by
    obtain ⟨n, e, -, -⟩ := DataW.trod_int Try.underlying5 hy
    exact ⟨n, e⟩) hf'
  obtain ⟨l, rfl⟩ := bytes_of a5
  have q : (bytes l).length = l.length := by simp [bytes]
  rw [q] at a3
  subst a3
  have hr := room_of Try.underlying83 bytesByte a1 a6 hz
  exact ⟨p, l, cap, e, a4, by omega⟩
theorem byte_rng {n : Int} (h : (Lit.int .u8 n).wf = true) : 0 ≤ n ∧ n ≤ 255 := by
  simp [Lit.wf] at h
  have e1 : IntKind.u8.min = 0 := rfl
  have e2 : IntKind.u8.max = 255 := rfl
  omega
end
end
end Go.Proofs.Ytcljkkojeleakaa
namespace Go.Proofs.Ytcljkkojeleakaa
section
open Go.ChangeShapes Go.WideShapes Go.ChangeAt Go.RowKit

set_option maxRecDepth 100000 in
theorem asked_contract (H : Type) (enc : TypeId × Value → H) (W : World) (base : Nat) (args : Array Value) (ds gs : List (DataW H)) (before : List MemPlace)
    (hval : ∀ (j : Nat) t v, Try.f14.params[j]? = some t → args[j]? = some v → Value.okWide Try.prog W .any base t v)
    (hW : DataW.Whole enc Try.prog Try.f14.params.toList Rows.tideAskedSpec.vars false W args.toList ds gs before)
    (hsz0 : (DataW.weightsEach Try.prog (Try.f14.params.toList ++ Rows.tideAskedSpec.plain.varTypes Try.prog) (ds ++ gs)).all (· ≤ reachBytes) = true) :
    Calls Try.prog 14 args W fun e W' => ∃ v, e = .returned v ∧ Rows.tideAskedSpec.post enc Try.prog Try.f14 false true false false W args v W' := by
  have hW' := hW
  obtain ⟨p, q, hA0, hV, rfl, -, -⟩ := hW
  have hA : DataW.TrodAll enc Try.prog W 0 (fun _ => true) true Try.f14.params.toList args.toList ds p := hA0
  rw [Try.params14] at hA hval
  obtain ⟨v0, vs0, d0, ds0, p0, q0, hargs, rfl, rfl, h0, r0⟩ := trodAll_cons hA
  obtain ⟨v1, vs1, d1, ds1, p1, q1, rfl, rfl, rfl, h1, r1⟩ := trodAll_cons r0
  obtain ⟨rfl, rfl, rfl⟩ := trodAll_nil r1
  obtain rfl : args = #[v0, v1] := by cases args; simp_all
  obtain ⟨rfl, rfl⟩ := trodVars_none hV
  have hz : ∀ n ∈ DataW.weights Try.prog 83 d0, n ≤ reachBytes := fun n hn => by
    have := List.all_eq_true.1 hsz0 n (DataW.weights_mem_each (j := 0) (t := 83) rfl rfl n hn)
    simpa using this
  have hz' : ∀ n ∈ DataW.weights Try.prog 83 d1, n ≤ reachBytes := fun n hn => by
    have := List.all_eq_true.1 hsz0 n (DataW.weights_mem_each (j := 1) (t := 83) rfl rfl n hn)
    simpa using this
  obtain ⟨pb, l, c, rfl, hr, hl⟩ := open_bytes (hval 0 _ v0 rfl rfl) h0 hz
  obtain ⟨pb', l', c', rfl, hr', hl'⟩ := open_bytes (hval 1 _ v1 rfl rfl) h1 hz'
  refine (askedLaw_c l l' W hr hr' hl hl').mono fun e W' ⟨he, hbl⟩ => ?_
  exact ⟨_, he, law_post hW' rfl laidOut (by kernel_rfl) rfl Try.underlying4 ⟨rfl, rfl, rfl⟩ hbl⟩

set_option maxRecDepth 100000 in
theorem asked_lifted (os : Os) (started : os.Started) (H : Type) (enc : TypeId × Value → H) :
    ReturnsInHanded {} Try.checked os 14 .any (Rows.tideAskedSpec.pre6 enc Try.prog Try.f14 Rows.tideAskedRow.domain false) (Rows.tideAskedSpec.post enc Try.prog Try.f14 false true false false) := by
  refine returnsInHanded_of_change_sized (C := Try.checked) own started (by kernel_rfl) Try.func14
    (ChangeSpec.witness6 (enc := enc) (C := Try.checked) false ⟨#[], #[.slice none 0 0, .slice none 0 0], []⟩ 8 (by kernel_rfl) (by kernel_rfl) (by kernel_rfl) (by kernel_rfl)) ?_
  intro W base args ds gs before hval hW _ hsz _
  exact asked_contract H enc W base args ds gs before hval hW hsz

theorem asked_holds : Rows.TideAskedSaid :=
  OpenClaim.holds_of_wide 14 Try.f14 rfl rfl rfl rfl rfl rfl rfl ⟨rfl, rfl, rfl, rfl, rfl⟩ rfl rfl rfl rfl rfl (by kernel_rfl) Try.func14 (by kernel_rfl)
    (of_decide_eq_true (by kernel_rfl)) (by unfold Func.isWrapper; first | (rw [if_pos (by decide +kernel)]; kernel_rfl) | (rw [if_neg (by decide +kernel)]; exact ⟨rfl, rfl⟩))
    (fun os started H enc _ => asked_lifted os started H enc)
#print axioms asked_holds
end
end Go.Proofs.Ytcljkkojeleakaa
