/- Proved: whatever numbers are passed in, for the sands and for the looks, the law TideLooked returns true, and all arguments read behind the call as they read before it. Conditions: none but those that the given row states of itself. -/
import Derived.Test.YtcljkkojeleakaaLookedA
import Derived.Test.YtcljkkojeleakaaAwake
import Derived.Test.YtcljkkojeleakaaOpen
import Derived.Test.YtcljkkojeleakaaHeap
import Derived.Test.YtcljkkojeleakaaBase
import Derived.Test.YtcljkkojeleakaaHeight
import Derived.Test.YtcljkkojeleakaaChk2
import Derived.Test.YtcljkkojeleakaaPost
import Derived.Deep.Cut
import Derived.Deep.DeepCutAuto
import Derived.WalkKit
import Derived.WalkSpells
import Derived.WalkLawsBesides
import Derived.Deep.QuietTactic
import Derived.BigQuiet
import Derived.Lib.Hide
import Derived.Shelf.Abstract
import Derived.BigGuardPart
import Derived.Carry
import Derived.ChangeSame
import Derived.SizedLaws
import Derived.ProofKit
import Derived.OpenShut
import Derived.JoinedOf
import Derived.Deep.Slices
import Derived.RangeFuncNested
import Derived.RangeFuncBound
import Derived.RangeFuncCalls
import Derived.RangeFuncLeaves
import Derived.Shelf.RegionOpen
import Derived.OwnWalkIn
import Derived.TacticsInMore
import Derived.LoopNIn
import Derived.LoopIn
import Derived.StillTailTactics
import Derived.Deep.RegionHeld3
import Derived.StillTail
import Derived.RangeFuncWrites
import Derived.Laws.StructEq
import Derived.Deep.LoopGhost
import Derived.IntWalk
import Derived.RangeFuncBox
import Derived.ArgAppend
import Derived.Laws.CopyOwn
import Derived.OwnWalk
import Derived.Lib.SliceRun
import Derived.Maps.OwnOps
import Derived.Maps.OwnSet
import Derived.Deep.AppendSrc
import Derived.Deep.Upon
/- The law TideLooked returns true, whatever numbers are passed in. -/
namespace Go.Proofs.Ytcljkkojeleakaa
open Go.RowKit Go.Shelf

/-- looks in a row of their own, above all that is older -/
def LkAt (W : World) (B : Nat) (p : Option Addr) (l : List Lk) : Prop := l = [] ∨ ∃ g, p = some ⟨g, 0, none⟩ ∧ B ≤ g ∧ RowBlk W g 80 3 (lrows l)
theorem LkAt.of {W : World} {n₀ B c : Nat} {p : Option Addr} {l : List Lk} (h : W.ownsRow n₀ 80 3 (.slice p l.length c) l.length (lrows l).flatten) (hB : B ≤ n₀) : LkAt W B p l := by
  by_cases h0 : l = []
  · exact .inl h0
  · have e : (lrows l).length = l.length := by simp [lrows]
    have hp : 0 < l.length := List.length_pos_iff.2 h0
    rw [← e] at h
    obtain ⟨g, h1, h2, h3⟩ := RowBlk.of h (looks_len l) (by omega)
    exact .inr ⟨g, h1, by omega, h3⟩
theorem LkAt.row {W : World} {B : Nat} {p : Option Addr} {l : List Lk} (h : LkAt W B p l) : Row W p 3 (lrows l) := by
  rcases h with rfl | ⟨g, rfl, -, h⟩
  · exact Row.nil _ _ _
  · exact h.row
theorem LkAt.up {W W' : World} {B : Nat} {p : Option Addr} {l : List Lk} (h : LkAt W B p l) (u : Up W W') : LkAt W' B p l := by
  rcases h with rfl | ⟨g, h1, h2, h⟩
  · exact .inl rfl
  · exact .inr ⟨g, h1, h2, h.up u⟩
theorem lrows_set (l : List Lk) (i : Nat) (hi : i < l.length) (b : Bool) : (lrows l).set i (((lrows l)[i]'(by simp [lrows, hi])).set 2 (.bool b)) = lrows (l.set i (l[i].1, l[i].2.1, b)) := by
  unfold lrows
  rw [List.map_set]
  simp

/-- what a round's values hold, as they come about -/
def Lk17 (sv : Value) (gl ol n d k : Nat) (a b E : Int) : Nat → Value → Prop
  | 0, v => v = sv
  | 1, v => v = .slice (some ⟨gl, ol, none⟩) n d
  | 2, v => v = .int .i64 k
  | 3, v => v = .int .i64 ((k : Int) + 1)
  | 4, v => v = .slice (some ⟨gl, ol, none⟩) (k + 1) d
  | 5, v => v = .tuple #[.agg #[.int .i64 a, .int .i64 b], .int .i64 E]
  | 6, v => v = .tuple #[.agg #[.int .i64 a, .int .i64 b], .int .i64 E]
  | 7, v => v = .agg #[.int .i64 a, .int .i64 b]
  | 8, v => v = .int .i64 E
  | _, _ => True
/-- the variable that a round makes, and what is stored in it -/
def Made9 (B : Nat) (z0 z1 : List Value) (i j : Nat) (done : Nat → Bool) (W : World) (v : Value) : Prop := (done j = true → done i = true) ∧ (done i = true → ∃ X, v = .pointer (some ⟨X, 0, none⟩) ∧ B ≤ X ∧ Blk W X (if done j = true then z1 else z0) 24)
theorem upd_far {done : Nat → Bool} {m i : Nat} (h : m ≠ i) : upd done m i = done i := by
  have : (i == m) = false := beq_eq_false_iff_ne.2 (Ne.symm h)
  simp [upd, this]
theorem upd_same {done : Nat → Bool} {i : Nat} : upd done i i = true := by simp [upd]
theorem Made9.up {B : Nat} {z0 z1 : List Value} {i j m : Nat} {done : Nat → Bool} {W W' : World} {v : Value} (h : Made9 B z0 z1 i j done W v) (u : Up W W') (h1 : m ≠ i) (h2 : m ≠ j) : Made9 B z0 z1 i j (upd done m) W' v := by
  unfold Made9
  rw [upd_far h1, upd_far h2]
  refine ⟨h.1, fun hd => ?_⟩
  obtain ⟨X, a, b, c⟩ := h.2 hd
  exact ⟨X, a, b, c.up u⟩
theorem Made9.make {B : Nat} {z0 z1 : List Value} {i j : Nat} {done : Nat → Bool} {W : World} {v : Value} (h : Made9 B z0 z1 i j done W v) (hij : i ≠ j) (hd : done i = false) (hB : B ≤ W.heap.size) : Made9 B z0 z1 i j (upd done i) (W.alloc (.cells z0.toArray 24)) (.pointer (some ⟨W.heap.size, 0, none⟩)) := by
  unfold Made9
  have hj : done j = false := by
    cases hh : done j
    · rfl
    · rw [h.1 hh] at hd; cases hd
  rw [upd_far hij, upd_same, hj]
  exact ⟨fun _ => rfl, fun _ => ⟨_, rfl, hB, by simpa using Blk.new W z0 _⟩⟩
theorem Made9.store {B X : Nat} {z0 z1 : List Value} {i j : Nat} {done : Nat → Bool} {W : World} {v : Value} (hij : i ≠ j) (hi : done i = true) (hv : v = .pointer (some ⟨X, 0, none⟩)) (hB : B ≤ X) (hb : Blk W X z1 24) : Made9 B z0 z1 i j (upd done j) W v := by
  unfold Made9
  rw [upd_far (Ne.symm hij), upd_same, hi]
  exact ⟨fun _ => rfl, fun _ => ⟨X, hv, hB, by simpa using hb⟩⟩
theorem facts_keep {P : Nat → Value → Prop} {done : Nat → Bool} {v : Nat → Value} {i : Nat} (h : ∀ k, done k = true → P k (v k)) (hx : P i (v i)) : ∀ k, upd done i k = true → P k (v k) := by
  intro k hk
  by_cases e : i = k
  · subst e; exact hx
  · rw [upd_far e] at hk
    exact h k hk
/-- what the values of a round that leaves one look out hold -/
def Lk42 (sv so : Value) (k : Nat) (a b : Int) : Nat → Value → Prop
  | 0, v => v = sv
  | 1, v => v = so
  | 3, v => v = .int .i64 k
  | 4, v => v = .int .i64 k
  | 5, v => v = .int .i64 ((k : Int) + 1)
  | 7, v => v = .tuple #[.agg #[.int .i64 a, .int .i64 b], .int .i64 0]
  | 8, v => v = .tuple #[.agg #[.int .i64 a, .int .i64 b], .int .i64 0]
  | 9, v => v = .agg #[.int .i64 a, .int .i64 b]
  | 10, v => v = .int .i64 0
  | _, _ => True
/-- the copy, and the copy with one look less -/
def Cut2 (B n k : Nat) (O : List Lk) (done : Nat → Bool) (W : World) (v2 v6 : Value) : Prop := (done 6 = true → done 2 = true) ∧ (done 12 = false → done 2 = true → ∃ g d, v2 = .slice (some ⟨g, 0, none⟩) n d ∧ B ≤ g ∧ (done 6 = false → ∃ B', W.ownsRow B' 80 3 (.slice (some ⟨g, 0, none⟩) n d) n (lrows O).flatten) ∧
  (done 6 = true → ∃ d', v6 = .slice (some ⟨g, 0, none⟩) (n - 1) d' ∧ Row W (some ⟨g, 0, none⟩) 3 (lrows (O.eraseIdx k))))
theorem Cut2.up {B n k m : Nat} {O : List Lk} {done : Nat → Bool} {W W' : World} {v2 v6 : Value} (h : Cut2 B n k O done W v2 v6) (u : Up W W') (h2 : m ≠ 2) (h6 : m ≠ 6) (h12 : m ≠ 12) : Cut2 B n k O (upd done m) W' v2 v6 := by
  unfold Cut2
  rw [upd_far h2, upd_far h6, upd_far h12]
  refine ⟨h.1, fun a b => ?_⟩
  obtain ⟨g, d, x1, x2, x3, x4⟩ := h.2 a b
  refine ⟨g, d, x1, x2, fun e => ?_, fun e => ?_⟩
  · obtain ⟨B', y⟩ := x3 e; exact ⟨B', ownsRow_up y u⟩
  · obtain ⟨d', y1, y2⟩ := x4 e; exact ⟨d', y1, y2.up u⟩
theorem Cut2.clone {B n k g d B' : Nat} {O : List Lk} {done : Nat → Bool} {W W' : World} {v2 v6 : Value} (h : Cut2 B n k O done W v2 v6) (hd : done 2 = false) (hg : B ≤ g) (ho : W'.ownsRow B' 80 3 (.slice (some ⟨g, 0, none⟩) n d) n (lrows O).flatten) : Cut2 B n k O (upd done 2) W' (.slice (some ⟨g, 0, none⟩) n d) v6 := by
  have h6 : done 6 = false := by
    cases hh : done 6
    · rfl
    · rw [h.1 hh] at hd; cases hd
  unfold Cut2
  rw [upd_same, upd_far (by decide), upd_far (by decide), h6]
  exact ⟨fun _ => rfl, fun _ _ => ⟨g, d, rfl, hg, fun _ => ⟨B', ho⟩, fun e => by cases e⟩⟩
theorem Cut2.cut {B n k g d d' : Nat} {O : List Lk} {done : Nat → Bool} {W W' : World} {v2 v6 : Value} (_h : Cut2 B n k O done W v2 v6) (h2 : done 2 = true) (hv : v2 = .slice (some ⟨g, 0, none⟩) n d) (hg : B ≤ g) (hr : Row W' (some ⟨g, 0, none⟩) 3 (lrows (O.eraseIdx k))) : Cut2 B n k O (upd done 6) W' v2 (.slice (some ⟨g, 0, none⟩) (n - 1) d') := by
  unfold Cut2
  rw [upd_same, upd_far (by decide), upd_far (by decide), h2]
  exact ⟨fun _ => rfl, fun _ _ => ⟨g, d, hv, hg, (fun e => by cases e), fun _ => ⟨d', rfl, hr⟩⟩⟩
theorem Cut2.store {B n k : Nat} {O : List Lk} {done : Nat → Bool} {W W' : World} {v2 v6 : Value} (h : Cut2 B n k O done W v2 v6) : Cut2 B n k O (upd done 12) W' v2 v6 := by
  unfold Cut2
  rw [upd_same, upd_far (by decide), upd_far (by decide)]
  exact ⟨h.1, fun e => by cases e⟩
/-- the variable is not where the copy is -/
theorem Made9.cut {B B' g n d : Nat} {O : List Lk} {z0 z1 : List Value} {i j m : Nat} {done : Nat → Bool} {W W' : World} {v : Value} (h : Made9 B z0 z1 i j done W v) (ho : W.ownsRow B' 80 3 (.slice (some ⟨g, 0, none⟩) n d) n (lrows O).flatten) (hg : W.grownBy W' (some g)) (h1 : m ≠ i) (h2 : m ≠ j) : Made9 B z0 z1 i j (upd done m) W' v := by
  unfold Made9
  rw [upd_far h1, upd_far h2]
  refine ⟨h.1, fun hd => ?_⟩
  obtain ⟨X, a, b, hc⟩ := h.2 hd
  refine ⟨X, a, b, ?_⟩
  have hne : X ≠ g := fun e => by
    rcases ho.2 with ⟨h0, -⟩ | ⟨g', cap, cur, h0, -, hh, -⟩
    · simp at h0
    · simp only [Value.slice.injEq, Option.some.injEq, Addr.mk.injEq, and_true, true_and] at h0
      obtain ⟨rfl, rfl⟩ := h0
      subst e
      have hc' : W.heap[X]? = some (.cells _ 24 (0, 0)) := hc
      rw [hh] at hc'
      simp at hc'
  exact (hg.block X hc.lt (fun e => hne (by simpa using e))).trans hc
/-- what is stored is stored when both calls are through -/
def Late (done : Nat → Bool) : Prop := done 12 = true → done 6 = true ∧ done 7 = true
theorem Late.up {done : Nat → Bool} {m : Nat} (h : Late done) (hm : m ≠ 12) : Late (upd done m) := by
  unfold Late
  rw [upd_far hm]
  intro e
  obtain ⟨a, b⟩ := h e
  exact ⟨by simp [upd, a], by simp [upd, b]⟩
theorem Late.store {done : Nat → Bool} (h6 : done 6 = true) (h7 : done 7 = true) : Late (upd done 12) := fun _ => ⟨by simp [upd, h6], by simp [upd, h7]⟩
section
variable {p p' : Option Addr} {c c' : Nat}
set_option maxRecDepth 100000 in
set_option maxHeartbeats 40000000 in
theorem lookedLaw_c (l l' : List Int) (T : Int) (w : World) (hr : Row w p 1 (bytes l)) (hr' : Row w p' 1 (bytes l')) (hl : l.length ≤ 140737488355328) (hl' : l'.length ≤ 140737488355328) (_t0 : 0 ≤ T) (_t1 : T ≤ 255) :
    Calls Try.prog 13 #[.slice p l.length c, .slice p' l'.length c', .int .u8 T] w fun e w' => e = .returned (.bool true) ∧ Up w w' := by
  have HP := Lib.hid (fun W (u : Up w W) => pile_c p c l W (hr.up u))
  have HP' := Lib.hid (fun W (u : Up w W) => pile_c p' c' l' W (hr'.up u))
  clear hr hr'
  go_enter Try.func13, Try.ntmps13
  go_wp2_with fail
  refine (HP.out _ (by (repeat (first | exact Below.refl _ _ | (with_reducible refine Below.drewN' ?_ _) | (with_reducible refine Below.drew ?_) | (with_reducible refine Below.setCell ?_ (by first | exact Nat.le_refl _ | omega | (with_reducible (repeat (first | refine sz_alloc ?_ | refine sz_setCell ?_ | refine sz_drew ?_ | refine sz_drewN ?_)); first | exact Nat.le_refl _ | omega) | (simp only [World.size_alloc, World.size_setCell, World.size_drew, size_drewN']; omega)) _) | (with_reducible refine Below.alloc ?_ (by first | exact Nat.le_refl _ | omega | (with_reducible (repeat (first | refine sz_alloc ?_ | refine sz_setCell ?_ | refine sz_drew ?_ | refine sz_drewN ?_)); first | exact Nat.le_refl _ | omega) | (simp only [World.size_alloc, World.size_setCell, World.size_drew, size_drewN']; omega)) _) | assumption)))).mono ?_
  rintro e w1 ⟨rfl, g1, u1, s1, ap⟩
  have U1 := Lib.hid u1
  have G1 := Lib.hid g1
  have AP := Lib.hid ap
  clear g1 u1 ap HP
  go_wp2_with fail
  refine (made_c (p := p) (c := c) (l := l) w.heap.size 6 9 w1 G1.out (AP.out.mono (by omega)) hl (by decide) (by decide) (by decide) (by decide)).mono ?_
  rintro e w2 ⟨s, qT, qF, qS, dT, dF, dS, rfl, mk, l2, -, -, f2⟩
  have MK := Lib.hid mk
  have L2 := Lib.hid l2
  have U2 : Hid (Up w w2) := Below.trans U1.out (f2.below (Nat.le_refl _) (by omega))
  have OK := Lib.hid (mk.ok (by decide) (by decide))
  have m2 := mk.t2
  have m4 := mk.t4
  have mlo := mk.lo
  have mhi := mk.hi
  have mf1 := mk.f1
  have mf6 := mk.fn
  obtain ⟨gF, oF, rfl, -⟩ := l2.rf.int 0 (by omega)
  clear mk l2 f2 G1 AP U1 s1
  unfold sdVal
  go_wp2_with fail
  have BS : Hid (Blk (w2.alloc (.cells #[.slice qT s.table.length dT, .int .i64 s.lo, .int .i64 s.hi, .slice (some ⟨gF, oF, none⟩) s.floors.length dF, .slice qS s.sills.length dS] 28)) w2.heap.size (sdCells s qT (some ⟨gF, oF, none⟩) qS dT dF dS) 28) := Blk.new w2 (sdCells s qT (some ⟨gF, oF, none⟩) qS dT dF dS) 28
  have LS : Hid (Lists (w2.alloc (.cells #[.slice qT s.table.length dT, .int .i64 s.lo, .int .i64 s.hi, .slice (some ⟨gF, oF, none⟩) s.floors.length dF, .slice qS s.sills.length dS] 28)) s qT (some ⟨gF, oF, none⟩) qS dT dF dS) := L2.out.up (by (repeat (first | exact Below.refl _ _ | (with_reducible refine Below.drewN' ?_ _) | (with_reducible refine Below.drew ?_) | (with_reducible refine Below.setCell ?_ (by first | exact Nat.le_refl _ | omega | (with_reducible (repeat (first | refine sz_alloc ?_ | refine sz_setCell ?_ | refine sz_drew ?_ | refine sz_drewN ?_)); first | exact Nat.le_refl _ | omega) | (simp only [World.size_alloc, World.size_setCell, World.size_drew, size_drewN']; omega)) _) | (with_reducible refine Below.alloc ?_ (by first | exact Nat.le_refl _ | omega | (with_reducible (repeat (first | refine sz_alloc ?_ | refine sz_setCell ?_ | refine sz_drew ?_ | refine sz_drewN ?_)); first | exact Nat.le_refl _ | omega) | (simp only [World.size_alloc, World.size_setCell, World.size_drew, size_drewN']; omega)) _) | assumption)))
  have UR : Hid (Up w (w2.alloc (.cells #[.slice qT s.table.length dT, .int .i64 s.lo, .int .i64 s.hi, .slice (some ⟨gF, oF, none⟩) s.floors.length dF, .slice qS s.sills.length dS] 28))) := Up.trans U2.out (by (repeat (first | exact Below.refl _ _ | (with_reducible refine Below.drewN' ?_ _) | (with_reducible refine Below.drew ?_) | (with_reducible refine Below.setCell ?_ (by first | exact Nat.le_refl _ | omega | (with_reducible (repeat (first | refine sz_alloc ?_ | refine sz_setCell ?_ | refine sz_drew ?_ | refine sz_drewN ?_)); first | exact Nat.le_refl _ | omega) | (simp only [World.size_alloc, World.size_setCell, World.size_drew, size_drewN']; omega)) _) | (with_reducible refine Below.alloc ?_ (by first | exact Nat.le_refl _ | omega | (with_reducible (repeat (first | refine sz_alloc ?_ | refine sz_setCell ?_ | refine sz_drew ?_ | refine sz_drewN ?_)); first | exact Nat.le_refl _ | omega) | (simp only [World.size_alloc, World.size_setCell, World.size_drew, size_drewN']; omega)) _) | assumption)))
  generalize (w2.alloc (.cells #[.slice qT s.table.length dT, .int .i64 s.lo, .int .i64 s.hi, .slice (some ⟨gF, oF, none⟩) s.floors.length dF, .slice qS s.sills.length dS] 28)) = w3 at *
  generalize w2.heap.size = M at *
  clear L2 U2 w2
  refine (HP'.out w3 UR.out).mono ?_
  rintro e w4 ⟨rfl, g4, u4, s4, ap4⟩
  have AP := Lib.hid ap4
  have G4 := Lib.hid g4
  have V4 := Lib.hid u4
  have GA : Hid (GatesAre s (lvls s 62)) := Lib.hid (gates_are OK.out MK.out.floors (fun x hx => (MK.out.sills x hx).2.2.2.2))
  have gl : (lvls s 62).length = s.floors.length := lvls_len OK.out 62
  have HX : Hid ((0 < s.table.length → ∀ b off, qT = some ⟨b, off, none⟩ → b ≠ w3.heap.size) ∧ (0 < s.floors.length → ∀ b off, (some ⟨gF, oF, none⟩ : Option Addr) = some ⟨b, off, none⟩ → b ≠ w3.heap.size) ∧ (0 < s.sills.length → ∀ b off, qS = some ⟨b, off, none⟩ → b ≠ w3.heap.size)) :=
    Lib.hid ⟨fun h0 b off e => by have := LS.out.rt.lt (pairs_pos _) (by simpa [pairs] using h0) e; omega, fun h0 b off e => by have := LS.out.rf.lt (ints_pos _) (by simpa [ints] using h0) e; omega, fun h0 b off e => by have := LS.out.rs.lt (triples_pos _) (by simpa [triples] using h0) e; omega⟩
  obtain ⟨c0, c1, c2, c3, c4⟩ := five (BS.out.up u4)
  have sz4 : w3.heap.size < w4.heap.size := by omega
  clear g4 ap4 HP' u4 MK
  go_wp2_with fail
  refine region_tail (fun W' => W'.cell? ⟨M, 0, none⟩ = some (.slice qT s.table.length dT) ∧ W'.cell? ⟨M, 1, none⟩ = some (.int .i64 s.lo) ∧ W'.cell? ⟨M, 2, none⟩ = some (.int .i64 s.hi) ∧ W'.cell? ⟨M, 3, none⟩ = some (.slice (some ⟨gF, oF, none⟩) s.floors.length dF) ∧ W'.cell? ⟨M, 4, none⟩ = some (.slice qS s.sills.length dS)) 13 mixed (by kernel_rfl) ⟨c0, c1, c2, c3, c4⟩ (fun hHeld => ?_)
  refine wpAnyG_take 0 34 (v := ?_) rfl rfl (by kernel_rfl) (fun _ _ _ h => h) (Or.inl ⟨by rfl, ?_⟩) (by assumption) ?_
  rotate_left
  · (intro w' hSw; (try dsimp only at hSw); go_split_ands; go_simp; try with_reducible rfl)
  try simp only [List.setIfInBounds_toArray, List.set_cons_zero, List.set_cons_succ]
  refine wpAnyG_take 1 35 (v := ?_) rfl rfl (by kernel_rfl) (fun _ _ _ h => h) (Or.inl ⟨by rfl, ?_⟩) (by assumption) ?_
  rotate_left
  · (intro w' hSw; (try dsimp only at hSw); go_split_ands; go_simp; try with_reducible rfl)
  try simp only [List.setIfInBounds_toArray, List.set_cons_zero, List.set_cons_succ]
  refine wpAnyG_take 2 36 (v := ?_) rfl rfl (by kernel_rfl) (fun _ _ _ h => h) (Or.inl ⟨by rfl, ?_⟩) (by assumption) ?_
  rotate_left
  · (intro w' hSw; (try dsimp only at hSw); go_split_ands; go_simp; try with_reducible rfl)
  try simp only [List.setIfInBounds_toArray, List.set_cons_zero, List.set_cons_succ]
  refine wpAnyG_take 4 38 (v := ?_) rfl rfl (by kernel_rfl) (fun _ _ _ h => h) (Or.inl ⟨by rfl, ?_⟩) (by assumption) ?_
  rotate_left
  · (intro w' hSw; (try dsimp only at hSw); go_split_ands; go_simp; try with_reducible rfl)
  try simp only [List.setIfInBounds_toArray, List.set_cons_zero, List.set_cons_succ]
  refine wpAnyG_take 5 39 (v := ?_) rfl rfl (by kernel_rfl) (fun _ _ _ h => h) (Or.inl ⟨by rfl, ?_⟩) (by assumption) ?_
  rotate_left
  · (intro w' hSw; (try dsimp only at hSw); go_split_ands; go_simp; try with_reducible rfl)
  try simp only [List.setIfInBounds_toArray, List.set_cons_zero, List.set_cons_succ]
  refine wpAnyG_take 6 40 (v := ?_) rfl rfl (by kernel_rfl) (fun _ _ _ h => h) (Or.inl ⟨by rfl, ?_⟩) (by assumption) ?_
  rotate_left
  · (intro w' hSw; (try dsimp only at hSw); go_split_ands; go_simp; try with_reducible rfl)
  try simp only [List.setIfInBounds_toArray, List.set_cons_zero, List.set_cons_succ]
  refine wpAnyG_take 7 41 (v := ?_) rfl rfl (by kernel_rfl) (fun _ _ _ h => h) (Or.inl ⟨by rfl, ?_⟩) (by assumption) ?_
  rotate_left
  · (intro w' hSw; (try dsimp only at hSw); go_split_ands; go_simp; try with_reducible rfl)
  try simp only [List.setIfInBounds_toArray, List.set_cons_zero, List.set_cons_succ]
  refine wpAnyG_take 8 42 (v := ?_) rfl rfl (by kernel_rfl) (fun _ _ _ h => h) (Or.inl ⟨by rfl, ?_⟩) (by assumption) ?_
  rotate_left
  · (intro w' hSw; (try dsimp only at hSw); go_split_ands; go_simp; try with_reducible rfl)
  try simp only [List.setIfInBounds_toArray, List.set_cons_zero, List.set_cons_succ]
  refine wpAnyG_take 9 43 (v := ?_) rfl rfl (by kernel_rfl) (fun _ _ _ h => h) (Or.inl ⟨by rfl, ?_⟩) (by assumption) ?_
  rotate_left
  · (intro w' hSw; (try dsimp only at hSw); go_split_ands; go_simp; try with_reducible rfl)
  try simp only [List.setIfInBounds_toArray, List.set_cons_zero, List.set_cons_succ]
  refine wpAnyG_take 10 44 (v := ?_) rfl rfl (by kernel_rfl) (fun _ _ _ h => h) (Or.inl ⟨by rfl, ?_⟩) (by assumption) ?_
  rotate_left
  · (intro w' hSw; (try dsimp only at hSw); go_split_ands; go_simp; try with_reducible rfl)
  try simp only [List.setIfInBounds_toArray, List.set_cons_zero, List.set_cons_succ]
  refine wpAnyG_do 3 rfl (by kernel_rfl) (fun K hK => ?_)
  rw [if_pos (by rfl)]
  go_simp
  have v4 : Up w3 w4.drew := Up.trans V4.out (Below.refl _ _).drew
  refine (gates_c s w4.drew OK.out (LS.out.up v4)).mono ?_
  rintro e w6 ⟨g, rfl, bg, lg, u6⟩
  have lg' : w4.heap.size ≤ g := lg
  have ng : g ≠ w3.heap.size := by omega
  have BG := Lib.hid bg
  have G6 := Lib.hid (G4.out.up (Up.trans ((Below.refl _ _).drew) u6))
  have V6 := Lib.hid (Up.trans v4 u6)
  have z6 : w3.heap.size < w6.heap.size := by have := u6.size; have : w4.drew.heap.size = w4.heap.size := rfl; omega
  obtain ⟨d0, d1, d2, d3, d4⟩ := five (BS.out.up V6.out)
  refine hK.out _ _ ⟨d0, d1, d2, d3, d4⟩ (fun hHeld => ?_)
  clear hK K
  refine wpAnyG_do 11 rfl (by kernel_rfl) (fun K hK => ?_)
  rw [if_pos (by rfl)]
  go_simp
  refine (from_c w3.heap.size p' c' l' s.lo s.hi w6 G6.out (AP.out.mono (by omega)) hl' (by omega) (by omega) (by omega) (by omega)).mono ?_
  rintro e w5 ⟨tr, ⟨tr0, tr1, -⟩, rfl, g5, f5⟩
  have tr1' := tr1 (by omega)
  have G5 := Lib.hid g5
  have V5 : Hid (Up w3 w5) := Lib.hid (Below.trans V6.out (f5.below (Nat.le_refl _) (by omega)))
  have z5 : w3.heap.size < w5.heap.size := by have := f5.size; omega
  have BG5 := Lib.hid (f5.blk BG.out BG.out.lt ng)
  obtain ⟨e0, e1, e2, e3, e4⟩ := five (BS.out.up V5.out)
  refine hK.out _ _ ⟨e0, e1, e2, e3, e4⟩ (fun hHeld => ?_)
  clear hK K
  refine wpAnyG_do 12 rfl (by kernel_rfl) (fun K hK => ?_)
  rw [if_pos (by rfl)]
  go_simp
  refine (looked_no w3.heap.size s (lvls s 62) s.floors.length gl g s.floors.length tr 5 w5 OK.out G5.out (AP.out.mono (by omega)) hl' (LS.out.up V5.out) HX.out ng (Row.of_blk BG5.out) rfl (by omega) (by omega) (by decide) (by decide)).mono ?_
  rintro e w7 ⟨lk, pL, dL, rfl, lk5, -, hLk, -, f7, ho7, hd1, hd2⟩
  have V7 : Hid (Up w3 w7) := Lib.hid (Below.trans V5.out (f7.below (Nat.le_refl _) (by omega)))
  obtain ⟨e0, e1, e2, e3, e4⟩ := five (BS.out.up V7.out)
  refine hK.out _ _ ⟨e0, e1, e2, e3, e4⟩ (fun hHeld => ?_)
  clear hK K
  have lk6 : lk.length ≤ 10 := by omega
  have HTR : Hid (∀ x ∈ lk, (truV s x).1 ≤ tr ∧ tr ≤ (truV s x).2) := Lib.hid (fun x hx => look_in OK.out GA.out tr0 tr1' (hLk x hx))
  have HOK : Hid (∀ x ∈ lk, okL s x) := Lib.hid (fun x hx => lookIs_ok (hLk x hx))
  have LK7 : Hid (LkAt w7 w3.heap.size pL lk) := Lib.hid (LkAt.of ho7 (by omega))
  refine wpAnyG_tail (by kernel_rfl) ?_
  clear hHeld c0 c1 c2 c3 c4 d0 d1 d2 d3 d4 e0 e1 e2 e3 e4 f7 ho7 hLk f5 g5 G5 V5 BG5 BG G6 V6 G4 V4 v4 AP u6 bg lg lg' HX GA gl ng z5 z6 sz4 tr0 tr1 tr1'
  change wpList _ _ _ [_] _ _
  obtain ⟨c0, c1, c2, c3, c4⟩ := five (BS.out.up V7.out)
  go_wp2_with fail
  refine (Clash_c s lk pL dL w7 (LS.out.up V7.out) LK7.out.row hd1 hd2).mono ?_
  rintro e w8 ⟨r, q, E, rfl, hc, -, u8⟩
  obtain ⟨hci, hca⟩ := two_cases OK.out lk6 HOK.out hc
  have hr0 := clash_told HTR.out hci
  subst hr0
  have hE : E = 6 := by rcases hca with ⟨-, h, -⟩ | ⟨h, -⟩; exact h; exact absurd rfl h
  subst hE
  have V8 := Lib.hid (Up.trans V7.out u8)
  have LK8 := Lib.hid (LK7.out.up u8)
  clear hci hca hc u8 V7 LK7 HTR c0 c1 c2 c3 c4
  go_wp2_with fail
  have LKE := lk6
  go_loopw [57] (fun i wr => ∃ (k : Nat) (lm : List Lk), i = .int .i64 k ∧ k ≤ lk.length ∧ lm.length = lk.length ∧ (∀ x ∈ lm, okL s x) ∧ LkAt wr w3.heap.size pL lm ∧ Up w3 wr) (fun i _ => lk.length - (intOf i).toNat)
  case atStart => exact ⟨0, lk, rfl, Nat.zero_le _, rfl, HOK.out, LK8.out, V8.out⟩
  case round =>
    obtain ⟨k, lm, rfl, hk, hlm, hok, hat, hu⟩ := hrel
    have HLM := Lib.hid hlm
    have HOM := Lib.hid hok
    have HAT := Lib.hid hat
    have HU := Lib.hid hu
    clear hlm hok hat hu
    by_cases hlt : k < lk.length
    · have q1 : (k : Int) < (lk.length : Int) := by omega
      have hAT := HAT.out
      rcases hAT with h0 | ⟨gl, rfl, gB, rb⟩
      · exfalso
        have h1 := HLM.out
        rw [h0] at h1
        simp at h1
        omega
      have hkm : k < lm.length := by have := HLM.out; omega
      have xc : wr.cell? ⟨gl, k * 3 + 2, none⟩ = some (.bool lm[k].2.2) := rb.cell (i := k) (j := 2) (row := [.int .i64 lm[k].1, .int .i64 lm[k].2.1, .bool lm[k].2.2]) (by simp [lrows, hkm]) rfl
      have xf := rb.free
      have xl := rb.lt
      have HS : Hid (∀ b, LkAt (wr.setCell ⟨gl, k * 3 + 2, none⟩ (.bool b)) w3.heap.size (some ⟨gl, 0, none⟩) (lm.set k (lm[k].1, lm[k].2.1, b))) := Lib.hid (fun b => .inr ⟨gl, rfl, gB, by
        have h := rb.set (i := k) (j := 2) (by simp [lrows, hkm]) (by decide) (.bool b)
        rw [lrows_set lm k hkm b] at h
        exact h⟩)
      have HSU : Hid (∀ b, Up w3 (wr.setCell ⟨gl, k * 3 + 2, none⟩ (.bool b))) := Lib.hid (fun b => HU.out.setCell gB _)
      have HSO : Hid (∀ b, ∀ x ∈ lm.set k (lm[k].1, lm[k].2.1, b), okL s x) := Lib.hid (fun b x hx => by
        rcases List.mem_or_eq_of_mem_set hx with h | rfl
        · exact HOM.out x h
        · exact HOM.out lm[k] (List.getElem_mem hkm))
      clear rb
      generalize lm[k] = y at *
      go_wp2_with fail
      · exact ⟨⟨k + 1, lm.set k (y.1, y.2.1, !y.2.2), by go_num, by omega, by rw [List.length_set]; exact HLM.out, HSO.out _, HS.out _, HSU.out _⟩, by simp [intOf]; omega⟩
      · exact ⟨⟨k + 1, lm, by go_num, by omega, HLM.out, HOM.out, HAT.out, HU.out⟩, by simp [intOf]; omega⟩
    · obtain rfl : k = lk.length := by omega
      have hlm := HLM.out
      clear HLM HOK LK8 V8 hlt hk LKE
      generalize lk.length = n at *
      subst hlm
      have RL := Lib.hid HAT.out.row
      clear HAT
      obtain ⟨c0, c1, c2, c3, c4⟩ := five (BS.out.up HU.out)
      have lM8 : M < wr.heap.size := (BS.out.up HU.out).lt
      go_upto_block 2 with fail
      have BZ : Hid (Blk (wr.alloc (.cells #[.int .i64 s.lo, .int .i64 s.hi] 24)) wr.heap.size [.int .i64 s.lo, .int .i64 s.hi] 24) := Lib.hid (Blk.new wr [.int .i64 s.lo, .int .i64 s.hi] 24)
      have UZ : Hid (Up wr (wr.alloc (.cells #[.int .i64 s.lo, .int .i64 s.hi] 24))) := Lib.hid (by (repeat (first | exact Below.refl _ _ | (with_reducible refine Below.drewN' ?_ _) | (with_reducible refine Below.drew ?_) | (with_reducible refine Below.setCell ?_ (by first | exact Nat.le_refl _ | omega | (with_reducible (repeat (first | refine sz_alloc ?_ | refine sz_setCell ?_ | refine sz_drew ?_ | refine sz_drewN ?_)); first | exact Nat.le_refl _ | omega) | (simp only [World.size_alloc, World.size_setCell, World.size_drew, size_drewN']; omega)) _) | (with_reducible refine Below.alloc ?_ (by first | exact Nat.le_refl _ | omega | (with_reducible (repeat (first | refine sz_alloc ?_ | refine sz_setCell ?_ | refine sz_drew ?_ | refine sz_drewN ?_)); first | exact Nat.le_refl _ | omega) | (simp only [World.size_alloc, World.size_setCell, World.size_drew, size_drewN']; omega)) _) | assumption)))
      clear c0 c1 c2 c3 c4 lM8
      obtain ⟨w8, rfl⟩ : ∃ x, x = wr := ⟨wr, rfl⟩
      generalize (w8.alloc (.cells #[.int .i64 s.lo, .int .i64 s.hi] 24)) = w9 at *

      go_cut [] (fun wx => Up w8 wx)
      case first =>
        go_wp2_with fail
        go_loopw [80] (fun i wx => ∃ k : Nat, i = .int .i64 k ∧ k ≤ lm.length ∧ Blk wx w8.heap.size [.int .i64 (lkOf s (s.lo, s.hi) (lm.take k)).1, .int .i64 (lkOf s (s.lo, s.hi) (lm.take k)).2] 24 ∧ Up w8 wx) (fun i _ => lm.length - (intOf i).toNat)
        case atStart => exact ⟨0, rfl, Nat.zero_le _, BZ.out, UZ.out⟩
        case round =>
          obtain ⟨k, rfl, hk, hz, hu⟩ := hrel
          have HZ := Lib.hid hz
          have HUk := Lib.hid hu
          clear hz hu
          by_cases hlt : k < lm.length
          · have q1 : (k : Int) < (lm.length : Int) := by omega
            obtain ⟨gl, ol, rfl, -⟩ := RL.out.look k hlt
            have k1 : (0 : Int) ≤ (k : Int) + 1 := by omega
            have k2 : (k : Int) + 1 ≤ (dL : Int) := by omega
            have k3 : ((k : Int) + 1).toNat = k + 1 := by omega
            have sk : IntKind.i64.wrap ((k : Int) + 1) = (k : Int) + 1 := IntWalk.i64_in _ (by simp only [maxLen] at hd2; omega)
            have hps := pre_some OK.out (i := k + 1) (by omega) HOM.out
            have hpi := pre_step (s := s) k hlt
            have HLk : Hid (∀ W, Up w8 W → Calls Try.prog 54 #[sdVal s qT (some ⟨gF, oF, none⟩) qS dT dF dS, .slice (some ⟨gl, ol, none⟩) (k + 1) dL] W fun e w' => e = .returned (.tuple #[.agg #[.int .i64 (looksV s (lm.take (k + 1))).1, .int .i64 (looksV s (lm.take (k + 1))).2], .int .i64 (looksE s (lm.take (k + 1)))]) ∧ Up W w') := Lib.hid (fun W u => by
              have h := Looks_c s (lm.take (k + 1)) (some ⟨gl, ol, none⟩) dL W (LS.out.up (Up.trans HU.out u)) (rows_take (RL.out.up u) (k + 1)) (by rw [List.length_take]; simp only [maxLen]; omega)
              rwa [List.length_take, Nat.min_eq_left (by omega : k + 1 ≤ lm.length)] at h)
            have HPS := Lib.hid hps
            have HPI := Lib.hid hpi
            clear hps hpi
            obtain ⟨E, hE⟩ : ∃ E, looksE s (lm.take (k + 1)) = E := ⟨_, rfl⟩
            obtain ⟨A, hA⟩ : ∃ A, (looksV s (lm.take (k + 1))).1 = A := ⟨_, rfl⟩
            obtain ⟨B, hB⟩ : ∃ B, (looksV s (lm.take (k + 1))).2 = B := ⟨_, rfl⟩
            rw [hE, hA, hB] at HLk
            have HEAB : Hid (looksE s (lm.take (k + 1)) = E ∧ (looksV s (lm.take (k + 1))).1 = A ∧ (looksV s (lm.take (k + 1))).2 = B) := Lib.hid ⟨hE, hA, hB⟩
            clear hE hA hB
            go_upto_region 17 with fail
            refine region_inv4 11 (fun done a W => ∃ V : Nat → Value, a = ⟨#[.slice p l.length c, .slice p' l'.length c', .int .u8 T, undef, undef, undef, u6, .pointer (some ⟨M, 0, none⟩), .pointer (some ⟨w3.heap.size, 0, none⟩), .slice (some ⟨gl, ol, none⟩) lm.length dL, .slice q 0 0, .int .i64 6, u12, .pointer (some ⟨w8.heap.size, 0, none⟩), .int .i64 ↑k, V 9, u16, undef, undef, undef, undef, undef, undef, undef, undef, undef, undef, undef, undef, .slice p l.length c, .pointer (some ⟨w.heap.size, 0, none⟩), .agg #[.slice qT s.table.length dT, .int .i64 s.lo, .int .i64 s.hi, .slice (some ⟨gF, oF, none⟩) s.floors.length dF, .slice qS s.sills.length dS], .slice p' l'.length c', .pointer (some ⟨w3.heap.size, 0, none⟩), .pointer (some ⟨w3.heap.size, 0, none⟩), .agg #[.slice qT s.table.length dT, .int .i64 s.lo, .int .i64 s.hi, .slice (some ⟨gF, oF, none⟩) s.floors.length dF, .slice qS s.sills.length dS], .agg #[.slice qT s.table.length dT, .int .i64 s.lo, .int .i64 s.hi, .slice (some ⟨gF, oF, none⟩) s.floors.length dF, .slice qS s.sills.length dS], .slice (some ⟨g, 0, none⟩) s.floors.length s.floors.length, .pointer (some ⟨w3.heap.size, 0, none⟩), .pointer (some ⟨M, 1, none⟩), .pointer (some ⟨M, 1, none⟩), .int .i64 s.lo, .pointer (some ⟨M, 1, none⟩), .pointer (some ⟨M, 2, none⟩), .int .i64 s.hi, .int .i64 tr, .slice (some ⟨gl, ol, none⟩) lm.length dL, .tuple #[.slice q 0 0, .int .i64 6], .agg #[.slice qT s.table.length dT, .int .i64 s.lo, .int .i64 s.hi, .slice (some ⟨gF, oF, none⟩) s.floors.length dF, .slice qS s.sills.length dS], .slice (some ⟨gl, ol, none⟩) lm.length dL, .tuple #[.slice q 0 0, .int .i64 6], .slice q 0 0, .int .i64 6, .int .i64 6, .bool false, .slice (some ⟨gl, ol, none⟩) lm.length dL, .int .i64 ↑lm.length, .int .i64 ↑lm.length, .bool false, u59, u60, u61, u62, u63, u64, u65, u66, u67, u68, u69, u70, u71, u72, u73, u74, u75, .pointer (some ⟨M, 1, none⟩), .agg #[.int .i64 s.lo, .int .i64 s.hi], .slice (some ⟨gl, ol, none⟩) lm.length dL, .int .i64 ↑lm.length, .int .i64 ↑k, .bool true, .int .i64 ↑k, V 6, V 0, V 1, V 2, V 3, V 4, V 5, V 7, V 8, u92, u93, u94, u95, u96, u97, u98, u99, u100, u101, u102, u103, u104, u105, u106, u107, u108, u109, u110, u111, u112, u113, u114, u115, u116, u117, u118, undef, undef, undef, undef, undef, undef, undef, undef, undef, undef, undef, undef, undef, undef, undef, undef, undef, undef, undef, undef, undef, undef, undef, undef, undef, undef, undef, undef, undef, undef, undef, undef, undef, undef, undef, undef, undef, undef, undef, undef, undef, undef, undef, undef, undef, undef, undef, undef, undef, undef, undef, undef, undef, undef, undef, undef, undef, undef, undef, undef, undef, undef, undef, undef, undef, undef, undef, undef, undef, undef, undef, undef, undef, undef, undef, undef, undef, undef, undef, undef, undef, undef, undef, undef, undef, undef, undef, undef, undef, undef, undef, undef, undef, undef, undef, undef, undef, undef, undef], []⟩ ∧ (∀ i, done i = true → Lk17 (.agg #[.slice qT s.table.length dT, .int .i64 s.lo, .int .i64 s.hi, .slice (some ⟨gF, oF, none⟩) s.floors.length dF, .slice qS s.sills.length dS]) gl ol lm.length dL k A B E i (V i)) ∧ Up wr W ∧ Made9 wr.heap.size [.int .i64 0, .int .i64 0] [.int .i64 A, .int .i64 B] 9 10 done W (V 9)) mixed (by kernel_rfl) ?_ ?_ ?_
            · exact ⟨fun i => if i = 0 then u84 else if i = 1 then u85 else if i = 2 then u86 else if i = 3 then u87 else if i = 4 then u88 else if i = 5 then u89 else if i = 6 then u83 else if i = 7 then u90 else if i = 8 then u91 else u15, rfl, (fun i h => by cases h), (Below.refl _ _).drew, (fun h => by cases h), (fun h => by cases h)⟩
            · intro done a W i o hi hd ho hall hinv
              obtain ⟨V, rfl, hv, hup, hmd⟩ := hinv
              obtain ⟨c0, c1, c2, c3, c4⟩ := five (BS.out.up (Up.trans HU.out (Up.trans HUk.out hup)))
              have HV := Lib.hid hv
              have HUw := Lib.hid hup
              have HMw := Lib.hid hmd
              clear hup hmd
              obtain rfl | rfl | rfl | rfl | rfl | rfl | rfl | rfl | rfl | rfl | rfl : i = 0 ∨ i = 1 ∨ i = 2 ∨ i = 3 ∨ i = 4 ∨ i = 5 ∨ i = 6 ∨ i = 7 ∨ i = 8 ∨ i = 9 ∨ i = 10 := by omega
              · clear ho hv hall hd
                refine wpOp_step rfl (fun K hK => ?_)
                rw [if_pos (by rfl)]
                have HK := Lib.hid hK
                clear hK
                go_simp
                exact HK.out _ _ ⟨fun j => if j = 0 then .agg #[.slice qT s.table.length dT, .int .i64 s.lo, .int .i64 s.hi, .slice (some ⟨gF, oF, none⟩) s.floors.length dF, .slice qS s.sills.length dS] else V j, rfl, facts_upd HV.out rfl, HUw.out, HMw.out.up (Below.refl _ _) (by decide) (by decide)⟩
              · clear ho hv hall hd
                refine wpOp_step rfl (fun K hK => ?_)
                rw [if_pos (by rfl)]
                have HK := Lib.hid hK
                clear hK
                go_simp
                exact HK.out _ _ ⟨fun j => if j = 1 then .slice (some ⟨gl, ol, none⟩) lm.length dL else V j, rfl, facts_upd HV.out rfl, HUw.out, HMw.out.up (Below.refl _ _) (by decide) (by decide)⟩
              · clear ho hv hall hd
                refine wpOp_step rfl (fun K hK => ?_)
                rw [if_pos (by rfl)]
                have HK := Lib.hid hK
                clear hK
                go_simp
                exact HK.out _ _ ⟨fun j => if j = 2 then .int .i64 k else V j, rfl, facts_upd HV.out rfl, HUw.out, HMw.out.up (Below.refl _ _) (by decide) (by decide)⟩
              · have e2 : V 2 = _ := hv 2 (hall ⟨2, .data⟩ (by cases ho; simp) rfl)
                clear ho hv hall hd
                refine wpOp_step rfl (fun K hK => ?_)
                rw [if_pos (by rfl)]
                have HK := Lib.hid hK
                clear hK
                go_simp
                exact HK.out _ _ ⟨fun j => if j = 3 then .int .i64 ((k : Int) + 1) else V j, (by simp only [e2]; rfl), facts_upd HV.out rfl, HUw.out, HMw.out.up (Below.refl _ _) (by decide) (by decide)⟩
              · have e1 : V 1 = _ := hv 1 (hall ⟨1, .data⟩ (by cases ho; simp) rfl)
                have e3 : V 3 = _ := hv 3 (hall ⟨3, .data⟩ (by cases ho; simp) rfl)
                clear ho hv hall hd
                refine wpOp_step rfl (fun K hK => ?_)
                rw [if_pos (by rfl)]
                have HK := Lib.hid hK
                clear hK
                go_simp
                exact HK.out _ _ ⟨fun j => if j = 4 then .slice (some ⟨gl, ol, none⟩) (k + 1) dL else V j, (by simp only [e1, e3]; rfl), facts_upd HV.out rfl, HUw.out, HMw.out.up (Below.refl _ _) (by decide) (by decide)⟩
              · have e0 : V 0 = _ := hv 0 (hall ⟨0, .data⟩ (by cases ho; simp) rfl)
                have e4 : V 4 = _ := hv 4 (hall ⟨4, .data⟩ (by cases ho; simp) rfl)
                clear ho hv hall hd
                refine wpOp_step rfl (fun K hK => ?_)
                rw [if_pos (by rfl)]
                have HK := Lib.hid hK
                clear hK
                go_simp
                refine (HLk.out W (Up.trans HUk.out HUw.out)).mono ?_
                rintro e w2 ⟨rfl, u2⟩
                exact HK.out _ _ ⟨fun j => if j = 5 then .tuple #[.agg #[.int .i64 A, .int .i64 B], .int .i64 E] else V j, (by simp only [e0, e4]; rfl), facts_upd HV.out rfl, Up.trans HUw.out u2, HMw.out.up u2 (by decide) (by decide)⟩
              · have e5 : V 5 = _ := hv 5 (hall ⟨5, .data⟩ (by cases ho; simp) rfl)
                clear ho hv hall hd
                refine wpOp_step rfl (fun K hK => ?_)
                rw [if_pos (by rfl)]
                have HK := Lib.hid hK
                clear hK
                go_simp
                exact HK.out _ _ ⟨fun j => if j = 6 then .tuple #[.agg #[.int .i64 A, .int .i64 B], .int .i64 E] else V j, (by simp only [e5]; rfl), facts_upd HV.out rfl, HUw.out, HMw.out.up (Below.refl _ _) (by decide) (by decide)⟩
              · have e6 : V 6 = _ := hv 6 (hall ⟨6, .data⟩ (by cases ho; simp) rfl)
                clear ho hv hall hd
                refine wpOp_step rfl (fun K hK => ?_)
                rw [if_pos (by rfl)]
                have HK := Lib.hid hK
                clear hK
                go_simp
                exact HK.out _ _ ⟨fun j => if j = 7 then .agg #[.int .i64 A, .int .i64 B] else V j, (by simp only [e6]; rfl), facts_upd HV.out rfl, HUw.out, HMw.out.up (Below.refl _ _) (by decide) (by decide)⟩
              · have e6 : V 6 = _ := hv 6 (hall ⟨6, .data⟩ (by cases ho; simp) rfl)
                clear ho hv hall hd
                refine wpOp_step rfl (fun K hK => ?_)
                rw [if_pos (by rfl)]
                have HK := Lib.hid hK
                clear hK
                go_simp
                exact HK.out _ _ ⟨fun j => if j = 8 then .int .i64 E else V j, (by simp only [e6]; rfl), facts_upd HV.out rfl, HUw.out, HMw.out.up (Below.refl _ _) (by decide) (by decide)⟩
              · clear ho hv hall
                refine wpOp_step rfl (fun K hK => ?_)
                rw [if_pos (by rfl)]
                have HK := Lib.hid hK
                clear hK
                go_simp
                have u9 : Up W (W.alloc (.cells #[.int .i64 0, .int .i64 0] 24)) := by (repeat (first | exact Below.refl _ _ | (with_reducible refine Below.drewN' ?_ _) | (with_reducible refine Below.drew ?_) | (with_reducible refine Below.setCell ?_ (by first | exact Nat.le_refl _ | omega | (with_reducible (repeat (first | refine sz_alloc ?_ | refine sz_setCell ?_ | refine sz_drew ?_ | refine sz_drewN ?_)); first | exact Nat.le_refl _ | omega) | (simp only [World.size_alloc, World.size_setCell, World.size_drew, size_drewN']; omega)) _) | (with_reducible refine Below.alloc ?_ (by first | exact Nat.le_refl _ | omega | (with_reducible (repeat (first | refine sz_alloc ?_ | refine sz_setCell ?_ | refine sz_drew ?_ | refine sz_drewN ?_)); first | exact Nat.le_refl _ | omega) | (simp only [World.size_alloc, World.size_setCell, World.size_drew, size_drewN']; omega)) _) | assumption))
                exact HK.out _ _ ⟨fun j => if j = 9 then .pointer (some ⟨W.heap.size, 0, none⟩) else V j, rfl, facts_upd HV.out trivial, Up.trans HUw.out u9, HMw.out.make (by decide) hd HUw.out.size⟩
              · have e7 : V 7 = _ := hv 7 (hall ⟨7, .data⟩ (by cases ho; simp) rfl)
                have h9 := hall ⟨9, .data⟩ (by cases ho; simp) rfl
                obtain ⟨X, e9, hX, hb⟩ := HMw.out.2 h9
                rw [hd] at hb
                simp only [Bool.false_eq_true, if_false] at hb
                have xc0 := hb.cell 0
                have xc1 := hb.cell 1
                have xf := hb.free
                have xl := hb.lt
                simp only [List.getElem?_cons_zero, List.getElem?_cons_succ] at xc0 xc1
                have hs := (hb.set 0 (.int .i64 A)).set 1 (.int .i64 B)
                simp only [List.set_cons_zero, List.set_cons_succ] at hs
                have HS := Lib.hid hs
                clear ho hv hall hs hb hd
                refine wpOp_step rfl (fun K hK => ?_)
                rw [if_pos (by rfl)]
                have HK := Lib.hid hK
                clear hK
                go_simp
                exact HK.out _ _ ⟨V, (by first | rfl | (simp only [e7, e9]; done) | (simp only [e7, e9]; rfl)), facts_keep HV.out trivial, (HUw.out.setCell hX _).setCell hX _, Made9.store (by decide) h9 e9 hX HS.out⟩
            · rintro a W ⟨V, rfl, hv, hup, hmd⟩
              have e8 : V 8 = _ := hv 8 rfl
              obtain ⟨X, e9, hX, hb⟩ := hmd.2 rfl
              simp only [show decide (10 < 11) = true from rfl, if_true] at hb
              rw [e8, e9]
              change wpList _ _ _ [_] _ _
              have xc0 := hb.cell 0
              have xc1 := hb.cell 1
              simp only [List.getElem?_cons_zero, List.getElem?_cons_succ] at xc0 xc1
              have UW := Lib.hid (Up.trans HUk.out hup)
              have hz := HZ.out.up hup
              have zc0 := hz.cell 0
              have zc1 := hz.cell 1
              have zf := hz.free
              have zl := hz.lt
              simp only [List.getElem?_cons_zero, List.getElem?_cons_succ] at zc0 zc1
              have HZW := Lib.hid hz
              have lX := hb.lt
              clear hv hup hmd hb hz e8 e9
              rcases HPS.out with h7 | ⟨h0, hv0, hle⟩
              · obtain rfl : E = 7 := HEAB.out.1.symm.trans h7
                go_wp2_with fail
                go_meet
                exact UW.out
              · obtain ⟨hE, hA, hB⟩ := HEAB.out
                obtain rfl : E = 0 := hE.symm.trans h0
                rw [hv0] at hA hB
                subst hA hB
                obtain ⟨i1, i2⟩ := HPI.out
                clear HEAB HPS HPI HLk h0 hv0 hE
                generalize hy1 : (lkOf s (s.lo, s.hi) (lm.take (k + 1))) = y1 at *
                have HY := Lib.hid hy1
                clear hy1
                generalize (lkOf s (s.lo, s.hi) (lm.take k)) = y0 at *
                obtain ⟨a1, b1⟩ := y1
                obtain ⟨a0, b0⟩ := y0
                dsimp only at *
                have n1 : ¬ a1 < a0 := by omega
                have n2 : ¬ b0 < b1 := by omega
                have n3 : ¬ b1 < a1 := by omega
                have hzs := (HZW.out.set 0 (.int .i64 a1)).set 1 (.int .i64 b1)
                simp only [List.set_cons_zero, List.set_cons_succ] at hzs
                have HZS := Lib.hid hzs
                have HUS := Lib.hid ((UW.out.setCell (p := ⟨w8.heap.size, 0, none⟩) (Nat.le_refl _) (.int .i64 a1)).setCell (p := ⟨w8.heap.size, 1, none⟩) (Nat.le_refl _) (.int .i64 b1))
                clear hzs HZW HUk HZ i1 i2
                go_wp2_with fail
                go_roundw
                case rel => exact ⟨k + 1, by go_num, hlt, by rw [HY.out]; exact HZS.out, HUS.out⟩
                case measure => simp [intOf]; omega
          · obtain rfl : k = lm.length := by omega
            go_wp2_with fail
            go_meet
            exact HUk.out
      case rest =>
        have UC := Lib.hid hcut
        clear hcut BZ UZ
        obtain ⟨c0, c1, c2, c3, c4⟩ := five (BS.out.up (Up.trans HU.out UC.out))
        have hmx : lm.length ≤ maxLen := by simp only [maxLen]; omega
        obtain ⟨E1, hE1⟩ : ∃ E1, looksE s lm = E1 := ⟨_, rfl⟩
        have HLm := Lib.hid (Looks_c s lm pL dL wc (LS.out.up (Up.trans HU.out UC.out)) (RL.out.up UC.out) hmx)
        rw [hE1] at HLm
        have HE1 := Lib.hid hE1
        clear hE1
        generalize looksV s lm = y1 at *
        obtain ⟨A1, B1⟩ := y1
        unfold sdVal at HLm
        go_wp2_with fail
        refine HLm.out.mono ?_
        rintro e wd ⟨rfl, ud⟩
        have UD := Lib.hid (Up.trans UC.out ud)
        clear ud HLm c0 c1 c2 c3 c4 UC
        obtain ⟨c0, c1, c2, c3, c4⟩ := five (BS.out.up (Up.trans HU.out UD.out))
        have lM : M < wd.heap.size := (BS.out.up (Up.trans HU.out UD.out)).lt
        dsimp only
        go_wp2_with fail
        have ux : Up wd (wd.alloc (.cells #[.int .i64 A1, .int .i64 B1] 24)) := by (repeat (first | exact Below.refl _ _ | (with_reducible refine Below.drewN' ?_ _) | (with_reducible refine Below.drew ?_) | (with_reducible refine Below.setCell ?_ (by first | exact Nat.le_refl _ | omega | (with_reducible (repeat (first | refine sz_alloc ?_ | refine sz_setCell ?_ | refine sz_drew ?_ | refine sz_drewN ?_)); first | exact Nat.le_refl _ | omega) | (simp only [World.size_alloc, World.size_setCell, World.size_drew, size_drewN']; omega)) _) | (with_reducible refine Below.alloc ?_ (by first | exact Nat.le_refl _ | omega | (with_reducible (repeat (first | refine sz_alloc ?_ | refine sz_setCell ?_ | refine sz_drew ?_ | refine sz_drewN ?_)); first | exact Nat.le_refl _ | omega) | (simp only [World.size_alloc, World.size_setCell, World.size_drew, size_drewN']; omega)) _) | assumption))
        refine (Clash_c s lm pL dL _ (LS.out.up (Up.trans HU.out (Up.trans UD.out ux))) (RL.out.up (Up.trans UD.out ux)) hd1 hd2).mono ?_
        rintro e we ⟨r, qr, E2, rfl, hc, hrow, ue⟩
        have UE := Lib.hid (Up.trans UD.out (Up.trans ux ue))
        obtain ⟨hci, hcase⟩ := two_cases OK.out lk6 HOM.out hc
        rw [HE1.out] at hcase
        have HCI := Lib.hid hci
        have HCS := Lib.hid hcase
        have RR := Lib.hid hrow
        have r2 := clash_len hci
        clear hci hcase hrow hc ue ux UD c0 c1 c2 c3 c4 lM HE1
        go_upto_region 25 with fail
        go_cut [151] (fun v wx => v = .bool false ∧ we = wx)
        case first =>
          rcases HCS.out with ⟨-, rfl, rfl⟩ | ⟨-, rfl, rfl⟩
          all_goals go_wp2_with fail
          all_goals go_meet
          all_goals exact ⟨rfl, rfl⟩
        case rest =>
          obtain ⟨rfl, rfl⟩ := hcut
          go_wp2_with fail
          go_loopw [21, 154] (fun v i wx => ∃ k : Nat, i = .int .i64 k ∧ k ≤ r.length ∧ wx.ownsRow we.heap.size 80 3 v k (lrows (pickL lm (r.take k))).flatten ∧ Up we wx) (fun _ i _ => r.length - (intOf i).toNat)
          case atStart => exact ⟨0, rfl, Nat.zero_le _, ⟨rfl, .inl ⟨rfl, rfl⟩⟩, Below.refl _ _⟩
          case round =>
            obtain ⟨k, rfl, hk, ho, hu⟩ := hrel
            have HO := Lib.hid ho
            have HV := Lib.hid hu
            clear ho hu
            by_cases hlt : k < r.length
            · have q1 : (k : Int) < (r.length : Int) := by omega
              obtain ⟨b, off, rfl, d0⟩ := (RR.out.up HV.out).int k hlt
              have hprev : ∀ h : 0 < k, wr.cell? ⟨b, off + (k - 1), none⟩ = some (.int .i64 (r[k - 1]'(by omega))) ∧ (r[k - 1]'(by omega)) < r[k] := fun h => by
                obtain ⟨b', off', e', d1⟩ := (RR.out.up HV.out).int (k - 1) (by omega)
                simp only [Option.some.injEq, Addr.mk.injEq, and_true] at e'
                obtain ⟨rfl, rfl⟩ := e'
                have h2 := clash_asc HCI.out (k - 1) (by omega)
                simp only [show k - 1 + 1 = k by omega] at h2
                exact ⟨d1, h2⟩
              obtain ⟨x, hx, hxl⟩ := clash_in HCI.out r[k] (List.getElem_mem hlt)
              have HT := Lib.hid (show r.take (k + 1) = r.take k ++ [r[k]] from List.take_succ_eq_append_getElem hlt)
              obtain ⟨gl, ol, rfl, x0, x1, x2⟩ := (RL.out.up (Up.trans UE.out HV.out)).look x hxl
              have HPK : Hid (pickL lm [(x : Int)] = [lm[x]]) := Lib.hid (pick_one hxl)
              generalize r[k] = y at *
              subst hx
              generalize lm[x] = z at *
              obtain ⟨za, zb, zc⟩ := z
              dsimp only at x0 x1 x2
              have n1 : ¬ (x : Int) < 0 := by omega
              have n2 : ¬ (lm.length : Int) ≤ (x : Int) := by omega
              obtain ⟨i2, hi, hz0, hz1, hz2⟩ := info_parts infoL
              have HOwn := Lib.hid HO.out
              go_upto_region 31 with fail
              go_cut [179] (fun v wx => v = .bool false ∧ wr = wx)
              case first =>
                clear hi hz0 hz1 hz2 HT HPK
                by_cases hk0 : k = 0
                · subst hk0
                  go_wp2_with fail
                  go_meet
                  exact ⟨rfl, rfl⟩
                · obtain ⟨d1, h2⟩ := hprev (by omega)
                  generalize r[k - 1]'(by omega) = y at *
                  have g0 : 0 < k := by omega
                  have g1 : (0 : Int) < (k : Int) := by omega
                  have g2 : IntKind.i64.wrap ((k : Int) - 1) = (k : Int) - 1 := IntWalk.i64_in _ (by omega)
                  have g3 : (0 : Int) ≤ (k : Int) - 1 := by omega
                  have g4 : (k : Int) - 1 < (r.length : Int) := by omega
                  have g5 : ((k : Int) - 1).toNat = k - 1 := by omega
                  have g6 : ¬ (x : Int) ≤ y := by omega
                  have g7 : y < (x : Int) := by omega
                  clear hprev
                  go_wp2_with fail
                  go_meet
                  exact ⟨rfl, rfl⟩
              case rest =>
                obtain ⟨rfl, rfl⟩ := hcut
                have hsz : we.heap.size ≤ wr.heap.size := HV.out.size
                have hpl : (pickL lm (r.take k)).length = k := by simp [pickL]; omega
                clear hprev
                go_wp2_with (at_builtin; refine wpList_append_own _ rfl _ _ 89 rfl we.heap.size 80 i2 (.agg #[.int .i64 0, .int .i64 0, .bool false]) 3 24 Try.underlying89 hi hz0 hz1 hz2 rfl (by decide) _ _ _ rfl (HOwn.out.alloc _) ⟨wr.heap.size, 0, none⟩ 1 1 [.int .i64 za, .int .i64 zb, .bool zc] rfl rfl (newsAt _ rfl [.int .i64 za, .int .i64 zb, .bool zc] _) (by simp [Value.oneCell']) (by simp [maxLen]; omega) (by omega) (sz_alloc hsz) ?_; intro v' w6 hown hgr hnn; clear hnn)
                have U6 := Lib.hid ((HV.out.alloc hsz _).grown hgr (sz_alloc hsz) (fun j e => (HO.out.lt j e).1))
                have O6 := Lib.hid hown
                clear hown hgr
                go_roundw
                case rel =>
                  refine ⟨k + 1, by go_num, hlt, ?_, U6.out⟩
                  have e : (lrows (pickL lm (r.take (k + 1)))).flatten = (lrows (pickL lm (r.take k))).flatten ++ [.int .i64 za, .int .i64 zb, .bool zc] := by
                    rw [HT.out]
                    have e2 : pickL lm (r.take k ++ [(x : Int)]) = pickL lm (r.take k) ++ pickL lm [(x : Int)] := by simp [pickL]
                    rw [e2, HPK.out]
                    unfold lrows
                    rw [List.map_append, List.flatten_append]
                    rfl
                  rw [e]
                  exact O6.out
                case measure => simp [intOf]; omega
            · obtain rfl : k = r.length := by omega
              have hown := HO.out
              rw [List.take_length] at hown
              have hpl : (pickL lm r).length = r.length := by simp [pickL]
              obtain ⟨pO, cO, rfl, a1, a2, hRO, -⟩ := Row.of_own (rows := lrows (pickL lm r)) (flatOk_looks _) hown (by simp [lrows, hpl])
              have HRO := Lib.hid hRO
              have HOC := Lib.hid (fun h => own_clash OK.out HOM.out HCI.out h)
              have HOL := Lib.hid (fun i hi => own_less OK.out HOM.out HCI.out i hi)
              have UF := Lib.hid (Up.trans UE.out HV.out)
              clear hown hRO HO
              rcases HCS.out with ⟨rfl, rfl, rfl⟩ | ⟨hrn, rfl, rfl⟩
              · go_wp2_with fail
                refine (awake_c _).mono ?_
                rintro e wq ⟨rfl, uq⟩
                have Uq : Hid (Up w wq) := Lib.hid (Up.trans UR.out (Up.trans HU.out (Up.trans UF.out uq)))
                clear uq
                go_wp2_with fail
                go_ret
                exact ⟨rfl, Uq.out⟩
              · have h7 := HOC.out hrn
                clear HOC HCS RR HCI
                generalize pickL lm r = O at *
                obtain ⟨c0, c1, c2, c3, c4⟩ := five (BS.out.up (Up.trans HU.out UF.out))
                have hOm : O.length ≤ maxLen := by rw [hpl]; simp only [maxLen]; omega
                have HLO := Lib.hid (Looks_c s O pO cO wr (LS.out.up (Up.trans HU.out UF.out)) HRO.out hOm)
                rw [h7, hpl] at HLO
                generalize looksV s O = y1 at *
                obtain ⟨A2, B2⟩ := y1
                unfold sdVal at HLO
                go_wp2_with fail
                refine HLO.out.mono ?_
                rintro e wg ⟨rfl, ug⟩
                have UG := Lib.hid (Up.trans UF.out ug)
                have RG := Lib.hid (HRO.out.up ug)
                clear ug HLO HRO UF c0 c1 c2 c3 c4 h7 HV
                dsimp only
                go_wp2_with fail
                have ux : Up wg (wg.alloc (.cells #[.int .i64 A2, .int .i64 B2] 24)) := by (repeat (first | exact Below.refl _ _ | (with_reducible refine Below.drewN' ?_ _) | (with_reducible refine Below.drew ?_) | (with_reducible refine Below.setCell ?_ (by first | exact Nat.le_refl _ | omega | (with_reducible (repeat (first | refine sz_alloc ?_ | refine sz_setCell ?_ | refine sz_drew ?_ | refine sz_drewN ?_)); first | exact Nat.le_refl _ | omega) | (simp only [World.size_alloc, World.size_setCell, World.size_drew, size_drewN']; omega)) _) | (with_reducible refine Below.alloc ?_ (by first | exact Nat.le_refl _ | omega | (with_reducible (repeat (first | refine sz_alloc ?_ | refine sz_setCell ?_ | refine sz_drew ?_ | refine sz_drewN ?_)); first | exact Nat.le_refl _ | omega) | (simp only [World.size_alloc, World.size_setCell, World.size_drew, size_drewN']; omega)) _) | assumption))
                have UX := Lib.hid (Up.trans UG.out ux)
                have RX := Lib.hid (RG.out.up ux)
                clear ux UG RG
                generalize (wg.alloc (.cells #[.int .i64 A2, .int .i64 B2] 24)) = wh at *
                go_loopw [200] (fun i wx => ∃ k : Nat, i = .int .i64 k ∧ k ≤ r.length ∧ Up wh wx) (fun i _ => r.length - (intOf i).toNat)
                case atStart => exact ⟨0, rfl, Nat.zero_le _, Below.refl _ _⟩
                case round =>
                  obtain ⟨k, rfl, hk, hu⟩ := hrel
                  have HV := Lib.hid hu
                  clear hu
                  by_cases hlt : k < r.length
                  · have q1 : (k : Int) < (r.length : Int) := by omega
                    have k1 : (0 : Int) ≤ (k : Int) + 1 := by omega
                    have sk : IntKind.i64.wrap ((k : Int) + 1) = (k : Int) + 1 := IntWalk.i64_in _ (by omega)
                    have hkO : k < O.length := by omega
                    have hO10 : O.length ≤ 100 := by omega
                    have HCl : Hid (∀ W, Up wh W → Calls Try.prog 71 #[.slice pO r.length cO] W fun e w' => ∃ g d, e = .returned (.slice (some ⟨g, 0, none⟩) r.length d) ∧ W.heap.size ≤ g ∧ Up W w' ∧ w'.ownsRow W.heap.size 80 3 (.slice (some ⟨g, 0, none⟩) r.length d) r.length (lrows O).flatten) := Lib.hid (fun W u => by
                      have h := cloneLook_c O (by omega) hO10 pO cO W (RX.out.up u)
                      rwa [hpl] at h)
                    have HDe : Hid (∀ (W : World) (g d B' : Nat), W.ownsRow B' 80 3 (.slice (some ⟨g, 0, none⟩) r.length d) r.length (lrows O).flatten → Calls Try.prog 70 #[.slice (some ⟨g, 0, none⟩) r.length d, .int .i64 k, .int .i64 ((k : Int) + 1)] W fun e w' => ∃ d', e = .returned (.slice (some ⟨g, 0, none⟩) (r.length - 1) d') ∧ r.length - 1 ≤ d' ∧ d' ≤ maxLen ∧ Row w' (some ⟨g, 0, none⟩) 3 (lrows (O.eraseIdx k)) ∧ W.grownBy w' (some g)) := Lib.hid (fun W g d B' h => by
                      rw [← hpl] at h
                      have h := delete_c O k hkO hO10 g d B' W h
                      rwa [hpl] at h)
                    have h0 := HOL.out k hkO
                    generalize hy3 : looksV s (O.eraseIdx k) = y3
                    obtain ⟨A3, B3⟩ := y3
                    have HLe : Hid (∀ (W : World) (g d' : Nat), Up wh W → Row W (some ⟨g, 0, none⟩) 3 (lrows (O.eraseIdx k)) → Calls Try.prog 54 #[.agg #[.slice qT s.table.length dT, .int .i64 s.lo, .int .i64 s.hi, .slice (some ⟨gF, oF, none⟩) s.floors.length dF, .slice qS s.sills.length dS], .slice (some ⟨g, 0, none⟩) (r.length - 1) d'] W fun e w' => e = .returned (.tuple #[.agg #[.int .i64 A3, .int .i64 B3], .int .i64 0]) ∧ Up W w') := Lib.hid (fun W g d' u hr => by
                      have hel : (O.eraseIdx k).length = r.length - 1 := by rw [List.length_eraseIdx_of_lt hkO, hpl]
                      have h := Looks_c s (O.eraseIdx k) (some ⟨g, 0, none⟩) d' W (LS.out.up (Up.trans HU.out (Up.trans UX.out u))) hr (by rw [hel]; simp only [maxLen]; omega)
                      rwa [h0, hy3, hel] at h)
                    clear h0 hy3
                    go_upto_region 42 with fail
                    refine region_inv4 13 (fun done a W => ∃ V : Nat → Value, a = ⟨#[.slice p l.length c, .slice p' l'.length c', .int .u8 T, undef, undef, undef, u6, .pointer (some ⟨M, 0, none⟩), .pointer (some ⟨w3.heap.size, 0, none⟩), .slice pL lm.length dL, .slice q 0 0, .int .i64 6, u12, .pointer (some ⟨w8.heap.size, 0, none⟩), u14, u15, u16, u17, .int .i64 7, .slice qr r.length r.length, .int .i64 0, .slice pO r.length cO, u22, u23, .pointer (some ⟨wg.heap.size, 0, none⟩), .int .i64 7, .int .i64 ↑k, V 11, u28, u29, u30, u31, u32, u33, u34, u35, u36, u37, u38, u39, u40, u41, u42, u43, u44, u45, u46, u47, u48, u49, u50, u51, u52, u53, u54, u55, .int .i64 ↑lm.length, .int .i64 ↑lm.length, u58, u59, u60, u61, u62, u63, u64, u65, u66, u67, u68, u69, u70, u71, u72, u73, u74, u75, u76, u77, u78, .int .i64 ↑lm.length, u80, u81, u82, u83, u84, u85, u86, u87, u88, u89, u90, u91, u92, u93, u94, u95, u96, u97, u98, u99, u100, u101, u102, u103, u104, u105, u106, u107, u108, u109, u110, u111, u112, u113, u114, u115, u116, u117, u118, u119, u120, u121, u122, u123, u124, u125, u126, u127, u128, u129, u130, u131, u132, u133, u134, u135, u136, u137, u138, u139, u140, u141, u142, u143, u144, u145, u146, u147, u148, u149, u150, .bool false, .slice qr r.length r.length, .int .i64 ↑r.length, .int .i64 ↑r.length, .bool false, u156, u157, u158, u159, u160, u161, u162, u163, u164, u165, u166, u167, u168, u169, u170, u171, u172, u173, u174, u175, u176, u177, u178, u179, u180, u181, u182, u183, u184, u185, u186, u187, .int .i64 0, .bool true, .tuple #[.agg #[.int .i64 A2, .int .i64 B2], .int .i64 7], .agg #[.slice qT s.table.length dT, .int .i64 s.lo, .int .i64 s.hi, .slice (some ⟨gF, oF, none⟩) s.floors.length dF, .slice qS s.sills.length dS], .slice pO r.length cO, .tuple #[.agg #[.int .i64 A2, .int .i64 B2], .int .i64 7], .agg #[.int .i64 A2, .int .i64 B2], .int .i64 7, .int .i64 7, .bool false, .slice pO r.length cO, .int .i64 ↑r.length, .int .i64 ↑k, .bool true, .int .i64 ↑k, V 8, V 0, V 1, V 2, V 3, V 4, V 5, V 6, V 7, V 9, V 10, u214, u215, u216, u217], []⟩ ∧ (∀ i, done i = true → Lk42 (.agg #[.slice qT s.table.length dT, .int .i64 s.lo, .int .i64 s.hi, .slice (some ⟨gF, oF, none⟩) s.floors.length dF, .slice qS s.sills.length dS]) (.slice pO r.length cO) k A3 B3 i (V i)) ∧ Up wr W ∧ Made9 wr.heap.size [.int .i64 0, .int .i64 0] [.int .i64 A3, .int .i64 B3] 11 12 done W (V 11) ∧ Cut2 wr.heap.size r.length k O done W (V 2) (V 6) ∧ Late done) mixed (by kernel_rfl) ?_ ?_ ?_
                    · exact ⟨fun i => if i = 0 then u204 else if i = 1 then u205 else if i = 2 then u206 else if i = 3 then u207 else if i = 4 then u208 else if i = 5 then u209 else if i = 6 then u210 else if i = 7 then u211 else if i = 8 then u203 else if i = 9 then u212 else if i = 10 then u213 else u27, rfl, (fun i h => by cases h), (Below.refl _ _).drew, ⟨(fun h => by cases h), (fun h => by cases h)⟩, ⟨(fun h => by cases h), (fun _ h => by cases h)⟩, (fun h => by cases h)⟩
                    · intro done a W i o hi hd ho hall hinv
                      obtain ⟨V, rfl, hv, hup, hmd, hcd, hlt'⟩ := hinv
                      obtain ⟨c0, c1, c2, c3, c4⟩ := five (BS.out.up (Up.trans HU.out (Up.trans UX.out (Up.trans HV.out hup))))
                      have HV' := Lib.hid hv
                      have HUw := Lib.hid hup
                      have HMw := Lib.hid hmd
                      have HCw := Lib.hid hcd
                      have HLt := Lib.hid hlt'
                      clear hup hmd hcd hlt'
                      obtain rfl | rfl | rfl | rfl | rfl | rfl | rfl | rfl | rfl | rfl | rfl | rfl | rfl : i = 0 ∨ i = 1 ∨ i = 2 ∨ i = 3 ∨ i = 4 ∨ i = 5 ∨ i = 6 ∨ i = 7 ∨ i = 8 ∨ i = 9 ∨ i = 10 ∨ i = 11 ∨ i = 12 := by omega
                      · clear ho hv hall hd
                        refine wpOp_step rfl (fun K hK => ?_)
                        rw [if_pos (by rfl)]
                        have HK := Lib.hid hK
                        clear hK
                        go_simp
                        exact HK.out _ _ ⟨fun j => if j = 0 then .agg #[.slice qT s.table.length dT, .int .i64 s.lo, .int .i64 s.hi, .slice (some ⟨gF, oF, none⟩) s.floors.length dF, .slice qS s.sills.length dS] else V j, rfl, facts_upd HV'.out rfl, HUw.out, HMw.out.up (Below.refl _ _) (by decide) (by decide), HCw.out.up (Below.refl _ _) (by decide) (by decide) (by decide), HLt.out.up (by decide)⟩
                      · clear ho hv hall hd
                        refine wpOp_step rfl (fun K hK => ?_)
                        rw [if_pos (by rfl)]
                        have HK := Lib.hid hK
                        clear hK
                        go_simp
                        exact HK.out _ _ ⟨fun j => if j = 1 then .slice pO r.length cO else V j, rfl, facts_upd HV'.out rfl, HUw.out, HMw.out.up (Below.refl _ _) (by decide) (by decide), HCw.out.up (Below.refl _ _) (by decide) (by decide) (by decide), HLt.out.up (by decide)⟩
                      · have e1 : V 1 = _ := hv 1 (hall ⟨1, .data⟩ (by cases ho; simp) rfl)
                        clear ho hv hall
                        refine wpOp_step rfl (fun K hK => ?_)
                        rw [if_pos (by rfl)]
                        have HK := Lib.hid hK
                        clear hK
                        go_simp
                        refine (HCl.out W (Up.trans HV.out HUw.out)).mono ?_
                        rintro e w2 ⟨g, d, rfl, hg, u2, ho2⟩
                        exact HK.out _ _ ⟨fun j => if j = 2 then .slice (some ⟨g, 0, none⟩) r.length d else V j, (by simp only [e1]; rfl), facts_upd HV'.out trivial, Up.trans HUw.out u2, HMw.out.up u2 (by decide) (by decide), HCw.out.clone hd (Nat.le_trans HUw.out.size hg) ho2, HLt.out.up (by decide)⟩
                      · clear ho hv hall hd
                        refine wpOp_step rfl (fun K hK => ?_)
                        rw [if_pos (by rfl)]
                        have HK := Lib.hid hK
                        clear hK
                        go_simp
                        exact HK.out _ _ ⟨fun j => if j = 3 then .int .i64 k else V j, rfl, facts_upd HV'.out rfl, HUw.out, HMw.out.up (Below.refl _ _) (by decide) (by decide), HCw.out.up (Below.refl _ _) (by decide) (by decide) (by decide), HLt.out.up (by decide)⟩
                      · clear ho hv hall hd
                        refine wpOp_step rfl (fun K hK => ?_)
                        rw [if_pos (by rfl)]
                        have HK := Lib.hid hK
                        clear hK
                        go_simp
                        exact HK.out _ _ ⟨fun j => if j = 4 then .int .i64 k else V j, rfl, facts_upd HV'.out rfl, HUw.out, HMw.out.up (Below.refl _ _) (by decide) (by decide), HCw.out.up (Below.refl _ _) (by decide) (by decide) (by decide), HLt.out.up (by decide)⟩
                      · have e4 : V 4 = _ := hv 4 (hall ⟨4, .data⟩ (by cases ho; simp) rfl)
                        clear ho hv hall hd
                        refine wpOp_step rfl (fun K hK => ?_)
                        rw [if_pos (by rfl)]
                        have HK := Lib.hid hK
                        clear hK
                        go_simp
                        exact HK.out _ _ ⟨fun j => if j = 5 then .int .i64 ((k : Int) + 1) else V j, (by simp only [e4]; rfl), facts_upd HV'.out rfl, HUw.out, HMw.out.up (Below.refl _ _) (by decide) (by decide), HCw.out.up (Below.refl _ _) (by decide) (by decide) (by decide), HLt.out.up (by decide)⟩
                      · have h2 := hall ⟨2, .data⟩ (by cases ho; simp) rfl
                        have e3 : V 3 = _ := hv 3 (hall ⟨3, .data⟩ (by cases ho; simp) rfl)
                        have e5 : V 5 = _ := hv 5 (hall ⟨5, .data⟩ (by cases ho; simp) rfl)
                        by_cases h12 : done 12 = true
                        · exfalso
                          exact absurd (HLt.out h12).1 (by rw [hd]; decide)
                        · have h12' : done 12 = false := by simpa using h12
                          obtain ⟨g, d, e2, hg, ho6, -⟩ := HCw.out.2 h12' h2
                          obtain ⟨B', hown⟩ := ho6 hd
                          have HOw := Lib.hid hown
                          clear ho hv hall hd ho6 hown h12 h12'
                          refine wpOp_step rfl (fun K hK => ?_)
                          rw [if_pos (by rfl)]
                          have HK := Lib.hid hK
                          clear hK
                          go_simp
                          refine (HDe.out W g d B' HOw.out).mono ?_
                          rintro e w2 ⟨d', rfl, -, -, hr2, hgr⟩
                          exact HK.out _ _ ⟨fun j => if j = 6 then .slice (some ⟨g, 0, none⟩) (r.length - 1) d' else V j, (by simp only [e2, e3, e5]; rfl), facts_upd HV'.out trivial, HUw.out.grown hgr HUw.out.size (fun j e => by simp only [Option.some.injEq] at e; omega), HMw.out.cut HOw.out hgr (by decide) (by decide), HCw.out.cut h2 e2 hg hr2, HLt.out.up (by decide)⟩
                      · have e0 : V 0 = _ := hv 0 (hall ⟨0, .data⟩ (by cases ho; simp) rfl)
                        have h6 := hall ⟨6, .data⟩ (by cases ho; simp) rfl
                        have h2 := HCw.out.1 h6
                        by_cases h12 : done 12 = true
                        · exfalso
                          exact absurd (HLt.out h12).2 (by rw [hd]; decide)
                        · have h12' : done 12 = false := by simpa using h12
                          obtain ⟨g, d, e2, hg, -, ho6⟩ := HCw.out.2 h12' h2
                          obtain ⟨d', e6, hrw⟩ := ho6 h6
                          have HRw := Lib.hid hrw
                          clear ho hv hall hd ho6 hrw h12 h12' e2
                          refine wpOp_step rfl (fun K hK => ?_)
                          rw [if_pos (by rfl)]
                          have HK := Lib.hid hK
                          clear hK
                          go_simp
                          refine (HLe.out W g d' (Up.trans HV.out HUw.out) HRw.out).mono ?_
                          rintro e w2 ⟨rfl, u2⟩
                          exact HK.out _ _ ⟨fun j => if j = 7 then .tuple #[.agg #[.int .i64 A3, .int .i64 B3], .int .i64 0] else V j, (by simp only [e0, e6]; rfl), facts_upd HV'.out rfl, Up.trans HUw.out u2, HMw.out.up u2 (by decide) (by decide), HCw.out.up u2 (by decide) (by decide) (by decide), HLt.out.up (by decide)⟩
                      · have e7 : V 7 = _ := hv 7 (hall ⟨7, .data⟩ (by cases ho; simp) rfl)
                        clear ho hv hall hd
                        refine wpOp_step rfl (fun K hK => ?_)
                        rw [if_pos (by rfl)]
                        have HK := Lib.hid hK
                        clear hK
                        go_simp
                        exact HK.out _ _ ⟨fun j => if j = 8 then .tuple #[.agg #[.int .i64 A3, .int .i64 B3], .int .i64 0] else V j, (by simp only [e7]; rfl), facts_upd HV'.out rfl, HUw.out, HMw.out.up (Below.refl _ _) (by decide) (by decide), HCw.out.up (Below.refl _ _) (by decide) (by decide) (by decide), HLt.out.up (by decide)⟩
                      · have e8 : V 8 = _ := hv 8 (hall ⟨8, .data⟩ (by cases ho; simp) rfl)
                        clear ho hv hall hd
                        refine wpOp_step rfl (fun K hK => ?_)
                        rw [if_pos (by rfl)]
                        have HK := Lib.hid hK
                        clear hK
                        go_simp
                        exact HK.out _ _ ⟨fun j => if j = 9 then .agg #[.int .i64 A3, .int .i64 B3] else V j, (by simp only [e8]; rfl), facts_upd HV'.out rfl, HUw.out, HMw.out.up (Below.refl _ _) (by decide) (by decide), HCw.out.up (Below.refl _ _) (by decide) (by decide) (by decide), HLt.out.up (by decide)⟩
                      · have e8 : V 8 = _ := hv 8 (hall ⟨8, .data⟩ (by cases ho; simp) rfl)
                        clear ho hv hall hd
                        refine wpOp_step rfl (fun K hK => ?_)
                        rw [if_pos (by rfl)]
                        have HK := Lib.hid hK
                        clear hK
                        go_simp
                        exact HK.out _ _ ⟨fun j => if j = 10 then .int .i64 0 else V j, (by simp only [e8]; rfl), facts_upd HV'.out rfl, HUw.out, HMw.out.up (Below.refl _ _) (by decide) (by decide), HCw.out.up (Below.refl _ _) (by decide) (by decide) (by decide), HLt.out.up (by decide)⟩
                      · clear ho hv hall
                        refine wpOp_step rfl (fun K hK => ?_)
                        rw [if_pos (by rfl)]
                        have HK := Lib.hid hK
                        clear hK
                        go_simp
                        have u9 : Up W (W.alloc (.cells #[.int .i64 0, .int .i64 0] 24)) := by (repeat (first | exact Below.refl _ _ | (with_reducible refine Below.drewN' ?_ _) | (with_reducible refine Below.drew ?_) | (with_reducible refine Below.setCell ?_ (by first | exact Nat.le_refl _ | omega | (with_reducible (repeat (first | refine sz_alloc ?_ | refine sz_setCell ?_ | refine sz_drew ?_ | refine sz_drewN ?_)); first | exact Nat.le_refl _ | omega) | (simp only [World.size_alloc, World.size_setCell, World.size_drew, size_drewN']; omega)) _) | (with_reducible refine Below.alloc ?_ (by first | exact Nat.le_refl _ | omega | (with_reducible (repeat (first | refine sz_alloc ?_ | refine sz_setCell ?_ | refine sz_drew ?_ | refine sz_drewN ?_)); first | exact Nat.le_refl _ | omega) | (simp only [World.size_alloc, World.size_setCell, World.size_drew, size_drewN']; omega)) _) | assumption))
                        exact HK.out _ _ ⟨fun j => if j = 11 then .pointer (some ⟨W.heap.size, 0, none⟩) else V j, rfl, facts_upd HV'.out trivial, Up.trans HUw.out u9, HMw.out.make (by decide) hd HUw.out.size, HCw.out.up u9 (by decide) (by decide) (by decide), HLt.out.up (by decide)⟩
                      · have e9 : V 9 = _ := hv 9 (hall ⟨9, .data⟩ (by cases ho; simp) rfl)
                        have h11 := hall ⟨11, .data⟩ (by cases ho; simp) rfl
                        have h6 := hall ⟨6, .phase⟩ (by cases ho; simp) rfl
                        have h7 := hall ⟨7, .phase⟩ (by cases ho; simp) rfl
                        obtain ⟨X, e11, hX, hb⟩ := HMw.out.2 h11
                        rw [hd] at hb
                        simp only [Bool.false_eq_true, if_false] at hb
                        have xc0 := hb.cell 0
                        have xc1 := hb.cell 1
                        have xf := hb.free
                        have xl := hb.lt
                        simp only [List.getElem?_cons_zero, List.getElem?_cons_succ] at xc0 xc1
                        have hs := (hb.set 0 (.int .i64 A3)).set 1 (.int .i64 B3)
                        simp only [List.set_cons_zero, List.set_cons_succ] at hs
                        have HS := Lib.hid hs
                        clear ho hv hall hs hb hd
                        refine wpOp_step rfl (fun K hK => ?_)
                        rw [if_pos (by rfl)]
                        have HK := Lib.hid hK
                        clear hK
                        go_simp
                        exact HK.out _ _ ⟨V, (by first | rfl | (simp only [e9, e11]; done) | (simp only [e9, e11]; rfl)), facts_keep HV'.out trivial, (HUw.out.setCell hX _).setCell hX _, Made9.store (by decide) h11 e11 hX HS.out, HCw.out.store, Late.store h6 h7⟩
                    · rintro a W ⟨V, rfl, hv, hup, -, -, -⟩
                      have e10 : V 10 = _ := hv 10 rfl
                      rw [e10]
                      change wpList _ _ _ [_] _ _
                      have UW := Lib.hid (Up.trans HV.out hup)
                      clear hv hup e10
                      go_wp2_with fail
                      go_roundw
                      case rel => exact ⟨k + 1, by go_num, hlt, UW.out⟩
                      case measure => simp [intOf]; omega
                  · obtain rfl : k = r.length := by omega
                    go_wp2_with fail
                    refine (awake_c _).mono ?_
                    rintro e wq ⟨rfl, uq⟩
                    have Uq : Hid (Up w wq) := Lib.hid (Up.trans UR.out (Up.trans HU.out (Up.trans UX.out (Up.trans HV.out uq))))
                    clear uq
                    go_wp2_with fail
                    go_ret
                    exact ⟨rfl, Uq.out⟩
end
end Go.Proofs.Ytcljkkojeleakaa
/- Slices of bytes, and bytes, that came in. -/
namespace Go.Proofs.Ytcljkkojeleakaa
section
open Go.ChangeShapes Go.WideShapes Go.ChangeAt Go.RowKit

section
variable {H : Type} {enc : TypeId × Value → H} {P : Program}
/-- a slice that came in, as rows of k cells -/
theorem open_rowsQ {w : World} {t e : TypeId} {fuel k : Nat} {Q : List Value → Prop} {v : Value} {x : DataW H × List MemPlace} (ht : P.underlying t = some (.slice e)) (hC : P.cellsOf e = k) (hk : 0 < k) (hQ : ∀ r, Q r → r.length = k)
    (hel : ∀ fuel cs y, DataW.trod enc P w 0 (fun _ => true) true fuel e cs = some y → Q cs) (h : DataW.trod enc P w 0 (fun _ => true) true fuel t [v] = some x) :
    ∃ p len cap rows, v = .slice p len cap ∧ len ≤ cap ∧ cap ≤ maxLen ∧ rows.length = len ∧ Row w p k rows ∧ (∀ r ∈ rows, Q r) ∧ ((x.1 = .nil ∧ cap = 0) ∨ ∃ el sp, x.1 = .slice el sp ∧ el.length + sp.length = cap) := by
  rcases Go.Deep.open_slice ht h with ⟨hv, rfl⟩ | ⟨a, len, cap, m, n, D, Pl, hv, -, hl, hm, hmm, rfl, hi⟩
  · simp only [List.cons.injEq, and_true] at hv
    exact ⟨none, 0, 0, [], hv, Nat.le_refl _, by simp [maxLen], rfl, fun i row hr => by simp at hr, fun r hr => by simp at hr, .inl ⟨rfl, rfl⟩⟩
  · simp only [List.cons.injEq, and_true] at hv
    simp only [if_true] at hmm
    subst hmm
    rw [hC] at hi
    have hch : ∀ i, ∃ cs, i < len → Q cs ∧ ∀ j c, cs[j]? = some c → w.cell? (a.add (i * k + j)) = some c := fun i => by
      by_cases hlt : i < len
      · obtain ⟨cs, hc, ht'⟩ := hi i (by omega)
        obtain ⟨-, hcl, hat⟩ := World.cells?_some hc
        refine ⟨cs, fun _ => ⟨hel _ _ _ ht', fun j c hj => ?_⟩⟩
        have hjl : j < k := by have := (List.getElem?_eq_some_iff.1 hj).1; omega
        rw [← Go.Deep.add_add, hat j hjl, hj]
      · exact ⟨[], fun h => absurd h hlt⟩
    obtain ⟨f, hf⟩ := Classical.axiomOfChoice hch
    refine ⟨some a, len, m, (List.range len).map f, hv, hl, hm, by simp, fun i row hr => ?_, fun r hr => ?_, .inr ⟨_, _, rfl, by simp; omega⟩⟩
    · rw [List.getElem?_map] at hr
      by_cases hlt : i < len
      · rw [List.getElem?_range hlt] at hr
        simp only [Option.map_some, Option.some.injEq] at hr
        subst hr
        obtain ⟨g2, g3⟩ := hf 0 (by omega)
        have g1 := hQ _ g2
        have h0 := g3 0 _ (List.getElem?_eq_getElem (by omega))
        have hs : a.spot = none := spot_of (by simpa [Addr.add] using h0)
        obtain ⟨b, off, sp⟩ := a
        simp only at hs
        subst hs
        refine ⟨b, off, rfl, fun j c hj => ?_⟩
        have := (hf i hlt).2 j c hj
        rwa [Addr.add_lit, ← Nat.add_assoc] at this
      · rw [List.getElem?_eq_none (by simp; omega)] at hr
        cases hr
    · simp only [List.mem_map, List.mem_range] at hr
      obtain ⟨i, hlt, rfl⟩ := hr
      exact (hf i hlt).1

/-- a row of one byte -/
def OneByte (r : List Value) : Prop := ∃ n, r = [.int .u8 n]
theorem bytes_of : ∀ {rows : List (List Value)}, (∀ r ∈ rows, OneByte r) → ∃ l : List Int, rows = bytes l
  | [], _ => ⟨[], rfl⟩
  | r :: rest, h => by
    obtain ⟨l, hl⟩ := bytes_of (rows := rest) (fun r hr => h r (by simp [hr]))
    obtain ⟨n, rfl⟩ := h r (by simp)
    exact ⟨n :: l, by rw [hl]; rfl⟩
theorem cellsByte : Try.prog.cellsOf 5 = 1 := by kernel_rfl
theorem bytesByte : Try.prog.bytesOf 5 = 1 := by kernel_rfl
set_option maxRecDepth 100000 in
theorem open_bytes {w : World} {base : Nat} {v : Value} {d : DataW H} {ps : List MemPlace} (hv : Value.okWide Try.prog w .any base 83 v) (h : DataW.Trod enc Try.prog w 0 (fun _ => true) true 83 v d ps) (hz : ∀ n ∈ DataW.weights Try.prog 83 d, n ≤ reachBytes) :
    ∃ p l c, v = .slice p l.length c ∧ Row w p 1 (bytes l) ∧ l.length ≤ 140737488355328 := by
  obtain ⟨fuel, hf⟩ := h
  obtain ⟨p0, n0, c0, rfl⟩ := okWide_slice Try.underlying83 hv
  have hf' : DataW.trod enc Try.prog w 0 (fun _ => true) true fuel 83 [.slice p0 n0 c0] = some (d, ps) := hf
  obtain ⟨p, len, cap, rows, e, a1, a2, a3, a4, a5, a6⟩ := open_rowsQ (Q := OneByte) Try.underlying83 cellsByte (by decide) (fun r ⟨n, e⟩ => by rw [e]; rfl) (fun fuel cs y hy => by
    obtain ⟨n, e, -, -⟩ := DataW.trod_int Try.underlying5 hy
    exact ⟨n, e⟩) hf'
  obtain ⟨l, rfl⟩ := bytes_of a5
  have q : (bytes l).length = l.length := by simp [bytes]
  rw [q] at a3
  subst a3
  have hr := room_of Try.underlying83 bytesByte a1 a6 hz
  exact ⟨p, l, cap, e, a4, by omega⟩
theorem byte_rng {n : Int} (h : (Lit.int .u8 n).wf = true) : 0 ≤ n ∧ n ≤ 255 := by
  simp [Lit.wf] at h
  have e1 : IntKind.u8.min = 0 := rfl
  have e2 : IntKind.u8.max = 255 := rfl
  omega
end
end
end Go.Proofs.Ytcljkkojeleakaa
namespace Go.Proofs.Ytcljkkojeleakaa
section
open Go.ChangeShapes Go.WideShapes Go.ChangeAt Go.RowKit

set_option maxRecDepth 100000 in
theorem looked_contract (H : Type) (enc : TypeId × Value → H) (W : World) (base : Nat) (args : Array Value) (ds gs : List (DataW H)) (before : List MemPlace)
    (hval : ∀ (j : Nat) t v, Try.f13.params[j]? = some t → args[j]? = some v → Value.okWide Try.prog W .any base t v)
    (hW : DataW.Whole enc Try.prog Try.f13.params.toList Rows.tideLookedSpec.vars false W args.toList ds gs before)
    (hsz0 : (DataW.weightsEach Try.prog (Try.f13.params.toList ++ Rows.tideLookedSpec.plain.varTypes Try.prog) (ds ++ gs)).all (· ≤ reachBytes) = true) :
    Calls Try.prog 13 args W fun e W' => ∃ v, e = .returned v ∧ Rows.tideLookedSpec.post enc Try.prog Try.f13 false true false false W args v W' := by
  have hW' := hW
  obtain ⟨p, q, hA0, hV, rfl, -, -⟩ := hW
  have hA : DataW.TrodAll enc Try.prog W 0 (fun _ => true) true Try.f13.params.toList args.toList ds p := hA0
  rw [Try.params13] at hA hval
  obtain ⟨v0, vs0, d0, ds0, p0, q0, hargs, rfl, rfl, h0, r0⟩ := trodAll_cons hA
  obtain ⟨v1, vs1, d1, ds1, p1, q1, rfl, rfl, rfl, h1, r1⟩ := trodAll_cons r0
  obtain ⟨v2, vs2, d2, ds2, p2, q2, rfl, rfl, rfl, h2, r2⟩ := trodAll_cons r1
  obtain ⟨rfl, rfl, rfl⟩ := trodAll_nil r2
  obtain rfl : args = #[v0, v1, v2] := by cases args; simp_all
  obtain ⟨rfl, rfl⟩ := trodVars_none hV
  have hz : ∀ n ∈ DataW.weights Try.prog 83 d0, n ≤ reachBytes := fun n hn => by
    have := List.all_eq_true.1 hsz0 n (DataW.weights_mem_each (j := 0) (t := 83) rfl rfl n hn)
    simpa using this
  have hz' : ∀ n ∈ DataW.weights Try.prog 83 d1, n ≤ reachBytes := fun n hn => by
    have := List.all_eq_true.1 hsz0 n (DataW.weights_mem_each (j := 1) (t := 83) rfl rfl n hn)
    simpa using this
  obtain ⟨pb, l, c, rfl, hr, hl⟩ := open_bytes (hval 0 _ v0 rfl rfl) h0 hz
  obtain ⟨pb', l', c', rfl, hr', hl'⟩ := open_bytes (hval 1 _ v1 rfl rfl) h1 hz'
  obtain ⟨t, rfl, rfl, rfl, ht⟩ := open_int Try.underlying5 (hval 2 _ v2 rfl rfl) h2
  obtain ⟨t0, t1⟩ := byte_rng ht
  refine (lookedLaw_c l l' t W hr hr' hl hl' t0 t1).mono fun e W' ⟨he, hbl⟩ => ?_
  exact ⟨_, he, law_post hW' rfl laidOut (by kernel_rfl) rfl Try.underlying4 ⟨rfl, rfl, rfl⟩ hbl⟩

set_option maxRecDepth 100000 in
theorem looked_lifted (os : Os) (started : os.Started) (H : Type) (enc : TypeId × Value → H) :
    ReturnsInHanded {} Try.checked os 13 .any (Rows.tideLookedSpec.pre6 enc Try.prog Try.f13 Rows.tideLookedRow.domain false) (Rows.tideLookedSpec.post enc Try.prog Try.f13 false true false false) := by
  refine returnsInHanded_of_change_sized (C := Try.checked) own started (by kernel_rfl) Try.func13
    (ChangeSpec.witness6 (enc := enc) (C := Try.checked) false ⟨#[], #[.slice none 0 0, .slice none 0 0, .int .u8 0], []⟩ 8 (by kernel_rfl) (by kernel_rfl) (by kernel_rfl) (by kernel_rfl)) ?_
  intro W base args ds gs before hval hW _ hsz _
  exact looked_contract H enc W base args ds gs before hval hW hsz

theorem looked_holds : Rows.TideLookedSaid :=
  OpenClaim.holds_of_wide 13 Try.f13 rfl rfl rfl rfl rfl rfl rfl ⟨rfl, rfl, rfl, rfl, rfl⟩ rfl rfl rfl rfl rfl (by kernel_rfl) Try.func13 (by kernel_rfl)
    (of_decide_eq_true (by kernel_rfl)) (by unfold Func.isWrapper; first | (rw [if_pos (by decide +kernel)]; kernel_rfl) | (rw [if_neg (by decide +kernel)]; exact ⟨rfl, rfl⟩))
    (fun os started H enc _ => looked_lifted os started H enc)
#print axioms looked_holds
end
end Go.Proofs.Ytcljkkojeleakaa
