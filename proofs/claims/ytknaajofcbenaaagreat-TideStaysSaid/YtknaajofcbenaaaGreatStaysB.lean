/- How far the statement 'run, is := Run(x, Says(x, gates[place], 0), minute)' has come. -/
import Derived.Test.YtknaajofcbenaaaGreatStaysA
import Derived.Test.YtknaajofcbenaaaGreatHoldW
import Derived.Test.YtknaajofcbenaaaGreatTurn
import Derived.Test.YtknaajofcbenaaaGreatOut1
import Derived.Test.YtknaajofcbenaaaGreatHold
import Derived.Test.YtknaajofcbenaaaGreatRef
import Derived.Test.YtknaajofcbenaaaGreatChkZ
import Derived.Test.YtknaajofcbenaaaGreatAll
import Derived.Test.YtknaajofcbenaaaGreatHgtPure
import Derived.Test.YtknaajofcbenaaaGreatRound
import Derived.Test.YtknaajofcbenaaaGreatLonger
import Derived.Test.YtknaajofcbenaaaGreatDup
import Derived.Test.YtknaajofcbenaaaGreatRefHgt
import Derived.Test.YtknaajofcbenaaaGreatSpans2
import Derived.Test.YtknaajofcbenaaaGreatDraw4
import Derived.WalkKit
import Derived.WalkSpells
import Derived.WalkLawsBesides
import Derived.Deep.QuietTactic
import Derived.BigQuiet
import Derived.Lib.Hide
import Derived.Shelf.Abstract
import Derived.BigGuardPart
import Derived.RangeFuncNested
import Derived.RangeFuncBound
import Derived.RangeFuncCalls
import Derived.RangeFuncLeaves
import Derived.Shelf.RegionOpen
import Derived.OwnWalkIn
import Derived.TacticsInMore
import Derived.LoopNIn
import Derived.LoopIn
import Derived.StillTailTactics
import Derived.Deep.RegionHeld3
import Derived.StillTail
import Derived.RangeFuncWrites
import Derived.Laws.StructEq
import Derived.Deep.LoopGhost
import Derived.IntWalk
import Derived.RangeFuncBox
import Derived.Deep.Cut
import Derived.Deep.DeepCutAuto
import Derived.Deep.CutRange
import Derived.Deep.CutBlock
/- How far the statement 'own, x, a, b, c := Own(s), theirs(s), Dup(..), Dup(..), Dup(..)' has come. -/
namespace Go.Proofs.YtknaajofcbenaaaGreat
open Go.RowKit Go.Shelf
section
variable {w w' W w1 : World} {s : Sd} {val : Value} {done : Nat → Bool} {v0 v1 v2 v3 v4 v5 : Value}
/-- what is done of the pair alone -/
def pd (done : Nat → Bool) : Nat → Bool := fun i => if i < 4 then done i else done (i + 6)
theorem pd_low {i : Nat} (h : i < 4) : pd (upd done i) = upd (pd done) i := by
  funext k
  unfold pd upd
  by_cases hk : k < 4
  · simp [hk]
  · have e1 : (k + 6 == i) = false := beq_eq_false_iff_ne.2 (by omega)
    have e2 : (k == i) = false := beq_eq_false_iff_ne.2 (by omega)
    simp [hk, e1, e2]
theorem pd_mid {i : Nat} (h : 4 ≤ i) (h2 : i < 10) : pd (upd done i) = pd done := by
  funext k
  unfold pd upd
  by_cases hk : k < 4
  · have e2 : (k == i) = false := beq_eq_false_iff_ne.2 (by omega)
    simp [hk, e2]
  · have e1 : (k + 6 == i) = false := beq_eq_false_iff_ne.2 (by omega)
    simp [hk, e1]
theorem pd_high {i : Nat} (h : 4 ≤ i) : pd (upd done (i + 6)) = upd (pd done) i := by
  funext k
  unfold pd upd
  by_cases hk : k < 4
  · have e1 : (k == i + 6) = false := beq_eq_false_iff_ne.2 (by omega)
    have e2 : (k == i) = false := beq_eq_false_iff_ne.2 (by omega)
    simp [hk, e1, e2]
  · by_cases e : k = i
    · subst e; simp [hk]
    · have e1 : (k + 6 == i + 6) = false := beq_eq_false_iff_ne.2 (by omega)
      have e2 : (k == i) = false := beq_eq_false_iff_ne.2 e
      simp [hk, e1, e2]
theorem pd_start : pd (fun _ => false) = fun _ => false := by funext k; simp [pd]

/-- a value is not where a row lies -/
def OffR (q : Option Addr) (l : List Int) (v : Value) : Prop := 0 < l.length → ∀ b off, q = some ⟨b, off, none⟩ → v ≠ .pointer (some ⟨b, 0, none⟩)
/-- a slice of these numbers, away from two places -/
def RowOff (W : World) (y : Value) (l : List Int) (a b : Value) : Prop := ∃ q d, y = .slice q l.length d ∧ Row W q 1 (ints l) ∧ OffR q l a ∧ OffR q l b
theorem RowOff.up {y : Value} {l : List Int} {a b : Value} (h : RowOff W y l a b) (u : Up W w') : RowOff w' y l a b := by
  obtain ⟨q, d, e, r, o1, o2⟩ := h
  exact ⟨q, d, e, r.up u, o1, o2⟩
theorem Row.offNew {q : Option Addr} {l : List Int} (r : Row W q 1 (ints l)) : OffR q l (.pointer (some ⟨W.heap.size, 0, none⟩)) := fun h0 b off e ev => by
  have := r.lt (ints_pos _) (by simpa [ints] using h0) e
  simp only [Value.pointer.injEq, Option.some.injEq, Addr.mk.injEq] at ev
  omega
/-- a copy of a row, in this statement: its argument, and what is made of it -/
def Dp (W : World) (d4 d5 : Bool) (arg : Value) (l : List Int) (u y a b : Value) : Prop := (d4 = true → u = arg) ∧ (d5 = true → RowOff W y l a b)
section
variable {d4 d5 : Bool} {arg u y a b : Value} {l : List Int}
theorem Dp.cast (h : Dp W d4 d5 arg l u y a b) {e4 e5 : Bool} (h4 : e4 = d4) (h5 : e5 = d5) : Dp W e4 e5 arg l u y a b := by subst h4; subst h5; exact h
theorem Dp.up (h : Dp W d4 d5 arg l u y a b) (v : Up W w') : Dp w' d4 d5 arg l u y a b := ⟨h.1, fun e => (h.2 e).up v⟩
theorem Dp.allocA (h : Dp W d4 d5 arg l u y a b) (o : Obj) : Dp (W.alloc o) d4 d5 arg l u y (.pointer (some ⟨W.heap.size, 0, none⟩)) b :=
  ⟨h.1, fun e => by obtain ⟨q, d, e, r, -, o2⟩ := h.2 e; exact ⟨q, d, e, r.up (by (repeat (first | exact Below.refl _ _ | (with_reducible refine Below.drewN' ?_ _) | (with_reducible refine Below.drew ?_) | (with_reducible refine Below.setCell ?_ (by first | exact Nat.le_refl _ | omega | (with_reducible (repeat (first | refine sz_alloc ?_ | refine sz_setCell ?_ | refine sz_drew ?_ | refine sz_drewN ?_)); first | exact Nat.le_refl _ | omega) | (simp only [World.size_alloc, World.size_setCell, World.size_drew, size_drewN']; omega)) _) | (with_reducible refine Below.alloc ?_ (by first | exact Nat.le_refl _ | omega | (with_reducible (repeat (first | refine sz_alloc ?_ | refine sz_setCell ?_ | refine sz_drew ?_ | refine sz_drewN ?_)); first | exact Nat.le_refl _ | omega) | (simp only [World.size_alloc, World.size_setCell, World.size_drew, size_drewN']; omega)) _) | assumption))), r.offNew, o2⟩⟩
theorem Dp.allocB (h : Dp W d4 d5 arg l u y a b) (o : Obj) : Dp (W.alloc o) d4 d5 arg l u y a (.pointer (some ⟨W.heap.size, 0, none⟩)) :=
  ⟨h.1, fun e => by obtain ⟨q, d, e, r, o1, -⟩ := h.2 e; exact ⟨q, d, e, r.up (by (repeat (first | exact Below.refl _ _ | (with_reducible refine Below.drewN' ?_ _) | (with_reducible refine Below.drew ?_) | (with_reducible refine Below.setCell ?_ (by first | exact Nat.le_refl _ | omega | (with_reducible (repeat (first | refine sz_alloc ?_ | refine sz_setCell ?_ | refine sz_drew ?_ | refine sz_drewN ?_)); first | exact Nat.le_refl _ | omega) | (simp only [World.size_alloc, World.size_setCell, World.size_drew, size_drewN']; omega)) _) | (with_reducible refine Below.alloc ?_ (by first | exact Nat.le_refl _ | omega | (with_reducible (repeat (first | refine sz_alloc ?_ | refine sz_setCell ?_ | refine sz_drew ?_ | refine sz_drewN ?_)); first | exact Nat.le_refl _ | omega) | (simp only [World.size_alloc, World.size_setCell, World.size_drew, size_drewN']; omega)) _) | assumption))), o1, r.offNew⟩⟩
theorem Dp.mv (h : Dp W d4 d5 arg l u y a b) : Dp W true d5 arg l arg y a b := ⟨fun _ => rfl, h.2⟩
theorem Dp.dup (h : Dp W d4 d5 arg l u y a b) {q : Option Addr} {d : Nat} (_v : Up W w') (r : Row w' q 1 (ints l)) (hq : ∀ b off, q = some ⟨b, off, none⟩ → W.heap.size ≤ b)
    (ha : ∀ c, a = .pointer (some ⟨c, 0, none⟩) → c < W.heap.size) (hb : ∀ c, b = .pointer (some ⟨c, 0, none⟩) → c < W.heap.size) : Dp w' d4 true arg l u (.slice q l.length d) a b :=
  ⟨h.1, fun _ => ⟨q, d, rfl, r, fun _ c off e ev => by have := hq c off e; have := ha c ev; omega, fun _ c off e ev => by have := hq c off e; have := hb c ev; omega⟩⟩
end
theorem Row.fill {q : Option Addr} {l : List Int} {B : Nat} (h : Row W q 1 (ints l)) (ho : OffR q l (.pointer (some ⟨B, 0, none⟩))) (s : Sd) (pT pF pS : Option Addr) (cT cF cS : Nat) : Row (fill W B s pT pF pS cT cF cS) q 1 (ints l) := by
  have one : ∀ {W : World} (_ : Row W q 1 (ints l)) (i : Nat) (v : Value), Row (W.setCell ⟨B, i, none⟩ v) q 1 (ints l) := fun h i v =>
    h.away (fun h0 b off e he => ho (by simpa [ints] using h0) b off e (by simp only at he; rw [he])) v
  exact one (one (one (one (one h 0 _) 1 _) 2 _) 3 _) 4 _
/-- a slice of these numbers -/
def RowV (W : World) (v : Value) (l : List Int) : Prop := ∃ q d, v = .slice q l.length d ∧ Row W q 1 (ints l)

/-- how far the whole statement has come -/
structure Five (w1 : World) (s : Sd) (val x y z : Value) (la lb lc : List Int) (done : Nat → Bool) (W : World) (V : Nat → Value) : Prop where
  pair : Pair w1 s val (pd done) W (V 0) (V 1) (V 2) (V 3) (V 10) (V 11)
  a : Dp W (done 4) (done 5) x la (V 4) (V 5) (V 10) (V 11)
  b : Dp W (done 6) (done 7) y lb (V 6) (V 7) (V 10) (V 11)
  c : Dp W (done 8) (done 9) z lc (V 8) (V 9) (V 10) (V 11)
def put (V : Nat → Value) (i : Nat) (v : Value) : Nat → Value := fun k => if k = i then v else V k
section
variable {x y z : Value} {la lb lc : List Int} {V : Nat → Value}
theorem Five.start (w : World) (s : Sd) (val x y z : Value) (la lb lc : List Int) : Five w s val x y z la lb lc (fun _ => false) w.drew (fun _ => undef) :=
  ⟨by rw [pd_start]; exact Pair.start w s val, ⟨fun h => (by cases h), fun h => (by cases h)⟩, ⟨fun h => (by cases h), fun h => (by cases h)⟩, ⟨fun h => (by cases h), fun h => (by cases h)⟩⟩
theorem Five.load0 (h : Five w1 s val x y z la lb lc done W V) : Five w1 s val x y z la lb lc (upd done 0) W (put V 0 val) :=
  ⟨by rw [pd_low (by decide)]; exact h.pair.load0, h.a.cast (by simp [upd]) (by simp [upd]), h.b.cast (by simp [upd]) (by simp [upd]), h.c.cast (by simp [upd]) (by simp [upd])⟩
theorem Five.load2 (h : Five w1 s val x y z la lb lc done W V) : Five w1 s val x y z la lb lc (upd done 2) W (put V 2 val) :=
  ⟨by rw [pd_low (by decide)]; exact h.pair.load2, h.a.cast (by simp [upd]) (by simp [upd]), h.b.cast (by simp [upd]) (by simp [upd]), h.c.cast (by simp [upd]) (by simp [upd])⟩
theorem Five.call1 {qT qF qS : Option Addr} {dT dF dS : Nat} (h : Five w1 s val x y z la lb lc done W V) (u : Up W w') (hl : Lists w' s qT qF qS dT dF dS) (hf : Fresh W.heap.size s qT qF qS) : Five w1 s val x y z la lb lc (upd done 1) w' (put V 1 (sdVal s qT qF qS dT dF dS)) :=
  ⟨by rw [pd_low (by decide)]; exact h.pair.call1 u hl hf, (h.a.up u).cast (by simp [upd]) (by simp [upd]), (h.b.up u).cast (by simp [upd]) (by simp [upd]), (h.c.up u).cast (by simp [upd]) (by simp [upd])⟩
theorem Five.call3 {qT qF qS : Option Addr} {dT dF dS : Nat} (h : Five w1 s val x y z la lb lc done W V) (u : Up W w') (hl : Lists w' s qT qF qS dT dF dS) (hf : Fresh W.heap.size s qT qF qS) : Five w1 s val x y z la lb lc (upd done 3) w' (put V 3 (sdVal s qT qF qS dT dF dS)) :=
  ⟨by rw [pd_low (by decide)]; exact h.pair.call3 u hl hf, (h.a.up u).cast (by simp [upd]) (by simp [upd]), (h.b.up u).cast (by simp [upd]) (by simp [upd]), (h.c.up u).cast (by simp [upd]) (by simp [upd])⟩
theorem Five.mv4 (h : Five w1 s val x y z la lb lc done W V) : Five w1 s val x y z la lb lc (upd done 4) W (put V 4 x) :=
  ⟨by rw [pd_mid (by decide) (by decide)]; exact h.pair, h.a.mv.cast (by simp [upd]) (by simp [upd]), h.b.cast (by simp [upd]) (by simp [upd]), h.c.cast (by simp [upd]) (by simp [upd])⟩
theorem Five.mv6 (h : Five w1 s val x y z la lb lc done W V) : Five w1 s val x y z la lb lc (upd done 6) W (put V 6 y) :=
  ⟨by rw [pd_mid (by decide) (by decide)]; exact h.pair, h.a.cast (by simp [upd]) (by simp [upd]), h.b.mv.cast (by simp [upd]) (by simp [upd]), h.c.cast (by simp [upd]) (by simp [upd])⟩
theorem Five.mv8 (h : Five w1 s val x y z la lb lc done W V) : Five w1 s val x y z la lb lc (upd done 8) W (put V 8 z) :=
  ⟨by rw [pd_mid (by decide) (by decide)]; exact h.pair, h.a.cast (by simp [upd]) (by simp [upd]), h.b.cast (by simp [upd]) (by simp [upd]), h.c.mv.cast (by simp [upd]) (by simp [upd])⟩
theorem Pair.up' (h : Pair w1 s val done W v0 v1 v2 v3 v4 v5) (u : Up W w') : Pair w1 s val done w' v0 v1 v2 v3 v4 v5 :=
  ⟨Up.trans h.up u, h.l0, h.l2, fun e => (h.own e).up u, fun e => (h.the e).up u, fun e => (by obtain ⟨B, e1, e2, e3⟩ := h.a4 e; exact ⟨B, e1, e2.up u, e3⟩), fun e => (by obtain ⟨B, e1, e2, e3⟩ := h.a5 e; exact ⟨B, e1, e2.up u, e3⟩), h.n4, h.n5⟩
theorem Five.dup5 (h : Five w1 s val x y z la lb lc done W V) {q : Option Addr} {d : Nat} (u : Up W w') (r : Row w' q 1 (ints la)) (hq : ∀ b off, q = some ⟨b, off, none⟩ → W.heap.size ≤ b) : Five w1 s val x y z la lb lc (upd done 5) w' (put V 5 (.slice q la.length d)) :=
  ⟨by rw [pd_mid (by decide) (by decide)]; exact h.pair.up' u, (h.a.dup u r hq h.pair.low4 h.pair.low5).cast (by simp [upd]) (by simp [upd]), (h.b.up u).cast (by simp [upd]) (by simp [upd]), (h.c.up u).cast (by simp [upd]) (by simp [upd])⟩
theorem Five.dup7 (h : Five w1 s val x y z la lb lc done W V) {q : Option Addr} {d : Nat} (u : Up W w') (r : Row w' q 1 (ints lb)) (hq : ∀ b off, q = some ⟨b, off, none⟩ → W.heap.size ≤ b) : Five w1 s val x y z la lb lc (upd done 7) w' (put V 7 (.slice q lb.length d)) :=
  ⟨by rw [pd_mid (by decide) (by decide)]; exact h.pair.up' u, (h.a.up u).cast (by simp [upd]) (by simp [upd]), (h.b.dup u r hq h.pair.low4 h.pair.low5).cast (by simp [upd]) (by simp [upd]), (h.c.up u).cast (by simp [upd]) (by simp [upd])⟩
theorem Five.dup9 (h : Five w1 s val x y z la lb lc done W V) {q : Option Addr} {d : Nat} (u : Up W w') (r : Row w' q 1 (ints lc)) (hq : ∀ b off, q = some ⟨b, off, none⟩ → W.heap.size ≤ b) : Five w1 s val x y z la lb lc (upd done 9) w' (put V 9 (.slice q lc.length d)) :=
  ⟨by rw [pd_mid (by decide) (by decide)]; exact h.pair.up' u, (h.a.up u).cast (by simp [upd]) (by simp [upd]), (h.b.up u).cast (by simp [upd]) (by simp [upd]), (h.c.dup u r hq h.pair.low4 h.pair.low5).cast (by simp [upd]) (by simp [upd])⟩
theorem Five.alloc10 (h : Five w1 s val x y z la lb lc done W V) : Five w1 s val x y z la lb lc (upd done 10) (W.alloc (.cells #[.slice none 0 0, .int .i64 0, .int .i64 0, .slice none 0 0, .slice none 0 0] 28)) (put V 10 (.pointer (some ⟨W.heap.size, 0, none⟩))) :=
  ⟨by rw [pd_high (i := 4) (by decide)]; exact h.pair.alloc4, (h.a.allocA _).cast (by simp [upd]) (by simp [upd]), (h.b.allocA _).cast (by simp [upd]) (by simp [upd]), (h.c.allocA _).cast (by simp [upd]) (by simp [upd])⟩
theorem Five.alloc11 (h : Five w1 s val x y z la lb lc done W V) : Five w1 s val x y z la lb lc (upd done 11) (W.alloc (.cells #[.slice none 0 0, .int .i64 0, .int .i64 0, .slice none 0 0, .slice none 0 0] 35)) (put V 11 (.pointer (some ⟨W.heap.size, 0, none⟩))) :=
  ⟨by rw [pd_high (i := 5) (by decide)]; exact h.pair.alloc5, (h.a.allocB _).cast (by simp [upd]) (by simp [upd]), (h.b.allocB _).cast (by simp [upd]) (by simp [upd]), (h.c.allocB _).cast (by simp [upd]) (by simp [upd])⟩
end
end
end Go.Proofs.YtknaajofcbenaaaGreat
/- The exported Longest: the longest span in which places are dry, or the error. -/
namespace Go.Proofs.YtknaajofcbenaaaGreat
open Go.RowKit Go.Shelf Go.Maps

set_option maxRecDepth 100000 in
set_option maxHeartbeats 1000000 in
theorem inList_c (ps : List Int) (b m n : Nat) (D : DataW Unit) (hc : CntIs D ps) (w : World) (h : w.cell? ⟨b, 0, none⟩ = some (.map (some m))) (o : w.ownsMap Tryz.prog 3 (plainElem Tryz.prog 3) m n D) (x : Int) (h0 : 0 ≤ x) (h1 : x < 1000) :
    Calls Tryz.prog 73 #[.int .i64 x, .pointer (some ⟨b, 0, none⟩)] w fun e w' => e = .returned (.bool (decide (0 < ps.count x))) ∧ Up w w' := by
  have k1 : keyOf Tryz.prog 3 (.int .i64 x) = some (.int .i64 x) := keyOf_int_mk Tryz.underlying3 (wf_small (by omega) (by omega))
  obtain ⟨cn, hcn⟩ : ∃ cn : Int, ((ps.count x : Nat) : Int) = cn := ⟨_, rfl⟩
  have A1 := Lib.hid (show D.atKey (.int .i64 x) (.lit (.int .i64 0)) = .lit (.int .i64 cn) by rw [hc.count, hcn])
  have HM := Lib.hid (show decide (0 < ps.count x) = decide (0 < cn) by rw [← hcn]; simp)
  obtain ⟨x1, hr1, hat1, -⟩ := o.lookup_int law3 Tryz.underlying119 Tryz.underlying3 (zero3 _) k1
  obtain rfl : cn = x1 := by rw [A1.out] at hat1; simpa using hat1
  clear o hcn hat1 A1 k1
  go_enter Tryz.func73, Tryz.ntmps73
  go_wp2
  go_ret
  exact ⟨ret_bool HM.out.symm, Below.refl _ _⟩
theorem en_inList : Enters Tryz.prog 73 := enters_of Tryz.func73 (by kernel_rfl) rfl

/-- the places that are listed, each once -/
theorem inPl_eq (s : Sd) (ps : List Int) : inPl s ps = (allP s).filter (fun p => decide (0 < ps.count p)) := rfl
theorem allP_mem {s : Sd} {x : Int} (h : x ∈ allP s) : 0 ≤ x ∧ x < s.floors.length := by
  simp only [allP, List.mem_map, List.mem_range] at h
  obtain ⟨n, hn, rfl⟩ := h
  omega
theorem span_near {s : Sd} (ok : Ok s) (ps : List Int) : ∀ x ∈ drySpans s ps, Near x := by
  obtain ⟨f0, f1, f2⟩ := firstM_lt ok.table
  have hn : ((dayN s : Nat) : Int) = lastM s.table - firstM s.table + 1 := by unfold dayN; omega
  intro x hx
  have r := (spans_run _ _ _).1 x hx
  have r0 := r.lo
  have r1 := r.le
  have r2 := r.hi
  exact ⟨by omega, by omega, by omega, by omega⟩
section
variable {pT pF pS : Option Addr} {cT cF cS : Nat}
set_option maxRecDepth 100000 in
set_option maxHeartbeats 3000000 in
theorem Longest_c (s : Sd) (ps : List Int) (pp : Option Addr) (c : Nat) (w : World) (hl : Lists w s pT pF pS cT cF cS) (hr : Row w pp 1 (ints ps)) (hn : ps.length ≤ 10000) :
    Calls Tryz.prog 22 #[sdVal s pT pF pS cT cF cS, .slice pp ps.length c] w fun e w' => e = .returned (.tuple #[.agg #[.int .i64 (longestV s ps).1, .int .i64 (longestV s ps).2], .int .i64 (errLong s ps)]) ∧ Up w w' := by
  have HC := Lib.hid (fun W (u : Up w W) => begin_c s W pT pF pS cT cF cS (hl.up u))
  have HR := Lib.hid hr
  clear hl hr
  by_cases hc : chk s = 0
  · have OK := Lib.hid (chk_ok hc)
    have HE := Lib.hid (show errLong s ps = if ps.all (isPl s) = true then (if drySpans s ps = [] then 6 else 0) else 1 by unfold errLong; rw [if_pos hc])
    rw [hc] at HC
    clear hc
    have hf8 := OK.out.fl1
    unfold sdVal at *
    go_enter Tryz.func22, Tryz.ntmps22
    go_wp2_with fail
    refine Calls.world ?_
    intro w0 hw0
    have u0 : Up w w0 := by rw [hw0]; (repeat (first | exact Below.refl _ _ | (with_reducible refine Below.drewN' ?_ _) | (with_reducible refine Below.drew ?_) | (with_reducible refine Below.setCell ?_ (by first | exact Nat.le_refl _ | omega | (with_reducible (repeat (first | refine sz_alloc ?_ | refine sz_setCell ?_ | refine sz_drew ?_ | refine sz_drewN ?_)); first | exact Nat.le_refl _ | omega) | (simp only [World.size_alloc, World.size_setCell, World.size_drew, size_drewN']; omega)) _) | (with_reducible refine Below.alloc ?_ (by first | exact Nat.le_refl _ | omega | (with_reducible (repeat (first | refine sz_alloc ?_ | refine sz_setCell ?_ | refine sz_drew ?_ | refine sz_drewN ?_)); first | exact Nat.le_refl _ | omega) | (simp only [World.size_alloc, World.size_setCell, World.size_drew, size_drewN']; omega)) _) | assumption))
    have hB : Blk w0 (w.heap.size + 1) [.int .i64 0, .int .i64 0] 24 := by rw [hw0]; exact Blk.new' _ [.int .i64 0, .int .i64 0] _ (by simp)
    clear hw0
    refine (HC.out _ u0).mono ?_
    rintro e w1 ⟨p, rfl, u1, hok⟩
    obtain ⟨bw, rfl, hW⟩ := hok rfl
    have U1 := Lib.hid (Up.trans u0 u1)
    have HW := Lib.hid hW
    have HB := Lib.hid (hB.up u1)
    clear hok hW u1 u0 HC hB
    go_wp2_with fail
    refine (everyInt_c 71 #[.pointer (some ⟨bw, 0, none⟩)] #[] pp c ps (isPl s) w1 (HR.out.up U1.out) (by simp only [maxLen]; omega) en_isPlace (fun x _ W uW => (isPlace_c bw _ _ _ x W (HW.out.up uW).sands.s3 (by simp only [maxLen]; omega)).mono (fun e W' h => ⟨h.1, h.2 ▸ Below.refl _ _⟩))).mono ?_
    rintro e w2 ⟨rfl, u2⟩
    have U2 := Lib.hid (Up.trans U1.out u2)
    have HW2 := Lib.hid (HW.out.up u2)
    have HB2 := Lib.hid (HB.out.up u2)
    clear u2 U1 HW HB
    have q0 := HB2.out.cell 0
    have q1 := HB2.out.cell 1
    have fr := HB2.out.free
    have lB := HB2.out.lt
    simp only [List.getElem?_cons_zero, List.getElem?_cons_succ] at q0 q1
    cases hall : ps.all (isPl s) with
    | false =>
      rw [hall, if_neg (by decide)] at HE
      have HV := Lib.hid (show longestV s ps = (0, 0) by unfold longestV; rw [HE.out, if_neg (by decide)])
      go_wp2_with fail
      have h := (HB2.out.set 0 (.int .i64 0)).set 1 (.int .i64 0)
      have p0 := h.cell 0
      have p1 := h.cell 1
      simp only [List.set_cons_zero, List.set_cons_succ, List.getElem?_cons_zero, List.getElem?_cons_succ] at p0 p1
      refine bodyPost_ret (v := .tuple #[.agg #[.int .i64 0, .int .i64 0], .int .i64 1]) (by simp [results, Tryz.f22, go_sem, p0, p1]) rfl ⟨by rw [HV.out, HE.out], ?_⟩
      exact (U2.out.setCell (by simp only []; omega) _).setCell (by simp only []; omega) _
    | true =>
      rw [hall, if_pos rfl] at HE
      have HPL := Lib.hid (inPl_dry hall)
      have HALL := Lib.hid (fun x (hx : x ∈ ps) => inB_true.1 (List.all_eq_true.1 hall x hx))
      clear hall
      clear q0 q1 fr
      go_wp2_with fail
      refine (counted_c ps pp c w2 (HR.out.up U2.out) hn (fun x hx => by have := HALL.out x hx; omega)).mono ?_
      rintro e w3 ⟨rfl, ⟨D, hD, hM⟩, u3⟩
      have U3 := Lib.hid (Up.trans U2.out u3)
      have HW3 := Lib.hid (HW2.out.up u3)
      have HB3 := Lib.hid (HB2.out.up u3)
      have HM3 := Lib.hid hM
      clear u3 U2 HW2 HB2 hM
      go_wp2_with fail
      refine Calls.world ?_
      intro w4 hw4
      have u4 : Up w3 w4 := by rw [hw4]; (repeat (first | exact Below.refl _ _ | (with_reducible refine Below.drewN' ?_ _) | (with_reducible refine Below.drew ?_) | (with_reducible refine Below.setCell ?_ (by first | exact Nat.le_refl _ | omega | (with_reducible (repeat (first | refine sz_alloc ?_ | refine sz_setCell ?_ | refine sz_drew ?_ | refine sz_drewN ?_)); first | exact Nat.le_refl _ | omega) | (simp only [World.size_alloc, World.size_setCell, World.size_drew, size_drewN']; omega)) _) | (with_reducible refine Below.alloc ?_ (by first | exact Nat.le_refl _ | omega | (with_reducible (repeat (first | refine sz_alloc ?_ | refine sz_setCell ?_ | refine sz_drew ?_ | refine sz_drewN ?_)); first | exact Nat.le_refl _ | omega) | (simp only [World.size_alloc, World.size_setCell, World.size_drew, size_drewN']; omega)) _) | assumption))
      have hBm : Blk w4 w3.heap.size [.map (some w2.heap.size)] 119 := by rw [hw4]; exact Blk.new _ _ _
      clear hw4
      refine (allPlaces_c bw s w4 (HW3.out.up u4) hf8).mono ?_
      rintro e w5 ⟨q, d, rfl, -, -, rP, u5⟩
      have u45 := Up.trans u4 u5
      have U5 := Lib.hid (Up.trans U3.out u45)
      have HW5 := Lib.hid (HW3.out.up u45)
      have HB5 := Lib.hid (HB3.out.up u45)
      have HM5 := Lib.hid (ownsMap_up HM3.out u45)
      have Bm5 := Lib.hid (hBm.up u5)
      have RP := Lib.hid rP
      obtain ⟨bm, hbm⟩ : ∃ bm, w3.heap.size = bm := ⟨_, rfl⟩
      obtain ⟨mm, hmm⟩ : ∃ mm, w2.heap.size = mm := ⟨_, rfl⟩
      rw [hbm] at Bm5
      rw [hmm] at Bm5 HM5
      rw [hmm, hbm]
      clear u4 u5 u45 U3 HW3 HB3 HM3 hBm rP hbm hmm
      go_wp2_with fail
      refine (those_c 73 #[] #[.pointer (some ⟨bm, 0, none⟩)] q d (allP s) (fun p => decide (0 < ps.count p)) w5 RP.out (by rw [allP_len]; omega) en_inList (fun x hx W uW => inList_c ps bm mm ps.length D hD W ((Bm5.out.up uW).cell 0) (ownsMap_up HM5.out uW) x (allP_mem hx).1 (by have := (allP_mem hx).2; omega))).mono ?_
      rintro e w6 ⟨q', d', rfl, -, -, rQ, u6⟩
      rw [← inPl_eq] at rQ ⊢
      have U6 := Lib.hid (Up.trans U5.out u6)
      have HW6 := Lib.hid (HW5.out.up u6)
      have HB6 := Lib.hid (HB5.out.up u6)
      have RQ := Lib.hid rQ
      have IN := Lib.hid (fun x (hx : x ∈ inPl s ps) => ((inPl_mem s ps x).1 hx).1)
      have HIL : Hid ((inPl s ps).length ≤ 8) := Lib.hid (by
        rw [inPl_eq]
        refine Nat.le_trans (List.length_filter_le _ _) ?_
        rw [allP_len]; exact hf8)
      have hil := HIL.out
      obtain ⟨qs, hqs⟩ : ∃ qs, inPl s ps = qs := ⟨_, rfl⟩
      rw [hqs] at RQ IN HPL hil
      rw [hqs]
      clear u6 U5 HW5 HB5 HM5 Bm5 RP rQ hqs HIL
      go_wp2_with fail
      refine (dryTogether_c bw s qs q' d' w6 HW6.out OK.out RQ.out (fun x hx => by have := IN.out x hx; omega) (by simp only [maxLen]; omega)).mono ?_
      rintro e w7 ⟨r, d'', rfl, c1, c2, rD, u7⟩
      have U7 := Lib.hid (Up.trans U6.out u7)
      have HB7 := Lib.hid (HB6.out.up u7)
      have RD := Lib.hid rD
      have NR := Lib.hid (span_near OK.out ps)
      have hln : (drySpans s ps).length ≤ dayN s + 1 := spansOf_len _ _ _
      have hdn : dayN s ≤ 1441 := by have := firstM_lt OK.out.table; unfold dayN; omega
      have HLV := Lib.hid (show longestV s ps = if errLong s ps = 0 then longV (drySpans s ps) else (0, 0) from rfl)
      rw [HPL.out] at RD c1
      rw [HPL.out]
      obtain ⟨ds, hds⟩ : ∃ ds, drySpans s ps = ds := ⟨_, rfl⟩
      rw [hds] at RD c1 NR hln HLV HE
      rw [hds]
      clear u7 U6 HB6 rD hds HPL HALL IN RQ HW6
      have q0 := HB7.out.cell 0
      have q1 := HB7.out.cell 1
      have fr := HB7.out.free
      have lB7 := HB7.out.lt
      simp only [List.getElem?_cons_zero, List.getElem?_cons_succ] at q0 q1
      by_cases h0 : ds = []
      · rw [if_pos h0] at HE
        have HV := Lib.hid (show longestV s ps = (0, 0) by rw [HLV.out, HE.out, if_neg (by decide)])
        subst h0
        go_wp2_with fail
        have h := (HB7.out.set 0 (.int .i64 0)).set 1 (.int .i64 0)
        have p0 := h.cell 0
        have p1 := h.cell 1
        simp only [List.set_cons_zero, List.set_cons_succ, List.getElem?_cons_zero, List.getElem?_cons_succ] at p0 p1
        refine bodyPost_ret (v := .tuple #[.agg #[.int .i64 0, .int .i64 0], .int .i64 6]) (by simp [results, Tryz.f22, go_sem, p0, p1]) rfl ⟨by rw [HV.out, HE.out], ?_⟩
        exact (U7.out.setCell (by simp only []; omega) _).setCell (by simp only []; omega) _
      · rw [if_neg h0] at HE
        have HV := Lib.hid (show longestV s ps = longV ds by rw [HLV.out, HE.out, if_pos rfl])
        have hpos : 0 < ds.length := List.length_pos_iff.2 h0
        obtain ⟨b, off, rfl, e0, e1⟩ := RD.out.pair 0 hpos
        have e0' : w7.cell? ⟨b, off, none⟩ = some (.int .i64 ds[0].1) := by simpa using e0
        have e1' : w7.cell? ⟨b, off + 1, none⟩ = some (.int .i64 ds[0].2) := by simpa using e1
        have HL := Lib.hid (show longV ds = ds.foldl longStep ds[0] by cases ds with | nil => exact absurd rfl h0 | cons a r => rfl)
        have N0 := Lib.hid (NR.out ds[0] (List.getElem_mem hpos))
        have hz0 : ((ds.length : Int) == 0) = false := by rw [beq_eq_false_iff_ne]; omega
        have hpi : (0 : Int) < ds.length := by omega
        clear e0 e1 h0 q0 q1 fr
        go_wp2_with fail
        have HB7' := Lib.hid (HB7.out.alloc (.cells #[.int .i64 ds[0].1, .int .i64 ds[0].2] 24))
        have Y7 : Hid (Blk (w7.alloc (.cells #[.int .i64 ds[0].1, .int .i64 ds[0].2] 24)) w7.heap.size [.int .i64 ds[0].1, .int .i64 ds[0].2] 24) := Lib.hid (Blk.new w7 _ _)
        have U7' : Hid (Up w (w7.alloc (.cells #[.int .i64 ds[0].1, .int .i64 ds[0].2] 24))) := Lib.hid (Up.trans U7.out (by (repeat (first | exact Below.refl _ _ | (with_reducible refine Below.drewN' ?_ _) | (with_reducible refine Below.drew ?_) | (with_reducible refine Below.setCell ?_ (by first | exact Nat.le_refl _ | omega | (with_reducible (repeat (first | refine sz_alloc ?_ | refine sz_setCell ?_ | refine sz_drew ?_ | refine sz_drewN ?_)); first | exact Nat.le_refl _ | omega) | (simp only [World.size_alloc, World.size_setCell, World.size_drew, size_drewN']; omega)) _) | (with_reducible refine Below.alloc ?_ (by first | exact Nat.le_refl _ | omega | (with_reducible (repeat (first | refine sz_alloc ?_ | refine sz_setCell ?_ | refine sz_drew ?_ | refine sz_drewN ?_)); first | exact Nat.le_refl _ | omega) | (simp only [World.size_alloc, World.size_setCell, World.size_drew, size_drewN']; omega)) _) | assumption))))
        have D7 : Hid (Up w7 (w7.alloc (.cells #[.int .i64 ds[0].1, .int .i64 ds[0].2] 24))) := Lib.hid (by (repeat (first | exact Below.refl _ _ | (with_reducible refine Below.drewN' ?_ _) | (with_reducible refine Below.drew ?_) | (with_reducible refine Below.setCell ?_ (by first | exact Nat.le_refl _ | omega | (with_reducible (repeat (first | refine sz_alloc ?_ | refine sz_setCell ?_ | refine sz_drew ?_ | refine sz_drewN ?_)); first | exact Nat.le_refl _ | omega) | (simp only [World.size_alloc, World.size_setCell, World.size_drew, size_drewN']; omega)) _) | (with_reducible refine Below.alloc ?_ (by first | exact Nat.le_refl _ | omega | (with_reducible (repeat (first | refine sz_alloc ?_ | refine sz_setCell ?_ | refine sz_drew ?_ | refine sz_drewN ?_)); first | exact Nat.le_refl _ | omega) | (simp only [World.size_alloc, World.size_setCell, World.size_drew, size_drewN']; omega)) _) | assumption)))
        have hw7 := U7.out.size
        obtain ⟨Y, hY⟩ : ∃ Y, w7.heap.size = Y := ⟨_, rfl⟩
        rw [hY] at Y7 lB7 hw7 ⊢
        generalize (w7.alloc (.cells #[.int .i64 ds[0].1, .int .i64 ds[0].2] 24)) = w8 at *
        clear HB7 U7 e0' e1'
        have HYY := Lib.hid hY
        clear hY
        go_loopw [45] (fun i wr => ∃ (k : Nat) (z : Int × Int), k ≤ ds.length ∧ i = .int .i64 k ∧ z = (ds.take k).foldl longStep ds[0] ∧ Near z ∧ Blk wr Y [.int .i64 z.1, .int .i64 z.2] 24 ∧ Blk wr (w.heap.size + 1) [.int .i64 0, .int .i64 0] 24 ∧ Up w wr ∧ Below Y w7 wr) (fun i _ => ds.length - (intOf i).toNat)
        case atStart => exact ⟨0, ds[0], Nat.zero_le _, rfl, rfl, N0.out, Y7.out, HB7'.out, U7'.out, by have h := D7.out; unfold Up at h; rw [HYY.out] at h; exact h⟩
        case round =>
          obtain ⟨k, z, hk, rfl, hz, hnz, hy, hb, hu, hd⟩ := hrel
          have HZ := Lib.hid hz
          have NZ := Lib.hid hnz
          have HY := Lib.hid hy
          have HBr := Lib.hid hb
          have HU := Lib.hid hu
          have HD := Lib.hid hd
          clear hz hnz hy hb hu hd
          by_cases hlt : k < ds.length
          · have k1 : (k : Int) < ds.length := by omega
            obtain ⟨b', off', hp, e0, e1⟩ := RD.out.pair k hlt
            simp only [Option.some.injEq, Addr.mk.injEq, and_true] at hp
            obtain ⟨rfl, rfl⟩ := hp
            have lbd := cell_lt e0
            have d0 := (HD.out.cell (p := ⟨b, off + k * 2, none⟩) (by have := HYY.out; simp only; omega)).trans e0
            have d1 := (HD.out.cell (p := ⟨b, off + k * 2 + 1, none⟩) (by have := HYY.out; simp only; omega)).trans e1
            have HT := Lib.hid (show (ds.take (k + 1)).foldl longStep ds[0] = longStep z ds[k] by rw [List.take_succ_eq_append_getElem hlt, List.foldl_append, ← HZ.out]; rfl)
            have NX := Lib.hid (NR.out ds[k] (List.getElem_mem hlt))
            clear e0 e1
            generalize ds[k] = x at *
            obtain ⟨x1, x2⟩ := x
            obtain ⟨z1, z2⟩ := z
            dsimp only at d0 d1 HY
            go_wp2_with fail
            refine Code.wp_world ?_
            intro w9 hw9
            have u9 : Up wr w9 := by rw [hw9]; (repeat (first | exact Below.refl _ _ | (with_reducible refine Below.drewN' ?_ _) | (with_reducible refine Below.drew ?_) | (with_reducible refine Below.setCell ?_ (by first | exact Nat.le_refl _ | omega | (with_reducible (repeat (first | refine sz_alloc ?_ | refine sz_setCell ?_ | refine sz_drew ?_ | refine sz_drewN ?_)); first | exact Nat.le_refl _ | omega) | (simp only [World.size_alloc, World.size_setCell, World.size_drew, size_drewN']; omega)) _) | (with_reducible refine Below.alloc ?_ (by first | exact Nat.le_refl _ | omega | (with_reducible (repeat (first | refine sz_alloc ?_ | refine sz_setCell ?_ | refine sz_drew ?_ | refine sz_drewN ?_)); first | exact Nat.le_refl _ | omega) | (simp only [World.size_alloc, World.size_setCell, World.size_drew, size_drewN']; omega)) _) | assumption))
            have hX : Blk w9 wr.heap.size [.int .i64 x1, .int .i64 x2] 24 := by rw [hw9]; exact Blk.new wr _ _
            clear hw9
            have hY9 := HY.out.up u9
            have x0 := hX.cell 0
            have x1' := hX.cell 1
            have y0 := hY9.cell 0
            have y1 := hY9.cell 1
            simp only [List.getElem?_cons_zero, List.getElem?_cons_succ] at x0 x1' y0 y1
            have neq : wr.heap.size ≠ Y := by have := HY.out.lt; omega
            clear d0 d1
            have XW := Lib.hid hX
            have YW := Lib.hid hY9
            have U9 := Lib.hid (Up.trans HU.out u9)
            have D9 := Lib.hid (Below.trans HD.out (u9.mono (by have := HY.out.lt; omega)))
            have B9 := Lib.hid (HBr.out.up u9)
            clear u9 hX hY9 HY HU HD HBr
            refine region_tail (fun W' => W'.cell? ⟨wr.heap.size, 0, none⟩ = some (.int .i64 x1) ∧ W'.cell? ⟨wr.heap.size, 1, none⟩ = some (.int .i64 x2) ∧ W'.cell? ⟨Y, 0, none⟩ = some (.int .i64 z1) ∧ W'.cell? ⟨Y, 1, none⟩ = some (.int .i64 z2)) 5 mixed (by kernel_rfl) ⟨x0, x1', y0, y1⟩ (fun hHeld => ?_)
            refine wpAnyG_take 0 49 (v := ?_) rfl rfl (by kernel_rfl) (fun _ _ _ h => h) (Or.inl ⟨by rfl, ?_⟩) (by assumption) ?_
            rotate_left
            · (intro w' hSw; (try dsimp only at hSw); go_split_ands; go_simp; try with_reducible rfl)
            try simp only [List.setIfInBounds_toArray, List.set_cons_zero, List.set_cons_succ]
            refine wpAnyG_take 2 51 (v := ?_) rfl rfl (by kernel_rfl) (fun _ _ _ h => h) (Or.inl ⟨by rfl, ?_⟩) (by assumption) ?_
            rotate_left
            · (intro w' hSw; (try dsimp only at hSw); go_split_ands; go_simp; try with_reducible rfl)
            try simp only [List.setIfInBounds_toArray, List.set_cons_zero, List.set_cons_succ]
            refine wpAnyG_do 1 rfl (by kernel_rfl) (fun K hK => ?_)
            rw [if_pos (by rfl)]
            go_simp
            refine (size_t NX.out _).mono ?_
            rintro e wa ⟨rfl, va⟩
            have va' : Up w9 wa := Up.trans ((Below.refl _ _).drew) va
            refine hK.out _ _ ⟨va'.cellAt x0, va'.cellAt x1', va'.cellAt y0, va'.cellAt y1⟩ (fun hHeld => ?_)
            clear hK K
            refine wpAnyG_do 3 rfl (by kernel_rfl) (fun K hK => ?_)
            rw [if_pos (by rfl)]
            go_simp
            refine (size_t NZ.out _).mono ?_
            rintro e wb ⟨rfl, vb⟩
            have vb' : Up w9 wb := Up.trans va' vb
            refine hK.out _ _ ⟨vb'.cellAt x0, vb'.cellAt x1', vb'.cellAt y0, vb'.cellAt y1⟩ (fun hHeld => ?_)
            clear hK K
            have x0b := vb'.cellAt x0
            have x1b := vb'.cellAt x1'
            have Yb := YW.out.up vb'
            have y0b := Yb.cell 0
            have y1b := Yb.cell 1
            have yfb := Yb.free
            have ylb := Yb.lt
            simp only [List.getElem?_cons_zero, List.getElem?_cons_succ] at y0b y1b
            have YB := Lib.hid Yb
            have UB := Lib.hid (Up.trans U9.out vb')
            have DB := Lib.hid (Below.trans D9.out (vb'.mono (by have := YW.out.lt; omega)))
            have BB := Lib.hid (B9.out.up vb')
            clear Yb va vb va' vb' x0 x1' y0 y1 YW U9 D9 B9 XW
            generalize hgx : siz (x1, x2) = gx at *
            generalize hgz : siz (z1, z2) = gz at *
            by_cases hcmp : gz < gx
            · have HS := Lib.hid (show longStep (z1, z2) (x1, x2) = (x1, x2) by unfold longStep; rw [hgx, hgz, if_pos hcmp])
              clear hgx hgz
              refine wpAnyG_take 4 53 (v := .bool true) rfl rfl (by kernel_rfl) (fun _ _ _ h => h) (Or.inl ⟨by rfl, ?_⟩) (by assumption) ?_
              · intro w' _
                go_simp
              try simp only [List.setIfInBounds_toArray, List.set_cons_zero, List.set_cons_succ]
              clear hHeld
              refine wpAnyG_tail (by kernel_rfl) ?_
              change wpList _ _ _ [] _ _
              go_wp2_with fail
              go_roundw
              case rel =>
                try ((repeat apply Exists.intro); refine ⟨?_, rfl⟩)
                refine ⟨k + 1, (x1, x2), by omega, by go_num, by rw [HT.out, HS.out], NX.out, ?_, ?_, ?_, ?_⟩
                · have h := (YB.out.set 0 (.int .i64 x1)).set 1 (.int .i64 x2)
                  simpa only [List.set_cons_zero, List.set_cons_succ] using h
                · exact (BB.out.other (by simp only []; omega) _).other (by simp only []; omega) _
                · exact (UB.out.setCell (by simp only []; omega) _).setCell (by simp only []; omega) _
                · exact (DB.out.setCell (by simp only []; omega) _).setCell (by simp only []; omega) _
              case measure => simp [intOf]; omega
            · have HS := Lib.hid (show longStep (z1, z2) (x1, x2) = (z1, z2) by unfold longStep; rw [hgx, hgz, if_neg hcmp])
              clear hgx hgz
              refine wpAnyG_take 4 53 (v := .bool false) rfl rfl (by kernel_rfl) (fun _ _ _ h => h) (Or.inl ⟨by rfl, ?_⟩) (by assumption) ?_
              · intro w' _
                go_simp
              try simp only [List.setIfInBounds_toArray, List.set_cons_zero, List.set_cons_succ]
              clear hHeld
              refine wpAnyG_tail (by kernel_rfl) ?_
              change wpList _ _ _ [] _ _
              go_wp2_with fail
              go_roundw
              case rel =>
                try ((repeat apply Exists.intro); refine ⟨?_, rfl⟩)
                exact ⟨k + 1, (z1, z2), by omega, by go_num, by rw [HT.out, HS.out], NZ.out, YB.out, BB.out, UB.out, DB.out⟩
              case measure => simp [intOf]; omega
          · obtain rfl : k = ds.length := by omega
            rw [List.take_length, ← HL.out] at HZ
            obtain ⟨z1, z2⟩ := z
            have y0 := HY.out.cell 0
            have y1 := HY.out.cell 1
            have r0 := HBr.out.cell 0
            have r1 := HBr.out.cell 1
            have rf := HBr.out.free
            have rl := HBr.out.lt
            simp only [List.getElem?_cons_zero, List.getElem?_cons_succ] at y0 y1 r0 r1
            go_wp2_with fail
            have h := (HBr.out.set 0 (.int .i64 z1)).set 1 (.int .i64 z2)
            have p0 := h.cell 0
            have p1 := h.cell 1
            simp only [List.set_cons_zero, List.set_cons_succ, List.getElem?_cons_zero, List.getElem?_cons_succ] at p0 p1
            refine bodyPost_ret (v := .tuple #[.agg #[.int .i64 z1, .int .i64 z2], .int .i64 0]) (by simp [results, Tryz.f22, go_sem, p0, p1]) rfl ⟨by rw [HV.out, HE.out, ← HZ.out], ?_⟩
            exact (HU.out.setCell (by simp only []; omega) _).setCell (by simp only []; omega) _
  · have hne : (chk s != 0) = true := by rw [bne_iff_ne]; exact hc
    have HE := Lib.hid (show errLong s ps = chk s by unfold errLong; rw [if_neg hc])
    have HV := Lib.hid (show longestV s ps = (0, 0) by unfold longestV; rw [HE.out, if_neg hc])
    clear hc
    unfold sdVal at *
    go_enter Tryz.func22, Tryz.ntmps22
    go_wp2_with fail
    refine Calls.world ?_
    intro w0 hw0
    have u0 : Up w w0 := by rw [hw0]; (repeat (first | exact Below.refl _ _ | (with_reducible refine Below.drewN' ?_ _) | (with_reducible refine Below.drew ?_) | (with_reducible refine Below.setCell ?_ (by first | exact Nat.le_refl _ | omega | (with_reducible (repeat (first | refine sz_alloc ?_ | refine sz_setCell ?_ | refine sz_drew ?_ | refine sz_drewN ?_)); first | exact Nat.le_refl _ | omega) | (simp only [World.size_alloc, World.size_setCell, World.size_drew, size_drewN']; omega)) _) | (with_reducible refine Below.alloc ?_ (by first | exact Nat.le_refl _ | omega | (with_reducible (repeat (first | refine sz_alloc ?_ | refine sz_setCell ?_ | refine sz_drew ?_ | refine sz_drewN ?_)); first | exact Nat.le_refl _ | omega) | (simp only [World.size_alloc, World.size_setCell, World.size_drew, size_drewN']; omega)) _) | assumption))
    have hB : Blk w0 (w.heap.size + 1) [.int .i64 0, .int .i64 0] 24 := by rw [hw0]; exact Blk.new' _ [.int .i64 0, .int .i64 0] _ (by simp)
    clear hw0
    refine (HC.out _ u0).mono ?_
    rintro e w1 ⟨p, rfl, u1, -⟩
    have U1 := Lib.hid (Up.trans u0 u1)
    have hB1 := hB.up u1
    have q0 := hB1.cell 0
    have q1 := hB1.cell 1
    have fr := hB1.free
    have lB := hB1.lt
    simp only [List.getElem?_cons_zero, List.getElem?_cons_succ] at q0 q1
    have HB := Lib.hid hB1
    clear u1 u0 HC hB hB1
    go_wp2_with fail
    have h := (HB.out.set 0 (.int .i64 0)).set 1 (.int .i64 0)
    have p0 := h.cell 0
    have p1 := h.cell 1
    simp only [List.set_cons_zero, List.set_cons_succ, List.getElem?_cons_zero, List.getElem?_cons_succ] at p0 p1
    refine bodyPost_ret (v := .tuple #[.agg #[.int .i64 0, .int .i64 0], .int .i64 (chk s)]) (by simp [results, Tryz.f22, go_sem, p0, p1]) rfl ⟨by rw [HV.out, HE.out], ?_⟩
    exact (U1.out.setCell (by simp only []; omega) _).setCell (by simp only []; omega) _
end
end Go.Proofs.YtknaajofcbenaaaGreat
/- The reference's least crests: what its functions over, least, Gate and Gates return. -/
namespace Go.Proofs.YtknaajofcbenaaaGreat
open Go.RowKit Go.Shelf

section
variable {pT pF pS : Option Addr} {cT cF cS : Nat}
set_option maxHeartbeats 400000 in
theorem has_c (l : List Int) (p : Option Addr) (c : Nat) (n : Int) (w : World) (hr : Row w p 1 (ints l)) (hm : l.length ≤ maxLen) :
    Calls Tryz.prog 129 #[.slice p l.length c, .int .i64 n] w fun e w' => e = .returned (.bool (decide (n ∈ l))) ∧ w = w' := by
  unfold maxLen at hm
  go_enter Tryz.func129, Tryz.ntmps129
  go_wp2
  go_loop [5] (fun i => ∃ k : Nat, k ≤ l.length ∧ i = .int .i64 k ∧ n ∉ l.take k) (fun i => l.length - (intOf i).toNat)
  case atStart => exact ⟨0, Nat.zero_le _, rfl, by simp⟩
  case round =>
    obtain ⟨k, hk, rfl, hn⟩ := hrel
    have HN := Lib.hid hn
    clear hn
    by_cases hlt : k < l.length
    · obtain ⟨b, off, rfl, hc0⟩ := hr.int k hlt
      have k1 : (k : Int) < l.length := by omega
      by_cases he : l[k] = n
      · have HE := Lib.hid he
        have he' : (l[k] == n) = true := by simpa using he
        clear he
        go_wp2
        go_ret
        exact ⟨ret_bool (decide_eq_true (by rw [← HE.out]; exact List.getElem_mem _)).symm, rfl⟩
      · have HE := Lib.hid he
        have he' : (l[k] == n) = false := by simpa using he
        clear he
        go_wp2
        go_round
        case rel =>
          refine ⟨k + 1, hlt, by go_num, ?_⟩
          rw [List.take_succ_eq_append_getElem hlt, List.mem_append, List.mem_singleton]
          rintro (h | h)
          · exact HN.out h
          · exact HE.out h.symm
        case measure => simp [intOf]; omega
    · obtain rfl : k = l.length := by omega
      have h := HN.out
      rw [List.take_length] at h
      have HH := Lib.hid h
      clear h
      go_wp2
      go_ret
      exact ⟨ret_bool (decide_eq_false HH.out).symm, rfl⟩

set_option maxRecDepth 100000 in
set_option maxHeartbeats 1000000 in
theorem over_c (s : Sd) (G : List Int) (g : Nat) (n c : Nat) (a b h : Int) (w : World) (hn : G.length = n) (hl : Lists w s pT pF pS cT cF cS) (hr : Row w (some ⟨g, 0, none⟩) 1 (ints G)) (ha : a = -1 ∨ 0 ≤ a ∧ a < n) (hb : 0 ≤ b ∧ b < s.floors.length) (_hf : s.floors.length ≤ 1000) (hn9 : n ≤ 1000) :
    Calls Tryz.prog 139 #[sdVal s pT pF pS cT cF cS, .slice (some ⟨g, 0, none⟩) n c, .int .i64 a, .int .i64 b, .int .i64 h] w fun e w' => e = .returned (.int .i64 (ovr s G a b h)) ∧ Up w w' := by
  subst hn
  obtain ⟨bn, rfl⟩ := Int.eq_ofNat_of_zero_le hb.1
  obtain ⟨gF, oF, rfl, e1⟩ := hl.rf.int bn (by omega)
  have e1' := (show Up w (w.alloc (.cells (sdCells s pT (some ⟨gF, oF, none⟩) pS cT cF cS).toArray 35)) by (repeat (first | exact Below.refl _ _ | (with_reducible refine Below.drewN' ?_ _) | (with_reducible refine Below.drew ?_) | (with_reducible refine Below.setCell ?_ (by first | exact Nat.le_refl _ | omega | (with_reducible (repeat (first | refine sz_alloc ?_ | refine sz_setCell ?_ | refine sz_drew ?_ | refine sz_drewN ?_)); first | exact Nat.le_refl _ | omega) | (simp only [World.size_alloc, World.size_setCell, World.size_drew, size_drewN']; omega)) _) | (with_reducible refine Below.alloc ?_ (by first | exact Nat.le_refl _ | omega | (with_reducible (repeat (first | refine sz_alloc ?_ | refine sz_setCell ?_ | refine sz_drew ?_ | refine sz_drewN ?_)); first | exact Nat.le_refl _ | omega) | (simp only [World.size_alloc, World.size_setCell, World.size_drew, size_drewN']; omega)) _) | assumption))).cellAt e1
  have lF := cell_lt e1
  have hb1 : (bn : Int) < s.floors.length := by omega
  have HF := Lib.hid (show s.floors[((bn : Int)).toNat]?.getD 0 = s.floors[bn]'(by omega) by rw [Int.toNat_natCast, List.getElem?_eq_getElem (by omega)]; rfl)
  have HU : Hid (Up w (w.alloc (.cells (sdCells s pT (some ⟨gF, oF, none⟩) pS cT cF cS).toArray 35))) := Lib.hid (by (repeat (first | exact Below.refl _ _ | (with_reducible refine Below.drewN' ?_ _) | (with_reducible refine Below.drew ?_) | (with_reducible refine Below.setCell ?_ (by first | exact Nat.le_refl _ | omega | (with_reducible (repeat (first | refine sz_alloc ?_ | refine sz_setCell ?_ | refine sz_drew ?_ | refine sz_drewN ?_)); first | exact Nat.le_refl _ | omega) | (simp only [World.size_alloc, World.size_setCell, World.size_drew, size_drewN']; omega)) _) | (with_reducible refine Below.alloc ?_ (by first | exact Nat.le_refl _ | omega | (with_reducible (repeat (first | refine sz_alloc ?_ | refine sz_setCell ?_ | refine sz_drew ?_ | refine sz_drewN ?_)); first | exact Nat.le_refl _ | omega) | (simp only [World.size_alloc, World.size_setCell, World.size_drew, size_drewN']; omega)) _) | assumption)))
  clear hl e1
  unfold sdCells at *
  unfold sdVal
  rcases ha with rfl | ⟨a0, a1⟩
  · have HO := Lib.hid (show ovr s G (-1) bn h = max (max 0 h) (s.floors[bn]'(by omega)) by unfold ovr; rw [if_neg (by decide), HF.out])
    generalize s.floors[bn] = fl at *
    by_cases h1 : 0 < h
    · by_cases h2 : h < fl
      · have HV := Lib.hid (show ovr s G (-1) bn h = fl by rw [HO.out]; omega)
        clear HO
        go_enter Tryz.func139, Tryz.ntmps139
        go_wp2
        go_ret
        exact ⟨by rw [HV.out]; rfl, HU.out⟩
      · have HV := Lib.hid (show ovr s G (-1) bn h = h by rw [HO.out]; omega)
        clear HO
        go_enter Tryz.func139, Tryz.ntmps139
        go_wp2
        go_ret
        exact ⟨by rw [HV.out]; rfl, HU.out⟩
    · by_cases h2 : 0 < fl
      · have HV := Lib.hid (show ovr s G (-1) bn h = fl by rw [HO.out]; omega)
        clear HO
        go_enter Tryz.func139, Tryz.ntmps139
        go_wp2
        go_ret
        exact ⟨by rw [HV.out]; rfl, HU.out⟩
      · have HV := Lib.hid (show ovr s G (-1) bn h = 0 by rw [HO.out]; omega)
        clear HO
        go_enter Tryz.func139, Tryz.ntmps139
        go_wp2
        go_ret
        exact ⟨by rw [HV.out]; rfl, HU.out⟩
  · obtain ⟨an, rfl⟩ := Int.eq_ofNat_of_zero_le a0
    have ha1 : an < G.length := by omega
    obtain ⟨g', o', hg, e2⟩ := hr.int an ha1
    simp only [Option.some.injEq, Addr.mk.injEq, and_true] at hg
    obtain ⟨rfl, rfl⟩ := hg
    rw [Nat.zero_add] at e2
    have lG := cell_lt e2
    have e2' := HU.out.cellAt e2
    have HO := Lib.hid (show ovr s G an bn h = max (max G[an] h) (s.floors[bn]'(by omega)) by unfold ovr; rw [if_pos (by omega), HF.out, Int.toNat_natCast, List.getElem?_eq_getElem ha1]; rfl)
    clear e2 hr
    generalize s.floors[bn] = fl at *
    generalize G[an] = cr at *
    by_cases h1 : cr < h
    · by_cases h2 : h < fl
      · have HV := Lib.hid (show ovr s G an bn h = fl by rw [HO.out]; omega)
        clear HO
        go_enter Tryz.func139, Tryz.ntmps139
        go_wp2
        go_ret
        exact ⟨by rw [HV.out]; rfl, HU.out⟩
      · have HV := Lib.hid (show ovr s G an bn h = h by rw [HO.out]; omega)
        clear HO
        go_enter Tryz.func139, Tryz.ntmps139
        go_wp2
        go_ret
        exact ⟨by rw [HV.out]; rfl, HU.out⟩
    · by_cases h2 : cr < fl
      · have HV := Lib.hid (show ovr s G an bn h = fl by rw [HO.out]; omega)
        clear HO
        go_enter Tryz.func139, Tryz.ntmps139
        go_wp2
        go_ret
        exact ⟨by rw [HV.out]; rfl, HU.out⟩
      · have HV := Lib.hid (show ovr s G an bn h = cr by rw [HO.out]; omega)
        clear HO
        go_enter Tryz.func139, Tryz.ntmps139
        go_wp2
        go_ret
        exact ⟨by rw [HV.out]; rfl, HU.out⟩

set_option maxRecDepth 100000 in
set_option maxHeartbeats 1000000 in
theorem refPlace_c (s : Sd) (x : Int) (w : World) (hl : Lists w s pT pF pS cT cF cS) :
    Calls Tryz.prog 14 #[sdVal s pT pF pS cT cF cS, .int .i64 x] w fun e w' => e = .returned (.int .i64 (bif isPl s x then 0 else 1)) ∧ Up w w' := by
  have m1 : (s.floors.length : Int) ≤ 9223372036854775807 := by have := Nat.le_trans hl.cf hl.mf; simp only [maxLen] at this; omega
  have s1 : IntKind.i64.wrap ((s.floors.length : Int) - 1) = (s.floors.length : Int) - 1 := IntWalk.i64_in _ (by omega)
  clear hl
  unfold sdVal
  go_enter Tryz.func14, Tryz.ntmps14
  go_wp2_with fail
  refine (off_c _ _ _ _).mono ?_
  rintro e w3 ⟨rfl, rfl⟩
  have hd : inB x 0 (s.floors.length - 1) = isPl s x := rfl
  rw [hd]
  clear hd
  cases hv : isPl s x
  all_goals
    have HD := Lib.hid hv
    clear hv
    go_wp2
    go_ret
    exact ⟨by rw [HD.out]; rfl, by (repeat (first | exact Below.refl _ _ | (with_reducible refine Below.drewN' ?_ _) | (with_reducible refine Below.drew ?_) | (with_reducible refine Below.setCell ?_ (by first | exact Nat.le_refl _ | omega | (with_reducible (repeat (first | refine sz_alloc ?_ | refine sz_setCell ?_ | refine sz_drew ?_ | refine sz_drewN ?_)); first | exact Nat.le_refl _ | omega) | (simp only [World.size_alloc, World.size_setCell, World.size_drew, size_drewN']; omega)) _) | (with_reducible refine Below.alloc ?_ (by first | exact Nat.le_refl _ | omega | (with_reducible (repeat (first | refine sz_alloc ?_ | refine sz_setCell ?_ | refine sz_drew ?_ | refine sz_drewN ?_)); first | exact Nat.le_refl _ | omega) | (simp only [World.size_alloc, World.size_setCell, World.size_drew, size_drewN']; omega)) _) | assumption))⟩

/-- a block of numbers that is stored into -/
abbrev IntBlk (w : World) (g : Nat) (l : List Int) : Prop := RowBlk w g 3 1 (ints l)
theorem IntBlk.at {w : World} {g : Nat} {l : List Int} (h : IntBlk w g l) (i : Nat) (hi : i < l.length) : w.cell? ⟨g, i, none⟩ = some (.int .i64 l[i]) := by
  have := RowBlk.cell h (i := i) (j := 0) (row := [.int .i64 l[i]]) (x := .int .i64 l[i]) (by simp [ints, hi]) rfl
  simpa using this
theorem IntBlk.put {w : World} {g : Nat} {l : List Int} (h : IntBlk w g l) (i : Nat) (hi : i < l.length) (v : Int) : IntBlk (w.setCell ⟨g, i, none⟩ (.int .i64 v)) g (l.set i v) := by
  have := RowBlk.set h (i := i) (j := 0) (by simp [ints, hi]) (by decide) (.int .i64 v)
  rw [ints_set l i hi v, Nat.mul_one, Nat.add_zero] at this
  exact this
theorem relB_ends {s : Sd} {ss ps : List Int} {i : Nat} {g : List Int} {a b h : Int} (hc : ¬ (0 ≤ b ∧ (i : Int) ∉ ss ∧ b ∉ ps)) : relB s ss ps i g a b h = g := by unfold relB; rw [if_neg hc]

set_option maxRecDepth 100000 in
set_option maxHeartbeats 4000000 in
theorem refLeast_c (s : Sd) (tp : Nat) (ss ps : List Int) (qS qP : Option Addr) (dS dP : Nat) (w : World) (ok : Ok s) (hl : Lists w s pT pF pS cT cF cS) (hs : Row w qS 1 (ints ss)) (hp : Row w qP 1 (ints ps)) (ls : ss.length ≤ maxLen) (lp : ps.length ≤ maxLen) (ht : tp < s.floors.length) :
    Calls Tryz.prog 111 #[sdVal s pT pF pS cT cF cS, .int .i64 tp, .slice qS ss.length dS, .slice qP ps.length dP] w fun e w' => e = .returned (.int .i64 ((lowR s ss ps)[tp]?.getD 0)) ∧ Up w w' := by
  have f8 := ok.fl1
  have s16 := ok.sl
  obtain ⟨i0, hi, hz0, hz1, hz2⟩ := info_parts info3
  have HH := Lib.hid (fun (l : List Int) (p : Option Addr) (c : Nat) (n : Int) (W : World) (hr : Row W p 1 (ints l)) (hm : l.length ≤ maxLen) => has_c l p c n W hr hm)
  have HL := Lib.hid hl
  have HS := Lib.hid hs
  have HP := Lib.hid hp
  have OK := Lib.hid ok
  clear hl hs hp ok
  unfold sdVal
  go_enter Tryz.func111, Tryz.ntmps111
  go_wp2_with fail
  have BS : Hid (Blk (w.alloc (.cells #[.slice pT s.table.length cT, .int .i64 s.lo, .int .i64 s.hi, .slice pF s.floors.length cF, .slice pS s.sills.length cS] 35)) w.heap.size (sdCells s pT pF pS cT cF cS) 35) := Lib.hid (Blk.new w (sdCells s pT pF pS cT cF cS) 35)
  have U0 : Hid (Up w (w.alloc (.cells #[.slice pT s.table.length cT, .int .i64 s.lo, .int .i64 s.hi, .slice pF s.floors.length cF, .slice pS s.sills.length cS] 35))) := Lib.hid (by (repeat (first | exact Below.refl _ _ | (with_reducible refine Below.drewN' ?_ _) | (with_reducible refine Below.drew ?_) | (with_reducible refine Below.setCell ?_ (by first | exact Nat.le_refl _ | omega | (with_reducible (repeat (first | refine sz_alloc ?_ | refine sz_setCell ?_ | refine sz_drew ?_ | refine sz_drewN ?_)); first | exact Nat.le_refl _ | omega) | (simp only [World.size_alloc, World.size_setCell, World.size_drew, size_drewN']; omega)) _) | (with_reducible refine Below.alloc ?_ (by first | exact Nat.le_refl _ | omega | (with_reducible (repeat (first | refine sz_alloc ?_ | refine sz_setCell ?_ | refine sz_drew ?_ | refine sz_drewN ?_)); first | exact Nat.le_refl _ | omega) | (simp only [World.size_alloc, World.size_setCell, World.size_drew, size_drewN']; omega)) _) | assumption)))
  generalize (w.alloc (.cells #[.slice pT s.table.length cT, .int .i64 s.lo, .int .i64 s.hi, .slice pF s.floors.length cF, .slice pS s.sills.length cS] 35)) = w0 at *
  have hbs : w.heap.size < w0.heap.size := BS.out.lt
  go_loopw [10, 9] (fun i v wr => ∃ k : Nat, k ≤ s.floors.length ∧ i = .int .i64 k ∧ wr.ownsRow w0.heap.size 3 1 v k (ints (List.replicate k 5000)).flatten ∧ Up w0 wr) (fun i _ _ => s.floors.length - (intOf i).toNat)
  case atStart => exact ⟨0, by omega, rfl, World.ownsRow_nil _ _ _ _, Below.refl _ _⟩
  case round =>
    obtain ⟨k, hk, rfl, hown, hu⟩ := hrel
    have HO := Lib.hid hown
    have HU := Lib.hid hu
    have hsz := hu.size
    obtain ⟨c0, c1, c2, c3, c4⟩ := five (BS.out.up hu)
    clear hown hu
    by_cases hlt : k < s.floors.length
    · have k1 : (k : Int) < s.floors.length := by omega
      go_wp2_with (at_builtin; refine wpList_append_own _ rfl _ _ 25 rfl w0.heap.size 3 i0 (.int .i64 0) 1 8 Tryz.underlying25 hi hz0 hz1 hz2 rfl (by decide) _ _ _ rfl (HO.out.alloc _) ⟨wr.heap.size, 0, none⟩ 1 1 [.int .i64 5000] rfl rfl (newsAt _ rfl [.int .i64 5000] _) (by simp [Value.oneCell']) (by simp [maxLen]; omega) (by omega) (sz_alloc hsz) ?_; intro v' w8 hown8 hgr8 hnn; clear hnn)
      have U8 := Lib.hid ((HU.out.alloc hsz _).grown hgr8 (sz_alloc hsz) (fun j e => (HO.out.lt j e).1))
      have O8 := Lib.hid hown8
      clear hown8 hgr8
      go_roundw
      case rel =>
        try ((repeat apply Exists.intro); refine ⟨?_, rfl⟩)
        refine ⟨k + 1, by omega, by go_num, ?_, U8.out⟩
        have e : (ints (List.replicate (k + 1) 5000)).flatten = (ints (List.replicate k 5000)).flatten ++ [.int .i64 5000] := by
          rw [List.replicate_succ']
          unfold ints
          rw [List.map_append, List.flatten_append]
          rfl
        rw [e]
        exact O8.out
      case measure => simp [intOf]; omega
    · obtain rfl : k = s.floors.length := by omega
      obtain ⟨q, d, rfl, a1, a2, hR, hge⟩ := Row.of_own (rows := ints (List.replicate s.floors.length 5000)) (flatOk_ints _) HO.out (by simp [ints])
      have hlen : (ints (List.replicate s.floors.length 5000)).length = s.floors.length := by simp [ints]
      obtain ⟨g, hg, hg0, rb⟩ := RowBlk.of (rows := ints (List.replicate s.floors.length 5000)) (p := q) (c := d) (by rw [hlen]; exact HO.out) (ints_len _) (by rw [hlen]; have := OK.out.fl0; omega)
      subst hg
      have RB := Lib.hid rb
      clear rb hR hge HO hi hz0 hz1 hz2 hlen hlt
      generalize wr = w1 at *
      have U1 := Lib.hid (Up.trans U0.out HU.out)
      have ok := OK.out
      go_wp2_with fail
      go_loopw [11] (fun r wr => ∃ k : Nat, k ≤ s.floors.length ∧ r = .int .i64 k ∧ IntBlk wr g (rounds s ss ps k) ∧ Up w0 wr) (fun r _ => s.floors.length - (intOf r).toNat)
      case atStart => exact ⟨0, by omega, rfl, RB.out, HU.out⟩
      case round =>
        obtain ⟨k, hk, rfl, hb, hu⟩ := hrel
        have HB := Lib.hid hb
        have HU2 := Lib.hid hu
        obtain ⟨c0, c1, c2, c3, c4⟩ := five (BS.out.up hu)
        clear hb hu
        by_cases hlt : k < s.floors.length
        · have k1 : (k : Int) < s.floors.length := by omega
          have HRK := Lib.hid (show rounds s ss ps (k + 1) = rpass s ss ps (rounds s ss ps k) s.sills.length from rfl)
          have hgl := rounds_len (s := s) (ss := ss) (ps := ps) k
          generalize rounds s ss ps k = G0 at *
          go_wp2_with fail
          go_loopw [12] (fun r wx => ∃ i : Nat, i ≤ s.sills.length ∧ r = .int .i64 i ∧ IntBlk wx g (rpass s ss ps G0 i) ∧ Up w0 wx) (fun r _ => s.sills.length - (intOf r).toNat)
          case atStart => exact ⟨0, by omega, rfl, HB.out, HU2.out⟩
          case round =>
            obtain ⟨i, hi, rfl, hb, hu⟩ := hrel
            have HB2 := Lib.hid hb
            have HU3 := Lib.hid hu
            clear hb hu c0 c1 c2 c3 c4
            obtain ⟨c0, c1, c2, c3, c4⟩ := five (BS.out.up HU3.out)
            by_cases hli : i < s.sills.length
            · have i1 : (i : Int) < s.sills.length := by omega
              obtain ⟨bs, os, rfl, d0, d1, d2⟩ := HL.out.rs.triple i hli
              have UW := Lib.hid (Up.trans U0.out HU3.out)
              have d0' := UW.out.cellAt d0
              have d1' := UW.out.cellAt d1
              have d2' := UW.out.cellAt d2
              obtain ⟨x1, x2, x3⟩ := EndOk.of ok (List.getElem_mem hli)
              have HRP := Lib.hid (show rpass s ss ps G0 (i + 1) = relB s ss ps i (relB s ss ps i (rpass s ss ps G0 i) s.sills[i].1 s.sills[i].2.1 s.sills[i].2.2) s.sills[i].2.1 s.sills[i].1 s.sills[i].2.2 by
                show rsill s ss ps (rpass s ss ps G0 i) i (s.sills[i]?.getD (0, 0, 0)) = _
                rw [List.getElem?_eq_getElem hli, Option.getD_some]
                rfl)
              have hpl : (rpass s ss ps G0 i).length = s.floors.length := by rw [rpass_len, hgl]
              generalize rpass s ss ps G0 i = G at *
              generalize s.sills[i] = x at *
              obtain ⟨a, b, h⟩ := x
              dsimp only at d0' d1' d2' x1 x2 x3 HRP
              clear d0 d1 d2
              go_upto_region 13 with fail
              have BX : Hid (Blk (wr.alloc (.cells #[.int .i64 a, .int .i64 b, .int .i64 h] 99)) wr.heap.size [.int .i64 a, .int .i64 b, .int .i64 h] 99) := Lib.hid (Blk.new wr [.int .i64 a, .int .i64 b, .int .i64 h] 99)
              have VA : Hid (Up wr (wr.alloc (.cells #[.int .i64 a, .int .i64 b, .int .i64 h] 99))) := Lib.hid (by (repeat (first | exact Below.refl _ _ | (with_reducible refine Below.drewN' ?_ _) | (with_reducible refine Below.drew ?_) | (with_reducible refine Below.setCell ?_ (by first | exact Nat.le_refl _ | omega | (with_reducible (repeat (first | refine sz_alloc ?_ | refine sz_setCell ?_ | refine sz_drew ?_ | refine sz_drewN ?_)); first | exact Nat.le_refl _ | omega) | (simp only [World.size_alloc, World.size_setCell, World.size_drew, size_drewN']; omega)) _) | (with_reducible refine Below.alloc ?_ (by first | exact Nat.le_refl _ | omega | (with_reducible (repeat (first | refine sz_alloc ?_ | refine sz_setCell ?_ | refine sz_drew ?_ | refine sz_drewN ?_)); first | exact Nat.le_refl _ | omega) | (simp only [World.size_alloc, World.size_setCell, World.size_drew, size_drewN']; omega)) _) | assumption)))
              have UA := Lib.hid (Up.trans HU3.out VA.out)
              have IA := Lib.hid (HB2.out.up VA.out)
              have gne : g ≠ wr.heap.size := by have := HB2.out.lt; omega
              clear HB2 HU3 VA UW d0' d1' d2' c0 c1 c2 c3 c4
              generalize (wr.alloc (.cells #[.int .i64 a, .int .i64 b, .int .i64 h] 99)) = wa at *
              generalize wr.heap.size = X at *
              have ha3 : a = -1 ∨ 0 ≤ a ∧ a < s.floors.length := x1
              have hb3 : b = -1 ∨ 0 ≤ b ∧ b < s.floors.length := x2

              have RS := Lib.hid (HS.out.up (Up.trans U0.out UA.out))
              have RP := Lib.hid (HP.out.up (Up.trans U0.out UA.out))
              have y0 := BX.out.cell 0
              have y1 := BX.out.cell 1
              have y2 := BX.out.cell 2
              have ly := BX.out.lt
              simp only [List.getElem?_cons_zero, List.getElem?_cons_succ] at y0 y1 y2
              go_cut [58] (fun c wx => c = .bool (decide (0 ≤ b ∧ (i : Int) ∉ ss ∧ b ∉ ps)) ∧ wa = wx)
              case first =>
                by_cases hb0 : 0 ≤ b
                · have hb5 : decide (0 ≤ b) = true := decide_eq_true hb0
                  go_wp2_with fail
                  refine (HH.out ss qS dS i wa RS.out ls).mono ?_
                  rintro e w' ⟨he, rfl⟩
                  by_cases h1 : (i : Int) ∈ ss
                  · rw [decide_eq_true h1] at he
                    subst he
                    have HV := Lib.hid (show decide (0 ≤ b ∧ (i : Int) ∉ ss ∧ b ∉ ps) = false from decide_eq_false (fun k => k.2.1 h1))
                    clear h1
                    go_wp2_with fail
                    go_meet
                    exact ⟨by rw [HV.out], rfl⟩
                  · rw [decide_eq_false h1] at he
                    subst he
                    have H1 := Lib.hid h1
                    clear h1
                    go_wp2_with fail
                    refine (HH.out ps qP dP b wa RP.out lp).mono ?_
                    rintro e w' ⟨he, rfl⟩
                    by_cases h2 : b ∈ ps
                    · rw [decide_eq_true h2] at he
                      subst he
                      have HV := Lib.hid (show decide (0 ≤ b ∧ (i : Int) ∉ ss ∧ b ∉ ps) = false from decide_eq_false (fun k => k.2.2 h2))
                      clear h2
                      go_wp2_with fail
                      go_meet
                      exact ⟨by rw [HV.out], rfl⟩
                    · rw [decide_eq_false h2] at he
                      subst he
                      have HV := Lib.hid (show decide (0 ≤ b ∧ (i : Int) ∉ ss ∧ b ∉ ps) = true from decide_eq_true ⟨hb0, H1.out, h2⟩)
                      clear h2
                      go_wp2_with fail
                      go_meet
                      exact ⟨by rw [HV.out], rfl⟩
                · have HV := Lib.hid (show decide (0 ≤ b ∧ (i : Int) ∉ ss ∧ b ∉ ps) = false from decide_eq_false (fun k => hb0 k.1))
                  have hb0' : b < 0 := by omega
                  have hb5 : decide (0 ≤ b) = false := decide_eq_false hb0
                  clear hb0
                  go_wp2_with fail
                  go_meet
                  exact ⟨by rw [HV.out], rfl⟩
              case rest =>
                obtain ⟨rfl, rfl⟩ := hcut
                go_upto_if 58 with fail
                go_cut [] (fun wx => IntBlk wx g (relB s ss ps i G a b h) ∧ Blk wx X [.int .i64 a, .int .i64 b, .int .i64 h] 99 ∧ Up w0 wx)
                case first =>
                  by_cases hc : 0 ≤ b ∧ (i : Int) ∉ ss ∧ b ∉ ps
                  · rw [decide_eq_true hc]
                    have hb4 : 0 ≤ b ∧ b < s.floors.length := by have := hc.1; omega
                    have HRB := Lib.hid (show relB s ss ps i G a b h = G.set b.toNat (min (G[b.toNat]?.getD 0) (ovr s G a b h)) by unfold relB; rw [if_pos hc])
                    clear hc
                    have HOV := Lib.hid (fun W (u : Up wa W) => over_c s G g s.floors.length d a b h W hpl (HL.out.up (Up.trans U0.out (Up.trans UA.out u))) (RowBlk.row (RowBlk.up IA.out u)) ha3 hb4 (by omega) (by omega))
                    obtain ⟨n, hn⟩ := Int.eq_ofNat_of_zero_le hb4.1
                    have hnl : n < G.length := by omega
                    have z0 := IntBlk.at IA.out n hnl
                    have HG := Lib.hid (show G[b.toNat]?.getD 0 = G[n] by rw [hn, Int.toNat_natCast, List.getElem?_eq_getElem hnl]; rfl)
                    have HN := Lib.hid (show b.toNat = n by omega)
                    obtain ⟨c0, c1, c2, c3, c4⟩ := five (BS.out.up UA.out)
                    have lg := IA.out.lt
                    have lb := (BS.out.up UA.out).lt
                    subst hn
                    have n1 : (n : Int) < s.floors.length := hb4.2
                    generalize ovr s G a n h = ov at *
                    generalize G[n] = lo at *
                    go_upto_region 14 with fail
                    refine region_tail (fun W' => W'.cell? ⟨X, 0, none⟩ = some (.int .i64 a) ∧ W'.cell? ⟨X, 1, none⟩ = some (.int .i64 (n : Int)) ∧ W'.cell? ⟨X, 2, none⟩ = some (.int .i64 h) ∧ W'.cell? ⟨g, n, none⟩ = some (.int .i64 lo) ∧ W'.cell? ⟨w.heap.size, 0, none⟩ = some (.slice pT s.table.length cT) ∧ W'.cell? ⟨w.heap.size, 1, none⟩ = some (.int .i64 s.lo) ∧ W'.cell? ⟨w.heap.size, 2, none⟩ = some (.int .i64 s.hi) ∧ W'.cell? ⟨w.heap.size, 3, none⟩ = some (.slice pF s.floors.length cF) ∧ W'.cell? ⟨w.heap.size, 4, none⟩ = some (.slice (some ⟨bs, os, none⟩) s.sills.length cS)) 18 mixed (by kernel_rfl) ⟨y0, y1, y2, z0, c0, c1, c2, c3, c4⟩ (fun hHeld => ?_)
                    refine wpAnyG_take 0 59 (v := ?_) rfl rfl (by kernel_rfl) (fun _ _ _ h => h) (Or.inl ⟨by rfl, ?_⟩) (by assumption) ?_
                    rotate_left
                    · (intro w' hSw; (try dsimp only at hSw); go_split_ands; go_simp; try with_reducible rfl)
                    try simp only [List.setIfInBounds_toArray, List.set_cons_zero, List.set_cons_succ]
                    refine wpAnyG_take 1 60 (v := ?_) rfl rfl (by kernel_rfl) (fun _ _ _ h => h) (Or.inl ⟨by rfl, ?_⟩) (by assumption) ?_
                    rotate_left
                    · (intro w' hSw; (try dsimp only at hSw); go_split_ands; go_simp; try with_reducible rfl)
                    try simp only [List.setIfInBounds_toArray, List.set_cons_zero, List.set_cons_succ]
                    refine wpAnyG_take 2 61 (v := ?_) rfl rfl (by kernel_rfl) (fun _ _ _ h => h) (Or.inl ⟨by rfl, ?_⟩) (by assumption) ?_
                    rotate_left
                    · (intro w' hSw; (try dsimp only at hSw); go_split_ands; go_simp; try with_reducible rfl)
                    try simp only [List.setIfInBounds_toArray, List.set_cons_zero, List.set_cons_succ]
                    refine wpAnyG_take 3 62 (v := ?_) rfl rfl (by kernel_rfl) (fun _ _ _ h => h) (Or.inl ⟨by rfl, ?_⟩) (by assumption) ?_
                    rotate_left
                    · (intro w' hSw; (try dsimp only at hSw); go_split_ands; go_simp; try with_reducible rfl)
                    try simp only [List.setIfInBounds_toArray, List.set_cons_zero, List.set_cons_succ]
                    refine wpAnyG_take 4 63 (v := ?_) rfl rfl (by kernel_rfl) (fun _ _ _ h => h) (Or.inl ⟨by rfl, ?_⟩) (by assumption) ?_
                    rotate_left
                    · (intro w' hSw; (try dsimp only at hSw); go_split_ands; go_simp; try with_reducible rfl)
                    try simp only [List.setIfInBounds_toArray, List.set_cons_zero, List.set_cons_succ]
                    refine wpAnyG_take 5 64 (v := ?_) rfl rfl (by kernel_rfl) (fun _ _ _ h => h) (Or.inl ⟨by rfl, ?_⟩) (by assumption) ?_
                    rotate_left
                    · (intro w' hSw; (try dsimp only at hSw); go_split_ands; go_simp; try with_reducible rfl)
                    try simp only [List.setIfInBounds_toArray, List.set_cons_zero, List.set_cons_succ]
                    refine wpAnyG_take 6 65 (v := ?_) rfl rfl (by kernel_rfl) (fun _ _ _ h => h) (Or.inl ⟨by rfl, ?_⟩) (by assumption) ?_
                    rotate_left
                    · (intro w' hSw; (try dsimp only at hSw); go_split_ands; go_simp; try with_reducible rfl)
                    try simp only [List.setIfInBounds_toArray, List.set_cons_zero, List.set_cons_succ]
                    refine wpAnyG_take 7 66 (v := ?_) rfl rfl (by kernel_rfl) (fun _ _ _ h => h) (Or.inl ⟨by rfl, ?_⟩) (by assumption) ?_
                    rotate_left
                    · (intro w' hSw; (try dsimp only at hSw); go_split_ands; go_simp; try with_reducible rfl)
                    try simp only [List.setIfInBounds_toArray, List.set_cons_zero, List.set_cons_succ]
                    refine wpAnyG_take 8 67 (v := ?_) rfl rfl (by kernel_rfl) (fun _ _ _ h => h) (Or.inl ⟨by rfl, ?_⟩) (by assumption) ?_
                    rotate_left
                    · (intro w' hSw; (try dsimp only at hSw); go_split_ands; go_simp; try with_reducible rfl)
                    try simp only [List.setIfInBounds_toArray, List.set_cons_zero, List.set_cons_succ]
                    refine wpAnyG_take 9 68 (v := ?_) rfl rfl (by kernel_rfl) (fun _ _ _ h => h) (Or.inl ⟨by rfl, ?_⟩) (by assumption) ?_
                    rotate_left
                    · (intro w' hSw; (try dsimp only at hSw); go_split_ands; go_simp; try with_reducible rfl)
                    try simp only [List.setIfInBounds_toArray, List.set_cons_zero, List.set_cons_succ]
                    refine wpAnyG_take 10 69 (v := ?_) rfl rfl (by kernel_rfl) (fun _ _ _ h => h) (Or.inl ⟨by rfl, ?_⟩) (by assumption) ?_
                    rotate_left
                    · (intro w' hSw; (try dsimp only at hSw); go_split_ands; go_simp; try with_reducible rfl)
                    try simp only [List.setIfInBounds_toArray, List.set_cons_zero, List.set_cons_succ]
                    refine wpAnyG_take 11 70 (v := ?_) rfl rfl (by kernel_rfl) (fun _ _ _ h => h) (Or.inl ⟨by rfl, ?_⟩) (by assumption) ?_
                    rotate_left
                    · (intro w' hSw; (try dsimp only at hSw); go_split_ands; go_simp; try with_reducible rfl)
                    try simp only [List.setIfInBounds_toArray, List.set_cons_zero, List.set_cons_succ]
                    refine wpAnyG_take 12 71 (v := ?_) rfl rfl (by kernel_rfl) (fun _ _ _ h => h) (Or.inl ⟨by rfl, ?_⟩) (by assumption) ?_
                    rotate_left
                    · (intro w' hSw; (try dsimp only at hSw); go_split_ands; go_simp; try with_reducible rfl)
                    try simp only [List.setIfInBounds_toArray, List.set_cons_zero, List.set_cons_succ]
                    refine wpAnyG_take 13 72 (v := ?_) rfl rfl (by kernel_rfl) (fun _ _ _ h => h) (Or.inl ⟨by rfl, ?_⟩) (by assumption) ?_
                    rotate_left
                    · (intro w' hSw; (try dsimp only at hSw); go_split_ands; go_simp; try with_reducible rfl)
                    try simp only [List.setIfInBounds_toArray, List.set_cons_zero, List.set_cons_succ]
                    refine wpAnyG_take 14 73 (v := ?_) rfl rfl (by kernel_rfl) (fun _ _ _ h => h) (Or.inl ⟨by rfl, ?_⟩) (by assumption) ?_
                    rotate_left
                    · (intro w' hSw; (try dsimp only at hSw); go_split_ands; go_simp; try with_reducible rfl)
                    try simp only [List.setIfInBounds_toArray, List.set_cons_zero, List.set_cons_succ]
                    refine wpAnyG_take 15 74 (v := ?_) rfl rfl (by kernel_rfl) (fun _ _ _ h => h) (Or.inl ⟨by rfl, ?_⟩) (by assumption) ?_
                    rotate_left
                    · (intro w' hSw; (try dsimp only at hSw); go_split_ands; go_simp; try with_reducible rfl)
                    try simp only [List.setIfInBounds_toArray, List.set_cons_zero, List.set_cons_succ]
                    refine wpAnyG_do 16 rfl (by kernel_rfl) (fun K hK => ?_)
                    rw [if_pos (by rfl)]
                    go_simp
                    refine (HOV.out _ ((Below.refl _ _).drew)).mono ?_
                    rintro e wv ⟨rfl, vv⟩
                    have vv' : Up wa wv := Up.trans ((Below.refl _ _).drew) vv
                    refine hK.out _ _ ⟨vv'.cellAt y0, vv'.cellAt y1, vv'.cellAt y2, vv'.cellAt z0, vv'.cellAt c0, vv'.cellAt c1, vv'.cellAt c2, vv'.cellAt c3, vv'.cellAt c4⟩ (fun hHeld => ?_)
                    clear hK K
                    have IV := Lib.hid (RowBlk.up IA.out vv')
                    have XV := Lib.hid (BX.out.up vv')
                    have UV := Lib.hid (Up.trans UA.out vv')
                    have lgv := IV.out.lt
                    have fgv := IV.out.free
                    have zv := vv'.cellAt z0
                    by_cases hmin : ov < lo
                    · have HMIN := Lib.hid (show min lo ov = ov by omega)
                      refine wpAnyG_take 17 76 (v := .int .i64 ov) rfl rfl (by kernel_rfl) (fun _ _ _ h => h) (Or.inl ⟨by rfl, ?_⟩) (by assumption) ?_
                      · intro w' _
                        go_simp
                      try simp only [List.setIfInBounds_toArray, List.set_cons_zero, List.set_cons_succ]
                      clear hHeld vv vv' z0 c0 c1 c2 c3 c4 y0 y1 y2 HOV
                      refine wpAnyG_tail (by kernel_rfl) ?_
                      change wpList _ _ _ [_, _] _ _
                      go_wp2_with fail
                      go_meet
                      refine ⟨?_, XV.out.other (by simp only []; omega) _, UV.out.setCell (by simp only []; omega) _⟩
                      rw [HRB.out, HG.out, HN.out, HMIN.out]
                      exact IntBlk.put IV.out n hnl ov
                    · have HMIN := Lib.hid (show min lo ov = lo by omega)
                      refine wpAnyG_take 17 76 (v := .int .i64 lo) rfl rfl (by kernel_rfl) (fun _ _ _ h => h) (Or.inl ⟨by rfl, ?_⟩) (by assumption) ?_
                      · intro w' _
                        go_simp
                      try simp only [List.setIfInBounds_toArray, List.set_cons_zero, List.set_cons_succ]
                      clear hHeld vv vv' z0 c0 c1 c2 c3 c4 y0 y1 y2 HOV
                      refine wpAnyG_tail (by kernel_rfl) ?_
                      change wpList _ _ _ [_, _] _ _
                      go_wp2_with fail
                      go_meet
                      refine ⟨?_, XV.out.other (by simp only []; omega) _, UV.out.setCell (by simp only []; omega) _⟩
                      rw [HRB.out, HG.out, HN.out, HMIN.out]
                      exact IntBlk.put IV.out n hnl lo
                  · rw [decide_eq_false hc]
                    have HRB := Lib.hid (relB_ends (s := s) (g := G) (a := a) (h := h) hc)
                    clear hc
                    go_wp2_with fail
                    go_meet
                    exact ⟨by rw [HRB.out]; exact IA.out, BX.out, UA.out⟩
                case rest =>
                  obtain ⟨hi4, hx4, hu4⟩ := hcut
                  have hpl4 : (relB s ss ps i G a b h).length = s.floors.length := by rw [relB_len]; exact hpl

                  clear IA UA BX RS RP y0 y1 y2 ly hpl
                  generalize hG1' : relB s ss ps i G a b h = G1 at *
                  have hG1 := Lib.hid hG1'
                  clear hG1'
                  have IA := Lib.hid hi4
                  have BX := Lib.hid hx4
                  have UA := Lib.hid hu4
                  have hpl := hpl4
                  clear hi4 hx4 hu4 hpl4
                  generalize wc = wb at *
                  go_upto_region 15 with fail

                  have RS := Lib.hid (HS.out.up (Up.trans U0.out UA.out))
                  have RP := Lib.hid (HP.out.up (Up.trans U0.out UA.out))
                  have y0 := BX.out.cell 0
                  have y1 := BX.out.cell 1
                  have y2 := BX.out.cell 2
                  have ly := BX.out.lt
                  simp only [List.getElem?_cons_zero, List.getElem?_cons_succ] at y0 y1 y2
                  go_cut [93] (fun c wx => c = .bool (decide (0 ≤ a ∧ (i : Int) ∉ ss ∧ a ∉ ps)) ∧ wb = wx)
                  case first =>
                    by_cases hb0 : 0 ≤ a
                    · have hb5 : decide (0 ≤ a) = true := decide_eq_true hb0
                      go_wp2_with fail
                      refine (HH.out ss qS dS i wb RS.out ls).mono ?_
                      rintro e w' ⟨he, rfl⟩
                      by_cases h1 : (i : Int) ∈ ss
                      · rw [decide_eq_true h1] at he
                        subst he
                        have HV := Lib.hid (show decide (0 ≤ a ∧ (i : Int) ∉ ss ∧ a ∉ ps) = false from decide_eq_false (fun k => k.2.1 h1))
                        clear h1
                        go_wp2_with fail
                        go_meet
                        exact ⟨by rw [HV.out], rfl⟩
                      · rw [decide_eq_false h1] at he
                        subst he
                        have H1 := Lib.hid h1
                        clear h1
                        go_wp2_with fail
                        refine (HH.out ps qP dP a wb RP.out lp).mono ?_
                        rintro e w' ⟨he, rfl⟩
                        by_cases h2 : a ∈ ps
                        · rw [decide_eq_true h2] at he
                          subst he
                          have HV := Lib.hid (show decide (0 ≤ a ∧ (i : Int) ∉ ss ∧ a ∉ ps) = false from decide_eq_false (fun k => k.2.2 h2))
                          clear h2
                          go_wp2_with fail
                          go_meet
                          exact ⟨by rw [HV.out], rfl⟩
                        · rw [decide_eq_false h2] at he
                          subst he
                          have HV := Lib.hid (show decide (0 ≤ a ∧ (i : Int) ∉ ss ∧ a ∉ ps) = true from decide_eq_true ⟨hb0, H1.out, h2⟩)
                          clear h2
                          go_wp2_with fail
                          go_meet
                          exact ⟨by rw [HV.out], rfl⟩
                    · have HV := Lib.hid (show decide (0 ≤ a ∧ (i : Int) ∉ ss ∧ a ∉ ps) = false from decide_eq_false (fun k => hb0 k.1))
                      have hb0' : a < 0 := by omega
                      have hb5 : decide (0 ≤ a) = false := decide_eq_false hb0
                      clear hb0
                      go_wp2_with fail
                      go_meet
                      exact ⟨by rw [HV.out], rfl⟩
                  case rest =>
                    obtain ⟨rfl, rfl⟩ := hcut
                    go_upto_if 93 with fail
                    have HRP2 := Lib.hid (show rpass s ss ps G0 (i + 1) = relB s ss ps i G1 b a h from HRP.out)
                    by_cases hc : 0 ≤ a ∧ (i : Int) ∉ ss ∧ a ∉ ps
                    · rw [decide_eq_true hc]
                      have hb4 : 0 ≤ a ∧ a < s.floors.length := by have := hc.1; omega
                      have HRB := Lib.hid (show relB s ss ps i G1 b a h = G1.set a.toNat (min (G1[a.toNat]?.getD 0) (ovr s G1 b a h)) by unfold relB; rw [if_pos hc])
                      clear hc
                      have HOV := Lib.hid (fun W (u : Up wb W) => over_c s G1 g s.floors.length d b a h W hpl (HL.out.up (Up.trans U0.out (Up.trans UA.out u))) (RowBlk.row (RowBlk.up IA.out u)) hb3 hb4 (by omega) (by omega))
                      obtain ⟨n, hn⟩ := Int.eq_ofNat_of_zero_le hb4.1
                      have hnl : n < G1.length := by omega
                      have z0 := IntBlk.at IA.out n hnl
                      have HG := Lib.hid (show G1[a.toNat]?.getD 0 = G1[n] by rw [hn, Int.toNat_natCast, List.getElem?_eq_getElem hnl]; rfl)
                      have HN := Lib.hid (show a.toNat = n by omega)
                      obtain ⟨c0, c1, c2, c3, c4⟩ := five (BS.out.up UA.out)
                      have lg := IA.out.lt
                      have lb := (BS.out.up UA.out).lt
                      subst hn
                      have n1 : (n : Int) < s.floors.length := hb4.2
                      generalize ovr s G1 b n h = ov at *
                      generalize G1[n] = lo at *
                      go_upto_region 16 with fail
                      refine region_tail (fun W' => W'.cell? ⟨X, 0, none⟩ = some (.int .i64 (n : Int)) ∧ W'.cell? ⟨X, 1, none⟩ = some (.int .i64 b) ∧ W'.cell? ⟨X, 2, none⟩ = some (.int .i64 h) ∧ W'.cell? ⟨g, n, none⟩ = some (.int .i64 lo) ∧ W'.cell? ⟨w.heap.size, 0, none⟩ = some (.slice pT s.table.length cT) ∧ W'.cell? ⟨w.heap.size, 1, none⟩ = some (.int .i64 s.lo) ∧ W'.cell? ⟨w.heap.size, 2, none⟩ = some (.int .i64 s.hi) ∧ W'.cell? ⟨w.heap.size, 3, none⟩ = some (.slice pF s.floors.length cF) ∧ W'.cell? ⟨w.heap.size, 4, none⟩ = some (.slice (some ⟨bs, os, none⟩) s.sills.length cS)) 18 mixed (by kernel_rfl) ⟨y0, y1, y2, z0, c0, c1, c2, c3, c4⟩ (fun hHeld => ?_)
                      refine wpAnyG_take 0 94 (v := ?_) rfl rfl (by kernel_rfl) (fun _ _ _ h => h) (Or.inl ⟨by rfl, ?_⟩) (by assumption) ?_
                      rotate_left
                      · (intro w' hSw; (try dsimp only at hSw); go_split_ands; go_simp; try with_reducible rfl)
                      try simp only [List.setIfInBounds_toArray, List.set_cons_zero, List.set_cons_succ]
                      refine wpAnyG_take 1 95 (v := ?_) rfl rfl (by kernel_rfl) (fun _ _ _ h => h) (Or.inl ⟨by rfl, ?_⟩) (by assumption) ?_
                      rotate_left
                      · (intro w' hSw; (try dsimp only at hSw); go_split_ands; go_simp; try with_reducible rfl)
                      try simp only [List.setIfInBounds_toArray, List.set_cons_zero, List.set_cons_succ]
                      refine wpAnyG_take 2 96 (v := ?_) rfl rfl (by kernel_rfl) (fun _ _ _ h => h) (Or.inl ⟨by rfl, ?_⟩) (by assumption) ?_
                      rotate_left
                      · (intro w' hSw; (try dsimp only at hSw); go_split_ands; go_simp; try with_reducible rfl)
                      try simp only [List.setIfInBounds_toArray, List.set_cons_zero, List.set_cons_succ]
                      refine wpAnyG_take 3 97 (v := ?_) rfl rfl (by kernel_rfl) (fun _ _ _ h => h) (Or.inl ⟨by rfl, ?_⟩) (by assumption) ?_
                      rotate_left
                      · (intro w' hSw; (try dsimp only at hSw); go_split_ands; go_simp; try with_reducible rfl)
                      try simp only [List.setIfInBounds_toArray, List.set_cons_zero, List.set_cons_succ]
                      refine wpAnyG_take 4 98 (v := ?_) rfl rfl (by kernel_rfl) (fun _ _ _ h => h) (Or.inl ⟨by rfl, ?_⟩) (by assumption) ?_
                      rotate_left
                      · (intro w' hSw; (try dsimp only at hSw); go_split_ands; go_simp; try with_reducible rfl)
                      try simp only [List.setIfInBounds_toArray, List.set_cons_zero, List.set_cons_succ]
                      refine wpAnyG_take 5 99 (v := ?_) rfl rfl (by kernel_rfl) (fun _ _ _ h => h) (Or.inl ⟨by rfl, ?_⟩) (by assumption) ?_
                      rotate_left
                      · (intro w' hSw; (try dsimp only at hSw); go_split_ands; go_simp; try with_reducible rfl)
                      try simp only [List.setIfInBounds_toArray, List.set_cons_zero, List.set_cons_succ]
                      refine wpAnyG_take 6 100 (v := ?_) rfl rfl (by kernel_rfl) (fun _ _ _ h => h) (Or.inl ⟨by rfl, ?_⟩) (by assumption) ?_
                      rotate_left
                      · (intro w' hSw; (try dsimp only at hSw); go_split_ands; go_simp; try with_reducible rfl)
                      try simp only [List.setIfInBounds_toArray, List.set_cons_zero, List.set_cons_succ]
                      refine wpAnyG_take 7 101 (v := ?_) rfl rfl (by kernel_rfl) (fun _ _ _ h => h) (Or.inl ⟨by rfl, ?_⟩) (by assumption) ?_
                      rotate_left
                      · (intro w' hSw; (try dsimp only at hSw); go_split_ands; go_simp; try with_reducible rfl)
                      try simp only [List.setIfInBounds_toArray, List.set_cons_zero, List.set_cons_succ]
                      refine wpAnyG_take 8 102 (v := ?_) rfl rfl (by kernel_rfl) (fun _ _ _ h => h) (Or.inl ⟨by rfl, ?_⟩) (by assumption) ?_
                      rotate_left
                      · (intro w' hSw; (try dsimp only at hSw); go_split_ands; go_simp; try with_reducible rfl)
                      try simp only [List.setIfInBounds_toArray, List.set_cons_zero, List.set_cons_succ]
                      refine wpAnyG_take 9 103 (v := ?_) rfl rfl (by kernel_rfl) (fun _ _ _ h => h) (Or.inl ⟨by rfl, ?_⟩) (by assumption) ?_
                      rotate_left
                      · (intro w' hSw; (try dsimp only at hSw); go_split_ands; go_simp; try with_reducible rfl)
                      try simp only [List.setIfInBounds_toArray, List.set_cons_zero, List.set_cons_succ]
                      refine wpAnyG_take 10 104 (v := ?_) rfl rfl (by kernel_rfl) (fun _ _ _ h => h) (Or.inl ⟨by rfl, ?_⟩) (by assumption) ?_
                      rotate_left
                      · (intro w' hSw; (try dsimp only at hSw); go_split_ands; go_simp; try with_reducible rfl)
                      try simp only [List.setIfInBounds_toArray, List.set_cons_zero, List.set_cons_succ]
                      refine wpAnyG_take 11 105 (v := ?_) rfl rfl (by kernel_rfl) (fun _ _ _ h => h) (Or.inl ⟨by rfl, ?_⟩) (by assumption) ?_
                      rotate_left
                      · (intro w' hSw; (try dsimp only at hSw); go_split_ands; go_simp; try with_reducible rfl)
                      try simp only [List.setIfInBounds_toArray, List.set_cons_zero, List.set_cons_succ]
                      refine wpAnyG_take 12 106 (v := ?_) rfl rfl (by kernel_rfl) (fun _ _ _ h => h) (Or.inl ⟨by rfl, ?_⟩) (by assumption) ?_
                      rotate_left
                      · (intro w' hSw; (try dsimp only at hSw); go_split_ands; go_simp; try with_reducible rfl)
                      try simp only [List.setIfInBounds_toArray, List.set_cons_zero, List.set_cons_succ]
                      refine wpAnyG_take 13 107 (v := ?_) rfl rfl (by kernel_rfl) (fun _ _ _ h => h) (Or.inl ⟨by rfl, ?_⟩) (by assumption) ?_
                      rotate_left
                      · (intro w' hSw; (try dsimp only at hSw); go_split_ands; go_simp; try with_reducible rfl)
                      try simp only [List.setIfInBounds_toArray, List.set_cons_zero, List.set_cons_succ]
                      refine wpAnyG_take 14 108 (v := ?_) rfl rfl (by kernel_rfl) (fun _ _ _ h => h) (Or.inl ⟨by rfl, ?_⟩) (by assumption) ?_
                      rotate_left
                      · (intro w' hSw; (try dsimp only at hSw); go_split_ands; go_simp; try with_reducible rfl)
                      try simp only [List.setIfInBounds_toArray, List.set_cons_zero, List.set_cons_succ]
                      refine wpAnyG_take 15 109 (v := ?_) rfl rfl (by kernel_rfl) (fun _ _ _ h => h) (Or.inl ⟨by rfl, ?_⟩) (by assumption) ?_
                      rotate_left
                      · (intro w' hSw; (try dsimp only at hSw); go_split_ands; go_simp; try with_reducible rfl)
                      try simp only [List.setIfInBounds_toArray, List.set_cons_zero, List.set_cons_succ]
                      refine wpAnyG_do 16 rfl (by kernel_rfl) (fun K hK => ?_)
                      rw [if_pos (by rfl)]
                      go_simp
                      refine (HOV.out _ ((Below.refl _ _).drew)).mono ?_
                      rintro e wv ⟨rfl, vv⟩
                      have vv' : Up wb wv := Up.trans ((Below.refl _ _).drew) vv
                      refine hK.out _ _ ⟨vv'.cellAt y0, vv'.cellAt y1, vv'.cellAt y2, vv'.cellAt z0, vv'.cellAt c0, vv'.cellAt c1, vv'.cellAt c2, vv'.cellAt c3, vv'.cellAt c4⟩ (fun hHeld => ?_)
                      clear hK K
                      have IV := Lib.hid (RowBlk.up IA.out vv')
                      have XV := Lib.hid (BX.out.up vv')
                      have UV := Lib.hid (Up.trans UA.out vv')
                      have lgv := IV.out.lt
                      have fgv := IV.out.free
                      have zv := vv'.cellAt z0
                      by_cases hmin : ov < lo
                      · have HMIN := Lib.hid (show min lo ov = ov by omega)
                        refine wpAnyG_take 17 111 (v := .int .i64 ov) rfl rfl (by kernel_rfl) (fun _ _ _ h => h) (Or.inl ⟨by rfl, ?_⟩) (by assumption) ?_
                        · intro w' _
                          go_simp
                        try simp only [List.setIfInBounds_toArray, List.set_cons_zero, List.set_cons_succ]
                        clear hHeld vv vv' z0 c0 c1 c2 c3 c4 y0 y1 y2 HOV
                        refine wpAnyG_tail (by kernel_rfl) ?_
                        change wpList _ _ _ [_, _] _ _
                        go_wp2_with fail
                        go_roundw
                        case rel =>
                          try ((repeat apply Exists.intro); refine ⟨?_, rfl⟩)
                          refine ⟨i + 1, by omega, by go_num, ?_, UV.out.setCell (by simp only []; omega) _⟩
                          rw [HRP2.out, HRB.out, HG.out, HN.out, HMIN.out]
                          exact IntBlk.put IV.out n hnl ov
                        case measure => simp [intOf]; omega
                      · have HMIN := Lib.hid (show min lo ov = lo by omega)
                        refine wpAnyG_take 17 111 (v := .int .i64 lo) rfl rfl (by kernel_rfl) (fun _ _ _ h => h) (Or.inl ⟨by rfl, ?_⟩) (by assumption) ?_
                        · intro w' _
                          go_simp
                        try simp only [List.setIfInBounds_toArray, List.set_cons_zero, List.set_cons_succ]
                        clear hHeld vv vv' z0 c0 c1 c2 c3 c4 y0 y1 y2 HOV
                        refine wpAnyG_tail (by kernel_rfl) ?_
                        change wpList _ _ _ [_, _] _ _
                        go_wp2_with fail
                        go_roundw
                        case rel =>
                          try ((repeat apply Exists.intro); refine ⟨?_, rfl⟩)
                          refine ⟨i + 1, by omega, by go_num, ?_, UV.out.setCell (by simp only []; omega) _⟩
                          rw [HRP2.out, HRB.out, HG.out, HN.out, HMIN.out]
                          exact IntBlk.put IV.out n hnl lo
                        case measure => simp [intOf]; omega
                    · rw [decide_eq_false hc]
                      have HRB := Lib.hid (relB_ends (s := s) (g := G1) (a := b) (h := h) hc)
                      clear hc
                      go_wp2_with fail
                      go_roundw
                      case rel =>
                        try ((repeat apply Exists.intro); refine ⟨?_, rfl⟩)
                        exact ⟨i + 1, by omega, by go_num, by rw [HRP2.out, HRB.out]; exact IA.out, UA.out⟩
                      case measure => simp [intOf]; omega

            · obtain rfl : i = s.sills.length := by omega
              go_wp2_with fail
              go_roundw
              case rel =>
                try ((repeat apply Exists.intro); refine ⟨?_, rfl⟩)
                exact ⟨k + 1, by omega, by go_num, by rw [HRK.out]; exact HB2.out, HU3.out⟩
              case measure => simp [intOf]; omega
        · obtain rfl : k = s.floors.length := by omega
          have hll := rounds_len (s := s) (ss := ss) (ps := ps) s.floors.length
          have z0 := IntBlk.at HB.out tp (by omega)
          have HF := Lib.hid (show (lowR s ss ps)[tp]?.getD 0 = (rounds s ss ps s.floors.length)[tp]'(by omega) by unfold lowR; rw [List.getElem?_eq_getElem (by omega)]; rfl)
          have t1 : (tp : Int) < s.floors.length := by omega
          have lg := HB.out.lt
          generalize (rounds s ss ps s.floors.length)[tp] = rr at *
          go_wp2_with fail
          go_ret
          exact ⟨by rw [HF.out]; rfl, Up.trans U0.out HU2.out⟩
end
end Go.Proofs.YtknaajofcbenaaaGreat
/- The reference's Gate, Gates, Heights and Ask. -/
namespace Go.Proofs.YtknaajofcbenaaaGreat
open Go.RowKit Go.Shelf

section
variable {pT pF pS : Option Addr} {cT cF cS : Nat}
set_option maxRecDepth 100000 in
set_option maxHeartbeats 1000000 in
theorem refGate_c (s : Sd) (p : Nat) (w : World) (ok : Ok s) (hl : Lists w s pT pF pS cT cF cS) (hp : p < s.floors.length) :
    Calls Tryz.prog 50 #[sdVal s pT pF pS cT cF cS, .int .i64 p] w fun e w' => e = .returned (.int .i64 (gateR s p)) ∧ Up w w' := by
  have HG := Lib.hid (low_gate ok p hp)
  have HL := Lib.hid (fun W (u : Up w W) => refLeast_c s p [] [] none none 0 0 W ok (hl.up u) (Row.nil _ _ _) (Row.nil _ _ _) (by simp) (by simp) hp)
  clear hl
  unfold sdVal at *
  go_enter Tryz.func50, Tryz.ntmps50
  go_wp2_with fail
  refine (HL.out _ (by (repeat (first | exact Below.refl _ _ | (with_reducible refine Below.drewN' ?_ _) | (with_reducible refine Below.drew ?_) | (with_reducible refine Below.setCell ?_ (by first | exact Nat.le_refl _ | omega | (with_reducible (repeat (first | refine sz_alloc ?_ | refine sz_setCell ?_ | refine sz_drew ?_ | refine sz_drewN ?_)); first | exact Nat.le_refl _ | omega) | (simp only [World.size_alloc, World.size_setCell, World.size_drew, size_drewN']; omega)) _) | (with_reducible refine Below.alloc ?_ (by first | exact Nat.le_refl _ | omega | (with_reducible (repeat (first | refine sz_alloc ?_ | refine sz_setCell ?_ | refine sz_drew ?_ | refine sz_drewN ?_)); first | exact Nat.le_refl _ | omega) | (simp only [World.size_alloc, World.size_setCell, World.size_drew, size_drewN']; omega)) _) | assumption)))).mono ?_
  rintro e w1 ⟨rfl, u1⟩
  rw [HG.out]
  have U1 := Lib.hid (Up.trans (show Up w (w.alloc (.cells (sdCells s pT pF pS cT cF cS).toArray 35)) by (repeat (first | exact Below.refl _ _ | (with_reducible refine Below.drewN' ?_ _) | (with_reducible refine Below.drew ?_) | (with_reducible refine Below.setCell ?_ (by first | exact Nat.le_refl _ | omega | (with_reducible (repeat (first | refine sz_alloc ?_ | refine sz_setCell ?_ | refine sz_drew ?_ | refine sz_drewN ?_)); first | exact Nat.le_refl _ | omega) | (simp only [World.size_alloc, World.size_setCell, World.size_drew, size_drewN']; omega)) _) | (with_reducible refine Below.alloc ?_ (by first | exact Nat.le_refl _ | omega | (with_reducible (repeat (first | refine sz_alloc ?_ | refine sz_setCell ?_ | refine sz_drew ?_ | refine sz_drewN ?_)); first | exact Nat.le_refl _ | omega) | (simp only [World.size_alloc, World.size_setCell, World.size_drew, size_drewN']; omega)) _) | assumption))) u1)
  clear u1
  go_wp2_with fail
  go_ret
  exact ⟨rfl, U1.out⟩

/-- the gates of all places as the reference has them -/
def gatesR (s : Sd) : List Int := (List.range s.floors.length).map (gateR s)
theorem gatesR_len (s : Sd) : (gatesR s).length = s.floors.length := by simp [gatesR]
set_option maxRecDepth 100000 in
set_option maxHeartbeats 1000000 in
theorem refGates_c (s : Sd) (w : World) (ok : Ok s) (hl : Lists w s pT pF pS cT cF cS) :
    Calls Tryz.prog 12 #[sdVal s pT pF pS cT cF cS] w fun e w' => ∃ q d, e = .returned (.slice q (gatesR s).length d) ∧ (gatesR s).length ≤ d ∧ d ≤ maxLen ∧ Row w' q 1 (ints (gatesR s)) ∧ Up w w' := by
  have f8 := ok.fl1
  have HL := Lib.hid (fun (p : Nat) W (u : Up w W) (hp : p < s.floors.length) => refGate_c s p W ok (hl.up u) hp)
  obtain ⟨i0, hi, hz0, hz1, hz2⟩ := info_parts info3
  clear hl
  rw [gatesR_len]
  unfold sdVal at *
  go_enter Tryz.func12, Tryz.ntmps12
  go_wp2_with fail
  have BS : Hid (Blk (w.alloc (.cells #[.slice pT s.table.length cT, .int .i64 s.lo, .int .i64 s.hi, .slice pF s.floors.length cF, .slice pS s.sills.length cS] 35)) w.heap.size (sdCells s pT pF pS cT cF cS) 35) := Lib.hid (Blk.new w (sdCells s pT pF pS cT cF cS) 35)
  have U0 : Hid (Up w (w.alloc (.cells #[.slice pT s.table.length cT, .int .i64 s.lo, .int .i64 s.hi, .slice pF s.floors.length cF, .slice pS s.sills.length cS] 35))) := Lib.hid (by (repeat (first | exact Below.refl _ _ | (with_reducible refine Below.drewN' ?_ _) | (with_reducible refine Below.drew ?_) | (with_reducible refine Below.setCell ?_ (by first | exact Nat.le_refl _ | omega | (with_reducible (repeat (first | refine sz_alloc ?_ | refine sz_setCell ?_ | refine sz_drew ?_ | refine sz_drewN ?_)); first | exact Nat.le_refl _ | omega) | (simp only [World.size_alloc, World.size_setCell, World.size_drew, size_drewN']; omega)) _) | (with_reducible refine Below.alloc ?_ (by first | exact Nat.le_refl _ | omega | (with_reducible (repeat (first | refine sz_alloc ?_ | refine sz_setCell ?_ | refine sz_drew ?_ | refine sz_drewN ?_)); first | exact Nat.le_refl _ | omega) | (simp only [World.size_alloc, World.size_setCell, World.size_drew, size_drewN']; omega)) _) | assumption)))
  generalize (w.alloc (.cells #[.slice pT s.table.length cT, .int .i64 s.lo, .int .i64 s.hi, .slice pF s.floors.length cF, .slice pS s.sills.length cS] 35)) = w0 at *
  go_loopw [4, 3] (fun i v wr => ∃ k : Nat, k ≤ s.floors.length ∧ i = .int .i64 k ∧ wr.ownsRow w0.heap.size 3 1 v k (ints ((List.range k).map (gateR s))).flatten ∧ Up w0 wr) (fun i _ _ => s.floors.length - (intOf i).toNat)
  case atStart => exact ⟨0, by omega, rfl, World.ownsRow_nil _ _ _ _, Below.refl _ _⟩
  case round =>
    obtain ⟨k, hk, rfl, hown, hu⟩ := hrel
    have HO := Lib.hid hown
    have HU := Lib.hid hu
    obtain ⟨c0, c1, c2, c3, c4⟩ := five (BS.out.up hu)
    clear hown hu
    by_cases hlt : k < s.floors.length
    · have k1 : (k : Int) < s.floors.length := by omega
      go_wp2_with fail
      refine (HL.out k wr (Up.trans U0.out HU.out) hlt).mono ?_
      rintro e w2 ⟨rfl, u2⟩
      have O2 := Lib.hid (ownsRow_up HO.out u2)
      have U2 := Lib.hid (Up.trans HU.out u2)
      have hsz := U2.out.size
      clear u2 HO HU c0 c1 c2 c3 c4
      go_wp2_with (at_builtin; refine wpList_append_own _ rfl _ _ 25 rfl w0.heap.size 3 i0 (.int .i64 0) 1 8 Tryz.underlying25 hi hz0 hz1 hz2 rfl (by decide) _ _ _ rfl (O2.out.alloc _) ⟨w2.heap.size, 0, none⟩ 1 1 [.int .i64 (gateR s k)] rfl rfl (newsAt _ rfl [.int .i64 (gateR s k)] _) (by simp [Value.oneCell']) (by simp [maxLen]; omega) (by omega) (sz_alloc hsz) ?_; intro v' w8 hown8 hgr8 hnn; clear hnn)
      have U8 := Lib.hid ((U2.out.alloc hsz _).grown hgr8 (sz_alloc hsz) (fun j e => (O2.out.lt j e).1))
      have O8 := Lib.hid hown8
      clear hown8 hgr8
      go_roundw
      case rel =>
        try ((repeat apply Exists.intro); refine ⟨?_, rfl⟩)
        refine ⟨k + 1, by omega, by go_num, ?_, U8.out⟩
        have e : (ints ((List.range (k + 1)).map (gateR s))).flatten = (ints ((List.range k).map (gateR s))).flatten ++ [.int .i64 (gateR s k)] := by
          rw [List.range_succ, List.map_append]
          unfold ints
          rw [List.map_append, List.flatten_append]
          rfl
        rw [e]
        exact O8.out
      case measure => simp [intOf]; omega
    · obtain rfl : k = s.floors.length := by omega
      obtain ⟨q, d, rfl, a1, a2, hR, -⟩ := Row.of_own (rows := ints (gatesR s)) (flatOk_ints _) HO.out (by simp [ints, gatesR])
      go_wp2_with fail
      go_ret
      exact ⟨q, d, rfl, a1, a2, hR, Up.trans U0.out HU.out⟩

/-- the heights of all minutes of the day -/
def heightsR (s : Sd) : List Int := (List.range (dayN s)).map fun i => hgt s.table (firstM s.table + (i : Nat))
theorem heightsR_len (s : Sd) : (heightsR s).length = dayN s := by simp [heightsR]
set_option maxRecDepth 100000 in
set_option maxHeartbeats 1000000 in
theorem refHeights_c (s : Sd) (w : World) (ok : Ok s) (hl : Lists w s pT pF pS cT cF cS) :
    Calls Tryz.prog 53 #[sdVal s pT pF pS cT cF cS] w fun e w' => ∃ q d, e = .returned (.slice q (heightsR s).length d) ∧ (heightsR s).length ≤ d ∧ d ≤ maxLen ∧ Row w' q 1 (ints (heightsR s)) ∧ (∀ b off, q = some ⟨b, off, none⟩ → w.heap.size ≤ b) ∧ Up w w' := by
  obtain ⟨f0, f1, f2⟩ := firstM_lt ok.table
  have hn : ((dayN s : Nat) : Int) = lastM s.table - firstM s.table + 1 := by unfold dayN; omega
  have HF := Lib.hid (fun W (u : Up w W) => refFirst_c s W (hl.up u) ok.table.2.2.1)
  have HA := Lib.hid (fun W (u : Up w W) => refLast_c s W (hl.up u) ok.table.2.2.1 ok.table.2.2.2)
  have HH := Lib.hid (fun m W (u : Up w W) (h1 : firstM s.table ≤ m) (h2 : m ≤ lastM s.table) => refHeight_c s m W (hl.up u) ok.table h1 h2)
  obtain ⟨i0, hi, hz0, hz1, hz2⟩ := info_parts info3
  clear hl ok
  rw [heightsR_len]
  unfold sdVal at *
  go_enter Tryz.func53, Tryz.ntmps53
  go_wp2_with fail
  have BS : Hid (Blk (w.alloc (.cells #[.slice pT s.table.length cT, .int .i64 s.lo, .int .i64 s.hi, .slice pF s.floors.length cF, .slice pS s.sills.length cS] 35)) w.heap.size (sdCells s pT pF pS cT cF cS) 35) := Lib.hid (Blk.new w (sdCells s pT pF pS cT cF cS) 35)
  have U0 : Hid (Up w (w.alloc (.cells #[.slice pT s.table.length cT, .int .i64 s.lo, .int .i64 s.hi, .slice pF s.floors.length cF, .slice pS s.sills.length cS] 35))) := Lib.hid (by (repeat (first | exact Below.refl _ _ | (with_reducible refine Below.drewN' ?_ _) | (with_reducible refine Below.drew ?_) | (with_reducible refine Below.setCell ?_ (by first | exact Nat.le_refl _ | omega | (with_reducible (repeat (first | refine sz_alloc ?_ | refine sz_setCell ?_ | refine sz_drew ?_ | refine sz_drewN ?_)); first | exact Nat.le_refl _ | omega) | (simp only [World.size_alloc, World.size_setCell, World.size_drew, size_drewN']; omega)) _) | (with_reducible refine Below.alloc ?_ (by first | exact Nat.le_refl _ | omega | (with_reducible (repeat (first | refine sz_alloc ?_ | refine sz_setCell ?_ | refine sz_drew ?_ | refine sz_drewN ?_)); first | exact Nat.le_refl _ | omega) | (simp only [World.size_alloc, World.size_setCell, World.size_drew, size_drewN']; omega)) _) | assumption)))
  generalize (w.alloc (.cells #[.slice pT s.table.length cT, .int .i64 s.lo, .int .i64 s.hi, .slice pF s.floors.length cF, .slice pS s.sills.length cS] 35)) = w0 at *
  refine (HF.out w0 U0.out).mono ?_
  rintro e w1 ⟨rfl, u1⟩
  have U1 := Lib.hid u1
  have hs1 := u1.size
  clear u1
  go_wp2_with fail
  go_loopw [4, 3] (fun i v wr => ∃ k : Nat, k ≤ dayN s ∧ i = .int .i64 (firstM s.table + k) ∧ wr.ownsRow w0.heap.size 3 1 v k (ints ((List.range k).map fun i => hgt s.table (firstM s.table + (i : Nat)))).flatten ∧ Up w0 wr) (fun i _ _ => (lastM s.table + 1 - intOf i).toNat)
  case atStart => exact ⟨0, by omega, by simp, World.ownsRow_nil _ _ _ _, U1.out⟩
  case round =>
    obtain ⟨k, hk, rfl, hown, hu⟩ := hrel
    have HO := Lib.hid hown
    have HU := Lib.hid hu
    obtain ⟨c0, c1, c2, c3, c4⟩ := five (BS.out.up hu)
    clear hown hu
    go_wp2_with fail
    refine (HA.out wr (Up.trans U0.out HU.out)).mono ?_
    rintro e w2 ⟨rfl, u2⟩
    have O2 := Lib.hid (ownsRow_up HO.out u2)
    have U2 := Lib.hid (Up.trans HU.out u2)
    clear u2 HO HU c0 c1 c2 c3 c4
    obtain ⟨c0, c1, c2, c3, c4⟩ := five (BS.out.up U2.out)
    by_cases hlt : k < dayN s
    · have k1 : firstM s.table + (k : Int) ≤ lastM s.table := by omega
      go_wp2_with fail
      refine (HH.out (firstM s.table + k) w2 (Up.trans U0.out U2.out) (by omega) k1).mono ?_
      rintro e w3 ⟨rfl, u3⟩
      have O3 := Lib.hid (ownsRow_up O2.out u3)
      have U3 := Lib.hid (Up.trans U2.out u3)
      have hsz := U3.out.size
      clear u3 O2 U2 c0 c1 c2 c3 c4
      have sy : IntKind.i64.wrap (firstM s.table + k + 1) = firstM s.table + k + 1 := IntWalk.i64_in _ (by omega)
      go_wp2_with (at_builtin; refine wpList_append_own _ rfl _ _ 25 rfl w0.heap.size 3 i0 (.int .i64 0) 1 8 Tryz.underlying25 hi hz0 hz1 hz2 rfl (by decide) _ _ _ rfl (O3.out.alloc _) ⟨w3.heap.size, 0, none⟩ 1 1 [.int .i64 (hgt s.table (firstM s.table + k))] rfl rfl (newsAt _ rfl [.int .i64 (hgt s.table (firstM s.table + k))] _) (by simp [Value.oneCell']) (by simp [maxLen]; omega) (by omega) (sz_alloc hsz) ?_; intro v' w8 hown8 hgr8 hnn; clear hnn)
      have U8 := Lib.hid ((U3.out.alloc hsz _).grown hgr8 (sz_alloc hsz) (fun j e => (O3.out.lt j e).1))
      have O8 := Lib.hid hown8
      clear hown8 hgr8
      go_roundw
      case rel =>
        try ((repeat apply Exists.intro); refine ⟨?_, rfl⟩)
        refine ⟨k + 1, by omega, by rw [show firstM s.table + (k : Int) + 1 = firstM s.table + ((k + 1 : Nat) : Int) by omega], ?_, U8.out⟩
        have e : (ints ((List.range (k + 1)).map fun i => hgt s.table (firstM s.table + (i : Nat)))).flatten = (ints ((List.range k).map fun i => hgt s.table (firstM s.table + (i : Nat)))).flatten ++ [.int .i64 (hgt s.table (firstM s.table + k))] := by
          rw [List.range_succ, List.map_append]
          unfold ints
          rw [List.map_append, List.flatten_append]
          rfl
        rw [e]
        exact O8.out
      case measure => simp [intOf]; omega
    · obtain rfl : k = dayN s := by omega
      obtain ⟨q, d, rfl, a1, a2, hR, hge⟩ := Row.of_own (rows := ints (heightsR s)) (flatOk_ints _) O2.out (by simp [ints, heightsR])
      have k1 : ¬ firstM s.table + ((dayN s : Nat) : Int) ≤ lastM s.table := by omega
      clear hn
      go_wp2_with fail
      go_ret
      exact ⟨q, d, rfl, a1, a2, hR, fun b off e => Nat.le_trans U0.out.size (hge b off e), Up.trans U0.out U2.out⟩

def rAskOne (s : Sd) (m : Int) (z : Lk × Int) (p : Nat) : Lk × Int := if askMost s m p < z.2 then ((m, (p : Int), true), askMost s m p) else z
def rAskRow (s : Sd) (m : Int) (z : Lk × Int) : Nat → Lk × Int
  | 0 => z
  | k + 1 => rAskOne s m (rAskRow s m z k) k
def rAskAll (s : Sd) : Nat → Lk × Int
  | 0 => ((0, 0, false), siz (s.lo, s.hi) + 1)
  | k + 1 => rAskRow s (firstM s.table + k) (rAskAll s k) s.floors.length
/-- both searches have found the same, or nothing yet -/
def AskEq (s : Sd) (z y : Lk × Int) : Prop := (z = y ∧ z.1.2.2 = true) ∨ (z = ((0, 0, false), siz (s.lo, s.hi)) ∧ y = ((0, 0, false), siz (s.lo, s.hi) + 1))
theorem askMost_le {s : Sd} (ok : Ok s) (m : Int) (p : Nat) : askMost s m p ≤ siz (s.lo, s.hi) := by
  have h1 := siz_part ok m p
  have h3 := siz_nonneg (truV s (m, (p : Int), true))
  have h4 := siz_nonneg (truV s (m, (p : Int), false))
  unfold askMost
  omega
theorem askEq_one {s : Sd} (ok : Ok s) {m : Int} {z y : Lk × Int} (h : AskEq s z y) (p : Nat) : AskEq s (askOne s m z p) (rAskOne s m y p) := by
  have hle := askMost_le ok m p
  rcases h with ⟨rfl, hw⟩ | ⟨rfl, rfl⟩
  · left
    unfold askOne rAskOne
    by_cases hc : askMost s m p < z.2
    · rw [if_pos (.inr hc), if_pos hc]; exact ⟨rfl, rfl⟩
    · rw [if_neg (fun h => by rcases h with h | h; · rw [h] at hw; cases hw
                              · exact hc h), if_neg hc]
      exact ⟨rfl, hw⟩
  · left
    unfold askOne rAskOne
    rw [if_pos (.inl rfl), if_pos (by dsimp only; omega)]
    exact ⟨rfl, rfl⟩
theorem askEq_row {s : Sd} (ok : Ok s) {m : Int} {z y : Lk × Int} (h : AskEq s z y) : ∀ k, AskEq s (askRow s m z k) (rAskRow s m y k)
  | 0 => h
  | k + 1 => askEq_one ok (askEq_row ok h k) k
theorem askEq_all {s : Sd} (ok : Ok s) : ∀ k, AskEq s (askAll s k) (rAskAll s k)
  | 0 => .inr ⟨rfl, rfl⟩
  | k + 1 => askEq_row ok (askEq_all ok k) _
theorem ask_same {s : Sd} (ok : Ok s) : rAskAll s (dayN s) = askAll s (dayN s) := by
  obtain ⟨m, p, h, -⟩ := ask_best ok
  rcases askEq_all ok (dayN s) with ⟨h1, -⟩ | ⟨h1, -⟩
  · exact h1.symm
  · rw [h] at h1
    exact absurd (congrArg (fun t => t.1.2.2) h1) (by simp)
theorem rAskRow_rng {s : Sd} (ok : Ok s) {m : Int} {z : Lk × Int} (h : 0 ≤ z.2 ∧ z.2 ≤ 102) : ∀ k, 0 ≤ (rAskRow s m z k).2 ∧ (rAskRow s m z k).2 ≤ 102
  | 0 => h
  | k + 1 => by
    have ih := rAskRow_rng ok h (m := m) k
    have := askMost_rng ok m k
    unfold rAskRow rAskOne
    split
    · exact ⟨this.1, by dsimp only; omega⟩
    · exact ih
theorem rAskAll_rng {s : Sd} (ok : Ok s) : ∀ k, 0 ≤ (rAskAll s k).2 ∧ (rAskAll s k).2 ≤ 102
  | 0 => by have := askMost_rng ok 0 0; exact ⟨by show 0 ≤ siz (s.lo, s.hi) + 1; omega, by show siz (s.lo, s.hi) + 1 ≤ 102; omega⟩
  | k + 1 => rAskRow_rng ok (rAskAll_rng ok k) _
/-- how many truths say that it is wet -/
theorem Far.cell {B n₀ : Nat} {w w' : World} (h : Far B n₀ w w') {b o : Nat} (h1 : b < n₀) (h2 : b ≠ B) : w'.cell? ⟨b, o, none⟩ = w.cell? ⟨b, o, none⟩ := World.cell?_of_block (h.block b h1 h2)
theorem Far.below2 {B n₀ : Nat} {w w' : World} (h : Far B n₀ w w') (hb : B < n₀) : Below B w w' := h.below (Nat.le_refl _) (by omega)
theorem yes_siz {s : Sd} (ok : Ok s) (m : Int) (p : Nat) (h0 : 0 ≤ hgt s.table m) (h1 : hgt s.table m ≤ 999) : max 0 (s.hi + 1 - max s.lo (gateR s p - hgt s.table m + 1)) = siz (truV s (m, (p : Int), true)) := by
  have b0 := ok.lo0
  have b1 := ok.hi1
  have b2 := ok.lohi
  have gl := gts_le s p
  unfold gateR siz truV com
  simp only [if_true, Int.toNat_natCast]
  split <;> omega
set_option maxRecDepth 100000 in
set_option maxHeartbeats 3000000 in
theorem refAsk_c (s : Sd) (n : Nat) (q : Option Addr) (d : Nat) (w : World) (hn : (gatesR s).length = n) (ok : Ok s) (hl : Lists w s pT pF pS cT cF cS) (hr : Row w q 1 (ints (gatesR s))) :
    Calls Tryz.prog 87 #[sdVal s pT pF pS cT cF cS, .slice q n d] w fun e w' => e = .returned (.tuple #[.agg #[.int .i64 (askAll s (dayN s)).1.1, .int .i64 (askAll s (dayN s)).1.2.1, .bool (askAll s (dayN s)).1.2.2], .int .i64 (askAll s (dayN s)).2]) ∧ Up w w' := by
  have hnl : n = s.floors.length := by rw [← hn, gatesR_len]
  subst hnl
  obtain ⟨f0, f1, f2⟩ := firstM_lt ok.table
  have hdn : ((dayN s : Nat) : Int) = lastM s.table - firstM s.table + 1 := by unfold dayN; omega
  have f8 := ok.fl1
  have b0 := ok.lo0
  have b1 := ok.hi1
  have b2 := ok.lohi
  have HF := Lib.hid (fun W (u : Up w W) => refFirst_c s W (hl.up u) ok.table.2.2.1)
  have HH := Lib.hid (fun W (u : Up w W) => refHeights_c s W ok (hl.up u))
  have HR := Lib.hid hr
  have OK := Lib.hid ok
  have SAME := Lib.hid (ask_same ok)
  have s1 : IntKind.i64.wrap (s.hi - s.lo) = s.hi - s.lo := IntWalk.i64_in _ (by omega)
  have s2 : IntKind.i64.wrap (s.hi - s.lo + 1) = s.hi - s.lo + 1 := IntWalk.i64_in _ (by omega)
  have s3 : IntKind.i64.wrap (s.hi - s.lo + 1 + 1) = s.hi - s.lo + 1 + 1 := IntWalk.i64_in _ (by omega)
  clear hl hr ok hn
  unfold sdVal at *
  go_enter Tryz.func87, Tryz.ntmps87
  go_wp2_with fail
  refine Calls.world ?_
  intro w0 hw0
  have u0 : Up w w0 := by rw [hw0]; (repeat (first | exact Below.refl _ _ | (with_reducible refine Below.drewN' ?_ _) | (with_reducible refine Below.drew ?_) | (with_reducible refine Below.setCell ?_ (by first | exact Nat.le_refl _ | omega | (with_reducible (repeat (first | refine sz_alloc ?_ | refine sz_setCell ?_ | refine sz_drew ?_ | refine sz_drewN ?_)); first | exact Nat.le_refl _ | omega) | (simp only [World.size_alloc, World.size_setCell, World.size_drew, size_drewN']; omega)) _) | (with_reducible refine Below.alloc ?_ (by first | exact Nat.le_refl _ | omega | (with_reducible (repeat (first | refine sz_alloc ?_ | refine sz_setCell ?_ | refine sz_drew ?_ | refine sz_drewN ?_)); first | exact Nat.le_refl _ | omega) | (simp only [World.size_alloc, World.size_setCell, World.size_drew, size_drewN']; omega)) _) | assumption))
  have hS : Blk w0 w.heap.size (sdCells s pT pF pS cT cF cS) 35 := by rw [hw0]; exact ((Blk.new w (sdCells s pT pF pS cT cF cS) _).alloc _).alloc _
  have hR : Blk w0 (w.heap.size + 1) [.int .i64 0, .int .i64 0, .bool false] 124 := by rw [hw0]; exact (Blk.new' _ [.int .i64 0, .int .i64 0, .bool false] _ (by simp)).alloc _
  have hB : Blk w0 (w.heap.size + 1 + 1) [.int .i64 0, .int .i64 0, .bool false] 124 := by rw [hw0]; exact Blk.new' _ [.int .i64 0, .int .i64 0, .bool false] _ (by simp)
  clear hw0
  refine (HH.out w0 u0).mono ?_
  rintro e w1 ⟨qh, dh, rfl, -, -, rh, hfr, u1⟩
  have U1 := Lib.hid (Up.trans u0 u1)
  have S1 := Lib.hid (hS.up u1)
  have R1 := Lib.hid (hR.up u1)
  have B1 := Lib.hid (hB.up u1)
  have HB0 := hB.lt
  have RH := Lib.hid rh
  rw [heightsR_len]
  have hal : siz (s.lo, s.hi) = s.hi - s.lo + 1 := siz_wind OK.out
  have HALL := Lib.hid hal
  clear u0 u1 hS hR hB rh s1 s2 s3 hal
  have hl0 : w.heap.size + 1 + 1 < w0.heap.size := HB0
  obtain ⟨bh, oh, rfl, -⟩ := RH.out.int 0 (by rw [heightsR_len]; omega)
  obtain ⟨bg, og, rfl, -⟩ := HR.out.int 0 (by rw [gatesR_len]; have := OK.out.fl0; omega)
  have hbw : w.heap.size + 1 + 1 < w1.heap.size := B1.out.lt
  have HDN := Lib.hid hdn
  clear hdn
  obtain ⟨dn, hdd⟩ : ∃ dn, dayN s = dn := ⟨_, rfl⟩
  have HDD := Lib.hid hdd
  rw [hdd] at HDN ⊢
  have hd9 : dn ≤ 1441 := by have := HDN.out; omega
  clear hdd
  go_wp2_with fail
  go_loopw [10, 8] (fun i f wr => ∃ k : Nat, k ≤ dn ∧ i = .int .i64 k ∧ f = .int .i64 (rAskAll s k).2 ∧ Blk wr (w.heap.size + 1 + 1) (lkc (rAskAll s k).1) 124 ∧ Blk wr (w.heap.size + 1) [.int .i64 0, .int .i64 0, .bool false] 124 ∧ Blk wr w.heap.size (sdCells s pT pF pS cT cF cS) 35 ∧ Far (w.heap.size + 1 + 1) w1.heap.size w1 wr) (fun i _ _ => dn - (intOf i).toNat)
  case atStart => exact ⟨0, by omega, rfl, by rw [show (rAskAll s 0).2 = s.hi - s.lo + 1 + 1 by rw [← HALL.out]; rfl], B1.out, R1.out, S1.out, Far.refl _ _ _⟩
  case round =>
    obtain ⟨k, hk, rfl, rfl, hb, hr, hs, hd⟩ := hrel
    have HB := Lib.hid hb
    have HRr := Lib.hid hr
    have HSr := Lib.hid hs
    have HD := Lib.hid hd
    clear hb hr hs hd
    by_cases hlt : k < dn
    · have k1 : (k : Int) < dn := by omega
      have hzr := rAskAll_rng OK.out k
      have HE := Lib.hid (show rAskAll s (k + 1) = rAskRow s (firstM s.table + k) (rAskAll s k) s.floors.length from rfl)
      generalize rAskAll s k = z at *
      have HZR := Lib.hid hzr
      clear hzr
      go_wp2_with fail
      go_loopw [11, 8] (fun j f wy => ∃ p : Nat, p ≤ s.floors.length ∧ j = .int .i64 p ∧ f = .int .i64 (rAskRow s (firstM s.table + k) z p).2 ∧ Blk wy (w.heap.size + 1 + 1) (lkc (rAskRow s (firstM s.table + k) z p).1) 124 ∧ Blk wy (w.heap.size + 1) [.int .i64 0, .int .i64 0, .bool false] 124 ∧ Blk wy w.heap.size (sdCells s pT pF pS cT cF cS) 35 ∧ Far (w.heap.size + 1 + 1) w1.heap.size w1 wy) (fun j _ _ => s.floors.length - (intOf j).toNat)
      case atStart => exact ⟨0, Nat.zero_le _, rfl, rfl, HB.out, HRr.out, HSr.out, HD.out⟩
      case round =>
        obtain ⟨p, hp, rfl, rfl, hb, hr, hs, hd⟩ := hrel
        have Hb := Lib.hid hb
        have Hr := Lib.hid hr
        have Hs := Lib.hid hs
        have Hd := Lib.hid hd
        clear hb hr hs hd HB HRr HSr HD
        by_cases hlp : p < s.floors.length
        · have p1 : (p : Int) < s.floors.length := by omega
          have hzr := rAskRow_rng OK.out (m := firstM s.table + k) HZR.out p
          have HE2 := Lib.hid (show rAskRow s (firstM s.table + k) z (p + 1) = rAskOne s (firstM s.table + k) (rAskRow s (firstM s.table + k) z p) p from rfl)
          generalize rAskRow s (firstM s.table + k) z p = y at *
          obtain ⟨⟨ym, yp, yw⟩, yn⟩ := y
          dsimp only at hzr
          obtain ⟨c0, c1, c2, c3, c4⟩ := five Hs.out
          have hm0 : firstM s.table ≤ firstM s.table + (k : Int) := by omega
          have hmr := hgt_rng OK.out.table (firstM s.table + k) hm0
          have mr := askMost_rng OK.out (firstM s.table + k) p
          have YS := Lib.hid (yes_siz OK.out (firstM s.table + k) p hmr.1 hmr.2)
          have MS := Lib.hid (show askMost s (firstM s.table + k) p = max (siz (truV s (firstM s.table + k, (p : Int), true))) (siz (s.lo, s.hi) - siz (truV s (firstM s.table + k, (p : Int), true))) from rfl)
          have yle : siz (truV s (firstM s.table + k, (p : Int), true)) ≤ siz (s.lo, s.hi) := by have h1 := siz_part OK.out (firstM s.table + k) p; have h2 := siz_nonneg (truV s (firstM s.table + k, (p : Int), false)); omega
          have gl := gts_le s p
          have GR : 0 ≤ gateR s p ∧ gateR s p ≤ 5000 := by unfold gateR; split <;> omega
          have hfb := hfr bh oh rfl
          obtain ⟨hx1, hx2⟩ : bh < w1.heap.size ∧ w1.cell? ⟨bh, oh + k, none⟩ = some (.int .i64 (hgt s.table (firstM s.table + k))) := by
            obtain ⟨b', o', e1, e2⟩ := RH.out.int k (by rw [heightsR_len, HDD.out]; omega)
            simp only [Option.some.injEq, Addr.mk.injEq, and_true] at e1
            obtain ⟨rfl, rfl⟩ := e1
            simp only [heightsR, List.getElem_map, List.getElem_range] at e2
            exact ⟨cell_lt e2, e2⟩
          obtain ⟨hy1, hy2⟩ : bg < w.heap.size ∧ w.cell? ⟨bg, og + p, none⟩ = some (.int .i64 (gateR s p)) := by
            obtain ⟨b', o', e1, e2⟩ := HR.out.int p (by rw [gatesR_len]; omega)
            simp only [Option.some.injEq, Addr.mk.injEq, and_true] at e1
            obtain ⟨rfl, rfl⟩ := e1
            simp only [gatesR, List.getElem_map, List.getElem_range] at e2
            exact ⟨cell_lt e2, e2⟩
          have hx3 := (Hd.out.cell hx1 (by omega)).trans hx2
          have hy3 := (Hd.out.cell (b := bg) (by have := U1.out.size; omega) (by omega)).trans (U1.out.cellAt hy2)
          have lx := cell_lt hx3
          have ly := cell_lt hy3
          generalize hgt s.table (firstM s.table + (k : Int)) = hh at *
          generalize gateR s p = gg at *
          generalize siz (truV s (firstM s.table + (k : Int), (p : Int), true)) = yes at *
          clear hx2 hy2 gl
          go_wp2_with fail
          go_loopw [13, 12] (fun v y wz => ∃ t : Int, v = .int .i64 t ∧ s.lo ≤ t ∧ t ≤ s.hi + 1 ∧ y = .int .i64 (max 0 (t - max s.lo (gg - hh + 1))) ∧ Up wr wz) (fun v _ _ => (s.hi + 1 - intOf v).toNat)
          case atStart => exact ⟨s.lo, rfl, Int.le_refl _, by omega, by rw [show max 0 (s.lo - max s.lo (gg - hh + 1)) = 0 by omega], Below.refl _ _⟩
          case round =>
            obtain ⟨t, rfl, t0, t1, rfl, hu⟩ := hrel
            have e0 := hu.cellAt c0
            have e1 := hu.cellAt c1
            have e2 := hu.cellAt c2
            have e3 := hu.cellAt c3
            have e4 := hu.cellAt c4
            have ex := hu.cellAt hx3
            have ey := hu.cellAt hy3
            have le := cell_lt ex
            have lf := cell_lt ey
            have HU := Lib.hid hu
            clear hu c0 c1 c2 c3 c4 hx3 hy3
            by_cases ht : t ≤ s.hi
            · have s4 : IntKind.i64.wrap (hh + t) = hh + t := IntWalk.i64_in _ (by omega)
              have st1 : IntKind.i64.wrap (t + 1) = t + 1 := IntWalk.i64_in _ (by omega)
              obtain ⟨yy, hyy⟩ : ∃ yy, max 0 (t - max s.lo (gg - hh + 1)) = yy := ⟨_, rfl⟩
              have HYY := Lib.hid hyy
              have yr : 0 ≤ yy ∧ yy ≤ 200 := by omega
              have sy1 : IntKind.i64.wrap (yy + 1) = yy + 1 := IntWalk.i64_in _ (by omega)
              rw [hyy]
              clear hyy
              by_cases hw : gg < hh + t
              · have HV := Lib.hid (show max 0 (t + 1 - max s.lo (gg - hh + 1)) = yy + 1 by have := HYY.out; omega)
                go_wp2_with fail
                go_quiet (fail)
                go_wp2
                go_roundw
                case rel =>
                  try ((repeat apply Exists.intro); refine ⟨?_, rfl⟩)
                  exact ⟨t + 1, rfl, by omega, by omega, by rw [HV.out], by have hU := HU.out; (repeat (first | exact Below.refl _ _ | (with_reducible refine Below.drewN' ?_ _) | (with_reducible refine Below.drew ?_) | (with_reducible refine Below.setCell ?_ (by first | exact Nat.le_refl _ | omega | (with_reducible (repeat (first | refine sz_alloc ?_ | refine sz_setCell ?_ | refine sz_drew ?_ | refine sz_drewN ?_)); first | exact Nat.le_refl _ | omega) | (simp only [World.size_alloc, World.size_setCell, World.size_drew, size_drewN']; omega)) _) | (with_reducible refine Below.alloc ?_ (by first | exact Nat.le_refl _ | omega | (with_reducible (repeat (first | refine sz_alloc ?_ | refine sz_setCell ?_ | refine sz_drew ?_ | refine sz_drewN ?_)); first | exact Nat.le_refl _ | omega) | (simp only [World.size_alloc, World.size_setCell, World.size_drew, size_drewN']; omega)) _) | assumption))⟩
                case measure => simp [intOf]; omega
              · have HV := Lib.hid (show max 0 (t + 1 - max s.lo (gg - hh + 1)) = yy by have := HYY.out; omega)
                go_wp2_with fail
                go_quiet (fail)
                go_wp2
                go_roundw
                case rel =>
                  try ((repeat apply Exists.intro); refine ⟨?_, rfl⟩)
                  exact ⟨t + 1, rfl, by omega, by omega, by rw [HV.out], by have hU := HU.out; (repeat (first | exact Below.refl _ _ | (with_reducible refine Below.drewN' ?_ _) | (with_reducible refine Below.drew ?_) | (with_reducible refine Below.setCell ?_ (by first | exact Nat.le_refl _ | omega | (with_reducible (repeat (first | refine sz_alloc ?_ | refine sz_setCell ?_ | refine sz_drew ?_ | refine sz_drewN ?_)); first | exact Nat.le_refl _ | omega) | (simp only [World.size_alloc, World.size_setCell, World.size_drew, size_drewN']; omega)) _) | (with_reducible refine Below.alloc ?_ (by first | exact Nat.le_refl _ | omega | (with_reducible (repeat (first | refine sz_alloc ?_ | refine sz_setCell ?_ | refine sz_drew ?_ | refine sz_drewN ?_)); first | exact Nat.le_refl _ | omega) | (simp only [World.size_alloc, World.size_setCell, World.size_drew, size_drewN']; omega)) _) | assumption))⟩
                case measure => simp [intOf]; omega
            · obtain rfl : t = s.hi + 1 := by omega
              rw [YS.out]
              have Bq := Lib.hid (Hb.out.up HU.out)
              have Rq := Lib.hid (Hr.out.up HU.out)
              have Sq := Lib.hid (Hs.out.up HU.out)
              have Dq := Lib.hid (Hd.out.trans (Far.of (HU.out.mono Hd.out.size)))
              generalize wr = wq at *
              have hal := HALL.out
              have s5 : IntKind.i64.wrap (s.hi - s.lo + 1 - yes) = s.hi - s.lo + 1 - yes := IntWalk.i64_in _ (by omega)
              have mr5 : 0 ≤ yes ∧ yes ≤ s.hi - s.lo + 1 := by omega
              rw [hal] at mr
              clear hal
              by_cases hm : yes < s.hi - s.lo + 1 - yes
              · have MM := Lib.hid (show askMost s (firstM s.table + k) p = s.hi - s.lo + 1 - yes by rw [MS.out, HALL.out]; omega)
                by_cases hc : s.hi - s.lo + 1 - yes < yn
                · have HE3 := Lib.hid (show rAskRow s (firstM s.table + k) z (p + 1) = ((firstM s.table + k, (p : Int), true), s.hi - s.lo + 1 - yes) by rw [HE2.out]; unfold rAskOne; rw [MM.out, if_pos hc])
                  go_wp2_with fail
                  refine (HF.out wq (Below.trans U1.out (Dq.out.below (by omega) (by omega)))).mono ?_
                  rintro e wt ⟨rfl, ut⟩
                  have Bt := Lib.hid (Bq.out.up ut)
                  have Rt := Lib.hid (Rq.out.up ut)
                  have St := Lib.hid (Sq.out.up ut)
                  have Dt := Lib.hid (Dq.out.trans (Far.of (ut.mono Dq.out.size)))
                  have y0 := Bt.out.cell 0
                  have y1 := Bt.out.cell 1
                  have y2 := Bt.out.cell 2
                  have yf := Bt.out.free
                  have yl := Bt.out.lt
                  have s6 : IntKind.i64.wrap (firstM s.table + k) = firstM s.table + k := IntWalk.i64_in _ (by omega)
                  simp only [lkc, List.getElem?_cons_zero, List.getElem?_cons_succ] at y0 y1 y2
                  clear ut
                  go_wp2_with fail
                  go_roundw
                  case rel =>
                    try ((repeat apply Exists.intro); refine ⟨?_, rfl⟩)
                    refine ⟨p + 1, by omega, by go_num, by rw [HE3.out], ?_, ((Rt.out.other (by simp only []; omega) _).other (by simp only []; omega) _).other (by simp only []; omega) _, ((St.out.other (by simp only []; omega) _).other (by simp only []; omega) _).other (by simp only []; omega) _, ((Dt.out.setIn _ _).setIn _ _).setIn _ _⟩
                    rw [HE3.out]
                    have h := ((Bt.out.set 0 (.int .i64 (firstM s.table + k))).set 1 (.int .i64 p)).set 2 (.bool true)
                    simpa only [lkc, List.set_cons_zero, List.set_cons_succ] using h
                  case measure => simp [intOf]; omega
                · have HE3 := Lib.hid (show rAskRow s (firstM s.table + k) z (p + 1) = ((ym, yp, yw), yn) by rw [HE2.out]; unfold rAskOne; rw [MM.out, if_neg hc])
                  go_wp2_with fail
                  go_roundw
                  case rel =>
                    try ((repeat apply Exists.intro); refine ⟨?_, rfl⟩)
                    exact ⟨p + 1, by omega, by go_num, by rw [HE3.out], by rw [HE3.out]; exact Bq.out, Rq.out, Sq.out, Dq.out⟩
                  case measure => simp [intOf]; omega
              · have MM := Lib.hid (show askMost s (firstM s.table + k) p = yes by rw [MS.out, HALL.out]; omega)
                by_cases hc : yes < yn
                · have HE3 := Lib.hid (show rAskRow s (firstM s.table + k) z (p + 1) = ((firstM s.table + k, (p : Int), true), yes) by rw [HE2.out]; unfold rAskOne; rw [MM.out, if_pos hc])
                  go_wp2_with fail
                  refine (HF.out wq (Below.trans U1.out (Dq.out.below (by omega) (by omega)))).mono ?_
                  rintro e wt ⟨rfl, ut⟩
                  have Bt := Lib.hid (Bq.out.up ut)
                  have Rt := Lib.hid (Rq.out.up ut)
                  have St := Lib.hid (Sq.out.up ut)
                  have Dt := Lib.hid (Dq.out.trans (Far.of (ut.mono Dq.out.size)))
                  have y0 := Bt.out.cell 0
                  have y1 := Bt.out.cell 1
                  have y2 := Bt.out.cell 2
                  have yf := Bt.out.free
                  have yl := Bt.out.lt
                  have s6 : IntKind.i64.wrap (firstM s.table + k) = firstM s.table + k := IntWalk.i64_in _ (by omega)
                  simp only [lkc, List.getElem?_cons_zero, List.getElem?_cons_succ] at y0 y1 y2
                  clear ut
                  go_wp2_with fail
                  go_roundw
                  case rel =>
                    try ((repeat apply Exists.intro); refine ⟨?_, rfl⟩)
                    refine ⟨p + 1, by omega, by go_num, by rw [HE3.out], ?_, ((Rt.out.other (by simp only []; omega) _).other (by simp only []; omega) _).other (by simp only []; omega) _, ((St.out.other (by simp only []; omega) _).other (by simp only []; omega) _).other (by simp only []; omega) _, ((Dt.out.setIn _ _).setIn _ _).setIn _ _⟩
                    rw [HE3.out]
                    have h := ((Bt.out.set 0 (.int .i64 (firstM s.table + k))).set 1 (.int .i64 p)).set 2 (.bool true)
                    simpa only [lkc, List.set_cons_zero, List.set_cons_succ] using h
                  case measure => simp [intOf]; omega
                · have HE3 := Lib.hid (show rAskRow s (firstM s.table + k) z (p + 1) = ((ym, yp, yw), yn) by rw [HE2.out]; unfold rAskOne; rw [MM.out, if_neg hc])
                  go_wp2_with fail
                  go_roundw
                  case rel =>
                    try ((repeat apply Exists.intro); refine ⟨?_, rfl⟩)
                    exact ⟨p + 1, by omega, by go_num, by rw [HE3.out], by rw [HE3.out]; exact Bq.out, Rq.out, Sq.out, Dq.out⟩
                  case measure => simp [intOf]; omega
        · obtain rfl : p = s.floors.length := by omega
          go_wp2_with fail
          go_roundw
          case rel =>
            try ((repeat apply Exists.intro); refine ⟨?_, rfl⟩)
            exact ⟨k + 1, by omega, by go_num, by rw [HE.out], by rw [HE.out]; exact Hb.out, Hr.out, Hs.out, Hd.out⟩
          case measure => simp [intOf]; omega
    · obtain rfl : k = dn := by omega
      have hz : rAskAll s k = askAll s (dayN s) := by rw [← SAME.out, HDD.out]
      rw [hz] at HB
      rw [hz]
      generalize hzz : askAll s (dayN s) = z at *
      obtain ⟨⟨zm, zp, zw⟩, zn⟩ := z
      have y0 := HB.out.cell 0
      have y1 := HB.out.cell 1
      have y2 := HB.out.cell 2
      have r0 := HRr.out.cell 0
      have r1 := HRr.out.cell 1
      have r2 := HRr.out.cell 2
      have rf := HRr.out.free
      have rl := HRr.out.lt
      simp only [lkc, List.getElem?_cons_zero, List.getElem?_cons_succ] at y0 y1 y2 r0 r1 r2
      have UW := Lib.hid (Below.trans U1.out (HD.out.below (b := w.heap.size) (by omega) (by omega)))
      have HZZ := Lib.hid hzz
      clear hz hzz
      go_wp2_with fail
      have h := ((HRr.out.set 0 (.int .i64 zm)).set 1 (.int .i64 zp)).set 2 (.bool zw)
      have p0 := h.cell 0
      have p1 := h.cell 1
      have p2 := h.cell 2
      simp only [List.set_cons_zero, List.set_cons_succ, List.getElem?_cons_zero, List.getElem?_cons_succ] at p0 p1 p2
      refine bodyPost_ret (v := .tuple #[.agg #[.int .i64 zm, .int .i64 zp, .bool zw], .int .i64 zn]) (by simp [results, Tryz.f87, go_sem, p0, p1, p2]) rfl ⟨?_, ?_⟩
      · first | rfl | rw [HZZ.out]
      · exact ((UW.out.setCell (by simp only []; omega) _).setCell (by simp only []; omega) _).setCell (by simp only []; omega) _
end
end Go.Proofs.YtknaajofcbenaaaGreat
/- How far the statement 'own, x, mine := Own(s), theirs(s), Dup(..)' has come. -/
namespace Go.Proofs.YtknaajofcbenaaaGreat
open Go.RowKit Go.Shelf
section
variable {w w' W w1 : World} {s : Sd} {val : Value} {done : Nat → Bool}
/-- what is done of the pair alone -/
def pe (done : Nat → Bool) : Nat → Bool := fun i => if i < 4 then done i else done (i + 2)
theorem pe_low {i : Nat} (h : i < 4) : pe (upd done i) = upd (pe done) i := by
  funext k
  unfold pe upd
  by_cases hk : k < 4
  · simp [hk]
  · have e1 : (k + 2 == i) = false := beq_eq_false_iff_ne.2 (by omega)
    have e2 : (k == i) = false := beq_eq_false_iff_ne.2 (by omega)
    simp [hk, e1, e2]
theorem pe_mid {i : Nat} (h : 4 ≤ i) (h2 : i < 6) : pe (upd done i) = pe done := by
  funext k
  unfold pe upd
  by_cases hk : k < 4
  · have e2 : (k == i) = false := beq_eq_false_iff_ne.2 (by omega)
    simp [hk, e2]
  · have e1 : (k + 2 == i) = false := beq_eq_false_iff_ne.2 (by omega)
    simp [hk, e1]
theorem pe_high {i : Nat} (h : 4 ≤ i) : pe (upd done (i + 2)) = upd (pe done) i := by
  funext k
  unfold pe upd
  by_cases hk : k < 4
  · have e1 : (k == i + 2) = false := beq_eq_false_iff_ne.2 (by omega)
    have e2 : (k == i) = false := beq_eq_false_iff_ne.2 (by omega)
    simp [hk, e1, e2]
  · by_cases e : k = i
    · subst e; simp [hk]
    · have e1 : (k + 2 == i + 2) = false := beq_eq_false_iff_ne.2 (by omega)
      have e2 : (k == i) = false := beq_eq_false_iff_ne.2 e
      simp [hk, e1, e2]
theorem pe_start : pe (fun _ => false) = fun _ => false := by funext k; simp [pe]
/-- how far the whole statement has come -/
structure Trey (w1 : World) (s : Sd) (val x : Value) (la : List Int) (done : Nat → Bool) (W : World) (V : Nat → Value) : Prop where
  pair : Pair w1 s val (pe done) W (V 0) (V 1) (V 2) (V 3) (V 6) (V 7)
  a : Dp W (done 4) (done 5) x la (V 4) (V 5) (V 6) (V 7)
section
variable {x : Value} {la : List Int} {V : Nat → Value}
theorem Trey.start (w : World) (s : Sd) (val x : Value) (la : List Int) : Trey w s val x la (fun _ => false) w.drew (fun _ => undef) :=
  ⟨by rw [pe_start]; exact Pair.start w s val, ⟨fun h => (by cases h), fun h => (by cases h)⟩⟩
theorem Trey.load0 (h : Trey w1 s val x la done W V) : Trey w1 s val x la (upd done 0) W (put V 0 val) :=
  ⟨by rw [pe_low (by decide)]; exact h.pair.load0, h.a.cast (by simp [upd]) (by simp [upd])⟩
theorem Trey.load2 (h : Trey w1 s val x la done W V) : Trey w1 s val x la (upd done 2) W (put V 2 val) :=
  ⟨by rw [pe_low (by decide)]; exact h.pair.load2, h.a.cast (by simp [upd]) (by simp [upd])⟩
theorem Trey.call1 {qT qF qS : Option Addr} {dT dF dS : Nat} (h : Trey w1 s val x la done W V) (u : Up W w') (hl : Lists w' s qT qF qS dT dF dS) (hf : Fresh W.heap.size s qT qF qS) : Trey w1 s val x la (upd done 1) w' (put V 1 (sdVal s qT qF qS dT dF dS)) :=
  ⟨by rw [pe_low (by decide)]; exact h.pair.call1 u hl hf, (h.a.up u).cast (by simp [upd]) (by simp [upd])⟩
theorem Trey.call3 {qT qF qS : Option Addr} {dT dF dS : Nat} (h : Trey w1 s val x la done W V) (u : Up W w') (hl : Lists w' s qT qF qS dT dF dS) (hf : Fresh W.heap.size s qT qF qS) : Trey w1 s val x la (upd done 3) w' (put V 3 (sdVal s qT qF qS dT dF dS)) :=
  ⟨by rw [pe_low (by decide)]; exact h.pair.call3 u hl hf, (h.a.up u).cast (by simp [upd]) (by simp [upd])⟩
theorem Trey.mv4 (h : Trey w1 s val x la done W V) : Trey w1 s val x la (upd done 4) W (put V 4 x) :=
  ⟨by rw [pe_mid (by decide) (by decide)]; exact h.pair, h.a.mv.cast (by simp [upd]) (by simp [upd])⟩
theorem Trey.dup5 (h : Trey w1 s val x la done W V) {q : Option Addr} {d : Nat} (u : Up W w') (r : Row w' q 1 (ints la)) (hq : ∀ b off, q = some ⟨b, off, none⟩ → W.heap.size ≤ b) : Trey w1 s val x la (upd done 5) w' (put V 5 (.slice q la.length d)) :=
  ⟨by rw [pe_mid (by decide) (by decide)]; exact h.pair.up' u, (h.a.dup u r hq h.pair.low4 h.pair.low5).cast (by simp [upd]) (by simp [upd])⟩
theorem Trey.alloc6 (h : Trey w1 s val x la done W V) : Trey w1 s val x la (upd done 6) (W.alloc (.cells #[.slice none 0 0, .int .i64 0, .int .i64 0, .slice none 0 0, .slice none 0 0] 28)) (put V 6 (.pointer (some ⟨W.heap.size, 0, none⟩))) :=
  ⟨by rw [pe_high (i := 4) (by decide)]; exact h.pair.alloc4, (h.a.allocA _).cast (by simp [upd]) (by simp [upd])⟩
theorem Trey.alloc7 (h : Trey w1 s val x la done W V) : Trey w1 s val x la (upd done 7) (W.alloc (.cells #[.slice none 0 0, .int .i64 0, .int .i64 0, .slice none 0 0, .slice none 0 0] 35)) (put V 7 (.pointer (some ⟨W.heap.size, 0, none⟩))) :=
  ⟨by rw [pe_high (i := 5) (by decide)]; exact h.pair.alloc5, (h.a.allocB _).cast (by simp [upd]) (by simp [upd])⟩
end
end
end Go.Proofs.YtknaajofcbenaaaGreat
/- The reference's State. -/
namespace Go.Proofs.YtknaajofcbenaaaGreat
open Go.RowKit Go.Shelf

/-- what the reference's State answers -/
def stR (s : Sd) (h g : Int) : Int := if g < h + s.lo then 2 else if g < h + s.hi then 1 else 0
section
variable {pT pF pS : Option Addr} {cT cF cS : Nat}
set_option maxRecDepth 100000 in
set_option maxHeartbeats 1000000 in
theorem refState_c (s : Sd) (h g : Int) (w : World) (ok : Ok s) (h0 : 0 ≤ h) (h1 : h ≤ 999) (g0 : -100000 ≤ g) (g1 : g ≤ 100000) :
    Calls Tryz.prog 54 #[sdVal s pT pF pS cT cF cS, .int .i64 h, .int .i64 g] w fun e w' => e = .returned (.int .i64 (stR s h g)) ∧ Up w w' := by
  have b0 := ok.lo0
  have b1 := ok.hi1
  have b2 := ok.lohi
  clear ok
  unfold sdVal
  go_enter Tryz.func54, Tryz.ntmps54
  go_wp2_with fail
  have BS : Hid (Blk (w.alloc (.cells #[.slice pT s.table.length cT, .int .i64 s.lo, .int .i64 s.hi, .slice pF s.floors.length cF, .slice pS s.sills.length cS] 35)) w.heap.size (sdCells s pT pF pS cT cF cS) 35) := Lib.hid (Blk.new w (sdCells s pT pF pS cT cF cS) 35)
  have U0 : Hid (Up w (w.alloc (.cells #[.slice pT s.table.length cT, .int .i64 s.lo, .int .i64 s.hi, .slice pF s.floors.length cF, .slice pS s.sills.length cS] 35))) := Lib.hid (by (repeat (first | exact Below.refl _ _ | (with_reducible refine Below.drewN' ?_ _) | (with_reducible refine Below.drew ?_) | (with_reducible refine Below.setCell ?_ (by first | exact Nat.le_refl _ | omega | (with_reducible (repeat (first | refine sz_alloc ?_ | refine sz_setCell ?_ | refine sz_drew ?_ | refine sz_drewN ?_)); first | exact Nat.le_refl _ | omega) | (simp only [World.size_alloc, World.size_setCell, World.size_drew, size_drewN']; omega)) _) | (with_reducible refine Below.alloc ?_ (by first | exact Nat.le_refl _ | omega | (with_reducible (repeat (first | refine sz_alloc ?_ | refine sz_setCell ?_ | refine sz_drew ?_ | refine sz_drewN ?_)); first | exact Nat.le_refl _ | omega) | (simp only [World.size_alloc, World.size_setCell, World.size_drew, size_drewN']; omega)) _) | assumption)))
  generalize (w.alloc (.cells #[.slice pT s.table.length cT, .int .i64 s.lo, .int .i64 s.hi, .slice pF s.floors.length cF, .slice pS s.sills.length cS] 35)) = w0 at *
  go_loopw [9, 8, 7] (fun i va vb wr => ∃ x a b : Int, i = .int .i64 x ∧ va = .int .i64 a ∧ vb = .int .i64 b ∧ s.lo ≤ x ∧ x ≤ s.hi + 1 ∧ a = max 0 (x - max s.lo (g - h + 1)) ∧ b = x - s.lo - a ∧ Up w0 wr) (fun i _ _ _ => (s.hi + 1 - intOf i).toNat)
  case atStart => exact ⟨s.lo, 0, 0, rfl, rfl, rfl, by omega, by omega, by omega, by omega, Below.refl _ _⟩
  case round =>
    obtain ⟨x, a, b, rfl, rfl, rfl, x0, x1, ha, hb, hu⟩ := hrel
    have HU := Lib.hid hu
    obtain ⟨c0, c1, c2, c3, c4⟩ := five (BS.out.up hu)
    clear hu
    have a0 : 0 ≤ a := by omega
    have a1 : a ≤ 101 := by omega
    have d0 : 0 ≤ b := by omega
    have d1 : b ≤ 101 := by omega
    by_cases hlt : x ≤ s.hi
    · have sx : IntKind.i64.wrap (h + x) = h + x := IntWalk.i64_in _ (by omega)
      have sy : IntKind.i64.wrap (x + 1) = x + 1 := IntWalk.i64_in _ (by omega)
      by_cases hg : g < h + x
      · have sw : IntKind.i64.wrap (a + 1) = a + 1 := IntWalk.i64_in _ (by omega)
        have r1 : a + 1 = max 0 (x + 1 - max s.lo (g - h + 1)) := by omega
        have r2 : b = x + 1 - s.lo - (a + 1) := by omega
        have R := Lib.hid (And.intro r1 r2)
        clear ha hb r1 r2
        go_wp2_with fail
        go_roundw
        case rel =>
          try ((repeat apply Exists.intro); refine ⟨?_, rfl⟩)
          exact ⟨x + 1, a + 1, b, rfl, rfl, rfl, by omega, by omega, R.out.1, R.out.2, HU.out⟩
        case measure => simp [intOf]; omega
      · have sw : IntKind.i64.wrap (b + 1) = b + 1 := IntWalk.i64_in _ (by omega)
        have r1 : a = max 0 (x + 1 - max s.lo (g - h + 1)) := by omega
        have r2 : b + 1 = x + 1 - s.lo - a := by omega
        have R := Lib.hid (And.intro r1 r2)
        clear ha hb r1 r2
        go_wp2_with fail
        go_roundw
        case rel =>
          try ((repeat apply Exists.intro); refine ⟨?_, rfl⟩)
          exact ⟨x + 1, a, b + 1, rfl, rfl, rfl, by omega, by omega, R.out.1, R.out.2, HU.out⟩
        case measure => simp [intOf]; omega
    · by_cases ha0 : a = 0
      · have hr : Hid (stR s h g = 0) := by show _ = _; unfold stR; rw [if_neg (by omega), if_neg (by omega)]
        have hn : (a == 0) = true := by rw [ha0]; rfl
        clear ha hb ha0
        go_wp2_with fail
        go_ret
        exact ⟨by rw [hr.out]; rfl, Up.trans U0.out HU.out⟩
      · have hn : (a == 0) = false := beq_eq_false_iff_ne.2 ha0
        by_cases hb0 : b = 0
        · have hr : Hid (stR s h g = 2) := by show _ = _; unfold stR; rw [if_pos (by omega)]
          have hn2 : (b == 0) = true := by rw [hb0]; rfl
          clear ha hb hb0
          go_wp2_with fail
          go_ret
          exact ⟨by rw [hr.out]; rfl, Up.trans U0.out HU.out⟩
        · have hr : Hid (stR s h g = 1) := by show _ = _; unfold stR; rw [if_neg (by omega), if_pos (by omega)]
          have hn2 : (b == 0) = false := beq_eq_false_iff_ne.2 hb0
          clear ha hb
          go_wp2_with fail
          go_ret
          exact ⟨by rw [hr.out]; rfl, Up.trans U0.out HU.out⟩
end
end Go.Proofs.YtknaajofcbenaaaGreat
/- The reference's Says. -/
namespace Go.Proofs.YtknaajofcbenaaaGreat
open Go.RowKit Go.Shelf

/-- rows of truths -/
def bools (l : List Bool) : List (List Value) := l.map fun b => [.bool b]
theorem flatOk_bools (l : List Bool) : flatOk 1 (bools l) = true := by simp [flatOk, bools]
theorem Row.bool {w : World} {p : Option Addr} {l : List Bool} (h : Row w p 1 (bools l)) (i : Nat) (hi : i < l.length) :
    ∃ b off, p = some ⟨b, off, none⟩ ∧ w.cell? ⟨b, off + i, none⟩ = some (.bool l[i]) := by
  obtain ⟨b, off, hp, hc⟩ := h i [.bool l[i]] (by simp [bools, hi])
  exact ⟨b, off, hp, by simpa using hc 0 _ rfl⟩
theorem infoB : (Tryz.prog.info? 4).map (fun i => (i.zero, i.size, i.bytes)) = some (some (.bool false), 1, 1) := by kernel_rfl

/-- whether the reference has the state x in the minute that is i behind the first -/
def sayR (s : Sd) (g x : Int) (i : Nat) : Bool := stR s (hgt s.table (firstM s.table + (i : Nat))) g == x
def saysR (s : Sd) (g x : Int) : List Bool := (List.range (dayN s)).map (sayR s g x)
theorem saysR_len (s : Sd) (g x : Int) : (saysR s g x).length = dayN s := by simp [saysR]
section
variable {pT pF pS : Option Addr} {cT cF cS : Nat}
set_option maxRecDepth 100000 in
set_option maxHeartbeats 1000000 in
theorem refSays_c (s : Sd) (g x : Int) (w : World) (ok : Ok s) (hl : Lists w s pT pF pS cT cF cS) (g0 : -100000 ≤ g) (g1 : g ≤ 100000) :
    Calls Tryz.prog 16 #[sdVal s pT pF pS cT cF cS, .int .i64 g, .int .i64 x] w fun e w' => ∃ q d, e = .returned (.slice q (saysR s g x).length d) ∧ (saysR s g x).length ≤ d ∧ d ≤ maxLen ∧ Row w' q 1 (bools (saysR s g x)) ∧ Up w w' := by
  obtain ⟨f0, f1, f2⟩ := firstM_lt ok.table
  have hn : ((dayN s : Nat) : Int) = lastM s.table - firstM s.table + 1 := by unfold dayN; omega
  have HH := Lib.hid (fun W (u : Up w W) => refHeights_c s W ok (hl.up u))
  have HS := Lib.hid (fun (i : Nat) W => refState_c (pT := pT) (pF := pF) (pS := pS) (cT := cT) (cF := cF) (cS := cS) s (hgt s.table (firstM s.table + (i : Nat))) g W ok (hgt_rng ok.table _ (by omega)).1 (hgt_rng ok.table _ (by omega)).2 g0 g1)
  obtain ⟨i0, hi, hz0, hz1, hz2⟩ := info_parts infoB
  clear hl ok
  rw [saysR_len]
  unfold sdVal at *
  go_enter Tryz.func16, Tryz.ntmps16
  go_wp2_with fail
  have BS : Hid (Blk (w.alloc (.cells #[.slice pT s.table.length cT, .int .i64 s.lo, .int .i64 s.hi, .slice pF s.floors.length cF, .slice pS s.sills.length cS] 35)) w.heap.size (sdCells s pT pF pS cT cF cS) 35) := Lib.hid (Blk.new w (sdCells s pT pF pS cT cF cS) 35)
  have U0 : Hid (Up w (w.alloc (.cells #[.slice pT s.table.length cT, .int .i64 s.lo, .int .i64 s.hi, .slice pF s.floors.length cF, .slice pS s.sills.length cS] 35))) := Lib.hid (by (repeat (first | exact Below.refl _ _ | (with_reducible refine Below.drewN' ?_ _) | (with_reducible refine Below.drew ?_) | (with_reducible refine Below.setCell ?_ (by first | exact Nat.le_refl _ | omega | (with_reducible (repeat (first | refine sz_alloc ?_ | refine sz_setCell ?_ | refine sz_drew ?_ | refine sz_drewN ?_)); first | exact Nat.le_refl _ | omega) | (simp only [World.size_alloc, World.size_setCell, World.size_drew, size_drewN']; omega)) _) | (with_reducible refine Below.alloc ?_ (by first | exact Nat.le_refl _ | omega | (with_reducible (repeat (first | refine sz_alloc ?_ | refine sz_setCell ?_ | refine sz_drew ?_ | refine sz_drewN ?_)); first | exact Nat.le_refl _ | omega) | (simp only [World.size_alloc, World.size_setCell, World.size_drew, size_drewN']; omega)) _) | assumption)))
  generalize (w.alloc (.cells #[.slice pT s.table.length cT, .int .i64 s.lo, .int .i64 s.hi, .slice pF s.floors.length cF, .slice pS s.sills.length cS] 35)) = w0 at *
  refine (HH.out w0 U0.out).mono ?_
  rintro e w1 ⟨qh, dh, rfl, -, -, rh, -, u1⟩
  have U1 := Lib.hid u1
  have RH := Lib.hid rh
  have hs1 := u1.size
  rw [heightsR_len]
  clear u1 rh
  obtain ⟨dn, hdd⟩ : ∃ dn, dayN s = dn := ⟨_, rfl⟩
  have HDD := Lib.hid hdd
  rw [hdd] at hn ⊢
  have hd9 : dn ≤ 1441 := by omega
  clear hdd hn
  go_wp2_with fail
  go_loopw [9, 7] (fun i v wr => ∃ k : Nat, k ≤ dn ∧ i = .int .i64 k ∧ wr.ownsRow w1.heap.size 4 1 v k (bools ((List.range k).map (sayR s g x))).flatten ∧ Up w1 wr) (fun i _ _ => dn - (intOf i).toNat)
  case atStart => exact ⟨0, by omega, rfl, World.ownsRow_nil _ _ _ _, Below.refl _ _⟩
  case round =>
    obtain ⟨k, hk, rfl, hown, hu⟩ := hrel
    have HO := Lib.hid hown
    have HU := Lib.hid hu
    obtain ⟨c0, c1, c2, c3, c4⟩ := five (BS.out.up (Up.trans U1.out hu))
    clear hown hu
    by_cases hlt : k < dn
    · have k1 : (k : Int) < dn := by omega
      obtain ⟨bh, oh, rfl, hc1⟩ := RH.out.int k (by rw [heightsR_len, HDD.out]; exact hlt)
      have hv : (heightsR s)[k]'(by rw [heightsR_len, HDD.out]; exact hlt) = hgt s.table (firstM s.table + (k : Nat)) := by simp [heightsR]
      rw [hv] at hc1
      have hc := HU.out.cellAt hc1
      clear hv
      have SY := Lib.hid (show (stR s (hgt s.table (firstM s.table + (k : Nat))) g == x) = sayR s g x k from rfl)
      have HSk := Lib.hid (HS.out k)
      generalize stR s (hgt s.table (firstM s.table + (k : Nat))) g = sv at *
      generalize hgt s.table (firstM s.table + (k : Nat)) = hv at *
      have k1 : (k : Int) < dn := by omega
      have hsz := HU.out.size
      go_upto_region 6 with fail
      refine region_tail (fun W' => W'.cell? ⟨w.heap.size, 0, none⟩ = some (.slice pT s.table.length cT) ∧ W'.cell? ⟨w.heap.size, 1, none⟩ = some (.int .i64 s.lo) ∧ W'.cell? ⟨w.heap.size, 2, none⟩ = some (.int .i64 s.hi) ∧ W'.cell? ⟨w.heap.size, 3, none⟩ = some (.slice pF s.floors.length cF) ∧ W'.cell? ⟨w.heap.size, 4, none⟩ = some (.slice pS s.sills.length cS) ∧ W'.cell? ⟨bh, oh + k, none⟩ = some (.int .i64 hv)) 12 mixed (by kernel_rfl) ⟨c0, c1, c2, c3, c4, hc⟩ (fun hHeld => ?_)
      refine wpAnyG_take 0 18 (v := ?_) rfl rfl (by kernel_rfl) (fun _ _ _ h => h) (Or.inl ⟨by rfl, ?_⟩) (by assumption) ?_
      rotate_left
      · (intro w' hSw; (try dsimp only at hSw); go_split_ands; go_simp; try with_reducible rfl)
      try simp only [List.setIfInBounds_toArray, List.set_cons_zero, List.set_cons_succ]
      refine wpAnyG_take 1 19 (v := ?_) rfl rfl (by kernel_rfl) (fun _ _ _ h => h) (Or.inl ⟨by rfl, ?_⟩) (by assumption) ?_
      rotate_left
      · (intro w' hSw; (try dsimp only at hSw); go_split_ands; go_simp; try with_reducible rfl)
      try simp only [List.setIfInBounds_toArray, List.set_cons_zero, List.set_cons_succ]
      refine wpAnyG_take 2 20 (v := ?_) rfl rfl (by kernel_rfl) (fun _ _ _ h => h) (Or.inl ⟨by rfl, ?_⟩) (by assumption) ?_
      rotate_left
      · (intro w' hSw; (try dsimp only at hSw); go_split_ands; go_simp; try with_reducible rfl)
      try simp only [List.setIfInBounds_toArray, List.set_cons_zero, List.set_cons_succ]
      refine wpAnyG_take 3 21 (v := ?_) rfl rfl (by kernel_rfl) (fun _ _ _ h => h) (Or.inl ⟨by rfl, ?_⟩) (by assumption) ?_
      rotate_left
      · (intro w' hSw; (try dsimp only at hSw); go_split_ands; go_simp; try with_reducible rfl)
      try simp only [List.setIfInBounds_toArray, List.set_cons_zero, List.set_cons_succ]
      refine wpAnyG_take 4 22 (v := ?_) rfl rfl (by kernel_rfl) (fun _ _ _ h => h) (Or.inl ⟨by rfl, ?_⟩) (by assumption) ?_
      rotate_left
      · (intro w' hSw; (try dsimp only at hSw); go_split_ands; go_simp; try with_reducible rfl)
      try simp only [List.setIfInBounds_toArray, List.set_cons_zero, List.set_cons_succ]
      refine wpAnyG_take 5 23 (v := ?_) rfl rfl (by kernel_rfl) (fun _ _ _ h => h) (Or.inl ⟨by rfl, ?_⟩) (by assumption) ?_
      rotate_left
      · (intro w' hSw; (try dsimp only at hSw); go_split_ands; go_simp; try with_reducible rfl)
      try simp only [List.setIfInBounds_toArray, List.set_cons_zero, List.set_cons_succ]
      refine wpAnyG_take 6 24 (v := ?_) rfl rfl (by kernel_rfl) (fun _ _ _ h => h) (Or.inl ⟨by rfl, ?_⟩) (by assumption) ?_
      rotate_left
      · (intro w' hSw; (try dsimp only at hSw); go_split_ands; go_simp; try with_reducible rfl)
      try simp only [List.setIfInBounds_toArray, List.set_cons_zero, List.set_cons_succ]
      refine wpAnyG_take 8 26 (v := ?_) rfl rfl (by kernel_rfl) (fun _ _ _ h => h) (Or.inl ⟨by rfl, ?_⟩) (by assumption) ?_
      rotate_left
      · (intro w' hSw; (try dsimp only at hSw); go_split_ands; go_simp; try with_reducible rfl)
      try simp only [List.setIfInBounds_toArray, List.set_cons_zero, List.set_cons_succ]
      refine wpAnyG_do 7 rfl (by kernel_rfl) (fun K hK => ?_)
      rw [if_pos (by rfl)]
      go_simp
      refine (HSk.out _).mono ?_
      rintro e w2 ⟨rfl, u2⟩
      have v2 : Up wr w2 := Up.trans (by (repeat (first | exact Below.refl _ _ | (with_reducible refine Below.drewN' ?_ _) | (with_reducible refine Below.drew ?_) | (with_reducible refine Below.setCell ?_ (by first | exact Nat.le_refl _ | omega | (with_reducible (repeat (first | refine sz_alloc ?_ | refine sz_setCell ?_ | refine sz_drew ?_ | refine sz_drewN ?_)); first | exact Nat.le_refl _ | omega) | (simp only [World.size_alloc, World.size_setCell, World.size_drew, size_drewN']; omega)) _) | (with_reducible refine Below.alloc ?_ (by first | exact Nat.le_refl _ | omega | (with_reducible (repeat (first | refine sz_alloc ?_ | refine sz_setCell ?_ | refine sz_drew ?_ | refine sz_drewN ?_)); first | exact Nat.le_refl _ | omega) | (simp only [World.size_alloc, World.size_setCell, World.size_drew, size_drewN']; omega)) _) | assumption))) u2
      refine hK.out _ _ ⟨v2.cellAt c0, v2.cellAt c1, v2.cellAt c2, v2.cellAt c3, v2.cellAt c4, v2.cellAt hc⟩ (fun hHeld => ?_)
      clear hK K
      refine wpAnyG_take 9 27 (v := .bool (sv == x)) rfl rfl (by kernel_rfl) (fun _ _ _ h => h) (Or.inl ⟨by rfl, ?_⟩) (by assumption) ?_
      · intro w' _
        go_simp
      try simp only [List.setIfInBounds_toArray, List.set_cons_zero, List.set_cons_succ]
      refine wpAnyG_do 10 rfl (by kernel_rfl) (fun K hK => ?_)
      rw [if_pos (by rfl)]
      go_simp
      have U2 := Lib.hid (Up.trans HU.out v2)
      have hsz2 := v2.size
      have v3 : Up wr (w2.alloc (.cells #[.bool (sv == x)] 4)) := Up.trans v2 (by (repeat (first | exact Below.refl _ _ | (with_reducible refine Below.drewN' ?_ _) | (with_reducible refine Below.drew ?_) | (with_reducible refine Below.setCell ?_ (by first | exact Nat.le_refl _ | omega | (with_reducible (repeat (first | refine sz_alloc ?_ | refine sz_setCell ?_ | refine sz_drew ?_ | refine sz_drewN ?_)); first | exact Nat.le_refl _ | omega) | (simp only [World.size_alloc, World.size_setCell, World.size_drew, size_drewN']; omega)) _) | (with_reducible refine Below.alloc ?_ (by first | exact Nat.le_refl _ | omega | (with_reducible (repeat (first | refine sz_alloc ?_ | refine sz_setCell ?_ | refine sz_drew ?_ | refine sz_drewN ?_)); first | exact Nat.le_refl _ | omega) | (simp only [World.size_alloc, World.size_setCell, World.size_drew, size_drewN']; omega)) _) | assumption)))
      have O3 := Lib.hid ((ownsRow_up HO.out v2).alloc (.cells #[.bool (sv == x)] 4))
      refine hK.out _ _ ⟨v3.cellAt c0, v3.cellAt c1, v3.cellAt c2, v3.cellAt c3, v3.cellAt c4, v3.cellAt hc⟩ (fun hHeld => ?_)
      clear hK K
      refine wpAnyG_do 11 rfl (by kernel_rfl) (fun K hK => ?_)
      rw [if_pos (by rfl)]
      refine wp_append_own _ _ _ 44 rfl w1.heap.size 4 i0 (.bool false) 1 1 Tryz.underlying44 hi hz0 hz1 hz2 rfl (by decide) _ k _ rfl O3.out ⟨w2.heap.size, 0, none⟩ 1 1 [.bool (sv == x)] (by go_simp) rfl (newsAt w2 rfl [.bool (sv == x)] _) (by simp [Value.oneCell']) (by simp [maxLen]; omega) (by omega) (sz_alloc (Nat.le_trans hsz hsz2)) ?_
      intro v' w8 hown8 hgr8 hnn
      clear hnn
      have v31 : Up w1 (w2.alloc (.cells #[.bool (sv == x)] 4)) := Up.trans HU.out v3
      have u8 : Up w1 w8 := v31.grown hgr8 v31.size (fun j e => (O3.out.lt j e).1)
      have U8 := Lib.hid u8
      have O8 := Lib.hid hown8
      refine hK.out _ _ (by obtain ⟨a0, a1, a2, a3, a4⟩ := five (BS.out.up (Up.trans U1.out u8)); exact ⟨a0, a1, a2, a3, a4, u8.cellAt hc1⟩) (fun hHeld => ?_)
      clear hK K hown8 hgr8 v2 v3 v31 hc1 u8 O3 HO c0 c1 c2 c3 c4 hc HSk hHeld
      try simp only [List.setIfInBounds_toArray, List.set_cons_zero, List.set_cons_succ]
      refine wpAnyG_tail (by kernel_rfl) ?_
      change wpList _ _ _ [_] _ _
      have sy : IntKind.i64.wrap ((k : Int) + 1) = k + 1 := IntWalk.i64_in _ (by omega)
      go_wp2_with fail
      go_roundw
      case rel =>
        try ((repeat apply Exists.intro); refine ⟨?_, rfl⟩)
        refine ⟨k + 1, by omega, by go_num, ?_, U8.out⟩
        have e : (bools ((List.range (k + 1)).map (sayR s g x))).flatten = (bools ((List.range k).map (sayR s g x))).flatten ++ [.bool (sv == x)] := by
          rw [List.range_succ, List.map_append]
          unfold bools
          rw [List.map_append, List.flatten_append, SY.out]
          rfl
        rw [e]
        exact O8.out
      case measure => simp [intOf]; omega
    · obtain rfl : dn = k := by omega
      obtain ⟨q, d, rfl, a1, a2, hR, hge⟩ := Row.of_own (rows := bools (saysR s g x)) (flatOk_bools _) (show wr.ownsRow w1.heap.size 4 1 _ _ (bools (saysR s g x)).flatten by unfold saysR; rw [HDD.out]; exact HO.out) (by simp [bools, saysR, HDD.out])
      go_wp2_with fail
      go_ret
      rw [HDD.out]
      exact ⟨q, d, rfl, a1, a2, hR, Up.trans U0.out (Up.trans U1.out HU.out)⟩
end
end Go.Proofs.YtknaajofcbenaaaGreat
/- The reference's Run. -/
namespace Go.Proofs.YtknaajofcbenaaaGreat
open Go.RowKit Go.Shelf

/-- the truth at j -/
def tr (l : List Bool) (j : Nat) : Bool := l[j]?.getD false
theorem tr_get {l : List Bool} {j : Nat} (h : j < l.length) : l[j] = tr l j := by simp [tr, h]
/-- lo .. hi is the whole run of truths that k lies in -/
def RunAt (l : List Bool) (k lo hi : Nat) : Prop :=
  lo ≤ k ∧ k ≤ hi ∧ hi < l.length ∧ (∀ j, lo ≤ j → j ≤ hi → tr l j = true) ∧ (lo = 0 ∨ tr l (lo - 1) = false) ∧ (hi + 1 = l.length ∨ tr l (hi + 1) = false)
/-- what Run answers at the minute k behind the first -/
def RunEnd (F : Int) (l : List Bool) (k : Nat) (e : Ending) : Prop :=
  tr l k = false ∧ e = .returned (.tuple #[.agg #[.int .i64 0, .int .i64 0], .bool false]) ∨
  ∃ lo hi, RunAt l k lo hi ∧ e = .returned (.tuple #[.agg #[.int .i64 (F + (lo : Nat)), .int .i64 (F + (hi : Nat))], .bool true])
section
variable {pT pF pS : Option Addr} {cT cF cS : Nat}
set_option maxRecDepth 100000 in
set_option maxHeartbeats 2000000 in
theorem refRun_c (s : Sd) (l : List Bool) (n : Nat) (q : Option Addr) (d k : Nat) (w : World) (hn : l.length = n) (ok : Ok s) (hl : Lists w s pT pF pS cT cF cS) (hr : Row w q 1 (bools l)) (hk : k < n) (hm : n ≤ 2000) :
    Calls Tryz.prog 15 #[sdVal s pT pF pS cT cF cS, .slice q n d, .int .i64 (firstM s.table + (k : Nat))] w fun e w' => RunEnd (firstM s.table) l k e ∧ Up w w' := by
  obtain ⟨f0, f1, f2⟩ := firstM_lt ok.table
  have HF := Lib.hid (fun W (u : Up w W) => refFirst_c s W (hl.up u) ok.table.2.2.1)
  have HR := Lib.hid hr
  have HN := Lib.hid hn
  have hkl : k < l.length := by omega
  obtain ⟨b, off, rfl, hc0⟩ := hr.bool k hkl
  rw [tr_get hkl] at hc0
  have HC := Lib.hid hc0
  have HKL := Lib.hid hkl
  have F9 : firstM s.table ≤ 1440 := by omega
  clear hl ok hr hn hc0 hkl
  generalize firstM s.table = F at *
  unfold sdVal at *
  go_enter Tryz.func15, Tryz.ntmps15
  go_wp2_with fail
  refine Calls.world ?_
  intro w0 hw0
  have u0 : Up w w0 := by rw [hw0]; (repeat (first | exact Below.refl _ _ | (with_reducible refine Below.drewN' ?_ _) | (with_reducible refine Below.drew ?_) | (with_reducible refine Below.setCell ?_ (by first | exact Nat.le_refl _ | omega | (with_reducible (repeat (first | refine sz_alloc ?_ | refine sz_setCell ?_ | refine sz_drew ?_ | refine sz_drewN ?_)); first | exact Nat.le_refl _ | omega) | (simp only [World.size_alloc, World.size_setCell, World.size_drew, size_drewN']; omega)) _) | (with_reducible refine Below.alloc ?_ (by first | exact Nat.le_refl _ | omega | (with_reducible (repeat (first | refine sz_alloc ?_ | refine sz_setCell ?_ | refine sz_drew ?_ | refine sz_drewN ?_)); first | exact Nat.le_refl _ | omega) | (simp only [World.size_alloc, World.size_setCell, World.size_drew, size_drewN']; omega)) _) | assumption))
  have hS : Blk w0 w.heap.size (sdCells s pT pF pS cT cF cS) 35 := by rw [hw0]; exact (Blk.new w (sdCells s pT pF pS cT cF cS) _).alloc _
  have hR : Blk w0 (w.heap.size + 1) [.int .i64 0, .int .i64 0] 24 := by rw [hw0]; exact Blk.new' _ [.int .i64 0, .int .i64 0] _ (by simp)
  clear hw0
  refine (HF.out w0 u0).mono ?_
  rintro e w1 ⟨rfl, u1⟩
  have U1 := Lib.hid (Up.trans u0 u1)
  have S1 := Lib.hid (hS.up u1)
  have R1 := Lib.hid (hR.up u1)
  clear u0 u1 hS hR
  have s1 : IntKind.i64.wrap (F + (k : Int) - F) = k := by rw [IntWalk.i64_in _ (by omega)]; omega
  have hc := U1.out.cellAt HC.out
  have k1 : (k : Int) < n := by omega
  cases hv : tr l k with
  | false =>
    rw [hv] at hc
    have r0 := R1.out.cell 0
    have r1 := R1.out.cell 1
    have rl := R1.out.lt
    have rf := R1.out.free
    simp only [List.getElem?_cons_zero, List.getElem?_cons_succ] at r0 r1
    have HV := Lib.hid hv
    clear hv
    go_wp2_with fail
    have h := (R1.out.set 0 (.int .i64 0)).set 1 (.int .i64 0)
    have p0 := h.cell 0
    have p1 := h.cell 1
    simp only [List.set_cons_zero, List.set_cons_succ, List.getElem?_cons_zero, List.getElem?_cons_succ] at p0 p1
    refine bodyPost_ret (v := .tuple #[.agg #[.int .i64 0, .int .i64 0], .bool false]) (by simp [results, Tryz.f15, go_sem, p0, p1]) rfl ⟨.inl ⟨HV.out, rfl⟩, ?_⟩
    exact (U1.out.setCell (by simp) _).setCell (by simp) _
  | true =>
    rw [hv] at hc
    have HV := Lib.hid hv
    clear hv
    go_upto_block 0 with fail
    clear s1 hc f1
    go_cut [9] (fun a wx => ∃ lo : Nat, a = .int .i64 lo ∧ lo ≤ k ∧ (∀ j, lo ≤ j → j ≤ k → tr l j = true) ∧ (lo = 0 ∨ tr l (lo - 1) = false) ∧ Up w1 wx)
    case first =>
      go_wp2_with fail
      go_loopw [9] (fun i wr => ∃ lo : Nat, i = .int .i64 lo ∧ lo ≤ k ∧ (∀ j, lo ≤ j → j ≤ k → tr l j = true) ∧ Up w1 wr) (fun i _ => (intOf i).toNat)
      case atStart => exact ⟨k, rfl, Nat.le_refl _, fun j h1 h2 => by rw [show j = k by omega]; exact HV.out, Below.refl _ _⟩
      case round =>
        obtain ⟨lo, rfl, hlo, ht, hu⟩ := hrel
        have HU := Lib.hid hu
        have HT := Lib.hid ht
        clear hu ht
        by_cases h0 : lo = 0
        · have g0 : ¬ (0 : Int) < (lo : Int) := by omega
          have g1 : decide ((0 : Int) < (lo : Int)) = false := decide_eq_false g0
          have H0 := Lib.hid h0
          clear h0
          go_wp2_with fail
          go_meet
          exact ⟨lo, rfl, hlo, HT.out, .inl H0.out, HU.out⟩
        · have g0 : (0 : Int) < (lo : Int) := by omega
          have g3 : 0 < lo := by omega
          have g1 : decide ((0 : Int) < (lo : Int)) = true := decide_eq_true g0
          have s2 : IntKind.i64.wrap ((lo : Int) - 1) = ((lo - 1 : Nat) : Int) := by rw [IntWalk.i64_in _ (by omega)]; omega
          have g2 : ((lo - 1 : Nat) : Int) < n := by omega
          have hlt : lo - 1 < l.length := by have := HKL.out; omega
          obtain ⟨b', off', he, hc⟩ := (HR.out.up (Up.trans U1.out HU.out)).bool (lo - 1) hlt
          obtain ⟨rfl, rfl⟩ : b = b' ∧ off = off' := by simpa using he
          rw [tr_get hlt] at hc
          have H0 := Lib.hid h0
          clear he hlt h0
          cases hv : tr l (lo - 1) with
          | false =>
            rw [hv] at hc
            have HV2 := Lib.hid hv
            clear hv
            go_wp2_with fail
            go_meet
            exact ⟨lo, rfl, hlo, HT.out, .inr HV2.out, HU.out⟩
          | true =>
            rw [hv] at hc
            have HV2 := Lib.hid hv
            clear hv
            go_wp2_with fail
            go_roundw
            case rel =>
              try ((repeat apply Exists.intro); refine ⟨?_, rfl⟩)
              exact ⟨lo - 1, rfl, by omega, fun j h1 h2 => if h : j = lo - 1 then by rw [h]; exact HV2.out else HT.out j (by omega) h2, HU.out⟩
            case measure => simp [intOf]; omega
    case rest =>
      obtain ⟨lo, rfl, hlo, ht, hlo2, hu⟩ := hcut
      generalize wc = w2 at *
      have HLO := Lib.hid hlo2
      have HT := Lib.hid ht
      have U2 := Lib.hid (Up.trans U1.out hu)
      have S2 := Lib.hid (S1.out.up hu)
      have R2 := Lib.hid (R1.out.up hu)
      clear hu ht hlo2 U1 S1 R1
      have sm : IntKind.i64.wrap ((n : Int) - 1) = (n : Int) - 1 := IntWalk.i64_in _ (by omega)
      go_upto_block 2 with fail
      go_cut [10] (fun a wx => ∃ hi : Nat, a = .int .i64 hi ∧ k ≤ hi ∧ hi < n ∧ (∀ j, lo ≤ j → j ≤ hi → tr l j = true) ∧ (hi + 1 = n ∨ tr l (hi + 1) = false) ∧ Up w2 wx)
      case first =>
        go_wp2_with fail
        go_loopw [10] (fun i wr => ∃ hi : Nat, i = .int .i64 hi ∧ k ≤ hi ∧ hi < n ∧ (∀ j, lo ≤ j → j ≤ hi → tr l j = true) ∧ Up w2 wr) (fun i _ => n - (intOf i).toNat)
        case atStart => exact ⟨k, rfl, Nat.le_refl _, hk, HT.out, Below.refl _ _⟩
        case round =>
          obtain ⟨hi, rfl, hhi, hin, ht, hu⟩ := hrel
          have HU := Lib.hid hu
          have HTr := Lib.hid ht
          clear hu ht
          by_cases h0 : hi + 1 = n
          · have g0 : ¬ (hi : Int) < (n : Int) - 1 := by omega
            have g1 : decide ((hi : Int) < (n : Int) - 1) = false := decide_eq_false g0
            have H0 := Lib.hid h0
            clear h0
            go_wp2_with fail
            go_meet
            exact ⟨hi, rfl, hhi, hin, HTr.out, .inl H0.out, HU.out⟩
          · have g0 : (hi : Int) < (n : Int) - 1 := by omega
            have g1 : decide ((hi : Int) < (n : Int) - 1) = true := decide_eq_true g0
            have s2 : IntKind.i64.wrap ((hi : Int) + 1) = ((hi + 1 : Nat) : Int) := by rw [IntWalk.i64_in _ (by omega)]; omega
            have g2 : ((hi + 1 : Nat) : Int) < n := by omega
            have hlt : hi + 1 < l.length := by have := HN.out; omega
            obtain ⟨b', off', he, hc⟩ := (HR.out.up (Up.trans U2.out HU.out)).bool (hi + 1) hlt
            obtain ⟨rfl, rfl⟩ : b = b' ∧ off = off' := by simpa using he
            rw [tr_get hlt] at hc
            have H0 := Lib.hid h0
            clear he hlt h0
            cases hv : tr l (hi + 1) with
            | false =>
              rw [hv] at hc
              have HV2 := Lib.hid hv
              clear hv
              go_wp2_with fail
              go_meet
              exact ⟨hi, rfl, hhi, hin, HTr.out, .inr HV2.out, HU.out⟩
            | true =>
              rw [hv] at hc
              have HV2 := Lib.hid hv
              clear hv
              go_wp2_with fail
              go_roundw
              case rel =>
                try ((repeat apply Exists.intro); refine ⟨?_, rfl⟩)
                exact ⟨hi + 1, rfl, by omega, by omega, fun j h1 h2 => if h : j = hi + 1 then by rw [h]; exact HV2.out else HTr.out j h1 (by omega), HU.out⟩
              case measure => simp [intOf]; omega
      case rest =>
        obtain ⟨hi, rfl, hhi, hin, ht, hhi2, hu⟩ := hcut
        generalize wc = w3 at *
        have RUN : Hid (RunAt l k lo hi) := Lib.hid ⟨hlo, hhi, by have := HN.out; omega, ht, HLO.out, by rw [HN.out]; exact hhi2⟩
        have U3 := Lib.hid (Up.trans U2.out hu)
        have S3 := Lib.hid (S2.out.up hu)
        have R3 := Lib.hid (R2.out.up hu)
        clear hu ht hhi2 U2 S2 R2 HLO HT sm
        obtain ⟨c0, c1, c2, c3, c4⟩ := five S3.out
        go_upto_region 9 with fail
        refine region_tail (fun W' => W'.cell? ⟨w.heap.size, 0, none⟩ = some (.slice pT s.table.length cT) ∧ W'.cell? ⟨w.heap.size, 1, none⟩ = some (.int .i64 s.lo) ∧ W'.cell? ⟨w.heap.size, 2, none⟩ = some (.int .i64 s.hi) ∧ W'.cell? ⟨w.heap.size, 3, none⟩ = some (.slice pF s.floors.length cF) ∧ W'.cell? ⟨w.heap.size, 4, none⟩ = some (.slice pS s.sills.length cS)) 9 mixed (by kernel_rfl) ⟨c0, c1, c2, c3, c4⟩ (fun hHeld => ?_)
        refine wpAnyG_take 0 48 (v := ?_) rfl rfl (by kernel_rfl) (fun _ _ _ h => h) (Or.inl ⟨by rfl, ?_⟩) (by assumption) ?_
        rotate_left
        · (intro w' hSw; (try dsimp only at hSw); go_split_ands; go_simp; try with_reducible rfl)
        try simp only [List.setIfInBounds_toArray, List.set_cons_zero, List.set_cons_succ]
        refine wpAnyG_take 2 50 (v := ?_) rfl rfl (by kernel_rfl) (fun _ _ _ h => h) (Or.inl ⟨by rfl, ?_⟩) (by assumption) ?_
        rotate_left
        · (intro w' hSw; (try dsimp only at hSw); go_split_ands; go_simp; try with_reducible rfl)
        try simp only [List.setIfInBounds_toArray, List.set_cons_zero, List.set_cons_succ]
        refine wpAnyG_take 4 52 (v := ?_) rfl rfl (by kernel_rfl) (fun _ _ _ h => h) (Or.inl ⟨by rfl, ?_⟩) (by assumption) ?_
        rotate_left
        · (intro w' hSw; (try dsimp only at hSw); go_split_ands; go_simp; try with_reducible rfl)
        try simp only [List.setIfInBounds_toArray, List.set_cons_zero, List.set_cons_succ]
        refine wpAnyG_take 6 54 (v := ?_) rfl rfl (by kernel_rfl) (fun _ _ _ h => h) (Or.inl ⟨by rfl, ?_⟩) (by assumption) ?_
        rotate_left
        · (intro w' hSw; (try dsimp only at hSw); go_split_ands; go_simp; try with_reducible rfl)
        try simp only [List.setIfInBounds_toArray, List.set_cons_zero, List.set_cons_succ]
        refine wpAnyG_do 1 rfl (by kernel_rfl) (fun K hK => ?_)
        rw [if_pos (by rfl)]
        go_simp
        refine (HF.out _ (Up.trans U3.out (by (repeat (first | exact Below.refl _ _ | (with_reducible refine Below.drewN' ?_ _) | (with_reducible refine Below.drew ?_) | (with_reducible refine Below.setCell ?_ (by first | exact Nat.le_refl _ | omega | (with_reducible (repeat (first | refine sz_alloc ?_ | refine sz_setCell ?_ | refine sz_drew ?_ | refine sz_drewN ?_)); first | exact Nat.le_refl _ | omega) | (simp only [World.size_alloc, World.size_setCell, World.size_drew, size_drewN']; omega)) _) | (with_reducible refine Below.alloc ?_ (by first | exact Nat.le_refl _ | omega | (with_reducible (repeat (first | refine sz_alloc ?_ | refine sz_setCell ?_ | refine sz_drew ?_ | refine sz_drewN ?_)); first | exact Nat.le_refl _ | omega) | (simp only [World.size_alloc, World.size_setCell, World.size_drew, size_drewN']; omega)) _) | assumption))))).mono ?_
        rintro e wa ⟨rfl, v6⟩
        have v6' : Up w3 wa := Up.trans (by (repeat (first | exact Below.refl _ _ | (with_reducible refine Below.drewN' ?_ _) | (with_reducible refine Below.drew ?_) | (with_reducible refine Below.setCell ?_ (by first | exact Nat.le_refl _ | omega | (with_reducible (repeat (first | refine sz_alloc ?_ | refine sz_setCell ?_ | refine sz_drew ?_ | refine sz_drewN ?_)); first | exact Nat.le_refl _ | omega) | (simp only [World.size_alloc, World.size_setCell, World.size_drew, size_drewN']; omega)) _) | (with_reducible refine Below.alloc ?_ (by first | exact Nat.le_refl _ | omega | (with_reducible (repeat (first | refine sz_alloc ?_ | refine sz_setCell ?_ | refine sz_drew ?_ | refine sz_drewN ?_)); first | exact Nat.le_refl _ | omega) | (simp only [World.size_alloc, World.size_setCell, World.size_drew, size_drewN']; omega)) _) | assumption))) v6
        refine hK.out _ _ ⟨v6'.cellAt c0, v6'.cellAt c1, v6'.cellAt c2, v6'.cellAt c3, v6'.cellAt c4⟩ (fun hHeld => ?_)
        clear hK K
        have s1 : IntKind.i64.wrap (F + (lo : Int)) = F + lo := IntWalk.i64_in _ (by omega)
        refine wpAnyG_take 3 51 (v := .int .i64 (F + lo)) rfl rfl (by kernel_rfl) (fun _ _ _ h => h) (Or.inl ⟨by rfl, ?_⟩) (by assumption) ?_
        · intro w' _
          go_simp
        try simp only [List.setIfInBounds_toArray, List.set_cons_zero, List.set_cons_succ]
        refine wpAnyG_do 5 rfl (by kernel_rfl) (fun K hK => ?_)
        rw [if_pos (by rfl)]
        go_simp
        refine (HF.out _ (Up.trans U3.out v6')).mono ?_
        rintro e wb ⟨rfl, v7⟩
        have v7' : Up w3 wb := Up.trans v6' v7
        refine hK.out _ _ ⟨v7'.cellAt c0, v7'.cellAt c1, v7'.cellAt c2, v7'.cellAt c3, v7'.cellAt c4⟩ (fun hHeld => ?_)
        clear hK K
        have s2 : IntKind.i64.wrap (F + (hi : Int)) = F + hi := IntWalk.i64_in _ (by omega)
        refine wpAnyG_take 7 55 (v := .int .i64 (F + hi)) rfl rfl (by kernel_rfl) (fun _ _ _ h => h) (Or.inl ⟨by rfl, ?_⟩) (by assumption) ?_
        · intro w' _
          go_simp
        try simp only [List.setIfInBounds_toArray, List.set_cons_zero, List.set_cons_succ]
        refine wpAnyG_take 8 56 (v := ?_) rfl rfl (by kernel_rfl) (fun _ _ _ h => h) (Or.inl ⟨by rfl, ?_⟩) (by assumption) ?_
        rotate_left
        · (intro w' hSw; (try dsimp only at hSw); go_split_ands; go_simp; try with_reducible rfl)
        try simp only [List.setIfInBounds_toArray, List.set_cons_zero, List.set_cons_succ]
        refine wpAnyG_tail (by kernel_rfl) ?_
        have U4 := Lib.hid (Up.trans U3.out v7')
        have R4 := Lib.hid (R3.out.up v7')
        clear c0 c1 c2 c3 c4 v6 v7 v6' v7' s1 s2 hHeld U3 R3 S3
        have r0 := R4.out.cell 0
        have r1 := R4.out.cell 1
        have rl := R4.out.lt
        have rf := R4.out.free
        simp only [List.getElem?_cons_zero, List.getElem?_cons_succ] at r0 r1
        change wpList _ _ _ [_, _] _ _
        go_wp2_with fail
        have h := (R4.out.set 0 (.int .i64 (F + lo))).set 1 (.int .i64 (F + hi))
        have p0 := h.cell 0
        have p1 := h.cell 1
        simp only [List.set_cons_zero, List.set_cons_succ, List.getElem?_cons_zero, List.getElem?_cons_succ] at p0 p1
        refine bodyPost_ret (v := .tuple #[.agg #[.int .i64 (F + lo), .int .i64 (F + hi)], .bool true]) (by simp [results, Tryz.f15, go_sem, p0, p1]) rfl ⟨.inr ⟨lo, hi, RUN.out, rfl⟩, ?_⟩
        exact (U4.out.setCell (by simp) _).setCell (by simp) _
end
end Go.Proofs.YtknaajofcbenaaaGreat
/- Plain facts: what the reference has of the minutes in which places are dry, and which places flood first. -/
namespace Go.Proofs.YtknaajofcbenaaaGreat
open Go.RowKit Go.Shelf

theorem stR_of {s : Sd} (ok : Ok s) (m : Int) (p : Nat) (h0 : 0 ≤ hgt s.table m) (h1 : hgt s.table m ≤ 999) : stR s (hgt s.table m) (gateR s p) = st s m p := by
  have b0 := ok.lo0
  have b1 := ok.hi1
  have b2 := ok.lohi
  have gl := gts_le s p
  unfold stR gateR st
  by_cases h : gateOf s p < 1050
  · rw [if_pos h]
  · rw [if_neg h, if_neg (by omega), if_neg (by omega), if_neg (by omega), if_neg (by omega)]
theorem gateR_in (s : Sd) (p : Nat) : 0 ≤ gateR s p ∧ gateR s p ≤ 5000 := by
  have gl := gts_le s p
  unfold gateR
  split <;> omega
theorem gatesR_of (s : Sd) {p : Nat} (h : p < (gatesR s).length) : (gatesR s)[p] = gateR s p := by simp [gatesR]

/-- in which minutes all of some places are dry, as the reference has it -/
def togR (s : Sd) (ps : List Int) : List Bool := (List.range (dayN s)).map fun i => dryB s ps (firstM s.table + (i : Nat))
theorem togR_len (s : Sd) (ps : List Int) : (togR s ps).length = dayN s := by simp [togR]
theorem togR_tr (s : Sd) (ps : List Int) (j : Nat) (h : j < dayN s) : dryB s ps (firstM s.table + (j : Int)) = tr (togR s ps) j := by
  unfold tr togR
  simp [h]
theorem dryB_snoc (s : Sd) (l : List Int) (x m : Int) : dryB s (l ++ [x]) m = (dryB s l m && (st s m x.toNat == 0)) := by
  unfold dryB fitB
  rw [List.all_append]
  simp
theorem take_snoc {l : List Int} {k : Nat} (h : k < l.length) : l.take (k + 1) = l.take k ++ [l[k]] := by
  rw [List.take_add_one, List.getElem?_eq_getElem h]; rfl

/-- the first k places, those that are dry at m and not at t -/
def floL (s : Sd) (m t : Int) (k : Nat) : List Int := ((List.range k).map fun (p : Nat) => (p : Int)).filter fun p => st s m p.toNat == 0 && st s t p.toNat != 0
theorem floL_yes {s : Sd} {m t : Int} {k : Nat} (h : (st s m k == 0 && st s t k != 0) = true) : floL s m t (k + 1) = floL s m t k ++ [(k : Int)] := by
  unfold floL
  rw [List.range_succ, List.map_append, List.filter_append]
  simp [List.filter_cons]
  simp at h
  simp [h]
theorem floL_no {s : Sd} {m t : Int} {k : Nat} (h : (st s m k == 0 && st s t k != 0) = false) : floL s m t (k + 1) = floL s m t k := by
  unfold floL
  rw [List.range_succ, List.map_append, List.filter_append]
  have e : List.filter (fun p : Int => st s m p.toNat == 0 && st s t p.toNat != 0) [(k : Int)] = [] := by
    rw [List.filter_cons, Int.toNat_natCast, h]
    rfl
  rw [List.map_cons, List.map_nil, e, List.append_nil]
theorem floL_len (s : Sd) (m t : Int) (k : Nat) : (floL s m t k).length ≤ k := by
  unfold floL
  refine Nat.le_trans (List.length_filter_le _ _) (by simp)
theorem floL_all (s : Sd) (m t : Int) : floL s m t s.floors.length = (dryL s m).filter fun p => st s t p.toNat != 0 := by
  unfold floL dryL allP
  rw [List.filter_filter]
  refine List.filter_congr fun p _ => ?_
  rw [Bool.and_comm]
theorem floL_any (s : Sd) (m t : Int) : wetAny s (dryL s m) t = !(floL s m t s.floors.length).isEmpty := by
  rw [floL_all]
  unfold wetAny
  rw [Bool.eq_iff_iff]
  simp [List.any_eq_true]
end Go.Proofs.YtknaajofcbenaaaGreat
/- The reference's Spans: what it answers is what the walk over the minutes answers. -/
namespace Go.Proofs.YtknaajofcbenaaaGreat
open Go.RowKit Go.Shelf

theorem spSt_open (f : Int → Bool) (a : Int) (k : Nat) : (spSt f a (k + 1)).2.2 = f (a + k) := by
  show (if f (a + k) then (if (spSt f a k).2.2 then spSt f a k else ((spSt f a k).1, a + k, true)) else (if (spSt f a k).2.2 then ((spSt f a k).1 ++ [((spSt f a k).2.1, a + k - 1)], (spSt f a k).2.1, false) else spSt f a k)).2.2 = f (a + k)
  cases h : f (a + k) <;> cases h2 : (spSt f a k).2.2 <;> simp [h2]
/-- what the reference has gathered of the first k minutes: the last run whole, though it may go on behind them -/
def SpInv (f : Int → Bool) (a : Int) (n k : Nat) (L : List (Int × Int)) : Prop :=
  ((spSt f a k).2.2 = false ∧ L = (spSt f a k).1) ∨
  ∃ e : Nat, (spSt f a k).2.2 = true ∧ L = (spSt f a k).1 ++ [((spSt f a k).2.1, a + (e : Int))] ∧ k ≤ e + 1 ∧ e < n ∧ (∀ j : Nat, k ≤ j → j ≤ e → f (a + j) = true) ∧ (e + 1 = n ∨ f (a + ((e + 1 : Nat) : Int)) = false)
theorem SpInv.start (f : Int → Bool) (a : Int) (n : Nat) : SpInv f a n 0 [] := .inl ⟨rfl, rfl⟩
theorem SpInv.len {f : Int → Bool} {a : Int} {n k : Nat} {L : List (Int × Int)} (h : SpInv f a n k L) : L.length ≤ k + 1 := by
  have := spSt_len f a k
  rcases h with ⟨-, rfl⟩ | ⟨e, -, rfl, -⟩
  · omega
  · simp; omega
/-- a minute of which it is not true -/
theorem SpInv.no {f : Int → Bool} {a : Int} {n k : Nat} {L : List (Int × Int)} (h : SpInv f a n k L) (hf : f (a + k) = false) : SpInv f a n (k + 1) L := by
  have ho := spSt_open f a k
  rw [hf] at ho
  left
  refine ⟨ho, ?_⟩
  show L = (if f (a + k) then (if (spSt f a k).2.2 then spSt f a k else ((spSt f a k).1, a + k, true)) else (if (spSt f a k).2.2 then ((spSt f a k).1 ++ [((spSt f a k).2.1, a + k - 1)], (spSt f a k).2.1, false) else spSt f a k)).1
  rw [hf]
  rcases h with ⟨h0, rfl⟩ | ⟨e, h0, rfl, h1, h2, h3, h4⟩
  · rw [h0]; simp
  · have he : e + 1 = k := by
      by_cases hk : k ≤ e
      · rw [h3 k (Nat.le_refl _) hk] at hf; cases hf
      · omega
    rw [h0]
    simp only [Bool.false_eq_true, if_false, if_true]
    rw [show a + (k : Int) - 1 = a + (e : Int) by omega]
/-- a minute of which it is true, and of the one ahead too -/
theorem SpInv.on {f : Int → Bool} {a : Int} {n k : Nat} {L : List (Int × Int)} (h : SpInv f a n (k + 1) L) (hn : k + 1 < n) (hf : f (a + ((k + 1 : Nat) : Int)) = true) (hp : f (a + k) = true) : SpInv f a n (k + 2) L := by
  have ho := spSt_open f a k
  rw [hp] at ho
  rcases h with ⟨h0, -⟩ | ⟨e, h0, rfl, h1, h2, h3, h4⟩
  · rw [ho] at h0; cases h0
  · right
    have hs : spSt f a (k + 2) = spSt f a (k + 1) := by
      show (if f (a + ((k + 1 : Nat) : Int)) then (if (spSt f a (k + 1)).2.2 then spSt f a (k + 1) else ((spSt f a (k + 1)).1, a + ((k + 1 : Nat) : Int), true)) else (if (spSt f a (k + 1)).2.2 then ((spSt f a (k + 1)).1 ++ [((spSt f a (k + 1)).2.1, a + ((k + 1 : Nat) : Int) - 1)], (spSt f a (k + 1)).2.1, false) else spSt f a (k + 1))) = _
      rw [hf, h0]; simp
    have hke : k + 1 ≤ e := by
      by_cases hk : k + 1 ≤ e
      · exact hk
      · have : e + 1 = k + 1 := by omega
        rcases h4 with h4 | h4
        · omega
        · rw [this, hf] at h4; cases h4
    rw [hs]
    exact ⟨e, h0, rfl, by omega, h2, fun j h5 h6 => h3 j (by omega) h6, h4⟩
/-- a minute with which a run begins -/
theorem SpInv.begin {f : Int → Bool} {a : Int} {n k : Nat} {L : List (Int × Int)} (h : SpInv f a n k L) (hb : k = 0 ∨ f (a + ((k - 1 : Nat) : Int)) = false) {e : Nat} (h1 : k ≤ e) (h2 : e < n) (h3 : ∀ j : Nat, k ≤ j → j ≤ e → f (a + j) = true) (h4 : e + 1 = n ∨ f (a + ((e + 1 : Nat) : Int)) = false) :
    SpInv f a n (k + 1) (L ++ [(a + (k : Int), a + (e : Int))]) := by
  have hk : (spSt f a k).2.2 = false := by
    rcases hb with rfl | hb
    · rfl
    · cases k with
      | zero => rfl
      | succ k => rw [spSt_open]; exact hb
  have hL : L = (spSt f a k).1 := by
    rcases h with ⟨-, h⟩ | ⟨e, h0, -⟩
    · exact h
    · rw [hk] at h0; cases h0
  have hs : spSt f a (k + 1) = ((spSt f a k).1, a + (k : Int), true) := by
    show (if f (a + k) then (if (spSt f a k).2.2 then spSt f a k else ((spSt f a k).1, a + k, true)) else (if (spSt f a k).2.2 then ((spSt f a k).1 ++ [((spSt f a k).2.1, a + k - 1)], (spSt f a k).2.1, false) else spSt f a k)) = _
    rw [h3 k (Nat.le_refl _) h1, hk]; simp
  right
  rw [hs, hL]
  exact ⟨e, rfl, rfl, by omega, h2, fun j h5 h6 => h3 j (by omega) h6, h4⟩
theorem SpInv.done {f : Int → Bool} {a : Int} {n : Nat} {L : List (Int × Int)} (h : SpInv f a n n L) : L = spansOf f a n := by
  unfold spansOf
  rcases h with ⟨h0, rfl⟩ | ⟨e, h0, rfl, h1, h2, h3, h4⟩
  · rw [h0]; simp
  · rw [h0]
    simp only [if_true]
    rw [show a + (n : Int) - 1 = a + (e : Int) by omega]

section
variable {pT pF pS : Option Addr} {cT cF cS : Nat}
set_option maxRecDepth 100000 in
set_option maxHeartbeats 2000000 in
theorem refSpans_c (s : Sd) (f : Int → Bool) (l : List Bool) (n : Nat) (q : Option Addr) (d : Nat) (w : World) (hn : l.length = n) (hd : n = dayN s) (ok : Ok s) (hl : Lists w s pT pF pS cT cF cS) (hr : Row w q 1 (bools l)) (hf : ∀ j : Nat, j < n → f (firstM s.table + (j : Int)) = tr l j) :
    Calls Tryz.prog 56 #[sdVal s pT pF pS cT cF cS, .slice q n d] w fun e w' => ∃ q' d', e = .returned (.slice q' (spansOf f (firstM s.table) n).length d') ∧ (spansOf f (firstM s.table) n).length ≤ d' ∧ d' ≤ maxLen ∧ Row w' q' 2 (pairs (spansOf f (firstM s.table) n)) ∧ Up w w' := by
  obtain ⟨f0, f1, f2⟩ := firstM_lt ok.table
  have hdn : (n : Int) = lastM s.table - firstM s.table + 1 := by rw [hd]; unfold dayN; omega
  have hF := Lib.hid (fun W (u : Up w W) => refFirst_c s W (hl.up u) ok.table.2.2.1)
  have hA := Lib.hid (fun W (u : Up w W) => refLast_c s W (hl.up u) ok.table.2.2.1 ok.table.2.2.2)
  have HRN := Lib.hid (fun (k : Nat) W (u : Up w W) (hk : k < n) => refRun_c s l n q d k W hn ok (hl.up u) (hr.up u) hk (by omega))
  have HN := Lib.hid hn
  have HFF := Lib.hid hf
  have F9 : firstM s.table ≤ 1440 := by omega
  have hla : lastM s.table = firstM s.table + n - 1 := by omega
  rw [hla] at hA
  have n9 : n ≤ 1441 := by omega
  obtain ⟨i0, hi, hz0, hz1, hz2⟩ := info_parts info24
  clear hl ok hr hn hd hf hdn hla f1 f2
  generalize firstM s.table = F at *
  unfold sdVal at *
  go_enter Tryz.func56, Tryz.ntmps56
  go_wp2_with fail
  have BS : Hid (Blk (w.alloc (.cells #[.slice pT s.table.length cT, .int .i64 s.lo, .int .i64 s.hi, .slice pF s.floors.length cF, .slice pS s.sills.length cS] 35)) w.heap.size (sdCells s pT pF pS cT cF cS) 35) := Lib.hid (Blk.new w (sdCells s pT pF pS cT cF cS) 35)
  have U0 : Hid (Up w (w.alloc (.cells #[.slice pT s.table.length cT, .int .i64 s.lo, .int .i64 s.hi, .slice pF s.floors.length cF, .slice pS s.sills.length cS] 35))) := Lib.hid (by (repeat (first | exact Below.refl _ _ | (with_reducible refine Below.drewN' ?_ _) | (with_reducible refine Below.drew ?_) | (with_reducible refine Below.setCell ?_ (by first | exact Nat.le_refl _ | omega | (with_reducible (repeat (first | refine sz_alloc ?_ | refine sz_setCell ?_ | refine sz_drew ?_ | refine sz_drewN ?_)); first | exact Nat.le_refl _ | omega) | (simp only [World.size_alloc, World.size_setCell, World.size_drew, size_drewN']; omega)) _) | (with_reducible refine Below.alloc ?_ (by first | exact Nat.le_refl _ | omega | (with_reducible (repeat (first | refine sz_alloc ?_ | refine sz_setCell ?_ | refine sz_drew ?_ | refine sz_drewN ?_)); first | exact Nat.le_refl _ | omega) | (simp only [World.size_alloc, World.size_setCell, World.size_drew, size_drewN']; omega)) _) | assumption)))
  generalize (w.alloc (.cells #[.slice pT s.table.length cT, .int .i64 s.lo, .int .i64 s.hi, .slice pF s.floors.length cF, .slice pS s.sills.length cS] 35)) = w0 at *
  refine (hF.out w0 U0.out).mono ?_
  rintro e w1 ⟨rfl, u1⟩
  have U1 := Lib.hid u1
  have hs1 := u1.size
  clear u1
  go_wp2_with fail
  go_loopw [6, 5] (fun i v wr => ∃ (k : Nat) (L : List (Int × Int)), k ≤ n ∧ i = .int .i64 (F + k) ∧ SpInv f F n k L ∧ wr.ownsRow w0.heap.size 24 2 v L.length (spc L) ∧ Up w0 wr) (fun i _ _ => (F + n - intOf i).toNat)
  case atStart => exact ⟨0, [], by omega, by simp, SpInv.start _ _ _, World.ownsRow_nil _ _ _ _, U1.out⟩
  case round =>
    obtain ⟨k, L, hk, rfl, hinv, hown, hu⟩ := hrel
    have hL9 := hinv.len
    have HI := Lib.hid hinv
    have HO := Lib.hid hown
    have HU := Lib.hid hu
    obtain ⟨c0, c1, c2, c3, c4⟩ := five (BS.out.up hu)
    clear hown hu hinv
    go_wp2_with fail
    refine (hA.out wr (Up.trans U0.out HU.out)).mono ?_
    rintro e w2 ⟨rfl, u2⟩
    have O2 := Lib.hid (ownsRow_up HO.out u2)
    have U2 := Lib.hid (Up.trans HU.out u2)
    clear u2 HO HU c0 c1 c2 c3 c4
    obtain ⟨c0, c1, c2, c3, c4⟩ := five (BS.out.up U2.out)
    by_cases hlt : k < n
    · have k1 : F + (k : Int) ≤ F + n - 1 := by omega
      have sy : IntKind.i64.wrap (F + (k : Int) + 1) = F + k + 1 := IntWalk.i64_in _ (by omega)
      go_wp2_with fail
      refine (HRN.out k w2 (Up.trans U0.out U2.out) hlt).mono ?_
      rintro e w3 ⟨he, u3⟩
      have O3 := Lib.hid (ownsRow_up O2.out u3)
      have U3 := Lib.hid (Up.trans U2.out u3)
      clear u3 O2 U2 c0 c1 c2 c3 c4
      have hsz := U3.out.size
      rcases he with ⟨hv, rfl⟩ | ⟨lo, hi', hrun, rfl⟩
      · have HI2 := Lib.hid (HI.out.no (by rw [HFF.out k hlt]; exact hv))
        clear hv
        go_wp2_with fail
        go_roundw
        case rel =>
          try ((repeat apply Exists.intro); refine ⟨?_, rfl⟩)
          exact ⟨k + 1, L, by omega, by go_num, HI2.out, O3.out.alloc _, U3.out.alloc hsz _⟩
        case measure => simp [intOf]; omega
      · obtain ⟨r1, r2, r3, r4, r5, r6⟩ := hrun
        rw [HN.out] at r3 r6
        by_cases hlo : lo = k
        · subst hlo
          have HI2 := Lib.hid (HI.out.begin (e := hi') (r5.imp id (fun h => by rw [HFF.out _ (by omega)]; exact h)) r2 r3 (fun j h1 h2 => by rw [HFF.out j (by omega)]; exact r4 j h1 h2) (if h : hi' + 1 = n then .inl h else .inr (by rw [HFF.out _ (by omega)]; exact r6.resolve_left h)))
          clear r4 r5 r6
          go_upto_if 30 with fail
          have h4 : Blk (w3.alloc (.cells #[.int .i64 (F + (lo : Int)), .int .i64 (F + (hi' : Int))] 24)) w3.heap.size [.int .i64 (F + (lo : Int)), .int .i64 (F + (hi' : Int))] 24 := Blk.new w3 [.int .i64 (F + (lo : Int)), .int .i64 (F + (hi' : Int))] _
          have O4 := Lib.hid (O3.out.alloc (.cells #[.int .i64 (F + (lo : Int)), .int .i64 (F + (hi' : Int))] 24))
          have U4 := Lib.hid (U3.out.alloc hsz (.cells #[.int .i64 (F + (lo : Int)), .int .i64 (F + (hi' : Int))] 24))
          generalize w3.alloc (.cells #[.int .i64 (F + (lo : Int)), .int .i64 (F + (hi' : Int))] 24) = w4 at *
          have hsz4 := U4.out.size
          have y0 := h4.cell 0
          have y1 := h4.cell 1
          simp only [List.getElem?_cons_zero, List.getElem?_cons_succ] at y0 y1
          clear h4 O3 U3
          go_wp2_with (at_builtin; refine wpList_append_own _ rfl _ _ 104 rfl w0.heap.size 24 i0 (.agg #[.int .i64 0, .int .i64 0]) 2 16 Tryz.underlying104 hi hz0 hz1 hz2 rfl (by decide) _ L.length _ rfl (O4.out.alloc _) ⟨w4.heap.size, 0, none⟩ 1 1 [.int .i64 (F + (lo : Int)), .int .i64 (F + (hi' : Int))] rfl rfl (newsAt _ rfl [.int .i64 (F + (lo : Int)), .int .i64 (F + (hi' : Int))] _) (by simp [Value.oneCell']) (by simp [maxLen]; omega) (by omega) (sz_alloc hsz4) ?_; intro v' w8 hown8 hgr8 hnn; clear hnn)
          have U8 := Lib.hid ((U4.out.alloc hsz4 _).grown hgr8 (sz_alloc hsz4) (fun j e => (O4.out.lt j e).1))
          have O8 := Lib.hid hown8
          clear hown8 hgr8 y0 y1
          go_roundw
          case rel =>
            try ((repeat apply Exists.intro); refine ⟨?_, rfl⟩)
            refine ⟨lo + 1, L ++ [(F + (lo : Int), F + (hi' : Int))], by omega, by go_num, HI2.out, ?_, U8.out⟩
            rw [spc_snoc, List.length_append]
            exact O8.out
          case measure => simp [intOf]; omega
        · have hb : (F + (lo : Int) == F + (k : Int)) = false := beq_eq_false_iff_ne.2 (by omega)
          have HI2 : Hid (SpInv f F n (k + 1) L) := by
            obtain ⟨k', rfl⟩ : ∃ k', k = k' + 1 := ⟨k - 1, by omega⟩
            exact HI.out.on hlt (by rw [HFF.out _ hlt]; exact r4 _ r1 r2) (by rw [HFF.out _ (by omega)]; exact r4 _ (by omega) (by omega))
          clear r4 r5 r6
          go_wp2_with fail
          go_roundw
          case rel =>
            try ((repeat apply Exists.intro); refine ⟨?_, rfl⟩)
            exact ⟨k + 1, L, by omega, by go_num, HI2.out, O3.out.alloc _, U3.out.alloc hsz _⟩
          case measure => simp [intOf]; omega
    · obtain rfl : k = n := by omega
      have hL := HI.out.done
      subst hL
      obtain ⟨q', d', rfl, a1, a2, hR⟩ := row_of_owns O2.out
      have k1 : ¬ F + ((k : Nat) : Int) ≤ F + k - 1 := by omega
      go_wp2_with fail
      go_ret
      exact ⟨q', d', rfl, a1, a2, hR, Up.trans U0.out U2.out⟩
end
end Go.Proofs.YtknaajofcbenaaaGreat
/- The reference's Flood. -/
namespace Go.Proofs.YtknaajofcbenaaaGreat
open Go.RowKit Go.Shelf

/-- what the reference's Flood answers -/
def floR (s : Sd) (m : Int) : Int × List Int := match floodT s m with | some t => (t, floL s m t s.floors.length) | none => (0, [])
theorem floodV_of {s : Sd} {m : Int} (h : errAt s m = 0) : floodV s m = floR s m := by
  unfold floodV floR
  rw [if_pos h]
  cases floodT s m with
  | none => rfl
  | some t => show (t, _) = (t, floL s m t s.floors.length); rw [floL_all]
section
variable {pT pF pS : Option Addr} {cT cF cS : Nat}
set_option maxRecDepth 100000 in
set_option maxHeartbeats 2000000 in
theorem refFlood_c (s : Sd) (m : Int) (n : Nat) (q : Option Addr) (d : Nat) (w : World) (hn : (gatesR s).length = n) (ok : Ok s) (hl : Lists w s pT pF pS cT cF cS) (hr : Row w q 1 (ints (gatesR s))) (h1 : firstM s.table ≤ m) (h2 : m ≤ lastM s.table) :
    Calls Tryz.prog 17 #[sdVal s pT pF pS cT cF cS, .slice q n d, .int .i64 m] w fun e w' => ∃ q' d', e = .returned (.tuple #[.int .i64 (floR s m).1, .slice q' (floR s m).2.length d', .bool (floodT s m).isSome]) ∧ (floR s m).2.length ≤ maxLen ∧ Row w' q' 1 (ints (floR s m).2) ∧ (∀ b off, q' = some ⟨b, off, none⟩ → w.heap.size ≤ b) ∧ Up w w' := by
  have hnl : n = s.floors.length := by rw [← hn, gatesR_len]
  subst hnl
  obtain ⟨f0, f1, f2⟩ := firstM_lt ok.table
  have f8 := ok.fl1
  have f9 := ok.fl0
  have HA := Lib.hid (fun W (u : Up w W) => refLast_c s W (hl.up u) ok.table.2.2.1 ok.table.2.2.2)
  have HH := Lib.hid (fun t W (u : Up w W) (h1 : firstM s.table ≤ t) (h2 : t ≤ lastM s.table) => refHeight_c s t W (hl.up u) ok.table h1 h2)
  have HS := Lib.hid (fun (t : Int) (p : Nat) (ht : firstM s.table ≤ t) W => refState_c (pT := pT) (pF := pF) (pS := pS) (cT := cT) (cF := cF) (cS := cS) s (hgt s.table t) (gateR s p) W ok (hgt_rng ok.table _ ht).1 (hgt_rng ok.table _ ht).2 (by have := gateR_in s p; omega) (by have := gateR_in s p; omega))
  have HST := Lib.hid (fun (t : Int) (p : Nat) (ht : firstM s.table ≤ t) => stR_of ok t p (hgt_rng ok.table _ ht).1 (hgt_rng ok.table _ ht).2)
  have HR := Lib.hid hr
  have OK := Lib.hid ok
  obtain ⟨i0, hi, hz0, hz1, hz2⟩ := info_parts info3
  obtain ⟨N, hN⟩ : ∃ N : Nat, lastM s.table = m + N := ⟨(lastM s.table - m).toNat, by omega⟩
  have HF := Lib.hid (show floodT s m = flo (wetAny s (dryL s m)) m N by unfold floodT; rw [hN, show (m + (N : Int) - m).toNat = N by omega])
  rw [hN] at HA HH f1 f2
  clear hl hr ok hn hN
  unfold sdVal at *
  go_enter Tryz.func17, Tryz.ntmps17
  go_wp2_with fail
  have BS : Hid (Blk (w.alloc (.cells #[.slice pT s.table.length cT, .int .i64 s.lo, .int .i64 s.hi, .slice pF s.floors.length cF, .slice pS s.sills.length cS] 35)) w.heap.size (sdCells s pT pF pS cT cF cS) 35) := Lib.hid (Blk.new w (sdCells s pT pF pS cT cF cS) 35)
  have U0 : Hid (Up w (w.alloc (.cells #[.slice pT s.table.length cT, .int .i64 s.lo, .int .i64 s.hi, .slice pF s.floors.length cF, .slice pS s.sills.length cS] 35))) := Lib.hid (by (repeat (first | exact Below.refl _ _ | (with_reducible refine Below.drewN' ?_ _) | (with_reducible refine Below.drew ?_) | (with_reducible refine Below.setCell ?_ (by first | exact Nat.le_refl _ | omega | (with_reducible (repeat (first | refine sz_alloc ?_ | refine sz_setCell ?_ | refine sz_drew ?_ | refine sz_drewN ?_)); first | exact Nat.le_refl _ | omega) | (simp only [World.size_alloc, World.size_setCell, World.size_drew, size_drewN']; omega)) _) | (with_reducible refine Below.alloc ?_ (by first | exact Nat.le_refl _ | omega | (with_reducible (repeat (first | refine sz_alloc ?_ | refine sz_setCell ?_ | refine sz_drew ?_ | refine sz_drewN ?_)); first | exact Nat.le_refl _ | omega) | (simp only [World.size_alloc, World.size_setCell, World.size_drew, size_drewN']; omega)) _) | assumption)))
  generalize (w.alloc (.cells #[.slice pT s.table.length cT, .int .i64 s.lo, .int .i64 s.hi, .slice pF s.floors.length cF, .slice pS s.sills.length cS] 35)) = w0 at *
  refine (HH.out m w0 U0.out h1 (by omega)).mono ?_
  rintro e w1 ⟨rfl, u1⟩
  have U1 := Lib.hid u1
  clear u1
  have sm : IntKind.i64.wrap (m + 1) = m + 1 := IntWalk.i64_in _ (by omega)
  obtain ⟨bg, og, rfl, -⟩ := HR.out.int 0 (by rw [gatesR_len]; omega)
  go_wp2_with fail
  clear sm
  go_loopw [10, 11, 12, 13] (fun a _ _ _ wr => ∃ k : Nat, a = .int .i64 (m + 1 + k) ∧ k ≤ N ∧ flo (wetAny s (dryL s m)) m N = flo (wetAny s (dryL s m)) (m + k) (N - k) ∧ Up w0 wr) (fun a _ _ _ _ => (m + 1 + N - intOf a).toNat)
  case atStart => exact ⟨0, by simp, Nat.zero_le _, by simp, U1.out⟩
  case round =>
    obtain ⟨k, rfl, hk, hfl, hu⟩ := hrel
    have HU := Lib.hid hu
    have HFL := Lib.hid hfl
    obtain ⟨c0, c1, c2, c3, c4⟩ := five (BS.out.up hu)
    clear hu hfl
    go_wp2_with fail
    refine (HA.out wr (Up.trans U0.out HU.out)).mono ?_
    rintro e w2 ⟨rfl, u2⟩
    have U2 := Lib.hid (Up.trans HU.out u2)
    clear u2 HU c0 c1 c2 c3 c4
    by_cases hlt : k < N
    · have k1 : m + 1 + (k : Int) ≤ m + N := by omega
      obtain ⟨c0, c1, c2, c3, c4⟩ := five (BS.out.up U2.out)
      go_wp2_with fail
      refine (HH.out (m + 1 + k) w2 (Up.trans U0.out U2.out) (by omega) k1).mono ?_
      rintro e w3 ⟨rfl, u3⟩
      have U3 := Lib.hid (Up.trans U2.out u3)
      clear u3 U2 c0 c1 c2 c3 c4
      have sk : IntKind.i64.wrap (m + 1 + (k : Int) + 1) = m + 1 + (k : Int) + 1 := IntWalk.i64_in _ (by omega)
      go_wp2_with fail
      go_loopw [11, 13] (fun v i wy => ∃ p : Nat, p ≤ s.floors.length ∧ i = .int .i64 p ∧ wy.ownsRow w0.heap.size 3 1 v (floL s m (m + 1 + k) p).length (ints (floL s m (m + 1 + k) p)).flatten ∧ Up w0 wy) (fun _ i _ => s.floors.length - (intOf i).toNat)
      case atStart => exact ⟨0, Nat.zero_le _, rfl, World.ownsRow_nil _ _ _ _, U3.out⟩
      case round =>
        obtain ⟨p, hp, rfl, hown, hu⟩ := hrel
        have HO := Lib.hid hown
        have HU := Lib.hid hu
        have hln := floL_len s m (m + 1 + k) p
        clear hown
        by_cases hlp : p < s.floors.length
        · have p1 : (p : Int) < s.floors.length := by omega
          obtain ⟨c0, c1, c2, c3, c4⟩ := five (BS.out.up hu)
          obtain ⟨b', o', e1, cg0⟩ := HR.out.int p (by rw [gatesR_len]; omega)
          simp only [Option.some.injEq, Addr.mk.injEq, and_true] at e1
          obtain ⟨rfl, rfl⟩ := e1
          rw [gatesR_of] at cg0
          have cg := (Up.trans U0.out hu).cellAt cg0
          have gcl := cell_lt cg
          clear hu cg0
          go_wp2_with fail
          refine region_tail (fun W' => W'.cell? ⟨w.heap.size, 0, none⟩ = some (.slice pT s.table.length cT) ∧ W'.cell? ⟨w.heap.size, 1, none⟩ = some (.int .i64 s.lo) ∧ W'.cell? ⟨w.heap.size, 2, none⟩ = some (.int .i64 s.hi) ∧ W'.cell? ⟨w.heap.size, 3, none⟩ = some (.slice pF s.floors.length cF) ∧ W'.cell? ⟨w.heap.size, 4, none⟩ = some (.slice pS s.sills.length cS) ∧ W'.cell? ⟨bg, og + p, none⟩ = some (.int .i64 (gateR s p))) 18 mixed (by kernel_rfl) ⟨c0, c1, c2, c3, c4, cg⟩ (fun hHeld => ?_)
          refine wpAnyG_take 0 34 (v := ?_) rfl rfl (by kernel_rfl) (fun _ _ _ h => h) (Or.inl ⟨by rfl, ?_⟩) (by assumption) ?_
          rotate_left
          · (intro w' hSw; (try dsimp only at hSw); go_split_ands; go_simp; try with_reducible rfl)
          try simp only [List.setIfInBounds_toArray, List.set_cons_zero, List.set_cons_succ]
          refine wpAnyG_take 1 35 (v := ?_) rfl rfl (by kernel_rfl) (fun _ _ _ h => h) (Or.inl ⟨by rfl, ?_⟩) (by assumption) ?_
          rotate_left
          · (intro w' hSw; (try dsimp only at hSw); go_split_ands; go_simp; try with_reducible rfl)
          try simp only [List.setIfInBounds_toArray, List.set_cons_zero, List.set_cons_succ]
          refine wpAnyG_take 2 36 (v := ?_) rfl rfl (by kernel_rfl) (fun _ _ _ h => h) (Or.inl ⟨by rfl, ?_⟩) (by assumption) ?_
          rotate_left
          · (intro w' hSw; (try dsimp only at hSw); go_split_ands; go_simp; try with_reducible rfl)
          try simp only [List.setIfInBounds_toArray, List.set_cons_zero, List.set_cons_succ]
          refine wpAnyG_take 3 37 (v := ?_) rfl rfl (by kernel_rfl) (fun _ _ _ h => h) (Or.inl ⟨by rfl, ?_⟩) (by assumption) ?_
          rotate_left
          · (intro w' hSw; (try dsimp only at hSw); go_split_ands; go_simp; try with_reducible rfl)
          try simp only [List.setIfInBounds_toArray, List.set_cons_zero, List.set_cons_succ]
          refine wpAnyG_take 4 38 (v := ?_) rfl rfl (by kernel_rfl) (fun _ _ _ h => h) (Or.inl ⟨by rfl, ?_⟩) (by assumption) ?_
          rotate_left
          · (intro w' hSw; (try dsimp only at hSw); go_split_ands; go_simp; try with_reducible rfl)
          try simp only [List.setIfInBounds_toArray, List.set_cons_zero, List.set_cons_succ]
          refine wpAnyG_take 5 39 (v := ?_) rfl rfl (by kernel_rfl) (fun _ _ _ h => h) (Or.inl ⟨by rfl, ?_⟩) (by assumption) ?_
          rotate_left
          · (intro w' hSw; (try dsimp only at hSw); go_split_ands; go_simp; try with_reducible rfl)
          try simp only [List.setIfInBounds_toArray, List.set_cons_zero, List.set_cons_succ]
          refine wpAnyG_do 6 rfl (by kernel_rfl) (fun K hK => ?_)
          rw [if_pos (by rfl)]
          go_simp
          refine (HS.out m p h1 _).mono ?_
          rintro e wa ⟨rfl, va⟩
          rw [HST.out m p h1]
          have v1 : Up wr wa := Up.trans (by (repeat (first | exact Below.refl _ _ | (with_reducible refine Below.drewN' ?_ _) | (with_reducible refine Below.drew ?_) | (with_reducible refine Below.setCell ?_ (by first | exact Nat.le_refl _ | omega | (with_reducible (repeat (first | refine sz_alloc ?_ | refine sz_setCell ?_ | refine sz_drew ?_ | refine sz_drewN ?_)); first | exact Nat.le_refl _ | omega) | (simp only [World.size_alloc, World.size_setCell, World.size_drew, size_drewN']; omega)) _) | (with_reducible refine Below.alloc ?_ (by first | exact Nat.le_refl _ | omega | (with_reducible (repeat (first | refine sz_alloc ?_ | refine sz_setCell ?_ | refine sz_drew ?_ | refine sz_drewN ?_)); first | exact Nat.le_refl _ | omega) | (simp only [World.size_alloc, World.size_setCell, World.size_drew, size_drewN']; omega)) _) | assumption))) va
          refine hK.out _ _ ⟨v1.cellAt c0, v1.cellAt c1, v1.cellAt c2, v1.cellAt c3, v1.cellAt c4, v1.cellAt cg⟩ (fun hHeld => ?_)
          clear hK K va
          have ht2 : firstM s.table ≤ m + 1 + (k : Int) := by omega
          by_cases hz : st s m p = 0
          · rw [hz]
            refine wpAnyG_take 7 41 (v := .bool true) rfl rfl (by kernel_rfl) (fun _ _ _ h => h) (Or.inl ⟨by rfl, ?_⟩) (by assumption) ?_
            · intro w' _
              go_simp
            try simp only [List.setIfInBounds_toArray, List.set_cons_zero, List.set_cons_succ]
            refine wpAnyG_take 8 42 (v := ?_) rfl rfl (by kernel_rfl) (fun _ _ _ h => h) (Or.inl ⟨by rfl, ?_⟩) (by assumption) ?_
            rotate_left
            · (intro w' hSw; (try dsimp only at hSw); go_split_ands; go_simp; try with_reducible rfl)
            try simp only [List.setIfInBounds_toArray, List.set_cons_zero, List.set_cons_succ]
            refine wpAnyG_take 9 43 (v := ?_) rfl rfl (by kernel_rfl) (fun _ _ _ h => h) (Or.inl ⟨by rfl, ?_⟩) (by assumption) ?_
            rotate_left
            · (intro w' hSw; (try dsimp only at hSw); go_split_ands; go_simp; try with_reducible rfl)
            try simp only [List.setIfInBounds_toArray, List.set_cons_zero, List.set_cons_succ]
            refine wpAnyG_take 10 44 (v := ?_) rfl rfl (by kernel_rfl) (fun _ _ _ h => h) (Or.inl ⟨by rfl, ?_⟩) (by assumption) ?_
            rotate_left
            · (intro w' hSw; (try dsimp only at hSw); go_split_ands; go_simp; try with_reducible rfl)
            try simp only [List.setIfInBounds_toArray, List.set_cons_zero, List.set_cons_succ]
            refine wpAnyG_take 11 45 (v := ?_) rfl rfl (by kernel_rfl) (fun _ _ _ h => h) (Or.inl ⟨by rfl, ?_⟩) (by assumption) ?_
            rotate_left
            · (intro w' hSw; (try dsimp only at hSw); go_split_ands; go_simp; try with_reducible rfl)
            try simp only [List.setIfInBounds_toArray, List.set_cons_zero, List.set_cons_succ]
            refine wpAnyG_take 12 46 (v := ?_) rfl rfl (by kernel_rfl) (fun _ _ _ h => h) (Or.inl ⟨by rfl, ?_⟩) (by assumption) ?_
            rotate_left
            · (intro w' hSw; (try dsimp only at hSw); go_split_ands; go_simp; try with_reducible rfl)
            try simp only [List.setIfInBounds_toArray, List.set_cons_zero, List.set_cons_succ]
            refine wpAnyG_take 13 47 (v := ?_) rfl rfl (by kernel_rfl) (fun _ _ _ h => h) (Or.inl ⟨by rfl, ?_⟩) (by assumption) ?_
            rotate_left
            · (intro w' hSw; (try dsimp only at hSw); go_split_ands; go_simp; try with_reducible rfl)
            try simp only [List.setIfInBounds_toArray, List.set_cons_zero, List.set_cons_succ]
            refine wpAnyG_take 14 48 (v := ?_) rfl rfl (by kernel_rfl) (fun _ _ _ h => h) (Or.inl ⟨by rfl, ?_⟩) (by assumption) ?_
            rotate_left
            · (intro w' hSw; (try dsimp only at hSw); go_split_ands; go_simp; try with_reducible rfl)
            try simp only [List.setIfInBounds_toArray, List.set_cons_zero, List.set_cons_succ]
            refine wpAnyG_do 15 rfl (by kernel_rfl) (fun K hK => ?_)
            rw [if_pos (by rfl)]
            go_simp
            refine (HS.out (m + 1 + k) p ht2 _).mono ?_
            rintro e wb ⟨rfl, vb⟩
            rw [HST.out (m + 1 + k) p ht2]
            have v2 : Up wr wb := Up.trans v1 vb
            refine hK.out _ _ ⟨v2.cellAt c0, v2.cellAt c1, v2.cellAt c2, v2.cellAt c3, v2.cellAt c4, v2.cellAt cg⟩ (fun hHeld => ?_)
            clear hK K vb
            by_cases hy : st s (m + 1 + k) p = 0
            · rw [hy]
              have HN := Lib.hid (floL_no (s := s) (m := m) (t := m + 1 + k) (k := p) (by rw [hz, hy]; rfl))
              refine wpAnyG_take 16 50 (v := .bool false) rfl rfl (by kernel_rfl) (fun _ _ _ h => h) (Or.inl ⟨by rfl, ?_⟩) (by assumption) ?_
              · intro w' _
                go_simp
              try simp only [List.setIfInBounds_toArray, List.set_cons_zero, List.set_cons_succ]
              refine wpAnyG_take 17 51 (v := ?_) rfl rfl (by kernel_rfl) (fun _ _ _ h => h) (Or.inl ⟨by rfl, ?_⟩) (by assumption) ?_
              rotate_left
              · (intro w' hSw; (try dsimp only at hSw); go_split_ands; go_simp; try with_reducible rfl)
              try simp only [List.setIfInBounds_toArray, List.set_cons_zero, List.set_cons_succ]
              refine wpAnyG_tail (by kernel_rfl) ?_
              change wpList _ _ _ [] _ _
              have V2 := Lib.hid v2
              clear hHeld c0 c1 c2 c3 c4 cg v1 v2
              go_wp2_with fail
              go_roundw
              case rel =>
                try ((repeat apply Exists.intro); refine ⟨?_, rfl⟩)
                exact ⟨p + 1, by omega, by go_num, by rw [HN.out]; exact ownsRow_up HO.out V2.out, Up.trans HU.out V2.out⟩
              case measure => simp [intOf]; omega
            · have hyb : (st s (m + 1 + k) p != 0) = true := by simp [hy]
              have HN := Lib.hid (floL_yes (s := s) (m := m) (t := m + 1 + k) (k := p) (by rw [hz, hyb]; rfl))
              obtain ⟨sv, hsv⟩ : ∃ sv, st s (m + 1 + k) p = sv := ⟨_, rfl⟩
              rw [hsv] at hyb ⊢
              refine wpAnyG_take 16 50 (v := .bool true) rfl rfl (by kernel_rfl) (fun _ _ _ h => h) (Or.inl ⟨by rfl, ?_⟩) (by assumption) ?_
              · intro w' _
                go_simp
              try simp only [List.setIfInBounds_toArray, List.set_cons_zero, List.set_cons_succ]
              refine wpAnyG_take 17 51 (v := ?_) rfl rfl (by kernel_rfl) (fun _ _ _ h => h) (Or.inl ⟨by rfl, ?_⟩) (by assumption) ?_
              rotate_left
              · (intro w' hSw; (try dsimp only at hSw); go_split_ands; go_simp; try with_reducible rfl)
              try simp only [List.setIfInBounds_toArray, List.set_cons_zero, List.set_cons_succ]
              refine wpAnyG_tail (by kernel_rfl) ?_
              change wpList _ _ _ [] _ _
              have O2 := Lib.hid (ownsRow_up HO.out v2)
              have U2 := Lib.hid (Up.trans HU.out v2)
              have hsz := U2.out.size
              clear hHeld c0 c1 c2 c3 c4 cg v1 v2 hsv HO HU
              go_wp2_with (at_builtin; refine wpList_append_own _ rfl _ _ 25 rfl w0.heap.size 3 i0 (.int .i64 0) 1 8 Tryz.underlying25 hi hz0 hz1 hz2 rfl (by decide) _ _ _ rfl (O2.out.alloc _) ⟨wb.heap.size, 0, none⟩ 1 1 [.int .i64 p] rfl rfl (newsAt _ rfl [.int .i64 p] _) (by simp [Value.oneCell']) (by simp [maxLen]; omega) (by omega) (sz_alloc hsz) ?_; intro v' w8 hown8 hgr8 hnn; clear hnn)
              have U8 := Lib.hid ((U2.out.alloc hsz _).grown hgr8 (sz_alloc hsz) (fun j e => (O2.out.lt j e).1))
              have O8 := Lib.hid hown8
              clear hown8 hgr8
              go_roundw
              case rel =>
                try ((repeat apply Exists.intro); refine ⟨?_, rfl⟩)
                refine ⟨p + 1, by omega, by go_num, ?_, U8.out⟩
                have e : (ints (floL s m (m + 1 + k) p ++ [(p : Int)])).flatten = (ints (floL s m (m + 1 + k) p)).flatten ++ [.int .i64 p] := by unfold ints; rw [List.map_append, List.flatten_append]; rfl
                rw [HN.out, e, List.length_append]
                exact O8.out
              case measure => simp [intOf]; omega
          · have hzb : (st s m p == 0) = false := beq_eq_false_iff_ne.2 hz
            have HN := Lib.hid (floL_no (s := s) (m := m) (t := m + 1 + k) (k := p) (by rw [hzb]; rfl))
            obtain ⟨sv, hsv⟩ : ∃ sv, st s m p = sv := ⟨_, rfl⟩
            rw [hsv] at hzb ⊢
            refine wpAnyG_take 7 41 (v := .bool false) rfl rfl (by kernel_rfl) (fun _ _ _ h => h) (Or.inl ⟨by rfl, ?_⟩) (by assumption) ?_
            · intro w' _
              go_simp
            try simp only [List.setIfInBounds_toArray, List.set_cons_zero, List.set_cons_succ]
            refine wpAnyG_take 8 42 (v := ?_) rfl rfl (by kernel_rfl) (fun _ _ _ h => h) (Or.inl ⟨by rfl, ?_⟩) (by assumption) ?_
            rotate_left
            · (intro w' hSw; (try dsimp only at hSw); go_split_ands; go_simp; try with_reducible rfl)
            try simp only [List.setIfInBounds_toArray, List.set_cons_zero, List.set_cons_succ]
            refine wpAnyG_take 9 43 (v := undef) rfl rfl (by kernel_rfl) (fun _ _ _ h => h) (Or.inr ⟨by rfl, rfl⟩) (by assumption) ?_
            try simp only [List.setIfInBounds_toArray, List.set_cons_zero, List.set_cons_succ]
            refine wpAnyG_take 10 44 (v := undef) rfl rfl (by kernel_rfl) (fun _ _ _ h => h) (Or.inr ⟨by rfl, rfl⟩) (by assumption) ?_
            try simp only [List.setIfInBounds_toArray, List.set_cons_zero, List.set_cons_succ]
            refine wpAnyG_take 11 45 (v := undef) rfl rfl (by kernel_rfl) (fun _ _ _ h => h) (Or.inr ⟨by rfl, rfl⟩) (by assumption) ?_
            try simp only [List.setIfInBounds_toArray, List.set_cons_zero, List.set_cons_succ]
            refine wpAnyG_take 12 46 (v := undef) rfl rfl (by kernel_rfl) (fun _ _ _ h => h) (Or.inr ⟨by rfl, rfl⟩) (by assumption) ?_
            try simp only [List.setIfInBounds_toArray, List.set_cons_zero, List.set_cons_succ]
            refine wpAnyG_take 13 47 (v := undef) rfl rfl (by kernel_rfl) (fun _ _ _ h => h) (Or.inr ⟨by rfl, rfl⟩) (by assumption) ?_
            try simp only [List.setIfInBounds_toArray, List.set_cons_zero, List.set_cons_succ]
            refine wpAnyG_take 14 48 (v := undef) rfl rfl (by kernel_rfl) (fun _ _ _ h => h) (Or.inr ⟨by rfl, rfl⟩) (by assumption) ?_
            try simp only [List.setIfInBounds_toArray, List.set_cons_zero, List.set_cons_succ]
            refine wpAnyG_take 15 49 (v := undef) rfl rfl (by kernel_rfl) (fun _ _ _ h => h) (Or.inr ⟨by rfl, rfl⟩) (by assumption) ?_
            try simp only [List.setIfInBounds_toArray, List.set_cons_zero, List.set_cons_succ]
            refine wpAnyG_take 16 50 (v := undef) rfl rfl (by kernel_rfl) (fun _ _ _ h => h) (Or.inr ⟨by rfl, rfl⟩) (by assumption) ?_
            try simp only [List.setIfInBounds_toArray, List.set_cons_zero, List.set_cons_succ]
            refine wpAnyG_take 17 51 (v := ?_) rfl rfl (by kernel_rfl) (fun _ _ _ h => h) (Or.inl ⟨by rfl, ?_⟩) (by assumption) ?_
            rotate_left
            · (intro w' hSw; (try dsimp only at hSw); go_split_ands; go_simp; try with_reducible rfl)
            try simp only [List.setIfInBounds_toArray, List.set_cons_zero, List.set_cons_succ]
            refine wpAnyG_tail (by kernel_rfl) ?_
            change wpList _ _ _ [] _ _
            have V2 := Lib.hid v1
            clear hHeld c0 c1 c2 c3 c4 cg v1
            go_wp2_with fail
            go_roundw
            case rel =>
              try ((repeat apply Exists.intro); refine ⟨?_, rfl⟩)
              exact ⟨p + 1, by omega, by go_num, by rw [HN.out]; exact ownsRow_up HO.out V2.out, Up.trans HU.out V2.out⟩
            case measure => simp [intOf]; omega
        · obtain rfl : p = s.floors.length := by omega
          have HANY := Lib.hid (floL_any s m (m + 1 + k))
          obtain ⟨fl, hfl⟩ : ∃ fl, floL s m (m + 1 + k) s.floors.length = fl := ⟨_, rfl⟩
          have HFL2 := Lib.hid hfl
          rw [hfl] at HO hln HANY
          have step : flo (wetAny s (dryL s m)) (m + k) (N - k) = if wetAny s (dryL s m) (m + 1 + k) = true then some (m + 1 + k) else flo (wetAny s (dryL s m)) (m + 1 + k) (N - (k + 1)) := by
            rw [show N - k = (N - (k + 1)) + 1 by omega]
            show (if _ then _ else _) = _
            rw [show m + (k : Int) + 1 = m + 1 + k by omega]
          have STEP := Lib.hid step
          clear hfl step hu
          cases fl with
          | nil =>
            have HW : Hid (wetAny s (dryL s m) (m + 1 + k) = false) := by show _ = _; rw [HANY.out]; rfl
            obtain ⟨q', d', he, -, -, -, -⟩ := Row.of_own (rows := ints []) (flatOk_ints _) HO.out (by simp [ints])
            subst he
            go_wp2_with fail
            go_roundw
            case rel =>
              try ((repeat apply Exists.intro); refine ⟨?_, rfl⟩)
              refine ⟨k + 1, by go_num, by omega, ?_, HU.out⟩
              rw [HFL.out, STEP.out, HW.out, if_neg (by decide)]
              congr 1
              omega
            case measure => simp [intOf]; omega
          | cons x0 r0 =>
            have HW : Hid (wetAny s (dryL s m) (m + 1 + k) = true) := by show _ = _; rw [HANY.out]; rfl
            have HT : Hid (floodT s m = some (m + 1 + k)) := by show _ = _; rw [HF.out, HFL.out, STEP.out, HW.out, if_pos rfl]
            have HV : Hid (floR s m = (m + 1 + (k : Int), x0 :: r0)) := by show _ = _; unfold floR; rw [HT.out]; show (_, _) = _; rw [HFL2.out]
            obtain ⟨q', d', he, a1, a2, hR, hge⟩ := Row.of_own (rows := ints (x0 :: r0)) (flatOk_ints _) HO.out (by simp [ints])
            subst he
            have hlen : (x0 :: r0).length = r0.length + 1 := rfl
            have g1 : (0 : Int) < ((x0 :: r0).length : Int) := by rw [hlen]; omega
            go_wp2_with fail
            refine bodyPost_ret (v := .tuple #[.int .i64 (m + 1 + k), .slice q' (x0 :: r0).length d', .bool true]) (by simp [results, Tryz.f17, go_sem]) rfl ?_
            rw [HV.out, HT.out]
            exact ⟨q', d', rfl, by simp only [maxLen]; omega, hR, fun b off e => Nat.le_trans U0.out.size (hge b off e), Up.trans U0.out HU.out⟩
    · obtain rfl : k = N := by omega
      have HT : Hid (floodT s m = none) := by show _ = _; rw [HF.out, HFL.out, Nat.sub_self]; rfl
      have HV : Hid (floR s m = (0, [])) := by show _ = _; unfold floR; rw [HT.out]
      have k1 : ¬ m + 1 + ((k : Nat) : Int) ≤ m + k := by omega
      go_wp2_with fail
      refine bodyPost_ret (v := .tuple #[.int .i64 0, .slice none 0 0, .bool false]) (by simp [results, Tryz.f17, go_sem]) rfl ?_
      rw [HV.out, HT.out]
      exact ⟨none, 0, rfl, by decide, Row.nil _ _ _, (fun b off e => by cases e), Up.trans U0.out U2.out⟩
end
end Go.Proofs.YtknaajofcbenaaaGreat
/- The reference's Together and Longest. -/
namespace Go.Proofs.YtknaajofcbenaaaGreat
open Go.RowKit Go.Shelf

section
variable {pT pF pS : Option Addr} {cT cF cS : Nat}
set_option maxRecDepth 100000 in
set_option maxHeartbeats 2000000 in
theorem refTogether_c (s : Sd) (ps : List Int) (n : Nat) (q pp : Option Addr) (d c : Nat) (w : World) (hn : (gatesR s).length = n) (ok : Ok s) (hl : Lists w s pT pF pS cT cF cS) (hr : Row w q 1 (ints (gatesR s))) (hp : Row w pp 1 (ints ps)) (hps : ∀ p ∈ ps, 0 ≤ p ∧ p < s.floors.length) (h20 : ps.length ≤ 20) :
    Calls Tryz.prog 19 #[sdVal s pT pF pS cT cF cS, .slice q n d, .slice pp ps.length c] w fun e w' => ∃ q' d', e = .returned (.slice q' (togR s ps).length d') ∧ (togR s ps).length ≤ d' ∧ d' ≤ maxLen ∧ Row w' q' 1 (bools (togR s ps)) ∧ Up w w' := by
  have hnl : n = s.floors.length := by rw [← hn, gatesR_len]
  subst hnl
  obtain ⟨f0, f1, f2⟩ := firstM_lt ok.table
  have f9 := ok.fl0
  have hdn : ((dayN s : Nat) : Int) = lastM s.table - firstM s.table + 1 := by unfold dayN; omega
  have HH := Lib.hid (fun W (u : Up w W) => refHeights_c s W ok (hl.up u))
  have HS := Lib.hid (fun (t : Int) (p : Nat) (ht : firstM s.table ≤ t) W => refState_c (pT := pT) (pF := pF) (pS := pS) (cT := cT) (cF := cF) (cS := cS) s (hgt s.table t) (gateR s p) W ok (hgt_rng ok.table _ ht).1 (hgt_rng ok.table _ ht).2 (by have := gateR_in s p; omega) (by have := gateR_in s p; omega))
  have HST := Lib.hid (fun (t : Int) (p : Nat) (ht : firstM s.table ≤ t) => stR_of ok t p (hgt_rng ok.table _ ht).1 (hgt_rng ok.table _ ht).2)
  have HR := Lib.hid hr
  have HP := Lib.hid hp
  have HPS := Lib.hid hps
  obtain ⟨i0, hi, hz0, hz1, hz2⟩ := info_parts infoB
  rw [togR_len]
  clear hl ok hn hr hp hps
  unfold sdVal at *
  go_enter Tryz.func19, Tryz.ntmps19
  go_wp2_with fail
  have BS : Hid (Blk (w.alloc (.cells #[.slice pT s.table.length cT, .int .i64 s.lo, .int .i64 s.hi, .slice pF s.floors.length cF, .slice pS s.sills.length cS] 35)) w.heap.size (sdCells s pT pF pS cT cF cS) 35) := Lib.hid (Blk.new w (sdCells s pT pF pS cT cF cS) 35)
  have U0 : Hid (Up w (w.alloc (.cells #[.slice pT s.table.length cT, .int .i64 s.lo, .int .i64 s.hi, .slice pF s.floors.length cF, .slice pS s.sills.length cS] 35))) := Lib.hid (by (repeat (first | exact Below.refl _ _ | (with_reducible refine Below.drewN' ?_ _) | (with_reducible refine Below.drew ?_) | (with_reducible refine Below.setCell ?_ (by first | exact Nat.le_refl _ | omega | (with_reducible (repeat (first | refine sz_alloc ?_ | refine sz_setCell ?_ | refine sz_drew ?_ | refine sz_drewN ?_)); first | exact Nat.le_refl _ | omega) | (simp only [World.size_alloc, World.size_setCell, World.size_drew, size_drewN']; omega)) _) | (with_reducible refine Below.alloc ?_ (by first | exact Nat.le_refl _ | omega | (with_reducible (repeat (first | refine sz_alloc ?_ | refine sz_setCell ?_ | refine sz_drew ?_ | refine sz_drewN ?_)); first | exact Nat.le_refl _ | omega) | (simp only [World.size_alloc, World.size_setCell, World.size_drew, size_drewN']; omega)) _) | assumption)))
  generalize (w.alloc (.cells #[.slice pT s.table.length cT, .int .i64 s.lo, .int .i64 s.hi, .slice pF s.floors.length cF, .slice pS s.sills.length cS] 35)) = w0 at *
  refine (HH.out w0 U0.out).mono ?_
  rintro e w1 ⟨qh, dh, rfl, -, -, rh, -, u1⟩
  rw [heightsR_len]
  obtain ⟨dn, hdd⟩ : ∃ dn, dayN s = dn := ⟨_, rfl⟩
  have HDD := Lib.hid hdd
  rw [hdd] at hdn ⊢
  have hd9 : dn ≤ 1441 := by omega
  have hd1 : 0 < dn := by omega
  clear hdn
  obtain ⟨bh, oh, rfl, -⟩ := rh.int 0 (by rw [heightsR_len]; omega)
  have RH := Lib.hid rh
  have U1 := Lib.hid u1
  obtain ⟨bg, og, rfl, -⟩ := HR.out.int 0 (by rw [gatesR_len]; exact f9)
  clear u1 rh hdd
  go_wp2_with fail
  go_loopw [7, 9, 10, 11] (fun v i _ _ wr => ∃ k : Nat, k ≤ dn ∧ i = .int .i64 k ∧ wr.ownsRow w1.heap.size 4 1 v k (bools ((List.range k).map fun i => dryB s ps (firstM s.table + (i : Nat)))).flatten ∧ Up w1 wr) (fun _ i _ _ _ => dn - (intOf i).toNat)
  case atStart => exact ⟨0, by omega, rfl, World.ownsRow_nil _ _ _ _, Below.refl _ _⟩
  case round =>
    obtain ⟨k, hk, rfl, hown, hu⟩ := hrel
    have HO := Lib.hid hown
    have HU := Lib.hid hu
    clear hown hu
    by_cases hlt : k < dn
    · have k1 : (k : Int) < dn := by omega
      obtain ⟨b', o', e1, ch⟩ := RH.out.int k (by rw [heightsR_len, HDD.out]; omega)
      simp only [Option.some.injEq, Addr.mk.injEq, and_true] at e1
      obtain ⟨rfl, rfl⟩ := e1
      simp only [heightsR, List.getElem_map, List.getElem_range] at ch
      have CH := Lib.hid ch
      clear ch
      have ht : firstM s.table ≤ firstM s.table + (k : Int) := by omega
      have HS2 := Lib.hid (fun (p : Nat) W => HS.out (firstM s.table + k) p ht W)
      have HST2 := Lib.hid (fun (p : Nat) => HST.out (firstM s.table + k) p ht)
      go_wp2_with fail
      go_loopw [10, 11] (fun a i wy => ∃ x : Nat, x ≤ ps.length ∧ i = .int .i64 x ∧ a = .bool (dryB s (ps.take x) (firstM s.table + (k : Nat))) ∧ Up wr wy) (fun _ i _ => ps.length - (intOf i).toNat)
      case atStart => exact ⟨0, Nat.zero_le _, rfl, rfl, Below.refl _ _⟩
      case round =>
        obtain ⟨x, hx, rfl, rfl, hu⟩ := hrel
        have HUy := Lib.hid hu
        clear hu
        by_cases hlx : x < ps.length
        · have x1 : (x : Int) < ps.length := by omega
          obtain ⟨bp, op, rfl, cp⟩ := HP.out.int x hlx
          obtain ⟨p0, p1⟩ := HPS.out ps[x] (List.getElem_mem hlx)
          obtain ⟨p, hpe⟩ : ∃ p : Nat, ps[x] = p := ⟨ps[x].toNat, by omega⟩
          rw [hpe] at cp p1
          have HSN := Lib.hid (show dryB s (ps.take (x + 1)) (firstM s.table + (k : Nat)) = (dryB s (ps.take x) (firstM s.table + (k : Nat)) && (st s (firstM s.table + (k : Nat)) p == 0)) by rw [take_snoc hlx, dryB_snoc, hpe, Int.toNat_natCast])
          have p2 : (p : Int) < s.floors.length := p1
          obtain ⟨b', o', e1, cg0⟩ := HR.out.int p (by rw [gatesR_len]; omega)
          simp only [Option.some.injEq, Addr.mk.injEq, and_true] at e1
          obtain ⟨rfl, rfl⟩ := e1
          rw [gatesR_of] at cg0
          have UW := Up.trans (Up.trans U1.out HU.out) HUy.out
          obtain ⟨c0, c1, c2, c3, c4⟩ := five (BS.out.up UW)
          have cg := (Up.trans U0.out UW).cellAt cg0
          have cpp := (Up.trans U0.out UW).cellAt cp
          have chh := (Up.trans HU.out HUy.out).cellAt CH.out
          clear cg0 cp hpe p0 UW
          go_wp2_with fail
          cases hb : dryB s (ps.take x) (firstM s.table + (k : Nat)) with
          | true =>
            rw [hb] at HSN
            clear hb
            refine region_tail (fun W' => W'.cell? ⟨w.heap.size, 0, none⟩ = some (.slice pT s.table.length cT) ∧ W'.cell? ⟨w.heap.size, 1, none⟩ = some (.int .i64 s.lo) ∧ W'.cell? ⟨w.heap.size, 2, none⟩ = some (.int .i64 s.hi) ∧ W'.cell? ⟨w.heap.size, 3, none⟩ = some (.slice pF s.floors.length cF) ∧ W'.cell? ⟨w.heap.size, 4, none⟩ = some (.slice pS s.sills.length cS) ∧ W'.cell? ⟨bg, og + p, none⟩ = some (.int .i64 (gateR s p)) ∧ W'.cell? ⟨bp, op + x, none⟩ = some (.int .i64 p) ∧ W'.cell? ⟨bh, oh + k, none⟩ = some (.int .i64 (hgt s.table (firstM s.table + (k : Nat))))) 17 mixed (by kernel_rfl) ⟨c0, c1, c2, c3, c4, cg, cpp, chh⟩ (fun hHeld => ?_)
            refine wpAnyG_take 0 26 (v := ?_) rfl rfl (by kernel_rfl) (fun _ _ _ h => h) (Or.inl ⟨by rfl, ?_⟩) (by assumption) ?_
            rotate_left
            · (intro w' hSw; (try dsimp only at hSw); go_split_ands; go_simp; try with_reducible rfl)
            try simp only [List.setIfInBounds_toArray, List.set_cons_zero, List.set_cons_succ]
            refine wpAnyG_take 1 27 (v := .bool true) rfl rfl (by kernel_rfl) (fun _ _ _ h => h) (Or.inl ⟨by rfl, ?_⟩) (by assumption) ?_
            · intro w' _
              go_simp
            try simp only [List.setIfInBounds_toArray, List.set_cons_zero, List.set_cons_succ]
            refine wpAnyG_take 2 28 (v := ?_) rfl rfl (by kernel_rfl) (fun _ _ _ h => h) (Or.inl ⟨by rfl, ?_⟩) (by assumption) ?_
            rotate_left
            · (intro w' hSw; (try dsimp only at hSw); go_split_ands; go_simp; try with_reducible rfl)
            try simp only [List.setIfInBounds_toArray, List.set_cons_zero, List.set_cons_succ]
            refine wpAnyG_take 3 29 (v := ?_) rfl rfl (by kernel_rfl) (fun _ _ _ h => h) (Or.inl ⟨by rfl, ?_⟩) (by assumption) ?_
            rotate_left
            · (intro w' hSw; (try dsimp only at hSw); go_split_ands; go_simp; try with_reducible rfl)
            try simp only [List.setIfInBounds_toArray, List.set_cons_zero, List.set_cons_succ]
            refine wpAnyG_take 4 30 (v := ?_) rfl rfl (by kernel_rfl) (fun _ _ _ h => h) (Or.inl ⟨by rfl, ?_⟩) (by assumption) ?_
            rotate_left
            · (intro w' hSw; (try dsimp only at hSw); go_split_ands; go_simp; try with_reducible rfl)
            try simp only [List.setIfInBounds_toArray, List.set_cons_zero, List.set_cons_succ]
            refine wpAnyG_take 5 31 (v := ?_) rfl rfl (by kernel_rfl) (fun _ _ _ h => h) (Or.inl ⟨by rfl, ?_⟩) (by assumption) ?_
            rotate_left
            · (intro w' hSw; (try dsimp only at hSw); go_split_ands; go_simp; try with_reducible rfl)
            try simp only [List.setIfInBounds_toArray, List.set_cons_zero, List.set_cons_succ]
            refine wpAnyG_take 6 32 (v := ?_) rfl rfl (by kernel_rfl) (fun _ _ _ h => h) (Or.inl ⟨by rfl, ?_⟩) (by assumption) ?_
            rotate_left
            · (intro w' hSw; (try dsimp only at hSw); go_split_ands; go_simp; try with_reducible rfl)
            try simp only [List.setIfInBounds_toArray, List.set_cons_zero, List.set_cons_succ]
            refine wpAnyG_take 7 33 (v := ?_) rfl rfl (by kernel_rfl) (fun _ _ _ h => h) (Or.inl ⟨by rfl, ?_⟩) (by assumption) ?_
            rotate_left
            · (intro w' hSw; (try dsimp only at hSw); go_split_ands; go_simp; try with_reducible rfl)
            try simp only [List.setIfInBounds_toArray, List.set_cons_zero, List.set_cons_succ]
            refine wpAnyG_take 8 34 (v := ?_) rfl rfl (by kernel_rfl) (fun _ _ _ h => h) (Or.inl ⟨by rfl, ?_⟩) (by assumption) ?_
            rotate_left
            · (intro w' hSw; (try dsimp only at hSw); go_split_ands; go_simp; try with_reducible rfl)
            try simp only [List.setIfInBounds_toArray, List.set_cons_zero, List.set_cons_succ]
            refine wpAnyG_take 9 35 (v := ?_) rfl rfl (by kernel_rfl) (fun _ _ _ h => h) (Or.inl ⟨by rfl, ?_⟩) (by assumption) ?_
            rotate_left
            · (intro w' hSw; (try dsimp only at hSw); go_split_ands; go_simp; try with_reducible rfl)
            try simp only [List.setIfInBounds_toArray, List.set_cons_zero, List.set_cons_succ]
            refine wpAnyG_take 10 36 (v := ?_) rfl rfl (by kernel_rfl) (fun _ _ _ h => h) (Or.inl ⟨by rfl, ?_⟩) (by assumption) ?_
            rotate_left
            · (intro w' hSw; (try dsimp only at hSw); go_split_ands; go_simp; try with_reducible rfl)
            try simp only [List.setIfInBounds_toArray, List.set_cons_zero, List.set_cons_succ]
            refine wpAnyG_take 11 37 (v := ?_) rfl rfl (by kernel_rfl) (fun _ _ _ h => h) (Or.inl ⟨by rfl, ?_⟩) (by assumption) ?_
            rotate_left
            · (intro w' hSw; (try dsimp only at hSw); go_split_ands; go_simp; try with_reducible rfl)
            try simp only [List.setIfInBounds_toArray, List.set_cons_zero, List.set_cons_succ]
            refine wpAnyG_take 12 38 (v := ?_) rfl rfl (by kernel_rfl) (fun _ _ _ h => h) (Or.inl ⟨by rfl, ?_⟩) (by assumption) ?_
            rotate_left
            · (intro w' hSw; (try dsimp only at hSw); go_split_ands; go_simp; try with_reducible rfl)
            try simp only [List.setIfInBounds_toArray, List.set_cons_zero, List.set_cons_succ]
            refine wpAnyG_take 13 39 (v := ?_) rfl rfl (by kernel_rfl) (fun _ _ _ h => h) (Or.inl ⟨by rfl, ?_⟩) (by assumption) ?_
            rotate_left
            · (intro w' hSw; (try dsimp only at hSw); go_split_ands; go_simp; try with_reducible rfl)
            try simp only [List.setIfInBounds_toArray, List.set_cons_zero, List.set_cons_succ]
            refine wpAnyG_do 14 rfl (by kernel_rfl) (fun K hK => ?_)
            rw [if_pos (by rfl)]
            go_simp
            refine (HS2.out p _).mono ?_
            rintro e wa ⟨rfl, va⟩
            rw [HST2.out p]
            have v1 := Up.trans (show Up wr wr.drew by (repeat (first | exact Below.refl _ _ | (with_reducible refine Below.drewN' ?_ _) | (with_reducible refine Below.drew ?_) | (with_reducible refine Below.setCell ?_ (by first | exact Nat.le_refl _ | omega | (with_reducible (repeat (first | refine sz_alloc ?_ | refine sz_setCell ?_ | refine sz_drew ?_ | refine sz_drewN ?_)); first | exact Nat.le_refl _ | omega) | (simp only [World.size_alloc, World.size_setCell, World.size_drew, size_drewN']; omega)) _) | (with_reducible refine Below.alloc ?_ (by first | exact Nat.le_refl _ | omega | (with_reducible (repeat (first | refine sz_alloc ?_ | refine sz_setCell ?_ | refine sz_drew ?_ | refine sz_drewN ?_)); first | exact Nat.le_refl _ | omega) | (simp only [World.size_alloc, World.size_setCell, World.size_drew, size_drewN']; omega)) _) | assumption))) va
            refine hK.out _ _ ⟨v1.cellAt c0, v1.cellAt c1, v1.cellAt c2, v1.cellAt c3, v1.cellAt c4, v1.cellAt cg, v1.cellAt cpp, v1.cellAt chh⟩ (fun hHeld => ?_)
            clear hK K va
            have V1 := Lib.hid (Up.trans HUy.out v1)
            clear v1
            refine wpAnyG_take 15 41 (v := .bool (st s (firstM s.table + (k : Nat)) p == 0)) rfl rfl (by kernel_rfl) (fun _ _ _ h => h) (Or.inl ⟨by rfl, ?_⟩) (by assumption) ?_
            · intro w' _
              go_simp
            try simp only [List.setIfInBounds_toArray, List.set_cons_zero, List.set_cons_succ]
            refine wpAnyG_take 16 42 (v := ?_) rfl rfl (by kernel_rfl) (fun _ _ _ h => h) (Or.inl ⟨by rfl, ?_⟩) (by assumption) ?_
            rotate_left
            · (intro w' hSw; (try dsimp only at hSw); go_split_ands; go_simp; try with_reducible rfl)
            try simp only [List.setIfInBounds_toArray, List.set_cons_zero, List.set_cons_succ]
            refine wpAnyG_tail (by kernel_rfl) ?_
            change wpList _ _ _ [_] _ _
            clear hHeld c0 c1 c2 c3 c4 cg cpp chh
            go_wp2_with fail
            go_roundw
            case rel =>
              try ((repeat apply Exists.intro); refine ⟨?_, rfl⟩)
              exact ⟨x + 1, by omega, by go_num, by rw [HSN.out, Bool.true_and], V1.out⟩
            case measure => simp [intOf]; omega
          | false =>
            rw [hb] at HSN
            clear hb
            refine region_tail (fun _ => True) 17 mixed (by kernel_rfl) trivial (fun hHeld => ?_)
            refine wpAnyG_take 0 26 (v := ?_) rfl rfl (by kernel_rfl) (fun _ _ _ h => h) (Or.inl ⟨by rfl, ?_⟩) (by assumption) ?_
            rotate_left
            · (intro w' hSw; (try dsimp only at hSw); go_split_ands; go_simp; try with_reducible rfl)
            try simp only [List.setIfInBounds_toArray, List.set_cons_zero, List.set_cons_succ]
            refine wpAnyG_take 1 27 (v := .bool false) rfl rfl (by kernel_rfl) (fun _ _ _ h => h) (Or.inl ⟨by rfl, ?_⟩) (by assumption) ?_
            · intro w' _
              go_simp
            try simp only [List.setIfInBounds_toArray, List.set_cons_zero, List.set_cons_succ]
            refine wpAnyG_take 2 28 (v := undef) rfl rfl (by kernel_rfl) (fun _ _ _ h => h) (Or.inr ⟨by rfl, rfl⟩) (by assumption) ?_
            try simp only [List.setIfInBounds_toArray, List.set_cons_zero, List.set_cons_succ]
            refine wpAnyG_take 3 29 (v := undef) rfl rfl (by kernel_rfl) (fun _ _ _ h => h) (Or.inr ⟨by rfl, rfl⟩) (by assumption) ?_
            try simp only [List.setIfInBounds_toArray, List.set_cons_zero, List.set_cons_succ]
            refine wpAnyG_take 4 30 (v := undef) rfl rfl (by kernel_rfl) (fun _ _ _ h => h) (Or.inr ⟨by rfl, rfl⟩) (by assumption) ?_
            try simp only [List.setIfInBounds_toArray, List.set_cons_zero, List.set_cons_succ]
            refine wpAnyG_take 5 31 (v := undef) rfl rfl (by kernel_rfl) (fun _ _ _ h => h) (Or.inr ⟨by rfl, rfl⟩) (by assumption) ?_
            try simp only [List.setIfInBounds_toArray, List.set_cons_zero, List.set_cons_succ]
            refine wpAnyG_take 6 32 (v := undef) rfl rfl (by kernel_rfl) (fun _ _ _ h => h) (Or.inr ⟨by rfl, rfl⟩) (by assumption) ?_
            try simp only [List.setIfInBounds_toArray, List.set_cons_zero, List.set_cons_succ]
            refine wpAnyG_take 7 33 (v := undef) rfl rfl (by kernel_rfl) (fun _ _ _ h => h) (Or.inr ⟨by rfl, rfl⟩) (by assumption) ?_
            try simp only [List.setIfInBounds_toArray, List.set_cons_zero, List.set_cons_succ]
            refine wpAnyG_take 8 34 (v := undef) rfl rfl (by kernel_rfl) (fun _ _ _ h => h) (Or.inr ⟨by rfl, rfl⟩) (by assumption) ?_
            try simp only [List.setIfInBounds_toArray, List.set_cons_zero, List.set_cons_succ]
            refine wpAnyG_take 9 35 (v := undef) rfl rfl (by kernel_rfl) (fun _ _ _ h => h) (Or.inr ⟨by rfl, rfl⟩) (by assumption) ?_
            try simp only [List.setIfInBounds_toArray, List.set_cons_zero, List.set_cons_succ]
            refine wpAnyG_take 10 36 (v := undef) rfl rfl (by kernel_rfl) (fun _ _ _ h => h) (Or.inr ⟨by rfl, rfl⟩) (by assumption) ?_
            try simp only [List.setIfInBounds_toArray, List.set_cons_zero, List.set_cons_succ]
            refine wpAnyG_take 11 37 (v := undef) rfl rfl (by kernel_rfl) (fun _ _ _ h => h) (Or.inr ⟨by rfl, rfl⟩) (by assumption) ?_
            try simp only [List.setIfInBounds_toArray, List.set_cons_zero, List.set_cons_succ]
            refine wpAnyG_take 12 38 (v := undef) rfl rfl (by kernel_rfl) (fun _ _ _ h => h) (Or.inr ⟨by rfl, rfl⟩) (by assumption) ?_
            try simp only [List.setIfInBounds_toArray, List.set_cons_zero, List.set_cons_succ]
            refine wpAnyG_take 13 39 (v := undef) rfl rfl (by kernel_rfl) (fun _ _ _ h => h) (Or.inr ⟨by rfl, rfl⟩) (by assumption) ?_
            try simp only [List.setIfInBounds_toArray, List.set_cons_zero, List.set_cons_succ]
            refine wpAnyG_take 14 40 (v := undef) rfl rfl (by kernel_rfl) (fun _ _ _ h => h) (Or.inr ⟨by rfl, rfl⟩) (by assumption) ?_
            try simp only [List.setIfInBounds_toArray, List.set_cons_zero, List.set_cons_succ]
            refine wpAnyG_take 15 41 (v := undef) rfl rfl (by kernel_rfl) (fun _ _ _ h => h) (Or.inr ⟨by rfl, rfl⟩) (by assumption) ?_
            try simp only [List.setIfInBounds_toArray, List.set_cons_zero, List.set_cons_succ]
            refine wpAnyG_take 16 42 (v := ?_) rfl rfl (by kernel_rfl) (fun _ _ _ h => h) (Or.inl ⟨by rfl, ?_⟩) (by assumption) ?_
            rotate_left
            · (intro w' hSw; (try dsimp only at hSw); go_split_ands; go_simp; try with_reducible rfl)
            try simp only [List.setIfInBounds_toArray, List.set_cons_zero, List.set_cons_succ]
            refine wpAnyG_tail (by kernel_rfl) ?_
            change wpList _ _ _ [_] _ _
            clear hHeld c0 c1 c2 c3 c4 cg cpp chh
            go_wp2_with fail
            go_roundw
            case rel =>
              try ((repeat apply Exists.intro); refine ⟨?_, rfl⟩)
              exact ⟨x + 1, by omega, by go_num, by rw [HSN.out, Bool.false_and], by have := HUy.out; (repeat (first | exact Below.refl _ _ | (with_reducible refine Below.drewN' ?_ _) | (with_reducible refine Below.drew ?_) | (with_reducible refine Below.setCell ?_ (by first | exact Nat.le_refl _ | omega | (with_reducible (repeat (first | refine sz_alloc ?_ | refine sz_setCell ?_ | refine sz_drew ?_ | refine sz_drewN ?_)); first | exact Nat.le_refl _ | omega) | (simp only [World.size_alloc, World.size_setCell, World.size_drew, size_drewN']; omega)) _) | (with_reducible refine Below.alloc ?_ (by first | exact Nat.le_refl _ | omega | (with_reducible (repeat (first | refine sz_alloc ?_ | refine sz_setCell ?_ | refine sz_drew ?_ | refine sz_drewN ?_)); first | exact Nat.le_refl _ | omega) | (simp only [World.size_alloc, World.size_setCell, World.size_drew, size_drewN']; omega)) _) | assumption))⟩
            case measure => simp [intOf]; omega
        · obtain rfl : x = ps.length := by omega
          rw [List.take_length]
          obtain ⟨db, hdb⟩ : ∃ db, dryB s ps (firstM s.table + (k : Nat)) = db := ⟨_, rfl⟩
          have HDB := Lib.hid hdb
          rw [hdb]
          clear hdb
          have O2 := Lib.hid (ownsRow_up HO.out HUy.out)
          have U2 := Lib.hid (Up.trans HU.out HUy.out)
          have hsz := U2.out.size
          have sk : IntKind.i64.wrap ((k : Int) + 1) = (k : Int) + 1 := IntWalk.i64_in _ (by omega)
          clear HO HU HUy
          go_wp2_with (at_builtin; refine wpList_append_own _ rfl _ _ 44 rfl w1.heap.size 4 i0 (.bool false) 1 1 Tryz.underlying44 hi hz0 hz1 hz2 rfl (by decide) _ _ _ rfl (O2.out.alloc _) ⟨wr.heap.size, 0, none⟩ 1 1 [.bool db] rfl rfl (newsAt _ rfl [.bool db] _) (by simp [Value.oneCell']) (by simp [maxLen]; omega) (by omega) (sz_alloc hsz) ?_; intro v' w8 hown8 hgr8 hnn; clear hnn)
          have U8 := Lib.hid ((U2.out.alloc hsz _).grown hgr8 (sz_alloc hsz) (fun j e => (O2.out.lt j e).1))
          have O8 := Lib.hid hown8
          clear hown8 hgr8
          go_roundw
          case rel =>
            try ((repeat apply Exists.intro); refine ⟨?_, rfl⟩)
            refine ⟨k + 1, by omega, by go_num, ?_, U8.out⟩
            have e : (bools ((List.range (k + 1)).map fun i => dryB s ps (firstM s.table + (i : Nat)))).flatten = (bools ((List.range k).map fun i => dryB s ps (firstM s.table + (i : Nat)))).flatten ++ [.bool db] := by
              rw [List.range_succ, List.map_append]
              unfold bools
              rw [List.map_append, List.flatten_append, ← HDB.out]
              rfl
            rw [e]
            exact O8.out
          case measure => simp [intOf]; omega
    · obtain rfl : k = dn := by omega
      obtain ⟨q', d', rfl, a1, a2, hR, -⟩ := Row.of_own (rows := bools (togR s ps)) (flatOk_bools _) (show wr.ownsRow w1.heap.size 4 1 _ _ (bools (togR s ps)).flatten by unfold togR; rw [HDD.out]; exact HO.out) (by simp [bools, togR, HDD.out])
      go_wp2_with fail
      go_ret
      rw [HDD.out]
      exact ⟨q', d', rfl, a1, a2, hR, Up.trans U0.out (Up.trans U1.out HU.out)⟩

set_option maxRecDepth 100000 in
set_option maxHeartbeats 2000000 in
theorem refLongest_c (s : Sd) (ps : List Int) (n : Nat) (q : Option Addr) (d : Nat) (w : World) (hn : (togR s ps).length = n) (ok : Ok s) (hl : Lists w s pT pF pS cT cF cS) (hr : Row w q 1 (bools (togR s ps))) :
    Calls Tryz.prog 18 #[sdVal s pT pF pS cT cF cS, .slice q n d] w fun e w' => e = .returned (.tuple #[.agg #[.int .i64 (longV (drySpans s ps)).1, .int .i64 (longV (drySpans s ps)).2], .bool (decide (drySpans s ps ≠ []))]) ∧ Up w w' := by
  have hd : n = dayN s := by rw [← hn, togR_len]
  subst hd
  have OK := Lib.hid ok
  have HSP := Lib.hid (fun W (u : Up w W) => refSpans_c s (dryB s ps) (togR s ps) (dayN s) q d W hn rfl ok (hl.up u) (hr.up u) (fun j hj => togR_tr s ps j hj))
  clear hl hr hn
  unfold sdVal at *
  go_enter Tryz.func18, Tryz.ntmps18
  go_wp2_with fail
  refine Calls.world ?_
  intro w0 hw0
  have u0 : Up w w0 := by rw [hw0]; (repeat (first | exact Below.refl _ _ | (with_reducible refine Below.drewN' ?_ _) | (with_reducible refine Below.drew ?_) | (with_reducible refine Below.setCell ?_ (by first | exact Nat.le_refl _ | omega | (with_reducible (repeat (first | refine sz_alloc ?_ | refine sz_setCell ?_ | refine sz_drew ?_ | refine sz_drewN ?_)); first | exact Nat.le_refl _ | omega) | (simp only [World.size_alloc, World.size_setCell, World.size_drew, size_drewN']; omega)) _) | (with_reducible refine Below.alloc ?_ (by first | exact Nat.le_refl _ | omega | (with_reducible (repeat (first | refine sz_alloc ?_ | refine sz_setCell ?_ | refine sz_drew ?_ | refine sz_drewN ?_)); first | exact Nat.le_refl _ | omega) | (simp only [World.size_alloc, World.size_setCell, World.size_drew, size_drewN']; omega)) _) | assumption))
  have hR : Blk w0 (w.heap.size + 1) [.int .i64 0, .int .i64 0] 24 := by rw [hw0]; exact Blk.new' _ [.int .i64 0, .int .i64 0] _ (by simp)
  clear hw0
  refine (HSP.out w0 u0).mono ?_
  rintro e w1 ⟨ql, dl, rfl, -, -, rl, u1⟩
  have NR := Lib.hid (span_near OK.out ps)
  have hln : (drySpans s ps).length ≤ dayN s + 1 := spansOf_len _ _ _
  have hdn : dayN s ≤ 1441 := by have := firstM_lt OK.out.table; unfold dayN; omega
  have RUN := Lib.hid (fun x (hx : x ∈ drySpans s ps) => ((spans_run (dryB s ps) (firstM s.table) (dayN s)).1 x hx).le)
  have U1 := Lib.hid (Up.trans u0 u1)
  have R1 := Lib.hid (hR.up u1)
  have hde : drySpans s ps = spansOf (dryB s ps) (firstM s.table) (dayN s) := rfl
  rw [hde] at NR hln RUN
  have HDE := Lib.hid hde
  obtain ⟨ds, hds⟩ : ∃ ds, spansOf (dryB s ps) (firstM s.table) (dayN s) = ds := ⟨_, rfl⟩
  rw [hds] at NR hln RUN rl HDE
  rw [hds]
  have RL := Lib.hid rl
  clear hde hds rl u0 u1 hR
  cases ds with
  | nil =>
    have r0 := R1.out.cell 0
    have r1 := R1.out.cell 1
    have rl := R1.out.lt
    have rf := R1.out.free
    simp only [List.getElem?_cons_zero, List.getElem?_cons_succ] at r0 r1
    go_wp2_with fail
    have h := (R1.out.set 0 (.int .i64 0)).set 1 (.int .i64 0)
    have p0 := h.cell 0
    have p1 := h.cell 1
    simp only [List.set_cons_zero, List.set_cons_succ, List.getElem?_cons_zero, List.getElem?_cons_succ] at p0 p1
    refine bodyPost_ret (v := .tuple #[.agg #[.int .i64 0, .int .i64 0], .bool false]) (by simp [results, Tryz.f18, go_sem, p0, p1]) rfl ⟨by rw [HDE.out]; rfl, ?_⟩
    exact (U1.out.setCell (by simp only []; omega) _).setCell (by simp only []; omega) _
  | cons a r =>
    obtain ⟨bl, ol, rfl, a0, a1⟩ := RL.out.pair 0 (by simp)
    simp only [Nat.zero_mul, Nat.add_zero, List.getElem_cons_zero] at a0 a1
    have al := cell_lt a0
    have hlen : (a :: r).length = r.length + 1 := rfl
    have g0 : ¬ (((a :: r).length : Int) = 0) := by omega
    have g1 : (((a :: r).length : Int) == 0) = false := beq_eq_false_iff_ne.2 g0
    have g2 : (0 : Int) < ((a :: r).length : Int) := by omega
    go_wp2_with fail
    have BX : Hid (Blk (w1.alloc (.cells #[.int .i64 a.1, .int .i64 a.2] 24)) w1.heap.size [.int .i64 a.1, .int .i64 a.2] 24) := Lib.hid (Blk.new w1 [.int .i64 a.1, .int .i64 a.2] _)
    have UX : Hid (Up w1 (w1.alloc (.cells #[.int .i64 a.1, .int .i64 a.2] 24))) := Lib.hid (by (repeat (first | exact Below.refl _ _ | (with_reducible refine Below.drewN' ?_ _) | (with_reducible refine Below.drew ?_) | (with_reducible refine Below.setCell ?_ (by first | exact Nat.le_refl _ | omega | (with_reducible (repeat (first | refine sz_alloc ?_ | refine sz_setCell ?_ | refine sz_drew ?_ | refine sz_drewN ?_)); first | exact Nat.le_refl _ | omega) | (simp only [World.size_alloc, World.size_setCell, World.size_drew, size_drewN']; omega)) _) | (with_reducible refine Below.alloc ?_ (by first | exact Nat.le_refl _ | omega | (with_reducible (repeat (first | refine sz_alloc ?_ | refine sz_setCell ?_ | refine sz_drew ?_ | refine sz_drewN ?_)); first | exact Nat.le_refl _ | omega) | (simp only [World.size_alloc, World.size_setCell, World.size_drew, size_drewN']; omega)) _) | assumption)))
    generalize (w1.alloc (.cells #[.int .i64 a.1, .int .i64 a.2] 24)) = w2 at *
    clear a0 a1
    go_loopw [8] (fun i wr => ∃ k : Nat, 1 ≤ k ∧ k ≤ (a :: r).length ∧ i = .int .i64 k ∧ Blk wr w1.heap.size [.int .i64 (((a :: r).take k).foldl longStep a).1, .int .i64 (((a :: r).take k).foldl longStep a).2] 24 ∧ Up w1 wr) (fun i _ => (a :: r).length - (intOf i).toNat)
    case atStart =>
      have hfirst : longStep a a = a := by unfold longStep; rw [if_neg (by omega)]
      exact ⟨1, Nat.le_refl _, by omega, rfl, by show Blk _ _ [.int .i64 (longStep a a).1, .int .i64 (longStep a a).2] _; rw [hfirst]; exact BX.out, UX.out⟩
    case round =>
      obtain ⟨k, k1, hk, rfl, hb, hu⟩ := hrel
      have HB := Lib.hid hb
      have HU := Lib.hid hu
      clear hb hu
      by_cases hlt : k < (a :: r).length
      · have q1 : (k : Int) < ((a :: r).length : Int) := by omega
        obtain ⟨b', o', e1, x0, x1⟩ := (RL.out.up HU.out).pair k hlt
        simp only [Option.some.injEq, Addr.mk.injEq, and_true] at e1
        obtain ⟨rfl, rfl⟩ := e1
        have hxm := List.getElem_mem hlt
        have hx1 := RUN.out _ hxm
        obtain ⟨n1, n2, n3, n4⟩ := NR.out _ hxm
        have hst : ((a :: r).take (k + 1)).foldl longStep a = longStep (((a :: r).take k).foldl longStep a) (a :: r)[k] := by
          rw [List.take_add_one, List.getElem?_eq_getElem hlt, List.foldl_append]; rfl
        have HST := Lib.hid hst
        have hbm : ((a :: r).take k).foldl longStep a ∈ a :: r := by
          rcases (long_fold ((a :: r).take k) a).1 with h | h
          · rw [h]; simp
          · exact List.mem_of_mem_take h
        have hb1 := RUN.out _ hbm
        obtain ⟨m1, m2, m3, m4⟩ := NR.out _ hbm
        clear hst hbm hxm
        generalize ((a :: r).take k).foldl longStep a = b at *
        generalize (a :: r)[k] = x at *
        have hsz : longStep b x = if b.2 - b.1 < x.2 - x.1 then x else b := by
          unfold longStep siz
          by_cases h : b.2 - b.1 < x.2 - x.1
          · rw [if_pos h, if_pos (by omega)]
          · rw [if_neg h, if_neg (by omega)]
        have HSZ := Lib.hid hsz
        have y0 := HB.out.cell 0
        have y1 := HB.out.cell 1
        have yl := HB.out.lt
        have yf := HB.out.free
        simp only [List.getElem?_cons_zero, List.getElem?_cons_succ] at y0 y1
        have s1 : IntKind.i64.wrap (x.2 - x.1) = x.2 - x.1 := IntWalk.i64_in _ (by omega)
        have s2 : IntKind.i64.wrap (b.2 - b.1) = b.2 - b.1 := IntWalk.i64_in _ (by omega)
        have s3 : IntKind.i64.wrap ((k : Int) + 1) = (k : Int) + 1 := IntWalk.i64_in _ (by omega)
        clear hsz
        by_cases hc : b.2 - b.1 < x.2 - x.1
        · go_wp2_with fail
          go_quiet (fail)
          go_wp2
          go_roundw
          case rel =>
            try ((repeat apply Exists.intro); refine ⟨?_, rfl⟩)
            refine ⟨k + 1, by omega, by omega, by go_num, ?_, by have := HU.out; (repeat (first | exact Below.refl _ _ | (with_reducible refine Below.drewN' ?_ _) | (with_reducible refine Below.drew ?_) | (with_reducible refine Below.setCell ?_ (by first | exact Nat.le_refl _ | omega | (with_reducible (repeat (first | refine sz_alloc ?_ | refine sz_setCell ?_ | refine sz_drew ?_ | refine sz_drewN ?_)); first | exact Nat.le_refl _ | omega) | (simp only [World.size_alloc, World.size_setCell, World.size_drew, size_drewN']; omega)) _) | (with_reducible refine Below.alloc ?_ (by first | exact Nat.le_refl _ | omega | (with_reducible (repeat (first | refine sz_alloc ?_ | refine sz_setCell ?_ | refine sz_drew ?_ | refine sz_drewN ?_)); first | exact Nat.le_refl _ | omega) | (simp only [World.size_alloc, World.size_setCell, World.size_drew, size_drewN']; omega)) _) | assumption))⟩
            rw [HST.out, HSZ.out, if_pos hc]
            have h := (HB.out.set 0 (.int .i64 x.1)).set 1 (.int .i64 x.2)
            simp only [List.set_cons_zero, List.set_cons_succ] at h
            exact h
          case measure => simp [intOf]; omega
        · go_wp2_with fail
          go_quiet (fail)
          go_wp2
          go_roundw
          case rel =>
            try ((repeat apply Exists.intro); refine ⟨?_, rfl⟩)
            refine ⟨k + 1, by omega, by omega, by go_num, ?_, by have := HU.out; (repeat (first | exact Below.refl _ _ | (with_reducible refine Below.drewN' ?_ _) | (with_reducible refine Below.drew ?_) | (with_reducible refine Below.setCell ?_ (by first | exact Nat.le_refl _ | omega | (with_reducible (repeat (first | refine sz_alloc ?_ | refine sz_setCell ?_ | refine sz_drew ?_ | refine sz_drewN ?_)); first | exact Nat.le_refl _ | omega) | (simp only [World.size_alloc, World.size_setCell, World.size_drew, size_drewN']; omega)) _) | (with_reducible refine Below.alloc ?_ (by first | exact Nat.le_refl _ | omega | (with_reducible (repeat (first | refine sz_alloc ?_ | refine sz_setCell ?_ | refine sz_drew ?_ | refine sz_drewN ?_)); first | exact Nat.le_refl _ | omega) | (simp only [World.size_alloc, World.size_setCell, World.size_drew, size_drewN']; omega)) _) | assumption))⟩
            rw [HST.out, HSZ.out, if_neg (by omega)]
            exact HB.out
          case measure => simp [intOf]; omega
      · obtain rfl : k = (a :: r).length := by omega
        have HL : Hid (((a :: r).take (a :: r).length).foldl longStep a = longV (drySpans s ps)) := by
          show _ = _
          rw [HDE.out, List.take_length]
          rfl
        have HNE : Hid (decide (drySpans s ps ≠ []) = true) := by
          show _ = _
          rw [HDE.out]
          exact decide_eq_true (by simp)
        obtain ⟨z, hz⟩ : ∃ z, longV (drySpans s ps) = z := ⟨_, rfl⟩
        rw [HL.out, hz] at HB
        have HZ := Lib.hid hz
        clear hz HL
        have R2 := Lib.hid (R1.out.up HU.out)
        have U2 := Lib.hid (Up.trans U1.out HU.out)
        have y0 := HB.out.cell 0
        have y1 := HB.out.cell 1
        have yl := HB.out.lt
        have r0 := R2.out.cell 0
        have r1 := R2.out.cell 1
        have rl := R2.out.lt
        have rf := R2.out.free
        simp only [List.getElem?_cons_zero, List.getElem?_cons_succ] at y0 y1 r0 r1
        go_wp2_with fail
        have h := (R2.out.set 0 (.int .i64 z.1)).set 1 (.int .i64 z.2)
        have p0 := h.cell 0
        have p1 := h.cell 1
        simp only [List.set_cons_zero, List.set_cons_succ, List.getElem?_cons_zero, List.getElem?_cons_succ] at p0 p1
        refine bodyPost_ret (v := .tuple #[.agg #[.int .i64 z.1, .int .i64 z.2], .bool true]) (by simp [results, Tryz.f18, go_sem, p0, p1]) rfl ⟨by rw [HNE.out, HZ.out], ?_⟩
        exact (U2.out.setCell (by simp only []; omega) _).setCell (by simp only []; omega) _
end
end Go.Proofs.YtknaajofcbenaaaGreat
/- Plain facts: until when a place is dry, as the reference finds it. -/
namespace Go.Proofs.YtknaajofcbenaaaGreat
open Go.RowKit Go.Shelf
section
variable {s : Sd}
theorem says_tr (ok : Ok s) (p j : Nat) (hj : j < dayN s) : tr (saysR s (gateR s p) 0) j = (st s (firstM s.table + (j : Int)) p == 0) := by
  obtain ⟨f0, f1, f2⟩ := firstM_lt ok.table
  have hg := hgt_rng ok.table (firstM s.table + (j : Int)) (by omega)
  unfold tr saysR
  rw [List.getElem?_map, List.getElem?_range hj]
  show sayR s (gateR s p) 0 j = _
  unfold sayR
  rw [stR_of ok _ p hg.1 hg.2]
theorem errTurn_of (ok : Ok s) {p : Nat} (hp : p < s.floors.length) {m : Int} (hm : inDay s m = true) : errTurn s p m = (match turnIn (drySpans s [(p : Int)]) m with | some _ => 0 | none => 6) ∧ turnV s p m = (turnIn (drySpans s [(p : Int)]) m).getD 0 := by
  have hE : errFor s p = 0 := by
    unfold errFor
    rw [if_pos (chk_zero ok), show isPl s p = true from inB_true.2 ⟨by omega, by omega⟩]
    rfl
  unfold errTurn turnV
  rw [if_pos hE, if_pos hm, if_pos hE, if_pos hm]
  exact ⟨rfl, rfl⟩
theorem run_no (ok : Ok s) {p : Nat} (hp : p < s.floors.length) {k : Nat} (hk : k < dayN s) (hm : inDay s (firstM s.table + k) = true) (h : tr (saysR s (gateR s p) 0) k = false) : errTurn s p (firstM s.table + k) = 6 ∧ turnV s p (firstM s.table + k) = 0 := by
  rw [says_tr ok p k hk] at h
  have h6 := (turn_in ok (x := p) ⟨by omega, by omega⟩ hm).2 (by rw [Int.toNat_natCast]; simpa using h)
  obtain ⟨e1, e2⟩ := errTurn_of ok hp hm
  refine ⟨h6, ?_⟩
  rw [e2]
  rw [e1] at h6
  cases ht : turnIn (drySpans s [(p : Int)]) (firstM s.table + k) with
  | none => rfl
  | some t => rw [ht] at h6; cases h6
theorem run_yes (ok : Ok s) {p : Nat} (hp : p < s.floors.length) {k lo hi : Nat} (hm : inDay s (firstM s.table + k) = true) (h : RunAt (saysR s (gateR s p) 0) k lo hi) : errTurn s p (firstM s.table + k) = 0 ∧ turnV s p (firstM s.table + k) = firstM s.table + hi := by
  obtain ⟨f0, f1, f2⟩ := firstM_lt ok.table
  have hdn : ((dayN s : Nat) : Int) = lastM s.table - firstM s.table + 1 := by unfold dayN; omega
  obtain ⟨h1, h2, h3, h4, -, h6⟩ := h
  rw [saysR_len] at h3 h6
  have hk : k < dayN s := by omega
  have hst := h4 k h1 h2
  rw [says_tr ok p k hk] at hst
  obtain ⟨e0, r1, r2, r3, r4⟩ := (turn_in ok (x := p) ⟨by omega, by omega⟩ hm).1 (by rw [Int.toNat_natCast]; simpa using hst)
  refine ⟨e0, ?_⟩
  rw [Int.toNat_natCast] at r3 r4
  by_cases hc : turnV s p (firstM s.table + k) < firstM s.table + hi
  · exfalso
    have hn : turnV s p (firstM s.table + k) + 1 < lastM s.table + 1 := by omega
    have hf := r4 hn
    dsimp only at hf
    have ht := h4 (turnV s p (firstM s.table + k) + 1 - firstM s.table).toNat (by omega) (by omega)
    rw [says_tr ok p _ (by omega), show firstM s.table + (((turnV s p (firstM s.table + k) + 1 - firstM s.table).toNat : Nat) : Int) = turnV s p (firstM s.table + k) + 1 by omega] at ht
    rw [ht] at hf
    cases hf
  · by_cases hd : firstM s.table + hi < turnV s p (firstM s.table + k)
    · exfalso
      have ht := r3 (firstM s.table + ((hi + 1 : Nat) : Int)) (by omega) (by omega)
      dsimp only at ht
      rcases h6 with h6 | h6
      · omega
      · rw [says_tr ok p _ (by omega)] at h6
        rw [h6] at ht
        cases ht
    · omega
end
end Go.Proofs.YtknaajofcbenaaaGreat
namespace Go.Proofs.YtknaajofcbenaaaGreat
open Go.RowKit Go.Shelf
def putR (V : Nat → Value) (i : Nat) (v : Value) : Nat → Value := fun k => if k = i then v else V k
theorem putR_same (V : Nat → Value) (i : Nat) (v : Value) : putR V i v i = v := by simp [putR]
theorem putR_other (V : Nat → Value) {i k : Nat} (v : Value) (h : k ≠ i) : putR V i v k = V k := by simp [putR, h]
theorem updr_same (done : Nat → Bool) (i : Nat) : upd done i i = true := by simp [upd]
theorem updr_other (done : Nat → Bool) {i k : Nat} (h : k ≠ i) : upd done i k = done k := by simp [upd, h]
def tupR (a b : Int) (t : Bool) : Value := .tuple #[.agg #[.int .i64 a, .int .i64 b], .bool t]
/-- what Run says -/
def RunF (F : Int) (l : List Bool) (k : Nat) (a b : Int) (t : Bool) : Prop := (t = false ∧ a = 0 ∧ b = 0 ∧ tr l k = false) ∨ (t = true ∧ ∃ lo hi, RunAt l k lo hi ∧ a = F + (lo : Nat) ∧ b = F + (hi : Nat))
theorem RunF.of {F : Int} {l : List Bool} {k : Nat} {e : Ending} (h : RunEnd F l k e) : ∃ a b t, e = .returned (tupR a b t) ∧ RunF F l k a b t := by
  rcases h with ⟨h1, rfl⟩ | ⟨lo, hi, h1, rfl⟩
  · exact ⟨0, 0, false, rfl, .inl ⟨rfl, rfl, rfl, h1⟩⟩
  · exact ⟨_, _, true, rfl, .inr ⟨rfl, lo, hi, h1, rfl, rfl⟩⟩
def P14 (val sl : Value) (p : Nat) (ga : Addr) (g m : Int) : Nat → Value → Prop
  | 0, v => v = val
  | 1, v => v = val
  | 2, v => v = sl
  | 3, v => v = .int .i64 (p : Nat)
  | 4, v => v = .pointer (some ga)
  | 5, v => v = .int .i64 g
  | 7, v => v = .int .i64 m
  | _, _ => True
structure Rn (x5 : World) (F : Int) (l : List Bool) (n k : Nat) (P : Nat → Value → Prop) (done : Nat → Bool) (W : World) (V : Nat → Value) : Prop where
  up : Up x5 W
  c : ∀ i, done i = true → P i (V i)
  six : done 8 = false → done 6 = true → ∃ q d, V 6 = .slice q n d ∧ Row W q 1 (bools l)
  o6 : done 8 = true → done 6 = true
  res : ∃ a b t, (done 8 = true → RunF F l k a b t ∧ V 8 = tupR a b t) ∧ (done 9 = true → done 8 = true ∧ V 9 = tupR a b t) ∧ (done 10 = true → done 9 = true ∧ V 10 = .agg #[.int .i64 a, .int .i64 b]) ∧ (done 11 = true → done 9 = true ∧ V 11 = .bool t) ∧
    (done 12 = true → ∃ Y, V 12 = .pointer (some ⟨Y, 0, none⟩) ∧ x5.heap.size ≤ Y ∧ Blk W Y (if done 13 = true then [.int .i64 a, .int .i64 b] else [.int .i64 0, .int .i64 0]) 24) ∧ (done 13 = true → done 12 = true ∧ done 10 = true)
section
variable {x5 W W' : World} {F : Int} {l : List Bool} {n k : Nat} {P : Nat → Value → Prop} {done : Nat → Bool} {V : Nat → Value}
theorem Rn.start (w : World) (V : Nat → Value) : Rn w F l n k P (fun _ => false) w.drew V :=
  ⟨(Below.refl _ _).drew, (fun i h => (by cases h)), (fun _ h => (by cases h)), (fun h => (by cases h)), 0, 0, false, (fun h => (by cases h)), (fun h => (by cases h)), (fun h => (by cases h)), (fun h => (by cases h)), (fun h => (by cases h)), (fun h => (by cases h))⟩
theorem Rn.cup (h : Rn x5 F l n k P done W V) {i : Nat} {v : Value} (hv : P i v) : ∀ j, upd done i j = true → P j (putR V i v j) := fun j hj => by
  by_cases e : j = i
  · subst e; rw [putR_same]; exact hv
  · rw [putR_other V v e]; exact h.c j (by rw [updr_other done e] at hj; exact hj)
/-- a load or a move -/
theorem Rn.keep (h : Rn x5 F l n k P done W V) (i : Nat) (hi : i < 6 ∨ i = 7) {v : Value} (hv : P i v) : Rn x5 F l n k P (upd done i) W (putR V i v) := by
  have q : ∀ j, 6 ≤ j → j ≠ 7 → j ≠ i := fun j h1 h2 => by omega
  obtain ⟨a, b, t, r8, r9, r10, r11, r12, r13⟩ := h.res
  refine ⟨h.up, h.cup hv, ?_, (by rw [updr_other done (q 8 (by decide) (by decide)), updr_other done (q 6 (by decide) (by decide))]; exact h.o6), a, b, t, ?_⟩
  · rw [updr_other done (q 8 (by decide) (by decide)), updr_other done (q 6 (by decide) (by decide)), putR_other V v (q 6 (by decide) (by decide))]; exact h.six
  · rw [updr_other done (q 8 (by decide) (by decide)), updr_other done (q 9 (by decide) (by decide)), updr_other done (q 10 (by decide) (by decide)), updr_other done (q 11 (by decide) (by decide)), updr_other done (q 12 (by decide) (by decide)), updr_other done (q 13 (by decide) (by decide)),
      putR_other V v (q 8 (by decide) (by decide)), putR_other V v (q 9 (by decide) (by decide)), putR_other V v (q 10 (by decide) (by decide)), putR_other V v (q 11 (by decide) (by decide)), putR_other V v (q 12 (by decide) (by decide))]
    exact ⟨r8, r9, r10, r11, r12, r13⟩
theorem Rn.call6 (h : Rn x5 F l n k P done W V) (_ : done 8 = false) (u : Up W W') {q : Option Addr} {d : Nat} (r : Row W' q 1 (bools l)) (hp : P 6 (.slice q n d)) : Rn x5 F l n k P (upd done 6) W' (putR V 6 (.slice q n d)) := by
  obtain ⟨a, b, t, r8, r9, r10, r11, r12, r13⟩ := h.res
  refine ⟨Up.trans h.up u, h.cup hp, fun _ _ => ⟨q, d, putR_same _ _ _, r⟩, fun _ => updr_same _ _, a, b, t, ?_⟩
  simp only [updr_other done (show (8:Nat) ≠ 6 by decide), updr_other done (show (9:Nat) ≠ 6 by decide), updr_other done (show (10:Nat) ≠ 6 by decide), updr_other done (show (11:Nat) ≠ 6 by decide), updr_other done (show (12:Nat) ≠ 6 by decide), updr_other done (show (13:Nat) ≠ 6 by decide),
    putR_other V _ (show (8:Nat) ≠ 6 by decide), putR_other V _ (show (9:Nat) ≠ 6 by decide), putR_other V _ (show (10:Nat) ≠ 6 by decide), putR_other V _ (show (11:Nat) ≠ 6 by decide), putR_other V _ (show (12:Nat) ≠ 6 by decide)]
  exact ⟨r8, r9, r10, r11, fun e => (by obtain ⟨Y, e1, e2, e3⟩ := r12 e; exact ⟨Y, e1, e2, e3.up u⟩), r13⟩
theorem Rn.call8 (h : Rn x5 F l n k P done W V) (d8 : done 8 = false) (d6 : done 6 = true) (u : Up W W') {a b : Int} {t : Bool} (r : RunF F l k a b t) (hp : P 8 (tupR a b t)) : Rn x5 F l n k P (upd done 8) W' (putR V 8 (tupR a b t)) := by
  obtain ⟨a', b', t', r8, r9, r10, r11, r12, r13⟩ := h.res
  have d9 : done 9 = false := by
    cases e : done 9
    · rfl
    · rw [(r9 e).1] at d8; cases d8
  have d10 : done 10 = false := by
    cases e : done 10
    · rfl
    · rw [(r10 e).1] at d9; cases d9
  have d11 : done 11 = false := by
    cases e : done 11
    · rfl
    · rw [(r11 e).1] at d9; cases d9
  have d13 : done 13 = false := by
    cases e : done 13
    · rfl
    · rw [(r13 e).2] at d10; cases d10
  refine ⟨Up.trans h.up u, h.cup hp, fun e => ?_, fun _ => (by rw [updr_other done (by decide)]; exact d6), a, b, t, fun _ => ⟨r, putR_same _ _ _⟩, ?_⟩
  · rw [updr_same] at e; cases e
  · simp only [updr_other done (show (9:Nat) ≠ 8 by decide), updr_other done (show (10:Nat) ≠ 8 by decide), updr_other done (show (11:Nat) ≠ 8 by decide), updr_other done (show (12:Nat) ≠ 8 by decide), updr_other done (show (13:Nat) ≠ 8 by decide), d9, d10, d11, d13,
      putR_other V _ (show (12:Nat) ≠ 8 by decide)]
    refine ⟨fun e => (by cases e), fun e => (by cases e), fun e => (by cases e), fun e => ?_, fun e => (by cases e)⟩
    obtain ⟨Y, e1, e2, e3⟩ := r12 e
    rw [d13] at e3
    exact ⟨Y, e1, e2, e3.up u⟩
theorem Rn.mv9 (h : Rn x5 F l n k P done W V) (d8 : done 8 = true) (hp : P 9 (V 8)) : Rn x5 F l n k P (upd done 9) W (putR V 9 (V 8)) := by
  obtain ⟨a, b, t, r8, r9, r10, r11, r12, r13⟩ := h.res
  refine ⟨h.up, h.cup hp, fun e => ?_, (by rw [updr_other done (show (8:Nat) ≠ 9 by decide), updr_other done (show (6:Nat) ≠ 9 by decide)]; exact h.o6), a, b, t, ?_⟩
  · rw [updr_other done (by decide), d8] at e; cases e
  · simp only [updr_other done (show (8:Nat) ≠ 9 by decide), updr_other done (show (10:Nat) ≠ 9 by decide), updr_other done (show (11:Nat) ≠ 9 by decide), updr_other done (show (12:Nat) ≠ 9 by decide), updr_other done (show (13:Nat) ≠ 9 by decide), updr_same, putR_same,
      putR_other V _ (show (8:Nat) ≠ 9 by decide), putR_other V _ (show (10:Nat) ≠ 9 by decide), putR_other V _ (show (11:Nat) ≠ 9 by decide), putR_other V _ (show (12:Nat) ≠ 9 by decide)]
    exact ⟨r8, fun _ => ⟨d8, (r8 d8).2⟩, fun e => ⟨trivial, (r10 e).2⟩, fun e => ⟨trivial, (r11 e).2⟩, r12, r13⟩
theorem Rn.ex10 (h : Rn x5 F l n k P done W V) (d9 : done 9 = true) (d10 : done 10 = false) (hp : ∀ v, P 10 v) : ∃ a b t, V 9 = tupR a b t ∧ Rn x5 F l n k P (upd done 10) W (putR V 10 (.agg #[.int .i64 a, .int .i64 b])) := by
  obtain ⟨a, b, t, r8, r9, r10, r11, r12, r13⟩ := h.res
  refine ⟨a, b, t, (r9 d9).2, h.up, h.cup (hp _), fun e => ?_, (by rw [updr_other done (show (8:Nat) ≠ 10 by decide), updr_other done (show (6:Nat) ≠ 10 by decide)]; exact h.o6), a, b, t, ?_⟩
  · rw [updr_other done (by decide), (r9 d9).1] at e; cases e
  · have d13 : done 13 = false := by
      cases e : done 13
      · rfl
      · rw [(r13 e).2] at d10; cases d10
    simp only [updr_other done (show (8:Nat) ≠ 10 by decide), updr_other done (show (9:Nat) ≠ 10 by decide), updr_other done (show (11:Nat) ≠ 10 by decide), updr_other done (show (12:Nat) ≠ 10 by decide), updr_other done (show (13:Nat) ≠ 10 by decide), updr_same, putR_same,
      putR_other V _ (show (8:Nat) ≠ 10 by decide), putR_other V _ (show (9:Nat) ≠ 10 by decide), putR_other V _ (show (11:Nat) ≠ 10 by decide), putR_other V _ (show (12:Nat) ≠ 10 by decide)]
    exact ⟨r8, r9, fun _ => ⟨d9, trivial⟩, r11, r12, fun e => ⟨(r13 e).1, trivial⟩⟩
theorem Rn.ex11 (h : Rn x5 F l n k P done W V) (d9 : done 9 = true) (hp : ∀ v, P 11 v) : ∃ a b t, V 9 = tupR a b t ∧ Rn x5 F l n k P (upd done 11) W (putR V 11 (.bool t)) := by
  obtain ⟨a, b, t, r8, r9, r10, r11, r12, r13⟩ := h.res
  refine ⟨a, b, t, (r9 d9).2, h.up, h.cup (hp _), fun e => ?_, (by rw [updr_other done (show (8:Nat) ≠ 11 by decide), updr_other done (show (6:Nat) ≠ 11 by decide)]; exact h.o6), a, b, t, ?_⟩
  · rw [updr_other done (by decide), (r9 d9).1] at e; cases e
  · simp only [updr_other done (show (8:Nat) ≠ 11 by decide), updr_other done (show (9:Nat) ≠ 11 by decide), updr_other done (show (10:Nat) ≠ 11 by decide), updr_other done (show (12:Nat) ≠ 11 by decide), updr_other done (show (13:Nat) ≠ 11 by decide), putR_same,
      putR_other V _ (show (8:Nat) ≠ 11 by decide), putR_other V _ (show (9:Nat) ≠ 11 by decide), putR_other V _ (show (10:Nat) ≠ 11 by decide), putR_other V _ (show (12:Nat) ≠ 11 by decide)]
    exact ⟨r8, r9, r10, fun _ => ⟨d9, trivial⟩, r12, r13⟩
theorem Rn.alloc12 (h : Rn x5 F l n k P done W V) (d12 : done 12 = false) (hp : ∀ v, P 12 v) : Rn x5 F l n k P (upd done 12) (W.alloc (.cells #[.int .i64 0, .int .i64 0] 24)) (putR V 12 (.pointer (some ⟨W.heap.size, 0, none⟩))) := by
  have u : Up W (W.alloc (.cells #[.int .i64 0, .int .i64 0] 24)) := by (repeat (first | exact Below.refl _ _ | (with_reducible refine Below.drewN' ?_ _) | (with_reducible refine Below.drew ?_) | (with_reducible refine Below.setCell ?_ (by first | exact Nat.le_refl _ | omega | (with_reducible (repeat (first | refine sz_alloc ?_ | refine sz_setCell ?_ | refine sz_drew ?_ | refine sz_drewN ?_)); first | exact Nat.le_refl _ | omega) | (simp only [World.size_alloc, World.size_setCell, World.size_drew, size_drewN']; omega)) _) | (with_reducible refine Below.alloc ?_ (by first | exact Nat.le_refl _ | omega | (with_reducible (repeat (first | refine sz_alloc ?_ | refine sz_setCell ?_ | refine sz_drew ?_ | refine sz_drewN ?_)); first | exact Nat.le_refl _ | omega) | (simp only [World.size_alloc, World.size_setCell, World.size_drew, size_drewN']; omega)) _) | assumption))
  obtain ⟨a, b, t, r8, r9, r10, r11, r12, r13⟩ := h.res
  have d13 : done 13 = false := by
    cases e : done 13
    · rfl
    · rw [(r13 e).1] at d12; cases d12
  refine ⟨Up.trans h.up u, h.cup (hp _), ?_, (by rw [updr_other done (show (8:Nat) ≠ 12 by decide), updr_other done (show (6:Nat) ≠ 12 by decide)]; exact h.o6), a, b, t, ?_⟩
  · rw [updr_other done (by decide), updr_other done (by decide), putR_other V _ (by decide)]
    intro e1 e2
    obtain ⟨q, d, e3, r⟩ := h.six e1 e2
    exact ⟨q, d, e3, r.up u⟩
  · simp only [updr_other done (show (8:Nat) ≠ 12 by decide), updr_other done (show (9:Nat) ≠ 12 by decide), updr_other done (show (10:Nat) ≠ 12 by decide), updr_other done (show (11:Nat) ≠ 12 by decide), updr_other done (show (13:Nat) ≠ 12 by decide), putR_same, d13,
      putR_other V _ (show (8:Nat) ≠ 12 by decide), putR_other V _ (show (9:Nat) ≠ 12 by decide), putR_other V _ (show (10:Nat) ≠ 12 by decide), putR_other V _ (show (11:Nat) ≠ 12 by decide)]
    exact ⟨r8, r9, r10, r11, fun _ => ⟨_, rfl, h.up.size, Blk.new W [.int .i64 0, .int .i64 0] _⟩, fun e => (by cases e)⟩
theorem Rn.store13 (h : Rn x5 F l n k P done W V) (d12 : done 12 = true) (d10 : done 10 = true) (d13 : done 13 = false) (hp : ∀ v, P 13 v) : ∃ a b Y, V 10 = .agg #[.int .i64 a, .int .i64 b] ∧ V 12 = .pointer (some ⟨Y, 0, none⟩) ∧ Blk W Y [.int .i64 0, .int .i64 0] 24 ∧ Rn x5 F l n k P (upd done 13) ((W.setCell ⟨Y, 0, none⟩ (.int .i64 a)).setCell ⟨Y, 1, none⟩ (.int .i64 b)) V := by
  obtain ⟨a, b, t, r8, r9, r10, r11, r12, r13⟩ := h.res
  obtain ⟨Y, e1, e2, e3⟩ := r12 d12
  rw [d13] at e3
  have e3' : Blk W Y [.int .i64 0, .int .i64 0] 24 := e3
  refine ⟨a, b, Y, (r10 d10).2, e1, e3', (h.up.setCell e2 _).setCell e2 _, fun i hi => ?_, fun e => ?_, (by rw [updr_other done (show (8:Nat) ≠ 13 by decide), updr_other done (show (6:Nat) ≠ 13 by decide)]; exact h.o6), a, b, t, ?_⟩
  · by_cases e : i = 13
    · subst e; exact hp _
    · exact h.c i (by rw [updr_other done e] at hi; exact hi)
  · rw [updr_other done (by decide), (r9 (r10 d10).1).1] at e; cases e
  · simp only [updr_other done (show (8:Nat) ≠ 13 by decide), updr_other done (show (9:Nat) ≠ 13 by decide), updr_other done (show (10:Nat) ≠ 13 by decide), updr_other done (show (11:Nat) ≠ 13 by decide), updr_other done (show (12:Nat) ≠ 13 by decide), updr_same]
    exact ⟨r8, r9, r10, r11, fun _ => ⟨Y, e1, e2, (e3'.set 0 _).set 1 _⟩, fun _ => ⟨d12, d10⟩⟩
theorem Rn.ends (h : Rn x5 F l n k P done W V) (d8 : done 8 = true) (d11 : done 11 = true) (d12 : done 12 = true) (d13 : done 13 = true) : ∃ a b t Y, RunF F l k a b t ∧ V 11 = .bool t ∧ V 12 = .pointer (some ⟨Y, 0, none⟩) ∧ Blk W Y [.int .i64 a, .int .i64 b] 24 := by
  obtain ⟨a, b, t, r8, r9, r10, r11, r12, r13⟩ := h.res
  obtain ⟨Y, e1, e2, e3⟩ := r12 d12
  rw [d13] at e3
  exact ⟨a, b, t, Y, (r8 d8).1, (r11 d11).2, e1, e3⟩
end
end Go.Proofs.YtknaajofcbenaaaGreat
