import Derived.Test.YtifcmbeejichdaaBase
import Derived.Test.YtifcmbeejichdaaHeight
import Derived.Test.YtifcmbeejichdaaChk
import Derived.Test.YtifcmbeejichdaaChk2
import Derived.Test.YtifcmbeejichdaaCheck
import Derived.Test.YtifcmbeejichdaaOn
import Derived.Test.YtifcmbeejichdaaLower
import Derived.Test.YtifcmbeejichdaaGates
import Derived.Test.YtifcmbeejichdaaBegin
import Derived.Test.YtifcmbeejichdaaSpans
import Derived.Test.YtifcmbeejichdaaFits
import Derived.Test.YtifcmbeejichdaaQue
import Derived.Test.YtifcmbeejichdaaLead
import Derived.Test.YtifcmbeejichdaaWaysF
import Derived.Test.YtifcmbeejichdaaDup
import Derived.Test.YtifcmbeejichdaaOwn
import Derived.Test.YtifcmbeejichdaaSame
import Derived.Test.YtifcmbeejichdaaFar
import Derived.Test.YtifcmbeejichdaaTheirs
import Derived.Test.YtifcmbeejichdaaDraw
import Derived.WalkKit
import Derived.WalkSpells
import Derived.WalkLawsBesides
import Derived.Deep.QuietTactic
import Derived.BigQuiet
import Derived.Lib.Hide
import Derived.Shelf.Abstract
import Derived.BigGuardPart
import Derived.RangeFuncNested
import Derived.RangeFuncBound
import Derived.RangeFuncCalls
import Derived.RangeFuncLeaves
import Derived.Shelf.RegionOpen
import Derived.OwnWalkIn
import Derived.TacticsInMore
import Derived.LoopNIn
import Derived.LoopIn
import Derived.StillTailTactics
import Derived.Deep.RegionHeld3
import Derived.StillTail
import Derived.RangeFuncWrites
import Derived.Laws.StructEq
import Derived.Deep.LoopGhost
import Derived.IntWalk
import Derived.RangeFuncBox
import Derived.ArgAppend
import Derived.Laws.CopyOwn
import Derived.OwnWalk
import Derived.Lib.SliceRun
import Derived.Maps.OwnOps
import Derived.Maps.OwnSet
import Derived.Deep.AppendSrc
import Derived.Deep.Upon
import Derived.Deep.Cut
import Derived.Deep.DeepCutAuto
namespace Go.Proofs.Ytifcmbeejichdaa
open Go.RowKit Go.Shelf

section
variable {pT pF pS : Option Addr} {cT cF cS : Nat}

theorem wide_chk {s : Sd} (h : wideB s = true) : chk s = 2 := by
  have : okCounts s = false := by
    unfold okCounts
    unfold wideB at h
    simp only [Bool.or_eq_true, decide_eq_true_eq] at h
    rcases h with h | h | h
    · have : inB s.table.length 2 12 = false := by
        cases hb : inB s.table.length 2 12
        · rfl
        · have := inB_true.1 hb; omega
      rw [this]; rfl
    · have : inB s.floors.length 1 8 = false := by
        cases hb : inB s.floors.length 1 8
        · rfl
        · have := inB_true.1 hb; omega
      rw [this]; simp
    · have : decide ((s.sills.length : Int) ≤ 16) = false := by simp; omega
      rw [this]; simp
  unfold chk
  rw [if_pos this]

/-- blocks from n on, below N, lie as they lay -/
structure Mid (n N : Nat) (w w' : World) : Prop where
  size : w.heap.size ≤ w'.heap.size
  block : ∀ b, n ≤ b → b < N → w'.heap[b]? = w.heap[b]?
theorem Mid.refl (n N : Nat) (w : World) : Mid n N w w := ⟨Nat.le_refl _, fun _ _ _ => rfl⟩
theorem Mid.drew {n N : Nat} {w w' : World} (h : Mid n N w w') : Mid n N w w'.drew := ⟨h.size, h.block⟩
theorem Mid.up {n N : Nat} {w w' w'' : World} (h : Mid n N w w') (u : Up w' w'') (hN : N ≤ w'.heap.size) : Mid n N w w'' :=
  ⟨Nat.le_trans h.size u.size, fun b h1 h2 => (u.block b (by omega)).trans (h.block b h1 h2)⟩
theorem Mid.alloc {n N : Nat} {w w' : World} (h : Mid n N w w') (hN : N ≤ w'.heap.size) (o : Obj) : Mid n N w (w'.alloc o) := h.up ((Below.refl _ _).alloc (Nat.le_refl _) o) hN
theorem Mid.setCell {n N : Nat} {w w' : World} (h : Mid n N w w') {a : Addr} (ha : a.block < n ∨ N ≤ a.block) (v : Value) : Mid n N w (w'.setCell a v) :=
  ⟨by simpa [World.setCell] using h.size, fun b h1 h2 => (Below.heap_setCell w' a v b (by omega)).trans (h.block b h1 h2)⟩
theorem Mid.row {n N : Nat} {w w' : World} (h : Mid n N w w') {p : Option Addr} {k : Nat} {rows : List (List Value)} (hr : Row w p k rows) (hp : 0 < rows.length → ∀ b off, p = some ⟨b, off, none⟩ → n ≤ b) (hk : ∀ r ∈ rows, 0 < r.length) (hN : w.heap.size ≤ N) : Row w' p k rows := by
  intro i row hi
  have hl : 0 < rows.length := by have := (List.getElem?_eq_some_iff.1 hi).1; omega
  obtain ⟨b, off, e, hc⟩ := hr i row hi
  have h1 := hp hl b off e
  have h2 := hr.lt hk hl e
  exact ⟨b, off, e, fun j x hj => (World.cell?_of_block (a := ⟨b, off + i * k + j, none⟩) (h.block b h1 (by omega))).trans (hc j x hj)⟩
theorem triples_pos (l : List (Int × Int × Int)) : ∀ r ∈ triples l, 0 < r.length := fun r hr => by simp only [triples, List.mem_map] at hr; obtain ⟨x, -, rfl⟩ := hr; simp
theorem Mid.lists {n N : Nat} {w w' : World} {s : Sd} (h : Mid n N w w') (hl : Lists w s pT pF pS cT cF cS) (hf : Fresh n s pT pF pS) (hN : w.heap.size ≤ N) : Lists w' s pT pF pS cT cF cS :=
  ⟨h.row hl.rt (fun h => hf.1 (by simpa [pairs] using h)) (pairs_pos _) hN, h.row hl.rf (fun h => hf.2.1 (by simpa [ints] using h)) (ints_pos _) hN, h.row hl.rs (fun h => hf.2.2 (by simpa [triples] using h)) (triples_pos _) hN, hl.ct, hl.cf, hl.cs, hl.mt, hl.mf, hl.ms⟩

/-- the five cells of sands at a block -/
structure At5 (w : World) (B : Nat) (s : Sd) (pT pF pS : Option Addr) (cT cF cS : Nat) : Prop where
  c0 : w.cell? ⟨B, 0, none⟩ = some (.slice pT s.table.length cT)
  c1 : w.cell? ⟨B, 1, none⟩ = some (.int .i64 s.lo)
  c2 : w.cell? ⟨B, 2, none⟩ = some (.int .i64 s.hi)
  c3 : w.cell? ⟨B, 3, none⟩ = some (.slice pF s.floors.length cF)
  c4 : w.cell? ⟨B, 4, none⟩ = some (.slice pS s.sills.length cS)
theorem At5.up {w w' : World} {B : Nat} {s : Sd} (h : At5 w B s pT pF pS cT cF cS) (u : Up w w') : At5 w' B s pT pF pS cT cF cS := ⟨u.cellAt h.c0, u.cellAt h.c1, u.cellAt h.c2, u.cellAt h.c3, u.cellAt h.c4⟩

/-- sands held twice: the layer's own copy, and the reference's -/
def Both (w0 wx : World) (s : Sd) (a b : Value) : Prop :=
  ∃ B5 B6 qT qF qS dT dF dS rT rF rS gT gF gS, a = .pointer (some ⟨B5, 0, none⟩) ∧ b = .pointer (some ⟨B6, 0, none⟩) ∧ Up w0 wx ∧ Lists wx s qT qF qS dT dF dS ∧ Lists wx s rT rF rS gT gF gS ∧
    At5 wx B5 s qT qF qS dT dF dS ∧ At5 wx B6 s rT rF rS gT gF gS

/-- a value is none of the places where copies lie -/
def Off (s : Sd) (pT pF pS : Option Addr) (v : Value) : Prop :=
  (0 < s.table.length → ∀ b off, pT = some ⟨b, off, none⟩ → v ≠ .pointer (some ⟨b, 0, none⟩)) ∧ (0 < s.floors.length → ∀ b off, pF = some ⟨b, off, none⟩ → v ≠ .pointer (some ⟨b, 0, none⟩)) ∧ (0 < s.sills.length → ∀ b off, pS = some ⟨b, off, none⟩ → v ≠ .pointer (some ⟨b, 0, none⟩))

theorem Fresh.off {n : Nat} {s : Sd} (h : Fresh n s pT pF pS) {v : Value} (hv : ∀ b, v = .pointer (some ⟨b, 0, none⟩) → b < n) : Off s pT pF pS v :=
  ⟨fun h0 b off e ev => by have := h.1 h0 b off e; have := hv b ev; omega, fun h0 b off e ev => by have := h.2.1 h0 b off e; have := hv b ev; omega, fun h0 b off e ev => by have := h.2.2 h0 b off e; have := hv b ev; omega⟩
theorem Lists.off {w : World} {s : Sd} (h : Lists w s pT pF pS cT cF cS) {B : Nat} (hB : w.heap.size ≤ B) : Off s pT pF pS (.pointer (some ⟨B, 0, none⟩)) :=
  ⟨fun h0 b off e ev => by have := h.rt.lt (pairs_pos _) (by simpa [pairs] using h0) e; simp only [Value.pointer.injEq, Option.some.injEq, Addr.mk.injEq] at ev; omega,
   fun h0 b off e ev => by have := h.rf.lt (ints_pos _) (by simpa [ints] using h0) e; simp only [Value.pointer.injEq, Option.some.injEq, Addr.mk.injEq] at ev; omega,
   fun h0 b off e ev => by have := h.rs.lt (triples_pos _) (by simpa [triples] using h0) e; simp only [Value.pointer.injEq, Option.some.injEq, Addr.mk.injEq] at ev; omega⟩
theorem Lists.setOff {w : World} {s : Sd} (h : Lists w s pT pF pS cT cF cS) {B : Nat} (ho : Off s pT pF pS (.pointer (some ⟨B, 0, none⟩))) (i : Nat) (v : Value) : Lists (w.setCell ⟨B, i, none⟩ v) s pT pF pS cT cF cS :=
  ⟨h.rt.away (fun h0 b off e he => ho.1 (by simpa [pairs] using h0) b off e (by simp only at he; rw [he])) v, h.rf.away (fun h0 b off e he => ho.2.1 (by simpa [ints] using h0) b off e (by simp only at he; rw [he])) v,
   h.rs.away (fun h0 b off e he => ho.2.2 (by simpa [triples] using h0) b off e (by simp only at he; rw [he])) v, h.ct, h.cf, h.cs, h.mt, h.mf, h.ms⟩

/-- a value that holds sands, copied to places of its own -/
def Copied (w : World) (s : Sd) (v v4 v5 : Value) : Prop := ∃ qT qF qS dT dF dS, v = sdVal s qT qF qS dT dF dS ∧ Lists w s qT qF qS dT dF dS ∧ Off s qT qF qS v4 ∧ Off s qT qF qS v5

def zero5 : List Value := [.slice none 0 0, .int .i64 0, .int .i64 0, .slice none 0 0, .slice none 0 0]
/-- how far the statement 'own, x := Own(s), theirs(s)' has come -/
structure Pair (w1 : World) (s : Sd) (val : Value) (done : Nat → Bool) (w : World) (v0 v1 v2 v3 v4 v5 : Value) : Prop where
  up : Up w1 w
  l0 : done 0 = true → v0 = val
  l2 : done 2 = true → v2 = val
  own : done 1 = true → Copied w s v1 v4 v5
  the : done 3 = true → Copied w s v3 v4 v5
  a4 : done 4 = true → ∃ B, v4 = .pointer (some ⟨B, 0, none⟩) ∧ Blk w B zero5 28 ∧ w1.heap.size ≤ B
  a5 : done 5 = true → ∃ B, v5 = .pointer (some ⟨B, 0, none⟩) ∧ Blk w B zero5 37 ∧ w1.heap.size ≤ B
  n4 : done 4 = false → v4 = undef
  n5 : done 5 = false → v5 = undef

theorem Copied.up {w w' : World} {s : Sd} {v v4 v5 : Value} (h : Copied w s v v4 v5) (u : Up w w') : Copied w' s v v4 v5 := by
  obtain ⟨qT, qF, qS, dT, dF, dS, h1, h2, h3, h4⟩ := h
  exact ⟨qT, qF, qS, dT, dF, dS, h1, h2.up u, h3, h4⟩

theorem At5.of {w : World} {B : Nat} {s : Sd} {T : TypeId} (h : Blk w B (sdCells s pT pF pS cT cF cS) T) : At5 w B s pT pF pS cT cF cS := by
  have c0 := h.cell 0
  have c1 := h.cell 1
  have c2 := h.cell 2
  have c3 := h.cell 3
  have c4 := h.cell 4
  simp only [sdCells, List.getElem?_cons_zero, List.getElem?_cons_succ] at c0 c1 c2 c3 c4
  exact ⟨c0, c1, c2, c3, c4⟩
/-- five stores fill a block -/
def fill (w : World) (B : Nat) (s : Sd) (pT pF pS : Option Addr) (cT cF cS : Nat) : World :=
  ((((w.setCell ⟨B, 0, none⟩ (.slice pT s.table.length cT)).setCell ⟨B, 1, none⟩ (.int .i64 s.lo)).setCell ⟨B, 2, none⟩ (.int .i64 s.hi)).setCell ⟨B, 3, none⟩ (.slice pF s.floors.length cF)).setCell ⟨B, 4, none⟩ (.slice pS s.sills.length cS)
theorem fill_blk {w : World} {B : Nat} {T : TypeId} (h : Blk w B zero5 T) (s : Sd) (pT pF pS : Option Addr) (cT cF cS : Nat) : Blk (fill w B s pT pF pS cT cF cS) B (sdCells s pT pF pS cT cF cS) T := by
  exact ((((h.set 0 _).set 1 _).set 2 _).set 3 _).set 4 _
theorem fill_other {w : World} {B C : Nat} {cs : List Value} {T : TypeId} (h : Blk w C cs T) (hne : C ≠ B) (s : Sd) (pT pF pS : Option Addr) (cT cF cS : Nat) : Blk (fill w B s pT pF pS cT cF cS) C cs T := by
  exact ((((h.other (a := ⟨B, 0, none⟩) hne _).other (a := ⟨B, 1, none⟩) hne _).other (a := ⟨B, 2, none⟩) hne _).other (a := ⟨B, 3, none⟩) hne _).other (a := ⟨B, 4, none⟩) hne _
theorem fill_up {w1 w : World} (u : Up w1 w) {B : Nat} (hB : w1.heap.size ≤ B) (s : Sd) (pT pF pS : Option Addr) (cT cF cS : Nat) : Up w1 (fill w B s pT pF pS cT cF cS) := by
  exact ((((u.setCell (p := ⟨B, 0, none⟩) hB _).setCell (p := ⟨B, 1, none⟩) hB _).setCell (p := ⟨B, 2, none⟩) hB _).setCell (p := ⟨B, 3, none⟩) hB _).setCell (p := ⟨B, 4, none⟩) hB _
theorem fill_lists {w : World} {s : Sd} {qT qF qS : Option Addr} {dT dF dS : Nat} (h : Lists w s qT qF qS dT dF dS) {B : Nat} (ho : Off s qT qF qS (.pointer (some ⟨B, 0, none⟩))) (pT pF pS : Option Addr) (cT cF cS : Nat) : Lists (fill w B s pT pF pS cT cF cS) s qT qF qS dT dF dS :=
  ((((h.setOff ho 0 _).setOff ho 1 _).setOff ho 2 _).setOff ho 3 _).setOff ho 4 _

section
variable {w1 w w' : World} {s : Sd} {val : Value} {done : Nat → Bool} {v0 v1 v2 v3 v4 v5 : Value}
theorem Pair.start (w : World) (s : Sd) (val : Value) : Pair w s val (fun _ => false) w.drew undef undef undef undef undef undef :=
  ⟨(Below.refl _ _).drew, fun h => (by cases h), fun h => (by cases h), fun h => (by cases h), fun h => (by cases h), fun h => (by cases h), fun h => (by cases h), fun _ => rfl, fun _ => rfl⟩
theorem Pair.load0 (h : Pair w1 s val done w v0 v1 v2 v3 v4 v5) : Pair w1 s val (upd done 0) w val v1 v2 v3 v4 v5 :=
  ⟨h.up, fun _ => rfl, fun e => h.l2 (by simpa [upd] using e), fun e => h.own (by simpa [upd] using e), fun e => h.the (by simpa [upd] using e), fun e => h.a4 (by simpa [upd] using e), fun e => h.a5 (by simpa [upd] using e), fun e => h.n4 (by simpa [upd] using e), fun e => h.n5 (by simpa [upd] using e)⟩
theorem Pair.load2 (h : Pair w1 s val done w v0 v1 v2 v3 v4 v5) : Pair w1 s val (upd done 2) w v0 v1 val v3 v4 v5 :=
  ⟨h.up, fun e => h.l0 (by simpa [upd] using e), fun _ => rfl, fun e => h.own (by simpa [upd] using e), fun e => h.the (by simpa [upd] using e), fun e => h.a4 (by simpa [upd] using e), fun e => h.a5 (by simpa [upd] using e), fun e => h.n4 (by simpa [upd] using e), fun e => h.n5 (by simpa [upd] using e)⟩
theorem Pair.low4 (h : Pair w1 s val done w v0 v1 v2 v3 v4 v5) : ∀ b, v4 = .pointer (some ⟨b, 0, none⟩) → b < w.heap.size := fun b e => by
  cases hd : done 4
  · rw [h.n4 hd] at e; cases e
  · obtain ⟨B, rfl, hB, -⟩ := h.a4 hd
    simp only [Value.pointer.injEq, Option.some.injEq, Addr.mk.injEq, and_true] at e
    obtain ⟨rfl, -⟩ := e
    exact hB.lt
theorem Pair.low5 (h : Pair w1 s val done w v0 v1 v2 v3 v4 v5) : ∀ b, v5 = .pointer (some ⟨b, 0, none⟩) → b < w.heap.size := fun b e => by
  cases hd : done 5
  · rw [h.n5 hd] at e; cases e
  · obtain ⟨B, rfl, hB, -⟩ := h.a5 hd
    simp only [Value.pointer.injEq, Option.some.injEq, Addr.mk.injEq, and_true] at e
    obtain ⟨rfl, -⟩ := e
    exact hB.lt
theorem Pair.call1 {qT qF qS : Option Addr} {dT dF dS : Nat} (h : Pair w1 s val done w v0 v1 v2 v3 v4 v5) (u : Up w w') (hl : Lists w' s qT qF qS dT dF dS) (hf : Fresh w.heap.size s qT qF qS) : Pair w1 s val (upd done 1) w' v0 (sdVal s qT qF qS dT dF dS) v2 v3 v4 v5 :=
  ⟨Up.trans h.up u, fun e => h.l0 (by simpa [upd] using e), fun e => h.l2 (by simpa [upd] using e), fun _ => ⟨_, _, _, _, _, _, rfl, hl, hf.off h.low4, hf.off h.low5⟩, fun e => (h.the (by simpa [upd] using e)).up u,
   fun e => (by obtain ⟨B, e1, e2, e3⟩ := h.a4 (by simpa [upd] using e); exact ⟨B, e1, e2.up u, e3⟩), fun e => (by obtain ⟨B, e1, e2, e3⟩ := h.a5 (by simpa [upd] using e); exact ⟨B, e1, e2.up u, e3⟩), fun e => h.n4 (by simpa [upd] using e), fun e => h.n5 (by simpa [upd] using e)⟩
theorem Pair.call3 {qT qF qS : Option Addr} {dT dF dS : Nat} (h : Pair w1 s val done w v0 v1 v2 v3 v4 v5) (u : Up w w') (hl : Lists w' s qT qF qS dT dF dS) (hf : Fresh w.heap.size s qT qF qS) : Pair w1 s val (upd done 3) w' v0 v1 v2 (sdVal s qT qF qS dT dF dS) v4 v5 :=
  ⟨Up.trans h.up u, fun e => h.l0 (by simpa [upd] using e), fun e => h.l2 (by simpa [upd] using e), fun e => (h.own (by simpa [upd] using e)).up u, fun _ => ⟨_, _, _, _, _, _, rfl, hl, hf.off h.low4, hf.off h.low5⟩,
   fun e => (by obtain ⟨B, e1, e2, e3⟩ := h.a4 (by simpa [upd] using e); exact ⟨B, e1, e2.up u, e3⟩), fun e => (by obtain ⟨B, e1, e2, e3⟩ := h.a5 (by simpa [upd] using e); exact ⟨B, e1, e2.up u, e3⟩), fun e => h.n4 (by simpa [upd] using e), fun e => h.n5 (by simpa [upd] using e)⟩
theorem Copied.alloc4 {v : Value} (h : Copied w s v v4 v5) (o : Obj) : Copied (w.alloc o) s v (.pointer (some ⟨w.heap.size, 0, none⟩)) v5 := by
  obtain ⟨qT, qF, qS, dT, dF, dS, h1, h2, h3, h4⟩ := h
  exact ⟨qT, qF, qS, dT, dF, dS, h1, h2.up (by (repeat (first | exact Below.refl _ _ | (with_reducible refine Below.drewN' ?_ _) | (with_reducible refine Below.drew ?_) | (with_reducible refine Below.setCell ?_ (by first | exact Nat.le_refl _ | omega | (with_reducible (repeat (first | refine sz_alloc ?_ | refine sz_setCell ?_ | refine sz_drew ?_ | refine sz_drewN ?_)); first | exact Nat.le_refl _ | omega) | (simp only [World.size_alloc, World.size_setCell, World.size_drew, size_drewN']; omega)) _) | (with_reducible refine Below.alloc ?_ (by first | exact Nat.le_refl _ | omega | (with_reducible (repeat (first | refine sz_alloc ?_ | refine sz_setCell ?_ | refine sz_drew ?_ | refine sz_drewN ?_)); first | exact Nat.le_refl _ | omega) | (simp only [World.size_alloc, World.size_setCell, World.size_drew, size_drewN']; omega)) _) | assumption))), h2.off (Nat.le_refl _), h4⟩
theorem Copied.alloc5 {v : Value} (h : Copied w s v v4 v5) (o : Obj) : Copied (w.alloc o) s v v4 (.pointer (some ⟨w.heap.size, 0, none⟩)) := by
  obtain ⟨qT, qF, qS, dT, dF, dS, h1, h2, h3, h4⟩ := h
  exact ⟨qT, qF, qS, dT, dF, dS, h1, h2.up (by (repeat (first | exact Below.refl _ _ | (with_reducible refine Below.drewN' ?_ _) | (with_reducible refine Below.drew ?_) | (with_reducible refine Below.setCell ?_ (by first | exact Nat.le_refl _ | omega | (with_reducible (repeat (first | refine sz_alloc ?_ | refine sz_setCell ?_ | refine sz_drew ?_ | refine sz_drewN ?_)); first | exact Nat.le_refl _ | omega) | (simp only [World.size_alloc, World.size_setCell, World.size_drew, size_drewN']; omega)) _) | (with_reducible refine Below.alloc ?_ (by first | exact Nat.le_refl _ | omega | (with_reducible (repeat (first | refine sz_alloc ?_ | refine sz_setCell ?_ | refine sz_drew ?_ | refine sz_drewN ?_)); first | exact Nat.le_refl _ | omega) | (simp only [World.size_alloc, World.size_setCell, World.size_drew, size_drewN']; omega)) _) | assumption))), h3, h2.off (Nat.le_refl _)⟩
theorem Pair.alloc4 (h : Pair w1 s val done w v0 v1 v2 v3 v4 v5) : Pair w1 s val (upd done 4) (w.alloc (.cells #[.slice none 0 0, .int .i64 0, .int .i64 0, .slice none 0 0, .slice none 0 0] 28)) v0 v1 v2 v3 (.pointer (some ⟨w.heap.size, 0, none⟩)) v5 :=
  have u : Up w (w.alloc (.cells #[.slice none 0 0, .int .i64 0, .int .i64 0, .slice none 0 0, .slice none 0 0] 28)) := by (repeat (first | exact Below.refl _ _ | (with_reducible refine Below.drewN' ?_ _) | (with_reducible refine Below.drew ?_) | (with_reducible refine Below.setCell ?_ (by first | exact Nat.le_refl _ | omega | (with_reducible (repeat (first | refine sz_alloc ?_ | refine sz_setCell ?_ | refine sz_drew ?_ | refine sz_drewN ?_)); first | exact Nat.le_refl _ | omega) | (simp only [World.size_alloc, World.size_setCell, World.size_drew, size_drewN']; omega)) _) | (with_reducible refine Below.alloc ?_ (by first | exact Nat.le_refl _ | omega | (with_reducible (repeat (first | refine sz_alloc ?_ | refine sz_setCell ?_ | refine sz_drew ?_ | refine sz_drewN ?_)); first | exact Nat.le_refl _ | omega) | (simp only [World.size_alloc, World.size_setCell, World.size_drew, size_drewN']; omega)) _) | assumption))
  ⟨Up.trans h.up u, fun e => h.l0 (by simpa [upd] using e), fun e => h.l2 (by simpa [upd] using e), fun e => (h.own (by simpa [upd] using e)).alloc4 _, fun e => (h.the (by simpa [upd] using e)).alloc4 _,
   fun _ => ⟨_, rfl, Blk.new w zero5 _, h.up.size⟩, fun e => (by obtain ⟨B, e1, e2, e3⟩ := h.a5 (by simpa [upd] using e); exact ⟨B, e1, e2.up u, e3⟩), fun e => (by simp [upd] at e), fun e => h.n5 (by simpa [upd] using e)⟩
theorem Pair.alloc5 (h : Pair w1 s val done w v0 v1 v2 v3 v4 v5) : Pair w1 s val (upd done 5) (w.alloc (.cells #[.slice none 0 0, .int .i64 0, .int .i64 0, .slice none 0 0, .slice none 0 0] 37)) v0 v1 v2 v3 v4 (.pointer (some ⟨w.heap.size, 0, none⟩)) :=
  have u : Up w (w.alloc (.cells #[.slice none 0 0, .int .i64 0, .int .i64 0, .slice none 0 0, .slice none 0 0] 37)) := by (repeat (first | exact Below.refl _ _ | (with_reducible refine Below.drewN' ?_ _) | (with_reducible refine Below.drew ?_) | (with_reducible refine Below.setCell ?_ (by first | exact Nat.le_refl _ | omega | (with_reducible (repeat (first | refine sz_alloc ?_ | refine sz_setCell ?_ | refine sz_drew ?_ | refine sz_drewN ?_)); first | exact Nat.le_refl _ | omega) | (simp only [World.size_alloc, World.size_setCell, World.size_drew, size_drewN']; omega)) _) | (with_reducible refine Below.alloc ?_ (by first | exact Nat.le_refl _ | omega | (with_reducible (repeat (first | refine sz_alloc ?_ | refine sz_setCell ?_ | refine sz_drew ?_ | refine sz_drewN ?_)); first | exact Nat.le_refl _ | omega) | (simp only [World.size_alloc, World.size_setCell, World.size_drew, size_drewN']; omega)) _) | assumption))
  ⟨Up.trans h.up u, fun e => h.l0 (by simpa [upd] using e), fun e => h.l2 (by simpa [upd] using e), fun e => (h.own (by simpa [upd] using e)).alloc5 _, fun e => (h.the (by simpa [upd] using e)).alloc5 _,
   fun e => (by obtain ⟨B, e1, e2, e3⟩ := h.a4 (by simpa [upd] using e); exact ⟨B, e1, e2.up u, e3⟩), fun _ => ⟨_, rfl, Blk.new w zero5 _, h.up.size⟩, fun e => h.n4 (by simpa [upd] using e), fun e => (by simp [upd] at e)⟩
end
end
end Go.Proofs.Ytifcmbeejichdaa
