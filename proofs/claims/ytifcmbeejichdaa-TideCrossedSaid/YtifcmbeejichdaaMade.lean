/- Made makes sands that are right, whatever numbers are dealt. -/
import Derived.Test.YtifcmbeejichdaaBase
import Derived.Test.YtifcmbeejichdaaFar
import Derived.Test.YtifcmbeejichdaaHeap
import Derived.Test.YtifcmbeejichdaaHeight
import Derived.Test.YtifcmbeejichdaaChk2
import Derived.Test.YtifcmbeejichdaaCheck
import Derived.Test.YtifcmbeejichdaaOn
import Derived.Test.YtifcmbeejichdaaRound
import Derived.Test.YtifcmbeejichdaaLower
import Derived.Test.YtifcmbeejichdaaGates
import Derived.Test.YtifcmbeejichdaaBegin
import Derived.Test.YtifcmbeejichdaaSpans
import Derived.Test.YtifcmbeejichdaaFits
import Derived.Test.YtifcmbeejichdaaQue
import Derived.Test.YtifcmbeejichdaaLonger
import Derived.Test.YtifcmbeejichdaaLead
import Derived.Test.YtifcmbeejichdaaWaysF
import Derived.Test.YtifcmbeejichdaaDup
import Derived.Test.YtifcmbeejichdaaOwn
import Derived.Test.YtifcmbeejichdaaTheirs
import Derived.Test.YtifcmbeejichdaaDraw
import Derived.Test.YtifcmbeejichdaaPair
import Derived.WalkKit
import Derived.WalkSpells
import Derived.WalkLawsBesides
import Derived.Deep.QuietTactic
import Derived.BigQuiet
import Derived.IntWalk
import Derived.Lib.Hide
import Derived.Laws.BitsAllLaws
import Derived.Shelf.Abstract
import Derived.BigGuardPart
import Derived.RangeFuncNested
import Derived.RangeFuncBound
import Derived.RangeFuncCalls
import Derived.RangeFuncLeaves
import Derived.Shelf.RegionOpen
import Derived.OwnWalkIn
import Derived.TacticsInMore
import Derived.LoopNIn
import Derived.LoopIn
import Derived.StillTailTactics
import Derived.Deep.RegionHeld3
import Derived.StillTail
import Derived.RangeFuncWrites
import Derived.Laws.StructEq
import Derived.Deep.LoopGhost
import Derived.RangeFuncBox
import Derived.ArgAppend
import Derived.Laws.CopyOwn
import Derived.OwnWalk
import Derived.Lib.SliceRun
import Derived.Maps.OwnOps
import Derived.Maps.OwnSet
import Derived.Deep.AppendSrc
import Derived.Deep.Upon
import Derived.Deep.Cut
import Derived.Deep.DeepCutAuto
namespace Go.Proofs.Ytifcmbeejichdaa
open Go.RowKit Go.Shelf

theorem Far.grownBy {B : Nat} {w w' : World} (h : Far B w.heap.size w w') : w.grownBy w' (some B) :=
  ⟨h.os, h.tape, h.output, h.size, fun k hk hb => h.block k hk (fun e => hb (by rw [e]))⟩
theorem Far.own {B base : Nat} {w w' : World} {T : TypeId} {k n : Nat} {v : Value} {xs : List Value} (h : Far B w.heap.size w w') (ho : w.ownsRow base T k v n xs) (hb : B < base) : w'.ownsRow base T k v n xs :=
  ho.kept h.grownBy (Or.inr (fun e => by have := (ho.lt B e).1; omega))
theorem Apart.mono {p : Option Addr} {b n m : Nat} {l : List Int} (h : Apart p b n l) (hm : n ≤ m) : Apart p b m l := fun h0 b' off e => ⟨(h h0 b' off e).1, by have := (h h0 b' off e).2; omega⟩

/-- how memory stands while Made works: its heap, its result's place, its variable's block -/
structure Mk (w0 : World) (hb R S n1 : Nat) (p : Option Addr) (c : Nat) (l : List Int) (cells : List Value) (w : World) : Prop where
  heap : HeapAt w hb p c l
  far : Far hb w0.heap.size w0 w
  res : Blk w R zero5 28
  box : Blk w S cells 28
  lR : w0.heap.size ≤ R
  lS : w0.heap.size ≤ S
  ne : R ≠ S
  nR : R < n1
  nS : S < n1
  n1 : n1 ≤ w.heap.size
  lb : hb < w0.heap.size
  ap : Apart p hb w0.heap.size l
section
variable {w0 w w' : World} {hb R S n1 : Nat} {p : Option Addr} {c : Nat} {l : List Int} {cells : List Value}
theorem Mk.apart (h : Mk w0 hb R S n1 p c l cells w) : Apart p hb w.heap.size l := h.ap.mono h.far.size
theorem Mk.deal (h : Mk w0 hb R S n1 p c l cells w) (g : HeapAt w' hb p c l) (f : Far hb w.heap.size w w') : Mk w0 hb R S n1 p c l cells w' :=
  ⟨g, h.far.trans (f.mono h.far.size), f.blk h.res h.res.lt (by have := h.lR; have := h.lb; omega), f.blk h.box h.box.lt (by have := h.lS; have := h.lb; omega), h.lR, h.lS, h.ne, h.nR, h.nS, Nat.le_trans h.n1 f.size, h.lb, h.ap⟩
theorem Mk.alloc (h : Mk w0 hb R S n1 p c l cells w) (o : Obj) : Mk w0 hb R S n1 p c l cells (w.alloc o) :=
  ⟨h.heap.up ((Below.refl _ _).alloc (Nat.le_refl _) o), h.far.alloc h.far.size o, h.res.alloc o, h.box.alloc o, h.lR, h.lS, h.ne, h.nR, h.nS, sz_alloc h.n1, h.lb, h.ap⟩
theorem Mk.drew (h : Mk w0 hb R S n1 p c l cells w) : Mk w0 hb R S n1 p c l cells w.drew :=
  ⟨h.heap.up ((Below.refl _ _).drew), h.far.drew, h.res.drew, h.box.drew, h.lR, h.lS, h.ne, h.nR, h.nS, h.n1, h.lb, h.ap⟩
theorem Mk.grown {row : Option Nat} (h : Mk w0 hb R S n1 p c l cells w) (hg : w.grownBy w' row) (hr : ∀ k, row = some k → n1 ≤ k) : Mk w0 hb R S n1 p c l cells w' :=
  have h0 : ∀ k, row = some k → w0.heap.size ≤ k := fun k e => by have := hr k e; have := h.nR; have := h.lR; omega
  ⟨h.heap.below ((Below.refl w0.heap.size w).grown hg h.far.size h0) h.lb h.ap, h.far.grown hg h.far.size h0, h.res.grown hg (fun e => by have := hr R e.symm; have := h.nR; omega), h.box.grown hg (fun e => by have := hr S e.symm; have := h.nS; omega),
    h.lR, h.lS, h.ne, h.nR, h.nS, Nat.le_trans h.n1 hg.size, h.lb, h.ap⟩
theorem Mk.set (h : Mk w0 hb R S n1 p c l cells w) (i : Nat) (v : Value) : Mk w0 hb R S n1 p c l (cells.set i v) (w.setCell ⟨S, i, none⟩ v) :=
  ⟨h.heap.below ((Below.refl w0.heap.size w).setCell (p := ⟨S, i, none⟩) h.lS v) h.lb h.ap, h.far.setNew (a := ⟨S, i, none⟩) h.lS v, h.res.other (a := ⟨S, i, none⟩) h.ne v, h.box.set i v, h.lR, h.lS, h.ne, h.nR, h.nS, sz_setCell h.n1, h.lb, h.ap⟩
theorem Mk.setNew (h : Mk w0 hb R S n1 p c l cells w) {a : Addr} (ha : n1 ≤ a.block) (v : Value) : Mk w0 hb R S n1 p c l cells (w.setCell a v) :=
  have h0 : w0.heap.size ≤ a.block := by have := h.nR; have := h.lR; omega
  ⟨h.heap.below ((Below.refl w0.heap.size w).setCell h0 v) h.lb h.ap, h.far.setNew h0 v, h.res.other (by have := h.nR; omega) v, h.box.other (by have := h.nS; omega) v, h.lR, h.lS, h.ne, h.nR, h.nS, sz_setCell h.n1, h.lb, h.ap⟩
end

/-- a table as Made makes it, before the minute 'at' -/
def TabMade (l : List (Int × Int)) (at_ : Int) : Prop :=
  (∀ x ∈ l, 0 ≤ x.1 ∧ x.1 < at_ ∧ 0 ≤ x.2 ∧ x.2 ≤ 60) ∧ (∀ i (h : i + 1 < l.length), l[i].1 < l[i + 1].1) ∧ 0 ≤ at_ ∧ at_ ≤ 20 + 30 * l.length

/-- sills as Made makes them, among so many places -/
def SillMade (n : Nat) (x : Int × Int × Int) : Prop := (-1 ≤ x.1 ∧ x.1 < n) ∧ (-1 ≤ x.2.1 ∧ x.2.1 < n) ∧ x.1 ≠ x.2.1 ∧ 0 ≤ x.2.2 ∧ x.2.2 ≤ 50
/-- sands as Made makes them, of so many places and sills at most -/
structure IsMade (places sills : Nat) (s : Sd) : Prop where
  table : ∃ a, TabMade s.table a
  t2 : 2 ≤ s.table.length
  t4 : s.table.length ≤ 4
  lo : -8 ≤ s.lo ∧ s.lo ≤ 0
  hi : 0 ≤ s.hi ∧ s.hi ≤ 8
  f1 : 1 ≤ s.floors.length
  fn : s.floors.length ≤ places
  floors : ∀ x ∈ s.floors, 0 ≤ x ∧ x ≤ 50
  sn : s.sills.length ≤ sills
  sills : ∀ x ∈ s.sills, SillMade s.floors.length x

/-- what the statement 'x.A, x.B = b.From(..), b.Upto(..)' makes, operation by operation -/
def Two18 (hb S X j : Nat) (sl : Value) : Nat → Value → Prop
  | 0, v => v = .pointer (some ⟨hb, 0, none⟩)
  | 1, v => v = .pointer (some ⟨S, 3, none⟩)
  | 2, v => v = sl
  | 3, v => v = .int .i64 j
  | 4, v => v = .int .i64 ((j : Int) - 1)
  | 5, v => ∃ A : Int, v = .int .i64 A ∧ -1 ≤ A ∧ A < j
  | 6, v => v = .pointer (some ⟨hb, 0, none⟩)
  | 7, v => v = .pointer (some ⟨S, 3, none⟩)
  | 8, v => v = sl
  | 9, v => v = .int .i64 j
  | 10, v => v = .int .i64 ((j : Int) - 1)
  | 11, v => ∃ B : Int, v = .int .i64 B ∧ -1 ≤ B ∧ B < j
  | 12, v => v = .pointer (some ⟨X, 0, none⟩)
  | _, _ => True

theorem Mid.deal {n N hb : Nat} {w0 w w' : World} (h : Mid n N w0 w) (f : Far hb w.heap.size w w') (hb' : hb < n) (hN : N ≤ w.heap.size) : Mid n N w0 w' :=
  ⟨Nat.le_trans h.size f.size, fun b h1 h2 => (f.block b (by omega) (by omega)).trans (h.block b h1 h2)⟩
theorem Mid.grown {n N : Nat} {w0 w w' : World} {row : Option Nat} (h : Mid n N w0 w) (hg : w.grownBy w' row) (hr : ∀ k, row = some k → N ≤ k) (hN : N ≤ w.heap.size) : Mid n N w0 w' :=
  ⟨Nat.le_trans h.size hg.size, fun b h1 h2 => (hg.block b (by omega) (fun e => by have := hr b e.symm; omega)).trans (h.block b h1 h2)⟩

theorem tabMade_snoc {l : List (Int × Int)} {a y z : Int} (h : TabMade l a) (y0 : 0 ≤ y) (y1 : y ≤ 60) (z0 : 1 ≤ z) (z1 : z ≤ 30) : TabMade (l ++ [(a, y)]) (a + z) := by
  obtain ⟨h1, h2, h3, h4⟩ := h
  refine ⟨fun x hx => ?_, fun i hi => ?_, by omega, by simp; omega⟩
  · rw [List.mem_append] at hx
    rcases hx with hx | hx
    · have := h1 x hx; omega
    · simp only [List.mem_singleton] at hx
      subst hx
      dsimp only; omega
  · simp only [List.length_append, List.length_singleton] at hi
    by_cases hl : i + 1 < l.length
    · rw [List.getElem_append_left (by omega), List.getElem_append_left hl]; exact h2 i hl
    · have : i + 1 = l.length := by omega
      rw [List.getElem_append_left (by omega), List.getElem_append_right (by omega)]
      have := h1 l[i] (List.getElem_mem _)
      simp only [this, List.getElem_singleton]

section
variable {p : Option Addr} {c : Nat} {l : List Int}
set_option maxRecDepth 100000 in
set_option maxHeartbeats 4000000 in
theorem made_c (hb : Nat) (places sills : Int) (w : World) (h : HeapAt w hb p c l) (ha : Apart p hb w.heap.size l) (hl : l.length ≤ 140737488355328) (p1 : 1 ≤ places) (p8 : places ≤ 8) (s0 : 0 ≤ sills) (s16 : sills ≤ 16) :
    Calls Try.prog 49 #[.pointer (some ⟨hb, 0, none⟩), .int .i64 places, .int .i64 sills] w fun e w' => ∃ s qT qF qS dT dF dS, e = .returned (sdVal s qT qF qS dT dF dS) ∧ IsMade places.toNat sills.toNat s ∧ Lists w' s qT qF qS dT dF dS ∧ Fresh w.heap.size s qT qF qS ∧ HeapAt w' hb p c l ∧ Far hb w.heap.size w w' := by
  have HH := Lib.hid h
  have HA := Lib.hid ha
  have hbw : hb < w.heap.size := by obtain ⟨k, r, hB, -⟩ := h; exact hB.lt
  clear h ha
  go_enter Try.func49, Try.ntmps49
  go_wp2_with fail
  refine (upto_c hb p c l 8 _ (HH.out.up (by (repeat (first | exact Below.refl _ _ | (with_reducible refine Below.drewN' ?_ _) | (with_reducible refine Below.drew ?_) | (with_reducible refine Below.setCell ?_ (by first | exact Nat.le_refl _ | omega | (with_reducible (repeat (first | refine sz_alloc ?_ | refine sz_setCell ?_ | refine sz_drew ?_ | refine sz_drewN ?_)); first | exact Nat.le_refl _ | omega) | (simp only [World.size_alloc, World.size_setCell, World.size_drew, size_drewN']; omega)) _) | (with_reducible refine Below.alloc ?_ (by first | exact Nat.le_refl _ | omega | (with_reducible (repeat (first | refine sz_alloc ?_ | refine sz_setCell ?_ | refine sz_drew ?_ | refine sz_drewN ?_)); first | exact Nat.le_refl _ | omega) | (simp only [World.size_alloc, World.size_setCell, World.size_drew, size_drewN']; omega)) _) | assumption)))) (HA.out.mono (by first | exact Nat.le_refl _ | omega | (with_reducible (repeat (first | refine sz_alloc ?_ | refine sz_setCell ?_ | refine sz_drew ?_ | refine sz_drewN ?_)); first | exact Nat.le_refl _ | omega) | (simp only [World.size_alloc, World.size_setCell, World.size_drew, size_drewN']; omega))) hl (by decide) (by decide)).mono ?_
  rintro e w1 ⟨x1, ⟨k0, k1, -⟩, rfl, g1, f1⟩
  have hF1 : Far hb w.heap.size w w1 := (Far.of (by (repeat (first | exact Below.refl _ _ | (with_reducible refine Below.drewN' ?_ _) | (with_reducible refine Below.drew ?_) | (with_reducible refine Below.setCell ?_ (by first | exact Nat.le_refl _ | omega | (with_reducible (repeat (first | refine sz_alloc ?_ | refine sz_setCell ?_ | refine sz_drew ?_ | refine sz_drewN ?_)); first | exact Nat.le_refl _ | omega) | (simp only [World.size_alloc, World.size_setCell, World.size_drew, size_drewN']; omega)) _) | (with_reducible refine Below.alloc ?_ (by first | exact Nat.le_refl _ | omega | (with_reducible (repeat (first | refine sz_alloc ?_ | refine sz_setCell ?_ | refine sz_drew ?_ | refine sz_drewN ?_)); first | exact Nat.le_refl _ | omega) | (simp only [World.size_alloc, World.size_setCell, World.size_drew, size_drewN']; omega)) _) | assumption)))).trans (f1.mono (by first | exact Nat.le_refl _ | omega | (with_reducible (repeat (first | refine sz_alloc ?_ | refine sz_setCell ?_ | refine sz_drew ?_ | refine sz_drewN ?_)); first | exact Nat.le_refl _ | omega) | (simp only [World.size_alloc, World.size_setCell, World.size_drew, size_drewN']; omega)))
  have hR1 : Blk w1 w.heap.size zero5 28 := f1.blk (Blk.new w zero5 _) (by simp) (by omega)
  have HH1 := Lib.hid g1
  have sz1 := f1.size
  rw [World.size_alloc] at sz1
  have HF1 := Lib.hid hF1
  have HR1 := Lib.hid hR1
  clear g1 f1 hF1 hR1 HH
  go_wp2_with fail
  refine (upto_c hb p c l 8 w1 HH1.out (HA.out.mono (by omega)) hl (by decide) (by decide)).mono ?_
  rintro e w2 ⟨x2, ⟨k2, k3, -⟩, rfl, g2, f2⟩
  have HH2 := Lib.hid g2
  have sz2 := f2.size
  have HF2 := Lib.hid (HF1.out.trans (f2.mono (by omega)))
  have HR2 := Lib.hid (f2.blk HR1.out HR1.out.lt (by omega))
  clear g2 f2 HH1 HF1 HR1
  have k1' := k1 (by decide)
  have k3' := k3 (by decide)
  clear k1 k3
  have sn : IntKind.i64.wrap (-x1) = -x1 := IntWalk.i64_in _ (by omega)
  go_wp2_with fail
  have M3 : Hid (Mk w hb w.heap.size w2.heap.size (w2.heap.size + 1) p c l [.slice none 0 0, .int .i64 (-x1), .int .i64 x2, .slice none 0 0, .slice none 0 0] (w2.alloc (.cells #[.slice none 0 0, .int .i64 (-x1), .int .i64 x2, .slice none 0 0, .slice none 0 0] 28))) :=
    ⟨HH2.out.up (by (repeat (first | exact Below.refl _ _ | (with_reducible refine Below.drewN' ?_ _) | (with_reducible refine Below.drew ?_) | (with_reducible refine Below.setCell ?_ (by first | exact Nat.le_refl _ | omega | (with_reducible (repeat (first | refine sz_alloc ?_ | refine sz_setCell ?_ | refine sz_drew ?_ | refine sz_drewN ?_)); first | exact Nat.le_refl _ | omega) | (simp only [World.size_alloc, World.size_setCell, World.size_drew, size_drewN']; omega)) _) | (with_reducible refine Below.alloc ?_ (by first | exact Nat.le_refl _ | omega | (with_reducible (repeat (first | refine sz_alloc ?_ | refine sz_setCell ?_ | refine sz_drew ?_ | refine sz_drewN ?_)); first | exact Nat.le_refl _ | omega) | (simp only [World.size_alloc, World.size_setCell, World.size_drew, size_drewN']; omega)) _) | assumption))), HF2.out.alloc (by omega) _, HR2.out.alloc _, Blk.new w2 [.slice none 0 0, .int .i64 (-x1), .int .i64 x2, .slice none 0 0, .slice none 0 0] _, Nat.le_refl _, by omega, by omega, by omega, by omega, (by rw [World.size_alloc]; exact Nat.le_refl _), hbw, HA.out⟩
  generalize (w2.alloc (.cells #[.slice none 0 0, .int .i64 (-x1), .int .i64 x2, .slice none 0 0, .slice none 0 0] 28)) = w3 at *
  have hS : w.heap.size < w2.heap.size := by omega
  generalize w2.heap.size = S at *
  clear HH2 HF2 HR2 sn sz1 sz2 w1 w2
  refine (upto_c hb p c l 20 w3 M3.out.heap M3.out.apart hl (by decide) (by decide)).mono ?_
  rintro e w4 ⟨x3, ⟨j0, j1, -⟩, rfl, g4, f4⟩
  have M4 := Lib.hid (M3.out.deal g4 f4)
  have j1' := j1 (by decide)
  clear g4 f4 M3 j1 w3
  go_wp2_with fail
  refine (from_c hb p c l 2 4 w4 M4.out.heap M4.out.apart hl (by decide) (by decide) (by decide) (by decide)).mono ?_
  rintro e w5 ⟨n, ⟨n0, n1, -⟩, rfl, g5, f5⟩
  have M5 := Lib.hid (M4.out.deal g5 f5)
  have n1' := n1 (by decide)
  clear g5 f5 M4 n1 w4
  obtain ⟨n, rfl⟩ := Int.eq_ofNat_of_zero_le (show 0 ≤ n by omega)
  go_wp2_with fail
  obtain ⟨i0, hi, hz0, hz1, hz2⟩ := info_parts infoW
  go_loopw [8, 23] (fun a i wr => ∃ k : Nat, ∃ at_ : Int, ∃ lt v, k ≤ n ∧ a = .int .i64 at_ ∧ i = .int .i64 k ∧ lt.length = k ∧ TabMade lt at_ ∧ Mk w hb w.heap.size S (S + 1) p c l [v, .int .i64 (-x1), .int .i64 x2, .slice none 0 0, .slice none 0 0] wr ∧ wr.ownsRow (S + 1) 103 2 v k (pairs lt).flatten) (fun _ i _ => n - (intOf i).toNat)
  case atStart => exact ⟨0, x3, [], _, by omega, rfl, rfl, rfl, ⟨fun x hx => by simp at hx, fun i h => by simp at h, j0, by simpa using j1'⟩, M5.out, World.ownsRow_nil _ _ _ _⟩
  case round =>
    obtain ⟨k, at_, lt, v, hk, rfl, rfl, hlt, hTM, hM, hown⟩ := hrel
    have HM := Lib.hid hM
    have HO := Lib.hid hown
    have HT := Lib.hid hTM
    have HL := Lib.hid hlt
    have at0 := hTM.2.2.1
    have at1 := hTM.2.2.2
    rw [hlt] at at1
    clear hM hTM hlt
    by_cases hkn : k < n
    · have q1 : (k : Int) < n := by omega
      have sk : IntKind.i64.wrap ((k : Int) + 1) = (k : Int) + 1 := IntWalk.i64_in _ (by omega)
      have c0 := HM.out.box.cell 0
      simp only [List.getElem?_cons_zero] at c0
      go_wp2_with fail
      refine region_tail (fun W' => W'.cell? ⟨S, 0, none⟩ = some v) 8 mixed (by kernel_rfl) (HM.out.drew.box.cell 0) (fun hHeld => ?_)
      clear sk
      refine wpAnyG_take 0 25 (v := ?_) rfl rfl (by kernel_rfl) (fun _ _ _ h => h) (Or.inl ⟨by rfl, ?_⟩) (by assumption) ?_
      rotate_left
      · (intro w' hSw; (try dsimp only at hSw); go_split_ands; go_simp; try with_reducible rfl)
      try simp only [List.setIfInBounds_toArray, List.set_cons_zero, List.set_cons_succ]
      refine wpAnyG_take 1 26 (v := ?_) rfl rfl (by kernel_rfl) (fun _ _ _ h => h) (Or.inl ⟨by rfl, ?_⟩) (by assumption) ?_
      rotate_left
      · (intro w' hSw; (try dsimp only at hSw); go_split_ands; go_simp; try with_reducible rfl)
      try simp only [List.setIfInBounds_toArray, List.set_cons_zero, List.set_cons_succ]
      refine wpAnyG_take 2 27 (v := ?_) rfl rfl (by kernel_rfl) (fun _ _ _ h => h) (Or.inl ⟨by rfl, ?_⟩) (by assumption) ?_
      rotate_left
      · (intro w' hSw; (try dsimp only at hSw); go_split_ands; go_simp; try with_reducible rfl)
      try simp only [List.setIfInBounds_toArray, List.set_cons_zero, List.set_cons_succ]
      refine wpAnyG_take 3 28 (v := ?_) rfl rfl (by kernel_rfl) (fun _ _ _ h => h) (Or.inl ⟨by rfl, ?_⟩) (by assumption) ?_
      rotate_left
      · (intro w' hSw; (try dsimp only at hSw); go_split_ands; go_simp; try with_reducible rfl)
      try simp only [List.setIfInBounds_toArray, List.set_cons_zero, List.set_cons_succ]
      refine wpAnyG_do 4 rfl (by kernel_rfl) (fun K hK => ?_)
      rw [if_pos (by rfl)]
      go_simp
      refine (upto_c hb p c l 60 _ HM.out.drew.heap HM.out.drew.apart hl (by decide) (by decide)).mono ?_
      rintro e w6 ⟨y, ⟨y0, y1, -⟩, rfl, g6, f6⟩
      have M6 := Lib.hid (HM.out.drew.deal g6 f6)
      have O6 := Lib.hid (f6.own (show wr.drew.ownsRow _ _ _ _ _ _ from HO.out) (by omega))
      have y1' := y1 (by decide)
      refine hK.out _ _ (M6.out.box.cell 0) (fun hHeld => ?_)
      clear hK K g6 f6 y1
      refine wpAnyG_do 5 rfl (by kernel_rfl) (fun K hK => ?_)
      rw [if_pos (by rfl)]
      go_simp
      refine hK.out _ _ (M6.out.box.cell 0) (fun hHeld => ?_)
      clear hK K
      refine wpAnyG_do 6 rfl (by kernel_rfl) (fun K hK => ?_)
      rw [if_pos (by rfl)]
      go_simp
      refine hK.out _ _ ((M6.out.alloc _).box.cell 0) (fun hHeld => ?_)
      clear hK K
      refine wpAnyG_do 7 rfl (by kernel_rfl) (fun K hK => ?_)
      rw [if_pos (by rfl)]
      refine wp_append_own _ _ _ 22 rfl (S + 1) 103 i0 (.agg #[.int .i64 0, .int .i64 0]) 2 16 Try.underlying22 hi hz0 hz1 hz2 rfl (by decide) v k (pairs lt).flatten rfl (O6.out.alloc _) ⟨w6.heap.size, 0, none⟩ 1 1 [.int .i64 at_, .int .i64 y] rfl rfl (newsAt w6 rfl [.int .i64 at_, .int .i64 y] _) (by simp [Value.oneCell']) (by simp [maxLen]; omega) (by omega) ((M6.out.alloc _).n1) ?_
      intro v' w7 hown7 hgr7 _
      obtain ⟨g', cap', rfl⟩ := ownsRow_succ hown7
      have M7 := Lib.hid ((M6.out.alloc _).grown hgr7 (fun j e => (O6.out.lt j e).1))
      have O7 := Lib.hid hown7
      refine hK.out _ _ (M7.out.box.cell 0) (fun hHeld => ?_)
      clear hK K hown7 hgr7 hown
      try simp only [List.setIfInBounds_toArray, List.set_cons_zero, List.set_cons_succ]
      refine wpAnyG_tail (by kernel_rfl) ?_
      have d0 := M7.out.box.cell 0
      have df := M7.out.box.free
      have dl := M7.out.box.lt
      simp only [List.getElem?_cons_zero] at d0
      have sk : IntKind.i64.wrap ((k : Int) + 1) = (k : Int) + 1 := IntWalk.i64_in _ (by omega)
      go_wp2_with fail
      have M8 := Lib.hid (M7.out.set 0 (.slice (some ⟨g', 0, none⟩) (k + 1) cap'))
      have O8 := Lib.hid (ownsRow_setCell_other O7.out (a := ⟨S, 0, none⟩) (fun e => by have := O7.out.lt S e; omega) (.slice (some ⟨g', 0, none⟩) (k + 1) cap'))
      clear d0 df dl c0 M7 O7 M6 O6 HM HO
      refine (from_c hb p c l 1 30 _ M8.out.heap M8.out.apart hl (by decide) (by decide) (by decide) (by decide)).mono ?_
      rintro e w9 ⟨z, ⟨z0, z1, -⟩, rfl, g9, f9⟩
      have M9 := Lib.hid (M8.out.deal g9 f9)
      have O9 := Lib.hid (f9.own O8.out (by omega))
      have z1' := z1 (by decide)
      clear g9 f9 z1 M8 O8
      have sa : IntKind.i64.wrap (at_ + z) = at_ + z := IntWalk.i64_in _ (by omega)
      have HT' : Hid (TabMade (lt ++ [(at_, y)]) (at_ + z)) := tabMade_snoc HT.out (by omega) (by omega) z0 z1'
      go_wp2_with fail
      go_roundw
      case rel =>
        refine ⟨k + 1, at_ + z, lt ++ [(at_, y)], _, by omega, rfl, by go_num, by rw [List.length_append, HL.out]; rfl, HT'.out, M9.out, ?_⟩
        have e : (pairs (lt ++ [(at_, y)])).flatten = (pairs lt).flatten ++ [.int .i64 at_, .int .i64 y] := by unfold pairs; rw [List.map_append, List.flatten_append]; rfl
        rw [e]
        exact O9.out
      case measure => simp [intOf]; omega
    · obtain rfl : k = n := by omega
      clear hown hi hz0 hz1 hz2
      go_wp2_with fail
      refine (from_c hb p c l 1 places wr HM.out.heap HM.out.apart hl (by decide) (by decide) (by omega) (by omega)).mono ?_
      rintro e w6 ⟨nf, ⟨f0, f1, -⟩, rfl, g6, f6⟩
      have M6' := Lib.hid (HM.out.deal g6 f6)
      have O6 := Lib.hid (f6.own HO.out (by omega))
      have f1' := f1 p1
      clear g6 f6 f1 HM HO M5
      obtain ⟨qT, dT, rfl, t1, t2, hT, hTb⟩ := Row.of_own (flatOk_pairs lt) O6.out (by simp [pairs, HL.out])
      have HTr := Lib.hid hT
      have HTb := Lib.hid hTb
      have M6 := Lib.hid M6'.out
      obtain ⟨nf, rfl⟩ := Int.eq_ofNat_of_zero_le (show 0 ≤ nf by omega)
      clear hT hTb O6 M6'
      obtain ⟨i1, hi, hz0, hz1, hz2⟩ := info_parts info3
      go_wp2_with fail
      go_loopw [42] (fun i wq => ∃ j : Nat, ∃ lf v, j ≤ nf ∧ i = .int .i64 j ∧ lf.length = j ∧ (∀ x ∈ lf, 0 ≤ x ∧ x ≤ 50) ∧ Mk w hb w.heap.size S (S + 1) p c l [.slice qT k dT, .int .i64 (-x1), .int .i64 x2, v, .slice none 0 0] wq ∧ wq.ownsRow w6.heap.size 3 1 v j (ints lf).flatten ∧ Mid (S + 1) w6.heap.size w6 wq) (fun i _ => nf - (intOf i).toNat)
      case atStart => exact ⟨0, [], _, by omega, rfl, rfl, fun x hx => by simp at hx, M6.out, World.ownsRow_nil _ _ _ _, Mid.refl _ _ _⟩
      case round =>
        obtain ⟨j, lf, v, hj, rfl, hlf, hfl, hM, hown, hmid⟩ := hrel
        have HM := Lib.hid hM
        have HO := Lib.hid hown
        have HD := Lib.hid hmid
        have HLf := Lib.hid hlf
        have HFl := Lib.hid hfl
        clear hM hown hmid hlf hfl
        by_cases hjn : j < nf
        · have q1 : (j : Int) < nf := by omega
          have hw6 := M6.out.far.size
          have hn6 := M6.out.n1
          have hdr := HD.out.size
          have hsz : j ≤ 8 := by omega
          go_wp2_with fail
          refine region_tail (fun W' => W'.cell? ⟨S, 3, none⟩ = some v) 6 mixed (by kernel_rfl) (HM.out.drew.box.cell 3) (fun hHeld => ?_)
          refine wpAnyG_take 0 44 (v := ?_) rfl rfl (by kernel_rfl) (fun _ _ _ h => h) (Or.inl ⟨by rfl, ?_⟩) (by assumption) ?_
          rotate_left
          · (intro w' hSw; (try dsimp only at hSw); go_split_ands; go_simp; try with_reducible rfl)
          try simp only [List.setIfInBounds_toArray, List.set_cons_zero, List.set_cons_succ]
          refine wpAnyG_take 1 45 (v := ?_) rfl rfl (by kernel_rfl) (fun _ _ _ h => h) (Or.inl ⟨by rfl, ?_⟩) (by assumption) ?_
          rotate_left
          · (intro w' hSw; (try dsimp only at hSw); go_split_ands; go_simp; try with_reducible rfl)
          try simp only [List.setIfInBounds_toArray, List.set_cons_zero, List.set_cons_succ]
          refine wpAnyG_take 2 46 (v := ?_) rfl rfl (by kernel_rfl) (fun _ _ _ h => h) (Or.inl ⟨by rfl, ?_⟩) (by assumption) ?_
          rotate_left
          · (intro w' hSw; (try dsimp only at hSw); go_split_ands; go_simp; try with_reducible rfl)
          try simp only [List.setIfInBounds_toArray, List.set_cons_zero, List.set_cons_succ]
          refine wpAnyG_do 3 rfl (by kernel_rfl) (fun K hK => ?_)
          rw [if_pos (by rfl)]
          go_simp
          refine (upto_c hb p c l 50 _ HM.out.drew.heap HM.out.drew.apart hl (by decide) (by decide)).mono ?_
          rintro e w7 ⟨y, ⟨y0, y1, -⟩, rfl, g7, f7⟩
          have M7 := Lib.hid (HM.out.drew.deal g7 f7)
          have O7 := Lib.hid (f7.own (show wr.drew.ownsRow _ _ _ _ _ _ from HO.out) (by omega))
          have D7 := Lib.hid (HD.out.drew.deal f7 (by omega) hdr)
          have y1' := y1 (by decide)
          refine hK.out _ _ (M7.out.box.cell 3) (fun hHeld => ?_)
          clear hK K g7 f7 y1
          refine wpAnyG_do 4 rfl (by kernel_rfl) (fun K hK => ?_)
          rw [if_pos (by rfl)]
          go_simp
          refine hK.out _ _ ((M7.out.alloc _).box.cell 3) (fun hHeld => ?_)
          clear hK K
          refine wpAnyG_do 5 rfl (by kernel_rfl) (fun K hK => ?_)
          rw [if_pos (by rfl)]
          refine wp_append_own _ _ _ 25 rfl w6.heap.size 3 i1 (.int .i64 0) 1 8 Try.underlying25 hi hz0 hz1 hz2 rfl (by decide) v j (ints lf).flatten rfl (O7.out.alloc _) ⟨w7.heap.size, 0, none⟩ 1 1 [.int .i64 y] rfl rfl (newsAt w7 rfl [.int .i64 y] _) (by simp [Value.oneCell']) (by simp [maxLen]; omega) (by omega) (sz_alloc D7.out.size) ?_
          intro v' w8 hown8 hgr8 _
          obtain ⟨g', cap', rfl⟩ := ownsRow_succ hown8
          have M8 := Lib.hid ((M7.out.alloc _).grown hgr8 (fun j e => by have := (O7.out.lt j e).1; omega))
          have D8 := Lib.hid ((D7.out.alloc D7.out.size _).grown hgr8 (fun j e => (O7.out.lt j e).1) (sz_alloc D7.out.size))
          have O8 := Lib.hid hown8
          refine hK.out _ _ (M8.out.box.cell 3) (fun hHeld => ?_)
          clear hK K hown8 hgr8
          try simp only [List.setIfInBounds_toArray, List.set_cons_zero, List.set_cons_succ]
          refine wpAnyG_tail (by kernel_rfl) ?_
          have d0 := M8.out.box.cell 3
          have df := M8.out.box.free
          have dl := M8.out.box.lt
          simp only [List.getElem?_cons_zero, List.getElem?_cons_succ] at d0
          have sk : IntKind.i64.wrap ((j : Int) + 1) = (j : Int) + 1 := IntWalk.i64_in _ (by omega)
          go_wp2_with fail
          go_roundw
          case rel =>
            refine ⟨j + 1, lf ++ [y], _, by omega, by go_num, by rw [List.length_append, HLf.out]; rfl, fun x hx => ?_, M8.out.set 3 _, ?_, D8.out.setCell (Or.inl (by simp only; omega)) _⟩
            · rw [List.mem_append] at hx
              rcases hx with hx | hx
              · exact HFl.out x hx
              · simp only [List.mem_singleton] at hx; omega
            · have e : (ints (lf ++ [y])).flatten = (ints lf).flatten ++ [.int .i64 y] := by unfold ints; rw [List.map_append, List.flatten_append]; rfl
              rw [e]
              exact ownsRow_setCell_other O8.out (a := ⟨S, 3, none⟩) (fun e => by have := (O8.out.lt S e).1; omega) _
          case measure => simp [intOf]; omega
        · obtain rfl : j = nf := by omega
          obtain ⟨qF, dF, rfl, t3, t4, hF, hFb⟩ := Row.of_own (flatOk_ints lf) HO.out (by simp [ints, HLf.out])
          have HTr2 := Lib.hid (HD.out.row HTr.out (fun _ b off e => by have := HTb.out b off e; omega) (pairs_pos _) (Nat.le_refl _))
          have HFr := Lib.hid hF
          have HFb := Lib.hid hFb
          have HM' := Lib.hid HM.out
          have hw6 := M6.out.far.size
          have hn6 := M6.out.n1
          clear hF hFb hi hz0 hz1 hz2 HO HD HM HTr M6
          have HM := HM'
          clear HM'
          go_wp2_with fail
          refine (upto_c hb p c l sills wr HM.out.heap HM.out.apart hl (by omega) (by omega)).mono ?_
          rintro e w8 ⟨ns, ⟨g0, g1, -⟩, rfl, g8, f8⟩
          have M8 := Lib.hid (HM.out.deal g8 f8)
          have g1' := g1 s0
          have RT := Lib.hid (f8.row HTr2.out (fun h b off e => ⟨HTr2.out.lt (pairs_pos _) h e, by have := HTb.out b off e; omega⟩))
          have RF := Lib.hid (f8.row HFr.out (fun h b off e => ⟨HFr.out.lt (ints_pos _) h e, by have := HFb.out b off e; omega⟩))
          have FB : Hid (∀ b off, qF = some ⟨b, off, none⟩ → S + 1 ≤ b) := fun b off e => by have := HFb.out b off e; omega
          clear g8 f8 g1 HM HTr2 HFr HFb hw6 hn6
          obtain ⟨ns, rfl⟩ := Int.eq_ofNat_of_zero_le g0
          obtain ⟨i2, hi, hz0, hz1, hz2⟩ := info_parts infoS
          have hw8 := M8.out.far.size
          have hn8 := M8.out.n1
          go_wp2_with fail
          go_loopw [55] (fun i wq => ∃ q : Nat, ∃ ls v, q ≤ ns ∧ i = .int .i64 q ∧ ls.length ≤ q ∧ (∀ x ∈ ls, SillMade j x) ∧ Mk w hb w.heap.size S (S + 1) p c l [.slice qT k dT, .int .i64 (-x1), .int .i64 x2, .slice qF j dF, v] wq ∧ wq.ownsRow w8.heap.size 97 3 v ls.length (triples ls).flatten ∧ Mid (S + 1) w8.heap.size w8 wq) (fun i _ => ns - (intOf i).toNat)
          case atStart => exact ⟨0, [], _, by omega, rfl, by simp, fun x hx => by simp at hx, M8.out, World.ownsRow_nil _ _ _ _, Mid.refl _ _ _⟩
          case round =>
            obtain ⟨q, ls, v, hq, rfl, hls, hsl, hM, hown, hmid⟩ := hrel
            have HM := Lib.hid hM
            have HO := Lib.hid hown
            have HD := Lib.hid hmid
            have HSl := Lib.hid hsl
            clear hM hown hmid hsl
            by_cases hqn : q < ns
            · have q1 : (q : Int) < ns := by omega
              have e3 := HM.out.box.cell 3
              simp only [List.getElem?_cons_zero, List.getElem?_cons_succ] at e3
              have sj : IntKind.i64.wrap ((j : Int) - 1) = (j : Int) - 1 := IntWalk.i64_in _ (by omega)
              have hqs : q ≤ 16 := by omega
              by_cases hqj : q < j
              · have m1 : (q : Int) < (j : Int) := by omega
                have sq : IntKind.i64.wrap ((q : Int) - 1) = (q : Int) - 1 := IntWalk.i64_in _ (by omega)
                go_wp2_with fail
                refine (from_c hb p c l (-1) ((q : Int) - 1) wr HM.out.heap HM.out.apart hl (by decide) (by decide) (by omega) (by omega)).mono ?_
                rintro e w9 ⟨A, ⟨a0, a1, -⟩, rfl, g9, f9⟩
                have M9 := Lib.hid (HM.out.deal g9 f9)
                have O9 := Lib.hid (f9.own HO.out (by omega))
                have D9 := Lib.hid (HD.out.deal f9 (by omega) HD.out.size)
                have a1' := a1 (by omega)
                clear g9 f9 a1 HM HO HD sq e3
                go_wp2_with fail
                refine (upto_c hb p c l 50 w9 M9.out.heap M9.out.apart hl (by decide) (by decide)).mono ?_
                rintro e w10 ⟨h, ⟨h0, h1, -⟩, rfl, g10, f10⟩
                have M10 := Lib.hid (M9.out.deal g10 f10)
                have O10 := Lib.hid (f10.own O9.out (by omega))
                have D10 := Lib.hid (D9.out.deal f10 (by omega) D9.out.size)
                have h1' := h1 (by decide)
                clear g10 f10 h1 M9 O9 D9
                have e3 := M10.out.box.cell 3
                have e4 := M10.out.box.lt
                simp only [List.getElem?_cons_zero, List.getElem?_cons_succ] at e3
                have m2 : ¬ (j : Int) ≤ (q : Int) := by omega
                go_wp2_with fail
                refine Calls.world ?_
                intro w11 hw11
                have M11 : Hid (Mk w hb w.heap.size S (S + 1) p c l [.slice qT k dT, .int .i64 (-x1), .int .i64 x2, .slice qF j dF, v] w11) := by rw [hw11]; exact M10.out.alloc _
                have O11 : Hid (w11.ownsRow w8.heap.size 97 3 v ls.length (triples ls).flatten) := by rw [hw11]; exact O10.out.alloc _
                have D11 : Hid (Mid (S + 1) w8.heap.size w8 w11) := by rw [hw11]; exact D10.out.alloc D10.out.size _
                have X11 : Hid (Blk w11 w10.heap.size [.int .i64 A, .int .i64 q, .int .i64 h] 97) := by rw [hw11]; exact Blk.new w10 [.int .i64 A, .int .i64 q, .int .i64 h] _
                have XO : Hid (v.ownBlock ≠ some w10.heap.size) := fun e => by have := (O10.out.lt _ e).2; omega
                have X8 : w8.heap.size ≤ w10.heap.size := D10.out.size
                clear hw11 M10 O10 D10 e3 e4 m2
                obtain ⟨B, hBq⟩ : ∃ B : Int, B = q := ⟨_, rfl⟩
                rw [← hBq] at X11
                have hB0 : -1 ≤ B := by omega
                have hB1 : B < j := by omega
                have hA0 : -1 ≤ A := a0
                have hA1 : A < j := by omega
                generalize w10.heap.size = X at *
                clear hBq a0 a1'
                -- the sill lies at X with its ends A and B
                refine (once_c hb p c l 3 w11 M11.out.heap M11.out.apart hl (by decide) (by decide)).mono ?_
                rintro e w12 ⟨b, rfl, g12, f12⟩
                have M12 := Lib.hid (M11.out.deal g12 f12)
                have O12 := Lib.hid (f12.own O11.out (by omega))
                have D12 := Lib.hid (D11.out.deal f12 (by omega) D11.out.size)
                have hX12 := f12.blk X11.out X11.out.lt (by omega)
                have X12 := Lib.hid hX12
                have z0 := hX12.cell 0
                have z1 := hX12.cell 1
                have z2 := hX12.cell 2
                have zf := hX12.free
                have zl := hX12.lt
                have e3 := M12.out.box.cell 4
                have e4 := M12.out.box.free 4
                have e5 := M12.out.box.lt
                have sk : IntKind.i64.wrap ((q : Int) + 1) = (q : Int) + 1 := IntWalk.i64_in _ (by omega)
                simp only [List.getElem?_cons_zero, List.getElem?_cons_succ] at z0 z1 z2 e3
                clear g12 f12 hX12 M11 O11 D11 X11
                by_cases hAB : A = B
                · subst hAB
                  cases b
                  · go_wp2_with fail
                    go_roundw
                    case rel => exact ⟨q + 1, ls, v, by omega, by go_num, by omega, HSl.out, M12.out, O12.out, D12.out⟩
                    case measure => simp [intOf]; omega
                  · go_wp2_with fail
                    go_roundw
                    case rel => exact ⟨q + 1, ls, v, by omega, by go_num, by omega, HSl.out, (M12.out.setNew (a := ⟨X, 0, none⟩) (by simp only; omega) _).setNew (a := ⟨X, 1, none⟩) (by simp only; omega) _, ownsRow_setCell_other (ownsRow_setCell_other O12.out (a := ⟨X, 0, none⟩) XO.out _) (a := ⟨X, 1, none⟩) XO.out _, (D12.out.setCell (a := ⟨X, 0, none⟩) (Or.inr X8) _).setCell (a := ⟨X, 1, none⟩) (Or.inr X8) _⟩
                    case measure => simp [intOf]; omega
                · have nAB : (A != B) = true := by rw [bne_iff_ne]; exact hAB
                  have nBA : (B != A) = true := by rw [bne_iff_ne]; exact Ne.symm hAB
                  cases b
                  · go_wp2_with (at_builtin; refine wpList_append_own _ rfl _ _ 26 rfl w8.heap.size 97 i2 (.agg #[.int .i64 0, .int .i64 0, .int .i64 0]) 3 24 Try.underlying26 hi hz0 hz1 hz2 rfl (by decide) _ _ _ rfl (O12.out.alloc _) ⟨w12.heap.size, 0, none⟩ 1 1 [.int .i64 A, .int .i64 B, .int .i64 h] rfl rfl (newsAt _ rfl [.int .i64 A, .int .i64 B, .int .i64 h] _) (by simp [Value.oneCell']) (by simp [maxLen]; omega) (by omega) (sz_alloc D12.out.size) ?_; intro v' w14 hown1 hgr hnn; clear hnn; have M14 := Lib.hid ((M12.out.alloc _).grown (show World.grownBy _ w14 v.ownBlock from hgr) (fun j e => by have := (O12.out.lt j e).1; omega)); have D14 := Lib.hid ((D12.out.alloc D12.out.size _).grown (show World.grownBy _ w14 v.ownBlock from hgr) (fun j e => (O12.out.lt j e).1) (sz_alloc D12.out.size)); have O14 := Lib.hid hown1; obtain ⟨g', cap', rfl⟩ := ownsRow_succ hown1; have e3 := M14.out.box.cell 4; have e4 := M14.out.box.free 4; have e5 := M14.out.box.lt; simp only [List.getElem?_cons_zero, List.getElem?_cons_succ] at e3; clear hown1 hgr)
                    go_roundw
                    case rel =>
                      refine ⟨q + 1, ls ++ [(A, B, h)], _, by omega, by go_num, by rw [List.length_append]; simp only [List.length_singleton]; omega, fun x hx => ?_, M14.out.set 4 _, ?_, D14.out.setCell (Or.inl (by simp only; omega)) _⟩
                      · rw [List.mem_append] at hx
                        rcases hx with hx | hx
                        · exact HSl.out x hx
                        · simp only [List.mem_singleton] at hx
                          subst hx
                          exact ⟨⟨by omega, by omega⟩, ⟨by omega, by omega⟩, hAB, h0, h1'⟩
                      · have e : (triples (ls ++ [(A, B, h)])).flatten = (triples ls).flatten ++ [.int .i64 A, .int .i64 B, .int .i64 h] := by unfold triples; rw [List.map_append, List.flatten_append]; rfl
                        rw [e, List.length_append]
                        exact ownsRow_setCell_other O14.out (a := ⟨S, 4, none⟩) (fun e => by have := (O14.out.lt S e).1; omega) _
                    case measure => simp [intOf]; omega
                  · have M13 : Hid (Mk w hb w.heap.size S (S + 1) p c l [.slice qT k dT, .int .i64 (-x1), .int .i64 x2, .slice qF j dF, v] ((w12.setCell ⟨X, 0, none⟩ (.int .i64 B)).setCell ⟨X, 1, none⟩ (.int .i64 A))) := (M12.out.setNew (a := ⟨X, 0, none⟩) (by simp only; omega) _).setNew (a := ⟨X, 1, none⟩) (by simp only; omega) _
                    have O13 : Hid (((w12.setCell ⟨X, 0, none⟩ (.int .i64 B)).setCell ⟨X, 1, none⟩ (.int .i64 A)).ownsRow w8.heap.size 97 3 v ls.length (triples ls).flatten) := ownsRow_setCell_other (ownsRow_setCell_other O12.out (a := ⟨X, 0, none⟩) XO.out _) (a := ⟨X, 1, none⟩) XO.out _
                    have D13 : Hid (Mid (S + 1) w8.heap.size w8 ((w12.setCell ⟨X, 0, none⟩ (.int .i64 B)).setCell ⟨X, 1, none⟩ (.int .i64 A))) := (D12.out.setCell (a := ⟨X, 0, none⟩) (Or.inr X8) _).setCell (a := ⟨X, 1, none⟩) (Or.inr X8) _
                    go_wp2_with (at_builtin; refine wpList_append_own _ rfl _ _ 26 rfl w8.heap.size 97 i2 (.agg #[.int .i64 0, .int .i64 0, .int .i64 0]) 3 24 Try.underlying26 hi hz0 hz1 hz2 rfl (by decide) _ _ _ rfl (O13.out.alloc _) ⟨w12.heap.size, 0, none⟩ 1 1 [.int .i64 B, .int .i64 A, .int .i64 h] rfl rfl (newsAt _ (by simp only [World.size_setCell]) [.int .i64 B, .int .i64 A, .int .i64 h] _) (by simp [Value.oneCell']) (by simp [maxLen]; omega) (by omega) (sz_alloc D13.out.size) ?_; intro v' w14 hown1 hgr hnn; clear hnn; have M14 := Lib.hid ((M13.out.alloc _).grown (show World.grownBy _ w14 v.ownBlock from hgr) (fun j e => by have := (O13.out.lt j e).1; omega)); have D14 := Lib.hid ((D13.out.alloc D13.out.size _).grown (show World.grownBy _ w14 v.ownBlock from hgr) (fun j e => (O13.out.lt j e).1) (sz_alloc D13.out.size)); have O14 := Lib.hid hown1; obtain ⟨g', cap', rfl⟩ := ownsRow_succ hown1; have e3 := M14.out.box.cell 4; have e4 := M14.out.box.free 4; have e5 := M14.out.box.lt; simp only [List.getElem?_cons_zero, List.getElem?_cons_succ] at e3; clear hown1 hgr)
                    go_roundw
                    case rel =>
                      refine ⟨q + 1, ls ++ [(B, A, h)], _, by omega, by go_num, by rw [List.length_append]; simp only [List.length_singleton]; omega, fun x hx => ?_, M14.out.set 4 _, ?_, D14.out.setCell (Or.inl (by simp only; omega)) _⟩
                      · rw [List.mem_append] at hx
                        rcases hx with hx | hx
                        · exact HSl.out x hx
                        · simp only [List.mem_singleton] at hx
                          subst hx
                          exact ⟨⟨by omega, by omega⟩, ⟨by omega, by omega⟩, (Ne.symm hAB), h0, h1'⟩
                      · have e : (triples (ls ++ [(B, A, h)])).flatten = (triples ls).flatten ++ [.int .i64 B, .int .i64 A, .int .i64 h] := by unfold triples; rw [List.map_append, List.flatten_append]; rfl
                        rw [e, List.length_append]
                        exact ownsRow_setCell_other O14.out (a := ⟨S, 4, none⟩) (fun e => by have := (O14.out.lt S e).1; omega) _
                    case measure => simp [intOf]; omega
              · have m1 : (j : Int) ≤ (q : Int) := by omega
                have sq : IntKind.i64.wrap ((j : Int) - 1 - 1) = (j : Int) - 1 - 1 := IntWalk.i64_in _ (by omega)
                go_wp2_with fail
                refine (from_c hb p c l (-1) ((j : Int) - 1 - 1) wr HM.out.heap HM.out.apart hl (by decide) (by decide) (by omega) (by omega)).mono ?_
                rintro e w9 ⟨A, ⟨-, -, -⟩, rfl, g9, f9⟩
                have M9 := Lib.hid (HM.out.deal g9 f9)
                have O9 := Lib.hid (f9.own HO.out (by omega))
                have D9 := Lib.hid (HD.out.deal f9 (by omega) HD.out.size)
                clear g9 f9 HM HO HD sq e3
                go_wp2_with fail
                refine (upto_c hb p c l 50 w9 M9.out.heap M9.out.apart hl (by decide) (by decide)).mono ?_
                rintro e w10 ⟨h, ⟨h0, h1, -⟩, rfl, g10, f10⟩
                have M10 := Lib.hid (M9.out.deal g10 f10)
                have O10 := Lib.hid (f10.own O9.out (by omega))
                have D10 := Lib.hid (D9.out.deal f10 (by omega) D9.out.size)
                have h1' := h1 (by decide)
                clear g10 f10 h1 M9 O9 D9
                have e3 := M10.out.box.cell 3
                have e4 := M10.out.box.lt
                simp only [List.getElem?_cons_zero, List.getElem?_cons_succ] at e3
                go_wp2_with fail
                refine Code.wp_world ?_
                intro wa hwa
                have Ma : Hid (Mk w hb w.heap.size S (S + 1) p c l [.slice qT k dT, .int .i64 (-x1), .int .i64 x2, .slice qF j dF, v] wa) := by rw [hwa]; exact M10.out.alloc _
                have Oa : Hid (wa.ownsRow w8.heap.size 97 3 v ls.length (triples ls).flatten) := by rw [hwa]; exact O10.out.alloc _
                have Da : Hid (Mid (S + 1) w8.heap.size w8 wa) := by rw [hwa]; exact D10.out.alloc D10.out.size _
                have Xa : Hid (Blk wa w10.heap.size [.int .i64 A, .int .i64 ((j : Int) - 1), .int .i64 h] 97) := by rw [hwa]; exact Blk.new w10 [.int .i64 A, .int .i64 ((j : Int) - 1), .int .i64 h] _
                have XO : Hid (v.ownBlock ≠ some w10.heap.size) := fun e => by have := (O10.out.lt _ e).2; omega
                have X8 : w8.heap.size ≤ w10.heap.size := D10.out.size
                clear hwa M10 O10 D10 e3 e4
                generalize w10.heap.size = X at *
                go_cut [] (fun wx => ∃ A' B' : Int, -1 ≤ A' ∧ A' < j ∧ -1 ≤ B' ∧ B' < j ∧ Blk wx X [.int .i64 A', .int .i64 B', .int .i64 h] 97 ∧ Mk w hb w.heap.size S (S + 1) p c l [.slice qT k dT, .int .i64 (-x1), .int .i64 x2, .slice qF j dF, v] wx ∧ wx.ownsRow w8.heap.size 97 3 v ls.length (triples ls).flatten ∧ Mid (S + 1) w8.heap.size w8 wx)
                case first =>
                  refine region_inv 13 (fun done a W => ∃ V : Nat → Value, a = ⟨#[Value.pointer (some ⟨hb, 0, none⟩), Value.int .i64 places, Value.int .i64 sills, undef, undef, undef, Value.pointer (some ⟨w.heap.size, 0, none⟩), Value.pointer (some ⟨S, 0, none⟩), Value.int .i64 at_, Value.int .i64 (q : Int), Value.int .i64 ((j : Int) - 1), Value.pointer (some ⟨X, 0, none⟩), Value.pointer (some ⟨hb, 0, none⟩), Value.int .i64 x1, Value.int .i64 (-x1), Value.pointer (some ⟨hb, 0, none⟩), Value.int .i64 x2, Value.agg #[Value.int .i64 (-x1), Value.int .i64 x2], Value.agg #[Value.slice none 0 0, Value.int .i64 (-x1), Value.int .i64 x2, Value.slice none 0 0, Value.slice none 0 0], Value.pointer (some ⟨hb, 0, none⟩), Value.int .i64 x3, Value.pointer (some ⟨hb, 0, none⟩), Value.int .i64 (k : Int), Value.int .i64 (k : Int), Value.bool false, u25, u26, u27, u28, u29, u30, u31, u32, u33, u34, u35, u36, u37, u38, Value.pointer (some ⟨hb, 0, none⟩), Value.int .i64 places, Value.int .i64 (j : Int), Value.int .i64 (j : Int), Value.bool false, u44, u45, u46, u47, u48, u49, u50, u51, Value.pointer (some ⟨hb, 0, none⟩), Value.int .i64 sills, Value.int .i64 (ns : Int), Value.int .i64 (q : Int), Value.bool true, Value.int .i64 (q : Int), Value.int .i64 (q : Int), Value.pointer (some ⟨S, 3, none⟩), Value.slice qF j dF, Value.int .i64 (j : Int), Value.int .i64 ((j : Int) - 1), Value.int .i64 ((j : Int) - 1), Value.pointer (some ⟨hb, 0, none⟩), Value.int .i64 ((j : Int) - 1), Value.int .i64 ((j : Int) - 1 - 1), Value.int .i64 A, Value.int .i64 ((j : Int) - 1), Value.pointer (some ⟨hb, 0, none⟩), Value.int .i64 h, Value.agg #[Value.int .i64 A, Value.int .i64 ((j : Int) - 1), Value.int .i64 h], Value.int .i64 (q : Int), Value.pointer (some ⟨S, 3, none⟩), Value.slice qF j dF, Value.int .i64 (j : Int), Value.bool true, V 0, V 1, V 2, V 3, V 4, V 5, V 6, V 7, V 8, V 9, V 10, V 11, V 12, u90, u91, u92, u93, u94, u95, u96, u97, u98, u99, u100, u101, u102, u103, u104, u105, u106, u107, u108, u109, u110, undef], []⟩ ∧ (∀ i, done i = true → Two18 hb S X j (.slice qF j dF) i (V i)) ∧ Blk W X [.int .i64 A, .int .i64 ((j : Int) - 1), .int .i64 h] 97 ∧ Mk w hb w.heap.size S (S + 1) p c l [.slice qT k dT, .int .i64 (-x1), .int .i64 x2, .slice qF j dF, v] W ∧ W.ownsRow w8.heap.size 97 3 v ls.length (triples ls).flatten ∧ Mid (S + 1) w8.heap.size w8 W) mixed (by kernel_rfl) ?_ ?_ ?_
                  · exact ⟨fun i => if i = 0 then u77 else if i = 1 then u78 else if i = 2 then u79 else if i = 3 then u80 else if i = 4 then u81 else if i = 5 then u82 else if i = 6 then u83 else if i = 7 then u84 else if i = 8 then u85 else if i = 9 then u86 else if i = 10 then u87 else if i = 11 then u88 else u89, rfl, fun i h => (by cases h), Xa.out.drew, Ma.out.drew, Oa.out, Da.out.drew⟩
                  · intro done a W i o hi hd ho hall hinv
                    obtain ⟨V, rfl, hf, hX, hM, hO, hD⟩ := hinv
                    obtain rfl | rfl | rfl | rfl | rfl | rfl | rfl | rfl | rfl | rfl | rfl | rfl | rfl : i = 0 ∨ i = 1 ∨ i = 2 ∨ i = 3 ∨ i = 4 ∨ i = 5 ∨ i = 6 ∨ i = 7 ∨ i = 8 ∨ i = 9 ∨ i = 10 ∨ i = 11 ∨ i = 12 := by omega
                    · clear ho hall hd
                      have HF := Lib.hid hf
                      have HX := Lib.hid hX
                      have HM := Lib.hid hM
                      have HO := Lib.hid hO
                      have HD := Lib.hid hD
                      clear hf hX hM hO hD
                      refine wpOp_step rfl (fun K hK => ?_)
                      rw [if_pos (by rfl)]
                      have HK := Lib.hid hK
                      clear hK
                      go_simp
                      exact HK.out _ _ ⟨fun k => if k = 0 then .pointer (some ⟨hb, 0, none⟩) else V k, rfl, facts_upd HF.out rfl, HX.out, HM.out, HO.out, HD.out⟩
                    · clear ho hall hd
                      have HF := Lib.hid hf
                      have HX := Lib.hid hX
                      have HM := Lib.hid hM
                      have HO := Lib.hid hO
                      have HD := Lib.hid hD
                      clear hf hX hM hO hD
                      refine wpOp_step rfl (fun K hK => ?_)
                      rw [if_pos (by rfl)]
                      have HK := Lib.hid hK
                      clear hK
                      go_simp
                      exact HK.out _ _ ⟨fun k => if k = 1 then .pointer (some ⟨S, 3, none⟩) else V k, rfl, facts_upd HF.out rfl, HX.out, HM.out, HO.out, HD.out⟩
                    · have e1 : V 1 = _ := hf 1 (hall ⟨1, .data⟩ (by cases ho; simp) rfl)
                      clear ho hall hd
                      have HF := Lib.hid hf
                      have HX := Lib.hid hX
                      have HM := Lib.hid hM
                      have HO := Lib.hid hO
                      have HD := Lib.hid hD
                      have c3 := hM.box.cell 3
                      simp only [List.getElem?_cons_zero, List.getElem?_cons_succ] at c3
                      clear hf hX hM hO hD
                      refine wpOp_step rfl (fun K hK => ?_)
                      rw [if_pos (by rfl)]
                      have HK := Lib.hid hK
                      clear hK
                      go_simp
                      exact HK.out _ _ ⟨fun k => if k = 2 then .slice qF j dF else V k, (by simp only [e1]; rfl), facts_upd HF.out rfl, HX.out, HM.out, HO.out, HD.out⟩
                    · have e2 : V 2 = _ := hf 2 (hall ⟨2, .data⟩ (by cases ho; simp) rfl)
                      clear ho hall hd
                      have HF := Lib.hid hf
                      have HX := Lib.hid hX
                      have HM := Lib.hid hM
                      have HO := Lib.hid hO
                      have HD := Lib.hid hD
                      clear hf hX hM hO hD
                      refine wpOp_step rfl (fun K hK => ?_)
                      rw [if_pos (by rfl)]
                      have HK := Lib.hid hK
                      clear hK
                      go_simp
                      exact HK.out _ _ ⟨fun k => if k = 3 then .int .i64 j else V k, (by simp only [e2]; rfl), facts_upd HF.out rfl, HX.out, HM.out, HO.out, HD.out⟩
                    · have e3 : V 3 = _ := hf 3 (hall ⟨3, .data⟩ (by cases ho; simp) rfl)
                      clear ho hall hd
                      have HF := Lib.hid hf
                      have HX := Lib.hid hX
                      have HM := Lib.hid hM
                      have HO := Lib.hid hO
                      have HD := Lib.hid hD
                      clear hf hX hM hO hD
                      refine wpOp_step rfl (fun K hK => ?_)
                      rw [if_pos (by rfl)]
                      have HK := Lib.hid hK
                      clear hK
                      go_simp
                      exact HK.out _ _ ⟨fun k => if k = 4 then .int .i64 ((j : Int) - 1) else V k, (by simp only [e3]; rfl), facts_upd HF.out rfl, HX.out, HM.out, HO.out, HD.out⟩
                    · have e0 : V 0 = _ := hf 0 (hall ⟨0, .data⟩ (by cases ho; simp) rfl)
                      have e4 : V 4 = _ := hf 4 (hall ⟨4, .data⟩ (by cases ho; simp) rfl)
                      clear ho hall hd
                      have HF := Lib.hid hf
                      have HX := Lib.hid hX
                      have HM := Lib.hid hM
                      have HO := Lib.hid hO
                      have HD := Lib.hid hD
                      clear hf hX hM hO hD
                      refine wpOp_step rfl (fun K hK => ?_)
                      rw [if_pos (by rfl)]
                      have HK := Lib.hid hK
                      clear hK
                      go_simp
                      refine (from_c hb p c l (-1) ((j : Int) - 1) W HM.out.heap HM.out.apart hl (by decide) (by decide) (by omega) (by omega)).mono ?_
                      rintro e wb ⟨A', ⟨a0, a1, -⟩, rfl, gb, fb⟩
                      have a1' := a1 (by omega)
                      exact HK.out _ _ ⟨fun k => if k = 5 then .int .i64 A' else V k, (by simp only [e0, e4]; rfl), facts_upd HF.out ⟨A', rfl, a0, by omega⟩, fb.blk HX.out HX.out.lt (by omega), HM.out.deal gb fb, fb.own HO.out (by omega), HD.out.deal fb (by omega) HD.out.size⟩
                    · clear ho hall hd
                      have HF := Lib.hid hf
                      have HX := Lib.hid hX
                      have HM := Lib.hid hM
                      have HO := Lib.hid hO
                      have HD := Lib.hid hD
                      clear hf hX hM hO hD
                      refine wpOp_step rfl (fun K hK => ?_)
                      rw [if_pos (by rfl)]
                      have HK := Lib.hid hK
                      clear hK
                      go_simp
                      exact HK.out _ _ ⟨fun k => if k = 6 then .pointer (some ⟨hb, 0, none⟩) else V k, rfl, facts_upd HF.out rfl, HX.out, HM.out, HO.out, HD.out⟩
                    · clear ho hall hd
                      have HF := Lib.hid hf
                      have HX := Lib.hid hX
                      have HM := Lib.hid hM
                      have HO := Lib.hid hO
                      have HD := Lib.hid hD
                      clear hf hX hM hO hD
                      refine wpOp_step rfl (fun K hK => ?_)
                      rw [if_pos (by rfl)]
                      have HK := Lib.hid hK
                      clear hK
                      go_simp
                      exact HK.out _ _ ⟨fun k => if k = 7 then .pointer (some ⟨S, 3, none⟩) else V k, rfl, facts_upd HF.out rfl, HX.out, HM.out, HO.out, HD.out⟩
                    · have e7 : V 7 = _ := hf 7 (hall ⟨7, .data⟩ (by cases ho; simp) rfl)
                      clear ho hall hd
                      have HF := Lib.hid hf
                      have HX := Lib.hid hX
                      have HM := Lib.hid hM
                      have HO := Lib.hid hO
                      have HD := Lib.hid hD
                      have c3 := hM.box.cell 3
                      simp only [List.getElem?_cons_zero, List.getElem?_cons_succ] at c3
                      clear hf hX hM hO hD
                      refine wpOp_step rfl (fun K hK => ?_)
                      rw [if_pos (by rfl)]
                      have HK := Lib.hid hK
                      clear hK
                      go_simp
                      exact HK.out _ _ ⟨fun k => if k = 8 then .slice qF j dF else V k, (by simp only [e7]; rfl), facts_upd HF.out rfl, HX.out, HM.out, HO.out, HD.out⟩
                    · have e8 : V 8 = _ := hf 8 (hall ⟨8, .data⟩ (by cases ho; simp) rfl)
                      clear ho hall hd
                      have HF := Lib.hid hf
                      have HX := Lib.hid hX
                      have HM := Lib.hid hM
                      have HO := Lib.hid hO
                      have HD := Lib.hid hD
                      clear hf hX hM hO hD
                      refine wpOp_step rfl (fun K hK => ?_)
                      rw [if_pos (by rfl)]
                      have HK := Lib.hid hK
                      clear hK
                      go_simp
                      exact HK.out _ _ ⟨fun k => if k = 9 then .int .i64 j else V k, (by simp only [e8]; rfl), facts_upd HF.out rfl, HX.out, HM.out, HO.out, HD.out⟩
                    · have e9 : V 9 = _ := hf 9 (hall ⟨9, .data⟩ (by cases ho; simp) rfl)
                      clear ho hall hd
                      have HF := Lib.hid hf
                      have HX := Lib.hid hX
                      have HM := Lib.hid hM
                      have HO := Lib.hid hO
                      have HD := Lib.hid hD
                      clear hf hX hM hO hD
                      refine wpOp_step rfl (fun K hK => ?_)
                      rw [if_pos (by rfl)]
                      have HK := Lib.hid hK
                      clear hK
                      go_simp
                      exact HK.out _ _ ⟨fun k => if k = 10 then .int .i64 ((j : Int) - 1) else V k, (by simp only [e9]; rfl), facts_upd HF.out rfl, HX.out, HM.out, HO.out, HD.out⟩
                    · have e6 : V 6 = _ := hf 6 (hall ⟨6, .data⟩ (by cases ho; simp) rfl)
                      have e10 : V 10 = _ := hf 10 (hall ⟨10, .data⟩ (by cases ho; simp) rfl)
                      clear ho hall hd
                      have HF := Lib.hid hf
                      have HX := Lib.hid hX
                      have HM := Lib.hid hM
                      have HO := Lib.hid hO
                      have HD := Lib.hid hD
                      clear hf hX hM hO hD
                      refine wpOp_step rfl (fun K hK => ?_)
                      rw [if_pos (by rfl)]
                      have HK := Lib.hid hK
                      clear hK
                      go_simp
                      refine (upto_c hb p c l ((j : Int) - 1) W HM.out.heap HM.out.apart hl (by omega) (by omega)).mono ?_
                      rintro e wb ⟨B', ⟨a0, a1, -⟩, rfl, gb, fb⟩
                      have a1' := a1 (by omega)
                      exact HK.out _ _ ⟨fun k => if k = 11 then .int .i64 B' else V k, (by simp only [e6, e10]; rfl), facts_upd HF.out ⟨B', rfl, by omega, by omega⟩, fb.blk HX.out HX.out.lt (by omega), HM.out.deal gb fb, fb.own HO.out (by omega), HD.out.deal fb (by omega) HD.out.size⟩
                    · clear ho hall hd
                      have HF := Lib.hid hf
                      have HX := Lib.hid hX
                      have HM := Lib.hid hM
                      have HO := Lib.hid hO
                      have HD := Lib.hid hD
                      clear hf hX hM hO hD
                      refine wpOp_step rfl (fun K hK => ?_)
                      rw [if_pos (by rfl)]
                      have HK := Lib.hid hK
                      clear hK
                      go_simp
                      exact HK.out _ _ ⟨fun k => if k = 12 then .pointer (some ⟨X, 0, none⟩) else V k, rfl, facts_upd HF.out rfl, HX.out, HM.out, HO.out, HD.out⟩
                  · rintro a W ⟨V, rfl, hf, hX, hM, hO, hD⟩
                    obtain ⟨A', e5, a0, a1⟩ := hf 5 rfl
                    obtain ⟨B', e11, b0, b1⟩ := hf 11 rfl
                    have e12 : V 12 = _ := hf 12 rfl
                    have HX := Lib.hid hX
                    have HM := Lib.hid hM
                    have HO := Lib.hid hO
                    have HD := Lib.hid hD
                    have xc0 := hX.cell 0
                    have xc1 := hX.cell 1
                    have xf := hX.free
                    have xl := hX.lt
                    simp only [List.getElem?_cons_zero, List.getElem?_cons_succ] at xc0 xc1
                    clear hf hX hM hO hD
                    change wpList _ _ _ [_, _, _] _ _
                    go_wp2_with fail
                    go_meet
                    exact ⟨A', B', a0, a1, b0, b1, (HX.out.set 0 _).set 1 _, (HM.out.setNew (a := ⟨X, 0, none⟩) (by simp only; omega) _).setNew (a := ⟨X, 1, none⟩) (by simp only; omega) _, ownsRow_setCell_other (ownsRow_setCell_other HO.out (a := ⟨X, 0, none⟩) XO.out _) (a := ⟨X, 1, none⟩) XO.out _, (HD.out.setCell (a := ⟨X, 0, none⟩) (Or.inr X8) _).setCell (a := ⟨X, 1, none⟩) (Or.inr X8) _⟩
                case rest =>
                obtain ⟨A', B', a0, a1, b0, b1, x11, m11, o11, d11⟩ := hcut
                have M11 := Lib.hid m11
                have O11 := Lib.hid o11
                have D11 := Lib.hid d11
                have X11 := Lib.hid x11
                clear x11 m11 o11 d11 Ma Oa Da Xa
                have hA0 : -1 ≤ A' := a0
                have hA1 : A' < j := a1
                have hB0 : -1 ≤ B' := b0
                have hB1 : B' < j := b1
                clear a0 a1 b0 b1
                obtain ⟨w11, rfl⟩ : ∃ w11 : World, w11 = wc := ⟨_, rfl⟩
                go_wp2_with fail
                generalize A' = A at *
                generalize B' = B at *
                -- the sill lies at X with its ends A and B
                refine (once_c hb p c l 3 w11 M11.out.heap M11.out.apart hl (by decide) (by decide)).mono ?_
                rintro e w12 ⟨b, rfl, g12, f12⟩
                have M12 := Lib.hid (M11.out.deal g12 f12)
                have O12 := Lib.hid (f12.own O11.out (by omega))
                have D12 := Lib.hid (D11.out.deal f12 (by omega) D11.out.size)
                have hX12 := f12.blk X11.out X11.out.lt (by omega)
                have X12 := Lib.hid hX12
                have z0 := hX12.cell 0
                have z1 := hX12.cell 1
                have z2 := hX12.cell 2
                have zf := hX12.free
                have zl := hX12.lt
                have e3 := M12.out.box.cell 4
                have e4 := M12.out.box.free 4
                have e5 := M12.out.box.lt
                have sk : IntKind.i64.wrap ((q : Int) + 1) = (q : Int) + 1 := IntWalk.i64_in _ (by omega)
                simp only [List.getElem?_cons_zero, List.getElem?_cons_succ] at z0 z1 z2 e3
                clear g12 f12 hX12 M11 O11 D11 X11
                by_cases hAB : A = B
                · subst hAB
                  cases b
                  · go_wp2_with fail
                    go_roundw
                    case rel => exact ⟨q + 1, ls, v, by omega, by go_num, by omega, HSl.out, M12.out, O12.out, D12.out⟩
                    case measure => simp [intOf]; omega
                  · go_wp2_with fail
                    go_roundw
                    case rel => exact ⟨q + 1, ls, v, by omega, by go_num, by omega, HSl.out, (M12.out.setNew (a := ⟨X, 0, none⟩) (by simp only; omega) _).setNew (a := ⟨X, 1, none⟩) (by simp only; omega) _, ownsRow_setCell_other (ownsRow_setCell_other O12.out (a := ⟨X, 0, none⟩) XO.out _) (a := ⟨X, 1, none⟩) XO.out _, (D12.out.setCell (a := ⟨X, 0, none⟩) (Or.inr X8) _).setCell (a := ⟨X, 1, none⟩) (Or.inr X8) _⟩
                    case measure => simp [intOf]; omega
                · have nAB : (A != B) = true := by rw [bne_iff_ne]; exact hAB
                  have nBA : (B != A) = true := by rw [bne_iff_ne]; exact Ne.symm hAB
                  cases b
                  · go_wp2_with (at_builtin; refine wpList_append_own _ rfl _ _ 26 rfl w8.heap.size 97 i2 (.agg #[.int .i64 0, .int .i64 0, .int .i64 0]) 3 24 Try.underlying26 hi hz0 hz1 hz2 rfl (by decide) _ _ _ rfl (O12.out.alloc _) ⟨w12.heap.size, 0, none⟩ 1 1 [.int .i64 A, .int .i64 B, .int .i64 h] rfl rfl (newsAt _ rfl [.int .i64 A, .int .i64 B, .int .i64 h] _) (by simp [Value.oneCell']) (by simp [maxLen]; omega) (by omega) (sz_alloc D12.out.size) ?_; intro v' w14 hown1 hgr hnn; clear hnn; have M14 := Lib.hid ((M12.out.alloc _).grown (show World.grownBy _ w14 v.ownBlock from hgr) (fun j e => by have := (O12.out.lt j e).1; omega)); have D14 := Lib.hid ((D12.out.alloc D12.out.size _).grown (show World.grownBy _ w14 v.ownBlock from hgr) (fun j e => (O12.out.lt j e).1) (sz_alloc D12.out.size)); have O14 := Lib.hid hown1; obtain ⟨g', cap', rfl⟩ := ownsRow_succ hown1; have e3 := M14.out.box.cell 4; have e4 := M14.out.box.free 4; have e5 := M14.out.box.lt; simp only [List.getElem?_cons_zero, List.getElem?_cons_succ] at e3; clear hown1 hgr)
                    go_roundw
                    case rel =>
                      refine ⟨q + 1, ls ++ [(A, B, h)], _, by omega, by go_num, by rw [List.length_append]; simp only [List.length_singleton]; omega, fun x hx => ?_, M14.out.set 4 _, ?_, D14.out.setCell (Or.inl (by simp only; omega)) _⟩
                      · rw [List.mem_append] at hx
                        rcases hx with hx | hx
                        · exact HSl.out x hx
                        · simp only [List.mem_singleton] at hx
                          subst hx
                          exact ⟨⟨by omega, by omega⟩, ⟨by omega, by omega⟩, hAB, h0, h1'⟩
                      · have e : (triples (ls ++ [(A, B, h)])).flatten = (triples ls).flatten ++ [.int .i64 A, .int .i64 B, .int .i64 h] := by unfold triples; rw [List.map_append, List.flatten_append]; rfl
                        rw [e, List.length_append]
                        exact ownsRow_setCell_other O14.out (a := ⟨S, 4, none⟩) (fun e => by have := (O14.out.lt S e).1; omega) _
                    case measure => simp [intOf]; omega
                  · have M13 : Hid (Mk w hb w.heap.size S (S + 1) p c l [.slice qT k dT, .int .i64 (-x1), .int .i64 x2, .slice qF j dF, v] ((w12.setCell ⟨X, 0, none⟩ (.int .i64 B)).setCell ⟨X, 1, none⟩ (.int .i64 A))) := (M12.out.setNew (a := ⟨X, 0, none⟩) (by simp only; omega) _).setNew (a := ⟨X, 1, none⟩) (by simp only; omega) _
                    have O13 : Hid (((w12.setCell ⟨X, 0, none⟩ (.int .i64 B)).setCell ⟨X, 1, none⟩ (.int .i64 A)).ownsRow w8.heap.size 97 3 v ls.length (triples ls).flatten) := ownsRow_setCell_other (ownsRow_setCell_other O12.out (a := ⟨X, 0, none⟩) XO.out _) (a := ⟨X, 1, none⟩) XO.out _
                    have D13 : Hid (Mid (S + 1) w8.heap.size w8 ((w12.setCell ⟨X, 0, none⟩ (.int .i64 B)).setCell ⟨X, 1, none⟩ (.int .i64 A))) := (D12.out.setCell (a := ⟨X, 0, none⟩) (Or.inr X8) _).setCell (a := ⟨X, 1, none⟩) (Or.inr X8) _
                    go_wp2_with (at_builtin; refine wpList_append_own _ rfl _ _ 26 rfl w8.heap.size 97 i2 (.agg #[.int .i64 0, .int .i64 0, .int .i64 0]) 3 24 Try.underlying26 hi hz0 hz1 hz2 rfl (by decide) _ _ _ rfl (O13.out.alloc _) ⟨w12.heap.size, 0, none⟩ 1 1 [.int .i64 B, .int .i64 A, .int .i64 h] rfl rfl (newsAt _ (by simp only [World.size_setCell]) [.int .i64 B, .int .i64 A, .int .i64 h] _) (by simp [Value.oneCell']) (by simp [maxLen]; omega) (by omega) (sz_alloc D13.out.size) ?_; intro v' w14 hown1 hgr hnn; clear hnn; have M14 := Lib.hid ((M13.out.alloc _).grown (show World.grownBy _ w14 v.ownBlock from hgr) (fun j e => by have := (O13.out.lt j e).1; omega)); have D14 := Lib.hid ((D13.out.alloc D13.out.size _).grown (show World.grownBy _ w14 v.ownBlock from hgr) (fun j e => (O13.out.lt j e).1) (sz_alloc D13.out.size)); have O14 := Lib.hid hown1; obtain ⟨g', cap', rfl⟩ := ownsRow_succ hown1; have e3 := M14.out.box.cell 4; have e4 := M14.out.box.free 4; have e5 := M14.out.box.lt; simp only [List.getElem?_cons_zero, List.getElem?_cons_succ] at e3; clear hown1 hgr)
                    go_roundw
                    case rel =>
                      refine ⟨q + 1, ls ++ [(B, A, h)], _, by omega, by go_num, by rw [List.length_append]; simp only [List.length_singleton]; omega, fun x hx => ?_, M14.out.set 4 _, ?_, D14.out.setCell (Or.inl (by simp only; omega)) _⟩
                      · rw [List.mem_append] at hx
                        rcases hx with hx | hx
                        · exact HSl.out x hx
                        · simp only [List.mem_singleton] at hx
                          subst hx
                          exact ⟨⟨by omega, by omega⟩, ⟨by omega, by omega⟩, (Ne.symm hAB), h0, h1'⟩
                      · have e : (triples (ls ++ [(B, A, h)])).flatten = (triples ls).flatten ++ [.int .i64 B, .int .i64 A, .int .i64 h] := by unfold triples; rw [List.map_append, List.flatten_append]; rfl
                        rw [e, List.length_append]
                        exact ownsRow_setCell_other O14.out (a := ⟨S, 4, none⟩) (fun e => by have := (O14.out.lt S e).1; omega) _
                    case measure => simp [intOf]; omega
            · obtain rfl : q = ns := by omega
              obtain ⟨qS, dS, rfl, t5, t6, hSr, hSb⟩ := Row.of_own (flatOk_triples ls) HO.out (by simp [triples])
              have HSr := Lib.hid hSr
              have HSb := Lib.hid hSb
              have RT2 := Lib.hid (HD.out.row RT.out (fun _ b off e => HTb.out b off e) (pairs_pos _) (Nat.le_refl _))
              have RF2 := Lib.hid (HD.out.row RF.out (fun _ b off e => FB.out b off e) (ints_pos _) (Nat.le_refl _))
              have hR := HM.out.res
              have HR := Lib.hid hR
              have y0 := HM.out.box.cell 0
              have y1 := HM.out.box.cell 1
              have y2 := HM.out.box.cell 2
              have y3 := HM.out.box.cell 3
              have y4 := HM.out.box.cell 4
              have z0 := hR.cell 0
              have z1 := hR.cell 1
              have z2 := hR.cell 2
              have z3 := hR.cell 3
              have z4 := hR.cell 4
              have fr := hR.free
              have lR := hR.lt
              simp only [zero5, List.getElem?_cons_zero, List.getElem?_cons_succ] at y0 y1 y2 y3 y4 z0 z1 z2 z3 z4
              clear hSr hSb hR hi hz0 hz1 hz2 HO HD RT RF M8
              go_wp2_with fail
              have hB := ((((HR.out.set 0 (.slice qT k dT)).set 1 (.int .i64 (-x1))).set 2 (.int .i64 x2)).set 3 (.slice qF j dF)).set 4 (.slice qS ls.length dS)
              simp only [zero5, List.set_cons_zero, List.set_cons_succ] at hB
              have p0 := hB.cell 0
              have p1 := hB.cell 1
              have p2 := hB.cell 2
              have p3 := hB.cell 3
              have p4 := hB.cell 4
              simp only [List.getElem?_cons_zero, List.getElem?_cons_succ] at p0 p1 p2 p3 p4
              clear hB y0 y1 y2 y3 y4 z0 z1 z2 z3 z4 fr
              have hk' := HL.out
              have hj' := HLf.out
              subst hk' hj'
              have hfar := HM.out.far
              refine bodyPost_ret (v := .agg #[.slice qT lt.length dT, .int .i64 (-x1), .int .i64 x2, .slice qF lf.length dF, .slice qS ls.length dS]) (by simp [results, Try.f49, go_sem, p0, p1, p2, p3, p4]) rfl ⟨⟨lt, -x1, x2, lf, ls⟩, qT, qF, qS, dT, dF, dS, rfl, ⟨⟨at_, HT.out⟩, ?_, ?_, ?_, ?_, ?_, ?_, HFl.out, ?_, HSl.out⟩, ⟨?_, ?_, ?_, t1, t3, t5, t2, t4, t6⟩, ⟨fun _ b off e => ?_, fun _ b off e => ?_, fun _ b off e => ?_⟩, ?_, ?_⟩
              · show 2 ≤ lt.length; omega
              · show lt.length ≤ 4; omega
              · show -8 ≤ -x1 ∧ -x1 ≤ 0; omega
              · show 0 ≤ x2 ∧ x2 ≤ 8; omega
              · show 1 ≤ lf.length; omega
              · show lf.length ≤ places.toNat; omega
              · show ls.length ≤ sills.toNat; omega
              · repeat (with_reducible refine Row.away ?_ (fun _ b off e => by have := HTb.out b off e; simp only; omega) _)
                exact RT2.out
              · repeat (with_reducible refine Row.away ?_ (fun _ b off e => by have := FB.out b off e; simp only; omega) _)
                exact RF2.out
              · repeat (with_reducible refine Row.away ?_ (fun _ b off e => by have := HSb.out b off e; simp only; omega) _)
                exact HSr.out
              · have := HTb.out b off e; omega
              · have := FB.out b off e; omega
              · have := HSb.out b off e; omega
              · exact HM.out.heap.below (n := w.heap.size) ((((((Below.refl w.heap.size wr).setCell (p := ⟨w.heap.size, 0, none⟩) (Nat.le_refl _) _).setCell (p := ⟨w.heap.size, 1, none⟩) (Nat.le_refl _) _).setCell (p := ⟨w.heap.size, 2, none⟩) (Nat.le_refl _) _).setCell (p := ⟨w.heap.size, 3, none⟩) (Nat.le_refl _) _).setCell (p := ⟨w.heap.size, 4, none⟩) (Nat.le_refl _) _) hbw HA.out
              · exact ((((hfar.setNew (a := ⟨w.heap.size, 0, none⟩) (Nat.le_refl _) _).setNew (a := ⟨w.heap.size, 1, none⟩) (Nat.le_refl _) _).setNew (a := ⟨w.heap.size, 2, none⟩) (Nat.le_refl _) _).setNew (a := ⟨w.heap.size, 3, none⟩) (Nat.le_refl _) _).setNew (a := ⟨w.heap.size, 4, none⟩) (Nat.le_refl _) _
end
end Go.Proofs.Ytifcmbeejichdaa
