import Derived.Test.YtknaajofcbenaaaGreatBase
import Derived.Test.YtknaajofcbenaaaGreatHeight
import Derived.Test.YtknaajofcbenaaaGreatChk2
import Derived.Test.YtknaajofcbenaaaGreatCheck
import Derived.Test.YtknaajofcbenaaaGreatOn
import Derived.Test.YtknaajofcbenaaaGreatRound
import Derived.Test.YtknaajofcbenaaaGreatLower
import Derived.Test.YtknaajofcbenaaaGreatGates
import Derived.Test.YtknaajofcbenaaaGreatBegin
import Derived.Test.YtknaajofcbenaaaGreatSpans
import Derived.Test.YtknaajofcbenaaaGreatFits
import Derived.Test.YtknaajofcbenaaaGreatQue
import Derived.Test.YtknaajofcbenaaaGreatLead
import Derived.Test.YtknaajofcbenaaaGreatWaysF
import Derived.Test.YtknaajofcbenaaaGreatDup
import Derived.WalkKit
import Derived.WalkSpells
import Derived.WalkLawsBesides
import Derived.Deep.QuietTactic
import Derived.BigQuiet
import Derived.Lib.Hide
import Derived.Shelf.Abstract
import Derived.BigGuardPart
import Derived.RangeFuncNested
import Derived.RangeFuncBound
import Derived.RangeFuncCalls
import Derived.RangeFuncLeaves
import Derived.Shelf.RegionOpen
import Derived.OwnWalkIn
import Derived.TacticsInMore
import Derived.LoopNIn
import Derived.LoopIn
import Derived.Deep.RegionHeld3
import Derived.StillTail
import Derived.StillTailTactics
import Derived.RangeFuncWrites
import Derived.Laws.StructEq
import Derived.Deep.LoopGhost
import Derived.IntWalk
import Derived.RangeFuncBox
import Derived.ArgAppend
import Derived.Laws.CopyOwn
import Derived.OwnWalk
import Derived.Lib.SliceRun
import Derived.Maps.OwnOps
import Derived.Maps.OwnSet
import Derived.Deep.AppendSrc
import Derived.Deep.Upon
namespace Go.Proofs.YtknaajofcbenaaaGreat
open Go.RowKit Go.Shelf

/-- where a copy lies: in blocks from n on -/
def Fresh (n : Nat) (s : Sd) (pT pF pS : Option Addr) : Prop :=
  (0 < s.table.length → ∀ b off, pT = some ⟨b, off, none⟩ → n ≤ b) ∧ (0 < s.floors.length → ∀ b off, pF = some ⟨b, off, none⟩ → n ≤ b) ∧ (0 < s.sills.length → ∀ b off, pS = some ⟨b, off, none⟩ → n ≤ b)

theorem ownsRow_up {w w' : World} {base k n : Nat} {E : TypeId} {v : Value} {xs : List Value} (h : w.ownsRow base E k v n xs) (u : Up w w') : w'.ownsRow base E k v n xs := by
  refine ⟨h.1, ?_⟩
  rcases h.2 with h0 | ⟨g, cap, cur, h1, h2, h3, h4⟩
  · exact .inl h0
  · exact .inr ⟨g, cap, cur, h1, h2, (u.block g (Array.getElem?_eq_some_iff.1 h3).1).trans h3, h4⟩
theorem ownsRow_base {w : World} {base base' k n : Nat} {E : TypeId} {v : Value} {xs : List Value} (h : w.ownsRow base E k v n xs) (hb : base' ≤ base) : w.ownsRow base' E k v n xs := by
  refine ⟨h.1, ?_⟩
  rcases h.2 with h0 | ⟨g, cap, cur, h1, h2, h3⟩
  · exact .inl h0
  · exact .inr ⟨g, cap, cur, h1, Nat.le_trans hb h2, h3⟩
theorem ownsRow_away {w : World} {base k n : Nat} {E : TypeId} {v : Value} {xs : List Value} (h : w.ownsRow base E k v n xs) {a : Addr} (ha : a.block < base) (x : Value) : (w.setCell a x).ownsRow base E k v n xs := by
  refine ⟨h.1, ?_⟩
  rcases h.2 with h0 | ⟨g, cap, cur, h1, h2, h3, h4⟩
  · exact .inl h0
  · exact .inr ⟨g, cap, cur, h1, h2, (Below.heap_setCell _ _ _ _ (by omega)).trans h3, h4⟩

/-- sands whose lists are rows of their own, in blocks from n₀ on -/
structure Mine (w : World) (n₀ : Nat) (s : Sd) (pT pF pS : Option Addr) (cT cF cS : Nat) : Prop where
  ot : w.ownsRow n₀ 78 2 (.slice pT s.table.length cT) s.table.length (pairs s.table).flatten
  of : w.ownsRow n₀ 3 1 (.slice pF s.floors.length cF) s.floors.length (ints s.floors).flatten
  os : w.ownsRow n₀ 80 3 (.slice pS s.sills.length cS) s.sills.length (triples s.sills).flatten
theorem Mine.away {w : World} {n₀ : Nat} {s : Sd} {pT pF pS : Option Addr} {cT cF cS : Nat} (h : Mine w n₀ s pT pF pS cT cF cS) {a : Addr} (ha : a.block < n₀) (x : Value) : Mine (w.setCell a x) n₀ s pT pF pS cT cF cS :=
  ⟨ownsRow_away h.ot ha x, ownsRow_away h.of ha x, ownsRow_away h.os ha x⟩
theorem Mine.up {w w' : World} {n₀ : Nat} {s : Sd} {pT pF pS : Option Addr} {cT cF cS : Nat} (h : Mine w n₀ s pT pF pS cT cF cS) (u : Up w w') : Mine w' n₀ s pT pF pS cT cF cS :=
  ⟨ownsRow_up h.ot u, ownsRow_up h.of u, ownsRow_up h.os u⟩

section
variable {pT pF pS : Option Addr} {cT cF cS : Nat}
set_option maxRecDepth 100000 in
set_option maxHeartbeats 2000000 in
theorem own_o (s : Sd) (w : World) (hl : Lists w s pT pF pS cT cF cS) (b1 : s.table.length * 16 ≤ 140737488355328) (b2 : s.floors.length * 8 ≤ 140737488355328) (b3 : s.sills.length * 24 ≤ 140737488355328) :
    Calls Tryz.prog 8 #[sdVal s pT pF pS cT cF cS] w fun e w' => ∃ qT qF qS dT dF dS, e = .returned (sdVal s qT qF qS dT dF dS) ∧ Lists w' s qT qF qS dT dF dS ∧ Up w w' ∧ Fresh w.heap.size s qT qF qS ∧ Mine w' (w.heap.size + 2) s qT qF qS dT dF dS := by
  have D1 := Lib.hid (fun W (u : Up w W) => dupWater_o s.table pT cT W (hl.rt.up u) b1)
  have D2 := Lib.hid (fun W (u : Up w W) => dupInt_o s.floors pF cF W (hl.rf.up u) b2)
  have D3 := Lib.hid (fun W (u : Up w W) => dupSill_o s.sills pS cS W (hl.rs.up u) b3)
  clear hl b1 b2 b3
  unfold sdVal
  go_enter Tryz.func8, Tryz.ntmps8
  go_wp2
  refine Code.wp_world ?_
  intro w0 hw0
  have u0 : Up w w0 := by rw [hw0]; (repeat (first | exact Below.refl _ _ | (with_reducible refine Below.drewN' ?_ _) | (with_reducible refine Below.drew ?_) | (with_reducible refine Below.setCell ?_ (by first | exact Nat.le_refl _ | omega | (with_reducible (repeat (first | refine sz_alloc ?_ | refine sz_setCell ?_ | refine sz_drew ?_ | refine sz_drewN ?_)); first | exact Nat.le_refl _ | omega) | (simp only [World.size_alloc, World.size_setCell, World.size_drew, size_drewN']; omega)) _) | (with_reducible refine Below.alloc ?_ (by first | exact Nat.le_refl _ | omega | (with_reducible (repeat (first | refine sz_alloc ?_ | refine sz_setCell ?_ | refine sz_drew ?_ | refine sz_drewN ?_)); first | exact Nat.le_refl _ | omega) | (simp only [World.size_alloc, World.size_setCell, World.size_drew, size_drewN']; omega)) _) | assumption))
  have hB : Blk w0 w.heap.size (sdCells s pT pF pS cT cF cS) 28 := by rw [hw0]; exact (Blk.new w _ _).alloc _
  have hR : Blk w0 (w.heap.size + 1) [.slice none 0 0, .int .i64 0, .int .i64 0, .slice none 0 0, .slice none 0 0] 28 := by rw [hw0]; exact Blk.new' _ [.slice none 0 0, .int .i64 0, .int .i64 0, .slice none 0 0, .slice none 0 0] _ (by simp)
  clear hw0
  have c0 := hB.cell 0
  have c1 := hB.cell 1
  have c2 := hB.cell 2
  have c3 := hB.cell 3
  have c4 := hB.cell 4
  simp only [sdCells, List.getElem?_cons_zero, List.getElem?_cons_succ] at c0 c1 c2 c3 c4
  refine region_tail (fun W' => W'.cell? ⟨w.heap.size, 0, none⟩ = some (.slice pT s.table.length cT) ∧ W'.cell? ⟨w.heap.size, 1, none⟩ = some (.int .i64 s.lo) ∧ W'.cell? ⟨w.heap.size, 2, none⟩ = some (.int .i64 s.hi) ∧ W'.cell? ⟨w.heap.size, 3, none⟩ = some (.slice pF s.floors.length cF) ∧ W'.cell? ⟨w.heap.size, 4, none⟩ = some (.slice pS s.sills.length cS) ∧ Up w0 W') 12 mixed (by kernel_rfl) ⟨c0, c1, c2, c3, c4, (Below.refl _ _).drew⟩ (fun hHeld => ?_)
  refine wpAnyG_take 0 3 (v := ?_) rfl rfl (by kernel_rfl) (fun _ _ _ h => h) (Or.inl ⟨by rfl, ?_⟩) (by assumption) ?_
  rotate_left
  · (intro w' hSw; (try dsimp only at hSw); go_split_ands; go_simp; try with_reducible rfl)
  try simp only [List.setIfInBounds_toArray, List.set_cons_zero, List.set_cons_succ]
  refine wpAnyG_take 1 4 (v := ?_) rfl rfl (by kernel_rfl) (fun _ _ _ h => h) (Or.inl ⟨by rfl, ?_⟩) (by assumption) ?_
  rotate_left
  · (intro w' hSw; (try dsimp only at hSw); go_split_ands; go_simp; try with_reducible rfl)
  try simp only [List.setIfInBounds_toArray, List.set_cons_zero, List.set_cons_succ]
  refine wpAnyG_take 3 6 (v := ?_) rfl rfl (by kernel_rfl) (fun _ _ _ h => h) (Or.inl ⟨by rfl, ?_⟩) (by assumption) ?_
  rotate_left
  · (intro w' hSw; (try dsimp only at hSw); go_split_ands; go_simp; try with_reducible rfl)
  try simp only [List.setIfInBounds_toArray, List.set_cons_zero, List.set_cons_succ]
  refine wpAnyG_take 4 7 (v := ?_) rfl rfl (by kernel_rfl) (fun _ _ _ h => h) (Or.inl ⟨by rfl, ?_⟩) (by assumption) ?_
  rotate_left
  · (intro w' hSw; (try dsimp only at hSw); go_split_ands; go_simp; try with_reducible rfl)
  try simp only [List.setIfInBounds_toArray, List.set_cons_zero, List.set_cons_succ]
  refine wpAnyG_take 5 8 (v := ?_) rfl rfl (by kernel_rfl) (fun _ _ _ h => h) (Or.inl ⟨by rfl, ?_⟩) (by assumption) ?_
  rotate_left
  · (intro w' hSw; (try dsimp only at hSw); go_split_ands; go_simp; try with_reducible rfl)
  try simp only [List.setIfInBounds_toArray, List.set_cons_zero, List.set_cons_succ]
  refine wpAnyG_take 6 9 (v := ?_) rfl rfl (by kernel_rfl) (fun _ _ _ h => h) (Or.inl ⟨by rfl, ?_⟩) (by assumption) ?_
  rotate_left
  · (intro w' hSw; (try dsimp only at hSw); go_split_ands; go_simp; try with_reducible rfl)
  try simp only [List.setIfInBounds_toArray, List.set_cons_zero, List.set_cons_succ]
  refine wpAnyG_take 8 11 (v := ?_) rfl rfl (by kernel_rfl) (fun _ _ _ h => h) (Or.inl ⟨by rfl, ?_⟩) (by assumption) ?_
  rotate_left
  · (intro w' hSw; (try dsimp only at hSw); go_split_ands; go_simp; try with_reducible rfl)
  try simp only [List.setIfInBounds_toArray, List.set_cons_zero, List.set_cons_succ]
  refine wpAnyG_take 9 12 (v := ?_) rfl rfl (by kernel_rfl) (fun _ _ _ h => h) (Or.inl ⟨by rfl, ?_⟩) (by assumption) ?_
  rotate_left
  · (intro w' hSw; (try dsimp only at hSw); go_split_ands; go_simp; try with_reducible rfl)
  try simp only [List.setIfInBounds_toArray, List.set_cons_zero, List.set_cons_succ]
  refine wpAnyG_do 2 rfl (by kernel_rfl) (fun K hK => ?_)
  rw [if_pos (by rfl)]
  go_simp
  refine (D1.out _ (Up.trans u0 ((Below.refl _ _).drew))).mono ?_
  rintro e w1 ⟨q1, d1, rfl, r1, r2, r3, r4, v1, ow1⟩
  have v1' : Up w0 w1 := Up.trans ((Below.refl _ _).drew) v1
  refine hK.out _ _ ⟨v1'.cellAt c0, v1'.cellAt c1, v1'.cellAt c2, v1'.cellAt c3, v1'.cellAt c4, v1'⟩ (fun hHeld => ?_)
  clear hK K
  refine wpAnyG_do 7 rfl (by kernel_rfl) (fun K hK => ?_)
  rw [if_pos (by rfl)]
  go_simp
  refine (D2.out _ (Up.trans u0 v1')).mono ?_
  rintro e w2 ⟨q2, d2, rfl, s1, s2, s3, s4, v2, ow2⟩
  have v2' : Up w0 w2 := Up.trans v1' v2
  refine hK.out _ _ ⟨v2'.cellAt c0, v2'.cellAt c1, v2'.cellAt c2, v2'.cellAt c3, v2'.cellAt c4, v2'⟩ (fun hHeld => ?_)
  clear hK K
  refine wpAnyG_do 10 rfl (by kernel_rfl) (fun K hK => ?_)
  rw [if_pos (by rfl)]
  go_simp
  refine (D3.out _ (Up.trans u0 v2')).mono ?_
  rintro e w3 ⟨q3, d3, rfl, t1, t2, t3, t4, v3, ow3⟩
  have v3' : Up w0 w3 := Up.trans v2' v3
  refine hK.out _ _ ⟨v3'.cellAt c0, v3'.cellAt c1, v3'.cellAt c2, v3'.cellAt c3, v3'.cellAt c4, v3'⟩ (fun hHeld => ?_)
  clear hK K
  refine wpAnyG_take 11 14 (v := ?_) rfl rfl (by kernel_rfl) (fun _ _ _ h => h) (Or.inl ⟨by rfl, ?_⟩) (by assumption) ?_
  rotate_left
  · (intro w' hSw; (try dsimp only at hSw); go_split_ands; go_simp; try with_reducible rfl)
  try simp only [List.setIfInBounds_toArray, List.set_cons_zero, List.set_cons_succ]
  have hR3 := hR.up v3'
  have HR := Lib.hid hR3
  have z0 := hR3.cell 0
  have z1 := hR3.cell 1
  have z2 := hR3.cell 2
  have z3 := hR3.cell 3
  have z4 := hR3.cell 4
  have fr := hR3.free
  have lR := hR3.lt
  simp only [List.getElem?_cons_zero, List.getElem?_cons_succ] at z0 z1 z2 z3 z4
  have HL : Hid (Lists w3 s q1 q2 q3 d1 d2 d3) := ⟨(r3.up v2).up v3, s3.up v3, t3, r1, s1, t1, r2, s2, t2⟩
  have HU := Lib.hid (Up.trans u0 v3')
  have lR0 := hR.lt
  have y1 := v1'.size
  have y2 := v2'.size
  have y0 := (show w0.heap.size ≤ w0.drew.heap.size from Nat.le_refl _)
  have N1 : Hid (∀ b off, q1 = some ⟨b, off, none⟩ → b ≠ w.heap.size + 1) := fun b off e => by have := r4 b off e; omega
  have N2 : Hid (∀ b off, q2 = some ⟨b, off, none⟩ → b ≠ w.heap.size + 1) := fun b off e => by have := s4 b off e; omega
  have N3 : Hid (∀ b off, q3 = some ⟨b, off, none⟩ → b ≠ w.heap.size + 1) := fun b off e => by have := t4 b off e; omega
  have HFr : Hid (Fresh w.heap.size s q1 q2 q3) := ⟨fun _ b off e => by have := r4 b off e; have := u0.size; omega, fun _ b off e => by have := s4 b off e; have := u0.size; omega, fun _ b off e => by have := t4 b off e; have := u0.size; omega⟩
  have hw02 : w.heap.size + 2 ≤ w0.heap.size := by have := hR.lt; omega
  have HMn : Hid (Mine w3 (w.heap.size + 2) s q1 q2 q3 d1 d2 d3) := ⟨ownsRow_up (ownsRow_up (ownsRow_base ow1 (by omega)) v2) v3, ownsRow_up (ownsRow_base ow2 (by omega)) v3, ownsRow_base ow3 (by omega)⟩
  clear ow1 ow2 ow3 hw02 r4 s4 t4 y0 y1 y2 lR0 hHeld D1 D2 D3 u0 v1 v2 v3 v1' v2' v3' r1 r2 r3 s1 s2 s3 t1 t2 t3 c0 c1 c2 c3 c4 hB hR hR3
  refine wpAnyG_tail (by kernel_rfl) ?_
  go_wp2
  have hB := ((((HR.out.set 0 (.slice q1 s.table.length d1)).set 1 (.int .i64 s.lo)).set 2 (.int .i64 s.hi)).set 3 (.slice q2 s.floors.length d2)).set 4 (.slice q3 s.sills.length d3)
  simp only [List.set_cons_zero, List.set_cons_succ] at hB
  have p0 := hB.cell 0
  have p1 := hB.cell 1
  have p2 := hB.cell 2
  have p3 := hB.cell 3
  have p4 := hB.cell 4
  simp only [List.getElem?_cons_zero, List.getElem?_cons_succ] at p0 p1 p2 p3 p4
  refine bodyPost_ret (v := .agg #[.slice q1 s.table.length d1, .int .i64 s.lo, .int .i64 s.hi, .slice q2 s.floors.length d2, .slice q3 s.sills.length d3]) (by simp [results, Tryz.f8, go_sem, p0, p1, p2, p3, p4]) rfl ⟨q1, q2, q3, d1, d2, d3, rfl, ?_, ?_, HFr.out, ?_⟩
  · have h := HL.out
    refine ⟨?_, ?_, ?_, h.ct, h.cf, h.cs, h.mt, h.mf, h.ms⟩
    · repeat (with_reducible refine Row.other ?_ N1.out _)
      exact h.rt
    · repeat (with_reducible refine Row.other ?_ N2.out _)
      exact h.rf
    · repeat (with_reducible refine Row.other ?_ N3.out _)
      exact h.rs
  · have h4 := HU.out
    repeat (first | (with_reducible exact h4) | (with_reducible refine Below.setCell ?_ (by simp only; omega) _))
  · have h5 := HMn.out
    repeat (first | (with_reducible exact h5) | (with_reducible refine Mine.away ?_ (by simp only; omega) _))

theorem own_c (s : Sd) (w : World) (hl : Lists w s pT pF pS cT cF cS) (b1 : s.table.length * 16 ≤ 140737488355328) (b2 : s.floors.length * 8 ≤ 140737488355328) (b3 : s.sills.length * 24 ≤ 140737488355328) :
    Calls Tryz.prog 8 #[sdVal s pT pF pS cT cF cS] w fun e w' => ∃ qT qF qS dT dF dS, e = .returned (sdVal s qT qF qS dT dF dS) ∧ Lists w' s qT qF qS dT dF dS ∧ Up w w' ∧ Fresh w.heap.size s qT qF qS :=
  (own_o s w hl b1 b2 b3).mono (by rintro e w' ⟨qT, qF, qS, dT, dF, dS, e1, e2, e3, e4, -⟩; exact ⟨qT, qF, qS, dT, dF, dS, e1, e2, e3, e4⟩)
end
end Go.Proofs.YtknaajofcbenaaaGreat
