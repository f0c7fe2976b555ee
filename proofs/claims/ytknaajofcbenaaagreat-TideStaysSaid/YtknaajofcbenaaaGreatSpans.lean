import Derived.Test.YtknaajofcbenaaaGreatBase
import Derived.Test.YtknaajofcbenaaaGreatHeight
import Derived.Test.YtknaajofcbenaaaGreatChk2
import Derived.Test.YtknaajofcbenaaaGreatOn
import Derived.Test.YtknaajofcbenaaaGreatLower
import Derived.Test.YtknaajofcbenaaaGreatGates
import Derived.Test.YtknaajofcbenaaaGreatBegin
import Derived.WalkKit
import Derived.WalkSpells
import Derived.WalkLawsBesides
import Derived.Deep.QuietTactic
import Derived.BigQuiet
import Derived.Lib.Hide
import Derived.Shelf.Abstract
import Derived.BigGuardPart
import Derived.RangeFuncNested
import Derived.RangeFuncBound
import Derived.RangeFuncCalls
import Derived.RangeFuncLeaves
import Derived.Shelf.RegionOpen
import Derived.OwnWalkIn
import Derived.TacticsInMore
import Derived.LoopNIn
import Derived.LoopIn
import Derived.StillTailTactics
import Derived.Deep.RegionHeld3
import Derived.StillTail
import Derived.RangeFuncWrites
import Derived.Laws.StructEq
import Derived.Deep.LoopGhost
import Derived.IntWalk
import Derived.RangeFuncBox
namespace Go.Proofs.YtknaajofcbenaaaGreat
open Go.RowKit Go.Shelf

theorem info24 : (Tryz.prog.info? 24).map (fun i => (i.zero, i.size, i.bytes)) = some (some (.agg #[.int .i64 0, .int .i64 0]), 2, 16) := by kernel_rfl

theorem Blk.not_row {w : World} {B : Nat} {cs : List Value} {t e : TypeId} (h : Blk w B cs t) (hte : t ≠ e) {base size k : Nat} {v : Value} {xs : List Value} (hr : w.ownsRow base e size v k xs) : v.ownBlock ≠ some B := by
  rcases hr.2 with ⟨rfl, _⟩ | ⟨g, cap, cur, rfl, _, hg, _⟩
  · simp [Value.ownBlock]
  · intro e'
    have : g = B := by simpa [Value.ownBlock] using e'
    subst this
    have h' : w.heap[g]? = some (.cells cs.toArray t (0, 0)) := h
    rw [hg] at h'
    simp only [Option.some.injEq, Obj.cells.injEq] at h'
    exact hte h'.2.1.symm

/-- what the closing of a span keeps: whether one is open, the spans, where it began -/
structure Sp3 (w : World) (n₀ Bo Bu Bf : Nat) (o : Bool) (fr : Int) (v : Value) (k : Nat) (xs : List Value) : Prop where
  o : Blk w Bo [.bool o] 4
  u : Blk w Bu [v] 104
  f : Blk w Bf [.int .i64 fr] 3
  row : w.ownsRow n₀ 24 2 v k xs
theorem Blk.ne {w : World} {B B' : Nat} {cs cs' : List Value} {T T' : TypeId} (h : Blk w B cs T) (h' : Blk w B' cs' T') (ht : T ≠ T') : B ≠ B' := by
  rintro rfl
  unfold Blk at h h'
  rw [h] at h'
  simp only [Option.some.injEq, Obj.cells.injEq] at h'
  exact ht h'.2.1
theorem Sp3.up {w w' : World} {n₀ Bo Bu Bf : Nat} {o : Bool} {fr : Int} {v : Value} {k : Nat} {xs : List Value} (h : Sp3 w n₀ Bo Bu Bf o fr v k xs) (hu : Up w w') : Sp3 w' n₀ Bo Bu Bf o fr v k xs :=
  ⟨h.o.up hu, h.u.up hu, h.f.up hu, h.row.kept (row := none) ⟨hu.os, hu.tape, hu.output, hu.size, fun k hk _ => hu.block k hk⟩ (by cases v.ownBlock <;> simp)⟩

set_option maxHeartbeats 1000000 in
theorem closeNo_c (n₀ Bo Bu Bf : Nat) (fr to : Int) (v : Value) (k : Nat) (xs : List Value) (w : World) (h : Sp3 w n₀ Bo Bu Bf false fr v k xs) (ho : n₀ ≤ Bo) :
    Calls Tryz.prog 140 #[.int .i64 to, .pointer (some ⟨Bo, 0, none⟩), .pointer (some ⟨Bu, 0, none⟩), .pointer (some ⟨Bf, 0, none⟩)] w fun e w' => e = .returned (.tuple #[]) ∧ Sp3 w' n₀ Bo Bu Bf false fr v k xs ∧ Below n₀ w w' := by
  have c0 := h.o.cell 0
  have f0 := h.o.free 0
  have H := Lib.hid h
  simp only [List.getElem?_cons_zero] at c0
  clear h
  go_enter Tryz.func140, Tryz.ntmps140
  go_wp2_with fail
  go_end0
  have h := H.out
  refine ⟨rfl, ⟨h.o.set 0 _, h.u.other (fun e => ?_) _, h.f.other (fun e => ?_) _, ownsRow_setCell_other h.row (h.o.not_row (by decide) h.row) _⟩, (Below.refl _ _).setCell ho _⟩
  · exact h.u.ne h.o (by decide) e
  · exact h.f.ne h.o (by decide) e

theorem news2 (w : World) (a b : Int) (T : TypeId) : ∀ (j : Nat) (u : Value), [Value.int .i64 a, .int .i64 b][j]? = some u → (w.alloc (.cells #[.int .i64 a, .int .i64 b] T)).cell? ((⟨w.heap.size, 0, none⟩ : Addr).add j) = some u := by
  intro j u hj
  have hB := Blk.new w [.int .i64 a, .int .i64 b] T
  have := hB.cell j
  rw [hj] at this
  match j, hj with
  | 0, _ => exact this
  | 1, _ => exact this
  | j + 2, hj => simp at hj
/-- behind an append: the three variables lie as they lay -/
theorem Sp3.app {w w1 : World} {n₀ Bo Bu Bf : Nat} {o : Bool} {fr : Int} {v : Value} {k : Nat} {xs : List Value} {T : Obj} (h : Sp3 w n₀ Bo Bu Bf o fr v k xs) (hg : (w.alloc T).grownBy w1 v.ownBlock) :
    Blk w1 Bo [.bool o] 4 ∧ Blk w1 Bu [v] 104 ∧ Blk w1 Bf [.int .i64 fr] 3 :=
  ⟨(h.o.alloc T).grown hg (fun e => h.o.not_row (by decide) h.row e.symm), (h.u.alloc T).grown hg (fun e => h.u.not_row (by decide) h.row e.symm), (h.f.alloc T).grown hg (fun e => h.f.not_row (by decide) h.row e.symm)⟩

set_option maxRecDepth 100000 in
set_option maxHeartbeats 1000000 in
theorem closeYes_c (n₀ Bo Bu Bf : Nat) (fr to : Int) (v : Value) (k : Nat) (xs : List Value) (w : World) (h : Sp3 w n₀ Bo Bu Bf true fr v k xs) (ho : n₀ ≤ Bo) (hu : n₀ ≤ Bu) (hk : k ≤ 2000) (hn : n₀ ≤ w.heap.size) :
    Calls Tryz.prog 140 #[.int .i64 to, .pointer (some ⟨Bo, 0, none⟩), .pointer (some ⟨Bu, 0, none⟩), .pointer (some ⟨Bf, 0, none⟩)] w fun e w' => e = .returned (.tuple #[]) ∧ (∃ v', Sp3 w' n₀ Bo Bu Bf false fr v' (k + 1) (xs ++ [.int .i64 fr, .int .i64 to])) ∧ Below n₀ w w' := by
  have c0 := h.o.cell 0
  have c1 := h.u.cell 0
  have c2 := h.f.cell 0
  simp only [List.getElem?_cons_zero] at c0 c1 c2
  have f0 := h.o.free 0
  have l0 := h.o.lt
  have l1 := h.u.lt
  have hrow := h.row
  have n1 : Bo ≠ Bu := h.o.ne h.u (by decide)
  have n2 : Bu ≠ Bo := Ne.symm n1
  have n3 : Bf ≠ Bo := h.f.ne h.o (by decide)
  have n4 : Bf ≠ Bu := h.f.ne h.u (by decide)
  have H := Lib.hid h
  obtain ⟨i0, hi, hz0, hz1, hz2⟩ := info_parts info24
  clear h
  go_enter Tryz.func140, Tryz.ntmps140
  go_wp2_with (at_builtin; refine wpList_append_own _ rfl _ _ 104 rfl n₀ 24 i0 (.agg #[.int .i64 0, .int .i64 0]) 2 16 Tryz.underlying104 hi hz0 hz1 hz2 rfl (by decide) _ _ _ rfl (hrow.alloc _) ⟨w.heap.size, 0, none⟩ 1 1 [.int .i64 fr, .int .i64 to] rfl rfl (news2 w fr to _) (by simp [Value.oneCell']) (by simp [maxLen]; omega) (by omega) (by simp; omega) ?_; intro v' w1 hown hgr hnn; clear hnn; have ff := (H.out.app hgr); have c3 := ff.1.cell 0; have f3 := ff.1.free 0; have c4 := ff.2.1.cell 0; have f4 := ff.2.1.free 0; have l3 := ff.1.lt; have l4 := ff.2.1.lt; simp only [List.getElem?_cons_zero] at c3 c4; have HO := Lib.hid hown; have HG := Lib.hid hgr; have FF := Lib.hid ff; obtain ⟨g', cap', rfl⟩ := ownsRow_succ hown; clear hown hgr ff)
  go_end0
  refine ⟨rfl, ⟨_, FF.out.1.other n1 _ |>.set 0 _, (FF.out.2.1.set 0 _).other n2 _, (FF.out.2.2.other n4 _).other n3 _, ?_⟩, ?_⟩
  · refine ownsRow_setCell_other (ownsRow_setCell_other HO.out (FF.out.2.1.not_row (by decide) HO.out) _) ?_ _
    exact FF.out.1.not_row (by decide) HO.out
  · refine ((((Below.refl n₀ w).alloc hn _).grown HG.out (by simp; omega) (fun j e => ?_)).setCell hu _).setCell ho _
    rcases (hrow.alloc (.cells #[.int .i64 fr, .int .i64 to] 24)).lt j e with h
    exact h.1
end Go.Proofs.YtknaajofcbenaaaGreat
