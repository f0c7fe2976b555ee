import Derived.Test.YtknaajofcbenaaaGreatBase
import Derived.Test.YtknaajofcbenaaaGreatHeight
import Derived.Test.YtknaajofcbenaaaGreatChk2
import Derived.Test.YtknaajofcbenaaaGreatOn
import Derived.Test.YtknaajofcbenaaaGreatLower
import Derived.Test.YtknaajofcbenaaaGreatGates
import Derived.Test.YtknaajofcbenaaaGreatBegin
import Derived.Test.YtknaajofcbenaaaGreatAll
import Derived.Test.YtknaajofcbenaaaGreatSpans
import Derived.Test.YtknaajofcbenaaaGreatFits
import Derived.Test.YtknaajofcbenaaaGreatQue
import Derived.Test.YtknaajofcbenaaaGreatLonger
import Derived.Test.YtknaajofcbenaaaGreatLead
import Derived.Test.YtknaajofcbenaaaGreatWaysF
import Derived.Test.YtknaajofcbenaaaGreatCounted
import Derived.Test.YtknaajofcbenaaaGreatTwo
import Derived.WalkKit
import Derived.WalkSpells
import Derived.WalkLawsBesides
import Derived.Deep.QuietTactic
import Derived.BigQuiet
import Derived.Lib.Hide
import Derived.Shelf.Abstract
import Derived.BigGuardPart
import Derived.RangeFuncNested
import Derived.RangeFuncBound
import Derived.RangeFuncCalls
import Derived.RangeFuncLeaves
import Derived.Shelf.RegionOpen
import Derived.OwnWalkIn
import Derived.TacticsInMore
import Derived.LoopNIn
import Derived.LoopIn
import Derived.StillTailTactics
import Derived.Deep.RegionHeld3
import Derived.StillTail
import Derived.RangeFuncWrites
import Derived.Laws.StructEq
import Derived.Deep.LoopGhost
import Derived.IntWalk
import Derived.RangeFuncBox
import Derived.ArgAppend
import Derived.Laws.CopyOwn
import Derived.OwnWalk
import Derived.Lib.SliceRun
import Derived.Maps.OwnOps
import Derived.Maps.OwnSet
import Derived.Deep.AppendSrc
import Derived.Deep.Upon
namespace Go.Proofs.YtknaajofcbenaaaGreat
open Go.RowKit Go.Shelf

theorem flat_from (k : Nat) : ∀ (rows : List (List Value)), flatOk k rows = true → ∀ (j : Nat) v, rows.flatten[j]? = some v → ∃ i row r, rows[i]? = some row ∧ row[r]? = some v ∧ j = i * k + r
  | [], _, j, v, h => by simp at h
  | a :: rest, h, j, v, hj => by
    simp only [flatOk, List.all_cons, Bool.and_eq_true, beq_iff_eq] at h
    rw [List.flatten_cons] at hj
    by_cases hl : j < a.length
    · rw [List.getElem?_append_left hl] at hj
      exact ⟨0, a, j, rfl, hj, by omega⟩
    · rw [List.getElem?_append_right (by omega)] at hj
      obtain ⟨i, row, r, h1, h2, h3⟩ := flat_from k rest h.2 _ v hj
      exact ⟨i + 1, row, r, by simpa using h1, h2, by rw [Nat.succ_mul]; omega⟩
theorem Row.src {w : World} {p : Option Addr} {k : Nat} {rows : List (List Value)} (h : Row w p k rows) (hf : flatOk k rows = true) (hn : 0 < rows.length) (_hk : 0 < k) :
    ∃ b off, p = some ⟨b, off, none⟩ ∧ ∀ W, Up w W → ∀ (j : Nat) v, rows.flatten[j]? = some v → W.cell? ((⟨b, off, none⟩ : Addr).add j) = some v := by
  obtain ⟨b, off, hp, -⟩ := h 0 rows[0] (List.getElem?_eq_getElem hn)
  refine ⟨b, off, hp, fun W u j v hj => ?_⟩
  obtain ⟨i, row, r, h1, h2, rfl⟩ := flat_from k rows hf j v hj
  obtain ⟨b', off', hp', hc⟩ := h i row h1
  rw [hp] at hp'
  simp only [Option.some.injEq, Addr.mk.injEq, and_true] at hp'
  obtain ⟨rfl, rfl⟩ := hp'
  rw [Addr.add_lit, ← Nat.add_assoc]
  exact u.cellAt (hc r v h2)
theorem Row.other {w : World} {p : Option Addr} {k : Nat} {rows : List (List Value)} (h : Row w p k rows) {a : Addr} (ha : ∀ b off, p = some ⟨b, off, none⟩ → b ≠ a.block) (v : Value) : Row (w.setCell a v) p k rows := by
  intro i row hi
  obtain ⟨b, off, hp, hc⟩ := h i row hi
  refine ⟨b, off, hp, fun j x hj => ?_⟩
  exact (World.cell?_of_block (a := ⟨b, off + i * k + j, none⟩) (Below.heap_setCell w a v b (ha b off hp))).trans (hc j x hj)
theorem flatOk_ints (l : List Int) : flatOk 1 (ints l) = true := by simp [flatOk, ints]
theorem flatOk_pairs (l : List (Int × Int)) : flatOk 2 (pairs l) = true := by simp [flatOk, pairs]
theorem flatOk_triples (l : List (Int × Int × Int)) : flatOk 3 (triples l) = true := by simp [flatOk, triples]
theorem Row.of_own {w : World} {n₀ : Nat} {T : TypeId} {k : Nat} {v : Value} {n : Nat} {rows : List (List Value)} (hf : flatOk k rows = true) (h : w.ownsRow n₀ T k v n rows.flatten) (hn : rows.length = n) : ∃ p c, v = .slice p n c ∧ n ≤ c ∧ c ≤ maxLen ∧ Row w p k rows ∧ (∀ b off, p = some ⟨b, off, none⟩ → n₀ ≤ b) := by
  rcases h.2 with ⟨rfl, h0⟩ | ⟨g, cap, cur, rfl, hbase, hg, h1, h2, h3, h4⟩
  · have : rows = [] := List.eq_nil_of_length_eq_zero (by omega)
    subst this
    exact ⟨none, 0, by rw [h0], by omega, by simp [maxLen], Row.nil _ _ _, fun b off e => by cases e⟩
  · refine ⟨_, _, rfl, h1, h2, fun i row hi => ⟨g, 0, rfl, fun j x hj => by
    have hx := flat_at k rows hf i row hi j x hj
    have hlt : i * k + j < n * k := by
      have := (List.getElem?_eq_some_iff.1 hx).1
      rw [h.1] at this
      exact this
    rw [Nat.zero_add, h.cellAt _ hlt]
    exact hx⟩, fun b off e => by simp only [Option.some.injEq, Addr.mk.injEq] at e; omega⟩

theorem flat_len (k : Nat) : ∀ (rows : List (List Value)), flatOk k rows = true → rows.flatten.length = rows.length * k
  | [], _ => by simp
  | a :: r, h => by
    simp only [flatOk, List.all_cons, Bool.and_eq_true, beq_iff_eq] at h
    rw [List.flatten_cons, List.length_append, flat_len k r h.2, h.1, List.length_cons, Nat.succ_mul, Nat.add_comm]
theorem wpList_append_run {P : Program} {w : World} {ops : Array Oper} {rest : List Oper} {o : Oper} {a : Act} {Q : Exit → Act → World → Prop} (hgd : o.guard = none) (s x : Operand) (t : TypeId)
    (ho : o.op = .call { callee := .builtin .append, args := #[s, x], argTypes := #[t, t] }) (v1 v2 v' : Value) (w' : World) (hs : a.eval s = v1) (hx : a.eval x = v2) (hr : (Builtin.append_ #[t, t] o.type #[v1, v2]).run P w = .ok v' w')
    (h : wpList P ops Q rest (a.put o.dst v') w') : wpList P ops Q (o :: rest) a w := by
  refine wpList_plain hgd fun K hK' => ?_
  unfold Oper.wp execOp
  simp only [ho, resolve, invoke, builtin, Sem.run_bind, Sem.run_pure, Result.andThen_ok, List.map_toArray, List.map_cons, List.map_nil, hs, hx, hr]
  exact hK' _ _ h
theorem infoW : (Tryz.prog.info? 78).map (fun i => (i.zero, i.size, i.bytes)) = some (some (.agg #[.int .i64 0, .int .i64 0]), 2, 16) := by kernel_rfl
theorem infoS : (Tryz.prog.info? 80).map (fun i => (i.zero, i.size, i.bytes)) = some (some (.agg #[.int .i64 0, .int .i64 0, .int .i64 0]), 3, 24) := by kernel_rfl

set_option maxRecDepth 100000 in
set_option maxHeartbeats 1000000 in
theorem dupInt_o (l : List Int) (p : Option Addr) (c : Nat) (w : World) (hr : Row w p 1 (ints l)) (hb : l.length * 8 ≤ 140737488355328) :
    Calls Tryz.prog 10 #[.slice p l.length c] w fun e w' => ∃ p' c', e = .returned (.slice p' l.length c') ∧ l.length ≤ c' ∧ c' ≤ maxLen ∧ Row w' p' 1 (ints l) ∧ (∀ b off, p' = some ⟨b, off, none⟩ → w.heap.size ≤ b) ∧ Up w w' ∧ w'.ownsRow w.heap.size 3 1 (.slice p' l.length c') l.length (ints l).flatten := by
  obtain ⟨i0, hi, hz0, hz1, hz2⟩ := info_parts info3
  have hml : l.length ≤ maxLen := by simp only [maxLen]; omega
  obtain ⟨zs, hzs⟩ : ∃ zs, madeCells ((.int .i64 0) : Value).cells (l.length * 1) = zs := ⟨_, rfl⟩
  have hzl : zs.size = l.length * 1 := by rw [← hzs]; exact size_madeCells _ _
  have hmk : ∀ u : World, (Instr.makeSlice 25 (.int .i64 0) (.int .i64 (l.length : Int))).run Tryz.prog u = .ok (.slice (some ⟨u.heap.size, 0, none⟩) 0 l.length) (u.alloc (.cells zs 3)) := fun u => by
    have h := run_make (P := Tryz.prog) u 25 3 i0 (.int .i64 0) Tryz.underlying25 hi hz0 .i64 .i64 0 (l.length : Int) (by omega) (by omega) (by rw [hz2]; omega) (by omega)
    rw [Int.toNat_natCast, hz1, hzs] at h
    exact h
  have happ : ∃ v' w', (Builtin.append_ #[25, 25] 25 #[.slice (some ⟨w.heap.size, 0, none⟩) 0 l.length, .slice p l.length c]).run Tryz.prog (w.alloc (.cells zs 3)) = .ok v' w' ∧ (∃ p' c', v' = .slice p' l.length c' ∧ l.length ≤ c' ∧ c' ≤ maxLen ∧ Row w' p' 1 (ints l) ∧ (∀ b off, p' = some ⟨b, off, none⟩ → w.heap.size ≤ b) ∧ w'.ownsRow w.heap.size 3 1 (.slice p' l.length c') l.length (ints l).flatten) ∧ Up w w' := by
    have hown := World.ownsRow_made (e := 3) (size := 1) w zs l.length (Nat.le_refl _) hml hzl
    by_cases h0 : l.length = 0
    · have hsrc : Src Tryz.prog i0.size 25 (.slice p 0 c) 0 [] (w.alloc (.cells zs 3)) := by
        cases p with
        | none => exact Src.ofNil _ Tryz.underlying25 c
        | some a => exact Src.ofSlice _ Tryz.underlying25 a 0 c [] (by simp) (by intro j u h; simp at h) (by intro u h; cases h)
      have hr0 := run_append_nothing (P := Tryz.prog) (w.alloc (.cells zs 3)) 25 25 25 3 i0 Tryz.underlying25 hi (some ⟨w.heap.size, 0, none⟩) 0 l.length (by omega) _ hsrc
      have hnil : l = [] := List.eq_nil_of_length_eq_zero h0
      subst hnil
      exact ⟨_, _, hr0, ⟨_, _, rfl, by simp, by simp [maxLen], Row.nil _ _ _, fun b off e => by simp only [Option.some.injEq, Addr.mk.injEq] at e; omega, hown⟩, by (repeat (first | exact Below.refl _ _ | (with_reducible refine Below.drewN' ?_ _) | (with_reducible refine Below.drew ?_) | (with_reducible refine Below.setCell ?_ (by first | exact Nat.le_refl _ | omega | (with_reducible (repeat (first | refine sz_alloc ?_ | refine sz_setCell ?_ | refine sz_drew ?_ | refine sz_drewN ?_)); first | exact Nat.le_refl _ | omega) | (simp only [World.size_alloc, World.size_setCell, World.size_drew, size_drewN']; omega)) _) | (with_reducible refine Below.alloc ?_ (by first | exact Nat.le_refl _ | omega | (with_reducible (repeat (first | refine sz_alloc ?_ | refine sz_setCell ?_ | refine sz_drew ?_ | refine sz_drewN ?_)); first | exact Nat.le_refl _ | omega) | (simp only [World.size_alloc, World.size_setCell, World.size_drew, size_drewN']; omega)) _) | assumption))⟩
    · have hrl : (ints l).length = l.length := by simp [ints]
      have hfl : (ints l).flatten.length = l.length * 1 := by rw [flat_len 1 (ints l) (flatOk_ints l), hrl]
      obtain ⟨b, off, rfl, hsrc⟩ := hr.src (flatOk_ints l) (by omega) (by decide)
      obtain ⟨v', w', hrun, ho, hg, -⟩ := run_append_own (P := Tryz.prog) (w.alloc (.cells zs 3)) w.heap.size 25 25 3 i0 (.int .i64 0) 1 8 Tryz.underlying25 hi hz0 hz1 hz2 rfl (by decide) _ 0 [] hown ⟨b, off, none⟩ l.length c (ints l).flatten hfl
        (fun j u h => hsrc _ (by (repeat (first | exact Below.refl _ _ | (with_reducible refine Below.drewN' ?_ _) | (with_reducible refine Below.drew ?_) | (with_reducible refine Below.setCell ?_ (by first | exact Nat.le_refl _ | omega | (with_reducible (repeat (first | refine sz_alloc ?_ | refine sz_setCell ?_ | refine sz_drew ?_ | refine sz_drewN ?_)); first | exact Nat.le_refl _ | omega) | (simp only [World.size_alloc, World.size_setCell, World.size_drew, size_drewN']; omega)) _) | (with_reducible refine Below.alloc ?_ (by first | exact Nat.le_refl _ | omega | (with_reducible (repeat (first | refine sz_alloc ?_ | refine sz_setCell ?_ | refine sz_drew ?_ | refine sz_drewN ?_)); first | exact Nat.le_refl _ | omega) | (simp only [World.size_alloc, World.size_setCell, World.size_drew, size_drewN']; omega)) _) | assumption))) j u h) (by intro u hu; obtain ⟨r, hr1, hr2⟩ := List.mem_flatten.1 hu; simp only [ints, List.mem_map] at hr1; obtain ⟨y, -, rfl⟩ := hr1; simp only [List.mem_cons, List.not_mem_nil, or_false] at hr2; subst hr2; rfl) (by omega) (by omega) (by simp)
      rw [Nat.zero_add, List.nil_append] at ho
      obtain ⟨p', c', e1, e2, e3, e4, e5⟩ := Row.of_own (flatOk_ints l) ho hrl
      subst e1
      exact ⟨_, w', hrun, ⟨p', c', rfl, e2, e3, e4, e5, ho⟩, Below.grown (by (repeat (first | exact Below.refl _ _ | (with_reducible refine Below.drewN' ?_ _) | (with_reducible refine Below.drew ?_) | (with_reducible refine Below.setCell ?_ (by first | exact Nat.le_refl _ | omega | (with_reducible (repeat (first | refine sz_alloc ?_ | refine sz_setCell ?_ | refine sz_drew ?_ | refine sz_drewN ?_)); first | exact Nat.le_refl _ | omega) | (simp only [World.size_alloc, World.size_setCell, World.size_drew, size_drewN']; omega)) _) | (with_reducible refine Below.alloc ?_ (by first | exact Nat.le_refl _ | omega | (with_reducible (repeat (first | refine sz_alloc ?_ | refine sz_setCell ?_ | refine sz_drew ?_ | refine sz_drewN ?_)); first | exact Nat.le_refl _ | omega) | (simp only [World.size_alloc, World.size_setCell, World.size_drew, size_drewN']; omega)) _) | assumption))) hg (by simp) (fun k e => by simp only [Value.ownBlock, Option.some.injEq] at e; omega)⟩
  obtain ⟨v', w1, hrun, hv, hu⟩ := happ
  have HV := Lib.hid hv
  have HU := Lib.hid hu
  clear hr hi hz0 hz1 hz2 hzs hzl hv hu
  go_enter Tryz.func10, Tryz.ntmps10
  go_wp2_with (at_builtin; refine wpList_append_run rfl _ _ 25 rfl _ _ v' w1 rfl rfl hrun ?_)
  go_ret
  obtain ⟨p', c', rfl, e2, e3, e4, e5, e6⟩ := HV.out
  exact ⟨p', c', rfl, e2, e3, e4, e5, HU.out, e6⟩
theorem dupInt_c (l : List Int) (p : Option Addr) (c : Nat) (w : World) (hr : Row w p 1 (ints l)) (hb : l.length * 8 ≤ 140737488355328) :
    Calls Tryz.prog 10 #[.slice p l.length c] w fun e w' => ∃ p' c', e = .returned (.slice p' l.length c') ∧ l.length ≤ c' ∧ c' ≤ maxLen ∧ Row w' p' 1 (ints l) ∧ (∀ b off, p' = some ⟨b, off, none⟩ → w.heap.size ≤ b) ∧ Up w w' :=
  (dupInt_o l p c w hr hb).mono (by rintro e w' ⟨p', c', e1, e2, e3, e4, e5, e6, -⟩; exact ⟨p', c', e1, e2, e3, e4, e5, e6⟩)

set_option maxRecDepth 100000 in
set_option maxHeartbeats 1000000 in
theorem dupWater_o (l : List (Int × Int)) (p : Option Addr) (c : Nat) (w : World) (hr : Row w p 2 (pairs l)) (hb : l.length * 16 ≤ 140737488355328) :
    Calls Tryz.prog 47 #[.slice p l.length c] w fun e w' => ∃ p' c', e = .returned (.slice p' l.length c') ∧ l.length ≤ c' ∧ c' ≤ maxLen ∧ Row w' p' 2 (pairs l) ∧ (∀ b off, p' = some ⟨b, off, none⟩ → w.heap.size ≤ b) ∧ Up w w' ∧ w'.ownsRow w.heap.size 78 2 (.slice p' l.length c') l.length (pairs l).flatten := by
  obtain ⟨i0, hi, hz0, hz1, hz2⟩ := info_parts infoW
  have hml : l.length ≤ maxLen := by simp only [maxLen]; omega
  obtain ⟨zs, hzs⟩ : ∃ zs, madeCells ((.agg #[.int .i64 0, .int .i64 0]) : Value).cells (l.length * 2) = zs := ⟨_, rfl⟩
  have hzl : zs.size = l.length * 2 := by rw [← hzs]; exact size_madeCells _ _
  have hmk : ∀ u : World, (Instr.makeSlice 22 (.int .i64 0) (.int .i64 (l.length : Int))).run Tryz.prog u = .ok (.slice (some ⟨u.heap.size, 0, none⟩) 0 l.length) (u.alloc (.cells zs 78)) := fun u => by
    have h := run_make (P := Tryz.prog) u 22 78 i0 (.agg #[.int .i64 0, .int .i64 0]) Tryz.underlying22 hi hz0 .i64 .i64 0 (l.length : Int) (by omega) (by omega) (by rw [hz2]; omega) (by omega)
    rw [Int.toNat_natCast, hz1, hzs] at h
    exact h
  have happ : ∃ v' w', (Builtin.append_ #[22, 22] 22 #[.slice (some ⟨w.heap.size, 0, none⟩) 0 l.length, .slice p l.length c]).run Tryz.prog (w.alloc (.cells zs 78)) = .ok v' w' ∧ (∃ p' c', v' = .slice p' l.length c' ∧ l.length ≤ c' ∧ c' ≤ maxLen ∧ Row w' p' 2 (pairs l) ∧ (∀ b off, p' = some ⟨b, off, none⟩ → w.heap.size ≤ b) ∧ w'.ownsRow w.heap.size 78 2 (.slice p' l.length c') l.length (pairs l).flatten) ∧ Up w w' := by
    have hown := World.ownsRow_made (e := 78) (size := 2) w zs l.length (Nat.le_refl _) hml hzl
    by_cases h0 : l.length = 0
    · have hsrc : Src Tryz.prog i0.size 22 (.slice p 0 c) 0 [] (w.alloc (.cells zs 78)) := by
        cases p with
        | none => exact Src.ofNil _ Tryz.underlying22 c
        | some a => exact Src.ofSlice _ Tryz.underlying22 a 0 c [] (by simp) (by intro j u h; simp at h) (by intro u h; cases h)
      have hr0 := run_append_nothing (P := Tryz.prog) (w.alloc (.cells zs 78)) 22 22 22 78 i0 Tryz.underlying22 hi (some ⟨w.heap.size, 0, none⟩) 0 l.length (by omega) _ hsrc
      have hnil : l = [] := List.eq_nil_of_length_eq_zero h0
      subst hnil
      exact ⟨_, _, hr0, ⟨_, _, rfl, by simp, by simp [maxLen], Row.nil _ _ _, fun b off e => by simp only [Option.some.injEq, Addr.mk.injEq] at e; omega, hown⟩, by (repeat (first | exact Below.refl _ _ | (with_reducible refine Below.drewN' ?_ _) | (with_reducible refine Below.drew ?_) | (with_reducible refine Below.setCell ?_ (by first | exact Nat.le_refl _ | omega | (with_reducible (repeat (first | refine sz_alloc ?_ | refine sz_setCell ?_ | refine sz_drew ?_ | refine sz_drewN ?_)); first | exact Nat.le_refl _ | omega) | (simp only [World.size_alloc, World.size_setCell, World.size_drew, size_drewN']; omega)) _) | (with_reducible refine Below.alloc ?_ (by first | exact Nat.le_refl _ | omega | (with_reducible (repeat (first | refine sz_alloc ?_ | refine sz_setCell ?_ | refine sz_drew ?_ | refine sz_drewN ?_)); first | exact Nat.le_refl _ | omega) | (simp only [World.size_alloc, World.size_setCell, World.size_drew, size_drewN']; omega)) _) | assumption))⟩
    · have hrl : (pairs l).length = l.length := by simp [pairs]
      have hfl : (pairs l).flatten.length = l.length * 2 := by rw [flat_len 2 (pairs l) (flatOk_pairs l), hrl]
      obtain ⟨b, off, rfl, hsrc⟩ := hr.src (flatOk_pairs l) (by omega) (by decide)
      obtain ⟨v', w', hrun, ho, hg, -⟩ := run_append_own (P := Tryz.prog) (w.alloc (.cells zs 78)) w.heap.size 22 22 78 i0 (.agg #[.int .i64 0, .int .i64 0]) 2 16 Tryz.underlying22 hi hz0 hz1 hz2 rfl (by decide) _ 0 [] hown ⟨b, off, none⟩ l.length c (pairs l).flatten hfl
        (fun j u h => hsrc _ (by (repeat (first | exact Below.refl _ _ | (with_reducible refine Below.drewN' ?_ _) | (with_reducible refine Below.drew ?_) | (with_reducible refine Below.setCell ?_ (by first | exact Nat.le_refl _ | omega | (with_reducible (repeat (first | refine sz_alloc ?_ | refine sz_setCell ?_ | refine sz_drew ?_ | refine sz_drewN ?_)); first | exact Nat.le_refl _ | omega) | (simp only [World.size_alloc, World.size_setCell, World.size_drew, size_drewN']; omega)) _) | (with_reducible refine Below.alloc ?_ (by first | exact Nat.le_refl _ | omega | (with_reducible (repeat (first | refine sz_alloc ?_ | refine sz_setCell ?_ | refine sz_drew ?_ | refine sz_drewN ?_)); first | exact Nat.le_refl _ | omega) | (simp only [World.size_alloc, World.size_setCell, World.size_drew, size_drewN']; omega)) _) | assumption))) j u h) (by intro u hu; obtain ⟨r, hr1, hr2⟩ := List.mem_flatten.1 hu; simp only [pairs, List.mem_map] at hr1; obtain ⟨y, -, rfl⟩ := hr1; simp only [List.mem_cons, List.not_mem_nil, or_false] at hr2; rcases hr2 with rfl | rfl <;> rfl) (by omega) (by omega) (by simp)
      rw [Nat.zero_add, List.nil_append] at ho
      obtain ⟨p', c', e1, e2, e3, e4, e5⟩ := Row.of_own (flatOk_pairs l) ho hrl
      subst e1
      exact ⟨_, w', hrun, ⟨p', c', rfl, e2, e3, e4, e5, ho⟩, Below.grown (by (repeat (first | exact Below.refl _ _ | (with_reducible refine Below.drewN' ?_ _) | (with_reducible refine Below.drew ?_) | (with_reducible refine Below.setCell ?_ (by first | exact Nat.le_refl _ | omega | (with_reducible (repeat (first | refine sz_alloc ?_ | refine sz_setCell ?_ | refine sz_drew ?_ | refine sz_drewN ?_)); first | exact Nat.le_refl _ | omega) | (simp only [World.size_alloc, World.size_setCell, World.size_drew, size_drewN']; omega)) _) | (with_reducible refine Below.alloc ?_ (by first | exact Nat.le_refl _ | omega | (with_reducible (repeat (first | refine sz_alloc ?_ | refine sz_setCell ?_ | refine sz_drew ?_ | refine sz_drewN ?_)); first | exact Nat.le_refl _ | omega) | (simp only [World.size_alloc, World.size_setCell, World.size_drew, size_drewN']; omega)) _) | assumption))) hg (by simp) (fun k e => by simp only [Value.ownBlock, Option.some.injEq] at e; omega)⟩
  obtain ⟨v', w1, hrun, hv, hu⟩ := happ
  have HV := Lib.hid hv
  have HU := Lib.hid hu
  clear hr hi hz0 hz1 hz2 hzs hzl hv hu
  go_enter Tryz.func47, Tryz.ntmps47
  go_wp2_with (at_builtin; refine wpList_append_run rfl _ _ 22 rfl _ _ v' w1 rfl rfl hrun ?_)
  go_ret
  obtain ⟨p', c', rfl, e2, e3, e4, e5, e6⟩ := HV.out
  exact ⟨p', c', rfl, e2, e3, e4, e5, HU.out, e6⟩
theorem dupWater_c (l : List (Int × Int)) (p : Option Addr) (c : Nat) (w : World) (hr : Row w p 2 (pairs l)) (hb : l.length * 16 ≤ 140737488355328) :
    Calls Tryz.prog 47 #[.slice p l.length c] w fun e w' => ∃ p' c', e = .returned (.slice p' l.length c') ∧ l.length ≤ c' ∧ c' ≤ maxLen ∧ Row w' p' 2 (pairs l) ∧ (∀ b off, p' = some ⟨b, off, none⟩ → w.heap.size ≤ b) ∧ Up w w' :=
  (dupWater_o l p c w hr hb).mono (by rintro e w' ⟨p', c', e1, e2, e3, e4, e5, e6, -⟩; exact ⟨p', c', e1, e2, e3, e4, e5, e6⟩)

set_option maxRecDepth 100000 in
set_option maxHeartbeats 1000000 in
theorem dupSill_o (l : List (Int × Int × Int)) (p : Option Addr) (c : Nat) (w : World) (hr : Row w p 3 (triples l)) (hb : l.length * 24 ≤ 140737488355328) :
    Calls Tryz.prog 48 #[.slice p l.length c] w fun e w' => ∃ p' c', e = .returned (.slice p' l.length c') ∧ l.length ≤ c' ∧ c' ≤ maxLen ∧ Row w' p' 3 (triples l) ∧ (∀ b off, p' = some ⟨b, off, none⟩ → w.heap.size ≤ b) ∧ Up w w' ∧ w'.ownsRow w.heap.size 80 3 (.slice p' l.length c') l.length (triples l).flatten := by
  obtain ⟨i0, hi, hz0, hz1, hz2⟩ := info_parts infoS
  have hml : l.length ≤ maxLen := by simp only [maxLen]; omega
  obtain ⟨zs, hzs⟩ : ∃ zs, madeCells ((.agg #[.int .i64 0, .int .i64 0, .int .i64 0]) : Value).cells (l.length * 3) = zs := ⟨_, rfl⟩
  have hzl : zs.size = l.length * 3 := by rw [← hzs]; exact size_madeCells _ _
  have hmk : ∀ u : World, (Instr.makeSlice 26 (.int .i64 0) (.int .i64 (l.length : Int))).run Tryz.prog u = .ok (.slice (some ⟨u.heap.size, 0, none⟩) 0 l.length) (u.alloc (.cells zs 80)) := fun u => by
    have h := run_make (P := Tryz.prog) u 26 80 i0 (.agg #[.int .i64 0, .int .i64 0, .int .i64 0]) Tryz.underlying26 hi hz0 .i64 .i64 0 (l.length : Int) (by omega) (by omega) (by rw [hz2]; omega) (by omega)
    rw [Int.toNat_natCast, hz1, hzs] at h
    exact h
  have happ : ∃ v' w', (Builtin.append_ #[26, 26] 26 #[.slice (some ⟨w.heap.size, 0, none⟩) 0 l.length, .slice p l.length c]).run Tryz.prog (w.alloc (.cells zs 80)) = .ok v' w' ∧ (∃ p' c', v' = .slice p' l.length c' ∧ l.length ≤ c' ∧ c' ≤ maxLen ∧ Row w' p' 3 (triples l) ∧ (∀ b off, p' = some ⟨b, off, none⟩ → w.heap.size ≤ b) ∧ w'.ownsRow w.heap.size 80 3 (.slice p' l.length c') l.length (triples l).flatten) ∧ Up w w' := by
    have hown := World.ownsRow_made (e := 80) (size := 3) w zs l.length (Nat.le_refl _) hml hzl
    by_cases h0 : l.length = 0
    · have hsrc : Src Tryz.prog i0.size 26 (.slice p 0 c) 0 [] (w.alloc (.cells zs 80)) := by
        cases p with
        | none => exact Src.ofNil _ Tryz.underlying26 c
        | some a => exact Src.ofSlice _ Tryz.underlying26 a 0 c [] (by simp) (by intro j u h; simp at h) (by intro u h; cases h)
      have hr0 := run_append_nothing (P := Tryz.prog) (w.alloc (.cells zs 80)) 26 26 26 80 i0 Tryz.underlying26 hi (some ⟨w.heap.size, 0, none⟩) 0 l.length (by omega) _ hsrc
      have hnil : l = [] := List.eq_nil_of_length_eq_zero h0
      subst hnil
      exact ⟨_, _, hr0, ⟨_, _, rfl, by simp, by simp [maxLen], Row.nil _ _ _, fun b off e => by simp only [Option.some.injEq, Addr.mk.injEq] at e; omega, hown⟩, by (repeat (first | exact Below.refl _ _ | (with_reducible refine Below.drewN' ?_ _) | (with_reducible refine Below.drew ?_) | (with_reducible refine Below.setCell ?_ (by first | exact Nat.le_refl _ | omega | (with_reducible (repeat (first | refine sz_alloc ?_ | refine sz_setCell ?_ | refine sz_drew ?_ | refine sz_drewN ?_)); first | exact Nat.le_refl _ | omega) | (simp only [World.size_alloc, World.size_setCell, World.size_drew, size_drewN']; omega)) _) | (with_reducible refine Below.alloc ?_ (by first | exact Nat.le_refl _ | omega | (with_reducible (repeat (first | refine sz_alloc ?_ | refine sz_setCell ?_ | refine sz_drew ?_ | refine sz_drewN ?_)); first | exact Nat.le_refl _ | omega) | (simp only [World.size_alloc, World.size_setCell, World.size_drew, size_drewN']; omega)) _) | assumption))⟩
    · have hrl : (triples l).length = l.length := by simp [triples]
      have hfl : (triples l).flatten.length = l.length * 3 := by rw [flat_len 3 (triples l) (flatOk_triples l), hrl]
      obtain ⟨b, off, rfl, hsrc⟩ := hr.src (flatOk_triples l) (by omega) (by decide)
      obtain ⟨v', w', hrun, ho, hg, -⟩ := run_append_own (P := Tryz.prog) (w.alloc (.cells zs 80)) w.heap.size 26 26 80 i0 (.agg #[.int .i64 0, .int .i64 0, .int .i64 0]) 3 24 Tryz.underlying26 hi hz0 hz1 hz2 rfl (by decide) _ 0 [] hown ⟨b, off, none⟩ l.length c (triples l).flatten hfl
        (fun j u h => hsrc _ (by (repeat (first | exact Below.refl _ _ | (with_reducible refine Below.drewN' ?_ _) | (with_reducible refine Below.drew ?_) | (with_reducible refine Below.setCell ?_ (by first | exact Nat.le_refl _ | omega | (with_reducible (repeat (first | refine sz_alloc ?_ | refine sz_setCell ?_ | refine sz_drew ?_ | refine sz_drewN ?_)); first | exact Nat.le_refl _ | omega) | (simp only [World.size_alloc, World.size_setCell, World.size_drew, size_drewN']; omega)) _) | (with_reducible refine Below.alloc ?_ (by first | exact Nat.le_refl _ | omega | (with_reducible (repeat (first | refine sz_alloc ?_ | refine sz_setCell ?_ | refine sz_drew ?_ | refine sz_drewN ?_)); first | exact Nat.le_refl _ | omega) | (simp only [World.size_alloc, World.size_setCell, World.size_drew, size_drewN']; omega)) _) | assumption))) j u h) (by intro u hu; obtain ⟨r, hr1, hr2⟩ := List.mem_flatten.1 hu; simp only [triples, List.mem_map] at hr1; obtain ⟨y, -, rfl⟩ := hr1; simp only [List.mem_cons, List.not_mem_nil, or_false] at hr2; rcases hr2 with rfl | rfl | rfl <;> rfl) (by omega) (by omega) (by simp)
      rw [Nat.zero_add, List.nil_append] at ho
      obtain ⟨p', c', e1, e2, e3, e4, e5⟩ := Row.of_own (flatOk_triples l) ho hrl
      subst e1
      exact ⟨_, w', hrun, ⟨p', c', rfl, e2, e3, e4, e5, ho⟩, Below.grown (by (repeat (first | exact Below.refl _ _ | (with_reducible refine Below.drewN' ?_ _) | (with_reducible refine Below.drew ?_) | (with_reducible refine Below.setCell ?_ (by first | exact Nat.le_refl _ | omega | (with_reducible (repeat (first | refine sz_alloc ?_ | refine sz_setCell ?_ | refine sz_drew ?_ | refine sz_drewN ?_)); first | exact Nat.le_refl _ | omega) | (simp only [World.size_alloc, World.size_setCell, World.size_drew, size_drewN']; omega)) _) | (with_reducible refine Below.alloc ?_ (by first | exact Nat.le_refl _ | omega | (with_reducible (repeat (first | refine sz_alloc ?_ | refine sz_setCell ?_ | refine sz_drew ?_ | refine sz_drewN ?_)); first | exact Nat.le_refl _ | omega) | (simp only [World.size_alloc, World.size_setCell, World.size_drew, size_drewN']; omega)) _) | assumption))) hg (by simp) (fun k e => by simp only [Value.ownBlock, Option.some.injEq] at e; omega)⟩
  obtain ⟨v', w1, hrun, hv, hu⟩ := happ
  have HV := Lib.hid hv
  have HU := Lib.hid hu
  clear hr hi hz0 hz1 hz2 hzs hzl hv hu
  go_enter Tryz.func48, Tryz.ntmps48
  go_wp2_with (at_builtin; refine wpList_append_run rfl _ _ 26 rfl _ _ v' w1 rfl rfl hrun ?_)
  go_ret
  obtain ⟨p', c', rfl, e2, e3, e4, e5, e6⟩ := HV.out
  exact ⟨p', c', rfl, e2, e3, e4, e5, HU.out, e6⟩
theorem dupSill_c (l : List (Int × Int × Int)) (p : Option Addr) (c : Nat) (w : World) (hr : Row w p 3 (triples l)) (hb : l.length * 24 ≤ 140737488355328) :
    Calls Tryz.prog 48 #[.slice p l.length c] w fun e w' => ∃ p' c', e = .returned (.slice p' l.length c') ∧ l.length ≤ c' ∧ c' ≤ maxLen ∧ Row w' p' 3 (triples l) ∧ (∀ b off, p' = some ⟨b, off, none⟩ → w.heap.size ≤ b) ∧ Up w w' :=
  (dupSill_o l p c w hr hb).mono (by rintro e w' ⟨p', c', e1, e2, e3, e4, e5, e6, -⟩; exact ⟨p', c', e1, e2, e3, e4, e5, e6⟩)
end Go.Proofs.YtknaajofcbenaaaGreat
