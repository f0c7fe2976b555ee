/- The reference's Says. -/
import Derived.Test.YtifcmbeejichdaaBase
import Derived.Test.YtifcmbeejichdaaFar
import Derived.Test.YtifcmbeejichdaaOwn
import Derived.Test.YtifcmbeejichdaaHeight
import Derived.Test.YtifcmbeejichdaaChk
import Derived.Test.YtifcmbeejichdaaChk2
import Derived.Test.YtifcmbeejichdaaCheck
import Derived.Test.YtifcmbeejichdaaOn
import Derived.Test.YtifcmbeejichdaaRound
import Derived.Test.YtifcmbeejichdaaLower
import Derived.Test.YtifcmbeejichdaaGates
import Derived.Test.YtifcmbeejichdaaBegin
import Derived.Test.YtifcmbeejichdaaBegin2
import Derived.Test.YtifcmbeejichdaaSpans
import Derived.Test.YtifcmbeejichdaaFits
import Derived.Test.YtifcmbeejichdaaQue
import Derived.Test.YtifcmbeejichdaaLead
import Derived.Test.YtifcmbeejichdaaWaysF
import Derived.Test.YtifcmbeejichdaaCrossA
import Derived.Test.YtifcmbeejichdaaTurn
import Derived.Test.YtifcmbeejichdaaAll
import Derived.Test.YtifcmbeejichdaaLonger
import Derived.Test.YtifcmbeejichdaaDup
import Derived.Test.YtifcmbeejichdaaLine
import Derived.Test.YtifcmbeejichdaaState
import Derived.Test.YtifcmbeejichdaaState2
import Derived.Test.YtifcmbeejichdaaSpans2
import Derived.WalkKit
import Derived.WalkSpells
import Derived.WalkLawsBesides
import Derived.Deep.QuietTactic
import Derived.BigQuiet
import Derived.Lib.Hide
import Derived.Shelf.Abstract
import Derived.BigGuardPart
import Derived.RangeFuncNested
import Derived.RangeFuncBound
import Derived.RangeFuncCalls
import Derived.RangeFuncLeaves
import Derived.Shelf.RegionOpen
import Derived.OwnWalkIn
import Derived.TacticsInMore
import Derived.LoopNIn
import Derived.LoopIn
import Derived.Deep.RegionHeld3
import Derived.StillTail
import Derived.StillTailTactics
import Derived.RangeFuncWrites
import Derived.Laws.StructEq
import Derived.Deep.LoopGhost
import Derived.IntWalk
import Derived.RangeFuncBox
import Derived.ArgAppend
import Derived.Laws.CopyOwn
import Derived.OwnWalk
import Derived.Lib.SliceRun
import Derived.Maps.OwnOps
import Derived.Maps.OwnSet
import Derived.Deep.AppendSrc
import Derived.Deep.Upon
import Derived.Deep.Cut
import Derived.Deep.DeepCutAuto
/- Rows that lie in a block of their own, from its first cell on: cells, and what a store changes. -/
namespace Go.Proofs.Ytifcmbeejichdaa
section
open Go.RowKit Go.Shelf

theorem flatten_set (k : Nat) : ∀ (rows : List (List Value)) (i j : Nat) (v : Value) (hi : i < rows.length), (∀ r ∈ rows, r.length = k) → j < k → rows.flatten.set (i * k + j) v = (rows.set i (rows[i].set j v)).flatten
  | a :: r, 0, j, v, _, hk, hj => by
    have ha := hk a (by simp)
    rw [Nat.zero_mul, Nat.zero_add, List.flatten_cons, List.set_append_left _ _ (by omega)]
    rfl
  | a :: r, i + 1, j, v, hi, hk, hj => by
    have ha := hk a (by simp)
    have hi' : i < r.length := by simpa using hi
    have ih := flatten_set k r i j v hi' (fun x hx => hk x (by simp [hx])) hj
    rw [List.flatten_cons, List.set_append_right _ _ (by rw [Nat.add_mul]; omega), show (i + 1) * k + j - a.length = i * k + j by rw [Nat.add_mul]; omega, ih]
    rfl
theorem flatten_len (k : Nat) : ∀ (rows : List (List Value)), (∀ r ∈ rows, r.length = k) → rows.flatten.length = rows.length * k
  | [], _ => by simp
  | a :: r, h => by
    rw [List.flatten_cons, List.length_append, flatten_len k r (fun x hx => h x (by simp [hx])), h a (by simp), List.length_cons, Nat.add_mul]
    omega

def RowBlk (w : World) (g : Nat) (T : TypeId) (k : Nat) (rows : List (List Value)) : Prop := (∀ r ∈ rows, r.length = k) ∧ ∃ cur : List Value, Blk w g cur T ∧ cur.take (rows.length * k) = rows.flatten
section
variable {w w' : World} {g k n₀ c : Nat} {T : TypeId} {p : Option Addr} {rows : List (List Value)}
theorem RowBlk.cell (h : RowBlk w g T k rows) {i j : Nat} {row : List Value} {x : Value} (hi : rows[i]? = some row) (hj : row[j]? = some x) : w.cell? ⟨g, i * k + j, none⟩ = some x := by
  obtain ⟨hk, cur, hb, ht⟩ := h
  have hil := (List.getElem?_eq_some_iff.1 hi).1
  have hr : row.length = k := hk row (List.mem_of_getElem? hi)
  have hjl : j < k := by have := (List.getElem?_eq_some_iff.1 hj).1; omega
  have hok : flatOk k rows = true := by unfold flatOk; simpa using hk
  have hf := flat_at k rows hok i row hi j x hj
  have hlt : i * k + j < rows.length * k := by
    have : (i + 1) * k ≤ rows.length * k := Nat.mul_le_mul_right _ (by omega)
    rw [Nat.add_mul] at this; omega
  rw [← ht, List.getElem?_take_of_lt hlt] at hf
  rw [hb.cell, hf]
theorem RowBlk.free (h : RowBlk w g T k rows) (i : Nat) : w.frozen? ⟨g, i, none⟩ = false := by
  obtain ⟨-, cur, hb, -⟩ := h
  exact hb.free i
theorem RowBlk.lt (h : RowBlk w g T k rows) : g < w.heap.size := by
  obtain ⟨-, cur, hb, -⟩ := h
  exact hb.lt
theorem RowBlk.row (h : RowBlk w g T k rows) : Row w (some ⟨g, 0, none⟩) k rows := fun i row hi => ⟨g, 0, rfl, fun j x hj => by rw [Nat.zero_add]; exact h.cell hi hj⟩
theorem RowBlk.up (h : RowBlk w g T k rows) (hu : Up w w') : RowBlk w' g T k rows := by
  obtain ⟨hk, cur, hb, ht⟩ := h
  exact ⟨hk, cur, hb.up hu, ht⟩
theorem RowBlk.other (h : RowBlk w g T k rows) {a : Addr} (ha : g ≠ a.block) (v : Value) : RowBlk (w.setCell a v) g T k rows := by
  obtain ⟨hk, cur, hb, ht⟩ := h
  exact ⟨hk, cur, hb.other ha v, ht⟩
theorem RowBlk.far {B n : Nat} (h : RowBlk w g T k rows) (hf : Far B n w w') (h1 : g < n) (h2 : g ≠ B) : RowBlk w' g T k rows := by
  obtain ⟨hk, cur, hb, ht⟩ := h
  exact ⟨hk, cur, hf.blk hb h1 h2, ht⟩
theorem RowBlk.set (h : RowBlk w g T k rows) {i j : Nat} (hi : i < rows.length) (hj : j < k) (v : Value) : RowBlk (w.setCell ⟨g, i * k + j, none⟩ v) g T k (rows.set i (rows[i].set j v)) := by
  obtain ⟨hk, cur, hb, ht⟩ := h
  refine ⟨fun r hr => ?_, _, hb.set _ _, ?_⟩
  · rcases List.mem_or_eq_of_mem_set hr with h1 | rfl
    · exact hk r h1
    · rw [List.length_set]; exact hk _ (List.getElem_mem _)
  · rw [List.length_set, ← flatten_set k rows i j v hi hk hj, ← ht, List.take_set]
theorem RowBlk.of (h : w.ownsRow n₀ T k (.slice p rows.length c) rows.length rows.flatten) (hk : ∀ r ∈ rows, r.length = k) (hl : 0 < rows.length) : ∃ g, p = some ⟨g, 0, none⟩ ∧ n₀ ≤ g ∧ RowBlk w g T k rows := by
  rcases h.2 with ⟨-, h0⟩ | ⟨g, cap, cur, h1, h2, h3, h4, h5, h6, h7⟩
  · omega
  · injection h1 with e1 e2 e3
    exact ⟨g, e1, h2, hk, cur.toList, h3, h7⟩
/-- rows of another type lie elsewhere -/
theorem RowBlk.ne {E : TypeId} {m n : Nat} {q : Option Addr} {xs : List Value} (h : RowBlk w g T k rows) (h' : w.ownsRow n₀ E m (.slice q n c) n xs) (hE : E ≠ T) : ∀ b off, q = some ⟨b, off, none⟩ → b ≠ g := by
  intro b off e hb
  obtain ⟨-, cur, hc, -⟩ := h
  rcases h'.2 with ⟨h1, -⟩ | ⟨g', cap, cur', h1, h2, h3, h4⟩
  · injection h1 with e1 e2 e3
    rw [e1] at e; cases e
  · injection h1 with e1 e2 e3
    rw [e1] at e
    simp only [Option.some.injEq, Addr.mk.injEq] at e
    have hg : g' = g := by omega
    rw [hg] at h3
    have h5 := h3.symm.trans hc
    simp only [Option.some.injEq, Obj.cells.injEq] at h5
    exact hE h5.2.1
theorem Blk.row {w : World} {B : Nat} {T : TypeId} (k : Nat) {rows : List (List Value)} (hk : ∀ r ∈ rows, r.length = k) (h : Blk w B rows.flatten T) : RowBlk w B T k rows :=
  ⟨hk, _, h, by rw [List.take_of_length_le (by rw [flatten_len k rows hk]; exact Nat.le_refl _)]⟩
/-- own rows lie below the heap's end -/
theorem ownsRow_lt {E : TypeId} {m n : Nat} {q : Option Addr} {xs : List Value} (h : w.ownsRow n₀ E m (.slice q n c) n xs) : ∀ b off, q = some ⟨b, off, none⟩ → n₀ ≤ b ∧ b < w.heap.size := by
  intro b off e
  rcases h.2 with ⟨h1, -⟩ | ⟨g', cap, cur', h1, h2, h3, h4⟩
  · injection h1 with e1 e2 e3
    rw [e1] at e; cases e
  · injection h1 with e1 e2 e3
    rw [e1] at e
    simp only [Option.some.injEq, Addr.mk.injEq] at e
    have hg : g' = b := by omega
    rw [hg] at h3 h2
    exact ⟨h2, (Array.getElem?_eq_some_iff.1 h3).1⟩
end
theorem triples_len (l : List (Int × Int × Int)) : ∀ r ∈ triples l, r.length = 3 := fun r hr => by
  simp only [triples, List.mem_map] at hr
  obtain ⟨x, -, rfl⟩ := hr; rfl
theorem pairs_len (l : List (Int × Int)) : ∀ r ∈ pairs l, r.length = 2 := fun r hr => by
  simp only [pairs, List.mem_map] at hr
  obtain ⟨x, -, rfl⟩ := hr; rfl
theorem ints_len (l : List Int) : ∀ r ∈ ints l, r.length = 1 := fun r hr => by
  simp only [ints, List.mem_map] at hr
  obtain ⟨x, -, rfl⟩ := hr; rfl
theorem triples_set (l : List (Int × Int × Int)) (i : Nat) (hi : i < l.length) (h : Int) : (triples l).set i (((triples l)[i]'(by simpa [triples] using hi)).set 2 (.int .i64 h)) = triples (l.set i (l[i].1, l[i].2.1, h)) := by
  unfold triples
  rw [List.map_set]
  simp
theorem ints_set (l : List Int) (i : Nat) (hi : i < l.length) (h : Int) : (ints l).set i (((ints l)[i]'(by simpa [ints] using hi)).set 0 (.int .i64 h)) = ints (l.set i h) := by
  unfold ints
  rw [List.map_set]
  simp
end
end Go.Proofs.Ytifcmbeejichdaa
namespace Go.Proofs.Ytifcmbeejichdaa
open Go.RowKit Go.Shelf

set_option maxRecDepth 100000 in
theorem off_c (n lo hi : Int) (w : World) : Calls Try.prog 84 #[.int .i64 n, .int .i64 lo, .int .i64 hi] w fun e w' => e = .returned (.bool (!inB n lo hi)) ∧ w = w' := by
  have HB : Hid ((!inB n lo hi) = (decide (n < lo) || decide (hi < n))) := by
    show _ = _
    cases h : inB n lo hi
    · have : ¬ (lo ≤ n ∧ n ≤ hi) := fun h' => by rw [inB_true.2 h'] at h; cases h
      simp only [Bool.not_false]
      symm
      rw [Bool.or_eq_true, decide_eq_true_eq, decide_eq_true_eq]
      omega
    · have := inB_true.1 h
      simp only [Bool.not_true]
      symm
      rw [Bool.or_eq_false_iff, decide_eq_false_iff_not, decide_eq_false_iff_not]
      omega
  go_enter Try.func84, Try.ntmps84
  by_cases h1 : n < lo
  · go_wp2
    go_ret
    exact ⟨ret_bool (by rw [HB.out]; simp [h1]), rfl⟩
  · by_cases h2 : hi < n
    · go_wp2
      go_ret
      exact ⟨ret_bool (by rw [HB.out]; simp [h2]), rfl⟩
    · go_wp2
      go_ret
      exact ⟨ret_bool (by rw [HB.out]; simp [h1, h2]), rfl⟩

section
variable {pT pF pS : Option Addr} {cT cF cS : Nat}
set_option maxRecDepth 100000 in
theorem refFirst_c (s : Sd) (w : World) (hl : Lists w s pT pF pS cT cF cS) (h2 : 2 ≤ s.table.length) : Calls Try.prog 85 #[sdVal s pT pF pS cT cF cS] w fun e w' => e = .returned (.int .i64 (firstM s.table)) ∧ Up w w' := by
  obtain ⟨b, off, rfl, c0, -⟩ := hl.rt.pair 0 (by omega)
  have hb2 := cell_lt c0
  simp only [Nat.zero_mul, Nat.add_zero] at c0
  have E := Lib.hid (show firstM s.table = (s.table[0]'(by omega)).1 by simp [firstM, List.getElem?_eq_getElem (show 0 < s.table.length by omega)])
  have k : (0 : Int) < s.table.length := by omega
  clear hl
  unfold sdVal
  go_enter Try.func85, Try.ntmps85
  go_wp2
  go_ret
  exact ⟨ret_int E.out.symm, by (repeat (first | exact Below.refl _ _ | (with_reducible refine Below.drewN' ?_ _) | (with_reducible refine Below.drew ?_) | (with_reducible refine Below.setCell ?_ (by first | exact Nat.le_refl _ | omega | (with_reducible (repeat (first | refine sz_alloc ?_ | refine sz_setCell ?_ | refine sz_drew ?_ | refine sz_drewN ?_)); first | exact Nat.le_refl _ | omega) | (simp only [World.size_alloc, World.size_setCell, World.size_drew, size_drewN']; omega)) _) | (with_reducible refine Below.alloc ?_ (by first | exact Nat.le_refl _ | omega | (with_reducible (repeat (first | refine sz_alloc ?_ | refine sz_setCell ?_ | refine sz_drew ?_ | refine sz_drewN ?_)); first | exact Nat.le_refl _ | omega) | (simp only [World.size_alloc, World.size_setCell, World.size_drew, size_drewN']; omega)) _) | assumption))⟩

set_option maxRecDepth 100000 in
theorem refLast_c (s : Sd) (w : World) (hl : Lists w s pT pF pS cT cF cS) (h2 : 2 ≤ s.table.length) (h12 : s.table.length ≤ 12) : Calls Try.prog 86 #[sdVal s pT pF pS cT cF cS] w fun e w' => e = .returned (.int .i64 (lastM s.table)) ∧ Up w w' := by
  obtain ⟨b, off, rfl, c0, -⟩ := hl.rt.pair (s.table.length - 1) (by omega)
  have hb2 := cell_lt c0
  have E := Lib.hid (show lastM s.table = (s.table[s.table.length - 1]'(by omega)).1 by simp [lastM, List.getElem?_eq_getElem (show s.table.length - 1 < s.table.length by omega)])
  have k : (0 : Int) < s.table.length := by omega
  have k1 : ((s.table.length : Int) - 1) < s.table.length := by omega
  have k2 : (0 : Int) ≤ ((s.table.length : Int) - 1) := by omega
  have k3 : ((s.table.length : Int) - 1).toNat = s.table.length - 1 := by omega
  have s1 : IntKind.i64.wrap ((s.table.length : Int) - 1) = (s.table.length : Int) - 1 := IntWalk.i64_in _ (by omega)
  clear hl
  unfold sdVal
  go_enter Try.func86, Try.ntmps86
  go_wp2
  go_ret
  exact ⟨ret_int E.out.symm, by (repeat (first | exact Below.refl _ _ | (with_reducible refine Below.drewN' ?_ _) | (with_reducible refine Below.drew ?_) | (with_reducible refine Below.setCell ?_ (by first | exact Nat.le_refl _ | omega | (with_reducible (repeat (first | refine sz_alloc ?_ | refine sz_setCell ?_ | refine sz_drew ?_ | refine sz_drewN ?_)); first | exact Nat.le_refl _ | omega) | (simp only [World.size_alloc, World.size_setCell, World.size_drew, size_drewN']; omega)) _) | (with_reducible refine Below.alloc ?_ (by first | exact Nat.le_refl _ | omega | (with_reducible (repeat (first | refine sz_alloc ?_ | refine sz_setCell ?_ | refine sz_drew ?_ | refine sz_drewN ?_)); first | exact Nat.le_refl _ | omega) | (simp only [World.size_alloc, World.size_setCell, World.size_drew, size_drewN']; omega)) _) | assumption))⟩

set_option maxRecDepth 100000 in
set_option maxHeartbeats 1000000 in
theorem refMinute_c (s : Sd) (m : Int) (w : World) (hl : Lists w s pT pF pS cT cF cS) (h2 : 2 ≤ s.table.length) (h12 : s.table.length ≤ 12) : Calls Try.prog 23 #[sdVal s pT pF pS cT cF cS, .int .i64 m] w fun e w' => e = .returned (.int .i64 (bif inDay s m then 0 else 3)) ∧ Up w w' := by
  have HF := Lib.hid (fun W (u : Up w W) => refFirst_c s W (hl.up u) h2)
  have HG := Lib.hid (fun W (u : Up w W) => refLast_c s W (hl.up u) h2 h12)
  clear hl
  unfold sdVal at *
  go_enter Try.func23, Try.ntmps23
  go_wp2
  refine Code.wp_world ?_
  intro w0 hw0
  have u0 : Up w w0 := by rw [hw0]; (repeat (first | exact Below.refl _ _ | (with_reducible refine Below.drewN' ?_ _) | (with_reducible refine Below.drew ?_) | (with_reducible refine Below.setCell ?_ (by first | exact Nat.le_refl _ | omega | (with_reducible (repeat (first | refine sz_alloc ?_ | refine sz_setCell ?_ | refine sz_drew ?_ | refine sz_drewN ?_)); first | exact Nat.le_refl _ | omega) | (simp only [World.size_alloc, World.size_setCell, World.size_drew, size_drewN']; omega)) _) | (with_reducible refine Below.alloc ?_ (by first | exact Nat.le_refl _ | omega | (with_reducible (repeat (first | refine sz_alloc ?_ | refine sz_setCell ?_ | refine sz_drew ?_ | refine sz_drewN ?_)); first | exact Nat.le_refl _ | omega) | (simp only [World.size_alloc, World.size_setCell, World.size_drew, size_drewN']; omega)) _) | assumption))
  have hB : Blk w0 w.heap.size (sdCells s pT pF pS cT cF cS) 37 := by rw [hw0]; exact Blk.new w _ _
  clear hw0
  have c0 := hB.cell 0
  have c1 := hB.cell 1
  have c2 := hB.cell 2
  have c3 := hB.cell 3
  have c4 := hB.cell 4
  simp only [sdCells, List.getElem?_cons_zero, List.getElem?_cons_succ] at c0 c1 c2 c3 c4
  refine region_tail (fun W' => W'.cell? ⟨w.heap.size, 0, none⟩ = some (.slice pT s.table.length cT) ∧ W'.cell? ⟨w.heap.size, 1, none⟩ = some (.int .i64 s.lo) ∧ W'.cell? ⟨w.heap.size, 2, none⟩ = some (.int .i64 s.hi) ∧ W'.cell? ⟨w.heap.size, 3, none⟩ = some (.slice pF s.floors.length cF) ∧ W'.cell? ⟨w.heap.size, 4, none⟩ = some (.slice pS s.sills.length cS) ∧ Up w0 W') 6 mixed (by kernel_rfl) ⟨c0, c1, c2, c3, c4, (Below.refl _ _).drew⟩ (fun hHeld => ?_)
  refine wpAnyG_take 0 5 (v := ?_) rfl rfl (by kernel_rfl) (fun _ _ _ h => h) (Or.inl ⟨by rfl, ?_⟩) (by assumption) ?_
  rotate_left
  · (intro w' hSw; (try dsimp only at hSw); go_split_ands; go_simp; try with_reducible rfl)
  try simp only [List.setIfInBounds_toArray, List.set_cons_zero, List.set_cons_succ]
  refine wpAnyG_take 1 6 (v := ?_) rfl rfl (by kernel_rfl) (fun _ _ _ h => h) (Or.inl ⟨by rfl, ?_⟩) (by assumption) ?_
  rotate_left
  · (intro w' hSw; (try dsimp only at hSw); go_split_ands; go_simp; try with_reducible rfl)
  try simp only [List.setIfInBounds_toArray, List.set_cons_zero, List.set_cons_succ]
  refine wpAnyG_take 3 8 (v := ?_) rfl rfl (by kernel_rfl) (fun _ _ _ h => h) (Or.inl ⟨by rfl, ?_⟩) (by assumption) ?_
  rotate_left
  · (intro w' hSw; (try dsimp only at hSw); go_split_ands; go_simp; try with_reducible rfl)
  try simp only [List.setIfInBounds_toArray, List.set_cons_zero, List.set_cons_succ]
  refine wpAnyG_do 2 rfl (by kernel_rfl) (fun K hK => ?_)
  rw [if_pos (by rfl)]
  go_simp
  refine (HF.out _ (Up.trans u0 ((Below.refl _ _).drew))).mono ?_
  rintro e w1 ⟨rfl, v1⟩
  have v1' : Up w0 w1 := Up.trans ((Below.refl _ _).drew) v1
  refine hK.out _ _ ⟨v1'.cellAt c0, v1'.cellAt c1, v1'.cellAt c2, v1'.cellAt c3, v1'.cellAt c4, v1'⟩ (fun hHeld => ?_)
  clear hK K
  refine wpAnyG_do 4 rfl (by kernel_rfl) (fun K hK => ?_)
  rw [if_pos (by rfl)]
  go_simp
  refine (HG.out _ (Up.trans u0 v1')).mono ?_
  rintro e w2 ⟨rfl, v2⟩
  have v2' : Up w0 w2 := Up.trans v1' v2
  refine hK.out _ _ ⟨v2'.cellAt c0, v2'.cellAt c1, v2'.cellAt c2, v2'.cellAt c3, v2'.cellAt c4, v2'⟩ (fun hHeld => ?_)
  clear hK K
  refine wpAnyG_do 5 rfl (by kernel_rfl) (fun K hK => ?_)
  rw [if_pos (by rfl)]
  go_simp
  refine (off_c _ _ _ _).mono ?_
  rintro e w3 ⟨rfl, rfl⟩
  refine hK.out _ _ ⟨v2'.cellAt c0, v2'.cellAt c1, v2'.cellAt c2, v2'.cellAt c3, v2'.cellAt c4, v2'⟩ (fun hHeld => ?_)
  clear hK K
  have HU := Lib.hid (Up.trans u0 v2')
  refine wpAnyG_tail (by kernel_rfl) ?_
  change wpList _ _ _ [] _ _
  have hd : inB m (firstM s.table) (lastM s.table) = inDay s m := rfl
  rw [hd]
  clear hd
  cases hv : inDay s m
  all_goals
    have HD := Lib.hid hv
    clear hv
    go_wp2
    go_ret
    exact ⟨by rw [HD.out]; rfl, HU.out⟩
end
end Go.Proofs.Ytifcmbeejichdaa
/- The reference's least crests: what its functions over, least, Gate and Gates return. -/
namespace Go.Proofs.Ytifcmbeejichdaa
open Go.RowKit Go.Shelf

section
variable {pT pF pS : Option Addr} {cT cF cS : Nat}
set_option maxHeartbeats 400000 in
theorem has_c (l : List Int) (p : Option Addr) (c : Nat) (n : Int) (w : World) (hr : Row w p 1 (ints l)) (hm : l.length ≤ maxLen) :
    Calls Try.prog 99 #[.slice p l.length c, .int .i64 n] w fun e w' => e = .returned (.bool (decide (n ∈ l))) ∧ w = w' := by
  unfold maxLen at hm
  go_enter Try.func99, Try.ntmps99
  go_wp2
  go_loop [5] (fun i => ∃ k : Nat, k ≤ l.length ∧ i = .int .i64 k ∧ n ∉ l.take k) (fun i => l.length - (intOf i).toNat)
  case atStart => exact ⟨0, Nat.zero_le _, rfl, by simp⟩
  case round =>
    obtain ⟨k, hk, rfl, hn⟩ := hrel
    have HN := Lib.hid hn
    clear hn
    by_cases hlt : k < l.length
    · obtain ⟨b, off, rfl, hc0⟩ := hr.int k hlt
      have k1 : (k : Int) < l.length := by omega
      by_cases he : l[k] = n
      · have HE := Lib.hid he
        have he' : (l[k] == n) = true := by simpa using he
        clear he
        go_wp2
        go_ret
        exact ⟨ret_bool (decide_eq_true (by rw [← HE.out]; exact List.getElem_mem _)).symm, rfl⟩
      · have HE := Lib.hid he
        have he' : (l[k] == n) = false := by simpa using he
        clear he
        go_wp2
        go_round
        case rel =>
          refine ⟨k + 1, hlt, by go_num, ?_⟩
          rw [List.take_succ_eq_append_getElem hlt, List.mem_append, List.mem_singleton]
          rintro (h | h)
          · exact HN.out h
          · exact HE.out h.symm
        case measure => simp [intOf]; omega
    · obtain rfl : k = l.length := by omega
      have h := HN.out
      rw [List.take_length] at h
      have HH := Lib.hid h
      clear h
      go_wp2
      go_ret
      exact ⟨ret_bool (decide_eq_false HH.out).symm, rfl⟩

set_option maxRecDepth 100000 in
set_option maxHeartbeats 1000000 in
theorem over_c (s : Sd) (G : List Int) (g : Nat) (n c : Nat) (a b h : Int) (w : World) (hn : G.length = n) (hl : Lists w s pT pF pS cT cF cS) (hr : Row w (some ⟨g, 0, none⟩) 1 (ints G)) (ha : a = -1 ∨ 0 ≤ a ∧ a < n) (hb : 0 ≤ b ∧ b < s.floors.length) (_hf : s.floors.length ≤ 1000) (hn9 : n ≤ 1000) :
    Calls Try.prog 147 #[sdVal s pT pF pS cT cF cS, .slice (some ⟨g, 0, none⟩) n c, .int .i64 a, .int .i64 b, .int .i64 h] w fun e w' => e = .returned (.int .i64 (ovr s G a b h)) ∧ Up w w' := by
  subst hn
  obtain ⟨bn, rfl⟩ := Int.eq_ofNat_of_zero_le hb.1
  obtain ⟨gF, oF, rfl, e1⟩ := hl.rf.int bn (by omega)
  have e1' := (show Up w (w.alloc (.cells (sdCells s pT (some ⟨gF, oF, none⟩) pS cT cF cS).toArray 37)) by (repeat (first | exact Below.refl _ _ | (with_reducible refine Below.drewN' ?_ _) | (with_reducible refine Below.drew ?_) | (with_reducible refine Below.setCell ?_ (by first | exact Nat.le_refl _ | omega | (with_reducible (repeat (first | refine sz_alloc ?_ | refine sz_setCell ?_ | refine sz_drew ?_ | refine sz_drewN ?_)); first | exact Nat.le_refl _ | omega) | (simp only [World.size_alloc, World.size_setCell, World.size_drew, size_drewN']; omega)) _) | (with_reducible refine Below.alloc ?_ (by first | exact Nat.le_refl _ | omega | (with_reducible (repeat (first | refine sz_alloc ?_ | refine sz_setCell ?_ | refine sz_drew ?_ | refine sz_drewN ?_)); first | exact Nat.le_refl _ | omega) | (simp only [World.size_alloc, World.size_setCell, World.size_drew, size_drewN']; omega)) _) | assumption))).cellAt e1
  have lF := cell_lt e1
  have hb1 : (bn : Int) < s.floors.length := by omega
  have HF := Lib.hid (show s.floors[((bn : Int)).toNat]?.getD 0 = s.floors[bn]'(by omega) by rw [Int.toNat_natCast, List.getElem?_eq_getElem (by omega)]; rfl)
  have HU : Hid (Up w (w.alloc (.cells (sdCells s pT (some ⟨gF, oF, none⟩) pS cT cF cS).toArray 37))) := Lib.hid (by (repeat (first | exact Below.refl _ _ | (with_reducible refine Below.drewN' ?_ _) | (with_reducible refine Below.drew ?_) | (with_reducible refine Below.setCell ?_ (by first | exact Nat.le_refl _ | omega | (with_reducible (repeat (first | refine sz_alloc ?_ | refine sz_setCell ?_ | refine sz_drew ?_ | refine sz_drewN ?_)); first | exact Nat.le_refl _ | omega) | (simp only [World.size_alloc, World.size_setCell, World.size_drew, size_drewN']; omega)) _) | (with_reducible refine Below.alloc ?_ (by first | exact Nat.le_refl _ | omega | (with_reducible (repeat (first | refine sz_alloc ?_ | refine sz_setCell ?_ | refine sz_drew ?_ | refine sz_drewN ?_)); first | exact Nat.le_refl _ | omega) | (simp only [World.size_alloc, World.size_setCell, World.size_drew, size_drewN']; omega)) _) | assumption)))
  clear hl e1
  unfold sdCells at *
  unfold sdVal
  rcases ha with rfl | ⟨a0, a1⟩
  · have HO := Lib.hid (show ovr s G (-1) bn h = max (max 0 h) (s.floors[bn]'(by omega)) by unfold ovr; rw [if_neg (by decide), HF.out])
    generalize s.floors[bn] = fl at *
    by_cases h1 : 0 < h
    · by_cases h2 : h < fl
      · have HV := Lib.hid (show ovr s G (-1) bn h = fl by rw [HO.out]; omega)
        clear HO
        go_enter Try.func147, Try.ntmps147
        go_wp2
        go_ret
        exact ⟨by rw [HV.out]; rfl, HU.out⟩
      · have HV := Lib.hid (show ovr s G (-1) bn h = h by rw [HO.out]; omega)
        clear HO
        go_enter Try.func147, Try.ntmps147
        go_wp2
        go_ret
        exact ⟨by rw [HV.out]; rfl, HU.out⟩
    · by_cases h2 : 0 < fl
      · have HV := Lib.hid (show ovr s G (-1) bn h = fl by rw [HO.out]; omega)
        clear HO
        go_enter Try.func147, Try.ntmps147
        go_wp2
        go_ret
        exact ⟨by rw [HV.out]; rfl, HU.out⟩
      · have HV := Lib.hid (show ovr s G (-1) bn h = 0 by rw [HO.out]; omega)
        clear HO
        go_enter Try.func147, Try.ntmps147
        go_wp2
        go_ret
        exact ⟨by rw [HV.out]; rfl, HU.out⟩
  · obtain ⟨an, rfl⟩ := Int.eq_ofNat_of_zero_le a0
    have ha1 : an < G.length := by omega
    obtain ⟨g', o', hg, e2⟩ := hr.int an ha1
    simp only [Option.some.injEq, Addr.mk.injEq, and_true] at hg
    obtain ⟨rfl, rfl⟩ := hg
    rw [Nat.zero_add] at e2
    have lG := cell_lt e2
    have e2' := HU.out.cellAt e2
    have HO := Lib.hid (show ovr s G an bn h = max (max G[an] h) (s.floors[bn]'(by omega)) by unfold ovr; rw [if_pos (by omega), HF.out, Int.toNat_natCast, List.getElem?_eq_getElem ha1]; rfl)
    clear e2 hr
    generalize s.floors[bn] = fl at *
    generalize G[an] = cr at *
    by_cases h1 : cr < h
    · by_cases h2 : h < fl
      · have HV := Lib.hid (show ovr s G an bn h = fl by rw [HO.out]; omega)
        clear HO
        go_enter Try.func147, Try.ntmps147
        go_wp2
        go_ret
        exact ⟨by rw [HV.out]; rfl, HU.out⟩
      · have HV := Lib.hid (show ovr s G an bn h = h by rw [HO.out]; omega)
        clear HO
        go_enter Try.func147, Try.ntmps147
        go_wp2
        go_ret
        exact ⟨by rw [HV.out]; rfl, HU.out⟩
    · by_cases h2 : cr < fl
      · have HV := Lib.hid (show ovr s G an bn h = fl by rw [HO.out]; omega)
        clear HO
        go_enter Try.func147, Try.ntmps147
        go_wp2
        go_ret
        exact ⟨by rw [HV.out]; rfl, HU.out⟩
      · have HV := Lib.hid (show ovr s G an bn h = cr by rw [HO.out]; omega)
        clear HO
        go_enter Try.func147, Try.ntmps147
        go_wp2
        go_ret
        exact ⟨by rw [HV.out]; rfl, HU.out⟩

set_option maxRecDepth 100000 in
set_option maxHeartbeats 1000000 in
theorem refPlace_c (s : Sd) (x : Int) (w : World) (hl : Lists w s pT pF pS cT cF cS) :
    Calls Try.prog 28 #[sdVal s pT pF pS cT cF cS, .int .i64 x] w fun e w' => e = .returned (.int .i64 (bif isPl s x then 0 else 1)) ∧ Up w w' := by
  have m1 : (s.floors.length : Int) ≤ 9223372036854775807 := by have := Nat.le_trans hl.cf hl.mf; simp only [maxLen] at this; omega
  have s1 : IntKind.i64.wrap ((s.floors.length : Int) - 1) = (s.floors.length : Int) - 1 := IntWalk.i64_in _ (by omega)
  clear hl
  unfold sdVal
  go_enter Try.func28, Try.ntmps28
  go_wp2_with fail
  refine (off_c _ _ _ _).mono ?_
  rintro e w3 ⟨rfl, rfl⟩
  have hd : inB x 0 (s.floors.length - 1) = isPl s x := rfl
  rw [hd]
  clear hd
  cases hv : isPl s x
  all_goals
    have HD := Lib.hid hv
    clear hv
    go_wp2
    go_ret
    exact ⟨by rw [HD.out]; rfl, by (repeat (first | exact Below.refl _ _ | (with_reducible refine Below.drewN' ?_ _) | (with_reducible refine Below.drew ?_) | (with_reducible refine Below.setCell ?_ (by first | exact Nat.le_refl _ | omega | (with_reducible (repeat (first | refine sz_alloc ?_ | refine sz_setCell ?_ | refine sz_drew ?_ | refine sz_drewN ?_)); first | exact Nat.le_refl _ | omega) | (simp only [World.size_alloc, World.size_setCell, World.size_drew, size_drewN']; omega)) _) | (with_reducible refine Below.alloc ?_ (by first | exact Nat.le_refl _ | omega | (with_reducible (repeat (first | refine sz_alloc ?_ | refine sz_setCell ?_ | refine sz_drew ?_ | refine sz_drewN ?_)); first | exact Nat.le_refl _ | omega) | (simp only [World.size_alloc, World.size_setCell, World.size_drew, size_drewN']; omega)) _) | assumption))⟩

/-- a block of numbers that is stored into -/
abbrev IntBlk (w : World) (g : Nat) (l : List Int) : Prop := RowBlk w g 3 1 (ints l)
theorem IntBlk.at {w : World} {g : Nat} {l : List Int} (h : IntBlk w g l) (i : Nat) (hi : i < l.length) : w.cell? ⟨g, i, none⟩ = some (.int .i64 l[i]) := by
  have := RowBlk.cell h (i := i) (j := 0) (row := [.int .i64 l[i]]) (x := .int .i64 l[i]) (by simp [ints, hi]) rfl
  simpa using this
theorem IntBlk.put {w : World} {g : Nat} {l : List Int} (h : IntBlk w g l) (i : Nat) (hi : i < l.length) (v : Int) : IntBlk (w.setCell ⟨g, i, none⟩ (.int .i64 v)) g (l.set i v) := by
  have := RowBlk.set h (i := i) (j := 0) (by simp [ints, hi]) (by decide) (.int .i64 v)
  rw [ints_set l i hi v, Nat.mul_one, Nat.add_zero] at this
  exact this
theorem relB_ends {s : Sd} {ss ps : List Int} {i : Nat} {g : List Int} {a b h : Int} (hc : ¬ (0 ≤ b ∧ (i : Int) ∉ ss ∧ b ∉ ps)) : relB s ss ps i g a b h = g := by unfold relB; rw [if_neg hc]

set_option maxRecDepth 100000 in
set_option maxHeartbeats 4000000 in
theorem refLeast_c (s : Sd) (tp : Nat) (ss ps : List Int) (qS qP : Option Addr) (dS dP : Nat) (w : World) (ok : Ok s) (hl : Lists w s pT pF pS cT cF cS) (hs : Row w qS 1 (ints ss)) (hp : Row w qP 1 (ints ps)) (ls : ss.length ≤ maxLen) (lp : ps.length ≤ maxLen) (ht : tp < s.floors.length) :
    Calls Try.prog 92 #[sdVal s pT pF pS cT cF cS, .int .i64 tp, .slice qS ss.length dS, .slice qP ps.length dP] w fun e w' => e = .returned (.int .i64 ((lowR s ss ps)[tp]?.getD 0)) ∧ Up w w' := by
  have f8 := ok.fl1
  have s16 := ok.sl
  obtain ⟨i0, hi, hz0, hz1, hz2⟩ := info_parts info3
  have HH := Lib.hid (fun (l : List Int) (p : Option Addr) (c : Nat) (n : Int) (W : World) (hr : Row W p 1 (ints l)) (hm : l.length ≤ maxLen) => has_c l p c n W hr hm)
  have HL := Lib.hid hl
  have HS := Lib.hid hs
  have HP := Lib.hid hp
  have OK := Lib.hid ok
  clear hl hs hp ok
  unfold sdVal
  go_enter Try.func92, Try.ntmps92
  go_wp2_with fail
  have BS : Hid (Blk (w.alloc (.cells #[.slice pT s.table.length cT, .int .i64 s.lo, .int .i64 s.hi, .slice pF s.floors.length cF, .slice pS s.sills.length cS] 37)) w.heap.size (sdCells s pT pF pS cT cF cS) 37) := Lib.hid (Blk.new w (sdCells s pT pF pS cT cF cS) 37)
  have U0 : Hid (Up w (w.alloc (.cells #[.slice pT s.table.length cT, .int .i64 s.lo, .int .i64 s.hi, .slice pF s.floors.length cF, .slice pS s.sills.length cS] 37))) := Lib.hid (by (repeat (first | exact Below.refl _ _ | (with_reducible refine Below.drewN' ?_ _) | (with_reducible refine Below.drew ?_) | (with_reducible refine Below.setCell ?_ (by first | exact Nat.le_refl _ | omega | (with_reducible (repeat (first | refine sz_alloc ?_ | refine sz_setCell ?_ | refine sz_drew ?_ | refine sz_drewN ?_)); first | exact Nat.le_refl _ | omega) | (simp only [World.size_alloc, World.size_setCell, World.size_drew, size_drewN']; omega)) _) | (with_reducible refine Below.alloc ?_ (by first | exact Nat.le_refl _ | omega | (with_reducible (repeat (first | refine sz_alloc ?_ | refine sz_setCell ?_ | refine sz_drew ?_ | refine sz_drewN ?_)); first | exact Nat.le_refl _ | omega) | (simp only [World.size_alloc, World.size_setCell, World.size_drew, size_drewN']; omega)) _) | assumption)))
  generalize (w.alloc (.cells #[.slice pT s.table.length cT, .int .i64 s.lo, .int .i64 s.hi, .slice pF s.floors.length cF, .slice pS s.sills.length cS] 37)) = w0 at *
  have hbs : w.heap.size < w0.heap.size := BS.out.lt
  go_loopw [10, 9] (fun i v wr => ∃ k : Nat, k ≤ s.floors.length ∧ i = .int .i64 k ∧ wr.ownsRow w0.heap.size 3 1 v k (ints (List.replicate k 5000)).flatten ∧ Up w0 wr) (fun i _ _ => s.floors.length - (intOf i).toNat)
  case atStart => exact ⟨0, by omega, rfl, World.ownsRow_nil _ _ _ _, Below.refl _ _⟩
  case round =>
    obtain ⟨k, hk, rfl, hown, hu⟩ := hrel
    have HO := Lib.hid hown
    have HU := Lib.hid hu
    have hsz := hu.size
    obtain ⟨c0, c1, c2, c3, c4⟩ := five (BS.out.up hu)
    clear hown hu
    by_cases hlt : k < s.floors.length
    · have k1 : (k : Int) < s.floors.length := by omega
      go_wp2_with (at_builtin; refine wpList_append_own _ rfl _ _ 25 rfl w0.heap.size 3 i0 (.int .i64 0) 1 8 Try.underlying25 hi hz0 hz1 hz2 rfl (by decide) _ _ _ rfl (HO.out.alloc _) ⟨wr.heap.size, 0, none⟩ 1 1 [.int .i64 5000] rfl rfl (newsAt _ rfl [.int .i64 5000] _) (by simp [Value.oneCell']) (by simp [maxLen]; omega) (by omega) (sz_alloc hsz) ?_; intro v' w8 hown8 hgr8 hnn; clear hnn)
      have U8 := Lib.hid ((HU.out.alloc hsz _).grown hgr8 (sz_alloc hsz) (fun j e => (HO.out.lt j e).1))
      have O8 := Lib.hid hown8
      clear hown8 hgr8
      go_roundw
      case rel =>
        try ((repeat apply Exists.intro); refine ⟨?_, rfl⟩)
        refine ⟨k + 1, by omega, by go_num, ?_, U8.out⟩
        have e : (ints (List.replicate (k + 1) 5000)).flatten = (ints (List.replicate k 5000)).flatten ++ [.int .i64 5000] := by
          rw [List.replicate_succ']
          unfold ints
          rw [List.map_append, List.flatten_append]
          rfl
        rw [e]
        exact O8.out
      case measure => simp [intOf]; omega
    · obtain rfl : k = s.floors.length := by omega
      obtain ⟨q, d, rfl, a1, a2, hR, hge⟩ := Row.of_own (rows := ints (List.replicate s.floors.length 5000)) (flatOk_ints _) HO.out (by simp [ints])
      have hlen : (ints (List.replicate s.floors.length 5000)).length = s.floors.length := by simp [ints]
      obtain ⟨g, hg, hg0, rb⟩ := RowBlk.of (rows := ints (List.replicate s.floors.length 5000)) (p := q) (c := d) (by rw [hlen]; exact HO.out) (ints_len _) (by rw [hlen]; have := OK.out.fl0; omega)
      subst hg
      have RB := Lib.hid rb
      clear rb hR hge HO hi hz0 hz1 hz2 hlen hlt
      generalize wr = w1 at *
      have U1 := Lib.hid (Up.trans U0.out HU.out)
      have ok := OK.out
      go_wp2_with fail
      go_loopw [11] (fun r wr => ∃ k : Nat, k ≤ s.floors.length ∧ r = .int .i64 k ∧ IntBlk wr g (rounds s ss ps k) ∧ Up w0 wr) (fun r _ => s.floors.length - (intOf r).toNat)
      case atStart => exact ⟨0, by omega, rfl, RB.out, HU.out⟩
      case round =>
        obtain ⟨k, hk, rfl, hb, hu⟩ := hrel
        have HB := Lib.hid hb
        have HU2 := Lib.hid hu
        obtain ⟨c0, c1, c2, c3, c4⟩ := five (BS.out.up hu)
        clear hb hu
        by_cases hlt : k < s.floors.length
        · have k1 : (k : Int) < s.floors.length := by omega
          have HRK := Lib.hid (show rounds s ss ps (k + 1) = rpass s ss ps (rounds s ss ps k) s.sills.length from rfl)
          have hgl := rounds_len (s := s) (ss := ss) (ps := ps) k
          generalize rounds s ss ps k = G0 at *
          go_wp2_with fail
          go_loopw [12] (fun r wx => ∃ i : Nat, i ≤ s.sills.length ∧ r = .int .i64 i ∧ IntBlk wx g (rpass s ss ps G0 i) ∧ Up w0 wx) (fun r _ => s.sills.length - (intOf r).toNat)
          case atStart => exact ⟨0, by omega, rfl, HB.out, HU2.out⟩
          case round =>
            obtain ⟨i, hi, rfl, hb, hu⟩ := hrel
            have HB2 := Lib.hid hb
            have HU3 := Lib.hid hu
            clear hb hu c0 c1 c2 c3 c4
            obtain ⟨c0, c1, c2, c3, c4⟩ := five (BS.out.up HU3.out)
            by_cases hli : i < s.sills.length
            · have i1 : (i : Int) < s.sills.length := by omega
              obtain ⟨bs, os, rfl, d0, d1, d2⟩ := HL.out.rs.triple i hli
              have UW := Lib.hid (Up.trans U0.out HU3.out)
              have d0' := UW.out.cellAt d0
              have d1' := UW.out.cellAt d1
              have d2' := UW.out.cellAt d2
              obtain ⟨x1, x2, x3⟩ := EndOk.of ok (List.getElem_mem hli)
              have HRP := Lib.hid (show rpass s ss ps G0 (i + 1) = relB s ss ps i (relB s ss ps i (rpass s ss ps G0 i) s.sills[i].1 s.sills[i].2.1 s.sills[i].2.2) s.sills[i].2.1 s.sills[i].1 s.sills[i].2.2 by
                show rsill s ss ps (rpass s ss ps G0 i) i (s.sills[i]?.getD (0, 0, 0)) = _
                rw [List.getElem?_eq_getElem hli, Option.getD_some]
                rfl)
              have hpl : (rpass s ss ps G0 i).length = s.floors.length := by rw [rpass_len, hgl]
              generalize rpass s ss ps G0 i = G at *
              generalize s.sills[i] = x at *
              obtain ⟨a, b, h⟩ := x
              dsimp only at d0' d1' d2' x1 x2 x3 HRP
              clear d0 d1 d2
              go_upto_region 13 with fail
              have BX : Hid (Blk (wr.alloc (.cells #[.int .i64 a, .int .i64 b, .int .i64 h] 131)) wr.heap.size [.int .i64 a, .int .i64 b, .int .i64 h] 131) := Lib.hid (Blk.new wr [.int .i64 a, .int .i64 b, .int .i64 h] 131)
              have VA : Hid (Up wr (wr.alloc (.cells #[.int .i64 a, .int .i64 b, .int .i64 h] 131))) := Lib.hid (by (repeat (first | exact Below.refl _ _ | (with_reducible refine Below.drewN' ?_ _) | (with_reducible refine Below.drew ?_) | (with_reducible refine Below.setCell ?_ (by first | exact Nat.le_refl _ | omega | (with_reducible (repeat (first | refine sz_alloc ?_ | refine sz_setCell ?_ | refine sz_drew ?_ | refine sz_drewN ?_)); first | exact Nat.le_refl _ | omega) | (simp only [World.size_alloc, World.size_setCell, World.size_drew, size_drewN']; omega)) _) | (with_reducible refine Below.alloc ?_ (by first | exact Nat.le_refl _ | omega | (with_reducible (repeat (first | refine sz_alloc ?_ | refine sz_setCell ?_ | refine sz_drew ?_ | refine sz_drewN ?_)); first | exact Nat.le_refl _ | omega) | (simp only [World.size_alloc, World.size_setCell, World.size_drew, size_drewN']; omega)) _) | assumption)))
              have UA := Lib.hid (Up.trans HU3.out VA.out)
              have IA := Lib.hid (HB2.out.up VA.out)
              have gne : g ≠ wr.heap.size := by have := HB2.out.lt; omega
              clear HB2 HU3 VA UW d0' d1' d2' c0 c1 c2 c3 c4
              generalize (wr.alloc (.cells #[.int .i64 a, .int .i64 b, .int .i64 h] 131)) = wa at *
              generalize wr.heap.size = X at *
              have ha3 : a = -1 ∨ 0 ≤ a ∧ a < s.floors.length := x1
              have hb3 : b = -1 ∨ 0 ≤ b ∧ b < s.floors.length := x2

              have RS := Lib.hid (HS.out.up (Up.trans U0.out UA.out))
              have RP := Lib.hid (HP.out.up (Up.trans U0.out UA.out))
              have y0 := BX.out.cell 0
              have y1 := BX.out.cell 1
              have y2 := BX.out.cell 2
              have ly := BX.out.lt
              simp only [List.getElem?_cons_zero, List.getElem?_cons_succ] at y0 y1 y2
              go_cut [58] (fun c wx => c = .bool (decide (0 ≤ b ∧ (i : Int) ∉ ss ∧ b ∉ ps)) ∧ wa = wx)
              case first =>
                by_cases hb0 : 0 ≤ b
                · have hb5 : decide (0 ≤ b) = true := decide_eq_true hb0
                  go_wp2_with fail
                  refine (HH.out ss qS dS i wa RS.out ls).mono ?_
                  rintro e w' ⟨he, rfl⟩
                  by_cases h1 : (i : Int) ∈ ss
                  · rw [decide_eq_true h1] at he
                    subst he
                    have HV := Lib.hid (show decide (0 ≤ b ∧ (i : Int) ∉ ss ∧ b ∉ ps) = false from decide_eq_false (fun k => k.2.1 h1))
                    clear h1
                    go_wp2_with fail
                    go_meet
                    exact ⟨by rw [HV.out], rfl⟩
                  · rw [decide_eq_false h1] at he
                    subst he
                    have H1 := Lib.hid h1
                    clear h1
                    go_wp2_with fail
                    refine (HH.out ps qP dP b wa RP.out lp).mono ?_
                    rintro e w' ⟨he, rfl⟩
                    by_cases h2 : b ∈ ps
                    · rw [decide_eq_true h2] at he
                      subst he
                      have HV := Lib.hid (show decide (0 ≤ b ∧ (i : Int) ∉ ss ∧ b ∉ ps) = false from decide_eq_false (fun k => k.2.2 h2))
                      clear h2
                      go_wp2_with fail
                      go_meet
                      exact ⟨by rw [HV.out], rfl⟩
                    · rw [decide_eq_false h2] at he
                      subst he
                      have HV := Lib.hid (show decide (0 ≤ b ∧ (i : Int) ∉ ss ∧ b ∉ ps) = true from decide_eq_true ⟨hb0, H1.out, h2⟩)
                      clear h2
                      go_wp2_with fail
                      go_meet
                      exact ⟨by rw [HV.out], rfl⟩
                · have HV := Lib.hid (show decide (0 ≤ b ∧ (i : Int) ∉ ss ∧ b ∉ ps) = false from decide_eq_false (fun k => hb0 k.1))
                  have hb0' : b < 0 := by omega
                  have hb5 : decide (0 ≤ b) = false := decide_eq_false hb0
                  clear hb0
                  go_wp2_with fail
                  go_meet
                  exact ⟨by rw [HV.out], rfl⟩
              case rest =>
                obtain ⟨rfl, rfl⟩ := hcut
                go_upto_if 58 with fail
                go_cut [] (fun wx => IntBlk wx g (relB s ss ps i G a b h) ∧ Blk wx X [.int .i64 a, .int .i64 b, .int .i64 h] 131 ∧ Up w0 wx)
                case first =>
                  by_cases hc : 0 ≤ b ∧ (i : Int) ∉ ss ∧ b ∉ ps
                  · rw [decide_eq_true hc]
                    have hb4 : 0 ≤ b ∧ b < s.floors.length := by have := hc.1; omega
                    have HRB := Lib.hid (show relB s ss ps i G a b h = G.set b.toNat (min (G[b.toNat]?.getD 0) (ovr s G a b h)) by unfold relB; rw [if_pos hc])
                    clear hc
                    have HOV := Lib.hid (fun W (u : Up wa W) => over_c s G g s.floors.length d a b h W hpl (HL.out.up (Up.trans U0.out (Up.trans UA.out u))) (RowBlk.row (RowBlk.up IA.out u)) ha3 hb4 (by omega) (by omega))
                    obtain ⟨n, hn⟩ := Int.eq_ofNat_of_zero_le hb4.1
                    have hnl : n < G.length := by omega
                    have z0 := IntBlk.at IA.out n hnl
                    have HG := Lib.hid (show G[b.toNat]?.getD 0 = G[n] by rw [hn, Int.toNat_natCast, List.getElem?_eq_getElem hnl]; rfl)
                    have HN := Lib.hid (show b.toNat = n by omega)
                    obtain ⟨c0, c1, c2, c3, c4⟩ := five (BS.out.up UA.out)
                    have lg := IA.out.lt
                    have lb := (BS.out.up UA.out).lt
                    subst hn
                    have n1 : (n : Int) < s.floors.length := hb4.2
                    generalize ovr s G a n h = ov at *
                    generalize G[n] = lo at *
                    go_upto_region 14 with fail
                    refine region_tail (fun W' => W'.cell? ⟨X, 0, none⟩ = some (.int .i64 a) ∧ W'.cell? ⟨X, 1, none⟩ = some (.int .i64 (n : Int)) ∧ W'.cell? ⟨X, 2, none⟩ = some (.int .i64 h) ∧ W'.cell? ⟨g, n, none⟩ = some (.int .i64 lo) ∧ W'.cell? ⟨w.heap.size, 0, none⟩ = some (.slice pT s.table.length cT) ∧ W'.cell? ⟨w.heap.size, 1, none⟩ = some (.int .i64 s.lo) ∧ W'.cell? ⟨w.heap.size, 2, none⟩ = some (.int .i64 s.hi) ∧ W'.cell? ⟨w.heap.size, 3, none⟩ = some (.slice pF s.floors.length cF) ∧ W'.cell? ⟨w.heap.size, 4, none⟩ = some (.slice (some ⟨bs, os, none⟩) s.sills.length cS)) 18 mixed (by kernel_rfl) ⟨y0, y1, y2, z0, c0, c1, c2, c3, c4⟩ (fun hHeld => ?_)
                    refine wpAnyG_take 0 59 (v := ?_) rfl rfl (by kernel_rfl) (fun _ _ _ h => h) (Or.inl ⟨by rfl, ?_⟩) (by assumption) ?_
                    rotate_left
                    · (intro w' hSw; (try dsimp only at hSw); go_split_ands; go_simp; try with_reducible rfl)
                    try simp only [List.setIfInBounds_toArray, List.set_cons_zero, List.set_cons_succ]
                    refine wpAnyG_take 1 60 (v := ?_) rfl rfl (by kernel_rfl) (fun _ _ _ h => h) (Or.inl ⟨by rfl, ?_⟩) (by assumption) ?_
                    rotate_left
                    · (intro w' hSw; (try dsimp only at hSw); go_split_ands; go_simp; try with_reducible rfl)
                    try simp only [List.setIfInBounds_toArray, List.set_cons_zero, List.set_cons_succ]
                    refine wpAnyG_take 2 61 (v := ?_) rfl rfl (by kernel_rfl) (fun _ _ _ h => h) (Or.inl ⟨by rfl, ?_⟩) (by assumption) ?_
                    rotate_left
                    · (intro w' hSw; (try dsimp only at hSw); go_split_ands; go_simp; try with_reducible rfl)
                    try simp only [List.setIfInBounds_toArray, List.set_cons_zero, List.set_cons_succ]
                    refine wpAnyG_take 3 62 (v := ?_) rfl rfl (by kernel_rfl) (fun _ _ _ h => h) (Or.inl ⟨by rfl, ?_⟩) (by assumption) ?_
                    rotate_left
                    · (intro w' hSw; (try dsimp only at hSw); go_split_ands; go_simp; try with_reducible rfl)
                    try simp only [List.setIfInBounds_toArray, List.set_cons_zero, List.set_cons_succ]
                    refine wpAnyG_take 4 63 (v := ?_) rfl rfl (by kernel_rfl) (fun _ _ _ h => h) (Or.inl ⟨by rfl, ?_⟩) (by assumption) ?_
                    rotate_left
                    · (intro w' hSw; (try dsimp only at hSw); go_split_ands; go_simp; try with_reducible rfl)
                    try simp only [List.setIfInBounds_toArray, List.set_cons_zero, List.set_cons_succ]
                    refine wpAnyG_take 5 64 (v := ?_) rfl rfl (by kernel_rfl) (fun _ _ _ h => h) (Or.inl ⟨by rfl, ?_⟩) (by assumption) ?_
                    rotate_left
                    · (intro w' hSw; (try dsimp only at hSw); go_split_ands; go_simp; try with_reducible rfl)
                    try simp only [List.setIfInBounds_toArray, List.set_cons_zero, List.set_cons_succ]
                    refine wpAnyG_take 6 65 (v := ?_) rfl rfl (by kernel_rfl) (fun _ _ _ h => h) (Or.inl ⟨by rfl, ?_⟩) (by assumption) ?_
                    rotate_left
                    · (intro w' hSw; (try dsimp only at hSw); go_split_ands; go_simp; try with_reducible rfl)
                    try simp only [List.setIfInBounds_toArray, List.set_cons_zero, List.set_cons_succ]
                    refine wpAnyG_take 7 66 (v := ?_) rfl rfl (by kernel_rfl) (fun _ _ _ h => h) (Or.inl ⟨by rfl, ?_⟩) (by assumption) ?_
                    rotate_left
                    · (intro w' hSw; (try dsimp only at hSw); go_split_ands; go_simp; try with_reducible rfl)
                    try simp only [List.setIfInBounds_toArray, List.set_cons_zero, List.set_cons_succ]
                    refine wpAnyG_take 8 67 (v := ?_) rfl rfl (by kernel_rfl) (fun _ _ _ h => h) (Or.inl ⟨by rfl, ?_⟩) (by assumption) ?_
                    rotate_left
                    · (intro w' hSw; (try dsimp only at hSw); go_split_ands; go_simp; try with_reducible rfl)
                    try simp only [List.setIfInBounds_toArray, List.set_cons_zero, List.set_cons_succ]
                    refine wpAnyG_take 9 68 (v := ?_) rfl rfl (by kernel_rfl) (fun _ _ _ h => h) (Or.inl ⟨by rfl, ?_⟩) (by assumption) ?_
                    rotate_left
                    · (intro w' hSw; (try dsimp only at hSw); go_split_ands; go_simp; try with_reducible rfl)
                    try simp only [List.setIfInBounds_toArray, List.set_cons_zero, List.set_cons_succ]
                    refine wpAnyG_take 10 69 (v := ?_) rfl rfl (by kernel_rfl) (fun _ _ _ h => h) (Or.inl ⟨by rfl, ?_⟩) (by assumption) ?_
                    rotate_left
                    · (intro w' hSw; (try dsimp only at hSw); go_split_ands; go_simp; try with_reducible rfl)
                    try simp only [List.setIfInBounds_toArray, List.set_cons_zero, List.set_cons_succ]
                    refine wpAnyG_take 11 70 (v := ?_) rfl rfl (by kernel_rfl) (fun _ _ _ h => h) (Or.inl ⟨by rfl, ?_⟩) (by assumption) ?_
                    rotate_left
                    · (intro w' hSw; (try dsimp only at hSw); go_split_ands; go_simp; try with_reducible rfl)
                    try simp only [List.setIfInBounds_toArray, List.set_cons_zero, List.set_cons_succ]
                    refine wpAnyG_take 12 71 (v := ?_) rfl rfl (by kernel_rfl) (fun _ _ _ h => h) (Or.inl ⟨by rfl, ?_⟩) (by assumption) ?_
                    rotate_left
                    · (intro w' hSw; (try dsimp only at hSw); go_split_ands; go_simp; try with_reducible rfl)
                    try simp only [List.setIfInBounds_toArray, List.set_cons_zero, List.set_cons_succ]
                    refine wpAnyG_take 13 72 (v := ?_) rfl rfl (by kernel_rfl) (fun _ _ _ h => h) (Or.inl ⟨by rfl, ?_⟩) (by assumption) ?_
                    rotate_left
                    · (intro w' hSw; (try dsimp only at hSw); go_split_ands; go_simp; try with_reducible rfl)
                    try simp only [List.setIfInBounds_toArray, List.set_cons_zero, List.set_cons_succ]
                    refine wpAnyG_take 14 73 (v := ?_) rfl rfl (by kernel_rfl) (fun _ _ _ h => h) (Or.inl ⟨by rfl, ?_⟩) (by assumption) ?_
                    rotate_left
                    · (intro w' hSw; (try dsimp only at hSw); go_split_ands; go_simp; try with_reducible rfl)
                    try simp only [List.setIfInBounds_toArray, List.set_cons_zero, List.set_cons_succ]
                    refine wpAnyG_take 15 74 (v := ?_) rfl rfl (by kernel_rfl) (fun _ _ _ h => h) (Or.inl ⟨by rfl, ?_⟩) (by assumption) ?_
                    rotate_left
                    · (intro w' hSw; (try dsimp only at hSw); go_split_ands; go_simp; try with_reducible rfl)
                    try simp only [List.setIfInBounds_toArray, List.set_cons_zero, List.set_cons_succ]
                    refine wpAnyG_do 16 rfl (by kernel_rfl) (fun K hK => ?_)
                    rw [if_pos (by rfl)]
                    go_simp
                    refine (HOV.out _ ((Below.refl _ _).drew)).mono ?_
                    rintro e wv ⟨rfl, vv⟩
                    have vv' : Up wa wv := Up.trans ((Below.refl _ _).drew) vv
                    refine hK.out _ _ ⟨vv'.cellAt y0, vv'.cellAt y1, vv'.cellAt y2, vv'.cellAt z0, vv'.cellAt c0, vv'.cellAt c1, vv'.cellAt c2, vv'.cellAt c3, vv'.cellAt c4⟩ (fun hHeld => ?_)
                    clear hK K
                    have IV := Lib.hid (RowBlk.up IA.out vv')
                    have XV := Lib.hid (BX.out.up vv')
                    have UV := Lib.hid (Up.trans UA.out vv')
                    have lgv := IV.out.lt
                    have fgv := IV.out.free
                    have zv := vv'.cellAt z0
                    by_cases hmin : ov < lo
                    · have HMIN := Lib.hid (show min lo ov = ov by omega)
                      refine wpAnyG_take 17 76 (v := .int .i64 ov) rfl rfl (by kernel_rfl) (fun _ _ _ h => h) (Or.inl ⟨by rfl, ?_⟩) (by assumption) ?_
                      · intro w' _
                        go_simp
                      try simp only [List.setIfInBounds_toArray, List.set_cons_zero, List.set_cons_succ]
                      clear hHeld vv vv' z0 c0 c1 c2 c3 c4 y0 y1 y2 HOV
                      refine wpAnyG_tail (by kernel_rfl) ?_
                      change wpList _ _ _ [_, _] _ _
                      go_wp2_with fail
                      go_meet
                      refine ⟨?_, XV.out.other (by simp only []; omega) _, UV.out.setCell (by simp only []; omega) _⟩
                      rw [HRB.out, HG.out, HN.out, HMIN.out]
                      exact IntBlk.put IV.out n hnl ov
                    · have HMIN := Lib.hid (show min lo ov = lo by omega)
                      refine wpAnyG_take 17 76 (v := .int .i64 lo) rfl rfl (by kernel_rfl) (fun _ _ _ h => h) (Or.inl ⟨by rfl, ?_⟩) (by assumption) ?_
                      · intro w' _
                        go_simp
                      try simp only [List.setIfInBounds_toArray, List.set_cons_zero, List.set_cons_succ]
                      clear hHeld vv vv' z0 c0 c1 c2 c3 c4 y0 y1 y2 HOV
                      refine wpAnyG_tail (by kernel_rfl) ?_
                      change wpList _ _ _ [_, _] _ _
                      go_wp2_with fail
                      go_meet
                      refine ⟨?_, XV.out.other (by simp only []; omega) _, UV.out.setCell (by simp only []; omega) _⟩
                      rw [HRB.out, HG.out, HN.out, HMIN.out]
                      exact IntBlk.put IV.out n hnl lo
                  · rw [decide_eq_false hc]
                    have HRB := Lib.hid (relB_ends (s := s) (g := G) (a := a) (h := h) hc)
                    clear hc
                    go_wp2_with fail
                    go_meet
                    exact ⟨by rw [HRB.out]; exact IA.out, BX.out, UA.out⟩
                case rest =>
                  obtain ⟨hi4, hx4, hu4⟩ := hcut
                  have hpl4 : (relB s ss ps i G a b h).length = s.floors.length := by rw [relB_len]; exact hpl

                  clear IA UA BX RS RP y0 y1 y2 ly hpl
                  generalize hG1' : relB s ss ps i G a b h = G1 at *
                  have hG1 := Lib.hid hG1'
                  clear hG1'
                  have IA := Lib.hid hi4
                  have BX := Lib.hid hx4
                  have UA := Lib.hid hu4
                  have hpl := hpl4
                  clear hi4 hx4 hu4 hpl4
                  generalize wc = wb at *
                  go_upto_region 15 with fail

                  have RS := Lib.hid (HS.out.up (Up.trans U0.out UA.out))
                  have RP := Lib.hid (HP.out.up (Up.trans U0.out UA.out))
                  have y0 := BX.out.cell 0
                  have y1 := BX.out.cell 1
                  have y2 := BX.out.cell 2
                  have ly := BX.out.lt
                  simp only [List.getElem?_cons_zero, List.getElem?_cons_succ] at y0 y1 y2
                  go_cut [93] (fun c wx => c = .bool (decide (0 ≤ a ∧ (i : Int) ∉ ss ∧ a ∉ ps)) ∧ wb = wx)
                  case first =>
                    by_cases hb0 : 0 ≤ a
                    · have hb5 : decide (0 ≤ a) = true := decide_eq_true hb0
                      go_wp2_with fail
                      refine (HH.out ss qS dS i wb RS.out ls).mono ?_
                      rintro e w' ⟨he, rfl⟩
                      by_cases h1 : (i : Int) ∈ ss
                      · rw [decide_eq_true h1] at he
                        subst he
                        have HV := Lib.hid (show decide (0 ≤ a ∧ (i : Int) ∉ ss ∧ a ∉ ps) = false from decide_eq_false (fun k => k.2.1 h1))
                        clear h1
                        go_wp2_with fail
                        go_meet
                        exact ⟨by rw [HV.out], rfl⟩
                      · rw [decide_eq_false h1] at he
                        subst he
                        have H1 := Lib.hid h1
                        clear h1
                        go_wp2_with fail
                        refine (HH.out ps qP dP a wb RP.out lp).mono ?_
                        rintro e w' ⟨he, rfl⟩
                        by_cases h2 : a ∈ ps
                        · rw [decide_eq_true h2] at he
                          subst he
                          have HV := Lib.hid (show decide (0 ≤ a ∧ (i : Int) ∉ ss ∧ a ∉ ps) = false from decide_eq_false (fun k => k.2.2 h2))
                          clear h2
                          go_wp2_with fail
                          go_meet
                          exact ⟨by rw [HV.out], rfl⟩
                        · rw [decide_eq_false h2] at he
                          subst he
                          have HV := Lib.hid (show decide (0 ≤ a ∧ (i : Int) ∉ ss ∧ a ∉ ps) = true from decide_eq_true ⟨hb0, H1.out, h2⟩)
                          clear h2
                          go_wp2_with fail
                          go_meet
                          exact ⟨by rw [HV.out], rfl⟩
                    · have HV := Lib.hid (show decide (0 ≤ a ∧ (i : Int) ∉ ss ∧ a ∉ ps) = false from decide_eq_false (fun k => hb0 k.1))
                      have hb0' : a < 0 := by omega
                      have hb5 : decide (0 ≤ a) = false := decide_eq_false hb0
                      clear hb0
                      go_wp2_with fail
                      go_meet
                      exact ⟨by rw [HV.out], rfl⟩
                  case rest =>
                    obtain ⟨rfl, rfl⟩ := hcut
                    go_upto_if 93 with fail
                    have HRP2 := Lib.hid (show rpass s ss ps G0 (i + 1) = relB s ss ps i G1 b a h from HRP.out)
                    by_cases hc : 0 ≤ a ∧ (i : Int) ∉ ss ∧ a ∉ ps
                    · rw [decide_eq_true hc]
                      have hb4 : 0 ≤ a ∧ a < s.floors.length := by have := hc.1; omega
                      have HRB := Lib.hid (show relB s ss ps i G1 b a h = G1.set a.toNat (min (G1[a.toNat]?.getD 0) (ovr s G1 b a h)) by unfold relB; rw [if_pos hc])
                      clear hc
                      have HOV := Lib.hid (fun W (u : Up wb W) => over_c s G1 g s.floors.length d b a h W hpl (HL.out.up (Up.trans U0.out (Up.trans UA.out u))) (RowBlk.row (RowBlk.up IA.out u)) hb3 hb4 (by omega) (by omega))
                      obtain ⟨n, hn⟩ := Int.eq_ofNat_of_zero_le hb4.1
                      have hnl : n < G1.length := by omega
                      have z0 := IntBlk.at IA.out n hnl
                      have HG := Lib.hid (show G1[a.toNat]?.getD 0 = G1[n] by rw [hn, Int.toNat_natCast, List.getElem?_eq_getElem hnl]; rfl)
                      have HN := Lib.hid (show a.toNat = n by omega)
                      obtain ⟨c0, c1, c2, c3, c4⟩ := five (BS.out.up UA.out)
                      have lg := IA.out.lt
                      have lb := (BS.out.up UA.out).lt
                      subst hn
                      have n1 : (n : Int) < s.floors.length := hb4.2
                      generalize ovr s G1 b n h = ov at *
                      generalize G1[n] = lo at *
                      go_upto_region 16 with fail
                      refine region_tail (fun W' => W'.cell? ⟨X, 0, none⟩ = some (.int .i64 (n : Int)) ∧ W'.cell? ⟨X, 1, none⟩ = some (.int .i64 b) ∧ W'.cell? ⟨X, 2, none⟩ = some (.int .i64 h) ∧ W'.cell? ⟨g, n, none⟩ = some (.int .i64 lo) ∧ W'.cell? ⟨w.heap.size, 0, none⟩ = some (.slice pT s.table.length cT) ∧ W'.cell? ⟨w.heap.size, 1, none⟩ = some (.int .i64 s.lo) ∧ W'.cell? ⟨w.heap.size, 2, none⟩ = some (.int .i64 s.hi) ∧ W'.cell? ⟨w.heap.size, 3, none⟩ = some (.slice pF s.floors.length cF) ∧ W'.cell? ⟨w.heap.size, 4, none⟩ = some (.slice (some ⟨bs, os, none⟩) s.sills.length cS)) 18 mixed (by kernel_rfl) ⟨y0, y1, y2, z0, c0, c1, c2, c3, c4⟩ (fun hHeld => ?_)
                      refine wpAnyG_take 0 94 (v := ?_) rfl rfl (by kernel_rfl) (fun _ _ _ h => h) (Or.inl ⟨by rfl, ?_⟩) (by assumption) ?_
                      rotate_left
                      · (intro w' hSw; (try dsimp only at hSw); go_split_ands; go_simp; try with_reducible rfl)
                      try simp only [List.setIfInBounds_toArray, List.set_cons_zero, List.set_cons_succ]
                      refine wpAnyG_take 1 95 (v := ?_) rfl rfl (by kernel_rfl) (fun _ _ _ h => h) (Or.inl ⟨by rfl, ?_⟩) (by assumption) ?_
                      rotate_left
                      · (intro w' hSw; (try dsimp only at hSw); go_split_ands; go_simp; try with_reducible rfl)
                      try simp only [List.setIfInBounds_toArray, List.set_cons_zero, List.set_cons_succ]
                      refine wpAnyG_take 2 96 (v := ?_) rfl rfl (by kernel_rfl) (fun _ _ _ h => h) (Or.inl ⟨by rfl, ?_⟩) (by assumption) ?_
                      rotate_left
                      · (intro w' hSw; (try dsimp only at hSw); go_split_ands; go_simp; try with_reducible rfl)
                      try simp only [List.setIfInBounds_toArray, List.set_cons_zero, List.set_cons_succ]
                      refine wpAnyG_take 3 97 (v := ?_) rfl rfl (by kernel_rfl) (fun _ _ _ h => h) (Or.inl ⟨by rfl, ?_⟩) (by assumption) ?_
                      rotate_left
                      · (intro w' hSw; (try dsimp only at hSw); go_split_ands; go_simp; try with_reducible rfl)
                      try simp only [List.setIfInBounds_toArray, List.set_cons_zero, List.set_cons_succ]
                      refine wpAnyG_take 4 98 (v := ?_) rfl rfl (by kernel_rfl) (fun _ _ _ h => h) (Or.inl ⟨by rfl, ?_⟩) (by assumption) ?_
                      rotate_left
                      · (intro w' hSw; (try dsimp only at hSw); go_split_ands; go_simp; try with_reducible rfl)
                      try simp only [List.setIfInBounds_toArray, List.set_cons_zero, List.set_cons_succ]
                      refine wpAnyG_take 5 99 (v := ?_) rfl rfl (by kernel_rfl) (fun _ _ _ h => h) (Or.inl ⟨by rfl, ?_⟩) (by assumption) ?_
                      rotate_left
                      · (intro w' hSw; (try dsimp only at hSw); go_split_ands; go_simp; try with_reducible rfl)
                      try simp only [List.setIfInBounds_toArray, List.set_cons_zero, List.set_cons_succ]
                      refine wpAnyG_take 6 100 (v := ?_) rfl rfl (by kernel_rfl) (fun _ _ _ h => h) (Or.inl ⟨by rfl, ?_⟩) (by assumption) ?_
                      rotate_left
                      · (intro w' hSw; (try dsimp only at hSw); go_split_ands; go_simp; try with_reducible rfl)
                      try simp only [List.setIfInBounds_toArray, List.set_cons_zero, List.set_cons_succ]
                      refine wpAnyG_take 7 101 (v := ?_) rfl rfl (by kernel_rfl) (fun _ _ _ h => h) (Or.inl ⟨by rfl, ?_⟩) (by assumption) ?_
                      rotate_left
                      · (intro w' hSw; (try dsimp only at hSw); go_split_ands; go_simp; try with_reducible rfl)
                      try simp only [List.setIfInBounds_toArray, List.set_cons_zero, List.set_cons_succ]
                      refine wpAnyG_take 8 102 (v := ?_) rfl rfl (by kernel_rfl) (fun _ _ _ h => h) (Or.inl ⟨by rfl, ?_⟩) (by assumption) ?_
                      rotate_left
                      · (intro w' hSw; (try dsimp only at hSw); go_split_ands; go_simp; try with_reducible rfl)
                      try simp only [List.setIfInBounds_toArray, List.set_cons_zero, List.set_cons_succ]
                      refine wpAnyG_take 9 103 (v := ?_) rfl rfl (by kernel_rfl) (fun _ _ _ h => h) (Or.inl ⟨by rfl, ?_⟩) (by assumption) ?_
                      rotate_left
                      · (intro w' hSw; (try dsimp only at hSw); go_split_ands; go_simp; try with_reducible rfl)
                      try simp only [List.setIfInBounds_toArray, List.set_cons_zero, List.set_cons_succ]
                      refine wpAnyG_take 10 104 (v := ?_) rfl rfl (by kernel_rfl) (fun _ _ _ h => h) (Or.inl ⟨by rfl, ?_⟩) (by assumption) ?_
                      rotate_left
                      · (intro w' hSw; (try dsimp only at hSw); go_split_ands; go_simp; try with_reducible rfl)
                      try simp only [List.setIfInBounds_toArray, List.set_cons_zero, List.set_cons_succ]
                      refine wpAnyG_take 11 105 (v := ?_) rfl rfl (by kernel_rfl) (fun _ _ _ h => h) (Or.inl ⟨by rfl, ?_⟩) (by assumption) ?_
                      rotate_left
                      · (intro w' hSw; (try dsimp only at hSw); go_split_ands; go_simp; try with_reducible rfl)
                      try simp only [List.setIfInBounds_toArray, List.set_cons_zero, List.set_cons_succ]
                      refine wpAnyG_take 12 106 (v := ?_) rfl rfl (by kernel_rfl) (fun _ _ _ h => h) (Or.inl ⟨by rfl, ?_⟩) (by assumption) ?_
                      rotate_left
                      · (intro w' hSw; (try dsimp only at hSw); go_split_ands; go_simp; try with_reducible rfl)
                      try simp only [List.setIfInBounds_toArray, List.set_cons_zero, List.set_cons_succ]
                      refine wpAnyG_take 13 107 (v := ?_) rfl rfl (by kernel_rfl) (fun _ _ _ h => h) (Or.inl ⟨by rfl, ?_⟩) (by assumption) ?_
                      rotate_left
                      · (intro w' hSw; (try dsimp only at hSw); go_split_ands; go_simp; try with_reducible rfl)
                      try simp only [List.setIfInBounds_toArray, List.set_cons_zero, List.set_cons_succ]
                      refine wpAnyG_take 14 108 (v := ?_) rfl rfl (by kernel_rfl) (fun _ _ _ h => h) (Or.inl ⟨by rfl, ?_⟩) (by assumption) ?_
                      rotate_left
                      · (intro w' hSw; (try dsimp only at hSw); go_split_ands; go_simp; try with_reducible rfl)
                      try simp only [List.setIfInBounds_toArray, List.set_cons_zero, List.set_cons_succ]
                      refine wpAnyG_take 15 109 (v := ?_) rfl rfl (by kernel_rfl) (fun _ _ _ h => h) (Or.inl ⟨by rfl, ?_⟩) (by assumption) ?_
                      rotate_left
                      · (intro w' hSw; (try dsimp only at hSw); go_split_ands; go_simp; try with_reducible rfl)
                      try simp only [List.setIfInBounds_toArray, List.set_cons_zero, List.set_cons_succ]
                      refine wpAnyG_do 16 rfl (by kernel_rfl) (fun K hK => ?_)
                      rw [if_pos (by rfl)]
                      go_simp
                      refine (HOV.out _ ((Below.refl _ _).drew)).mono ?_
                      rintro e wv ⟨rfl, vv⟩
                      have vv' : Up wb wv := Up.trans ((Below.refl _ _).drew) vv
                      refine hK.out _ _ ⟨vv'.cellAt y0, vv'.cellAt y1, vv'.cellAt y2, vv'.cellAt z0, vv'.cellAt c0, vv'.cellAt c1, vv'.cellAt c2, vv'.cellAt c3, vv'.cellAt c4⟩ (fun hHeld => ?_)
                      clear hK K
                      have IV := Lib.hid (RowBlk.up IA.out vv')
                      have XV := Lib.hid (BX.out.up vv')
                      have UV := Lib.hid (Up.trans UA.out vv')
                      have lgv := IV.out.lt
                      have fgv := IV.out.free
                      have zv := vv'.cellAt z0
                      by_cases hmin : ov < lo
                      · have HMIN := Lib.hid (show min lo ov = ov by omega)
                        refine wpAnyG_take 17 111 (v := .int .i64 ov) rfl rfl (by kernel_rfl) (fun _ _ _ h => h) (Or.inl ⟨by rfl, ?_⟩) (by assumption) ?_
                        · intro w' _
                          go_simp
                        try simp only [List.setIfInBounds_toArray, List.set_cons_zero, List.set_cons_succ]
                        clear hHeld vv vv' z0 c0 c1 c2 c3 c4 y0 y1 y2 HOV
                        refine wpAnyG_tail (by kernel_rfl) ?_
                        change wpList _ _ _ [_, _] _ _
                        go_wp2_with fail
                        go_roundw
                        case rel =>
                          try ((repeat apply Exists.intro); refine ⟨?_, rfl⟩)
                          refine ⟨i + 1, by omega, by go_num, ?_, UV.out.setCell (by simp only []; omega) _⟩
                          rw [HRP2.out, HRB.out, HG.out, HN.out, HMIN.out]
                          exact IntBlk.put IV.out n hnl ov
                        case measure => simp [intOf]; omega
                      · have HMIN := Lib.hid (show min lo ov = lo by omega)
                        refine wpAnyG_take 17 111 (v := .int .i64 lo) rfl rfl (by kernel_rfl) (fun _ _ _ h => h) (Or.inl ⟨by rfl, ?_⟩) (by assumption) ?_
                        · intro w' _
                          go_simp
                        try simp only [List.setIfInBounds_toArray, List.set_cons_zero, List.set_cons_succ]
                        clear hHeld vv vv' z0 c0 c1 c2 c3 c4 y0 y1 y2 HOV
                        refine wpAnyG_tail (by kernel_rfl) ?_
                        change wpList _ _ _ [_, _] _ _
                        go_wp2_with fail
                        go_roundw
                        case rel =>
                          try ((repeat apply Exists.intro); refine ⟨?_, rfl⟩)
                          refine ⟨i + 1, by omega, by go_num, ?_, UV.out.setCell (by simp only []; omega) _⟩
                          rw [HRP2.out, HRB.out, HG.out, HN.out, HMIN.out]
                          exact IntBlk.put IV.out n hnl lo
                        case measure => simp [intOf]; omega
                    · rw [decide_eq_false hc]
                      have HRB := Lib.hid (relB_ends (s := s) (g := G1) (a := b) (h := h) hc)
                      clear hc
                      go_wp2_with fail
                      go_roundw
                      case rel =>
                        try ((repeat apply Exists.intro); refine ⟨?_, rfl⟩)
                        exact ⟨i + 1, by omega, by go_num, by rw [HRP2.out, HRB.out]; exact IA.out, UA.out⟩
                      case measure => simp [intOf]; omega

            · obtain rfl : i = s.sills.length := by omega
              go_wp2_with fail
              go_roundw
              case rel =>
                try ((repeat apply Exists.intro); refine ⟨?_, rfl⟩)
                exact ⟨k + 1, by omega, by go_num, by rw [HRK.out]; exact HB2.out, HU3.out⟩
              case measure => simp [intOf]; omega
        · obtain rfl : k = s.floors.length := by omega
          have hll := rounds_len (s := s) (ss := ss) (ps := ps) s.floors.length
          have z0 := IntBlk.at HB.out tp (by omega)
          have HF := Lib.hid (show (lowR s ss ps)[tp]?.getD 0 = (rounds s ss ps s.floors.length)[tp]'(by omega) by unfold lowR; rw [List.getElem?_eq_getElem (by omega)]; rfl)
          have t1 : (tp : Int) < s.floors.length := by omega
          have lg := HB.out.lt
          generalize (rounds s ss ps s.floors.length)[tp] = rr at *
          go_wp2_with fail
          go_ret
          exact ⟨by rw [HF.out]; rfl, Up.trans U0.out HU2.out⟩
end
end Go.Proofs.Ytifcmbeejichdaa
namespace Go.Proofs.Ytifcmbeejichdaa
open Go.RowKit Go.Shelf

section
variable {pT pF pS : Option Addr} {cT cF cS : Nat}
set_option maxRecDepth 100000 in
set_option maxHeartbeats 8000000 in
theorem refHeight_c (s : Sd) (m : Int) (w : World) (hl : Lists w s pT pF pS cT cF cS) (ok : okTable s.table) (hm : firstM s.table ≤ m) (hm' : m ≤ lastM s.table) :
    Calls Try.prog 24 #[sdVal s pT pF pS cT cF cS, .int .i64 m] w fun e w' => e = .returned (.int .i64 (hgt s.table m)) ∧ Up w w' := by
  have HL := Lib.hid hl
  have OK := Lib.hid ok
  obtain ⟨-, -, l2, l12⟩ := ok
  have e0 : firstM s.table = (s.table[0]'(by omega)).1 := by simp [firstM, List.getElem?_eq_getElem (show 0 < s.table.length by omega)]
  have e1 : lastM s.table = (s.table[s.table.length - 1]'(by omega)).1 := by simp [lastM, List.getElem?_eq_getElem (show s.table.length - 1 < s.table.length by omega)]
  have HF := Lib.hid (e0 ▸ hm)
  have HG := Lib.hid (e1 ▸ hm')
  clear hl hm hm' e0 e1
  unfold sdVal
  go_enter Try.func24, Try.ntmps24
  go_wp2_with fail
  refine Code.wp_world ?_
  intro w1 hw1
  have u1 : Up w w1 := by rw [hw1]; (repeat (first | exact Below.refl _ _ | (with_reducible refine Below.drewN' ?_ _) | (with_reducible refine Below.drew ?_) | (with_reducible refine Below.setCell ?_ (by first | exact Nat.le_refl _ | omega | (with_reducible (repeat (first | refine sz_alloc ?_ | refine sz_setCell ?_ | refine sz_drew ?_ | refine sz_drewN ?_)); first | exact Nat.le_refl _ | omega) | (simp only [World.size_alloc, World.size_setCell, World.size_drew, size_drewN']; omega)) _) | (with_reducible refine Below.alloc ?_ (by first | exact Nat.le_refl _ | omega | (with_reducible (repeat (first | refine sz_alloc ?_ | refine sz_setCell ?_ | refine sz_drew ?_ | refine sz_drewN ?_)); first | exact Nat.le_refl _ | omega) | (simp only [World.size_alloc, World.size_setCell, World.size_drew, size_drewN']; omega)) _) | assumption))
  have hBk : Blk w1 w.heap.size (sdCells s pT pF pS cT cF cS) 37 := by rw [hw1]; exact Blk.new w _ _
  have HL1 := Lib.hid (HL.out.up u1)
  have HU1 := Lib.hid u1
  have c0 := hBk.cell 0
  simp only [sdCells, List.getElem?_cons_zero] at c0
  clear hw1 u1 hBk HL
  go_loopw [5] (fun i wr => ∃ k : Nat, k ≤ s.table.length ∧ i = .int .i64 k ∧ (∀ j (h : j < s.table.length), j < k → s.table[j].1 ≠ m) ∧ wr = w1) (fun i _ => s.table.length - (intOf i).toNat)
  case atStart => exact ⟨0, Nat.zero_le _, rfl, fun j _ h => by omega, rfl⟩
  case round =>
    obtain ⟨k, hk, rfl, ht, rfl⟩ := hrel
    have HT := Lib.hid ht
    clear ht
    by_cases hlt : k < s.table.length
    · obtain ⟨b, off, rfl, d0, d1⟩ := HL1.out.rt.pair k hlt
      have b1 : (k : Int) < (s.table.length : Int) := by omega
      have b2 : (0 : Int) ≤ k := by omega
      have sk : IntKind.i64.wrap ((k : Int) + 1) = (k : Int) + 1 := IntWalk.i64_in _ (by omega)
      by_cases he : s.table[k].1 = m
      · have HR := Lib.hid (show hgt s.table m = s.table[k].2 by rw [← he]; exact hgt_knot OK.out k hlt)
        generalize s.table[k] = x at *
        obtain ⟨xa, xb⟩ := x
        dsimp only at d0 d1 he HR
        subst he
        go_wp2_with fail
        go_ret
        exact ⟨by rw [HR.out]; rfl, HU1.out⟩
      · have HN : Hid (∀ j (h : j < s.table.length), j < k + 1 → s.table[j].1 ≠ m) := fun j h hj => by
          by_cases e : j = k
          · subst e; exact he
          · exact HT.out j h (by omega)
        generalize s.table[k] = x at *
        obtain ⟨xa, xb⟩ := x
        dsimp only at d0 d1 he
        go_wp2_with fail
        go_roundw
        case rel => exact ⟨k + 1, hlt, by go_num, HN.out, by first | rfl | trivial⟩
        case measure => simp [intOf]; omega
    · obtain rfl : k = s.table.length := by omega
      have HNE := Lib.hid (fun (j : Nat) (h : j < s.table.length) => HT.out j h h)
      clear HT hk hlt
      go_wp2_with fail
      go_loopw [6] (fun i wq => ∃ k : Nat, k + 1 < s.table.length ∧ i = .int .i64 k ∧ (∀ j (h : j < s.table.length), j ≤ k → s.table[j].1 < m) ∧ wq = wr) (fun i _ => s.table.length - (intOf i).toNat)
      case atStart => exact ⟨0, by omega, rfl, fun j h hj => by
        have : j = 0 := by omega
        subst this
        have := HNE.out 0 h
        have := HF.out
        omega, rfl⟩
      case round =>
        obtain ⟨k, hk, rfl, ht, rfl⟩ := hrel
        have HT := Lib.hid ht
        clear ht
        obtain ⟨b, off, rfl, d0, d1⟩ := HL1.out.rt.pair (k + 1) hk
        have b1 : (k : Int) + 1 < (s.table.length : Int) := by omega
        have b2 : (0 : Int) ≤ (k : Int) + 1 := by omega
        have b3 : ((k : Int) + 1).toNat = k + 1 := by omega
        have sk : IntKind.i64.wrap ((k : Int) + 1) = (k : Int) + 1 := IntWalk.i64_in _ (by omega)
        by_cases he : s.table[k + 1].1 < m
        · have hk2 : k + 1 + 1 < s.table.length := by
            rcases Nat.lt_or_ge (k + 1 + 1) s.table.length with h | h
            · exact h
            · have e : s.table.length - 1 = k + 1 := by omega
              have := HG.out
              simp only [e] at this
              omega
          have HN : Hid (∀ j (h : j < s.table.length), j ≤ k + 1 → s.table[j].1 < m) := fun j h hj => by
            by_cases e : j = k + 1
            · subst e; exact he
            · exact HT.out j h (by omega)
          generalize s.table[k + 1] = x at *
          obtain ⟨xa, xb⟩ := x
          dsimp only at d0 d1 he
          go_wp2_with fail
          go_roundw
          case rel => exact ⟨k + 1, hk2, by go_num, HN.out, by first | rfl | trivial⟩
          case measure => simp [intOf]; omega
        · have HS := Lib.hid (hgt_seg s.table m k hk (fun j hj _ hjk => HT.out j hj hjk) (by omega))
          obtain ⟨b', off', e', y0, y1⟩ := HL1.out.rt.pair k (by omega)
          simp only [Option.some.injEq, Addr.mk.injEq, and_true] at e'
          obtain ⟨rfl, rfl⟩ := e'
          have okA := OK.out.1 _ (List.getElem_mem (show k < s.table.length by omega))
          have okB := OK.out.1 _ (List.getElem_mem hk)
          have hAB := OK.out.2.1 k hk
          have hAm := HT.out k (by omega) (Nat.le_refl _)
          generalize s.table[k] = x at *
          generalize s.table[k + 1] = y at *
          obtain ⟨xa, xb⟩ := x
          obtain ⟨ya, yb⟩ := y
          dsimp only at d0 d1 he y0 y1 okA okB hAB hAm
          have b5 : (k : Int) < (s.table.length : Int) := by omega
          have b6 : (0 : Int) ≤ k := by omega
          clear HT HNE
          have lb1 := cell_lt c0
          have lb2 := cell_lt d0
          go_wp2_with fail
          go_region
          · go_wp2_with fail
            all_goals
              refine Code.wp_world ?_
              intro w2 hw2
              have u2 : Up wr w2 := by rw [hw2]; (repeat (first | exact Below.refl _ _ | (with_reducible refine Below.drewN' ?_ _) | (with_reducible refine Below.drew ?_) | (with_reducible refine Below.setCell ?_ (by first | exact Nat.le_refl _ | omega | (with_reducible (repeat (first | refine sz_alloc ?_ | refine sz_setCell ?_ | refine sz_drew ?_ | refine sz_drewN ?_)); first | exact Nat.le_refl _ | omega) | (simp only [World.size_alloc, World.size_setCell, World.size_drew, size_drewN']; omega)) _) | (with_reducible refine Below.alloc ?_ (by first | exact Nat.le_refl _ | omega | (with_reducible (repeat (first | refine sz_alloc ?_ | refine sz_setCell ?_ | refine sz_drew ?_ | refine sz_drewN ?_)); first | exact Nat.le_refl _ | omega) | (simp only [World.size_alloc, World.size_setCell, World.size_drew, size_drewN']; omega)) _) | assumption))
              have hA : Blk w2 wr.heap.size [.int .i64 xa, .int .i64 xb] 130 := by rw [hw2]; exact ((Blk.new wr [.int .i64 xa, .int .i64 xb] _).alloc _).drew
              have hB : Blk w2 (wr.heap.size + 1) [.int .i64 ya, .int .i64 yb] 130 := by rw [hw2]; exact (Blk.new' _ [.int .i64 ya, .int .i64 yb] _ (by simp)).drew
              clear hw2
              have a0 := hA.cell 0
              have a1 := hA.cell 1
              have e0 := hB.cell 0
              have e1 := hB.cell 1
              simp only [List.getElem?_cons_zero, List.getElem?_cons_succ] at a0 a1 e0 e1
              have HU2 := Lib.hid (Up.trans HU1.out u2)
              have hrng := onL_rng (xa, xb) (ya, yb) m hAB (by dsimp only; omega) (by dsimp only; omega) (by dsimp only; omega) (by dsimp only; omega) (by dsimp only; omega) (by dsimp only; omega)
              have HST := Lib.hid (onL_start (xa, xb) (ya, yb) m (by dsimp only; omega) (by dsimp only; omega))
              have q2 := mul_rng (m - xa) (yb - xb) 1440 999 (by omega) (by omega) (by omega) (by omega) (by omega)
              rw [Int.mul_comm] at q2
              have sQ : IntKind.i64.wrap ((yb - xb) * (m - xa)) = (yb - xb) * (m - xa) := IntWalk.i64_in _ (by omega)
              have s3 : IntKind.i64.wrap (ya - xa) = ya - xa := IntWalk.i64_in _ (by omega)
              have s4 : IntKind.i64.wrap (yb - xb) = yb - xb := IntWalk.i64_in _ (by omega)
              have s5 : IntKind.i64.wrap (m - xa) = m - xa := IntWalk.i64_in _ (by omega)
              clear hA hB u2 d0 d1 y0 y1 c0 sk
              go_loopw [9] (fun v wq => ∃ n : Int, v = .int .i64 n ∧ (n - xb) * (ya - xa) ≤ (yb - xb) * (m - xa) ∧ 0 ≤ n ∧ n ≤ 999 ∧ wq = w2) (fun v _ => (1000 - intOf v).toNat)
              case atStart =>
                refine ⟨_, rfl, ?_, by omega, by omega, rfl⟩
                first
                  | (have h := HST.out; rw [show min (xa, xb).2 (ya, yb).2 = xb from Int.min_eq_left (by dsimp only; omega)] at h; exact h)
                  | (have h := HST.out; rw [show min (xa, xb).2 (ya, yb).2 = yb from Int.min_eq_right (by dsimp only; omega)] at h; exact h)
              case round =>
                obtain ⟨n, rfl, hn, hn0, hn9, rfl⟩ := hrel
                have q1 := mul_rng (ya - xa) (n + 1 - xb) 1440 1000 (by omega) (by omega) (by omega) (by omega) (by omega)
                rw [Int.mul_comm] at q1
                have sP : IntKind.i64.wrap ((n + 1 - xb) * (ya - xa)) = (n + 1 - xb) * (ya - xa) := IntWalk.i64_in _ (by omega)
                have s1 : IntKind.i64.wrap (n + 1) = n + 1 := IntWalk.i64_in _ (by omega)
                have s2 : IntKind.i64.wrap (n + 1 - xb) = n + 1 - xb := IntWalk.i64_in _ (by omega)
                by_cases hle : (n + 1 - xb) * (ya - xa) ≤ (yb - xb) * (m - xa)
                · have hmo := Lib.hid (onL_more (xa, xb) (ya, yb) m n hAB hle)
                  have HLE := Lib.hid hle
                  clear hn q1 q2
                  go_wp2_with fail
                  go_roundw
                  case rel => exact ⟨n + 1, rfl, HLE.out, by omega, by have := hmo.out; omega, by first | rfl | trivial⟩
                  case measure => simp [intOf]; omega
                · have HR := Lib.hid (show hgt s.table m = n by rw [HS.out]; exact onL_great (xa, xb) (ya, yb) m n hAB hn hle)
                  clear hn q1 q2
                  go_wp2_with fail
                  go_ret
                  exact ⟨by rw [HR.out]; rfl, HU2.out⟩
          · go_wp2_with fail
            all_goals
              refine Code.wp_world ?_
              intro w2 hw2
              have u2 : Up wr w2 := by rw [hw2]; (repeat (first | exact Below.refl _ _ | (with_reducible refine Below.drewN' ?_ _) | (with_reducible refine Below.drew ?_) | (with_reducible refine Below.setCell ?_ (by first | exact Nat.le_refl _ | omega | (with_reducible (repeat (first | refine sz_alloc ?_ | refine sz_setCell ?_ | refine sz_drew ?_ | refine sz_drewN ?_)); first | exact Nat.le_refl _ | omega) | (simp only [World.size_alloc, World.size_setCell, World.size_drew, size_drewN']; omega)) _) | (with_reducible refine Below.alloc ?_ (by first | exact Nat.le_refl _ | omega | (with_reducible (repeat (first | refine sz_alloc ?_ | refine sz_setCell ?_ | refine sz_drew ?_ | refine sz_drewN ?_)); first | exact Nat.le_refl _ | omega) | (simp only [World.size_alloc, World.size_setCell, World.size_drew, size_drewN']; omega)) _) | assumption))
              have hA : Blk w2 (wr.heap.size + 1) [.int .i64 xa, .int .i64 xb] 130 := by rw [hw2]; exact (Blk.new' _ [.int .i64 xa, .int .i64 xb] _ (by simp)).drew
              have hB : Blk w2 wr.heap.size [.int .i64 ya, .int .i64 yb] 130 := by rw [hw2]; exact ((Blk.new wr [.int .i64 ya, .int .i64 yb] _).alloc _).drew
              clear hw2
              have a0 := hA.cell 0
              have a1 := hA.cell 1
              have e0 := hB.cell 0
              have e1 := hB.cell 1
              simp only [List.getElem?_cons_zero, List.getElem?_cons_succ] at a0 a1 e0 e1
              have HU2 := Lib.hid (Up.trans HU1.out u2)
              have hrng := onL_rng (xa, xb) (ya, yb) m hAB (by dsimp only; omega) (by dsimp only; omega) (by dsimp only; omega) (by dsimp only; omega) (by dsimp only; omega) (by dsimp only; omega)
              have HST := Lib.hid (onL_start (xa, xb) (ya, yb) m (by dsimp only; omega) (by dsimp only; omega))
              have q2 := mul_rng (m - xa) (yb - xb) 1440 999 (by omega) (by omega) (by omega) (by omega) (by omega)
              rw [Int.mul_comm] at q2
              have sQ : IntKind.i64.wrap ((yb - xb) * (m - xa)) = (yb - xb) * (m - xa) := IntWalk.i64_in _ (by omega)
              have s3 : IntKind.i64.wrap (ya - xa) = ya - xa := IntWalk.i64_in _ (by omega)
              have s4 : IntKind.i64.wrap (yb - xb) = yb - xb := IntWalk.i64_in _ (by omega)
              have s5 : IntKind.i64.wrap (m - xa) = m - xa := IntWalk.i64_in _ (by omega)
              clear hA hB u2 d0 d1 y0 y1 c0 sk
              go_loopw [9] (fun v wq => ∃ n : Int, v = .int .i64 n ∧ (n - xb) * (ya - xa) ≤ (yb - xb) * (m - xa) ∧ 0 ≤ n ∧ n ≤ 999 ∧ wq = w2) (fun v _ => (1000 - intOf v).toNat)
              case atStart =>
                refine ⟨_, rfl, ?_, by omega, by omega, rfl⟩
                first
                  | (have h := HST.out; rw [show min (xa, xb).2 (ya, yb).2 = xb from Int.min_eq_left (by dsimp only; omega)] at h; exact h)
                  | (have h := HST.out; rw [show min (xa, xb).2 (ya, yb).2 = yb from Int.min_eq_right (by dsimp only; omega)] at h; exact h)
              case round =>
                obtain ⟨n, rfl, hn, hn0, hn9, rfl⟩ := hrel
                have q1 := mul_rng (ya - xa) (n + 1 - xb) 1440 1000 (by omega) (by omega) (by omega) (by omega) (by omega)
                rw [Int.mul_comm] at q1
                have sP : IntKind.i64.wrap ((n + 1 - xb) * (ya - xa)) = (n + 1 - xb) * (ya - xa) := IntWalk.i64_in _ (by omega)
                have s1 : IntKind.i64.wrap (n + 1) = n + 1 := IntWalk.i64_in _ (by omega)
                have s2 : IntKind.i64.wrap (n + 1 - xb) = n + 1 - xb := IntWalk.i64_in _ (by omega)
                by_cases hle : (n + 1 - xb) * (ya - xa) ≤ (yb - xb) * (m - xa)
                · have hmo := Lib.hid (onL_more (xa, xb) (ya, yb) m n hAB hle)
                  have HLE := Lib.hid hle
                  clear hn q1 q2
                  go_wp2_with fail
                  go_roundw
                  case rel => exact ⟨n + 1, rfl, HLE.out, by omega, by have := hmo.out; omega, by first | rfl | trivial⟩
                  case measure => simp [intOf]; omega
                · have HR := Lib.hid (show hgt s.table m = n by rw [HS.out]; exact onL_great (xa, xb) (ya, yb) m n hAB hn hle)
                  clear hn q1 q2
                  go_wp2_with fail
                  go_ret
                  exact ⟨by rw [HR.out]; rfl, HU2.out⟩
end
end Go.Proofs.Ytifcmbeejichdaa
namespace Go.Proofs.Ytifcmbeejichdaa
open Go.RowKit Go.Shelf

def com (a b : Int × Int) : Int × Int := (max a.1 b.1, min a.2 b.2)
def siz (a : Int × Int) : Int := max 0 (a.2 - a.1 + 1)
abbrev Lk := Int × Int × Bool
def lrows (l : List Lk) : List (List Value) := l.map fun x => [.int .i64 x.1, .int .i64 x.2.1, .bool x.2.2]
theorem Row.look {w : World} {p : Option Addr} {l : List Lk} (h : Row w p 3 (lrows l)) (i : Nat) (hi : i < l.length) :
    ∃ b off, p = some ⟨b, off, none⟩ ∧ w.cell? ⟨b, off + i * 3, none⟩ = some (.int .i64 l[i].1) ∧ w.cell? ⟨b, off + i * 3 + 1, none⟩ = some (.int .i64 l[i].2.1) ∧ w.cell? ⟨b, off + i * 3 + 2, none⟩ = some (.bool l[i].2.2) := by
  obtain ⟨b, off, hp, hc⟩ := h i [.int .i64 l[i].1, .int .i64 l[i].2.1, .bool l[i].2.2] (by simp [lrows, hi])
  exact ⟨b, off, hp, by simpa using hc 0 _ rfl, by simpa using hc 1 _ rfl, by simpa using hc 2 _ rfl⟩

set_option maxHeartbeats 1000000 in
theorem common_c (a b c d : Int) (w : World) : Calls Try.prog 120 #[.agg #[.int .i64 a, .int .i64 b], .agg #[.int .i64 c, .int .i64 d]] w fun e w' => e = .returned (.agg #[.int .i64 (com (a, b) (c, d)).1, .int .i64 (com (a, b) (c, d)).2]) ∧ Up w w' := by
  have e1 : (com (a, b) (c, d)).1 = if a < c then c else a := by simp only [com, Int.max_def]; split <;> split <;> omega
  have e2 : (com (a, b) (c, d)).2 = if d < b then d else b := by simp only [com, Int.min_def]; split <;> split <;> omega
  rw [e1, e2]
  clear e1 e2
  go_enter Try.func120, Try.ntmps120
  go_wp2_with fail
  all_goals exact bodyPost_ret (v := .agg #[.int .i64 _, .int .i64 _]) (by simp [results, Try.f120, go_sem]) rfl ⟨rfl, by (repeat (first | exact Below.refl _ _ | (with_reducible refine Below.drewN' ?_ _) | (with_reducible refine Below.drew ?_) | (with_reducible refine Below.setCell ?_ (by first | exact Nat.le_refl _ | omega | (with_reducible (repeat (first | refine sz_alloc ?_ | refine sz_setCell ?_ | refine sz_drew ?_ | refine sz_drewN ?_)); first | exact Nat.le_refl _ | omega) | (simp only [World.size_alloc, World.size_setCell, World.size_drew, size_drewN']; omega)) _) | (with_reducible refine Below.alloc ?_ (by first | exact Nat.le_refl _ | omega | (with_reducible (repeat (first | refine sz_alloc ?_ | refine sz_setCell ?_ | refine sz_drew ?_ | refine sz_drewN ?_)); first | exact Nat.le_refl _ | omega) | (simp only [World.size_alloc, World.size_setCell, World.size_drew, size_drewN']; omega)) _) | assumption))⟩

set_option maxHeartbeats 1000000 in
theorem size_c (a b : Int) (w : World) (h1 : -100000 ≤ a) (h2 : a ≤ 100000) (h3 : -100000 ≤ b) (h4 : b ≤ 100000) : Calls Try.prog 117 #[.agg #[.int .i64 a, .int .i64 b]] w fun e w' => e = .returned (.int .i64 (siz (a, b))) ∧ Up w w' := by
  go_enter Try.func117, Try.ntmps117
  go_wp2_with fail
  all_goals go_ret
  all_goals refine ⟨ret_int ?_, by (repeat (first | exact Below.refl _ _ | (with_reducible refine Below.drewN' ?_ _) | (with_reducible refine Below.drew ?_) | (with_reducible refine Below.setCell ?_ (by first | exact Nat.le_refl _ | omega | (with_reducible (repeat (first | refine sz_alloc ?_ | refine sz_setCell ?_ | refine sz_drew ?_ | refine sz_drewN ?_)); first | exact Nat.le_refl _ | omega) | (simp only [World.size_alloc, World.size_setCell, World.size_drew, size_drewN']; omega)) _) | (with_reducible refine Below.alloc ?_ (by first | exact Nat.le_refl _ | omega | (with_reducible (repeat (first | refine sz_alloc ?_ | refine sz_setCell ?_ | refine sz_drew ?_ | refine sz_drewN ?_)); first | exact Nat.le_refl _ | omega) | (simp only [World.size_alloc, World.size_setCell, World.size_drew, size_drewN']; omega)) _) | assumption))⟩
  all_goals (simp only [siz, Int.max_def]; split <;> omega)

def truV (s : Sd) (x : Lk) : Int × Int :=
  if x.2.2 = true then com (s.lo, s.hi) (gateOf s x.2.1.toNat - hgt s.table x.1 + 1, 50) else com (s.lo, s.hi) (-50, gateOf s x.2.1.toNat - hgt s.table x.1)

theorem fixG_rng (s : Sd) : ∀ n g, Less top g → Less top (fixG s n g)
  | 0, g, h => h
  | n + 1, g, h => by
    unfold fixG
    split
    · exact h
    · exact fixG_rng s n _ (h.trans (lowered_less s g (fun i => (h.2 i).1)))
theorem gateOf_rng (s : Sd) (p : Nat) : 0 ≤ gateOf s p ∧ gateOf s p ≤ 1050 := by
  have h := (fixG_rng s 9000 top (Less.refl top_nonneg)).2 p
  refine ⟨h.1, Int.le_trans h.2 ?_⟩
  unfold top
  rw [List.getElem?_replicate]
  split <;> simp

section
variable {pT pF pS : Option Addr} {cT cF cS : Nat}

set_option maxRecDepth 100000 in
set_option maxHeartbeats 1000000 in
theorem truths_c (bw : Nat) (s : Sd) (m : Int) (p : Nat) (wet : Bool) (w : World) (hw : IsWork w bw s pT pF pS cT cF cS) (ok : Ok s) (hm : firstM s.table ≤ m) (hp : p < 8) :
    Calls Try.prog 121 #[.pointer (some ⟨bw, 0, none⟩), .agg #[.int .i64 m, .int .i64 p, .bool wet]] w fun e w' => e = .returned (.agg #[.int .i64 (truV s (m, p, wet)).1, .int .i64 (truV s (m, p, wet)).2]) ∧ Up w w' := by
  have HH := Lib.hid (fun W (u : Up w W) => height_c' bw s m W (hw.sands.up u) ok hm)
  obtain ⟨r0, r1⟩ := hgt_rng ok.table m hm
  obtain ⟨r2, r3⟩ := gateOf_rng s p
  have c0 := hw.gates p hp
  have d1 := hw.sands.s1
  have d2 := hw.sands.s2
  change _ = some (Value.int .i64 (gateOf s p)) at c0
  have k1 : (p : Int) < 8 := by omega
  have lb := cell_lt c0
  have HT := Lib.hid (show truV s (m, p, wet) = if wet = true then com (s.lo, s.hi) (gateOf s p - hgt s.table m + 1, 50) else com (s.lo, s.hi) (-50, gateOf s p - hgt s.table m) by unfold truV; simp)
  obtain ⟨g, hg⟩ : ∃ g, gateOf s p = g := ⟨_, rfl⟩
  obtain ⟨h, hh⟩ : ∃ h, hgt s.table m = h := ⟨_, rfl⟩
  rw [hg] at c0 HT r2 r3
  rw [hh] at HH HT r0 r1
  clear hw hg hh
  have s1 : IntKind.i64.wrap (g - h) = g - h := IntWalk.i64_in _ (by omega)
  go_enter Try.func121, Try.ntmps121
  go_wp2
  refine Code.wp_world ?_
  intro w0 hw0
  have u0 : Up w w0 := by rw [hw0]; (repeat (first | exact Below.refl _ _ | (with_reducible refine Below.drewN' ?_ _) | (with_reducible refine Below.drew ?_) | (with_reducible refine Below.setCell ?_ (by first | exact Nat.le_refl _ | omega | (with_reducible (repeat (first | refine sz_alloc ?_ | refine sz_setCell ?_ | refine sz_drew ?_ | refine sz_drewN ?_)); first | exact Nat.le_refl _ | omega) | (simp only [World.size_alloc, World.size_setCell, World.size_drew, size_drewN']; omega)) _) | (with_reducible refine Below.alloc ?_ (by first | exact Nat.le_refl _ | omega | (with_reducible (repeat (first | refine sz_alloc ?_ | refine sz_setCell ?_ | refine sz_drew ?_ | refine sz_drewN ?_)); first | exact Nat.le_refl _ | omega) | (simp only [World.size_alloc, World.size_setCell, World.size_drew, size_drewN']; omega)) _) | assumption))
  have hB : Blk w0 w.heap.size [.int .i64 m, .int .i64 p, .bool wet] 80 := by rw [hw0]; exact (Blk.new w _ _).alloc _
  have hR : Blk w0 (w.heap.size + 1) [.int .i64 0, .int .i64 0] 24 := by rw [hw0]; exact Blk.new' _ [.int .i64 0, .int .i64 0] _ (by simp)
  clear hw0
  have e0 := u0.cellAt c0
  have b0 := hB.cell 0
  have b1 := hB.cell 1
  simp only [List.getElem?_cons_zero, List.getElem?_cons_succ] at b0 b1
  go_region_held3 (fun w' => w'.cell? ⟨bw, 5 + p, none⟩ = some (.int .i64 g) ∧ w'.cell? ⟨w.heap.size, 0, none⟩ = some (.int .i64 m) ∧ w'.cell? ⟨w.heap.size, 1, none⟩ = some (.int .i64 p) ∧ Up w0 w')
    (refine ⟨Up.cellAt (w := w0) ?_ e0, Up.cellAt (w := w0) ?_ b0, Up.cellAt (w := w0) ?_ b1, ?_⟩ <;> (repeat (first | exact Below.refl _ _ | (with_reducible refine Below.drewN' ?_ _) | (with_reducible refine Below.drew ?_) | (with_reducible refine Below.setCell ?_ (by first | exact Nat.le_refl _ | omega | (with_reducible (repeat (first | refine sz_alloc ?_ | refine sz_setCell ?_ | refine sz_drew ?_ | refine sz_drewN ?_)); first | exact Nat.le_refl _ | omega) | (simp only [World.size_alloc, World.size_setCell, World.size_drew, size_drewN']; omega)) _) | (with_reducible refine Below.alloc ?_ (by first | exact Nat.le_refl _ | omega | (with_reducible (repeat (first | refine sz_alloc ?_ | refine sz_setCell ?_ | refine sz_drew ?_ | refine sz_drewN ?_)); first | exact Nat.le_refl _ | omega) | (simp only [World.size_alloc, World.size_setCell, World.size_drew, size_drewN']; omega)) _) | assumption)))
    (first
      | (go_at_call 88; with_reducible refine (HH.out w0.drew (Up.trans u0 (Below.refl _ _).drew)).mono ?_; rintro e w1 ⟨rfl, u1⟩; have u1' : Up w0 w1 := Up.trans ((Below.refl _ _).drew) u1))
  have hB1 := hB.up u1'
  have hR1 := hR.up u1'
  have U1 := Lib.hid (Up.trans u0 u1')
  have x1 := U1.out.cellAt d1
  have x2 := U1.out.cellAt d2
  have y0 := hB1.cell 2
  simp only [List.getElem?_cons_zero, List.getElem?_cons_succ] at y0
  have HR1 := Lib.hid hR1
  clear s1 u0 u1 u1' hB hR hB1 hR1 e0 b0 b1 c0 d1 d2 HH
  cases wet
  · rw [if_neg (by decide)] at HT
    go_wp2_with fail
    with_reducible refine (common_c _ _ _ _ _).mono ?_
    rintro e w2 ⟨rfl, u2⟩
    have hB := HR1.out.up u2
    have U2 := Lib.hid (Up.trans U1.out u2)
    have lB := hB.lt
    have fr := hB.free
    have q0 := hB.cell 0
    have q1 := hB.cell 1
    simp only [List.getElem?_cons_zero, List.getElem?_cons_succ] at q0 q1
    clear u2 U1 HR1 x1 x2 y0
    obtain ⟨z, hz⟩ : ∃ z, com (s.lo, s.hi) (-50, g - h) = z := ⟨_, rfl⟩
    rw [hz]
    obtain ⟨za, zb⟩ := z
    have HTo := Lib.hid (HT.out.trans hz)
    clear hz HT
    dsimp only
    go_wp2
    have hB1 := hB.set 0 (.int .i64 za)
    have hB2 := hB1.set 1 (.int .i64 zb)
    have p0 := hB1.cell 0
    have p1 := hB2.cell 1
    simp only [List.set_cons_zero, List.set_cons_succ, List.getElem?_cons_zero, List.getElem?_cons_succ] at p0 p1
    refine bodyPost_ret (v := .agg #[.int .i64 za, .int .i64 zb]) (by simp [results, Try.f121, go_sem, p0, p1]) rfl ⟨by rw [HTo.out], ?_⟩
    have h4 := U2.out
    repeat (first | (with_reducible exact h4) | (with_reducible refine Below.drew ?_) | (with_reducible refine Below.setCell ?_ (by simp only []; omega) _))
  · rw [if_pos rfl] at HT
    go_wp2_with fail
    with_reducible refine (common_c _ _ _ _ _).mono ?_
    rintro e w2 ⟨rfl, u2⟩
    have hB := HR1.out.up u2
    have U2 := Lib.hid (Up.trans U1.out u2)
    have lB := hB.lt
    have fr := hB.free
    have q0 := hB.cell 0
    have q1 := hB.cell 1
    simp only [List.getElem?_cons_zero, List.getElem?_cons_succ] at q0 q1
    clear u2 U1 HR1 x1 x2 y0
    obtain ⟨z, hz⟩ : ∃ z, com (s.lo, s.hi) (g - h + 1, 50) = z := ⟨_, rfl⟩
    rw [hz]
    obtain ⟨za, zb⟩ := z
    have HTo := Lib.hid (HT.out.trans hz)
    clear hz HT
    dsimp only
    go_wp2
    have hB1 := hB.set 0 (.int .i64 za)
    have hB2 := hB1.set 1 (.int .i64 zb)
    have p0 := hB1.cell 0
    have p1 := hB2.cell 1
    simp only [List.set_cons_zero, List.set_cons_succ, List.getElem?_cons_zero, List.getElem?_cons_succ] at p0 p1
    refine bodyPost_ret (v := .agg #[.int .i64 za, .int .i64 zb]) (by simp [results, Try.f121, go_sem, p0, p1]) rfl ⟨by rw [HTo.out], ?_⟩
    have h4 := U2.out
    repeat (first | (with_reducible exact h4) | (with_reducible refine Below.drew ?_) | (with_reducible refine Below.setCell ?_ (by simp only []; omega) _))
end
end Go.Proofs.Ytifcmbeejichdaa
namespace Go.Proofs.Ytifcmbeejichdaa
open Go.RowKit Go.Shelf

def lkErr (s : Sd) : List Lk → Int
  | [] => 0
  | x :: r => if inDay s x.1 = true then (if isPl s x.2.1 = true then lkErr s r else 1) else 3
def errLooks (s : Sd) (l : List Lk) : Int := if chk s = 0 then (if 10 < l.length then 2 else lkErr s l) else chk s

section
variable {pT pF pS : Option Addr} {cT cF cS : Nat}

set_option maxRecDepth 100000 in
set_option maxHeartbeats 2000000 in
theorem beginLooks_c (s : Sd) (l : List Lk) (pL : Option Addr) (cL : Nat) (w : World) (hl : Lists w s pT pF pS cT cF cS) (hr : Row w pL 3 (lrows l)) (_hln : l.length ≤ maxLen) :
    Calls Try.prog 119 #[sdVal s pT pF pS cT cF cS, .slice pL l.length cL] w (Began s pT pF pS cT cF cS w (errLooks s l)) := by
  have hck := fun W (u : Up w W) => begin_c s W pT pF pS cT cF cS (hl.up u)
  have HC := Lib.hid hck
  have HR := Lib.hid hr
  clear hck hl hr
  by_cases hE : chk s = 0
  · have HE := Lib.hid hE
    have hok := (chk_ok hE).table
    have hf8 : s.floors.length ≤ maxLen := by have := (chk_ok hE).fl1; simp [maxLen]; omega
    obtain ⟨-, -, ht2, ht12⟩ := hok
    have HV := Lib.hid (show errLooks s l = if 10 < l.length then 2 else lkErr s l by unfold errLooks; rw [if_pos hE])
    clear hE
    unfold sdVal at *
    go_enter Try.func119, Try.ntmps119
    go_wp2_with fail
    refine (HC.out _ (by (repeat (first | exact Below.refl _ _ | (with_reducible refine Below.drewN' ?_ _) | (with_reducible refine Below.drew ?_) | (with_reducible refine Below.setCell ?_ (by first | exact Nat.le_refl _ | omega | (with_reducible (repeat (first | refine sz_alloc ?_ | refine sz_setCell ?_ | refine sz_drew ?_ | refine sz_drewN ?_)); first | exact Nat.le_refl _ | omega) | (simp only [World.size_alloc, World.size_setCell, World.size_drew, size_drewN']; omega)) _) | (with_reducible refine Below.alloc ?_ (by first | exact Nat.le_refl _ | omega | (with_reducible (repeat (first | refine sz_alloc ?_ | refine sz_setCell ?_ | refine sz_drew ?_ | refine sz_drewN ?_)); first | exact Nat.le_refl _ | omega) | (simp only [World.size_alloc, World.size_setCell, World.size_drew, size_drewN']; omega)) _) | assumption)))).mono ?_
    rw [HE.out]
    rintro e w1 ⟨p, rfl, u1, hok⟩
    obtain ⟨bw, rfl, hW⟩ := hok rfl
    have U1 := Lib.hid (Up.trans (show Up w (w.alloc (.cells (sdCells s pT pF pS cT cF cS).toArray 28)) by (repeat (first | exact Below.refl _ _ | (with_reducible refine Below.drewN' ?_ _) | (with_reducible refine Below.drew ?_) | (with_reducible refine Below.setCell ?_ (by first | exact Nat.le_refl _ | omega | (with_reducible (repeat (first | refine sz_alloc ?_ | refine sz_setCell ?_ | refine sz_drew ?_ | refine sz_drewN ?_)); first | exact Nat.le_refl _ | omega) | (simp only [World.size_alloc, World.size_setCell, World.size_drew, size_drewN']; omega)) _) | (with_reducible refine Below.alloc ?_ (by first | exact Nat.le_refl _ | omega | (with_reducible (repeat (first | refine sz_alloc ?_ | refine sz_setCell ?_ | refine sz_drew ?_ | refine sz_drewN ?_)); first | exact Nat.le_refl _ | omega) | (simp only [World.size_alloc, World.size_setCell, World.size_drew, size_drewN']; omega)) _) | assumption))) u1)
    have HW := Lib.hid hW
    clear hok hW u1
    by_cases h10 : 10 < l.length
    · have h10' : (10 : Int) < (l.length : Int) := by omega
      rw [if_pos h10] at HV
      go_wp2_with fail
      go_ret2
      exact ⟨none, by rw [HV.out]; rfl, U1.out, fun h => absurd (HV.out ▸ h) (by decide)⟩
    · have h10' : ¬ (10 : Int) < (l.length : Int) := by omega
      rw [if_neg h10] at HV
      go_wp2_with fail
      go_loopw [25] (fun i wr => ∃ k : Nat, k ≤ l.length ∧ i = .int .i64 k ∧ lkErr s l = lkErr s (l.drop k) ∧ Up w1 wr) (fun i _ => l.length - (intOf i).toNat)
      case atStart => exact ⟨0, Nat.zero_le _, rfl, rfl, Below.refl _ _⟩
      case round =>
        obtain ⟨k, hk, rfl, ht, hu⟩ := hrel
        have HT := Lib.hid ht
        have HU := Lib.hid hu
        have hsz := hu.size
        clear ht hu
        by_cases hlt : k < l.length
        · obtain ⟨b, off, rfl, d0, d1, d2⟩ := HR.out.look k hlt
          have e0 := HU.out.cellAt (U1.out.cellAt d0)
          have e1 := HU.out.cellAt (U1.out.cellAt d1)
          have e2 := HU.out.cellAt (U1.out.cellAt d2)
          clear d0 d1 d2
          have hdr : l.drop k = l[k] :: l.drop (k + 1) := List.drop_eq_getElem_cons hlt
          have HDR := Lib.hid hdr
          clear hdr
          generalize l[k] = x at *
          obtain ⟨xm, xp, xw⟩ := x
          have HS := Lib.hid (show lkErr s ((xm, xp, xw) :: l.drop (k + 1)) = if inDay s xm = true then (if isPl s xp = true then lkErr s (l.drop (k + 1)) else 1) else 3 from rfl)
          dsimp only at e0 e1 e2
          go_wp2_with fail
          refine Calls.world ?_
          intro w2 hw2
          have u2 : Up wr w2 := by rw [hw2]; (repeat (first | exact Below.refl _ _ | (with_reducible refine Below.drewN' ?_ _) | (with_reducible refine Below.drew ?_) | (with_reducible refine Below.setCell ?_ (by first | exact Nat.le_refl _ | omega | (with_reducible (repeat (first | refine sz_alloc ?_ | refine sz_setCell ?_ | refine sz_drew ?_ | refine sz_drewN ?_)); first | exact Nat.le_refl _ | omega) | (simp only [World.size_alloc, World.size_setCell, World.size_drew, size_drewN']; omega)) _) | (with_reducible refine Below.alloc ?_ (by first | exact Nat.le_refl _ | omega | (with_reducible (repeat (first | refine sz_alloc ?_ | refine sz_setCell ?_ | refine sz_drew ?_ | refine sz_drewN ?_)); first | exact Nat.le_refl _ | omega) | (simp only [World.size_alloc, World.size_setCell, World.size_drew, size_drewN']; omega)) _) | assumption))
          have hB : Blk w2 wr.heap.size [.int .i64 xm, .int .i64 xp, .bool xw] 80 := by rw [hw2]; exact Blk.new wr _ _
          have U2 := Lib.hid (Up.trans (Up.trans U1.out HU.out) u2)
          have HW2 := Lib.hid (HW.out.up (Up.trans HU.out u2))
          clear hw2 e0 e1 e2
          refine (refused_c 126 #[.pointer (some ⟨bw, 0, none⟩)] #[] _ _ (inDay s xm) _ en_isOfDay (isOfDay_c bw s xm _ HW2.out.sands ht2 ht12)).mono ?_
          rintro e w3 ⟨rfl, u3⟩
          have hB3 := hB.up u3
          have U3 := Lib.hid (Up.trans U2.out u3)
          have V3 := Lib.hid (Up.trans u2 u3)
          have HW3 := Lib.hid (HW2.out.up u3)
          have b1 := hB3.cell 1
          simp only [List.getElem?_cons_zero, List.getElem?_cons_succ] at b1
          clear u2 u3 hB
          cases hd : inDay s xm
          · have HX := Lib.hid (show lkErr s l = 3 by rw [HT.out, HDR.out, HS.out, hd]; rfl)
            clear hd
            go_wp2_with fail
            go_ret2
            exact ⟨none, by rw [HV.out, HX.out]; rfl, U3.out, fun h => absurd ((HV.out.trans HX.out) ▸ h) (by decide)⟩
          · rw [if_pos hd] at HS
            clear hd
            go_wp2_with fail
            refine (refused_c 105 #[.pointer (some ⟨bw, 0, none⟩)] #[] _ _ (isPl s xp) _ en_isPlace ((isPlace_c bw _ _ _ xp _ HW3.out.sands.s3 hf8).mono fun e w' ⟨h, k⟩ => ⟨h, k ▸ Below.refl _ _⟩)).mono ?_
            rintro e w4 ⟨rfl, u4⟩
            have U4 := Lib.hid (Up.trans U3.out u4)
            have V4 := Lib.hid (Up.trans V3.out u4)
            clear u4 b1 hB3
            cases hp : isPl s xp
            · have HX := Lib.hid (show lkErr s l = 1 by rw [HT.out, HDR.out, HS.out, hp]; rfl)
              clear hp
              go_wp2_with fail
              go_ret2
              exact ⟨none, by rw [HV.out, HX.out]; rfl, U4.out, fun h => absurd ((HV.out.trans HX.out) ▸ h) (by decide)⟩
            · rw [if_pos hp] at HS
              have HX := Lib.hid (show lkErr s l = lkErr s (l.drop (k + 1)) by rw [HT.out, HDR.out, HS.out])
              clear hp
              go_wp2_with fail
              go_roundw
              case rel => exact ⟨k + 1, hlt, by go_num, HX.out, by have hU := Up.trans HU.out V4.out; (repeat (first | exact Below.refl _ _ | (with_reducible refine Below.drewN' ?_ _) | (with_reducible refine Below.drew ?_) | (with_reducible refine Below.setCell ?_ (by first | exact Nat.le_refl _ | omega | (with_reducible (repeat (first | refine sz_alloc ?_ | refine sz_setCell ?_ | refine sz_drew ?_ | refine sz_drewN ?_)); first | exact Nat.le_refl _ | omega) | (simp only [World.size_alloc, World.size_setCell, World.size_drew, size_drewN']; omega)) _) | (with_reducible refine Below.alloc ?_ (by first | exact Nat.le_refl _ | omega | (with_reducible (repeat (first | refine sz_alloc ?_ | refine sz_setCell ?_ | refine sz_drew ?_ | refine sz_drewN ?_)); first | exact Nat.le_refl _ | omega) | (simp only [World.size_alloc, World.size_setCell, World.size_drew, size_drewN']; omega)) _) | assumption))⟩
              case measure => simp [intOf]; omega
        · obtain rfl : k = l.length := by omega
          have HZ := Lib.hid (show lkErr s l = 0 by rw [HT.out]; simp [lkErr])
          go_wp2_with fail
          go_ret2
          exact ⟨_, by rw [HV.out, HZ.out]; rfl, Up.trans U1.out HU.out, fun _ => ⟨bw, rfl, HW.out.up HU.out⟩⟩
  · have hne : (chk s != 0) = true := by rw [bne_iff_ne]; exact hE
    have HV := Lib.hid (show errLooks s l = chk s by unfold errLooks; rw [if_neg hE])
    have HE := Lib.hid hE
    clear hE
    unfold sdVal at *
    go_enter Try.func119, Try.ntmps119
    go_wp2_with fail
    refine (HC.out _ (by (repeat (first | exact Below.refl _ _ | (with_reducible refine Below.drewN' ?_ _) | (with_reducible refine Below.drew ?_) | (with_reducible refine Below.setCell ?_ (by first | exact Nat.le_refl _ | omega | (with_reducible (repeat (first | refine sz_alloc ?_ | refine sz_setCell ?_ | refine sz_drew ?_ | refine sz_drewN ?_)); first | exact Nat.le_refl _ | omega) | (simp only [World.size_alloc, World.size_setCell, World.size_drew, size_drewN']; omega)) _) | (with_reducible refine Below.alloc ?_ (by first | exact Nat.le_refl _ | omega | (with_reducible (repeat (first | refine sz_alloc ?_ | refine sz_setCell ?_ | refine sz_drew ?_ | refine sz_drewN ?_)); first | exact Nat.le_refl _ | omega) | (simp only [World.size_alloc, World.size_setCell, World.size_drew, size_drewN']; omega)) _) | assumption)))).mono ?_
    rintro e w1 ⟨p, rfl, u1, -⟩
    have U1 := Lib.hid (Up.trans (show Up w (w.alloc (.cells (sdCells s pT pF pS cT cF cS).toArray 28)) by (repeat (first | exact Below.refl _ _ | (with_reducible refine Below.drewN' ?_ _) | (with_reducible refine Below.drew ?_) | (with_reducible refine Below.setCell ?_ (by first | exact Nat.le_refl _ | omega | (with_reducible (repeat (first | refine sz_alloc ?_ | refine sz_setCell ?_ | refine sz_drew ?_ | refine sz_drewN ?_)); first | exact Nat.le_refl _ | omega) | (simp only [World.size_alloc, World.size_setCell, World.size_drew, size_drewN']; omega)) _) | (with_reducible refine Below.alloc ?_ (by first | exact Nat.le_refl _ | omega | (with_reducible (repeat (first | refine sz_alloc ?_ | refine sz_setCell ?_ | refine sz_drew ?_ | refine sz_drewN ?_)); first | exact Nat.le_refl _ | omega) | (simp only [World.size_alloc, World.size_setCell, World.size_drew, size_drewN']; omega)) _) | assumption))) u1)
    clear u1
    go_wp2_with fail
    go_ret2
    exact ⟨none, by rw [HV.out]; rfl, U1.out, fun h => absurd (HV.out ▸ h) HE.out⟩
end
end Go.Proofs.Ytifcmbeejichdaa
namespace Go.Proofs.Ytifcmbeejichdaa
open Go.RowKit Go.Shelf

theorem lkErr_zero (s : Sd) : ∀ (l : List Lk), lkErr s l = 0 → ∀ x ∈ l, inDay s x.1 = true ∧ isPl s x.2.1 = true
  | [], _, x, hx => by cases hx
  | y :: r, h, x, hx => by
    unfold lkErr at h
    by_cases h1 : inDay s y.1 = true
    · rw [if_pos h1] at h
      by_cases h2 : isPl s y.2.1 = true
      · rw [if_pos h2] at h
        rcases List.mem_cons.1 hx with rfl | hx
        · exact ⟨h1, h2⟩
        · exact lkErr_zero s r h x hx
      · rw [if_neg h2] at h; cases h
    · rw [if_neg h1] at h; cases h
theorem errLooks_zero {s : Sd} {l : List Lk} (h : errLooks s l = 0) : chk s = 0 ∧ l.length ≤ 10 ∧ ∀ x ∈ l, firstM s.table ≤ x.1 ∧ ∃ p : Nat, x.2.1 = p ∧ p < s.floors.length ∧ p < 8 := by
  unfold errLooks at h
  by_cases hc : chk s = 0
  · rw [if_pos hc] at h
    by_cases h10 : 10 < l.length
    · rw [if_pos h10] at h; cases h
    · rw [if_neg h10] at h
      refine ⟨hc, by omega, fun x hx => ?_⟩
      obtain ⟨h1, h2⟩ := lkErr_zero s l h x hx
      refine ⟨(inB_true.1 h1).1, ?_⟩
      have h3 := inB_true.1 h2
      obtain ⟨n, hn⟩ := Int.eq_ofNat_of_zero_le h3.1
      have := (chk_ok hc).fl1
      exact ⟨n, hn, by omega, by omega⟩
  · rw [if_neg hc] at h; exact absurd h hc

def lkOf (s : Sd) (z : Int × Int) (l : List Lk) : Int × Int := l.foldl (fun z x => com z (truV s x)) z
def looksE (s : Sd) (l : List Lk) : Int := if errLooks s l = 0 then (if siz (lkOf s (s.lo, s.hi) l) = 0 then 7 else 0) else errLooks s l
def looksV (s : Sd) (l : List Lk) : Int × Int := if looksE s l = 0 then lkOf s (s.lo, s.hi) l else (0, 0)
def Near (z : Int × Int) : Prop := -5000 ≤ z.1 ∧ z.1 ≤ 5000 ∧ -5000 ≤ z.2 ∧ z.2 ≤ 5000
theorem Near.com {a b : Int × Int} (ha : Near a) (hb : Near b) : Near (com a b) := by
  obtain ⟨a1, a2, a3, a4⟩ := ha
  obtain ⟨b1, b2, b3, b4⟩ := hb
  unfold Near Go.Proofs.Ytifcmbeejichdaa.com
  dsimp only
  refine ⟨?_, ?_, ?_, ?_⟩ <;> simp only [Int.max_def, Int.min_def] <;> split <;> omega
theorem truV_near {s : Sd} (ok : Ok s) (x : Lk) (hm : firstM s.table ≤ x.1) : Near (truV s x) := by
  obtain ⟨r0, r1⟩ := hgt_rng ok.table x.1 hm
  obtain ⟨r2, r3⟩ := gateOf_rng s x.2.1.toNat
  have b0 := ok.lo0
  have b1 := ok.hi1
  have b2 := ok.lohi
  unfold truV
  split
  · exact Near.com ⟨by dsimp only; omega, by dsimp only; omega, by dsimp only; omega, by dsimp only; omega⟩ ⟨by dsimp only; omega, by dsimp only; omega, by dsimp only; omega, by dsimp only; omega⟩
  · exact Near.com ⟨by dsimp only; omega, by dsimp only; omega, by dsimp only; omega, by dsimp only; omega⟩ ⟨by dsimp only; omega, by dsimp only; omega, by dsimp only; omega, by dsimp only; omega⟩

section
variable {pT pF pS : Option Addr} {cT cF cS : Nat}

set_option maxRecDepth 100000 in
set_option maxHeartbeats 2000000 in
theorem Looks_c (s : Sd) (l : List Lk) (pL : Option Addr) (cL : Nat) (w : World) (hl : Lists w s pT pF pS cT cF cS) (hr : Row w pL 3 (lrows l)) (hln : l.length ≤ maxLen) :
    Calls Try.prog 54 #[sdVal s pT pF pS cT cF cS, .slice pL l.length cL] w fun e w' => e = .returned (.tuple #[.agg #[.int .i64 (looksV s l).1, .int .i64 (looksV s l).2], .int .i64 (looksE s l)]) ∧ Up w w' := by
  have HC := Lib.hid (fun W (u : Up w W) => beginLooks_c s l pL cL W (hl.up u) (hr.up u) hln)
  have HR := Lib.hid hr
  clear hl hr
  by_cases hE : errLooks s l = 0
  · obtain ⟨hc, h10, hx⟩ := errLooks_zero hE
    have HO := Lib.hid (chk_ok hc)
    have HX := Lib.hid hx
    have HE := Lib.hid (show looksE s l = if siz (lkOf s (s.lo, s.hi) l) = 0 then 7 else 0 by unfold looksE; rw [if_pos hE])
    rw [hE] at HC
    clear hE hc hx
    unfold sdVal at *
    go_enter Try.func54, Try.ntmps54
    go_wp2_with fail
    refine Calls.world ?_
    intro w0 hw0
    have u0 : Up w w0 := by rw [hw0]; (repeat (first | exact Below.refl _ _ | (with_reducible refine Below.drewN' ?_ _) | (with_reducible refine Below.drew ?_) | (with_reducible refine Below.setCell ?_ (by first | exact Nat.le_refl _ | omega | (with_reducible (repeat (first | refine sz_alloc ?_ | refine sz_setCell ?_ | refine sz_drew ?_ | refine sz_drewN ?_)); first | exact Nat.le_refl _ | omega) | (simp only [World.size_alloc, World.size_setCell, World.size_drew, size_drewN']; omega)) _) | (with_reducible refine Below.alloc ?_ (by first | exact Nat.le_refl _ | omega | (with_reducible (repeat (first | refine sz_alloc ?_ | refine sz_setCell ?_ | refine sz_drew ?_ | refine sz_drewN ?_)); first | exact Nat.le_refl _ | omega) | (simp only [World.size_alloc, World.size_setCell, World.size_drew, size_drewN']; omega)) _) | assumption))
    have hB : Blk w0 (w.heap.size + 1) [.int .i64 0, .int .i64 0] 24 := by rw [hw0]; exact Blk.new' _ [.int .i64 0, .int .i64 0] _ (by simp)
    clear hw0
    refine (HC.out _ u0).mono ?_
    rintro e w1 ⟨p, rfl, u1, hok⟩
    obtain ⟨bw, rfl, hW⟩ := hok rfl
    have U1 := Lib.hid (Up.trans u0 u1)
    have HW := Lib.hid hW
    have HB := Lib.hid (hB.up u1)
    have d1 := hW.sands.s1
    have d2 := hW.sands.s2
    clear hok hW u1 u0 HC hB
    go_wp2_with fail
    refine Code.wp_world ?_
    intro w2 hw2
    have u2 : Up w1 w2 := by rw [hw2]; (repeat (first | exact Below.refl _ _ | (with_reducible refine Below.drewN' ?_ _) | (with_reducible refine Below.drew ?_) | (with_reducible refine Below.setCell ?_ (by first | exact Nat.le_refl _ | omega | (with_reducible (repeat (first | refine sz_alloc ?_ | refine sz_setCell ?_ | refine sz_drew ?_ | refine sz_drewN ?_)); first | exact Nat.le_refl _ | omega) | (simp only [World.size_alloc, World.size_setCell, World.size_drew, size_drewN']; omega)) _) | (with_reducible refine Below.alloc ?_ (by first | exact Nat.le_refl _ | omega | (with_reducible (repeat (first | refine sz_alloc ?_ | refine sz_setCell ?_ | refine sz_drew ?_ | refine sz_drewN ?_)); first | exact Nat.le_refl _ | omega) | (simp only [World.size_alloc, World.size_setCell, World.size_drew, size_drewN']; omega)) _) | assumption))
    have hL : Blk w2 w1.heap.size [.int .i64 s.lo, .int .i64 s.hi] 24 := by rw [hw2]; exact Blk.new w1 _ _
    have HLw := Lib.hid hL
    have U2 := Lib.hid u2
    have s2 := u2.size
    obtain ⟨bL, hbL⟩ : ∃ bL, w1.heap.size = bL := ⟨_, rfl⟩
    rw [hbL] at HLw ⊢
    clear hw2 u2 hL d1 d2
    have N0 : Near (s.lo, s.hi) := by have b0 := HO.out.lo0; have b1 := HO.out.hi1; have b2 := HO.out.lohi; exact ⟨by dsimp only; omega, by dsimp only; omega, by dsimp only; omega, by dsimp only; omega⟩
    go_loopw [28] (fun i wr => ∃ (k : Nat) (z : Int × Int), k ≤ l.length ∧ i = .int .i64 k ∧ lkOf s (s.lo, s.hi) l = lkOf s z (l.drop k) ∧ Near z ∧ Blk wr bL [.int .i64 z.1, .int .i64 z.2] 24 ∧ Up w1 wr) (fun i _ => l.length - (intOf i).toNat)
    case atStart => exact ⟨0, (s.lo, s.hi), Nat.zero_le _, rfl, rfl, N0, HLw.out, U2.out⟩
    case round =>
      obtain ⟨k, z, hk, rfl, ht, hz, hL, hu⟩ := hrel
      have HT := Lib.hid ht
      have HU := Lib.hid hu
      have HZ := Lib.hid hz
      have HL := Lib.hid hL
      have hsz := hu.size
      clear ht hu hz hL
      by_cases hlt : k < l.length
      · obtain ⟨b, off, rfl, d0, d1, d2⟩ := HR.out.look k hlt
        have e0 := HU.out.cellAt (U1.out.cellAt d0)
        have e1 := HU.out.cellAt (U1.out.cellAt d1)
        have e2 := HU.out.cellAt (U1.out.cellAt d2)
        obtain ⟨hm, p, hpx, hpf, hp8⟩ := HX.out l[k] (List.getElem_mem hlt)
        clear d0 d1 d2
        have hdr : l.drop k = l[k] :: l.drop (k + 1) := List.drop_eq_getElem_cons hlt
        have HDR := Lib.hid hdr
        have NT := Lib.hid (truV_near HO.out l[k] hm)
        clear hdr
        generalize l[k] = x at *
        obtain ⟨xm, xp, xw⟩ := x
        dsimp only at e0 e1 e2 hm hpx
        subst hpx
        go_wp2_with fail
        refine Code.wp_world ?_
        intro w3 hw3
        have u3 : Up wr w3 := by rw [hw3]; (repeat (first | exact Below.refl _ _ | (with_reducible refine Below.drewN' ?_ _) | (with_reducible refine Below.drew ?_) | (with_reducible refine Below.setCell ?_ (by first | exact Nat.le_refl _ | omega | (with_reducible (repeat (first | refine sz_alloc ?_ | refine sz_setCell ?_ | refine sz_drew ?_ | refine sz_drewN ?_)); first | exact Nat.le_refl _ | omega) | (simp only [World.size_alloc, World.size_setCell, World.size_drew, size_drewN']; omega)) _) | (with_reducible refine Below.alloc ?_ (by first | exact Nat.le_refl _ | omega | (with_reducible (repeat (first | refine sz_alloc ?_ | refine sz_setCell ?_ | refine sz_drew ?_ | refine sz_drewN ?_)); first | exact Nat.le_refl _ | omega) | (simp only [World.size_alloc, World.size_setCell, World.size_drew, size_drewN']; omega)) _) | assumption))
        have hB : Blk w3 wr.heap.size [.int .i64 xm, .int .i64 p, .bool xw] 80 := by rw [hw3]; exact Blk.new wr _ _
        have hL3 := HL.out.up u3
        have U3 := Lib.hid (Up.trans HU.out u3)
        clear hw3 e0 e1 e2
        have b0 := hB.cell 0
        have b1 := hB.cell 1
        have b2 := hB.cell 2
        have c0 := hL3.cell 0
        have c1 := hL3.cell 1
        simp only [List.getElem?_cons_zero, List.getElem?_cons_succ] at b0 b1 b2 c0 c1
        refine region_tail (fun W' => W'.cell? ⟨wr.heap.size, 0, none⟩ = some (.int .i64 xm) ∧ W'.cell? ⟨wr.heap.size, 1, none⟩ = some (.int .i64 p) ∧ W'.cell? ⟨wr.heap.size, 2, none⟩ = some (.bool xw) ∧ W'.cell? ⟨bL, 0, none⟩ = some (.int .i64 z.1) ∧ W'.cell? ⟨bL, 1, none⟩ = some (.int .i64 z.2) ∧ Up w3 W') 5 mixed (by kernel_rfl) ⟨b0, b1, b2, c0, c1, (Below.refl _ _).drew⟩ (fun hHeld => ?_)
        refine wpAnyG_take 0 32 (v := ?_) rfl rfl (by kernel_rfl) (fun _ _ _ h => h) (Or.inl ⟨by rfl, ?_⟩) (by assumption) ?_
        rotate_left
        · (intro w' hSw; (try dsimp only at hSw); go_split_ands; go_simp; try with_reducible rfl)
        try simp only [List.setIfInBounds_toArray, List.set_cons_zero, List.set_cons_succ]
        refine wpAnyG_take 1 33 (v := ?_) rfl rfl (by kernel_rfl) (fun _ _ _ h => h) (Or.inl ⟨by rfl, ?_⟩) (by assumption) ?_
        rotate_left
        · (intro w' hSw; (try dsimp only at hSw); go_split_ands; go_simp; try with_reducible rfl)
        try simp only [List.setIfInBounds_toArray, List.set_cons_zero, List.set_cons_succ]
        refine wpAnyG_take 2 34 (v := ?_) rfl rfl (by kernel_rfl) (fun _ _ _ h => h) (Or.inl ⟨by rfl, ?_⟩) (by assumption) ?_
        rotate_left
        · (intro w' hSw; (try dsimp only at hSw); go_split_ands; go_simp; try with_reducible rfl)
        try simp only [List.setIfInBounds_toArray, List.set_cons_zero, List.set_cons_succ]
        refine wpAnyG_do 3 rfl (by kernel_rfl) (fun K hK => ?_)
        rw [if_pos (by rfl)]
        go_simp
        refine (truths_c bw s xm p xw _ (HW.out.up (Up.trans U3.out ((Below.refl _ _).drew))) HO.out hm hp8).mono ?_
        rintro e w4 ⟨rfl, u4⟩
        have u4' : Up w3 w4 := Up.trans ((Below.refl _ _).drew) u4
        refine hK.out _ _ ⟨u4'.cellAt b0, u4'.cellAt b1, u4'.cellAt b2, u4'.cellAt c0, u4'.cellAt c1, u4'⟩ (fun hHeld => ?_)
        clear hK K
        refine wpAnyG_do 4 rfl (by kernel_rfl) (fun K hK => ?_)
        rw [if_pos (by rfl)]
        go_simp
        refine (common_c _ _ _ _ _).mono ?_
        rintro e w5 ⟨rfl, u5⟩
        have u5' : Up w3 w5 := Up.trans u4' u5
        refine hK.out _ _ ⟨u5'.cellAt b0, u5'.cellAt b1, u5'.cellAt b2, u5'.cellAt c0, u5'.cellAt c1, u5'⟩ (fun hHeld => ?_)
        clear hK K
        have c5 := u5'.cellAt c0
        have c6 := u5'.cellAt c1
        have hL5 := hL3.up u5'
        have f5 := hL5.free
        have l5 := hL5.lt
        refine wpAnyG_tail (by kernel_rfl) ?_
        go_wp2
        go_roundw
        case rel =>
          have hT : lkOf s (s.lo, s.hi) l = lkOf s (com z (truV s (xm, ↑p, xw))) (l.drop (k + 1)) := by rw [HT.out, HDR.out]; rfl
          refine ⟨k + 1, com z (truV s (xm, ↑p, xw)), hlt, by go_num, hT, HZ.out.com NT.out, ?_, ?_⟩
          · have h := (hL5.set 0 (.int .i64 (com z (truV s (xm, ↑p, xw))).1)).set 1 (.int .i64 (com z (truV s (xm, ↑p, xw))).2)
            simpa only [List.set_cons_zero, List.set_cons_succ] using h
          · have h4 := Up.trans U3.out u5'
            repeat (first | (with_reducible exact h4) | (with_reducible refine Below.drew ?_) | (with_reducible refine Below.setCell ?_ (by simp only []; omega) _))
        case measure => simp [intOf]; omega
      · obtain rfl : k = l.length := by omega
        have hT : lkOf s (s.lo, s.hi) l = z := by rw [HT.out]; simp [lkOf]
        rw [hT] at HE
        have HTz := Lib.hid hT
        obtain ⟨za, zb⟩ := z
        obtain ⟨n1, n2, n3, n4⟩ := HZ.out
        have c0 := HL.out.cell 0
        have c1 := HL.out.cell 1
        dsimp only at n1 n2 n3 n4
        simp only [List.getElem?_cons_zero, List.getElem?_cons_succ] at c0 c1
        have U4 := Lib.hid (Up.trans U1.out HU.out)
        have hB := HB.out.up HU.out
        have q0 := hB.cell 0
        have q1 := hB.cell 1
        have fr := hB.free
        have lB := hB.lt
        simp only [List.getElem?_cons_zero, List.getElem?_cons_succ] at q0 q1
        have HBw := Lib.hid hB
        clear hT hB
        go_wp2_with fail
        refine (size_c za zb _ (by omega) (by omega) (by omega) (by omega)).mono ?_
        rintro e w3 ⟨rfl, u3⟩
        have U5 := Lib.hid (Up.trans U4.out u3)
        have hB3 := HBw.out.up u3
        have q2 := hB3.cell 0
        have q3 := hB3.cell 1
        have fr3 := hB3.free
        have lB3 := hB3.lt
        have c2 := u3.cellAt c0
        have c3 := u3.cellAt c1
        simp only [List.getElem?_cons_zero, List.getElem?_cons_succ] at q2 q3
        clear u3 c0 c1 q0 q1 fr lB
        by_cases hs : siz (za, zb) = 0
        · rw [if_pos hs] at HE
          have HV := Lib.hid (show looksV s l = (0, 0) by unfold looksV; rw [HE.out, if_neg (by decide)])
          rw [hs]
          go_wp2_with fail
          have p0 := (hB3.set 0 (.int .i64 0)).cell 0
          have p1 := ((hB3.set 0 (.int .i64 0)).set 1 (.int .i64 0)).cell 1
          simp only [List.set_cons_zero, List.set_cons_succ, List.getElem?_cons_zero, List.getElem?_cons_succ] at p0 p1
          refine bodyPost_ret (v := .tuple #[.agg #[.int .i64 0, .int .i64 0], .int .i64 7]) (by simp [results, Try.f54, go_sem, p0, p1]) rfl ⟨by rw [HV.out, HE.out], ?_⟩
          have h4 := U5.out
          repeat (first | (with_reducible exact h4) | (with_reducible refine Below.drew ?_) | (with_reducible refine Below.setCell ?_ (by simp only []; omega) _))
        · rw [if_neg hs] at HE
          have HV := Lib.hid (show looksV s l = (za, zb) by unfold looksV; rw [HE.out, if_pos rfl, HTz.out])
          go_wp2_with fail
          have p0 := (hB3.set 0 (.int .i64 za)).cell 0
          have p1 := ((hB3.set 0 (.int .i64 za)).set 1 (.int .i64 zb)).cell 1
          simp only [List.set_cons_zero, List.set_cons_succ, List.getElem?_cons_zero, List.getElem?_cons_succ] at p0 p1
          refine bodyPost_ret (v := .tuple #[.agg #[.int .i64 za, .int .i64 zb], .int .i64 0]) (by simp [results, Try.f54, go_sem, p0, p1]) rfl ⟨by rw [HV.out, HE.out], ?_⟩
          have h4 := U5.out
          repeat (first | (with_reducible exact h4) | (with_reducible refine Below.drew ?_) | (with_reducible refine Below.setCell ?_ (by simp only []; omega) _))
  · have hne : (errLooks s l != 0) = true := by rw [bne_iff_ne]; exact hE
    have HE := Lib.hid (show looksE s l = errLooks s l by unfold looksE; rw [if_neg hE])
    have HV := Lib.hid (show looksV s l = (0, 0) by unfold looksV; rw [HE.out, if_neg hE])
    clear hE
    unfold sdVal at *
    go_enter Try.func54, Try.ntmps54
    go_wp2_with fail
    refine Calls.world ?_
    intro w0 hw0
    have u0 : Up w w0 := by rw [hw0]; (repeat (first | exact Below.refl _ _ | (with_reducible refine Below.drewN' ?_ _) | (with_reducible refine Below.drew ?_) | (with_reducible refine Below.setCell ?_ (by first | exact Nat.le_refl _ | omega | (with_reducible (repeat (first | refine sz_alloc ?_ | refine sz_setCell ?_ | refine sz_drew ?_ | refine sz_drewN ?_)); first | exact Nat.le_refl _ | omega) | (simp only [World.size_alloc, World.size_setCell, World.size_drew, size_drewN']; omega)) _) | (with_reducible refine Below.alloc ?_ (by first | exact Nat.le_refl _ | omega | (with_reducible (repeat (first | refine sz_alloc ?_ | refine sz_setCell ?_ | refine sz_drew ?_ | refine sz_drewN ?_)); first | exact Nat.le_refl _ | omega) | (simp only [World.size_alloc, World.size_setCell, World.size_drew, size_drewN']; omega)) _) | assumption))
    have hB : Blk w0 (w.heap.size + 1) [.int .i64 0, .int .i64 0] 24 := by rw [hw0]; exact Blk.new' _ [.int .i64 0, .int .i64 0] _ (by simp)
    clear hw0
    refine (HC.out _ u0).mono ?_
    rintro e w1 ⟨p, rfl, u1, -⟩
    have hB1 := hB.up u1
    have U1 := Lib.hid (Up.trans u0 u1)
    have q0 := hB1.cell 0
    have q1 := hB1.cell 1
    have fr := hB1.free
    have lB := hB1.lt
    simp only [List.getElem?_cons_zero, List.getElem?_cons_succ] at q0 q1
    clear u1 u0 HC hB
    go_wp2_with fail
    have p0 := (hB1.set 0 (.int .i64 0)).cell 0
    have p1 := ((hB1.set 0 (.int .i64 0)).set 1 (.int .i64 0)).cell 1
    simp only [List.set_cons_zero, List.set_cons_succ, List.getElem?_cons_zero, List.getElem?_cons_succ] at p0 p1
    refine bodyPost_ret (v := .tuple #[.agg #[.int .i64 0, .int .i64 0], .int .i64 (errLooks s l)]) (by simp [results, Try.f54, go_sem, p0, p1]) rfl ⟨by rw [HV.out, HE.out], ?_⟩
    have h4 := U1.out
    repeat (first | (with_reducible exact h4) | (with_reducible refine Below.drew ?_) | (with_reducible refine Below.setCell ?_ (by simp only []; omega) _))
end
end Go.Proofs.Ytifcmbeejichdaa
/- Plain facts: the look that settles most. -/
namespace Go.Proofs.Ytifcmbeejichdaa
section
open Go.RowKit

/-- how many truths a look leaves at most, whatever is seen -/
def askMost (s : Sd) (m : Int) (p : Nat) : Int := max (siz (truV s (m, (p : Int), true))) (siz (s.lo, s.hi) - siz (truV s (m, (p : Int), true)))
def askOne (s : Sd) (m : Int) (z : Lk × Int) (p : Nat) : Lk × Int := if z.1 = (0, 0, false) ∨ askMost s m p < z.2 then ((m, (p : Int), true), askMost s m p) else z
def askRow (s : Sd) (m : Int) (z : Lk × Int) : Nat → Lk × Int
  | 0 => z
  | k + 1 => askOne s m (askRow s m z k) k
def askAll (s : Sd) : Nat → Lk × Int
  | 0 => ((0, 0, false), siz (s.lo, s.hi))
  | k + 1 => askRow s (firstM s.table + k) (askAll s k) s.floors.length
def askE (s : Sd) : Int := if chk s = 0 then (if siz (s.lo, s.hi) = 1 then 6 else 0) else chk s
def askV (s : Sd) : Lk × Int := if askE s = 0 then askAll s (dayN s) else ((0, 0, false), 0)

/-- the best of what has been looked at: the first of those that leave fewest -/
def Best (s : Sd) (seen : Int → Nat → Prop) (z : Lk × Int) : Prop :=
  (z = ((0, 0, false), siz (s.lo, s.hi)) ∧ ∀ m p, ¬ seen m p) ∨
  ∃ (m : Int) (p : Nat), z = ((m, (p : Int), true), askMost s m p) ∧ seen m p ∧ ∀ m' p', seen m' p' → askMost s m p ≤ askMost s m' p' ∧ (askMost s m p = askMost s m' p' → m < m' ∨ m = m' ∧ p ≤ p')

theorem Best.one {s : Sd} {seen seen' : Int → Nat → Prop} {z : Lk × Int} {m : Int} {p : Nat} (h : Best s seen z) (h1 : ∀ m' p', seen' m' p' ↔ seen m' p' ∨ m' = m ∧ p' = p) (h2 : ∀ m' p', seen m' p' → m' < m ∨ m' = m ∧ p' < p) :
    Best s seen' (askOne s m z p) := by
  rcases h with ⟨rfl, h0⟩ | ⟨m0, p0, rfl, hs, hb⟩
  · unfold askOne
    rw [if_pos (Or.inl rfl)]
    refine .inr ⟨m, p, rfl, (h1 _ _).2 (.inr ⟨rfl, rfl⟩), fun m' p' h => ?_⟩
    rcases (h1 _ _).1 h with h | ⟨rfl, rfl⟩
    · exact absurd h (h0 _ _)
    · exact ⟨Int.le_refl _, fun _ => .inr ⟨rfl, Nat.le_refl _⟩⟩
  · unfold askOne
    by_cases hc : askMost s m p < askMost s m0 p0
    · rw [if_pos (Or.inr hc)]
      refine .inr ⟨m, p, rfl, (h1 _ _).2 (.inr ⟨rfl, rfl⟩), fun m' p' h => ?_⟩
      rcases (h1 _ _).1 h with h | ⟨rfl, rfl⟩
      · have := (hb m' p' h).1
        exact ⟨by omega, fun e => by omega⟩
      · exact ⟨Int.le_refl _, fun _ => .inr ⟨rfl, Nat.le_refl _⟩⟩
    · rw [if_neg (fun h => by rcases h with h | h <;> first | (exact hc h) | (exact absurd (congrArg (fun t => t.2.2) h) (by simp)))]
      refine .inr ⟨m0, p0, rfl, (h1 _ _).2 (.inl hs), fun m' p' h => ?_⟩
      rcases (h1 _ _).1 h with h | ⟨rfl, rfl⟩
      · exact hb m' p' h
      · have := h2 m0 p0 hs
        exact ⟨by omega, fun _ => by omega⟩

theorem askRow_best {s : Sd} {seen : Int → Nat → Prop} {z : Lk × Int} {m : Int} (h : Best s seen z) (h2 : ∀ m' p', seen m' p' → m' < m) : ∀ k, Best s (fun m' p' => seen m' p' ∨ m' = m ∧ p' < k) (askRow s m z k)
  | 0 => by
    have : (fun m' p' => seen m' p' ∨ m' = m ∧ p' < 0) = seen := by funext a b; simp
    rw [this]; exact h
  | k + 1 => by
    refine (askRow_best h h2 k).one (fun m' p' => ?_) (fun m' p' h => ?_)
    · constructor
      · rintro (h | ⟨h, h'⟩)
        · exact .inl (.inl h)
        · by_cases e : p' = k
          · exact .inr ⟨h, e⟩
          · exact .inl (.inr ⟨h, by omega⟩)
      · rintro ((h | ⟨h, h'⟩) | ⟨h, h'⟩)
        · exact .inl h
        · exact .inr ⟨h, by omega⟩
        · exact .inr ⟨h, by omega⟩
    · rcases h with h | ⟨h, h'⟩
      · exact .inl (h2 _ _ h)
      · exact .inr ⟨h, h'⟩

theorem askAll_best (s : Sd) : ∀ k : Nat, Best s (fun m' p' => firstM s.table ≤ m' ∧ m' < firstM s.table + k ∧ p' < s.floors.length) (askAll s k)
  | 0 => .inl ⟨rfl, fun m p h => by omega⟩
  | k + 1 => by
    have h := askRow_best (m := firstM s.table + k) (askAll_best s k) (fun m' p' h => h.2.1) s.floors.length
    have e : (fun m' p' => (firstM s.table ≤ m' ∧ m' < firstM s.table + (k : Int) ∧ p' < s.floors.length) ∨ m' = firstM s.table + (k : Int) ∧ p' < s.floors.length) = (fun m' p' => firstM s.table ≤ m' ∧ m' < firstM s.table + ((k + 1 : Nat) : Int) ∧ p' < s.floors.length) := by
      funext a b
      apply propext
      constructor
      · rintro (⟨h1, h2, h3⟩ | ⟨h1, h2⟩)
        · exact ⟨h1, by omega, h3⟩
        · exact ⟨by omega, by omega, h2⟩
      · rintro ⟨h1, h2, h3⟩
        by_cases e : a = firstM s.table + k
        · exact .inr ⟨e, h3⟩
        · exact .inl ⟨h1, by omega, h3⟩
    rw [e] at h
    exact h

theorem siz_wind {s : Sd} (ok : Ok s) : siz (s.lo, s.hi) = s.hi - s.lo + 1 := by
  have := ok.lohi
  unfold siz
  dsimp only
  omega
/-- a look and its contrary part the truths -/
theorem siz_part {s : Sd} (ok : Ok s) (m p : Int) : siz (truV s (m, p, true)) + siz (truV s (m, p, false)) = siz (s.lo, s.hi) := by
  have b0 := ok.lo0
  have b1 := ok.hi1
  have b2 := ok.lohi
  rw [siz_wind ok]
  unfold truV siz com
  simp only [if_pos, Bool.false_eq_true, if_false]
  omega
theorem siz_nonneg (a : Int × Int) : 0 ≤ siz a := by unfold siz; omega
theorem truV_com {s : Sd} (x : Lk) : com (s.lo, s.hi) (truV s x) = truV s x := by
  unfold truV com
  split <;> (refine Prod.ext ?_ ?_ <;> dsimp only <;> omega)
theorem truV_in {s : Sd} (x : Lk) : s.lo ≤ (truV s x).1 ∧ (truV s x).2 ≤ s.hi := by
  unfold truV com
  split <;> dsimp only <;> omega
theorem askMost_two {s : Sd} (ok : Ok s) (m : Int) (p : Nat) : askMost s m p = max (siz (truV s (m, (p : Int), true))) (siz (truV s (m, (p : Int), false))) := by
  have := siz_part ok m p
  unfold askMost
  rw [show siz (s.lo, s.hi) - siz (truV s (m, (p : Int), true)) = siz (truV s (m, (p : Int), false)) by omega]
theorem ask_best {s : Sd} (ok : Ok s) : ∃ m p, askAll s (dayN s) = ((m, ((p : Nat) : Int), true), askMost s m p) ∧ inDay s m = true ∧ p < s.floors.length ∧
    ∀ m' p', inDay s m' = true → p' < s.floors.length → askMost s m p ≤ askMost s m' p' ∧ (askMost s m p = askMost s m' p' → m < m' ∨ m = m' ∧ p ≤ p') := by
  obtain ⟨f0, f1, f2⟩ := firstM_lt ok.table
  have hn : ((dayN s : Nat) : Int) = lastM s.table - firstM s.table + 1 := by unfold dayN; omega
  have hfl := ok.fl0
  rcases askAll_best s (dayN s) with ⟨-, h⟩ | ⟨m, p, h1, ⟨h2, h3, h4⟩, h5⟩
  · exact absurd ⟨Int.le_refl _, by omega, hfl⟩ (h (firstM s.table) 0)
  · refine ⟨m, p, h1, inB_true.2 ⟨h2, by omega⟩, h4, fun m' p' hm hp => h5 m' p' ?_⟩
    obtain ⟨i1, i2⟩ := inB_true.1 hm
    exact ⟨i1, by omega, hp⟩
theorem looks_one {s : Sd} (ok : Ok s) {m : Int} (hm : inDay s m = true) {p : Nat} (hp : p < s.floors.length) (b : Bool) :
    looksE s [(m, (p : Int), b)] = (if siz (truV s (m, (p : Int), b)) = 0 then 7 else 0) ∧ looksV s [(m, (p : Int), b)] = (if siz (truV s (m, (p : Int), b)) = 0 then (0, 0) else truV s (m, (p : Int), b)) := by
  have e1 : errLooks s [(m, (p : Int), b)] = 0 := by
    unfold errLooks
    rw [if_pos (chk_zero ok), if_neg (by simp)]
    simp only [lkErr]
    rw [hm, show isPl s (p : Int) = true from inB_true.2 ⟨by omega, by omega⟩]
    rfl
  have e2 : lkOf s (s.lo, s.hi) [(m, (p : Int), b)] = truV s (m, (p : Int), b) := by
    unfold lkOf
    simp only [List.foldl_cons, List.foldl_nil]
    exact truV_com _
  have e3 : looksE s [(m, (p : Int), b)] = (if siz (truV s (m, (p : Int), b)) = 0 then 7 else 0) := by
    unfold looksE
    rw [if_pos e1, e2]
  refine ⟨e3, ?_⟩
  unfold looksV
  rw [e3, e2]
  split
  · rw [if_neg (by decide)]
  · rw [if_pos rfl]
end
end Go.Proofs.Ytifcmbeejichdaa
/- The look that settles most: what the layer's search returns. -/
namespace Go.Proofs.Ytifcmbeejichdaa
open Go.RowKit Go.Shelf

def lkc (x : Lk) : List Value := [.int .i64 x.1, .int .i64 x.2.1, .bool x.2.2]
/-- none yet, or one that was wet -/
def AskOr (z : Lk × Int) : Prop := z.1 = (0, 0, false) ∨ z.1.2.2 = true
theorem askOne_or {s : Sd} {m : Int} {z : Lk × Int} {p : Nat} (h : AskOr z) : AskOr (askOne s m z p) := by
  unfold askOne
  split
  · exact .inr rfl
  · exact h
theorem askRow_or {s : Sd} {m : Int} {z : Lk × Int} (h : AskOr z) : ∀ k, AskOr (askRow s m z k)
  | 0 => h
  | k + 1 => askOne_or (askRow_or h k)
theorem askAll_or (s : Sd) : ∀ k, AskOr (askAll s k)
  | 0 => .inl rfl
  | k + 1 => askRow_or (askAll_or s k) _
theorem askMost_rng {s : Sd} (ok : Ok s) (m : Int) (p : Nat) : 0 ≤ askMost s m p ∧ askMost s m p ≤ 101 ∧ 0 ≤ siz (truV s (m, (p : Int), true)) ∧ siz (truV s (m, (p : Int), true)) ≤ 101 ∧ 0 ≤ siz (s.lo, s.hi) ∧ siz (s.lo, s.hi) ≤ 101 := by
  have h1 := siz_part ok m p
  have h2 := siz_wind ok
  have h3 := siz_nonneg (truV s (m, (p : Int), true))
  have h4 := siz_nonneg (truV s (m, (p : Int), false))
  have b0 := ok.lo0
  have b1 := ok.hi1
  unfold askMost
  omega
theorem askOne_rng {s : Sd} (ok : Ok s) {m : Int} {z : Lk × Int} {p : Nat} (h : 0 ≤ z.2 ∧ z.2 ≤ 101) : 0 ≤ (askOne s m z p).2 ∧ (askOne s m z p).2 ≤ 101 := by
  have := askMost_rng ok m p
  unfold askOne
  split
  · exact ⟨this.1, this.2.1⟩
  · exact h
theorem askRow_rng {s : Sd} (ok : Ok s) {m : Int} {z : Lk × Int} (h : 0 ≤ z.2 ∧ z.2 ≤ 101) : ∀ k, 0 ≤ (askRow s m z k).2 ∧ (askRow s m z k).2 ≤ 101
  | 0 => h
  | k + 1 => askOne_rng ok (askRow_rng ok h k)
theorem askAll_rng {s : Sd} (ok : Ok s) : ∀ k, 0 ≤ (askAll s k).2 ∧ (askAll s k).2 ≤ 101
  | 0 => by have := askMost_rng ok 0 0; exact ⟨this.2.2.2.2.1, this.2.2.2.2.2⟩
  | k + 1 => askRow_rng ok (askAll_rng ok k) _
section
variable {pT pF pS : Option Addr} {cT cF cS : Nat}
theorem size_t {a : Int × Int} (h : Near a) (w : World) : Calls Try.prog 117 #[.agg #[.int .i64 a.1, .int .i64 a.2]] w fun e w' => e = .returned (.int .i64 (siz a)) ∧ Up w w' := by
  obtain ⟨h1, h2, h3, h4⟩ := h
  exact size_c a.1 a.2 w (by omega) (by omega) (by omega) (by omega)
theorem wind_near {s : Sd} (ok : Ok s) : Near (s.lo, s.hi) := by have b0 := ok.lo0; have b1 := ok.hi1; have b2 := ok.lohi; exact ⟨by dsimp only; omega, by dsimp only; omega, by dsimp only; omega, by dsimp only; omega⟩

set_option maxRecDepth 100000 in
set_option maxHeartbeats 2000000 in
theorem ask_c (bw : Nat) (s : Sd) (w : World) (hw : IsWork w bw s pT pF pS cT cF cS) (ok : Ok s) :
    Calls Try.prog 118 #[.pointer (some ⟨bw, 0, none⟩)] w fun e w' => e = .returned (.tuple #[.agg #[.int .i64 (askAll s (dayN s)).1.1, .int .i64 (askAll s (dayN s)).1.2.1, .bool (askAll s (dayN s)).1.2.2], .int .i64 (askAll s (dayN s)).2]) ∧ Up w w' := by
  obtain ⟨hf0, hfl, hl9⟩ := firstM_lt ok.table
  obtain ⟨-, -, ht2, ht12⟩ := ok.table
  have hn : ((dayN s : Nat) : Int) = lastM s.table - firstM s.table + 1 := by unfold dayN; omega
  have hn9 : dayN s ≤ 1441 := by omega
  have s1 : IntKind.i64.wrap (lastM s.table - firstM s.table) = lastM s.table - firstM s.table := IntWalk.i64_in _ (by omega)
  have s2 : IntKind.i64.wrap (lastM s.table - firstM s.table + 1) = (dayN s : Nat) := by rw [IntWalk.i64_in _ (by omega)]; omega
  have hf8 := ok.fl1
  have HFI := Lib.hid (fun W (u : Up w W) => first_c bw s W (hw.sands.up u) ht2)
  have HLA := Lib.hid (fun W (u : Up w W) => last_c bw s W (hw.sands.up u) ht2 ht12)
  have HTR := Lib.hid (fun m (p : Nat) W (u : Up w W) (hm : firstM s.table ≤ m) (hp : p < 8) => truths_c bw s m p true W (hw.up u) ok hm hp)
  have hsz0 := fun W => size_t (w := W) (wind_near ok)
  obtain ⟨al, hal⟩ : ∃ al, siz (s.lo, s.hi) = al := ⟨_, rfl⟩
  rw [hal] at hsz0
  have HSZ := Lib.hid hsz0
  have HAL := Lib.hid hal
  clear hsz0 hal
  have OK := Lib.hid ok
  have q1 := hw.sands.s1
  have q2 := hw.sands.s2
  have q3 := hw.sands.s3
  have lb := cell_lt q1
  clear hw ok
  go_enter Try.func118, Try.ntmps118
  go_wp2_with fail
  refine Calls.world ?_
  intro w0 hw0
  have u0 : Up w w0 := by rw [hw0]; (repeat (first | exact Below.refl _ _ | (with_reducible refine Below.drewN' ?_ _) | (with_reducible refine Below.drew ?_) | (with_reducible refine Below.setCell ?_ (by first | exact Nat.le_refl _ | omega | (with_reducible (repeat (first | refine sz_alloc ?_ | refine sz_setCell ?_ | refine sz_drew ?_ | refine sz_drewN ?_)); first | exact Nat.le_refl _ | omega) | (simp only [World.size_alloc, World.size_setCell, World.size_drew, size_drewN']; omega)) _) | (with_reducible refine Below.alloc ?_ (by first | exact Nat.le_refl _ | omega | (with_reducible (repeat (first | refine sz_alloc ?_ | refine sz_setCell ?_ | refine sz_drew ?_ | refine sz_drewN ?_)); first | exact Nat.le_refl _ | omega) | (simp only [World.size_alloc, World.size_setCell, World.size_drew, size_drewN']; omega)) _) | assumption))
  have hR : Blk w0 w.heap.size [.int .i64 0, .int .i64 0, .bool false] 80 := by rw [hw0]; exact Blk.new _ _ _
  clear hw0
  refine (HSZ.out w0).mono ?_
  rintro e w1 ⟨rfl, u1⟩
  have U1 := Lib.hid (Up.trans u0 u1)
  have R1 := Lib.hid (hR.up u1)
  have lR := R1.out.lt
  clear u0 u1 hR
  go_wp2_with fail
  refine Calls.world ?_
  intro w2 hw2
  have u2 : Up w1 w2 := by rw [hw2]; (repeat (first | exact Below.refl _ _ | (with_reducible refine Below.drewN' ?_ _) | (with_reducible refine Below.drew ?_) | (with_reducible refine Below.setCell ?_ (by first | exact Nat.le_refl _ | omega | (with_reducible (repeat (first | refine sz_alloc ?_ | refine sz_setCell ?_ | refine sz_drew ?_ | refine sz_drewN ?_)); first | exact Nat.le_refl _ | omega) | (simp only [World.size_alloc, World.size_setCell, World.size_drew, size_drewN']; omega)) _) | (with_reducible refine Below.alloc ?_ (by first | exact Nat.le_refl _ | omega | (with_reducible (repeat (first | refine sz_alloc ?_ | refine sz_setCell ?_ | refine sz_drew ?_ | refine sz_drewN ?_)); first | exact Nat.le_refl _ | omega) | (simp only [World.size_alloc, World.size_setCell, World.size_drew, size_drewN']; omega)) _) | assumption))
  have hB : Blk w2 w1.heap.size [.int .i64 0, .int .i64 0, .bool false] 80 := by rw [hw2]; exact Blk.new _ _ _
  clear hw2
  refine (HLA.out w2 (Up.trans U1.out u2)).mono ?_
  rintro e w3 ⟨rfl, u3⟩
  have U3 := Lib.hid (Up.trans U1.out (Up.trans u2 u3))
  have R3 := Lib.hid (R1.out.up (Up.trans u2 u3))
  have B3 := Lib.hid (hB.up u3)
  clear u2 u3 hB U1 R1
  go_wp2_with fail
  refine (HFI.out w3 U3.out).mono ?_
  rintro e w4 ⟨rfl, u4⟩
  have U4 := Lib.hid (Up.trans U3.out u4)
  have R4 := Lib.hid (R3.out.up u4)
  have B4 := Lib.hid (B3.out.up u4)
  clear u4 U3 R3 B3
  obtain ⟨Bb, hBb⟩ : ∃ Bb, w1.heap.size = Bb := ⟨_, rfl⟩
  rw [hBb] at B4 lR ⊢
  clear hBb w1
  go_wp2_with fail
  rw [← hn]
  obtain ⟨n, hnn⟩ : ∃ n, dayN s = n := ⟨_, rfl⟩
  obtain ⟨a, ha⟩ : ∃ a, firstM s.table = a := ⟨_, rfl⟩
  rw [hnn] at hn hn9
  rw [ha] at hn hf0 hfl HFI HTR
  have HQ := Lib.hid (show lastM s.table = a + n - 1 by omega)
  have HL9 := Lib.hid hl9
  have HA := Lib.hid ha
  have HN := Lib.hid hnn
  simp only [hnn]
  clear s1 s2 hn hnn ha hfl hl9
  go_loopw [25, 6] (fun i f wr => ∃ k : Nat, k ≤ n ∧ i = .int .i64 k ∧ f = .int .i64 (askAll s k).2 ∧ Blk wr Bb (lkc (askAll s k).1) 80 ∧ Blk wr w.heap.size [.int .i64 0, .int .i64 0, .bool false] 80 ∧ Up w wr) (fun i _ _ => n - (intOf i).toNat)
  case atStart => exact ⟨0, Nat.zero_le _, rfl, by rw [← HAL.out]; rfl, B4.out, R4.out, U4.out⟩
  case round =>
    obtain ⟨k, hk, rfl, rfl, hb, hr, hu⟩ := hrel
    have HB := Lib.hid hb
    have HR := Lib.hid hr
    have HU := Lib.hid hu
    have q3' := hu.cellAt q3
    have lb' := cell_lt q3'
    clear hb hr hu
    by_cases hlt : k < n
    · have k1 : (k : Int) < n := by omega
      have b1 : a + k ≤ 1441 := by have := HL9.out; have := HQ.out; omega
      have hz := askAll_or s k
      have hzr := askAll_rng OK.out k
      have HE := Lib.hid (show askAll s (k + 1) = askRow s (a + k) (askAll s k) s.floors.length by rw [← HA.out]; rfl)
      generalize askAll s k = z at *
      have HZ := Lib.hid hz
      have HZR := Lib.hid hzr
      clear hz hzr
      go_wp2_with fail
      go_loopw [34, 6] (fun j f wy => ∃ p : Nat, p ≤ s.floors.length ∧ j = .int .i64 p ∧ f = .int .i64 (askRow s (a + k) z p).2 ∧ Blk wy Bb (lkc (askRow s (a + k) z p).1) 80 ∧ Blk wy w.heap.size [.int .i64 0, .int .i64 0, .bool false] 80 ∧ Up w wy) (fun j _ _ => s.floors.length - (intOf j).toNat)
      case atStart => exact ⟨0, Nat.zero_le _, rfl, rfl, HB.out, HR.out, HU.out⟩
      case round =>
        obtain ⟨p, hp, rfl, rfl, hb, hr, hu⟩ := hrel
        have Hb := Lib.hid hb
        have Hr := Lib.hid hr
        have Hu := Lib.hid hu
        clear hb hr hu
        by_cases hlp : p < s.floors.length
        · have p1 : (p : Int) < s.floors.length := by omega
          have hz := askRow_or (s := s) (m := a + k) HZ.out p
          have hzr := askRow_rng OK.out (m := a + k) HZR.out p
          have HE2 := Lib.hid (show askRow s (a + k) z (p + 1) = askOne s (a + k) (askRow s (a + k) z p) p from rfl)
          generalize askRow s (a + k) z p = y at *
          obtain ⟨⟨ym, yp, yw⟩, yn⟩ := y
          dsimp only at hzr
          have HY := Lib.hid hz
          have mr := askMost_rng OK.out (a + k) p
          rw [HAL.out] at mr
          have NT := Lib.hid (truV_near OK.out (a + k, (p : Int), true) (by rw [HA.out]; show a ≤ a + (k : Int); omega))
          have MS := Lib.hid (show askMost s (a + k) p = max (siz (truV s (a + k, (p : Int), true))) (al - siz (truV s (a + k, (p : Int), true))) by rw [← HAL.out]; rfl)
          have HT := Lib.hid (fun W (u : Up w W) => HTR.out (a + k) p W u (by omega) (by omega))
          generalize truV s (a + k, (p : Int), true) = tv at *
          clear hz
          have s3 : IntKind.i64.wrap (a + k) = a + k := IntWalk.i64_in _ (by omega)
          go_wp2_with fail
          refine (HFI.out _ Hu.out).mono ?_
          rintro e w5 ⟨rfl, u5⟩
          have U5 := Lib.hid (Up.trans Hu.out u5)
          have R5 := Lib.hid (Hr.out.up u5)
          have B5 := Lib.hid (Hb.out.up u5)
          clear u5 Hu Hr Hb
          go_wp2_with fail
          refine Calls.world ?_
          intro w6 hw6
          have u6 : Up w5 w6 := by rw [hw6]; (repeat (first | exact Below.refl _ _ | (with_reducible refine Below.drewN' ?_ _) | (with_reducible refine Below.drew ?_) | (with_reducible refine Below.setCell ?_ (by first | exact Nat.le_refl _ | omega | (with_reducible (repeat (first | refine sz_alloc ?_ | refine sz_setCell ?_ | refine sz_drew ?_ | refine sz_drewN ?_)); first | exact Nat.le_refl _ | omega) | (simp only [World.size_alloc, World.size_setCell, World.size_drew, size_drewN']; omega)) _) | (with_reducible refine Below.alloc ?_ (by first | exact Nat.le_refl _ | omega | (with_reducible (repeat (first | refine sz_alloc ?_ | refine sz_setCell ?_ | refine sz_drew ?_ | refine sz_drewN ?_)); first | exact Nat.le_refl _ | omega) | (simp only [World.size_alloc, World.size_setCell, World.size_drew, size_drewN']; omega)) _) | assumption))
          have L6 : Blk w6 w5.heap.size [.int .i64 (a + k), .int .i64 p, .bool true] 80 := by rw [hw6]; exact Blk.new _ _ _
          clear hw6
          refine (HT.out w6 (Up.trans U5.out u6)).mono ?_
          rintro e w7 ⟨rfl, u7⟩
          go_wp2_with fail
          refine (size_t NT.out w7).mono ?_
          rintro e w8 ⟨rfl, u8⟩
          have L8 := Lib.hid (L6.up (Up.trans u7 u8))
          have U8 := Lib.hid (Up.trans U5.out (Up.trans u6 (Up.trans u7 u8)))
          have R8 := Lib.hid (R5.out.up (Up.trans u6 (Up.trans u7 u8)))
          have B8 := Lib.hid (B5.out.up (Up.trans u6 (Up.trans u7 u8)))
          have sz5 : w5.heap.size ≠ Bb := by have := B5.out.lt; omega
          clear u6 u7 u8 L6 U5 R5 B5 HT NT s3
          generalize siz tv = g at *
          obtain ⟨X, hX⟩ : ∃ X, w5.heap.size = X := ⟨_, rfl⟩
          rw [hX] at L8 sz5 ⊢
          clear hX w5 w6 w7
          have s4 : IntKind.i64.wrap (al - g) = al - g := IntWalk.i64_in _ (by omega)
          have x0 := L8.out.cell 0
          have x1 := L8.out.cell 1
          have x2 := L8.out.cell 2
          have y0 := B8.out.cell 0
          have y1 := B8.out.cell 1
          have y2 := B8.out.cell 2
          have yf := B8.out.free
          have yl := B8.out.lt
          simp only [lkc, List.getElem?_cons_zero, List.getElem?_cons_succ] at x0 x1 x2 y0 y1 y2
          by_cases hm : g < al - g
          · have MM := Lib.hid (show askMost s (a + k) p = al - g by rw [MS.out]; omega)
            rcases HY.out with hy | hy
            · simp only [Prod.mk.injEq] at hy
              obtain ⟨rfl, rfl, rfl⟩ := hy
              have HE3 := Lib.hid (show askRow s (a + k) z (p + 1) = ((a + k, (p : Int), true), al - g) by rw [HE2.out]; unfold askOne; rw [if_pos (.inl rfl), MM.out])
              go_wp2_with fail
              go_roundw
              case rel =>
                refine ⟨p + 1, by omega, by go_num, by rw [HE3.out], ?_, (R8.out.other (by simp only []; omega) _ |>.other (by simp only []; omega) _).other (by simp only []; omega) _, ((U8.out.setCell (by simp only []; omega) _).setCell (by simp only []; omega) _).setCell (by simp only []; omega) _⟩
                rw [HE3.out]
                have h := ((B8.out.set 0 (.int .i64 (a + k))).set 1 (.int .i64 p)).set 2 (.bool true)
                simpa only [lkc, List.set_cons_zero, List.set_cons_succ] using h
              case measure => simp [intOf]; omega
            · have hy' : yw = true := hy
              subst hy'
              by_cases hc : al - g < yn
              · have HE3 := Lib.hid (show askRow s (a + k) z (p + 1) = ((a + k, (p : Int), true), al - g) by rw [HE2.out]; unfold askOne; rw [MM.out, if_pos (.inr hc)])
                go_wp2_with fail
                go_roundw
                case rel =>
                  refine ⟨p + 1, by omega, by go_num, by rw [HE3.out], ?_, (R8.out.other (by simp only []; omega) _ |>.other (by simp only []; omega) _).other (by simp only []; omega) _, ((U8.out.setCell (by simp only []; omega) _).setCell (by simp only []; omega) _).setCell (by simp only []; omega) _⟩
                  rw [HE3.out]
                  have h := ((B8.out.set 0 (.int .i64 (a + k))).set 1 (.int .i64 p)).set 2 (.bool true)
                  simpa only [lkc, List.set_cons_zero, List.set_cons_succ] using h
                case measure => simp [intOf]; omega
              · have HE3 := Lib.hid (show askRow s (a + k) z (p + 1) = ((ym, yp, true), yn) by rw [HE2.out]; unfold askOne; rw [MM.out, if_neg (fun h => by rcases h with h | h <;> first | (exact hc h) | (exact absurd (congrArg (fun t => t.2.2) h) (by simp)))])
                go_wp2_with fail
                go_roundw
                case rel => exact ⟨p + 1, by omega, by go_num, by rw [HE3.out], by rw [HE3.out]; exact B8.out, R8.out, U8.out⟩
                case measure => simp [intOf]; omega
          · have MM := Lib.hid (show askMost s (a + k) p = g by rw [MS.out]; omega)
            rcases HY.out with hy | hy
            · simp only [Prod.mk.injEq] at hy
              obtain ⟨rfl, rfl, rfl⟩ := hy
              have HE3 := Lib.hid (show askRow s (a + k) z (p + 1) = ((a + k, (p : Int), true), g) by rw [HE2.out]; unfold askOne; rw [if_pos (.inl rfl), MM.out])
              go_wp2_with fail
              go_roundw
              case rel =>
                refine ⟨p + 1, by omega, by go_num, by rw [HE3.out], ?_, (R8.out.other (by simp only []; omega) _ |>.other (by simp only []; omega) _).other (by simp only []; omega) _, ((U8.out.setCell (by simp only []; omega) _).setCell (by simp only []; omega) _).setCell (by simp only []; omega) _⟩
                rw [HE3.out]
                have h := ((B8.out.set 0 (.int .i64 (a + k))).set 1 (.int .i64 p)).set 2 (.bool true)
                simpa only [lkc, List.set_cons_zero, List.set_cons_succ] using h
              case measure => simp [intOf]; omega
            · have hy' : yw = true := hy
              subst hy'
              by_cases hc : g < yn
              · have HE3 := Lib.hid (show askRow s (a + k) z (p + 1) = ((a + k, (p : Int), true), g) by rw [HE2.out]; unfold askOne; rw [MM.out, if_pos (.inr hc)])
                go_wp2_with fail
                go_roundw
                case rel =>
                  refine ⟨p + 1, by omega, by go_num, by rw [HE3.out], ?_, (R8.out.other (by simp only []; omega) _ |>.other (by simp only []; omega) _).other (by simp only []; omega) _, ((U8.out.setCell (by simp only []; omega) _).setCell (by simp only []; omega) _).setCell (by simp only []; omega) _⟩
                  rw [HE3.out]
                  have h := ((B8.out.set 0 (.int .i64 (a + k))).set 1 (.int .i64 p)).set 2 (.bool true)
                  simpa only [lkc, List.set_cons_zero, List.set_cons_succ] using h
                case measure => simp [intOf]; omega
              · have HE3 := Lib.hid (show askRow s (a + k) z (p + 1) = ((ym, yp, true), yn) by rw [HE2.out]; unfold askOne; rw [MM.out, if_neg (fun h => by rcases h with h | h <;> first | (exact hc h) | (exact absurd (congrArg (fun t => t.2.2) h) (by simp)))])
                go_wp2_with fail
                go_roundw
                case rel => exact ⟨p + 1, by omega, by go_num, by rw [HE3.out], by rw [HE3.out]; exact B8.out, R8.out, U8.out⟩
                case measure => simp [intOf]; omega
        · obtain rfl : p = s.floors.length := by omega
          go_wp2_with fail
          go_roundw
          case rel => exact ⟨k + 1, by omega, by go_num, by rw [HE.out], by rw [HE.out]; exact Hb.out, Hr.out, Hu.out⟩
          case measure => simp [intOf]; omega
    · obtain rfl : k = n := by omega
      have y0 := HB.out.cell 0
      have y1 := HB.out.cell 1
      have y2 := HB.out.cell 2
      have r0 := HR.out.cell 0
      have r1 := HR.out.cell 1
      have r2 := HR.out.cell 2
      have rf := HR.out.free
      have rl := HR.out.lt
      generalize hz : askAll s k = z at *
      obtain ⟨⟨zm, zp, zw⟩, zn⟩ := z
      have HZ0 := Lib.hid hz
      clear hz
      simp only [lkc, List.getElem?_cons_zero, List.getElem?_cons_succ] at y0 y1 y2 r0 r1 r2
      go_wp2_with fail
      have h := ((HR.out.set 0 (.int .i64 zm)).set 1 (.int .i64 zp)).set 2 (.bool zw)
      have p0 := h.cell 0
      have p1 := h.cell 1
      have p2 := h.cell 2
      simp only [List.set_cons_zero, List.set_cons_succ, List.getElem?_cons_zero, List.getElem?_cons_succ] at p0 p1 p2
      have pl := h.lt
      refine bodyPost_ret (v := .tuple #[.agg #[.int .i64 zm, .int .i64 zp, .bool zw], .int .i64 zn]) (by simp [results, Try.f118, go_sem, p0, p1, p2]) rfl ⟨by rw [HN.out, HZ0.out], ?_⟩
      exact ((HU.out.setCell (by simp only []; omega) _).setCell (by simp only []; omega) _).setCell (by simp only []; omega) _

set_option maxRecDepth 100000 in
set_option maxHeartbeats 1000000 in
theorem Ask_c (s : Sd) (w : World) (hl : Lists w s pT pF pS cT cF cS) :
    Calls Try.prog 48 #[sdVal s pT pF pS cT cF cS] w fun e w' => e = .returned (.tuple #[.agg #[.int .i64 (askV s).1.1, .int .i64 (askV s).1.2.1, .bool (askV s).1.2.2], .int .i64 (askV s).2, .int .i64 (askE s)]) ∧ Up w w' := by
  have HC := Lib.hid (fun W (u : Up w W) => begin_c s W pT pF pS cT cF cS (hl.up u))
  clear hl
  by_cases hc : chk s = 0
  · have OK := Lib.hid (chk_ok hc)
    have HE := Lib.hid (show askE s = if siz (s.lo, s.hi) = 1 then 6 else 0 by unfold askE; rw [if_pos hc])
    rw [hc] at HC
    clear hc
    unfold sdVal at *
    go_enter Try.func48, Try.ntmps48
    go_wp2_with fail
    refine Calls.world ?_
    intro w0 hw0
    have u0 : Up w w0 := by rw [hw0]; (repeat (first | exact Below.refl _ _ | (with_reducible refine Below.drewN' ?_ _) | (with_reducible refine Below.drew ?_) | (with_reducible refine Below.setCell ?_ (by first | exact Nat.le_refl _ | omega | (with_reducible (repeat (first | refine sz_alloc ?_ | refine sz_setCell ?_ | refine sz_drew ?_ | refine sz_drewN ?_)); first | exact Nat.le_refl _ | omega) | (simp only [World.size_alloc, World.size_setCell, World.size_drew, size_drewN']; omega)) _) | (with_reducible refine Below.alloc ?_ (by first | exact Nat.le_refl _ | omega | (with_reducible (repeat (first | refine sz_alloc ?_ | refine sz_setCell ?_ | refine sz_drew ?_ | refine sz_drewN ?_)); first | exact Nat.le_refl _ | omega) | (simp only [World.size_alloc, World.size_setCell, World.size_drew, size_drewN']; omega)) _) | assumption))
    have hR : Blk w0 (w.heap.size + 1) [.int .i64 0, .int .i64 0, .bool false] 80 := by rw [hw0]; exact Blk.new' _ [.int .i64 0, .int .i64 0, .bool false] _ (by simp)
    clear hw0
    refine (HC.out _ u0).mono ?_
    rintro e w1 ⟨p, rfl, u1, hok⟩
    obtain ⟨bw, rfl, hW⟩ := hok rfl
    have U1 := Lib.hid (Up.trans u0 u1)
    have HW := Lib.hid hW
    have HB := Lib.hid (hR.up u1)
    have d1 := hW.sands.s1
    have d2 := hW.sands.s2
    clear hok hW u1 u0 HC hR
    go_wp2_with fail
    refine (size_t (wind_near OK.out) _).mono ?_
    rintro e w2 ⟨rfl, u2⟩
    have U2 := Lib.hid (Up.trans U1.out u2)
    have HW2 := Lib.hid (HW.out.up u2)
    have hB := HB.out.up u2
    have q0 := hB.cell 0
    have q1 := hB.cell 1
    have q2 := hB.cell 2
    have fr := hB.free
    have lB := hB.lt
    simp only [List.getElem?_cons_zero, List.getElem?_cons_succ] at q0 q1 q2
    have HB2 := Lib.hid hB
    clear hB u2 d1 d2 HB HW U1
    by_cases h1 : siz (s.lo, s.hi) = 1
    · have HV := Lib.hid (show askV s = ((0, 0, false), 0) by unfold askV; rw [HE.out, if_pos h1, if_neg (by decide)])
      rw [if_pos h1] at HE
      go_wp2_with fail
      have h := ((HB2.out.set 0 (.int .i64 0)).set 1 (.int .i64 0)).set 2 (.bool false)
      have p0 := h.cell 0
      have p1 := h.cell 1
      have p2 := h.cell 2
      simp only [List.set_cons_zero, List.set_cons_succ, List.getElem?_cons_zero, List.getElem?_cons_succ] at p0 p1 p2
      refine bodyPost_ret (v := .tuple #[.agg #[.int .i64 0, .int .i64 0, .bool false], .int .i64 0, .int .i64 6]) (by simp [results, Try.f48, go_sem, p0, p1, p2]) rfl ⟨by rw [HV.out, HE.out], ?_⟩
      exact ((U2.out.setCell (by simp only []; omega) _).setCell (by simp only []; omega) _).setCell (by simp only []; omega) _
    · have HV := Lib.hid (show askV s = askAll s (dayN s) by unfold askV; rw [HE.out, if_neg h1, if_pos rfl])
      rw [if_neg h1] at HE
      have h1' : (siz (s.lo, s.hi) == 1) = false := by simpa using h1
      go_wp2_with fail
      refine (ask_c bw s _ HW2.out OK.out).mono ?_
      rintro e w3 ⟨rfl, u3⟩
      rw [← HV.out]
      generalize hz : askV s = z at *
      obtain ⟨⟨zm, zp, zw⟩, zn⟩ := z
      have U3 := Lib.hid (Up.trans U2.out u3)
      have hB := HB2.out.up u3
      have q0' := hB.cell 0
      have q1' := hB.cell 1
      have q2' := hB.cell 2
      have fr' := hB.free
      have lB' := hB.lt
      simp only [List.getElem?_cons_zero, List.getElem?_cons_succ] at q0' q1' q2'
      have HB3 := Lib.hid hB
      have HZ := Lib.hid hz
      clear hB u3 q0 q1 q2 fr HV hz
      go_wp2_with fail
      have h := (((HB3.out.set 0 (.int .i64 zm)).set 1 (.int .i64 zp)).set 2 (.bool zw)).alloc (.cells #[.int .i64 zm, .int .i64 zp, .bool zw] 80)
      have p0 := h.cell 0
      have p1 := h.cell 1
      have p2 := h.cell 2
      simp only [List.set_cons_zero, List.set_cons_succ, List.getElem?_cons_zero, List.getElem?_cons_succ] at p0 p1 p2
      refine bodyPost_ret (v := .tuple #[.agg #[.int .i64 zm, .int .i64 zp, .bool zw], .int .i64 zn, .int .i64 0]) (by simp [results, Try.f48, go_sem, p0, p1, p2]) rfl ⟨by rw [HE.out, HZ.out], ?_⟩
      have hU := U3.out
      (repeat (first | exact Below.refl _ _ | (with_reducible refine Below.drewN' ?_ _) | (with_reducible refine Below.drew ?_) | (with_reducible refine Below.setCell ?_ (by first | exact Nat.le_refl _ | omega | (with_reducible (repeat (first | refine sz_alloc ?_ | refine sz_setCell ?_ | refine sz_drew ?_ | refine sz_drewN ?_)); first | exact Nat.le_refl _ | omega) | (simp only []; omega)) _) | (with_reducible refine Below.alloc ?_ (by first | exact Nat.le_refl _ | omega | (with_reducible (repeat (first | refine sz_alloc ?_ | refine sz_setCell ?_ | refine sz_drew ?_ | refine sz_drewN ?_)); first | exact Nat.le_refl _ | omega) | (simp only []; omega)) _) | assumption))
  · have hne : (chk s != 0) = true := by rw [bne_iff_ne]; exact hc
    have HE := Lib.hid (show askE s = chk s by unfold askE; rw [if_neg hc])
    have HV := Lib.hid (show askV s = ((0, 0, false), 0) by unfold askV; rw [HE.out, if_neg hc])
    clear hc
    unfold sdVal at *
    go_enter Try.func48, Try.ntmps48
    go_wp2_with fail
    refine Calls.world ?_
    intro w0 hw0
    have u0 : Up w w0 := by rw [hw0]; (repeat (first | exact Below.refl _ _ | (with_reducible refine Below.drewN' ?_ _) | (with_reducible refine Below.drew ?_) | (with_reducible refine Below.setCell ?_ (by first | exact Nat.le_refl _ | omega | (with_reducible (repeat (first | refine sz_alloc ?_ | refine sz_setCell ?_ | refine sz_drew ?_ | refine sz_drewN ?_)); first | exact Nat.le_refl _ | omega) | (simp only [World.size_alloc, World.size_setCell, World.size_drew, size_drewN']; omega)) _) | (with_reducible refine Below.alloc ?_ (by first | exact Nat.le_refl _ | omega | (with_reducible (repeat (first | refine sz_alloc ?_ | refine sz_setCell ?_ | refine sz_drew ?_ | refine sz_drewN ?_)); first | exact Nat.le_refl _ | omega) | (simp only [World.size_alloc, World.size_setCell, World.size_drew, size_drewN']; omega)) _) | assumption))
    have hR : Blk w0 (w.heap.size + 1) [.int .i64 0, .int .i64 0, .bool false] 80 := by rw [hw0]; exact Blk.new' _ [.int .i64 0, .int .i64 0, .bool false] _ (by simp)
    clear hw0
    refine (HC.out _ u0).mono ?_
    rintro e w1 ⟨p, rfl, u1, -⟩
    have U1 := Lib.hid (Up.trans u0 u1)
    have hB := hR.up u1
    have q0 := hB.cell 0
    have q1 := hB.cell 1
    have q2 := hB.cell 2
    have fr := hB.free
    have lB := hB.lt
    simp only [List.getElem?_cons_zero, List.getElem?_cons_succ] at q0 q1 q2
    have HB := Lib.hid hB
    clear u1 u0 HC hR hB
    go_wp2_with fail
    have h := ((HB.out.set 0 (.int .i64 0)).set 1 (.int .i64 0)).set 2 (.bool false)
    have p0 := h.cell 0
    have p1 := h.cell 1
    have p2 := h.cell 2
    simp only [List.set_cons_zero, List.set_cons_succ, List.getElem?_cons_zero, List.getElem?_cons_succ] at p0 p1 p2
    refine bodyPost_ret (v := .tuple #[.agg #[.int .i64 0, .int .i64 0, .bool false], .int .i64 0, .int .i64 (chk s)]) (by simp [results, Try.f48, go_sem, p0, p1, p2]) rfl ⟨by rw [HV.out, HE.out], ?_⟩
    exact ((U1.out.setCell (by simp only []; omega) _).setCell (by simp only []; omega) _).setCell (by simp only []; omega) _
end
end Go.Proofs.Ytifcmbeejichdaa
/- The reference's Gate, Gates, Heights and Ask. -/
namespace Go.Proofs.Ytifcmbeejichdaa
open Go.RowKit Go.Shelf

section
variable {pT pF pS : Option Addr} {cT cF cS : Nat}
set_option maxRecDepth 100000 in
set_option maxHeartbeats 1000000 in
theorem refGate_c (s : Sd) (p : Nat) (w : World) (ok : Ok s) (hl : Lists w s pT pF pS cT cF cS) (hp : p < s.floors.length) :
    Calls Try.prog 29 #[sdVal s pT pF pS cT cF cS, .int .i64 p] w fun e w' => e = .returned (.int .i64 (gateR s p)) ∧ Up w w' := by
  have HG := Lib.hid (low_gate ok p hp)
  have HL := Lib.hid (fun W (u : Up w W) => refLeast_c s p [] [] none none 0 0 W ok (hl.up u) (Row.nil _ _ _) (Row.nil _ _ _) (by simp) (by simp) hp)
  clear hl
  unfold sdVal at *
  go_enter Try.func29, Try.ntmps29
  go_wp2_with fail
  refine (HL.out _ (by (repeat (first | exact Below.refl _ _ | (with_reducible refine Below.drewN' ?_ _) | (with_reducible refine Below.drew ?_) | (with_reducible refine Below.setCell ?_ (by first | exact Nat.le_refl _ | omega | (with_reducible (repeat (first | refine sz_alloc ?_ | refine sz_setCell ?_ | refine sz_drew ?_ | refine sz_drewN ?_)); first | exact Nat.le_refl _ | omega) | (simp only [World.size_alloc, World.size_setCell, World.size_drew, size_drewN']; omega)) _) | (with_reducible refine Below.alloc ?_ (by first | exact Nat.le_refl _ | omega | (with_reducible (repeat (first | refine sz_alloc ?_ | refine sz_setCell ?_ | refine sz_drew ?_ | refine sz_drewN ?_)); first | exact Nat.le_refl _ | omega) | (simp only [World.size_alloc, World.size_setCell, World.size_drew, size_drewN']; omega)) _) | assumption)))).mono ?_
  rintro e w1 ⟨rfl, u1⟩
  rw [HG.out]
  have U1 := Lib.hid (Up.trans (show Up w (w.alloc (.cells (sdCells s pT pF pS cT cF cS).toArray 37)) by (repeat (first | exact Below.refl _ _ | (with_reducible refine Below.drewN' ?_ _) | (with_reducible refine Below.drew ?_) | (with_reducible refine Below.setCell ?_ (by first | exact Nat.le_refl _ | omega | (with_reducible (repeat (first | refine sz_alloc ?_ | refine sz_setCell ?_ | refine sz_drew ?_ | refine sz_drewN ?_)); first | exact Nat.le_refl _ | omega) | (simp only [World.size_alloc, World.size_setCell, World.size_drew, size_drewN']; omega)) _) | (with_reducible refine Below.alloc ?_ (by first | exact Nat.le_refl _ | omega | (with_reducible (repeat (first | refine sz_alloc ?_ | refine sz_setCell ?_ | refine sz_drew ?_ | refine sz_drewN ?_)); first | exact Nat.le_refl _ | omega) | (simp only [World.size_alloc, World.size_setCell, World.size_drew, size_drewN']; omega)) _) | assumption))) u1)
  clear u1
  go_wp2_with fail
  go_ret
  exact ⟨rfl, U1.out⟩

/-- the gates of all places as the reference has them -/
def gatesR (s : Sd) : List Int := (List.range s.floors.length).map (gateR s)
theorem gatesR_len (s : Sd) : (gatesR s).length = s.floors.length := by simp [gatesR]
set_option maxRecDepth 100000 in
set_option maxHeartbeats 1000000 in
theorem refGates_c (s : Sd) (w : World) (ok : Ok s) (hl : Lists w s pT pF pS cT cF cS) :
    Calls Try.prog 39 #[sdVal s pT pF pS cT cF cS] w fun e w' => ∃ q d, e = .returned (.slice q (gatesR s).length d) ∧ (gatesR s).length ≤ d ∧ d ≤ maxLen ∧ Row w' q 1 (ints (gatesR s)) ∧ Up w w' := by
  have f8 := ok.fl1
  have HL := Lib.hid (fun (p : Nat) W (u : Up w W) (hp : p < s.floors.length) => refGate_c s p W ok (hl.up u) hp)
  obtain ⟨i0, hi, hz0, hz1, hz2⟩ := info_parts info3
  clear hl
  rw [gatesR_len]
  unfold sdVal at *
  go_enter Try.func39, Try.ntmps39
  go_wp2_with fail
  have BS : Hid (Blk (w.alloc (.cells #[.slice pT s.table.length cT, .int .i64 s.lo, .int .i64 s.hi, .slice pF s.floors.length cF, .slice pS s.sills.length cS] 37)) w.heap.size (sdCells s pT pF pS cT cF cS) 37) := Lib.hid (Blk.new w (sdCells s pT pF pS cT cF cS) 37)
  have U0 : Hid (Up w (w.alloc (.cells #[.slice pT s.table.length cT, .int .i64 s.lo, .int .i64 s.hi, .slice pF s.floors.length cF, .slice pS s.sills.length cS] 37))) := Lib.hid (by (repeat (first | exact Below.refl _ _ | (with_reducible refine Below.drewN' ?_ _) | (with_reducible refine Below.drew ?_) | (with_reducible refine Below.setCell ?_ (by first | exact Nat.le_refl _ | omega | (with_reducible (repeat (first | refine sz_alloc ?_ | refine sz_setCell ?_ | refine sz_drew ?_ | refine sz_drewN ?_)); first | exact Nat.le_refl _ | omega) | (simp only [World.size_alloc, World.size_setCell, World.size_drew, size_drewN']; omega)) _) | (with_reducible refine Below.alloc ?_ (by first | exact Nat.le_refl _ | omega | (with_reducible (repeat (first | refine sz_alloc ?_ | refine sz_setCell ?_ | refine sz_drew ?_ | refine sz_drewN ?_)); first | exact Nat.le_refl _ | omega) | (simp only [World.size_alloc, World.size_setCell, World.size_drew, size_drewN']; omega)) _) | assumption)))
  generalize (w.alloc (.cells #[.slice pT s.table.length cT, .int .i64 s.lo, .int .i64 s.hi, .slice pF s.floors.length cF, .slice pS s.sills.length cS] 37)) = w0 at *
  go_loopw [4, 3] (fun i v wr => ∃ k : Nat, k ≤ s.floors.length ∧ i = .int .i64 k ∧ wr.ownsRow w0.heap.size 3 1 v k (ints ((List.range k).map (gateR s))).flatten ∧ Up w0 wr) (fun i _ _ => s.floors.length - (intOf i).toNat)
  case atStart => exact ⟨0, by omega, rfl, World.ownsRow_nil _ _ _ _, Below.refl _ _⟩
  case round =>
    obtain ⟨k, hk, rfl, hown, hu⟩ := hrel
    have HO := Lib.hid hown
    have HU := Lib.hid hu
    obtain ⟨c0, c1, c2, c3, c4⟩ := five (BS.out.up hu)
    clear hown hu
    by_cases hlt : k < s.floors.length
    · have k1 : (k : Int) < s.floors.length := by omega
      go_wp2_with fail
      refine (HL.out k wr (Up.trans U0.out HU.out) hlt).mono ?_
      rintro e w2 ⟨rfl, u2⟩
      have O2 := Lib.hid (ownsRow_up HO.out u2)
      have U2 := Lib.hid (Up.trans HU.out u2)
      have hsz := U2.out.size
      clear u2 HO HU c0 c1 c2 c3 c4
      go_wp2_with (at_builtin; refine wpList_append_own _ rfl _ _ 25 rfl w0.heap.size 3 i0 (.int .i64 0) 1 8 Try.underlying25 hi hz0 hz1 hz2 rfl (by decide) _ _ _ rfl (O2.out.alloc _) ⟨w2.heap.size, 0, none⟩ 1 1 [.int .i64 (gateR s k)] rfl rfl (newsAt _ rfl [.int .i64 (gateR s k)] _) (by simp [Value.oneCell']) (by simp [maxLen]; omega) (by omega) (sz_alloc hsz) ?_; intro v' w8 hown8 hgr8 hnn; clear hnn)
      have U8 := Lib.hid ((U2.out.alloc hsz _).grown hgr8 (sz_alloc hsz) (fun j e => (O2.out.lt j e).1))
      have O8 := Lib.hid hown8
      clear hown8 hgr8
      go_roundw
      case rel =>
        try ((repeat apply Exists.intro); refine ⟨?_, rfl⟩)
        refine ⟨k + 1, by omega, by go_num, ?_, U8.out⟩
        have e : (ints ((List.range (k + 1)).map (gateR s))).flatten = (ints ((List.range k).map (gateR s))).flatten ++ [.int .i64 (gateR s k)] := by
          rw [List.range_succ, List.map_append]
          unfold ints
          rw [List.map_append, List.flatten_append]
          rfl
        rw [e]
        exact O8.out
      case measure => simp [intOf]; omega
    · obtain rfl : k = s.floors.length := by omega
      obtain ⟨q, d, rfl, a1, a2, hR, -⟩ := Row.of_own (rows := ints (gatesR s)) (flatOk_ints _) HO.out (by simp [ints, gatesR])
      go_wp2_with fail
      go_ret
      exact ⟨q, d, rfl, a1, a2, hR, Up.trans U0.out HU.out⟩

/-- the heights of all minutes of the day -/
def heightsR (s : Sd) : List Int := (List.range (dayN s)).map fun i => hgt s.table (firstM s.table + (i : Nat))
theorem heightsR_len (s : Sd) : (heightsR s).length = dayN s := by simp [heightsR]
set_option maxRecDepth 100000 in
set_option maxHeartbeats 1000000 in
theorem refHeights_c (s : Sd) (w : World) (ok : Ok s) (hl : Lists w s pT pF pS cT cF cS) :
    Calls Try.prog 114 #[sdVal s pT pF pS cT cF cS] w fun e w' => ∃ q d, e = .returned (.slice q (heightsR s).length d) ∧ (heightsR s).length ≤ d ∧ d ≤ maxLen ∧ Row w' q 1 (ints (heightsR s)) ∧ (∀ b off, q = some ⟨b, off, none⟩ → w.heap.size ≤ b) ∧ Up w w' := by
  obtain ⟨f0, f1, f2⟩ := firstM_lt ok.table
  have hn : ((dayN s : Nat) : Int) = lastM s.table - firstM s.table + 1 := by unfold dayN; omega
  have HF := Lib.hid (fun W (u : Up w W) => refFirst_c s W (hl.up u) ok.table.2.2.1)
  have HA := Lib.hid (fun W (u : Up w W) => refLast_c s W (hl.up u) ok.table.2.2.1 ok.table.2.2.2)
  have HH := Lib.hid (fun m W (u : Up w W) (h1 : firstM s.table ≤ m) (h2 : m ≤ lastM s.table) => refHeight_c s m W (hl.up u) ok.table h1 h2)
  obtain ⟨i0, hi, hz0, hz1, hz2⟩ := info_parts info3
  clear hl ok
  rw [heightsR_len]
  unfold sdVal at *
  go_enter Try.func114, Try.ntmps114
  go_wp2_with fail
  have BS : Hid (Blk (w.alloc (.cells #[.slice pT s.table.length cT, .int .i64 s.lo, .int .i64 s.hi, .slice pF s.floors.length cF, .slice pS s.sills.length cS] 37)) w.heap.size (sdCells s pT pF pS cT cF cS) 37) := Lib.hid (Blk.new w (sdCells s pT pF pS cT cF cS) 37)
  have U0 : Hid (Up w (w.alloc (.cells #[.slice pT s.table.length cT, .int .i64 s.lo, .int .i64 s.hi, .slice pF s.floors.length cF, .slice pS s.sills.length cS] 37))) := Lib.hid (by (repeat (first | exact Below.refl _ _ | (with_reducible refine Below.drewN' ?_ _) | (with_reducible refine Below.drew ?_) | (with_reducible refine Below.setCell ?_ (by first | exact Nat.le_refl _ | omega | (with_reducible (repeat (first | refine sz_alloc ?_ | refine sz_setCell ?_ | refine sz_drew ?_ | refine sz_drewN ?_)); first | exact Nat.le_refl _ | omega) | (simp only [World.size_alloc, World.size_setCell, World.size_drew, size_drewN']; omega)) _) | (with_reducible refine Below.alloc ?_ (by first | exact Nat.le_refl _ | omega | (with_reducible (repeat (first | refine sz_alloc ?_ | refine sz_setCell ?_ | refine sz_drew ?_ | refine sz_drewN ?_)); first | exact Nat.le_refl _ | omega) | (simp only [World.size_alloc, World.size_setCell, World.size_drew, size_drewN']; omega)) _) | assumption)))
  generalize (w.alloc (.cells #[.slice pT s.table.length cT, .int .i64 s.lo, .int .i64 s.hi, .slice pF s.floors.length cF, .slice pS s.sills.length cS] 37)) = w0 at *
  refine (HF.out w0 U0.out).mono ?_
  rintro e w1 ⟨rfl, u1⟩
  have U1 := Lib.hid u1
  have hs1 := u1.size
  clear u1
  go_wp2_with fail
  go_loopw [4, 3] (fun i v wr => ∃ k : Nat, k ≤ dayN s ∧ i = .int .i64 (firstM s.table + k) ∧ wr.ownsRow w0.heap.size 3 1 v k (ints ((List.range k).map fun i => hgt s.table (firstM s.table + (i : Nat)))).flatten ∧ Up w0 wr) (fun i _ _ => (lastM s.table + 1 - intOf i).toNat)
  case atStart => exact ⟨0, by omega, by simp, World.ownsRow_nil _ _ _ _, U1.out⟩
  case round =>
    obtain ⟨k, hk, rfl, hown, hu⟩ := hrel
    have HO := Lib.hid hown
    have HU := Lib.hid hu
    obtain ⟨c0, c1, c2, c3, c4⟩ := five (BS.out.up hu)
    clear hown hu
    go_wp2_with fail
    refine (HA.out wr (Up.trans U0.out HU.out)).mono ?_
    rintro e w2 ⟨rfl, u2⟩
    have O2 := Lib.hid (ownsRow_up HO.out u2)
    have U2 := Lib.hid (Up.trans HU.out u2)
    clear u2 HO HU c0 c1 c2 c3 c4
    obtain ⟨c0, c1, c2, c3, c4⟩ := five (BS.out.up U2.out)
    by_cases hlt : k < dayN s
    · have k1 : firstM s.table + (k : Int) ≤ lastM s.table := by omega
      go_wp2_with fail
      refine (HH.out (firstM s.table + k) w2 (Up.trans U0.out U2.out) (by omega) k1).mono ?_
      rintro e w3 ⟨rfl, u3⟩
      have O3 := Lib.hid (ownsRow_up O2.out u3)
      have U3 := Lib.hid (Up.trans U2.out u3)
      have hsz := U3.out.size
      clear u3 O2 U2 c0 c1 c2 c3 c4
      have sy : IntKind.i64.wrap (firstM s.table + k + 1) = firstM s.table + k + 1 := IntWalk.i64_in _ (by omega)
      go_wp2_with (at_builtin; refine wpList_append_own _ rfl _ _ 25 rfl w0.heap.size 3 i0 (.int .i64 0) 1 8 Try.underlying25 hi hz0 hz1 hz2 rfl (by decide) _ _ _ rfl (O3.out.alloc _) ⟨w3.heap.size, 0, none⟩ 1 1 [.int .i64 (hgt s.table (firstM s.table + k))] rfl rfl (newsAt _ rfl [.int .i64 (hgt s.table (firstM s.table + k))] _) (by simp [Value.oneCell']) (by simp [maxLen]; omega) (by omega) (sz_alloc hsz) ?_; intro v' w8 hown8 hgr8 hnn; clear hnn)
      have U8 := Lib.hid ((U3.out.alloc hsz _).grown hgr8 (sz_alloc hsz) (fun j e => (O3.out.lt j e).1))
      have O8 := Lib.hid hown8
      clear hown8 hgr8
      go_roundw
      case rel =>
        try ((repeat apply Exists.intro); refine ⟨?_, rfl⟩)
        refine ⟨k + 1, by omega, by rw [show firstM s.table + (k : Int) + 1 = firstM s.table + ((k + 1 : Nat) : Int) by omega], ?_, U8.out⟩
        have e : (ints ((List.range (k + 1)).map fun i => hgt s.table (firstM s.table + (i : Nat)))).flatten = (ints ((List.range k).map fun i => hgt s.table (firstM s.table + (i : Nat)))).flatten ++ [.int .i64 (hgt s.table (firstM s.table + k))] := by
          rw [List.range_succ, List.map_append]
          unfold ints
          rw [List.map_append, List.flatten_append]
          rfl
        rw [e]
        exact O8.out
      case measure => simp [intOf]; omega
    · obtain rfl : k = dayN s := by omega
      obtain ⟨q, d, rfl, a1, a2, hR, hge⟩ := Row.of_own (rows := ints (heightsR s)) (flatOk_ints _) O2.out (by simp [ints, heightsR])
      have k1 : ¬ firstM s.table + ((dayN s : Nat) : Int) ≤ lastM s.table := by omega
      clear hn
      go_wp2_with fail
      go_ret
      exact ⟨q, d, rfl, a1, a2, hR, fun b off e => Nat.le_trans U0.out.size (hge b off e), Up.trans U0.out U2.out⟩

def rAskOne (s : Sd) (m : Int) (z : Lk × Int) (p : Nat) : Lk × Int := if askMost s m p < z.2 then ((m, (p : Int), true), askMost s m p) else z
def rAskRow (s : Sd) (m : Int) (z : Lk × Int) : Nat → Lk × Int
  | 0 => z
  | k + 1 => rAskOne s m (rAskRow s m z k) k
def rAskAll (s : Sd) : Nat → Lk × Int
  | 0 => ((0, 0, false), siz (s.lo, s.hi) + 1)
  | k + 1 => rAskRow s (firstM s.table + k) (rAskAll s k) s.floors.length
/-- both searches have found the same, or nothing yet -/
def AskEq (s : Sd) (z y : Lk × Int) : Prop := (z = y ∧ z.1.2.2 = true) ∨ (z = ((0, 0, false), siz (s.lo, s.hi)) ∧ y = ((0, 0, false), siz (s.lo, s.hi) + 1))
theorem askMost_le {s : Sd} (ok : Ok s) (m : Int) (p : Nat) : askMost s m p ≤ siz (s.lo, s.hi) := by
  have h1 := siz_part ok m p
  have h3 := siz_nonneg (truV s (m, (p : Int), true))
  have h4 := siz_nonneg (truV s (m, (p : Int), false))
  unfold askMost
  omega
theorem askEq_one {s : Sd} (ok : Ok s) {m : Int} {z y : Lk × Int} (h : AskEq s z y) (p : Nat) : AskEq s (askOne s m z p) (rAskOne s m y p) := by
  have hle := askMost_le ok m p
  rcases h with ⟨rfl, hw⟩ | ⟨rfl, rfl⟩
  · left
    unfold askOne rAskOne
    by_cases hc : askMost s m p < z.2
    · rw [if_pos (.inr hc), if_pos hc]; exact ⟨rfl, rfl⟩
    · rw [if_neg (fun h => by rcases h with h | h; · rw [h] at hw; cases hw
                              · exact hc h), if_neg hc]
      exact ⟨rfl, hw⟩
  · left
    unfold askOne rAskOne
    rw [if_pos (.inl rfl), if_pos (by dsimp only; omega)]
    exact ⟨rfl, rfl⟩
theorem askEq_row {s : Sd} (ok : Ok s) {m : Int} {z y : Lk × Int} (h : AskEq s z y) : ∀ k, AskEq s (askRow s m z k) (rAskRow s m y k)
  | 0 => h
  | k + 1 => askEq_one ok (askEq_row ok h k) k
theorem askEq_all {s : Sd} (ok : Ok s) : ∀ k, AskEq s (askAll s k) (rAskAll s k)
  | 0 => .inr ⟨rfl, rfl⟩
  | k + 1 => askEq_row ok (askEq_all ok k) _
theorem ask_same {s : Sd} (ok : Ok s) : rAskAll s (dayN s) = askAll s (dayN s) := by
  obtain ⟨m, p, h, -⟩ := ask_best ok
  rcases askEq_all ok (dayN s) with ⟨h1, -⟩ | ⟨h1, -⟩
  · exact h1.symm
  · rw [h] at h1
    exact absurd (congrArg (fun t => t.1.2.2) h1) (by simp)
theorem rAskRow_rng {s : Sd} (ok : Ok s) {m : Int} {z : Lk × Int} (h : 0 ≤ z.2 ∧ z.2 ≤ 102) : ∀ k, 0 ≤ (rAskRow s m z k).2 ∧ (rAskRow s m z k).2 ≤ 102
  | 0 => h
  | k + 1 => by
    have ih := rAskRow_rng ok h (m := m) k
    have := askMost_rng ok m k
    unfold rAskRow rAskOne
    split
    · exact ⟨this.1, by dsimp only; omega⟩
    · exact ih
theorem rAskAll_rng {s : Sd} (ok : Ok s) : ∀ k, 0 ≤ (rAskAll s k).2 ∧ (rAskAll s k).2 ≤ 102
  | 0 => by have := askMost_rng ok 0 0; exact ⟨by show 0 ≤ siz (s.lo, s.hi) + 1; omega, by show siz (s.lo, s.hi) + 1 ≤ 102; omega⟩
  | k + 1 => rAskRow_rng ok (rAskAll_rng ok k) _
/-- how many truths say that it is wet -/
theorem Far.cell {B n₀ : Nat} {w w' : World} (h : Far B n₀ w w') {b o : Nat} (h1 : b < n₀) (h2 : b ≠ B) : w'.cell? ⟨b, o, none⟩ = w.cell? ⟨b, o, none⟩ := World.cell?_of_block (h.block b h1 h2)
theorem Far.below2 {B n₀ : Nat} {w w' : World} (h : Far B n₀ w w') (hb : B < n₀) : Below B w w' := h.below (Nat.le_refl _) (by omega)
theorem yes_siz {s : Sd} (ok : Ok s) (m : Int) (p : Nat) (h0 : 0 ≤ hgt s.table m) (h1 : hgt s.table m ≤ 999) : max 0 (s.hi + 1 - max s.lo (gateR s p - hgt s.table m + 1)) = siz (truV s (m, (p : Int), true)) := by
  have b0 := ok.lo0
  have b1 := ok.hi1
  have b2 := ok.lohi
  have gl := gts_le s p
  unfold gateR siz truV com
  simp only [if_true, Int.toNat_natCast]
  split <;> omega
set_option maxRecDepth 100000 in
set_option maxHeartbeats 3000000 in
theorem refAsk_c (s : Sd) (n : Nat) (q : Option Addr) (d : Nat) (w : World) (hn : (gatesR s).length = n) (ok : Ok s) (hl : Lists w s pT pF pS cT cF cS) (hr : Row w q 1 (ints (gatesR s))) :
    Calls Try.prog 47 #[sdVal s pT pF pS cT cF cS, .slice q n d] w fun e w' => e = .returned (.tuple #[.agg #[.int .i64 (askAll s (dayN s)).1.1, .int .i64 (askAll s (dayN s)).1.2.1, .bool (askAll s (dayN s)).1.2.2], .int .i64 (askAll s (dayN s)).2]) ∧ Up w w' := by
  have hnl : n = s.floors.length := by rw [← hn, gatesR_len]
  subst hnl
  obtain ⟨f0, f1, f2⟩ := firstM_lt ok.table
  have hdn : ((dayN s : Nat) : Int) = lastM s.table - firstM s.table + 1 := by unfold dayN; omega
  have f8 := ok.fl1
  have b0 := ok.lo0
  have b1 := ok.hi1
  have b2 := ok.lohi
  have HF := Lib.hid (fun W (u : Up w W) => refFirst_c s W (hl.up u) ok.table.2.2.1)
  have HH := Lib.hid (fun W (u : Up w W) => refHeights_c s W ok (hl.up u))
  have HR := Lib.hid hr
  have OK := Lib.hid ok
  have SAME := Lib.hid (ask_same ok)
  have s1 : IntKind.i64.wrap (s.hi - s.lo) = s.hi - s.lo := IntWalk.i64_in _ (by omega)
  have s2 : IntKind.i64.wrap (s.hi - s.lo + 1) = s.hi - s.lo + 1 := IntWalk.i64_in _ (by omega)
  have s3 : IntKind.i64.wrap (s.hi - s.lo + 1 + 1) = s.hi - s.lo + 1 + 1 := IntWalk.i64_in _ (by omega)
  clear hl hr ok hn
  unfold sdVal at *
  go_enter Try.func47, Try.ntmps47
  go_wp2_with fail
  refine Calls.world ?_
  intro w0 hw0
  have u0 : Up w w0 := by rw [hw0]; (repeat (first | exact Below.refl _ _ | (with_reducible refine Below.drewN' ?_ _) | (with_reducible refine Below.drew ?_) | (with_reducible refine Below.setCell ?_ (by first | exact Nat.le_refl _ | omega | (with_reducible (repeat (first | refine sz_alloc ?_ | refine sz_setCell ?_ | refine sz_drew ?_ | refine sz_drewN ?_)); first | exact Nat.le_refl _ | omega) | (simp only [World.size_alloc, World.size_setCell, World.size_drew, size_drewN']; omega)) _) | (with_reducible refine Below.alloc ?_ (by first | exact Nat.le_refl _ | omega | (with_reducible (repeat (first | refine sz_alloc ?_ | refine sz_setCell ?_ | refine sz_drew ?_ | refine sz_drewN ?_)); first | exact Nat.le_refl _ | omega) | (simp only [World.size_alloc, World.size_setCell, World.size_drew, size_drewN']; omega)) _) | assumption))
  have hS : Blk w0 w.heap.size (sdCells s pT pF pS cT cF cS) 37 := by rw [hw0]; exact ((Blk.new w (sdCells s pT pF pS cT cF cS) _).alloc _).alloc _
  have hR : Blk w0 (w.heap.size + 1) [.int .i64 0, .int .i64 0, .bool false] 77 := by rw [hw0]; exact (Blk.new' _ [.int .i64 0, .int .i64 0, .bool false] _ (by simp)).alloc _
  have hB : Blk w0 (w.heap.size + 1 + 1) [.int .i64 0, .int .i64 0, .bool false] 77 := by rw [hw0]; exact Blk.new' _ [.int .i64 0, .int .i64 0, .bool false] _ (by simp)
  clear hw0
  refine (HH.out w0 u0).mono ?_
  rintro e w1 ⟨qh, dh, rfl, -, -, rh, hfr, u1⟩
  have U1 := Lib.hid (Up.trans u0 u1)
  have S1 := Lib.hid (hS.up u1)
  have R1 := Lib.hid (hR.up u1)
  have B1 := Lib.hid (hB.up u1)
  have HB0 := hB.lt
  have RH := Lib.hid rh
  rw [heightsR_len]
  have hal : siz (s.lo, s.hi) = s.hi - s.lo + 1 := siz_wind OK.out
  have HALL := Lib.hid hal
  clear u0 u1 hS hR hB rh s1 s2 s3 hal
  have hl0 : w.heap.size + 1 + 1 < w0.heap.size := HB0
  obtain ⟨bh, oh, rfl, -⟩ := RH.out.int 0 (by rw [heightsR_len]; omega)
  obtain ⟨bg, og, rfl, -⟩ := HR.out.int 0 (by rw [gatesR_len]; have := OK.out.fl0; omega)
  have hbw : w.heap.size + 1 + 1 < w1.heap.size := B1.out.lt
  have HDN := Lib.hid hdn
  clear hdn
  obtain ⟨dn, hdd⟩ : ∃ dn, dayN s = dn := ⟨_, rfl⟩
  have HDD := Lib.hid hdd
  rw [hdd] at HDN ⊢
  have hd9 : dn ≤ 1441 := by have := HDN.out; omega
  clear hdd
  go_wp2_with fail
  go_loopw [10, 8] (fun i f wr => ∃ k : Nat, k ≤ dn ∧ i = .int .i64 k ∧ f = .int .i64 (rAskAll s k).2 ∧ Blk wr (w.heap.size + 1 + 1) (lkc (rAskAll s k).1) 77 ∧ Blk wr (w.heap.size + 1) [.int .i64 0, .int .i64 0, .bool false] 77 ∧ Blk wr w.heap.size (sdCells s pT pF pS cT cF cS) 37 ∧ Far (w.heap.size + 1 + 1) w1.heap.size w1 wr) (fun i _ _ => dn - (intOf i).toNat)
  case atStart => exact ⟨0, by omega, rfl, by rw [show (rAskAll s 0).2 = s.hi - s.lo + 1 + 1 by rw [← HALL.out]; rfl], B1.out, R1.out, S1.out, Far.refl _ _ _⟩
  case round =>
    obtain ⟨k, hk, rfl, rfl, hb, hr, hs, hd⟩ := hrel
    have HB := Lib.hid hb
    have HRr := Lib.hid hr
    have HSr := Lib.hid hs
    have HD := Lib.hid hd
    clear hb hr hs hd
    by_cases hlt : k < dn
    · have k1 : (k : Int) < dn := by omega
      have hzr := rAskAll_rng OK.out k
      have HE := Lib.hid (show rAskAll s (k + 1) = rAskRow s (firstM s.table + k) (rAskAll s k) s.floors.length from rfl)
      generalize rAskAll s k = z at *
      have HZR := Lib.hid hzr
      clear hzr
      go_wp2_with fail
      go_loopw [11, 8] (fun j f wy => ∃ p : Nat, p ≤ s.floors.length ∧ j = .int .i64 p ∧ f = .int .i64 (rAskRow s (firstM s.table + k) z p).2 ∧ Blk wy (w.heap.size + 1 + 1) (lkc (rAskRow s (firstM s.table + k) z p).1) 77 ∧ Blk wy (w.heap.size + 1) [.int .i64 0, .int .i64 0, .bool false] 77 ∧ Blk wy w.heap.size (sdCells s pT pF pS cT cF cS) 37 ∧ Far (w.heap.size + 1 + 1) w1.heap.size w1 wy) (fun j _ _ => s.floors.length - (intOf j).toNat)
      case atStart => exact ⟨0, Nat.zero_le _, rfl, rfl, HB.out, HRr.out, HSr.out, HD.out⟩
      case round =>
        obtain ⟨p, hp, rfl, rfl, hb, hr, hs, hd⟩ := hrel
        have Hb := Lib.hid hb
        have Hr := Lib.hid hr
        have Hs := Lib.hid hs
        have Hd := Lib.hid hd
        clear hb hr hs hd HB HRr HSr HD
        by_cases hlp : p < s.floors.length
        · have p1 : (p : Int) < s.floors.length := by omega
          have hzr := rAskRow_rng OK.out (m := firstM s.table + k) HZR.out p
          have HE2 := Lib.hid (show rAskRow s (firstM s.table + k) z (p + 1) = rAskOne s (firstM s.table + k) (rAskRow s (firstM s.table + k) z p) p from rfl)
          generalize rAskRow s (firstM s.table + k) z p = y at *
          obtain ⟨⟨ym, yp, yw⟩, yn⟩ := y
          dsimp only at hzr
          obtain ⟨c0, c1, c2, c3, c4⟩ := five Hs.out
          have hm0 : firstM s.table ≤ firstM s.table + (k : Int) := by omega
          have hmr := hgt_rng OK.out.table (firstM s.table + k) hm0
          have mr := askMost_rng OK.out (firstM s.table + k) p
          have YS := Lib.hid (yes_siz OK.out (firstM s.table + k) p hmr.1 hmr.2)
          have MS := Lib.hid (show askMost s (firstM s.table + k) p = max (siz (truV s (firstM s.table + k, (p : Int), true))) (siz (s.lo, s.hi) - siz (truV s (firstM s.table + k, (p : Int), true))) from rfl)
          have yle : siz (truV s (firstM s.table + k, (p : Int), true)) ≤ siz (s.lo, s.hi) := by have h1 := siz_part OK.out (firstM s.table + k) p; have h2 := siz_nonneg (truV s (firstM s.table + k, (p : Int), false)); omega
          have gl := gts_le s p
          have GR : 0 ≤ gateR s p ∧ gateR s p ≤ 5000 := by unfold gateR; split <;> omega
          have hfb := hfr bh oh rfl
          obtain ⟨hx1, hx2⟩ : bh < w1.heap.size ∧ w1.cell? ⟨bh, oh + k, none⟩ = some (.int .i64 (hgt s.table (firstM s.table + k))) := by
            obtain ⟨b', o', e1, e2⟩ := RH.out.int k (by rw [heightsR_len, HDD.out]; omega)
            simp only [Option.some.injEq, Addr.mk.injEq, and_true] at e1
            obtain ⟨rfl, rfl⟩ := e1
            simp only [heightsR, List.getElem_map, List.getElem_range] at e2
            exact ⟨cell_lt e2, e2⟩
          obtain ⟨hy1, hy2⟩ : bg < w.heap.size ∧ w.cell? ⟨bg, og + p, none⟩ = some (.int .i64 (gateR s p)) := by
            obtain ⟨b', o', e1, e2⟩ := HR.out.int p (by rw [gatesR_len]; omega)
            simp only [Option.some.injEq, Addr.mk.injEq, and_true] at e1
            obtain ⟨rfl, rfl⟩ := e1
            simp only [gatesR, List.getElem_map, List.getElem_range] at e2
            exact ⟨cell_lt e2, e2⟩
          have hx3 := (Hd.out.cell hx1 (by omega)).trans hx2
          have hy3 := (Hd.out.cell (b := bg) (by have := U1.out.size; omega) (by omega)).trans (U1.out.cellAt hy2)
          have lx := cell_lt hx3
          have ly := cell_lt hy3
          generalize hgt s.table (firstM s.table + (k : Int)) = hh at *
          generalize gateR s p = gg at *
          generalize siz (truV s (firstM s.table + (k : Int), (p : Int), true)) = yes at *
          clear hx2 hy2 gl
          go_wp2_with fail
          go_loopw [13, 12] (fun v y wz => ∃ t : Int, v = .int .i64 t ∧ s.lo ≤ t ∧ t ≤ s.hi + 1 ∧ y = .int .i64 (max 0 (t - max s.lo (gg - hh + 1))) ∧ Up wr wz) (fun v _ _ => (s.hi + 1 - intOf v).toNat)
          case atStart => exact ⟨s.lo, rfl, Int.le_refl _, by omega, by rw [show max 0 (s.lo - max s.lo (gg - hh + 1)) = 0 by omega], Below.refl _ _⟩
          case round =>
            obtain ⟨t, rfl, t0, t1, rfl, hu⟩ := hrel
            have e0 := hu.cellAt c0
            have e1 := hu.cellAt c1
            have e2 := hu.cellAt c2
            have e3 := hu.cellAt c3
            have e4 := hu.cellAt c4
            have ex := hu.cellAt hx3
            have ey := hu.cellAt hy3
            have le := cell_lt ex
            have lf := cell_lt ey
            have HU := Lib.hid hu
            clear hu c0 c1 c2 c3 c4 hx3 hy3
            by_cases ht : t ≤ s.hi
            · have s4 : IntKind.i64.wrap (hh + t) = hh + t := IntWalk.i64_in _ (by omega)
              have st1 : IntKind.i64.wrap (t + 1) = t + 1 := IntWalk.i64_in _ (by omega)
              obtain ⟨yy, hyy⟩ : ∃ yy, max 0 (t - max s.lo (gg - hh + 1)) = yy := ⟨_, rfl⟩
              have HYY := Lib.hid hyy
              have yr : 0 ≤ yy ∧ yy ≤ 200 := by omega
              have sy1 : IntKind.i64.wrap (yy + 1) = yy + 1 := IntWalk.i64_in _ (by omega)
              rw [hyy]
              clear hyy
              by_cases hw : gg < hh + t
              · have HV := Lib.hid (show max 0 (t + 1 - max s.lo (gg - hh + 1)) = yy + 1 by have := HYY.out; omega)
                go_wp2_with fail
                go_quiet (fail)
                go_wp2
                go_roundw
                case rel =>
                  try ((repeat apply Exists.intro); refine ⟨?_, rfl⟩)
                  exact ⟨t + 1, rfl, by omega, by omega, by rw [HV.out], by have hU := HU.out; (repeat (first | exact Below.refl _ _ | (with_reducible refine Below.drewN' ?_ _) | (with_reducible refine Below.drew ?_) | (with_reducible refine Below.setCell ?_ (by first | exact Nat.le_refl _ | omega | (with_reducible (repeat (first | refine sz_alloc ?_ | refine sz_setCell ?_ | refine sz_drew ?_ | refine sz_drewN ?_)); first | exact Nat.le_refl _ | omega) | (simp only [World.size_alloc, World.size_setCell, World.size_drew, size_drewN']; omega)) _) | (with_reducible refine Below.alloc ?_ (by first | exact Nat.le_refl _ | omega | (with_reducible (repeat (first | refine sz_alloc ?_ | refine sz_setCell ?_ | refine sz_drew ?_ | refine sz_drewN ?_)); first | exact Nat.le_refl _ | omega) | (simp only [World.size_alloc, World.size_setCell, World.size_drew, size_drewN']; omega)) _) | assumption))⟩
                case measure => simp [intOf]; omega
              · have HV := Lib.hid (show max 0 (t + 1 - max s.lo (gg - hh + 1)) = yy by have := HYY.out; omega)
                go_wp2_with fail
                go_quiet (fail)
                go_wp2
                go_roundw
                case rel =>
                  try ((repeat apply Exists.intro); refine ⟨?_, rfl⟩)
                  exact ⟨t + 1, rfl, by omega, by omega, by rw [HV.out], by have hU := HU.out; (repeat (first | exact Below.refl _ _ | (with_reducible refine Below.drewN' ?_ _) | (with_reducible refine Below.drew ?_) | (with_reducible refine Below.setCell ?_ (by first | exact Nat.le_refl _ | omega | (with_reducible (repeat (first | refine sz_alloc ?_ | refine sz_setCell ?_ | refine sz_drew ?_ | refine sz_drewN ?_)); first | exact Nat.le_refl _ | omega) | (simp only [World.size_alloc, World.size_setCell, World.size_drew, size_drewN']; omega)) _) | (with_reducible refine Below.alloc ?_ (by first | exact Nat.le_refl _ | omega | (with_reducible (repeat (first | refine sz_alloc ?_ | refine sz_setCell ?_ | refine sz_drew ?_ | refine sz_drewN ?_)); first | exact Nat.le_refl _ | omega) | (simp only [World.size_alloc, World.size_setCell, World.size_drew, size_drewN']; omega)) _) | assumption))⟩
                case measure => simp [intOf]; omega
            · obtain rfl : t = s.hi + 1 := by omega
              rw [YS.out]
              have Bq := Lib.hid (Hb.out.up HU.out)
              have Rq := Lib.hid (Hr.out.up HU.out)
              have Sq := Lib.hid (Hs.out.up HU.out)
              have Dq := Lib.hid (Hd.out.trans (Far.of (HU.out.mono Hd.out.size)))
              generalize wr = wq at *
              have hal := HALL.out
              have s5 : IntKind.i64.wrap (s.hi - s.lo + 1 - yes) = s.hi - s.lo + 1 - yes := IntWalk.i64_in _ (by omega)
              have mr5 : 0 ≤ yes ∧ yes ≤ s.hi - s.lo + 1 := by omega
              rw [hal] at mr
              clear hal
              by_cases hm : yes < s.hi - s.lo + 1 - yes
              · have MM := Lib.hid (show askMost s (firstM s.table + k) p = s.hi - s.lo + 1 - yes by rw [MS.out, HALL.out]; omega)
                by_cases hc : s.hi - s.lo + 1 - yes < yn
                · have HE3 := Lib.hid (show rAskRow s (firstM s.table + k) z (p + 1) = ((firstM s.table + k, (p : Int), true), s.hi - s.lo + 1 - yes) by rw [HE2.out]; unfold rAskOne; rw [MM.out, if_pos hc])
                  go_wp2_with fail
                  refine (HF.out wq (Below.trans U1.out (Dq.out.below (by omega) (by omega)))).mono ?_
                  rintro e wt ⟨rfl, ut⟩
                  have Bt := Lib.hid (Bq.out.up ut)
                  have Rt := Lib.hid (Rq.out.up ut)
                  have St := Lib.hid (Sq.out.up ut)
                  have Dt := Lib.hid (Dq.out.trans (Far.of (ut.mono Dq.out.size)))
                  have y0 := Bt.out.cell 0
                  have y1 := Bt.out.cell 1
                  have y2 := Bt.out.cell 2
                  have yf := Bt.out.free
                  have yl := Bt.out.lt
                  have s6 : IntKind.i64.wrap (firstM s.table + k) = firstM s.table + k := IntWalk.i64_in _ (by omega)
                  simp only [lkc, List.getElem?_cons_zero, List.getElem?_cons_succ] at y0 y1 y2
                  clear ut
                  go_wp2_with fail
                  go_roundw
                  case rel =>
                    try ((repeat apply Exists.intro); refine ⟨?_, rfl⟩)
                    refine ⟨p + 1, by omega, by go_num, by rw [HE3.out], ?_, ((Rt.out.other (by simp only []; omega) _).other (by simp only []; omega) _).other (by simp only []; omega) _, ((St.out.other (by simp only []; omega) _).other (by simp only []; omega) _).other (by simp only []; omega) _, ((Dt.out.setIn _ _).setIn _ _).setIn _ _⟩
                    rw [HE3.out]
                    have h := ((Bt.out.set 0 (.int .i64 (firstM s.table + k))).set 1 (.int .i64 p)).set 2 (.bool true)
                    simpa only [lkc, List.set_cons_zero, List.set_cons_succ] using h
                  case measure => simp [intOf]; omega
                · have HE3 := Lib.hid (show rAskRow s (firstM s.table + k) z (p + 1) = ((ym, yp, yw), yn) by rw [HE2.out]; unfold rAskOne; rw [MM.out, if_neg hc])
                  go_wp2_with fail
                  go_roundw
                  case rel =>
                    try ((repeat apply Exists.intro); refine ⟨?_, rfl⟩)
                    exact ⟨p + 1, by omega, by go_num, by rw [HE3.out], by rw [HE3.out]; exact Bq.out, Rq.out, Sq.out, Dq.out⟩
                  case measure => simp [intOf]; omega
              · have MM := Lib.hid (show askMost s (firstM s.table + k) p = yes by rw [MS.out, HALL.out]; omega)
                by_cases hc : yes < yn
                · have HE3 := Lib.hid (show rAskRow s (firstM s.table + k) z (p + 1) = ((firstM s.table + k, (p : Int), true), yes) by rw [HE2.out]; unfold rAskOne; rw [MM.out, if_pos hc])
                  go_wp2_with fail
                  refine (HF.out wq (Below.trans U1.out (Dq.out.below (by omega) (by omega)))).mono ?_
                  rintro e wt ⟨rfl, ut⟩
                  have Bt := Lib.hid (Bq.out.up ut)
                  have Rt := Lib.hid (Rq.out.up ut)
                  have St := Lib.hid (Sq.out.up ut)
                  have Dt := Lib.hid (Dq.out.trans (Far.of (ut.mono Dq.out.size)))
                  have y0 := Bt.out.cell 0
                  have y1 := Bt.out.cell 1
                  have y2 := Bt.out.cell 2
                  have yf := Bt.out.free
                  have yl := Bt.out.lt
                  have s6 : IntKind.i64.wrap (firstM s.table + k) = firstM s.table + k := IntWalk.i64_in _ (by omega)
                  simp only [lkc, List.getElem?_cons_zero, List.getElem?_cons_succ] at y0 y1 y2
                  clear ut
                  go_wp2_with fail
                  go_roundw
                  case rel =>
                    try ((repeat apply Exists.intro); refine ⟨?_, rfl⟩)
                    refine ⟨p + 1, by omega, by go_num, by rw [HE3.out], ?_, ((Rt.out.other (by simp only []; omega) _).other (by simp only []; omega) _).other (by simp only []; omega) _, ((St.out.other (by simp only []; omega) _).other (by simp only []; omega) _).other (by simp only []; omega) _, ((Dt.out.setIn _ _).setIn _ _).setIn _ _⟩
                    rw [HE3.out]
                    have h := ((Bt.out.set 0 (.int .i64 (firstM s.table + k))).set 1 (.int .i64 p)).set 2 (.bool true)
                    simpa only [lkc, List.set_cons_zero, List.set_cons_succ] using h
                  case measure => simp [intOf]; omega
                · have HE3 := Lib.hid (show rAskRow s (firstM s.table + k) z (p + 1) = ((ym, yp, yw), yn) by rw [HE2.out]; unfold rAskOne; rw [MM.out, if_neg hc])
                  go_wp2_with fail
                  go_roundw
                  case rel =>
                    try ((repeat apply Exists.intro); refine ⟨?_, rfl⟩)
                    exact ⟨p + 1, by omega, by go_num, by rw [HE3.out], by rw [HE3.out]; exact Bq.out, Rq.out, Sq.out, Dq.out⟩
                  case measure => simp [intOf]; omega
        · obtain rfl : p = s.floors.length := by omega
          go_wp2_with fail
          go_roundw
          case rel =>
            try ((repeat apply Exists.intro); refine ⟨?_, rfl⟩)
            exact ⟨k + 1, by omega, by go_num, by rw [HE.out], by rw [HE.out]; exact Hb.out, Hr.out, Hs.out, Hd.out⟩
          case measure => simp [intOf]; omega
    · obtain rfl : k = dn := by omega
      have hz : rAskAll s k = askAll s (dayN s) := by rw [← SAME.out, HDD.out]
      rw [hz] at HB
      rw [hz]
      generalize hzz : askAll s (dayN s) = z at *
      obtain ⟨⟨zm, zp, zw⟩, zn⟩ := z
      have y0 := HB.out.cell 0
      have y1 := HB.out.cell 1
      have y2 := HB.out.cell 2
      have r0 := HRr.out.cell 0
      have r1 := HRr.out.cell 1
      have r2 := HRr.out.cell 2
      have rf := HRr.out.free
      have rl := HRr.out.lt
      simp only [lkc, List.getElem?_cons_zero, List.getElem?_cons_succ] at y0 y1 y2 r0 r1 r2
      have UW := Lib.hid (Below.trans U1.out (HD.out.below (b := w.heap.size) (by omega) (by omega)))
      have HZZ := Lib.hid hzz
      clear hz hzz
      go_wp2_with fail
      have h := ((HRr.out.set 0 (.int .i64 zm)).set 1 (.int .i64 zp)).set 2 (.bool zw)
      have p0 := h.cell 0
      have p1 := h.cell 1
      have p2 := h.cell 2
      simp only [List.set_cons_zero, List.set_cons_succ, List.getElem?_cons_zero, List.getElem?_cons_succ] at p0 p1 p2
      refine bodyPost_ret (v := .tuple #[.agg #[.int .i64 zm, .int .i64 zp, .bool zw], .int .i64 zn]) (by simp [results, Try.f47, go_sem, p0, p1, p2]) rfl ⟨?_, ?_⟩
      · first | rfl | rw [HZZ.out]
      · exact ((UW.out.setCell (by simp only []; omega) _).setCell (by simp only []; omega) _).setCell (by simp only []; omega) _
end
end Go.Proofs.Ytifcmbeejichdaa
/- The reference's State. -/
namespace Go.Proofs.Ytifcmbeejichdaa
open Go.RowKit Go.Shelf

/-- what the reference's State answers -/
def stR (s : Sd) (h g : Int) : Int := if g < h + s.lo then 2 else if g < h + s.hi then 1 else 0
section
variable {pT pF pS : Option Addr} {cT cF cS : Nat}
set_option maxRecDepth 100000 in
set_option maxHeartbeats 1000000 in
theorem refState_c (s : Sd) (h g : Int) (w : World) (ok : Ok s) (h0 : 0 ≤ h) (h1 : h ≤ 999) (g0 : -100000 ≤ g) (g1 : g ≤ 100000) :
    Calls Try.prog 40 #[sdVal s pT pF pS cT cF cS, .int .i64 h, .int .i64 g] w fun e w' => e = .returned (.int .i64 (stR s h g)) ∧ Up w w' := by
  have b0 := ok.lo0
  have b1 := ok.hi1
  have b2 := ok.lohi
  clear ok
  unfold sdVal
  go_enter Try.func40, Try.ntmps40
  go_wp2_with fail
  have BS : Hid (Blk (w.alloc (.cells #[.slice pT s.table.length cT, .int .i64 s.lo, .int .i64 s.hi, .slice pF s.floors.length cF, .slice pS s.sills.length cS] 37)) w.heap.size (sdCells s pT pF pS cT cF cS) 37) := Lib.hid (Blk.new w (sdCells s pT pF pS cT cF cS) 37)
  have U0 : Hid (Up w (w.alloc (.cells #[.slice pT s.table.length cT, .int .i64 s.lo, .int .i64 s.hi, .slice pF s.floors.length cF, .slice pS s.sills.length cS] 37))) := Lib.hid (by (repeat (first | exact Below.refl _ _ | (with_reducible refine Below.drewN' ?_ _) | (with_reducible refine Below.drew ?_) | (with_reducible refine Below.setCell ?_ (by first | exact Nat.le_refl _ | omega | (with_reducible (repeat (first | refine sz_alloc ?_ | refine sz_setCell ?_ | refine sz_drew ?_ | refine sz_drewN ?_)); first | exact Nat.le_refl _ | omega) | (simp only [World.size_alloc, World.size_setCell, World.size_drew, size_drewN']; omega)) _) | (with_reducible refine Below.alloc ?_ (by first | exact Nat.le_refl _ | omega | (with_reducible (repeat (first | refine sz_alloc ?_ | refine sz_setCell ?_ | refine sz_drew ?_ | refine sz_drewN ?_)); first | exact Nat.le_refl _ | omega) | (simp only [World.size_alloc, World.size_setCell, World.size_drew, size_drewN']; omega)) _) | assumption)))
  generalize (w.alloc (.cells #[.slice pT s.table.length cT, .int .i64 s.lo, .int .i64 s.hi, .slice pF s.floors.length cF, .slice pS s.sills.length cS] 37)) = w0 at *
  go_loopw [9, 8, 7] (fun i va vb wr => ∃ x a b : Int, i = .int .i64 x ∧ va = .int .i64 a ∧ vb = .int .i64 b ∧ s.lo ≤ x ∧ x ≤ s.hi + 1 ∧ a = max 0 (x - max s.lo (g - h + 1)) ∧ b = x - s.lo - a ∧ Up w0 wr) (fun i _ _ _ => (s.hi + 1 - intOf i).toNat)
  case atStart => exact ⟨s.lo, 0, 0, rfl, rfl, rfl, by omega, by omega, by omega, by omega, Below.refl _ _⟩
  case round =>
    obtain ⟨x, a, b, rfl, rfl, rfl, x0, x1, ha, hb, hu⟩ := hrel
    have HU := Lib.hid hu
    obtain ⟨c0, c1, c2, c3, c4⟩ := five (BS.out.up hu)
    clear hu
    have a0 : 0 ≤ a := by omega
    have a1 : a ≤ 101 := by omega
    have d0 : 0 ≤ b := by omega
    have d1 : b ≤ 101 := by omega
    by_cases hlt : x ≤ s.hi
    · have sx : IntKind.i64.wrap (h + x) = h + x := IntWalk.i64_in _ (by omega)
      have sy : IntKind.i64.wrap (x + 1) = x + 1 := IntWalk.i64_in _ (by omega)
      by_cases hg : g < h + x
      · have sw : IntKind.i64.wrap (a + 1) = a + 1 := IntWalk.i64_in _ (by omega)
        have r1 : a + 1 = max 0 (x + 1 - max s.lo (g - h + 1)) := by omega
        have r2 : b = x + 1 - s.lo - (a + 1) := by omega
        have R := Lib.hid (And.intro r1 r2)
        clear ha hb r1 r2
        go_wp2_with fail
        go_roundw
        case rel =>
          try ((repeat apply Exists.intro); refine ⟨?_, rfl⟩)
          exact ⟨x + 1, a + 1, b, rfl, rfl, rfl, by omega, by omega, R.out.1, R.out.2, HU.out⟩
        case measure => simp [intOf]; omega
      · have sw : IntKind.i64.wrap (b + 1) = b + 1 := IntWalk.i64_in _ (by omega)
        have r1 : a = max 0 (x + 1 - max s.lo (g - h + 1)) := by omega
        have r2 : b + 1 = x + 1 - s.lo - a := by omega
        have R := Lib.hid (And.intro r1 r2)
        clear ha hb r1 r2
        go_wp2_with fail
        go_roundw
        case rel =>
          try ((repeat apply Exists.intro); refine ⟨?_, rfl⟩)
          exact ⟨x + 1, a, b + 1, rfl, rfl, rfl, by omega, by omega, R.out.1, R.out.2, HU.out⟩
        case measure => simp [intOf]; omega
    · by_cases ha0 : a = 0
      · have hr : Hid (stR s h g = 0) := by show _ = _; unfold stR; rw [if_neg (by omega), if_neg (by omega)]
        have hn : (a == 0) = true := by rw [ha0]; rfl
        clear ha hb ha0
        go_wp2_with fail
        go_ret
        exact ⟨by rw [hr.out]; rfl, Up.trans U0.out HU.out⟩
      · have hn : (a == 0) = false := beq_eq_false_iff_ne.2 ha0
        by_cases hb0 : b = 0
        · have hr : Hid (stR s h g = 2) := by show _ = _; unfold stR; rw [if_pos (by omega)]
          have hn2 : (b == 0) = true := by rw [hb0]; rfl
          clear ha hb hb0
          go_wp2_with fail
          go_ret
          exact ⟨by rw [hr.out]; rfl, Up.trans U0.out HU.out⟩
        · have hr : Hid (stR s h g = 1) := by show _ = _; unfold stR; rw [if_neg (by omega), if_pos (by omega)]
          have hn2 : (b == 0) = false := beq_eq_false_iff_ne.2 hb0
          clear ha hb
          go_wp2_with fail
          go_ret
          exact ⟨by rw [hr.out]; rfl, Up.trans U0.out HU.out⟩
end
end Go.Proofs.Ytifcmbeejichdaa
namespace Go.Proofs.Ytifcmbeejichdaa
open Go.RowKit Go.Shelf

/-- rows of truths -/
def bools (l : List Bool) : List (List Value) := l.map fun b => [.bool b]
theorem flatOk_bools (l : List Bool) : flatOk 1 (bools l) = true := by simp [flatOk, bools]
theorem Row.bool {w : World} {p : Option Addr} {l : List Bool} (h : Row w p 1 (bools l)) (i : Nat) (hi : i < l.length) :
    ∃ b off, p = some ⟨b, off, none⟩ ∧ w.cell? ⟨b, off + i, none⟩ = some (.bool l[i]) := by
  obtain ⟨b, off, hp, hc⟩ := h i [.bool l[i]] (by simp [bools, hi])
  exact ⟨b, off, hp, by simpa using hc 0 _ rfl⟩
theorem infoB : (Try.prog.info? 4).map (fun i => (i.zero, i.size, i.bytes)) = some (some (.bool false), 1, 1) := by kernel_rfl

/-- whether the reference has the state x in the minute that is i behind the first -/
def sayR (s : Sd) (g x : Int) (i : Nat) : Bool := stR s (hgt s.table (firstM s.table + (i : Nat))) g == x
def saysR (s : Sd) (g x : Int) : List Bool := (List.range (dayN s)).map (sayR s g x)
theorem saysR_len (s : Sd) (g x : Int) : (saysR s g x).length = dayN s := by simp [saysR]
section
variable {pT pF pS : Option Addr} {cT cF cS : Nat}
set_option maxRecDepth 100000 in
set_option maxHeartbeats 1000000 in
theorem refSays_c (s : Sd) (g x : Int) (w : World) (ok : Ok s) (hl : Lists w s pT pF pS cT cF cS) (g0 : -100000 ≤ g) (g1 : g ≤ 100000) :
    Calls Try.prog 45 #[sdVal s pT pF pS cT cF cS, .int .i64 g, .int .i64 x] w fun e w' => ∃ q d, e = .returned (.slice q (saysR s g x).length d) ∧ (saysR s g x).length ≤ d ∧ d ≤ maxLen ∧ Row w' q 1 (bools (saysR s g x)) ∧ Up w w' := by
  obtain ⟨f0, f1, f2⟩ := firstM_lt ok.table
  have hn : ((dayN s : Nat) : Int) = lastM s.table - firstM s.table + 1 := by unfold dayN; omega
  have HH := Lib.hid (fun W (u : Up w W) => refHeights_c s W ok (hl.up u))
  have HS := Lib.hid (fun (i : Nat) W => refState_c (pT := pT) (pF := pF) (pS := pS) (cT := cT) (cF := cF) (cS := cS) s (hgt s.table (firstM s.table + (i : Nat))) g W ok (hgt_rng ok.table _ (by omega)).1 (hgt_rng ok.table _ (by omega)).2 g0 g1)
  obtain ⟨i0, hi, hz0, hz1, hz2⟩ := info_parts infoB
  clear hl ok
  rw [saysR_len]
  unfold sdVal at *
  go_enter Try.func45, Try.ntmps45
  go_wp2_with fail
  have BS : Hid (Blk (w.alloc (.cells #[.slice pT s.table.length cT, .int .i64 s.lo, .int .i64 s.hi, .slice pF s.floors.length cF, .slice pS s.sills.length cS] 37)) w.heap.size (sdCells s pT pF pS cT cF cS) 37) := Lib.hid (Blk.new w (sdCells s pT pF pS cT cF cS) 37)
  have U0 : Hid (Up w (w.alloc (.cells #[.slice pT s.table.length cT, .int .i64 s.lo, .int .i64 s.hi, .slice pF s.floors.length cF, .slice pS s.sills.length cS] 37))) := Lib.hid (by (repeat (first | exact Below.refl _ _ | (with_reducible refine Below.drewN' ?_ _) | (with_reducible refine Below.drew ?_) | (with_reducible refine Below.setCell ?_ (by first | exact Nat.le_refl _ | omega | (with_reducible (repeat (first | refine sz_alloc ?_ | refine sz_setCell ?_ | refine sz_drew ?_ | refine sz_drewN ?_)); first | exact Nat.le_refl _ | omega) | (simp only [World.size_alloc, World.size_setCell, World.size_drew, size_drewN']; omega)) _) | (with_reducible refine Below.alloc ?_ (by first | exact Nat.le_refl _ | omega | (with_reducible (repeat (first | refine sz_alloc ?_ | refine sz_setCell ?_ | refine sz_drew ?_ | refine sz_drewN ?_)); first | exact Nat.le_refl _ | omega) | (simp only [World.size_alloc, World.size_setCell, World.size_drew, size_drewN']; omega)) _) | assumption)))
  generalize (w.alloc (.cells #[.slice pT s.table.length cT, .int .i64 s.lo, .int .i64 s.hi, .slice pF s.floors.length cF, .slice pS s.sills.length cS] 37)) = w0 at *
  refine (HH.out w0 U0.out).mono ?_
  rintro e w1 ⟨qh, dh, rfl, -, -, rh, -, u1⟩
  have U1 := Lib.hid u1
  have RH := Lib.hid rh
  have hs1 := u1.size
  rw [heightsR_len]
  clear u1 rh
  obtain ⟨dn, hdd⟩ : ∃ dn, dayN s = dn := ⟨_, rfl⟩
  have HDD := Lib.hid hdd
  rw [hdd] at hn ⊢
  have hd9 : dn ≤ 1441 := by omega
  clear hdd hn
  go_wp2_with fail
  go_loopw [9, 7] (fun i v wr => ∃ k : Nat, k ≤ dn ∧ i = .int .i64 k ∧ wr.ownsRow w1.heap.size 4 1 v k (bools ((List.range k).map (sayR s g x))).flatten ∧ Up w1 wr) (fun i _ _ => dn - (intOf i).toNat)
  case atStart => exact ⟨0, by omega, rfl, World.ownsRow_nil _ _ _ _, Below.refl _ _⟩
  case round =>
    obtain ⟨k, hk, rfl, hown, hu⟩ := hrel
    have HO := Lib.hid hown
    have HU := Lib.hid hu
    obtain ⟨c0, c1, c2, c3, c4⟩ := five (BS.out.up (Up.trans U1.out hu))
    clear hown hu
    by_cases hlt : k < dn
    · have k1 : (k : Int) < dn := by omega
      obtain ⟨bh, oh, rfl, hc1⟩ := RH.out.int k (by rw [heightsR_len, HDD.out]; exact hlt)
      have hv : (heightsR s)[k]'(by rw [heightsR_len, HDD.out]; exact hlt) = hgt s.table (firstM s.table + (k : Nat)) := by simp [heightsR]
      rw [hv] at hc1
      have hc := HU.out.cellAt hc1
      clear hv
      have SY := Lib.hid (show (stR s (hgt s.table (firstM s.table + (k : Nat))) g == x) = sayR s g x k from rfl)
      have HSk := Lib.hid (HS.out k)
      generalize stR s (hgt s.table (firstM s.table + (k : Nat))) g = sv at *
      generalize hgt s.table (firstM s.table + (k : Nat)) = hv at *
      have k1 : (k : Int) < dn := by omega
      have hsz := HU.out.size
      go_upto_region 6 with fail
      refine region_tail (fun W' => W'.cell? ⟨w.heap.size, 0, none⟩ = some (.slice pT s.table.length cT) ∧ W'.cell? ⟨w.heap.size, 1, none⟩ = some (.int .i64 s.lo) ∧ W'.cell? ⟨w.heap.size, 2, none⟩ = some (.int .i64 s.hi) ∧ W'.cell? ⟨w.heap.size, 3, none⟩ = some (.slice pF s.floors.length cF) ∧ W'.cell? ⟨w.heap.size, 4, none⟩ = some (.slice pS s.sills.length cS) ∧ W'.cell? ⟨bh, oh + k, none⟩ = some (.int .i64 hv)) 12 mixed (by kernel_rfl) ⟨c0, c1, c2, c3, c4, hc⟩ (fun hHeld => ?_)
      refine wpAnyG_take 0 18 (v := ?_) rfl rfl (by kernel_rfl) (fun _ _ _ h => h) (Or.inl ⟨by rfl, ?_⟩) (by assumption) ?_
      rotate_left
      · (intro w' hSw; (try dsimp only at hSw); go_split_ands; go_simp; try with_reducible rfl)
      try simp only [List.setIfInBounds_toArray, List.set_cons_zero, List.set_cons_succ]
      refine wpAnyG_take 1 19 (v := ?_) rfl rfl (by kernel_rfl) (fun _ _ _ h => h) (Or.inl ⟨by rfl, ?_⟩) (by assumption) ?_
      rotate_left
      · (intro w' hSw; (try dsimp only at hSw); go_split_ands; go_simp; try with_reducible rfl)
      try simp only [List.setIfInBounds_toArray, List.set_cons_zero, List.set_cons_succ]
      refine wpAnyG_take 2 20 (v := ?_) rfl rfl (by kernel_rfl) (fun _ _ _ h => h) (Or.inl ⟨by rfl, ?_⟩) (by assumption) ?_
      rotate_left
      · (intro w' hSw; (try dsimp only at hSw); go_split_ands; go_simp; try with_reducible rfl)
      try simp only [List.setIfInBounds_toArray, List.set_cons_zero, List.set_cons_succ]
      refine wpAnyG_take 3 21 (v := ?_) rfl rfl (by kernel_rfl) (fun _ _ _ h => h) (Or.inl ⟨by rfl, ?_⟩) (by assumption) ?_
      rotate_left
      · (intro w' hSw; (try dsimp only at hSw); go_split_ands; go_simp; try with_reducible rfl)
      try simp only [List.setIfInBounds_toArray, List.set_cons_zero, List.set_cons_succ]
      refine wpAnyG_take 4 22 (v := ?_) rfl rfl (by kernel_rfl) (fun _ _ _ h => h) (Or.inl ⟨by rfl, ?_⟩) (by assumption) ?_
      rotate_left
      · (intro w' hSw; (try dsimp only at hSw); go_split_ands; go_simp; try with_reducible rfl)
      try simp only [List.setIfInBounds_toArray, List.set_cons_zero, List.set_cons_succ]
      refine wpAnyG_take 5 23 (v := ?_) rfl rfl (by kernel_rfl) (fun _ _ _ h => h) (Or.inl ⟨by rfl, ?_⟩) (by assumption) ?_
      rotate_left
      · (intro w' hSw; (try dsimp only at hSw); go_split_ands; go_simp; try with_reducible rfl)
      try simp only [List.setIfInBounds_toArray, List.set_cons_zero, List.set_cons_succ]
      refine wpAnyG_take 6 24 (v := ?_) rfl rfl (by kernel_rfl) (fun _ _ _ h => h) (Or.inl ⟨by rfl, ?_⟩) (by assumption) ?_
      rotate_left
      · (intro w' hSw; (try dsimp only at hSw); go_split_ands; go_simp; try with_reducible rfl)
      try simp only [List.setIfInBounds_toArray, List.set_cons_zero, List.set_cons_succ]
      refine wpAnyG_take 8 26 (v := ?_) rfl rfl (by kernel_rfl) (fun _ _ _ h => h) (Or.inl ⟨by rfl, ?_⟩) (by assumption) ?_
      rotate_left
      · (intro w' hSw; (try dsimp only at hSw); go_split_ands; go_simp; try with_reducible rfl)
      try simp only [List.setIfInBounds_toArray, List.set_cons_zero, List.set_cons_succ]
      refine wpAnyG_do 7 rfl (by kernel_rfl) (fun K hK => ?_)
      rw [if_pos (by rfl)]
      go_simp
      refine (HSk.out _).mono ?_
      rintro e w2 ⟨rfl, u2⟩
      have v2 : Up wr w2 := Up.trans (by (repeat (first | exact Below.refl _ _ | (with_reducible refine Below.drewN' ?_ _) | (with_reducible refine Below.drew ?_) | (with_reducible refine Below.setCell ?_ (by first | exact Nat.le_refl _ | omega | (with_reducible (repeat (first | refine sz_alloc ?_ | refine sz_setCell ?_ | refine sz_drew ?_ | refine sz_drewN ?_)); first | exact Nat.le_refl _ | omega) | (simp only [World.size_alloc, World.size_setCell, World.size_drew, size_drewN']; omega)) _) | (with_reducible refine Below.alloc ?_ (by first | exact Nat.le_refl _ | omega | (with_reducible (repeat (first | refine sz_alloc ?_ | refine sz_setCell ?_ | refine sz_drew ?_ | refine sz_drewN ?_)); first | exact Nat.le_refl _ | omega) | (simp only [World.size_alloc, World.size_setCell, World.size_drew, size_drewN']; omega)) _) | assumption))) u2
      refine hK.out _ _ ⟨v2.cellAt c0, v2.cellAt c1, v2.cellAt c2, v2.cellAt c3, v2.cellAt c4, v2.cellAt hc⟩ (fun hHeld => ?_)
      clear hK K
      refine wpAnyG_take 9 27 (v := .bool (sv == x)) rfl rfl (by kernel_rfl) (fun _ _ _ h => h) (Or.inl ⟨by rfl, ?_⟩) (by assumption) ?_
      · intro w' _
        go_simp
      try simp only [List.setIfInBounds_toArray, List.set_cons_zero, List.set_cons_succ]
      refine wpAnyG_do 10 rfl (by kernel_rfl) (fun K hK => ?_)
      rw [if_pos (by rfl)]
      go_simp
      have U2 := Lib.hid (Up.trans HU.out v2)
      have hsz2 := v2.size
      have v3 : Up wr (w2.alloc (.cells #[.bool (sv == x)] 4)) := Up.trans v2 (by (repeat (first | exact Below.refl _ _ | (with_reducible refine Below.drewN' ?_ _) | (with_reducible refine Below.drew ?_) | (with_reducible refine Below.setCell ?_ (by first | exact Nat.le_refl _ | omega | (with_reducible (repeat (first | refine sz_alloc ?_ | refine sz_setCell ?_ | refine sz_drew ?_ | refine sz_drewN ?_)); first | exact Nat.le_refl _ | omega) | (simp only [World.size_alloc, World.size_setCell, World.size_drew, size_drewN']; omega)) _) | (with_reducible refine Below.alloc ?_ (by first | exact Nat.le_refl _ | omega | (with_reducible (repeat (first | refine sz_alloc ?_ | refine sz_setCell ?_ | refine sz_drew ?_ | refine sz_drewN ?_)); first | exact Nat.le_refl _ | omega) | (simp only [World.size_alloc, World.size_setCell, World.size_drew, size_drewN']; omega)) _) | assumption)))
      have O3 := Lib.hid ((ownsRow_up HO.out v2).alloc (.cells #[.bool (sv == x)] 4))
      refine hK.out _ _ ⟨v3.cellAt c0, v3.cellAt c1, v3.cellAt c2, v3.cellAt c3, v3.cellAt c4, v3.cellAt hc⟩ (fun hHeld => ?_)
      clear hK K
      refine wpAnyG_do 11 rfl (by kernel_rfl) (fun K hK => ?_)
      rw [if_pos (by rfl)]
      refine wp_append_own _ _ _ 72 rfl w1.heap.size 4 i0 (.bool false) 1 1 Try.underlying72 hi hz0 hz1 hz2 rfl (by decide) _ k _ rfl O3.out ⟨w2.heap.size, 0, none⟩ 1 1 [.bool (sv == x)] (by go_simp) rfl (newsAt w2 rfl [.bool (sv == x)] _) (by simp [Value.oneCell']) (by simp [maxLen]; omega) (by omega) (sz_alloc (Nat.le_trans hsz hsz2)) ?_
      intro v' w8 hown8 hgr8 hnn
      clear hnn
      have v31 : Up w1 (w2.alloc (.cells #[.bool (sv == x)] 4)) := Up.trans HU.out v3
      have u8 : Up w1 w8 := v31.grown hgr8 v31.size (fun j e => (O3.out.lt j e).1)
      have U8 := Lib.hid u8
      have O8 := Lib.hid hown8
      refine hK.out _ _ (by obtain ⟨a0, a1, a2, a3, a4⟩ := five (BS.out.up (Up.trans U1.out u8)); exact ⟨a0, a1, a2, a3, a4, u8.cellAt hc1⟩) (fun hHeld => ?_)
      clear hK K hown8 hgr8 v2 v3 v31 hc1 u8 O3 HO c0 c1 c2 c3 c4 hc HSk hHeld
      try simp only [List.setIfInBounds_toArray, List.set_cons_zero, List.set_cons_succ]
      refine wpAnyG_tail (by kernel_rfl) ?_
      change wpList _ _ _ [_] _ _
      have sy : IntKind.i64.wrap ((k : Int) + 1) = k + 1 := IntWalk.i64_in _ (by omega)
      go_wp2_with fail
      go_roundw
      case rel =>
        try ((repeat apply Exists.intro); refine ⟨?_, rfl⟩)
        refine ⟨k + 1, by omega, by go_num, ?_, U8.out⟩
        have e : (bools ((List.range (k + 1)).map (sayR s g x))).flatten = (bools ((List.range k).map (sayR s g x))).flatten ++ [.bool (sv == x)] := by
          rw [List.range_succ, List.map_append]
          unfold bools
          rw [List.map_append, List.flatten_append, SY.out]
          rfl
        rw [e]
        exact O8.out
      case measure => simp [intOf]; omega
    · obtain rfl : dn = k := by omega
      obtain ⟨q, d, rfl, a1, a2, hR, hge⟩ := Row.of_own (rows := bools (saysR s g x)) (flatOk_bools _) (show wr.ownsRow w1.heap.size 4 1 _ _ (bools (saysR s g x)).flatten by unfold saysR; rw [HDD.out]; exact HO.out) (by simp [bools, saysR, HDD.out])
      go_wp2_with fail
      go_ret
      rw [HDD.out]
      exact ⟨q, d, rfl, a1, a2, hR, Up.trans U0.out (Up.trans U1.out HU.out)⟩
end
end Go.Proofs.Ytifcmbeejichdaa
