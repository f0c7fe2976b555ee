/- Plain law: a queue of numbers (append at the end, 's[1:]' at the front): a slice of the call's own that may lie behind its block's start. -/
import Derived.Test.YtknaajofcbenaaaGreatBase
import Derived.Test.YtknaajofcbenaaaGreatHeight
import Derived.Test.YtknaajofcbenaaaGreatChk2
import Derived.Test.YtknaajofcbenaaaGreatOn
import Derived.Test.YtknaajofcbenaaaGreatLower
import Derived.Test.YtknaajofcbenaaaGreatGates
import Derived.Test.YtknaajofcbenaaaGreatBegin
import Derived.Test.YtknaajofcbenaaaGreatAll
import Derived.Test.YtknaajofcbenaaaGreatSpans
import Derived.Test.YtknaajofcbenaaaGreatFits
import Derived.WalkKit
import Derived.WalkSpells
import Derived.WalkLawsBesides
import Derived.Deep.QuietTactic
import Derived.BigQuiet
import Derived.Lib.Hide
import Derived.Shelf.Abstract
import Derived.BigGuardPart
import Derived.RangeFuncNested
import Derived.RangeFuncBound
import Derived.RangeFuncCalls
import Derived.RangeFuncLeaves
import Derived.Shelf.RegionOpen
import Derived.OwnWalkIn
import Derived.TacticsInMore
import Derived.LoopNIn
import Derived.LoopIn
import Derived.StillTailTactics
import Derived.Deep.RegionHeld3
import Derived.StillTail
import Derived.RangeFuncWrites
import Derived.Laws.StructEq
import Derived.Deep.LoopGhost
import Derived.IntWalk
import Derived.RangeFuncBox
import Derived.ArgAppend
namespace Go.Proofs.YtknaajofcbenaaaGreat
open Go.RowKit Go.Shelf

def Que (w : World) (n₀ : Nat) (v : Value) (q : List Int) : Prop :=
  (v = .slice none 0 0 ∧ q = []) ∨ ∃ g off cap cs, v = .slice (some ⟨g, off, none⟩) q.length cap ∧ n₀ ≤ g ∧ Blk w g cs 3 ∧ q.length ≤ cap ∧ cap ≤ maxLen ∧ off + cap ≤ cs.length ∧ ∀ j x, q[j]? = some x → cs[off + j]? = some (.int .i64 x)

theorem Que.nil (w : World) (n₀ : Nat) : Que w n₀ (.slice none 0 0) [] := .inl ⟨rfl, rfl⟩
theorem Que.up {w w' : World} {n₀ : Nat} {v : Value} {q : List Int} (h : Que w n₀ v q) (hu : Up w w') : Que w' n₀ v q := by
  rcases h with h | ⟨g, off, cap, cs, h1, h2, h3, h4⟩
  · exact .inl h
  · exact .inr ⟨g, off, cap, cs, h1, h2, h3.up hu, h4⟩
theorem Que.shape {w : World} {n₀ : Nat} {v : Value} {q : List Int} (h : Que w n₀ v q) : ∃ a c, v = .slice a q.length c := by
  rcases h with ⟨rfl, rfl⟩ | ⟨g, off, cap, cs, rfl, _⟩
  · exact ⟨_, _, rfl⟩
  · exact ⟨_, _, rfl⟩
theorem Que.front {w : World} {n₀ : Nat} {v : Value} {x : Int} {q : List Int} (h : Que w n₀ v (x :: q)) : ∃ g off cap, v = .slice (some ⟨g, off, none⟩) (q.length + 1) cap ∧ w.cell? ⟨g, off, none⟩ = some (.int .i64 x) ∧
    q.length + 1 ≤ cap ∧ n₀ ≤ g ∧ g < w.heap.size ∧ Que w n₀ (.slice (some (if cap = 1 then ⟨g, off, none⟩ else ⟨g, off + 1, none⟩)) q.length (cap - 1)) q := by
  rcases h with ⟨_, h⟩ | ⟨g, off, cap, cs, rfl, h2, h3, h4, h5, h6, h7⟩
  · cases h
  · refine ⟨g, off, cap, rfl, ?_, h4, h2, h3.lt, .inr ?_⟩
    · rw [h3.cell]; simpa using h7 0 x rfl
    · simp only [List.length_cons] at h4
      by_cases hc : cap = 1
      · obtain rfl : q = [] := List.eq_nil_of_length_eq_zero (by omega)
        rw [if_pos hc]
        exact ⟨g, off, cap - 1, cs, rfl, h2, h3, by simp, by omega, by omega, by simp⟩
      · rw [if_neg hc]
        refine ⟨g, off + 1, cap - 1, cs, rfl, h2, h3, by omega, by omega, by omega, fun j y hj => ?_⟩
        have := h7 (j + 1) y (by simpa using hj)
        rw [show off + 1 + j = off + (j + 1) by omega]
        exact this

section
variable {P : Program} (w : World)
theorem run_append_que (n₀ : Nat) (t ty : TypeId) (i : TypeInfo) (ht : P.underlying t = some (.slice 3)) (hi : P.info? 3 = some i) (hz : i.zero = some (.int .i64 0)) (hsize : i.size = 1) (hby : i.bytes = 8)
    (v : Value) (q : List Int) (h : Que w n₀ v q) (ab ao : Nat) (c : Nat) (x : Int) (hx : w.cell? ⟨ab, ao, none⟩ = some (.int .i64 x)) (hq : q.length ≤ 1000) (hn : n₀ ≤ w.heap.size) :
    ∃ v' w', (Builtin.append_ #[t, t] ty #[v, .slice (some ⟨ab, ao, none⟩) 1 c]).run P w = .ok v' w' ∧ Que w' n₀ v' (q ++ [x]) ∧ w.grownBy w' v.ownBlock ∧ (v'.ownBlock = v.ownBlock ∨ ∃ g, v'.ownBlock = some g ∧ w.heap.size ≤ g) := by
  have hnews : ∀ j u, ([.int .i64 x] : List Value)[j]? = some u → w.cell? ((⟨ab, ao, none⟩ : Addr).add j) = some u := by
    intro j u hj
    match j, hj with
    | 0, hj => simp only [List.getElem?_cons_zero, Option.some.injEq] at hj; subst hj; rw [Addr.add_lit]; exact hx
    | j + 1, hj => simp at hj
  have h1 : ∀ u ∈ ([.int .i64 x] : List Value), u.oneCell' = true := by simp [Value.oneCell']
  have own : ∀ v' w', w'.ownsRow w.heap.size 3 1 v' (q.length + 1) (q.map (fun y => Value.int .i64 y) ++ [.int .i64 x]) → w.grownBy w' none → Que w' n₀ v' (q ++ [x]) ∧ w.grownBy w' v.ownBlock ∧ (v'.ownBlock = v.ownBlock ∨ ∃ g, v'.ownBlock = some g ∧ w.heap.size ≤ g) := by
    intro v' w' ho hg
    obtain ⟨hl, hv⟩ := ho
    rcases hv with ⟨_, h0⟩ | ⟨g, cap, cur, rfl, hb, hh, hc, hm, hs, ht⟩
    · omega
    · refine ⟨.inr ⟨g, 0, cap, cur.toList, by simp, by omega, by unfold Blk; simpa using hh, by simp; omega, hm, by simp; omega, fun j y hj => ?_⟩, ⟨hg.os, hg.tape, hg.output, hg.size, fun k hk _ => hg.block k hk (by simp)⟩, Or.inr ⟨g, rfl, hb⟩⟩
      have hjl : j < q.length + 1 := by have := (List.getElem?_eq_some_iff.1 hj).1; simpa using this
      have e : (q.map (fun y => Value.int .i64 y) ++ [.int .i64 x])[j]? = some (.int .i64 y) := by
        have : (q.map (fun y => Value.int .i64 y) ++ [.int .i64 x]) = (q ++ [x]).map (fun y => Value.int .i64 y) := by simp
        rw [this, List.getElem?_map, hj]; rfl
      rw [← ht, List.getElem?_take, if_pos (by omega)] at e
      simpa using e
  rcases h with ⟨rfl, rfl⟩ | ⟨g, off, cap, cs, rfl, k2, k3, k4, k5, k6, k7⟩
  · obtain ⟨v', w', hr, ho, hg, _⟩ := run_append_own (P := P) w w.heap.size t ty 3 i (.int .i64 0) 1 8 ht hi hz hsize hby rfl (by decide) (.slice none 0 0) 0 [] (World.ownsRow_nil w _ _ _) ⟨ab, ao, none⟩ 1 c [.int .i64 x] rfl hnews h1 (by simp [maxLen]) (by omega) (Nat.le_refl _)
    exact ⟨v', w', hr, own v' w' ho ⟨hg.os, hg.tape, hg.output, hg.size, fun k hk _ => hg.block k hk (by simp [Value.ownBlock])⟩⟩
  · by_cases hroom : q.length + 1 ≤ cap
    · have hr := run_append_room_cells (P := P) w t ty 3 i ht hi g off q.length cap ⟨ab, ao, none⟩ 1 c [.int .i64 x] (by rw [hsize]; rfl) hnews h1 hroom
        (fun j hj => by rw [hsize]; simp only [List.length_singleton] at hj; rw [k3.cell, List.getElem?_eq_getElem (by omega)]; rfl) (fun j hj => k3.free _)
      rw [hsize] at hr
      refine ⟨_, _, hr, .inr ⟨g, off, cap, cs.set (off + q.length) (.int .i64 x), by simp, k2, ?_, by simp; omega, k5, by simp; omega, fun j y hj => ?_⟩, ?_, Or.inl rfl⟩
      · simp only [World.setCells, Nat.mul_one]
        exact k3.set _ _
      · by_cases hjl : j < q.length
        · rw [List.getElem?_append_left hjl] at hj
          rw [List.getElem?_set_ne (by omega)]
          exact k7 j y hj
        · have hl := (List.getElem?_eq_some_iff.1 hj).1
          simp only [List.length_append, List.length_singleton] at hl
          obtain rfl : j = q.length := by omega
          simp only [List.getElem?_append_right (Nat.le_refl _), Nat.sub_self, List.getElem?_cons_zero, Option.some.injEq] at hj
          subst hj
          rw [List.getElem?_set_self (by omega)]
      · simp only [World.setCells, Nat.mul_one]
        exact ⟨rfl, rfl, rfl, by simp, fun k _ hk => Below.heap_setCell w _ _ k (fun e => hk (by simp [Value.ownBlock, e]))⟩
    · obtain ⟨v', w', hr, ho, hg⟩ := run_append_arg_grows (P := P) w t ty 3 i (.int .i64 0) 1 8 ht hi hz hsize hby rfl (by decide) ⟨g, off, none⟩ q.length cap (q.map (fun y => Value.int .i64 y)) (by simp)
        (fun j u hj => by
          rw [List.getElem?_map] at hj
          cases hq : q[j]? with
          | none => rw [hq] at hj; cases hj
          | some y => rw [hq] at hj; simp only [Option.map_some, Option.some.injEq] at hj; subst hj; rw [Addr.add_lit, k3.cell]; exact k7 j y hq)
        ⟨ab, ao, none⟩ 1 c [.int .i64 x] rfl hnews (by omega) (by simp [maxLen]; omega) (by omega)
      exact ⟨v', w', hr, own v' w' ho hg⟩

theorem wpList_append_que {ops : Array Oper} {rest : List Oper} {o : Oper} {a : Act} {Q : Exit → Act → World → Prop} (hgd : o.guard = none) (s y : Operand) (t : TypeId)
    (ho : o.op = .call { callee := .builtin .append, args := #[s, y], argTypes := #[t, t] })
    (n₀ : Nat) (i : TypeInfo) (ht : P.underlying t = some (.slice 3)) (hi : P.info? 3 = some i) (hz : i.zero = some (.int .i64 0)) (hsize : i.size = 1) (hby : i.bytes = 8)
    (v : Value) (q : List Int) (hs : a.eval s = v) (h : Que w n₀ v q) (ab ao : Nat) (c : Nat) (x : Int) (hy : a.eval y = .slice (some ⟨ab, ao, none⟩) 1 c) (hx : w.cell? ⟨ab, ao, none⟩ = some (.int .i64 x)) (hq : q.length ≤ 1000) (hn : n₀ ≤ w.heap.size)
    (hK : ∀ v' w', Que w' n₀ v' (q ++ [x]) → w.grownBy w' v.ownBlock → (v'.ownBlock = v.ownBlock ∨ ∃ g, v'.ownBlock = some g ∧ w.heap.size ≤ g) → wpList P ops Q rest (a.put o.dst v') w') :
    wpList P ops Q (o :: rest) a w := by
  refine wpList_plain hgd fun K hK' => ?_
  obtain ⟨v', w', hr, h2, h3, h4⟩ := run_append_que (P := P) w n₀ t o.type i ht hi hz hsize hby v q h ab ao c x hx hq hn
  unfold Oper.wp execOp
  simp only [ho, resolve, invoke, builtin, Sem.run_bind, Sem.run_pure, Result.andThen_ok, List.map_toArray, List.map_cons, List.map_nil, hs, hy, hr]
  exact hK' _ _ (hK v' w' h2 h3 h4)
end
end Go.Proofs.YtknaajofcbenaaaGreat
