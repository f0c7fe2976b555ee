/- Plain words: two worlds that are alike below a block number, but for one block of the call's own. -/
import Derived.Test.YtknaajofcbenaaaGreatBase
import Derived.WalkKit
import Derived.WalkSpells
import Derived.WalkLawsBesides
import Derived.Deep.QuietTactic
import Derived.BigQuiet
namespace Go.Proofs.YtknaajofcbenaaaGreat
open Go.RowKit

structure Far (B n₀ : Nat) (w w' : World) : Prop where
  os : w'.os = w.os
  tape : w'.tape = w.tape
  output : w'.output = w.output
  size : w.heap.size ≤ w'.heap.size
  block : ∀ k, k < n₀ → k ≠ B → w'.heap[k]? = w.heap[k]?
section
variable {B n₀ : Nat} {w w' w'' : World}
theorem Far.refl (B n₀ : Nat) (w : World) : Far B n₀ w w := ⟨rfl, rfl, rfl, Nat.le_refl _, fun _ _ _ => rfl⟩
theorem Far.trans (h : Far B n₀ w w') (k : Far B n₀ w' w'') : Far B n₀ w w'' :=
  ⟨k.os.trans h.os, k.tape.trans h.tape, k.output.trans h.output, Nat.le_trans h.size k.size, fun i hi hb => (k.block i hi hb).trans (h.block i hi hb)⟩
theorem Far.of (h : Below n₀ w w') : Far B n₀ w w' := ⟨h.os, h.tape, h.output, h.size, fun k hk _ => h.block k hk⟩
theorem Far.drew (h : Far B n₀ w w') : Far B n₀ w w'.drew := ⟨h.os, h.tape, h.output, h.size, h.block⟩
theorem Far.drewN (h : Far B n₀ w w') (n : Nat) : Far B n₀ w (w'.drewN n) := ⟨h.os, h.tape, h.output, h.size, h.block⟩
theorem Far.alloc (h : Far B n₀ w w') (hn : n₀ ≤ w'.heap.size) (o : Obj) : Far B n₀ w (w'.alloc o) := h.trans (Far.of ((Below.refl _ _).alloc hn o))
theorem Far.setIn (h : Far B n₀ w w') (off : Nat) (v : Value) : Far B n₀ w (w'.setCell ⟨B, off, none⟩ v) :=
  h.trans ⟨rfl, rfl, rfl, by simp [World.setCell], fun k _ hb => Below.heap_setCell _ _ _ _ hb⟩
theorem Far.setNew (h : Far B n₀ w w') {a : Addr} (ha : n₀ ≤ a.block) (v : Value) : Far B n₀ w (w'.setCell a v) := h.trans (Far.of ((Below.refl _ _).setCell ha v))
theorem Far.grown {row : Option Nat} (h : Far B n₀ w w') (hg : w'.grownBy w'' row) (hn : n₀ ≤ w'.heap.size) (hr : ∀ k, row = some k → n₀ ≤ k) : Far B n₀ w w'' :=
  h.trans (Far.of ((Below.refl _ _).grown hg hn hr))
theorem Far.below (h : Far B n₀ w w') {b : Nat} (h1 : b ≤ B) (h2 : b ≤ n₀) : Below b w w' := ⟨h.os, h.tape, h.output, h.size, fun k hk => h.block k (by omega) (by omega)⟩
theorem Far.mono (h : Far B n₀ w w') {m : Nat} (hm : m ≤ n₀) : Far B m w w' := ⟨h.os, h.tape, h.output, h.size, fun k hk hb => h.block k (by omega) hb⟩
theorem Far.row (h : Far B n₀ w w') {p : Option Addr} {k : Nat} {rows : List (List Value)} (hr : Row w p k rows) (hp : 0 < rows.length → ∀ b off, p = some ⟨b, off, none⟩ → b < n₀ ∧ b ≠ B) : Row w' p k rows := by
  intro i row hi
  obtain ⟨b, off, e, hc⟩ := hr i row hi
  obtain ⟨h1, h2⟩ := hp (by have := (List.getElem?_eq_some_iff.1 hi).1; omega) b off e
  exact ⟨b, off, e, fun j x hj => (World.cell?_of_block (a := ⟨b, off + i * k + j, none⟩) (h.block b h1 h2)).trans (hc j x hj)⟩
theorem Far.blk (h : Far B n₀ w w') {b : Nat} {cs : List Value} {T : TypeId} (hb : Blk w b cs T) (h1 : b < n₀) (h2 : b ≠ B) : Blk w' b cs T := (h.block b h1 h2).trans hb
end

theorem Row.away {w : World} {p : Option Addr} {k : Nat} {rows : List (List Value)} (h : Row w p k rows) {a : Addr} (ha : 0 < rows.length → ∀ b off, p = some ⟨b, off, none⟩ → b ≠ a.block) (v : Value) : Row (w.setCell a v) p k rows := by
  intro i row hi
  obtain ⟨b, off, hp, hc⟩ := h i row hi
  refine ⟨b, off, hp, fun j x hj => ?_⟩
  exact (World.cell?_of_block (a := ⟨b, off + i * k + j, none⟩) (Below.heap_setCell w a v b (ha (by have := (List.getElem?_eq_some_iff.1 hi).1; omega) b off hp))).trans (hc j x hj)
theorem Row.lt {w : World} {p : Option Addr} {k : Nat} {rows : List (List Value)} (h : Row w p k rows) (hk : ∀ r ∈ rows, 0 < r.length) (hl : 0 < rows.length) {b off : Nat} (e : p = some ⟨b, off, none⟩) : b < w.heap.size := by
  obtain ⟨b', off', e', hc⟩ := h 0 rows[0] (List.getElem?_eq_getElem hl)
  rw [e] at e'
  simp only [Option.some.injEq, Addr.mk.injEq, and_true] at e'
  obtain ⟨rfl, rfl⟩ := e'
  have hr := hk rows[0] (List.getElem_mem hl)
  exact cell_lt (hc 0 _ (List.getElem?_eq_getElem hr))

theorem pairs_take {l : List (Int × Int)} {k : Nat} (h : k < l.length) : (pairs (l.take (k + 1))).flatten = (pairs (l.take k)).flatten ++ [.int .i64 l[k].1, .int .i64 l[k].2] := by
  rw [List.take_add_one, List.getElem?_eq_getElem h]; unfold pairs; rw [List.map_append, List.flatten_append]; rfl
theorem triples_take {l : List (Int × Int × Int)} {k : Nat} (h : k < l.length) : (triples (l.take (k + 1))).flatten = (triples (l.take k)).flatten ++ [.int .i64 l[k].1, .int .i64 l[k].2.1, .int .i64 l[k].2.2] := by
  rw [List.take_add_one, List.getElem?_eq_getElem h]; unfold triples; rw [List.map_append, List.flatten_append]; rfl
theorem newsAt (w : World) {n : Nat} (hn : n = w.heap.size) (l : List Value) (T : TypeId) : ∀ (j : Nat) (u : Value), l[j]? = some u → (w.alloc (.cells l.toArray T)).cell? ((⟨n, 0, none⟩ : Addr).add j) = some u := by
  intro j u hj
  subst hn
  have h := (Blk.new w l T).cell j
  rw [hj] at h
  rw [Addr.add_lit, Nat.zero_add]
  exact h
end Go.Proofs.YtknaajofcbenaaaGreat
