/- Plain words for the walks: what slices of numbers and of structs hold in memory. -/
import Derived.Test.YtknaajofcbenaaaGreatRows
import Derived.WalkKit
import Derived.WalkSpells
import Derived.WalkLawsBesides
import Derived.Deep.QuietTactic
import Derived.BigQuiet
namespace Go.Proofs.YtknaajofcbenaaaGreat
open Go.RowKit

abbrev Up (w w' : World) : Prop := Below w.heap.size w w'

theorem Up.trans {a b c : World} (h : Up a b) (k : Up b c) : Up a c := Below.trans h (k.mono h.size)

/-- rewrite rules for cells of old blocks -/
theorem bcell {W w1 : World} (hb : Below W.heap.size W w1) : (∀ b o, b < W.heap.size → w1.cell? ⟨b, o, none⟩ = W.cell? ⟨b, o, none⟩) ∧ (∀ b o, b < W.heap.size → w1.frozen? ⟨b, o, none⟩ = W.frozen? ⟨b, o, none⟩) :=
  ⟨fun b o h => hb.cell (p := ⟨b, o, none⟩) h, fun b o h => hb.frozen (p := ⟨b, o, none⟩) h⟩

theorem Below.drewN' {B : Nat} {a w : World} (h : Below B a w) (n : Nat) : Below B a (w.drewN n) := ⟨h.os, h.tape, h.output, h.size, h.block⟩
theorem size_drewN' (w : World) (n : Nat) : (w.drewN n).heap.size = w.heap.size := rfl

theorem sz_alloc {B : Nat} {w : World} {o : Obj} (h : B ≤ w.heap.size) : B ≤ (w.alloc o).heap.size := by rw [World.size_alloc]; omega
theorem sz_setCell {B : Nat} {w : World} {a : Addr} {v : Value} (h : B ≤ w.heap.size) : B ≤ (w.setCell a v).heap.size := by rw [World.size_setCell]; exact h
theorem sz_drew {B : Nat} {w : World} (h : B ≤ w.heap.size) : B ≤ w.drew.heap.size := h
theorem sz_drewN {B : Nat} {w : World} {n : Nat} (h : B ≤ w.heap.size) : B ≤ (w.drewN n).heap.size := h

theorem cell_lt {w : World} {b o : Nat} {v : Value} (h : w.cell? ⟨b, o, none⟩ = some v) : b < w.heap.size := by
  unfold World.cell? at h
  cases ho : w.heap[b]? with
  | none => simp [ho] at h
  | some x => exact (Array.getElem?_eq_some_iff.1 ho).1

theorem Up.cellAt {w w' : World} (h : Up w w') {b o : Nat} {v : Value} (hc : w.cell? ⟨b, o, none⟩ = some v) : w'.cell? ⟨b, o, none⟩ = some v :=
  (h.cell (p := ⟨b, o, none⟩) (cell_lt hc)).trans hc

/-- a block known whole -/
def Blk (w : World) (B : Nat) (cs : List Value) (T : TypeId) : Prop := w.heap[B]? = some (.cells cs.toArray T (0, 0))
section
variable {w w' : World} {B : Nat} {cs : List Value} {T : TypeId}
theorem Blk.lt (h : Blk w B cs T) : B < w.heap.size := (Array.getElem?_eq_some_iff.1 h).1
theorem Blk.cell (h : Blk w B cs T) (i : Nat) : w.cell? ⟨B, i, none⟩ = cs[i]? := by
  have h' : w.heap[B]? = some (.cells cs.toArray T (0, 0)) := h
  simp [World.cell?, h']
theorem Blk.free (h : Blk w B cs T) (i : Nat) : w.frozen? ⟨B, i, none⟩ = false := by
  have h' : w.heap[B]? = some (.cells cs.toArray T (0, 0)) := h
  simp [World.frozen?, h']
theorem Blk.new (w : World) (cs : List Value) (T : TypeId) : Blk (w.alloc (.cells cs.toArray T)) w.heap.size cs T := by show (w.heap.push _)[w.heap.size]? = _; simp
theorem Blk.alloc (h : Blk w B cs T) (o : Obj) : Blk (w.alloc o) B cs T := (Below.heap_alloc w o B h.lt).trans h
theorem Blk.up (h : Blk w B cs T) (hu : Up w w') : Blk w' B cs T := (hu.block B h.lt).trans h
theorem Blk.below (h : Blk w B cs T) {b : Nat} (hu : Below b w w') (hb : B < b) : Blk w' B cs T := (hu.block B hb).trans h
theorem Blk.drewN (h : Blk w B cs T) (n : Nat) : Blk (w.drewN n) B cs T := h
theorem Blk.drew (h : Blk w B cs T) : Blk w.drew B cs T := h
theorem Blk.other (h : Blk w B cs T) {a : Addr} (ha : B ≠ a.block) (v : Value) : Blk (w.setCell a v) B cs T := (Below.heap_setCell w a v B ha).trans h
theorem Blk.set (h : Blk w B cs T) (i : Nat) (v : Value) : Blk (w.setCell ⟨B, i, none⟩ v) B (cs.set i v) T := by
  have h' : w.heap[B]? = some (.cells cs.toArray T (0, 0)) := h
  show (w.heap.modify B _)[B]? = _
  rw [Array.getElem?_modify, if_pos rfl, h']
  simp
end

/-- the world of a call under a name -/
theorem Calls.world {P : Program} {f : FuncId} {args : Array Value} {W : World} {R : Ending → World → Prop} (h : ∀ W', W' = W → Calls P f args W' R) : Calls P f args W R := h W rfl
theorem Code.wp_world {P : Program} {c : Code} {Q : Exit → Act → World → Prop} {a : Act} {W : World} (h : ∀ W', W' = W → c.wp P Q a W') : c.wp P Q a W := h W rfl

/-- a row of cells at an address: n items of k cells each -/
def Row (w : World) (p : Option Addr) (k : Nat) (rows : List (List Value)) : Prop :=
  ∀ i row, rows[i]? = some row → ∃ b off, p = some ⟨b, off, none⟩ ∧ ∀ j x, row[j]? = some x → w.cell? ⟨b, off + i * k + j, none⟩ = some x

theorem Row.up {w w' : World} {p : Option Addr} {k : Nat} {rows : List (List Value)} (h : Row w p k rows) (hu : Up w w') : Row w' p k rows := by
  intro i row hi
  obtain ⟨b, off, hp, hc⟩ := h i row hi
  exact ⟨b, off, hp, fun j x hj => hu.cellAt (hc j x hj)⟩

def ints (l : List Int) : List (List Value) := l.map fun x => [.int .i64 x]
def pairs (l : List (Int × Int)) : List (List Value) := l.map fun x => [.int .i64 x.1, .int .i64 x.2]
def triples (l : List (Int × Int × Int)) : List (List Value) := l.map fun x => [.int .i64 x.1, .int .i64 x.2.1, .int .i64 x.2.2]

theorem Row.int {w : World} {p : Option Addr} {l : List Int} (h : Row w p 1 (ints l)) (i : Nat) (hi : i < l.length) :
    ∃ b off, p = some ⟨b, off, none⟩ ∧ w.cell? ⟨b, off + i, none⟩ = some (.int .i64 l[i]) := by
  obtain ⟨b, off, hp, hc⟩ := h i [.int .i64 l[i]] (by simp [ints, hi])
  exact ⟨b, off, hp, by simpa using hc 0 _ rfl⟩
theorem Row.pair {w : World} {p : Option Addr} {l : List (Int × Int)} (h : Row w p 2 (pairs l)) (i : Nat) (hi : i < l.length) :
    ∃ b off, p = some ⟨b, off, none⟩ ∧ w.cell? ⟨b, off + i * 2, none⟩ = some (.int .i64 l[i].1) ∧ w.cell? ⟨b, off + i * 2 + 1, none⟩ = some (.int .i64 l[i].2) := by
  obtain ⟨b, off, hp, hc⟩ := h i [.int .i64 l[i].1, .int .i64 l[i].2] (by simp [pairs, hi])
  exact ⟨b, off, hp, by simpa using hc 0 _ rfl, by simpa using hc 1 _ rfl⟩
theorem Row.triple {w : World} {p : Option Addr} {l : List (Int × Int × Int)} (h : Row w p 3 (triples l)) (i : Nat) (hi : i < l.length) :
    ∃ b off, p = some ⟨b, off, none⟩ ∧ w.cell? ⟨b, off + i * 3, none⟩ = some (.int .i64 l[i].1) ∧ w.cell? ⟨b, off + i * 3 + 1, none⟩ = some (.int .i64 l[i].2.1) ∧ w.cell? ⟨b, off + i * 3 + 2, none⟩ = some (.int .i64 l[i].2.2) := by
  obtain ⟨b, off, hp, hc⟩ := h i [.int .i64 l[i].1, .int .i64 l[i].2.1, .int .i64 l[i].2.2] (by simp [triples, hi])
  exact ⟨b, off, hp, by simpa using hc 0 _ rfl, by simpa using hc 1 _ rfl, by simpa using hc 2 _ rfl⟩
theorem ret_int {k : IntKind} {a b : Int} (h : a = b) : Ending.returned (.int k a) = .returned (.int k b) := by rw [h]
theorem ret_bool {a b : Bool} (h : a = b) : Ending.returned (.bool a) = .returned (.bool b) := by rw [h]
end Go.Proofs.YtknaajofcbenaaaGreat
