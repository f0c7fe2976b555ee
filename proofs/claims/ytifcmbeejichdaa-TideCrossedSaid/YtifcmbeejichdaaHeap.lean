/- The heap of numbers: whatever it deals lies within its bounds, and it turns no block but its own. -/
import Derived.Test.YtifcmbeejichdaaBase
import Derived.Test.YtifcmbeejichdaaFar
import Derived.WalkKit
import Derived.WalkSpells
import Derived.WalkLawsBesides
import Derived.Deep.QuietTactic
import Derived.BigQuiet
import Derived.IntWalk
import Derived.Lib.Hide
import Derived.Laws.BitsAllLaws
namespace Go.Proofs.Ytifcmbeejichdaa
open Go.RowKit

def bytes (l : List Int) : List (List Value) := l.map fun x => [.int .u8 x]
theorem Row.byte {w : World} {p : Option Addr} {l : List Int} (h : Row w p 1 (bytes l)) (i : Nat) (hi : i < l.length) :
    ∃ b off, p = some ⟨b, off, none⟩ ∧ w.cell? ⟨b, off + i, none⟩ = some (.int .u8 l[i]) := by
  obtain ⟨b, off, hp, hc⟩ := h i [.int .u8 l[i]] (by simp [bytes, hi])
  exact ⟨b, off, hp, by simpa using hc 0 _ rfl⟩

/-- a heap of the bytes l at block b -/
def HeapAt (w : World) (b : Nat) (p : Option Addr) (c : Nat) (l : List Int) : Prop :=
  ∃ k r : Int, Blk w b [.slice p l.length c, .int .i64 k, .int .u32 r] 166 ∧ 0 ≤ k ∧ k ≤ l.length ∧ Row w p 1 (bytes l)
/-- the bytes do not lie in the heap's own block, and lie below n -/
def Apart (p : Option Addr) (b n : Nat) (l : List Int) : Prop := 0 < (bytes l).length → ∀ b' off, p = some ⟨b', off, none⟩ → b' ≠ b ∧ b' < n
theorem bytes_pos (l : List Int) : ∀ r ∈ bytes l, 0 < r.length := fun r hr => by simp only [bytes, List.mem_map] at hr; obtain ⟨x, -, rfl⟩ := hr; simp
theorem HeapAt.up {w w' : World} {b : Nat} {p : Option Addr} {c : Nat} {l : List Int} (h : HeapAt w b p c l) (u : Up w w') : HeapAt w' b p c l := by
  obtain ⟨k, r, h1, h2, h3, h4⟩ := h
  exact ⟨k, r, h1.up u, h2, h3, h4.up u⟩
theorem HeapAt.below {w w' : World} {b n : Nat} {p : Option Addr} {c : Nat} {l : List Int} (h : HeapAt w b p c l) (u : Below n w w') (hb : b < n) (ha : Apart p b n l) : HeapAt w' b p c l := by
  obtain ⟨k, r, h1, h2, h3, h4⟩ := h
  refine ⟨k, r, h1.below u hb, h2, h3, fun i row hi => ?_⟩
  obtain ⟨b', off, e, hc⟩ := h4 i row hi
  have hl : 0 < (bytes l).length := by have := (List.getElem?_eq_some_iff.1 hi).1; omega
  exact ⟨b', off, e, fun j x hj => (u.cell (p := ⟨b', off + i * 1 + j, none⟩) (ha hl b' off e).2).trans (hc j x hj)⟩

theorem and_rng (a : Int) : 0 ≤ bits .and .u32 a 32767 ∧ bits .and .u32 a 32767 ≤ 32767 := by
  have h : bits .and .u32 a 32767 = IntKind.u32.wrap (((BitVec.ofInt 32 a &&& BitVec.ofInt 32 32767).toNat : Nat) : Int) := rfl
  have h2 : (BitVec.ofInt 32 a &&& BitVec.ofInt 32 32767).toNat ≤ 32767 := by
    rw [BitVec.toNat_and]
    exact Nat.le_trans Nat.and_le_right (by decide)
  rw [h, IntKind.wrap_u32']
  omega

theorem and64_rng (a : Int) : 0 ≤ wrap64 (bits .and .u32 a 32767) ∧ wrap64 (bits .and .u32 a 32767) ≤ 32767 := by
  obtain ⟨h1, h2⟩ := and_rng a
  generalize bits .and .u32 a 32767 = y at *
  have : wrap64 y = y := IntWalk.wrap64_in _ (by omega)
  omega

set_option maxRecDepth 100000 in
set_option maxHeartbeats 1000000 in
theorem pick_c (b : Nat) (p : Option Addr) (c : Nat) (l : List Int) (w : World) (h : HeapAt w b p c l) (ha : Apart p b w.heap.size l) (hl : l.length ≤ 140737488355328) :
    Calls Try.prog 137 #[.pointer (some ⟨b, 0, none⟩)] w fun e w' => ∃ v : Int, 0 ≤ v ∧ v ≤ 32767 ∧ e = .returned (.int .i64 v) ∧ HeapAt w' b p c l ∧ Far b w.heap.size w w' := by
  obtain ⟨k, r, hB, k0, k1, hr⟩ := h

  have HB := Lib.hid hB
  have HR := Lib.hid hr
  have HP := Lib.hid ha
  have c0 := hB.cell 0
  have c1 := hB.cell 1
  have c2 := hB.cell 2
  have fr := hB.free
  have lb := hB.lt
  simp only [List.getElem?_cons_zero, List.getElem?_cons_succ] at c0 c1 c2
  clear hB hr ha
  obtain ⟨k, rfl⟩ := Int.eq_ofNat_of_zero_le k0
  by_cases hk : k < l.length
  · obtain ⟨b', off, rfl, d0⟩ := HR.out.byte k hk
    have bl := cell_lt d0
    have i1 : (k : Int) < l.length := by omega
    have s1 : IntKind.i64.wrap ((k : Int) + 1) = (k : Int) + 1 := IntWalk.i64_in _ (by omega)
    generalize l[k] = x at d0
    go_enter Try.func137, Try.ntmps137
    go_wp2_with fail
    go_quiet (fail)
    go_wp2_with fail
    go_quiet (fail)
    go_wp2_with fail
    refine Code.wp_world ?_
    intro w4 hw4
    have hB4 : Blk w4 b [.slice (some ⟨b', off, none⟩) l.length c, .int .i64 (k + 1), .int .u32 r] 166 := by rw [hw4]; exact (HB.out.drewN _).set 1 _
    have hF4 : Far b w.heap.size w w4 := by rw [hw4]; exact ((Far.refl b w.heap.size w).drewN _).setIn 1 _
    clear hw4
    have HF := Lib.hid hF4
    have HB4 := Lib.hid hB4
    have c0 := hB4.cell 0
    have c1 := hB4.cell 1
    have c2 := hB4.cell 2
    have fr := hB4.free
    have lb := hB4.lt
    simp only [List.getElem?_cons_zero, List.getElem?_cons_succ] at c0 c1 c2
    clear hB4 hF4
    by_cases hk1 : k + 1 < l.length
    · have t1 : decide ((l.length : Int) ≤ (k : Int) + 1) = false := by simp; omega
      go_quiet (fail)
      go_wp2_with fail
      go_ret
      refine ⟨_, (and64_rng _).1, (and64_rng _).2, rfl, ⟨(k : Int) + 1, r, HB4.out.drewN _, by omega, by omega, ?_⟩, HF.out.drewN _⟩
      exact (HF.out.drewN _).row HR.out (fun h0 b' off e => ⟨(HP.out h0 b' off e).2, (HP.out h0 b' off e).1⟩)
    · have t1 : decide ((l.length : Int) ≤ (k : Int) + 1) = true := by simp; omega
      go_quiet (fail)
      go_wp2_with fail
      go_ret
      refine ⟨_, (and64_rng _).1, (and64_rng _).2, rfl, ⟨0, _, ((HB4.out.drewN _).set 1 _).set 2 _, by omega, by omega, ?_⟩, ((HF.out.drewN _).setIn 1 _).setIn 2 _⟩
      exact (((HF.out.drewN _).setIn 1 _).setIn 2 _).row HR.out (fun h0 b' off e => ⟨(HP.out h0 b' off e).2, (HP.out h0 b' off e).1⟩)
  · obtain rfl : k = l.length := by omega
    have i1 : ¬ ((l.length : Int) < l.length) := by omega
    have s1 : IntKind.i64.wrap ((l.length : Int) + 1) = (l.length : Int) + 1 := IntWalk.i64_in _ (by omega)
    go_enter Try.func137, Try.ntmps137
    go_wp2_with fail
    go_quiet (fail)
    go_wp2_with fail
    refine Code.wp_world ?_
    intro w4 hw4
    have hB4 : Blk w4 b [.slice p l.length c, .int .i64 ((l.length : Int) + 1), .int .u32 r] 166 := by rw [hw4]; exact (HB.out.drewN _).set 1 _
    have hF4 : Far b w.heap.size w w4 := by rw [hw4]; exact ((Far.refl b w.heap.size w).drewN _).setIn 1 _
    clear hw4
    have HF := Lib.hid hF4
    have HB4 := Lib.hid hB4
    have c0 := hB4.cell 0
    have c1 := hB4.cell 1
    have c2 := hB4.cell 2
    have fr := hB4.free
    have lb := hB4.lt
    simp only [List.getElem?_cons_zero, List.getElem?_cons_succ] at c0 c1 c2
    clear hB4 hF4
    have t1 : decide ((l.length : Int) ≤ (l.length : Int) + 1) = true := by simp; omega
    go_quiet (fail)
    go_wp2_with fail
    go_ret
    refine ⟨_, (and64_rng _).1, (and64_rng _).2, rfl, ⟨0, _, ((HB4.out.drewN _).set 1 _).set 2 _, by omega, by omega, ?_⟩, ((HF.out.drewN _).setIn 1 _).setIn 2 _⟩
    exact (((HF.out.drewN _).setIn 1 _).setIn 2 _).row HR.out (fun h0 b' off e => ⟨(HP.out h0 b' off e).2, (HP.out h0 b' off e).1⟩)

/-- what is dealt: from 0 to n, or 0 -/
def Dealt (n v : Int) : Prop := 0 ≤ v ∧ (0 ≤ n → v ≤ n) ∧ (n < 0 → v = 0)
theorem dealt_of {n v : Int} (hn : 0 < n) : Dealt n (v % (n + 1)) := by
  have h : (0 : Int) < n + 1 := by omega
  have h2 := Int.emod_nonneg v (Int.ne_of_gt h)
  have h3 := Int.emod_lt_of_pos v h
  exact ⟨h2, fun h => by omega, fun h => by omega⟩
theorem dealt_no {n : Int} : Dealt n 0 := ⟨Int.le_refl _, fun h => h, fun _ => rfl⟩

def DealtOf (b : Nat) (p : Option Addr) (c : Nat) (l : List Int) (w : World) (P : Int → Prop) (e : Ending) (w' : World) : Prop :=
  ∃ v : Int, P v ∧ e = .returned (.int .i64 v) ∧ HeapAt w' b p c l ∧ Far b w.heap.size w w'

set_option maxRecDepth 100000 in
theorem upto_c (b : Nat) (p : Option Addr) (c : Nat) (l : List Int) (n : Int) (w : World) (h : HeapAt w b p c l) (ha : Apart p b w.heap.size l) (hl : l.length ≤ 140737488355328) (hn : -1000000 ≤ n) (hn' : n ≤ 1000000) :
    Calls Try.prog 73 #[.pointer (some ⟨b, 0, none⟩), .int .i64 n] w (DealtOf b p c l w (Dealt n)) := by
  have HP := Lib.hid (pick_c b p c l w h ha hl)
  clear h ha hl
  go_enter Try.func73, Try.ntmps73
  go_wp2_with fail
  refine HP.out.mono ?_
  rintro e w1 ⟨v, v0, v1, rfl, h1, h2⟩
  have HH := Lib.hid h1
  have HF := Lib.hid h2
  clear h1 h2 HP
  have s1 : IntKind.i64.wrap (n + 1) = n + 1 := IntWalk.i64_in _ (by omega)
  go_wp2_with fail
  · go_ret
    exact ⟨_, dealt_of (by omega), rfl, HH.out, HF.out⟩
  · go_ret
    exact ⟨_, dealt_no, rfl, HH.out, HF.out⟩

/-- a number from lo to hi, or lo -/
def Between (lo hi v : Int) : Prop := lo ≤ v ∧ (lo ≤ hi → v ≤ hi) ∧ (hi < lo → v = lo)
set_option maxRecDepth 100000 in
theorem from_c (b : Nat) (p : Option Addr) (c : Nat) (l : List Int) (lo hi : Int) (w : World) (h : HeapAt w b p c l) (ha : Apart p b w.heap.size l) (hl : l.length ≤ 140737488355328) (h1 : -10000 ≤ lo) (h2 : lo ≤ 10000) (h3 : -10000 ≤ hi) (h4 : hi ≤ 10000) :
    Calls Try.prog 51 #[.pointer (some ⟨b, 0, none⟩), .int .i64 lo, .int .i64 hi] w (DealtOf b p c l w (Between lo hi)) := by
  have HP := Lib.hid (upto_c b p c l (hi - lo) w h ha hl (by omega) (by omega))
  clear h ha hl
  have s1 : IntKind.i64.wrap (hi - lo) = hi - lo := IntWalk.i64_in _ (by omega)
  go_enter Try.func51, Try.ntmps51
  go_wp2_with fail
  refine HP.out.mono ?_
  rintro e w1 ⟨v, ⟨v0, v1, v2⟩, rfl, g1, g2⟩
  have HH := Lib.hid g1
  have HF := Lib.hid g2
  have HB : Hid (Between lo hi (lo + v)) := ⟨by omega, fun h => by have := v1 (by omega); omega, fun h => by have := v2 (by omega); omega⟩
  have hv : v ≤ 20000 := by
    rcases Int.lt_or_le (hi - lo) 0 with h | h
    · have := v2 h; omega
    · have := v1 h; omega
  clear g1 g2 HP v1 v2 s1
  have s2 : IntKind.i64.wrap (lo + v) = lo + v := IntWalk.i64_in _ (by omega)
  go_wp2_with fail
  go_ret
  exact ⟨_, HB.out, rfl, HH.out, HF.out⟩

def OnceOf (b : Nat) (p : Option Addr) (c : Nat) (l : List Int) (w : World) (e : Ending) (w' : World) : Prop :=
  ∃ v : Bool, e = .returned (.bool v) ∧ HeapAt w' b p c l ∧ Far b w.heap.size w w'
set_option maxRecDepth 100000 in
theorem once_c (b : Nat) (p : Option Addr) (c : Nat) (l : List Int) (n : Int) (w : World) (h : HeapAt w b p c l) (ha : Apart p b w.heap.size l) (hl : l.length ≤ 140737488355328) (h1 : -10000 ≤ n) (h2 : n ≤ 10000) :
    Calls Try.prog 60 #[.pointer (some ⟨b, 0, none⟩), .int .i64 n] w (OnceOf b p c l w) := by
  have HP := Lib.hid (upto_c b p c l (n - 1) w h ha hl (by omega) (by omega))
  clear h ha hl
  have s1 : IntKind.i64.wrap (n - 1) = n - 1 := IntWalk.i64_in _ (by omega)
  go_enter Try.func60, Try.ntmps60
  go_wp2_with fail
  refine HP.out.mono ?_
  rintro e w1 ⟨v, -, rfl, g1, g2⟩
  have HH := Lib.hid g1
  have HF := Lib.hid g2
  clear g1 g2 HP s1
  go_wp2_with fail
  go_ret
  exact ⟨_, rfl, HH.out, HF.out⟩

set_option maxRecDepth 100000 in
theorem pile_c (p : Option Addr) (c : Nat) (l : List Int) (w : World) (hr : Row w p 1 (bytes l)) :
    Calls Try.prog 50 #[.slice p l.length c] w fun e w' => e = .returned (.pointer (some ⟨w.heap.size, 0, none⟩)) ∧ HeapAt w' w.heap.size p c l ∧ Up w w' ∧ w.heap.size < w'.heap.size ∧ Apart p w.heap.size w.heap.size l := by
  have HR := Lib.hid hr
  clear hr
  go_enter Try.func50, Try.ntmps50
  go_wp2_with fail
  go_ret
  refine ⟨rfl, ⟨0, 0, Blk.new w [.slice p l.length c, .int .i64 0, .int .u32 0] _, by omega, by omega, HR.out.up (by (repeat (first | exact Below.refl _ _ | (with_reducible refine Below.drewN' ?_ _) | (with_reducible refine Below.drew ?_) | (with_reducible refine Below.setCell ?_ (by first | exact Nat.le_refl _ | omega | (with_reducible (repeat (first | refine sz_alloc ?_ | refine sz_setCell ?_ | refine sz_drew ?_ | refine sz_drewN ?_)); first | exact Nat.le_refl _ | omega) | (simp only [World.size_alloc, World.size_setCell, World.size_drew, size_drewN']; omega)) _) | (with_reducible refine Below.alloc ?_ (by first | exact Nat.le_refl _ | omega | (with_reducible (repeat (first | refine sz_alloc ?_ | refine sz_setCell ?_ | refine sz_drew ?_ | refine sz_drewN ?_)); first | exact Nat.le_refl _ | omega) | (simp only [World.size_alloc, World.size_setCell, World.size_drew, size_drewN']; omega)) _) | assumption)))⟩, by (repeat (first | exact Below.refl _ _ | (with_reducible refine Below.drewN' ?_ _) | (with_reducible refine Below.drew ?_) | (with_reducible refine Below.setCell ?_ (by first | exact Nat.le_refl _ | omega | (with_reducible (repeat (first | refine sz_alloc ?_ | refine sz_setCell ?_ | refine sz_drew ?_ | refine sz_drewN ?_)); first | exact Nat.le_refl _ | omega) | (simp only [World.size_alloc, World.size_setCell, World.size_drew, size_drewN']; omega)) _) | (with_reducible refine Below.alloc ?_ (by first | exact Nat.le_refl _ | omega | (with_reducible (repeat (first | refine sz_alloc ?_ | refine sz_setCell ?_ | refine sz_drew ?_ | refine sz_drewN ?_)); first | exact Nat.le_refl _ | omega) | (simp only [World.size_alloc, World.size_setCell, World.size_drew, size_drewN']; omega)) _) | assumption)), by rw [World.size_alloc]; omega, fun h0 b' off e => ?_⟩
  have := HR.out.lt (bytes_pos l) h0 e
  exact ⟨by omega, this⟩
end Go.Proofs.Ytifcmbeejichdaa
