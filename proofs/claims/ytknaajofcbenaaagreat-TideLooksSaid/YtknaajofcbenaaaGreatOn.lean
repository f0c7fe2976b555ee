import Derived.Test.YtknaajofcbenaaaGreatBase
import Derived.Test.YtknaajofcbenaaaGreatHeight
import Derived.WalkKit
import Derived.WalkSpells
import Derived.WalkLawsBesides
import Derived.Deep.QuietTactic
import Derived.BigQuiet
import Derived.Lib.Hide
import Derived.Shelf.Abstract
import Derived.BigGuardPart
import Derived.RangeFuncNested
import Derived.RangeFuncBound
import Derived.RangeFuncCalls
import Derived.RangeFuncLeaves
import Derived.Shelf.RegionOpen
import Derived.OwnWalkIn
import Derived.TacticsInMore
import Derived.LoopNIn
import Derived.LoopIn
namespace Go.Proofs.YtknaajofcbenaaaGreat
open Go.RowKit Go.Shelf
attribute [local go_sem] Oper.semAt_some

def other (x : Int × Int × Int) (from' : Int) : Int := bif from' == x.1 then x.2.1 else bif from' == x.2.1 then x.1 else -1

theorem otherEnd_c (a b h f : Int) (w : World) : Calls Tryz.prog 145 #[.agg #[.int .i64 a, .int .i64 b, .int .i64 h], .int .i64 f] w fun e w' => e = .returned (.int .i64 (other (a, b, h) f)) ∧ w.alloc (.cells #[.int .i64 a, .int .i64 b, .int .i64 h] 80) = w' := by
  go_enter Tryz.func145, Tryz.ntmps145
  go_wp2
  all_goals go_ret
  all_goals refine ⟨ret_int ?_, rfl⟩
  all_goals simp [other, *]

theorem on_c (b : Nat) (f : Int) (w : World) : Calls Tryz.prog 123 #[.pointer (some ⟨b, 0, none⟩), .int .i64 f] w fun e w' =>
    e = .returned (.func (.func 144) #[] #[.pointer (some ⟨w.heap.size, 0, none⟩), .pointer (some ⟨w.heap.size + 1, 0, none⟩)]) ∧
      (w.alloc (.cells #[.pointer (some ⟨b, 0, none⟩)] 106)).alloc (.cells #[.int .i64 f] 3) = w' := by
  go_enter Tryz.func123, Tryz.ntmps123
  go_wp2
  go_ret
  exact ⟨rfl, rfl⟩

/-- a sill and a place to which it leads -/
abbrev Lead (nS nF : Nat) := { x : Nat × Nat // x.1 < nS ∧ x.2 < nF }
def lead1 (sl : List (Int × Int × Int)) (nF : Nat) (f : Int) (i : Nat) : Option (Lead sl.length nF) :=
  if h : i < sl.length ∧ 0 ≤ other (sl[i]?.getD (0, 0, 0)) f ∧ (other (sl[i]?.getD (0, 0, 0)) f).toNat < nF then some ⟨(i, (other (sl[i]?.getD (0, 0, 0)) f).toNat), h.1, h.2.2⟩ else none
theorem lead1_none (sl : List (Int × Int × Int)) (nF : Nat) (f : Int) (k : Nat) (hlt : k < sl.length) (ht : other sl[k] f = -1) : lead1 sl nF f k = none := by
  unfold lead1; rw [dif_neg]; simp [hlt, ht]
theorem lead1_some (sl : List (Int × Int × Int)) (nF : Nat) (f : Int) (k : Nat) (hlt : k < sl.length) (h0 : 0 ≤ other sl[k] f) (h1 : other sl[k] f < nF) : lead1 sl nF f k = some ⟨(k, (other sl[k] f).toNat), hlt, by omega⟩ := by
  unfold lead1; rw [dif_pos (by simp [hlt]; omega)]; simp [hlt]
def leads (sl : List (Int × Int × Int)) (nF : Nat) (f : Int) (k : Nat) : List (Lead sl.length nF) := (List.range k).filterMap (lead1 sl nF f)
theorem leads_succ (sl : List (Int × Int × Int)) (nF : Nat) (f : Int) (k : Nat) : leads sl nF f (k + 1) = leads sl nF f k ++ (lead1 sl nF f k).toList := by
  unfold leads
  rw [List.range_succ, List.filterMap_append]
  cases h : lead1 sl nF f k <;> simp [h]
theorem leads_le (sl : List (Int × Int × Int)) (nF : Nat) (f : Int) (k : Nat) : (leads sl nF f k).length ≤ k := by
  unfold leads
  exact Nat.le_trans (List.length_filterMap_le _ _) (by simp)

/-- each end of each sill is a place or the Sea -/
def goodSills (sl : List (Int × Int × Int)) (nF : Nat) : Prop := ∀ x ∈ sl, (x.1 = -1 ∨ 0 ≤ x.1 ∧ x.1 < nF) ∧ (x.2.1 = -1 ∨ 0 ≤ x.2.1 ∧ x.2.1 < nF)
theorem other_good {sl : List (Int × Int × Int)} {nF : Nat} (h : goodSills sl nF) (f : Int) (x : Int × Int × Int) (hx : x ∈ sl) : other x f = -1 ∨ 0 ≤ other x f ∧ other x f < nF := by
  obtain ⟨h1, h2⟩ := h x hx
  unfold other
  cases f == x.1 <;> cases f == x.2.1 <;> simp <;> first | exact h2 | exact h1 | omega

/-- the blocks of a set lie as they lay -/
structure Keep (S : Nat → Prop) (w w' : World) : Prop where
  size : w.heap.size ≤ w'.heap.size
  block : ∀ k, S k → w'.heap[k]? = w.heap[k]?
section
variable {S : Nat → Prop} {w w' w'' : World}
theorem Keep.refl (S : Nat → Prop) (w : World) : Keep S w w := ⟨Nat.le_refl _, fun _ _ => rfl⟩
theorem Keep.trans (h : Keep S w w') (k : Keep S w' w'') : Keep S w w'' := ⟨Nat.le_trans h.size k.size, fun i hi => (k.block i hi).trans (h.block i hi)⟩
theorem Keep.cell (h : Keep S w w') {b o : Nat} (hb : S b) : w'.cell? ⟨b, o, none⟩ = w.cell? ⟨b, o, none⟩ := World.cell?_of_block (a := ⟨b, o, none⟩) (h.block b hb)
theorem Keep.alloc (h : Keep S w w') (hs : ∀ k, S k → k < w'.heap.size) (o : Obj) : Keep S w (w'.alloc o) :=
  h.trans ⟨by simp, fun k hk => Below.heap_alloc _ _ _ (hs k hk)⟩
theorem Keep.of_below {B : Nat} (h : Below B w w') (hs : ∀ k, S k → k < B) : Keep S w w' := ⟨h.size, fun k hk => h.block k (hs k hk)⟩
theorem Keep.setCell (S : Nat → Prop) (w : World) (a : Addr) (v : Value) (ha : ¬ S a.block) : Keep S w (w.setCell a v) :=
  ⟨by simp, fun k hk => Below.heap_setCell _ _ _ _ (fun e => ha (e ▸ hk))⟩
theorem keepK_b {w : World} (hs : ∀ k, S k → k < w.heap.size) (W : World) (l : Nat) (o o' : Obj) (hl : w.heap.size ≤ l) (_ : W.heap[l]? = some o) (_ : o.isCells = false) (_ : o.isWalk = false) : Keep S W (W.putObj l o') :=
  ⟨by simp, fun k hk => World.putObj_heap_other (by have := hs k hk; omega)⟩
end

set_option maxRecDepth 100000 in
set_option maxHeartbeats 2000000 in
theorem on1_c (n : Nat) (hn : 1 ≤ n) (S : Nat → Prop) (l b1 b2 bw : Nat) (p : Option Addr) (c : Nat) (sl : List (Int × Int × Int)) (nF : Nat) (f : Int) (hg : goodSills sl nF) (hm : sl.length ≤ maxLen)
    (J Jx : List (Lead sl.length nF) → World → Prop)
    (hY : ∀ pre x W, J pre W → pre.length < sl.length → YieldAt Fence.wide (n - 1) Tryz.prog l #[.int .i64 (x.1.1 : Int), .int .i64 (x.1.2 : Int)] W fun e W' =>
      (e = .returned (.bool true) ∧ J (pre ++ [x]) W' ∧ Keep S W W') ∨ (e = .returned (.bool false) ∧ Jx (pre ++ [x]) W'))
    (W : World) (hJa : ∀ s W o, J s W → J s (W.alloc o)) (hS : ∀ k, S k → k < W.heap.size) (hb2 : S b2) (hbs : 0 < sl.length → ∀ b off, p = some ⟨b, off, none⟩ → S b)
    (h1 : W.cell? ⟨b1, 0, none⟩ = some (.pointer (some ⟨bw, 0, none⟩))) (h2 : W.cell? ⟨b2, 0, none⟩ = some (.int .i64 f)) (h4 : W.cell? ⟨bw, 4, none⟩ = some (.slice p sl.length c)) (hr : Row W p 3 (triples sl)) (h0 : J [] W) :
    CallsIn Fence.wide n Tryz.prog 144 #[.func (.yield l) #[] #[], .pointer (some ⟨b1, 0, none⟩), .pointer (some ⟨b2, 0, none⟩)] W fun e W' => (∃ v, e = .returned v) ∧
      ((∃ ys, ys = leads sl nF f sl.length ∧ J ys W') ∨ (∃ pre, True ∧ Jx pre W')) := by
  unfold maxLen at hm
  refine callsIn_of_wp Tryz.func144 rfl trivial ?_ rfl
  simp only [Tryz.ntmps144, List.size_toArray, List.length_cons, List.length_nil, Nat.reduceAdd, Nat.reduceSub, Array.replicate_succ, Array.replicate_zero, List.push_toArray, List.append_toArray, List.nil_append, List.cons_append]
  gi_wp2
  gi_loopw [13] (fun i wr => ∃ k : Nat, k ≤ sl.length ∧ i = .int .i64 k ∧ J (leads sl nF f k) wr ∧ Keep S W wr)
    (fun i _ => sl.length - (intOf i).toNat)
  case atStart => exact ⟨0, Nat.zero_le _, rfl, h0, Keep.refl _ _⟩
  case round =>
    obtain ⟨k, hk, rfl, hJs, hnx⟩ := hrel
    have HJ := Lib.hid hJs
    clear hJs
    have hsz := hnx.size
    by_cases hlt : k < sl.length
    · obtain ⟨b, off, rfl, c0, c1, c2⟩ := hr.triple k hlt
      have hb := hbs (by omega) b off rfl
      have d0 := (hnx.cell (o := off + k * 3) hb).trans c0
      have d1 := (hnx.cell (o := off + k * 3 + 1) hb).trans c1
      have d2 := (hnx.cell (o := off + k * 3 + 2) hb).trans c2
      have e2 := (hnx.cell (o := 0) hb2).trans h2
      have b2' : b2 < wr.heap.size := by have := hS b2 hb2; omega
      have HSr : Hid (∀ k, S k → k < wr.heap.size) := fun k hk => Nat.lt_of_lt_of_le (hS k hk) hsz
      have HSs : Hid (∀ (o : Obj) k, S k → k < (wr.alloc o).heap.size) := fun o k hk => by rw [World.size_alloc]; exact Nat.lt_succ_of_lt (HSr.out k hk)
      clear c0 c1 c2
      have hto := other_good hg f sl[k] (List.getElem_mem _)
      by_cases ht : other sl[k] f = -1
      · have HL := Lib.hid (show leads sl nF f (k + 1) = leads sl nF f k by rw [leads_succ, lead1_none sl nF f k hlt ht]; simp)
        have HT := Lib.hid (show other (sl[k].1, sl[k].2.1, sl[k].2.2) f = -1 from ht)
        clear ht hto
        gi_wp2_with fail
        refine ⟨trivial, (callsIn_wide.2 (otherEnd_c _ _ _ _ _)).mono ?_⟩
        rw [HT.out]
        rintro e w1 ⟨rfl, rfl⟩
        gi_wp2_with fail
        refine ⟨fun _ h => (by cases h), ?_⟩
        gi_wp2
        go_roundw
        case rel => exact ⟨k + 1, hlt, by go_num, by rw [HL.out]; exact hJa _ _ _ (hJa _ _ _ HJ.out), (hnx.alloc HSr.out _).alloc (HSs.out _) _⟩
        case measure => simp [intOf]; omega
      · have hto0 : 0 ≤ other sl[k] f := by omega
        obtain ⟨t, hte⟩ : ∃ t : Nat, other sl[k] f = t := Int.eq_ofNat_of_zero_le hto0
        have htn : t < nF := by omega
        have HL := Lib.hid (show leads sl nF f (k + 1) = leads sl nF f k ++ [⟨(k, t), hlt, htn⟩] by
          rw [leads_succ, lead1_some sl nF f k hlt (by omega) (by omega)]; simp [hte])
        have HT := Lib.hid (show other (sl[k].1, sl[k].2.1, sl[k].2.2) f = (t : Int) from hte)
        have hne : ((t : Int) == -1) = false := by simp
        have hne' : ((t : Int) != -1) = true := by simp
        clear ht hto hte hto0
        gi_wp2_with fail
        refine ⟨trivial, (callsIn_wide.2 (otherEnd_c _ _ _ _ _)).mono ?_⟩
        rw [HT.out]
        rintro e w1 ⟨rfl, rfl⟩
        obtain ⟨fn, tmps, assign, body, hy, hR⟩ := hY _ ⟨(k, t), hlt, htn⟩ _ (hJa _ _ (.cells #[.int .i64 sl[k].1, .int .i64 sl[k].2.1, .int .i64 sl[k].2.2] 80) (hJa _ _ (.cells #[.int .i64 sl[k].1, .int .i64 sl[k].2.1, .int .i64 sl[k].2.2] 80) HJ.out)) (by have := leads_le sl nF f k; omega)
        dsimp only at hy
        gi_wp2_with fail
        refine hR.mono ?_
        rintro e W3 (⟨rfl, hJ3, hk3⟩ | ⟨rfl, hJx3⟩)
        · gi_wp2
          go_roundw
          case rel => exact ⟨k + 1, hlt, by go_num, by rw [HL.out]; exact hJ3, ((hnx.alloc HSr.out _).alloc (HSs.out _) _).trans hk3⟩
          case measure => simp [intOf]; omega
        · gi_wp2
          refine bodyPost_ret (results_none rfl _ _ _) rfl ?_
          exact ⟨⟨_, rfl⟩, .inr ⟨_, trivial, hJx3⟩⟩
    · obtain rfl : k = sl.length := by omega
      gi_wp2
      go_end0
      exact ⟨⟨_, rfl⟩, .inl ⟨_, rfl, HJ.out⟩⟩
end Go.Proofs.YtknaajofcbenaaaGreat
