import Derived.Test.YtknaajofcbenaaaGreatBase
import Derived.Test.YtknaajofcbenaaaGreatHeight
import Derived.Test.YtknaajofcbenaaaGreatChk2
import Derived.Test.YtknaajofcbenaaaGreatCheck
import Derived.Test.YtknaajofcbenaaaGreatOn
import Derived.Test.YtknaajofcbenaaaGreatStep
import Derived.Test.YtknaajofcbenaaaGreatLower
import Derived.Test.YtknaajofcbenaaaGreatArrEq
import Derived.WalkKit
import Derived.WalkSpells
import Derived.WalkLawsBesides
import Derived.Deep.QuietTactic
import Derived.BigQuiet
import Derived.Lib.Hide
import Derived.Shelf.Abstract
import Derived.BigGuardPart
import Derived.RangeFuncNested
import Derived.RangeFuncBound
import Derived.RangeFuncCalls
import Derived.RangeFuncLeaves
import Derived.Shelf.RegionOpen
import Derived.OwnWalkIn
import Derived.TacticsInMore
import Derived.LoopNIn
import Derived.LoopIn
import Derived.StillTailTactics
import Derived.Deep.RegionHeld3
import Derived.StillTail
import Derived.RangeFuncWrites
import Derived.Laws.StructEq
import Derived.Deep.LoopGhost
namespace Go.Proofs.YtknaajofcbenaaaGreat
open Go.RowKit Go.Shelf

/-- no number of the second list is below nothing, or above that of the first -/
def Less (g g' : List Int) : Prop := g'.length = g.length ∧ ∀ i : Nat, 0 ≤ g'[i]?.getD 0 ∧ g'[i]?.getD 0 ≤ g[i]?.getD 0
theorem Less.refl {g : List Int} (h : ∀ i : Nat, 0 ≤ g[i]?.getD 0) : Less g g := ⟨rfl, fun i => ⟨h i, Int.le_refl _⟩⟩
theorem Less.trans {a b c : List Int} (h : Less a b) (k : Less b c) : Less a c := ⟨k.1.trans h.1, fun i => ⟨(k.2 i).1, Int.le_trans (k.2 i).2 (h.2 i).2⟩⟩
theorem Less.set {a b : List Int} (h : Less a b) (t : Nat) (x : Int) (h0 : 0 ≤ x) : Less a (b.set t (min (b[t]?.getD 0) x)) := by
  refine ⟨by simp [h.1], fun i => ?_⟩
  have h1 := h.2 i
  rw [List.getElem?_set]
  by_cases hi : t = i
  · subst hi
    by_cases hl : t < b.length
    · have e : b[t]?.getD 0 = b[t] := by simp [hl]
      rw [e] at h1
      simp only [hl, if_true, Option.getD_some, List.getElem?_eq_getElem hl]
      omega
    · have e : a[t]?.getD 0 = 0 := by simp [List.getElem?_eq_none (show a.length ≤ t by rw [← h.1]; omega)]
      simp [hl, e]
  · rw [if_neg hi]; exact h1
theorem grt_nonneg (l : List Int) : 0 ≤ grt l := foldl_max_ge l 0
theorem lowSea_less (s : Sd) (a g : List Int) (h : Less a g) : Less a (lowSea s g) := by
  unfold lowSea
  generalize leads s.sills s.floors.length (-1) s.sills.length = l
  induction l generalizing g with
  | nil => exact h
  | cons x r ih => exact ih _ (h.set _ _ (grt_nonneg _))
theorem lowFrom_less (s : Sd) (a g : List Int) (f : Nat) (h : Less a g) : Less a (lowFrom s g f) := by
  unfold lowFrom
  generalize leads s.sills s.floors.length f s.sills.length = l
  induction l generalizing g with
  | nil => exact h
  | cons x r ih => exact ih _ (h.set _ _ (grt_nonneg _))
theorem lowered_less (s : Sd) (g : List Int) (h : ∀ i : Nat, 0 ≤ g[i]?.getD 0) : Less g (lowered s g) := by
  unfold lowered
  have h0 := lowSea_less s g g (Less.refl h)
  revert h0
  generalize lowSea s g = b
  generalize List.range s.floors.length = l
  induction l generalizing b with
  | nil => exact id
  | cons x r ih => exact fun h0 => ih _ (lowFrom_less s g b x h0)
theorem sum_less : ∀ (g g' : List Int), Less g g' → g'.sum ≤ g.sum ∧ (g' ≠ g → g'.sum < g.sum) ∧ 0 ≤ g'.sum
  | [], [], _ => by simp
  | [], y :: r', h => by have := h.1; simp at this
  | x :: r, [], h => by have := h.1; simp at this
  | x :: r, y :: r', h => by
    have h0 := h.2 0
    simp only [List.getElem?_cons_zero, Option.getD_some] at h0
    obtain ⟨i1, i2, i3⟩ := sum_less r r' ⟨by have := h.1; simpa using this, fun i => by have := h.2 (i + 1); simpa using this⟩
    simp only [List.sum_cons]
    refine ⟨by omega, fun hne => ?_, by omega⟩
    by_cases hr : r' = r
    · subst hr
      have : y ≠ x := fun e => hne (by rw [e])
      omega
    · have := i2 hr; omega

def top : List Int := List.replicate 8 1050
theorem top_nonneg (i : Nat) : 0 ≤ top[i]?.getD 0 := by
  unfold top
  rw [List.getElem?_replicate]
  split <;> simp
def fixG (s : Sd) : Nat → List Int → List Int
  | 0, g => g
  | n + 1, g => if lowered s g = g then g else fixG s n (lowered s g)
/-- the gates of all places -/
def gts (s : Sd) : List Int := fixG s 9000 top

theorem lowered_len (s : Sd) (g : List Int) (h : g.length = 8) : (lowered s g).length = 8 := lowFroms_len s _ _ (low1_len s _ _ h)

set_option maxRecDepth 100000 in
set_option maxHeartbeats 2000000 in
theorem allGates_c (bw : Nat) (s : Sd) (w : World) (pT pF pS : Option Addr) (cT cF cS : Nat) (hw : SandsAt w bw 0 s pT pF pS cT cF cS) (m2 : s.floors.length ≤ 8) (m3 : s.sills.length ≤ 16) (hg : goodSills s.sills s.floors.length) :
    Calls Tryz.prog 116 #[.pointer (some ⟨bw, 0, none⟩)] w fun e w' => e = .returned (.agg (gcells (gts s)).toArray) ∧ Up w w' := by
  have HW := Lib.hid hw
  clear hw
  go_enter Tryz.func116, Tryz.ntmps116
  go_wp2_with fail
  go_loopw [6] (fun i wr => ∃ k : Nat, k ≤ 8 ∧ i = .int .i64 k ∧ Blk wr w.heap.size (gcells [0, 0, 0, 0, 0, 0, 0, 0]) 128 ∧ Blk wr (w.heap.size + 1) (gcells (List.replicate k 1050 ++ List.replicate (8 - k) 0)) 128 ∧ Up w wr) (fun i _ => 8 - (intOf i).toNat)
  case atStart =>
    exact ⟨0, by omega, rfl, (Blk.new w (gcells [0, 0, 0, 0, 0, 0, 0, 0]) _).alloc _, Blk.new' _ (gcells [0, 0, 0, 0, 0, 0, 0, 0]) _ (by simp), by (repeat (first | exact Below.refl _ _ | (with_reducible refine Below.drewN' ?_ _) | (with_reducible refine Below.drew ?_) | (with_reducible refine Below.setCell ?_ (by first | exact Nat.le_refl _ | omega | (with_reducible (repeat (first | refine sz_alloc ?_ | refine sz_setCell ?_ | refine sz_drew ?_ | refine sz_drewN ?_)); first | exact Nat.le_refl _ | omega) | (simp only [World.size_alloc, World.size_setCell, World.size_drew, size_drewN']; omega)) _) | (with_reducible refine Below.alloc ?_ (by first | exact Nat.le_refl _ | omega | (with_reducible (repeat (first | refine sz_alloc ?_ | refine sz_setCell ?_ | refine sz_drew ?_ | refine sz_drewN ?_)); first | exact Nat.le_refl _ | omega) | (simp only [World.size_alloc, World.size_setCell, World.size_drew, size_drewN']; omega)) _) | assumption))⟩
  case round =>
    obtain ⟨k, hk, rfl, h1, h2, hu⟩ := hrel
    by_cases hlt : k < 8
    · have c2 : wr.cell? ⟨w.heap.size + 1, k, none⟩ = some (.int .i64 0) := by
        rw [h2.cell k]; simp only [gcells, List.getElem?_map]
        rw [(show ∀ k, k < 8 → (List.replicate k (1050 : Int) ++ List.replicate (8 - k) 0)[k]? = some 0 by decide) k hlt]; rfl
      have f2 := h2.free k
      have b1 : (k : Int) < 8 := by omega
      have H1 := Lib.hid h1
      have H2 := Lib.hid h2
      have HU := Lib.hid hu
      clear h1 h2 hu
      go_wp2_with fail
      go_roundw
      case rel =>
        refine ⟨k + 1, hlt, by go_num, H1.out.other (by simp) _, ?_, HU.out.setCell (by simp) _⟩
        have h3 := H2.out.set k (.int .i64 1050)
        rw [← (show ∀ k, k < 8 → (List.replicate k (1050 : Int) ++ List.replicate (8 - k) 0).set k 1050 = List.replicate (k + 1) (1050 : Int) ++ List.replicate (8 - (k + 1)) 0 by decide) k hlt]
        simpa only [gcells, List.map_set] using h3
      case measure => simp [intOf]; omega
    · obtain rfl : k = 8 := by omega
      have H1 := Lib.hid h1
      have h2' : Blk wr (w.heap.size + 1) (gcells top) 128 := h2
      have H2 := Lib.hid h2'
      have HU := Lib.hid hu
      clear h1 h2 hu h2'
      go_wp2_with fail
      go_loopg [5] 9000 (fun n _ wr => ∃ g, g.length = 8 ∧ (∀ i : Nat, 0 ≤ g[i]?.getD 0) ∧ fixG s n g = gts s ∧ g.sum.toNat < n ∧ Blk wr w.heap.size (gcells [0, 0, 0, 0, 0, 0, 0, 0]) 128 ∧ Blk wr (w.heap.size + 1) (gcells g) 128 ∧ Up w wr)
      case atStart => exact ⟨top, rfl, top_nonneg, rfl, by decide, H1.out, H2.out, HU.out⟩
      case round =>
        obtain ⟨g, hl8, hnn, hfx, hsum, h1, h2, hu⟩ := hrel
        have hlw := lowered_less s g hnn
        have hlw8 := lowered_len s g hl8
        have hsl := sum_less g _ hlw
        have hlo : Calls Tryz.prog 142 #[.pointer (some ⟨bw, 0, none⟩), .agg (gcells g).toArray] _ _ := lowered_c bw s _ pT pF pS cT cF cS (HW.out.up hu) m2 m3 hg g hl8
        obtain ⟨a0, a1, a2, a3, a4, a5, a6, a7, rfl⟩ : ∃ a b c d e f h i, g = [a, b, c, d, e, f, h, i] := by
          match g, hl8 with
          | [a, b, c, d, e, f, h, i], _ => exact ⟨a, b, c, d, e, f, h, i, rfl⟩
        obtain ⟨gl, hgl⟩ : ∃ gl, lowered s [a0, a1, a2, a3, a4, a5, a6, a7] = gl := ⟨_, rfl⟩
        rw [hgl] at hlw hlw8 hsl hlo
        obtain ⟨b0, b1, b2, b3, b4, b5, b6, b7, rfl⟩ : ∃ a b c d e f h i, gl = [a, b, c, d, e, f, h, i] := by
          match gl, hlw8 with
          | [a, b, c, d, e, f, h, i], _ => exact ⟨a, b, c, d, e, f, h, i, rfl⟩
        simp only [gcells, List.map_cons, List.map_nil] at hlo
        have k0 := h2.cell 0
        have k1 := h2.cell 1
        have k2 := h2.cell 2
        have k3 := h2.cell 3
        have k4 := h2.cell 4
        have k5 := h2.cell 5
        have k6 := h2.cell 6
        have k7 := h2.cell 7
        simp only [gcells, List.map_cons, List.map_nil, List.getElem?_cons_zero, List.getElem?_cons_succ] at k0 k1 k2 k3 k4 k5 k6 k7
        have l2 := h2.lt
        have H1 := Lib.hid h1
        have H2 := Lib.hid h2
        have HU := Lib.hid hu
        have HL := Lib.hid hlo
        have HN := Lib.hid hnn
        have HF := Lib.hid hfx
        have HG := Lib.hid hgl
        have HS := Lib.hid hsl
        have HLW := Lib.hid hlw
        clear h1 h2 hu hlo hnn hfx hgl hsl hlw hl8 hlw8
        go_wp2_with fail
        refine HL.out.mono ?_
        rintro e w1 ⟨rfl, u1⟩
        have j0 := u1.cellAt k0
        have j1 := u1.cellAt k1
        have j2 := u1.cellAt k2
        have j3 := u1.cellAt k3
        have j4 := u1.cellAt k4
        have j5 := u1.cellAt k5
        have j6 := u1.cellAt k6
        have j7 := u1.cellAt k7
        have l3 := cell_lt j0
        have R1 := Lib.hid (H1.out.up u1)
        have R2 := Lib.hid (H2.out.up u1)
        have RU := Lib.hid (Up.trans HU.out u1)
        have r0 := R1.out.cell 0
        have r1 := R1.out.cell 1
        have r2 := R1.out.cell 2
        have r3 := R1.out.cell 3
        have r4 := R1.out.cell 4
        have r5 := R1.out.cell 5
        have r6 := R1.out.cell 6
        have r7 := R1.out.cell 7
        simp only [gcells, List.map_cons, List.map_nil, List.getElem?_cons_zero, List.getElem?_cons_succ] at r0 r1 r2 r3 r4 r5 r6 r7
        have l4 := R1.out.lt
        have m2 := R1.out.free
        have m3 := R2.out.free
        clear k0 k1 k2 k3 k4 k5 k6 k7 u1 H1 H2 HU HL
        have hq : ∀ W : World, (binOp .eql 128 (.agg #[.int .i64 b0, .int .i64 b1, .int .i64 b2, .int .i64 b3, .int .i64 b4, .int .i64 b5, .int .i64 b6, .int .i64 b7]) (.agg #[.int .i64 a0, .int .i64 a1, .int .i64 a2, .int .i64 a3, .int .i64 a4, .int .i64 a5, .int .i64 a6, .int .i64 a7])).run Tryz.prog W = .ok (.bool ([b0, b1, b2, b3, b4, b5, b6, b7] == [a0, a1, a2, a3, a4, a5, a6, a7])) W :=
          fun W => run_eql_ints W 128 3 8 Tryz.underlying128 Tryz.underlying3 (fun _ => by kernel_rfl) [b0, b1, b2, b3, b4, b5, b6, b7] [a0, a1, a2, a3, a4, a5, a6, a7] rfl rfl
        by_cases he : [b0, b1, b2, b3, b4, b5, b6, b7] = [a0, a1, a2, a3, a4, a5, a6, a7]
        · rw [beq_iff_eq.2 he] at hq
          have HE := Lib.hid he
          clear he
          go_wp2_with fail
          have hB := ((((((((R1.out.set 0 (.int .i64 a0)).set 1 (.int .i64 a1)).set 2 (.int .i64 a2)).set 3 (.int .i64 a3)).set 4 (.int .i64 a4)).set 5 (.int .i64 a5)).set 6 (.int .i64 a6)).set 7 (.int .i64 a7)).alloc (.cells #[.int .i64 b0, .int .i64 b1, .int .i64 b2, .int .i64 b3, .int .i64 b4, .int .i64 b5, .int .i64 b6, .int .i64 b7] 128)
          have q0 := hB.cell 0
          have q1 := hB.cell 1
          have q2 := hB.cell 2
          have q3 := hB.cell 3
          have q4 := hB.cell 4
          have q5 := hB.cell 5
          have q6 := hB.cell 6
          have q7 := hB.cell 7
          simp only [gcells, List.map_cons, List.map_nil, List.set_cons_zero, List.set_cons_succ, List.getElem?_cons_zero, List.getElem?_cons_succ] at q0 q1 q2 q3 q4 q5 q6 q7
          refine bodyPost_ret (v := .agg #[.int .i64 a0, .int .i64 a1, .int .i64 a2, .int .i64 a3, .int .i64 a4, .int .i64 a5, .int .i64 a6, .int .i64 a7]) (by simp [results, Tryz.f116, go_sem, q0, q1, q2, q3, q4, q5, q6, q7]) rfl ⟨?_, ?_⟩
          · have : gts s = [a0, a1, a2, a3, a4, a5, a6, a7] := by
              rw [← HF.out]
              obtain ⟨n, rfl⟩ : ∃ n, gk = n + 1 := ⟨gk - 1, by omega⟩
              unfold fixG
              rw [if_pos (HG.out.trans HE.out)]
            rw [this]; simp [gcells]
          · have h4 := RU.out
            repeat (first | (with_reducible exact h4) | (with_reducible refine Below.setCell ?_ (by simp only []; omega) _) | (with_reducible refine Below.alloc ?_ (by simp only [World.size_setCell]; omega) _))
        · rw [beq_eq_false_iff_ne.2 he] at hq
          have HE := Lib.hid he
          clear he
          go_wp2_with fail
          have hs := HS.out.2.1 HE.out
          have hs0 := HS.out.2.2
          have hgk : gk - 1 < gk := by omega
          go_roundg (gk - 1)
          case rel =>
            refine ⟨[b0, b1, b2, b3, b4, b5, b6, b7], rfl, fun i => (HLW.out.2 i).1, ?_, by omega, ?_, ?_, ?_⟩
            · rw [← HF.out]
              obtain ⟨n, rfl⟩ : ∃ n, gk = n + 1 := ⟨gk - 1, by omega⟩
              conv => rhs; unfold fixG
              rw [HG.out, if_neg HE.out]
              rfl
            · refine Blk.alloc ?_ _
              repeat (first | (with_reducible exact R1.out) | (with_reducible refine Blk.other ?_ (by simp) _))
            · exact ((((((((R2.out.set 0 (.int .i64 b0)).set 1 (.int .i64 b1)).set 2 (.int .i64 b2)).set 3 (.int .i64 b3)).set 4 (.int .i64 b4)).set 5 (.int .i64 b5)).set 6 (.int .i64 b6)).set 7 (.int .i64 b7)).alloc _
            · have h4 := RU.out
              repeat (first | (with_reducible exact h4) | (with_reducible refine Below.setCell ?_ (by simp only []; omega) _) | (with_reducible refine Below.alloc ?_ (by simp only [World.size_setCell]; omega) _))
          case measure => omega
end Go.Proofs.YtknaajofcbenaaaGreat
