import Derived.Test.YtknaajofcbenaaaGreatBase
import Derived.Test.YtknaajofcbenaaaGreatHeight
import Derived.Test.YtknaajofcbenaaaGreatChk2
import Derived.Test.YtknaajofcbenaaaGreatCheck
import Derived.Test.YtknaajofcbenaaaGreatOn
import Derived.Test.YtknaajofcbenaaaGreatLower
import Derived.Test.YtknaajofcbenaaaGreatGates
import Derived.Test.YtknaajofcbenaaaGreatBegin
import Derived.Test.YtknaajofcbenaaaGreatState2
import Derived.Test.YtknaajofcbenaaaGreatAll
import Derived.Test.YtknaajofcbenaaaGreatSpans
import Derived.Test.YtknaajofcbenaaaGreatFits
import Derived.Test.YtknaajofcbenaaaGreatQue
import Derived.Test.YtknaajofcbenaaaGreatLead
import Derived.WalkKit
import Derived.WalkSpells
import Derived.WalkLawsBesides
import Derived.Deep.QuietTactic
import Derived.BigQuiet
import Derived.Lib.Hide
import Derived.Shelf.Abstract
import Derived.BigGuardPart
import Derived.RangeFuncNested
import Derived.RangeFuncBound
import Derived.RangeFuncCalls
import Derived.RangeFuncLeaves
import Derived.Shelf.RegionOpen
import Derived.OwnWalkIn
import Derived.TacticsInMore
import Derived.LoopNIn
import Derived.LoopIn
import Derived.StillTailTactics
import Derived.Deep.RegionHeld3
import Derived.StillTail
import Derived.RangeFuncWrites
import Derived.Laws.StructEq
import Derived.Deep.LoopGhost
import Derived.IntWalk
import Derived.RangeFuncBox
import Derived.ArgAppend
import Derived.Laws.CopyOwn
import Derived.OwnWalk
import Derived.Lib.SliceRun
namespace Go.Proofs.YtknaajofcbenaaaGreat
open Go.RowKit Go.Shelf

def wayAt (ws : Ways) (x : Int) : Option (List Int) := ws[x.toNat]?.getD none
def goW (s : Sd) (may : Nat → Nat → Bool) : Nat → Ways × List Int → Ways × List Int
  | 0, st => st
  | _ + 1, (ws, []) => (ws, [])
  | n + 1, (ws, x :: q) => goW s may n (ledW s may x ((wayAt ws x).getD []) (ws, q))
def waysOf (s : Sd) (may : Nat → Nat → Bool) : Ways := (goW s may 8 (ledW s may (-1) [] (List.replicate 8 none, []))).1

theorem leadW_keeps {may : Nat → Nat → Bool} {way : List Int} {nS nF : Nat} (x : Lead nS nF) (st : Ways × List Int) : (leadW may way st x).2.length + nones (leadW may way st x).1 = st.2.length + nones st.1 ∧ (∀ y ∈ (leadW may way st x).2, y ∈ st.2 ∨ (0 ≤ y ∧ y < nF)) := by
  unfold leadW
  split
  · rename_i h
    refine ⟨?_, fun y hy => ?_⟩
    · have := nones_set (l := way ++ [(x.1.1 : Int)]) h.1
      simp only [List.length_append, List.length_singleton]
      omega
    · simp only [List.mem_append, List.mem_singleton] at hy
      rcases hy with hy | rfl
      · exact .inl hy
      · exact .inr ⟨by omega, by have := x.2.2; omega⟩
  · exact ⟨rfl, fun y hy => .inl hy⟩
theorem foldW_keeps {may : Nat → Nat → Bool} {way : List Int} {nS nF : Nat} : ∀ (l : List (Lead nS nF)) (st : Ways × List Int), (l.foldl (leadW may way) st).2.length + nones (l.foldl (leadW may way) st).1 = st.2.length + nones st.1 ∧ (∀ y ∈ (l.foldl (leadW may way) st).2, y ∈ st.2 ∨ (0 ≤ y ∧ y < nF))
  | [], st => ⟨rfl, fun y hy => .inl hy⟩
  | x :: l, st => by
    obtain ⟨h1, h2⟩ := foldW_keeps l (leadW may way st x)
    obtain ⟨k1, k2⟩ := leadW_keeps (may := may) (way := way) x st
    refine ⟨h1.trans k1, fun y hy => ?_⟩
    rcases h2 y hy with h | h
    · exact k2 y h
    · exact .inr h
theorem goW_end (s : Sd) (may : Nat → Nat → Bool) (n : Nat) (ws : Ways) : goW s may n (ws, []) = (ws, []) := by cases n <;> rfl

theorem WayIs.slice {W : World} {n₀ : Nat} {qv v : Value} {o : Option (List Int)} (h : WayIs W n₀ qv v o) : ∃ p n c, v = .slice p n c := by
  obtain ⟨p, h, _⟩ := h.row
  exact ⟨p, _, _, h⟩
theorem WayIs.cast {W W' : World} {n₀ : Nat} {qv v : Value} {o : Option (List Int)} (h : WayIs W n₀ qv v o) (hf : ∀ g cs, Blk W g cs 3 → Blk W' g cs 3) : WayIs W' n₀ qv v o := by
  cases o with
  | none => have h' : v = .slice none 0 0 := h; exact h'
  | some l => obtain ⟨h0, g, h1, h2, h3, h4⟩ := h; exact ⟨h0, g, h1, h2, hf _ _ h3, h4⟩
theorem nones_le (ws : Ways) : nones ws ≤ ws.length := List.countP_le_length
theorem en_lead : Enters Tryz.prog 122 := enters_of Tryz.func122 (by kernel_rfl) rfl

theorem WaysAt.pop {W : World} {n₀ B8 Br : Nat} {vs : List Value} {qv v2 : Value} {ws : Ways} {x : Int} {q : List Int} (h : WaysAt W n₀ B8 Br vs qv ws (x :: q)) (hq : Que W n₀ v2 q) (ho : v2.ownBlock = qv.ownBlock) : WaysAt (W.setCell ⟨Br, 0, none⟩ v2) n₀ B8 Br vs v2 ws q := by
  have e8 : B8 ≠ Br := h.b8.ne h.br (by decide)
  have hb := h.br.set 0 v2
  refine ⟨h.b8.other e8 _, hb, hq.other (hq.ne h.br (by decide)) _, h.l8, h.w8, fun i hi => ?_, by have := h.few; simp only [List.length_cons] at this; omega, h.short, h.g8, h.gr⟩
  have hw := h.ways i hi
  cases hwi : ws[i]'(by have := h.w8; omega) with
  | none => rw [hwi] at hw; exact hw
  | some l' =>
    rw [hwi] at hw
    obtain ⟨k0, g', k1, k2, k3, k4⟩ := hw
    exact ⟨k0, g', k1, k2, k3.other (k3.ne h.br (by decide)) _, ho ▸ k4⟩

section
variable {pT pF pS : Option Addr} {cT cF cS : Nat}
set_option maxRecDepth 100000 in
set_option maxHeartbeats 8000000 in
theorem ways_c (bw : Nat) (s : Sd) (w : World) (hw : SandsAt w bw 0 s pT pF pS cT cF cS) (m2 : s.floors.length ≤ 8) (m3 : s.sills.length ≤ 16) (hg : goodSills s.sills s.floors.length)
    (fm : Nat) (pre post : Array Value) (may : Nat → Nat → Bool) (hm : Wants2 fm pre post may s.sills.length s.floors.length w) (em : Enters Tryz.prog fm) :
    Calls Tryz.prog 90 #[.pointer (some ⟨bw, 0, none⟩), .func (.func fm) pre post] w fun e w' => ∃ (vs : List Value) (qv : Value), e = .returned (.agg vs.toArray) ∧ vs.length = 8 ∧ (waysOf s may).length = 8 ∧ (∀ l, some l ∈ waysOf s may → l.length ≤ 8) ∧
      (∀ (i : Nat) v o, vs[i]? = some v → (waysOf s may)[i]? = some o → WayIs w' w.heap.size qv v o) ∧ Up w w' := by
  have HL := Lib.hid (fun (W : World) (hu : Up w W) => lead_c bw s w W hw hu m2 m3 hg fm pre post may hm em)
  clear hw hm em
  go_enter Tryz.func90, Tryz.ntmps90
  go_wp2_with fail
  refine Calls.world ?_
  intro w0 hw0
  have u0 : Up w w0 := by rw [hw0]; (repeat (first | exact Below.refl _ _ | (with_reducible refine Below.drewN' ?_ _) | (with_reducible refine Below.drew ?_) | (with_reducible refine Below.setCell ?_ (by first | exact Nat.le_refl _ | omega | (with_reducible (repeat (first | refine sz_alloc ?_ | refine sz_setCell ?_ | refine sz_drew ?_ | refine sz_drewN ?_)); first | exact Nat.le_refl _ | omega) | (simp only [World.size_alloc, World.size_setCell, World.size_drew, size_drewN']; omega)) _) | (with_reducible refine Below.alloc ?_ (by first | exact Nat.le_refl _ | omega | (with_reducible (repeat (first | refine sz_alloc ?_ | refine sz_setCell ?_ | refine sz_drew ?_ | refine sz_drewN ?_)); first | exact Nat.le_refl _ | omega) | (simp only [World.size_alloc, World.size_setCell, World.size_drew, size_drewN']; omega)) _) | assumption))
  have hbp : Blk w0 w.heap.size [.pointer (some ⟨bw, 0, none⟩)] 106 := by rw [hw0]; exact ((((Blk.new w _ _).alloc _).alloc _).alloc _).alloc _
  have hbm : Blk w0 (w.heap.size + 1) [.func (.func fm) pre post] 142 := by rw [hw0]; exact (((Blk.new' _ [.func (.func fm) pre post] _ (by simp)).alloc _).alloc _).alloc _
  have hbR : Blk w0 (w.heap.size + 1 + 1) [.slice none 0 0, .slice none 0 0, .slice none 0 0, .slice none 0 0, .slice none 0 0, .slice none 0 0, .slice none 0 0, .slice none 0 0] 139 := by rw [hw0]; exact ((Blk.new' _ [.slice none 0 0, .slice none 0 0, .slice none 0 0, .slice none 0 0, .slice none 0 0, .slice none 0 0, .slice none 0 0, .slice none 0 0] _ (by simp)).alloc _).alloc _
  have hb8 : Blk w0 (w.heap.size + 1 + 1 + 1) [.slice none 0 0, .slice none 0 0, .slice none 0 0, .slice none 0 0, .slice none 0 0, .slice none 0 0, .slice none 0 0, .slice none 0 0] 139 := by rw [hw0]; exact (Blk.new' _ [.slice none 0 0, .slice none 0 0, .slice none 0 0, .slice none 0 0, .slice none 0 0, .slice none 0 0, .slice none 0 0, .slice none 0 0] _ (by simp)).alloc _
  have hbr : Blk w0 (w.heap.size + 1 + 1 + 1 + 1) [.slice none 0 0] 25 := by rw [hw0]; exact Blk.new' _ [.slice none 0 0] _ (by simp)
  clear hw0
  have hW0 : WaysAt w0 w.heap.size (w.heap.size + 1 + 1 + 1) (w.heap.size + 1 + 1 + 1 + 1) [.slice none 0 0, .slice none 0 0, .slice none 0 0, .slice none 0 0, .slice none 0 0, .slice none 0 0, .slice none 0 0, .slice none 0 0] (.slice none 0 0) (List.replicate 8 none) [] := by
    refine ⟨hb8, hbr, Que.nil _ _, rfl, rfl, fun i hi => ?_, by decide, fun l hl => ?_, by omega, by omega⟩
    · match i, hi with
      | 0, _ => exact rfl
      | 1, _ => exact rfl
      | 2, _ => exact rfl
      | 3, _ => exact rfl
      | 4, _ => exact rfl
      | 5, _ => exact rfl
      | 6, _ => exact rfl
      | 7, _ => exact rfl
    · have := List.eq_of_mem_replicate hl; cases this
  refine (HL.out w0 u0 _ _ _ _ (-1) (.slice none 0 0) none _ _ _ _ hbp hbm hW0 rfl (by decide) (by omega) (by omega) _ _ hbR (by omega)).mono ?_
  rintro e w1 ⟨rfl, u1, k1, k2, k3, vs, qv, k4⟩
  have U1 := Lib.hid (Below.trans u0 u1)
  obtain ⟨st, hst⟩ : ∃ st, ledW s may (-1) [] (List.replicate 8 none, []) = st := ⟨_, rfl⟩
  have hke := foldW_keeps (may := may) (way := []) (leads s.sills s.floors.length (-1) s.sills.length) (List.replicate 8 none, [])
  change (ledW s may (-1) [] (List.replicate 8 none, [])).2.length + nones (ledW s may (-1) [] (List.replicate 8 none, [])).1 = 8 ∧ ∀ y ∈ (ledW s may (-1) [] (List.replicate 8 none, [])).2, y ∈ [] ∨ (0 ≤ y ∧ y < (s.floors.length : Int)) at hke
  rw [hst] at hke
  have HF := Lib.hid (show waysOf s may = (goW s may 8 st).1 by unfold waysOf; rw [hst])
  simp only [Option.getD_none] at k4
  rw [hst] at k4
  have K1 := Lib.hid k1
  have K2 := Lib.hid k2
  have K3 := Lib.hid k3
  have K4 := Lib.hid k4
  clear hbp hbm hbR hb8 hbr hW0 u0 u1 k1 k2 k3 k4 hst
  go_wp2_with fail
  go_loopg [8] 9 (fun n _ wr => ∃ ws q vs qv, n = q.length + nones ws + 1 ∧ (goW s may 8 st).1 = (goW s may (q.length + nones ws) (ws, q)).1 ∧ (∀ y ∈ q, 0 ≤ y ∧ y < (s.floors.length : Int)) ∧ WaysAt wr w.heap.size (w.heap.size + 1 + 1 + 1) (w.heap.size + 1 + 1 + 1 + 1) vs qv ws q ∧
    Blk wr w.heap.size [.pointer (some ⟨bw, 0, none⟩)] 106 ∧ Blk wr (w.heap.size + 1) [.func (.func fm) pre post] 142 ∧ Blk wr (w.heap.size + 1 + 1) [.slice none 0 0, .slice none 0 0, .slice none 0 0, .slice none 0 0, .slice none 0 0, .slice none 0 0, .slice none 0 0, .slice none 0 0] 139 ∧ Up w wr)
  case atStart =>
    refine ⟨st.1, st.2, vs, qv, by rw [hke.1], by rw [hke.1], fun y hy => ?_, K4.out, K1.out, K2.out, K3.out, U1.out⟩
    rcases hke.2 y hy with h | h
    · cases h
    · exact h
  case round =>
    obtain ⟨ws, q, vs, qv, hn, hgo, hqb, k4, k1, k2, k3, hu⟩ := hrel
    cases q with
    | nil =>
      obtain ⟨pa, ca, rfl⟩ := k4.que.shape
      have cr := k4.br.cell 0
      have l8 := k4.l8
      obtain ⟨v0, v1, v2, v3, v4, v5, v6, v7, rfl⟩ : ∃ a b c d e f h i, vs = [a, b, c, d, e, f, h, i] := by
        match vs, l8 with
        | [a, b, c, d, e, f, h, i], _ => exact ⟨a, b, c, d, e, f, h, i, rfl⟩
      obtain ⟨p0, n0, e0, rfl⟩ : ∃ p n c, v0 = .slice p n c := (k4.ways 0 (by decide)).slice
      obtain ⟨p1, n1, e1, rfl⟩ : ∃ p n c, v1 = .slice p n c := (k4.ways 1 (by decide)).slice
      obtain ⟨p2, n2, e2, rfl⟩ : ∃ p n c, v2 = .slice p n c := (k4.ways 2 (by decide)).slice
      obtain ⟨p3, n3, e3, rfl⟩ : ∃ p n c, v3 = .slice p n c := (k4.ways 3 (by decide)).slice
      obtain ⟨p4, n4, e4, rfl⟩ : ∃ p n c, v4 = .slice p n c := (k4.ways 4 (by decide)).slice
      obtain ⟨p5, n5, e5, rfl⟩ : ∃ p n c, v5 = .slice p n c := (k4.ways 5 (by decide)).slice
      obtain ⟨p6, n6, e6, rfl⟩ : ∃ p n c, v6 = .slice p n c := (k4.ways 6 (by decide)).slice
      obtain ⟨p7, n7, e7, rfl⟩ : ∃ p n c, v7 = .slice p n c := (k4.ways 7 (by decide)).slice
      have a0 := k4.b8.cell 0
      have a1 := k4.b8.cell 1
      have a2 := k4.b8.cell 2
      have a3 := k4.b8.cell 3
      have a4 := k4.b8.cell 4
      have a5 := k4.b8.cell 5
      have a6 := k4.b8.cell 6
      have a7 := k4.b8.cell 7
      have r0 := k3.cell 0
      have r1 := k3.cell 1
      have r2 := k3.cell 2
      have r3 := k3.cell 3
      have r4 := k3.cell 4
      have r5 := k3.cell 5
      have r6 := k3.cell 6
      have r7 := k3.cell 7
      have fr := k3.free
      have lr := k3.lt
      simp only [List.length_nil, List.getElem?_cons_zero, List.getElem?_cons_succ] at cr a0 a1 a2 a3 a4 a5 a6 a7 r0 r1 r2 r3 r4 r5 r6 r7
      have J4 := Lib.hid k4
      have J3 := Lib.hid k3
      have JU := Lib.hid hu
      have HFo := Lib.hid (show waysOf s may = ws by rw [HF.out, hgo, goW_end])
      clear k1 k2 k3 k4 hu hgo hqb K1 K2 K3 K4
      go_wp2_with fail
      have hB := ((((((((J3.out.set 0 (.slice p0 n0 e0)).set 1 (.slice p1 n1 e1)).set 2 (.slice p2 n2 e2)).set 3 (.slice p3 n3 e3)).set 4 (.slice p4 n4 e4)).set 5 (.slice p5 n5 e5)).set 6 (.slice p6 n6 e6)).set 7 (.slice p7 n7 e7))
      simp only [List.set_cons_zero, List.set_cons_succ] at hB
      have q0 := hB.cell 0
      have q1 := hB.cell 1
      have q2 := hB.cell 2
      have q3 := hB.cell 3
      have q4 := hB.cell 4
      have q5 := hB.cell 5
      have q6 := hB.cell 6
      have q7 := hB.cell 7
      simp only [List.getElem?_cons_zero, List.getElem?_cons_succ] at q0 q1 q2 q3 q4 q5 q6 q7
      refine bodyPost_ret (v := .agg #[.slice p0 n0 e0, .slice p1 n1 e1, .slice p2 n2 e2, .slice p3 n3 e3, .slice p4 n4 e4, .slice p5 n5 e5, .slice p6 n6 e6, .slice p7 n7 e7]) (by simp [results, Tryz.f90, go_sem, q0, q1, q2, q3, q4, q5, q6, q7]) rfl ⟨[.slice p0 n0 e0, .slice p1 n1 e1, .slice p2 n2 e2, .slice p3 n3 e3, .slice p4 n4 e4, .slice p5 n5 e5, .slice p6 n6 e6, .slice p7 n7 e7], .slice pa 0 ca, rfl, rfl, by rw [HFo.out]; exact J4.out.w8, fun l hl => by rw [HFo.out] at hl; have := J4.out.short l hl; omega, ?_, ?_⟩
      · rw [HFo.out]
        intro i v o hv ho
        have hi : i < 8 := by have := (List.getElem?_eq_some_iff.1 hv).1; simpa using this
        have hww := J4.out.ways i hi
        have hw8 := J4.out.w8
        rw [List.getElem?_eq_getElem (by simpa using hi)] at hv
        rw [List.getElem?_eq_getElem (by omega)] at ho
        simp only [Option.some.injEq] at hv ho
        rw [hv, ho] at hww
        refine hww.cast (fun g cs hb => ?_)
        have ne : g ≠ w.heap.size + 1 + 1 := hb.ne J3.out (by decide)
        repeat (with_reducible refine Blk.other ?_ ne _)
        exact hb
      · have h4 := JU.out
        repeat (first | (with_reducible exact h4) | (with_reducible refine Below.setCell ?_ (by simp only; omega) _))
    | cons x q =>
      obtain ⟨g, off, cap, rfl, cx, hcap, hg0, hgl, hq2⟩ := k4.que.front
      obtain ⟨hx0, hx1⟩ := hqb x (by simp)
      obtain ⟨n, rfl⟩ := Int.eq_ofNat_of_zero_le hx0
      have n8 : n < 8 := by omega
      have n8' : (n : Int) < 8 := by omega
      have cr := k4.br.cell 0
      have fr := k4.br.free 0
      have lr := k4.br.lt
      have l8 := k4.l8
      have c8 := k4.b8.cell n
      rw [List.getElem?_eq_getElem (by omega)] at c8
      simp only [List.getElem?_cons_zero] at cr
      by_cases hc : cap = 1
      · subst hc
        have hq2' : Que wr w.heap.size (.slice (some ⟨g, off, none⟩) 0 0) q := by (have hq0 : q.length = 0 := by omega); simpa [hq0] using hq2
        clear hq2
        have l8' := k4.b8.lt
        have hpop := k4.pop hq2' rfl
        have J4 := Lib.hid hpop
        have J1 := Lib.hid (k1.other (k1.ne k4.br (by decide)) (.slice (some ⟨g, off, none⟩) 0 0) (a := ⟨w.heap.size + 1 + 1 + 1 + 1, 0, none⟩))
        have J2 := Lib.hid (k2.other (k2.ne k4.br (by decide)) (.slice (some ⟨g, off, none⟩) 0 0) (a := ⟨w.heap.size + 1 + 1 + 1 + 1, 0, none⟩))
        have J3 := Lib.hid (k3.other (k3.ne k4.br (by decide)) (.slice (some ⟨g, off, none⟩) 0 0) (a := ⟨w.heap.size + 1 + 1 + 1 + 1, 0, none⟩))
        have JU := Lib.hid hu
        have JG := Lib.hid hgo
        have JQ := Lib.hid hqb
        clear k1 k2 k3 k4 hu hgo hqb hq2' hpop K1 K2 K3 K4
        go_wp2_with fail
        have hw8 := J4.out.w8
        have hwy : WayIs _ w.heap.size _ _ (wayAt ws n) := (show wayAt ws n = ws[n]'(by omega) by unfold wayAt; rw [Int.toNat_natCast, List.getElem?_eq_getElem (by omega)]; rfl) ▸ J4.out.ways n n8
        have hsh : ((wayAt ws n).getD []).length + nones ws ≤ 8 := by
          cases hwa : wayAt ws n with
          | none => have := nones_le ws; simp; omega
          | some l => exact J4.out.short l (by
              have e : wayAt ws n = ws[n]'(by omega) := by unfold wayAt; rw [Int.toNat_natCast, List.getElem?_eq_getElem (by omega)]; rfl
              rw [← hwa, e]; exact List.getElem_mem _)
        have u2 : Up w (wr.setCell ⟨w.heap.size + 1 + 1 + 1 + 1, 0, none⟩ (.slice (some ⟨g, off, none⟩) 0 0)) := Below.setCell JU.out (by simp only; omega) _
        refine (HL.out _ u2 _ _ _ _ (n : Int) _ (wayAt ws n) _ _ _ _ J1.out J2.out J4.out hwy hsh (by omega) (by omega) _ _ J3.out (by omega)).mono ?_
        rintro e w3 ⟨rfl, u3, m1, m2', m3', vs3, qv3, m4⟩
        obtain ⟨he1, he2⟩ := foldW_keeps (may := may) (way := (wayAt ws n).getD []) (leads s.sills s.floors.length n s.sills.length) (ws, q)
        change (ledW s may n ((wayAt ws n).getD []) (ws, q)).2.length + nones (ledW s may n ((wayAt ws n).getD []) (ws, q)).1 = q.length + nones ws at he1
        change ∀ y ∈ (ledW s may n ((wayAt ws n).getD []) (ws, q)).2, y ∈ q ∨ (0 ≤ y ∧ y < (s.floors.length : Int)) at he2
        have hgo' : (goW s may 8 st).1 = (goW s may (q.length + nones ws) (ledW s may n ((wayAt ws n).getD []) (ws, q))).1 := by
          rw [JG.out]
          rw [show ((n : Int) :: q).length + nones ws = (q.length + nones ws) + 1 by simp only [List.length_cons]; omega]
          rfl
        obtain ⟨st3, hst3⟩ : ∃ st3, ledW s may n ((wayAt ws n).getD []) (ws, q) = st3 := ⟨_, rfl⟩
        rw [hst3] at he1 he2 hgo' m4
        have hn' : gk - 1 = st3.2.length + nones st3.1 + 1 := by simp only [List.length_cons] at hn; omega
        have R1 := Lib.hid m1
        have R2 := Lib.hid m2'
        have R3 := Lib.hid m3'
        have R4 := Lib.hid m4
        have RU := Lib.hid (Below.trans u2 u3)
        have RG := Lib.hid hgo'
        have RQ : Hid (∀ y ∈ st3.2, 0 ≤ y ∧ y < (s.floors.length : Int)) := fun y hy => by
          rcases he2 y hy with h | h
          · exact JQ.out y (by simp [h])
          · exact h
        clear m1 m2' m3' m4 u3 u2 hgo' he2
        go_wp2_with fail
        go_roundg (gk - 1)
        case rel => exact ⟨st3.1, st3.2, vs3, qv3, hn', by rw [RG.out, ← he1], RQ.out, R4.out, R1.out, R2.out, R3.out, RU.out⟩
        case measure => omega
      · have hc1 : 1 ≤ cap := by omega
        have hq2' : Que wr w.heap.size (.slice (some ⟨g, off + 1, none⟩) q.length (cap - 1)) q := by rw [if_neg hc] at hq2; exact hq2
        clear hq2
        have l8' := k4.b8.lt
        have hpop := k4.pop hq2' rfl
        have J4 := Lib.hid hpop
        have J1 := Lib.hid (k1.other (k1.ne k4.br (by decide)) (.slice (some ⟨g, off + 1, none⟩) q.length (cap - 1)) (a := ⟨w.heap.size + 1 + 1 + 1 + 1, 0, none⟩))
        have J2 := Lib.hid (k2.other (k2.ne k4.br (by decide)) (.slice (some ⟨g, off + 1, none⟩) q.length (cap - 1)) (a := ⟨w.heap.size + 1 + 1 + 1 + 1, 0, none⟩))
        have J3 := Lib.hid (k3.other (k3.ne k4.br (by decide)) (.slice (some ⟨g, off + 1, none⟩) q.length (cap - 1)) (a := ⟨w.heap.size + 1 + 1 + 1 + 1, 0, none⟩))
        have JU := Lib.hid hu
        have JG := Lib.hid hgo
        have JQ := Lib.hid hqb
        clear k1 k2 k3 k4 hu hgo hqb hq2' hpop K1 K2 K3 K4
        go_wp2_with fail
        have hw8 := J4.out.w8
        have hwy : WayIs _ w.heap.size _ _ (wayAt ws n) := (show wayAt ws n = ws[n]'(by omega) by unfold wayAt; rw [Int.toNat_natCast, List.getElem?_eq_getElem (by omega)]; rfl) ▸ J4.out.ways n n8
        have hsh : ((wayAt ws n).getD []).length + nones ws ≤ 8 := by
          cases hwa : wayAt ws n with
          | none => have := nones_le ws; simp; omega
          | some l => exact J4.out.short l (by
              have e : wayAt ws n = ws[n]'(by omega) := by unfold wayAt; rw [Int.toNat_natCast, List.getElem?_eq_getElem (by omega)]; rfl
              rw [← hwa, e]; exact List.getElem_mem _)
        have u2 : Up w (wr.setCell ⟨w.heap.size + 1 + 1 + 1 + 1, 0, none⟩ (.slice (some ⟨g, off + 1, none⟩) q.length (cap - 1))) := Below.setCell JU.out (by simp only; omega) _
        refine (HL.out _ u2 _ _ _ _ (n : Int) _ (wayAt ws n) _ _ _ _ J1.out J2.out J4.out hwy hsh (by omega) (by omega) _ _ J3.out (by omega)).mono ?_
        rintro e w3 ⟨rfl, u3, m1, m2', m3', vs3, qv3, m4⟩
        obtain ⟨he1, he2⟩ := foldW_keeps (may := may) (way := (wayAt ws n).getD []) (leads s.sills s.floors.length n s.sills.length) (ws, q)
        change (ledW s may n ((wayAt ws n).getD []) (ws, q)).2.length + nones (ledW s may n ((wayAt ws n).getD []) (ws, q)).1 = q.length + nones ws at he1
        change ∀ y ∈ (ledW s may n ((wayAt ws n).getD []) (ws, q)).2, y ∈ q ∨ (0 ≤ y ∧ y < (s.floors.length : Int)) at he2
        have hgo' : (goW s may 8 st).1 = (goW s may (q.length + nones ws) (ledW s may n ((wayAt ws n).getD []) (ws, q))).1 := by
          rw [JG.out]
          rw [show ((n : Int) :: q).length + nones ws = (q.length + nones ws) + 1 by simp only [List.length_cons]; omega]
          rfl
        obtain ⟨st3, hst3⟩ : ∃ st3, ledW s may n ((wayAt ws n).getD []) (ws, q) = st3 := ⟨_, rfl⟩
        rw [hst3] at he1 he2 hgo' m4
        have hn' : gk - 1 = st3.2.length + nones st3.1 + 1 := by simp only [List.length_cons] at hn; omega
        have R1 := Lib.hid m1
        have R2 := Lib.hid m2'
        have R3 := Lib.hid m3'
        have R4 := Lib.hid m4
        have RU := Lib.hid (Below.trans u2 u3)
        have RG := Lib.hid hgo'
        have RQ : Hid (∀ y ∈ st3.2, 0 ≤ y ∧ y < (s.floors.length : Int)) := fun y hy => by
          rcases he2 y hy with h | h
          · exact JQ.out y (by simp [h])
          · exact h
        clear m1 m2' m3' m4 u3 u2 hgo' he2
        go_wp2_with fail
        go_roundg (gk - 1)
        case rel => exact ⟨st3.1, st3.2, vs3, qv3, hn', by rw [RG.out, ← he1], RQ.out, R4.out, R1.out, R2.out, R3.out, RU.out⟩
        case measure => omega
end
end Go.Proofs.YtknaajofcbenaaaGreat
