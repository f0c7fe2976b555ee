import Derived.Test.YtknaajofcbenaaaGreatBase
import Derived.Test.YtknaajofcbenaaaGreatHeight
import Derived.Test.YtknaajofcbenaaaGreatChk2
import Derived.Test.YtknaajofcbenaaaGreatCheck
import Derived.Test.YtknaajofcbenaaaGreatOn
import Derived.Test.YtknaajofcbenaaaGreatLower
import Derived.Test.YtknaajofcbenaaaGreatGates
import Derived.Test.YtknaajofcbenaaaGreatBegin
import Derived.Test.YtknaajofcbenaaaGreatState2
import Derived.Test.YtknaajofcbenaaaGreatAll
import Derived.Test.YtknaajofcbenaaaGreatSpans
import Derived.Test.YtknaajofcbenaaaGreatFits
import Derived.Test.YtknaajofcbenaaaGreatQue
import Derived.Test.YtknaajofcbenaaaGreatLonger
import Derived.WalkKit
import Derived.WalkSpells
import Derived.WalkLawsBesides
import Derived.Deep.QuietTactic
import Derived.BigQuiet
import Derived.Lib.Hide
import Derived.Shelf.Abstract
import Derived.BigGuardPart
import Derived.RangeFuncNested
import Derived.RangeFuncBound
import Derived.RangeFuncCalls
import Derived.RangeFuncLeaves
import Derived.Shelf.RegionOpen
import Derived.OwnWalkIn
import Derived.TacticsInMore
import Derived.LoopNIn
import Derived.LoopIn
import Derived.StillTailTactics
import Derived.Deep.RegionHeld3
import Derived.StillTail
import Derived.RangeFuncWrites
import Derived.Laws.StructEq
import Derived.Deep.LoopGhost
import Derived.IntWalk
import Derived.RangeFuncBox
import Derived.ArgAppend
import Derived.Laws.CopyOwn
import Derived.OwnWalk
import Derived.Lib.SliceRun
namespace Go.Proofs.YtknaajofcbenaaaGreat
open Go.RowKit Go.Shelf
attribute [local go_sem] Oper.semAt_some

abbrev Ways := List (Option (List Int))
def nones (ws : Ways) : Nat := ws.countP (·.isNone)
def leadW (may : Nat → Nat → Bool) (way : List Int) {nS nF : Nat} (st : Ways × List Int) (x : Lead nS nF) : Ways × List Int :=
  if st.1[x.1.2]? = some none ∧ may x.1.1 x.1.2 = true then (st.1.set x.1.2 (some (way ++ [(x.1.1 : Int)])), st.2 ++ [(x.1.2 : Int)]) else st
theorem leadW_met {may : Nat → Nat → Bool} {way : List Int} {nS nF : Nat} {st : Ways × List Int} {i to : Nat} {h : i < nS ∧ to < nF} {l : List Int} (e : st.1[to]? = some (some l)) : leadW may way st (⟨(i, to), h⟩ : Lead nS nF) = st := by
  unfold leadW; rw [if_neg]; rintro ⟨h1, -⟩; rw [e] at h1; cases h1
theorem leadW_not {may : Nat → Nat → Bool} {way : List Int} {nS nF : Nat} {st : Ways × List Int} {i to : Nat} {h : i < nS ∧ to < nF} (e : may i to = false) : leadW may way st (⟨(i, to), h⟩ : Lead nS nF) = st := by
  unfold leadW; rw [if_neg]; rintro ⟨-, h1⟩; rw [e] at h1; cases h1
theorem leadW_new {may : Nat → Nat → Bool} {way : List Int} {nS nF : Nat} {st : Ways × List Int} {i to : Nat} {h : i < nS ∧ to < nF} (e : st.1[to]? = some none) (e' : may i to = true) :
    leadW may way st (⟨(i, to), h⟩ : Lead nS nF) = (st.1.set to (some (way ++ [(i : Int)])), st.2 ++ [(to : Int)]) := by
  unfold leadW; rw [if_pos ⟨e, e'⟩]
theorem sl_nil (W : World) : (binOp .eql 25 (.slice none 0 0) (.slice none 0 0)).run Tryz.prog W = .ok (.bool true) W := Lib.run_eql_slice_nil W 25 3 none 0 0 0 0 Tryz.underlying25
theorem sl_some (W : World) (a : Addr) (n c : Nat) : (binOp .eql 25 (.slice (some a) n c) (.slice none 0 0)).run Tryz.prog W = .ok (.bool false) W := Lib.run_eql_slice_nil W 25 3 (some a) n c 0 0 Tryz.underlying25
def ledW (s : Sd) (may : Nat → Nat → Bool) (f : Int) (way : List Int) (st : Ways × List Int) : Ways × List Int := (leads s.sills s.floors.length f s.sills.length).foldl (leadW may way) st

def WayIs (W : World) (n₀ : Nat) (qv v : Value) : Option (List Int) → Prop
  | none => v = .slice none 0 0
  | some l => 0 < l.length ∧ ∃ g, v = .slice (some ⟨g, 0, none⟩) l.length l.length ∧ n₀ ≤ g ∧ Blk W g (l.map fun y => .int .i64 y) 3 ∧ qv.ownBlock ≠ some g
structure WaysAt (W : World) (n₀ B8 Br : Nat) (vs : List Value) (qv : Value) (ws : Ways) (q : List Int) : Prop where
  b8 : Blk W B8 vs 139
  br : Blk W Br [qv] 25
  que : Que W n₀ qv q
  l8 : vs.length = 8
  w8 : ws.length = 8
  ways : ∀ i (h : i < 8), WayIs W n₀ qv (vs[i]'(by omega)) (ws[i]'(by omega))
  few : q.length + nones ws ≤ 8
  short : ∀ l, some l ∈ ws → l.length + nones ws ≤ 8
  g8 : n₀ ≤ B8
  gr : n₀ ≤ Br

theorem WayIs.up {W W' : World} {n₀ : Nat} {qv v : Value} {o : Option (List Int)} (h : WayIs W n₀ qv v o) (hu : Up W W') : WayIs W' n₀ qv v o := by
  cases o with
  | none => exact h
  | some l => obtain ⟨h0, g, h1, h2, h3, h4⟩ := h; exact ⟨h0, g, h1, h2, h3.up hu, h4⟩
theorem WaysAt.up {W W' : World} {n₀ B8 Br : Nat} {vs : List Value} {qv : Value} {ws : Ways} {q : List Int} (h : WaysAt W n₀ B8 Br vs qv ws q) (hu : Up W W') : WaysAt W' n₀ B8 Br vs qv ws q :=
  ⟨h.b8.up hu, h.br.up hu, h.que.up hu, h.l8, h.w8, fun i hi => (h.ways i hi).up hu, h.few, h.short, h.g8, h.gr⟩

/-- what a step leaves alone that turns no cells -/
def OwnStep (W W' : World) : Prop := ∃ row, W.grownBy W' row ∧ ∀ r, row = some r → ∃ o : Obj, W.heap[r]? = some o ∧ o.isCells = false
theorem Blk.own {W W' : World} {B : Nat} {cs : List Value} {T : TypeId} (h : Blk W B cs T) (ho : OwnStep W W') : Blk W' B cs T := by
  obtain ⟨row, hg, hr⟩ := ho
  refine h.grown hg (fun e => ?_)
  obtain ⟨o, h1, h2⟩ := hr B e.symm
  have h3 : W.heap[B]? = some (.cells cs.toArray T (0, 0)) := h
  rw [h3] at h1
  simp only [Option.some.injEq] at h1
  subst h1
  simp [Obj.isCells] at h2
theorem WayIs.own {W W' : World} {n₀ : Nat} {qv v : Value} {o : Option (List Int)} (h : WayIs W n₀ qv v o) (ho : OwnStep W W') : WayIs W' n₀ qv v o := by
  cases o with
  | none => exact h
  | some l => obtain ⟨h0, g, h1, h2, h3, h4⟩ := h; exact ⟨h0, g, h1, h2, h3.own ho, h4⟩
theorem Que.own_lt {W : World} {n₀ : Nat} {v : Value} {q : List Int} (h : Que W n₀ v q) : ∀ g, v.ownBlock = some g → n₀ ≤ g ∧ g < W.heap.size := by
  intro g hg
  rcases h with ⟨rfl, _⟩ | ⟨g', off, cap, cs, rfl, h2, h3, _⟩
  · cases hg
  · simp only [Value.ownBlock, Option.some.injEq] at hg
    subst hg
    exact ⟨h2, h3.lt⟩
theorem Que.own {W W' : World} {n₀ : Nat} {v : Value} {q : List Int} (h : Que W n₀ v q) (ho : OwnStep W W') : Que W' n₀ v q := by
  rcases h with h | ⟨g, off, cap, cs, h1, h2, h3, h4⟩
  · exact .inl h
  · exact .inr ⟨g, off, cap, cs, h1, h2, h3.own ho, h4⟩
theorem WaysAt.own {W W' : World} {n₀ B8 Br : Nat} {vs : List Value} {qv : Value} {ws : Ways} {q : List Int} (h : WaysAt W n₀ B8 Br vs qv ws q) (ho : OwnStep W W') : WaysAt W' n₀ B8 Br vs qv ws q :=
  ⟨h.b8.own ho, h.br.own ho, h.que.own ho, h.l8, h.w8, fun i hi => (h.ways i hi).own ho, h.few, h.short, h.g8, h.gr⟩
theorem WayIs.row {W : World} {n₀ : Nat} {qv v : Value} {o : Option (List Int)} (h : WayIs W n₀ qv v o) : ∃ p, v = .slice p (o.getD []).length (o.getD []).length ∧ Row W p 1 (ints (o.getD [])) := by
  cases o with
  | none => exact ⟨none, h, Row.nil _ _ _⟩
  | some l =>
    obtain ⟨h0, g, h1, h2, h3, h4⟩ := h
    refine ⟨_, h1, fun i row hi => ⟨g, 0, rfl, fun j x hj => ?_⟩⟩
    simp only [ints, Option.getD_some, List.getElem?_map, Option.map_eq_some_iff] at hi
    obtain ⟨y, hy, rfl⟩ := hi
    match j, hj with
    | 0, hj =>
      simp only [List.getElem?_cons_zero, Option.some.injEq] at hj
      subst hj
      simp only [Nat.zero_add, Nat.mul_one, Nat.add_zero]
      rw [h3.cell, List.getElem?_map, hy]; rfl
    | j + 1, hj => simp at hj

theorem Que.ne {w : World} {n₀ : Nat} {v : Value} {q : List Int} (h : Que w n₀ v q) {B : Nat} {cs : List Value} {T : TypeId} (hB : Blk w B cs T) (ht : T ≠ 3) : v.ownBlock ≠ some B := by
  intro e
  rcases h with ⟨rfl, _⟩ | ⟨g', off, cap, cs', rfl, h2, h3, _⟩
  · cases e
  · simp only [Value.ownBlock, Option.some.injEq] at e
    subst e
    exact hB.ne h3 ht rfl
theorem Que.slice {w : World} {n₀ : Nat} {v : Value} {q : List Int} (h : Que w n₀ v q) : ∃ p n c, v = .slice p n c := by
  obtain ⟨p, c, h⟩ := h.shape; exact ⟨p, _, c, h⟩
theorem KeepsFrom.of_que {B n₀ : Nat} {W w' : World} {v : Value} {q : List Int} (h : Que W n₀ v q) (hg : W.grownBy w' v.ownBlock) : KeepsFrom B W w' := by
  refine ⟨hg.size, fun k o _ hk ho => (hg.block k (Array.getElem?_eq_some_iff.1 hk).1 (fun e => ?_)).trans hk⟩
  rcases h with ⟨rfl, _⟩ | ⟨g', off, cap, cs', rfl, h2, h3, _⟩
  · cases e
  · simp only [Value.ownBlock, Option.some.injEq] at e
    subst e
    have h3' : W.heap[k]? = some (.cells cs'.toArray 3 (0, 0)) := h3
    rw [h3'] at hk
    simp only [Option.some.injEq] at hk
    subst hk
    simp [Obj.isCells] at ho
theorem Keep.of_grown {S : Nat → Prop} {W w' : World} {row : Option Nat} (hg : W.grownBy w' row) (hS : ∀ k, S k → k < W.heap.size ∧ row ≠ some k) : Keep S W w' :=
  ⟨hg.size, fun k hk => hg.block k (hS k hk).1 (fun e => (hS k hk).2 e.symm)⟩
theorem Que.other {w : World} {n₀ : Nat} {v : Value} {q : List Int} (h : Que w n₀ v q) {a : Addr} (ha : v.ownBlock ≠ some a.block) (x : Value) : Que (w.setCell a x) n₀ v q := by
  rcases h with h | ⟨g, off, cap, cs, rfl, h2, h3, h4⟩
  · exact .inl h
  · exact .inr ⟨g, off, cap, cs, rfl, h2, h3.other (fun e => ha (by rw [← e]; rfl)) x, h4⟩
theorem Que.alloc {w : World} {n₀ : Nat} {v : Value} {q : List Int} (h : Que w n₀ v q) (o : Obj) : Que (w.alloc o) n₀ v q := by
  rcases h with h | ⟨g, off, cap, cs, h1, h2, h3, h4⟩
  · exact .inl h
  · exact .inr ⟨g, off, cap, cs, h1, h2, h3.alloc o, h4⟩
theorem nones_set {ws : Ways} {i : Nat} {l : List Int} (h : ws[i]? = some none) : nones (ws.set i (some l)) + 1 = nones ws := by
  obtain ⟨hi, e⟩ := List.getElem?_eq_some_iff.1 h
  have hp : 0 < ws.countP (·.isNone) := List.countP_pos_iff.2 ⟨none, by rw [← e]; exact List.getElem_mem hi, rfl⟩
  unfold nones
  rw [List.countP_set hi, e]
  simp
  omega
section
variable {W3 w5 : World} {n₀ B8 Br : Nat} {vs : List Value} {qv v' : Value} {ws : Ways} {q : List Int} {to : Nat} {vn : Value} {o : Obj}
theorem WaysAt.far (_h : WaysAt W3 n₀ B8 Br vs qv ws q) (hgr : ((W3.setCell ⟨B8, to, none⟩ vn).alloc o).grownBy w5 qv.ownBlock) {B : Nat} {cs : List Value} {T : TypeId} (hB : Blk W3 B cs T) (h1 : B ≠ B8) (h2 : B ≠ Br) (h3 : qv.ownBlock ≠ some B) :
    Blk (w5.setCell ⟨Br, 0, none⟩ v') B cs T :=
  Blk.other (Blk.grown ((hB.other h1 _).alloc o) hgr (fun e => h3 e.symm)) h2 _
theorem WaysAt.added (h : WaysAt W3 n₀ B8 Br vs qv ws q) (h8 : to < 8) (hn : ws[to]? = some none) (g : Nat) (l : List Int) (hl0 : 0 < l.length) (hg : Blk W3 g (l.map fun y => .int .i64 y) 3) (hgn : n₀ ≤ g) (hgo : qv.ownBlock ≠ some g)
    (hls : l.length + nones ws ≤ 9) (x : Int) (hvn : vn = .slice (some ⟨g, 0, none⟩) l.length l.length) (hq : Que w5 n₀ v' (q ++ [x])) (hgr : ((W3.setCell ⟨B8, to, none⟩ vn).alloc o).grownBy w5 qv.ownBlock)
    (ho : v'.ownBlock = qv.ownBlock ∨ ∃ k, v'.ownBlock = some k ∧ W3.heap.size + 1 ≤ k) : WaysAt (w5.setCell ⟨Br, 0, none⟩ v') n₀ B8 Br (vs.set to vn) v' (ws.set to (some l)) (q ++ [x]) := by
  have n8 : qv.ownBlock ≠ some B8 := h.que.ne h.b8 (by decide)
  have nr : qv.ownBlock ≠ some Br := h.que.ne h.br (by decide)
  have e8 : B8 ≠ Br := h.b8.ne h.br (by decide)
  have hb8 : Blk w5 B8 (vs.set to vn) 139 := Blk.grown ((h.b8.set to vn).alloc o) hgr (fun e => n8 e.symm)
  have hbr : Blk w5 Br [qv] 25 := Blk.grown ((h.br.other (Ne.symm e8) vn).alloc o) hgr (fun e => nr e.symm)
  have far : ∀ k, k < W3.heap.size → qv.ownBlock ≠ some k → v'.ownBlock ≠ some k := by
    intro k hk hne e
    rcases ho with h1 | ⟨j, h1, h2⟩
    · exact hne (h1 ▸ e)
    · rw [h1] at e
      simp only [Option.some.injEq] at e
      omega
  have hns := nones_set (l := l) hn
  have l8 := h.l8
  have w8 := h.w8
  refine ⟨hb8.other e8 _, by simpa using hbr.set 0 v', hq.other (hq.ne hbr (by decide)) _, by simp [l8], by simp [w8], fun i hi => ?_, ?_, ?_, h.g8, h.gr⟩
  · by_cases hit : i = to
    · subst hit
      simp only [List.getElem_set_self]
      refine ⟨hl0, g, hvn, hgn, h.far hgr hg (hg.ne h.b8 (by decide)) (hg.ne h.br (by decide)) hgo, far g hg.lt hgo⟩
    · simp only [List.getElem_set_ne (Ne.symm hit)]
      have hw := h.ways i hi
      cases hwi : ws[i]'(by omega) with
      | none => rw [hwi] at hw; exact hw
      | some l' =>
        rw [hwi] at hw
        obtain ⟨k0, g', k1, k2, k3, k4⟩ := hw
        exact ⟨k0, g', k1, k2, h.far hgr k3 (k3.ne h.b8 (by decide)) (k3.ne h.br (by decide)) k4, far g' k3.lt k4⟩
  · have := h.few
    simp only [List.length_append, List.length_singleton]
    omega
  · intro l' hl'
    rcases List.mem_or_eq_of_mem_set hl' with h1 | h1
    · have := h.short l' h1; omega
    · simp only [Option.some.injEq] at h1; subst h1; omega
theorem WayIs.far {v : Value} {w : Option (List Int)} (h : WaysAt W3 n₀ B8 Br vs qv ws q) (hgr : ((W3.setCell ⟨B8, to, none⟩ vn).alloc o).grownBy w5 qv.ownBlock) (ho : v'.ownBlock = qv.ownBlock ∨ ∃ k, v'.ownBlock = some k ∧ W3.heap.size + 1 ≤ k)
    (hw : WayIs W3 n₀ qv v w) : WayIs (w5.setCell ⟨Br, 0, none⟩ v') n₀ v' v w := by
  cases w with
  | none => exact hw
  | some l' =>
    obtain ⟨k0, g', k1, k2, k3, k4⟩ := hw
    refine ⟨k0, g', k1, k2, h.far hgr k3 (k3.ne h.b8 (by decide)) (k3.ne h.br (by decide)) k4, fun e => ?_⟩
    rcases ho with h1 | ⟨j, h1, h2⟩
    · exact k4 (h1 ▸ e)
    · rw [h1] at e
      simp only [Option.some.injEq] at e
      have := k3.lt
      omega
end

theorem wpListIn_append_que {F : Fence} {n : Nat} {P : Program} (w : World) {ops : Array Oper} {rest : List Oper} {o : Oper} {a : Act} {Q : Exit → Act → World → Prop} (hgd : o.guard = none) (s y : Operand) (t : TypeId)
    (hop : o.op = .call { callee := .builtin .append, args := #[s, y], argTypes := #[t, t] })
    (n₀ : Nat) (i : TypeInfo) (ht : P.underlying t = some (.slice 3)) (hi : P.info? 3 = some i) (hz : i.zero = some (.int .i64 0)) (hsize : i.size = 1) (hby : i.bytes = 8)
    (v : Value) (q : List Int) (hs : a.eval s = v) (h : Que w n₀ v q) (ab ao : Nat) (c : Nat) (x : Int) (hx' : a.eval y = .slice (some ⟨ab, ao, none⟩) 1 c) (hx : w.cell? ⟨ab, ao, none⟩ = some (.int .i64 x)) (hq : q.length ≤ 1000) (hn : n₀ ≤ w.heap.size)
    (hK : ∀ v' w', Que w' n₀ v' (q ++ [x]) → w.grownBy w' v.ownBlock → (v'.ownBlock = v.ownBlock ∨ ∃ g, v'.ownBlock = some g ∧ w.heap.size ≤ g) → wpListIn F n P ops Q rest (a.put o.dst v') w') :
    wpListIn F n P ops Q (o :: rest) a w := by
  refine wpListIn_plain hgd fun K hK' => ?_
  obtain ⟨v', w', hr, h2, h3, h4⟩ := run_append_que (P := P) w n₀ t o.type i ht hi hz hsize hby v q h ab ao c x hx hq hn
  unfold Oper.wpIn
  refine ⟨?_, ?_⟩
  · simp [Oper.about, hop, resolve, Target.leads, Sem.run_pure]
  · rw [Oper.semAt_plain F _ _ (by rw [hop]; intro c hc'; cases hc')]
    simp [execOp, hop, resolve, invoke, builtin, hs, hx', hr, Result.andThen]
    exact hK' _ _ (hK v' w' h2 h3 h4)

/-- a caller's word on which sills may be taken -/
def Wants2 (f : Nat) (pre post : Array Value) (pd : Nat → Nat → Bool) (nS nF : Nat) (w : World) : Prop :=
  ∀ (i t : Nat) W, i < nS → t < nF → Up w W → Calls Tryz.prog f (pre ++ #[.int .i64 i, .int .i64 t] ++ post) W fun e W' => e = .returned (.bool (pd i t)) ∧ Up W W'

section
variable {pT pF pS : Option Addr} {cT cF cS : Nat}
set_option maxRecDepth 100000 in
set_option maxHeartbeats 2000000 in
theorem lead_c (bw : Nat) (s : Sd) (w0 w : World) (hw : SandsAt w0 bw 0 s pT pF pS cT cF cS) (hu : Up w0 w) (m2 : s.floors.length ≤ 8) (m3 : s.sills.length ≤ 16) (hg : goodSills s.sills s.floors.length)
    (fm : Nat) (pre post : Array Value) (may : Nat → Nat → Bool) (hm : Wants2 fm pre post may s.sills.length s.floors.length w0) (em : Enters Tryz.prog fm)
    (bp bm B8 Br : Nat) (f : Int) (vw : Value) (way : Option (List Int)) (vs : List Value) (qv : Value) (ws : Ways) (q : List Int)
    (hbp : Blk w bp [.pointer (some ⟨bw, 0, none⟩)] 106) (hbm : Blk w bm [.func (.func fm) pre post] 142) (hW : WaysAt w w0.heap.size B8 Br vs qv ws q) (hwy : WayIs w w0.heap.size qv vw way) (hl : (way.getD []).length + nones ws ≤ 8) (gp : w0.heap.size ≤ bp) (gm : w0.heap.size ≤ bm) (bx : Nat) (cx : List Value) (hbx : Blk w bx cx 139) (nbx : bx ≠ B8) :
    Calls Tryz.prog 122 #[.int .i64 f, vw, .pointer (some ⟨bp, 0, none⟩), .pointer (some ⟨B8, 0, none⟩), .pointer (some ⟨bm, 0, none⟩), .pointer (some ⟨Br, 0, none⟩)] w fun e w' => e = .returned (.tuple #[]) ∧
      Below w0.heap.size w w' ∧ Blk w' bp [.pointer (some ⟨bw, 0, none⟩)] 106 ∧ Blk w' bm [.func (.func fm) pre post] 142 ∧ Blk w' bx cx 139 ∧ ∃ vs' qv', WaysAt w' w0.heap.size B8 Br vs' qv' (ledW s may f (way.getD []) (ws, q)).1 (ledW s may f (way.getD []) (ws, q)).2 := by
  obtain ⟨pw, rfl, hrw⟩ := hwy.row
  have eg' : ∀ (args : Array Value) (w : World), (callFunc fm args).run Tryz.prog w = .ok (.enter fm args) w := em
  have c0 := hbp.cell 0
  have lbp := hbp.lt
  simp only [List.getElem?_cons_zero] at c0
  refine callsIn_wide (n := 9).1 ?_
  refine callsIn_of_wp_marks Tryz.func122 rfl trivial ?_ rfl
  simp only [Tryz.ntmps122, List.size_toArray, List.length_cons, List.length_nil, Nat.reduceAdd, Nat.reduceSub, Array.replicate_succ, Array.replicate_zero, List.push_toArray, List.append_toArray, List.nil_append, List.cons_append]
  gi_wp2_with (refine ⟨trivial, ?_⟩; gi_at_call 123; refine (callsIn_wide.2 (on_c _ _ _)).mono ?_; rintro e w' ⟨rfl, rfl⟩)
  obtain ⟨w1, hw1⟩ : ∃ w1, (((w.alloc (.cells #[.slice pw (way.getD []).length (way.getD []).length] 25)).alloc (.cells #[.pointer (some ⟨bw, 0, none⟩)] 106)).alloc (.cells #[.int .i64 f] 3)) = w1 := ⟨_, rfl⟩
  have hsz1 : w1.heap.size = w.heap.size + 3 := by rw [← hw1]; simp
  have hu1 : Up w w1 := by rw [← hw1]; (repeat (first | exact Below.refl _ _ | (with_reducible refine Below.drewN' ?_ _) | (with_reducible refine Below.drew ?_) | (with_reducible refine Below.setCell ?_ (by first | exact Nat.le_refl _ | omega | (with_reducible (repeat (first | refine sz_alloc ?_ | refine sz_setCell ?_ | refine sz_drew ?_ | refine sz_drewN ?_)); first | exact Nat.le_refl _ | omega) | (simp only [World.size_alloc, World.size_setCell, World.size_drew, size_drewN']; omega)) _) | (with_reducible refine Below.alloc ?_ (by first | exact Nat.le_refl _ | omega | (with_reducible (repeat (first | refine sz_alloc ?_ | refine sz_setCell ?_ | refine sz_drew ?_ | refine sz_drewN ?_)); first | exact Nat.le_refl _ | omega) | (simp only [World.size_alloc, World.size_setCell, World.size_drew, size_drewN']; omega)) _) | assumption))
  have h7 : Blk w1 w.heap.size [.slice pw (way.getD []).length (way.getD []).length] 25 := by rw [← hw1]; exact ((Blk.new w _ _).alloc _).alloc _
  have hb1 : Blk w1 (w.heap.size + 1) [.pointer (some ⟨bw, 0, none⟩)] 106 := by rw [← hw1]; exact (Blk.new' _ [.pointer (some ⟨bw, 0, none⟩)] _ (by simp)).alloc _
  have hb2 : Blk w1 (w.heap.size + 1 + 1) [.int .i64 f] 3 := by rw [← hw1]; exact Blk.new' _ [.int .i64 f] _ (by simp)
  rw [hw1]
  clear hw1
  have hw' := (hw.up hu).up hu1
  have hns := hu.size
  have lB8 := hW.b8.lt
  have lBr := hW.br.lt
  have gB8 := hW.g8
  have gBr := hW.gr
  refine wpIn_rangeFunc_ownG rfl (by decide) (gf := 144) (lb := #[.pointer (some ⟨w.heap.size + 1, 0, none⟩), .pointer (some ⟨w.heap.size + 1 + 1, 0, none⟩)]) rfl trivial en_on1
    (on_stops 8 (by decide) (fun k => k < w0.heap.size ∨ k = w.heap.size + 2) (w.heap.size + 1) (w.heap.size + 1 + 1) bw pS cS s.sills s.floors.length f hg (by simp [maxLen]; omega) w1
      (fun k hk => by omega) (by right; rfl) (fun h b off e => Or.inl (hw.sills_lt h e)) (hb1.cell 0) (hb2.cell 0) hw'.s4 hw'.rs) Keep.trans (keepK_b (fun k hk => by omega)) (Below.refl _ _) (fun _ => rfl)
    (fun pre' W => ∃ vs qv, WaysAt W w0.heap.size B8 Br vs qv (pre'.foldl (leadW may (way.getD [])) (ws, q)).1 (pre'.foldl (leadW may (way.getD [])) (ws, q)).2 ∧ WayIs W w0.heap.size qv (.slice pw (way.getD []).length (way.getD []).length) way ∧ (way.getD []).length + nones (pre'.foldl (leadW may (way.getD [])) (ws, q)).1 ≤ 8 ∧
      Blk W bp [.pointer (some ⟨bw, 0, none⟩)] 106 ∧ Blk W bm [.func (.func fm) pre post] 142 ∧ Blk W bx cx 139 ∧ Blk W w.heap.size [.slice pw (way.getD []).length (way.getD []).length] 25 ∧ Below w0.heap.size w W ∧ w.heap.size + 3 ≤ W.heap.size ∧ qv.ownBlock ≠ some (w.heap.size + 2))
    (fun _ _ _ => False) (fun pre' A B row h hgr hr => by
      obtain ⟨vs, qv, k1, k2, k3, k4, k5, kx, k6, k7, k8, k9⟩ := h
      have ho : OwnStep A B := ⟨row, hgr, fun r e => (hr r e).2⟩
      exact ⟨vs, qv, k1.own ho, k2.own ho, k3, k4.own ho, k5.own ho, kx.own ho, k6.own ho, k7.grown hgr (Nat.le_trans hns k7.size) (fun k e => by have := (hr k e).1; omega), Nat.le_trans k8 hgr.size, k9⟩)
    (fun _ _ _ _ _ hs _ _ => hs) ⟨vs, qv, hW.up hu1, hwy.up hu1, hl, hbp.up hu1, hbm.up hu1, hbx.up hu1, h7, Below.mono hu1 hns, by omega, fun e => ?own⟩
    (fun x => { tmps := #[.int .i64 f, .slice pw (way.getD []).length (way.getD []).length, .pointer (some ⟨bp, 0, none⟩), .pointer (some ⟨B8, 0, none⟩), .pointer (some ⟨bm, 0, none⟩), .pointer (some ⟨Br, 0, none⟩), undef, .pointer (some ⟨w.heap.size, 0, none⟩),
      .int .i64 (x.1.1 : Int), .int .i64 (x.1.2 : Int), .pointer (some ⟨bw, 0, none⟩), .int .i64 f, .func (.func 144) #[] #[.pointer (some ⟨w.heap.size + 1, 0, none⟩), .pointer (some ⟨w.heap.size + 1 + 1, 0, none⟩)],
      .int .i64 (x.1.1 : Int), .int .i64 (x.1.2 : Int), undef, undef, undef, undef, undef, undef, undef, undef, undef, undef, undef, undef, undef, undef, undef, undef, undef, undef, undef], defers := [] }) ?assign ?body ?done ?stop
  case own =>
    have := hW.que.own_lt _ e
    omega
  case assign =>
    intro l x W K hK
    gi_wp2
    exact hK
  case body =>
    rintro l pre' x W ⟨vs, qv, k1, k2, k3, k4, k5, kx, k6, k7, k8, k9⟩ _
    obtain ⟨⟨i, to⟩, hi, hto⟩ := x
    dsimp only at hi hto ⊢
    obtain ⟨st, hst⟩ : ∃ st, pre'.foldl (leadW may (way.getD [])) (ws, q) = st := ⟨_, rfl⟩
    rw [hst] at k1 k3
    have to8 : to < 8 := by omega
    have to8' : (to : Int) < 8 := by omega
    have to0 : (0 : Int) ≤ to := by omega
    have ev := k1.ways to to8
    have l8 := k1.l8
    have c8 := k1.b8.cell to
    rw [List.getElem?_eq_getElem (by omega)] at c8
    have lb8 := k1.b8.lt
    have HS := Lib.hid (show (pre' ++ [(⟨(i, to), hi, hto⟩ : Lead s.sills.length s.floors.length)]).foldl (leadW may (way.getD [])) (ws, q) = leadW may (way.getD []) st (⟨(i, to), hi, hto⟩ : Lead s.sills.length s.floors.length) by rw [List.foldl_append, hst]; rfl)
    have hw8 := k1.w8
    cases ho : st.1[to]'(by omega) with
    | some ol =>
      rw [ho] at ev
      obtain ⟨ol0, g, ev, eg⟩ := ev
      rw [ev] at c8
      have HE := Lib.hid (HS.out.trans (leadW_met (l := ol) (by rw [List.getElem?_eq_getElem (by omega), ho])))
      have hsl := sl_some
      have K1 := Lib.hid k1
      have K2 := Lib.hid k2
      have K3 := Lib.hid k3
      have K4 := Lib.hid k4
      have K5 := Lib.hid k5
      have KX := Lib.hid kx
      have K6 := Lib.hid k6
      have K7 := Lib.hid k7
      have K9 := Lib.hid k9
      clear k1 k2 k3 k4 k5 kx k6 k7 k9 ev eg ho hwy hW hbp hbm h7 hb1 hb2 hw' hrw hl hm
      gi_wp2
      repeat (refine ⟨fun _ h => (by cases h), ?_⟩; gi_wp2)
      refine ⟨KeepsFrom.refl _ _, Keep.refl _ _, vs, qv, ?_⟩
      rw [HE.out]
      exact ⟨K1.out, K2.out, K3.out, K4.out, K5.out, KX.out, K6.out, K7.out, k8, K9.out⟩
    | none =>
      rw [ho] at ev
      have ev' : vs[to] = .slice none 0 0 := ev
      rw [ev'] at c8
      have cm := k5.cell 0
      have lm := k5.lt
      simp only [List.getElem?_cons_zero] at cm
      have hsl := sl_nil
      have hm' := hm i to W hi hto (Below.trans hu k7)
      rw [Array.append_assoc] at hm'
      have HM := Lib.hid hm'
      clear hm'
      have HO := Lib.hid ho
      have K1 := Lib.hid k1
      have K2 := Lib.hid k2
      have K3 := Lib.hid k3
      have K4 := Lib.hid k4
      have K5 := Lib.hid k5
      have KX := Lib.hid kx
      have K6 := Lib.hid k6
      have K7 := Lib.hid k7
      have K9 := Lib.hid k9
      clear k1 k2 k3 k4 k5 kx k6 k7 k9 ev ev' ho hwy hW hbp hbm h7 hb1 hb2 hw' hrw hl hm
      gi_wp2_with fail
      repeat (refine ⟨fun _ h => (by cases h), ?_⟩; gi_wp2_with fail)
      refine ⟨trivial, (CallsIn.inRound l (callsIn_wide.2 HM.out)).mono ?_⟩
      rintro e W2 ⟨rfl, u2⟩
      have V2 := Lib.hid u2
      have z2 := u2.size
      cases hy : may i to with
      | false =>
        have HE := Lib.hid (HS.out.trans (leadW_not hy))
        clear u2 HM hy
        gi_wp2_with fail
        repeat (refine ⟨fun _ h => (by cases h), ?_⟩; gi_wp2_with fail)
        refine ⟨KeepsFrom.of_up V2.out, Keep.of_below V2.out (fun k hk => by omega), vs, qv, ?_⟩
        rw [HE.out]
        exact ⟨K1.out.up V2.out, K2.out.up V2.out, K3.out, K4.out.up V2.out, K5.out.up V2.out, KX.out.up V2.out, K6.out.up V2.out, Below.trans K7.out (V2.out.mono (Nat.le_trans hns K7.out.size)), by omega, K9.out⟩
      | true =>
        have HE := Lib.hid (HS.out.trans (leadW_new (by rw [List.getElem?_eq_getElem (by omega), HO.out]) hy))
        have c6 := (K6.out.up u2).cell 0
        have l6 := (K6.out.up u2).lt
        have ll := K3.out
        have HRW : Hid (∀ {X}, Up W X → Row X pw 1 (ints (way.getD []))) := fun {X} u => by
          obtain ⟨p', e1, e2⟩ := (K2.out.up u).row
          simp only [Value.slice.injEq] at e1
          rw [e1.1]; exact e2
        simp only [List.getElem?_cons_zero] at c6
        clear u2 HM hy c8 hsl cm lm
        gi_wp2_with fail
        refine ⟨trivial, (CallsIn.inRound l (callsIn_wide.2 (longer_c pw (way.getD []) _ i W2 (HRW.out V2.out) (by omega)))).mono ?_⟩
        rintro e W3 ⟨g, rfl, hge, hgb, u3⟩
        have U3 := Lib.hid (Up.trans V2.out u3)
        have J1 := Lib.hid (K1.out.up U3.out)
        have GB := Lib.hid hgb
        have lg := hgb.lt
        have b8 := J1.out.b8
        have c8 := b8.cell to
        rw [List.getElem?_eq_getElem (by omega)] at c8
        have f8 := b8.free to
        have l8' := b8.lt
        have HQ := Lib.hid ((J1.out.que.other (J1.out.que.ne b8 (by decide)) (.slice (some ⟨g, 0, none⟩) ((way.getD []).length + 1) ((way.getD []).length + 1)) (a := ⟨B8, to, none⟩)))
        have br := J1.out.br
        have e8 : Br ≠ B8 := br.ne b8 (by decide)
        have cr := (br.other (a := ⟨B8, to, none⟩) e8 (.slice (some ⟨g, 0, none⟩) ((way.getD []).length + 1) ((way.getD []).length + 1))).cell 0
        simp only [List.getElem?_cons_zero] at cr
        have lr := br.lt
        have few := J1.out.few
        have J1n : w0.heap.size ≤ W3.heap.size := Nat.le_trans (Nat.le_trans hns K7.out.size) U3.out.size
        clear b8 br hgb u3 HRW c6 e8
        obtain ⟨i0, hi0, hz0, hz1, hz2⟩ := info_parts info3
        gi_wp2_with (gi_at_builtin; refine wpListIn_append_que _ rfl _ _ 25 rfl w0.heap.size i0 Tryz.underlying25 hi0 hz0 hz1 hz2 qv st.2 rfl (HQ.out.alloc _) W3.heap.size 0 _ (to : Int) rfl ((Blk.new' _ [.int .i64 to] _ (by simp)).cell 0) (by omega) (by simp; omega) ?_; intro v' w5 hq5 hgr ho5; obtain ⟨pa', na', ca', rfl⟩ := hq5.slice; have hb5 : Blk w5 Br [qv] 25 := Blk.grown ((J1.out.br.other (J1.out.br.ne J1.out.b8 (by decide)) _).alloc _) hgr (fun e => J1.out.que.ne J1.out.br (by decide) e.symm); have c5 := hb5.cell 0; have f5 := hb5.free 0; have l5 := hb5.lt; simp only [List.getElem?_cons_zero] at c5; have HQ5 := Lib.hid hq5; have HG5 := Lib.hid hgr; have HO5 := Lib.hid ho5; clear hq5 hgr ho5 hb5)
        repeat (refine ⟨fun _ h => (by cases h), ?_⟩; gi_wp2_with fail)
        have hn' : st.1[to]? = some none := by rw [List.getElem?_eq_getElem (by omega), HO.out]
        have hgn : w0.heap.size ≤ g := by have := K7.out.size; omega
        have hgo : qv.ownBlock ≠ some g := fun e => by have := K1.out.que.own_lt g e; omega
        have hll : (way.getD [] ++ [(i : Int)]).length = (way.getD []).length + 1 := by simp
        have hsize : ((W3.setCell ⟨B8, to, none⟩ (.slice (some ⟨g, 0, none⟩) ((way.getD []).length + 1) ((way.getD []).length + 1))).alloc (.cells #[.int .i64 (to : Int)] 3)).heap.size = W3.heap.size + 1 := by simp
        have ho5 := HO5.out
        rw [hsize] at ho5
        have hw3 : W.heap.size ≤ W3.heap.size := U3.out.size
        have hadd := J1.out.added to8 hn' g (way.getD [] ++ [(i : Int)]) (by omega) GB.out hgn hgo (by omega) (to : Int) (vn := .slice (some ⟨g, 0, none⟩) ((way.getD []).length + 1) ((way.getD []).length + 1)) (by rw [hll]) HQ5.out HG5.out ho5
        have hns5 := nones_set (l := way.getD [] ++ [(i : Int)]) hn'
        have fr : ∀ {B cs T}, Blk W3 B cs T → T ≠ 3 → B ≠ B8 → B ≠ Br → Blk (w5.setCell ⟨Br, 0, none⟩ (.slice pa' na' ca')) B cs T := fun hB ht h1 h2 => J1.out.far HG5.out hB h1 h2 (J1.out.que.ne hB ht)
        refine ⟨?_, ?_, vs.set to (.slice (some ⟨g, 0, none⟩) ((way.getD []).length + 1) ((way.getD []).length + 1)), .slice pa' na' ca', ?_⟩
        · exact (((KeepsFrom.of_up U3.out).trans ((KeepsOthers.setCell _ _ _).from _)).trans (KeepsFrom.of_up (by (repeat (first | exact Below.refl _ _ | (with_reducible refine Below.drewN' ?_ _) | (with_reducible refine Below.drew ?_) | (with_reducible refine Below.setCell ?_ (by first | exact Nat.le_refl _ | omega | (with_reducible (repeat (first | refine sz_alloc ?_ | refine sz_setCell ?_ | refine sz_drew ?_ | refine sz_drewN ?_)); first | exact Nat.le_refl _ | omega) | (simp only [World.size_alloc, World.size_setCell, World.size_drew, size_drewN']; omega)) _) | (with_reducible refine Below.alloc ?_ (by first | exact Nat.le_refl _ | omega | (with_reducible (repeat (first | refine sz_alloc ?_ | refine sz_setCell ?_ | refine sz_drew ?_ | refine sz_drewN ?_)); first | exact Nat.le_refl _ | omega) | (simp only [World.size_alloc, World.size_setCell, World.size_drew, size_drewN']; omega)) _) | assumption))))).trans ((KeepsFrom.of_que (HQ.out.alloc _) HG5.out).trans ((KeepsOthers.setCell _ _ _).from _))
        · refine (Keep.of_below U3.out (fun k hk => by omega)).trans ((Keep.setCell _ W3 ⟨B8, to, none⟩ _ (fun hk => by change B8 < _ ∨ B8 = _ at hk; omega)).trans (Keep.trans (Keep.of_below (B := W3.heap.size) (by (repeat (first | exact Below.refl _ _ | (with_reducible refine Below.drewN' ?_ _) | (with_reducible refine Below.drew ?_) | (with_reducible refine Below.setCell ?_ (by first | exact Nat.le_refl _ | omega | (with_reducible (repeat (first | refine sz_alloc ?_ | refine sz_setCell ?_ | refine sz_drew ?_ | refine sz_drewN ?_)); first | exact Nat.le_refl _ | omega) | (simp only [World.size_alloc, World.size_setCell, World.size_drew, size_drewN']; omega)) _) | (with_reducible refine Below.alloc ?_ (by first | exact Nat.le_refl _ | omega | (with_reducible (repeat (first | refine sz_alloc ?_ | refine sz_setCell ?_ | refine sz_drew ?_ | refine sz_drewN ?_)); first | exact Nat.le_refl _ | omega) | (simp only [World.size_alloc, World.size_setCell, World.size_drew, size_drewN']; omega)) _) | assumption))) (fun k hk => by omega)) ((Keep.of_grown HG5.out (fun k hk => ⟨by rw [hsize]; omega, fun e => ?_⟩)).trans (Keep.setCell _ _ _ _ (fun hk => by (try simp only at hk); omega)))))
          rcases hk with hk | hk
          · have := (J1.out.que.own_lt k e).1; omega
          · subst hk; exact K9.out e
        · rw [HE.out]
          refine ⟨hadd, WayIs.far J1.out HG5.out ho5 (K2.out.up U3.out), by dsimp only; omega, fr (K4.out.up U3.out) (by decide) (by have := K4.out.ne K1.out.b8 (by decide); exact this) (K4.out.ne K1.out.br (by decide)), fr (K5.out.up U3.out) (by decide) (K5.out.ne K1.out.b8 (by decide)) (K5.out.ne K1.out.br (by decide)), fr (KX.out.up U3.out) (by decide) nbx (KX.out.ne K1.out.br (by decide)),
            fr (K6.out.up U3.out) (by decide) (by omega) (by omega), ?_, ?_, ?_⟩
          · refine Below.setCell ?_ (by simp only; omega) _
            refine Below.grown (Below.alloc (Below.setCell (Below.trans K7.out (U3.out.mono (Nat.le_trans hns K7.out.size))) (by simp only; omega) _) (by simp; omega) _) HG5.out (by rw [hsize]; omega) (fun k e => (J1.out.que.own_lt k e).1)
          · have := HG5.out.size
            rw [hsize] at this
            simp only [World.size_setCell]
            omega
          · intro e
            rcases ho5 with h1 | ⟨j, h1, h2⟩
            · exact K9.out (h1 ▸ e)
            · rw [h1] at e
              simp only [Option.some.injEq] at e
              omega
  case done =>
    rintro D ys W hD rfl ⟨vs, qv, k1, k2, k3, k4, k5, kx, k6, k7, k8, k9⟩ hK
    gi_wp2_with fail
    refine leaves_marks [D] _ (by simp) (fun D' hD' => by rw [List.mem_singleton.1 hD']; exact hK) (fun w' hg => ?_)
    have ho : OwnStep W w' := ⟨some D, ⟨hg.os, hg.tape, hg.output, by rw [hg.size]; exact Nat.le_refl _, fun k _ hk => hg.block k (fun h => hk (by rw [List.mem_singleton.1 h]))⟩, fun r e => by
      simp only [Option.some.injEq] at e
      subst e
      exact ⟨_, hK, rfl⟩⟩
    refine ⟨.tuple #[], ?_, rfl, Below.trans k7 (hg.below _ (fun D' hD' => by rw [List.mem_singleton.1 hD']; omega)), k4.own ho, k5.own ho, kx.own ho, vs, qv, k1.own ho⟩
    exact results_none rfl _ _ _
  case stop =>
    rintro D c pre' W _ _ h
    exact h.elim
end
end Go.Proofs.YtknaajofcbenaaaGreat
