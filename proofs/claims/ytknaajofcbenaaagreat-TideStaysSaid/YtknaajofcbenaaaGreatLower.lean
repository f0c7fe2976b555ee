import Derived.Test.YtknaajofcbenaaaGreatBase
import Derived.Test.YtknaajofcbenaaaGreatHeight
import Derived.Test.YtknaajofcbenaaaGreatChk2
import Derived.Test.YtknaajofcbenaaaGreatCheck
import Derived.Test.YtknaajofcbenaaaGreatOn
import Derived.Test.YtknaajofcbenaaaGreatStep
import Derived.Test.YtknaajofcbenaaaGreatRound
import Derived.WalkKit
import Derived.WalkSpells
import Derived.WalkLawsBesides
import Derived.Deep.QuietTactic
import Derived.BigQuiet
import Derived.Lib.Hide
import Derived.Shelf.Abstract
import Derived.BigGuardPart
import Derived.RangeFuncNested
import Derived.RangeFuncBound
import Derived.RangeFuncCalls
import Derived.RangeFuncLeaves
import Derived.Shelf.RegionOpen
import Derived.OwnWalkIn
import Derived.TacticsInMore
import Derived.LoopNIn
import Derived.LoopIn
import Derived.StillTailTactics
import Derived.Deep.RegionHeld3
import Derived.StillTail
import Derived.RangeFuncWrites
namespace Go.Proofs.YtknaajofcbenaaaGreat
open Go.RowKit Go.Shelf
attribute [local go_sem] Oper.semAt_some

theorem SandsAt.sills_lt {w : World} {b : Nat} {s : Sd} {pT pF pS : Option Addr} {cT cF cS : Nat} (hw : SandsAt w b 0 s pT pF pS cT cF cS) (h : 0 < s.sills.length) {b' off : Nat} (e : pS = some ⟨b', off, none⟩) : b' < w.heap.size := by
  obtain ⟨b2, off2, e2, c, -⟩ := hw.rs.triple 0 h
  rw [e] at e2
  obtain ⟨rfl, rfl⟩ : b' = b2 ∧ off = off2 := by simpa using e2
  exact cell_lt c
theorem mixed : Tryz.prog.follows .mixedOrders = true := by kernel_rfl

theorem KeepsFrom.of_up {B : Nat} {w w' : World} (h : Up w w') : KeepsFrom B w w' :=
  ⟨h.size, fun k _ _ hk _ => (h.block k (Array.getElem?_eq_some_iff.1 hk).1).trans hk⟩
theorem Blk.grown {w w' : World} {B : Nat} {cs : List Value} {T : TypeId} {row : Option Nat} (h : Blk w B cs T) (hg : w.grownBy w' row) (hne : some B = row → False) : Blk w' B cs T :=
  (hg.block B h.lt hne).trans h

theorem on_stops (n : Nat) (hn : 1 ≤ n) (S : Nat → Prop) (b1 b2 bw : Nat) (p : Option Addr) (c : Nat) (sl : List (Int × Int × Int)) (nF : Nat) (f : Int) (hg : goodSills sl nF) (hm : sl.length ≤ maxLen) (w : World)
    (hS : ∀ k, S k → k < w.heap.size) (hb2 : S b2) (hbs : 0 < sl.length → ∀ b off, p = some ⟨b, off, none⟩ → S b)
    (h1 : w.cell? ⟨b1, 0, none⟩ = some (.pointer (some ⟨bw, 0, none⟩))) (h2 : w.cell? ⟨b2, 0, none⟩ = some (.int .i64 f)) (h4 : w.cell? ⟨bw, 4, none⟩ = some (.slice p sl.length c)) (hr : Row w p 3 (triples sl)) :
    SeqStopsK Fence.wide n Tryz.prog 144 #[.pointer (some ⟨b1, 0, none⟩), .pointer (some ⟨b2, 0, none⟩)] (fun x : Lead sl.length nF => #[Value.int .i64 (x.1.1 : Int), Value.int .i64 (x.1.2 : Int)]) (Keep S)
      (fun ys => ys = leads sl nF f sl.length) (fun _ => True) sl.length w := fun l J Jx W hW hJ _ hY h0 =>
  on1_c n hn S l b1 b2 bw p c sl nF f hg hm J Jx hY W (fun s W o hs => hJ s W _ none hs (World.grownBy_alloc W o none) (fun r e => by cases e)) (fun k hk => Nat.lt_of_lt_of_le (hS k hk) hW.size) hb2 hbs
    (Up.cellAt hW h1) (Up.cellAt hW h2) (Up.cellAt hW h4) (hr.up hW) h0

theorem en_on1 : Enters Tryz.prog 144 := enters_of Tryz.func144 (by kernel_rfl) rfl

/-- gates are kept as a list of eight numbers -/
def low1 (s : Sd) (g : List Int) (x : Lead s.sills.length s.floors.length) : List Int :=
  g.set x.1.2 (min (g[x.1.2]?.getD 0) (grt [(s.sills[x.1.1]'x.2.1).2.2, s.floors[x.1.2]'x.2.2]))
def low2 (s : Sd) (f : Nat) (g : List Int) (x : Lead s.sills.length s.floors.length) : List Int :=
  g.set x.1.2 (min (g[x.1.2]?.getD 0) (grt [g[f]?.getD 0, grt [(s.sills[x.1.1]'x.2.1).2.2, s.floors[x.1.2]'x.2.2]]))
def lowSea (s : Sd) (g : List Int) : List Int := (leads s.sills s.floors.length (-1) s.sills.length).foldl (low1 s) g
def lowFrom (s : Sd) (g : List Int) (f : Nat) : List Int := (leads s.sills s.floors.length f s.sills.length).foldl (low2 s f) g
def lowered (s : Sd) (g : List Int) : List Int := (List.range s.floors.length).foldl (lowFrom s) (lowSea s g)

theorem low1_len (s : Sd) (l : List (Lead s.sills.length s.floors.length)) (g : List Int) (h : g.length = 8) : (l.foldl (low1 s) g).length = 8 := by
  induction l generalizing g with
  | nil => exact h
  | cons x r ih => exact ih _ (by simp [low1, h])
theorem low2_len (s : Sd) (f : Nat) (l : List (Lead s.sills.length s.floors.length)) (g : List Int) (h : g.length = 8) : (l.foldl (low2 s f) g).length = 8 := by
  induction l generalizing g with
  | nil => exact h
  | cons x r ih => exact ih _ (by simp [low2, h])

theorem lowFroms_len (s : Sd) (l : List Nat) (g : List Int) (h : g.length = 8) : (l.foldl (lowFrom s) g).length = 8 := by
  induction l generalizing g with
  | nil => exact h
  | cons x r ih => exact ih _ (low2_len _ _ _ _ h)

def gcells (g : List Int) : List Value := g.map (Value.int .i64)

/-- the marks that ranges over functions leave behind -/
def marks (Ds : List Nat) : List Deferred := Ds.map fun D => { target := .collected D, args := #[] }

/-- w' is w, but for the blocks of a list -/
structure Gone (Ds : List Nat) (w w' : World) : Prop where
  os : w'.os = w.os
  tape : w'.tape = w.tape
  output : w'.output = w.output
  size : w'.heap.size = w.heap.size
  block : ∀ k, k ∉ Ds → w'.heap[k]? = w.heap[k]?
theorem Gone.blk {Ds : List Nat} {w w' : World} {B : Nat} {cs : List Value} {T : TypeId} (h : Gone Ds w w') (hb : Blk w B cs T) (hB : B ∉ Ds) : Blk w' B cs T := (h.block B hB).trans hb
theorem Gone.below {Ds : List Nat} {w w' : World} (h : Gone Ds w w') (B : Nat) (hB : ∀ D ∈ Ds, B ≤ D) : Below B w w' :=
  ⟨h.os, h.tape, h.output, by rw [h.size]; exact Nat.le_refl _, fun k hk => h.block k (fun hin => by have := hB k hin; omega)⟩
theorem leaves_marks {F : Fence} {n : Nat} {P : Program} {fn : Func} {tmps : Array Value} {R : Ending → World → Prop} : ∀ (Ds : List Nat) (w : World), Ds.Nodup → (∀ D ∈ Ds, w.heap[D]? = some (.deferred (some []))) →
    (∀ w', Gone Ds w w' → LeavesInM F n P fn tmps R [] .returning w') → LeavesInM F n P fn tmps R (marks Ds) .returning w
  | [], w, _, _, h => h w ⟨rfl, rfl, rfl, rfl, fun _ _ => rfl⟩
  | D :: r, w, hn, hd, h => by
    obtain ⟨hn1, hn2⟩ := List.nodup_cons.1 hn
    refine ⟨by simp, .inl ⟨D, _, rfl, run_takeDeferred (hd D (by simp)), leaves_marks r _ hn2 (fun D' hD' => ?_) (fun w' hg => h w' ?_)⟩⟩
    · exact (World.putObj_heap_other (fun e => hn1 (by rw [← e]; exact hD'))).trans (hd D' (by simp [hD']))
    · refine ⟨hg.os, hg.tape, hg.output, hg.size.trans (by simp), fun k hk => ?_⟩
      rw [List.mem_cons, not_or] at hk
      exact (hg.block k hk.2).trans (World.putObj_heap_other hk.1)

set_option maxRecDepth 100000 in
set_option maxHeartbeats 2000000 in
theorem lowered_c (bw : Nat) (s : Sd) (w : World) (pT pF pS : Option Addr) (cT cF cS : Nat) (hw : SandsAt w bw 0 s pT pF pS cT cF cS) (m2 : s.floors.length ≤ 8) (m3 : s.sills.length ≤ 16) (hg : goodSills s.sills s.floors.length) (g : List Int) (hl : g.length = 8) :
    Calls Tryz.prog 142 #[.pointer (some ⟨bw, 0, none⟩), .agg (gcells g).toArray] w fun e w' => e = .returned (.agg (gcells (lowered s g)).toArray) ∧ Up w w' := by
  obtain ⟨g0, g1, g2, g3, g4, g5, g6, g7, rfl⟩ : ∃ a b c d e f h i, g = [a, b, c, d, e, f, h, i] := by
    match g, hl with
    | [a, b, c, d, e, f, h, i], _ => exact ⟨a, b, c, d, e, f, h, i, rfl⟩
  refine callsIn_wide (n := 9).1 ?_
  refine callsIn_of_wp_marks Tryz.func142 rfl trivial ?_ rfl
  simp only [gcells, List.map_cons, List.map_nil, Tryz.ntmps142, List.size_toArray, List.length_cons, List.length_nil, Nat.reduceAdd, Nat.reduceSub, Array.replicate_succ, Array.replicate_zero, List.push_toArray, List.append_toArray, List.nil_append, List.cons_append]
  gi_wp2_with (refine ⟨trivial, ?_⟩; gi_at_call 123; refine (callsIn_wide.2 (on_c _ _ _)).mono ?_; rintro e w' ⟨rfl, rfl⟩)
  obtain ⟨w0, hw0⟩ : ∃ w0, (((((w.alloc (.cells #[.pointer (some ⟨bw, 0, none⟩)] 106)).alloc (.cells #[.int .i64 g0, .int .i64 g1, .int .i64 g2, .int .i64 g3, .int .i64 g4, .int .i64 g5, .int .i64 g6, .int .i64 g7] 128)).alloc
    (.cells #[.int .i64 0, .int .i64 0, .int .i64 0, .int .i64 0, .int .i64 0, .int .i64 0, .int .i64 0, .int .i64 0] 128)).alloc (.cells #[.pointer (some ⟨bw, 0, none⟩)] 106)).alloc (.cells #[.int .i64 (-1)] 3)) = w0 := ⟨_, rfl⟩
  have hsz0 : w0.heap.size = w.heap.size + 5 := by rw [← hw0]; simp
  have hu0 : Up w w0 := by rw [← hw0]; (repeat (first | exact Below.refl _ _ | (with_reducible refine Below.drewN' ?_ _) | (with_reducible refine Below.drew ?_) | (with_reducible refine Below.setCell ?_ (by first | exact Nat.le_refl _ | omega | (with_reducible (repeat (first | refine sz_alloc ?_ | refine sz_setCell ?_ | refine sz_drew ?_ | refine sz_drewN ?_)); first | exact Nat.le_refl _ | omega) | (simp only [World.size_alloc, World.size_setCell, World.size_drew, size_drewN']; omega)) _) | (with_reducible refine Below.alloc ?_ (by first | exact Nat.le_refl _ | omega | (with_reducible (repeat (first | refine sz_alloc ?_ | refine sz_setCell ?_ | refine sz_drew ?_ | refine sz_drewN ?_)); first | exact Nat.le_refl _ | omega) | (simp only [World.size_alloc, World.size_setCell, World.size_drew, size_drewN']; omega)) _) | assumption))
  have hP : Blk w0 w.heap.size [.pointer (some ⟨bw, 0, none⟩)] 106 := by rw [← hw0]; exact ((((Blk.new w _ _).alloc _).alloc _).alloc _).alloc _
  have hG : Blk w0 (w.heap.size + 1) (gcells [g0, g1, g2, g3, g4, g5, g6, g7]) 128 := by rw [← hw0]; exact (((Blk.new' _ (gcells [g0, g1, g2, g3, g4, g5, g6, g7]) _ (by simp)).alloc _).alloc _).alloc _
  have hR : Blk w0 (w.heap.size + 1 + 1) (gcells [0, 0, 0, 0, 0, 0, 0, 0]) 128 := by rw [← hw0]; exact ((Blk.new' _ (gcells [0, 0, 0, 0, 0, 0, 0, 0]) _ (by simp)).alloc _).alloc _
  have hb1 : Blk w0 (w.heap.size + 1 + 1 + 1) [.pointer (some ⟨bw, 0, none⟩)] 106 := by rw [← hw0]; exact (Blk.new' _ [.pointer (some ⟨bw, 0, none⟩)] _ (by simp)).alloc _
  have hb2 : Blk w0 (w.heap.size + 1 + 1 + 1 + 1) [.int .i64 (-1)] 3 := by rw [← hw0]; exact Blk.new' _ [.int .i64 (-1)] _ (by simp)
  rw [hw0]
  clear hw0
  have hw' := hw.up hu0
  refine wpIn_rangeFunc_ownG rfl (by decide) (gf := 144) (lb := #[.pointer (some ⟨w.heap.size + 1 + 1 + 1, 0, none⟩), .pointer (some ⟨w.heap.size + 1 + 1 + 1 + 1, 0, none⟩)]) rfl trivial en_on1
    (on_stops 8 (by decide) (fun k => k < w.heap.size ∨ k = w.heap.size + 4) (w.heap.size + 1 + 1 + 1) (w.heap.size + 1 + 1 + 1 + 1) bw pS cS s.sills s.floors.length (-1) hg (by simp [maxLen]; omega) w0
      (fun k hk => by omega) (by right; rfl) (fun h b off e => Or.inl (hw.sills_lt h e)) (hb1.cell 0) (hb2.cell 0) hw'.s4 hw'.rs) Keep.trans (keepK_b (fun k hk => by omega)) (Below.refl _ _) (fun _ => rfl)
    (fun pre W => Blk W w.heap.size [.pointer (some ⟨bw, 0, none⟩)] 106 ∧ Blk W (w.heap.size + 1) (gcells (pre.foldl (low1 s) [g0, g1, g2, g3, g4, g5, g6, g7])) 128 ∧ Blk W (w.heap.size + 1 + 1) (gcells [0, 0, 0, 0, 0, 0, 0, 0]) 128 ∧ Below w.heap.size w W ∧ w.heap.size + 5 ≤ W.heap.size)
    (fun _ _ _ => False) (fun pre A B row h hgr hr => ⟨h.1.grown hgr (fun e => by have := (hr _ e.symm).1; omega), h.2.1.grown hgr (fun e => by have := (hr _ e.symm).1; omega), h.2.2.1.grown hgr (fun e => by have := (hr _ e.symm).1; omega), h.2.2.2.1.grown hgr h.2.2.2.1.size (fun k e => by have := (hr _ e).1; omega), Nat.le_trans h.2.2.2.2 hgr.size⟩) (fun _ _ _ _ _ hs _ _ => hs) ⟨hP, hG, hR, hu0, by omega⟩
    (fun x => { tmps := #[.pointer (some ⟨bw, 0, none⟩), .agg #[.int .i64 g0, .int .i64 g1, .int .i64 g2, .int .i64 g3, .int .i64 g4, .int .i64 g5, .int .i64 g6, .int .i64 g7], .pointer (some ⟨w.heap.size, 0, none⟩), .pointer (some ⟨w.heap.size + 1, 0, none⟩), .pointer (some ⟨w.heap.size + 1 + 1, 0, none⟩),
      .int .i64 (x.1.1 : Int), .int .i64 (x.1.2 : Int), undef, undef, undef, .pointer (some ⟨bw, 0, none⟩), .func (.func 144) #[] #[.pointer (some ⟨w.heap.size + 1 + 1 + 1, 0, none⟩), .pointer (some ⟨w.heap.size + 1 + 1 + 1 + 1, 0, none⟩)],
      .int .i64 (x.1.1 : Int), .int .i64 (x.1.2 : Int), undef, undef, undef, undef, undef, undef, undef, undef, undef, undef, undef, undef, undef, undef, undef, undef, undef, undef, undef, undef, undef, undef, undef, undef, undef, undef, undef, undef, undef, undef, undef, undef, undef, undef, undef, undef, undef, undef, undef, undef, undef], defers := [] }) ?assign ?body ?done ?stop
  case assign =>
    intro l x W K hK
    gi_wp2
    exact hK
  case body =>
    rintro l pre x W ⟨h1, h2, h3, h4, h5⟩ _
    obtain ⟨⟨i, to⟩, hi, hto⟩ := x
    dsimp only at hi hto ⊢
    obtain ⟨gl, hgl⟩ : ∃ gl, pre.foldl (low1 s) [g0, g1, g2, g3, g4, g5, g6, g7] = gl := ⟨_, rfl⟩
    have hlen : gl.length = 8 := by rw [← hgl]; exact low1_len _ _ _ rfl
    rw [hgl] at h2
    have hto8 : to < gl.length := by omega
    have c2 : W.cell? ⟨w.heap.size + 1, to, none⟩ = some (.int .i64 gl[to]) := by rw [h2.cell to]; simp [gcells, hto8]
    have f2 := h2.free to
    have c1 := h1.cell 0
    simp only [List.getElem?_cons_zero] at c1
    have l2 := h2.lt
    have b1 : (0 : Int) ≤ to := by omega
    have b2 : (to : Int) < 8 := by omega
    obtain ⟨v, hv⟩ : ∃ v, grt [s.sills[i].2.2, s.floors[to]] = v := ⟨_, rfl⟩
    have hst : ∀ W', Up W W' → Calls Tryz.prog 92 #[.pointer (some ⟨bw, 0, none⟩), .int .i64 i, .int .i64 to] W' fun e w' => e = .returned (.int .i64 v) ∧ Up W' w' := fun W' u =>
      hv ▸ step_c bw s W' pT pF pS cT cF cS ((hw.up h4).up u) (by simp [maxLen]; omega) (by simp [maxLen]; omega) i to hi hto
    replace hst := Lib.hid hst
    have hgs : (pre ++ [(⟨(i, to), hi, hto⟩ : Lead s.sills.length s.floors.length)]).foldl (low1 s) [g0, g1, g2, g3, g4, g5, g6, g7] = gl.set to (min gl[to] v) := by
      rw [List.foldl_append, hgl]; simp [low1, hto8, hv]
    have HGS := Lib.hid hgs
    have H1 := Lib.hid h1
    have H2 := Lib.hid h2
    have H3 := Lib.hid h3
    have H4 := Lib.hid h4
    have HW := Lib.hid hw
    have HW' := Lib.hid hw'
    clear hgs h1 h2 h3 h4 hw hw' hP hG hR hb1 hb2 hl hgl hu0
    gi_wp2_with fail
    refine region_tail_round (fun W' => W'.cell? ⟨w.heap.size, 0, none⟩ = some (.pointer (some ⟨bw, 0, none⟩)) ∧ W'.cell? ⟨w.heap.size + 1, to, none⟩ = some (.int .i64 gl[to]) ∧ W'.frozen? ⟨w.heap.size + 1, to, none⟩ = false ∧ Up W W') 9 mixed (by kernel_rfl) (fun _ _ h => h) ⟨c1, c2, f2, (Below.refl _ _).drew⟩ (fun hHeld => ?_)
    refine wpAnyG_take 0 14 (v := ?_) rfl rfl (by kernel_rfl) (fun _ _ _ h => h) (Or.inl ⟨by rfl, ?_⟩) (by assumption) ?_
    rotate_left
    · (intro w' hSw; (try dsimp only at hSw); go_split_ands; go_simp; try with_reducible rfl)
    try simp only [List.setIfInBounds_toArray, List.set_cons_zero, List.set_cons_succ]
    refine wpAnyG_take 1 15 (v := ?_) rfl rfl (by kernel_rfl) (fun _ _ _ h => h) (Or.inl ⟨by rfl, ?_⟩) (by assumption) ?_
    rotate_left
    · (intro w' hSw; (try dsimp only at hSw); go_split_ands; go_simp; try with_reducible rfl)
    try simp only [List.setIfInBounds_toArray, List.set_cons_zero, List.set_cons_succ]
    refine wpAnyG_take 2 16 (v := ?_) rfl rfl (by kernel_rfl) (fun _ _ _ h => h) (Or.inl ⟨by rfl, ?_⟩) (by assumption) ?_
    rotate_left
    · (intro w' hSw; (try dsimp only at hSw); go_split_ands; go_simp; try with_reducible rfl)
    try simp only [List.setIfInBounds_toArray, List.set_cons_zero, List.set_cons_succ]
    refine wpAnyG_take 3 17 (v := ?_) rfl rfl (by kernel_rfl) (fun _ _ _ h => h) (Or.inl ⟨by rfl, ?_⟩) (by assumption) ?_
    rotate_left
    · (intro w' hSw; (try dsimp only at hSw); go_split_ands; go_simp; try with_reducible rfl)
    try simp only [List.setIfInBounds_toArray, List.set_cons_zero, List.set_cons_succ]
    refine wpAnyG_take 4 18 (v := ?_) rfl rfl (by kernel_rfl) (fun _ _ _ h => h) (Or.inl ⟨by rfl, ?_⟩) (by assumption) ?_
    rotate_left
    · (intro w' hSw; (try dsimp only at hSw); go_split_ands; go_simp; try with_reducible rfl)
    try simp only [List.setIfInBounds_toArray, List.set_cons_zero, List.set_cons_succ]
    refine wpAnyG_take 5 19 (v := ?_) rfl rfl (by kernel_rfl) (fun _ _ _ h => h) (Or.inl ⟨by rfl, ?_⟩) (by assumption) ?_
    rotate_left
    · (intro w' hSw; (try dsimp only at hSw); go_split_ands; go_simp; try with_reducible rfl)
    try simp only [List.setIfInBounds_toArray, List.set_cons_zero, List.set_cons_succ]
    refine wpAnyG_take 6 20 (v := ?_) rfl rfl (by kernel_rfl) (fun _ _ _ h => h) (Or.inl ⟨by rfl, ?_⟩) (by assumption) ?_
    rotate_left
    · (intro w' hSw; (try dsimp only at hSw); go_split_ands; go_simp; try with_reducible rfl)
    try simp only [List.setIfInBounds_toArray, List.set_cons_zero, List.set_cons_succ]
    refine wpAnyG_do 7 rfl (by kernel_rfl) (fun K hK => ?_)
    rw [if_pos (by rfl)]
    go_simp
    refine (hst.out _ ((Below.refl _ _).drew)).mono ?_
    rintro e w1 ⟨rfl, u1⟩
    have u1' : Up W w1 := Up.trans ((Below.refl _ _).drew) u1
    have c3 := u1'.cellAt c2
    have f3 := (u1'.frozen (p := ⟨w.heap.size + 1, to, none⟩) l2).trans f2
    have l3 := cell_lt c3
    refine hK.out _ _ ⟨u1'.cellAt c1, c3, f3, u1'⟩ (fun hHeld => ?_)
    clear hK K
    refine wpAnyG_take 8 22 (v := ?_) rfl rfl (by kernel_rfl) (fun _ _ _ h => h) (Or.inl ⟨by rfl, ?_⟩) (by assumption) ?_
    rotate_left
    · (intro w' hSw; (try dsimp only at hSw); go_split_ands; go_simp; try with_reducible rfl)
    try simp only [List.setIfInBounds_toArray, List.set_cons_zero, List.set_cons_succ]
    refine wpAnyG_tail (by kernel_rfl) ?_
    go_wp2
    all_goals
      refine ⟨(KeepsFrom.of_up u1').trans ((KeepsOthers.setCell _ _ _).from _), (Keep.of_below u1' (fun k hk => by omega)).trans (Keep.setCell _ _ _ _ (fun hk => by simp only at hk; omega)),
        (H1.out.up u1').other (by simp) _, ?_, (H3.out.up u1').other (by simp) _, (H4.out.trans (u1'.mono H4.out.size)).setCell (by simp) _, by have := u1'.size; simp; omega⟩
      have hB := (H2.out.up u1').set to
      rw [HGS.out]
      simp only [gcells, List.map_set] at hB ⊢
      refine cast (congrArg (fun x => Blk _ _ (List.set _ to (Value.int .i64 x)) _) ?_) (hB _)
      simp only [Int.min_def]
      split <;> omega
  case done =>
    rintro D ys W hD rfl ⟨h1, h2, h3, h4, h5⟩ hK
    have hq := hw.up h4
    have q3 := hq.s3
    have c1 := h1.cell 0
    simp only [List.getElem?_cons_zero] at c1
    gi_wp2_with fail
    have h2' := h2
    obtain ⟨ga, hga⟩ : ∃ ga, (leads s.sills s.floors.length (-1) s.sills.length).foldl (low1 s) [g0, g1, g2, g3, g4, g5, g6, g7] = ga := ⟨_, rfl⟩
    rw [hga] at h2'
    have hgal : ga.length = 8 := by rw [← hga]; exact low1_len _ _ _ rfl
    have hgaS : lowSea s [g0, g1, g2, g3, g4, g5, g6, g7] = ga := hga
    refine wpIn_loop (fun a' W' => ∃ (f : Nat) (Ds : List Nat) (x7 x31 x32 x33 x34 x35 x53 : Value), f ≤ s.floors.length ∧ a' = { tmps := #[.pointer (some ⟨bw, 0, none⟩), .agg #[.int .i64 g0, .int .i64 g1, .int .i64 g2, .int .i64 g3, .int .i64 g4, .int .i64 g5, .int .i64 g6, .int .i64 g7], .pointer (some ⟨w.heap.size, 0, none⟩), .pointer (some ⟨w.heap.size + 1, 0, none⟩), .pointer (some ⟨w.heap.size + 1 + 1, 0, none⟩),
      undef, undef, x7, undef, undef, .pointer (some ⟨bw, 0, none⟩), .func (.func 144) #[] #[.pointer (some ⟨w.heap.size + 1 + 1 + 1, 0, none⟩), .pointer (some ⟨w.heap.size + 1 + 1 + 1 + 1, 0, none⟩)],
      undef, undef, undef, undef, undef, undef, undef, undef, undef, undef, undef, undef, .pointer (some ⟨bw, 0, none⟩), .pointer (some ⟨bw, 0, none⟩), .pointer (some ⟨bw, 0, none⟩), .pointer (some ⟨bw, 3, none⟩), .slice pF s.floors.length cF, .int .i64 s.floors.length, .int .i64 f, x31, x32, x33, x34, x35, undef, undef, undef, undef, undef, undef, undef, undef, undef, undef, undef, undef, undef, undef, undef, undef, undef, x53, undef], defers := marks Ds } ∧
      Ds.Nodup ∧ (∀ D ∈ Ds, w.heap.size + 5 ≤ D ∧ W'.heap[D]? = some (.deferred (some []))) ∧ Blk W' w.heap.size [.pointer (some ⟨bw, 0, none⟩)] 106 ∧ Blk W' (w.heap.size + 1) (gcells ((List.range f).foldl (lowFrom s) ga)) 128 ∧ Blk W' (w.heap.size + 1 + 1) (gcells [0, 0, 0, 0, 0, 0, 0, 0]) 128 ∧ Below w.heap.size w W' ∧ w.heap.size + 5 ≤ W'.heap.size)
      (fun a' _ => s.floors.length - (intOf (a'.tmps.getD 30 undef)).toNat) ?start ?round
    case start =>
      refine ⟨0, [D], undef, undef, undef, undef, undef, undef, undef, Nat.zero_le _, rfl, by simp, fun D' hD' => ?_, h1, h2', h3, h4, h5⟩
      obtain rfl : D' = D := by simpa using hD'
      exact ⟨by omega, hK⟩
    case round =>
      clear h1 h2 h2' h3 h4 h5 hK c1 q3 hq hw' hP hG hR hb1 hb2 hga
      rintro a' W1 ⟨f, Ds, x7, x31, x32, x33, x34, x35, x53, hf, rfl, hnd, hDs, h1, h2, h3, h4, h5⟩
      by_cases hlt : f < s.floors.length
      · have c1 := h1.cell 0
        have l1 := h1.lt
        simp only [List.getElem?_cons_zero] at c1
        have H1 := Lib.hid h1
        have H2 := Lib.hid h2
        have H3 := Lib.hid h3
        have H4 := Lib.hid h4
        have HDs := Lib.hid hDs
        have HND := Lib.hid hnd
        have HW := Lib.hid hw
        clear h1 h2 h3 h4 hDs hnd hw
        gi_wp2_with (refine ⟨trivial, ?_⟩; gi_at_call 123; refine (callsIn_wide.2 (on_c _ _ _)).mono ?_; rintro e w' ⟨rfl, rfl⟩)
        obtain ⟨w2, hw2⟩ : ∃ w2, ((W1.alloc (.cells #[.int .i64 f] 3)).alloc (.cells #[.pointer (some ⟨bw, 0, none⟩)] 106)).alloc (.cells #[.int .i64 f] 3) = w2 := ⟨_, rfl⟩
        have hsz2 : w2.heap.size = W1.heap.size + 3 := by rw [← hw2]; simp
        have hu2 : Up W1 w2 := by rw [← hw2]; (repeat (first | exact Below.refl _ _ | (with_reducible refine Below.drewN' ?_ _) | (with_reducible refine Below.drew ?_) | (with_reducible refine Below.setCell ?_ (by first | exact Nat.le_refl _ | omega | (with_reducible (repeat (first | refine sz_alloc ?_ | refine sz_setCell ?_ | refine sz_drew ?_ | refine sz_drewN ?_)); first | exact Nat.le_refl _ | omega) | (simp only [World.size_alloc, World.size_setCell, World.size_drew, size_drewN']; omega)) _) | (with_reducible refine Below.alloc ?_ (by first | exact Nat.le_refl _ | omega | (with_reducible (repeat (first | refine sz_alloc ?_ | refine sz_setCell ?_ | refine sz_drew ?_ | refine sz_drewN ?_)); first | exact Nat.le_refl _ | omega) | (simp only [World.size_alloc, World.size_setCell, World.size_drew, size_drewN']; omega)) _) | assumption))
        have hF : Blk w2 W1.heap.size [.int .i64 f] 3 := by rw [← hw2]; exact ((Blk.new W1 _ _).alloc _).alloc _
        have hb1 : Blk w2 (W1.heap.size + 1) [.pointer (some ⟨bw, 0, none⟩)] 106 := by rw [← hw2]; exact (Blk.new' _ [.pointer (some ⟨bw, 0, none⟩)] _ (by simp)).alloc _
        have hb2 : Blk w2 (W1.heap.size + 1 + 1) [.int .i64 f] 3 := by rw [← hw2]; exact Blk.new' _ [.int .i64 f] _ (by simp)
        rw [hw2]
        clear hw2
        have hw2 := (HW.out.up H4.out).up hu2
        obtain ⟨gf, hgf⟩ : ∃ gf, (List.range f).foldl (lowFrom s) ga = gf := ⟨_, rfl⟩
        have hgfl : gf.length = 8 := by rw [← hgf]; exact lowFroms_len s _ _ hgal
        have h2 := H2.out
        rw [hgf] at h2
        refine wpIn_rangeFunc_ownG rfl (by decide) (gf := 144) (lb := #[.pointer (some ⟨W1.heap.size + 1, 0, none⟩), .pointer (some ⟨W1.heap.size + 1 + 1, 0, none⟩)]) rfl trivial en_on1
          (on_stops 8 (by decide) (fun k => k < w.heap.size ∨ k = W1.heap.size + 2) (W1.heap.size + 1) (W1.heap.size + 1 + 1) bw pS cS s.sills s.floors.length f hg (by simp [maxLen]; omega) w2
            (fun k hk => by omega) (by right; rfl) (fun h b off e => Or.inl (HW.out.sills_lt h e)) (hb1.cell 0) (hb2.cell 0) hw2.s4 hw2.rs) Keep.trans (keepK_b (fun k hk => by omega)) (Below.refl _ _) (fun _ => rfl)
          (fun pre W => Blk W w.heap.size [.pointer (some ⟨bw, 0, none⟩)] 106 ∧ Blk W (w.heap.size + 1) (gcells (pre.foldl (low2 s f) gf)) 128 ∧ Blk W (w.heap.size + 1 + 1) (gcells [0, 0, 0, 0, 0, 0, 0, 0]) 128 ∧ Below w.heap.size w W ∧ Blk W W1.heap.size [.int .i64 f] 3 ∧ W1.heap.size + 3 ≤ W.heap.size ∧
            (∀ D ∈ Ds, W.heap[D]? = some (.deferred (some []))))
          (fun _ _ _ => False) (fun pre A B row h hgr hr => ⟨h.1.grown hgr (fun e => by have := (hr _ e.symm).1; omega), h.2.1.grown hgr (fun e => by have := (hr _ e.symm).1; omega), h.2.2.1.grown hgr (fun e => by have := (hr _ e.symm).1; omega), h.2.2.2.1.grown hgr h.2.2.2.1.size (fun k e => by have := (hr _ e).1; omega),
            h.2.2.2.2.1.grown hgr (fun e => by have := (hr _ e.symm).1; omega), Nat.le_trans h.2.2.2.2.2.1 hgr.size, fun D hD => (hgr.block D (Array.getElem?_eq_some_iff.1 (h.2.2.2.2.2.2 D hD)).1 (fun e => by have := (hr _ e.symm).1; have := (Array.getElem?_eq_some_iff.1 (HDs.out D hD).2).1; omega)).trans (h.2.2.2.2.2.2 D hD)⟩) (fun _ _ _ _ _ hs _ _ => hs)
          ⟨H1.out.up hu2, h2.up hu2, H3.out.up hu2, H4.out.trans (hu2.mono H4.out.size), hF, by omega, fun D hD => (hu2.block D (Array.getElem?_eq_some_iff.1 (HDs.out D hD).2).1).trans (HDs.out D hD).2⟩
          (fun x => { tmps := #[.pointer (some ⟨bw, 0, none⟩), .agg #[.int .i64 g0, .int .i64 g1, .int .i64 g2, .int .i64 g3, .int .i64 g4, .int .i64 g5, .int .i64 g6, .int .i64 g7], .pointer (some ⟨w.heap.size, 0, none⟩), .pointer (some ⟨w.heap.size + 1, 0, none⟩), .pointer (some ⟨w.heap.size + 1 + 1, 0, none⟩),
            undef, undef, .pointer (some ⟨W1.heap.size, 0, none⟩), .int .i64 (x.1.1 : Int), .int .i64 (x.1.2 : Int), .pointer (some ⟨bw, 0, none⟩), .func (.func 144) #[] #[.pointer (some ⟨w.heap.size + 1 + 1 + 1, 0, none⟩), .pointer (some ⟨w.heap.size + 1 + 1 + 1 + 1, 0, none⟩)],
            undef, undef, undef, undef, undef, undef, undef, undef, undef, undef, undef, undef, .pointer (some ⟨bw, 0, none⟩), .pointer (some ⟨bw, 0, none⟩), .pointer (some ⟨bw, 0, none⟩), .pointer (some ⟨bw, 3, none⟩), .slice pF s.floors.length cF, .int .i64 s.floors.length, .int .i64 f, .bool true, .int .i64 f, .pointer (some ⟨bw, 0, none⟩), .int .i64 f, .func (.func 144) #[] #[.pointer (some ⟨W1.heap.size + 1, 0, none⟩), .pointer (some ⟨W1.heap.size + 1 + 1, 0, none⟩)], .int .i64 (x.1.1 : Int), .int .i64 (x.1.2 : Int), undef, undef, undef, undef, undef, undef, undef, undef, undef, undef, undef, undef, undef, undef, undef, x53, undef], defers := [] }) ?assign2 ?body2 ?done2 ?stop2
        case assign2 =>
          intro l x W K hK
          gi_wp2
          exact hK
        case body2 =>
          rintro l pre x W ⟨h1, h2, h3, h4, h6, h5, h7⟩ _
          obtain ⟨⟨i, to⟩, hi, hto⟩ := x
          dsimp only at hi hto ⊢
          obtain ⟨gl, hgl⟩ : ∃ gl, pre.foldl (low2 s f) gf = gl := ⟨_, rfl⟩
          have hlen : gl.length = 8 := by rw [← hgl]; exact low2_len _ _ _ _ hgfl
          rw [hgl] at h2
          have hto8 : to < gl.length := by omega
          have hf8 : f < gl.length := by omega
          have c2 : W.cell? ⟨w.heap.size + 1, to, none⟩ = some (.int .i64 gl[to]) := by rw [h2.cell to]; simp [gcells, hto8]
          have c4 : W.cell? ⟨w.heap.size + 1, f, none⟩ = some (.int .i64 gl[f]) := by rw [h2.cell f]; simp [gcells, hf8]
          have c6 := h6.cell 0
          have f2 := h2.free to
          have c1 := h1.cell 0
          simp only [List.getElem?_cons_zero] at c1 c6
          have l2 := h2.lt
          have b1 : (0 : Int) ≤ to := by omega
          have b2 : (to : Int) < 8 := by omega
          have b3 : (0 : Int) ≤ f := by omega
          have b4 : (f : Int) < 8 := by omega
          obtain ⟨v, hv⟩ : ∃ v, grt [s.sills[i].2.2, s.floors[to]] = v := ⟨_, rfl⟩
          have hst : ∀ W', Up W W' → Calls Tryz.prog 92 #[.pointer (some ⟨bw, 0, none⟩), .int .i64 i, .int .i64 to] W' fun e w' => e = .returned (.int .i64 v) ∧ Up W' w' := fun W' u =>
            hv ▸ step_c bw s W' pT pF pS cT cF cS ((HW.out.up h4).up u) (by simp [maxLen]; omega) (by simp [maxLen]; omega) i to hi hto
          replace hst := Lib.hid hst
          obtain ⟨v2, hv2⟩ : ∃ v2, grt [gl[f], v] = v2 := ⟨_, rfl⟩
          have hgr : ∀ w1, Calls Tryz.prog 125 #[.slice (some ⟨(w1 : World).heap.size, 0, none⟩) 2 2] (w1.alloc (.cells #[.int .i64 gl[f], .int .i64 v] 3)) fun e w' => e = .returned (.int .i64 v2) ∧ w1.alloc (.cells #[.int .i64 gl[f], .int .i64 v] 3) = w' := fun w1 =>
            hv2 ▸ greatest_c (some ⟨w1.heap.size, 0, none⟩) 2 [gl[f], v] _ (Row.lit w1 [gl[f], v] _) (by simp [maxLen])
          replace hgr := Lib.hid hgr
          have hgs : (pre ++ [(⟨(i, to), hi, hto⟩ : Lead s.sills.length s.floors.length)]).foldl (low2 s f) gf = gl.set to (min gl[to] v2) := by
            rw [List.foldl_append, hgl]; simp [low2, hto8, hf8, hv, hv2]
          have HGS := Lib.hid hgs
          have H1 := Lib.hid h1
          have H2 := Lib.hid h2
          have H3 := Lib.hid h3
          have H4 := Lib.hid h4
          have H6 := Lib.hid h6
          have H7 := Lib.hid h7
          clear hgs h1 h2 h3 h4 h6 h7 hl hgl hw2 hu2 hF hb1 hb2 hv hv2
          gi_wp2_with fail
          refine region_tail_round (fun W' => W'.cell? ⟨w.heap.size, 0, none⟩ = some (.pointer (some ⟨bw, 0, none⟩)) ∧ W'.cell? ⟨w.heap.size + 1, to, none⟩ = some (.int .i64 gl[to]) ∧ W'.cell? ⟨w.heap.size + 1, f, none⟩ = some (.int .i64 gl[f]) ∧ W'.cell? ⟨W1.heap.size, 0, none⟩ = some (.int .i64 f) ∧ Up W W') 14 mixed (by kernel_rfl) (fun _ _ h => h) ⟨c1, c2, c4, c6, (Below.refl _ _).drew⟩ (fun hHeld => ?_)
          refine wpAnyG_take 0 38 (v := ?_) rfl rfl (by kernel_rfl) (fun _ _ _ h => h) (Or.inl ⟨by rfl, ?_⟩) (by assumption) ?_
          rotate_left
          · (intro w' hSw; (try dsimp only at hSw); go_split_ands; go_simp; try with_reducible rfl)
          try simp only [List.setIfInBounds_toArray, List.set_cons_zero, List.set_cons_succ]
          refine wpAnyG_take 1 39 (v := ?_) rfl rfl (by kernel_rfl) (fun _ _ _ h => h) (Or.inl ⟨by rfl, ?_⟩) (by assumption) ?_
          rotate_left
          · (intro w' hSw; (try dsimp only at hSw); go_split_ands; go_simp; try with_reducible rfl)
          try simp only [List.setIfInBounds_toArray, List.set_cons_zero, List.set_cons_succ]
          refine wpAnyG_take 2 40 (v := ?_) rfl rfl (by kernel_rfl) (fun _ _ _ h => h) (Or.inl ⟨by rfl, ?_⟩) (by assumption) ?_
          rotate_left
          · (intro w' hSw; (try dsimp only at hSw); go_split_ands; go_simp; try with_reducible rfl)
          try simp only [List.setIfInBounds_toArray, List.set_cons_zero, List.set_cons_succ]
          refine wpAnyG_take 3 41 (v := ?_) rfl rfl (by kernel_rfl) (fun _ _ _ h => h) (Or.inl ⟨by rfl, ?_⟩) (by assumption) ?_
          rotate_left
          · (intro w' hSw; (try dsimp only at hSw); go_split_ands; go_simp; try with_reducible rfl)
          try simp only [List.setIfInBounds_toArray, List.set_cons_zero, List.set_cons_succ]
          refine wpAnyG_take 4 42 (v := ?_) rfl rfl (by kernel_rfl) (fun _ _ _ h => h) (Or.inl ⟨by rfl, ?_⟩) (by assumption) ?_
          rotate_left
          · (intro w' hSw; (try dsimp only at hSw); go_split_ands; go_simp; try with_reducible rfl)
          try simp only [List.setIfInBounds_toArray, List.set_cons_zero, List.set_cons_succ]
          refine wpAnyG_take 5 43 (v := ?_) rfl rfl (by kernel_rfl) (fun _ _ _ h => h) (Or.inl ⟨by rfl, ?_⟩) (by assumption) ?_
          rotate_left
          · (intro w' hSw; (try dsimp only at hSw); go_split_ands; go_simp; try with_reducible rfl)
          try simp only [List.setIfInBounds_toArray, List.set_cons_zero, List.set_cons_succ]
          refine wpAnyG_take 6 44 (v := ?_) rfl rfl (by kernel_rfl) (fun _ _ _ h => h) (Or.inl ⟨by rfl, ?_⟩) (by assumption) ?_
          rotate_left
          · (intro w' hSw; (try dsimp only at hSw); go_split_ands; go_simp; try with_reducible rfl)
          try simp only [List.setIfInBounds_toArray, List.set_cons_zero, List.set_cons_succ]
          refine wpAnyG_take 7 45 (v := ?_) rfl rfl (by kernel_rfl) (fun _ _ _ h => h) (Or.inl ⟨by rfl, ?_⟩) (by assumption) ?_
          rotate_left
          · (intro w' hSw; (try dsimp only at hSw); go_split_ands; go_simp; try with_reducible rfl)
          try simp only [List.setIfInBounds_toArray, List.set_cons_zero, List.set_cons_succ]
          refine wpAnyG_take 8 46 (v := ?_) rfl rfl (by kernel_rfl) (fun _ _ _ h => h) (Or.inl ⟨by rfl, ?_⟩) (by assumption) ?_
          rotate_left
          · (intro w' hSw; (try dsimp only at hSw); go_split_ands; go_simp; try with_reducible rfl)
          try simp only [List.setIfInBounds_toArray, List.set_cons_zero, List.set_cons_succ]
          refine wpAnyG_take 9 47 (v := ?_) rfl rfl (by kernel_rfl) (fun _ _ _ h => h) (Or.inl ⟨by rfl, ?_⟩) (by assumption) ?_
          rotate_left
          · (intro w' hSw; (try dsimp only at hSw); go_split_ands; go_simp; try with_reducible rfl)
          try simp only [List.setIfInBounds_toArray, List.set_cons_zero, List.set_cons_succ]
          refine wpAnyG_do 10 rfl (by kernel_rfl) (fun K hK => ?_)
          rw [if_pos (by rfl)]
          go_simp
          refine (hst.out _ ((Below.refl _ _).drew)).mono ?_
          rintro e w1 ⟨rfl, u1⟩
          have u1' : Up W w1 := Up.trans ((Below.refl _ _).drew) u1
          refine hK.out _ _ ⟨u1'.cellAt c1, u1'.cellAt c2, u1'.cellAt c4, u1'.cellAt c6, u1'⟩ (fun hHeld => ?_)
          clear hK K
          refine wpAnyG_do 11 rfl (by kernel_rfl) (fun K hK => ?_)
          rw [if_pos (by rfl)]
          go_simp
          have u2' : Up W (w1.alloc (.cells #[.int .i64 gl[f], .int .i64 v] 3)) := by have := u1'.size; exact u1'.alloc this _
          refine hK.out _ _ ⟨u2'.cellAt c1, u2'.cellAt c2, u2'.cellAt c4, u2'.cellAt c6, u2'⟩ (fun hHeld => ?_)
          clear hK K
          refine wpAnyG_do 12 rfl (by kernel_rfl) (fun K hK => ?_)
          rw [if_pos (by rfl)]
          go_simp
          refine (hgr.out _).mono ?_
          rintro e w3 ⟨rfl, rfl⟩
          refine hK.out _ _ ⟨u2'.cellAt c1, u2'.cellAt c2, u2'.cellAt c4, u2'.cellAt c6, u2'⟩ (fun hHeld => ?_)
          clear hK K
          have c3 := u2'.cellAt c2
          have f3 := (u2'.frozen (p := ⟨w.heap.size + 1, to, none⟩) l2).trans f2
          refine wpAnyG_take 13 51 (v := ?_) rfl rfl (by kernel_rfl) (fun _ _ _ h => h) (Or.inl ⟨by rfl, ?_⟩) (by assumption) ?_
          rotate_left
          · (intro w' hSw; (try dsimp only at hSw); go_split_ands; go_simp; try with_reducible rfl)
          try simp only [List.setIfInBounds_toArray, List.set_cons_zero, List.set_cons_succ]
          refine wpAnyG_tail (by kernel_rfl) ?_
          obtain ⟨w4, hw4⟩ : ∃ w4, w1.alloc (.cells #[.int .i64 gl[f], .int .i64 v] 3) = w4 := ⟨_, rfl⟩
          rw [hw4] at c3 f3 u2' ⊢
          clear hw4 hHeld u1 u1' hgr hst
          have l3 := cell_lt c3
          go_wp2
          all_goals
            refine ⟨(KeepsFrom.of_up u2').trans ((KeepsOthers.setCell _ _ _).from _), (Keep.of_below u2' (fun k hk => by omega)).trans (Keep.setCell _ _ _ _ (fun hk => by simp only at hk; omega)),
              (H1.out.up u2').other (by simp) _, ?_, (H3.out.up u2').other (by simp) _, (H4.out.trans (u2'.mono H4.out.size)).setCell (by simp) _, (H6.out.up u2').other (by simp only; omega) _, by have := u2'.size; simp; omega,
              fun D hD => (Below.heap_setCell _ _ _ _ (fun e => by have h8 := (HDs.out D hD).1; simp only at e; omega)).trans ((u2'.block D (Array.getElem?_eq_some_iff.1 (H7.out D hD)).1).trans (H7.out D hD))⟩
            have hB := (H2.out.up u2').set to
            rw [HGS.out]
            simp only [gcells, List.map_set] at hB ⊢
            refine cast (congrArg (fun x => Blk _ _ (List.set _ to (Value.int .i64 x)) _) ?_) (hB _)
            simp only [Int.min_def]
            split <;> omega
        case done2 =>
          rintro D2 ys W hD2 rfl ⟨h1, h2, h3, h4, h6, h5, h7⟩ hK
          gi_wp2_with fail
          refine ⟨⟨f + 1, D2 :: Ds, _, _, _, _, _, _, _, by omega, rfl, List.nodup_cons.2 ⟨fun hin => ?_, HND.out⟩, fun D hin => ?_, h1, ?_, h3, h4, by omega⟩, by simp [intOf]; omega⟩
          · have := (Array.getElem?_eq_some_iff.1 (HDs.out D2 hin).2).1
            omega
          · rcases List.mem_cons.1 hin with rfl | hin
            · exact ⟨by omega, hK⟩
            · exact ⟨(HDs.out D hin).1, h7 D hin⟩
          · rw [List.range_succ, List.foldl_append, hgf]; exact h2
        case stop2 =>
          rintro D c pre W _ _ h _
          exact h.elim
      · obtain rfl : f = s.floors.length := by omega
        obtain ⟨gl, hgl⟩ : ∃ gl, (List.range s.floors.length).foldl (lowFrom s) ga = gl := ⟨_, rfl⟩
        have hglS : lowered s [g0, g1, g2, g3, g4, g5, g6, g7] = gl := by rw [← hgl, ← hgaS]; rfl
        have hll : gl.length = 8 := by rw [← hgl]; exact lowFroms_len s _ _ hgal
        rw [hgl] at h2
        obtain ⟨a0, a1, a2, a3, a4, a5, a6, a7, rfl⟩ : ∃ a b c d e f h i, gl = [a, b, c, d, e, f, h, i] := by
          match gl, hll with
          | [a, b, c, d, e, f, h, i], _ => exact ⟨a, b, c, d, e, f, h, i, rfl⟩
        have k0 := h2.cell 0
        have k1 := h2.cell 1
        have k2 := h2.cell 2
        have k3 := h2.cell 3
        have k4 := h2.cell 4
        have k5 := h2.cell 5
        have k6 := h2.cell 6
        have k7 := h2.cell 7
        have r0 := h3.cell 0
        have r1 := h3.cell 1
        have r2 := h3.cell 2
        have r3 := h3.cell 3
        have r4 := h3.cell 4
        have r5 := h3.cell 5
        have r6 := h3.cell 6
        have r7 := h3.cell 7
        have hfr := h3.free
        have l2 := h2.lt
        have l3 := h3.lt
        simp only [gcells, List.map_cons, List.map_nil, List.getElem?_cons_zero, List.getElem?_cons_succ] at k0 k1 k2 k3 k4 k5 k6 k7 r0 r1 r2 r3 r4 r5 r6 r7
        have HGL := Lib.hid hglS
        have H3 := Lib.hid h3
        have H4 := Lib.hid h4
        have HDs := Lib.hid hDs
        have HND := Lib.hid hnd
        clear h1 h2 h3 h4 hDs hnd hw hgl hglS hgaS hl
        gi_wp2_with fail
        have hB := (((((((H3.out.set 0 (.int .i64 a0)).set 1 (.int .i64 a1)).set 2 (.int .i64 a2)).set 3 (.int .i64 a3)).set 4 (.int .i64 a4)).set 5 (.int .i64 a5)).set 6 (.int .i64 a6)).set 7 (.int .i64 a7)
        refine leaves_marks Ds _ HND.out (fun D hD => ?_) (fun w' hg => ?_)
        · have := (HDs.out D hD).1
          repeat rw [Below.heap_setCell _ _ _ _ (by simp only; omega)]
          exact (HDs.out D hD).2
        · have hB' := hg.blk hB (fun hin => by have := (HDs.out _ hin).1; omega)
          have q0 := hB'.cell 0
          have q1 := hB'.cell 1
          have q2 := hB'.cell 2
          have q3 := hB'.cell 3
          have q4 := hB'.cell 4
          have q5 := hB'.cell 5
          have q6 := hB'.cell 6
          have q7 := hB'.cell 7
          simp only [gcells, List.map_cons, List.map_nil, List.set_cons_zero, List.set_cons_succ, List.getElem?_cons_zero, List.getElem?_cons_succ] at q0 q1 q2 q3 q4 q5 q6 q7
          refine ⟨.agg #[.int .i64 a0, .int .i64 a1, .int .i64 a2, .int .i64 a3, .int .i64 a4, .int .i64 a5, .int .i64 a6, .int .i64 a7], ?_, ?_, ?_⟩
          · simp [results, Tryz.f142, go_sem, q0, q1, q2, q3, q4, q5, q6, q7]
          · rw [HGL.out]; simp
          · refine Below.trans ?_ (hg.below _ (fun D hD => by have := (HDs.out D hD).1; omega))
            have h4 := H4.out
            repeat (first | (with_reducible exact h4) | (with_reducible refine Below.setCell ?_ (by simp only; omega) _))
  case stop =>
    rintro D c pre W _ _ h _
    exact h.elim
end Go.Proofs.YtknaajofcbenaaaGreat
