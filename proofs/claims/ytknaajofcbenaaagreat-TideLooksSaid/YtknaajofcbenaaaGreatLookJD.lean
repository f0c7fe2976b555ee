/- Proved: whatever sands and looks are passed in, the law TideLooks returns true, and the arguments read behind the call as they read before it. Conditions: none but those that the given row states of itself. -/
import Derived.Test.YtknaajofcbenaaaGreatLookJB
import Derived.Test.YtknaajofcbenaaaGreatLookJC
import Derived.Test.YtknaajofcbenaaaGreatRound
import Derived.Test.YtknaajofcbenaaaGreatBase
import Derived.Test.YtknaajofcbenaaaGreatHeight
import Derived.Test.YtknaajofcbenaaaGreatChk2
import Derived.WalkKit
import Derived.WalkSpells
import Derived.WalkLawsBesides
import Derived.Deep.QuietTactic
import Derived.BigQuiet
import Derived.Lib.Hide
import Derived.Shelf.Abstract
import Derived.BigGuardPart
import Derived.RangeFuncNested
import Derived.RangeFuncBound
import Derived.RangeFuncCalls
import Derived.RangeFuncLeaves
import Derived.Shelf.RegionOpen
import Derived.OwnWalkIn
import Derived.TacticsInMore
import Derived.LoopNIn
import Derived.LoopIn
import Derived.StillTailTactics
import Derived.Deep.RegionHeld3
import Derived.StillTail
import Derived.RangeFuncWrites
import Derived.Laws.StructEq
import Derived.Deep.LoopGhost
import Derived.IntWalk
import Derived.RangeFuncBox
import Derived.ArgAppend
import Derived.Laws.CopyOwn
import Derived.OwnWalk
import Derived.Lib.SliceRun
import Derived.Maps.OwnOps
import Derived.Maps.OwnSet
import Derived.Deep.AppendSrc
import Derived.Deep.Upon
import Derived.Deep.Cut
import Derived.Deep.DeepCutAuto
import Derived.Deep.CutBlock
import Derived.Carry
import Derived.ChangeSame
import Derived.SizedLaws
import Derived.ProofKit
import Derived.OpenShut
import Derived.JoinedOf
import Derived.Deep.Slices
/- The law TideLooks returns true, of sands that are not too wide. -/
namespace Go.Proofs.YtknaajofcbenaaaGreat
open Go.RowKit Go.Shelf

theorem clashR_one {s : Sd} {l : List Lk} {r r' : List Int} {E E' : Int} (h : ClashR s l r E) (h' : ClashR s l r' E') : r = r' ∧ E = E' := by
  unfold ClashR at h h'
  by_cases hE : errLooks s l = 0
  · rw [if_pos hE] at h h'
    obtain ⟨a, rfl⟩ := h
    obtain ⟨b, rfl⟩ := h'
    obtain rfl := clash_one a b
    exact ⟨rfl, rfl⟩
  · rw [if_neg hE] at h h'
    obtain ⟨rfl, rfl⟩ := h
    obtain ⟨rfl, rfl⟩ := h'
    exact ⟨rfl, rfl⟩
theorem clash_len {s : Sd} {l : List Lk} {r : List Int} (h : ClashIs s l r) : r.length ≤ 2 := by
  rcases h with ⟨i, hi, rfl, -⟩ | ⟨-, ⟨i, j, hi, hj, -, rfl, -⟩ | ⟨rfl, -⟩⟩ <;> simp
section
variable {pT pF pS : Option Addr} {cT cF cS : Nat}
set_option maxRecDepth 100000 in
set_option maxHeartbeats 4000000 in
theorem looks_law (s : Sd) (l : List Lk) (ql : Option Addr) (dl : Nat) (w : World) (hl : Lists w s pT pF pS cT cF cS) (rl : Row w ql 3 (lrows l)) (b1 : s.table.length * 16 ≤ 140737488355328) (b2 : s.floors.length * 8 ≤ 140737488355328) (b3 : s.sills.length * 24 ≤ 140737488355328) (hw : wideB s = false) (h15 : l.length ≤ 15) :
    Calls Tryz.prog 4 #[sdVal s pT pF pS cT cF cS, .slice ql l.length dl] w fun e w' => e = .returned (.bool true) ∧ Up w w' := by
  have HO := Lib.hid (fun W (u : Up w W) => own_c s W (hl.up u) b1 b2 b3)
  have HT := Lib.hid (fun W (u : Up w W) => theirs_c s W (hl.up u) b1 b2 b3)
  have HL := Lib.hid hl
  have RA := Lib.hid rl
  have HW := Lib.hid hw
  have g1 : ¬ (15 : Int) < (l.length : Int) := by omega
  clear hl b1 b2 b3 hw rl
  unfold sdVal
  go_enter Tryz.func4, Tryz.ntmps4
  go_wp2_with fail
  refine (wide_c s _).mono ?_
  rw [HW.out]
  rintro e w1 ⟨rfl, u1⟩
  go_upto_region 3 with fail
  have hB : At5 w1 w.heap.size s pT pF pS cT cF cS := At5.of ((Blk.new w (sdCells s pT pF pS cT cF cS) 28).up u1)
  have HB := Lib.hid hB
  have U1 : Hid (Up w w1) := Up.trans (by (repeat (first | exact Below.refl _ _ | (with_reducible refine Below.drewN' ?_ _) | (with_reducible refine Below.drew ?_) | (with_reducible refine Below.setCell ?_ (by first | exact Nat.le_refl _ | omega | (with_reducible (repeat (first | refine sz_alloc ?_ | refine sz_setCell ?_ | refine sz_drew ?_ | refine sz_drewN ?_)); first | exact Nat.le_refl _ | omega) | (simp only [World.size_alloc, World.size_setCell, World.size_drew, size_drewN']; omega)) _) | (with_reducible refine Below.alloc ?_ (by first | exact Nat.le_refl _ | omega | (with_reducible (repeat (first | refine sz_alloc ?_ | refine sz_setCell ?_ | refine sz_drew ?_ | refine sz_drewN ?_)); first | exact Nat.le_refl _ | omega) | (simp only [World.size_alloc, World.size_setCell, World.size_drew, size_drewN']; omega)) _) | assumption))) u1
  have HO1 := Lib.hid (fun W (u : Up w1 W) => HO.out W (Up.trans U1.out u))
  have HT1 := Lib.hid (fun W (u : Up w1 W) => HT.out W (Up.trans U1.out u))
  have HDa := Lib.hid (fun W (u : Up w1 W) => dupLook_c l ql dl W (RA.out.up (Up.trans U1.out u)) (by omega))
  have HDb := Lib.hid (fun W (u : Up w1 W) => seen_c l ql dl W (RA.out.up (Up.trans U1.out u)) (by omega))
  clear hB u1 HO HT g1
  go_cut [5, 6, 7, 8] (fun a b va vb wx => Both w1 wx s a b ∧ RowLk wx va l ∧ RowLk wx vb l)
  case first =>
    refine region_inv3 10 (fun done a W => ∃ V : Nat → Value, a = ⟨#[.agg #[.slice pT s.table.length cT, .int .i64 s.lo, .int .i64 s.hi, .slice pF s.floors.length cF, .slice pS s.sills.length cS], .slice ql l.length dl, .pointer (some ⟨w.heap.size, 0, none⟩), undef, .bool false, V 8, V 9, undef, undef, undef, undef, undef, undef, undef, undef, undef, undef, undef, undef, undef, .agg #[.slice pT s.table.length cT, .int .i64 s.lo, .int .i64 s.hi, .slice pF s.floors.length cF, .slice pS s.sills.length cS], .bool false, .bool false, .slice ql l.length dl, .int .i64 l.length, .bool (decide ((15 : Int) < l.length)), .bool (decide ((15 : Int) < l.length)), undef, V 0, V 1, V 2, V 3, V 4, V 5, V 6, V 7, undef, undef, undef, undef, undef, undef, undef, undef, undef, undef, undef, undef, undef, undef, undef, undef, undef, undef, undef, undef, undef, undef, undef, undef, undef, undef, undef, undef, undef, undef, undef, undef, undef, undef, undef, undef, undef, undef, undef, undef, undef, undef, undef, undef, undef, undef, undef, undef, undef, undef, undef, undef, undef, undef, undef, undef, undef, undef, undef, undef, undef, undef, undef, undef, undef, undef, undef, undef, undef, undef, undef, undef, undef, undef, undef, undef, undef, undef, undef, undef, undef, undef], []⟩ ∧ Quad w1 s (.agg #[.slice pT s.table.length cT, .int .i64 s.lo, .int .i64 s.hi, .slice pF s.floors.length cF, .slice pS s.sills.length cS]) (.slice ql l.length dl) (.slice ql l.length dl) l l done W V) mixed (by kernel_rfl) ?_ ?_ ?_
    · exact ⟨_, rfl, Quad.start _ _ _ _ _ _ _⟩
    · intro done a W i o hi hd ho hall hinv
      obtain ⟨V, rfl, hC⟩ := hinv
      obtain ⟨c0, c1, c2, c3, c4⟩ := HB.out.up hC.pair.up
      have HC := Lib.hid hC
      have HA := Lib.hid hall
      clear hC hall hd
      obtain rfl | rfl | rfl | rfl | rfl | rfl | rfl | rfl | rfl | rfl : i = 0 ∨ i = 1 ∨ i = 2 ∨ i = 3 ∨ i = 4 ∨ i = 5 ∨ i = 6 ∨ i = 7 ∨ i = 8 ∨ i = 9 := by omega
      · clear ho HA
        refine wpOp_step rfl (fun K hK => ?_)
        rw [if_pos (by rfl)]
        have HK := Lib.hid hK
        clear hK
        go_simp
        exact HK.out _ _ ⟨_, rfl, HC.out.load0⟩
      · have e0 := Lib.hid (HC.out.pair.l0 (HA.out ⟨0, .data⟩ (by cases ho; simp) rfl))
        clear ho HA
        refine wpOp_step rfl (fun K hK => ?_)
        rw [if_pos (by rfl)]
        have HK := Lib.hid hK
        clear hK
        go_simp
        have hcall := HO1.out W HC.out.pair.up
        rw [show sdVal s pT pF pS cT cF cS = V 0 from e0.out.symm] at hcall
        refine hcall.mono ?_
        rintro e w2 ⟨qT, qF, qS, dT, dF, dS, rfl, h1, h2, h3⟩
        exact HK.out _ _ ⟨_, rfl, HC.out.call1 h2 h1 h3⟩
      · clear ho HA
        refine wpOp_step rfl (fun K hK => ?_)
        rw [if_pos (by rfl)]
        have HK := Lib.hid hK
        clear hK
        go_simp
        exact HK.out _ _ ⟨_, rfl, HC.out.load2⟩
      · have e0 := Lib.hid (HC.out.pair.l2 (HA.out ⟨2, .data⟩ (by cases ho; simp) rfl))
        clear ho HA
        refine wpOp_step rfl (fun K hK => ?_)
        rw [if_pos (by rfl)]
        have HK := Lib.hid hK
        clear hK
        go_simp
        have hcall := HT1.out W HC.out.pair.up
        rw [show sdVal s pT pF pS cT cF cS = V 2 from e0.out.symm] at hcall
        refine hcall.mono ?_
        rintro e w2 ⟨qT, qF, qS, dT, dF, dS, rfl, h1, h2, h3⟩
        exact HK.out _ _ ⟨_, rfl, HC.out.call3 h2 h1 h3⟩
      · clear ho HA
        refine wpOp_step rfl (fun K hK => ?_)
        rw [if_pos (by rfl)]
        have HK := Lib.hid hK
        clear hK
        go_simp
        exact HK.out _ _ ⟨_, rfl, HC.out.mv4⟩
      · have e0 := Lib.hid (HC.out.a.1 (HA.out ⟨4, .data⟩ (by cases ho; simp) rfl))
        clear ho HA
        refine wpOp_step rfl (fun K hK => ?_)
        rw [if_pos (by rfl)]
        have HK := Lib.hid hK
        clear hK
        go_simp
        have hcall := HDa.out W HC.out.pair.up
        rw [show (Value.slice ql l.length dl) = V 4 from e0.out.symm] at hcall
        refine hcall.mono ?_
        rintro e w2 ⟨q', d', rfl, m1, m2, r, hq, u⟩
        exact HK.out _ _ ⟨_, rfl, HC.out.dup5 u ⟨m1, m2⟩ r hq⟩
      · clear ho HA
        refine wpOp_step rfl (fun K hK => ?_)
        rw [if_pos (by rfl)]
        have HK := Lib.hid hK
        clear hK
        go_simp
        exact HK.out _ _ ⟨_, rfl, HC.out.mv6⟩
      · have e0 := Lib.hid (HC.out.b.1 (HA.out ⟨6, .data⟩ (by cases ho; simp) rfl))
        clear ho HA
        refine wpOp_step rfl (fun K hK => ?_)
        rw [if_pos (by rfl)]
        have HK := Lib.hid hK
        clear hK
        go_simp
        have hcall := HDb.out W HC.out.pair.up
        rw [show (Value.slice ql l.length dl) = V 6 from e0.out.symm] at hcall
        refine hcall.mono ?_
        rintro e w2 ⟨q', d', rfl, m1, m2, r, hq, u⟩
        exact HK.out _ _ ⟨_, rfl, HC.out.dup7 u ⟨m1, m2⟩ r hq⟩
      · clear ho HA
        refine wpOp_step rfl (fun K hK => ?_)
        rw [if_pos (by rfl)]
        have HK := Lib.hid hK
        clear hK
        go_simp
        exact HK.out _ _ ⟨_, rfl, HC.out.alloc8⟩
      · clear ho HA
        refine wpOp_step rfl (fun K hK => ?_)
        rw [if_pos (by rfl)]
        have HK := Lib.hid hK
        clear hK
        go_simp
        exact HK.out _ _ ⟨_, rfl, HC.out.alloc9⟩
    · rintro a W ⟨V, rfl, hC⟩
      obtain ⟨⟨u, -, -, h1, h3, h4, h5, -, -⟩, hA, hB⟩ := hC
      replace hA := hA.2 rfl
      replace hB := hB.2 rfl
      replace h1 := h1 rfl
      replace h3 := h3 rfl
      replace h4 := h4 rfl
      replace h5 := h5 rfl
      generalize V 0 = v0 at *
      generalize V 1 = v1 at *
      generalize V 2 = v2 at *
      generalize V 3 = v3 at *
      generalize V 4 = v4 at *
      generalize V 5 = v5 at *
      generalize V 6 = v6 at *
      generalize V 7 = v7 at *
      generalize V 8 = v8 at *
      generalize V 9 = v9 at *
      obtain ⟨B5, rfl, k5, n5⟩ := h4
      obtain ⟨B6, rfl, k6, n6⟩ := h5
      obtain ⟨qT, qF, qS, dT, dF, dS, rfl, l1, o1, p1⟩ := h1
      obtain ⟨rT, rF, rS, gT, gF, gS, rfl, l3, o3, p3⟩ := h3
      obtain ⟨ya, ea, rfl, ma, r1, r2, r3⟩ := hA
      obtain ⟨yb, eb, rfl, mb, t1, t2, t3⟩ := hB
      change wpList _ _ _ [_, _, _, _] _ _
      have ne : B5 ≠ B6 := k5.ne k6 (by decide)
      have HBoth : Hid (Both w1 (fill (fill W B5 s qT qF qS dT dF dS) B6 s rT rF rS gT gF gS) s (.pointer (some ⟨B5, 0, none⟩)) (.pointer (some ⟨B6, 0, none⟩))) :=
        ⟨B5, B6, qT, qF, qS, dT, dF, dS, rT, rF, rS, gT, gF, gS, rfl, rfl, fill_up (fill_up u n5 _ _ _ _ _ _ _) n6 _ _ _ _ _ _ _, fill_lists (fill_lists l1 o1 _ _ _ _ _ _) p1 _ _ _ _ _ _, fill_lists (fill_lists l3 o3 _ _ _ _ _ _) p3 _ _ _ _ _ _,
          At5.of (fill_other (fill_blk k5 _ _ _ _ _ _ _) ne _ _ _ _ _ _ _), At5.of (fill_blk (fill_other k6 (Ne.symm ne) _ _ _ _ _ _ _) _ _ _ _ _ _ _)⟩
      have HRows : Hid (RowLk (fill (fill W B5 s qT qF qS dT dF dS) B6 s rT rF rS gT gF gS) (.slice ya l.length ea) l) :=
        ⟨_, _, rfl, ma, row_fillL (row_fillL r1 r2 _ _ _ _ _ _ _) r3 _ _ _ _ _ _ _⟩
      have HRows2 : Hid (RowLk (fill (fill W B5 s qT qF qS dT dF dS) B6 s rT rF rS gT gF gS) (.slice yb l.length eb) l) :=
        ⟨_, _, rfl, mb, row_fillL (row_fillL t1 t2 _ _ _ _ _ _ _) t3 _ _ _ _ _ _ _⟩
      have y0 := k5.cell 0
      have y1 := k5.cell 1
      have y2 := k5.cell 2
      have y3 := k5.cell 3
      have y4 := k5.cell 4
      have yf := k5.free
      have x0 := k6.cell 0
      have x1 := k6.cell 1
      have x2 := k6.cell 2
      have x3 := k6.cell 3
      have x4 := k6.cell 4
      have xf := k6.free
      simp only [zero5, List.getElem?_cons_zero, List.getElem?_cons_succ] at y0 y1 y2 y3 y4 x0 x1 x2 x3 x4
      have ne' := Ne.symm ne
      clear l1 l3 o1 o3 p1 p3 k5 k6 u n5 n6 HO1 HT1 HDa HDb r1 r2 r3 t1 t2 t3 ma mb
      unfold sdVal
      dsimp only
      go_wp2_with fail
      go_meet
      exact ⟨HBoth.out, HRows.out, HRows2.out⟩
  case rest =>
    obtain ⟨⟨B5, B6, qT, qF, qS, dT, dF, dS, rT, rF, rS, gT, gF, gS, rfl, rfl, u, l5, l6, a5, a6⟩, ⟨ya, ea, rfl, ma, r1⟩, ⟨yb, eb, rfl, -, r2⟩⟩ := hcut
    have L5 := Lib.hid l5
    have L6 := Lib.hid l6
    have A5 := Lib.hid a5
    have A6 := Lib.hid a6
    have R1 := Lib.hid r1
    have R2 := Lib.hid r2
    have MA := Lib.hid ma
    have A0 := Lib.hid (HB.out.up u)
    have U0 := Lib.hid (Up.trans U1.out u)
    clear l5 l6 a5 a6 u U1 HB HO1 HT1 w1 r1 r2 HDa HDb ma
    generalize wc = wq at *
    obtain ⟨c0, c1, c2, c3, c4⟩ := A6.out
    go_wp2_with fail
    refine (refLooksError_c s l yb eb wq L6.out R2.out (by omega)).mono ?_
    rintro e x1 ⟨rfl, v1⟩
    have V1 := Lib.hid v1
    clear v1 c0 c1 c2 c3 c4
    go_upto_if 42 with fail
    have BX : Hid (Blk (x1.alloc (.cells #[.int .i64 0, .int .i64 0] 24)) x1.heap.size [.int .i64 0, .int .i64 0] 24) := Lib.hid (Blk.new x1 [.int .i64 0, .int .i64 0] _)
    have V2 : Hid (Up wq (x1.alloc (.cells #[.int .i64 0, .int .i64 0] 24))) := Lib.hid (Up.trans V1.out (by (repeat (first | exact Below.refl _ _ | (with_reducible refine Below.drewN' ?_ _) | (with_reducible refine Below.drew ?_) | (with_reducible refine Below.setCell ?_ (by first | exact Nat.le_refl _ | omega | (with_reducible (repeat (first | refine sz_alloc ?_ | refine sz_setCell ?_ | refine sz_drew ?_ | refine sz_drewN ?_)); first | exact Nat.le_refl _ | omega) | (simp only [World.size_alloc, World.size_setCell, World.size_drew, size_drewN']; omega)) _) | (with_reducible refine Below.alloc ?_ (by first | exact Nat.le_refl _ | omega | (with_reducible (repeat (first | refine sz_alloc ?_ | refine sz_setCell ?_ | refine sz_drew ?_ | refine sz_drewN ?_)); first | exact Nat.le_refl _ | omega) | (simp only [World.size_alloc, World.size_setCell, World.size_drew, size_drewN']; omega)) _) | assumption))))
    have XS := V1.out.size
    generalize (x1.alloc (.cells #[.int .i64 0, .int .i64 0] 24)) = x2 at *
    generalize x1.heap.size = X at *
    go_cut [9, 10, 11, 13, 14, 15] (fun a b c _ _ _ wx => a = .int .i64 (looksE s l) ∧ (∃ q d r E, b = .int .i64 E ∧ c = .slice q r.length d ∧ ClashR s l r E ∧ r.length ≤ maxLen ∧ Row wx q 1 (ints r)) ∧ Blk wx X [.int .i64 (looksV s l).1, .int .i64 (looksV s l).2] 24 ∧ Up wq wx)
    case first =>
      by_cases hE : errLooks s l = 0
      · obtain ⟨hc, h10, hx⟩ := errLooks_zero hE
        have OK := Lib.hid (chk_ok hc)
        have hin : ∀ x ∈ l, inDay s x.1 = true ∧ isPl s x.2.1 = true := lkErr_zero s l (by unfold errLooks at hE; rw [if_pos hc, if_neg (by omega)] at hE; exact hE)
        have hfm : ∀ x ∈ l, firstM s.table ≤ x.1 := fun x h => (hx x h).1
        have n1 : (errLooks s l == 0) = true := by rw [hE]; rfl
        obtain ⟨a, b, hab⟩ : ∃ a b, lkOf s (s.lo, s.hi) l = (a, b) := ⟨_, _, rfl⟩
        have EL : Hid (looksE s l = if siz (a, b) = 0 then 7 else 0) := by show _ = _; unfold looksE; rw [if_pos hE, hab]
        have VL : Hid (looksV s l = if looksE s l = 0 then (a, b) else (0, 0)) := by show _ = _; unfold looksV; rw [hab]
        have ENDS := Lib.hid (fun L (hL : leftL s l (2 ^ l.length - 1) (wndN s) = L) => left_ends OK.out hfm h10 hL hab)
        have LNN := Lib.hid (fun set => left_none (s := s) (l := l) OK.out hfm set)
        have CR : Hid (∀ r, ClashIs s l r → ClashR s l r (if r = [] then 6 else 0)) := fun r h => by unfold ClashR; rw [if_pos hE]; exact ⟨h, rfl⟩
        have pw : 2 ^ l.length ≤ 1024 := Nat.le_trans (Nat.pow_le_pow_right (by decide) h10) (by decide)
        have pw1 : 1 ≤ 2 ^ l.length := Nat.one_le_two_pow
        have lle : ∀ set, (leftL s l set (wndN s)).length ≤ 1000 := fun set => by
          have := leftL_le (s := s) (l := l) set (wndN s)
          have b0 := OK.out.lo0
          have b1 := OK.out.hi1
          unfold wndN at this ⊢
          omega
        have LLE := Lib.hid lle
        have HIN := Lib.hid hin
        have HE := Lib.hid hE
        clear hE hc hx hin hfm hab lle
        obtain ⟨c0, c1, c2, c3, c4⟩ := A6.out.up V2.out
        go_wp2_with fail
        refine (refGates_c s x2 OK.out (L6.out.up V2.out)).mono ?_
        rintro e x3 ⟨qg, dg, rfl, -, -, rg, v⟩
        rw [gatesR_len]
        have RG3 := Lib.hid rg
        have BX3 := Lib.hid (BX.out.up v)
        have V3 := Lib.hid (Up.trans V2.out v)
        clear rg v c0 c1 c2 c3 c4
        have HLF : Hid (∀ (set : Nat) W, set < 1024 → Up x3 W → Calls Tryz.prog 28 #[sdVal s rT rF rS gT gF gS, .slice qg s.floors.length dg, .slice yb l.length eb, .int .i64 set] W fun e w' => ∃ q d, e = .returned (.slice q (leftL s l set (wndN s)).length d) ∧ Row w' q 1 (ints (leftL s l set (wndN s))) ∧ Up W w') :=
          fun set W h u => refLeft_c s l l.length set qg yb dg eb W OK.out rfl h10 h HIN.out (L6.out.up (Up.trans V3.out u)) (RG3.out.up u) (R2.out.up (Up.trans V3.out u))
        have HCL : Hid (∀ W, Up x3 W → Calls Tryz.prog 29 #[sdVal s rT rF rS gT gF gS, .slice qg s.floors.length dg, .slice yb l.length eb] W fun e w' => ∃ b q d, e = .returned (.tuple #[.slice q b.length d, .bool (decide (b ≠ []))]) ∧ ClashIs s l b ∧ Row w' q 1 (ints b) ∧ (b = [] → q = none ∧ d = 0) ∧ (∀ a off, q = some ⟨a, off, none⟩ → W.heap.size ≤ a) ∧ Up W w') := by
          intro W u
          have hlf : ∀ (set : Nat) W', 1 ≤ set → set < 2 ^ l.length → Up W W' → Calls Tryz.prog 28 #[sdVal s rT rF rS gT gF gS, .slice qg (gatesR s).length dg, .slice yb l.length eb, .int .i64 set] W' fun e w' => ∃ q d L, e = .returned (.slice q L d) ∧ (L = 0 ↔ emptyS s l set) ∧ Up W' w' := by
            intro set W' h1 h2 u'
            rw [gatesR_len]
            exact (HLF.out set W' (by omega) (Up.trans u u')).mono fun e w' ⟨q, d, e1, r, u2⟩ => ⟨q, d, _, e1, LNN.out set, u2⟩
          have h := refClash_of s l (gatesR s) l.length qg yb dg eb W OK.out rfl h10 hlf
          rw [gatesR_len] at h
          exact h
        obtain ⟨N, hN⟩ : ∃ N, 2 ^ l.length = N := ⟨_, rfl⟩
        rw [hN] at pw pw1 ENDS
        have hsh : IntKind.i64.wrap ((2 : Int) ^ l.length) = (N : Int) := by
          have e : ((2 : Int) ^ l.length) = ((2 ^ l.length : Nat) : Int) := by push_cast; rfl
          rw [e, hN]
          exact IntWalk.i64_in _ (by omega)
        have hsb : IntKind.i64.wrap ((N : Int) - 1) = ((N - 1 : Nat) : Int) := by rw [IntWalk.i64_in _ (by omega)]; omega
        clear hN
        obtain ⟨c0, c1, c2, c3, c4⟩ := A6.out.up V3.out
        unfold sdVal at HLF HCL
        go_wp2_with fail
        refine region_tail (fun W' => W'.cell? ⟨B6, 0, none⟩ = some (.slice rT s.table.length gT) ∧ W'.cell? ⟨B6, 1, none⟩ = some (.int .i64 s.lo) ∧ W'.cell? ⟨B6, 2, none⟩ = some (.int .i64 s.hi) ∧ W'.cell? ⟨B6, 3, none⟩ = some (.slice rF s.floors.length gF) ∧ W'.cell? ⟨B6, 4, none⟩ = some (.slice rS s.sills.length gS)) 8 mixed (by kernel_rfl) ⟨c0, c1, c2, c3, c4⟩ (fun hHeld => ?_)
        refine wpAnyG_take 0 45 (v := ?_) rfl rfl (by kernel_rfl) (fun _ _ _ h => h) (Or.inl ⟨by rfl, ?_⟩) (by assumption) ?_
        rotate_left
        · (intro w' hSw; (try dsimp only at hSw); go_split_ands; go_simp; try with_reducible rfl)
        try simp only [List.setIfInBounds_toArray, List.set_cons_zero, List.set_cons_succ]
        refine wpAnyG_take 1 46 (v := ?_) rfl rfl (by kernel_rfl) (fun _ _ _ h => h) (Or.inl ⟨by rfl, ?_⟩) (by assumption) ?_
        rotate_left
        · (intro w' hSw; (try dsimp only at hSw); go_split_ands; go_simp; try with_reducible rfl)
        try simp only [List.setIfInBounds_toArray, List.set_cons_zero, List.set_cons_succ]
        refine wpAnyG_take 2 47 (v := ?_) rfl rfl (by kernel_rfl) (fun _ _ _ h => h) (Or.inl ⟨by rfl, ?_⟩) (by assumption) ?_
        rotate_left
        · (intro w' hSw; (try dsimp only at hSw); go_split_ands; go_simp; try with_reducible rfl)
        try simp only [List.setIfInBounds_toArray, List.set_cons_zero, List.set_cons_succ]
        refine wpAnyG_take 3 48 (v := ?_) rfl rfl (by kernel_rfl) (fun _ _ _ h => h) (Or.inl ⟨by rfl, ?_⟩) (by assumption) ?_
        rotate_left
        · (intro w' hSw; (try dsimp only at hSw); go_split_ands; go_simp; try with_reducible rfl)
        try simp only [List.setIfInBounds_toArray, List.set_cons_zero, List.set_cons_succ]
        refine wpAnyG_take 4 49 (v := ?_) rfl rfl (by kernel_rfl) (fun _ _ _ h => h) (Or.inl ⟨by rfl, ?_⟩) (by assumption) ?_
        rotate_left
        · (intro w' hSw; (try dsimp only at hSw); go_split_ands; go_simp; try with_reducible rfl)
        try simp only [List.setIfInBounds_toArray, List.set_cons_zero, List.set_cons_succ]
        refine wpAnyG_take 5 50 (v := ?_) rfl rfl (by kernel_rfl) (fun _ _ _ h => h) (Or.inl ⟨by rfl, ?_⟩) (by assumption) ?_
        rotate_left
        · (intro w' hSw; (try dsimp only at hSw); go_split_ands; go_simp; try with_reducible rfl)
        try simp only [List.setIfInBounds_toArray, List.set_cons_zero, List.set_cons_succ]
        refine wpAnyG_take 6 51 (v := ?_) rfl rfl (by kernel_rfl) (fun _ _ _ h => h) (Or.inl ⟨by rfl, ?_⟩) (by assumption) ?_
        rotate_left
        · (intro w' hSw; (try dsimp only at hSw); go_split_ands; go_simp; try with_reducible rfl)
        try simp only [List.setIfInBounds_toArray, List.set_cons_zero, List.set_cons_succ]
        refine wpAnyG_do 7 rfl (by kernel_rfl) (fun K hK => ?_)
        rw [if_pos (by rfl)]
        go_simp
        refine (HLF.out (N - 1) _ (by omega) (by (repeat (first | exact Below.refl _ _ | (with_reducible refine Below.drewN' ?_ _) | (with_reducible refine Below.drew ?_) | (with_reducible refine Below.setCell ?_ (by first | exact Nat.le_refl _ | omega | (with_reducible (repeat (first | refine sz_alloc ?_ | refine sz_setCell ?_ | refine sz_drew ?_ | refine sz_drewN ?_)); first | exact Nat.le_refl _ | omega) | (simp only [World.size_alloc, World.size_setCell, World.size_drew, size_drewN']; omega)) _) | (with_reducible refine Below.alloc ?_ (by first | exact Nat.le_refl _ | omega | (with_reducible (repeat (first | refine sz_alloc ?_ | refine sz_setCell ?_ | refine sz_drew ?_ | refine sz_drewN ?_)); first | exact Nat.le_refl _ | omega) | (simp only [World.size_alloc, World.size_setCell, World.size_drew, size_drewN']; omega)) _) | assumption)))).mono ?_
        rintro e wa ⟨q1, d1, rfl, r1, v⟩
        have v1 : Up x3 wa := Up.trans (by (repeat (first | exact Below.refl _ _ | (with_reducible refine Below.drewN' ?_ _) | (with_reducible refine Below.drew ?_) | (with_reducible refine Below.setCell ?_ (by first | exact Nat.le_refl _ | omega | (with_reducible (repeat (first | refine sz_alloc ?_ | refine sz_setCell ?_ | refine sz_drew ?_ | refine sz_drewN ?_)); first | exact Nat.le_refl _ | omega) | (simp only [World.size_alloc, World.size_setCell, World.size_drew, size_drewN']; omega)) _) | (with_reducible refine Below.alloc ?_ (by first | exact Nat.le_refl _ | omega | (with_reducible (repeat (first | refine sz_alloc ?_ | refine sz_setCell ?_ | refine sz_drew ?_ | refine sz_drewN ?_)); first | exact Nat.le_refl _ | omega) | (simp only [World.size_alloc, World.size_setCell, World.size_drew, size_drewN']; omega)) _) | assumption))) v
        refine hK _ _ ⟨v1.cellAt c0, v1.cellAt c1, v1.cellAt c2, v1.cellAt c3, v1.cellAt c4⟩ (fun hHeld => ?_)
        have L9 := LLE.out (N - 1)
        obtain ⟨L, hL⟩ : ∃ L, leftL s l (N - 1) (wndN s) = L := ⟨_, rfl⟩
        have HEN := Lib.hid (ENDS.out L hL)
        rw [hL] at r1 L9 ⊢
        have V4 := Lib.hid (Up.trans V3.out v1)
        have BX4 := Lib.hid (BX3.out.up v1)
        have HCL4 := Lib.hid (fun W (u : Up wa W) => HCL.out W (Up.trans v1 u))
        have RL4 := Lib.hid r1
        clear hK K hHeld hL ENDS r1 v v1 c0 c1 c2 c3 c4 HLF HCL LLE LNN RG3 BX3 V3 hsh hsb
        refine wpAnyG_tail (by kernel_rfl) ?_
        change wpList _ _ _ [_] _ _
        obtain ⟨c0, c1, c2, c3, c4⟩ := A6.out.up V4.out
        go_wp2_with fail
        refine (HCL4.out wa (Below.refl _ _)).mono ?_
        rintro e x5 ⟨bl, qb, db, rfl, hcl, rb, -, fr, v⟩
        obtain ⟨bb, hbb⟩ : ∃ bb, decide (bl ≠ []) = bb := ⟨_, rfl⟩
        rw [hbb]
        have HBB := Lib.hid hbb
        obtain ⟨E0, hE0⟩ : ∃ E0 : Int, (if bl = [] then (6 : Int) else 0) = E0 := ⟨_, rfl⟩
        have HE0 := Lib.hid hE0
        have HCR := Lib.hid (CR.out bl hcl)
        rw [hE0] at HCR
        have bl9 : bl.length ≤ maxLen := by have := clash_len hcl; simp only [maxLen]; omega
        have V5 := Lib.hid (Up.trans V4.out v)
        have BX5 := Lib.hid (BX4.out.up v)
        have RL5 := Lib.hid (RL4.out.up v)
        have RB5 := Lib.hid rb
        have QX : Hid (∀ a off, qb = some ⟨a, off, none⟩ → X < a) := fun a off e => by have := BX4.out.lt; have := fr a off e; omega
        clear hbb hE0 hcl rb fr v c0 c1 c2 c3 c4 V4 BX4 RL4 HCL4 CR
        go_upto_if 61 with fail
        focus
          go_cut [10] (fun u wx => u = .int .i64 E0 ∧ x5 = wx)
          case first =>
            cases bb with
            | false =>
              have h0 : Hid (bl = []) := by show _ = _; simpa using HBB.out
              clear HBB
              go_wp2_with fail
              go_meet
              rw [← HE0.out, if_pos h0.out]
              exact ⟨rfl, rfl⟩
            | true =>
              have h0 : Hid (¬ bl = []) := by show ¬ _; simpa using HBB.out
              clear HBB
              go_wp2_with fail
              go_meet
              rw [← HE0.out, if_neg h0.out, HE.out]
              exact ⟨rfl, rfl⟩
          case rest =>
            obtain ⟨rfl, rfl⟩ := hcut
            by_cases h0 : L.length = 0
            · have l1 : ((L.length : Int) == 0) = true := by rw [h0]; rfl
              have E1 : Hid (looksE s l = 7) := by show _ = _; rw [EL.out, if_pos (HEN.out.1.1 h0)]
              have T1 : Hid (looksV s l = (0, 0)) := by show _ = _; rw [VL.out, E1.out]; rfl
              clear h0
              go_wp2_with fail
              go_meet
              rw [E1.out, T1.out]
              exact ⟨rfl, ⟨qb, db, bl, _, rfl, rfl, HCR.out, bl9, RB5.out⟩, BX5.out, V5.out⟩
            · have hp : 0 < L.length := by omega
              have l1 : ((L.length : Int) == 0) = false := by rw [beq_eq_false_iff_ne]; omega
              have E1 : Hid (looksE s l = 0) := by show _ = _; rw [EL.out, if_neg (fun e => h0 (HEN.out.1.2 e))]
              have T1 : Hid (looksV s l = (a, b)) := by show _ = _; rw [VL.out, E1.out]; rfl
              obtain ⟨bq, oq, rfl, e0⟩ := RL5.out.int 0 hp
              obtain ⟨bq', oq', ee, e1⟩ := RL5.out.int (L.length - 1) (by omega)
              simp only [Option.some.injEq, Addr.mk.injEq, and_true] at ee
              obtain ⟨rfl, rfl⟩ := ee
              rw [(HEN.out.2 hp).1] at e0
              simp only [Nat.add_zero] at e0
              rw [(HEN.out.2 hp).2] at e1
              have sb : IntKind.i64.wrap ((L.length : Int) - 1) = ((L.length - 1 : Nat) : Int) := by rw [IntWalk.i64_in _ (by omega)]; omega
              have k0 : (0 : Int) < (L.length : Int) := by omega
              have k1 : ((L.length - 1 : Nat) : Int) < (L.length : Int) := by omega
              clear h0 HEN
              have yl := BX5.out.lt
              have y0 := BX5.out.cell 0
              have y1 := BX5.out.cell 1
              have yf := BX5.out.free
              simp only [List.getElem?_cons_zero, List.getElem?_cons_succ] at y0 y1
              go_wp2_with fail
              refine region_tail (fun W' => W'.cell? ⟨bq, oq, none⟩ = some (.int .i64 a) ∧ W'.cell? ⟨bq, oq + (L.length - 1), none⟩ = some (.int .i64 b)) 10 mixed (by kernel_rfl) ⟨e0, e1⟩ (fun hHeld => ?_)
              refine wpAnyG_take 0 65 (v := ?_) rfl rfl (by kernel_rfl) (fun _ _ _ h => h) (Or.inl ⟨by rfl, ?_⟩) (by assumption) ?_
              rotate_left
              · (intro w' hSw; (try dsimp only at hSw); go_split_ands; go_simp; try with_reducible rfl)
              try simp only [List.setIfInBounds_toArray, List.set_cons_zero, List.set_cons_succ]
              refine wpAnyG_take 1 66 (v := ?_) rfl rfl (by kernel_rfl) (fun _ _ _ h => h) (Or.inl ⟨by rfl, ?_⟩) (by assumption) ?_
              rotate_left
              · (intro w' hSw; (try dsimp only at hSw); go_split_ands; go_simp; try with_reducible rfl)
              try simp only [List.setIfInBounds_toArray, List.set_cons_zero, List.set_cons_succ]
              refine wpAnyG_take 2 67 (v := ?_) rfl rfl (by kernel_rfl) (fun _ _ _ h => h) (Or.inl ⟨by rfl, ?_⟩) (by assumption) ?_
              rotate_left
              · (intro w' hSw; (try dsimp only at hSw); go_split_ands; go_simp; try with_reducible rfl)
              try simp only [List.setIfInBounds_toArray, List.set_cons_zero, List.set_cons_succ]
              refine wpAnyG_take 3 68 (v := ?_) rfl rfl (by kernel_rfl) (fun _ _ _ h => h) (Or.inl ⟨by rfl, ?_⟩) (by assumption) ?_
              rotate_left
              · (intro w' hSw; (try dsimp only at hSw); go_split_ands; go_simp; try with_reducible rfl)
              try simp only [List.setIfInBounds_toArray, List.set_cons_zero, List.set_cons_succ]
              refine wpAnyG_take 4 69 (v := ?_) rfl rfl (by kernel_rfl) (fun _ _ _ h => h) (Or.inl ⟨by rfl, ?_⟩) (by assumption) ?_
              rotate_left
              · (intro w' hSw; (try dsimp only at hSw); go_split_ands; go_simp; try with_reducible rfl)
              try simp only [List.setIfInBounds_toArray, List.set_cons_zero, List.set_cons_succ]
              refine wpAnyG_take 5 70 (v := ?_) rfl rfl (by kernel_rfl) (fun _ _ _ h => h) (Or.inl ⟨by rfl, ?_⟩) (by assumption) ?_
              rotate_left
              · (intro w' hSw; (try dsimp only at hSw); go_split_ands; go_simp; try with_reducible rfl)
              try simp only [List.setIfInBounds_toArray, List.set_cons_zero, List.set_cons_succ]
              refine wpAnyG_take 6 71 (v := ?_) rfl rfl (by kernel_rfl) (fun _ _ _ h => h) (Or.inl ⟨by rfl, ?_⟩) (by assumption) ?_
              rotate_left
              · (intro w' hSw; (try dsimp only at hSw); go_split_ands; go_simp; try with_reducible rfl)
              try simp only [List.setIfInBounds_toArray, List.set_cons_zero, List.set_cons_succ]
              refine wpAnyG_take 7 72 (v := ?_) rfl rfl (by kernel_rfl) (fun _ _ _ h => h) (Or.inl ⟨by rfl, ?_⟩) (by assumption) ?_
              rotate_left
              · (intro w' hSw; (try dsimp only at hSw); go_split_ands; go_simp; try with_reducible rfl)
              try simp only [List.setIfInBounds_toArray, List.set_cons_zero, List.set_cons_succ]
              refine wpAnyG_take 8 73 (v := ?_) rfl rfl (by kernel_rfl) (fun _ _ _ h => h) (Or.inl ⟨by rfl, ?_⟩) (by assumption) ?_
              rotate_left
              · (intro w' hSw; (try dsimp only at hSw); go_split_ands; go_simp; try with_reducible rfl)
              try simp only [List.setIfInBounds_toArray, List.set_cons_zero, List.set_cons_succ]
              refine wpAnyG_take 9 74 (v := ?_) rfl rfl (by kernel_rfl) (fun _ _ _ h => h) (Or.inl ⟨by rfl, ?_⟩) (by assumption) ?_
              rotate_left
              · (intro w' hSw; (try dsimp only at hSw); go_split_ands; go_simp; try with_reducible rfl)
              try simp only [List.setIfInBounds_toArray, List.set_cons_zero, List.set_cons_succ]
              refine wpAnyG_tail (by kernel_rfl) ?_
              change wpList _ _ _ [_] _ _
              have BXS := (BX5.out.set 0 (.int .i64 a)).set 1 (.int .i64 b)
              simp only [List.set_cons_zero, List.set_cons_succ] at BXS
              have BXSH := Lib.hid BXS
              have RBS : Hid (Row ((x5.setCell ⟨X, 0, none⟩ (.int .i64 a)).setCell ⟨X, 1, none⟩ (.int .i64 b)) qb 1 (ints bl)) := (RB5.out.other (fun b off e => by have := QX.out b off e; simp only []; omega) _).other (fun b off e => by have := QX.out b off e; simp only []; omega) _
              have VS : Hid (Up wq ((x5.setCell ⟨X, 0, none⟩ (.int .i64 a)).setCell ⟨X, 1, none⟩ (.int .i64 b))) := (V5.out.setCell (by simp only []; omega) _).setCell (by simp only []; omega) _
              clear BXS
              go_wp2_with fail
              go_meet
              rw [E1.out, T1.out, HE.out]
              exact ⟨rfl, ⟨qb, db, bl, _, rfl, rfl, HCR.out, bl9, RBS.out⟩, BXSH.out, VS.out.drew⟩
      · have n1 : (errLooks s l == 0) = false := beq_eq_false_iff_ne.2 hE
        have E1 : Hid (looksE s l = errLooks s l) := by show _ = _; unfold looksE; rw [if_neg hE]
        have T1 : Hid (looksV s l = (0, 0)) := by show _ = _; unfold looksV; rw [E1.out, if_neg hE]
        have C1 : Hid (ClashR s l [] (errLooks s l)) := by show ClashR _ _ _ _; unfold ClashR; rw [if_neg hE]; exact ⟨rfl, rfl⟩
        clear hE
        go_wp2_with fail
        go_meet
        rw [E1.out, T1.out]
        exact ⟨rfl, ⟨none, 0, [], _, rfl, rfl, C1.out, Nat.zero_le _, Row.nil _ _ _⟩, BX.out, V2.out⟩
    case rest =>
      obtain ⟨rfl, ⟨qc, dc, r, E, rfl, rfl, hcr, hrm, rc⟩, bx, v⟩ := hcut
      have RF := Lib.hid rc
      have BXr := Lib.hid bx
      have W0 := Lib.hid v
      have CR := Lib.hid hcr
      clear rc bx v BX V2 V1 hcr
      generalize wc = y0 at *
      have HT1 := Lib.hid (fun W (u : Up wq W) => Looks_c s l ya ea W (L5.out.up u) (R1.out.up u) (by simp only [maxLen]; omega))
      have HF1 := Lib.hid (fun W (u : Up wq W) => Clash_c s l ya ea W (L5.out.up u) (R1.out.up u) MA.out.1 MA.out.2)
      have HQ2 := Lib.hid (fun W (u : Up wq W) => eqLook_c l l ya ql ea dl W (R1.out.up u) (RA.out.up (Up.trans U0.out u)) (by simp only [maxLen]; omega) (by simp only [maxLen]; omega))
      have HQ1 := Lib.hid (fun p c W (h : Row W p 1 (ints r)) (h' : Row W qc 1 (ints r)) => eqInt_c r r p qc c dc W h h' (by omega) (by omega))
      rw [decide_eq_true (rfl : l = l)] at HQ2
      rw [decide_eq_true (rfl : r = r)] at HQ1
      generalize looksV s l = lz at *
      generalize looksE s l = xe at *
      have n1 : (xe == xe) = true := by simp
      have n2 : (E == E) = true := by simp
      have n6 : (lz.1 == lz.1) = true := by simp
      have n7 : (lz.2 == lz.2) = true := by simp
      obtain ⟨c0, c1, c2, c3, c4⟩ := A5.out.up W0.out
      unfold sdVal at HT1 HF1
      go_wp2_with fail
      refine (HT1.out y0 W0.out).mono ?_
      rintro e y1 ⟨rfl, v⟩
      have W1 := Lib.hid (Up.trans W0.out v)
      have RF1 := Lib.hid (RF.out.up v)
      have BX1 := Lib.hid (BXr.out.up v)
      clear v c0 c1 c2 c3 c4 HT1 W0 RF BXr
      have uy : Up y1 (y1.alloc (.cells #[.int .i64 lz.1, .int .i64 lz.2] 24)) := by (repeat (first | exact Below.refl _ _ | (with_reducible refine Below.drewN' ?_ _) | (with_reducible refine Below.drew ?_) | (with_reducible refine Below.setCell ?_ (by first | exact Nat.le_refl _ | omega | (with_reducible (repeat (first | refine sz_alloc ?_ | refine sz_setCell ?_ | refine sz_drew ?_ | refine sz_drewN ?_)); first | exact Nat.le_refl _ | omega) | (simp only [World.size_alloc, World.size_setCell, World.size_drew, size_drewN']; omega)) _) | (with_reducible refine Below.alloc ?_ (by first | exact Nat.le_refl _ | omega | (with_reducible (repeat (first | refine sz_alloc ?_ | refine sz_setCell ?_ | refine sz_drew ?_ | refine sz_drewN ?_)); first | exact Nat.le_refl _ | omega) | (simp only [World.size_alloc, World.size_setCell, World.size_drew, size_drewN']; omega)) _) | assumption))
      obtain ⟨c0, c1, c2, c3, c4⟩ := A5.out.up W1.out
      have A5l : B5 < y1.heap.size := cell_lt c0
      have NB2 := Lib.hid (Blk.new y1 [.int .i64 lz.1, .int .i64 lz.2] 24)
      have BX2 := Lib.hid (BX1.out.up uy)
      have RF2 := Lib.hid (RF1.out.up uy)
      have W2 := Lib.hid (Up.trans W1.out uy)
      clear uy BX1 RF1
      go_wp2_with fail
      refine (HF1.out _ W2.out).mono ?_
      rintro e y3 ⟨r', q2, E', rfl, hcr', r2, v⟩
      obtain ⟨rfl, rfl⟩ := clashR_one CR.out hcr'
      have W3 := Lib.hid (Up.trans W2.out v)
      have RF3 := Lib.hid (RF2.out.up v)
      have BX3 := BX2.out.up v
      have NB3 := NB2.out.up v
      have RQ3 := Lib.hid r2
      clear v c0 c1 c2 c3 c4 HF1 W2 RF2 BX2 NB2 r2 hcr' CR A5l
      have y0' := BX3.cell 0
      have y1' := BX3.cell 1
      have z0 := NB3.cell 0
      have z1 := NB3.cell 1
      simp only [List.getElem?_cons_zero, List.getElem?_cons_succ] at y0' y1' z0 z1
      clear BX3 NB3
      go_wp2_with fail
      refine (HQ1.out q2 _ y3 RQ3.out RF3.out).mono ?_
      rintro e y5 ⟨rfl, v⟩
      have W5 := Lib.hid (Up.trans W3.out v)
      clear v HQ1 RQ3 RF3 W3 y0' y1' z0 z1
      obtain ⟨c0, c1, c2, c3, c4⟩ := A5.out.up W5.out
      obtain ⟨d0, d1, d2', d3, d4⟩ := A0.out.up W5.out
      go_wp2_with fail
      refine (same_c s y5 (L5.out.up W5.out) (HL.out.up (Up.trans U0.out W5.out))).mono ?_
      rintro e y6 ⟨rfl, v⟩
      have W6 := Lib.hid (Up.trans W5.out v)
      clear v W5 c0 c1 c2 c3 c4 d0 d1 d2' d3 d4
      go_wp2_with fail
      refine (HQ2.out y6 W6.out).mono ?_
      rintro e y7 ⟨rfl, v⟩
      have W7 := Lib.hid (Up.trans U0.out (Up.trans W6.out v))
      clear v W6 HQ2
      go_wp2_with fail
      refine (awake_c y7).mono ?_
      rintro e y8 ⟨rfl, v⟩
      have W8 := Lib.hid (Up.trans W7.out v)
      clear v W7
      go_wp2_with fail
      go_ret
      exact ⟨rfl, W8.out⟩
end
end Go.Proofs.YtknaajofcbenaaaGreat
/- Plain: what a law that answers true, and leaves all that lay there as it lay, pays of its statement; arguments opened to lists. -/
namespace Go.Proofs.YtknaajofcbenaaaGreat
open Go.ChangeShapes Go.WideShapes Go.ChangeAt Go.RowKit

section
variable {H : Type} {enc : TypeId × Value → H} {P : Program}

def readAll (P : Program) (ts : List TypeId) : Bool := ts.all fun t => P.readableRec t && decide (t < P.types.size)

theorem trodAll_below (hl : laidOutB P = true) {W W' : World} (hb : Below W.heap.size W W') : ∀ (ts : List TypeId) (vs : List Value) (ds : List (DataW H)) (ps : List MemPlace), readAll P ts = true →
    DataW.TrodAll enc P W 0 (fun _ => true) true ts vs ds ps → (∀ x ∈ ps, x.block < W.heap.size) → DataW.TrodAll enc P W' 0 (fun b => decide (b < W.heap.size)) true ts vs ds ps
  | [], _, _, _, _, h, _ => by
    obtain ⟨rfl, rfl, rfl⟩ := trodAll_nil h
    exact trodAll_mk0
  | t :: ts, vs, ds, ps, hr, h, hlt => by
    obtain ⟨v, vs', d, ds', p, q, rfl, rfl, rfl, h0, r0⟩ := trodAll_cons h
    simp only [readAll, List.all_cons, Bool.and_eq_true, decide_eq_true_eq] at hr
    exact trodAll_cons_mk (Below.trod hl hr.1.1 hr.1.2 h0 hb (fun x hx => hlt x (by simp [hx]))) (trodAll_below hl hb ts _ _ _ hr.2 r0 (fun x hx => hlt x (by simp [hx])))

theorem law_post {f : Func} {s : ChangeSpec} {W W' : World} {args : Array Value} {ds gs : List (DataW H)} {before : List MemPlace} {tb : TypeId}
    (hW : DataW.Whole enc P f.params.toList s.vars false W args.toList ds gs before) (hv : s.vars = []) (hl : laidOutB P = true) (hr : readAll P f.params.toList = true)
    (hres : f.resultTypes = #[tb]) (hbool : P.underlying tb = some .bool)
    (hfn : (s.fn H ds).results = [.lit (.bool true)] ∧ (s.fn H ds).args = ds ∧ (s.fn H ds).vars = []) (hb : Below W.heap.size W W') :
    s.post enc P f false true false false W args (.bool true) W' := by
  have hW' := hW
  have hlt : ∀ p ∈ before, p.block < W.heap.size := fun p hp => hW'.lt p hp
  obtain ⟨p, q, hA, hV, rfl, -, -⟩ := hW
  rw [hv] at hV
  obtain ⟨rfl, rfl⟩ := trodVars_none hV
  obtain ⟨h1, h2, h3⟩ := hfn
  have e : ds ++ ([] : List (DataW H)) = ds := List.append_nil ds
  refine ⟨ds, [], p ++ [], [], p, [], hW', ?_, ?_, ?_, World.keptBut_mono (fun x hx => hx) (hb.frame _), fun h => by cases h⟩
  · rw [e, h1, hres]
    exact trodAll_cons_mk (shut_bool hbool true) trodAll_mk0
  · rw [e, h2]
    exact trodAll_below hl hb _ _ _ _ hr hA (fun x hx => hlt x (by simp [hx]))
  · rw [e, h3, hv]
    exact rfl

/-- a row of whole numbers -/
def AllInts (k : Nat) (r : List Value) : Prop := r.length = k ∧ ∀ c ∈ r, ∃ n, c = .int .i64 n

theorem open_int_row {w : World} {base : Nat} {spare : Nat → Bool} {held : Bool} {e : TypeId} {fuel : Nat} {cs : List Value} {y : DataW H × List MemPlace} (he : P.underlying e = some (.int .i64)) (h : DataW.trod enc P w base spare held fuel e cs = some y) : AllInts 1 cs := by
  obtain ⟨n, rfl, -, -⟩ := DataW.trod_int he h
  exact ⟨rfl, fun c hc => ⟨n, by simpa using hc⟩⟩

theorem open_struct_row {w : World} {base : Nat} {spare : Nat → Bool} {held : Bool} {e : TypeId} {fs : Array Field} {fuel : Nat} {cs : List Value} {y : DataW H × List MemPlace} (he : P.underlying e = some (.struct fs)) (hC : P.cellsOf e = fs.size)
    (hf : ∀ (i : Nat) (f : Field), fs[i]? = some f → f.offset = i ∧ P.underlying f.type = some (.int .i64) ∧ P.cellsOf f.type = 1) (h : DataW.trod enc P w base spare held fuel e cs = some y) : AllInts fs.size cs := by
  obtain ⟨xs, n, -, -, hl, hxl, hx⟩ := DataW.trod_struct he h
  rw [hC] at hl
  refine ⟨hl, fun c hc => ?_⟩
  obtain ⟨i, hi, rfl⟩ := List.getElem_of_mem hc
  have hif : i < fs.size := by omega
  obtain ⟨ho, hu, hc1⟩ := hf i fs[i] (Array.getElem?_eq_getElem hif)
  have h1 := hx i fs[i] (Array.getElem?_eq_getElem hif)
  rw [ho, hc1, List.drop_eq_getElem_cons hi, List.getElem?_eq_getElem (by omega)] at h1
  obtain ⟨m, hm, -, -⟩ := DataW.trod_int hu h1
  simp only [List.take_succ_cons, List.take_zero, List.cons.injEq, and_true] at hm
  exact ⟨m, hm⟩

theorem spot_of {w : World} {a : Addr} {v : Value} (h : w.cell? a = some v) : a.spot = none := by
  unfold World.cell? at h
  split at h
  · split at h
    · cases h
    · rename_i hs
      simpa using hs
  all_goals cases h

/-- a slice that came in, as rows of k cells -/
theorem open_rows {w : World} {t e : TypeId} {fuel k : Nat} {v : Value} {x : DataW H × List MemPlace} (ht : P.underlying t = some (.slice e)) (hC : P.cellsOf e = k) (hk : 0 < k)
    (hel : ∀ fuel cs y, DataW.trod enc P w 0 (fun _ => true) true fuel e cs = some y → AllInts k cs) (h : DataW.trod enc P w 0 (fun _ => true) true fuel t [v] = some x) :
    ∃ p len cap rows, v = .slice p len cap ∧ len ≤ cap ∧ cap ≤ maxLen ∧ rows.length = len ∧ Row w p k rows ∧ (∀ r ∈ rows, AllInts k r) ∧ ((x.1 = .nil ∧ cap = 0) ∨ ∃ el sp, x.1 = .slice el sp ∧ el.length + sp.length = cap) := by
  rcases Go.Deep.open_slice ht h with ⟨hv, rfl⟩ | ⟨a, len, cap, m, n, D, Pl, hv, -, hl, hm, hmm, rfl, hi⟩
  · simp only [List.cons.injEq, and_true] at hv
    exact ⟨none, 0, 0, [], hv, Nat.le_refl _, by simp [maxLen], rfl, fun i row hr => by simp at hr, fun r hr => by simp at hr, .inl ⟨rfl, rfl⟩⟩
  · simp only [List.cons.injEq, and_true] at hv
    simp only [if_true] at hmm
    subst hmm
    rw [hC] at hi
    have hch : ∀ i, ∃ cs, i < len → AllInts k cs ∧ ∀ j c, cs[j]? = some c → w.cell? (a.add (i * k + j)) = some c := fun i => by
      by_cases hlt : i < len
      · obtain ⟨cs, hc, ht'⟩ := hi i (by omega)
        obtain ⟨-, hcl, hat⟩ := World.cells?_some hc
        refine ⟨cs, fun _ => ⟨hel _ _ _ ht', fun j c hj => ?_⟩⟩
        have hjl : j < k := by have := (List.getElem?_eq_some_iff.1 hj).1; omega
        rw [← Go.Deep.add_add, hat j hjl, hj]
      · exact ⟨[], fun h => absurd h hlt⟩
    obtain ⟨f, hf⟩ := Classical.axiomOfChoice hch
    refine ⟨some a, len, m, (List.range len).map f, hv, hl, hm, by simp, fun i row hr => ?_, fun r hr => ?_, .inr ⟨_, _, rfl, by simp; omega⟩⟩
    · rw [List.getElem?_map] at hr
      by_cases hlt : i < len
      · rw [List.getElem?_range hlt] at hr
        simp only [Option.map_some, Option.some.injEq] at hr
        subst hr
        obtain ⟨⟨g1, g2⟩, g3⟩ := hf 0 (by omega)
        have h0 := g3 0 _ (List.getElem?_eq_getElem (by omega))
        have hs : a.spot = none := spot_of (by simpa [Addr.add] using h0)
        obtain ⟨b, off, sp⟩ := a
        simp only at hs
        subst hs
        refine ⟨b, off, rfl, fun j c hj => ?_⟩
        have := (hf i hlt).2 j c hj
        rwa [Addr.add_lit, ← Nat.add_assoc] at this
      · rw [List.getElem?_eq_none (by simp; omega)] at hr
        cases hr
    · simp only [List.mem_map, List.mem_range] at hr
      obtain ⟨i, hlt, rfl⟩ := hr
      exact (hf i hlt).1

theorem ints_of : ∀ {rows : List (List Value)}, (∀ r ∈ rows, AllInts 1 r) → ∃ l : List Int, rows = ints l
  | [], _ => ⟨[], rfl⟩
  | r :: rest, h => by
    obtain ⟨l, hl⟩ := ints_of (rows := rest) (fun r hr => h r (by simp [hr]))
    obtain ⟨h1, h2⟩ := h r (by simp)
    match r, h1, h2 with
    | [c], _, h2 =>
      obtain ⟨n, rfl⟩ := h2 c (by simp)
      exact ⟨n :: l, by rw [hl]; rfl⟩
theorem pairs_of : ∀ {rows : List (List Value)}, (∀ r ∈ rows, AllInts 2 r) → ∃ l : List (Int × Int), rows = pairs l
  | [], _ => ⟨[], rfl⟩
  | r :: rest, h => by
    obtain ⟨l, hl⟩ := pairs_of (rows := rest) (fun r hr => h r (by simp [hr]))
    obtain ⟨h1, h2⟩ := h r (by simp)
    match r, h1, h2 with
    | [c, d], _, h2 =>
      obtain ⟨n, rfl⟩ := h2 c (by simp)
      obtain ⟨m, rfl⟩ := h2 d (by simp)
      exact ⟨(n, m) :: l, by rw [hl]; rfl⟩
theorem triples_of : ∀ {rows : List (List Value)}, (∀ r ∈ rows, AllInts 3 r) → ∃ l : List (Int × Int × Int), rows = triples l
  | [], _ => ⟨[], rfl⟩
  | r :: rest, h => by
    obtain ⟨l, hl⟩ := triples_of (rows := rest) (fun r hr => h r (by simp [hr]))
    obtain ⟨h1, h2⟩ := h r (by simp)
    match r, h1, h2 with
    | [c, d, f], _, h2 =>
      obtain ⟨n, rfl⟩ := h2 c (by simp)
      obtain ⟨m, rfl⟩ := h2 d (by simp)
      obtain ⟨o, rfl⟩ := h2 f (by simp)
      exact ⟨(n, m, o) :: l, by rw [hl]; rfl⟩
end
end Go.Proofs.YtknaajofcbenaaaGreat
/- Arguments of the laws on sands, opened. -/
namespace Go.Proofs.YtknaajofcbenaaaGreat
open Go.ChangeShapes Go.WideShapes Go.ChangeAt Go.RowKit

theorem own : ownKnob Tryz.prog.godebug = none := by kernel_rfl
theorem laidOut : laidOutB Tryz.prog = true := by kernel_rfl
theorem cellsWater : Tryz.prog.cellsOf 78 = 2 := by kernel_rfl
theorem cellsSill : Tryz.prog.cellsOf 80 = 3 := by kernel_rfl
theorem cellsInt : Tryz.prog.cellsOf 3 = 1 := by kernel_rfl
theorem cellsSands : Tryz.prog.cellsOf 28 = 5 := by kernel_rfl
theorem cellsSpan : Tryz.prog.cellsOf 24 = 2 := by kernel_rfl
theorem cellsT : Tryz.prog.cellsOf 22 = 1 := by kernel_rfl
theorem cellsF : Tryz.prog.cellsOf 25 = 1 := by kernel_rfl
theorem cellsS : Tryz.prog.cellsOf 26 = 1 := by kernel_rfl
theorem bytesWater : Tryz.prog.bytesOf 78 = 16 := by kernel_rfl
theorem bytesSill : Tryz.prog.bytesOf 80 = 24 := by kernel_rfl
theorem bytesInt : Tryz.prog.bytesOf 3 = 8 := by kernel_rfl

section
variable {H : Type} {enc : TypeId × Value → H} {w : World}

theorem el_water : ∀ fuel cs (y : DataW H × List MemPlace), DataW.trod enc Tryz.prog w 0 (fun _ => true) true fuel 78 cs = some y → AllInts 2 cs := fun _ _ _ h =>
  open_struct_row Tryz.underlying78 cellsWater (fun i f hf => by
    match i, hf with
    | 0, hf => cases hf; exact ⟨rfl, Tryz.underlying3, cellsInt⟩
    | 1, hf => cases hf; exact ⟨rfl, Tryz.underlying3, cellsInt⟩
    | i + 2, hf => simp at hf) h
theorem el_sill : ∀ fuel cs (y : DataW H × List MemPlace), DataW.trod enc Tryz.prog w 0 (fun _ => true) true fuel 80 cs = some y → AllInts 3 cs := fun _ _ _ h =>
  open_struct_row Tryz.underlying80 cellsSill (fun i f hf => by
    match i, hf with
    | 0, hf => cases hf; exact ⟨rfl, Tryz.underlying3, cellsInt⟩
    | 1, hf => cases hf; exact ⟨rfl, Tryz.underlying3, cellsInt⟩
    | 2, hf => cases hf; exact ⟨rfl, Tryz.underlying3, cellsInt⟩
    | i + 3, hf => simp at hf) h
theorem el_int : ∀ fuel cs (y : DataW H × List MemPlace), DataW.trod enc Tryz.prog w 0 (fun _ => true) true fuel 3 cs = some y → AllInts 1 cs := fun _ _ _ h => open_int_row Tryz.underlying3 h

theorem room_of {t e : TypeId} {d : DataW H} {cap len b : Nat} (ht : Tryz.prog.underlying t = some (.slice e)) (hb : Tryz.prog.bytesOf e = b) (hl : len ≤ cap)
    (hd : (d = .nil ∧ cap = 0) ∨ ∃ el sp, d = .slice el sp ∧ el.length + sp.length = cap) (hz : ∀ n ∈ DataW.weights Tryz.prog t d, n ≤ reachBytes) : len * b ≤ 140737488355328 := by
  rcases hd with ⟨rfl, rfl⟩ | ⟨el, sp, rfl, rfl⟩
  · have : len = 0 := by omega
    subst this; simp
  · have h := hz ((el.length + sp.length) * Tryz.prog.bytesOf e) (by simp [DataW.weights, ht])
    rw [hb] at h
    have h2 : len * b ≤ (el.length + sp.length) * b := Nat.mul_le_mul_right b hl
    simp only [reachBytes] at h
    omega

set_option maxRecDepth 100000 in
theorem open_sands {base : Nat} {v : Value} {d : DataW H} {p : List MemPlace} (hv : Value.okWide Tryz.prog w .any base 28 v) (h : DataW.Trod enc Tryz.prog w 0 (fun _ => true) true 28 v d p)
    (hz : ∀ n ∈ DataW.weights Tryz.prog 28 d, n ≤ reachBytes) :
    ∃ s pT pF pS cT cF cS, v = sdVal s pT pF pS cT cF cS ∧ Lists w s pT pF pS cT cF cS ∧ s.table.length * 16 ≤ 140737488355328 ∧ s.floors.length * 8 ≤ 140737488355328 ∧ s.sills.length * 24 ≤ 140737488355328 := by
  obtain ⟨cs, rfl, hsz⟩ := okWide_struct Tryz.underlying28 hv
  obtain ⟨l⟩ := cs
  match l, hsz.trans cellsSands with
  | [c0, c1, c2, c3, c4], _ =>
    obtain ⟨fuel, hf⟩ := h
    obtain ⟨xs, n, -, hx, -, hlen, hg⟩ := DataW.trod_struct Tryz.underlying28 hf
    match xs, hlen with
    | [y0, y1, y2, y3], _ =>
      have g0 : DataW.trod enc Tryz.prog w 0 (fun _ => true) true n 22 (([c0, c1, c2, c3, c4].drop 0).take (Tryz.prog.cellsOf 22)) = some y0 := hg 0 _ rfl
      rw [cellsT] at g0
      have g1 : DataW.trod enc Tryz.prog w 0 (fun _ => true) true n 24 (([c0, c1, c2, c3, c4].drop 1).take (Tryz.prog.cellsOf 24)) = some y1 := hg 1 _ rfl
      rw [cellsSpan] at g1
      have g2 : DataW.trod enc Tryz.prog w 0 (fun _ => true) true n 25 (([c0, c1, c2, c3, c4].drop 3).take (Tryz.prog.cellsOf 25)) = some y2 := hg 2 _ rfl
      rw [cellsF] at g2
      have g3 : DataW.trod enc Tryz.prog w 0 (fun _ => true) true n 26 (([c0, c1, c2, c3, c4].drop 4).take (Tryz.prog.cellsOf 26)) = some y3 := hg 3 _ rfl
      rw [cellsS] at g3
      simp only [List.drop_zero, List.drop_succ_cons, List.take_succ_cons, List.take_zero] at g0 g1 g2 g3
      simp only [Prod.mk.injEq] at hx
      obtain ⟨rfl, -⟩ := hx
      simp only [DataW.weights, Tryz.underlying28, List.map_cons, List.map_nil, DataW.weightsEach, List.append_nil, List.mem_append] at hz
      obtain ⟨pT, lT, cT, rT, rfl, a1, a2, rfl, a4, a5, a6⟩ := open_rows Tryz.underlying22 cellsWater (by decide) el_water g0
      obtain ⟨pF, lF, cF, rF, rfl, b1, b2, rfl, b4, b5, b6⟩ := open_rows Tryz.underlying25 cellsInt (by decide) el_int g2
      obtain ⟨pS, lS, cS, rS, rfl, e1, e2, rfl, e4, e5, e6⟩ := open_rows Tryz.underlying26 cellsSill (by decide) el_sill g3
      obtain ⟨lt, rfl⟩ := pairs_of a5
      obtain ⟨lf, rfl⟩ := ints_of b5
      obtain ⟨ls, rfl⟩ := triples_of e5
      obtain ⟨zs, k, -, -, -, zl, zg⟩ := DataW.trod_struct Tryz.underlying24 g1
      match zs, zl with
      | [z0, z1], _ =>
        have k0 : DataW.trod enc Tryz.prog w 0 (fun _ => true) true k 3 (([c1, c2].drop 0).take (Tryz.prog.cellsOf 3)) = some z0 := zg 0 _ rfl
        rw [cellsInt] at k0
        have k1 : DataW.trod enc Tryz.prog w 0 (fun _ => true) true k 3 (([c1, c2].drop 1).take (Tryz.prog.cellsOf 3)) = some z1 := zg 1 _ rfl
        rw [cellsInt] at k1
        simp only [List.drop_zero, List.drop_succ_cons, List.take_succ_cons, List.take_zero] at k0 k1
        obtain ⟨lo, hlo, -, -⟩ := DataW.trod_int Tryz.underlying3 k0
        obtain ⟨hi, hhi, -, -⟩ := DataW.trod_int Tryz.underlying3 k1
        simp only [List.cons.injEq, and_true] at hlo hhi
        subst hlo
        subst hhi
        have q0 : (pairs lt).length = lt.length := by simp [pairs]
        have q1 : (ints lf).length = lf.length := by simp [ints]
        have q2 : (triples ls).length = ls.length := by simp [triples]
        rw [q0] at a1
        rw [q1] at b1
        rw [q2] at e1
        refine ⟨⟨lt, lo, hi, lf, ls⟩, pT, pF, pS, cT, cF, cS, by simp only [sdVal, q0, q1, q2], ⟨a4, b4, e4, a1, b1, e1, a2, b2, e2⟩, ?_, ?_, ?_⟩
        · exact room_of Tryz.underlying22 bytesWater a1 a6 (fun n hn => hz n (.inl hn))
        · exact room_of Tryz.underlying25 bytesInt b1 b6 (fun n hn => hz n (.inr (.inr (.inl hn))))
        · exact room_of Tryz.underlying26 bytesSill e1 e6 (fun n hn => hz n (.inr (.inr (.inr hn))))
end
end Go.Proofs.YtknaajofcbenaaaGreat
namespace Go.Proofs.YtknaajofcbenaaaGreat
open Go.ChangeShapes Go.WideShapes Go.ChangeAt Go.RowKit

section
variable {H : Type} {enc : TypeId × Value → H} {P : Program}
/-- a slice that came in, as rows of k cells -/
theorem open_rowsR {w : World} {t e : TypeId} {fuel k : Nat} {Q : List Value → Prop} {v : Value} {x : DataW H × List MemPlace} (ht : P.underlying t = some (.slice e)) (hC : P.cellsOf e = k) (hk : 0 < k) (hQ : ∀ r, Q r → r.length = k)
    (hel : ∀ fuel cs y, DataW.trod enc P w 0 (fun _ => true) true fuel e cs = some y → Q cs) (h : DataW.trod enc P w 0 (fun _ => true) true fuel t [v] = some x) :
    ∃ p len cap rows, v = .slice p len cap ∧ len ≤ cap ∧ cap ≤ maxLen ∧ rows.length = len ∧ Row w p k rows ∧ (∀ r ∈ rows, Q r) ∧ ((x.1 = .nil ∧ cap = 0) ∨ ∃ el sp, x.1 = .slice el sp ∧ el.length + sp.length = cap) := by
  rcases Go.Deep.open_slice ht h with ⟨hv, rfl⟩ | ⟨a, len, cap, m, n, D, Pl, hv, -, hl, hm, hmm, rfl, hi⟩
  · simp only [List.cons.injEq, and_true] at hv
    exact ⟨none, 0, 0, [], hv, Nat.le_refl _, by simp [maxLen], rfl, fun i row hr => by simp at hr, fun r hr => by simp at hr, .inl ⟨rfl, rfl⟩⟩
  · simp only [List.cons.injEq, and_true] at hv
    simp only [if_true] at hmm
    subst hmm
    rw [hC] at hi
    have hch : ∀ i, ∃ cs, i < len → Q cs ∧ ∀ j c, cs[j]? = some c → w.cell? (a.add (i * k + j)) = some c := fun i => by
      by_cases hlt : i < len
      · obtain ⟨cs, hc, ht'⟩ := hi i (by omega)
        obtain ⟨-, hcl, hat⟩ := World.cells?_some hc
        refine ⟨cs, fun _ => ⟨hel _ _ _ ht', fun j c hj => ?_⟩⟩
        have hjl : j < k := by have := (List.getElem?_eq_some_iff.1 hj).1; omega
        rw [← Go.Deep.add_add, hat j hjl, hj]
      · exact ⟨[], fun h => absurd h hlt⟩
    obtain ⟨f, hf⟩ := Classical.axiomOfChoice hch
    refine ⟨some a, len, m, (List.range len).map f, hv, hl, hm, by simp, fun i row hr => ?_, fun r hr => ?_, .inr ⟨_, _, rfl, by simp; omega⟩⟩
    · rw [List.getElem?_map] at hr
      by_cases hlt : i < len
      · rw [List.getElem?_range hlt] at hr
        simp only [Option.map_some, Option.some.injEq] at hr
        subst hr
        obtain ⟨g2, g3⟩ := hf 0 (by omega)
        have g1 := hQ _ g2
        have h0 := g3 0 _ (List.getElem?_eq_getElem (by omega))
        have hs : a.spot = none := spot_of (by simpa [Addr.add] using h0)
        obtain ⟨b, off, sp⟩ := a
        simp only at hs
        subst hs
        refine ⟨b, off, rfl, fun j c hj => ?_⟩
        have := (hf i hlt).2 j c hj
        rwa [Addr.add_lit, ← Nat.add_assoc] at this
      · rw [List.getElem?_eq_none (by simp; omega)] at hr
        cases hr
    · simp only [List.mem_map, List.mem_range] at hr
      obtain ⟨i, hlt, rfl⟩ := hr
      exact (hf i hlt).1

end
section
variable {H : Type} {enc : TypeId × Value → H}
/-- a row of a look -/
def OneLook (r : List Value) : Prop := ∃ a b c, r = [.int .i64 a, .int .i64 b, .bool c]
theorem looks_of : ∀ {rows : List (List Value)}, (∀ r ∈ rows, OneLook r) → ∃ l : List Lk, rows = lrows l
  | [], _ => ⟨[], rfl⟩
  | r :: rest, h => by
    obtain ⟨l, hl⟩ := looks_of (rows := rest) (fun r hr => h r (by simp [hr]))
    obtain ⟨a, b, c, rfl⟩ := h r (by simp)
    exact ⟨(a, b, c) :: l, by rw [hl]; rfl⟩
theorem cellsLook : Tryz.prog.cellsOf 62 = 3 := by kernel_rfl
theorem cellsBool : Tryz.prog.cellsOf 4 = 1 := by kernel_rfl
set_option maxRecDepth 100000 in
theorem el_look {w : World} : ∀ fuel cs (y : DataW H × List MemPlace), DataW.trod enc Tryz.prog w 0 (fun _ => true) true fuel 62 cs = some y → OneLook cs := fun fuel cs y h => by
  obtain ⟨xs, n, -, -, hl, hxl, hg⟩ := DataW.trod_struct Tryz.underlying62 h
  rw [cellsLook] at hl
  match cs, hl with
  | [c0, c1, c2], _ =>
    match xs, hxl with
    | [z0, z1, z2], _ =>
      have k0 : DataW.trod enc Tryz.prog w 0 (fun _ => true) true n 3 (([c0, c1, c2].drop 0).take (Tryz.prog.cellsOf 3)) = some z0 := hg 0 _ rfl
      rw [cellsInt] at k0
      have k1 : DataW.trod enc Tryz.prog w 0 (fun _ => true) true n 3 (([c0, c1, c2].drop 1).take (Tryz.prog.cellsOf 3)) = some z1 := hg 1 _ rfl
      rw [cellsInt] at k1
      have k2 : DataW.trod enc Tryz.prog w 0 (fun _ => true) true n 4 (([c0, c1, c2].drop 2).take (Tryz.prog.cellsOf 4)) = some z2 := hg 2 _ rfl
      rw [cellsBool] at k2
      simp only [List.drop_zero, List.drop_succ_cons, List.take_succ_cons, List.take_zero] at k0 k1 k2
      obtain ⟨a, ha, -, -⟩ := DataW.trod_int Tryz.underlying3 k0
      obtain ⟨b, hb, -, -⟩ := DataW.trod_int Tryz.underlying3 k1
      obtain ⟨c, hc, -⟩ := DataW.trod_bool Tryz.underlying4 k2
      simp only [List.cons.injEq, and_true] at ha hb hc
      exact ⟨a, b, c, by rw [ha, hb, hc]⟩
set_option maxRecDepth 100000 in
theorem open_looks {w : World} {base : Nat} {v : Value} {d : DataW H} {ps : List MemPlace} (hv : Value.okWide Tryz.prog w .any base 59 v) (h : DataW.Trod enc Tryz.prog w 0 (fun _ => true) true 59 v d ps) :
    ∃ p l c, v = .slice p l.length c ∧ Row w p 3 (lrows l) := by
  obtain ⟨fuel, hf⟩ := h
  obtain ⟨p0, n0, c0, rfl⟩ := okWide_slice Tryz.underlying59 hv
  have hf' : DataW.trod enc Tryz.prog w 0 (fun _ => true) true fuel 59 [.slice p0 n0 c0] = some (d, ps) := hf
  obtain ⟨p, len, cap, rows, e, -, -, a3, a4, a5, -⟩ := open_rowsR (Q := OneLook) Tryz.underlying59 cellsLook (by decide) (fun r ⟨a, b, c, e⟩ => by rw [e]; rfl) el_look hf'
  obtain ⟨l, rfl⟩ := looks_of a5
  have q : (lrows l).length = l.length := by simp [lrows]
  rw [q] at a3
  subst a3
  exact ⟨p, l, cap, e, a4⟩
end

section
variable {pT pF pS : Option Addr} {cT cF cS : Nat}
set_option maxRecDepth 100000 in
set_option maxHeartbeats 1000000 in
theorem looksWide_c (s : Sd) (la : List Lk) (qa : Option Addr) (da : Nat) (w : World) (hw : wideB s = true ∨ 15 < la.length) :
    Calls Tryz.prog 4 #[sdVal s pT pF pS cT cF cS, .slice qa la.length da] w fun e w' => e = .returned (.bool true) ∧ Up w w' := by
  have HW := Lib.hid hw
  clear hw
  unfold sdVal
  go_enter Tryz.func4, Tryz.ntmps4
  go_wp2_with fail
  refine (wide_c s _).mono ?_
  rintro e w1 ⟨rfl, u1⟩
  have U1 : Hid (Up w w1) := Up.trans (by (repeat (first | exact Below.refl _ _ | (with_reducible refine Below.drewN' ?_ _) | (with_reducible refine Below.drew ?_) | (with_reducible refine Below.setCell ?_ (by first | exact Nat.le_refl _ | omega | (with_reducible (repeat (first | refine sz_alloc ?_ | refine sz_setCell ?_ | refine sz_drew ?_ | refine sz_drewN ?_)); first | exact Nat.le_refl _ | omega) | (simp only [World.size_alloc, World.size_setCell, World.size_drew, size_drewN']; omega)) _) | (with_reducible refine Below.alloc ?_ (by first | exact Nat.le_refl _ | omega | (with_reducible (repeat (first | refine sz_alloc ?_ | refine sz_setCell ?_ | refine sz_drew ?_ | refine sz_drewN ?_)); first | exact Nat.le_refl _ | omega) | (simp only [World.size_alloc, World.size_setCell, World.size_drew, size_drewN']; omega)) _) | assumption))) u1
  have HA := Lib.hid (awake_c w1)
  clear u1
  cases hb : wideB s with
  | true =>
    have HB := Lib.hid hb
    clear hb
    go_wp2_with fail
    all_goals
      refine HA.out.mono ?_
      rintro e w4 ⟨rfl, u4⟩
      have U4 := Lib.hid (Up.trans U1.out u4)
      clear u4 U1 HA
      go_wp2_with fail
      go_ret
      exact ⟨rfl, U4.out⟩
  | false =>
    have hw : 15 < la.length := by
      rcases HW.out with h | h
      · rw [hb] at h; cases h
      · exact h
    have HB := Lib.hid hb
    clear hb HW
    have g1 : (15 : Int) < (la.length : Int) := by omega
    go_wp2_with fail
    all_goals
      refine HA.out.mono ?_
      rintro e w4 ⟨rfl, u4⟩
      have U4 := Lib.hid (Up.trans U1.out u4)
      clear u4 U1 HA
      go_wp2_with fail
      go_ret
      exact ⟨rfl, U4.out⟩

theorem tideLooks_c (s : Sd) (la : List Lk) (qa : Option Addr) (da : Nat) (w : World) (hl : Lists w s pT pF pS cT cF cS) (ra : Row w qa 3 (lrows la)) (b1 : s.table.length * 16 ≤ 140737488355328) (b2 : s.floors.length * 8 ≤ 140737488355328) (b3 : s.sills.length * 24 ≤ 140737488355328) :
    Calls Tryz.prog 4 #[sdVal s pT pF pS cT cF cS, .slice qa la.length da] w fun e w' => e = .returned (.bool true) ∧ Up w w' := by
  by_cases h : wideB s = true ∨ 15 < la.length
  · exact looksWide_c s la qa da w h
  · have h1 : wideB s = false := by
      cases hb : wideB s
      · rfl
      · exact absurd (.inl hb) h
    exact looks_law s la qa da w hl ra b1 b2 b3 h1 (by omega)
end

set_option maxRecDepth 100000 in
theorem looks_contract (H : Type) (enc : TypeId × Value → H) (W : World) (base : Nat) (args : Array Value) (ds gs : List (DataW H)) (before : List MemPlace)
    (hval : ∀ (j : Nat) t v, Tryz.f4.params[j]? = some t → args[j]? = some v → Value.okWide Tryz.prog W .any base t v)
    (hW : DataW.Whole enc Tryz.prog Tryz.f4.params.toList Rows.tideLooksSpec.vars false W args.toList ds gs before)
    (hsz0 : (DataW.weightsEach Tryz.prog (Tryz.f4.params.toList ++ Rows.tideLooksSpec.plain.varTypes Tryz.prog) (ds ++ gs)).all (· ≤ reachBytes) = true) :
    Calls Tryz.prog 4 args W fun e W' => ∃ v, e = .returned v ∧ Rows.tideLooksSpec.post enc Tryz.prog Tryz.f4 false true false false W args v W' := by
  have hW' := hW
  obtain ⟨p, q, hA0, hV, rfl, -, -⟩ := hW
  have hA : DataW.TrodAll enc Tryz.prog W 0 (fun _ => true) true Tryz.f4.params.toList args.toList ds p := hA0
  rw [Tryz.params4] at hA hval
  obtain ⟨v0, vs0, d0, ds0, p0, q0, hargs, rfl, rfl, h0, r0⟩ := trodAll_cons hA
  obtain ⟨v1, vs1, d1, ds1, p1, q1, rfl, rfl, rfl, h1, r1⟩ := trodAll_cons r0
  obtain ⟨rfl, rfl, rfl⟩ := trodAll_nil r1
  obtain rfl : args = #[v0, v1] := by cases args; simp_all
  obtain ⟨rfl, rfl⟩ := trodVars_none hV
  have hz : ∀ n ∈ DataW.weights Tryz.prog 28 d0, n ≤ reachBytes := fun n hn => by
    have := List.all_eq_true.1 hsz0 n (DataW.weights_mem_each (j := 0) (t := 28) rfl rfl n hn)
    simpa using this
  obtain ⟨s, pT, pF, pS, cT, cF, cS, rfl, hl, b1, b2, b3⟩ := open_sands (hval 0 _ v0 rfl rfl) h0 hz
  obtain ⟨qa, la, da, rfl, ra⟩ := open_looks (hval 1 _ v1 rfl rfl) h1
  refine (tideLooks_c s la qa da W hl ra b1 b2 b3).mono fun e W' ⟨he, hb⟩ => ?_
  exact ⟨_, he, law_post hW' rfl laidOut (by kernel_rfl) rfl Tryz.underlying4 ⟨rfl, rfl, rfl⟩ hb⟩

set_option maxRecDepth 100000 in
theorem looks_lifted (os : Os) (started : os.Started) (H : Type) (enc : TypeId × Value → H) :
    ReturnsInHanded {} Tryz.checked os 4 .any (Rows.tideLooksSpec.pre6 enc Tryz.prog Tryz.f4 Rows.tideLooksRow.domain false) (Rows.tideLooksSpec.post enc Tryz.prog Tryz.f4 false true false false) := by
  refine returnsInHanded_of_change_sized (C := Tryz.checked) own started (by kernel_rfl) Tryz.func4
    (ChangeSpec.witness6 (enc := enc) (C := Tryz.checked) false ⟨#[], #[.agg #[.slice none 0 0, .int .i64 0, .int .i64 0, .slice none 0 0, .slice none 0 0], .slice none 0 0], []⟩ 8 (by kernel_rfl) (by kernel_rfl) (by kernel_rfl) (by kernel_rfl)) ?_
  intro W base args ds gs before hval hW _ hsz _
  exact looks_contract H enc W base args ds gs before hval hW hsz

theorem looks_holds : Rows.TideLooksSaid :=
  OpenClaim.holds_of_wide 4 Tryz.f4 rfl rfl rfl rfl rfl rfl rfl ⟨rfl, rfl, rfl, rfl, rfl⟩ rfl rfl rfl rfl rfl (by kernel_rfl) Tryz.func4 (by kernel_rfl)
    (of_decide_eq_true (by kernel_rfl)) (by unfold Func.isWrapper; first | (rw [if_pos (by decide +kernel)]; kernel_rfl) | (rw [if_neg (by decide +kernel)]; exact ⟨rfl, rfl⟩))
    (fun os started H enc _ => looks_lifted os started H enc)
#print axioms looks_holds
end Go.Proofs.YtknaajofcbenaaaGreat
