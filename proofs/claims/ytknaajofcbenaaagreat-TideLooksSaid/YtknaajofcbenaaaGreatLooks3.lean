import Derived.Test.YtknaajofcbenaaaGreatBase
import Derived.Test.YtknaajofcbenaaaGreatHeight
import Derived.Test.YtknaajofcbenaaaGreatChk
import Derived.Test.YtknaajofcbenaaaGreatChk2
import Derived.Test.YtknaajofcbenaaaGreatCheck
import Derived.Test.YtknaajofcbenaaaGreatOn
import Derived.Test.YtknaajofcbenaaaGreatRound
import Derived.Test.YtknaajofcbenaaaGreatLower
import Derived.Test.YtknaajofcbenaaaGreatGates
import Derived.Test.YtknaajofcbenaaaGreatBegin
import Derived.Test.YtknaajofcbenaaaGreatBegin2
import Derived.Test.YtknaajofcbenaaaGreatState
import Derived.Test.YtknaajofcbenaaaGreatSpans
import Derived.Test.YtknaajofcbenaaaGreatFits
import Derived.Test.YtknaajofcbenaaaGreatLooks
import Derived.Test.YtknaajofcbenaaaGreatLooks2
import Derived.WalkKit
import Derived.WalkSpells
import Derived.WalkLawsBesides
import Derived.Deep.QuietTactic
import Derived.BigQuiet
import Derived.Lib.Hide
import Derived.Shelf.Abstract
import Derived.BigGuardPart
import Derived.RangeFuncNested
import Derived.RangeFuncBound
import Derived.RangeFuncCalls
import Derived.RangeFuncLeaves
import Derived.Shelf.RegionOpen
import Derived.OwnWalkIn
import Derived.TacticsInMore
import Derived.LoopNIn
import Derived.LoopIn
import Derived.Deep.RegionHeld3
import Derived.StillTail
import Derived.StillTailTactics
import Derived.RangeFuncWrites
import Derived.Laws.StructEq
import Derived.Deep.LoopGhost
import Derived.IntWalk
import Derived.RangeFuncBox
namespace Go.Proofs.YtknaajofcbenaaaGreat
open Go.RowKit Go.Shelf

theorem lkErr_zero (s : Sd) : ∀ (l : List Lk), lkErr s l = 0 → ∀ x ∈ l, inDay s x.1 = true ∧ isPl s x.2.1 = true
  | [], _, x, hx => by cases hx
  | y :: r, h, x, hx => by
    unfold lkErr at h
    by_cases h1 : inDay s y.1 = true
    · rw [if_pos h1] at h
      by_cases h2 : isPl s y.2.1 = true
      · rw [if_pos h2] at h
        rcases List.mem_cons.1 hx with rfl | hx
        · exact ⟨h1, h2⟩
        · exact lkErr_zero s r h x hx
      · rw [if_neg h2] at h; cases h
    · rw [if_neg h1] at h; cases h
theorem errLooks_zero {s : Sd} {l : List Lk} (h : errLooks s l = 0) : chk s = 0 ∧ l.length ≤ 10 ∧ ∀ x ∈ l, firstM s.table ≤ x.1 ∧ ∃ p : Nat, x.2.1 = p ∧ p < s.floors.length ∧ p < 8 := by
  unfold errLooks at h
  by_cases hc : chk s = 0
  · rw [if_pos hc] at h
    by_cases h10 : 10 < l.length
    · rw [if_pos h10] at h; cases h
    · rw [if_neg h10] at h
      refine ⟨hc, by omega, fun x hx => ?_⟩
      obtain ⟨h1, h2⟩ := lkErr_zero s l h x hx
      refine ⟨(inB_true.1 h1).1, ?_⟩
      have h3 := inB_true.1 h2
      obtain ⟨n, hn⟩ := Int.eq_ofNat_of_zero_le h3.1
      have := (chk_ok hc).fl1
      exact ⟨n, hn, by omega, by omega⟩
  · rw [if_neg hc] at h; exact absurd h hc

def lkOf (s : Sd) (z : Int × Int) (l : List Lk) : Int × Int := l.foldl (fun z x => com z (truV s x)) z
def looksE (s : Sd) (l : List Lk) : Int := if errLooks s l = 0 then (if siz (lkOf s (s.lo, s.hi) l) = 0 then 7 else 0) else errLooks s l
def looksV (s : Sd) (l : List Lk) : Int × Int := if looksE s l = 0 then lkOf s (s.lo, s.hi) l else (0, 0)
def Near (z : Int × Int) : Prop := -5000 ≤ z.1 ∧ z.1 ≤ 5000 ∧ -5000 ≤ z.2 ∧ z.2 ≤ 5000
theorem Near.com {a b : Int × Int} (ha : Near a) (hb : Near b) : Near (com a b) := by
  obtain ⟨a1, a2, a3, a4⟩ := ha
  obtain ⟨b1, b2, b3, b4⟩ := hb
  unfold Near Go.Proofs.YtknaajofcbenaaaGreat.com
  dsimp only
  refine ⟨?_, ?_, ?_, ?_⟩ <;> simp only [Int.max_def, Int.min_def] <;> split <;> omega
theorem truV_near {s : Sd} (ok : Ok s) (x : Lk) (hm : firstM s.table ≤ x.1) : Near (truV s x) := by
  obtain ⟨r0, r1⟩ := hgt_rng ok.table x.1 hm
  obtain ⟨r2, r3⟩ := gateOf_rng s x.2.1.toNat
  have b0 := ok.lo0
  have b1 := ok.hi1
  have b2 := ok.lohi
  unfold truV
  split
  · exact Near.com ⟨by dsimp only; omega, by dsimp only; omega, by dsimp only; omega, by dsimp only; omega⟩ ⟨by dsimp only; omega, by dsimp only; omega, by dsimp only; omega, by dsimp only; omega⟩
  · exact Near.com ⟨by dsimp only; omega, by dsimp only; omega, by dsimp only; omega, by dsimp only; omega⟩ ⟨by dsimp only; omega, by dsimp only; omega, by dsimp only; omega, by dsimp only; omega⟩

section
variable {pT pF pS : Option Addr} {cT cF cS : Nat}

set_option maxRecDepth 100000 in
set_option maxHeartbeats 2000000 in
theorem Looks_c (s : Sd) (l : List Lk) (pL : Option Addr) (cL : Nat) (w : World) (hl : Lists w s pT pF pS cT cF cS) (hr : Row w pL 3 (lrows l)) (hln : l.length ≤ maxLen) :
    Calls Tryz.prog 30 #[sdVal s pT pF pS cT cF cS, .slice pL l.length cL] w fun e w' => e = .returned (.tuple #[.agg #[.int .i64 (looksV s l).1, .int .i64 (looksV s l).2], .int .i64 (looksE s l)]) ∧ Up w w' := by
  have HC := Lib.hid (fun W (u : Up w W) => beginLooks_c s l pL cL W (hl.up u) (hr.up u) hln)
  have HR := Lib.hid hr
  clear hl hr
  by_cases hE : errLooks s l = 0
  · obtain ⟨hc, h10, hx⟩ := errLooks_zero hE
    have HO := Lib.hid (chk_ok hc)
    have HX := Lib.hid hx
    have HE := Lib.hid (show looksE s l = if siz (lkOf s (s.lo, s.hi) l) = 0 then 7 else 0 by unfold looksE; rw [if_pos hE])
    rw [hE] at HC
    clear hE hc hx
    unfold sdVal at *
    go_enter Tryz.func30, Tryz.ntmps30
    go_wp2_with fail
    refine Calls.world ?_
    intro w0 hw0
    have u0 : Up w w0 := by rw [hw0]; (repeat (first | exact Below.refl _ _ | (with_reducible refine Below.drewN' ?_ _) | (with_reducible refine Below.drew ?_) | (with_reducible refine Below.setCell ?_ (by first | exact Nat.le_refl _ | omega | (with_reducible (repeat (first | refine sz_alloc ?_ | refine sz_setCell ?_ | refine sz_drew ?_ | refine sz_drewN ?_)); first | exact Nat.le_refl _ | omega) | (simp only [World.size_alloc, World.size_setCell, World.size_drew, size_drewN']; omega)) _) | (with_reducible refine Below.alloc ?_ (by first | exact Nat.le_refl _ | omega | (with_reducible (repeat (first | refine sz_alloc ?_ | refine sz_setCell ?_ | refine sz_drew ?_ | refine sz_drewN ?_)); first | exact Nat.le_refl _ | omega) | (simp only [World.size_alloc, World.size_setCell, World.size_drew, size_drewN']; omega)) _) | assumption))
    have hB : Blk w0 (w.heap.size + 1) [.int .i64 0, .int .i64 0] 24 := by rw [hw0]; exact Blk.new' _ [.int .i64 0, .int .i64 0] _ (by simp)
    clear hw0
    refine (HC.out _ u0).mono ?_
    rintro e w1 ⟨p, rfl, u1, hok⟩
    obtain ⟨bw, rfl, hW⟩ := hok rfl
    have U1 := Lib.hid (Up.trans u0 u1)
    have HW := Lib.hid hW
    have HB := Lib.hid (hB.up u1)
    have d1 := hW.sands.s1
    have d2 := hW.sands.s2
    clear hok hW u1 u0 HC hB
    go_wp2_with fail
    refine Code.wp_world ?_
    intro w2 hw2
    have u2 : Up w1 w2 := by rw [hw2]; (repeat (first | exact Below.refl _ _ | (with_reducible refine Below.drewN' ?_ _) | (with_reducible refine Below.drew ?_) | (with_reducible refine Below.setCell ?_ (by first | exact Nat.le_refl _ | omega | (with_reducible (repeat (first | refine sz_alloc ?_ | refine sz_setCell ?_ | refine sz_drew ?_ | refine sz_drewN ?_)); first | exact Nat.le_refl _ | omega) | (simp only [World.size_alloc, World.size_setCell, World.size_drew, size_drewN']; omega)) _) | (with_reducible refine Below.alloc ?_ (by first | exact Nat.le_refl _ | omega | (with_reducible (repeat (first | refine sz_alloc ?_ | refine sz_setCell ?_ | refine sz_drew ?_ | refine sz_drewN ?_)); first | exact Nat.le_refl _ | omega) | (simp only [World.size_alloc, World.size_setCell, World.size_drew, size_drewN']; omega)) _) | assumption))
    have hL : Blk w2 w1.heap.size [.int .i64 s.lo, .int .i64 s.hi] 24 := by rw [hw2]; exact Blk.new w1 _ _
    have HLw := Lib.hid hL
    have U2 := Lib.hid u2
    have s2 := u2.size
    obtain ⟨bL, hbL⟩ : ∃ bL, w1.heap.size = bL := ⟨_, rfl⟩
    rw [hbL] at HLw ⊢
    clear hw2 u2 hL d1 d2
    have N0 : Near (s.lo, s.hi) := by have b0 := HO.out.lo0; have b1 := HO.out.hi1; have b2 := HO.out.lohi; exact ⟨by dsimp only; omega, by dsimp only; omega, by dsimp only; omega, by dsimp only; omega⟩
    go_loopw [28] (fun i wr => ∃ (k : Nat) (z : Int × Int), k ≤ l.length ∧ i = .int .i64 k ∧ lkOf s (s.lo, s.hi) l = lkOf s z (l.drop k) ∧ Near z ∧ Blk wr bL [.int .i64 z.1, .int .i64 z.2] 24 ∧ Up w1 wr) (fun i _ => l.length - (intOf i).toNat)
    case atStart => exact ⟨0, (s.lo, s.hi), Nat.zero_le _, rfl, rfl, N0, HLw.out, U2.out⟩
    case round =>
      obtain ⟨k, z, hk, rfl, ht, hz, hL, hu⟩ := hrel
      have HT := Lib.hid ht
      have HU := Lib.hid hu
      have HZ := Lib.hid hz
      have HL := Lib.hid hL
      have hsz := hu.size
      clear ht hu hz hL
      by_cases hlt : k < l.length
      · obtain ⟨b, off, rfl, d0, d1, d2⟩ := HR.out.look k hlt
        have e0 := HU.out.cellAt (U1.out.cellAt d0)
        have e1 := HU.out.cellAt (U1.out.cellAt d1)
        have e2 := HU.out.cellAt (U1.out.cellAt d2)
        obtain ⟨hm, p, hpx, hpf, hp8⟩ := HX.out l[k] (List.getElem_mem hlt)
        clear d0 d1 d2
        have hdr : l.drop k = l[k] :: l.drop (k + 1) := List.drop_eq_getElem_cons hlt
        have HDR := Lib.hid hdr
        have NT := Lib.hid (truV_near HO.out l[k] hm)
        clear hdr
        generalize l[k] = x at *
        obtain ⟨xm, xp, xw⟩ := x
        dsimp only at e0 e1 e2 hm hpx
        subst hpx
        go_wp2_with fail
        refine Code.wp_world ?_
        intro w3 hw3
        have u3 : Up wr w3 := by rw [hw3]; (repeat (first | exact Below.refl _ _ | (with_reducible refine Below.drewN' ?_ _) | (with_reducible refine Below.drew ?_) | (with_reducible refine Below.setCell ?_ (by first | exact Nat.le_refl _ | omega | (with_reducible (repeat (first | refine sz_alloc ?_ | refine sz_setCell ?_ | refine sz_drew ?_ | refine sz_drewN ?_)); first | exact Nat.le_refl _ | omega) | (simp only [World.size_alloc, World.size_setCell, World.size_drew, size_drewN']; omega)) _) | (with_reducible refine Below.alloc ?_ (by first | exact Nat.le_refl _ | omega | (with_reducible (repeat (first | refine sz_alloc ?_ | refine sz_setCell ?_ | refine sz_drew ?_ | refine sz_drewN ?_)); first | exact Nat.le_refl _ | omega) | (simp only [World.size_alloc, World.size_setCell, World.size_drew, size_drewN']; omega)) _) | assumption))
        have hB : Blk w3 wr.heap.size [.int .i64 xm, .int .i64 p, .bool xw] 62 := by rw [hw3]; exact Blk.new wr _ _
        have hL3 := HL.out.up u3
        have U3 := Lib.hid (Up.trans HU.out u3)
        clear hw3 e0 e1 e2
        have b0 := hB.cell 0
        have b1 := hB.cell 1
        have b2 := hB.cell 2
        have c0 := hL3.cell 0
        have c1 := hL3.cell 1
        simp only [List.getElem?_cons_zero, List.getElem?_cons_succ] at b0 b1 b2 c0 c1
        refine region_tail (fun W' => W'.cell? ⟨wr.heap.size, 0, none⟩ = some (.int .i64 xm) ∧ W'.cell? ⟨wr.heap.size, 1, none⟩ = some (.int .i64 p) ∧ W'.cell? ⟨wr.heap.size, 2, none⟩ = some (.bool xw) ∧ W'.cell? ⟨bL, 0, none⟩ = some (.int .i64 z.1) ∧ W'.cell? ⟨bL, 1, none⟩ = some (.int .i64 z.2) ∧ Up w3 W') 5 mixed (by kernel_rfl) ⟨b0, b1, b2, c0, c1, (Below.refl _ _).drew⟩ (fun hHeld => ?_)
        refine wpAnyG_take 0 32 (v := ?_) rfl rfl (by kernel_rfl) (fun _ _ _ h => h) (Or.inl ⟨by rfl, ?_⟩) (by assumption) ?_
        rotate_left
        · (intro w' hSw; (try dsimp only at hSw); go_split_ands; go_simp; try with_reducible rfl)
        try simp only [List.setIfInBounds_toArray, List.set_cons_zero, List.set_cons_succ]
        refine wpAnyG_take 1 33 (v := ?_) rfl rfl (by kernel_rfl) (fun _ _ _ h => h) (Or.inl ⟨by rfl, ?_⟩) (by assumption) ?_
        rotate_left
        · (intro w' hSw; (try dsimp only at hSw); go_split_ands; go_simp; try with_reducible rfl)
        try simp only [List.setIfInBounds_toArray, List.set_cons_zero, List.set_cons_succ]
        refine wpAnyG_take 2 34 (v := ?_) rfl rfl (by kernel_rfl) (fun _ _ _ h => h) (Or.inl ⟨by rfl, ?_⟩) (by assumption) ?_
        rotate_left
        · (intro w' hSw; (try dsimp only at hSw); go_split_ands; go_simp; try with_reducible rfl)
        try simp only [List.setIfInBounds_toArray, List.set_cons_zero, List.set_cons_succ]
        refine wpAnyG_do 3 rfl (by kernel_rfl) (fun K hK => ?_)
        rw [if_pos (by rfl)]
        go_simp
        refine (truths_c bw s xm p xw _ (HW.out.up (Up.trans U3.out ((Below.refl _ _).drew))) HO.out hm hp8).mono ?_
        rintro e w4 ⟨rfl, u4⟩
        have u4' : Up w3 w4 := Up.trans ((Below.refl _ _).drew) u4
        refine hK.out _ _ ⟨u4'.cellAt b0, u4'.cellAt b1, u4'.cellAt b2, u4'.cellAt c0, u4'.cellAt c1, u4'⟩ (fun hHeld => ?_)
        clear hK K
        refine wpAnyG_do 4 rfl (by kernel_rfl) (fun K hK => ?_)
        rw [if_pos (by rfl)]
        go_simp
        refine (common_c _ _ _ _ _).mono ?_
        rintro e w5 ⟨rfl, u5⟩
        have u5' : Up w3 w5 := Up.trans u4' u5
        refine hK.out _ _ ⟨u5'.cellAt b0, u5'.cellAt b1, u5'.cellAt b2, u5'.cellAt c0, u5'.cellAt c1, u5'⟩ (fun hHeld => ?_)
        clear hK K
        have c5 := u5'.cellAt c0
        have c6 := u5'.cellAt c1
        have hL5 := hL3.up u5'
        have f5 := hL5.free
        have l5 := hL5.lt
        refine wpAnyG_tail (by kernel_rfl) ?_
        go_wp2
        go_roundw
        case rel =>
          have hT : lkOf s (s.lo, s.hi) l = lkOf s (com z (truV s (xm, ↑p, xw))) (l.drop (k + 1)) := by rw [HT.out, HDR.out]; rfl
          refine ⟨k + 1, com z (truV s (xm, ↑p, xw)), hlt, by go_num, hT, HZ.out.com NT.out, ?_, ?_⟩
          · have h := (hL5.set 0 (.int .i64 (com z (truV s (xm, ↑p, xw))).1)).set 1 (.int .i64 (com z (truV s (xm, ↑p, xw))).2)
            simpa only [List.set_cons_zero, List.set_cons_succ] using h
          · have h4 := Up.trans U3.out u5'
            repeat (first | (with_reducible exact h4) | (with_reducible refine Below.drew ?_) | (with_reducible refine Below.setCell ?_ (by simp only []; omega) _))
        case measure => simp [intOf]; omega
      · obtain rfl : k = l.length := by omega
        have hT : lkOf s (s.lo, s.hi) l = z := by rw [HT.out]; simp [lkOf]
        rw [hT] at HE
        have HTz := Lib.hid hT
        obtain ⟨za, zb⟩ := z
        obtain ⟨n1, n2, n3, n4⟩ := HZ.out
        have c0 := HL.out.cell 0
        have c1 := HL.out.cell 1
        dsimp only at n1 n2 n3 n4
        simp only [List.getElem?_cons_zero, List.getElem?_cons_succ] at c0 c1
        have U4 := Lib.hid (Up.trans U1.out HU.out)
        have hB := HB.out.up HU.out
        have q0 := hB.cell 0
        have q1 := hB.cell 1
        have fr := hB.free
        have lB := hB.lt
        simp only [List.getElem?_cons_zero, List.getElem?_cons_succ] at q0 q1
        have HBw := Lib.hid hB
        clear hT hB
        go_wp2_with fail
        refine (size_c za zb _ (by omega) (by omega) (by omega) (by omega)).mono ?_
        rintro e w3 ⟨rfl, u3⟩
        have U5 := Lib.hid (Up.trans U4.out u3)
        have hB3 := HBw.out.up u3
        have q2 := hB3.cell 0
        have q3 := hB3.cell 1
        have fr3 := hB3.free
        have lB3 := hB3.lt
        have c2 := u3.cellAt c0
        have c3 := u3.cellAt c1
        simp only [List.getElem?_cons_zero, List.getElem?_cons_succ] at q2 q3
        clear u3 c0 c1 q0 q1 fr lB
        by_cases hs : siz (za, zb) = 0
        · rw [if_pos hs] at HE
          have HV := Lib.hid (show looksV s l = (0, 0) by unfold looksV; rw [HE.out, if_neg (by decide)])
          rw [hs]
          go_wp2_with fail
          have p0 := (hB3.set 0 (.int .i64 0)).cell 0
          have p1 := ((hB3.set 0 (.int .i64 0)).set 1 (.int .i64 0)).cell 1
          simp only [List.set_cons_zero, List.set_cons_succ, List.getElem?_cons_zero, List.getElem?_cons_succ] at p0 p1
          refine bodyPost_ret (v := .tuple #[.agg #[.int .i64 0, .int .i64 0], .int .i64 7]) (by simp [results, Tryz.f30, go_sem, p0, p1]) rfl ⟨by rw [HV.out, HE.out], ?_⟩
          have h4 := U5.out
          repeat (first | (with_reducible exact h4) | (with_reducible refine Below.drew ?_) | (with_reducible refine Below.setCell ?_ (by simp only []; omega) _))
        · rw [if_neg hs] at HE
          have HV := Lib.hid (show looksV s l = (za, zb) by unfold looksV; rw [HE.out, if_pos rfl, HTz.out])
          go_wp2_with fail
          have p0 := (hB3.set 0 (.int .i64 za)).cell 0
          have p1 := ((hB3.set 0 (.int .i64 za)).set 1 (.int .i64 zb)).cell 1
          simp only [List.set_cons_zero, List.set_cons_succ, List.getElem?_cons_zero, List.getElem?_cons_succ] at p0 p1
          refine bodyPost_ret (v := .tuple #[.agg #[.int .i64 za, .int .i64 zb], .int .i64 0]) (by simp [results, Tryz.f30, go_sem, p0, p1]) rfl ⟨by rw [HV.out, HE.out], ?_⟩
          have h4 := U5.out
          repeat (first | (with_reducible exact h4) | (with_reducible refine Below.drew ?_) | (with_reducible refine Below.setCell ?_ (by simp only []; omega) _))
  · have hne : (errLooks s l != 0) = true := by rw [bne_iff_ne]; exact hE
    have HE := Lib.hid (show looksE s l = errLooks s l by unfold looksE; rw [if_neg hE])
    have HV := Lib.hid (show looksV s l = (0, 0) by unfold looksV; rw [HE.out, if_neg hE])
    clear hE
    unfold sdVal at *
    go_enter Tryz.func30, Tryz.ntmps30
    go_wp2_with fail
    refine Calls.world ?_
    intro w0 hw0
    have u0 : Up w w0 := by rw [hw0]; (repeat (first | exact Below.refl _ _ | (with_reducible refine Below.drewN' ?_ _) | (with_reducible refine Below.drew ?_) | (with_reducible refine Below.setCell ?_ (by first | exact Nat.le_refl _ | omega | (with_reducible (repeat (first | refine sz_alloc ?_ | refine sz_setCell ?_ | refine sz_drew ?_ | refine sz_drewN ?_)); first | exact Nat.le_refl _ | omega) | (simp only [World.size_alloc, World.size_setCell, World.size_drew, size_drewN']; omega)) _) | (with_reducible refine Below.alloc ?_ (by first | exact Nat.le_refl _ | omega | (with_reducible (repeat (first | refine sz_alloc ?_ | refine sz_setCell ?_ | refine sz_drew ?_ | refine sz_drewN ?_)); first | exact Nat.le_refl _ | omega) | (simp only [World.size_alloc, World.size_setCell, World.size_drew, size_drewN']; omega)) _) | assumption))
    have hB : Blk w0 (w.heap.size + 1) [.int .i64 0, .int .i64 0] 24 := by rw [hw0]; exact Blk.new' _ [.int .i64 0, .int .i64 0] _ (by simp)
    clear hw0
    refine (HC.out _ u0).mono ?_
    rintro e w1 ⟨p, rfl, u1, -⟩
    have hB1 := hB.up u1
    have U1 := Lib.hid (Up.trans u0 u1)
    have q0 := hB1.cell 0
    have q1 := hB1.cell 1
    have fr := hB1.free
    have lB := hB1.lt
    simp only [List.getElem?_cons_zero, List.getElem?_cons_succ] at q0 q1
    clear u1 u0 HC hB
    go_wp2_with fail
    have p0 := (hB1.set 0 (.int .i64 0)).cell 0
    have p1 := ((hB1.set 0 (.int .i64 0)).set 1 (.int .i64 0)).cell 1
    simp only [List.set_cons_zero, List.set_cons_succ, List.getElem?_cons_zero, List.getElem?_cons_succ] at p0 p1
    refine bodyPost_ret (v := .tuple #[.agg #[.int .i64 0, .int .i64 0], .int .i64 (errLooks s l)]) (by simp [results, Tryz.f30, go_sem, p0, p1]) rfl ⟨by rw [HV.out, HE.out], ?_⟩
    have h4 := U1.out
    repeat (first | (with_reducible exact h4) | (with_reducible refine Below.drew ?_) | (with_reducible refine Below.setCell ?_ (by simp only []; omega) _))
end
end Go.Proofs.YtknaajofcbenaaaGreat
