import Derived.Test.YtknaajofcbenaaaGreatBase
import Derived.Test.YtknaajofcbenaaaGreatHeight
import Derived.Test.YtknaajofcbenaaaGreatChk
import Derived.Test.YtknaajofcbenaaaGreatEvery
import Derived.Test.YtknaajofcbenaaaGreatChk2
import Derived.Test.YtknaajofcbenaaaGreatCheck
import Derived.Test.YtknaajofcbenaaaGreatOn
import Derived.Test.YtknaajofcbenaaaGreatLower
import Derived.Test.YtknaajofcbenaaaGreatGates
import Derived.Test.YtknaajofcbenaaaGreatBegin
import Derived.Test.YtknaajofcbenaaaGreatBegin2
import Derived.Test.YtknaajofcbenaaaGreatSpans
import Derived.Test.YtknaajofcbenaaaGreatFits
import Derived.Test.YtknaajofcbenaaaGreatQue
import Derived.Test.YtknaajofcbenaaaGreatLead
import Derived.Test.YtknaajofcbenaaaGreatWaysF
import Derived.Test.YtknaajofcbenaaaGreatLeast
import Derived.Test.YtknaajofcbenaaaGreatCounted
import Derived.Test.YtknaajofcbenaaaGreatHoldW
import Derived.WalkKit
import Derived.WalkSpells
import Derived.WalkLawsBesides
import Derived.Deep.QuietTactic
import Derived.BigQuiet
import Derived.Lib.Hide
import Derived.Shelf.Abstract
import Derived.BigGuardPart
import Derived.RangeFuncNested
import Derived.RangeFuncBound
import Derived.RangeFuncCalls
import Derived.RangeFuncLeaves
import Derived.Shelf.RegionOpen
import Derived.OwnWalkIn
import Derived.TacticsInMore
import Derived.LoopNIn
import Derived.LoopIn
import Derived.StillTailTactics
import Derived.Deep.RegionHeld3
import Derived.StillTail
import Derived.RangeFuncWrites
import Derived.Laws.StructEq
import Derived.Deep.LoopGhost
import Derived.IntWalk
import Derived.RangeFuncBox
import Derived.ArgAppend
import Derived.Laws.CopyOwn
import Derived.OwnWalk
import Derived.Lib.SliceRun
import Derived.Maps.OwnOps
import Derived.Maps.OwnSet
namespace Go.Proofs.YtknaajofcbenaaaGreat
open Go.RowKit Go.Shelf Go.Maps

theorem isSill_c (b : Nat) (p : Option Addr) (n c : Nat) (x : Int) (w : World) (h : w.cell? ⟨b, 4, none⟩ = some (.slice p n c)) (hn : n ≤ maxLen) :
    Calls Tryz.prog 107 #[.pointer (some ⟨b, 0, none⟩), .int .i64 x] w fun e w' => e = .returned (.bool (inB x 0 (n - 1))) ∧ w = w' := by
  unfold maxLen at hn
  go_enter Tryz.func107, Tryz.ntmps107
  go_wp2_with (go_at_call 112; refine (within_c _ _ _ _).mono ?_; rintro e w' ⟨rfl, rfl⟩)
  go_ret
  exact ⟨rfl, rfl⟩
theorem en_isSill : Enters Tryz.prog 107 := enters_of Tryz.func107 (by kernel_rfl) rfl
theorem en_hold : Enters Tryz.prog 108 := enters_of Tryz.func108 (by kernel_rfl) rfl

def isSi (s : Sd) (x : Int) : Bool := inB x 0 (s.sills.length - 1)
def errHold (s : Sd) (x : Int) (ss ps : List Int) : Int :=
  if errFor s x = 0 then
    if ss.all (isSi s) = true ∧ ps.all (isPl s) = true then
      if ss.Nodup ∧ ps.Nodup then
        if wayAt (waysOf s (mayHold ss ps)) x = none then (if ss = [] ∧ ps = [] then 6 else 0) else 8
      else 5
    else 1
  else errFor s x
def holdV (s : Sd) (x : Int) (ss ps : List Int) : Int := if errHold s x ss ps = 0 then leastF s (leastS s 999 ss) ps else 0
theorem sl_neq (W : World) (a : Option Addr) (n c : Nat) : (binOp .neq 25 (.slice a n c) (.slice none 0 0)).run Tryz.prog W = .ok (.bool a.isSome) W := by
  cases a <;> simp [binOp, Op.equal, Op.maxDepth, Lib.run_equalIn_slice_nil W 9999 25 3 _ n c 0 0 Tryz.underlying25]

section
variable {pT pF pS : Option Addr} {cT cF cS : Nat}
set_option maxRecDepth 100000 in
set_option maxHeartbeats 4000000 in
theorem Hold_c (s : Sd) (x : Int) (ss ps : List Int) (p1 p2 : Option Addr) (c1 c2 : Nat) (w : World) (hl : Lists w s pT pF pS cT cF cS) (h1 : Row w p1 1 (ints ss)) (h2 : Row w p2 1 (ints ps)) (l1 : ss.length ≤ 10000) (l2 : ps.length ≤ 10000) :
    Calls Tryz.prog 44 #[sdVal s pT pF pS cT cF cS, .int .i64 x, .slice p1 ss.length c1, .slice p2 ps.length c2] w fun e w' => e = .returned (.tuple #[.int .i64 (holdV s x ss ps), .int .i64 (errHold s x ss ps)]) ∧ Up w w' := by
  have HC := Lib.hid (fun W (u : Up w W) => beginFor_c s x W (hl.up u))
  have H1 := Lib.hid h1
  have H2 := Lib.hid h2
  clear hl h1 h2
  by_cases hE : errFor s x = 0
  · have hc : chk s = 0 := by
      unfold errFor at hE
      by_cases hk : chk s = 0
      · exact hk
      · rw [if_neg hk] at hE; exact absurd hE hk
    have hok := chk_ok hc
    obtain ⟨hx0, hx8⟩ := errFor_zero hE
    obtain ⟨n, rfl⟩ := Int.eq_ofNat_of_zero_le hx0
    have m2 := hok.fl1
    have m3 := hok.sl
    have HO := Lib.hid hok
    have HV := Lib.hid (show errHold s n ss ps = if ss.all (isSi s) = true ∧ ps.all (isPl s) = true then (if ss.Nodup ∧ ps.Nodup then (if wayAt (waysOf s (mayHold ss ps)) n = none then (if ss = [] ∧ ps = [] then 6 else 0) else 8) else 5) else 1 by unfold errHold; rw [if_pos hE])
    rw [hE] at HC
    have hml : ∀ k : Nat, k ≤ 10000 → k ≤ maxLen := fun k hk => by simp only [maxLen]; omega
    clear hok hE hc
    unfold sdVal at *
    go_enter Tryz.func44, Tryz.ntmps44
    go_wp2_with fail
    refine (HC.out _ (by (repeat (first | exact Below.refl _ _ | (with_reducible refine Below.drewN' ?_ _) | (with_reducible refine Below.drew ?_) | (with_reducible refine Below.setCell ?_ (by first | exact Nat.le_refl _ | omega | (with_reducible (repeat (first | refine sz_alloc ?_ | refine sz_setCell ?_ | refine sz_drew ?_ | refine sz_drewN ?_)); first | exact Nat.le_refl _ | omega) | (simp only [World.size_alloc, World.size_setCell, World.size_drew, size_drewN']; omega)) _) | (with_reducible refine Below.alloc ?_ (by first | exact Nat.le_refl _ | omega | (with_reducible (repeat (first | refine sz_alloc ?_ | refine sz_setCell ?_ | refine sz_drew ?_ | refine sz_drewN ?_)); first | exact Nat.le_refl _ | omega) | (simp only [World.size_alloc, World.size_setCell, World.size_drew, size_drewN']; omega)) _) | assumption)))).mono ?_
    rintro e w1 ⟨p, rfl, u1, hok⟩
    obtain ⟨bw, rfl, hW⟩ := hok rfl
    have U1 := Lib.hid (Up.trans (show Up w (w.alloc (.cells (sdCells s pT pF pS cT cF cS).toArray 28)) by (repeat (first | exact Below.refl _ _ | (with_reducible refine Below.drewN' ?_ _) | (with_reducible refine Below.drew ?_) | (with_reducible refine Below.setCell ?_ (by first | exact Nat.le_refl _ | omega | (with_reducible (repeat (first | refine sz_alloc ?_ | refine sz_setCell ?_ | refine sz_drew ?_ | refine sz_drewN ?_)); first | exact Nat.le_refl _ | omega) | (simp only [World.size_alloc, World.size_setCell, World.size_drew, size_drewN']; omega)) _) | (with_reducible refine Below.alloc ?_ (by first | exact Nat.le_refl _ | omega | (with_reducible (repeat (first | refine sz_alloc ?_ | refine sz_setCell ?_ | refine sz_drew ?_ | refine sz_drewN ?_)); first | exact Nat.le_refl _ | omega) | (simp only [World.size_alloc, World.size_setCell, World.size_drew, size_drewN']; omega)) _) | assumption))) u1)
    have HW := Lib.hid hW
    clear hok hW u1 HC
    go_wp2_with fail
    refine (everyInt_c 107 #[.pointer (some ⟨bw, 0, none⟩)] #[] p1 c1 ss (isSi s) _ (H1.out.up U1.out) (hml _ l1) en_isSill (fun y _ W u => (isSill_c bw _ _ _ y W (HW.out.up u).sands.s4 (by simp only [maxLen]; omega)).mono fun e w' ⟨h, k⟩ => ⟨h, k ▸ Below.refl _ _⟩)).mono ?_
    rintro e w2 ⟨rfl, u2⟩
    have U2 := Lib.hid (Up.trans U1.out u2)
    have HW2 := Lib.hid (HW.out.up u2)
    clear u2 HW
    cases ha : ss.all (isSi s) with
    | false =>
      have HX := Lib.hid (show errHold s n ss ps = 1 by rw [HV.out, ha]; simp)
      have HY := Lib.hid (show holdV s n ss ps = 0 by unfold holdV; rw [HX.out]; rfl)
      clear ha
      go_wp2_with fail
      go_ret2
      rw [HX.out, HY.out]
      exact ⟨rfl, U2.out⟩
    | true =>
      go_wp2_with fail
      refine (everyInt_c 71 #[.pointer (some ⟨bw, 0, none⟩)] #[] p2 c2 ps (isPl s) _ (H2.out.up U2.out) (hml _ l2) en_isPlace (fun y _ W u => (isPlace_c bw _ _ _ y W (HW2.out.up u).sands.s3 (by simp only [maxLen]; omega)).mono fun e w' ⟨h, k⟩ => ⟨h, k ▸ Below.refl _ _⟩)).mono ?_
      rintro e w3 ⟨rfl, u3⟩
      have U3 := Lib.hid (Up.trans U2.out u3)
      have HW3 := Lib.hid (HW2.out.up u3)
      clear u3 HW2
      cases hb : ps.all (isPl s) with
      | false =>
        have HX := Lib.hid (show errHold s n ss ps = 1 by rw [HV.out, hb]; simp)
        have HY := Lib.hid (show holdV s n ss ps = 0 by unfold holdV; rw [HX.out]; rfl)
        clear ha hb
        go_wp2_with fail
        go_ret2
        rw [HX.out, HY.out]
        exact ⟨rfl, U3.out⟩
      | true =>
        rw [if_pos ⟨ha, hb⟩] at HV
        have gs : ∀ i ∈ ss, 0 ≤ i ∧ i < s.sills.length := fun i hi => by have := inB_true.1 (List.all_eq_true.1 ha i hi); omega
        have gp : ∀ i ∈ ps, 0 ≤ i ∧ i < s.floors.length := fun i hi => by have := inB_true.1 (List.all_eq_true.1 hb i hi); omega
        have GS := Lib.hid gs
        have GP := Lib.hid gp
        clear ha hb gs gp
        go_wp2_with fail
        refine (counted_c ss p1 c1 w3 (H1.out.up U3.out) l1 (fun x hx => by have := GS.out x hx; omega)).mono ?_
        rintro e w4 ⟨rfl, ⟨D1, hD1, ho1⟩, u4⟩
        obtain ⟨g1, hg1⟩ : ∃ g, w3.heap.size = g := ⟨_, rfl⟩
        rw [hg1] at ho1 ⊢
        have C1 := Lib.hid hD1
        have U4 := Lib.hid (Up.trans U3.out u4)
        have HW4 := Lib.hid (HW3.out.up u4)
        clear u4 HW3 hD1 hg1
        go_wp2_with fail
        refine (counted_c ps p2 c2 w4 (H2.out.up U4.out) l2 (fun x hx => by have := GP.out x hx; omega)).mono ?_
        rintro e w5 ⟨rfl, ⟨D2, hD2, ho2⟩, u5⟩
        obtain ⟨g2, hg2⟩ : ∃ g, w4.heap.size = g := ⟨_, rfl⟩
        rw [hg2] at ho2 ⊢
        have C2 := Lib.hid hD2
        have U5 := Lib.hid (Up.trans U4.out u5)
        have HW5 := Lib.hid (HW4.out.up u5)
        have O1 := Lib.hid (ownsMap_up ho1 u5)
        have O2 := Lib.hid ho2
        clear u5 HW4 hD2 hg2 ho1 ho2
        obtain ⟨z1, hz1⟩ : ∃ z : Nat, Maps.size D1 = z := ⟨_, rfl⟩
        obtain ⟨z2, hz2⟩ : ∃ z : Nat, Maps.size D2 = z := ⟨_, rfl⟩
        have hn1 := fun ty => ((O1.out.alloc (.cells #[.map (some g1)] 119)).alloc (.cells #[.map (some g2)] 119)).len Tryz.underlying119 ty
        have hn2 := fun ty => ((O2.out.alloc (.cells #[.map (some g1)] 119)).alloc (.cells #[.map (some g2)] 119)).len Tryz.underlying119 ty
        rw [hz1] at hn1
        rw [hz2] at hn2
        have hle1 : z1 ≤ ss.length := hz1 ▸ C1.out.le
        have hle2 : z2 ≤ ps.length := hz2 ▸ C2.out.le
        have nd1 : z1 = ss.length ↔ ss.Nodup := hz1 ▸ C1.out.nodup
        have nd2 : z2 = ps.length ↔ ps.Nodup := hz2 ▸ C2.out.nodup
        clear hz1 hz2
        by_cases hd : ss.Nodup ∧ ps.Nodup
        · rw [if_pos hd] at HV
          have e1 : z1 = ss.length := nd1.2 hd.1
          have e2 : z2 = ps.length := nd2.2 hd.2
          subst e1 e2
          clear nd1 nd2 hd hle1 hle2
          go_wp2_with fail
          refine Calls.world ?_
          intro w6 hw6
          have u6 : Up w5 w6 := by rw [hw6]; (repeat (first | exact Below.refl _ _ | (with_reducible refine Below.drewN' ?_ _) | (with_reducible refine Below.drew ?_) | (with_reducible refine Below.setCell ?_ (by first | exact Nat.le_refl _ | omega | (with_reducible (repeat (first | refine sz_alloc ?_ | refine sz_setCell ?_ | refine sz_drew ?_ | refine sz_drewN ?_)); first | exact Nat.le_refl _ | omega) | (simp only [World.size_alloc, World.size_setCell, World.size_drew, size_drewN']; omega)) _) | (with_reducible refine Below.alloc ?_ (by first | exact Nat.le_refl _ | omega | (with_reducible (repeat (first | refine sz_alloc ?_ | refine sz_setCell ?_ | refine sz_drew ?_ | refine sz_drewN ?_)); first | exact Nat.le_refl _ | omega) | (simp only [World.size_alloc, World.size_setCell, World.size_drew, size_drewN']; omega)) _) | assumption))
          have h6 : w6.cell? ⟨w5.heap.size, 0, none⟩ = some (.map (some g1)) := by rw [hw6]; exact ((Blk.new w5 [.map (some g1)] _).alloc _).cell 0
          have h8 : w6.cell? ⟨w5.heap.size + 1, 0, none⟩ = some (.map (some g2)) := by rw [hw6]; exact (Blk.new' _ [.map (some g2)] _ (by simp)).cell 0
          clear hw6 hn1 hn2
          have hm := wants_hold ss ps w5.heap.size (w5.heap.size + 1) g1 g2 _ _ D1 D2 C1.out C2.out s.sills.length s.floors.length (by omega) (by omega) w6 h6 h8 (ownsMap_up O1.out u6) (ownsMap_up O2.out u6)
          refine (ways_c bw s w6 (HW5.out.sands.up u6) m2 m3 HO.out.good 108 _ _ _ hm en_hold).mono ?_
          rintro e w7 ⟨vs, qv, rfl, l8, q8, qs, hw, u7⟩
          have U7 := Lib.hid (Up.trans U5.out (Up.trans u6 u7))
          have HW7 := Lib.hid ((HW5.out.up u6).up u7)
          have hn8 : n < 8 := by omega
          have hn8' : (n : Int) < 8 := by omega
          have sl : ∀ (i : Nat) v, vs[i]? = some v → ∃ p n c, v = .slice p n c := fun i v hv => by
            have hi : i < 8 := by have := (List.getElem?_eq_some_iff.1 hv).1; omega
            exact (hw i v _ hv (List.getElem?_eq_getElem (by omega))).slice
          obtain ⟨o, ho⟩ : ∃ o, (waysOf s (mayHold ss ps))[n]? = some o := ⟨_, List.getElem?_eq_getElem (by omega)⟩
          have HVo := Lib.hid (show wayAt (waysOf s (mayHold ss ps)) n = o by unfold wayAt; rw [Int.toNat_natCast, ho]; rfl)
          have hvn : vs[n]? = some (vs[n]'(by omega)) := List.getElem?_eq_getElem (by omega)
          have hrow := hw n _ o hvn ho
          obtain ⟨v0, v1, v2, v3, v4, v5, v6, v7, rfl⟩ : ∃ a b c d e f h i, vs = [a, b, c, d, e, f, h, i] := by
            match vs, l8 with
            | [a, b, c, d, e, f, h, i], _ => exact ⟨a, b, c, d, e, f, h, i, rfl⟩
          obtain ⟨p0, n0, e0, rfl⟩ : ∃ p n c, v0 = .slice p n c := sl 0 v0 rfl
          obtain ⟨p1', n1, e1, rfl⟩ : ∃ p n c, v1 = .slice p n c := sl 1 v1 rfl
          obtain ⟨p2', n2, e2, rfl⟩ : ∃ p n c, v2 = .slice p n c := sl 2 v2 rfl
          obtain ⟨p3, n3, e3, rfl⟩ : ∃ p n c, v3 = .slice p n c := sl 3 v3 rfl
          obtain ⟨p4, n4, e4, rfl⟩ : ∃ p n c, v4 = .slice p n c := sl 4 v4 rfl
          obtain ⟨p5, n5, e5, rfl⟩ : ∃ p n c, v5 = .slice p n c := sl 5 v5 rfl
          obtain ⟨p6, n6, e6, rfl⟩ : ∃ p n c, v6 = .slice p n c := sl 6 v6 rfl
          obtain ⟨p7, n7, e7, rfl⟩ : ∃ p n c, v7 = .slice p n c := sl 7 v7 rfl
          have c9 := (Blk.new w7 [.slice p0 n0 e0, .slice p1' n1 e1, .slice p2' n2 e2, .slice p3 n3 e3, .slice p4 n4 e4, .slice p5 n5 e5, .slice p6 n6 e6, .slice p7 n7 e7] 139).cell n
          rw [hvn] at c9
          have hsl := sl_neq
          cases o with
          | some lw =>
            obtain ⟨-, gg, eg, -⟩ := hrow
            rw [eg] at c9
            have HX := Lib.hid (show errHold s n ss ps = 8 by rw [HV.out, HVo.out]; simp)
            have HY := Lib.hid (show holdV s n ss ps = 0 by unfold holdV; rw [HX.out]; rfl)
            clear hw sl u6 u7 h6 h8 hm hvn qs l8 q8 eg
            go_wp2_with fail
            go_ret2
            rw [HX.out, HY.out]
            exact ⟨rfl, Up.trans U7.out (by (repeat (first | exact Below.refl _ _ | (with_reducible refine Below.drewN' ?_ _) | (with_reducible refine Below.drew ?_) | (with_reducible refine Below.setCell ?_ (by first | exact Nat.le_refl _ | omega | (with_reducible (repeat (first | refine sz_alloc ?_ | refine sz_setCell ?_ | refine sz_drew ?_ | refine sz_drewN ?_)); first | exact Nat.le_refl _ | omega) | (simp only [World.size_alloc, World.size_setCell, World.size_drew, size_drewN']; omega)) _) | (with_reducible refine Below.alloc ?_ (by first | exact Nat.le_refl _ | omega | (with_reducible (repeat (first | refine sz_alloc ?_ | refine sz_setCell ?_ | refine sz_drew ?_ | refine sz_drewN ?_)); first | exact Nat.le_refl _ | omega) | (simp only [World.size_alloc, World.size_setCell, World.size_drew, size_drewN']; omega)) _) | assumption)))⟩
          | none =>
            have eg : _ = Value.slice none 0 0 := hrow
            rw [eg] at c9
            have HX := Lib.hid (show errHold s n ss ps = if ss = [] ∧ ps = [] then 6 else 0 by rw [HV.out, HVo.out]; simp)
            clear hw sl u6 u7 h6 h8 hm hvn qs l8 q8 eg hrow
            by_cases hnil : ss = [] ∧ ps = []
            · have HXn := Lib.hid (show errHold s n ss ps = 6 by rw [HX.out, if_pos hnil])
              have HY := Lib.hid (show holdV s n ss ps = 0 by unfold holdV; rw [HXn.out]; rfl)
              have k1 : (ss.length : Int) = 0 := by rw [hnil.1]; rfl
              have k2 : (ps.length : Int) = 0 := by rw [hnil.2]; rfl
              have q1 : ss.length = 0 := by omega
              have q2 : ps.length = 0 := by omega
              clear hnil
              go_wp2_with fail
              go_ret2
              rw [HXn.out, HY.out]
              exact ⟨rfl, Up.trans U7.out (by (repeat (first | exact Below.refl _ _ | (with_reducible refine Below.drewN' ?_ _) | (with_reducible refine Below.drew ?_) | (with_reducible refine Below.setCell ?_ (by first | exact Nat.le_refl _ | omega | (with_reducible (repeat (first | refine sz_alloc ?_ | refine sz_setCell ?_ | refine sz_drew ?_ | refine sz_drewN ?_)); first | exact Nat.le_refl _ | omega) | (simp only [World.size_alloc, World.size_setCell, World.size_drew, size_drewN']; omega)) _) | (with_reducible refine Below.alloc ?_ (by first | exact Nat.le_refl _ | omega | (with_reducible (repeat (first | refine sz_alloc ?_ | refine sz_setCell ?_ | refine sz_drew ?_ | refine sz_drewN ?_)); first | exact Nat.le_refl _ | omega) | (simp only [World.size_alloc, World.size_setCell, World.size_drew, size_drewN']; omega)) _) | assumption)))⟩
            · have HXn := Lib.hid (show errHold s n ss ps = 0 by rw [HX.out, if_neg hnil])
              have HY := Lib.hid (show holdV s n ss ps = leastF s (leastS s 999 ss) ps by unfold holdV; rw [HXn.out]; rfl)
              have hd' : ¬ ss.length = 0 ∨ (ss.length = 0 ∧ ¬ ps.length = 0) := by
                by_cases h1 : ss.length = 0
                · refine .inr ⟨h1, fun h2 => hnil ⟨List.eq_nil_of_length_eq_zero h1, List.eq_nil_of_length_eq_zero h2⟩⟩
                · exact .inl h1
              clear hnil
              have HL := Lib.hid (fun (W : World) (u : Up w7 W) => least_c bw s ss ps p1 p2 c1 c2 W (HW7.out.up u).sands m2 m3 (H1.out.up (Up.trans U7.out u)) (H2.out.up (Up.trans U7.out u)) l1 l2 GS.out GP.out)
              rcases hd' with hd | ⟨hd0, hd⟩
              · go_wp2_with fail
                refine (HL.out _ (by (repeat (first | exact Below.refl _ _ | (with_reducible refine Below.drewN' ?_ _) | (with_reducible refine Below.drew ?_) | (with_reducible refine Below.setCell ?_ (by first | exact Nat.le_refl _ | omega | (with_reducible (repeat (first | refine sz_alloc ?_ | refine sz_setCell ?_ | refine sz_drew ?_ | refine sz_drewN ?_)); first | exact Nat.le_refl _ | omega) | (simp only [World.size_alloc, World.size_setCell, World.size_drew, size_drewN']; omega)) _) | (with_reducible refine Below.alloc ?_ (by first | exact Nat.le_refl _ | omega | (with_reducible (repeat (first | refine sz_alloc ?_ | refine sz_setCell ?_ | refine sz_drew ?_ | refine sz_drewN ?_)); first | exact Nat.le_refl _ | omega) | (simp only [World.size_alloc, World.size_setCell, World.size_drew, size_drewN']; omega)) _) | assumption)))).mono ?_
                rintro e w8 ⟨rfl, u8⟩
                have U8 := Lib.hid (Up.trans (Up.trans U7.out (by (repeat (first | exact Below.refl _ _ | (with_reducible refine Below.drewN' ?_ _) | (with_reducible refine Below.drew ?_) | (with_reducible refine Below.setCell ?_ (by first | exact Nat.le_refl _ | omega | (with_reducible (repeat (first | refine sz_alloc ?_ | refine sz_setCell ?_ | refine sz_drew ?_ | refine sz_drewN ?_)); first | exact Nat.le_refl _ | omega) | (simp only [World.size_alloc, World.size_setCell, World.size_drew, size_drewN']; omega)) _) | (with_reducible refine Below.alloc ?_ (by first | exact Nat.le_refl _ | omega | (with_reducible (repeat (first | refine sz_alloc ?_ | refine sz_setCell ?_ | refine sz_drew ?_ | refine sz_drewN ?_)); first | exact Nat.le_refl _ | omega) | (simp only [World.size_alloc, World.size_setCell, World.size_drew, size_drewN']; omega)) _) | assumption)))) u8)
                clear u8 HL
                go_wp2_with fail
                go_ret2
                rw [HXn.out, HY.out]
                exact ⟨rfl, U8.out⟩
              · go_wp2_with fail
                rw [hd0] at HL
                refine (HL.out _ (by (repeat (first | exact Below.refl _ _ | (with_reducible refine Below.drewN' ?_ _) | (with_reducible refine Below.drew ?_) | (with_reducible refine Below.setCell ?_ (by first | exact Nat.le_refl _ | omega | (with_reducible (repeat (first | refine sz_alloc ?_ | refine sz_setCell ?_ | refine sz_drew ?_ | refine sz_drewN ?_)); first | exact Nat.le_refl _ | omega) | (simp only [World.size_alloc, World.size_setCell, World.size_drew, size_drewN']; omega)) _) | (with_reducible refine Below.alloc ?_ (by first | exact Nat.le_refl _ | omega | (with_reducible (repeat (first | refine sz_alloc ?_ | refine sz_setCell ?_ | refine sz_drew ?_ | refine sz_drewN ?_)); first | exact Nat.le_refl _ | omega) | (simp only [World.size_alloc, World.size_setCell, World.size_drew, size_drewN']; omega)) _) | assumption)))).mono ?_
                rintro e w8 ⟨rfl, u8⟩
                have U8 := Lib.hid (Up.trans (Up.trans U7.out (by (repeat (first | exact Below.refl _ _ | (with_reducible refine Below.drewN' ?_ _) | (with_reducible refine Below.drew ?_) | (with_reducible refine Below.setCell ?_ (by first | exact Nat.le_refl _ | omega | (with_reducible (repeat (first | refine sz_alloc ?_ | refine sz_setCell ?_ | refine sz_drew ?_ | refine sz_drewN ?_)); first | exact Nat.le_refl _ | omega) | (simp only [World.size_alloc, World.size_setCell, World.size_drew, size_drewN']; omega)) _) | (with_reducible refine Below.alloc ?_ (by first | exact Nat.le_refl _ | omega | (with_reducible (repeat (first | refine sz_alloc ?_ | refine sz_setCell ?_ | refine sz_drew ?_ | refine sz_drewN ?_)); first | exact Nat.le_refl _ | omega) | (simp only [World.size_alloc, World.size_setCell, World.size_drew, size_drewN']; omega)) _) | assumption)))) u8)
                clear u8 HL
                go_wp2_with fail
                go_ret2
                rw [HXn.out, HY.out]
                exact ⟨rfl, U8.out⟩
        · rw [if_neg hd] at HV
          have HY := Lib.hid (show holdV s n ss ps = 0 by unfold holdV; rw [HV.out]; rfl)
          have hd' : z1 < ss.length ∨ (z1 = ss.length ∧ z2 < ps.length) := by
            rcases Nat.lt_or_ge z1 ss.length with h | h
            · exact .inl h
            · have e1 : z1 = ss.length := by omega
              refine .inr ⟨e1, ?_⟩
              rcases Nat.lt_or_ge z2 ps.length with h' | h'
              · exact h'
              · exact absurd ⟨nd1.1 e1, nd2.1 (by omega)⟩ hd
          clear nd1 nd2 hd hle1 hle2
          rcases hd' with hd | ⟨rfl, hd⟩
          · have hd' : (z1 : Int) < (ss.length : Int) := by omega
            go_wp2_with fail
            go_ret2
            rw [HV.out, HY.out]
            exact ⟨rfl, Up.trans U5.out (by (repeat (first | exact Below.refl _ _ | (with_reducible refine Below.drewN' ?_ _) | (with_reducible refine Below.drew ?_) | (with_reducible refine Below.setCell ?_ (by first | exact Nat.le_refl _ | omega | (with_reducible (repeat (first | refine sz_alloc ?_ | refine sz_setCell ?_ | refine sz_drew ?_ | refine sz_drewN ?_)); first | exact Nat.le_refl _ | omega) | (simp only [World.size_alloc, World.size_setCell, World.size_drew, size_drewN']; omega)) _) | (with_reducible refine Below.alloc ?_ (by first | exact Nat.le_refl _ | omega | (with_reducible (repeat (first | refine sz_alloc ?_ | refine sz_setCell ?_ | refine sz_drew ?_ | refine sz_drewN ?_)); first | exact Nat.le_refl _ | omega) | (simp only [World.size_alloc, World.size_setCell, World.size_drew, size_drewN']; omega)) _) | assumption)))⟩
          · have hd' : (z2 : Int) < (ps.length : Int) := by omega
            go_wp2_with fail
            go_ret2
            rw [HV.out, HY.out]
            exact ⟨rfl, Up.trans U5.out (by (repeat (first | exact Below.refl _ _ | (with_reducible refine Below.drewN' ?_ _) | (with_reducible refine Below.drew ?_) | (with_reducible refine Below.setCell ?_ (by first | exact Nat.le_refl _ | omega | (with_reducible (repeat (first | refine sz_alloc ?_ | refine sz_setCell ?_ | refine sz_drew ?_ | refine sz_drewN ?_)); first | exact Nat.le_refl _ | omega) | (simp only [World.size_alloc, World.size_setCell, World.size_drew, size_drewN']; omega)) _) | (with_reducible refine Below.alloc ?_ (by first | exact Nat.le_refl _ | omega | (with_reducible (repeat (first | refine sz_alloc ?_ | refine sz_setCell ?_ | refine sz_drew ?_ | refine sz_drewN ?_)); first | exact Nat.le_refl _ | omega) | (simp only [World.size_alloc, World.size_setCell, World.size_drew, size_drewN']; omega)) _) | assumption)))⟩
  · have hne : (errFor s x != 0) = true := by rw [bne_iff_ne]; exact hE
    have HX := Lib.hid (show errHold s x ss ps = errFor s x by unfold errHold; rw [if_neg hE])
    have HY := Lib.hid (show holdV s x ss ps = 0 by unfold holdV; rw [HX.out, if_neg hE])
    clear hE
    unfold sdVal at *
    go_enter Tryz.func44, Tryz.ntmps44
    go_wp2_with fail
    refine (HC.out _ (by (repeat (first | exact Below.refl _ _ | (with_reducible refine Below.drewN' ?_ _) | (with_reducible refine Below.drew ?_) | (with_reducible refine Below.setCell ?_ (by first | exact Nat.le_refl _ | omega | (with_reducible (repeat (first | refine sz_alloc ?_ | refine sz_setCell ?_ | refine sz_drew ?_ | refine sz_drewN ?_)); first | exact Nat.le_refl _ | omega) | (simp only [World.size_alloc, World.size_setCell, World.size_drew, size_drewN']; omega)) _) | (with_reducible refine Below.alloc ?_ (by first | exact Nat.le_refl _ | omega | (with_reducible (repeat (first | refine sz_alloc ?_ | refine sz_setCell ?_ | refine sz_drew ?_ | refine sz_drewN ?_)); first | exact Nat.le_refl _ | omega) | (simp only [World.size_alloc, World.size_setCell, World.size_drew, size_drewN']; omega)) _) | assumption)))).mono ?_
    rintro e w1 ⟨p, rfl, u1, -⟩
    have U1 := Lib.hid (Up.trans (show Up w (w.alloc (.cells (sdCells s pT pF pS cT cF cS).toArray 28)) by (repeat (first | exact Below.refl _ _ | (with_reducible refine Below.drewN' ?_ _) | (with_reducible refine Below.drew ?_) | (with_reducible refine Below.setCell ?_ (by first | exact Nat.le_refl _ | omega | (with_reducible (repeat (first | refine sz_alloc ?_ | refine sz_setCell ?_ | refine sz_drew ?_ | refine sz_drewN ?_)); first | exact Nat.le_refl _ | omega) | (simp only [World.size_alloc, World.size_setCell, World.size_drew, size_drewN']; omega)) _) | (with_reducible refine Below.alloc ?_ (by first | exact Nat.le_refl _ | omega | (with_reducible (repeat (first | refine sz_alloc ?_ | refine sz_setCell ?_ | refine sz_drew ?_ | refine sz_drewN ?_)); first | exact Nat.le_refl _ | omega) | (simp only [World.size_alloc, World.size_setCell, World.size_drew, size_drewN']; omega)) _) | assumption))) u1)
    clear u1 HC
    go_wp2_with fail
    go_ret2
    rw [HX.out, HY.out]
    exact ⟨rfl, U1.out⟩
end
end Go.Proofs.YtknaajofcbenaaaGreat
