import Derived.Test.YtknaajofcbenaaaGreatBase
import Derived.Test.YtknaajofcbenaaaGreatHeight
import Derived.Test.YtknaajofcbenaaaGreatChk2
import Derived.Test.YtknaajofcbenaaaGreatCheck
import Derived.Test.YtknaajofcbenaaaGreatOn
import Derived.Test.YtknaajofcbenaaaGreatLower
import Derived.Test.YtknaajofcbenaaaGreatGates
import Derived.Test.YtknaajofcbenaaaGreatBegin
import Derived.Test.YtknaajofcbenaaaGreatBegin2
import Derived.Test.YtknaajofcbenaaaGreatAll
import Derived.Test.YtknaajofcbenaaaGreatSpans
import Derived.Test.YtknaajofcbenaaaGreatFits
import Derived.WalkKit
import Derived.WalkSpells
import Derived.WalkLawsBesides
import Derived.Deep.QuietTactic
import Derived.BigQuiet
import Derived.Lib.Hide
import Derived.Shelf.Abstract
import Derived.BigGuardPart
import Derived.RangeFuncNested
import Derived.RangeFuncBound
import Derived.RangeFuncCalls
import Derived.RangeFuncLeaves
import Derived.Shelf.RegionOpen
import Derived.OwnWalkIn
import Derived.TacticsInMore
import Derived.LoopNIn
import Derived.LoopIn
import Derived.StillTailTactics
import Derived.Deep.RegionHeld3
import Derived.StillTail
import Derived.RangeFuncWrites
import Derived.Laws.StructEq
import Derived.Deep.LoopGhost
import Derived.IntWalk
import Derived.RangeFuncBox
namespace Go.Proofs.YtknaajofcbenaaaGreat
open Go.RowKit Go.Shelf

def spSt (f : Int → Bool) (a : Int) : Nat → List (Int × Int) × Int × Bool
  | 0 => ([], 0, false)
  | k + 1 => if f (a + k) then (if (spSt f a k).2.2 then spSt f a k else ((spSt f a k).1, a + k, true))
      else (if (spSt f a k).2.2 then ((spSt f a k).1 ++ [((spSt f a k).2.1, a + k - 1)], (spSt f a k).2.1, false) else spSt f a k)
/-- the spans of the n minutes from a on of which f is true -/
def spansOf (f : Int → Bool) (a : Int) (n : Nat) : List (Int × Int) :=
  if (spSt f a n).2.2 then (spSt f a n).1 ++ [((spSt f a n).2.1, a + n - 1)] else (spSt f a n).1
def spc (l : List (Int × Int)) : List Value := l.flatMap fun x => [.int .i64 x.1, .int .i64 x.2]
theorem spc_snoc (l : List (Int × Int)) (a b : Int) : spc (l ++ [(a, b)]) = spc l ++ [.int .i64 a, .int .i64 b] := by simp [spc]
theorem spSt_len (f : Int → Bool) (a : Int) : ∀ k, (spSt f a k).1.length ≤ k
  | 0 => Nat.le_refl _
  | k + 1 => by
    have := spSt_len f a k
    unfold spSt
    split
    · split <;> (simp; omega)
    · split <;> (simp; omega)
theorem spc_get : ∀ (l : List (Int × Int)) (i : Nat) (h : i < l.length), (spc l)[i * 2]? = some (.int .i64 l[i].1) ∧ (spc l)[i * 2 + 1]? = some (.int .i64 l[i].2)
  | x :: r, 0, _ => ⟨rfl, rfl⟩
  | x :: r, i + 1, h => by
    have := spc_get r i (by simpa using h)
    simp only [spc, List.flatMap_cons] at this ⊢
    rw [show (i + 1) * 2 = i * 2 + 2 by omega, show i * 2 + 2 + 1 = (i * 2 + 1) + 2 by omega]
    simpa using this

theorem row_of_owns {w : World} {n₀ : Nat} {T : TypeId} {v : Value} {l : List (Int × Int)} (h : w.ownsRow n₀ T 2 v l.length (spc l)) : ∃ p c, v = .slice p l.length c ∧ l.length ≤ c ∧ c ≤ maxLen ∧ Row w p 2 (pairs l) := by
  rcases h.2 with ⟨rfl, h0⟩ | ⟨g, cap, cur, rfl, _, hg, h1, h2, _, _⟩
  · have : l = [] := List.eq_nil_of_length_eq_zero h0
    subst this
    exact ⟨none, 0, rfl, Nat.le_refl _, by simp [maxLen], Row.nil _ _ _⟩
  · refine ⟨_, _, rfl, h1, h2, fun i row hi => ⟨g, 0, rfl, fun j x hj => ?_⟩⟩
    simp only [pairs, List.getElem?_map, Option.map_eq_some_iff] at hi
    obtain ⟨y, hy, rfl⟩ := hi
    obtain ⟨hil, rfl⟩ := List.getElem?_eq_some_iff.1 hy
    obtain ⟨k0, k1⟩ := spc_get l i hil
    match j, hj with
    | 0, hj =>
      simp only [List.getElem?_cons_zero, Option.some.injEq] at hj
      subst hj
      rw [Nat.zero_add, Nat.add_zero, h.cellAt _ (by omega)]
      exact k0
    | 1, hj =>
      simp only [List.getElem?_cons_zero, List.getElem?_cons_succ, Option.some.injEq] at hj
      subst hj
      rw [Nat.zero_add, h.cellAt _ (by omega)]
      exact k1
    | j + 2, hj => simp at hj

theorem en_close : Enters Tryz.prog 140 := enters_of Tryz.func140 (by kernel_rfl) rfl

theorem firstM_lt {l : List (Int × Int)} (ok : okTable l) : 0 ≤ firstM l ∧ firstM l < lastM l ∧ lastM l ≤ 1440 := by
  obtain ⟨o1, o2, o3, o4⟩ := ok
  have e1 : firstM l = l[0].1 := by simp [firstM, List.getElem?_eq_getElem (show 0 < l.length by omega)]
  have e2 : lastM l = (l[l.length - 1]'(by omega)).1 := by simp [lastM, List.getElem?_eq_getElem (show l.length - 1 < l.length by omega)]
  have key : ∀ k (h : k < l.length), 0 < k → l[0].1 < l[k].1 := by
    intro k
    induction k with
    | zero => intro _ h; omega
    | succ k ih =>
      intro h _
      have h1 := o2 k h
      by_cases hk : k = 0
      · subst hk; exact h1
      · have := ih (by omega) (by omega); omega
  rw [e1, e2]
  exact ⟨(o1 _ (List.getElem_mem _)).1, key _ _ (by omega), (o1 _ (List.getElem_mem _)).2.1⟩

/-- how many minutes the day has -/
def dayN (s : Sd) : Nat := (lastM s.table - firstM s.table + 1).toNat

section
variable {pT pF pS : Option Addr} {cT cF cS : Nat}

set_option maxRecDepth 100000 in
set_option maxHeartbeats 2000000 in
theorem spans_c (bw f : Nat) (pre post : Array Value) (pd : Int → Bool) (s : Sd) (ps : List Int) (pp : Option Addr) (c : Nat) (w : World) (hw : IsWork w bw s pT pF pS cT cF cS) (ok : Ok s)
    (hr : Row w pp 1 (ints ps)) (hps : ∀ p ∈ ps, 0 ≤ p ∧ p < 8) (hpl : ps.length ≤ maxLen) (eg : Enters Tryz.prog f) (hwt : Wants f pre post pd w) :
    Calls Tryz.prog 114 #[.agg #[.pointer (some ⟨bw, 0, none⟩), .slice pp ps.length c, .func (.func f) pre post]] w fun e w' => ∃ p c', e = .returned (.slice p (spansOf (fitB s ps pd) (firstM s.table) (dayN s)).length c') ∧
      (spansOf (fitB s ps pd) (firstM s.table) (dayN s)).length ≤ c' ∧ c' ≤ maxLen ∧ Row w' p 2 (pairs (spansOf (fitB s ps pd) (firstM s.table) (dayN s))) ∧ Up w w' := by
  obtain ⟨hf0, hfl, hl9⟩ := firstM_lt ok.table
  obtain ⟨-, -, ht2, ht12⟩ := ok.table
  have hn : ((dayN s : Nat) : Int) = lastM s.table - firstM s.table + 1 := by unfold dayN; omega
  have hn9 : dayN s ≤ 1441 := by omega
  have s1 : IntKind.i64.wrap (lastM s.table - firstM s.table) = lastM s.table - firstM s.table := IntWalk.i64_in _ (by omega)
  have s2 : IntKind.i64.wrap (lastM s.table - firstM s.table + 1) = (dayN s : Nat) := by rw [IntWalk.i64_in _ (by omega)]; omega
  have HFI := Lib.hid (fun W (u : Up w W) => first_c bw s W (hw.sands.up u) ht2)
  have HLA := Lib.hid (fun W (u : Up w W) => last_c bw s W (hw.sands.up u) ht2 ht12)
  have HFT := Lib.hid (fun m W (u : Up w W) (hm : firstM s.table ≤ m) => fits_c bw f pre post pd s m ps pp c W (hw.up u) ok hm (hr.up u) hps hpl eg (hwt.up u))
  clear hw hr hps hpl eg hwt
  go_enter Tryz.func114, Tryz.ntmps114
  go_wp2_with fail
  refine Code.wp_world ?_
  intro w0 hw0
  have u0 : Up w w0 := by rw [hw0]; (repeat (first | exact Below.refl _ _ | (with_reducible refine Below.drewN' ?_ _) | (with_reducible refine Below.drew ?_) | (with_reducible refine Below.setCell ?_ (by first | exact Nat.le_refl _ | omega | (with_reducible (repeat (first | refine sz_alloc ?_ | refine sz_setCell ?_ | refine sz_drew ?_ | refine sz_drewN ?_)); first | exact Nat.le_refl _ | omega) | (simp only [World.size_alloc, World.size_setCell, World.size_drew, size_drewN']; omega)) _) | (with_reducible refine Below.alloc ?_ (by first | exact Nat.le_refl _ | omega | (with_reducible (repeat (first | refine sz_alloc ?_ | refine sz_setCell ?_ | refine sz_drew ?_ | refine sz_drewN ?_)); first | exact Nat.le_refl _ | omega) | (simp only [World.size_alloc, World.size_setCell, World.size_drew, size_drewN']; omega)) _) | assumption))
  have hv : Blk w0 w.heap.size [.pointer (some ⟨bw, 0, none⟩), .slice pp ps.length c, .func (.func f) pre post] 160 := by rw [hw0]; exact (((Blk.new w _ _).alloc _).alloc _).alloc _
  have h3 : Sp3 w0 (w.heap.size + 1) (w.heap.size + 1 + 1 + 1) (w.heap.size + 1) (w.heap.size + 1 + 1) false 0 (.slice none 0 0) 0 [] := by
    rw [hw0]
    exact ⟨Blk.new' _ [.bool false] _ (by simp), ((Blk.new' _ [.slice none 0 0] _ (by simp)).alloc _).alloc _, (Blk.new' _ [.int .i64 0] _ (by simp)).alloc _, World.ownsRow_nil _ _ _ _⟩
  clear hw0
  have c0 := hv.cell 0
  simp only [List.getElem?_cons_zero] at c0
  have lv := hv.lt
  go_region_held3 (fun w' => w'.cell? ⟨w.heap.size, 0, none⟩ = some (.pointer (some ⟨bw, 0, none⟩)) ∧ Up w0 w')
    (refine ⟨Up.cellAt (w := w0) ?_ c0, ?_⟩ <;> (repeat (first | exact Below.refl _ _ | (with_reducible refine Below.drewN' ?_ _) | (with_reducible refine Below.drew ?_) | (with_reducible refine Below.setCell ?_ (by first | exact Nat.le_refl _ | omega | (with_reducible (repeat (first | refine sz_alloc ?_ | refine sz_setCell ?_ | refine sz_drew ?_ | refine sz_drewN ?_)); first | exact Nat.le_refl _ | omega) | (simp only [World.size_alloc, World.size_setCell, World.size_drew, size_drewN']; omega)) _) | (with_reducible refine Below.alloc ?_ (by first | exact Nat.le_refl _ | omega | (with_reducible (repeat (first | refine sz_alloc ?_ | refine sz_setCell ?_ | refine sz_drew ?_ | refine sz_drewN ?_)); first | exact Nat.le_refl _ | omega) | (simp only [World.size_alloc, World.size_setCell, World.size_drew, size_drewN']; omega)) _) | assumption)))
    (first
      | (go_at_call 67; with_reducible refine (HLA.out w0.drew (Up.trans u0 (Below.refl _ _).drew)).mono ?_; rintro e w1 ⟨rfl, u1⟩; have u1' : Up w0 w1 := Up.trans ((Below.refl _ _).drew) u1)
      | (go_at_call 113; refine (HFI.out _ (Up.trans u0 (by assumption))).mono ?_; rintro e w2 ⟨rfl, u2⟩; have u2' : Up w0 w2 := Up.trans (by assumption) u2))
  go_wp2_with fail
  rw [← hn]
  obtain ⟨ff, hff⟩ : ∃ ff, fitB s ps pd = ff := ⟨_, rfl⟩
  obtain ⟨a, ha⟩ : ∃ a, firstM s.table = a := ⟨_, rfl⟩
  obtain ⟨n, hnn⟩ : ∃ n, dayN s = n := ⟨_, rfl⟩
  rw [hff] at HFT
  rw [ha] at HFT HFI hf0 hfl hn
  rw [hnn] at hn hn9
  have HQ := Lib.hid (show lastM s.table = a + n - 1 by omega)
  have HL9 := Lib.hid hl9
  have HV := Lib.hid (hv.up u2')
  have H3 := Lib.hid (h3.up u2')
  have U2 := Lib.hid (Up.trans u0 u2')
  have hle : w.heap.size + 4 ≤ w2.heap.size := by have := (H3.out.o).lt; omega
  have HFF := Lib.hid hff
  have HA := Lib.hid ha
  have HN := Lib.hid hnn
  simp only [ha, hnn]
  clear s1 s2 hv h3 c0 lv u0 u1 u1' u2 u2' hff hnn hn hfl hl9 ha
  go_loopw [19] (fun i wr => ∃ k : Nat, k ≤ n ∧ i = .int .i64 k ∧ (∃ v, Sp3 wr (w.heap.size + 1) (w.heap.size + 1 + 1 + 1) (w.heap.size + 1) (w.heap.size + 1 + 1) (spSt ff a k).2.2 (spSt ff a k).2.1 v (spSt ff a k).1.length (spc (spSt ff a k).1)) ∧
    Blk wr w.heap.size [.pointer (some ⟨bw, 0, none⟩), .slice pp ps.length c, .func (.func f) pre post] 160 ∧ Up w wr ∧ w.heap.size + 4 ≤ wr.heap.size) (fun i _ => n - (intOf i).toNat)
  case atStart => exact ⟨0, Nat.zero_le _, rfl, ⟨_, H3.out⟩, HV.out, U2.out, hle⟩
  case round =>
    obtain ⟨k, hk, rfl, ⟨v, h3⟩, hv, hu, hz⟩ := hrel
    have hsl := spSt_len ff a k
    have c0 := hv.cell 0
    have c1 := hv.cell 1
    have c2 := hv.cell 2
    simp only [List.getElem?_cons_zero, List.getElem?_cons_succ] at c0 c1 c2
    have H3 := Lib.hid h3
    have HV := Lib.hid hv
    have HU := Lib.hid hu
    clear h3 hv hu
    by_cases hlt : k < n
    · go_wp2_with fail
      refine (HFI.out _ HU.out).mono ?_
      rintro e w3 ⟨rfl, u3⟩
      have R3 := Lib.hid (H3.out.up u3)
      have RV := Lib.hid (HV.out.up u3)
      have RU := Lib.hid (Up.trans HU.out u3)
      have d0 := u3.cellAt c0
      have d1 := u3.cellAt c1
      have d2 := u3.cellAt c2
      clear c0 c1 c2 u3
      have b1 : a + k ≤ 1441 := by have := HL9.out; have := HQ.out; omega
      go_wp2_with fail
      refine (HFT.out (a + k) _ RU.out (by omega)).mono ?_
      rintro e w4 ⟨rfl, u4⟩
      have Q3 := Lib.hid (R3.out.up u4)
      have QV := Lib.hid (RV.out.up u4)
      have QU := Lib.hid (Up.trans RU.out u4)
      have hz4 : w.heap.size + 4 ≤ w4.heap.size := by have := (Q3.out.o).lt; omega
      clear d0 d1 d2 u4
      cases hff : ff (a + k)
      · have HF := Lib.hid hff
        clear hff
        cases ho : (spSt ff a k).2.2
        · have HO := Lib.hid ho
          have h3 := Q3.out
          rw [ho] at h3
          clear ho
          have HE := Lib.hid (show spSt ff a (k + 1) = spSt ff a k by conv => lhs; unfold spSt; simp [HF.out, HO.out])
          go_wp2_with fail
          refine (closeNo_c (w.heap.size + 1) _ _ _ _ _ _ _ _ _ h3 (by omega)).mono ?_
          rintro e w5 ⟨rfl, h5, u5⟩
          have G3 := Lib.hid h5
          have GV := Lib.hid (QV.out.below u5 (by omega))
          have GU := Lib.hid (Below.trans QU.out (u5.mono (by omega)))
          have hz5 : w.heap.size + 4 ≤ w5.heap.size := by have := u5.size; omega
          clear h3 h5 u5
          go_wp2_with fail
          go_roundw
          case rel => exact ⟨k + 1, hlt, by go_num, ⟨_, by rw [HE.out, HO.out]; exact G3.out⟩, GV.out, GU.out, hz5⟩
          case measure => simp [intOf]; omega
        · have HO := Lib.hid ho
          have h3 := Q3.out
          rw [ho] at h3
          clear ho
          have HE := Lib.hid (show spSt ff a (k + 1) = ((spSt ff a k).1 ++ [((spSt ff a k).2.1, a + k - 1)], (spSt ff a k).2.1, false) by conv => lhs; unfold spSt; simp [HF.out, HO.out])
          go_wp2_with fail
          refine (closeYes_c (w.heap.size + 1) _ _ _ _ _ _ _ _ _ h3 (by omega) (by omega) (by omega) (by omega)).mono ?_
          rintro e w5 ⟨rfl, ⟨v', h5⟩, u5⟩
          have G3 := Lib.hid h5
          have GV := Lib.hid (QV.out.below u5 (by omega))
          have GU := Lib.hid (Below.trans QU.out (u5.mono (by omega)))
          have hz5 : w.heap.size + 4 ≤ w5.heap.size := by have := u5.size; omega
          clear h3 h5 u5
          go_wp2_with fail
          go_roundw
          case rel => exact ⟨k + 1, hlt, by go_num, ⟨_, by rw [HE.out]; simp only [spc_snoc, List.length_append, List.length_cons, List.length_nil, Nat.zero_add]; exact G3.out⟩, GV.out, GU.out, hz5⟩
          case measure => simp [intOf]; omega
      · have HF := Lib.hid hff
        clear hff
        have h3 := Q3.out
        have n1 := h3.o.ne h3.f (by decide)
        cases ho : (spSt ff a k).2.2
        · have HO := Lib.hid ho
          rw [ho] at h3
          clear ho
          have HE := Lib.hid (show spSt ff a (k + 1) = ((spSt ff a k).1, a + k, true) by conv => lhs; unfold spSt; simp [HF.out, HO.out])
          have x0 := h3.o.cell 0
          have x1 := h3.f.cell 0
          simp only [List.getElem?_cons_zero] at x0 x1
          have y0 := h3.o.free 0
          have y1 := h3.f.free 0
          have H := Lib.hid h3
          clear h3
          go_wp2_with fail
          go_roundw
          case rel =>
            have h3 := H.out
            have r1 := ownsRow_setCell_other h3.row (a := ⟨w.heap.size + 1 + 1, 0, none⟩) (h3.f.not_row (by decide) h3.row) (.int .i64 (a + k))
            have r2 := ownsRow_setCell_other r1 (a := ⟨w.heap.size + 1 + 1 + 1, 0, none⟩) (h3.o.not_row (by decide) h3.row) (.bool true)
            refine ⟨k + 1, hlt, by go_num, ⟨_, by rw [HE.out]; exact ⟨(h3.o.other n1 _).set 0 _, (h3.u.other (h3.u.ne h3.f (by decide)) _).other (h3.u.ne h3.o (by decide)) _, (h3.f.set 0 _).other (Ne.symm n1) _, r2⟩⟩, (QV.out.other (by simp only []; omega) _).other (by simp only []; omega) _, (QU.out.setCell (by simp only []; omega) _).setCell (by simp only []; omega) _, by simp; omega⟩
          case measure => simp [intOf]; omega
        · have HO := Lib.hid ho
          rw [ho] at h3
          clear ho
          have HE := Lib.hid (show spSt ff a (k + 1) = spSt ff a k by conv => lhs; unfold spSt; simp [HF.out, HO.out])
          have x0 := h3.o.cell 0
          simp only [List.getElem?_cons_zero] at x0
          clear h3
          go_wp2_with fail
          go_roundw
          case rel => exact ⟨k + 1, hlt, by go_num, ⟨_, by rw [HE.out]; exact Q3.out⟩, QV.out, QU.out, hz4⟩
          case measure => simp [intOf]; omega
    · obtain rfl : k = n := by omega
      go_wp2_with fail
      refine (HLA.out _ HU.out).mono ?_
      rintro e w3 ⟨rfl, u3⟩
      rw [HQ.out]
      have R3 := Lib.hid (H3.out.up u3)
      have RU := Lib.hid (Up.trans HU.out u3)
      have hz3 : w.heap.size + 4 ≤ w3.heap.size := by have := (R3.out.o).lt; omega
      clear c0 c1 c2 u3
      cases ho : (spSt ff a k).2.2
      · have HE := Lib.hid (show spansOf ff a k = (spSt ff a k).1 by unfold spansOf; simp [ho])
        have h3 := R3.out
        rw [ho] at h3
        clear ho
        go_wp2_with fail
        refine (closeNo_c (w.heap.size + 1) _ _ _ _ _ _ _ _ _ h3 (by omega)).mono ?_
        rintro e w5 ⟨rfl, h5, u5⟩
        have GU := Lib.hid (Below.trans RU.out (u5.mono (by omega)))
        have x0 := h5.u.cell 0
        simp only [List.getElem?_cons_zero] at x0
        obtain ⟨p, c', rfl, q1, q2, q3⟩ := row_of_owns h5.row
        clear h3 h5 u5
        go_wp2_with fail
        go_ret
        simp only [HFF.out, HA.out, HN.out, HE.out]
        exact ⟨p, c', rfl, q1, q2, q3, GU.out⟩
      · have HE := Lib.hid (show spansOf ff a k = (spSt ff a k).1 ++ [((spSt ff a k).2.1, a + k - 1)] by unfold spansOf; simp [ho])
        have h3 := R3.out
        rw [ho] at h3
        clear ho
        go_wp2_with fail
        refine (closeYes_c (w.heap.size + 1) _ _ _ _ _ _ _ _ _ h3 (by omega) (by omega) (by omega) (by omega)).mono ?_
        rintro e w5 ⟨rfl, ⟨v', h5⟩, u5⟩
        have GU := Lib.hid (Below.trans RU.out (u5.mono (by omega)))
        have x0 := h5.u.cell 0
        simp only [List.getElem?_cons_zero] at x0
        have hrow := h5.row
        rw [← spc_snoc, show (spSt ff a k).1.length + 1 = ((spSt ff a k).1 ++ [((spSt ff a k).2.1, a + k - 1)]).length by simp] at hrow
        obtain ⟨p, c', rfl, q1, q2, q3⟩ := row_of_owns hrow
        clear h3 h5 u5 hrow
        go_wp2_with fail
        go_ret
        simp only [HFF.out, HA.out, HN.out, HE.out]
        exact ⟨p, c', by simp only [List.length_append, List.length_cons, List.length_nil]; rfl, q1, q2, q3, GU.out⟩
end
end Go.Proofs.YtknaajofcbenaaaGreat
