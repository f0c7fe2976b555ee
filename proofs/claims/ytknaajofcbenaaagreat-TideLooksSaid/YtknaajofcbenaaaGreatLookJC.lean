/- As Draw: but an operation of the tail may wait for one of the head by way of another one of the tail. -/
import Derived.Test.YtknaajofcbenaaaGreatLookJB
import Derived.Test.YtknaajofcbenaaaGreatLooks3
import Derived.Test.YtknaajofcbenaaaGreatLookJA
import Derived.Test.YtknaajofcbenaaaGreatBase
import Derived.Test.YtknaajofcbenaaaGreatHeight
import Derived.Test.YtknaajofcbenaaaGreatChk
import Derived.Test.YtknaajofcbenaaaGreatChk2
import Derived.Test.YtknaajofcbenaaaGreatCheck
import Derived.Test.YtknaajofcbenaaaGreatOn
import Derived.Test.YtknaajofcbenaaaGreatLower
import Derived.Test.YtknaajofcbenaaaGreatGates
import Derived.Test.YtknaajofcbenaaaGreatBegin
import Derived.Test.YtknaajofcbenaaaGreatSpans
import Derived.Test.YtknaajofcbenaaaGreatFits
import Derived.Test.YtknaajofcbenaaaGreatQue
import Derived.Test.YtknaajofcbenaaaGreatLead
import Derived.Test.YtknaajofcbenaaaGreatClaD
import Derived.Test.YtknaajofcbenaaaGreatStep
import Derived.Test.YtknaajofcbenaaaGreatLooks2
import Derived.Test.YtknaajofcbenaaaGreatBegin2
import Derived.Test.YtknaajofcbenaaaGreatState2
import Derived.Test.YtknaajofcbenaaaGreatAll
import Derived.Test.YtknaajofcbenaaaGreatWaysF
import Derived.Test.YtknaajofcbenaaaGreatOut1
import Derived.Test.YtknaajofcbenaaaGreatTurn
import Derived.Test.YtknaajofcbenaaaGreatTwo
import Derived.Test.YtknaajofcbenaaaGreatCounted
import Derived.Test.YtknaajofcbenaaaGreatLooks
import Derived.Test.YtknaajofcbenaaaGreatRound
import Derived.WalkKit
import Derived.WalkSpells
import Derived.WalkLawsBesides
import Derived.Deep.QuietTactic
import Derived.BigQuiet
import Derived.Lib.Hide
import Derived.Shelf.Abstract
import Derived.BigGuardPart
import Derived.RangeFuncNested
import Derived.RangeFuncBound
import Derived.RangeFuncCalls
import Derived.RangeFuncLeaves
import Derived.Shelf.RegionOpen
import Derived.OwnWalkIn
import Derived.LoopNIn
import Derived.LoopIn
import Derived.StillTailTactics
import Derived.Deep.RegionHeld3
import Derived.StillTail
import Derived.RangeFuncWrites
import Derived.Laws.StructEq
import Derived.Deep.LoopGhost
import Derived.IntWalk
import Derived.RangeFuncBox
import Derived.Deep.Cut
import Derived.Deep.CutRange
import Derived.Deep.CutBlock
import Derived.Deep.DeepCutAuto
import Derived.TacticsInMore
import Derived.ArgAppend
import Derived.Laws.CopyOwn
import Derived.OwnWalk
import Derived.Lib.SliceRun
import Derived.Maps.OwnOps
import Derived.Maps.OwnSet
import Derived.Deep.AppendSrc
import Derived.Deep.Upon
import Derived.Laws.OwnMore
/- The reference's Clash, with what Left returns laid ahead. -/
namespace Go.Proofs.YtknaajofcbenaaaGreat
open Go.RowKit Go.Shelf

theorem memS_ne {s : Sd} {l : List Lk} {k : Nat} (ok : Ok s) (he : emptyS s l k) : memS k l.length ≠ [] := by
  obtain ⟨i, hi, hs, -⟩ := he s.lo (Int.le_refl _) ok.lohi
  intro h
  have : (i : Int) ∈ memS k l.length := List.mem_map.2 ⟨i, List.mem_filter.2 ⟨List.mem_range.2 hi, hs⟩, rfl⟩
  rw [h] at this
  cases this
section
variable {pT pF pS : Option Addr} {cT cF cS : Nat}
set_option maxRecDepth 100000 in
set_option maxHeartbeats 1000000 in
theorem refClash_of (s : Sd) (l : List Lk) (G : List Int) (n : Nat) (qg ql : Option Addr) (dg dl : Nat) (w : World) (ok : Ok s) (hn : l.length = n) (h10 : n ≤ 10)
    (HLF : ∀ (set : Nat) W, 1 ≤ set → set < 2 ^ n → Up w W → Calls Tryz.prog 28 #[sdVal s pT pF pS cT cF cS, .slice qg G.length dg, .slice ql n dl, .int .i64 set] W fun e w' => ∃ q d L, e = .returned (.slice q L d) ∧ (L = 0 ↔ emptyS s l set) ∧ Up W w') :
    Calls Tryz.prog 29 #[sdVal s pT pF pS cT cF cS, .slice qg G.length dg, .slice ql n dl] w fun e w' => ∃ b q d, e = .returned (.tuple #[.slice q b.length d, .bool (decide (b ≠ []))]) ∧ ClashIs s l b ∧ Row w' q 1 (ints b) ∧ (b = [] → q = none ∧ d = 0) ∧ (∀ a off, q = some ⟨a, off, none⟩ → w.heap.size ≤ a) ∧ Up w w' := by
  have OK := Lib.hid ok
  have HLF := Lib.hid HLF
  have HN := Lib.hid hn
  have hsl := sl_nil
  have hsm := sl_some
  have hsn := sl_neq
  clear ok hn
  unfold sdVal at *
  go_enter Tryz.func29, Tryz.ntmps29
  go_wp2_with fail
  have BS : Hid (Blk (w.alloc (.cells #[.slice pT s.table.length cT, .int .i64 s.lo, .int .i64 s.hi, .slice pF s.floors.length cF, .slice pS s.sills.length cS] 35)) w.heap.size (sdCells s pT pF pS cT cF cS) 35) := Lib.hid (Blk.new w (sdCells s pT pF pS cT cF cS) 35)
  have U0 : Hid (Up w (w.alloc (.cells #[.slice pT s.table.length cT, .int .i64 s.lo, .int .i64 s.hi, .slice pF s.floors.length cF, .slice pS s.sills.length cS] 35))) := Lib.hid (by (repeat (first | exact Below.refl _ _ | (with_reducible refine Below.drewN' ?_ _) | (with_reducible refine Below.drew ?_) | (with_reducible refine Below.setCell ?_ (by first | exact Nat.le_refl _ | omega | (with_reducible (repeat (first | refine sz_alloc ?_ | refine sz_setCell ?_ | refine sz_drew ?_ | refine sz_drewN ?_)); first | exact Nat.le_refl _ | omega) | (simp only [World.size_alloc, World.size_setCell, World.size_drew, size_drewN']; omega)) _) | (with_reducible refine Below.alloc ?_ (by first | exact Nat.le_refl _ | omega | (with_reducible (repeat (first | refine sz_alloc ?_ | refine sz_setCell ?_ | refine sz_drew ?_ | refine sz_drewN ?_)); first | exact Nat.le_refl _ | omega) | (simp only [World.size_alloc, World.size_setCell, World.size_drew, size_drewN']; omega)) _) | assumption)))
  generalize (w.alloc (.cells #[.slice pT s.table.length cT, .int .i64 s.lo, .int .i64 s.hi, .slice pF s.floors.length cF, .slice pS s.sills.length cS] 35)) = w0 at *
  go_loopw [8, 9] (fun x i wr => ∃ k : Nat, k ≤ n ∧ x = .int .i64 ((2 ^ k : Nat) : Int) ∧ i = .int .i64 k ∧ Up w0 wr) (fun _ i _ => n - (intOf i).toNat)
  case atStart => exact ⟨0, Nat.zero_le _, by rfl, rfl, Below.refl _ _⟩
  case round =>
    obtain ⟨k, hk, rfl, rfl, hu0⟩ := hrel
    have HU0 := Lib.hid hu0
    clear hu0
    by_cases hlt : k < n
    · have k1 : (k : Int) < n := by omega
      have HX := Lib.hid (show 2 ^ (k + 1) = 2 * 2 ^ k by rw [Nat.pow_succ]; omega)
      have x9 : 2 ^ k ≤ 1024 := Nat.le_trans (Nat.pow_le_pow_right (by decide) (show k ≤ 10 by omega)) (by decide)
      generalize 2 ^ k = x at *
      have sy : IntKind.i64.wrap ((k : Int) + 1) = k + 1 := IntWalk.i64_in _ (by omega)
      have sx : IntKind.i64.wrap (2 * (x : Int)) = 2 * (x : Int) := IntWalk.i64_in _ (by omega)
      go_wp2_with fail
      go_roundw
      case rel =>
        try ((repeat apply Exists.intro); refine ⟨?_, rfl⟩)
        exact ⟨k + 1, by omega, by rw [HX.out]; exact congrArg _ (by omega), by go_num, HU0.out⟩
      case measure => simp [intOf]; omega
    · obtain rfl : n = k := by omega
      obtain ⟨N, hN⟩ : ∃ N, 2 ^ n = N := ⟨_, rfl⟩
      have HNN := Lib.hid hN
      have N9 : N ≤ 1024 := by rw [← hN]; exact Nat.le_trans (Nat.pow_le_pow_right (by decide) h10) (by decide)
      have N1 : 1 ≤ N := by rw [← hN]; exact Nat.one_le_two_pow
      rw [hN] at HLF ⊢
      clear hN
      go_wp2_with fail
      go_loopw [10, 11] (fun b x wr => ∃ (k : Nat) (B : List Int) (q : Option Addr) (d : Nat), 1 ≤ k ∧ k ≤ N ∧ x = .int .i64 k ∧ b = .slice q B.length d ∧ BestI s l k B ∧ Row wr q 1 (ints B) ∧ (B = [] → q = none ∧ d = 0) ∧ (∀ a off, q = some ⟨a, off, none⟩ → w.heap.size ≤ a) ∧ B.length ≤ n ∧ Up w0 wr) (fun _ x _ => N - (intOf x).toNat)
      case atStart => exact ⟨1, [], none, 0, Nat.le_refl _, N1, rfl, rfl, BestI.start, Row.nil _ _ _, fun _ => ⟨rfl, rfl⟩, (fun _ _ e => by cases e), Nat.zero_le _, HU0.out⟩
      case round =>
        obtain ⟨k, B, q, d, k1, kN, rfl, rfl, hb, hrow, hnil, hfr, hBn, hu⟩ := hrel
        have HFR := Lib.hid hfr
        have HB := Lib.hid hb
        have HR := Lib.hid hrow
        have HU := Lib.hid hu
        clear hb hrow hu hfr
        by_cases hlt : k < N
        · have kk : (k : Int) < N := by omega
          have sy : IntKind.i64.wrap ((k : Int) + 1) = k + 1 := IntWalk.i64_in _ (by omega)
          have HM := Lib.hid (fun W => members_c k n W h10 (by rw [HNN.out]; exact hlt))
          have mle := memS_le k n
          go_wp2_with fail
          refine (HM.out wr).mono ?_
          rintro e wa ⟨qm, dm, rfl, -, -, rm, fm, va⟩
          have HFM : Hid (∀ a off, qm = some ⟨a, off, none⟩ → w.heap.size ≤ a) := fun a off e => Nat.le_trans (Up.trans U0.out HU.out).size (fm a off e)
          have RM := Lib.hid rm
          have UA := Lib.hid (Up.trans HU.out va)
          have RB := Lib.hid (HR.out.up va)
          obtain ⟨M, hM⟩ : ∃ M, memS k n = M := ⟨_, rfl⟩
          have HMM := Lib.hid hM
          rw [hM] at RM mle ⊢
          clear hM rm fm va HU HR HM
          cases B with
          | nil =>
            obtain ⟨rfl, rfl⟩ := hnil rfl
            obtain ⟨c0, c1, c2, c3, c4⟩ := five (BS.out.up UA.out)
            go_wp2_with fail
            refine (HLF.out k wa k1 hlt (Up.trans U0.out UA.out)).mono ?_
            rintro e wb ⟨q2, d2, L, rfl, hL, vb⟩
            have VB := Lib.hid (Up.trans UA.out vb)
            have RM2 := Lib.hid (RM.out.up vb)
            have RB2 := Lib.hid (RB.out.up vb)
            clear vb c0 c1 c2 c3 c4
            by_cases h0 : L = 0
            · have l1 : ((L : Int) == 0) = true := by rw [h0]; rfl
              have HT := Lib.hid (BestI.take OK.out HB.out k1 (.inl rfl) (hL.1 h0))
              rw [HN.out, HMM.out] at HT
              have HE := Lib.hid (memS_ne OK.out (hL.1 h0))
              rw [HN.out, HMM.out] at HE
              clear h0 hL
              go_wp2_with fail
              go_roundw
              case rel =>
                try ((repeat apply Exists.intro); refine ⟨?_, rfl⟩)
                exact ⟨k + 1, M, qm, dm, by omega, by omega, by go_num, rfl, HT.out, RM2.out, (fun h => absurd h HE.out), HFM.out, mle, VB.out⟩
              case measure => simp [intOf]; omega
            · have l1 : ((L : Int) == 0) = false := by rw [beq_eq_false_iff_ne]; omega
              have HT := Lib.hid (BestI.leave HB.out (fun h => h0 (hL.2 h.2)))
              clear h0 hL
              go_wp2_with fail
              go_roundw
              case rel =>
                try ((repeat apply Exists.intro); refine ⟨?_, rfl⟩)
                exact ⟨k + 1, [], none, 0, by omega, by omega, by go_num, rfl, HT.out, RB2.out, fun _ => ⟨rfl, rfl⟩, (fun _ _ e => by cases e), Nat.zero_le _, VB.out⟩
              case measure => simp [intOf]; omega
          | cons b0 B0 =>
            obtain ⟨bq, oq, rfl, -⟩ := RB.out.int 0 (by simp)
            clear hnil
            have HA := Lib.hid (ahead_c M (b0 :: B0) qm (some ⟨bq, oq, none⟩) dm d wa RM.out RB.out (by omega) (by omega))
            cases hab : aheadB M (b0 :: B0) with
            | false =>
              rw [hab] at HA
              have HT := Lib.hid (BestI.leave HB.out (fun h => by
                rcases h.1 with h | h
                · cases h
                · rw [HN.out, HMM.out, hab] at h; cases h))
              clear hab
              go_wp2_with fail
              refine HA.out.mono ?_
              rintro e wb ⟨rfl, vb⟩
              have VB := Lib.hid (Up.trans UA.out vb)
              have RB2 := Lib.hid (RB.out.up vb)
              clear vb HA
              go_wp2_with fail
              go_roundw
              case rel =>
                try ((repeat apply Exists.intro); refine ⟨?_, rfl⟩)
                exact ⟨k + 1, b0 :: B0, _, d, by omega, by omega, by go_num, rfl, HT.out, RB2.out, (fun h => by cases h), HFR.out, hBn, VB.out⟩
              case measure => simp [intOf]; omega
            | true =>
              rw [hab] at HA
              go_wp2_with fail
              refine HA.out.mono ?_
              rintro e wb ⟨rfl, vb⟩
              have VB := Lib.hid (Up.trans UA.out vb)
              have RB2 := Lib.hid (RB.out.up vb)
              have RM2 := Lib.hid (RM.out.up vb)
              clear vb HA RB RM UA
              obtain ⟨c0, c1, c2, c3, c4⟩ := five (BS.out.up VB.out)
              go_wp2_with fail
              refine (HLF.out k wb k1 hlt (Up.trans U0.out VB.out)).mono ?_
              rintro e wc ⟨q2, d2, L, rfl, hL, vc⟩
              have VC := Lib.hid (Up.trans VB.out vc)
              have RM3 := Lib.hid (RM2.out.up vc)
              have RB3 := Lib.hid (RB2.out.up vc)
              clear vc c0 c1 c2 c3 c4 VB RB2 RM2
              by_cases h0 : L = 0
              · have l1 : ((L : Int) == 0) = true := by rw [h0]; rfl
                have HT := Lib.hid (BestI.take OK.out HB.out k1 (.inr (by rw [HN.out, HMM.out]; exact hab)) (hL.1 h0))
                rw [HN.out, HMM.out] at HT
                have HE := Lib.hid (memS_ne OK.out (hL.1 h0))
                rw [HN.out, HMM.out] at HE
                clear h0 hL hab
                go_wp2_with fail
                go_roundw
                case rel =>
                  try ((repeat apply Exists.intro); refine ⟨?_, rfl⟩)
                  exact ⟨k + 1, M, qm, dm, by omega, by omega, by go_num, rfl, HT.out, RM3.out, (fun h => absurd h HE.out), HFM.out, mle, VC.out⟩
                case measure => simp [intOf]; omega
              · have l1 : ((L : Int) == 0) = false := by rw [beq_eq_false_iff_ne]; omega
                have HT := Lib.hid (BestI.leave HB.out (fun h => h0 (hL.2 h.2)))
                clear h0 hL hab
                go_wp2_with fail
                go_roundw
                case rel =>
                  try ((repeat apply Exists.intro); refine ⟨?_, rfl⟩)
                  exact ⟨k + 1, b0 :: B0, _, d, by omega, by omega, by go_num, rfl, HT.out, RB3.out, (fun h => by cases h), HFR.out, hBn, VC.out⟩
                case measure => simp [intOf]; omega
        · obtain rfl : N = k := by omega
          have HC := Lib.hid (best_is OK.out (by rw [HN.out]; exact h10) (by rw [HN.out, HNN.out]; exact HB.out))
          cases B with
          | nil =>
            obtain ⟨rfl, rfl⟩ := hnil rfl
            go_wp2_with fail
            refine bodyPost_ret (v := .tuple #[.slice none 0 0, .bool false]) (by simp [results, Tryz.f29, go_sem]) rfl ?_
            exact ⟨[], none, 0, rfl, HC.out, HR.out, fun _ => ⟨rfl, rfl⟩, (fun _ _ e => by cases e), Up.trans U0.out HU.out⟩
          | cons b0 B0 =>
            obtain ⟨bq, oq, rfl, -⟩ := HR.out.int 0 (by simp)
            clear hnil
            go_wp2_with fail
            refine bodyPost_ret (v := .tuple #[.slice (some ⟨bq, oq, none⟩) (b0 :: B0).length d, .bool true]) (by simp [results, Tryz.f29, go_sem]) rfl ?_
            exact ⟨b0 :: B0, _, d, rfl, HC.out, HR.out, (fun h => by cases h), HFR.out, Up.trans U0.out HU.out⟩
end
end Go.Proofs.YtknaajofcbenaaaGreat
namespace Go.Proofs.YtknaajofcbenaaaGreat
open Go.RowKit Go.Shelf

theorem thing_eq (x : Int) (n : Nat) (hn : 1 ≤ n) : inB x (-1) ((n : Int) - 1) = (x == -1 || inB x 0 ((n : Int) - 1)) := by
  rw [Bool.eq_iff_iff, Bool.or_eq_true, inB_true, inB_true, beq_iff_eq]; omega
theorem all_take_succ' {α : Type} {l : List α} {f : α → Bool} {k : Nat} (h : k < l.length) (h1 : (l.take k).all f = true) (h2 : f l[k] = true) : (l.take (k + 1)).all f = true := by
  rw [List.take_add_one, List.getElem?_eq_getElem h, List.all_append, h1]; simp [h2]
theorem all_false_at {α : Type} {l : List α} {f : α → Bool} {k : Nat} (h : k < l.length) (h2 : f l[k] = false) : l.all f = false := by
  rw [List.all_eq_false]; exact ⟨l[k], List.getElem_mem h, by simp [h2]⟩

section
variable {pT pF pS : Option Addr} {cT cF cS : Nat}
set_option maxRecDepth 100000 in
set_option maxHeartbeats 8000000 in
theorem refCheck_c (s : Sd) (w : World) (hl : Lists w s pT pF pS cT cF cS) : Calls Tryz.prog 11 #[sdVal s pT pF pS cT cF cS] w fun e w' => e = .returned (.int .i64 (chk s)) ∧ Up w w' := by
  have HL := Lib.hid hl
  have m1 : (s.table.length : Int) ≤ 9223372036854775807 := by have := Nat.le_trans hl.ct hl.mt; simp only [maxLen] at this; omega
  have m2 : (s.floors.length : Int) ≤ 9223372036854775807 := by have := Nat.le_trans hl.cf hl.mf; simp only [maxLen] at this; omega
  have m3 : (s.sills.length : Int) ≤ 9223372036854775807 := by have := Nat.le_trans hl.cs hl.ms; simp only [maxLen] at this; omega
  clear hl
  unfold sdVal
  go_enter Tryz.func11, Tryz.ntmps11
  by_cases hco : okCounts s = false
  · have HX := Lib.hid (show chk s = 2 by unfold chk; rw [if_pos hco])
    unfold okCounts at hco
    cases hA : inB s.table.length 2 12
    · clear hco
      go_wp2_with (go_at_call 49; refine (off_c _ _ _ _).mono ?_; rintro e w' ⟨rfl, rfl⟩)
      go_ret
      exact ⟨by rw [HX.out]; rfl, by (repeat (first | exact Below.refl _ _ | (with_reducible refine Below.drewN' ?_ _) | (with_reducible refine Below.drew ?_) | (with_reducible refine Below.setCell ?_ (by first | exact Nat.le_refl _ | omega | (with_reducible (repeat (first | refine sz_alloc ?_ | refine sz_setCell ?_ | refine sz_drew ?_ | refine sz_drewN ?_)); first | exact Nat.le_refl _ | omega) | (simp only [World.size_alloc, World.size_setCell, World.size_drew, size_drewN']; omega)) _) | (with_reducible refine Below.alloc ?_ (by first | exact Nat.le_refl _ | omega | (with_reducible (repeat (first | refine sz_alloc ?_ | refine sz_setCell ?_ | refine sz_drew ?_ | refine sz_drewN ?_)); first | exact Nat.le_refl _ | omega) | (simp only [World.size_alloc, World.size_setCell, World.size_drew, size_drewN']; omega)) _) | assumption))⟩
    · cases hB : inB s.floors.length 1 8
      · clear hco
        go_wp2_with (go_at_call 49; refine (off_c _ _ _ _).mono ?_; rintro e w' ⟨rfl, rfl⟩)
        go_ret
        exact ⟨by rw [HX.out]; rfl, by (repeat (first | exact Below.refl _ _ | (with_reducible refine Below.drewN' ?_ _) | (with_reducible refine Below.drew ?_) | (with_reducible refine Below.setCell ?_ (by first | exact Nat.le_refl _ | omega | (with_reducible (repeat (first | refine sz_alloc ?_ | refine sz_setCell ?_ | refine sz_drew ?_ | refine sz_drewN ?_)); first | exact Nat.le_refl _ | omega) | (simp only [World.size_alloc, World.size_setCell, World.size_drew, size_drewN']; omega)) _) | (with_reducible refine Below.alloc ?_ (by first | exact Nat.le_refl _ | omega | (with_reducible (repeat (first | refine sz_alloc ?_ | refine sz_setCell ?_ | refine sz_drew ?_ | refine sz_drewN ?_)); first | exact Nat.le_refl _ | omega) | (simp only [World.size_alloc, World.size_setCell, World.size_drew, size_drewN']; omega)) _) | assumption))⟩
      · have hC : (16 : Int) < s.sills.length := by
          rw [hA, hB] at hco
          simp only [Bool.true_and, decide_eq_false_iff_not] at hco
          omega
        clear hco
        go_wp2_with (go_at_call 49; refine (off_c _ _ _ _).mono ?_; rintro e w' ⟨rfl, rfl⟩)
        go_ret
        exact ⟨by rw [HX.out]; rfl, by (repeat (first | exact Below.refl _ _ | (with_reducible refine Below.drewN' ?_ _) | (with_reducible refine Below.drew ?_) | (with_reducible refine Below.setCell ?_ (by first | exact Nat.le_refl _ | omega | (with_reducible (repeat (first | refine sz_alloc ?_ | refine sz_setCell ?_ | refine sz_drew ?_ | refine sz_drewN ?_)); first | exact Nat.le_refl _ | omega) | (simp only [World.size_alloc, World.size_setCell, World.size_drew, size_drewN']; omega)) _) | (with_reducible refine Below.alloc ?_ (by first | exact Nat.le_refl _ | omega | (with_reducible (repeat (first | refine sz_alloc ?_ | refine sz_setCell ?_ | refine sz_drew ?_ | refine sz_drewN ?_)); first | exact Nat.le_refl _ | omega) | (simp only [World.size_alloc, World.size_setCell, World.size_drew, size_drewN']; omega)) _) | assumption))⟩
  · have hco' : okCounts s = true := by simpa using hco
    unfold okCounts at hco'
    simp only [Bool.and_eq_true, decide_eq_true_eq] at hco'
    obtain ⟨⟨hA, hB⟩, hC⟩ := hco'
    have HX := Lib.hid (show chk s = if okNumbers s = false then 3 else if okOrder s = false then 4 else if s.sills.all (okThings s.floors.length) = false then 1 else if s.sills.all (fun x => x.1 != x.2.1) = false then 8 else 0 by unfold chk; rw [if_neg hco])
    have bA := inB_true.1 hA
    have bB := inB_true.1 hB
    clear hco m1 m2 m3
    have hC' : ¬ (16 : Int) < s.sills.length := by omega
    go_wp2_with (go_at_call 49; refine (off_c _ _ _ _).mono ?_; rintro e w' ⟨rfl, rfl⟩)
    clear hA hB hC'
    refine Code.wp_world ?_
    intro w1 hw1
    have u1 : Up w w1 := by rw [hw1]; (repeat (first | exact Below.refl _ _ | (with_reducible refine Below.drewN' ?_ _) | (with_reducible refine Below.drew ?_) | (with_reducible refine Below.setCell ?_ (by first | exact Nat.le_refl _ | omega | (with_reducible (repeat (first | refine sz_alloc ?_ | refine sz_setCell ?_ | refine sz_drew ?_ | refine sz_drewN ?_)); first | exact Nat.le_refl _ | omega) | (simp only [World.size_alloc, World.size_setCell, World.size_drew, size_drewN']; omega)) _) | (with_reducible refine Below.alloc ?_ (by first | exact Nat.le_refl _ | omega | (with_reducible (repeat (first | refine sz_alloc ?_ | refine sz_setCell ?_ | refine sz_drew ?_ | refine sz_drewN ?_)); first | exact Nat.le_refl _ | omega) | (simp only [World.size_alloc, World.size_setCell, World.size_drew, size_drewN']; omega)) _) | assumption))
    have hBk : Blk w1 w.heap.size (sdCells s pT pF pS cT cF cS) 35 := by rw [hw1]; exact Blk.new w _ _
    have HL1 := Lib.hid (HL.out.up u1)
    have HU1 := Lib.hid u1
    have c0 := hBk.cell 0
    have c1 := hBk.cell 1
    have c2 := hBk.cell 2
    have c3 := hBk.cell 3
    have c4 := hBk.cell 4
    simp only [sdCells, List.getElem?_cons_zero, List.getElem?_cons_succ] at c0 c1 c2 c3 c4
    clear hw1 u1 hBk HL
    go_loopw [4] (fun i wr => ∃ k : Nat, k ≤ s.table.length ∧ i = .int .i64 k ∧ (s.table.take k).all okWater = true ∧ wr = w1) (fun i _ => s.table.length - (intOf i).toNat)
    case atStart => exact ⟨0, Nat.zero_le _, rfl, rfl, rfl⟩
    case round =>
      obtain ⟨k, hk, rfl, ht, rfl⟩ := hrel
      have HT := Lib.hid ht
      clear ht
      by_cases hlt : k < s.table.length
      · obtain ⟨b, off, rfl, d0, d1⟩ := HL1.out.rt.pair k hlt
        have b1 : (k : Int) < (s.table.length : Int) := by omega
        have b2 : (0 : Int) ≤ k := by omega
        have sk : IntKind.i64.wrap ((k : Int) + 1) = (k : Int) + 1 := IntWalk.i64_in _ (by omega)
        have HN := Lib.hid (all_take_succ' (f := okWater) hlt HT.out)
        have HF := Lib.hid (fun h : okWater s.table[k] = false => show okNumbers s = false by unfold okNumbers; rw [all_false_at hlt h]; rfl)
        generalize s.table[k] = x at *
        obtain ⟨xa, xb⟩ := x
        dsimp only at d0 d1
        cases h1 : inB xa 0 1440
        · have HR := Lib.hid (show chk s = 3 by rw [HX.out, if_pos (HF.out (by unfold okWater; rw [h1]; rfl))])
          go_wp2_with (go_at_call 49; refine (off_c _ _ _ _).mono ?_; rintro e w' ⟨rfl, rfl⟩)
          go_ret
          exact ⟨by rw [HR.out]; rfl, HU1.out⟩
        · cases h2 : inB xb 0 999
          · have HR := Lib.hid (show chk s = 3 by rw [HX.out, if_pos (HF.out (by unfold okWater; rw [h1, h2]; rfl))])
            go_wp2_with (go_at_call 49; refine (off_c _ _ _ _).mono ?_; rintro e w' ⟨rfl, rfl⟩)
            go_ret
            exact ⟨by rw [HR.out]; rfl, HU1.out⟩
          · have HR := Lib.hid (HN.out (by unfold okWater; rw [h1, h2]; rfl))
            go_wp2_with (go_at_call 49; refine (off_c _ _ _ _).mono ?_; rintro e w' ⟨rfl, rfl⟩)
            go_roundw
            case rel => exact ⟨k + 1, hlt, by go_num, HR.out, by first | rfl | trivial⟩
            case measure => simp [intOf]; omega
      · obtain rfl : k = s.table.length := by omega
        rw [List.take_length] at HT
        clear hk hlt
        have HW := Lib.hid HT.out
        cases hlo : inB s.lo (-50) 50
        · have HR := Lib.hid (show chk s = 3 by rw [HX.out, if_pos (by unfold okNumbers; rw [hlo]; simp)])
          clear HT
          go_wp2_with (go_at_call 49; refine (off_c _ _ _ _).mono ?_; rintro e w' ⟨rfl, rfl⟩)
          go_ret
          exact ⟨by rw [HR.out]; rfl, HU1.out⟩
        · cases hhi : inB s.hi (-50) 50
          · have HR := Lib.hid (show chk s = 3 by rw [HX.out, if_pos (by unfold okNumbers; rw [hhi]; simp)])
            clear HT
            go_wp2_with (go_at_call 49; refine (off_c _ _ _ _).mono ?_; rintro e w' ⟨rfl, rfl⟩)
            go_ret
            exact ⟨by rw [HR.out]; rfl, HU1.out⟩
          · clear HT
            have HLO := Lib.hid hlo
            have HHI := Lib.hid hhi
            go_wp2_with (go_at_call 49; refine (off_c _ _ _ _).mono ?_; rintro e w' ⟨rfl, rfl⟩)
            clear hlo hhi
            go_loopw [5] (fun i wq => ∃ k : Nat, k ≤ s.floors.length ∧ i = .int .i64 k ∧ (s.floors.take k).all (fun x => inB x 0 999) = true ∧ wq = wr) (fun i _ => s.floors.length - (intOf i).toNat)
            case atStart => exact ⟨0, Nat.zero_le _, rfl, rfl, rfl⟩
            case round =>
              obtain ⟨k, hk, rfl, ht, rfl⟩ := hrel
              have HT := Lib.hid ht
              clear ht
              by_cases hlt : k < s.floors.length
              · obtain ⟨b, off, rfl, d0⟩ := HL1.out.rf.int k hlt
                have b1 : (k : Int) < (s.floors.length : Int) := by omega
                have b2 : (0 : Int) ≤ k := by omega
                have sk : IntKind.i64.wrap ((k : Int) + 1) = (k : Int) + 1 := IntWalk.i64_in _ (by omega)
                have HN := Lib.hid (all_take_succ' (f := fun x => inB x 0 999) hlt HT.out)
                have HF := Lib.hid (fun h : inB s.floors[k] 0 999 = false => show okNumbers s = false by unfold okNumbers; rw [all_false_at (f := fun x => inB x 0 999) hlt h]; simp)
                generalize s.floors[k] = x at *
                cases h1 : inB x 0 999
                · have HR := Lib.hid (show chk s = 3 by rw [HX.out, if_pos (HF.out h1)])
                  go_wp2_with (go_at_call 49; refine (off_c _ _ _ _).mono ?_; rintro e w' ⟨rfl, rfl⟩)
                  go_ret
                  exact ⟨by rw [HR.out]; rfl, HU1.out⟩
                · have HR := Lib.hid (HN.out h1)
                  go_wp2_with (go_at_call 49; refine (off_c _ _ _ _).mono ?_; rintro e w' ⟨rfl, rfl⟩)
                  go_roundw
                  case rel => exact ⟨k + 1, hlt, by go_num, HR.out, by first | rfl | trivial⟩
                  case measure => simp [intOf]; omega
              · obtain rfl : k = s.floors.length := by omega
                rw [List.take_length] at HT
                have HFl := Lib.hid HT.out
                clear HT hk hlt
                go_wp2_with fail
                go_loopw [6] (fun i wq => ∃ k : Nat, k ≤ s.sills.length ∧ i = .int .i64 k ∧ (s.sills.take k).all (fun x => inB x.2.2 0 999) = true ∧ wq = wr) (fun i _ => s.sills.length - (intOf i).toNat)
                case atStart => exact ⟨0, Nat.zero_le _, rfl, rfl, rfl⟩
                case round =>
                  obtain ⟨k, hk, rfl, ht, rfl⟩ := hrel
                  have HT := Lib.hid ht
                  clear ht
                  by_cases hlt : k < s.sills.length
                  · obtain ⟨b, off, rfl, d0, d1, d2⟩ := HL1.out.rs.triple k hlt
                    have b1 : (k : Int) < (s.sills.length : Int) := by omega
                    have b2 : (0 : Int) ≤ k := by omega
                    have sk : IntKind.i64.wrap ((k : Int) + 1) = (k : Int) + 1 := IntWalk.i64_in _ (by omega)
                    have HN := Lib.hid (all_take_succ' (f := fun x => inB x.2.2 0 999) hlt HT.out)
                    have HF := Lib.hid (fun h : inB s.sills[k].2.2 0 999 = false => show okNumbers s = false by unfold okNumbers; rw [all_false_at (f := fun x : Int × Int × Int => inB x.2.2 0 999) hlt h]; simp)
                    generalize s.sills[k] = x at *
                    obtain ⟨xa, xb, xc⟩ := x
                    dsimp only at d0 d1 d2
                    cases h1 : inB xc 0 999
                    · have HR := Lib.hid (show chk s = 3 by rw [HX.out, if_pos (HF.out h1)])
                      go_wp2_with (go_at_call 49; refine (off_c _ _ _ _).mono ?_; rintro e w' ⟨rfl, rfl⟩)
                      go_ret
                      exact ⟨by rw [HR.out]; rfl, HU1.out⟩
                    · have HR := Lib.hid (HN.out h1)
                      go_wp2_with (go_at_call 49; refine (off_c _ _ _ _).mono ?_; rintro e w' ⟨rfl, rfl⟩)
                      go_roundw
                      case rel => exact ⟨k + 1, hlt, by go_num, HR.out, by first | rfl | trivial⟩
                      case measure => simp [intOf]; omega
                  · obtain rfl : k = s.sills.length := by omega
                    rw [List.take_length] at HT
                    have HX2 := Lib.hid (show chk s = if okOrder s = false then 4 else if s.sills.all (okThings s.floors.length) = false then 1 else if s.sills.all (fun x => x.1 != x.2.1) = false then 8 else 0 by
                      rw [HX.out, if_neg]; unfold okNumbers; rw [HW.out, HLO.out, HHI.out, HFl.out, HT.out]; decide)
                    clear HT hk hlt HX HW HLO HHI HFl
                    go_wp2_with fail
                    go_loopw [7] (fun i wq => ∃ k : Nat, 1 ≤ k ∧ k ≤ s.table.length ∧ i = .int .i64 k ∧ ((List.range (k - 1)).all fun i => decide ((s.table.getD i (0, 0)).1 < (s.table.getD (i + 1) (0, 0)).1)) = true ∧ Up wr wq) (fun i _ => s.table.length - (intOf i).toNat)
                    case atStart => exact ⟨1, Nat.le_refl _, by omega, rfl, rfl, Below.refl _ _⟩
                    case round =>
                      obtain ⟨k, hk1, hk, rfl, ht, hu⟩ := hrel
                      have HT := Lib.hid ht
                      have HU := Lib.hid hu
                      have d0 := hu.cellAt c0
                      clear ht hu
                      by_cases hlt : k < s.table.length
                      · obtain ⟨b, off, rfl, x0, -⟩ := HL1.out.rt.pair k hlt
                        obtain ⟨b', off', e', y0, -⟩ := HL1.out.rt.pair (k - 1) (by omega)
                        simp only [Option.some.injEq, Addr.mk.injEq, and_true] at e'
                        obtain ⟨rfl, rfl⟩ := e'
                        have x1 := HU.out.cellAt x0
                        have y1 := HU.out.cellAt y0
                        have b1 : (k : Int) < (s.table.length : Int) := by omega
                        have b2 : (0 : Int) ≤ k := by omega
                        have b3 : (k : Int) - 1 < (s.table.length : Int) := by omega
                        have b4 : (0 : Int) ≤ (k : Int) - 1 := by omega
                        have b5 : ((k : Int) - 1).toNat = k - 1 := by omega
                        have sk : IntKind.i64.wrap ((k : Int) + 1) = (k : Int) + 1 := IntWalk.i64_in _ (by omega)
                        have sm : IntKind.i64.wrap ((k : Int) - 1) = (k : Int) - 1 := IntWalk.i64_in _ (by omega)
                        have hg : (s.table.getD (k - 1) (0, 0)).1 = s.table[k - 1].1 ∧ (s.table.getD (k - 1 + 1) (0, 0)).1 = s.table[k].1 := by
                          constructor
                          · rw [List.getD, List.getElem?_eq_getElem (by omega)]; rfl
                          · rw [show k - 1 + 1 = k by omega, List.getD, List.getElem?_eq_getElem hlt]; rfl
                        have HN := Lib.hid (fun h : s.table[k - 1].1 < s.table[k].1 => show ((List.range (k + 1 - 1)).all fun i => decide ((s.table.getD i (0, 0)).1 < (s.table.getD (i + 1) (0, 0)).1)) = true by
                          rw [show k + 1 - 1 = (k - 1) + 1 by omega, List.range_succ, List.all_append, HT.out]
                          simp only [List.all_cons, List.all_nil, Bool.and_true, Bool.true_and, decide_eq_true_eq]
                          rw [hg.1, hg.2]; exact h)
                        have HF := Lib.hid (fun h : ¬ s.table[k - 1].1 < s.table[k].1 => show okOrder s = false by
                          unfold okOrder ordB
                          rw [show ((List.range (s.table.length - 1)).all fun i => decide ((s.table.getD i (0, 0)).1 < (s.table.getD (i + 1) (0, 0)).1)) = false by
                            rw [List.all_eq_false]; exact ⟨k - 1, List.mem_range.2 (by omega), by rw [hg.1, hg.2]; simpa using h⟩]
                          rfl)
                        clear x0 y0 hg
                        generalize s.table[k].1 = x at *
                        generalize s.table[k - 1].1 = y at *
                        go_wp2_with fail
                        by_cases hxy : y < x
                        · have hxy' : ¬ x ≤ y := by omega
                          have HR := Lib.hid (HN.out (by omega))
                          go_quiet (fail)
                          go_wp2_with fail
                          go_roundw
                          case rel => exact ⟨k + 1, by omega, hlt, by go_num, HR.out, Below.drewN' HU.out _⟩
                          case measure => simp [intOf]; omega
                        · have hxy' : x ≤ y := by omega
                          have HR := Lib.hid (show chk s = 4 by rw [HX2.out, if_pos (HF.out (by omega))])
                          go_quiet (fail)
                          go_wp2_with fail
                          go_ret
                          exact ⟨by rw [HR.out]; rfl, Up.trans HU1.out (Below.drewN' HU.out _)⟩
                      · obtain rfl : k = s.table.length := by omega
                        have HU2 := Lib.hid (Up.trans HU1.out HU.out)
                        have HL2 := Lib.hid (HL1.out.up HU.out)
                        have d1 := HU.out.cellAt c1
                        have d2 := HU.out.cellAt c2
                        have d3 := HU.out.cellAt c3
                        have d4 := HU.out.cellAt c4
                        have HO := Lib.hid (show ordB s.table = true from HT.out)
                        clear c0 c1 c2 c3 c4 HU HU1 HL1 HT hk hlt
                        by_cases hw : s.hi < s.lo
                        · have HR := Lib.hid (show chk s = 4 by rw [HX2.out, if_pos (by unfold okOrder; rw [HO.out]; simp; omega)])
                          go_wp2_with fail
                          go_ret
                          exact ⟨by rw [HR.out]; rfl, HU2.out⟩
                        · have HX3 := Lib.hid (show chk s = if s.sills.all (okThings s.floors.length) = false then 1 else if s.sills.all (fun x => x.1 != x.2.1) = false then 8 else 0 by rw [HX2.out, if_neg (by unfold okOrder; rw [HO.out]; simp; omega)])
                          clear HX2 HO
                          go_wp2_with fail
                          go_loopw [8] (fun i wq => ∃ k : Nat, k ≤ s.sills.length ∧ i = .int .i64 k ∧ (s.sills.take k).all (okThings s.floors.length) = true ∧ wq = wr) (fun i _ => s.sills.length - (intOf i).toNat)
                          case atStart => exact ⟨0, Nat.zero_le _, rfl, rfl, rfl⟩
                          case round =>
                            obtain ⟨k, hk, rfl, ht, rfl⟩ := hrel
                            have HT := Lib.hid ht
                            clear ht
                            by_cases hlt : k < s.sills.length
                            · obtain ⟨b, off, rfl, x0, x1, x2⟩ := HL2.out.rs.triple k hlt
                              have b1 : (k : Int) < (s.sills.length : Int) := by omega
                              have b2 : (0 : Int) ≤ k := by omega
                              have sk : IntKind.i64.wrap ((k : Int) + 1) = (k : Int) + 1 := IntWalk.i64_in _ (by omega)
                              have sf : IntKind.i64.wrap ((s.floors.length : Int) - 1) = (s.floors.length : Int) - 1 := IntWalk.i64_in _ (by omega)
                              have HN := Lib.hid (all_take_succ' (f := okThings s.floors.length) hlt HT.out)
                              have HF := Lib.hid (fun h : okThings s.floors.length s.sills[k] = false => all_false_at (f := okThings s.floors.length) hlt h)
                              generalize s.sills[k] = x at *
                              obtain ⟨xa, xb, xc⟩ := x
                              dsimp only at x0 x1 x2
                              have HE := Lib.hid (show okThings s.floors.length (xa, xb, xc) = (inB xa (-1) ((s.floors.length : Int) - 1) && inB xb (-1) ((s.floors.length : Int) - 1)) by unfold okThings; rw [thing_eq xa _ (by omega), thing_eq xb _ (by omega)])
                              cases h1 : inB xa (-1) ((s.floors.length : Int) - 1)
                              · have HR := Lib.hid (show chk s = 1 by rw [HX3.out, if_pos (HF.out (by rw [HE.out, h1]; rfl))])
                                go_wp2_with (go_at_call 49; refine (off_c _ _ _ _).mono ?_; rintro e w' ⟨rfl, rfl⟩)
                                go_ret
                                exact ⟨by rw [HR.out]; rfl, HU2.out⟩
                              · cases h2 : inB xb (-1) ((s.floors.length : Int) - 1)
                                · have HR := Lib.hid (show chk s = 1 by rw [HX3.out, if_pos (HF.out (by rw [HE.out, h1, h2]; rfl))])
                                  go_wp2_with (go_at_call 49; refine (off_c _ _ _ _).mono ?_; rintro e w' ⟨rfl, rfl⟩)
                                  go_ret
                                  exact ⟨by rw [HR.out]; rfl, HU2.out⟩
                                · have HR := Lib.hid (HN.out (by rw [HE.out, h1, h2]; rfl))
                                  go_wp2_with (go_at_call 49; refine (off_c _ _ _ _).mono ?_; rintro e w' ⟨rfl, rfl⟩)
                                  go_roundw
                                  case rel => exact ⟨k + 1, hlt, by go_num, HR.out, by first | rfl | trivial⟩
                                  case measure => simp [intOf]; omega
                            · obtain rfl : k = s.sills.length := by omega
                              rw [List.take_length] at HT
                              have HX4 := Lib.hid (show chk s = if s.sills.all (fun x => x.1 != x.2.1) = false then 8 else 0 by rw [HX3.out, if_neg (by rw [HT.out]; decide)])
                              clear HT hk hlt HX3
                              go_wp2_with fail
                              go_loopw [9] (fun i wq => ∃ k : Nat, k ≤ s.sills.length ∧ i = .int .i64 k ∧ (s.sills.take k).all (fun x => x.1 != x.2.1) = true ∧ Up wr wq) (fun i _ => s.sills.length - (intOf i).toNat)
                              case atStart => exact ⟨0, Nat.zero_le _, rfl, rfl, Below.refl _ _⟩
                              case round =>
                                obtain ⟨k, hk, rfl, ht, hu⟩ := hrel
                                have HT := Lib.hid ht
                                have HU := Lib.hid hu
                                have e4 := hu.cellAt d4
                                clear ht hu
                                by_cases hlt : k < s.sills.length
                                · obtain ⟨b, off, rfl, x0, x1, x2⟩ := HL2.out.rs.triple k hlt
                                  have y0 := HU.out.cellAt x0
                                  have y1 := HU.out.cellAt x1
                                  have b1 : (k : Int) < (s.sills.length : Int) := by omega
                                  have b2 : (0 : Int) ≤ k := by omega
                                  have sk : IntKind.i64.wrap ((k : Int) + 1) = (k : Int) + 1 := IntWalk.i64_in _ (by omega)
                                  have HN := Lib.hid (all_take_succ' (f := fun x => x.1 != x.2.1) hlt HT.out)
                                  have HF := Lib.hid (fun h : (s.sills[k].1 != s.sills[k].2.1) = false => all_false_at (f := fun x : Int × Int × Int => x.1 != x.2.1) hlt h)
                                  clear x0 x1 x2
                                  generalize s.sills[k] = x at *
                                  obtain ⟨xa, xb, xc⟩ := x
                                  dsimp only at y0 y1
                                  go_wp2_with fail
                                  by_cases hxy : xa = xb
                                  · have HR := Lib.hid (show chk s = 8 by rw [HX4.out, if_pos (HF.out (by simp [hxy]))])
                                    go_quiet (fail)
                                    go_wp2_with fail
                                    go_ret
                                    exact ⟨by rw [HR.out]; rfl, Up.trans HU2.out (Below.drewN' HU.out _)⟩
                                  · have HR := Lib.hid (HN.out (by simp [hxy]))
                                    go_quiet (fail)
                                    go_wp2_with fail
                                    go_roundw
                                    case rel => exact ⟨k + 1, hlt, by go_num, HR.out, Below.drewN' HU.out _⟩
                                    case measure => simp [intOf]; omega
                                · obtain rfl : k = s.sills.length := by omega
                                  rw [List.take_length] at HT
                                  have HR := Lib.hid (show chk s = 0 by rw [HX4.out, if_neg (by rw [HT.out]; decide)])
                                  go_wp2_with fail
                                  go_ret
                                  exact ⟨by rw [HR.out]; rfl, Up.trans HU2.out HU.out⟩
end
end Go.Proofs.YtknaajofcbenaaaGreat
/- The reference's LooksError, agrees and members. -/
namespace Go.Proofs.YtknaajofcbenaaaGreat
open Go.RowKit Go.Shelf

section
variable {pT pF pS : Option Addr} {cT cF cS : Nat}
set_option maxRecDepth 100000 in
set_option maxHeartbeats 1000000 in
theorem agrees_c (h t : Int) (G : List Int) (q : Option Addr) (n d : Nat) (x : Lk) (p : Nat) (w : World) (hr : Row w q 1 (ints G)) (hn : G.length = n) (hx : x.2.1 = p) (hp : p < n) (h0 : -100000 ≤ h) (h1 : h ≤ 100000) (t0 : -100000 ≤ t) (t1 : t ≤ 100000) :
    Calls Tryz.prog 78 #[.int .i64 h, .slice q n d, .int .i64 t, .agg #[.int .i64 x.1, .int .i64 x.2.1, .bool x.2.2]] w fun e w' => e = .returned (.bool (decide (G[p]?.getD 0 < h + t) == x.2.2)) ∧ Up w w' := by
  obtain ⟨m, y, b⟩ := x
  dsimp only at hx ⊢
  subst hx
  have hpl : p < G.length := by omega
  obtain ⟨bg, og, rfl, cg⟩ := hr.int p hpl
  have hg : G[p]?.getD 0 = G[p] := by rw [List.getElem?_eq_getElem hpl]; rfl
  rw [hg]
  have gl := cell_lt cg
  have p1 : (p : Int) < (n : Int) := by omega
  have s1 : IntKind.i64.wrap (h + t) = h + t := IntWalk.i64_in _ (by omega)
  obtain ⟨g, hge⟩ : ∃ g, G[p] = g := ⟨_, rfl⟩
  rw [hge] at cg ⊢
  clear hg hge hr hn hpl
  go_enter Tryz.func78, Tryz.ntmps78
  go_wp2_with fail
  go_quiet (fail)
  go_wp2_with fail
  go_ret
  exact ⟨rfl, by (repeat (first | exact Below.refl _ _ | (with_reducible refine Below.drewN' ?_ _) | (with_reducible refine Below.drew ?_) | (with_reducible refine Below.setCell ?_ (by first | exact Nat.le_refl _ | omega | (with_reducible (repeat (first | refine sz_alloc ?_ | refine sz_setCell ?_ | refine sz_drew ?_ | refine sz_drewN ?_)); first | exact Nat.le_refl _ | omega) | (simp only [World.size_alloc, World.size_setCell, World.size_drew, size_drewN']; omega)) _) | (with_reducible refine Below.alloc ?_ (by first | exact Nat.le_refl _ | omega | (with_reducible (repeat (first | refine sz_alloc ?_ | refine sz_setCell ?_ | refine sz_drew ?_ | refine sz_drewN ?_)); first | exact Nat.le_refl _ | omega) | (simp only [World.size_alloc, World.size_setCell, World.size_drew, size_drewN']; omega)) _) | assumption))⟩

set_option maxRecDepth 100000 in
set_option maxHeartbeats 1000000 in
theorem refLooksError_c (s : Sd) (l : List Lk) (q : Option Addr) (d : Nat) (w : World) (hl : Lists w s pT pF pS cT cF cS) (hr : Row w q 3 (lrows l)) (hm : l.length ≤ 100) :
    Calls Tryz.prog 27 #[sdVal s pT pF pS cT cF cS, .slice q l.length d] w fun e w' => e = .returned (.int .i64 (errLooks s l)) ∧ Up w w' := by
  have HCK := Lib.hid (fun W (u : Up w W) => refCheck_c s W (hl.up u))
  have HPL := Lib.hid (fun x W (u : Up w W) => refPlace_c s x W (hl.up u))
  have HL := Lib.hid hl
  have HR := Lib.hid hr
  clear hl hr
  unfold sdVal
  go_enter Tryz.func27, Tryz.ntmps27
  go_wp2_with fail
  have BS : Hid (Blk (w.alloc (.cells #[.slice pT s.table.length cT, .int .i64 s.lo, .int .i64 s.hi, .slice pF s.floors.length cF, .slice pS s.sills.length cS] 35)) w.heap.size (sdCells s pT pF pS cT cF cS) 35) := Lib.hid (Blk.new w (sdCells s pT pF pS cT cF cS) 35)
  have U0 : Hid (Up w (w.alloc (.cells #[.slice pT s.table.length cT, .int .i64 s.lo, .int .i64 s.hi, .slice pF s.floors.length cF, .slice pS s.sills.length cS] 35))) := Lib.hid (by (repeat (first | exact Below.refl _ _ | (with_reducible refine Below.drewN' ?_ _) | (with_reducible refine Below.drew ?_) | (with_reducible refine Below.setCell ?_ (by first | exact Nat.le_refl _ | omega | (with_reducible (repeat (first | refine sz_alloc ?_ | refine sz_setCell ?_ | refine sz_drew ?_ | refine sz_drewN ?_)); first | exact Nat.le_refl _ | omega) | (simp only [World.size_alloc, World.size_setCell, World.size_drew, size_drewN']; omega)) _) | (with_reducible refine Below.alloc ?_ (by first | exact Nat.le_refl _ | omega | (with_reducible (repeat (first | refine sz_alloc ?_ | refine sz_setCell ?_ | refine sz_drew ?_ | refine sz_drewN ?_)); first | exact Nat.le_refl _ | omega) | (simp only [World.size_alloc, World.size_setCell, World.size_drew, size_drewN']; omega)) _) | assumption)))
  generalize (w.alloc (.cells #[.slice pT s.table.length cT, .int .i64 s.lo, .int .i64 s.hi, .slice pF s.floors.length cF, .slice pS s.sills.length cS] 35)) = w0 at *
  refine (HCK.out w0 U0.out).mono ?_
  rintro e w1 ⟨rfl, u1⟩
  have U1 := Lib.hid u1
  clear u1
  by_cases hE : chk s = 0
  · have OK := Lib.hid (chk_ok hE)
    have HE := Lib.hid (show errLooks s l = if 10 < l.length then 2 else lkErr s l by unfold errLooks; rw [if_pos hE])
    have n1 : (chk s != 0) = false := by rw [hE]; rfl
    obtain ⟨-, -, ht2, ht12⟩ := OK.out.table
    have HMN := Lib.hid (fun m W (u : Up w W) => refMinute_c s m W (HL.out.up u) ht2 ht12)
    clear hE
    by_cases h10 : 10 < l.length
    · have HV : Hid (errLooks s l = 2) := by show _ = _; rw [HE.out, if_pos h10]
      have g1 : (10 : Int) < l.length := by omega
      go_wp2_with fail
      go_ret
      exact ⟨by rw [HV.out]; rfl, Up.trans U0.out U1.out⟩
    · have HV := Lib.hid (show errLooks s l = lkErr s l by rw [HE.out, if_neg h10])
      have g1 : ¬ (10 : Int) < l.length := by omega
      go_wp2_with fail
      go_loopw [6, 7, 8] (fun i _ _ wr => ∃ k : Nat, k ≤ l.length ∧ i = .int .i64 k ∧ lkErr s l = lkErr s (l.drop k) ∧ Up w0 wr) (fun i _ _ _ => l.length - (intOf i).toNat)
      case atStart => exact ⟨0, Nat.zero_le _, rfl, rfl, U1.out⟩
      case round =>
        obtain ⟨k, hk, rfl, hv, hu⟩ := hrel
        have HU := Lib.hid hu
        have HK := Lib.hid hv
        clear hv
        by_cases hlt : k < l.length
        · have k1 : (k : Int) < l.length := by omega
          obtain ⟨c0, c1, c2, c3, c4⟩ := five (BS.out.up hu)
          obtain ⟨bq, oq, rfl, x0, x1, x2⟩ := (HR.out.up (Up.trans U0.out hu)).look k hlt
          have hdr : l.drop k = l[k] :: l.drop (k + 1) := List.drop_eq_getElem_cons hlt
          have HST := Lib.hid (show lkErr s (l.drop k) = if inDay s l[k].1 = true then (if isPl s l[k].2.1 = true then lkErr s (l.drop (k + 1)) else 1) else 3 by rw [hdr]; rfl)
          clear hdr hu
          generalize l[k] = y at *
          go_wp2_with fail
          refine region_tail (fun W' => W'.cell? ⟨w.heap.size, 0, none⟩ = some (.slice pT s.table.length cT) ∧ W'.cell? ⟨w.heap.size, 1, none⟩ = some (.int .i64 s.lo) ∧ W'.cell? ⟨w.heap.size, 2, none⟩ = some (.int .i64 s.hi) ∧ W'.cell? ⟨w.heap.size, 3, none⟩ = some (.slice pF s.floors.length cF) ∧ W'.cell? ⟨w.heap.size, 4, none⟩ = some (.slice pS s.sills.length cS) ∧ W'.cell? ⟨bq, oq + k * 3, none⟩ = some (.int .i64 y.1)) 7 mixed (by kernel_rfl) ⟨c0, c1, c2, c3, c4, x0⟩ (fun hHeld => ?_)
          refine wpAnyG_take 0 23 (v := ?_) rfl rfl (by kernel_rfl) (fun _ _ _ h => h) (Or.inl ⟨by rfl, ?_⟩) (by assumption) ?_
          rotate_left
          · (intro w' hSw; (try dsimp only at hSw); go_split_ands; go_simp; try with_reducible rfl)
          try simp only [List.setIfInBounds_toArray, List.set_cons_zero, List.set_cons_succ]
          refine wpAnyG_take 1 24 (v := ?_) rfl rfl (by kernel_rfl) (fun _ _ _ h => h) (Or.inl ⟨by rfl, ?_⟩) (by assumption) ?_
          rotate_left
          · (intro w' hSw; (try dsimp only at hSw); go_split_ands; go_simp; try with_reducible rfl)
          try simp only [List.setIfInBounds_toArray, List.set_cons_zero, List.set_cons_succ]
          refine wpAnyG_take 2 25 (v := ?_) rfl rfl (by kernel_rfl) (fun _ _ _ h => h) (Or.inl ⟨by rfl, ?_⟩) (by assumption) ?_
          rotate_left
          · (intro w' hSw; (try dsimp only at hSw); go_split_ands; go_simp; try with_reducible rfl)
          try simp only [List.setIfInBounds_toArray, List.set_cons_zero, List.set_cons_succ]
          refine wpAnyG_take 3 26 (v := ?_) rfl rfl (by kernel_rfl) (fun _ _ _ h => h) (Or.inl ⟨by rfl, ?_⟩) (by assumption) ?_
          rotate_left
          · (intro w' hSw; (try dsimp only at hSw); go_split_ands; go_simp; try with_reducible rfl)
          try simp only [List.setIfInBounds_toArray, List.set_cons_zero, List.set_cons_succ]
          refine wpAnyG_take 4 27 (v := ?_) rfl rfl (by kernel_rfl) (fun _ _ _ h => h) (Or.inl ⟨by rfl, ?_⟩) (by assumption) ?_
          rotate_left
          · (intro w' hSw; (try dsimp only at hSw); go_split_ands; go_simp; try with_reducible rfl)
          try simp only [List.setIfInBounds_toArray, List.set_cons_zero, List.set_cons_succ]
          refine wpAnyG_take 5 28 (v := ?_) rfl rfl (by kernel_rfl) (fun _ _ _ h => h) (Or.inl ⟨by rfl, ?_⟩) (by assumption) ?_
          rotate_left
          · (intro w' hSw; (try dsimp only at hSw); go_split_ands; go_simp; try with_reducible rfl)
          try simp only [List.setIfInBounds_toArray, List.set_cons_zero, List.set_cons_succ]
          refine wpAnyG_do 6 rfl (by kernel_rfl) (fun K hK => ?_)
          rw [if_pos (by rfl)]
          go_simp
          refine (HMN.out y.1 _ (Up.trans U0.out (Up.trans HU.out (by (repeat (first | exact Below.refl _ _ | (with_reducible refine Below.drewN' ?_ _) | (with_reducible refine Below.drew ?_) | (with_reducible refine Below.setCell ?_ (by first | exact Nat.le_refl _ | omega | (with_reducible (repeat (first | refine sz_alloc ?_ | refine sz_setCell ?_ | refine sz_drew ?_ | refine sz_drewN ?_)); first | exact Nat.le_refl _ | omega) | (simp only [World.size_alloc, World.size_setCell, World.size_drew, size_drewN']; omega)) _) | (with_reducible refine Below.alloc ?_ (by first | exact Nat.le_refl _ | omega | (with_reducible (repeat (first | refine sz_alloc ?_ | refine sz_setCell ?_ | refine sz_drew ?_ | refine sz_drewN ?_)); first | exact Nat.le_refl _ | omega) | (simp only [World.size_alloc, World.size_setCell, World.size_drew, size_drewN']; omega)) _) | assumption)))))).mono ?_
          rintro e wa ⟨rfl, va⟩
          have v1 : Up wr wa := Up.trans (by (repeat (first | exact Below.refl _ _ | (with_reducible refine Below.drewN' ?_ _) | (with_reducible refine Below.drew ?_) | (with_reducible refine Below.setCell ?_ (by first | exact Nat.le_refl _ | omega | (with_reducible (repeat (first | refine sz_alloc ?_ | refine sz_setCell ?_ | refine sz_drew ?_ | refine sz_drewN ?_)); first | exact Nat.le_refl _ | omega) | (simp only [World.size_alloc, World.size_setCell, World.size_drew, size_drewN']; omega)) _) | (with_reducible refine Below.alloc ?_ (by first | exact Nat.le_refl _ | omega | (with_reducible (repeat (first | refine sz_alloc ?_ | refine sz_setCell ?_ | refine sz_drew ?_ | refine sz_drewN ?_)); first | exact Nat.le_refl _ | omega) | (simp only [World.size_alloc, World.size_setCell, World.size_drew, size_drewN']; omega)) _) | assumption))) va
          refine hK.out _ _ ⟨v1.cellAt c0, v1.cellAt c1, v1.cellAt c2, v1.cellAt c3, v1.cellAt c4, v1.cellAt x0⟩ (fun hHeld => ?_)
          clear hK K va
          refine wpAnyG_tail (by kernel_rfl) ?_
          change wpList _ _ _ [_] _ _
          obtain ⟨c0, c1, c2, c3, c4⟩ := five (BS.out.up (Up.trans HU.out v1))
          have x1 := v1.cellAt x1
          have VA := Lib.hid (Up.trans HU.out v1)
          clear hHeld v1 x0 x2 HU
          cases hd : inDay s y.1 with
          | false =>
            have HV2 : Hid (errLooks s l = 3) := by show _ = _; rw [HV.out, HK.out, HST.out, hd]; rfl
            clear hd HST
            go_wp2_with fail
            go_ret
            exact ⟨by rw [HV2.out]; rfl, Up.trans U0.out VA.out⟩
          | true =>
            rw [hd, if_pos rfl] at HST
            clear hd
            go_wp2_with fail
            refine region_tail (fun W' => W'.cell? ⟨w.heap.size, 0, none⟩ = some (.slice pT s.table.length cT) ∧ W'.cell? ⟨w.heap.size, 1, none⟩ = some (.int .i64 s.lo) ∧ W'.cell? ⟨w.heap.size, 2, none⟩ = some (.int .i64 s.hi) ∧ W'.cell? ⟨w.heap.size, 3, none⟩ = some (.slice pF s.floors.length cF) ∧ W'.cell? ⟨w.heap.size, 4, none⟩ = some (.slice pS s.sills.length cS) ∧ W'.cell? ⟨bq, oq + k * 3 + 1, none⟩ = some (.int .i64 y.2.1)) 7 mixed (by kernel_rfl) ⟨c0, c1, c2, c3, c4, x1⟩ (fun hHeld => ?_)
            refine wpAnyG_take 0 33 (v := ?_) rfl rfl (by kernel_rfl) (fun _ _ _ h => h) (Or.inl ⟨by rfl, ?_⟩) (by assumption) ?_
            rotate_left
            · (intro w' hSw; (try dsimp only at hSw); go_split_ands; go_simp; try with_reducible rfl)
            try simp only [List.setIfInBounds_toArray, List.set_cons_zero, List.set_cons_succ]
            refine wpAnyG_take 1 34 (v := ?_) rfl rfl (by kernel_rfl) (fun _ _ _ h => h) (Or.inl ⟨by rfl, ?_⟩) (by assumption) ?_
            rotate_left
            · (intro w' hSw; (try dsimp only at hSw); go_split_ands; go_simp; try with_reducible rfl)
            try simp only [List.setIfInBounds_toArray, List.set_cons_zero, List.set_cons_succ]
            refine wpAnyG_take 2 35 (v := ?_) rfl rfl (by kernel_rfl) (fun _ _ _ h => h) (Or.inl ⟨by rfl, ?_⟩) (by assumption) ?_
            rotate_left
            · (intro w' hSw; (try dsimp only at hSw); go_split_ands; go_simp; try with_reducible rfl)
            try simp only [List.setIfInBounds_toArray, List.set_cons_zero, List.set_cons_succ]
            refine wpAnyG_take 3 36 (v := ?_) rfl rfl (by kernel_rfl) (fun _ _ _ h => h) (Or.inl ⟨by rfl, ?_⟩) (by assumption) ?_
            rotate_left
            · (intro w' hSw; (try dsimp only at hSw); go_split_ands; go_simp; try with_reducible rfl)
            try simp only [List.setIfInBounds_toArray, List.set_cons_zero, List.set_cons_succ]
            refine wpAnyG_take 4 37 (v := ?_) rfl rfl (by kernel_rfl) (fun _ _ _ h => h) (Or.inl ⟨by rfl, ?_⟩) (by assumption) ?_
            rotate_left
            · (intro w' hSw; (try dsimp only at hSw); go_split_ands; go_simp; try with_reducible rfl)
            try simp only [List.setIfInBounds_toArray, List.set_cons_zero, List.set_cons_succ]
            refine wpAnyG_take 5 38 (v := ?_) rfl rfl (by kernel_rfl) (fun _ _ _ h => h) (Or.inl ⟨by rfl, ?_⟩) (by assumption) ?_
            rotate_left
            · (intro w' hSw; (try dsimp only at hSw); go_split_ands; go_simp; try with_reducible rfl)
            try simp only [List.setIfInBounds_toArray, List.set_cons_zero, List.set_cons_succ]
            refine wpAnyG_do 6 rfl (by kernel_rfl) (fun K hK => ?_)
            rw [if_pos (by rfl)]
            go_simp
            refine (HPL.out y.2.1 _ (Up.trans U0.out (Up.trans VA.out (by (repeat (first | exact Below.refl _ _ | (with_reducible refine Below.drewN' ?_ _) | (with_reducible refine Below.drew ?_) | (with_reducible refine Below.setCell ?_ (by first | exact Nat.le_refl _ | omega | (with_reducible (repeat (first | refine sz_alloc ?_ | refine sz_setCell ?_ | refine sz_drew ?_ | refine sz_drewN ?_)); first | exact Nat.le_refl _ | omega) | (simp only [World.size_alloc, World.size_setCell, World.size_drew, size_drewN']; omega)) _) | (with_reducible refine Below.alloc ?_ (by first | exact Nat.le_refl _ | omega | (with_reducible (repeat (first | refine sz_alloc ?_ | refine sz_setCell ?_ | refine sz_drew ?_ | refine sz_drewN ?_)); first | exact Nat.le_refl _ | omega) | (simp only [World.size_alloc, World.size_setCell, World.size_drew, size_drewN']; omega)) _) | assumption)))))).mono ?_
            rintro e wb ⟨rfl, vb⟩
            have v2 : Up wa wb := Up.trans (by (repeat (first | exact Below.refl _ _ | (with_reducible refine Below.drewN' ?_ _) | (with_reducible refine Below.drew ?_) | (with_reducible refine Below.setCell ?_ (by first | exact Nat.le_refl _ | omega | (with_reducible (repeat (first | refine sz_alloc ?_ | refine sz_setCell ?_ | refine sz_drew ?_ | refine sz_drewN ?_)); first | exact Nat.le_refl _ | omega) | (simp only [World.size_alloc, World.size_setCell, World.size_drew, size_drewN']; omega)) _) | (with_reducible refine Below.alloc ?_ (by first | exact Nat.le_refl _ | omega | (with_reducible (repeat (first | refine sz_alloc ?_ | refine sz_setCell ?_ | refine sz_drew ?_ | refine sz_drewN ?_)); first | exact Nat.le_refl _ | omega) | (simp only [World.size_alloc, World.size_setCell, World.size_drew, size_drewN']; omega)) _) | assumption))) vb
            refine hK.out _ _ ⟨v2.cellAt c0, v2.cellAt c1, v2.cellAt c2, v2.cellAt c3, v2.cellAt c4, v2.cellAt x1⟩ (fun hHeld => ?_)
            clear hK K vb
            refine wpAnyG_tail (by kernel_rfl) ?_
            change wpList _ _ _ [_] _ _
            have VB := Lib.hid (Up.trans VA.out v2)
            have sk : IntKind.i64.wrap ((k : Int) + 1) = (k : Int) + 1 := IntWalk.i64_in _ (by omega)
            clear hHeld v2 x1 VA c0 c1 c2 c3 c4
            cases hp : isPl s y.2.1 with
            | false =>
              have HV2 : Hid (errLooks s l = 1) := by show _ = _; rw [HV.out, HK.out, HST.out, hp]; rfl
              clear hp HST
              go_wp2_with fail
              go_ret
              exact ⟨by rw [HV2.out]; rfl, Up.trans U0.out VB.out⟩
            | true =>
              rw [hp, if_pos rfl] at HST
              clear hp
              go_wp2_with fail
              go_roundw
              case rel =>
                try ((repeat apply Exists.intro); refine ⟨?_, rfl⟩)
                exact ⟨k + 1, by omega, by go_num, by rw [HK.out, HST.out], VB.out⟩
              case measure => simp [intOf]; omega
        · obtain rfl : k = l.length := by omega
          have HV2 : Hid (errLooks s l = 0) := by show _ = _; rw [HV.out, HK.out, List.drop_length]; rfl
          clear hu
          go_wp2_with fail
          go_ret
          exact ⟨by rw [HV2.out]; rfl, Up.trans U0.out HU.out⟩
  · have HV : Hid (errLooks s l = chk s) := by show _ = _; unfold errLooks; rw [if_neg hE]
    have n1 : (chk s != 0) = true := by simp [hE]
    clear hE
    go_wp2_with fail
    go_ret
    exact ⟨by rw [HV.out]; rfl, Up.trans U0.out U1.out⟩
end
end Go.Proofs.YtknaajofcbenaaaGreat
/- The reference's Left. -/
namespace Go.Proofs.YtknaajofcbenaaaGreat
open Go.RowKit Go.Shelf

def hL (s : Sd) (l : List Lk) (k : Nat) : List Int := (l.take k).map (fun x => hgt s.table x.1)
theorem hL_len (s : Sd) (l : List Lk) {k : Nat} (h : k ≤ l.length) : (hL s l k).length = k := by unfold hL; rw [List.length_map, List.length_take]; omega
theorem hL_succ (s : Sd) (l : List Lk) {k : Nat} (h : k < l.length) : hL s l (k + 1) = hL s l k ++ [hgt s.table l[k].1] := by unfold hL; rw [List.take_add_one, List.map_append, List.getElem?_eq_getElem h]; rfl

section
variable {pT pF pS : Option Addr} {cT cF cS : Nat}
set_option maxRecDepth 100000 in
set_option maxHeartbeats 2000000 in
theorem refLeft_c (s : Sd) (l : List Lk) (n set : Nat) (qg ql : Option Addr) (dg dl : Nat) (w : World) (ok : Ok s) (hn : l.length = n) (h10 : n ≤ 10) (hset : set < 1024) (hx : ∀ x ∈ l, inDay s x.1 = true ∧ isPl s x.2.1 = true)
    (hl : Lists w s pT pF pS cT cF cS) (hg : Row w qg 1 (ints (gatesR s))) (hr : Row w ql 3 (lrows l)) :
    Calls Tryz.prog 28 #[sdVal s pT pF pS cT cF cS, .slice qg s.floors.length dg, .slice ql n dl, .int .i64 set] w fun e w' => ∃ q d, e = .returned (.slice q (leftL s l set (wndN s)).length d) ∧ Row w' q 1 (ints (leftL s l set (wndN s))) ∧ Up w w' := by
  have b0 := ok.lo0
  have b1 := ok.hi1
  have b2 := ok.lohi
  have HWN := Lib.hid (show ((wndN s : Nat) : Int) = s.hi - s.lo + 1 by unfold wndN; omega)
  have HH := Lib.hid (fun (i : Nat) (hi : i < l.length) W (u : Up w W) => refHeight_c s l[i].1 W (hl.up u) ok.table (inB_true.1 (hx _ (List.getElem_mem hi)).1).1 (inB_true.1 (hx _ (List.getElem_mem hi)).1).2)
  have HX := Lib.hid hx
  have HG := Lib.hid hg
  have HR := Lib.hid hr
  have HN := Lib.hid hn
  have OK := Lib.hid ok
  obtain ⟨i0, hi, hz0, hz1, hz2⟩ := info_parts info3
  clear hl ok hx hg hr hn
  unfold sdVal at *
  go_enter Tryz.func28, Tryz.ntmps28
  go_wp2_with fail
  have BS : Hid (Blk (w.alloc (.cells #[.slice pT s.table.length cT, .int .i64 s.lo, .int .i64 s.hi, .slice pF s.floors.length cF, .slice pS s.sills.length cS] 35)) w.heap.size (sdCells s pT pF pS cT cF cS) 35) := Lib.hid (Blk.new w (sdCells s pT pF pS cT cF cS) 35)
  have U0 : Hid (Up w (w.alloc (.cells #[.slice pT s.table.length cT, .int .i64 s.lo, .int .i64 s.hi, .slice pF s.floors.length cF, .slice pS s.sills.length cS] 35))) := Lib.hid (by (repeat (first | exact Below.refl _ _ | (with_reducible refine Below.drewN' ?_ _) | (with_reducible refine Below.drew ?_) | (with_reducible refine Below.setCell ?_ (by first | exact Nat.le_refl _ | omega | (with_reducible (repeat (first | refine sz_alloc ?_ | refine sz_setCell ?_ | refine sz_drew ?_ | refine sz_drewN ?_)); first | exact Nat.le_refl _ | omega) | (simp only [World.size_alloc, World.size_setCell, World.size_drew, size_drewN']; omega)) _) | (with_reducible refine Below.alloc ?_ (by first | exact Nat.le_refl _ | omega | (with_reducible (repeat (first | refine sz_alloc ?_ | refine sz_setCell ?_ | refine sz_drew ?_ | refine sz_drewN ?_)); first | exact Nat.le_refl _ | omega) | (simp only [World.size_alloc, World.size_setCell, World.size_drew, size_drewN']; omega)) _) | assumption)))
  generalize (w.alloc (.cells #[.slice pT s.table.length cT, .int .i64 s.lo, .int .i64 s.hi, .slice pF s.floors.length cF, .slice pS s.sills.length cS] 35)) = w0 at *
  go_loopw [11, 10] (fun i v wr => ∃ k : Nat, k ≤ n ∧ i = .int .i64 k ∧ wr.ownsRow w0.heap.size 3 1 v k (ints (hL s l k)).flatten ∧ Up w0 wr) (fun i _ _ => n - (intOf i).toNat)
  case atStart => exact ⟨0, Nat.zero_le _, rfl, World.ownsRow_nil _ _ _ _, Below.refl _ _⟩
  case round =>
    obtain ⟨k, hk, rfl, hown, hu⟩ := hrel
    have HO := Lib.hid hown
    have HU := Lib.hid hu
    clear hown
    by_cases hlt : k < n
    · have k1 : (k : Int) < n := by omega
      have kl : k < l.length := by rw [HN.out]; exact hlt
      obtain ⟨c0, c1, c2, c3, c4⟩ := five (BS.out.up hu)
      obtain ⟨bq, oq, rfl, x00, -, -⟩ := (HR.out.up U0.out).look k kl
      have x0 := hu.cellAt x00
      have HHk := Lib.hid (HH.out k kl)
      have HS := Lib.hid (hL_succ s l kl)
      have hsz := hu.size
      generalize l[k] = y at *
      obtain ⟨h, hh⟩ : ∃ h, hgt s.table y.1 = h := ⟨_, rfl⟩
      have HY := Lib.hid hh
      rw [hh] at HHk HS
      clear hh kl hu
      go_upto_region 5 with fail
      refine region_tail (fun W' => W'.cell? ⟨w.heap.size, 0, none⟩ = some (.slice pT s.table.length cT) ∧ W'.cell? ⟨w.heap.size, 1, none⟩ = some (.int .i64 s.lo) ∧ W'.cell? ⟨w.heap.size, 2, none⟩ = some (.int .i64 s.hi) ∧ W'.cell? ⟨w.heap.size, 3, none⟩ = some (.slice pF s.floors.length cF) ∧ W'.cell? ⟨w.heap.size, 4, none⟩ = some (.slice pS s.sills.length cS) ∧ W'.cell? ⟨bq, oq + k * 3, none⟩ = some (.int .i64 y.1)) 10 mixed (by kernel_rfl) ⟨c0, c1, c2, c3, c4, x0⟩ (fun hHeld => ?_)
      refine wpAnyG_take 0 22 (v := ?_) rfl rfl (by kernel_rfl) (fun _ _ _ h => h) (Or.inl ⟨by rfl, ?_⟩) (by assumption) ?_
      rotate_left
      · (intro w' hSw; (try dsimp only at hSw); go_split_ands; go_simp; try with_reducible rfl)
      try simp only [List.setIfInBounds_toArray, List.set_cons_zero, List.set_cons_succ]
      refine wpAnyG_take 1 23 (v := ?_) rfl rfl (by kernel_rfl) (fun _ _ _ h => h) (Or.inl ⟨by rfl, ?_⟩) (by assumption) ?_
      rotate_left
      · (intro w' hSw; (try dsimp only at hSw); go_split_ands; go_simp; try with_reducible rfl)
      try simp only [List.setIfInBounds_toArray, List.set_cons_zero, List.set_cons_succ]
      refine wpAnyG_take 2 24 (v := ?_) rfl rfl (by kernel_rfl) (fun _ _ _ h => h) (Or.inl ⟨by rfl, ?_⟩) (by assumption) ?_
      rotate_left
      · (intro w' hSw; (try dsimp only at hSw); go_split_ands; go_simp; try with_reducible rfl)
      try simp only [List.setIfInBounds_toArray, List.set_cons_zero, List.set_cons_succ]
      refine wpAnyG_take 3 25 (v := ?_) rfl rfl (by kernel_rfl) (fun _ _ _ h => h) (Or.inl ⟨by rfl, ?_⟩) (by assumption) ?_
      rotate_left
      · (intro w' hSw; (try dsimp only at hSw); go_split_ands; go_simp; try with_reducible rfl)
      try simp only [List.setIfInBounds_toArray, List.set_cons_zero, List.set_cons_succ]
      refine wpAnyG_take 4 26 (v := ?_) rfl rfl (by kernel_rfl) (fun _ _ _ h => h) (Or.inl ⟨by rfl, ?_⟩) (by assumption) ?_
      rotate_left
      · (intro w' hSw; (try dsimp only at hSw); go_split_ands; go_simp; try with_reducible rfl)
      try simp only [List.setIfInBounds_toArray, List.set_cons_zero, List.set_cons_succ]
      refine wpAnyG_take 5 27 (v := ?_) rfl rfl (by kernel_rfl) (fun _ _ _ h => h) (Or.inl ⟨by rfl, ?_⟩) (by assumption) ?_
      rotate_left
      · (intro w' hSw; (try dsimp only at hSw); go_split_ands; go_simp; try with_reducible rfl)
      try simp only [List.setIfInBounds_toArray, List.set_cons_zero, List.set_cons_succ]
      refine wpAnyG_take 6 28 (v := ?_) rfl rfl (by kernel_rfl) (fun _ _ _ h => h) (Or.inl ⟨by rfl, ?_⟩) (by assumption) ?_
      rotate_left
      · (intro w' hSw; (try dsimp only at hSw); go_split_ands; go_simp; try with_reducible rfl)
      try simp only [List.setIfInBounds_toArray, List.set_cons_zero, List.set_cons_succ]
      refine wpAnyG_do 7 rfl (by kernel_rfl) (fun K hK => ?_)
      rw [if_pos (by rfl)]
      go_simp
      refine (HHk.out _ (Up.trans U0.out (Up.trans HU.out (by (repeat (first | exact Below.refl _ _ | (with_reducible refine Below.drewN' ?_ _) | (with_reducible refine Below.drew ?_) | (with_reducible refine Below.setCell ?_ (by first | exact Nat.le_refl _ | omega | (with_reducible (repeat (first | refine sz_alloc ?_ | refine sz_setCell ?_ | refine sz_drew ?_ | refine sz_drewN ?_)); first | exact Nat.le_refl _ | omega) | (simp only [World.size_alloc, World.size_setCell, World.size_drew, size_drewN']; omega)) _) | (with_reducible refine Below.alloc ?_ (by first | exact Nat.le_refl _ | omega | (with_reducible (repeat (first | refine sz_alloc ?_ | refine sz_setCell ?_ | refine sz_drew ?_ | refine sz_drewN ?_)); first | exact Nat.le_refl _ | omega) | (simp only [World.size_alloc, World.size_setCell, World.size_drew, size_drewN']; omega)) _) | assumption)))))).mono ?_
      rintro e w2 ⟨rfl, u2⟩
      have v2 : Up wr w2 := Up.trans (by (repeat (first | exact Below.refl _ _ | (with_reducible refine Below.drewN' ?_ _) | (with_reducible refine Below.drew ?_) | (with_reducible refine Below.setCell ?_ (by first | exact Nat.le_refl _ | omega | (with_reducible (repeat (first | refine sz_alloc ?_ | refine sz_setCell ?_ | refine sz_drew ?_ | refine sz_drewN ?_)); first | exact Nat.le_refl _ | omega) | (simp only [World.size_alloc, World.size_setCell, World.size_drew, size_drewN']; omega)) _) | (with_reducible refine Below.alloc ?_ (by first | exact Nat.le_refl _ | omega | (with_reducible (repeat (first | refine sz_alloc ?_ | refine sz_setCell ?_ | refine sz_drew ?_ | refine sz_drewN ?_)); first | exact Nat.le_refl _ | omega) | (simp only [World.size_alloc, World.size_setCell, World.size_drew, size_drewN']; omega)) _) | assumption))) u2
      refine hK.out _ _ ⟨v2.cellAt c0, v2.cellAt c1, v2.cellAt c2, v2.cellAt c3, v2.cellAt c4, v2.cellAt x0⟩ (fun hHeld => ?_)
      clear hK K
      refine wpAnyG_do 8 rfl (by kernel_rfl) (fun K hK => ?_)
      rw [if_pos (by rfl)]
      go_simp
      have U2 := Lib.hid (Up.trans HU.out v2)
      have hsz2 := v2.size
      have v3 : Up wr (w2.alloc (.cells #[.int .i64 h] 3)) := Up.trans v2 (by (repeat (first | exact Below.refl _ _ | (with_reducible refine Below.drewN' ?_ _) | (with_reducible refine Below.drew ?_) | (with_reducible refine Below.setCell ?_ (by first | exact Nat.le_refl _ | omega | (with_reducible (repeat (first | refine sz_alloc ?_ | refine sz_setCell ?_ | refine sz_drew ?_ | refine sz_drewN ?_)); first | exact Nat.le_refl _ | omega) | (simp only [World.size_alloc, World.size_setCell, World.size_drew, size_drewN']; omega)) _) | (with_reducible refine Below.alloc ?_ (by first | exact Nat.le_refl _ | omega | (with_reducible (repeat (first | refine sz_alloc ?_ | refine sz_setCell ?_ | refine sz_drew ?_ | refine sz_drewN ?_)); first | exact Nat.le_refl _ | omega) | (simp only [World.size_alloc, World.size_setCell, World.size_drew, size_drewN']; omega)) _) | assumption)))
      have O3 := Lib.hid ((ownsRow_up HO.out v2).alloc (.cells #[.int .i64 h] 3))
      refine hK.out _ _ ⟨v3.cellAt c0, v3.cellAt c1, v3.cellAt c2, v3.cellAt c3, v3.cellAt c4, v3.cellAt x0⟩ (fun hHeld => ?_)
      clear hK K
      refine wpAnyG_do 9 rfl (by kernel_rfl) (fun K hK => ?_)
      rw [if_pos (by rfl)]
      refine wp_append_own _ _ _ 25 rfl w0.heap.size 3 i0 (.int .i64 0) 1 8 Tryz.underlying25 hi hz0 hz1 hz2 rfl (by decide) _ k _ rfl O3.out ⟨w2.heap.size, 0, none⟩ 1 1 [.int .i64 h] (by go_simp) rfl (newsAt w2 rfl [.int .i64 h] _) (by simp [Value.oneCell']) (by simp [maxLen]; omega) (by omega) (sz_alloc (Nat.le_trans hsz hsz2)) ?_
      intro v' w8 hown8 hgr8 hnn
      clear hnn
      have v31 : Up w0 (w2.alloc (.cells #[.int .i64 h] 3)) := Up.trans HU.out v3
      have u8 : Up w0 w8 := v31.grown hgr8 v31.size (fun j e => (O3.out.lt j e).1)
      have U8 := Lib.hid u8
      have O8 := Lib.hid hown8
      have x08 := u8.cellAt x00
      refine hK.out _ _ (by obtain ⟨a0, a1, a2, a3, a4⟩ := five (BS.out.up u8); exact ⟨a0, a1, a2, a3, a4, x08⟩) (fun hHeld => ?_)
      clear hK K hown8 hgr8 v2 v3 v31 u8 O3 HO c0 c1 c2 c3 c4 x0 x00 x08 hHeld HHk
      try simp only [List.setIfInBounds_toArray, List.set_cons_zero, List.set_cons_succ]
      refine wpAnyG_tail (by kernel_rfl) ?_
      change wpList _ _ _ [_] _ _
      have sy : IntKind.i64.wrap ((k : Int) + 1) = k + 1 := IntWalk.i64_in _ (by omega)
      go_wp2_with fail
      go_roundw
      case rel =>
        try ((repeat apply Exists.intro); refine ⟨?_, rfl⟩)
        refine ⟨k + 1, by omega, by go_num, ?_, U8.out⟩
        have e : (ints (hL s l k ++ [h])).flatten = (ints (hL s l k)).flatten ++ [.int .i64 h] := by unfold ints; rw [List.map_append, List.flatten_append]; rfl
        rw [HS.out, e]
        exact O8.out
      case measure => simp [intOf]; omega
    · obtain rfl : n = k := by omega
      obtain ⟨qh, dh, rfl, -, -, rh, -⟩ := Row.of_own (rows := ints (hL s l n)) (flatOk_ints _) HO.out (by simp [ints, hL_len s l (show n ≤ l.length by rw [HN.out]; exact Nat.le_refl _)])
      have RH := Lib.hid rh
      have U1 := HU
      obtain ⟨c0, c1, c2, c3, c4⟩ := five (BS.out.up hu)
      clear rh HO hu HU HH
      generalize wr = w1 at *
      go_wp2_with fail
      go_loopw [12, 9, 13, 14, 15] (fun t o _ _ _ wr => ∃ k : Nat, k ≤ wndN s ∧ t = .int .i64 (s.lo + k) ∧ wr.ownsRow w1.heap.size 3 1 o (leftL s l set k).length (ints (leftL s l set k)).flatten ∧ Up w1 wr) (fun t _ _ _ _ _ => (s.hi + 1 - intOf t).toNat)
      case atStart => exact ⟨0, Nat.zero_le _, by go_num, World.ownsRow_nil _ _ _ _, Below.refl _ _⟩
      case round =>
        obtain ⟨k, hk, rfl, hown, hu⟩ := hrel
        have HO := Lib.hid hown
        have HU := Lib.hid hu
        clear hown
        obtain ⟨c0, c1, c2, c3, c4⟩ := five (BS.out.up (Up.trans U1.out hu))
        have hsz := hu.size
        by_cases hlt : k < wndN s
        · have k1 : s.lo + (k : Int) ≤ s.hi := by have := HWN.out; omega
          clear hu
          obtain ⟨t, ht⟩ : ∃ t, s.lo + (k : Int) = t := ⟨_, rfl⟩
          have t0 : -100000 ≤ t := by omega
          have t1 : t ≤ 100000 := by omega
          rw [ht] at k1 ⊢
          go_wp2_with fail
          generalize wr = w2 at *
          go_loopw [13, 14, 15] (fun a r i wx => ∃ j : Nat, j ≤ n ∧ a = .bool (allB s l set t j) ∧ r = .int .i64 ((set / 2 ^ j : Nat) : Int) ∧ i = .int .i64 j ∧ Up w2 wx) (fun _ _ i _ => n - (intOf i).toNat)
          case atStart => exact ⟨0, Nat.zero_le _, rfl, by simp, rfl, Below.refl _ _⟩
          case round =>
            obtain ⟨j, hj, rfl, rfl, rfl, hv⟩ := hrel
            have HV := Lib.hid hv
            clear hv
            by_cases hjn : j < n
            · have j1 : (j : Int) < n := by omega
              have jl : j < l.length := by rw [HN.out]; exact hjn
              have nl : n ≤ l.length := by rw [HN.out]; exact Nat.le_refl _
              have V0 := Lib.hid (Up.trans U0.out (Up.trans U1.out (Up.trans HU.out HV.out)))
              obtain ⟨bh, oh, rfl, ch⟩ := (RH.out.up (Up.trans HU.out HV.out)).int j (by rw [hL_len s l nl]; exact hjn)
              have hv : (hL s l n)[j]'(by rw [hL_len s l nl]; exact hjn) = hgt s.table l[j].1 := by simp [hL]
              rw [hv] at ch
              obtain ⟨bq, oq, rfl, x0, x1, x2⟩ := (HR.out.up V0.out).look j jl
              have HI := Lib.hid (show inS set j = (set / 2 ^ j % 2 == 1) from rfl)
              have HXN := Lib.hid (show set / 2 ^ (j + 1) = set / 2 ^ j / 2 by rw [Nat.pow_succ, Nat.div_div_eq_div_mul])
              have x9 : set / 2 ^ j < 1024 := Nat.lt_of_le_of_lt (Nat.div_le_self _ _) hset
              have HA := Lib.hid (allB_succ (s := s) (l := l) set t j)
              rw [List.getElem?_eq_getElem jl, Option.getD_some] at HA
              have HXY := HX.out _ (List.getElem_mem jl)
              generalize l[j] = y at *
              generalize set / 2 ^ j = x at *
              clear hv jl nl
              have sy : IntKind.i64.wrap ((j : Int) + 1) = j + 1 := IntWalk.i64_in _ (by omega)
              have sx : IntKind.i64.wrap ((x : Int) / 2) = (x : Int) / 2 := IntWalk.i64_in _ (by omega)
              have su : IntKind.i64.wrap ((x : Int) % 2) = (x : Int) % 2 := IntWalk.i64_in _ (by omega)
              by_cases hb : x % 2 = 1
              · have hbb : ((x : Int) % 2 == 1) = true := by rw [beq_iff_eq]; omega
                have hi1 : inS set j = true := by rw [HI.out, hb]; rfl
                rw [hi1] at HA
                clear HI hi1 hb
                cases hab : allB s l set t j with
                | false =>
                  rw [hab] at HA
                  have HA2 : Hid (allB s l set t (j + 1) = false) := by show _ = _; rw [HA.out]; rfl
                  clear hab HA ch x0 x1 x2 c0 c1 c2 c3 c4 HXY
                  go_wp2_with fail
                  refine region_tail (fun _ => True) 14 mixed (by kernel_rfl) trivial (fun hHeld => ?_)
                  refine wpAnyG_take 0 52 (v := ?_) rfl rfl (by kernel_rfl) (fun _ _ _ h => h) (Or.inl ⟨by rfl, ?_⟩) (by assumption) ?_
                  rotate_left
                  · (intro w' hSw; (try dsimp only at hSw); go_split_ands; go_simp; try with_reducible rfl)
                  try simp only [List.setIfInBounds_toArray, List.set_cons_zero, List.set_cons_succ]
                  refine wpAnyG_take 1 53 (v := ?_) rfl rfl (by kernel_rfl) (fun _ _ _ h => h) (Or.inl ⟨by rfl, ?_⟩) (by assumption) ?_
                  rotate_left
                  · (intro w' hSw; (try dsimp only at hSw); go_split_ands; go_simp; try with_reducible rfl)
                  try simp only [List.setIfInBounds_toArray, List.set_cons_zero, List.set_cons_succ]
                  refine wpAnyG_take 2 54 (v := undef) rfl rfl (by kernel_rfl) (fun _ _ _ h => h) (Or.inr ⟨by rfl, rfl⟩) (by assumption) ?_
                  try simp only [List.setIfInBounds_toArray, List.set_cons_zero, List.set_cons_succ]
                  refine wpAnyG_take 3 55 (v := undef) rfl rfl (by kernel_rfl) (fun _ _ _ h => h) (Or.inr ⟨by rfl, rfl⟩) (by assumption) ?_
                  try simp only [List.setIfInBounds_toArray, List.set_cons_zero, List.set_cons_succ]
                  refine wpAnyG_take 4 56 (v := undef) rfl rfl (by kernel_rfl) (fun _ _ _ h => h) (Or.inr ⟨by rfl, rfl⟩) (by assumption) ?_
                  try simp only [List.setIfInBounds_toArray, List.set_cons_zero, List.set_cons_succ]
                  refine wpAnyG_take 5 57 (v := undef) rfl rfl (by kernel_rfl) (fun _ _ _ h => h) (Or.inr ⟨by rfl, rfl⟩) (by assumption) ?_
                  try simp only [List.setIfInBounds_toArray, List.set_cons_zero, List.set_cons_succ]
                  refine wpAnyG_take 6 58 (v := undef) rfl rfl (by kernel_rfl) (fun _ _ _ h => h) (Or.inr ⟨by rfl, rfl⟩) (by assumption) ?_
                  try simp only [List.setIfInBounds_toArray, List.set_cons_zero, List.set_cons_succ]
                  refine wpAnyG_take 7 59 (v := undef) rfl rfl (by kernel_rfl) (fun _ _ _ h => h) (Or.inr ⟨by rfl, rfl⟩) (by assumption) ?_
                  try simp only [List.setIfInBounds_toArray, List.set_cons_zero, List.set_cons_succ]
                  refine wpAnyG_take 8 60 (v := undef) rfl rfl (by kernel_rfl) (fun _ _ _ h => h) (Or.inr ⟨by rfl, rfl⟩) (by assumption) ?_
                  try simp only [List.setIfInBounds_toArray, List.set_cons_zero, List.set_cons_succ]
                  refine wpAnyG_take 9 61 (v := undef) rfl rfl (by kernel_rfl) (fun _ _ _ h => h) (Or.inr ⟨by rfl, rfl⟩) (by assumption) ?_
                  try simp only [List.setIfInBounds_toArray, List.set_cons_zero, List.set_cons_succ]
                  refine wpAnyG_take 10 62 (v := undef) rfl rfl (by kernel_rfl) (fun _ _ _ h => h) (Or.inr ⟨by rfl, rfl⟩) (by assumption) ?_
                  try simp only [List.setIfInBounds_toArray, List.set_cons_zero, List.set_cons_succ]
                  refine wpAnyG_take 11 63 (v := undef) rfl rfl (by kernel_rfl) (fun _ _ _ h => h) (Or.inr ⟨by rfl, rfl⟩) (by assumption) ?_
                  try simp only [List.setIfInBounds_toArray, List.set_cons_zero, List.set_cons_succ]
                  refine wpAnyG_take 12 64 (v := undef) rfl rfl (by kernel_rfl) (fun _ _ _ h => h) (Or.inr ⟨by rfl, rfl⟩) (by assumption) ?_
                  try simp only [List.setIfInBounds_toArray, List.set_cons_zero, List.set_cons_succ]
                  refine wpAnyG_take 13 65 (v := ?_) rfl rfl (by kernel_rfl) (fun _ _ _ h => h) (Or.inl ⟨by rfl, ?_⟩) (by assumption) ?_
                  rotate_left
                  · (intro w' hSw; (try dsimp only at hSw); go_split_ands; go_simp; try with_reducible rfl)
                  try simp only [List.setIfInBounds_toArray, List.set_cons_zero, List.set_cons_succ]
                  refine wpAnyG_tail (by kernel_rfl) ?_
                  change wpList _ _ _ [_] _ _
                  clear hHeld
                  go_wp2_with fail
                  go_roundw
                  case rel =>
                    try ((repeat apply Exists.intro); refine ⟨?_, rfl⟩)
                    exact ⟨j + 1, by omega, by rw [HA2.out], by rw [HXN.out]; exact congrArg _ (by omega), by go_num, Up.trans HV.out (by (repeat (first | exact Below.refl _ _ | (with_reducible refine Below.drewN' ?_ _) | (with_reducible refine Below.drew ?_) | (with_reducible refine Below.setCell ?_ (by first | exact Nat.le_refl _ | omega | (with_reducible (repeat (first | refine sz_alloc ?_ | refine sz_setCell ?_ | refine sz_drew ?_ | refine sz_drewN ?_)); first | exact Nat.le_refl _ | omega) | (simp only [World.size_alloc, World.size_setCell, World.size_drew, size_drewN']; omega)) _) | (with_reducible refine Below.alloc ?_ (by first | exact Nat.le_refl _ | omega | (with_reducible (repeat (first | refine sz_alloc ?_ | refine sz_setCell ?_ | refine sz_drew ?_ | refine sz_drewN ?_)); first | exact Nat.le_refl _ | omega) | (simp only [World.size_alloc, World.size_setCell, World.size_drew, size_drewN']; omega)) _) | assumption)))⟩
                  case measure => simp [intOf]; omega
                | true =>
                  rw [hab] at HA
                  have HA2 : Hid (allB s l set t (j + 1) = agB s y t) := by show _ = _; rw [HA.out]; simp
                  obtain ⟨m0, m1⟩ := inB_true.1 HXY.1
                  obtain ⟨p0, p1⟩ := inB_true.1 HXY.2
                  obtain ⟨p, hp⟩ : ∃ p : Nat, y.2.1 = p := ⟨y.2.1.toNat, by omega⟩
                  have pl : p < s.floors.length := by omega
                  have hr := hgt_rng OK.out.table y.1 m0
                  have HAG := Lib.hid (fun W (u : Up w W) => agrees_c (hgt s.table y.1) t (gatesR s) qg s.floors.length dg y p W (HG.out.up u) (gatesR_len s) hp pl (by omega) (by omega) t0 t1)
                  have hval : (decide ((gatesR s)[p]?.getD 0 < hgt s.table y.1 + t) == y.2.2) = agB s y t := by
                    unfold agB
                    rw [hp, Int.toNat_natCast, List.getElem?_eq_getElem (by rw [gatesR_len]; exact pl), Option.getD_some, gatesR_of]
                  rw [hval] at HAG
                  obtain ⟨ag, hag⟩ : ∃ ag, agB s y t = ag := ⟨_, rfl⟩
                  rw [hag] at HAG HA2
                  clear hab HA m0 m1 p0 p1 hp pl hr hval hag HXY c0 c1 c2 c3 c4
                  generalize hgt s.table y.1 = h at *
                  obtain ⟨ya, yb, yc⟩ := y
                  dsimp only at x0 x1 x2 HAG
                  go_wp2_with fail
                  refine region_tail (fun W' => W'.cell? ⟨bh, oh + j, none⟩ = some (.int .i64 h) ∧ W'.cell? ⟨bq, oq + j * 3, none⟩ = some (.int .i64 ya) ∧ W'.cell? ⟨bq, oq + j * 3 + 1, none⟩ = some (.int .i64 yb) ∧ W'.cell? ⟨bq, oq + j * 3 + 2, none⟩ = some (.bool yc)) 14 mixed (by kernel_rfl) ⟨ch, x0, x1, x2⟩ (fun hHeld => ?_)
                  refine wpAnyG_take 0 52 (v := ?_) rfl rfl (by kernel_rfl) (fun _ _ _ h => h) (Or.inl ⟨by rfl, ?_⟩) (by assumption) ?_
                  rotate_left
                  · (intro w' hSw; (try dsimp only at hSw); go_split_ands; go_simp; try with_reducible rfl)
                  try simp only [List.setIfInBounds_toArray, List.set_cons_zero, List.set_cons_succ]
                  refine wpAnyG_take 1 53 (v := ?_) rfl rfl (by kernel_rfl) (fun _ _ _ h => h) (Or.inl ⟨by rfl, ?_⟩) (by assumption) ?_
                  rotate_left
                  · (intro w' hSw; (try dsimp only at hSw); go_split_ands; go_simp; try with_reducible rfl)
                  try simp only [List.setIfInBounds_toArray, List.set_cons_zero, List.set_cons_succ]
                  refine wpAnyG_take 2 54 (v := ?_) rfl rfl (by kernel_rfl) (fun _ _ _ h => h) (Or.inl ⟨by rfl, ?_⟩) (by assumption) ?_
                  rotate_left
                  · (intro w' hSw; (try dsimp only at hSw); go_split_ands; go_simp; try with_reducible rfl)
                  try simp only [List.setIfInBounds_toArray, List.set_cons_zero, List.set_cons_succ]
                  refine wpAnyG_take 3 55 (v := ?_) rfl rfl (by kernel_rfl) (fun _ _ _ h => h) (Or.inl ⟨by rfl, ?_⟩) (by assumption) ?_
                  rotate_left
                  · (intro w' hSw; (try dsimp only at hSw); go_split_ands; go_simp; try with_reducible rfl)
                  try simp only [List.setIfInBounds_toArray, List.set_cons_zero, List.set_cons_succ]
                  refine wpAnyG_take 4 56 (v := ?_) rfl rfl (by kernel_rfl) (fun _ _ _ h => h) (Or.inl ⟨by rfl, ?_⟩) (by assumption) ?_
                  rotate_left
                  · (intro w' hSw; (try dsimp only at hSw); go_split_ands; go_simp; try with_reducible rfl)
                  try simp only [List.setIfInBounds_toArray, List.set_cons_zero, List.set_cons_succ]
                  refine wpAnyG_take 5 57 (v := ?_) rfl rfl (by kernel_rfl) (fun _ _ _ h => h) (Or.inl ⟨by rfl, ?_⟩) (by assumption) ?_
                  rotate_left
                  · (intro w' hSw; (try dsimp only at hSw); go_split_ands; go_simp; try with_reducible rfl)
                  try simp only [List.setIfInBounds_toArray, List.set_cons_zero, List.set_cons_succ]
                  refine wpAnyG_take 6 58 (v := ?_) rfl rfl (by kernel_rfl) (fun _ _ _ h => h) (Or.inl ⟨by rfl, ?_⟩) (by assumption) ?_
                  rotate_left
                  · (intro w' hSw; (try dsimp only at hSw); go_split_ands; go_simp; try with_reducible rfl)
                  try simp only [List.setIfInBounds_toArray, List.set_cons_zero, List.set_cons_succ]
                  refine wpAnyG_take 7 59 (v := ?_) rfl rfl (by kernel_rfl) (fun _ _ _ h => h) (Or.inl ⟨by rfl, ?_⟩) (by assumption) ?_
                  rotate_left
                  · (intro w' hSw; (try dsimp only at hSw); go_split_ands; go_simp; try with_reducible rfl)
                  try simp only [List.setIfInBounds_toArray, List.set_cons_zero, List.set_cons_succ]
                  refine wpAnyG_take 8 60 (v := ?_) rfl rfl (by kernel_rfl) (fun _ _ _ h => h) (Or.inl ⟨by rfl, ?_⟩) (by assumption) ?_
                  rotate_left
                  · (intro w' hSw; (try dsimp only at hSw); go_split_ands; go_simp; try with_reducible rfl)
                  try simp only [List.setIfInBounds_toArray, List.set_cons_zero, List.set_cons_succ]
                  refine wpAnyG_take 9 61 (v := ?_) rfl rfl (by kernel_rfl) (fun _ _ _ h => h) (Or.inl ⟨by rfl, ?_⟩) (by assumption) ?_
                  rotate_left
                  · (intro w' hSw; (try dsimp only at hSw); go_split_ands; go_simp; try with_reducible rfl)
                  try simp only [List.setIfInBounds_toArray, List.set_cons_zero, List.set_cons_succ]
                  refine wpAnyG_take 10 62 (v := ?_) rfl rfl (by kernel_rfl) (fun _ _ _ h => h) (Or.inl ⟨by rfl, ?_⟩) (by assumption) ?_
                  rotate_left
                  · (intro w' hSw; (try dsimp only at hSw); go_split_ands; go_simp; try with_reducible rfl)
                  try simp only [List.setIfInBounds_toArray, List.set_cons_zero, List.set_cons_succ]
                  refine wpAnyG_take 11 63 (v := ?_) rfl rfl (by kernel_rfl) (fun _ _ _ h => h) (Or.inl ⟨by rfl, ?_⟩) (by assumption) ?_
                  rotate_left
                  · (intro w' hSw; (try dsimp only at hSw); go_split_ands; go_simp; try with_reducible rfl)
                  try simp only [List.setIfInBounds_toArray, List.set_cons_zero, List.set_cons_succ]
                  refine wpAnyG_do 12 rfl (by kernel_rfl) (fun K hK => ?_)
                  rw [if_pos (by rfl)]
                  go_simp
                  refine (HAG.out _ (Up.trans V0.out (by (repeat (first | exact Below.refl _ _ | (with_reducible refine Below.drewN' ?_ _) | (with_reducible refine Below.drew ?_) | (with_reducible refine Below.setCell ?_ (by first | exact Nat.le_refl _ | omega | (with_reducible (repeat (first | refine sz_alloc ?_ | refine sz_setCell ?_ | refine sz_drew ?_ | refine sz_drewN ?_)); first | exact Nat.le_refl _ | omega) | (simp only [World.size_alloc, World.size_setCell, World.size_drew, size_drewN']; omega)) _) | (with_reducible refine Below.alloc ?_ (by first | exact Nat.le_refl _ | omega | (with_reducible (repeat (first | refine sz_alloc ?_ | refine sz_setCell ?_ | refine sz_drew ?_ | refine sz_drewN ?_)); first | exact Nat.le_refl _ | omega) | (simp only [World.size_alloc, World.size_setCell, World.size_drew, size_drewN']; omega)) _) | assumption))))).mono ?_
                  rintro e wa ⟨rfl, va⟩
                  have v1 : Up wr wa := Up.trans (by (repeat (first | exact Below.refl _ _ | (with_reducible refine Below.drewN' ?_ _) | (with_reducible refine Below.drew ?_) | (with_reducible refine Below.setCell ?_ (by first | exact Nat.le_refl _ | omega | (with_reducible (repeat (first | refine sz_alloc ?_ | refine sz_setCell ?_ | refine sz_drew ?_ | refine sz_drewN ?_)); first | exact Nat.le_refl _ | omega) | (simp only [World.size_alloc, World.size_setCell, World.size_drew, size_drewN']; omega)) _) | (with_reducible refine Below.alloc ?_ (by first | exact Nat.le_refl _ | omega | (with_reducible (repeat (first | refine sz_alloc ?_ | refine sz_setCell ?_ | refine sz_drew ?_ | refine sz_drewN ?_)); first | exact Nat.le_refl _ | omega) | (simp only [World.size_alloc, World.size_setCell, World.size_drew, size_drewN']; omega)) _) | assumption))) va
                  refine hK.out _ _ ⟨v1.cellAt ch, v1.cellAt x0, v1.cellAt x1, v1.cellAt x2⟩ (fun hHeld => ?_)
                  clear hK K va
                  refine wpAnyG_take 13 65 (v := .bool ag) rfl rfl (by kernel_rfl) (fun _ _ _ h => h) (Or.inl ⟨by rfl, ?_⟩) (by assumption) ?_
                  · intro w' _
                    go_simp
                  try simp only [List.setIfInBounds_toArray, List.set_cons_zero, List.set_cons_succ]
                  refine wpAnyG_tail (by kernel_rfl) ?_
                  change wpList _ _ _ [_] _ _
                  have V1 := Lib.hid (Up.trans HV.out v1)
                  clear hHeld ch x0 x1 x2 v1 HAG
                  go_wp2_with fail
                  go_roundw
                  case rel =>
                    try ((repeat apply Exists.intro); refine ⟨?_, rfl⟩)
                    exact ⟨j + 1, by omega, by rw [HA2.out], by rw [HXN.out]; exact congrArg _ (by omega), by go_num, V1.out⟩
                  case measure => simp [intOf]; omega
              · have hbb : ((x : Int) % 2 == 1) = false := by rw [beq_eq_false_iff_ne]; omega
                have hi1 : inS set j = false := by rw [HI.out]; simp; omega
                rw [hi1] at HA
                have HA2 : Hid (allB s l set t (j + 1) = allB s l set t j) := by show _ = _; rw [HA.out]; simp
                clear HI HA hi1 hb ch x0 x1 x2 c0 c1 c2 c3 c4 HXY
                generalize allB s l set t j = aj at *
                go_wp2_with fail
                go_roundw
                case rel =>
                  try ((repeat apply Exists.intro); refine ⟨?_, rfl⟩)
                  exact ⟨j + 1, by omega, by rw [HA2.out], by rw [HXN.out]; exact congrArg _ (by omega), by go_num, HV.out⟩
                case measure => simp [intOf]; omega
            · obtain rfl : n = j := by omega
              have HS := Lib.hid (leftL_succ (s := s) (l := l) set k)
              rw [ht, HN.out] at HS
              have hle := leftL_le (s := s) (l := l) set k
              have hk9 : k ≤ 200 := by have := HWN.out; omega
              have U2 := Lib.hid (Up.trans HU.out HV.out)
              have O2 := Lib.hid (ownsRow_up HO.out HV.out)
              have hsz := U2.out.size
              have sy : IntKind.i64.wrap (t + 1) = t + 1 := IntWalk.i64_in _ (by omega)
              clear c0 c1 c2 c3 c4 HO HU HV
              cases hall : allB s l set t n with
              | false =>
                rw [hall] at HS
                have HS2 : Hid (leftL s l set (k + 1) = leftL s l set k) := by show _ = _; rw [HS.out]; rfl
                clear hall HS
                go_wp2_with fail
                go_roundw
                case rel =>
                  try ((repeat apply Exists.intro); refine ⟨?_, rfl⟩)
                  exact ⟨k + 1, by omega, by rw [← ht]; exact congrArg _ (by omega), by rw [HS2.out]; exact O2.out, U2.out⟩
                case measure => simp [intOf]; omega
              | true =>
                rw [hall] at HS
                have HS2 : Hid (leftL s l set (k + 1) = leftL s l set k ++ [t]) := by show _ = _; rw [HS.out, ← ht]; rfl
                clear hall HS
                go_wp2_with (at_builtin; refine wpList_append_own _ rfl _ _ 25 rfl w1.heap.size 3 i0 (.int .i64 0) 1 8 Tryz.underlying25 hi hz0 hz1 hz2 rfl (by decide) _ _ _ rfl (O2.out.alloc _) ⟨wr.heap.size, 0, none⟩ 1 1 [.int .i64 t] rfl rfl (newsAt _ rfl [.int .i64 t] _) (by simp [Value.oneCell']) (by simp [maxLen]; omega) (by omega) (sz_alloc hsz) ?_; intro v' w8 hown8 hgr8 hnn; clear hnn)
                have U8 := Lib.hid ((U2.out.alloc hsz _).grown hgr8 (sz_alloc hsz) (fun j e => (O2.out.lt j e).1))
                have O8 := Lib.hid hown8
                clear hown8 hgr8
                go_roundw
                case rel =>
                  try ((repeat apply Exists.intro); refine ⟨?_, rfl⟩)
                  refine ⟨k + 1, by omega, by rw [← ht]; exact congrArg _ (by omega), ?_, U8.out⟩
                  have e : (ints (leftL s l set k ++ [t])).flatten = (ints (leftL s l set k)).flatten ++ [.int .i64 t] := by unfold ints; rw [List.map_append, List.flatten_append]; rfl
                  rw [HS2.out, e, List.length_append]
                  exact O8.out
                case measure => simp [intOf]; omega
        · obtain rfl : k = wndN s := by omega
          have k1 : ¬ s.lo + ((wndN s : Nat) : Int) ≤ s.hi := by have := HWN.out; omega
          obtain ⟨q, d, rfl, -, -, hR, -⟩ := Row.of_own (rows := ints (leftL s l set (wndN s))) (flatOk_ints _) HO.out (by simp [ints])
          clear hu
          go_wp2_with fail
          go_ret
          exact ⟨q, ⟨d, rfl⟩, hR, Up.trans U0.out (Up.trans U1.out HU.out)⟩
end
end Go.Proofs.YtknaajofcbenaaaGreat
/- What the layer's clash and Clash return. -/
namespace Go.Proofs.YtknaajofcbenaaaGreat
open Go.RowKit Go.Shelf
theorem near_siz {a : Int × Int} (h : Near a) : -100000 ≤ a.1 ∧ a.1 ≤ 100000 ∧ -100000 ≤ a.2 ∧ a.2 ≤ 100000 := by
  obtain ⟨h1, h2, h3, h4⟩ := h
  omega
section
variable {pT pF pS : Option Addr} {cT cF cS : Nat}
set_option maxRecDepth 100000 in
set_option maxHeartbeats 4000000 in
theorem clash_c (bw : Nat) (s : Sd) (l : List Lk) (pL : Option Addr) (cL : Nat) (w : World) (hw : IsWork w bw s pT pF pS cT cF cS) (ok : Ok s) (hx : ∀ x ∈ l, firstM s.table ≤ x.1 ∧ ∃ p : Nat, x.2.1 = p ∧ p < s.floors.length ∧ p < 8) (_h10 : l.length ≤ 10) (hc : l.length ≤ cL) (hm : cL ≤ maxLen) (hr : Row w pL 3 (lrows l)) :
    Calls Tryz.prog 84 #[.pointer (some ⟨bw, 0, none⟩), .slice pL l.length cL] w fun e w' => ∃ r q, e = .returned (.slice q r.length r.length) ∧ ClashIs s l r ∧ (r = [] ↔ q = none) ∧ Row w' q 1 (ints r) ∧ Up w w' := by
  unfold maxLen at hm
  have HTr : Hid (∀ x ∈ l, ∃ p : Nat, x.2.1 = p ∧ Near (truV s x) ∧ ∀ W, Up w W → Calls Tryz.prog 83 #[.pointer (some ⟨bw, 0, none⟩), .agg #[.int .i64 x.1, .int .i64 p, .bool x.2.2]] W (fun e w' => e = .returned (.agg #[.int .i64 (truV s x).1, .int .i64 (truV s x).2]) ∧ Up W w')) := by
    rintro ⟨xm, xp, xw⟩ h
    obtain ⟨h1, p, h2, -, h3⟩ := hx _ h
    dsimp only at h1 h2
    subst h2
    exact ⟨p, rfl, truV_near ok _ h1, fun W u => truths_c bw s xm p xw W (hw.up u) ok h1 h3⟩
  have HR := Lib.hid hr
  clear hx hr hw ok
  go_enter Tryz.func84, Tryz.ntmps84
  go_wp2_with fail
  go_loopw [5, 6, 13] (fun _ _ i wr => ∃ k : Nat, k ≤ l.length ∧ i = .int .i64 k ∧ (∀ j (hj : j < l.length), j < k → siz (truV s l[j]) ≠ 0) ∧ Up w wr) (fun _ _ i _ => l.length - (intOf i).toNat)
  case atStart => exact ⟨0, Nat.zero_le _, rfl, fun j _ h => by omega, Below.refl _ _⟩
  case round =>
    obtain ⟨k, hk, rfl, ha, hu⟩ := hrel
    have HA := Lib.hid ha
    have HU := Lib.hid hu
    clear ha
    by_cases hlt : k < l.length
    · obtain ⟨b, off, rfl, d0, d1, d2⟩ := (HR.out.up hu).look k hlt
      obtain ⟨p, hp, NR, hcall⟩ := HTr.out _ (List.getElem_mem hlt)
      have HC := Lib.hid hcall
      have NS := near_siz NR
      clear hcall NR
      generalize hxx : l[k] = x at *
      have HXX := Lib.hid hxx
      clear hxx
      obtain ⟨xm, xp, xw⟩ := x
      dsimp only at d0 d1 d2 hp NS HC
      subst hp
      have k1 : (k : Int) < (l.length : Int) := by omega
      clear hu
      go_wp2_with fail
      refine Calls.world ?_
      intro w1 hw1
      have u1 : Up wr w1 := by rw [hw1]; (repeat (first | exact Below.refl _ _ | (with_reducible refine Below.drewN' ?_ _) | (with_reducible refine Below.drew ?_) | (with_reducible refine Below.setCell ?_ (by first | exact Nat.le_refl _ | omega | (with_reducible (repeat (first | refine sz_alloc ?_ | refine sz_setCell ?_ | refine sz_drew ?_ | refine sz_drewN ?_)); first | exact Nat.le_refl _ | omega) | (simp only [World.size_alloc, World.size_setCell, World.size_drew, size_drewN']; omega)) _) | (with_reducible refine Below.alloc ?_ (by first | exact Nat.le_refl _ | omega | (with_reducible (repeat (first | refine sz_alloc ?_ | refine sz_setCell ?_ | refine sz_drew ?_ | refine sz_drewN ?_)); first | exact Nat.le_refl _ | omega) | (simp only [World.size_alloc, World.size_setCell, World.size_drew, size_drewN']; omega)) _) | assumption))
      have U1 := Lib.hid (Up.trans HU.out u1)
      clear hw1 u1 d0 d1 d2
      refine (HC.out w1 U1.out).mono ?_
      rintro e w2 ⟨rfl, u2⟩
      have U2 := Lib.hid (Up.trans U1.out u2)
      clear u2 HC
      generalize htv : truV s (xm, (p : Int), xw) = tv at *
      have HTV := Lib.hid htv
      clear htv
      go_wp2_with fail
      refine (size_c tv.1 tv.2 w2 NS.1 NS.2.1 NS.2.2.1 NS.2.2.2).mono ?_
      rintro e w3 ⟨rfl, u3⟩
      have U3 := Lib.hid (Up.trans U2.out u3)
      clear u3
      have HTK : Hid (truV s (l[k]'hlt) = tv) := by show _ = _; rw [HXX.out, HTV.out]
      by_cases hz : siz tv = 0
      · have n1 : (siz (tv.1, tv.2) == 0) = true := by rw [show siz (tv.1, tv.2) = siz tv from rfl, hz]; rfl
        have HZ := Lib.hid hz
        clear hz
        go_wp2_with fail
        go_ret
        refine ⟨[(k : Int)], _, rfl, .inl ⟨k, hlt, rfl, by rw [HTK.out]; exact HZ.out, fun j hj hjk => HA.out j hj hjk⟩, by simp, Row.lit w3 [(k : Int)] _, Up.trans U3.out (by (repeat (first | exact Below.refl _ _ | (with_reducible refine Below.drewN' ?_ _) | (with_reducible refine Below.drew ?_) | (with_reducible refine Below.setCell ?_ (by first | exact Nat.le_refl _ | omega | (with_reducible (repeat (first | refine sz_alloc ?_ | refine sz_setCell ?_ | refine sz_drew ?_ | refine sz_drewN ?_)); first | exact Nat.le_refl _ | omega) | (simp only [World.size_alloc, World.size_setCell, World.size_drew, size_drewN']; omega)) _) | (with_reducible refine Below.alloc ?_ (by first | exact Nat.le_refl _ | omega | (with_reducible (repeat (first | refine sz_alloc ?_ | refine sz_setCell ?_ | refine sz_drew ?_ | refine sz_drewN ?_)); first | exact Nat.le_refl _ | omega) | (simp only [World.size_alloc, World.size_setCell, World.size_drew, size_drewN']; omega)) _) | assumption)))⟩
      · have n1 : (siz (tv.1, tv.2) == 0) = false := beq_eq_false_iff_ne.2 hz
        have HZ := Lib.hid hz
        clear hz
        go_wp2_with fail
        go_roundw
        case rel =>
          try ((repeat apply Exists.intro); refine ⟨?_, rfl⟩)
          refine ⟨k + 1, hlt, by go_num, fun j hj hjk => ?_, U3.out⟩
          by_cases e : j = k
          · subst e
            rw [HTK.out]
            exact HZ.out
          · exact HA.out j hj (by omega)
        case measure => simp [intOf]; omega
    · obtain rfl : k = l.length := by omega
      have HN : Hid (∀ x ∈ l, siz (truV s x) ≠ 0) := fun x hx => by
        obtain ⟨j, hj, rfl⟩ := List.getElem_of_mem hx
        exact HA.out j hj hj
      clear hu hlt HA hk
      generalize wr = w1 at *
      go_wp2_with fail
      go_loopw [7, 8, 9, 10, 28] (fun _ _ _ _ i wr => ∃ k : Nat, k ≤ l.length ∧ i = .int .i64 k ∧ (∀ i' j' (hi' : i' < l.length) (hj' : j' < l.length), i' < j' → i' < k → siz (com (truV s l[i']) (truV s l[j'])) ≠ 0) ∧ Up w wr) (fun _ _ _ _ i _ => l.length - (intOf i).toNat)
      case atStart => exact ⟨0, Nat.zero_le _, rfl, fun _ _ _ _ _ h => by omega, HU.out⟩
      case round =>
        obtain ⟨k, hk, rfl, ha, hu⟩ := hrel
        have HA := Lib.hid ha
        have HV := Lib.hid hu
        clear ha HU
        by_cases hlt : k < l.length
        · obtain ⟨b, off, rfl, d0, d1, d2⟩ := (HR.out.up hu).look k hlt
          obtain ⟨p, hp, NR, hcall⟩ := HTr.out _ (List.getElem_mem hlt)
          have HC := Lib.hid hcall
          have NSA := Lib.hid NR
          clear hcall NR
          generalize hxx : l[k] = x at *
          have HXX := Lib.hid hxx
          clear hxx
          obtain ⟨xm, xp, xw⟩ := x
          dsimp only at d0 d1 d2 hp HC
          subst hp
          have k1 : (k : Int) < (l.length : Int) := by omega
          have k2 : (0 : Int) ≤ (k : Int) + 1 := by omega
          have k3 : (k : Int) + 1 ≤ (l.length : Int) := by omega
          have k4 : (l.length : Int) ≤ (cL : Int) := by omega
          have s1 : IntKind.i64.wrap ((k : Int) + 1) = ((k + 1 : Nat) : Int) := by rw [IntWalk.i64_in _ (by omega)]; omega
          have HN2 : Hid ((∀ j' (hj' : j' < l.length), k < j' → siz (com (truV s (l[k]'hlt)) (truV s l[j'])) ≠ 0) → ∀ i' j' (hi' : i' < l.length) (hj' : j' < l.length), i' < j' → i' < k + 1 → siz (com (truV s l[i']) (truV s l[j'])) ≠ 0) := fun h i' j' hi' hj' hij hik => by
            by_cases e : i' = k
            · subst e
              exact h j' hj' hij
            · exact HA.out i' j' hi' hj' hij (by omega)
          clear hu
          by_cases hend : cL = k + 1
          · have hle : l.length = k + 1 := by omega
            subst hend
            go_wp2_with fail
            have u1 : Up wr (wr.alloc (.cells #[.int .i64 xm, .int .i64 p, .bool xw] 62)) := by (repeat (first | exact Below.refl _ _ | (with_reducible refine Below.drewN' ?_ _) | (with_reducible refine Below.drew ?_) | (with_reducible refine Below.setCell ?_ (by first | exact Nat.le_refl _ | omega | (with_reducible (repeat (first | refine sz_alloc ?_ | refine sz_setCell ?_ | refine sz_drew ?_ | refine sz_drewN ?_)); first | exact Nat.le_refl _ | omega) | (simp only [World.size_alloc, World.size_setCell, World.size_drew, size_drewN']; omega)) _) | (with_reducible refine Below.alloc ?_ (by first | exact Nat.le_refl _ | omega | (with_reducible (repeat (first | refine sz_alloc ?_ | refine sz_setCell ?_ | refine sz_drew ?_ | refine sz_drewN ?_)); first | exact Nat.le_refl _ | omega) | (simp only [World.size_alloc, World.size_setCell, World.size_drew, size_drewN']; omega)) _) | assumption))
            have V1 := Lib.hid (Up.trans HV.out u1)
            clear u1 d0 d1 d2
            go_loopw [9, 10, 38] (fun _ _ i wx => i = .int .i64 0 ∧ Up w wx) (fun _ _ _ _ => 0)
            case atStart => exact ⟨rfl, V1.out⟩
            case round =>
              obtain ⟨rfl, hu⟩ := hrel
              have HU := Lib.hid hu
              clear hu
              go_wp2_with fail
              go_roundw
              case rel =>
                try ((repeat apply Exists.intro); refine ⟨?_, rfl⟩)
                exact ⟨k + 1, by omega, by go_num, HN2.out (fun j' hj' h => by omega), HU.out⟩
              case measure => simp [intOf]; omega
          · have hce : ¬ cL - (k + 1) = 0 := by omega
            go_wp2_with fail
            have b8 : Blk (wr.alloc (.cells #[.int .i64 xm, .int .i64 p, .bool xw] 62)) wr.heap.size [.int .i64 xm, .int .i64 p, .bool xw] 62 := Blk.new wr [.int .i64 xm, .int .i64 p, .bool xw] _
            have u1 : Up wr (wr.alloc (.cells #[.int .i64 xm, .int .i64 p, .bool xw] 62)) := by (repeat (first | exact Below.refl _ _ | (with_reducible refine Below.drewN' ?_ _) | (with_reducible refine Below.drew ?_) | (with_reducible refine Below.setCell ?_ (by first | exact Nat.le_refl _ | omega | (with_reducible (repeat (first | refine sz_alloc ?_ | refine sz_setCell ?_ | refine sz_drew ?_ | refine sz_drewN ?_)); first | exact Nat.le_refl _ | omega) | (simp only [World.size_alloc, World.size_setCell, World.size_drew, size_drewN']; omega)) _) | (with_reducible refine Below.alloc ?_ (by first | exact Nat.le_refl _ | omega | (with_reducible (repeat (first | refine sz_alloc ?_ | refine sz_setCell ?_ | refine sz_drew ?_ | refine sz_drewN ?_)); first | exact Nat.le_refl _ | omega) | (simp only [World.size_alloc, World.size_setCell, World.size_drew, size_drewN']; omega)) _) | assumption))
            have V1 := Lib.hid (Up.trans HV.out u1)
            have B8 := Lib.hid b8
            clear u1 b8 d0 d1 d2
            generalize wr.heap.size = bA at *
            go_loopw [9, 10, 38] (fun _ _ i wx => ∃ j : Nat, j ≤ l.length - (k + 1) ∧ i = .int .i64 j ∧ (∀ j' (hj' : j' < l.length), k < j' → j' < k + 1 + j → siz (com (truV s (l[k]'hlt)) (truV s l[j'])) ≠ 0) ∧ Blk wx bA [.int .i64 xm, .int .i64 p, .bool xw] 62 ∧ Up w wx) (fun _ _ i _ => (l.length - (k + 1)) - (intOf i).toNat)
            case atStart => exact ⟨0, Nat.zero_le _, rfl, fun j' _ h1 h2 => by omega, B8.out, V1.out⟩
            case round =>
              obtain ⟨j, hj, rfl, hq, hb, hu⟩ := hrel
              have HQ := Lib.hid hq
              have HB := Lib.hid hb
              have HU := Lib.hid hu
              clear hq hb
              by_cases hjl : j < l.length - (k + 1)
              · have hj2 : k + 1 + j < l.length := by omega
                obtain ⟨b', off', he, e0, e1, e2⟩ := (HR.out.up hu).look (k + 1 + j) hj2
                obtain ⟨rfl, rfl⟩ : b = b' ∧ off = off' := by simpa using he
                rw [show off + (k + 1 + j) * 3 = off + (k + 1) * 3 + j * 3 by omega] at e0 e1 e2
                obtain ⟨p2, hp2, NR2, hcall2⟩ := HTr.out _ (List.getElem_mem hj2)
                have HC2 := Lib.hid hcall2
                have NSB := Lib.hid NR2
                clear hcall2 NR2 he
                generalize hyy : l[k + 1 + j] = y at *
                have HYY := Lib.hid hyy
                clear hyy
                obtain ⟨ym, yp, yw⟩ := y
                dsimp only at e0 e1 e2 hp2 HC2
                subst hp2
                have j1 : (j : Int) < ((l.length - (k + 1) : Nat) : Int) := by omega
                clear hu
                go_upto_region 13 with fail
                refine Code.wp_world ?_
                intro w3 hw3
                have u3 : Up wr w3 := by rw [hw3]; (repeat (first | exact Below.refl _ _ | (with_reducible refine Below.drewN' ?_ _) | (with_reducible refine Below.drew ?_) | (with_reducible refine Below.setCell ?_ (by first | exact Nat.le_refl _ | omega | (with_reducible (repeat (first | refine sz_alloc ?_ | refine sz_setCell ?_ | refine sz_drew ?_ | refine sz_drewN ?_)); first | exact Nat.le_refl _ | omega) | (simp only [World.size_alloc, World.size_setCell, World.size_drew, size_drewN']; omega)) _) | (with_reducible refine Below.alloc ?_ (by first | exact Nat.le_refl _ | omega | (with_reducible (repeat (first | refine sz_alloc ?_ | refine sz_setCell ?_ | refine sz_drew ?_ | refine sz_drewN ?_)); first | exact Nat.le_refl _ | omega) | (simp only [World.size_alloc, World.size_setCell, World.size_drew, size_drewN']; omega)) _) | assumption))
                have hBk : Blk w3 wr.heap.size [.int .i64 ym, .int .i64 p2, .bool yw] 62 := by rw [hw3]; exact Blk.new wr [.int .i64 ym, .int .i64 p2, .bool yw] _
                have b0 := hBk.cell 0
                have b1 := hBk.cell 1
                have b2 := hBk.cell 2
                have c0 := (HB.out.up u3).cell 0
                have c1 := (HB.out.up u3).cell 1
                have c2 := (HB.out.up u3).cell 2
                have V3 := Lib.hid (Up.trans HU.out u3)
                have B83 := Lib.hid (HB.out.up u3)
                simp only [List.getElem?_cons_zero, List.getElem?_cons_succ] at b0 b1 b2 c0 c1 c2
                clear hw3 u3 e0 e1 e2 hBk
                refine region_tail (fun W' => W'.cell? ⟨bA, 0, none⟩ = some (.int .i64 xm) ∧ W'.cell? ⟨bA, 1, none⟩ = some (.int .i64 p) ∧ W'.cell? ⟨bA, 2, none⟩ = some (.bool xw) ∧ W'.cell? ⟨wr.heap.size, 0, none⟩ = some (.int .i64 ym) ∧ W'.cell? ⟨wr.heap.size, 1, none⟩ = some (.int .i64 p2) ∧ W'.cell? ⟨wr.heap.size, 2, none⟩ = some (.bool yw)) 9 mixed (by kernel_rfl) ⟨c0, c1, c2, b0, b1, b2⟩ (fun hHeld => ?_)
                refine wpAnyG_take 0 43 (v := ?_) rfl rfl (by kernel_rfl) (fun _ _ _ h => h) (Or.inl ⟨by rfl, ?_⟩) (by assumption) ?_
                rotate_left
                · (intro w' hSw; (try dsimp only at hSw); go_split_ands; go_simp; try with_reducible rfl)
                try simp only [List.setIfInBounds_toArray, List.set_cons_zero, List.set_cons_succ]
                refine wpAnyG_take 1 44 (v := ?_) rfl rfl (by kernel_rfl) (fun _ _ _ h => h) (Or.inl ⟨by rfl, ?_⟩) (by assumption) ?_
                rotate_left
                · (intro w' hSw; (try dsimp only at hSw); go_split_ands; go_simp; try with_reducible rfl)
                try simp only [List.setIfInBounds_toArray, List.set_cons_zero, List.set_cons_succ]
                refine wpAnyG_take 3 46 (v := ?_) rfl rfl (by kernel_rfl) (fun _ _ _ h => h) (Or.inl ⟨by rfl, ?_⟩) (by assumption) ?_
                rotate_left
                · (intro w' hSw; (try dsimp only at hSw); go_split_ands; go_simp; try with_reducible rfl)
                try simp only [List.setIfInBounds_toArray, List.set_cons_zero, List.set_cons_succ]
                refine wpAnyG_take 4 47 (v := ?_) rfl rfl (by kernel_rfl) (fun _ _ _ h => h) (Or.inl ⟨by rfl, ?_⟩) (by assumption) ?_
                rotate_left
                · (intro w' hSw; (try dsimp only at hSw); go_split_ands; go_simp; try with_reducible rfl)
                try simp only [List.setIfInBounds_toArray, List.set_cons_zero, List.set_cons_succ]
                refine wpAnyG_do 2 rfl (by kernel_rfl) (fun K hK => ?_)
                rw [if_pos (by rfl)]
                go_simp
                refine (HC.out _ (Up.trans V3.out (Below.refl _ _).drew)).mono ?_
                rintro e wa ⟨rfl, v1⟩
                have v1' : Up w3 wa := Up.trans ((Below.refl _ _).drew) v1
                refine hK.out _ _ ⟨v1'.cellAt c0, v1'.cellAt c1, v1'.cellAt c2, v1'.cellAt b0, v1'.cellAt b1, v1'.cellAt b2⟩ (fun hHeld => ?_)
                clear hK K
                refine wpAnyG_do 5 rfl (by kernel_rfl) (fun K hK => ?_)
                rw [if_pos (by rfl)]
                go_simp
                refine (HC2.out _ (Up.trans V3.out v1')).mono ?_
                rintro e wb ⟨rfl, v2⟩
                have v2' : Up w3 wb := Up.trans v1' v2
                refine hK.out _ _ ⟨v2'.cellAt c0, v2'.cellAt c1, v2'.cellAt c2, v2'.cellAt b0, v2'.cellAt b1, v2'.cellAt b2⟩ (fun hHeld => ?_)
                clear hK K
                have HCN := Lib.hid (near_siz (Near.com NSA.out NSB.out))
                have HTA : Hid (truV s (l[k]'hlt) = truV s (xm, (p : Int), xw)) := by show _ = _; rw [HXX.out]
                have HTB : Hid (truV s (l[k + 1 + j]'hj2) = truV s (ym, (p2 : Int), yw)) := by show _ = _; rw [HYY.out]
                generalize truV s (xm, (p : Int), xw) = ta at *
                generalize truV s (ym, (p2 : Int), yw) = tb at *
                refine wpAnyG_do 6 rfl (by kernel_rfl) (fun K hK => ?_)
                rw [if_pos (by rfl)]
                go_simp
                refine (common_c ta.1 ta.2 tb.1 tb.2 wb).mono ?_
                rintro e wd ⟨rfl, v3⟩
                have v3' : Up w3 wd := Up.trans v2' v3
                refine hK.out _ _ ⟨v3'.cellAt c0, v3'.cellAt c1, v3'.cellAt c2, v3'.cellAt b0, v3'.cellAt b1, v3'.cellAt b2⟩ (fun hHeld => ?_)
                clear hK K
                refine wpAnyG_do 7 rfl (by kernel_rfl) (fun K hK => ?_)
                rw [if_pos (by rfl)]
                go_simp
                refine (size_c (com (ta.1, ta.2) (tb.1, tb.2)).1 (com (ta.1, ta.2) (tb.1, tb.2)).2 wd HCN.out.1 HCN.out.2.1 HCN.out.2.2.1 HCN.out.2.2.2).mono ?_
                rintro e wf ⟨rfl, v4⟩
                have v4' : Up w3 wf := Up.trans v3' v4
                refine hK.out _ _ ⟨v4'.cellAt c0, v4'.cellAt c1, v4'.cellAt c2, v4'.cellAt b0, v4'.cellAt b1, v4'.cellAt b2⟩ (fun hHeld => ?_)
                clear hK K
                have V4 := Lib.hid (Up.trans V3.out v4')
                have B84 := Lib.hid (B83.out.up v4')
                have HZZ : Hid (siz ((com (ta.1, ta.2) (tb.1, tb.2)).1, (com (ta.1, ta.2) (tb.1, tb.2)).2) = siz (com (truV s (l[k]'hlt)) (truV s (l[k + 1 + j]'hj2)))) := by show _ = _; rw [HTA.out, HTB.out]
                generalize siz ((com (ta.1, ta.2) (tb.1, tb.2)).1, (com (ta.1, ta.2) (tb.1, tb.2)).2) = zz at *
                by_cases hz : zz = 0
                · have HZ : Hid (siz (com (truV s (l[k]'hlt)) (truV s (l[k + 1 + j]'hj2))) = 0) := by show _ = _; rw [← HZZ.out]; exact hz
                  have n1 : (zz == 0) = true := by rw [hz]; rfl
                  have s2 : IntKind.i64.wrap ((k : Int) + 1 + (j : Int)) = (k : Int) + 1 + (j : Int) := IntWalk.i64_in _ (by omega)
                  clear hz
                  refine wpAnyG_take 8 51 (v := ?_) rfl rfl (by kernel_rfl) (fun _ _ _ h => h) (Or.inl ⟨by rfl, ?_⟩) (by assumption) ?_
                  rotate_left
                  · (intro w' hSw; (try dsimp only at hSw); go_split_ands; go_simp; try with_reducible rfl)
                  try simp only [List.setIfInBounds_toArray, List.set_cons_zero, List.set_cons_succ]
                  refine wpAnyG_tail (by kernel_rfl) ?_
                  change wpList _ _ _ [] _ _
                  clear hHeld c0 c1 c2 b0 b1 b2 v1 v2 v3 v4 v1' v2' v3' v4'
                  go_wp2_with fail
                  go_ret
                  refine ⟨[(k : Int), (k : Int) + 1 + (j : Int)], _, rfl, .inr ⟨HN.out, .inl ⟨k, k + 1 + j, hlt, hj2, by omega, by rw [show ((k + 1 + j : Nat) : Int) = (k : Int) + 1 + (j : Int) by omega], HZ.out, fun i' j' hi' hj' hij ho => ?_⟩⟩, by simp, Row.lit wf [(k : Int), (k : Int) + 1 + (j : Int)] _, Up.trans V4.out (by (repeat (first | exact Below.refl _ _ | (with_reducible refine Below.drewN' ?_ _) | (with_reducible refine Below.drew ?_) | (with_reducible refine Below.setCell ?_ (by first | exact Nat.le_refl _ | omega | (with_reducible (repeat (first | refine sz_alloc ?_ | refine sz_setCell ?_ | refine sz_drew ?_ | refine sz_drewN ?_)); first | exact Nat.le_refl _ | omega) | (simp only [World.size_alloc, World.size_setCell, World.size_drew, size_drewN']; omega)) _) | (with_reducible refine Below.alloc ?_ (by first | exact Nat.le_refl _ | omega | (with_reducible (repeat (first | refine sz_alloc ?_ | refine sz_setCell ?_ | refine sz_drew ?_ | refine sz_drewN ?_)); first | exact Nat.le_refl _ | omega) | (simp only [World.size_alloc, World.size_setCell, World.size_drew, size_drewN']; omega)) _) | assumption)))⟩
                  rcases ho with ho | ⟨rfl, ho⟩
                  · exact HA.out i' j' hi' hj' hij ho
                  · exact HQ.out j' hj' hij ho
                · have HZ : Hid (siz (com (truV s (l[k]'hlt)) (truV s (l[k + 1 + j]'hj2))) ≠ 0) := by show _ ≠ _; rw [← HZZ.out]; exact hz
                  have n1 : (zz == 0) = false := beq_eq_false_iff_ne.2 hz
                  clear hz
                  refine wpAnyG_take 8 51 (v := ?_) rfl rfl (by kernel_rfl) (fun _ _ _ h => h) (Or.inl ⟨by rfl, ?_⟩) (by assumption) ?_
                  rotate_left
                  · (intro w' hSw; (try dsimp only at hSw); go_split_ands; go_simp; try with_reducible rfl)
                  try simp only [List.setIfInBounds_toArray, List.set_cons_zero, List.set_cons_succ]
                  refine wpAnyG_tail (by kernel_rfl) ?_
                  change wpList _ _ _ [] _ _
                  clear hHeld c0 c1 c2 b0 b1 b2 v1 v2 v3 v4 v1' v2' v3' v4'
                  go_wp2_with fail
                  go_roundw
                  case rel =>
                    try ((repeat apply Exists.intro); refine ⟨?_, rfl⟩)
                    refine ⟨j + 1, hjl, by go_num, fun j' hj' h1 h2 => ?_, B84.out, V4.out⟩
                    by_cases e : j' = k + 1 + j
                    · subst e
                      exact HZ.out
                    · exact HQ.out j' hj' h1 (by omega)
                  case measure => simp [intOf]; omega
              · obtain rfl : j = l.length - (k + 1) := by omega
                clear hu
                go_wp2_with fail
                go_roundw
                case rel =>
                  try ((repeat apply Exists.intro); refine ⟨?_, rfl⟩)
                  exact ⟨k + 1, hlt, by go_num, HN2.out (fun j' hj' h => HQ.out j' hj' h (by omega)), HU.out⟩
                case measure => simp [intOf]; omega
        · obtain rfl : k = l.length := by omega
          clear hu
          go_wp2_with fail
          go_ret
          exact ⟨[], none, rfl, .inr ⟨HN.out, .inr ⟨rfl, fun i' j' hi' hj' hij => HA.out i' j' hi' hj' hij hi'⟩⟩, by simp, Row.nil _ _ _, HV.out⟩
end
end Go.Proofs.YtknaajofcbenaaaGreat
/- What the layer's Clash returns; a copy of looks, and one look less. -/
namespace Go.Proofs.YtknaajofcbenaaaGreat
open Go.RowKit Go.Shelf
section
variable {pT pF pS : Option Addr} {cT cF cS : Nat}
set_option maxRecDepth 100000 in
set_option maxHeartbeats 4000000 in
theorem Clash_c (s : Sd) (l : List Lk) (pL : Option Addr) (cL : Nat) (w : World) (hl : Lists w s pT pF pS cT cF cS) (hr : Row w pL 3 (lrows l)) (hc : l.length ≤ cL) (hm : cL ≤ maxLen) :
    Calls Tryz.prog 31 #[sdVal s pT pF pS cT cF cS, .slice pL l.length cL] w fun e w' => ∃ r q E, e = .returned (.tuple #[.slice q r.length r.length, .int .i64 E]) ∧ ClashR s l r E ∧ Row w' q 1 (ints r) ∧ Up w w' := by
  have HC := Lib.hid (fun W (u : Up w W) => beginLooks_c s l pL cL W (hl.up u) (hr.up u) (by omega))
  have HR := Lib.hid hr
  clear hl hr
  by_cases hE : errLooks s l = 0
  · obtain ⟨hk, h10, hx⟩ := errLooks_zero hE
    have HO := Lib.hid (chk_ok hk)
    have HX := Lib.hid hx
    have HE := Lib.hid hE
    rw [hE] at HC
    clear hE hk hx
    unfold sdVal at *
    go_enter Tryz.func31, Tryz.ntmps31
    go_wp2_with fail
    refine (HC.out _ (by (repeat (first | exact Below.refl _ _ | (with_reducible refine Below.drewN' ?_ _) | (with_reducible refine Below.drew ?_) | (with_reducible refine Below.setCell ?_ (by first | exact Nat.le_refl _ | omega | (with_reducible (repeat (first | refine sz_alloc ?_ | refine sz_setCell ?_ | refine sz_drew ?_ | refine sz_drewN ?_)); first | exact Nat.le_refl _ | omega) | (simp only [World.size_alloc, World.size_setCell, World.size_drew, size_drewN']; omega)) _) | (with_reducible refine Below.alloc ?_ (by first | exact Nat.le_refl _ | omega | (with_reducible (repeat (first | refine sz_alloc ?_ | refine sz_setCell ?_ | refine sz_drew ?_ | refine sz_drewN ?_)); first | exact Nat.le_refl _ | omega) | (simp only [World.size_alloc, World.size_setCell, World.size_drew, size_drewN']; omega)) _) | assumption)))).mono ?_
    rintro e w1 ⟨p, rfl, u1, hok⟩
    obtain ⟨bw, rfl, hW⟩ := hok rfl
    have U1 := Lib.hid (Up.trans (show Up w (w.alloc (.cells (sdCells s pT pF pS cT cF cS).toArray 28)) by (repeat (first | exact Below.refl _ _ | (with_reducible refine Below.drewN' ?_ _) | (with_reducible refine Below.drew ?_) | (with_reducible refine Below.setCell ?_ (by first | exact Nat.le_refl _ | omega | (with_reducible (repeat (first | refine sz_alloc ?_ | refine sz_setCell ?_ | refine sz_drew ?_ | refine sz_drewN ?_)); first | exact Nat.le_refl _ | omega) | (simp only [World.size_alloc, World.size_setCell, World.size_drew, size_drewN']; omega)) _) | (with_reducible refine Below.alloc ?_ (by first | exact Nat.le_refl _ | omega | (with_reducible (repeat (first | refine sz_alloc ?_ | refine sz_setCell ?_ | refine sz_drew ?_ | refine sz_drewN ?_)); first | exact Nat.le_refl _ | omega) | (simp only [World.size_alloc, World.size_setCell, World.size_drew, size_drewN']; omega)) _) | assumption))) u1)
    have HW := Lib.hid hW
    clear hok hW u1 HC
    go_wp2_with fail
    refine (clash_c bw s l pL cL w1 HW.out HO.out HX.out h10 hc hm (HR.out.up U1.out)).mono ?_
    rintro e w2 ⟨r, q, rfl, h1, h2, h3, u2⟩
    have U2 := Lib.hid (Up.trans U1.out u2)
    have H1 := Lib.hid h1
    have H3 := Lib.hid h3
    clear h1 h3 u2
    have hsl := sl_neq
    cases q with
    | none =>
      have hr : r = [] := h2.2 rfl
      subst hr
      clear h2
      go_wp2_with fail
      go_ret2
      refine ⟨[], none, 6, rfl, ?_, Row.nil _ _ _, U2.out⟩
      unfold ClashR
      rw [if_pos HE.out]
      exact ⟨H1.out, rfl⟩
    | some a =>
      have hr : r ≠ [] := fun h => by have := h2.1 h; cases this
      have HN := Lib.hid hr
      clear h2 hr
      go_wp2_with fail
      go_ret2
      refine ⟨r, some a, 0, rfl, ?_, H3.out, U2.out⟩
      unfold ClashR
      rw [if_pos HE.out]
      exact ⟨H1.out, by rw [if_neg HN.out]⟩
  · have hne : (errLooks s l != 0) = true := by rw [bne_iff_ne]; exact hE
    have HE := Lib.hid hE
    clear hE
    unfold sdVal at *
    go_enter Tryz.func31, Tryz.ntmps31
    go_wp2_with fail
    refine (HC.out _ (by (repeat (first | exact Below.refl _ _ | (with_reducible refine Below.drewN' ?_ _) | (with_reducible refine Below.drew ?_) | (with_reducible refine Below.setCell ?_ (by first | exact Nat.le_refl _ | omega | (with_reducible (repeat (first | refine sz_alloc ?_ | refine sz_setCell ?_ | refine sz_drew ?_ | refine sz_drewN ?_)); first | exact Nat.le_refl _ | omega) | (simp only [World.size_alloc, World.size_setCell, World.size_drew, size_drewN']; omega)) _) | (with_reducible refine Below.alloc ?_ (by first | exact Nat.le_refl _ | omega | (with_reducible (repeat (first | refine sz_alloc ?_ | refine sz_setCell ?_ | refine sz_drew ?_ | refine sz_drewN ?_)); first | exact Nat.le_refl _ | omega) | (simp only [World.size_alloc, World.size_setCell, World.size_drew, size_drewN']; omega)) _) | assumption)))).mono ?_
    rintro e w1 ⟨p, rfl, u1, -⟩
    have U1 := Lib.hid (Up.trans (show Up w (w.alloc (.cells (sdCells s pT pF pS cT cF cS).toArray 28)) by (repeat (first | exact Below.refl _ _ | (with_reducible refine Below.drewN' ?_ _) | (with_reducible refine Below.drew ?_) | (with_reducible refine Below.setCell ?_ (by first | exact Nat.le_refl _ | omega | (with_reducible (repeat (first | refine sz_alloc ?_ | refine sz_setCell ?_ | refine sz_drew ?_ | refine sz_drewN ?_)); first | exact Nat.le_refl _ | omega) | (simp only [World.size_alloc, World.size_setCell, World.size_drew, size_drewN']; omega)) _) | (with_reducible refine Below.alloc ?_ (by first | exact Nat.le_refl _ | omega | (with_reducible (repeat (first | refine sz_alloc ?_ | refine sz_setCell ?_ | refine sz_drew ?_ | refine sz_drewN ?_)); first | exact Nat.le_refl _ | omega) | (simp only [World.size_alloc, World.size_setCell, World.size_drew, size_drewN']; omega)) _) | assumption))) u1)
    clear u1 HC
    go_wp2_with fail
    go_ret2
    refine ⟨[], none, errLooks s l, rfl, ?_, Row.nil _ _ _, U1.out⟩
    unfold ClashR
    rw [if_neg HE.out]
    exact ⟨rfl, rfl⟩
end
end Go.Proofs.YtknaajofcbenaaaGreat
namespace Go.Proofs.YtknaajofcbenaaaGreat
open Go.RowKit Go.Shelf

def stepV (s : Sd) (i t : Nat) : Int := grt [(s.sills[i]?.getD (0, 0, 0)).2.2, s.floors[t]?.getD 0]
def mayGate (s : Sd) (g : Int) (i t : Nat) : Bool := decide (stepV s i t ≤ g)
def wayV (s : Sd) (p : Int) : List Int := if errGate s p = 0 then (wayAt (waysOf s (mayGate s (gateOf s p.toNat))) p).getD [] else []

section
variable {pT pF pS : Option Addr} {cT cF cS : Nat}
set_option maxRecDepth 100000 in
set_option maxHeartbeats 2000000 in
theorem wants_gate (bw : Nat) (s : Sd) (b6 b8 : Nat) (g : Int) (w : World) (hw : SandsAt w bw 0 s pT pF pS cT cF cS) (m2 : s.floors.length ≤ 8) (m3 : s.sills.length ≤ 16) (h6 : w.cell? ⟨b6, 0, none⟩ = some (.pointer (some ⟨bw, 0, none⟩))) (h8 : w.cell? ⟨b8, 0, none⟩ = some (.int .i64 g)) :
    Wants2 91 #[] #[.pointer (some ⟨b6, 0, none⟩), .pointer (some ⟨b8, 0, none⟩)] (mayGate s g) s.sills.length s.floors.length w := by
  intro i t W hi ht hu
  have HS := Lib.hid (fun V (u : Up W V) => step_c bw s V pT pF pS cT cF cS ((hw.up hu).up u) (by simp [maxLen]; omega) (by simp [maxLen]; omega) i t hi ht)
  have HM := Lib.hid (show mayGate s g i t = decide (grt [s.sills[i].2.2, s.floors[t]] ≤ g) by unfold mayGate stepV; rw [List.getElem?_eq_getElem hi, List.getElem?_eq_getElem ht]; rfl)
  obtain ⟨v, hv⟩ : ∃ v, grt [s.sills[i].2.2, s.floors[t]] = v := ⟨_, rfl⟩
  rw [hv] at HS HM
  have c6 := hu.cellAt h6
  have c8 := hu.cellAt h8
  clear hw h6 h8 hv
  change Calls Tryz.prog 91 #[.int .i64 i, .int .i64 t, .pointer (some ⟨b6, 0, none⟩), .pointer (some ⟨b8, 0, none⟩)] W _
  go_enter Tryz.func91, Tryz.ntmps91
  go_wp2
  go_region_held3 (fun w' => w'.cell? ⟨b6, 0, none⟩ = some (.pointer (some ⟨bw, 0, none⟩)) ∧ w'.cell? ⟨b8, 0, none⟩ = some (.int .i64 g) ∧ Up W w')
    (refine ⟨Up.cellAt (w := W) ?_ c6, Up.cellAt (w := W) ?_ c8, ?_⟩ <;> (repeat (first | exact Below.refl _ _ | (with_reducible refine Below.drewN' ?_ _) | (with_reducible refine Below.drew ?_) | (with_reducible refine Below.setCell ?_ (by first | exact Nat.le_refl _ | omega | (with_reducible (repeat (first | refine sz_alloc ?_ | refine sz_setCell ?_ | refine sz_drew ?_ | refine sz_drewN ?_)); first | exact Nat.le_refl _ | omega) | (simp only [World.size_alloc, World.size_setCell, World.size_drew, size_drewN']; omega)) _) | (with_reducible refine Below.alloc ?_ (by first | exact Nat.le_refl _ | omega | (with_reducible (repeat (first | refine sz_alloc ?_ | refine sz_setCell ?_ | refine sz_drew ?_ | refine sz_drewN ?_)); first | exact Nat.le_refl _ | omega) | (simp only [World.size_alloc, World.size_setCell, World.size_drew, size_drewN']; omega)) _) | assumption)))
    (first
      | (go_at_call 92; with_reducible refine (HS.out W.drew (Below.refl _ _).drew).mono ?_; rintro e w1 ⟨rfl, u1⟩; have u1' : Up W w1 := Up.trans ((Below.refl _ _).drew) u1))
  go_wp2
  go_ret
  exact ⟨ret_bool HM.out.symm, u1'⟩

theorem en_wayGate : Enters Tryz.prog 91 := enters_of Tryz.func91 (by kernel_rfl) rfl
theorem errGate_zero' {s : Sd} {x : Int} (h : errGate s x = 0) : errFor s x = 0 ∧ chk s = 0 ∧ 0 ≤ x ∧ x < 8 := by
  unfold errGate at h
  by_cases hc : errFor s x = 0
  · refine ⟨hc, ?_, errFor_zero hc⟩
    unfold errFor at hc
    by_cases hk : chk s = 0
    · exact hk
    · rw [if_neg hk] at hc; exact absurd hc hk
  · rw [if_neg hc] at h; exact absurd h hc

set_option maxRecDepth 100000 in
set_option maxHeartbeats 4000000 in
theorem Way_c (s : Sd) (x : Int) (w : World) (hl : Lists w s pT pF pS cT cF cS) :
    Calls Tryz.prog 36 #[sdVal s pT pF pS cT cF cS, .int .i64 x] w fun e w' => ∃ p, e = .returned (.tuple #[.slice p (wayV s x).length (wayV s x).length, .int .i64 (errGate s x)]) ∧ Row w' p 1 (ints (wayV s x)) ∧ (wayV s x).length ≤ 8 ∧ Up w w' := by
  have HC := Lib.hid (fun W (u : Up w W) => beginGate_c s x W (hl.up u))
  clear hl
  by_cases hE : errGate s x = 0
  · obtain ⟨-, hc, hx0, hx8⟩ := errGate_zero' hE
    have hok := chk_ok hc
    obtain ⟨n, rfl⟩ := Int.eq_ofNat_of_zero_le hx0
    have HV := Lib.hid (show wayV s n = (wayAt (waysOf s (mayGate s (gateOf s n))) n).getD [] by unfold wayV; rw [if_pos hE, Int.toNat_natCast])
    rw [hE] at HC ⊢
    have m2 := hok.fl1
    have m3 := hok.sl
    have HO := Lib.hid hok
    unfold sdVal at *
    go_enter Tryz.func36, Tryz.ntmps36
    go_wp2_with fail
    refine (HC.out _ (by (repeat (first | exact Below.refl _ _ | (with_reducible refine Below.drewN' ?_ _) | (with_reducible refine Below.drew ?_) | (with_reducible refine Below.setCell ?_ (by first | exact Nat.le_refl _ | omega | (with_reducible (repeat (first | refine sz_alloc ?_ | refine sz_setCell ?_ | refine sz_drew ?_ | refine sz_drewN ?_)); first | exact Nat.le_refl _ | omega) | (simp only [World.size_alloc, World.size_setCell, World.size_drew, size_drewN']; omega)) _) | (with_reducible refine Below.alloc ?_ (by first | exact Nat.le_refl _ | omega | (with_reducible (repeat (first | refine sz_alloc ?_ | refine sz_setCell ?_ | refine sz_drew ?_ | refine sz_drewN ?_)); first | exact Nat.le_refl _ | omega) | (simp only [World.size_alloc, World.size_setCell, World.size_drew, size_drewN']; omega)) _) | assumption)))).mono ?_
    rintro e w1 ⟨p, rfl, u1, hok⟩
    obtain ⟨bw, rfl, hW⟩ := hok rfl
    have U1 := Lib.hid (Up.trans (show Up w (w.alloc (.cells (sdCells s pT pF pS cT cF cS).toArray 28)) by (repeat (first | exact Below.refl _ _ | (with_reducible refine Below.drewN' ?_ _) | (with_reducible refine Below.drew ?_) | (with_reducible refine Below.setCell ?_ (by first | exact Nat.le_refl _ | omega | (with_reducible (repeat (first | refine sz_alloc ?_ | refine sz_setCell ?_ | refine sz_drew ?_ | refine sz_drewN ?_)); first | exact Nat.le_refl _ | omega) | (simp only [World.size_alloc, World.size_setCell, World.size_drew, size_drewN']; omega)) _) | (with_reducible refine Below.alloc ?_ (by first | exact Nat.le_refl _ | omega | (with_reducible (repeat (first | refine sz_alloc ?_ | refine sz_setCell ?_ | refine sz_drew ?_ | refine sz_drewN ?_)); first | exact Nat.le_refl _ | omega) | (simp only [World.size_alloc, World.size_setCell, World.size_drew, size_drewN']; omega)) _) | assumption))) u1)
    have HW := Lib.hid hW
    have c0 := hW.gates n (by omega)
    have lb := cell_lt c0
    clear hok hW u1 HC
    go_wp2_with fail
    refine Calls.world ?_
    intro w2 hw2
    have u2 : Up w1 w2 := by rw [hw2]; (repeat (first | exact Below.refl _ _ | (with_reducible refine Below.drewN' ?_ _) | (with_reducible refine Below.drew ?_) | (with_reducible refine Below.setCell ?_ (by first | exact Nat.le_refl _ | omega | (with_reducible (repeat (first | refine sz_alloc ?_ | refine sz_setCell ?_ | refine sz_drew ?_ | refine sz_drewN ?_)); first | exact Nat.le_refl _ | omega) | (simp only [World.size_alloc, World.size_setCell, World.size_drew, size_drewN']; omega)) _) | (with_reducible refine Below.alloc ?_ (by first | exact Nat.le_refl _ | omega | (with_reducible (repeat (first | refine sz_alloc ?_ | refine sz_setCell ?_ | refine sz_drew ?_ | refine sz_drewN ?_)); first | exact Nat.le_refl _ | omega) | (simp only [World.size_alloc, World.size_setCell, World.size_drew, size_drewN']; omega)) _) | assumption))
    have h6 : w2.cell? ⟨w1.heap.size, 0, none⟩ = some (.pointer (some ⟨bw, 0, none⟩)) := by rw [hw2]; exact ((Blk.new w1 [.pointer (some ⟨bw, 0, none⟩)] _).alloc _).cell 0
    have h8 : w2.cell? ⟨w1.heap.size + 1, 0, none⟩ = some (.int .i64 (gateOf s n)) := by rw [hw2]; exact (Blk.new' _ [.int .i64 ((gts s)[n]?.getD 0)] _ (by simp)).cell 0
    clear hw2
    have hm := wants_gate bw s w1.heap.size (w1.heap.size + 1) (gateOf s n) w2 (HW.out.sands.up u2) m2 m3 h6 h8
    refine (ways_c bw s w2 (HW.out.sands.up u2) m2 m3 HO.out.good 91 _ _ _ hm en_wayGate).mono ?_
    rintro e w3 ⟨vs, qv, rfl, l8, q8, qs, hw, u3⟩
    have U3 := Lib.hid (Up.trans U1.out (Up.trans u2 u3))
    have hn8 : n < 8 := by omega
    have hn8' : (n : Int) < 8 := by omega
    have sl : ∀ (i : Nat) v, vs[i]? = some v → ∃ p n c, v = .slice p n c := fun i v hv => by
      have hi : i < 8 := by have := (List.getElem?_eq_some_iff.1 hv).1; omega
      exact (hw i v _ hv (List.getElem?_eq_getElem (by omega))).slice
    obtain ⟨o, ho⟩ : ∃ o, (waysOf s (mayGate s (gateOf s n)))[n]? = some o := ⟨_, List.getElem?_eq_getElem (by omega)⟩
    have HVo := Lib.hid (show wayV s n = o.getD [] by rw [HV.out]; unfold wayAt; rw [Int.toNat_natCast, ho]; rfl)
    have hlen : (wayV s n).length ≤ 8 := by
      rw [HVo.out]
      cases o with
      | none => simp
      | some l => exact qs l (by obtain ⟨h1, h2⟩ := List.getElem?_eq_some_iff.1 ho; rw [← h2]; exact List.getElem_mem _)
    have hvn : vs[n]? = some (vs[n]'(by omega)) := List.getElem?_eq_getElem (by omega)
    have hrow := (hw n _ o hvn ho).row
    obtain ⟨v0, v1, v2, v3, v4, v5, v6, v7, rfl⟩ : ∃ a b c d e f h i, vs = [a, b, c, d, e, f, h, i] := by
      match vs, l8 with
      | [a, b, c, d, e, f, h, i], _ => exact ⟨a, b, c, d, e, f, h, i, rfl⟩
    obtain ⟨p0, n0, e0, rfl⟩ : ∃ p n c, v0 = .slice p n c := sl 0 v0 rfl
    obtain ⟨p1, n1, e1, rfl⟩ : ∃ p n c, v1 = .slice p n c := sl 1 v1 rfl
    obtain ⟨p2, n2, e2, rfl⟩ : ∃ p n c, v2 = .slice p n c := sl 2 v2 rfl
    obtain ⟨p3, n3, e3, rfl⟩ : ∃ p n c, v3 = .slice p n c := sl 3 v3 rfl
    obtain ⟨p4, n4, e4, rfl⟩ : ∃ p n c, v4 = .slice p n c := sl 4 v4 rfl
    obtain ⟨p5, n5, e5, rfl⟩ : ∃ p n c, v5 = .slice p n c := sl 5 v5 rfl
    obtain ⟨p6, n6, e6, rfl⟩ : ∃ p n c, v6 = .slice p n c := sl 6 v6 rfl
    obtain ⟨p7, n7, e7, rfl⟩ : ∃ p n c, v7 = .slice p n c := sl 7 v7 rfl
    obtain ⟨pw, hpw, hrw⟩ := hrow
    rw [hpw] at hvn
    have c9 := (Blk.new w3 [.slice p0 n0 e0, .slice p1 n1 e1, .slice p2 n2 e2, .slice p3 n3 e3, .slice p4 n4 e4, .slice p5 n5 e5, .slice p6 n6 e6, .slice p7 n7 e7] 139).cell n
    rw [hvn] at c9
    have HR := Lib.hid hrw
    have HL := Lib.hid hlen
    clear hw sl u2 u3 h6 h8 hm hpw hvn hrw qs hlen l8 q8
    go_wp2_with fail
    go_ret2
    refine ⟨pw, ?_, ?_, HL.out, ?_⟩
    · rw [HVo.out]; rfl
    · rw [HVo.out]; exact HR.out.up (by (repeat (first | exact Below.refl _ _ | (with_reducible refine Below.drewN' ?_ _) | (with_reducible refine Below.drew ?_) | (with_reducible refine Below.setCell ?_ (by first | exact Nat.le_refl _ | omega | (with_reducible (repeat (first | refine sz_alloc ?_ | refine sz_setCell ?_ | refine sz_drew ?_ | refine sz_drewN ?_)); first | exact Nat.le_refl _ | omega) | (simp only [World.size_alloc, World.size_setCell, World.size_drew, size_drewN']; omega)) _) | (with_reducible refine Below.alloc ?_ (by first | exact Nat.le_refl _ | omega | (with_reducible (repeat (first | refine sz_alloc ?_ | refine sz_setCell ?_ | refine sz_drew ?_ | refine sz_drewN ?_)); first | exact Nat.le_refl _ | omega) | (simp only [World.size_alloc, World.size_setCell, World.size_drew, size_drewN']; omega)) _) | assumption)))
    · exact Up.trans U3.out (by (repeat (first | exact Below.refl _ _ | (with_reducible refine Below.drewN' ?_ _) | (with_reducible refine Below.drew ?_) | (with_reducible refine Below.setCell ?_ (by first | exact Nat.le_refl _ | omega | (with_reducible (repeat (first | refine sz_alloc ?_ | refine sz_setCell ?_ | refine sz_drew ?_ | refine sz_drewN ?_)); first | exact Nat.le_refl _ | omega) | (simp only [World.size_alloc, World.size_setCell, World.size_drew, size_drewN']; omega)) _) | (with_reducible refine Below.alloc ?_ (by first | exact Nat.le_refl _ | omega | (with_reducible (repeat (first | refine sz_alloc ?_ | refine sz_setCell ?_ | refine sz_drew ?_ | refine sz_drewN ?_)); first | exact Nat.le_refl _ | omega) | (simp only [World.size_alloc, World.size_setCell, World.size_drew, size_drewN']; omega)) _) | assumption)))
  · have hne : (errGate s x != 0) = true := by rw [bne_iff_ne]; exact hE
    have HV := Lib.hid (show wayV s x = [] by unfold wayV; rw [if_neg hE])
    clear hE
    unfold sdVal at *
    go_enter Tryz.func36, Tryz.ntmps36
    go_wp2_with fail
    refine (HC.out _ (by (repeat (first | exact Below.refl _ _ | (with_reducible refine Below.drewN' ?_ _) | (with_reducible refine Below.drew ?_) | (with_reducible refine Below.setCell ?_ (by first | exact Nat.le_refl _ | omega | (with_reducible (repeat (first | refine sz_alloc ?_ | refine sz_setCell ?_ | refine sz_drew ?_ | refine sz_drewN ?_)); first | exact Nat.le_refl _ | omega) | (simp only [World.size_alloc, World.size_setCell, World.size_drew, size_drewN']; omega)) _) | (with_reducible refine Below.alloc ?_ (by first | exact Nat.le_refl _ | omega | (with_reducible (repeat (first | refine sz_alloc ?_ | refine sz_setCell ?_ | refine sz_drew ?_ | refine sz_drewN ?_)); first | exact Nat.le_refl _ | omega) | (simp only [World.size_alloc, World.size_setCell, World.size_drew, size_drewN']; omega)) _) | assumption)))).mono ?_
    rintro e w1 ⟨p, rfl, u1, -⟩
    have U1 := Lib.hid (Up.trans (show Up w (w.alloc (.cells (sdCells s pT pF pS cT cF cS).toArray 28)) by (repeat (first | exact Below.refl _ _ | (with_reducible refine Below.drewN' ?_ _) | (with_reducible refine Below.drew ?_) | (with_reducible refine Below.setCell ?_ (by first | exact Nat.le_refl _ | omega | (with_reducible (repeat (first | refine sz_alloc ?_ | refine sz_setCell ?_ | refine sz_drew ?_ | refine sz_drewN ?_)); first | exact Nat.le_refl _ | omega) | (simp only [World.size_alloc, World.size_setCell, World.size_drew, size_drewN']; omega)) _) | (with_reducible refine Below.alloc ?_ (by first | exact Nat.le_refl _ | omega | (with_reducible (repeat (first | refine sz_alloc ?_ | refine sz_setCell ?_ | refine sz_drew ?_ | refine sz_drewN ?_)); first | exact Nat.le_refl _ | omega) | (simp only [World.size_alloc, World.size_setCell, World.size_drew, size_drewN']; omega)) _) | assumption))) u1)
    clear u1 HC
    go_wp2_with fail
    go_ret2
    rw [HV.out]
    exact ⟨none, rfl, Row.nil _ _ _, by simp, Up.trans U1.out (by (repeat (first | exact Below.refl _ _ | (with_reducible refine Below.drewN' ?_ _) | (with_reducible refine Below.drew ?_) | (with_reducible refine Below.setCell ?_ (by first | exact Nat.le_refl _ | omega | (with_reducible (repeat (first | refine sz_alloc ?_ | refine sz_setCell ?_ | refine sz_drew ?_ | refine sz_drewN ?_)); first | exact Nat.le_refl _ | omega) | (simp only [World.size_alloc, World.size_setCell, World.size_drew, size_drewN']; omega)) _) | (with_reducible refine Below.alloc ?_ (by first | exact Nat.le_refl _ | omega | (with_reducible (repeat (first | refine sz_alloc ?_ | refine sz_setCell ?_ | refine sz_drew ?_ | refine sz_drewN ?_)); first | exact Nat.le_refl _ | omega) | (simp only [World.size_alloc, World.size_setCell, World.size_drew, size_drewN']; omega)) _) | assumption)))⟩
end
end Go.Proofs.YtknaajofcbenaaaGreat
namespace Go.Proofs.YtknaajofcbenaaaGreat
open Go.RowKit Go.Shelf
set_option maxRecDepth 100000
theorem v_h1 : heightV two 91 = 175 ∧ errAt two 91 = 0 := by constructor <;> kernel_rfl
theorem v_h2 : heightV two 400 = 370 ∧ errAt two 400 = 0 := by constructor <;> kernel_rfl
theorem v_g : gateV two 1 = 220 ∧ errGate two 1 = 0 := by constructor <;> kernel_rfl
theorem v_t : turnV two 0 0 = 97 ∧ errTurn two 0 0 = 0 := by constructor <;> kernel_rfl
theorem v_w : wayV two 1 = [0, 1] := by kernel_rfl
theorem v_a : allV two 150 = [2, 1] ∧ errAt two 150 = 0 := by constructor <;> kernel_rfl
theorem v_l : looksV two [(120, 0, true)] = (1, 20) ∧ looksE two [(120, 0, true)] = 0 := by constructor <;> kernel_rfl
end Go.Proofs.YtknaajofcbenaaaGreat
namespace Go.Proofs.YtknaajofcbenaaaGreat
open Go.RowKit Go.Shelf
set_option maxRecDepth 100000 in
theorem v_hold : holdV two 1 [] [1] = 220 ∧ errHold two 1 [] [1] = 0 := by constructor <;> kernel_rfl
theorem hold_two (pT pF pS : Option Addr) (cT cF cS : Nat) (p : Option Addr) (c : Nat) (w : World) (hl : Lists w two pT pF pS cT cF cS) (h : Row w p 1 (ints [1])) :
    Calls Tryz.prog 44 #[sdVal two pT pF pS cT cF cS, .int .i64 1, .slice none 0 0, .slice p 1 c] w fun e w' => e = .returned (.tuple #[.int .i64 220, .int .i64 0]) ∧ Up w w' := by
  have k := Hold_c two 1 [] [1] none p 0 c w hl (Row.nil _ _ _) h (by decide) (by decide)
  rwa [v_hold.1, v_hold.2] at k
end Go.Proofs.YtknaajofcbenaaaGreat
namespace Go.Proofs.YtknaajofcbenaaaGreat
open Go.RowKit Go.Shelf

section
variable {pT pF pS : Option Addr} {cT cF cS : Nat}
theorem h91 (w : World) (hl : Lists w two pT pF pS cT cF cS) : Calls Tryz.prog 42 #[sdVal two pT pF pS cT cF cS, .int .i64 91] w fun e w' => e = .returned (.tuple #[.int .i64 175, .int .i64 0]) ∧ Up w w' := by
  have h := Height_c two 91 w hl
  rwa [v_h1.1, v_h1.2] at h
theorem h400 (w : World) (hl : Lists w two pT pF pS cT cF cS) : Calls Tryz.prog 42 #[sdVal two pT pF pS cT cF cS, .int .i64 400] w fun e w' => e = .returned (.tuple #[.int .i64 370, .int .i64 0]) ∧ Up w w' := by
  have h := Height_c two 400 w hl
  rwa [v_h2.1, v_h2.2] at h
theorem g1 (w : World) (hl : Lists w two pT pF pS cT cF cS) : Calls Tryz.prog 43 #[sdVal two pT pF pS cT cF cS, .int .i64 1] w fun e w' => e = .returned (.tuple #[.int .i64 220, .int .i64 0]) ∧ Up w w' := by
  have h := Gate_c two 1 w hl
  rwa [v_g.1, v_g.2] at h
theorem t00 (w : World) (hl : Lists w two pT pF pS cT cF cS) : Calls Tryz.prog 20 #[sdVal two pT pF pS cT cF cS, .int .i64 0, .int .i64 0] w fun e w' => e = .returned (.tuple #[.int .i64 97, .int .i64 0]) ∧ Up w w' := by
  have h := Turn_c two 0 0 w hl
  rwa [v_t.1, v_t.2] at h
theorem w1' (w : World) (hl : Lists w two pT pF pS cT cF cS) : Calls Tryz.prog 36 #[sdVal two pT pF pS cT cF cS, .int .i64 1] w fun e w' => ∃ p, e = .returned (.tuple #[.slice p 2 2, .int .i64 0]) ∧ Row w' p 1 (ints [0, 1]) ∧ Up w w' := by
  have h := Way_c two 1 w hl
  rw [v_w, v_g.2] at h
  exact h.mono fun e w' ⟨p, h1, h2, _, h3⟩ => ⟨p, h1, h2, h3⟩
theorem a150 (w : World) (hl : Lists w two pT pF pS cT cF cS) : Calls Tryz.prog 45 #[sdVal two pT pF pS cT cF cS, .int .i64 150] w fun e w' => ∃ p c, e = .returned (.tuple #[.slice p 2 c, .int .i64 0]) ∧ Row w' p 1 (ints [2, 1]) ∧ Up w w' := by
  have h := All_c two 150 w hl
  rw [v_a.1, v_a.2] at h
  exact h.mono fun e w' ⟨p, c, h1, _, _, h2, h3⟩ => ⟨p, c, h1, h2, h3⟩
theorem l1 (p : Option Addr) (c : Nat) (w : World) (hl : Lists w two pT pF pS cT cF cS) (hr : Row w p 3 (lrows [(120, 0, true)])) : Calls Tryz.prog 30 #[sdVal two pT pF pS cT cF cS, .slice p 1 c] w fun e w' => e = .returned (.tuple #[.agg #[.int .i64 1, .int .i64 20], .int .i64 0]) ∧ Up w w' := by
  have h := Looks_c two [(120, 0, true)] p c w hl hr (by decide)
  rwa [v_l.1, v_l.2] at h
end

set_option maxRecDepth 100000 in
set_option maxHeartbeats 4000000 in
theorem awake_c (w : World) : Calls Tryz.prog 7 #[] w fun e w' => e = .returned (.bool true) ∧ Up w w' := by
  go_enter Tryz.func7, Tryz.ntmps7
  go_wp2_with fail
  refine (two_c _).mono ?_
  rintro e w1 ⟨b1, rfl, k1, u1⟩
  go_wp2_with fail
  refine (h91 _ k1).mono ?_
  rintro e w2 ⟨rfl, u2⟩
  go_wp2_with fail
  refine (two_c _).mono ?_
  rintro e w3 ⟨b3, rfl, k3, u3⟩
  go_wp2_with fail
  refine (h400 _ k3).mono ?_
  rintro e w4 ⟨rfl, u4⟩
  have U4 := Lib.hid (Up.trans u1 (Up.trans u2 (Up.trans u3 u4)))
  clear u1 u2 u3 u4 k1 k3
  go_wp2_with fail
  refine (two_c _).mono ?_
  rintro e w5 ⟨b5, rfl, k5, u5⟩
  go_wp2_with fail
  refine (g1 _ k5).mono ?_
  rintro e w6 ⟨rfl, u6⟩
  go_wp2_with fail
  refine (two_c _).mono ?_
  rintro e w7 ⟨b7, rfl, k7, u7⟩
  go_wp2_with fail
  refine (t00 _ k7).mono ?_
  rintro e w8 ⟨rfl, u8⟩
  have U8 := Lib.hid (Up.trans U4.out (Up.trans u5 (Up.trans u6 (Up.trans u7 u8))))
  clear u5 u6 u7 u8 k5 k7 U4
  go_wp2_with fail
  refine (two_c _).mono ?_
  rintro e w9 ⟨b9, rfl, k9, u9⟩
  go_wp2_with fail
  refine (w1' _ k9).mono ?_
  rintro e w10 ⟨p10, rfl, r10, u10⟩
  have U10 := Lib.hid (Up.trans U8.out (Up.trans u9 u10))
  have R10 := Lib.hid r10
  clear u9 u10 k9 U8 r10
  go_wp2_with fail
  refine (two_c _).mono ?_
  rintro e w11 ⟨b11, rfl, k11, u11⟩
  have R11 := Lib.hid (R10.out.up u11)
  have U11 := Lib.hid (Up.trans U10.out u11)
  have K11 := Lib.hid k11
  clear u11 k11 R10 U10
  go_wp2_with fail
  refine Calls.world ?_
  intro w12 hw12
  have u12 : Up w11 w12 := by rw [hw12]; (repeat (first | exact Below.refl _ _ | (with_reducible refine Below.drewN' ?_ _) | (with_reducible refine Below.drew ?_) | (with_reducible refine Below.setCell ?_ (by first | exact Nat.le_refl _ | omega | (with_reducible (repeat (first | refine sz_alloc ?_ | refine sz_setCell ?_ | refine sz_drew ?_ | refine sz_drewN ?_)); first | exact Nat.le_refl _ | omega) | (simp only [World.size_alloc, World.size_setCell, World.size_drew, size_drewN']; omega)) _) | (with_reducible refine Below.alloc ?_ (by first | exact Nat.le_refl _ | omega | (with_reducible (repeat (first | refine sz_alloc ?_ | refine sz_setCell ?_ | refine sz_drew ?_ | refine sz_drewN ?_)); first | exact Nat.le_refl _ | omega) | (simp only [World.size_alloc, World.size_setCell, World.size_drew, size_drewN']; omega)) _) | assumption))
  have r12 : Row w12 (some ⟨w11.heap.size, 0, none⟩) 1 (ints [1]) := by rw [hw12]; exact Row.lit w11 [1] _
  clear hw12
  refine (hold_two _ _ _ _ _ _ _ _ w12 (K11.out.up u12) r12).mono ?_
  rintro e w13 ⟨rfl, u13⟩
  have R13 := Lib.hid ((R11.out.up u12).up u13)
  have U13 := Lib.hid (Up.trans U11.out (Up.trans u12 u13))
  clear u12 u13 r12 K11 R11 U11
  go_wp2_with fail
  refine (two_c _).mono ?_
  rintro e w14 ⟨b14, rfl, k14, u14⟩
  go_wp2_with fail
  refine (a150 _ k14).mono ?_
  rintro e w15 ⟨p15, c15, rfl, r15, u15⟩
  have R15 := Lib.hid ((R13.out.up u14).up u15)
  have S15 := Lib.hid r15
  have U15 := Lib.hid (Up.trans U13.out (Up.trans u14 u15))
  clear u14 u15 r15 k14 R13 U13
  go_wp2_with fail
  refine (two_c _).mono ?_
  rintro e w16 ⟨b16, rfl, k16, u16⟩
  have R16 := Lib.hid (R15.out.up u16)
  have S16 := Lib.hid (S15.out.up u16)
  have U16 := Lib.hid (Up.trans U15.out u16)
  have K16 := Lib.hid k16
  clear u16 k16 R15 S15 U15
  go_wp2_with fail
  refine Calls.world ?_
  intro w17 hw17
  have u17 : Up w16 w17 := by rw [hw17]; (repeat (first | exact Below.refl _ _ | (with_reducible refine Below.drewN' ?_ _) | (with_reducible refine Below.drew ?_) | (with_reducible refine Below.setCell ?_ (by first | exact Nat.le_refl _ | omega | (with_reducible (repeat (first | refine sz_alloc ?_ | refine sz_setCell ?_ | refine sz_drew ?_ | refine sz_drewN ?_)); first | exact Nat.le_refl _ | omega) | (simp only [World.size_alloc, World.size_setCell, World.size_drew, size_drewN']; omega)) _) | (with_reducible refine Below.alloc ?_ (by first | exact Nat.le_refl _ | omega | (with_reducible (repeat (first | refine sz_alloc ?_ | refine sz_setCell ?_ | refine sz_drew ?_ | refine sz_drewN ?_)); first | exact Nat.le_refl _ | omega) | (simp only [World.size_alloc, World.size_setCell, World.size_drew, size_drewN']; omega)) _) | assumption))
  have r17 : Row w17 (some ⟨w16.heap.size, 0, none⟩) 3 (lrows [(120, 0, true)]) := by rw [hw17]; exact Row.of_flat rfl (Blk.new w16 (lrows [(120, 0, true)]).flatten _)
  clear hw17
  refine (l1 _ _ w17 (K16.out.up u17) r17).mono ?_
  rintro e w18 ⟨rfl, u18⟩
  have R18 := Lib.hid ((R16.out.up u17).up u18)
  have S18 := Lib.hid ((S16.out.up u17).up u18)
  have U18 := Lib.hid (Up.trans U16.out (Up.trans u17 u18))
  clear u17 u18 r17 K16 R16 S16 U16
  go_wp2_with fail
  refine Calls.world ?_
  intro w19 hw19
  have u19 : Up w18 w19 := by rw [hw19]; (repeat (first | exact Below.refl _ _ | (with_reducible refine Below.drewN' ?_ _) | (with_reducible refine Below.drew ?_) | (with_reducible refine Below.setCell ?_ (by first | exact Nat.le_refl _ | omega | (with_reducible (repeat (first | refine sz_alloc ?_ | refine sz_setCell ?_ | refine sz_drew ?_ | refine sz_drewN ?_)); first | exact Nat.le_refl _ | omega) | (simp only [World.size_alloc, World.size_setCell, World.size_drew, size_drewN']; omega)) _) | (with_reducible refine Below.alloc ?_ (by first | exact Nat.le_refl _ | omega | (with_reducible (repeat (first | refine sz_alloc ?_ | refine sz_setCell ?_ | refine sz_drew ?_ | refine sz_drewN ?_)); first | exact Nat.le_refl _ | omega) | (simp only [World.size_alloc, World.size_setCell, World.size_drew, size_drewN']; omega)) _) | assumption))
  have hz : Blk w19 w18.heap.size [.int .i64 1, .int .i64 20] 24 := by rw [hw19]; exact (Blk.new w18 _ _).alloc _
  have r19 : Row w19 (some ⟨w18.heap.size + 1, 0, none⟩) 1 (ints [0, 1]) := by rw [hw19]; exact Row.of_flat rfl (Blk.new' (w18.alloc _) (ints [0, 1]).flatten _ (by simp))
  clear hw19
  refine (eqInt_c [0, 1] [0, 1] _ _ _ _ w19 (R18.out.up u19) r19 (by decide) (by decide)).mono ?_
  rintro e w20 ⟨rfl, u20⟩
  have S20 := Lib.hid ((S18.out.up u19).up u20)
  have U20 := Lib.hid (Up.trans U18.out (Up.trans u19 u20))
  have Z20 := Lib.hid (hz.up u20)
  clear u19 u20 hz r19 R18 S18 U18
  rw [show decide (([0, 1] : List Int) = [0, 1]) = true by decide]
  go_wp2_with fail
  refine Calls.world ?_
  intro w21 hw21
  have u21 : Up w20 w21 := by rw [hw21]; (repeat (first | exact Below.refl _ _ | (with_reducible refine Below.drewN' ?_ _) | (with_reducible refine Below.drew ?_) | (with_reducible refine Below.setCell ?_ (by first | exact Nat.le_refl _ | omega | (with_reducible (repeat (first | refine sz_alloc ?_ | refine sz_setCell ?_ | refine sz_drew ?_ | refine sz_drewN ?_)); first | exact Nat.le_refl _ | omega) | (simp only [World.size_alloc, World.size_setCell, World.size_drew, size_drewN']; omega)) _) | (with_reducible refine Below.alloc ?_ (by first | exact Nat.le_refl _ | omega | (with_reducible (repeat (first | refine sz_alloc ?_ | refine sz_setCell ?_ | refine sz_drew ?_ | refine sz_drewN ?_)); first | exact Nat.le_refl _ | omega) | (simp only [World.size_alloc, World.size_setCell, World.size_drew, size_drewN']; omega)) _) | assumption))
  have r21 : Row w21 (some ⟨w20.heap.size, 0, none⟩) 1 (ints [2, 1]) := by rw [hw21]; exact Row.of_flat rfl (Blk.new w20 (ints [2, 1]).flatten _)
  clear hw21
  refine (eqState_c [2, 1] [2, 1] _ _ _ _ w21 (S20.out.up u21) r21 (by decide) (by decide)).mono ?_
  rintro e w22 ⟨rfl, u22⟩
  have U22 := Lib.hid (Up.trans U20.out (Up.trans u21 u22))
  have z22 := (Z20.out.up u21).up u22
  have q0 := z22.cell 0
  have q1 := z22.cell 1
  simp only [List.getElem?_cons_zero, List.getElem?_cons_succ] at q0 q1
  clear u21 u22 r21 S20 U20 Z20 z22
  rw [show decide (([2, 1] : List Int) = [2, 1]) = true by decide]
  go_wp2_with fail
  go_ret
  exact ⟨rfl, U22.out⟩
end Go.Proofs.YtknaajofcbenaaaGreat
namespace Go.Proofs.YtknaajofcbenaaaGreat
open Go.RowKit Go.Shelf

/-- each operation from N on waits for each before N, at once or by way of others -/
def tailWaits3 (md : Region.Mode) (ops : Array Oper) (N : Nat) : Bool :=
  (List.range ops.size).all fun t => decide (t < N) || (List.range N).all fun j => waitsT md ops ops.size 6 t j

theorem head_of_ready3 {md : Region.Mode} {ops : Array Oper} {N : Nat} {listed : Array Bool} {i j : Nat} (ht : tailWaits3 md ops N = true) (hcl : Closed md ops (fun j => listed.getD j false)) (hi : i < N) (hun : listed.getD i false = false) (hj : j ∈ Region.ready md ops listed) : j < N := by
  rcases Nat.lt_or_ge j N with h | h
  · exact h
  · exfalso
    obtain ⟨_, oj, hoj, hall⟩ := mem_ready.1 hj
    have hjs : j < ops.size := (Array.getElem?_eq_some_iff.1 hoj).1
    have h1 := List.all_eq_true.1 ht j (List.mem_range.2 hjs)
    simp only [Bool.or_eq_true, decide_eq_true_eq] at h1
    have h2 := h1.resolve_left (by omega)
    have h3 := List.all_eq_true.1 h2 i (List.mem_range.2 hi)
    have one : ∀ k, Region.waitsFor md ops j k = true → listed.getD k false = true := fun k hk => by
      obtain ⟨o', ho', e, he, hb, hon⟩ := Region.waitsFor_spec hk
      have : o' = oj := Option.some.inj (ho'.symm.trans hoj)
      subst this
      rw [← hon]
      exact hall e he hb
    simp only [waitsT, Bool.or_eq_true, List.any_eq_true, Bool.and_eq_true] at h3
    rcases h3 with h3 | ⟨k, -, h4, h5⟩
    · rw [one i h3] at hun; cases hun
    · have h6 : listed.getD i false = true := hcl.all (N := ops.size) 5 k i (one k h4) (by simp only [waitsT, Bool.or_eq_true, List.any_eq_true, Bool.and_eq_true]; exact h5)
      rw [h6] at hun; cases hun

section
variable {P : Program} {Q : Exit → Act → World → Prop} {N : Nat}

theorem inv_G3 {md : Region.Mode} {ops : Array Oper} {R : Array Bool → Act → World → Prop} (Inv : (Nat → Bool) → Act → World → Prop) (hb : backward ops = true) (ht : tailWaits3 md ops N = true) (hN : N ≤ ops.size)
    (step : ∀ (done : Nat → Bool) (a : Act) (w : World) (i : Nat) (o : Oper), i < N → done i = false → ops[i]? = some o → (∀ e ∈ o.after, Region.binds md e = true → done e.on = true) → Inv done a w → wpOp P ops Q i (fun a' w' => Inv (upd done i) a' w') a w)
    (hR : ∀ (listed : Array Bool) (a : Act) (w : World), listed.size = ops.size → (∀ j, listed.getD j false = decide (j < N)) → Inv (fun j => decide (j < N)) a w → R listed a w) :
    ∀ (f : Nat) (listed : Array Bool) (a : Act) (w : World), listed.size = ops.size → (∀ j, N ≤ j → listed.getD j false = false) → cnt (fun j => listed.getD j false) N = f → Closed md ops (fun j => listed.getD j false) → Inv (fun j => listed.getD j false) a w →
      wpAnyG P md ops Q (fun _ => True) N R f listed a w
  | 0, listed, a, w, hs, hf, hc, _, hi => by
    have hall := cnt_zero hc
    have hg : ∀ j, listed.getD j false = decide (j < N) := fun j => by
      by_cases h : j < N
      · rw [hall j h]; simp [h]
      · rw [hf j (by omega)]; simp [h]
    refine ⟨hall, hR listed a w hs hg ?_⟩
    rw [show (fun j => listed.getD j false) = (fun j => decide (j < N)) from funext hg] at hi
    exact hi
  | f + 1, listed, a, w, hs, hf, hc, hcl, hi => by
    obtain ⟨j, hj, hun, hbefore⟩ := cnt_first (g := fun j => listed.getD j false) (n := N) (by omega)
    have hjs : j < ops.size := by omega
    have hready : j ∈ Region.ready md ops listed := by
      refine mem_ready.2 ⟨?_, ops[j], Array.getElem?_eq_getElem hjs, fun e he _ => ?_⟩
      · have hun' : listed.getD j false = false := hun
        rw [Array.getD_eq_getD_getElem?] at hun' ⊢
        rw [Array.getElem?_eq_getElem (by omega)] at hun' ⊢
        exact hun'
      · have h1 := List.all_eq_true.1 hb j (List.mem_range.2 hjs)
        rw [Array.getElem?_eq_getElem hjs] at h1
        have h2 := (Array.all_eq_true_iff_forall_mem.1 h1) e he
        simp only [decide_eq_true_eq] at h2
        exact hbefore _ h2
    refine ⟨fun h0 => (by rw [h0] at hready; cases hready), fun i hir => ?_⟩
    have hiN := head_of_ready3 ht hcl hj hun hir
    obtain ⟨hiun, o, ho, hall⟩ := mem_ready.1 hir
    have hiun' : listed.getD i false = false := getD_both hiun
    refine ⟨hiN, wpOp_mono (fun a' w' h' => ⟨trivial, ?_⟩) (step (fun j => listed.getD j false) a w i o hiN hiun' ho hall hi)⟩
    have hset : (fun j => (listed.setIfInBounds i true).getD j false) = upd (fun j => listed.getD j false) i := by
      funext k
      by_cases hk : i = k
      · subst hk
        have : i < (listed.setIfInBounds i true).size := by simp; omega
        rw [Array.getD_eq_getD_getElem?, Array.getElem?_eq_getElem this]
        simp [upd]
      · rw [getD_set_ne false hk]
        have : (k == i) = false := by rw [beq_eq_false_iff_ne]; omega
        simp [upd, this]
    refine inv_G3 Inv hb ht hN step hR f _ a' w' (by simpa using hs) (fun k hk => ?_) ?_ ?_ ?_
    · rw [getD_set_ne false (by omega)]; exact hf k hk
    · rw [hset]
      have := cnt_set (fun j => listed.getD j false) i hiun' N hiN
      omega
    · rw [hset]
      intro k ok hok hk e he hb
      have hk' : listed.getD k false = true ∨ k = i := by simpa [upd] using hk
      have : listed.getD e.on false = true := by
        rcases hk' with hk' | rfl
        · exact hcl k ok hok hk' e he hb
        · have : ok = o := Option.some.inj (hok.symm.trans ho)
          subst this
          exact hall e he hb
      simp [upd, this]
    · rw [hset]; exact h'

/-- the order is right for the rule: the first N, in whatever order, then the others as they stand -/
def drawOk3 (md : Region.Mode) (l : List Oper) (N : Nat) : Bool :=
  decide (N ≤ l.length) && backward l.toArray && tailWaits3 md l.toArray N && (headDone N (List.replicate N true ++ List.replicate (l.length - N) false).toArray && Region.seqB md l.toArray (l.drop N).length N (List.replicate N true ++ List.replicate (l.length - N) false).toArray)

theorem region_inv3 {id : Nat} {l : List Oper} {a : Act} {w : World} (N : Nat) (Inv : (Nat → Bool) → Act → World → Prop) (hm : P.follows .mixedOrders = true) (hd : drawOk3 .any l N = true)
    (start : Inv (fun _ => false) a w.drew)
    (step : ∀ (done : Nat → Bool) (a : Act) (w : World) (i : Nat) (o : Oper), i < N → done i = false → l.toArray[i]? = some o → (∀ e ∈ o.after, Region.binds .any e = true → done e.on = true) → Inv done a w → wpOp P l.toArray Q i (fun a' w' => Inv (upd done i) a' w') a w)
    (tail : ∀ a w, Inv (fun j => decide (j < N)) a w → wpList P l.toArray Q (l.drop N) a w) : (Code.region id l.toArray true).wp P Q a w := by
  unfold drawOk3 at hd
  simp only [Bool.and_eq_true, decide_eq_true_eq] at hd
  obtain ⟨⟨⟨hN, hb⟩, ht⟩, hh, hseq⟩ := hd
  refine region_tail (fun _ => True) N hm (by simpa using hN) trivial (fun _ => ?_)
  refine inv_G3 Inv hb ht (by simpa using hN) step (fun listed a w hs hg hi => ?_) N _ a w.drew (by simp) (fun j _ => none_listed _ j) ?_ (fun i o _ hi => ?_) ?_
  · rw [listed_eq (n := l.length) (by simpa using hs) hN hg]
    have := wpAnyG_tail (P := P) (Q := Q) (S := fun _ => True) (a := a) (w := w) (by rw [Bool.and_eq_true]; exact ⟨hh, hseq⟩) (tail a w hi)
    exact this.2
  · have : (fun j => (Array.replicate l.toArray.size false).getD j false) = fun _ => false := by funext j; exact none_listed _ j
    rw [this]; exact cnt_none N
  · have hi' : (Array.replicate l.toArray.size false).getD i false = true := hi
    rw [none_listed] at hi'; cases hi'
  · have : (fun j => (Array.replicate l.toArray.size false).getD j false) = fun _ => false := by funext j; exact none_listed _ j
    rw [this]; exact start
end
end Go.Proofs.YtknaajofcbenaaaGreat
