/- Proved: whatever sands, place, way, sills and places are passed in, the law TideBanks returns true, and the arguments read behind the call as they read before it. Conditions: none but those that the given row states of itself. -/
import Derived.Test.YtcljkkojeleakaaHold
import Derived.Test.YtcljkkojeleakaaOut1
import Derived.Test.YtcljkkojeleakaaAll
import Derived.Test.YtcljkkojeleakaaState2
import Derived.Test.YtcljkkojeleakaaTurn
import Derived.Test.YtcljkkojeleakaaBase
import Derived.Test.YtcljkkojeleakaaHeight
import Derived.Test.YtcljkkojeleakaaChk
import Derived.Test.YtcljkkojeleakaaChk2
import Derived.Test.YtcljkkojeleakaaCheck
import Derived.Test.YtcljkkojeleakaaOn
import Derived.Test.YtcljkkojeleakaaLower
import Derived.Test.YtcljkkojeleakaaGates
import Derived.Test.YtcljkkojeleakaaBegin
import Derived.Test.YtcljkkojeleakaaBegin2
import Derived.Test.YtcljkkojeleakaaSpans
import Derived.Test.YtcljkkojeleakaaFits
import Derived.Test.YtcljkkojeleakaaQue
import Derived.Test.YtcljkkojeleakaaLead
import Derived.Test.YtcljkkojeleakaaWaysF
import Derived.Test.YtcljkkojeleakaaBanksA
import Derived.Test.YtcljkkojeleakaaDup
import Derived.Test.YtcljkkojeleakaaOwn
import Derived.Test.YtcljkkojeleakaaEqInt
import Derived.Test.YtcljkkojeleakaaSame
import Derived.Test.YtcljkkojeleakaaRef
import Derived.Test.YtcljkkojeleakaaFar
import Derived.Test.YtcljkkojeleakaaTheirs
import Derived.Test.YtcljkkojeleakaaDraw
import Derived.Test.YtcljkkojeleakaaDraw2
import Derived.Test.YtcljkkojeleakaaPair
import Derived.Test.YtcljkkojeleakaaPost
import Derived.Deep.Cut
import Derived.Deep.DeepCutAuto
import Derived.WalkKit
import Derived.WalkSpells
import Derived.WalkLawsBesides
import Derived.Deep.QuietTactic
import Derived.BigQuiet
import Derived.Lib.Hide
import Derived.Shelf.Abstract
import Derived.BigGuardPart
import Derived.RangeFuncNested
import Derived.RangeFuncBound
import Derived.RangeFuncCalls
import Derived.RangeFuncLeaves
import Derived.Shelf.RegionOpen
import Derived.OwnWalkIn
import Derived.TacticsInMore
import Derived.LoopNIn
import Derived.LoopIn
import Derived.StillTailTactics
import Derived.Deep.RegionHeld3
import Derived.StillTail
import Derived.RangeFuncWrites
import Derived.Laws.StructEq
import Derived.Deep.LoopGhost
import Derived.IntWalk
import Derived.RangeFuncBox
import Derived.Deep.CutRange
import Derived.Deep.CutBlock
import Derived.Laws.OwnMore
import Derived.ArgAppend
import Derived.Laws.CopyOwn
import Derived.OwnWalk
import Derived.Lib.SliceRun
import Derived.Maps.OwnOps
import Derived.Maps.OwnSet
import Derived.Deep.AppendSrc
import Derived.Deep.Upon
import Derived.Carry
import Derived.ChangeSame
import Derived.SizedLaws
import Derived.ProofKit
import Derived.OpenShut
import Derived.JoinedOf
import Derived.Deep.Slices
/- The reference's lists: are they of sills, does one say a thing twice. -/
namespace Go.Proofs.Ytcljkkojeleakaa
open Go.RowKit Go.Shelf

theorem all_drop {α : Type} {l : List α} {f : α → Bool} {k : Nat} (h : k < l.length) : (l.drop k).all f = (f l[k] && (l.drop (k + 1)).all f) := by
  rw [List.drop_eq_getElem_cons h]; rfl
section
variable {pT pF pS : Option Addr} {cT cF cS : Nat}
set_option maxRecDepth 100000 in
set_option maxHeartbeats 1000000 in
theorem listed_c (s : Sd) (l : List Int) (p : Option Addr) (c : Nat) (w : World) (hl : Lists w s pT pF pS cT cF cS) (hr : Row w p 1 (ints l)) (hm : l.length ≤ maxLen) :
    Calls Try.prog 98 #[sdVal s pT pF pS cT cF cS, .slice p l.length c] w fun e w' => e = .returned (.int .i64 (bif l.all (isSi s) then 0 else 1)) ∧ Up w w' := by
  have m1 : (s.sills.length : Int) ≤ 9223372036854775807 := by have := Nat.le_trans hl.cs hl.ms; simp only [maxLen] at this; omega
  have s1 : IntKind.i64.wrap ((s.sills.length : Int) - 1) = (s.sills.length : Int) - 1 := IntWalk.i64_in _ (by omega)
  unfold maxLen at hm
  have HR := Lib.hid hr
  clear hl hr
  unfold sdVal
  go_enter Try.func98, Try.ntmps98
  go_wp2_with fail
  have BS : Hid (Blk (w.alloc (.cells #[.slice pT s.table.length cT, .int .i64 s.lo, .int .i64 s.hi, .slice pF s.floors.length cF, .slice pS s.sills.length cS] 37)) w.heap.size (sdCells s pT pF pS cT cF cS) 37) := Lib.hid (Blk.new w (sdCells s pT pF pS cT cF cS) 37)
  have U0 : Hid (Up w (w.alloc (.cells #[.slice pT s.table.length cT, .int .i64 s.lo, .int .i64 s.hi, .slice pF s.floors.length cF, .slice pS s.sills.length cS] 37))) := Lib.hid (by (repeat (first | exact Below.refl _ _ | (with_reducible refine Below.drewN' ?_ _) | (with_reducible refine Below.drew ?_) | (with_reducible refine Below.setCell ?_ (by first | exact Nat.le_refl _ | omega | (with_reducible (repeat (first | refine sz_alloc ?_ | refine sz_setCell ?_ | refine sz_drew ?_ | refine sz_drewN ?_)); first | exact Nat.le_refl _ | omega) | (simp only [World.size_alloc, World.size_setCell, World.size_drew, size_drewN']; omega)) _) | (with_reducible refine Below.alloc ?_ (by first | exact Nat.le_refl _ | omega | (with_reducible (repeat (first | refine sz_alloc ?_ | refine sz_setCell ?_ | refine sz_drew ?_ | refine sz_drewN ?_)); first | exact Nat.le_refl _ | omega) | (simp only [World.size_alloc, World.size_setCell, World.size_drew, size_drewN']; omega)) _) | assumption)))
  generalize (w.alloc (.cells #[.slice pT s.table.length cT, .int .i64 s.lo, .int .i64 s.hi, .slice pF s.floors.length cF, .slice pS s.sills.length cS] 37)) = w0 at *
  go_loopw [5] (fun i wr => ∃ k : Nat, k ≤ l.length ∧ i = .int .i64 k ∧ l.all (isSi s) = (l.drop k).all (isSi s) ∧ Up w0 wr) (fun i _ => l.length - (intOf i).toNat)
  case atStart => exact ⟨0, Nat.zero_le _, rfl, rfl, Below.refl _ _⟩
  case round =>
    obtain ⟨k, hk, rfl, ht, hu⟩ := hrel
    have HT := Lib.hid ht
    have HU := Lib.hid hu
    clear ht
    by_cases hlt : k < l.length
    · obtain ⟨b, off, rfl, d0⟩ := (HR.out.up (Up.trans U0.out hu)).int k hlt
      have HD := Lib.hid (all_drop (f := isSi s) hlt)
      obtain ⟨-, -, -, -, c4⟩ := five (BS.out.up hu)
      have b1 : (k : Int) < (l.length : Int) := by omega
      generalize l[k] = x at *
      clear hu
      go_upto_region 4 with fail
      refine region_tail (fun W' => W'.cell? ⟨b, off + k, none⟩ = some (.int .i64 x) ∧ W'.cell? ⟨w.heap.size, 4, none⟩ = some (.slice pS s.sills.length cS)) 9 mixed (by kernel_rfl) ⟨d0, c4⟩ (fun hHeld => ?_)
      refine wpAnyG_take 0 12 (v := ?_) rfl rfl (by kernel_rfl) (fun _ _ _ h => h) (Or.inl ⟨by rfl, ?_⟩) (by assumption) ?_
      rotate_left
      · (intro w' hSw; (try dsimp only at hSw); go_split_ands; go_simp; try with_reducible rfl)
      try simp only [List.setIfInBounds_toArray, List.set_cons_zero, List.set_cons_succ]
      refine wpAnyG_take 1 13 (v := ?_) rfl rfl (by kernel_rfl) (fun _ _ _ h => h) (Or.inl ⟨by rfl, ?_⟩) (by assumption) ?_
      rotate_left
      · (intro w' hSw; (try dsimp only at hSw); go_split_ands; go_simp; try with_reducible rfl)
      try simp only [List.setIfInBounds_toArray, List.set_cons_zero, List.set_cons_succ]
      refine wpAnyG_take 2 14 (v := ?_) rfl rfl (by kernel_rfl) (fun _ _ _ h => h) (Or.inl ⟨by rfl, ?_⟩) (by assumption) ?_
      rotate_left
      · (intro w' hSw; (try dsimp only at hSw); go_split_ands; go_simp; try with_reducible rfl)
      try simp only [List.setIfInBounds_toArray, List.set_cons_zero, List.set_cons_succ]
      refine wpAnyG_take 3 15 (v := ?_) rfl rfl (by kernel_rfl) (fun _ _ _ h => h) (Or.inl ⟨by rfl, ?_⟩) (by assumption) ?_
      rotate_left
      · (intro w' hSw; (try dsimp only at hSw); go_split_ands; go_simp; try with_reducible rfl)
      try simp only [List.setIfInBounds_toArray, List.set_cons_zero, List.set_cons_succ]
      refine wpAnyG_take 4 16 (v := ?_) rfl rfl (by kernel_rfl) (fun _ _ _ h => h) (Or.inl ⟨by rfl, ?_⟩) (by assumption) ?_
      rotate_left
      · (intro w' hSw; (try dsimp only at hSw); go_split_ands; go_simp; try with_reducible rfl)
      try simp only [List.setIfInBounds_toArray, List.set_cons_zero, List.set_cons_succ]
      refine wpAnyG_take 5 17 (v := ?_) rfl rfl (by kernel_rfl) (fun _ _ _ h => h) (Or.inl ⟨by rfl, ?_⟩) (by assumption) ?_
      rotate_left
      · (intro w' hSw; (try dsimp only at hSw); go_split_ands; go_simp; try with_reducible rfl)
      try simp only [List.setIfInBounds_toArray, List.set_cons_zero, List.set_cons_succ]
      refine wpAnyG_take 6 18 (v := ?_) rfl rfl (by kernel_rfl) (fun _ _ _ h => h) (Or.inl ⟨by rfl, ?_⟩) (by assumption) ?_
      rotate_left
      · (intro w' hSw; (try dsimp only at hSw); go_split_ands; go_simp; try with_reducible rfl)
      try simp only [List.setIfInBounds_toArray, List.set_cons_zero, List.set_cons_succ]
      refine wpAnyG_take 7 19 (v := ?_) rfl rfl (by kernel_rfl) (fun _ _ _ h => h) (Or.inl ⟨by rfl, ?_⟩) (by assumption) ?_
      rotate_left
      · (intro w' hSw; (try dsimp only at hSw); go_split_ands; go_simp; try with_reducible rfl)
      try simp only [List.setIfInBounds_toArray, List.set_cons_zero, List.set_cons_succ]
      refine wpAnyG_do 8 rfl (by kernel_rfl) (fun K hK => ?_)
      rw [if_pos (by rfl)]
      go_simp
      refine (off_c _ _ _ _).mono ?_
      rintro e w' ⟨rfl, rfl⟩
      refine hK.out _ _ ⟨d0, c4⟩ (fun hHeld => ?_)
      clear hK K
      refine wpAnyG_tail (by kernel_rfl) ?_
      change wpList _ _ _ [] _ _
      clear hHeld d0 c4
      cases hx : inB x 0 ((s.sills.length : Int) - 1) with
      | true =>
        have HX := Lib.hid (show l.all (isSi s) = (l.drop (k + 1)).all (isSi s) by rw [HT.out, HD.out, show isSi s x = true from hx, Bool.true_and])
        clear hx
        go_wp2_with fail
        go_roundw
        case rel => exact ⟨k + 1, hlt, by go_num, HX.out, HU.out.drew⟩
        case measure => simp [intOf]; omega
      | false =>
        have HX := Lib.hid (show l.all (isSi s) = false by rw [HT.out, HD.out, show isSi s x = false from hx, Bool.false_and])
        clear hx
        go_wp2_with fail
        go_ret
        exact ⟨by rw [HX.out]; rfl, Up.trans U0.out HU.out.drew⟩
    · obtain rfl : k = l.length := by omega
      have HX := Lib.hid (show l.all (isSi s) = true by rw [HT.out, List.drop_eq_nil_of_le (Nat.le_refl _)]; rfl)
      go_wp2_with fail
      go_ret
      exact ⟨by rw [HX.out]; rfl, Up.trans U0.out HU.out⟩

theorem nodup_take {l : List Int} {k : Nat} (h : k < l.length) : (l.take (k + 1)).Nodup ↔ (l.take k).Nodup ∧ l[k] ∉ l.take k := by
  rw [List.take_succ_eq_append_getElem h, List.nodup_append]
  constructor
  · rintro ⟨h1, -, h3⟩
    exact ⟨h1, fun hm => h3 _ hm _ (by simp) rfl⟩
  · rintro ⟨h1, h2⟩
    exact ⟨h1, by simp, fun a ha b hb => by rw [List.mem_singleton] at hb; rintro rfl; exact h2 (hb ▸ ha)⟩
set_option maxRecDepth 100000 in
set_option maxHeartbeats 1000000 in
theorem repeats_c (l : List Int) (p : Option Addr) (c : Nat) (w : World) (hr : Row w p 1 (ints l)) (hm : l.length ≤ maxLen) :
    Calls Try.prog 100 #[.slice p l.length c] w fun e w' => e = .returned (.bool (!decide l.Nodup)) ∧ Up w w' := by
  unfold maxLen at hm
  have HR := Lib.hid hr
  clear hr
  go_enter Try.func100, Try.ntmps100
  go_wp2_with fail
  go_loopw [3] (fun i wr => ∃ k : Nat, k ≤ l.length ∧ i = .int .i64 k ∧ (l.take k).Nodup ∧ Up w wr) (fun i _ => l.length - (intOf i).toNat)
  case atStart => exact ⟨0, Nat.zero_le _, rfl, by simp, Below.refl _ _⟩
  case round =>
    obtain ⟨k, hk, rfl, ht, hu⟩ := hrel
    have HT := Lib.hid ht
    have HU := Lib.hid hu
    clear ht hu
    by_cases hlt : k < l.length
    · have b1 : (k : Int) < (l.length : Int) := by omega
      go_wp2_with fail
      go_loopw [4] (fun i wx => ∃ j : Nat, j ≤ k ∧ i = .int .i64 j ∧ l[k] ∉ l.take j ∧ Up w wx) (fun i _ => k - (intOf i).toNat)
      case atStart => exact ⟨0, Nat.zero_le _, rfl, by simp, HU.out⟩
      case round =>
        obtain ⟨j, hj, rfl, hn, hu⟩ := hrel
        have HN := Lib.hid hn
        have HU2 := Lib.hid hu
        clear hn
        by_cases hjk : j < k
        · have hjl : j < l.length := by omega
          obtain ⟨b, off, rfl, d0⟩ := (HR.out.up hu).int k hlt
          obtain ⟨b', off', he, d1⟩ := (HR.out.up hu).int j hjl
          obtain ⟨rfl, rfl⟩ : b = b' ∧ off = off' := by simpa using he
          have b2 : (j : Int) < (k : Int) := by omega
          have b3 : (j : Int) < (l.length : Int) := by omega
          clear he hu
          by_cases hxy : l[k] = l[j]
          · have HX : Hid (¬ l.Nodup) := fun hd => by
              exact List.pairwise_iff_getElem.1 hd j k hjl hlt hjk hxy.symm
            have hxy' : (l[k] == l[j]) = true := by simpa using hxy
            clear hxy
            go_wp2_with fail
            go_quiet (fail)
            go_wp2_with fail
            go_ret
            exact ⟨by rw [decide_eq_false HX.out]; rfl, Below.drewN' HU2.out _⟩
          · have HX : Hid (l[k] ∉ l.take (j + 1)) := by
              show _ ∉ _
              rw [List.take_succ_eq_append_getElem hjl, List.mem_append, List.mem_singleton]
              rintro (h | h)
              · exact HN.out h
              · exact hxy h
            have hxy' : (l[k] == l[j]) = false := by simpa using hxy
            clear hxy
            go_wp2_with fail
            go_quiet (fail)
            go_wp2_with fail
            go_roundw
            case rel => exact ⟨j + 1, by omega, by go_num, HX.out, Below.drewN' HU2.out _⟩
            case measure => simp [intOf]; omega
        · obtain rfl : j = k := by omega
          have HX := Lib.hid ((nodup_take hlt).2 ⟨HT.out, HN.out⟩)
          clear hu
          go_wp2_with fail
          go_roundw
          case rel => exact ⟨j + 1, by omega, by go_num, HX.out, HU2.out⟩
          case measure => simp [intOf]; omega
    · obtain rfl : k = l.length := by omega
      have HX : Hid l.Nodup := by have := HT.out; rwa [List.take_length] at this
      go_wp2_with fail
      go_ret
      exact ⟨by rw [decide_eq_true HX.out]; rfl, HU.out⟩
end
end Go.Proofs.Ytcljkkojeleakaa
/- The exported At: the state of a place at a minute, or the error. -/
namespace Go.Proofs.Ytcljkkojeleakaa
open Go.RowKit Go.Shelf

def errHere (s : Sd) (m x : Int) : Int := if errAt s m = 0 then (bif isPl s x then 0 else 1) else errAt s m
def atV (s : Sd) (m x : Int) : Int := if errHere s m x = 0 then st s m x.toNat else 0
section
variable {pT pF pS : Option Addr} {cT cF cS : Nat}

set_option maxRecDepth 100000 in
set_option maxHeartbeats 1000000 in
theorem At_c (s : Sd) (m x : Int) (w : World) (hl : Lists w s pT pF pS cT cF cS) :
    Calls Try.prog 41 #[sdVal s pT pF pS cT cF cS, .int .i64 m, .int .i64 x] w fun e w' => e = .returned (.tuple #[.int .i64 (atV s m x), .int .i64 (errHere s m x)]) ∧ Up w w' := by
  have HC := Lib.hid (fun W (u : Up w W) => beginAt_c s m W (hl.up u))
  unfold atV errHere
  clear hl
  by_cases hE : errAt s m = 0
  · obtain ⟨hc, hm, -⟩ := errAt_zero hE
    have hf8 := (chk_ok hc).fl1
    have HO := Lib.hid (chk_ok hc)
    rw [if_pos hE]
    rw [hE] at HC
    unfold sdVal at *
    cases hp : isPl s x with
    | false =>
      have hp' : inB x 0 (s.floors.length - 1) = false := hp
      go_enter Try.func41, Try.ntmps41
      go_wp2_with fail
      refine (HC.out _ (by (repeat (first | exact Below.refl _ _ | (with_reducible refine Below.drewN' ?_ _) | (with_reducible refine Below.drew ?_) | (with_reducible refine Below.setCell ?_ (by first | exact Nat.le_refl _ | omega | (with_reducible (repeat (first | refine sz_alloc ?_ | refine sz_setCell ?_ | refine sz_drew ?_ | refine sz_drewN ?_)); first | exact Nat.le_refl _ | omega) | (simp only [World.size_alloc, World.size_setCell, World.size_drew, size_drewN']; omega)) _) | (with_reducible refine Below.alloc ?_ (by first | exact Nat.le_refl _ | omega | (with_reducible (repeat (first | refine sz_alloc ?_ | refine sz_setCell ?_ | refine sz_drew ?_ | refine sz_drewN ?_)); first | exact Nat.le_refl _ | omega) | (simp only [World.size_alloc, World.size_setCell, World.size_drew, size_drewN']; omega)) _) | assumption)))).mono ?_
      rintro e w1 ⟨p, rfl, u1, hok⟩
      obtain ⟨bw, rfl, hW⟩ := hok rfl
      have U1 := Lib.hid (Up.trans (show Up w (w.alloc (.cells (sdCells s pT pF pS cT cF cS).toArray 28)) by (repeat (first | exact Below.refl _ _ | (with_reducible refine Below.drewN' ?_ _) | (with_reducible refine Below.drew ?_) | (with_reducible refine Below.setCell ?_ (by first | exact Nat.le_refl _ | omega | (with_reducible (repeat (first | refine sz_alloc ?_ | refine sz_setCell ?_ | refine sz_drew ?_ | refine sz_drewN ?_)); first | exact Nat.le_refl _ | omega) | (simp only [World.size_alloc, World.size_setCell, World.size_drew, size_drewN']; omega)) _) | (with_reducible refine Below.alloc ?_ (by first | exact Nat.le_refl _ | omega | (with_reducible (repeat (first | refine sz_alloc ?_ | refine sz_setCell ?_ | refine sz_drew ?_ | refine sz_drewN ?_)); first | exact Nat.le_refl _ | omega) | (simp only [World.size_alloc, World.size_setCell, World.size_drew, size_drewN']; omega)) _) | assumption))) u1)
      have HW := Lib.hid hW
      clear hok hW u1 HC
      go_wp2_with fail
      refine (isPlace_c bw _ _ _ x _ HW.out.sands.s3 (by simp only [maxLen]; omega)).mono ?_
      rintro e w2 ⟨he, rfl⟩
      rw [hp'] at he
      subst he
      go_wp2_with fail
      go_ret2
      exact ⟨rfl, U1.out⟩
    | true =>
      have hp' : inB x 0 (s.floors.length - 1) = true := hp
      obtain ⟨x0, x1⟩ := inB_true.1 hp'
      obtain ⟨k, rfl⟩ : ∃ k : Nat, x = k := ⟨x.toNat, by omega⟩
      go_enter Try.func41, Try.ntmps41
      go_wp2_with fail
      refine (HC.out _ (by (repeat (first | exact Below.refl _ _ | (with_reducible refine Below.drewN' ?_ _) | (with_reducible refine Below.drew ?_) | (with_reducible refine Below.setCell ?_ (by first | exact Nat.le_refl _ | omega | (with_reducible (repeat (first | refine sz_alloc ?_ | refine sz_setCell ?_ | refine sz_drew ?_ | refine sz_drewN ?_)); first | exact Nat.le_refl _ | omega) | (simp only [World.size_alloc, World.size_setCell, World.size_drew, size_drewN']; omega)) _) | (with_reducible refine Below.alloc ?_ (by first | exact Nat.le_refl _ | omega | (with_reducible (repeat (first | refine sz_alloc ?_ | refine sz_setCell ?_ | refine sz_drew ?_ | refine sz_drewN ?_)); first | exact Nat.le_refl _ | omega) | (simp only [World.size_alloc, World.size_setCell, World.size_drew, size_drewN']; omega)) _) | assumption)))).mono ?_
      rintro e w1 ⟨p, rfl, u1, hok⟩
      obtain ⟨bw, rfl, hW⟩ := hok rfl
      have U1 := Lib.hid (Up.trans (show Up w (w.alloc (.cells (sdCells s pT pF pS cT cF cS).toArray 28)) by (repeat (first | exact Below.refl _ _ | (with_reducible refine Below.drewN' ?_ _) | (with_reducible refine Below.drew ?_) | (with_reducible refine Below.setCell ?_ (by first | exact Nat.le_refl _ | omega | (with_reducible (repeat (first | refine sz_alloc ?_ | refine sz_setCell ?_ | refine sz_drew ?_ | refine sz_drewN ?_)); first | exact Nat.le_refl _ | omega) | (simp only [World.size_alloc, World.size_setCell, World.size_drew, size_drewN']; omega)) _) | (with_reducible refine Below.alloc ?_ (by first | exact Nat.le_refl _ | omega | (with_reducible (repeat (first | refine sz_alloc ?_ | refine sz_setCell ?_ | refine sz_drew ?_ | refine sz_drewN ?_)); first | exact Nat.le_refl _ | omega) | (simp only [World.size_alloc, World.size_setCell, World.size_drew, size_drewN']; omega)) _) | assumption))) u1)
      have HW := Lib.hid hW
      clear hok hW u1 HC
      go_wp2_with fail
      refine (isPlace_c bw _ _ _ (k : Int) _ HW.out.sands.s3 (by simp only [maxLen]; omega)).mono ?_
      rintro e w2 ⟨he, rfl⟩
      rw [hp'] at he
      subst he
      go_wp2_with fail
      refine (state_c bw s m k _ HW.out HO.out hm (by omega)).mono ?_
      rintro e w2 ⟨rfl, u2⟩
      have U2 := Lib.hid (Up.trans U1.out u2)
      clear u2
      go_wp2_with fail
      go_ret2
      exact ⟨rfl, U2.out⟩
  · have hne : (errAt s m != 0) = true := by rw [bne_iff_ne]; exact hE
    rw [if_neg hE, if_neg hE]
    clear hE
    unfold sdVal at *
    go_enter Try.func41, Try.ntmps41
    go_wp2_with fail
    refine (HC.out _ (by (repeat (first | exact Below.refl _ _ | (with_reducible refine Below.drewN' ?_ _) | (with_reducible refine Below.drew ?_) | (with_reducible refine Below.setCell ?_ (by first | exact Nat.le_refl _ | omega | (with_reducible (repeat (first | refine sz_alloc ?_ | refine sz_setCell ?_ | refine sz_drew ?_ | refine sz_drewN ?_)); first | exact Nat.le_refl _ | omega) | (simp only [World.size_alloc, World.size_setCell, World.size_drew, size_drewN']; omega)) _) | (with_reducible refine Below.alloc ?_ (by first | exact Nat.le_refl _ | omega | (with_reducible (repeat (first | refine sz_alloc ?_ | refine sz_setCell ?_ | refine sz_drew ?_ | refine sz_drewN ?_)); first | exact Nat.le_refl _ | omega) | (simp only [World.size_alloc, World.size_setCell, World.size_drew, size_drewN']; omega)) _) | assumption)))).mono ?_
    rintro e w1 ⟨p, rfl, u1, -⟩
    have U1 := Lib.hid (Up.trans (show Up w (w.alloc (.cells (sdCells s pT pF pS cT cF cS).toArray 28)) by (repeat (first | exact Below.refl _ _ | (with_reducible refine Below.drewN' ?_ _) | (with_reducible refine Below.drew ?_) | (with_reducible refine Below.setCell ?_ (by first | exact Nat.le_refl _ | omega | (with_reducible (repeat (first | refine sz_alloc ?_ | refine sz_setCell ?_ | refine sz_drew ?_ | refine sz_drewN ?_)); first | exact Nat.le_refl _ | omega) | (simp only [World.size_alloc, World.size_setCell, World.size_drew, size_drewN']; omega)) _) | (with_reducible refine Below.alloc ?_ (by first | exact Nat.le_refl _ | omega | (with_reducible (repeat (first | refine sz_alloc ?_ | refine sz_setCell ?_ | refine sz_drew ?_ | refine sz_drewN ?_)); first | exact Nat.le_refl _ | omega) | (simp only [World.size_alloc, World.size_setCell, World.size_drew, size_drewN']; omega)) _) | assumption))) u1)
    clear u1 HC
    go_wp2_with fail
    go_ret2
    exact ⟨rfl, U1.out⟩
end
end Go.Proofs.Ytcljkkojeleakaa
/- Plain facts: until when a run of minutes lasts; places that are reached over the sills that may be taken; a place behind another one has no lesser gate. -/
namespace Go.Proofs.Ytcljkkojeleakaa
section
open Go.RowKit

theorem turnIn_append (l r : List (Int × Int)) (m : Int) : turnIn (l ++ r) m = (turnIn l m).or (turnIn r m) := by
  induction l with
  | nil => simp [turnIn]
  | cons x l ih =>
    rw [List.cons_append, turnIn_cons, turnIn_cons, ih]
    split <;> simp
theorem turnIn_past {l : List (Int × Int)} {m : Int} (h : ∀ x ∈ l, x.2 < m) : turnIn l m = none := by
  induction l with
  | nil => rfl
  | cons x l ih =>
    have := h x (by simp)
    rw [turnIn_cons, if_neg (by omega), ih (fun y hy => h y (by simp [hy]))]

/-- a run from a minute on ends at t -/
def RunTo (f : Int → Bool) (e m t : Int) : Prop := m ≤ t ∧ t < e ∧ (∀ x, m ≤ x → x ≤ t → f x = true) ∧ (t + 1 < e → f (t + 1) = false)
structure SpI (f : Int → Bool) (a : Int) (k : Nat) (st : List (Int × Int) × Int × Bool) : Prop where
  run : st.2.2 = true → a ≤ st.2.1 ∧ st.2.1 < a + k ∧ ∀ x, st.2.1 ≤ x → x < a + k → f x = true
  ends : ∀ x ∈ st.1, x.2 + 1 < a + k ∧ (st.2.2 = true → x.2 < st.2.1)
  some' : ∀ m t, a ≤ m → m < a + k → turnIn st.1 m = some t → m ≤ t ∧ t + 1 < a + k ∧ (∀ x, m ≤ x → x ≤ t → f x = true) ∧ f (t + 1) = false
  none' : ∀ m, a ≤ m → m < a + k → turnIn st.1 m = none → f m = true → st.2.2 = true ∧ st.2.1 ≤ m
theorem spI (f : Int → Bool) (a : Int) : ∀ k, SpI f a k (spSt f a k)
  | 0 => ⟨(by intro h; cases h), (by simp [spSt]), fun m t h1 h2 => (by omega), fun m h1 h2 => (by omega)⟩
  | k + 1 => by
    have h := spI f a k
    obtain ⟨h1, h2, h3, h4⟩ := h
    unfold spSt
    generalize spSt f a k = st at *
    obtain ⟨l, fr, o⟩ := st
    dsimp only at h1 h2 h3 h4 ⊢
    have past : turnIn l (a + k) = none := turnIn_past (fun x hx => by have := (h2 x hx).1; omega)
    by_cases hf : f (a + k) = true
    · rw [if_pos hf]
      cases o with
      | true =>
        obtain ⟨r1, r2, r3⟩ := h1 rfl
        rw [if_pos rfl]
        refine ⟨fun _ => ⟨r1, by show fr < a + ((k + 1 : Nat) : Int); omega, fun x x1 x2 => ?_⟩, fun x hx => ?_, fun m t m1 m2 ht => ?_, fun m m1 m2 ht hm => ?_⟩
        · by_cases hx : x = a + k
          · rw [hx]; exact hf
          · exact r3 x x1 (by omega)
        · have := h2 x hx
          exact ⟨by omega, this.2⟩
        · by_cases hm : m = a + k
          · rw [hm] at ht; rw [show turnIn l (a + k) = none from past] at ht; cases ht
          · obtain ⟨t1, t2, t3, t4⟩ := h3 m t m1 (by omega) ht
            exact ⟨t1, by omega, t3, t4⟩
        · by_cases hm' : m = a + k
          · exact ⟨rfl, by show fr ≤ m; omega⟩
          · exact h4 m m1 (by omega) ht hm
      | false =>
        rw [if_neg (by decide)]
        refine ⟨fun _ => ⟨by show a ≤ a + (k : Int); omega, by show a + (k : Int) < a + ((k + 1 : Nat) : Int); omega, fun x x1 x2 => ?_⟩, fun x hx => ?_, fun m t m1 m2 ht => ?_, fun m m1 m2 ht hm => ?_⟩
        · have x1' : a + (k : Int) ≤ x := x1
          rw [show x = a + k by omega]; exact hf
        · have := (h2 x hx).1
          exact ⟨by omega, fun _ => by show x.2 < a + (k : Int); omega⟩
        · by_cases hm : m = a + k
          · rw [hm] at ht; rw [show turnIn l (a + k) = none from past] at ht; cases ht
          · obtain ⟨t1, t2, t3, t4⟩ := h3 m t m1 (by omega) ht
            exact ⟨t1, by omega, t3, t4⟩
        · by_cases hm' : m = a + k
          · exact ⟨rfl, by show a + (k : Int) ≤ m; omega⟩
          · have := (h4 m m1 (by omega) ht hm).1; cases this
    · rw [if_neg hf]
      have hf' : f (a + k) = false := by simpa using hf
      cases o with
      | true =>
        obtain ⟨r1, r2, r3⟩ := h1 rfl
        rw [if_pos rfl]
        have one : ∀ m, turnIn [(fr, a + (k : Int) - 1)] m = if fr ≤ m ∧ m ≤ a + k - 1 then some (a + (k : Int) - 1) else none := fun m => by rw [turnIn_cons]; rfl
        refine ⟨(by intro h; cases h), fun x hx => ?_, fun m t m1 m2 ht => ?_, fun m m1 m2 ht hm => ?_⟩
        · refine ⟨?_, (by intro h; cases h)⟩
          rw [List.mem_append, List.mem_singleton] at hx
          rcases hx with hx | rfl
          · have := (h2 x hx).1; omega
          · show a + (k : Int) - 1 + 1 < _; omega
        · have ht' : (turnIn l m).or (turnIn [(fr, a + (k : Int) - 1)] m) = some t := by rw [← turnIn_append]; exact ht
          have hk1 : m ≠ a + k ∨ m = a + k := by omega
          rcases hk1 with hm | hm
          · cases hl : turnIn l m with
            | some t' =>
              rw [hl, Option.some_or] at ht'
              cases ht'
              obtain ⟨t1, t2, t3, t4⟩ := h3 m t m1 (by omega) hl
              exact ⟨t1, by omega, t3, t4⟩
            | none =>
              rw [hl, Option.none_or, one] at ht'
              split at ht'
              · next hc =>
                cases ht'
                refine ⟨hc.2, by omega, fun x x1 x2 => r3 x (by omega) (by omega), ?_⟩
                rw [show a + (k : Int) - 1 + 1 = a + k by omega]; exact hf'
              · cases ht'
          · rw [hm, past, Option.none_or, one, if_neg (by omega)] at ht'; cases ht'
        · have ht' : (turnIn l m).or (turnIn [(fr, a + (k : Int) - 1)] m) = none := by rw [← turnIn_append]; exact ht
          have hk1 : m ≠ a + k ∨ m = a + k := by omega
          rcases hk1 with hm' | hm'
          · cases hl : turnIn l m with
            | some t' => rw [hl, Option.some_or] at ht'; cases ht'
            | none =>
              rw [hl, Option.none_or, one] at ht'
              have := h4 m m1 (by omega) hl hm
              rw [if_pos (by omega)] at ht'; cases ht'
          · rw [hm', hf'] at hm; cases hm
      | false =>
        rw [if_neg (by decide)]
        refine ⟨(by intro h; cases h), fun x hx => ⟨?_, (by intro h; cases h)⟩, fun m t m1 m2 ht => ?_, fun m m1 m2 ht hm => ?_⟩
        · have := (h2 x hx).1; omega
        · by_cases hm : m = a + k
          · rw [hm] at ht; rw [show turnIn l (a + k) = none from past] at ht; cases ht
          · obtain ⟨t1, t2, t3, t4⟩ := h3 m t m1 (by omega) ht
            exact ⟨t1, by omega, t3, t4⟩
        · by_cases hm' : m = a + k
          · rw [hm', hf'] at hm; cases hm
          · exact h4 m m1 (by omega) ht hm
theorem turn_run (f : Int → Bool) (a : Int) (n : Nat) (m : Int) (h0 : a ≤ m) (h1 : m < a + n) :
    (f m = true → ∃ t, turnIn (spansOf f a n) m = some t ∧ RunTo f (a + n) m t) ∧ (f m = false → turnIn (spansOf f a n) m = none) := by
  obtain ⟨i1, i2, i3, i4⟩ := spI f a n
  unfold spansOf
  generalize spSt f a n = st at *
  obtain ⟨l, fr, o⟩ := st
  dsimp only at i1 i2 i3 i4 ⊢
  have inl : ∀ t, turnIn l m = some t → RunTo f (a + n) m t := fun t ht => by
    obtain ⟨t1, t2, t3, t4⟩ := i3 m t h0 h1 ht
    exact ⟨t1, by omega, t3, fun _ => t4⟩
  cases o with
  | true =>
    obtain ⟨r1, r2, r3⟩ := i1 rfl
    rw [if_pos rfl, turnIn_append]
    have one : turnIn [(fr, a + (n : Int) - 1)] m = if fr ≤ m ∧ m ≤ a + n - 1 then some (a + (n : Int) - 1) else none := by rw [turnIn_cons]; rfl
    cases hl : turnIn l m with
    | some t =>
      have hr := inl t hl
      refine ⟨fun _ => ⟨t, by rw [Option.some_or], hr⟩, fun hm => ?_⟩
      rw [hr.2.2.1 m (Int.le_refl _) hr.1] at hm; cases hm
    | none =>
      rw [Option.none_or, one]
      refine ⟨fun hm => ?_, fun hm => ?_⟩
      · have := (i4 m h0 h1 hl hm).2
        refine ⟨a + n - 1, if_pos (by omega), by omega, by omega, fun x x1 x2 => r3 x (by omega) (by omega), fun h => by omega⟩
      · by_cases hc : fr ≤ m
        · rw [r3 m hc h1] at hm; cases hm
        · rw [if_neg (by omega)]
  | false =>
    rw [if_neg (by decide)]
    cases hl : turnIn l m with
    | some t =>
      have hr := inl t hl
      refine ⟨fun _ => ⟨t, rfl, hr⟩, fun hm => ?_⟩
      rw [hr.2.2.1 m (Int.le_refl _) hr.1] at hm; cases hm
    | none =>
      refine ⟨fun hm => ?_, fun _ => rfl⟩
      have := (i4 m h0 h1 hl hm).1; cases this
theorem RunTo.le {f g : Int → Bool} {e m t u : Int} (h : RunTo f e m t) (k : RunTo g e m u) (hfg : ∀ x, g x = true → f x = true) : u ≤ t := by
  obtain ⟨h1, h2, h3, h4⟩ := h
  obtain ⟨k1, k2, k3, k4⟩ := k
  by_cases hc : t < u
  · have := h4 (by omega)
    rw [hfg _ (k3 (t + 1) (by omega) (by omega))] at this; cases this
  · omega
theorem fitB_one (s : Sd) (p : Int) (pd : Int → Bool) (m : Int) : fitB s [p] pd m = pd (st s m p.toNat) := by simp [fitB]
section
variable {s : Sd}
/-- until when one can stay -/
theorem turn_in (ok : Ok s) {x : Int} (hx : 0 ≤ x ∧ x < s.floors.length) {m : Int} (hm : inDay s m = true) :
    (st s m x.toNat = 0 → errTurn s x m = 0 ∧ RunTo (fun y => st s y x.toNat == 0) (lastM s.table + 1) m (turnV s x m)) ∧ (st s m x.toNat ≠ 0 → errTurn s x m = 6) := by
  obtain ⟨f0, f1, f2⟩ := firstM_lt ok.table
  obtain ⟨m0, m1⟩ : firstM s.table ≤ m ∧ m ≤ lastM s.table := inB_true.1 hm
  have hd : firstM s.table + (dayN s : Int) = lastM s.table + 1 := by unfold dayN; omega
  have k := turn_run (dryB s [x]) (firstM s.table) (dayN s) m m0 (by omega)
  rw [hd] at k
  have e : dryB s [x] = fun y => st s y x.toNat == 0 := by funext y; unfold dryB; rw [fitB_one]
  unfold errTurn turnV drySpans
  rw [if_pos (errFor_in ok hx), if_pos hm, if_pos (errFor_in ok hx), if_pos hm]
  rw [e] at k ⊢
  refine ⟨fun h => ?_, fun h => ?_⟩
  · obtain ⟨t, ht, hr⟩ := k.1 (by simp [h])
    rw [ht]
    exact ⟨rfl, hr⟩
  · rw [k.2 (by simp [h])]
end

section
variable {s : Sd} {may : Nat → Nat → Bool}
theorem wayAt_nat (ws : Ways) (t : Nat) : wayAt ws (t : Int) = ws[t]?.getD none := rfl
/-- which places are reached -/
abbrev Got (ws : Ways) (t : Nat) : Prop := ∃ l, ws[t]? = some (some l)
theorem leadW_got {way : List Int} {nS nF : Nat} (st : Ways × List Int) (x : Lead nS nF) (t : Nat) (h : Got st.1 t) : Got (leadW may way st x).1 t := by
  unfold leadW
  split
  · next hc =>
    obtain ⟨l, hl⟩ := h
    by_cases e : x.1.2 = t
    · rw [e] at hc; rw [hl] at hc; exact absurd hc.1 (by simp)
    · exact ⟨l, by show (st.1.set _ _)[t]? = _; rw [List.getElem?_set_ne e]; exact hl⟩
  · exact h
theorem leadW_que {way : List Int} {nS nF : Nat} (st : Ways × List Int) (x : Lead nS nF) (t : Nat) (h : (t : Int) ∈ st.2) : (t : Int) ∈ (leadW may way st x).2 := by
  unfold leadW
  split
  · exact List.mem_append_left _ h
  · exact h
theorem leadW_new' {way : List Int} {nS nF : Nat} (st : Ways × List Int) (x : Lead nS nF) (t : Nat) (h : Got (leadW may way st x).1 t) : Got st.1 t ∨ (t : Int) ∈ (leadW may way st x).2 ∧ may x.1.1 t = true := by
  unfold leadW at h ⊢
  split at h
  · next hc =>
    rw [if_pos hc]
    by_cases e : x.1.2 = t
    · exact Or.inr ⟨by rw [← e]; simp, by rw [← e]; exact hc.2⟩
    · obtain ⟨l, hl⟩ := h
      rw [show (st.1.set x.1.2 (some (way ++ [(x.1.1 : Int)])))[t]? = st.1[t]? from List.getElem?_set_ne e] at hl
      exact Or.inl ⟨l, hl⟩
  · exact Or.inl h
theorem leadW_done {way : List Int} {nS nF : Nat} (st : Ways × List Int) (x : Lead nS nF) (h8 : nF ≤ 8) (hl : st.1.length = 8) (hm : may x.1.1 x.1.2 = true) : Got (leadW may way st x).1 x.1.2 := by
  have hx := x.2.2
  have hlt : x.1.2 < st.1.length := by omega
  unfold leadW
  split
  · exact ⟨_, by show (st.1.set _ _)[_]? = _; rw [List.getElem?_set_self hlt]⟩
  · next hc =>
    cases e : st.1[x.1.2] with
    | none => exact absurd ⟨by rw [List.getElem?_eq_getElem hlt, e], hm⟩ hc
    | some l => exact ⟨l, by rw [List.getElem?_eq_getElem hlt, e]⟩
theorem leadW_len {way : List Int} {nS nF : Nat} (st : Ways × List Int) (x : Lead nS nF) : (leadW may way st x).1.length = st.1.length := by
  unfold leadW
  split
  · simp
  · rfl
/-- behind a row of leads -/
theorem led_all {way : List Int} {nS nF : Nat} (h8 : nF ≤ 8) : ∀ (l : List (Lead nS nF)) (st : Ways × List Int), st.1.length = 8 →
    (l.foldl (leadW may way) st).1.length = 8 ∧ (∀ t, Got st.1 t → Got (l.foldl (leadW may way) st).1 t) ∧ (∀ t : Nat, (t : Int) ∈ st.2 → (t : Int) ∈ (l.foldl (leadW may way) st).2) ∧
    (∀ t, Got (l.foldl (leadW may way) st).1 t → Got st.1 t ∨ (t : Int) ∈ (l.foldl (leadW may way) st).2 ∧ ∃ i, may i t = true) ∧ (∀ x ∈ l, may x.1.1 x.1.2 = true → Got (l.foldl (leadW may way) st).1 x.1.2)
  | [], st, hl => ⟨hl, fun _ h => h, fun _ h => h, fun _ h => Or.inl h, fun x hx => by simp at hx⟩
  | y :: r, st, hl => by
    obtain ⟨h1, h2, h3, h4, h5⟩ := led_all (way := way) h8 r (leadW may way st y) (by rw [leadW_len]; exact hl)
    rw [List.foldl_cons]
    refine ⟨h1, fun t h => h2 t (leadW_got st y t h), fun t h => h3 t (leadW_que st y t h), fun t h => ?_, fun x hx hm => ?_⟩
    · rcases h4 t h with h | h
      · rcases leadW_new' st y t h with h | ⟨h, hm⟩
        · exact Or.inl h
        · exact Or.inr ⟨h3 t h, y.1.1, hm⟩
      · exact Or.inr h
    · rcases List.mem_cons.1 hx with rfl | hx
      · exact h2 _ (leadW_done st x h8 hl hm)
      · exact h5 x hx hm

/-- closed: what is led to from the Sea, or from places that were reached and are done, is reached -/
structure Shut (s : Sd) (may : Nat → Nat → Bool) (st : Ways × List Int) : Prop where
  len : st.1.length = 8
  sea : ∀ x ∈ leads s.sills s.floors.length (-1) s.sills.length, may x.1.1 x.1.2 = true → Got st.1 x.1.2
  on : ∀ f : Nat, Got st.1 f → (f : Int) ∈ st.2 ∨ ∀ x ∈ leads s.sills s.floors.length f s.sills.length, may x.1.1 x.1.2 = true → Got st.1 x.1.2
  may' : ∀ t, Got st.1 t → ∃ i, may i t = true
  few : st.2.length + nones st.1 ≤ 8
  nat : ∀ y ∈ st.2, 0 ≤ y ∧ y < s.floors.length
theorem Shut.start (h8 : s.floors.length ≤ 8) : Shut s may (ledW s may (-1) [] (List.replicate 8 none, [])) := by
  obtain ⟨h1, h2, h3, h4, h5⟩ := led_all (way := []) (may := may) h8 (leads s.sills s.floors.length (-1) s.sills.length) (List.replicate 8 none, []) rfl
  have no : ∀ t, ¬ Got (List.replicate 8 (none : Option (List Int))) t := fun t ⟨l, hl⟩ => by
    rw [List.getElem?_replicate] at hl
    split at hl <;> cases hl
  obtain ⟨k1, k2⟩ := foldW_keeps (may := may) (way := []) (leads s.sills s.floors.length (-1) s.sills.length) (List.replicate 8 none, [])
  refine ⟨h1, h5, fun f hf => ?_, fun t ht => ?_, ?_, fun y hy => ?_⟩
  · rcases h4 f hf with h | h
    · exact absurd h (no f)
    · exact Or.inl h.1
  · rcases h4 t ht with h | h
    · exact absurd h (no t)
    · exact h.2
  · unfold ledW
    rw [k1]
    decide
  · rcases k2 y hy with h | h
    · simp at h
    · exact h
theorem Shut.next (h8 : s.floors.length ≤ 8) {ws : Ways} {x : Int} {q : List Int} (h : Shut s may (ws, x :: q)) (way : List Int) : Shut s may (ledW s may x way (ws, q)) ∧ (ledW s may x way (ws, q)).2.length + nones (ledW s may x way (ws, q)).1 + 1 = (x :: q).length + nones ws := by
  obtain ⟨h1, h2, h3, h4, h5⟩ := led_all (way := way) (may := may) h8 (leads s.sills s.floors.length x s.sills.length) (ws, q) h.len
  obtain ⟨k1, k2⟩ := foldW_keeps (may := may) (way := way) (leads s.sills s.floors.length x s.sills.length) (ws, q)
  have hc : (ledW s may x way (ws, q)).2.length + nones (ledW s may x way (ws, q)).1 + 1 = (x :: q).length + nones ws := by
    unfold ledW
    rw [k1]
    simp only [List.length_cons]; omega
  have hx := h.nat x (by simp)
  refine ⟨⟨h1, fun y hy hm => h2 _ (h.sea y hy hm), fun f hf => ?_, fun t ht => ?_, ?_, fun y hy => ?_⟩, hc⟩
  · by_cases e : (f : Int) = x
    · subst e
      exact Or.inr (fun y hy hm => h5 y hy hm)
    · rcases h4 f hf with hg | hg
      · rcases h.on f hg with hq | hq
        · rcases List.mem_cons.1 hq with h' | h'
          · exact absurd h' e
          · exact Or.inl (h3 f h')
        · exact Or.inr (fun y hy hm => h2 _ (hq y hy hm))
      · exact Or.inl hg.1
  · rcases h4 t ht with hg | hg
    · exact h.may' t hg
    · exact hg.2
  · have := h.few
    simp only at this
    omega
  · rcases k2 y hy with hg | hg
    · exact h.nat y (by simp; exact Or.inr hg)
    · exact hg
theorem goW_shut (h8 : s.floors.length ≤ 8) : ∀ n (st : Ways × List Int), Shut s may st → st.2.length + nones st.1 ≤ n → Shut s may (goW s may n st) ∧ (goW s may n st).2 = []
  | 0, (ws, q), h, hn => by
    have : q = [] := List.length_eq_zero_iff.1 (by simp only at hn; omega)
    subst this
    exact ⟨h, rfl⟩
  | n + 1, (ws, []), h, _ => ⟨h, rfl⟩
  | n + 1, (ws, x :: q), h, hn => by
    obtain ⟨k1, k2⟩ := h.next h8 ((wayAt ws x).getD [])
    refine goW_shut h8 n _ k1 ?_
    simp only at hn
    omega
theorem waysOf_shut (h8 : s.floors.length ≤ 8) : (∀ x ∈ leads s.sills s.floors.length (-1) s.sills.length, may x.1.1 x.1.2 = true → Got (waysOf s may) x.1.2) ∧
    (∀ f : Nat, Got (waysOf s may) f → ∀ x ∈ leads s.sills s.floors.length f s.sills.length, may x.1.1 x.1.2 = true → Got (waysOf s may) x.1.2) ∧ (∀ t, Got (waysOf s may) t → ∃ i, may i t = true) := by
  obtain ⟨h, hq⟩ := goW_shut (s := s) (may := may) h8 8 _ (Shut.start h8) (Shut.start h8).few
  refine ⟨h.sea, fun f hf => ?_, h.may'⟩
  rcases h.on f hf with hm | hm
  · rw [hq] at hm; simp at hm
  · exact hm
end

section
variable {s : Sd}
/-- no lesser than the gate of q at places that are not reached without going over q -/
def Beh (U : Nat → Prop) (q : Nat) (g : List Int) : Prop := ∀ x, x < g.length → U x → g[q]?.getD 0 ≤ g[x]?.getD 0
theorem Beh.set {U : Nat → Prop} {q : Nat} {g : List Int} (h : Beh U q g) (t : Nat) (c : Int) (hc : t ≠ q → U t → g[q]?.getD 0 ≤ c) : Beh U q (g.set t (min (g[t]?.getD 0) c)) := by
  intro x hx hu
  rw [List.length_set] at hx
  have k := h x hx hu
  rw [List.getElem?_set, List.getElem?_set]
  by_cases e1 : t = q
  · subst e1
    by_cases e2 : t = x
    · subst e2; exact Int.le_refl _
    · rw [if_pos rfl, if_neg e2]
      by_cases hl : t < g.length
      · rw [if_pos hl, Option.getD_some]; omega
      · rw [if_neg hl]
        rw [List.getElem?_eq_none (by omega)] at k
        exact k
  · rw [if_neg e1]
    by_cases e2 : t = x
    · subst e2
      have := hc e1 hu
      rw [if_pos rfl, if_pos hx, Option.getD_some]; omega
    · rw [if_neg e2]; exact k
theorem beh_low1 {U : Nat → Prop} {q : Nat} : ∀ (l : List (Lead s.sills.length s.floors.length)) (g : List Int), (∀ x ∈ l, x.1.2 ≠ q → ¬ U x.1.2) → Beh U q g → Beh U q (l.foldl (low1 s) g)
  | [], _, _, h => h
  | x :: r, g, hu, h => beh_low1 r (low1 s g x) (fun y hy => hu y (by simp [hy])) (h.set _ _ (fun ht hU => absurd hU (hu x (by simp) ht)))
theorem beh_low2 {U : Nat → Prop} {q f : Nat} (hf : f < 8) : ∀ (l : List (Lead s.sills.length s.floors.length)) (g : List Int), g.length = 8 → (∀ x ∈ l, x.1.2 ≠ q → U x.1.2 → U f) → Beh U q g → Beh U q (l.foldl (low2 s f) g)
  | [], _, _, _, h => h
  | x :: r, g, hl, hu, h => beh_low2 hf r (low2 s f g x) (by simp [low2, hl]) (fun y hy => hu y (by simp [hy])) (h.set _ _ (fun ht hU => by
      have := h f (by omega) (hu x (by simp) ht hU)
      rw [grt2]; omega))
theorem beh_froms {U : Nat → Prop} {q : Nat} : ∀ (l : List Nat) (g : List Int), g.length = 8 → (∀ f ∈ l, f < 8 ∧ ∀ x ∈ leads s.sills s.floors.length f s.sills.length, x.1.2 ≠ q → U x.1.2 → U f) → Beh U q g → Beh U q (l.foldl (lowFrom s) g)
  | [], _, _, _, h => h
  | f :: r, g, hl, hu, h => beh_froms r (lowFrom s g f) (low2_len s f _ _ hl) (fun y hy => hu y (by simp [hy])) (beh_low2 (hu f (by simp)).1 _ _ hl (hu f (by simp)).2 h)
theorem behind_gts (h8 : s.floors.length ≤ 8) (q p : Nat) (hp : p < 8) (hn : ¬ Got (waysOf s (mayHold [] [(q : Int)])) p) : gateOf s q ≤ gateOf s p := by
  obtain ⟨w1, w2, w3⟩ := waysOf_shut (s := s) (may := mayHold [] [(q : Int)]) h8
  have may : ∀ i t, t ≠ q → mayHold [] [(q : Int)] i t = true := fun i t h => by simp [mayHold]; omega
  generalize hU : waysOf s (mayHold [] [(q : Int)]) = ws at *
  have key : ∀ n (g : List Int), g.length = 8 → Beh (fun x => ¬ Got ws x) q g → Beh (fun x => ¬ Got ws x) q (iterG s n g) ∧ (iterG s n g).length = 8 := by
    intro n
    induction n with
    | zero => exact fun g hl h => ⟨h, hl⟩
    | succ n ih =>
      intro g hl h
      refine ih (lowered s g) (lowered_len s g hl) ?_
      unfold lowered
      refine beh_froms _ _ (low1_len s _ _ hl) (fun f hf => ?_) (beh_low1 _ _ (fun x hx ht hu => hu (w1 x hx (may _ _ ht))) h)
      rw [List.mem_range] at hf
      exact ⟨by omega, fun x hx ht hu hf' => hu (w2 f hf' x hx (may _ _ ht))⟩
  have h9 := fun n => key n top rfl (fun x hx _ => by
    unfold top at *
    rw [List.length_replicate] at hx
    rw [List.getElem?_replicate, List.getElem?_replicate, if_pos hx]
    split <;> simp)
  unfold gateOf gts
  rw [fixG_iter]
  exact (h9 _).1 p (by rw [(h9 _).2]; exact hp) hn
theorem st_rng (s : Sd) (m : Int) (p : Nat) : st s m p = 0 ∨ st s m p = 1 ∨ st s m p = 2 := by
  unfold st
  repeat' split
  all_goals simp
theorem not_got {may : Nat → Nat → Bool} (h8 : s.floors.length ≤ 8) (t : Nat) (h : ∀ i, may i t = false) : ¬ Got (waysOf s may) t := fun hg => by
  obtain ⟨i, hi⟩ := (waysOf_shut (s := s) (may := may) h8).2.2 t hg
  rw [h i] at hi; cases hi
theorem way_none {ws : Ways} {t : Nat} : wayAt ws (t : Int) = none ↔ ¬ Got ws t := by
  rw [wayAt_nat]
  constructor
  · rintro h ⟨l, hl⟩; rw [hl] at h; cases h
  · intro h
    cases e : ws[t]? with
    | none => rfl
    | some o =>
      cases o with
      | none => rfl
      | some l => exact absurd ⟨l, e⟩ h
/-- a bank of one place alone -/
theorem hold_one (ok : Ok s) {p q : Nat} (hp : p < s.floors.length) (hq : q < s.floors.length) :
    (errHold s p [] [(q : Int)] = 0 ∨ errHold s p [] [(q : Int)] = 8) ∧ (p = q → errHold s p [] [(q : Int)] = 0) ∧
    (errHold s p [] [(q : Int)] = 0 → holdV s p [] [(q : Int)] = s.floors[q] ∧ gateOf s q ≤ gateOf s p) := by
  have h8 := ok.fl1
  have e : errHold s p [] [(q : Int)] = if wayAt (waysOf s (mayHold [] [(q : Int)])) (p : Int) = none then 0 else 8 := by
    unfold errHold
    rw [if_pos (errFor_in ok (by omega)), if_pos ⟨by simp, by
      rw [List.all_eq_true]; intro y hy
      simp only [List.mem_singleton] at hy
      subst hy
      exact inB_true.2 (by omega)⟩, if_pos ⟨by simp, by simp⟩]
    simp
  have hno : ∀ i, mayHold [] [(q : Int)] i q = false := fun i => by simp [mayHold]
  refine ⟨?_, fun h => ?_, fun h => ?_⟩
  · rw [e]; split
    · exact Or.inl rfl
    · exact Or.inr rfl
  · subst h
    rw [e, if_pos (way_none.2 (not_got h8 _ hno))]
  · have hn : wayAt (waysOf s (mayHold [] [(q : Int)])) (p : Int) = none := by
      rw [e] at h
      split at h
      · assumption
      · cases h
    refine ⟨?_, behind_gts h8 q p (by omega) (way_none.1 hn)⟩
    have hf := ok.floors s.floors[q] (List.getElem_mem hq)
    unfold holdV
    rw [if_pos h]
    simp only [leastF, leastS, List.foldl_cons, List.foldl_nil, Int.toNat_natCast, List.getElem?_eq_getElem hq, Option.getD_some]
    omega
theorem behind_st {p q : Nat} (h : gateOf s q ≤ gateOf s p) (m : Int) : st s m p ≤ st s m q := by
  unfold st
  repeat' split
  all_goals omega
theorem behind_gate (ok : Ok s) {p q : Nat} (hp : p < s.floors.length) (hq : q < s.floors.length) (h : gateOf s q ≤ gateOf s p) :
    (errGate s p = 0 ∨ errGate s p = 6) ∧ (errGate s p = 0 → errGate s q = 0 ∧ gateV s q ≤ gateV s p) := by
  rw [errGate_in ok (x := (p : Int)) (by omega), errGate_in ok (x := (q : Int)) (by omega), gateV_in ok (x := (p : Int)) (by omega), gateV_in ok (x := (q : Int)) (by omega)]
  simp only [Int.toNat_natCast]
  by_cases c : gateOf s p < 1050
  · have c' : gateOf s q < 1050 := by omega
    rw [if_pos c, if_pos c', if_pos c, if_pos c']
    exact ⟨Or.inl rfl, fun _ => ⟨rfl, h⟩⟩
  · rw [if_neg c]
    exact ⟨Or.inr rfl, fun h => by cases h⟩
theorem behind_turn (ok : Ok s) {p q : Nat} (hp : p < s.floors.length) (hq : q < s.floors.length) (h : gateOf s q ≤ gateOf s p) {m : Int} (hm : inDay s m = true) (hd : st s m q = 0) :
    errTurn s p m = 0 ∧ errTurn s q m = 0 ∧ turnV s q m ≤ turnV s p m := by
  have hp0 : st s m p = 0 := by
    have := behind_st h m
    rcases st_rng s m p with h | h | h <;> omega
  obtain ⟨a1, a2⟩ := (turn_in ok (x := (p : Int)) (by omega) hm).1 hp0
  obtain ⟨b1, b2⟩ := (turn_in ok (x := (q : Int)) (by omega) hm).1 hd
  refine ⟨a1, b1, a2.le b2 (fun x hx => ?_)⟩
  simp only [Int.toNat_natCast, beq_iff_eq] at hx ⊢
  have := behind_st h x
  rcases st_rng s x p with h | h | h <;> omega
theorem here_in (_ok : Ok s) {m : Int} (_hm : inDay s m = true) {p : Nat} (hp : p < s.floors.length) (hA : errAt s m = 0) : errHere s m p = 0 ∧ atV s m p = st s m p := by
  have e : errHere s m p = 0 := by
    unfold errHere
    rw [if_pos hA, show isPl s (p : Int) = true from inB_true.2 (by omega)]; rfl
  refine ⟨e, ?_⟩
  unfold atV
  rw [if_pos e]; rfl
end
end
end Go.Proofs.Ytcljkkojeleakaa
/- Plain facts: a bank holds just if the reference's crests without it are never; and how high it is. -/
namespace Go.Proofs.Ytcljkkojeleakaa
section
open Go.RowKit
variable {s : Sd} {ss ps : List Int}
/-- what holds of what is led to from the Sea, and from where it holds, holds of all that is reached -/
theorem led_inv {P : Nat → Prop} {may : Nat → Nat → Bool} {way : List Int} {nS nF : Nat} : ∀ (l : List (Lead nS nF)) (st : Ways × List Int), (∀ x ∈ l, may x.1.1 x.1.2 = true → P x.1.2) → (∀ t, Got st.1 t → P t) → (∀ y ∈ st.2, ∃ f : Nat, y = f ∧ P f) →
    (∀ t, Got (l.foldl (leadW may way) st).1 t → P t) ∧ (∀ y ∈ (l.foldl (leadW may way) st).2, ∃ f : Nat, y = f ∧ P f)
  | [], st, _, h1, h2 => ⟨h1, h2⟩
  | x :: r, st, h, h1, h2 => by
    rw [List.foldl_cons]
    refine led_inv r _ (fun y hy => h y (by simp [hy])) ?_ ?_
    · intro t ht
      unfold leadW at ht
      split at ht
      · next hc =>
        by_cases e : x.1.2 = t
        · rw [← e]; exact h x (by simp) hc.2
        · obtain ⟨l, hl⟩ := ht
          rw [show (st.1.set x.1.2 (some (way ++ [(x.1.1 : Int)])))[t]? = st.1[t]? from List.getElem?_set_ne e] at hl
          exact h1 t ⟨l, hl⟩
      · exact h1 t ht
    · intro y hy
      unfold leadW at hy
      split at hy
      · next hc =>
        rcases List.mem_append.1 hy with hy | hy
        · exact h2 y hy
        · rw [List.mem_singleton] at hy
          exact ⟨x.1.2, hy, h x (by simp) hc.2⟩
      · exact h2 y hy
theorem goW_inv {P : Nat → Prop} {may : Nat → Nat → Bool} (hp : ∀ f : Nat, P f → ∀ x ∈ leads s.sills s.floors.length f s.sills.length, may x.1.1 x.1.2 = true → P x.1.2) : ∀ n (st : Ways × List Int), (∀ t, Got st.1 t → P t) → (∀ y ∈ st.2, ∃ f : Nat, y = f ∧ P f) → ∀ t, Got (goW s may n st).1 t → P t
  | 0, st, h1, _ => h1
  | _ + 1, (ws, []), h1, _ => h1
  | n + 1, (ws, x :: q), h1, h2 => by
    obtain ⟨f, rfl, hf⟩ := h2 x (by simp)
    obtain ⟨k1, k2⟩ := led_inv (way := (wayAt ws f).getD []) (leads s.sills s.floors.length f s.sills.length) (ws, q) (hp f hf) h1 (fun y hy => h2 y (by simp [hy]))
    exact goW_inv hp n _ k1 k2
theorem ways_inv {P : Nat → Prop} {may : Nat → Nat → Bool} (hs : ∀ x ∈ leads s.sills s.floors.length (-1) s.sills.length, may x.1.1 x.1.2 = true → P x.1.2)
    (hp : ∀ f : Nat, P f → ∀ x ∈ leads s.sills s.floors.length f s.sills.length, may x.1.1 x.1.2 = true → P x.1.2) : ∀ t, Got (waysOf s may) t → P t := by
  have no : ∀ t, ¬ Got (List.replicate 8 (none : Option (List Int))) t := fun t ⟨l, hl⟩ => by
    rw [List.getElem?_replicate] at hl
    split at hl <;> cases hl
  obtain ⟨k1, k2⟩ := led_inv (way := []) (leads s.sills s.floors.length (-1) s.sills.length) (List.replicate 8 none, []) hs (fun t h => absurd h (no t)) (by simp)
  exact goW_inv hp 8 _ k1 k2

/-- a lead is an end of its sill, from the other -/
theorem lead_ends {f : Int} {x : Lead s.sills.length s.floors.length} (h : x ∈ leads s.sills s.floors.length f s.sills.length) :
    ((f, (x.1.2 : Int)) = (s.sills[x.1.1].1, s.sills[x.1.1].2.1) ∨ (f, (x.1.2 : Int)) = (s.sills[x.1.1].2.1, s.sills[x.1.1].1)) := by
  unfold leads at h
  rw [List.mem_filterMap] at h
  obtain ⟨i, hi, h⟩ := h
  unfold lead1 at h
  split at h
  · next hc =>
    simp only [Option.some.injEq] at h
    subst h
    have hil := hc.1
    have h0 := hc.2.1
    simp only [List.getElem?_eq_getElem hil, Option.getD_some] at h0 ⊢
    unfold other at h0 ⊢
    by_cases e1 : f = s.sills[i].1
    · left
      subst e1
      simp only [beq_self_eq_true, cond_true] at h0 ⊢
      rw [Int.toNat_of_nonneg h0]
    · by_cases e2 : f = s.sills[i].2.1
      · right
        have e1' : (f == s.sills[i].1) = false := beq_eq_false_iff_ne.2 e1
        have e2' : (f == s.sills[i].2.1) = true := by rw [e2]; exact beq_self_eq_true _
        simp only [e1', e2', cond_false, cond_true] at h0 ⊢
        exact Prod.ext e2 (Int.toNat_of_nonneg h0)
      · have e1' : (f == s.sills[i].1) = false := beq_eq_false_iff_ne.2 e1
        have e2' : (f == s.sills[i].2.1) = false := beq_eq_false_iff_ne.2 e2
        simp only [e1', e2', cond_false] at h0
        omega
  · cases h
theorem lead_of (ok : Ok s) {i : Nat} (hi : i < s.sills.length) {a b : Int} (hab : (a, b) = (s.sills[i].1, s.sills[i].2.1) ∨ (a, b) = (s.sills[i].2.1, s.sills[i].1)) (hb : 0 ≤ b) :
    ∃ x ∈ leads s.sills s.floors.length a s.sills.length, x.1.1 = i ∧ (x.1.2 : Int) = b := by
  obtain ⟨e1, e2, e3⟩ := EndOk.of ok (List.getElem_mem hi)
  have ho : other s.sills[i] a = b ∧ b < s.floors.length := by
    unfold other
    rcases hab with hab | hab
    · simp only [Prod.mk.injEq] at hab
      obtain ⟨rfl, rfl⟩ := hab
      simp only [beq_self_eq_true, cond_true, true_and]
      omega
    · simp only [Prod.mk.injEq] at hab
      obtain ⟨rfl, rfl⟩ := hab
      rw [beq_eq_false_iff_ne.2 (Ne.symm e3)]
      simp only [beq_self_eq_true, cond_true, cond_false, true_and]
      omega
  refine ⟨⟨(i, b.toNat), hi, by omega⟩, ?_, rfl, by simp only []; omega⟩
  unfold leads
  rw [List.mem_filterMap]
  refine ⟨i, by simpa using hi, ?_⟩
  rw [lead1_some _ _ _ _ hi (by rw [ho.1]; exact hb) (by rw [ho.1]; exact ho.2)]
  simp [ho.1]

/-- without a bank, what is reached has a crest, and what isn't has none -/
theorem low_got (ok : Ok s) (p : Nat) (hp : p < s.floors.length) : (lowR s ss ps)[p]?.getD 0 = 5000 ↔ ¬ Got (waysOf s (mayHold ss ps)) p := by
  constructor
  · intro h hg
    have hc := low_closed (ss := ss) (ps := ps) (c := 4999) ok (by decide)
    have key : ∀ t, Got (waysOf s (mayHold ss ps)) t → t < s.floors.length ∧ (lowR s ss ps)[t]?.getD 0 ≤ 4999 := by
      have one : ∀ (f : Int) (x : Lead s.sills.length s.floors.length), x ∈ leads s.sills s.floors.length f s.sills.length → mayHold ss ps x.1.1 x.1.2 = true → (f = -1 ∨ (lowR s ss ps)[f.toNat]?.getD 0 ≤ 4999) → x.1.2 < s.floors.length ∧ (lowR s ss ps)[x.1.2]?.getD 0 ≤ 4999 := by
        intro f x hx hm hf
        refine ⟨x.2.2, ?_⟩
        obtain ⟨c1, c2⟩ := hc x.1.1 x.2.1 x.2.1
        unfold mayHold at hm
        simp only [Bool.and_eq_true, decide_eq_true_eq] at hm
        have hh := ok.heights _ (List.getElem_mem x.2.1)
        have hfl : s.floors[x.1.2]?.getD 0 ≤ 999 := by
          rw [List.getElem?_eq_getElem x.2.2]
          exact (ok.floors _ (List.getElem_mem _)).2
        rcases lead_ends hx with he | he
        · simp only [Prod.mk.injEq] at he
          rw [← he.1, ← he.2] at c1
          have := c1 (by omega) hm.1 hm.2 (by omega) (by rw [Int.toNat_natCast]; omega) hf
          rwa [Int.toNat_natCast] at this
        · simp only [Prod.mk.injEq] at he
          rw [← he.1, ← he.2] at c2
          have := c2 (by omega) hm.1 hm.2 (by omega) (by rw [Int.toNat_natCast]; omega) hf
          rwa [Int.toNat_natCast] at this
      exact ways_inv (fun x hx hm => one (-1) x hx hm (.inl rfl)) (fun f hf x hx hm => one f x hx hm (.inr (by rw [Int.toNat_natCast]; exact hf.2)))
    have := (key p hg).2
    omega
  · intro hg
    obtain ⟨w1, w2, -⟩ := waysOf_shut (s := s) (may := mayHold ss ps) ok.fl1
    generalize waysOf s (mayHold ss ps) = ws at *
    have key := rounds_inv (s := s) (ss := ss) (ps := ps) (fun g => ∀ p, p < s.floors.length → ¬ Got ws p → g[p]?.getD 0 = 5000)
      (fun p hp _ => by rw [List.getElem?_replicate, if_pos hp]; rfl)
      (fun g i hi a b hl hab hI p hp hn => by
        unfold relB
        split
        · next hc =>
          have hbl : b.toNat < g.length := by
            obtain ⟨e1, e2, -⟩ := EndOk.of ok (List.getElem_mem hi)
            rcases hab with h | h <;> simp only [Prod.mk.injEq] at h <;> omega
          rw [set_get g _ _ _ hbl]
          split
          · next e =>
            obtain ⟨x, hx, hx1, hx2⟩ := lead_of ok hi hab hc.1
            have hx3 : x.1.2 = p := by omega
            have hm : mayHold ss ps x.1.1 x.1.2 = true := by
              unfold mayHold
              rw [hx1, hx2]
              simp only [Bool.and_eq_true, decide_eq_true_eq]
              exact ⟨hc.2.1, hc.2.2⟩
            have h0 := hI p hp hn
            have hpb : b.toNat = p := by omega
            rw [hpb, h0]
            have : 5000 ≤ ovr s g a b s.sills[i].2.2 := by
              have ha : a = -1 ∨ 0 ≤ a ∧ a < s.floors.length := by
                obtain ⟨e1, e2, -⟩ := EndOk.of ok (List.getElem_mem hi)
                rcases hab with h | h <;> simp only [Prod.mk.injEq] at h <;> omega
              rcases ha with rfl | ⟨a0, a1⟩
              · exact absurd (by have := w1 x hx hm; rwa [hx3] at this) hn
              · obtain ⟨an, rfl⟩ := Int.eq_ofNat_of_zero_le a0
                by_cases hga : Got ws an
                · exact absurd (by have := w2 an hga x hx hm; rwa [hx3] at this) hn
                · have := hI an (by omega) hga
                  unfold ovr
                  rw [if_pos (by omega), Int.toNat_natCast, this]
                  omega
            omega
          · exact hI p hp hn
        · exact hI p hp hn) s.floors.length
    exact key p hp hg

/-- from a higher start -/
theorem leastF_min (h a : Int) : ∀ l, leastF s (min a h) l = min a (leastF s h l)
  | [] => rfl
  | x :: l => by
    show leastF s (min (min a h) (s.floors[x.toNat]?.getD 0)) l = min a (leastF s (min h (s.floors[x.toNat]?.getD 0)) l)
    rw [← leastF_min, show min (min a h) (s.floors[x.toNat]?.getD 0) = min a (min h (s.floors[x.toNat]?.getD 0)) by omega]
theorem leastS_min (h a : Int) : ∀ l, leastS s (min a h) l = min a (leastS s h l)
  | [] => rfl
  | x :: l => by
    show leastS s (min (min a h) (s.sills[x.toNat]?.getD (0, 0, 0)).2.2) l = min a (leastS s (min h (s.sills[x.toNat]?.getD (0, 0, 0)).2.2) l)
    rw [← leastS_min, show min (min a h) (s.sills[x.toNat]?.getD (0, 0, 0)).2.2 = min a (min h (s.sills[x.toNat]?.getD (0, 0, 0)).2.2) by omega]
theorem leastF_le (h : Int) : ∀ l, leastF s h l ≤ h
  | [] => Int.le_refl _
  | x :: l => by
    show leastF s (min h (s.floors[x.toNat]?.getD 0)) l ≤ h
    have := leastF_le (min h (s.floors[x.toNat]?.getD 0)) l
    omega
theorem leastS_le (h : Int) : ∀ l, leastS s h l ≤ h
  | [] => Int.le_refl _
  | x :: l => by
    show leastS s (min h (s.sills[x.toNat]?.getD (0, 0, 0)).2.2) l ≤ h
    have := leastS_le (min h (s.sills[x.toNat]?.getD (0, 0, 0)).2.2) l
    omega
/-- what the reference's Hold reckons: never, or the least of the bank -/
theorem leastR (ok : Ok s) (hs : ss.all (isSi s) = true) (hp : ps.all (isPl s) = true) : leastF s (leastS s 5000 ss) ps = if ss = [] ∧ ps = [] then 5000 else leastF s (leastS s 999 ss) ps := by
  have e : leastF s (leastS s 999 ss) ps = min 999 (leastF s (leastS s 5000 ss) ps) := by
    rw [← leastF_min, ← leastS_min]
    rfl
  split
  · next h =>
    obtain ⟨rfl, rfl⟩ := h
    rfl
  · next h =>
    rw [e]
    have : leastF s (leastS s 5000 ss) ps ≤ 999 := by
      cases ss with
      | cons i r =>
        have hi : isSi s i = true := by simp at hs; exact hs.1
        obtain ⟨h0, h1⟩ := inB_true.1 hi
        have hl : i.toNat < s.sills.length := by omega
        have hh := ok.heights _ (List.getElem_mem hl)
        have k1 := leastF_le (s := s) (leastS s 5000 (i :: r)) ps
        have k2 : leastS s 5000 (i :: r) = leastS s (min 5000 (s.sills[i.toNat]?.getD (0, 0, 0)).2.2) r := rfl
        have k3 := leastS_le (s := s) (min 5000 (s.sills[i.toNat]?.getD (0, 0, 0)).2.2) r
        rw [List.getElem?_eq_getElem hl, Option.getD_some] at k2 k3
        omega
      | nil =>
        cases ps with
        | nil => exact absurd ⟨rfl, rfl⟩ h
        | cons p r =>
          have hi : isPl s p = true := by simp at hp; exact hp.1
          obtain ⟨h0, h1⟩ := inB_true.1 hi
          have hl : p.toNat < s.floors.length := by omega
          have hh := ok.floors _ (List.getElem_mem hl)
          have k2 : leastF s (leastS s 5000 []) (p :: r) = leastF s (min (leastS s 5000 []) (s.floors[p.toNat]?.getD 0)) r := rfl
          have k3 := leastF_le (s := s) (min (leastS s 5000 []) (s.floors[p.toNat]?.getD 0)) r
          rw [List.getElem?_eq_getElem hl, Option.getD_some] at k2 k3
          omega
    omega
end
end Go.Proofs.Ytcljkkojeleakaa
/- The reference's Hold: what its function returns. -/
namespace Go.Proofs.Ytcljkkojeleakaa
open Go.RowKit Go.Shelf

section
variable {pT pF pS : Option Addr} {cT cF cS : Nat}
set_option maxRecDepth 100000 in
set_option maxHeartbeats 4000000 in
theorem refHold_c (s : Sd) (x : Int) (ss ps : List Int) (p1 p2 : Option Addr) (c1 c2 : Nat) (w : World) (hl : Lists w s pT pF pS cT cF cS) (h1 : Row w p1 1 (ints ss)) (h2 : Row w p2 1 (ints ps)) (l1 : ss.length ≤ 10000) (l2 : ps.length ≤ 10000) :
    Calls Try.prog 34 #[sdVal s pT pF pS cT cF cS, .int .i64 x, .slice p1 ss.length c1, .slice p2 ps.length c2] w fun e w' => e = .returned (.tuple #[.int .i64 (holdV s x ss ps), .int .i64 (errHold s x ss ps)]) ∧ Up w w' := by
  have hml : ∀ k : Nat, k ≤ 10000 → k ≤ maxLen := fun k hk => by simp only [maxLen]; omega
  have M1 := Lib.hid (hml _ l1)
  have M2 := Lib.hid (hml _ l2)
  have HL := Lib.hid hl
  have H1 := Lib.hid h1
  have H2 := Lib.hid h2
  have HV : Hid (errHold s x ss ps ≠ 0 → holdV s x ss ps = 0) := fun h => by unfold holdV; rw [if_neg h]
  clear hl h1 h2 hml
  unfold sdVal
  go_enter Try.func34, Try.ntmps34
  go_wp2_with fail
  have BS : Hid (Blk (w.alloc (.cells #[.slice pT s.table.length cT, .int .i64 s.lo, .int .i64 s.hi, .slice pF s.floors.length cF, .slice pS s.sills.length cS] 37)) w.heap.size (sdCells s pT pF pS cT cF cS) 37) := Lib.hid (Blk.new w (sdCells s pT pF pS cT cF cS) 37)
  have U0 : Hid (Up w (w.alloc (.cells #[.slice pT s.table.length cT, .int .i64 s.lo, .int .i64 s.hi, .slice pF s.floors.length cF, .slice pS s.sills.length cS] 37))) := Lib.hid (by (repeat (first | exact Below.refl _ _ | (with_reducible refine Below.drewN' ?_ _) | (with_reducible refine Below.drew ?_) | (with_reducible refine Below.setCell ?_ (by first | exact Nat.le_refl _ | omega | (with_reducible (repeat (first | refine sz_alloc ?_ | refine sz_setCell ?_ | refine sz_drew ?_ | refine sz_drewN ?_)); first | exact Nat.le_refl _ | omega) | (simp only [World.size_alloc, World.size_setCell, World.size_drew, size_drewN']; omega)) _) | (with_reducible refine Below.alloc ?_ (by first | exact Nat.le_refl _ | omega | (with_reducible (repeat (first | refine sz_alloc ?_ | refine sz_setCell ?_ | refine sz_drew ?_ | refine sz_drewN ?_)); first | exact Nat.le_refl _ | omega) | (simp only [World.size_alloc, World.size_setCell, World.size_drew, size_drewN']; omega)) _) | assumption)))
  generalize (w.alloc (.cells #[.slice pT s.table.length cT, .int .i64 s.lo, .int .i64 s.hi, .slice pF s.floors.length cF, .slice pS s.sills.length cS] 37)) = w0 at *
  refine (refCheck_c s _ (HL.out.up U0.out)).mono ?_
  rintro e w1 ⟨rfl, u⟩
  have U1 := Lib.hid (Up.trans U0.out u)
  have B1 := Lib.hid (BS.out.up u)
  clear u BS U0
  by_cases hE : chk s = 0
  · have OK := Lib.hid (chk_ok hE)
    have n1 : (chk s != 0) = false := by rw [hE]; rfl
    have HF : Hid (errFor s x = bif isPl s x then 0 else 1) := by show _ = _; unfold errFor; rw [if_pos hE]
    clear hE
    obtain ⟨c0, c1', c2', c3, c4⟩ := five B1.out
    go_wp2_with fail
    refine (refPlace_c s x _ (HL.out.up U1.out)).mono ?_
    rintro e w2 ⟨rfl, u⟩
    have U2 := Lib.hid (Up.trans U1.out u)
    have B2 := Lib.hid (B1.out.up u)
    clear u B1 U1 c0 c1' c2' c3 c4 n1
    cases hp : isPl s x with
    | false =>
      have HE : Hid (errHold s x ss ps = 1) := by
        show _ = _
        unfold errHold
        rw [HF.out, hp]
        rfl
      have HZ := Lib.hid (HV.out (by rw [HE.out]; decide))
      clear hp
      go_wp2_with fail
      go_ret2
      rw [HE.out, HZ.out]
      exact ⟨rfl, U2.out⟩
    | true =>
      have hx := inB_true.1 hp
      obtain ⟨n, rfl⟩ := Int.eq_ofNat_of_zero_le hx.1
      have hn : n < s.floors.length := by omega
      have HF0 : Hid (errFor s n = 0) := by show _ = _; rw [HF.out, hp]; rfl
      have HE : Hid (errHold s n ss ps = if ss.all (isSi s) = true ∧ ps.all (isPl s) = true then (if ss.Nodup ∧ ps.Nodup then (if wayAt (waysOf s (mayHold ss ps)) n = none then (if ss = [] ∧ ps = [] then 6 else 0) else 8) else 5) else 1) := by show _ = _; unfold errHold; rw [if_pos HF0.out]
      clear hp hx
      obtain ⟨c0, c1', c2', c3, c4⟩ := five B2.out
      go_wp2_with fail
      refine (listed_c s ss p1 c1 _ (HL.out.up U2.out) (H1.out.up U2.out) M1.out).mono ?_
      rintro e w3 ⟨rfl, u⟩
      have U3 := Lib.hid (Up.trans U2.out u)
      have B3 := Lib.hid (B2.out.up u)
      clear u B2 U2 c0 c1' c2' c3 c4
      cases ha : ss.all (isSi s) with
      | false =>
        have HE1 : Hid (errHold s n ss ps = 1) := by
          show _ = _
          rw [HE.out, ha, if_neg (by simp)]
        have HZ := Lib.hid (HV.out (by rw [HE1.out]; decide))
        clear ha
        go_wp2_with fail
        go_ret2
        rw [HE1.out, HZ.out]
        exact ⟨rfl, U3.out⟩
      | true =>
        have HA := Lib.hid ha
        have GS : Hid (∀ i ∈ ss, 0 ≤ i ∧ i < s.sills.length) := fun i hi => by have := inB_true.1 (List.all_eq_true.1 ha i hi); omega
        clear ha
        go_wp2_with fail
        go_loopw [13, 14] (fun i v wr => ∃ k : Nat, k ≤ ps.length ∧ i = .int .i64 k ∧ ps.all (isPl s) = (ps.drop k).all (isPl s) ∧ Up w3 wr) (fun i _ _ => ps.length - (intOf i).toNat)
        case atStart => exact ⟨0, Nat.zero_le _, rfl, rfl, Below.refl _ _⟩
        case round =>
          obtain ⟨k, hk, rfl, ht, hu⟩ := hrel
          have HT := Lib.hid ht
          have HU := Lib.hid hu
          clear ht
          by_cases hlt : k < ps.length
          · obtain ⟨b, off, rfl, d0⟩ := (H2.out.up (Up.trans U3.out hu)).int k hlt
            have HD := Lib.hid (all_drop (f := isPl s) hlt)
            obtain ⟨c0, c1', c2', c3, c4⟩ := five (B3.out.up hu)
            have b1 : (k : Int) < (ps.length : Int) := by omega
            generalize ps[k] = y at *
            clear hu
            go_upto_region 13 with fail
            refine region_tail (fun W' => W'.cell? ⟨b, off + k, none⟩ = some (.int .i64 y) ∧ W'.cell? ⟨w.heap.size, 0, none⟩ = some (.slice pT s.table.length cT) ∧ W'.cell? ⟨w.heap.size, 1, none⟩ = some (.int .i64 s.lo) ∧ W'.cell? ⟨w.heap.size, 2, none⟩ = some (.int .i64 s.hi) ∧ W'.cell? ⟨w.heap.size, 3, none⟩ = some (.slice pF s.floors.length cF) ∧ W'.cell? ⟨w.heap.size, 4, none⟩ = some (.slice pS s.sills.length cS)) 6 mixed (by kernel_rfl) ⟨d0, c0, c1', c2', c3, c4⟩ (fun hHeld => ?_)
            refine wpAnyG_take 0 41 (v := ?_) rfl rfl (by kernel_rfl) (fun _ _ _ h => h) (Or.inl ⟨by rfl, ?_⟩) (by assumption) ?_
            rotate_left
            · (intro w' hSw; (try dsimp only at hSw); go_split_ands; go_simp; try with_reducible rfl)
            try simp only [List.setIfInBounds_toArray, List.set_cons_zero, List.set_cons_succ]
            refine wpAnyG_take 1 42 (v := ?_) rfl rfl (by kernel_rfl) (fun _ _ _ h => h) (Or.inl ⟨by rfl, ?_⟩) (by assumption) ?_
            rotate_left
            · (intro w' hSw; (try dsimp only at hSw); go_split_ands; go_simp; try with_reducible rfl)
            try simp only [List.setIfInBounds_toArray, List.set_cons_zero, List.set_cons_succ]
            refine wpAnyG_take 2 43 (v := ?_) rfl rfl (by kernel_rfl) (fun _ _ _ h => h) (Or.inl ⟨by rfl, ?_⟩) (by assumption) ?_
            rotate_left
            · (intro w' hSw; (try dsimp only at hSw); go_split_ands; go_simp; try with_reducible rfl)
            try simp only [List.setIfInBounds_toArray, List.set_cons_zero, List.set_cons_succ]
            refine wpAnyG_take 3 44 (v := ?_) rfl rfl (by kernel_rfl) (fun _ _ _ h => h) (Or.inl ⟨by rfl, ?_⟩) (by assumption) ?_
            rotate_left
            · (intro w' hSw; (try dsimp only at hSw); go_split_ands; go_simp; try with_reducible rfl)
            try simp only [List.setIfInBounds_toArray, List.set_cons_zero, List.set_cons_succ]
            refine wpAnyG_take 4 45 (v := ?_) rfl rfl (by kernel_rfl) (fun _ _ _ h => h) (Or.inl ⟨by rfl, ?_⟩) (by assumption) ?_
            rotate_left
            · (intro w' hSw; (try dsimp only at hSw); go_split_ands; go_simp; try with_reducible rfl)
            try simp only [List.setIfInBounds_toArray, List.set_cons_zero, List.set_cons_succ]
            refine wpAnyG_do 5 rfl (by kernel_rfl) (fun K hK => ?_)
            rw [if_pos (by rfl)]
            go_simp
            refine (refPlace_c s y _ (HL.out.up (Up.trans U3.out (Up.trans HU.out ((Below.refl _ _).drew))))).mono ?_
            rintro e wa ⟨rfl, v6⟩
            have v6' : Up wr wa := Up.trans ((Below.refl _ _).drew) v6
            refine hK.out _ _ ⟨v6'.cellAt d0, v6'.cellAt c0, v6'.cellAt c1', v6'.cellAt c2', v6'.cellAt c3, v6'.cellAt c4⟩ (fun hHeld => ?_)
            clear hK K
            have UA := Lib.hid (Up.trans HU.out v6')
            clear hHeld c0 c1' c2' c3 c4 d0 v6 v6'
            refine wpAnyG_tail (by kernel_rfl) ?_
            change wpList _ _ _ [_] _ _
            cases hy : isPl s y with
            | true =>
              have HX := Lib.hid (show ps.all (isPl s) = (ps.drop (k + 1)).all (isPl s) by rw [HT.out, HD.out, hy, Bool.true_and])
              clear hy
              go_wp2_with fail
              go_roundw
              case rel =>
                try ((repeat apply Exists.intro); refine ⟨?_, rfl⟩)
                exact ⟨k + 1, hlt, by go_num, HX.out, UA.out⟩
              case measure => simp [intOf]; omega
            | false =>
              have HE1 : Hid (errHold s n ss ps = 1) := by
                show _ = _
                rw [HE.out, HT.out, HD.out, hy, if_neg (by simp)]
              have HZ := Lib.hid (HV.out (by rw [HE1.out]; decide))
              clear hy
              go_wp2_with fail
              go_ret2
              rw [HE1.out, HZ.out]
              exact ⟨rfl, Up.trans U3.out UA.out⟩
          · obtain rfl : k = ps.length := by omega
            have HB := Lib.hid (show ps.all (isPl s) = true by rw [HT.out, List.drop_eq_nil_of_le (Nat.le_refl _)]; rfl)
            have GP : Hid (∀ i ∈ ps, 0 ≤ i ∧ i < s.floors.length) := fun i hi => by have := inB_true.1 (List.all_eq_true.1 HB.out i hi); omega
            have HE2 : Hid (errHold s n ss ps = if ss.Nodup ∧ ps.Nodup then (if wayAt (waysOf s (mayHold ss ps)) n = none then (if ss = [] ∧ ps = [] then 6 else 0) else 8) else 5) := by show _ = _; rw [HE.out, if_pos ⟨HA.out, HB.out⟩]
            have U4 := Lib.hid (Up.trans U3.out HU.out)
            have B4 := Lib.hid (B3.out.up HU.out)
            clear HT HE hu hk hlt U3 B3 HU
            generalize wr = w4 at *
            go_wp2_with fail
            refine (repeats_c ss p1 c1 _ (H1.out.up U4.out) M1.out).mono ?_
            rintro e w5 ⟨he, u⟩
            have U5 := Lib.hid (Up.trans U4.out u)
            have B5 := Lib.hid (B4.out.up u)
            clear u U4 B4
            by_cases hd1 : ss.Nodup
            · rw [decide_eq_true hd1, Bool.not_true] at he
              subst he
              have HD1 := Lib.hid hd1
              clear hd1
              go_wp2_with fail
              refine (repeats_c ps p2 c2 _ (H2.out.up U5.out) M2.out).mono ?_
              rintro e w6 ⟨he, u⟩
              have U6 := Lib.hid (Up.trans U5.out u)
              have B6 := Lib.hid (B5.out.up u)
              clear u U5 B5
              by_cases hd2 : ps.Nodup
              · rw [decide_eq_true hd2, Bool.not_true] at he
                subst he
                have HE3 : Hid (errHold s n ss ps = if wayAt (waysOf s (mayHold ss ps)) n = none then (if ss = [] ∧ ps = [] then 6 else 0) else 8) := by show _ = _; rw [HE2.out, if_pos ⟨HD1.out, hd2⟩]
                clear hd2 HE2
                obtain ⟨c0, c1', c2', c3, c4⟩ := five B6.out
                go_wp2_with fail
                refine (refLeast_c s n ss ps p1 p2 c1 c2 _ OK.out (HL.out.up U6.out) (H1.out.up U6.out) (H2.out.up U6.out) M1.out M2.out hn).mono ?_
                rintro e w7 ⟨rfl, u⟩
                have U7 := Lib.hid (Up.trans U6.out u)
                have B7 := Lib.hid (B6.out.up u)
                clear u U6 B6 c0 c1' c2' c3 c4
                have HLG := Lib.hid (low_got (ss := ss) (ps := ps) OK.out n hn)
                by_cases hlow : (lowR s ss ps)[n]?.getD 0 = 5000
                · have n2 : ((lowR s ss ps)[n]?.getD 0 != 5000) = false := by rw [hlow]; rfl
                  have HE4 : Hid (errHold s n ss ps = if ss = [] ∧ ps = [] then 6 else 0) := by show _ = _; rw [HE3.out, if_pos (way_none.2 (HLG.out.1 hlow))]
                  clear hlow HE3 HLG
                  generalize (lowR s ss ps)[n]?.getD 0 = lw at *
                  go_wp2_with fail
                  go_loopw [15, 16] (fun v i wr => ∃ (k : Nat) (z : Int), k ≤ ss.length ∧ v = .int .i64 z ∧ i = .int .i64 k ∧ leastS s 5000 ss = leastS s z (ss.drop k) ∧ Up w7 wr) (fun _ i _ => ss.length - (intOf i).toNat)
                  case atStart => exact ⟨0, 5000, Nat.zero_le _, rfl, rfl, rfl, Below.refl _ _⟩
                  case round =>
                    obtain ⟨k, z, hk, rfl, rfl, ht, hu⟩ := hrel
                    have HT := Lib.hid ht
                    have HU := Lib.hid hu
                    clear ht
                    by_cases hlt : k < ss.length
                    · obtain ⟨b, off, rfl, d0⟩ := (H1.out.up (Up.trans U7.out hu)).int k hlt
                      have HD := Lib.hid (List.drop_eq_getElem_cons hlt)
                      have hy := GS.out ss[k] (List.getElem_mem hlt)
                      obtain ⟨c0, c1', c2', c3, c4⟩ := five (B7.out.up hu)
                      have b1 : (k : Int) < (ss.length : Int) := by omega
                      generalize ss[k] = y at *
                      obtain ⟨m, rfl⟩ := Int.eq_ofNat_of_zero_le hy.1
                      have hm : m < s.sills.length := by omega
                      obtain ⟨bs, os, rfl, -, -, d2⟩ := ((HL.out.up (Up.trans U7.out hu)).rs).triple m hm
                      have HN := Lib.hid (show leastS s z ((m : Int) :: ss.drop (k + 1)) = leastS s (min z (s.sills[m]).2.2) (ss.drop (k + 1)) by
                        show leastS s (min z (s.sills[((m : Int)).toNat]?.getD (0, 0, 0)).2.2) _ = _
                        rw [Int.toNat_natCast, List.getElem?_eq_getElem hm, Option.getD_some])
                      generalize (s.sills[m]).2.2 = h at *
                      have b2 : (m : Int) < (s.sills.length : Int) := by omega
                      clear hu hy
                      go_upto_region 24 with fail
                      refine region_tail (fun W' => W'.cell? ⟨b, off + k, none⟩ = some (.int .i64 (m : Int)) ∧ W'.cell? ⟨bs, os + m * 3 + 2, none⟩ = some (.int .i64 h) ∧ W'.cell? ⟨w.heap.size, 0, none⟩ = some (.slice pT s.table.length cT) ∧ W'.cell? ⟨w.heap.size, 1, none⟩ = some (.int .i64 s.lo) ∧ W'.cell? ⟨w.heap.size, 2, none⟩ = some (.int .i64 s.hi) ∧ W'.cell? ⟨w.heap.size, 3, none⟩ = some (.slice pF s.floors.length cF) ∧ W'.cell? ⟨w.heap.size, 4, none⟩ = some (.slice (some ⟨bs, os, none⟩) s.sills.length cS)) 11 mixed (by kernel_rfl) ⟨d0, d2, c0, c1', c2', c3, c4⟩ (fun hHeld => ?_)
                      refine wpAnyG_take 0 68 (v := ?_) rfl rfl (by kernel_rfl) (fun _ _ _ h => h) (Or.inl ⟨by rfl, ?_⟩) (by assumption) ?_
                      rotate_left
                      · (intro w' hSw; (try dsimp only at hSw); go_split_ands; go_simp; try with_reducible rfl)
                      try simp only [List.setIfInBounds_toArray, List.set_cons_zero, List.set_cons_succ]
                      refine wpAnyG_take 1 69 (v := ?_) rfl rfl (by kernel_rfl) (fun _ _ _ h => h) (Or.inl ⟨by rfl, ?_⟩) (by assumption) ?_
                      rotate_left
                      · (intro w' hSw; (try dsimp only at hSw); go_split_ands; go_simp; try with_reducible rfl)
                      try simp only [List.setIfInBounds_toArray, List.set_cons_zero, List.set_cons_succ]
                      refine wpAnyG_take 2 70 (v := ?_) rfl rfl (by kernel_rfl) (fun _ _ _ h => h) (Or.inl ⟨by rfl, ?_⟩) (by assumption) ?_
                      rotate_left
                      · (intro w' hSw; (try dsimp only at hSw); go_split_ands; go_simp; try with_reducible rfl)
                      try simp only [List.setIfInBounds_toArray, List.set_cons_zero, List.set_cons_succ]
                      refine wpAnyG_take 3 71 (v := ?_) rfl rfl (by kernel_rfl) (fun _ _ _ h => h) (Or.inl ⟨by rfl, ?_⟩) (by assumption) ?_
                      rotate_left
                      · (intro w' hSw; (try dsimp only at hSw); go_split_ands; go_simp; try with_reducible rfl)
                      try simp only [List.setIfInBounds_toArray, List.set_cons_zero, List.set_cons_succ]
                      refine wpAnyG_take 4 72 (v := ?_) rfl rfl (by kernel_rfl) (fun _ _ _ h => h) (Or.inl ⟨by rfl, ?_⟩) (by assumption) ?_
                      rotate_left
                      · (intro w' hSw; (try dsimp only at hSw); go_split_ands; go_simp; try with_reducible rfl)
                      try simp only [List.setIfInBounds_toArray, List.set_cons_zero, List.set_cons_succ]
                      refine wpAnyG_take 5 73 (v := ?_) rfl rfl (by kernel_rfl) (fun _ _ _ h => h) (Or.inl ⟨by rfl, ?_⟩) (by assumption) ?_
                      rotate_left
                      · (intro w' hSw; (try dsimp only at hSw); go_split_ands; go_simp; try with_reducible rfl)
                      try simp only [List.setIfInBounds_toArray, List.set_cons_zero, List.set_cons_succ]
                      refine wpAnyG_take 6 74 (v := ?_) rfl rfl (by kernel_rfl) (fun _ _ _ h => h) (Or.inl ⟨by rfl, ?_⟩) (by assumption) ?_
                      rotate_left
                      · (intro w' hSw; (try dsimp only at hSw); go_split_ands; go_simp; try with_reducible rfl)
                      try simp only [List.setIfInBounds_toArray, List.set_cons_zero, List.set_cons_succ]
                      refine wpAnyG_take 7 75 (v := ?_) rfl rfl (by kernel_rfl) (fun _ _ _ h => h) (Or.inl ⟨by rfl, ?_⟩) (by assumption) ?_
                      rotate_left
                      · (intro w' hSw; (try dsimp only at hSw); go_split_ands; go_simp; try with_reducible rfl)
                      try simp only [List.setIfInBounds_toArray, List.set_cons_zero, List.set_cons_succ]
                      refine wpAnyG_take 8 76 (v := ?_) rfl rfl (by kernel_rfl) (fun _ _ _ h => h) (Or.inl ⟨by rfl, ?_⟩) (by assumption) ?_
                      rotate_left
                      · (intro w' hSw; (try dsimp only at hSw); go_split_ands; go_simp; try with_reducible rfl)
                      try simp only [List.setIfInBounds_toArray, List.set_cons_zero, List.set_cons_succ]
                      refine wpAnyG_take 9 77 (v := ?_) rfl rfl (by kernel_rfl) (fun _ _ _ h => h) (Or.inl ⟨by rfl, ?_⟩) (by assumption) ?_
                      rotate_left
                      · (intro w' hSw; (try dsimp only at hSw); go_split_ands; go_simp; try with_reducible rfl)
                      try simp only [List.setIfInBounds_toArray, List.set_cons_zero, List.set_cons_succ]
                      by_cases hmin : h < z
                      · have HMIN := Lib.hid (show min z h = h by omega)
                        refine wpAnyG_take 10 78 (v := .int .i64 h) rfl rfl (by kernel_rfl) (fun _ _ _ h => h) (Or.inl ⟨by rfl, ?_⟩) (by assumption) ?_
                        · intro w' _
                          go_simp
                        try simp only [List.setIfInBounds_toArray, List.set_cons_zero, List.set_cons_succ]
                        have UA := Lib.hid (HU.out.drew)
                        clear hHeld c0 c1' c2' c3 c4 d0 d2
                        refine wpAnyG_tail (by kernel_rfl) ?_
                        change wpList _ _ _ [_] _ _
                        go_wp2_with fail
                        go_roundw
                        case rel =>
                          try ((repeat apply Exists.intro); refine ⟨?_, rfl⟩)
                          exact ⟨k + 1, h, hlt, rfl, by go_num, by rw [HT.out, HD.out, HN.out, HMIN.out], UA.out⟩
                        case measure => simp [intOf]; omega
                      · have HMIN := Lib.hid (show min z h = z by omega)
                        refine wpAnyG_take 10 78 (v := .int .i64 z) rfl rfl (by kernel_rfl) (fun _ _ _ h => h) (Or.inl ⟨by rfl, ?_⟩) (by assumption) ?_
                        · intro w' _
                          go_simp
                        try simp only [List.setIfInBounds_toArray, List.set_cons_zero, List.set_cons_succ]
                        have UA := Lib.hid (HU.out.drew)
                        clear hHeld c0 c1' c2' c3 c4 d0 d2
                        refine wpAnyG_tail (by kernel_rfl) ?_
                        change wpList _ _ _ [_] _ _
                        go_wp2_with fail
                        go_roundw
                        case rel =>
                          try ((repeat apply Exists.intro); refine ⟨?_, rfl⟩)
                          exact ⟨k + 1, z, hlt, rfl, by go_num, by rw [HT.out, HD.out, HN.out, HMIN.out], UA.out⟩
                        case measure => simp [intOf]; omega
                    · obtain rfl : k = ss.length := by omega
                      have HS := Lib.hid (show leastS s 5000 ss = z by rw [HT.out, List.drop_eq_nil_of_le (Nat.le_refl _)]; rfl)
                      have U8 := Lib.hid (Up.trans U7.out HU.out)
                      have B8 := Lib.hid (B7.out.up HU.out)
                      have HR := Lib.hid (leastR OK.out HA.out HB.out)
                      clear HT hu hk hlt U7 B7 HU
                      generalize wr = w8 at *
                      go_wp2_with fail
                      go_loopw [15, 17] (fun v i wr => ∃ (k : Nat) (y : Int), k ≤ ps.length ∧ v = .int .i64 y ∧ i = .int .i64 k ∧ leastF s z ps = leastF s y (ps.drop k) ∧ Up w8 wr) (fun _ i _ => ps.length - (intOf i).toNat)
                      case atStart => exact ⟨0, z, Nat.zero_le _, rfl, rfl, rfl, Below.refl _ _⟩
                      case round =>
                        obtain ⟨k, q, hk, rfl, rfl, ht, hu⟩ := hrel
                        have HT := Lib.hid ht
                        have HU := Lib.hid hu
                        clear ht
                        by_cases hlt : k < ps.length
                        · obtain ⟨b, off, rfl, d0⟩ := (H2.out.up (Up.trans U8.out hu)).int k hlt
                          have HD := Lib.hid (List.drop_eq_getElem_cons hlt)
                          have hy := GP.out ps[k] (List.getElem_mem hlt)
                          obtain ⟨c0, c1', c2', c3, c4⟩ := five (B8.out.up hu)
                          have b1 : (k : Int) < (ps.length : Int) := by omega
                          generalize ps[k] = y at *
                          obtain ⟨m, rfl⟩ := Int.eq_ofNat_of_zero_le hy.1
                          have hm : m < s.floors.length := by omega
                          obtain ⟨bs, os, rfl, d2⟩ := ((HL.out.up (Up.trans U8.out hu)).rf).int m hm
                          have HN := Lib.hid (show leastF s q ((m : Int) :: ps.drop (k + 1)) = leastF s (min q (s.floors[m])) (ps.drop (k + 1)) by
                            show leastF s (min q (s.floors[((m : Int)).toNat]?.getD 0)) _ = _
                            rw [Int.toNat_natCast, List.getElem?_eq_getElem hm, Option.getD_some])
                          generalize s.floors[m] = h at *
                          have b2 : (m : Int) < (s.floors.length : Int) := by omega
                          clear hu hy
                          go_upto_region 28 with fail
                          refine region_tail (fun W' => W'.cell? ⟨b, off + k, none⟩ = some (.int .i64 (m : Int)) ∧ W'.cell? ⟨bs, os + m, none⟩ = some (.int .i64 h) ∧ W'.cell? ⟨w.heap.size, 0, none⟩ = some (.slice pT s.table.length cT) ∧ W'.cell? ⟨w.heap.size, 1, none⟩ = some (.int .i64 s.lo) ∧ W'.cell? ⟨w.heap.size, 2, none⟩ = some (.int .i64 s.hi) ∧ W'.cell? ⟨w.heap.size, 3, none⟩ = some (.slice (some ⟨bs, os, none⟩) s.floors.length cF) ∧ W'.cell? ⟨w.heap.size, 4, none⟩ = some (.slice pS s.sills.length cS)) 10 mixed (by kernel_rfl) ⟨d0, d2, c0, c1', c2', c3, c4⟩ (fun hHeld => ?_)
                          refine wpAnyG_take 0 85 (v := ?_) rfl rfl (by kernel_rfl) (fun _ _ _ h => h) (Or.inl ⟨by rfl, ?_⟩) (by assumption) ?_
                          rotate_left
                          · (intro w' hSw; (try dsimp only at hSw); go_split_ands; go_simp; try with_reducible rfl)
                          try simp only [List.setIfInBounds_toArray, List.set_cons_zero, List.set_cons_succ]
                          refine wpAnyG_take 1 86 (v := ?_) rfl rfl (by kernel_rfl) (fun _ _ _ h => h) (Or.inl ⟨by rfl, ?_⟩) (by assumption) ?_
                          rotate_left
                          · (intro w' hSw; (try dsimp only at hSw); go_split_ands; go_simp; try with_reducible rfl)
                          try simp only [List.setIfInBounds_toArray, List.set_cons_zero, List.set_cons_succ]
                          refine wpAnyG_take 2 87 (v := ?_) rfl rfl (by kernel_rfl) (fun _ _ _ h => h) (Or.inl ⟨by rfl, ?_⟩) (by assumption) ?_
                          rotate_left
                          · (intro w' hSw; (try dsimp only at hSw); go_split_ands; go_simp; try with_reducible rfl)
                          try simp only [List.setIfInBounds_toArray, List.set_cons_zero, List.set_cons_succ]
                          refine wpAnyG_take 3 88 (v := ?_) rfl rfl (by kernel_rfl) (fun _ _ _ h => h) (Or.inl ⟨by rfl, ?_⟩) (by assumption) ?_
                          rotate_left
                          · (intro w' hSw; (try dsimp only at hSw); go_split_ands; go_simp; try with_reducible rfl)
                          try simp only [List.setIfInBounds_toArray, List.set_cons_zero, List.set_cons_succ]
                          refine wpAnyG_take 4 89 (v := ?_) rfl rfl (by kernel_rfl) (fun _ _ _ h => h) (Or.inl ⟨by rfl, ?_⟩) (by assumption) ?_
                          rotate_left
                          · (intro w' hSw; (try dsimp only at hSw); go_split_ands; go_simp; try with_reducible rfl)
                          try simp only [List.setIfInBounds_toArray, List.set_cons_zero, List.set_cons_succ]
                          refine wpAnyG_take 5 90 (v := ?_) rfl rfl (by kernel_rfl) (fun _ _ _ h => h) (Or.inl ⟨by rfl, ?_⟩) (by assumption) ?_
                          rotate_left
                          · (intro w' hSw; (try dsimp only at hSw); go_split_ands; go_simp; try with_reducible rfl)
                          try simp only [List.setIfInBounds_toArray, List.set_cons_zero, List.set_cons_succ]
                          refine wpAnyG_take 6 91 (v := ?_) rfl rfl (by kernel_rfl) (fun _ _ _ h => h) (Or.inl ⟨by rfl, ?_⟩) (by assumption) ?_
                          rotate_left
                          · (intro w' hSw; (try dsimp only at hSw); go_split_ands; go_simp; try with_reducible rfl)
                          try simp only [List.setIfInBounds_toArray, List.set_cons_zero, List.set_cons_succ]
                          refine wpAnyG_take 7 92 (v := ?_) rfl rfl (by kernel_rfl) (fun _ _ _ h => h) (Or.inl ⟨by rfl, ?_⟩) (by assumption) ?_
                          rotate_left
                          · (intro w' hSw; (try dsimp only at hSw); go_split_ands; go_simp; try with_reducible rfl)
                          try simp only [List.setIfInBounds_toArray, List.set_cons_zero, List.set_cons_succ]
                          refine wpAnyG_take 8 93 (v := ?_) rfl rfl (by kernel_rfl) (fun _ _ _ h => h) (Or.inl ⟨by rfl, ?_⟩) (by assumption) ?_
                          rotate_left
                          · (intro w' hSw; (try dsimp only at hSw); go_split_ands; go_simp; try with_reducible rfl)
                          try simp only [List.setIfInBounds_toArray, List.set_cons_zero, List.set_cons_succ]
                          by_cases hmin : h < q
                          · have HMIN := Lib.hid (show min q h = h by omega)
                            refine wpAnyG_take 9 94 (v := .int .i64 h) rfl rfl (by kernel_rfl) (fun _ _ _ h => h) (Or.inl ⟨by rfl, ?_⟩) (by assumption) ?_
                            · intro w' _
                              go_simp
                            try simp only [List.setIfInBounds_toArray, List.set_cons_zero, List.set_cons_succ]
                            have UA := Lib.hid (HU.out.drew)
                            clear hHeld c0 c1' c2' c3 c4 d0 d2
                            refine wpAnyG_tail (by kernel_rfl) ?_
                            change wpList _ _ _ [_] _ _
                            go_wp2_with fail
                            go_roundw
                            case rel =>
                              try ((repeat apply Exists.intro); refine ⟨?_, rfl⟩)
                              exact ⟨k + 1, h, hlt, rfl, by go_num, by rw [HT.out, HD.out, HN.out, HMIN.out], UA.out⟩
                            case measure => simp [intOf]; omega
                          · have HMIN := Lib.hid (show min q h = q by omega)
                            refine wpAnyG_take 9 94 (v := .int .i64 q) rfl rfl (by kernel_rfl) (fun _ _ _ h => h) (Or.inl ⟨by rfl, ?_⟩) (by assumption) ?_
                            · intro w' _
                              go_simp
                            try simp only [List.setIfInBounds_toArray, List.set_cons_zero, List.set_cons_succ]
                            have UA := Lib.hid (HU.out.drew)
                            clear hHeld c0 c1' c2' c3 c4 d0 d2
                            refine wpAnyG_tail (by kernel_rfl) ?_
                            change wpList _ _ _ [_] _ _
                            go_wp2_with fail
                            go_roundw
                            case rel =>
                              try ((repeat apply Exists.intro); refine ⟨?_, rfl⟩)
                              exact ⟨k + 1, q, hlt, rfl, by go_num, by rw [HT.out, HD.out, HN.out, HMIN.out], UA.out⟩
                            case measure => simp [intOf]; omega
                        · obtain rfl : k = ps.length := by omega
                          have HQ : Hid (q = if ss = [] ∧ ps = [] then 5000 else leastF s (leastS s 999 ss) ps) := by
                            show _ = _
                            rw [← HR.out, HS.out, HT.out, List.drop_eq_nil_of_le (Nat.le_refl _)]
                            rfl
                          have U9 := Lib.hid (Up.trans U8.out HU.out)
                          clear HT hu hk hlt HR HS
                          by_cases hnil : ss = [] ∧ ps = []
                          · have HE5 : Hid (errHold s n ss ps = 6) := by show _ = _; rw [HE4.out, if_pos hnil]
                            have HZ := Lib.hid (HV.out (by rw [HE5.out]; decide))
                            have hq : q = 5000 := by rw [HQ.out, if_pos hnil]
                            have hq' : (q == 5000) = true := by rw [hq]; rfl
                            clear hnil hq
                            go_wp2_with fail
                            go_ret2
                            rw [HE5.out, HZ.out]
                            exact ⟨rfl, U9.out⟩
                          · have HE5 : Hid (errHold s n ss ps = 0) := by show _ = _; rw [HE4.out, if_neg hnil]
                            have HZ : Hid (holdV s n ss ps = q) := by show _ = _; unfold holdV; rw [if_pos HE5.out, HQ.out, if_neg hnil]
                            have h9 : q ≤ 999 := by
                              rw [HQ.out, if_neg hnil]
                              exact Int.le_trans (leastF_le _ _) (leastS_le _ _)
                            have hq' : (q == 5000) = false := beq_eq_false_iff_ne.2 (by omega)
                            clear hnil h9
                            go_wp2_with fail
                            go_ret2
                            rw [HE5.out, HZ.out]
                            exact ⟨rfl, U9.out⟩
                · have n2 : ((lowR s ss ps)[n]?.getD 0 != 5000) = true := by rw [bne_iff_ne]; exact hlow
                  have HE4 : Hid (errHold s n ss ps = 8) := by
                    show _ = _
                    rw [HE3.out, if_neg]
                    intro hh
                    exact hlow (HLG.out.2 (way_none.1 hh))
                  have HZ := Lib.hid (HV.out (by rw [HE4.out]; decide))
                  clear hlow
                  go_wp2_with fail
                  go_ret2
                  rw [HE4.out, HZ.out]
                  exact ⟨rfl, U7.out⟩
              · rw [decide_eq_false hd2, Bool.not_false] at he
                subst he
                have HE3 : Hid (errHold s n ss ps = 5) := by show _ = _; rw [HE2.out, if_neg (fun h => hd2 h.2)]
                have HZ := Lib.hid (HV.out (by rw [HE3.out]; decide))
                clear hd2
                go_wp2_with fail
                go_ret2
                rw [HE3.out, HZ.out]
                exact ⟨rfl, U6.out⟩
            · rw [decide_eq_false hd1, Bool.not_false] at he
              subst he
              have HE3 : Hid (errHold s n ss ps = 5) := by show _ = _; rw [HE2.out, if_neg (fun h => hd1 h.1)]
              have HZ := Lib.hid (HV.out (by rw [HE3.out]; decide))
              clear hd1
              go_wp2_with fail
              go_ret2
              rw [HE3.out, HZ.out]
              exact ⟨rfl, U5.out⟩
  · have n1 : (chk s != 0) = true := by rw [bne_iff_ne]; exact hE
    have HE : Hid (errHold s x ss ps = chk s) := by
      have k : errFor s x = chk s := by unfold errFor; rw [if_neg hE]
      show _ = _
      unfold errHold
      rw [k, if_neg hE]
    have HZ := Lib.hid (HV.out (by rw [HE.out]; exact hE))
    clear hE
    go_wp2_with fail
    go_ret2
    rw [HE.out, HZ.out]
    exact ⟨rfl, U1.out⟩
end
end Go.Proofs.Ytcljkkojeleakaa
/- The reference's Crest: what its function returns. -/
namespace Go.Proofs.Ytcljkkojeleakaa
open Go.RowKit Go.Shelf

/-- a row's block is another one than a block of another type -/
theorem own_ne {w : World} {n₀ k n : Nat} {T T' : TypeId} {v : Value} {xs : List Value} (h : w.ownsRow n₀ T k v n xs) {B : Nat} {cs : List Value} (hB : Blk w B cs T') (ht : T' ≠ T) : v.ownBlock ≠ some B := by
  intro e
  have h' : w.heap[B]? = some (.cells cs.toArray T' (0, 0)) := hB
  rcases h.2 with ⟨rfl, _⟩ | ⟨g, cap, cur, rfl, _, hc, _⟩
  · simp [Value.ownBlock] at e
  · simp [Value.ownBlock] at e
    subst e
    rw [h'] at hc
    simp only [Option.some.injEq, Obj.cells.injEq] at hc
    exact ht hc.2.1
/-- where a sill leads, as the reference finds it -/
def nxt (a b e : Int) : Int := if b = e then a else if a = e then b else -2
theorem nxt_other {a b h e : Int} (hab : a ≠ b) : (nxt a b e = -2 ∧ other (a, b, h) e = -1) ∨ nxt a b e = other (a, b, h) e := by
  unfold nxt other
  by_cases h1 : b = e
  · subst h1
    right
    have : (b == a) = false := beq_eq_false_iff_ne.2 (Ne.symm hab)
    simp [this]
  · by_cases h2 : a = e
    · subst h2
      right
      simp [h1]
    · left
      have e1 : (e == a) = false := beq_eq_false_iff_ne.2 (Ne.symm h2)
      have e2 : (e == b) = false := beq_eq_false_iff_ne.2 (Ne.symm h1)
      simp [h1, h2, e1, e2]

section
variable {pT pF pS : Option Addr} {cT cF cS : Nat}
set_option maxRecDepth 100000 in
set_option maxHeartbeats 4000000 in
theorem refCrest_c (s : Sd) (x : Int) (way : List Int) (p : Option Addr) (c : Nat) (w : World) (hl : Lists w s pT pF pS cT cF cS) (h1 : Row w p 1 (ints way)) (l1 : way.length ≤ 10000) :
    Calls Try.prog 33 #[sdVal s pT pF pS cT cF cS, .int .i64 x, .slice p way.length c] w fun e w' => e = .returned (.tuple #[.int .i64 (crestV s x way), .int .i64 (errCrest s x way)]) ∧ Up w w' := by
  have M1 : Hid (way.length ≤ maxLen) := by show _ ≤ _; simp only [maxLen]; omega
  obtain ⟨i0, hi, hz0, hz1, hz2⟩ := info_parts info3
  have HL := Lib.hid hl
  have H1 := Lib.hid h1
  have HH := Lib.hid (fun (l : List Int) (p : Option Addr) (c : Nat) (n : Int) (W : World) (hr : Row W p 1 (ints l)) (hm : l.length ≤ maxLen) => has_c l p c n W hr hm)
  have HV : Hid (errCrest s x way ≠ 0 → crestV s x way = 0) := fun h => by unfold crestV; rw [if_neg h]
  clear hl h1
  unfold sdVal
  go_enter Try.func33, Try.ntmps33
  go_wp2_with fail
  have BS : Hid (Blk (w.alloc (.cells #[.slice pT s.table.length cT, .int .i64 s.lo, .int .i64 s.hi, .slice pF s.floors.length cF, .slice pS s.sills.length cS] 37)) w.heap.size (sdCells s pT pF pS cT cF cS) 37) := Lib.hid (Blk.new w (sdCells s pT pF pS cT cF cS) 37)
  have U0 : Hid (Up w (w.alloc (.cells #[.slice pT s.table.length cT, .int .i64 s.lo, .int .i64 s.hi, .slice pF s.floors.length cF, .slice pS s.sills.length cS] 37))) := Lib.hid (by (repeat (first | exact Below.refl _ _ | (with_reducible refine Below.drewN' ?_ _) | (with_reducible refine Below.drew ?_) | (with_reducible refine Below.setCell ?_ (by first | exact Nat.le_refl _ | omega | (with_reducible (repeat (first | refine sz_alloc ?_ | refine sz_setCell ?_ | refine sz_drew ?_ | refine sz_drewN ?_)); first | exact Nat.le_refl _ | omega) | (simp only [World.size_alloc, World.size_setCell, World.size_drew, size_drewN']; omega)) _) | (with_reducible refine Below.alloc ?_ (by first | exact Nat.le_refl _ | omega | (with_reducible (repeat (first | refine sz_alloc ?_ | refine sz_setCell ?_ | refine sz_drew ?_ | refine sz_drewN ?_)); first | exact Nat.le_refl _ | omega) | (simp only [World.size_alloc, World.size_setCell, World.size_drew, size_drewN']; omega)) _) | assumption)))
  generalize (w.alloc (.cells #[.slice pT s.table.length cT, .int .i64 s.lo, .int .i64 s.hi, .slice pF s.floors.length cF, .slice pS s.sills.length cS] 37)) = w0 at *
  refine (refCheck_c s _ (HL.out.up U0.out)).mono ?_
  rintro e w1 ⟨rfl, u⟩
  have U1 := Lib.hid (Up.trans U0.out u)
  have B1 := Lib.hid (BS.out.up u)
  clear u BS U0
  by_cases hE : chk s = 0
  · have OK := Lib.hid (chk_ok hE)
    have n1 : (chk s != 0) = false := by rw [hE]; rfl
    have HF : Hid (errFor s x = bif isPl s x then 0 else 1) := by show _ = _; unfold errFor; rw [if_pos hE]
    clear hE
    obtain ⟨c0, c1', c2', c3, c4⟩ := five B1.out
    go_wp2_with fail
    refine (refPlace_c s x _ (HL.out.up U1.out)).mono ?_
    rintro e w2 ⟨rfl, u⟩
    have U2 := Lib.hid (Up.trans U1.out u)
    have B2 := Lib.hid (B1.out.up u)
    clear u B1 U1 c0 c1' c2' c3 c4 n1
    cases hp : isPl s x with
    | false =>
      have HE : Hid (errCrest s x way = 1) := by
        show _ = _
        unfold errCrest
        rw [HF.out, hp]
        rfl
      have HZ := Lib.hid (HV.out (by rw [HE.out]; decide))
      clear hp
      go_wp2_with fail
      go_ret2
      rw [HE.out, HZ.out]
      exact ⟨rfl, U2.out⟩
    | true =>
      have hx := inB_true.1 hp
      obtain ⟨n, rfl⟩ := Int.eq_ofNat_of_zero_le hx.1
      have hn : n < s.floors.length := by omega
      have HF0 : Hid (errFor s n = 0) := by show _ = _; rw [HF.out, hp]; rfl
      have HE : Hid (errCrest s n way = if way.all (isSi s) = true then (if (folV s way).1 = n then 0 else 8) else 1) := by show _ = _; unfold errCrest; rw [if_pos HF0.out]
      clear hp hx
      obtain ⟨c0, c1', c2', c3, c4⟩ := five B2.out
      go_wp2_with fail
      refine (listed_c s way p c _ (HL.out.up U2.out) (H1.out.up U2.out) M1.out).mono ?_
      rintro e w3 ⟨rfl, u⟩
      have U3 := Lib.hid (Up.trans U2.out u)
      have B3 := Lib.hid (B2.out.up u)
      clear u B2 U2 c0 c1' c2' c3 c4
      cases ha : way.all (isSi s) with
      | false =>
        have HE1 : Hid (errCrest s n way = 1) := by
          show _ = _
          rw [HE.out, ha, if_neg (by simp)]
        have HZ := Lib.hid (HV.out (by rw [HE1.out]; decide))
        clear ha
        go_wp2_with fail
        go_ret2
        rw [HE1.out, HZ.out]
        exact ⟨rfl, U3.out⟩
      | true =>
        have HE1 : Hid (errCrest s n way = if (folV s way).1 = n then 0 else 8) := by show _ = _; rw [HE.out, if_pos ha]
        have GS : Hid (∀ i ∈ way, 0 ≤ i ∧ i < s.sills.length) := fun i hi => by have := inB_true.1 (List.all_eq_true.1 ha i hi); omega
        have HZ8 : Hid ((folV s way).1 = -1 → errCrest s n way = 8 ∧ crestV s n way = 0) := fun h => by
          have e8 : errCrest s n way = 8 := by rw [HE1.out, if_neg (by rw [h]; omega)]
          exact ⟨e8, HV.out (by rw [e8]; decide)⟩
        clear ha HE
        go_wp2_with fail
        have O0 : Hid ((w3.alloc (.cells #[.int .i64 (-1)] 3)).ownsRow w3.heap.size 3 1 (.slice (some ⟨w3.heap.size, 0, none⟩) 1 1) 1 (ints [-1]).flatten) := World.ownsRow_lit w3 #[.int .i64 (-1)] 1 (Nat.le_refl _) (by simp [maxLen]) rfl
        have V0 : Hid (Up w3 (w3.alloc (.cells #[.int .i64 (-1)] 3))) := Lib.hid (by (repeat (first | exact Below.refl _ _ | (with_reducible refine Below.drewN' ?_ _) | (with_reducible refine Below.drew ?_) | (with_reducible refine Below.setCell ?_ (by first | exact Nat.le_refl _ | omega | (with_reducible (repeat (first | refine sz_alloc ?_ | refine sz_setCell ?_ | refine sz_drew ?_ | refine sz_drewN ?_)); first | exact Nat.le_refl _ | omega) | (simp only [World.size_alloc, World.size_setCell, World.size_drew, size_drewN']; omega)) _) | (with_reducible refine Below.alloc ?_ (by first | exact Nat.le_refl _ | omega | (with_reducible (repeat (first | refine sz_alloc ?_ | refine sz_setCell ?_ | refine sz_drew ?_ | refine sz_drewN ?_)); first | exact Nat.le_refl _ | omega) | (simp only [World.size_alloc, World.size_setCell, World.size_drew, size_drewN']; omega)) _) | assumption)))
        generalize (w3.alloc (.cells #[.int .i64 (-1)] 3)) = w4 at *
        go_loopw [11, 12, 13, 14, 15, 16] (fun a c v i _ _ wr => ∃ (k : Nat) (M : List Int) (ev cv : Int), k ≤ way.length ∧ a = .int .i64 ev ∧ c = .int .i64 cv ∧ i = .int .i64 k ∧ folS s way [] (-1) 0 = folS s (way.drop k) M ev cv ∧ M.length = k ∧ wr.ownsRow w3.heap.size 3 1 v (k + 1) (ints (-1 :: M)).flatten ∧ Up w3 wr) (fun _ _ _ i _ _ _ => way.length - (intOf i).toNat)
        case atStart => exact ⟨0, [], -1, 0, Nat.zero_le _, rfl, rfl, rfl, rfl, rfl, O0.out, V0.out⟩
        case round =>
          obtain ⟨k, M, ev, cv, hk, rfl, rfl, rfl, ht, hM, hown, hu⟩ := hrel
          have HT := Lib.hid ht
          have HU := Lib.hid hu
          have HO := Lib.hid hown
          have HM := Lib.hid hM
          clear ht hown hM O0 V0
          by_cases hlt : k < way.length
          · obtain ⟨b, off, rfl, d0⟩ := (H1.out.up (Up.trans U3.out hu)).int k hlt
            have HD := Lib.hid (List.drop_eq_getElem_cons hlt)
            have hy := GS.out way[k] (List.getElem_mem hlt)
            have b1 : (k : Int) < (way.length : Int) := by omega
            generalize way[k] = y at *
            obtain ⟨m, rfl⟩ := Int.eq_ofNat_of_zero_le hy.1
            have hm : m < s.sills.length := by omega
            have b2 : (m : Int) < (s.sills.length : Int) := by omega
            obtain ⟨bs, os, rfl, e0, e1, e2⟩ := ((HL.out.up (Up.trans U3.out hu)).rs).triple m hm
            obtain ⟨c0, c1', c2', c3, c4⟩ := five (B3.out.up hu)
            have HR := Lib.hid (other_rng OK.out m hm ev)
            have HSA := Lib.hid (sillAt_nat m hm)
            have HTW := Lib.hid (OK.out.two _ (List.getElem_mem hm))
            generalize s.sills[m] = sl at *
            obtain ⟨a, b', h⟩ := sl
            dsimp only at e0 e1 e2 HTW
            have lb := cell_lt d0
            have le := cell_lt e0
            have lc := cell_lt c4
            clear hy
            go_wp2_with fail
            go_region
            go_upto_if 52 with fail
            refine Code.wp_world ?_
            intro w5 hw5
            have BX : Hid (Blk w5 wr.heap.size [.int .i64 a, .int .i64 b', .int .i64 h] 131) := by
              show Blk _ _ _ _
              rw [hw5]
              exact (Blk.new wr [.int .i64 a, .int .i64 b', .int .i64 h] 131).drew
            have u5 : Up wr w5 := by rw [hw5]; (repeat (first | exact Below.refl _ _ | (with_reducible refine Below.drewN' ?_ _) | (with_reducible refine Below.drew ?_) | (with_reducible refine Below.setCell ?_ (by first | exact Nat.le_refl _ | omega | (with_reducible (repeat (first | refine sz_alloc ?_ | refine sz_setCell ?_ | refine sz_drew ?_ | refine sz_drewN ?_)); first | exact Nat.le_refl _ | omega) | (simp only [World.size_alloc, World.size_setCell, World.size_drew, size_drewN']; omega)) _) | (with_reducible refine Below.alloc ?_ (by first | exact Nat.le_refl _ | omega | (with_reducible (repeat (first | refine sz_alloc ?_ | refine sz_setCell ?_ | refine sz_drew ?_ | refine sz_drewN ?_)); first | exact Nat.le_refl _ | omega) | (simp only [World.size_alloc, World.size_setCell, World.size_drew, size_drewN']; omega)) _) | assumption))
            have O5 : Hid (World.ownsRow w5 w3.heap.size 3 1 u13 (k + 1) (ints (-1 :: M)).flatten) := by
              show World.ownsRow _ _ _ _ _ _ _
              rw [hw5]
              exact (HO.out.alloc _).drew
            have U5 := Lib.hid (Up.trans HU.out u5)
            clear hw5 u5 hu HO HU e0 e1 e2 d0 c0 c1' c2' c3 c4 lb le lc
            have HN := Lib.hid (nxt_other (a := a) (b := b') (h := h) (e := ev) HTW.out)
            have HG := Lib.hid (folS_go (s := s) (i := (m : Int)) (r := way.drop (k + 1)) (M := M) (e := ev) (c := cv))
            have HP := Lib.hid (folS_stop (s := s) (i := (m : Int)) (r := way.drop (k + 1)) (M := M) (e := ev) (c := cv))
            rw [HSA.out] at HG HP
            generalize wr.heap.size = X at *
            have y0 := BX.out.cell 0
            have y1 := BX.out.cell 1
            have lx := BX.out.lt
            simp only [List.getElem?_cons_zero, List.getElem?_cons_succ] at y0 y1
            go_cut [16] (fun nv wx => nv = .int .i64 (if a = ev then b' else -2) ∧ w5 = wx)
            case first =>
              by_cases g : a = ev
              · have g1 : (a == ev) = true := by rw [g]; exact beq_self_eq_true _
                have HQ := Lib.hid (show (if a = ev then b' else -2) = b' from if_pos g)
                clear g
                go_wp2_with fail
                go_meet
                exact ⟨by rw [HQ.out], rfl⟩
              · have g1 : (a == ev) = false := beq_eq_false_iff_ne.2 g
                have HQ := Lib.hid (show (if a = ev then b' else -2) = -2 from if_neg g)
                clear g
                go_wp2_with fail
                go_meet
                exact ⟨by rw [HQ.out], rfl⟩
            case rest =>
              obtain ⟨rfl, rfl⟩ := hcut
              have HNX := Lib.hid (fun g : ¬ b' = ev => show nxt a b' ev = (if a = ev then b' else -2) from if_neg g)
              generalize (if a = ev then b' else -2) = nx1 at *
              go_upto_if 58 with fail
              go_cut [16] (fun nv wx => nv = .int .i64 (nxt a b' ev) ∧ w5 = wx)
              case first =>
                by_cases g : b' = ev
                · have g1 : (b' == ev) = true := by rw [g]; exact beq_self_eq_true _
                  have HQ := Lib.hid (show nxt a b' ev = a from if_pos g)
                  clear g
                  go_wp2_with fail
                  go_meet
                  exact ⟨by rw [HQ.out], rfl⟩
                · have g1 : (b' == ev) = false := beq_eq_false_iff_ne.2 g
                  have HQ := Lib.hid (HNX.out g)
                  clear g
                  go_wp2_with fail
                  go_meet
                  exact ⟨by rw [HQ.out], rfl⟩
              case rest =>
                obtain ⟨rfl, rfl⟩ := hcut
                have HN' := HN.out
                have HR' := HR.out
                generalize nxt a b' ev = nx at *
                generalize other (a, b', h) ev = ov at *
                have hmk := HM.out
                obtain ⟨q, d, rfl, -, -, hR, -⟩ := Row.of_own (rows := ints (-1 :: M)) (flatOk_ints _) O5.out (by simp [ints, hmk])
                have HHW := Lib.hid (fun (v : Int) => HH.out (-1 :: M) q d v w5 hR (by simp [maxLen]; omega))
                rw [show (-1 :: M).length = k + 1 by simp [hmk]] at HHW
                clear hR hmk
                rcases HN' with ⟨rfl, ho⟩ | rfl
                · have HX : Hid (folV s way = (-1, 0)) := by
                    show _ = _
                    unfold folV
                    rw [HT.out, HD.out, HP.out (.inl ho)]
                    rfl
                  have HE8 := Lib.hid (HZ8.out (by rw [HX.out]))
                  clear ho
                  go_wp2_with fail
                  go_ret2
                  rw [HE8.out.1, HE8.out.2]
                  exact ⟨rfl, Up.trans U3.out U5.out⟩
                · rcases HR' with rfl | ⟨t, rfl, ht⟩
                  · have HX : Hid (folV s way = (-1, 0)) := by
                      show _ = _
                      unfold folV
                      rw [HT.out, HD.out, HP.out (.inl rfl)]
                      rfl
                    have HE8 := Lib.hid (HZ8.out (by rw [HX.out]))
                    go_wp2_with fail
                    refine (HHW.out (-1)).mono ?_
                    rintro e w' ⟨he, rfl⟩
                    rw [decide_eq_true (by simp : (-1 : Int) ∈ -1 :: M)] at he
                    subst he
                    go_wp2_with fail
                    go_ret2
                    rw [HE8.out.1, HE8.out.2]
                    exact ⟨rfl, Up.trans U3.out U5.out⟩
                  · have g2 : ((t : Int) == -2) = false := beq_eq_false_iff_ne.2 (by omega)
                    by_cases hmt : (t : Int) ∈ M
                    · have HX : Hid (folV s way = (-1, 0)) := by
                        show _ = _
                        unfold folV
                        rw [HT.out, HD.out, HP.out (.inr hmt)]
                        rfl
                      have HE8 := Lib.hid (HZ8.out (by rw [HX.out]))
                      go_wp2_with fail
                      refine (HHW.out t).mono ?_
                      rintro e w' ⟨he, rfl⟩
                      rw [decide_eq_true (List.mem_cons_of_mem _ hmt)] at he
                      subst he
                      clear hmt
                      go_wp2_with fail
                      go_ret2
                      rw [HE8.out.1, HE8.out.2]
                      exact ⟨rfl, Up.trans U3.out U5.out⟩
                    · have HX : Hid (folS s way [] (-1) 0 = folS s (way.drop (k + 1)) (M ++ [(t : Int)]) t (max cv (max h (flAt s t)))) := by
                        show _ = _
                        rw [HT.out, HD.out, HG.out (by rintro (h | h); omega; exact hmt h)]
                      rw [flAt_nat t ht] at HX
                      have hnm : (t : Int) ∉ -1 :: M := by
                        rw [List.mem_cons]
                        rintro (h | h)
                        · omega
                        · exact hmt h
                      go_wp2_with fail
                      refine (HHW.out t).mono ?_
                      rintro e w' ⟨he, rfl⟩
                      rw [decide_eq_false hnm] at he
                      subst he
                      clear hmt hnm HHW y0 y1 HP HG
                      have hsz := U5.out.size
                      obtain ⟨bf, of', rfl, -⟩ := ((HL.out.up (Up.trans U3.out U5.out)).rf).int t ht
                      have t1 : (t : Int) < s.floors.length := by omega
                      go_wp2_with (at_builtin; refine wpList_append_own _ rfl _ _ 25 rfl w3.heap.size 3 i0 (.int .i64 0) 1 8 Try.underlying25 hi hz0 hz1 hz2 rfl (by decide) _ _ _ rfl (O5.out.alloc _) ⟨w5.heap.size, 0, none⟩ 1 1 [.int .i64 t] rfl rfl (newsAt _ rfl [.int .i64 t] _) (by simp [Value.oneCell']) (by simp [maxLen]; omega) (by omega) (sz_alloc hsz) ?_; intro v' w8 hown8 hgr8 hnn; clear hnn)
                      have U8 := Lib.hid ((U5.out.alloc hsz _).grown hgr8 (sz_alloc hsz) (fun j e => (O5.out.lt j e).1))
                      have BX8 := Lib.hid ((BX.out.alloc _).grown hgr8 (fun e => own_ne O5.out BX.out (by decide) e.symm))
                      have O8 := Lib.hid hown8
                      clear hown8 hgr8 lx
                      have y2 := BX8.out.cell 2
                      have ly := BX8.out.lt
                      simp only [List.getElem?_cons_zero, List.getElem?_cons_succ] at y2
                      obtain ⟨c0, c1', c2', c3, c4⟩ := five (B3.out.up U8.out)
                      have lc := cell_lt c3
                      obtain ⟨bf', of'', hbf, f0⟩ := ((HL.out.up (Up.trans U3.out U8.out)).rf).int t ht
                      obtain ⟨rfl, rfl⟩ : bf = bf' ∧ of' = of'' := by simpa using hbf
                      have lf := cell_lt f0
                      clear hbf c0 c1' c2' c4
                      go_region
                      go_wp2_with fail
                      go_roundw
                      case rel =>
                        try ((repeat apply Exists.intro); refine ⟨?_, rfl⟩)
                        refine ⟨k + 1, M ++ [(t : Int)], t, _, hlt, rfl, rfl, by go_num, ?_, by simp [HM.out], ?_, U8.out.drew⟩
                        · rw [HX.out]
                          congr 1
                          rw [show max cv (max h s.floors[t]) = max (max cv h) s.floors[t] by omega]
                          simp only [Int.max_def]
                          repeat' split
                          all_goals omega
                        · have e : (ints (-1 :: (M ++ [(t : Int)]))).flatten = (ints (-1 :: M)).flatten ++ [.int .i64 t] := by
                            rw [← List.cons_append]
                            unfold ints
                            rw [List.map_append, List.flatten_append]
                            rfl
                          rw [e]
                          exact O8.out.drew
                      case measure => simp [intOf]; omega
          · obtain rfl : k = way.length := by omega
            have HX : Hid (folV s way = (ev, cv)) := by
              show _ = _
              unfold folV
              rw [HT.out, List.drop_eq_nil_of_le (Nat.le_refl _)]
              rfl
            have U9 := Lib.hid (Up.trans U3.out HU.out)
            clear hu hlt HT HO
            by_cases he : ev = n
            · have HE2 : Hid (errCrest s n way = 0) := by show _ = _; rw [HE1.out, HX.out, if_pos he]
              have HZ : Hid (crestV s n way = cv) := by show _ = _; unfold crestV; rw [if_pos HE2.out, HX.out]
              have g1 : (ev != (n : Int)) = false := by rw [he]; simp
              clear he
              go_wp2_with fail
              go_ret2
              rw [HE2.out, HZ.out]
              exact ⟨rfl, U9.out⟩
            · have HE2 : Hid (errCrest s n way = 8) := by show _ = _; rw [HE1.out, HX.out, if_neg he]
              have HZ := Lib.hid (HV.out (by rw [HE2.out]; decide))
              have g1 : (ev != (n : Int)) = true := by rw [bne_iff_ne]; exact he
              clear he
              go_wp2_with fail
              go_ret2
              rw [HE2.out, HZ.out]
              exact ⟨rfl, U9.out⟩
  · have n1 : (chk s != 0) = true := by rw [bne_iff_ne]; exact hE
    have HE : Hid (errCrest s x way = chk s) := by
      have k : errFor s x = chk s := by unfold errFor; rw [if_neg hE]
      show _ = _
      unfold errCrest
      rw [k, if_neg hE]
    have HZ := Lib.hid (HV.out (by rw [HE.out]; exact hE))
    clear hE
    go_wp2_with fail
    go_ret2
    rw [HE.out, HZ.out]
    exact ⟨rfl, U1.out⟩
end
end Go.Proofs.Ytcljkkojeleakaa
/- The law TideBanks returns true, of sands, ways and banks that are not too wide. -/
namespace Go.Proofs.Ytcljkkojeleakaa
open Go.RowKit Go.Shelf

section
variable {pT pF pS : Option Addr} {cT cF cS : Nat}
set_option maxRecDepth 100000 in
set_option maxHeartbeats 4000000 in
theorem banks_c (s : Sd) (x : Int) (la lb lc : List Int) (qa qb qc : Option Addr) (da db dc : Nat) (w : World) (hl : Lists w s pT pF pS cT cF cS) (ra : Row w qa 1 (ints la)) (rb : Row w qb 1 (ints lb)) (rc : Row w qc 1 (ints lc)) (b1 : s.table.length * 16 ≤ 140737488355328) (b2 : s.floors.length * 8 ≤ 140737488355328) (b3 : s.sills.length * 24 ≤ 140737488355328) (hw : wideB s = false) (ka : la.length ≤ 12) (kb : lb.length ≤ 20) (kc : lc.length ≤ 20) :
    Calls Try.prog 5 #[sdVal s pT pF pS cT cF cS, .int .i64 x, .slice qa la.length da, .slice qb lb.length db, .slice qc lc.length dc] w fun e w' => e = .returned (.bool true) ∧ Up w w' := by
  have HO := Lib.hid (fun W (u : Up w W) => own_c s W (hl.up u) b1 b2 b3)
  have HT := Lib.hid (fun W (u : Up w W) => theirs_c s W (hl.up u) b1 b2 b3)
  have HL := Lib.hid hl
  have RA := Lib.hid ra
  have RB := Lib.hid rb
  have RC := Lib.hid rc
  have HW := Lib.hid hw
  have KM : Hid (la.length ≤ maxLen ∧ lb.length ≤ maxLen ∧ lc.length ≤ maxLen) := by
    show _ ∧ _
    simp only [maxLen]
    omega
  have g1 : ¬ (12 : Int) < (la.length : Int) := by omega
  have g2 : ¬ (20 : Int) < (lb.length : Int) := by omega
  have g3 : ¬ (20 : Int) < (lc.length : Int) := by omega
  clear hl b1 b2 b3 hw ra rb rc
  unfold sdVal
  go_enter Try.func5, Try.ntmps5
  go_wp2_with fail
  refine (wide_c s _).mono ?_
  rw [HW.out]
  rintro e w1 ⟨rfl, u1⟩
  go_upto_region 3 with fail
  have hB : At5 w1 w.heap.size s pT pF pS cT cF cS := At5.of ((Blk.new w (sdCells s pT pF pS cT cF cS) 28).up u1)
  have HB := Lib.hid hB
  have U1 : Hid (Up w w1) := Up.trans (by (repeat (first | exact Below.refl _ _ | (with_reducible refine Below.drewN' ?_ _) | (with_reducible refine Below.drew ?_) | (with_reducible refine Below.setCell ?_ (by first | exact Nat.le_refl _ | omega | (with_reducible (repeat (first | refine sz_alloc ?_ | refine sz_setCell ?_ | refine sz_drew ?_ | refine sz_drewN ?_)); first | exact Nat.le_refl _ | omega) | (simp only [World.size_alloc, World.size_setCell, World.size_drew, size_drewN']; omega)) _) | (with_reducible refine Below.alloc ?_ (by first | exact Nat.le_refl _ | omega | (with_reducible (repeat (first | refine sz_alloc ?_ | refine sz_setCell ?_ | refine sz_drew ?_ | refine sz_drewN ?_)); first | exact Nat.le_refl _ | omega) | (simp only [World.size_alloc, World.size_setCell, World.size_drew, size_drewN']; omega)) _) | assumption))) u1
  have HO1 := Lib.hid (fun W (u : Up w1 W) => HO.out W (Up.trans U1.out u))
  have HT1 := Lib.hid (fun W (u : Up w1 W) => HT.out W (Up.trans U1.out u))
  have HDa := Lib.hid (fun W (u : Up w1 W) => dupInt_c la qa da W (RA.out.up (Up.trans U1.out u)) (by omega))
  have HDb := Lib.hid (fun W (u : Up w1 W) => dupInt_c lb qb db W (RB.out.up (Up.trans U1.out u)) (by omega))
  have HDc := Lib.hid (fun W (u : Up w1 W) => dupInt_c lc qc dc W (RC.out.up (Up.trans U1.out u)) (by omega))
  clear hB u1 HO HT g1 g2 g3
  go_cut [11, 12, 13, 14, 15] (fun a b va vb vc wx => Both w1 wx s a b ∧ RowV wx va la ∧ RowV wx vb lb ∧ RowV wx vc lc)
  case first =>
    refine region_inv3 12 (fun done a W => ∃ V : Nat → Value, a = ⟨#[.agg #[.slice pT s.table.length cT, .int .i64 s.lo, .int .i64 s.hi, .slice pF s.floors.length cF, .slice pS s.sills.length cS], .int .i64 x, .slice qa la.length da, .slice qb lb.length db, .slice qc lc.length dc, .pointer (some ⟨w.heap.size, 0, none⟩), undef, undef, undef, undef, .bool false, V 10, V 11, undef, undef, undef, undef, undef, undef, undef, .agg #[.slice pT s.table.length cT, .int .i64 s.lo, .int .i64 s.hi, .slice pF s.floors.length cF, .slice pS s.sills.length cS], .bool false, .bool false, .slice qa la.length da, .int .i64 la.length, .bool false, .bool false, .bool false, .slice qb lb.length db, .int .i64 lb.length, .bool false, .bool false, .bool false, .slice qc lc.length dc, .int .i64 lc.length, .bool (decide ((20 : Int) < lc.length)), .bool (decide ((20 : Int) < lc.length)), undef, V 0, V 1, V 2, V 3, V 4, V 5, V 6, V 7, V 8, V 9, undef, undef, undef, undef, undef, undef, undef, undef, undef, undef, undef, undef, undef, undef, undef, undef, undef, undef, undef, undef, undef, undef, undef, undef, undef, undef, undef, undef, undef, undef, undef, undef, undef, undef, undef, undef, undef, undef, undef, undef, undef, undef, undef, undef, undef, undef, undef, undef, undef, undef, undef, undef, undef, undef, undef, undef, undef, undef, undef, undef, undef, undef, undef, undef, undef, undef, undef, undef, undef], []⟩ ∧ Five w1 s (.agg #[.slice pT s.table.length cT, .int .i64 s.lo, .int .i64 s.hi, .slice pF s.floors.length cF, .slice pS s.sills.length cS]) (.slice qa la.length da) (.slice qb lb.length db) (.slice qc lc.length dc) la lb lc done W V) mixed (by kernel_rfl) ?_ ?_ ?_
    · exact ⟨_, rfl, Five.start _ _ _ _ _ _ _ _ _⟩
    · intro done a W i o hi hd ho hall hinv
      obtain ⟨V, rfl, hC⟩ := hinv
      obtain ⟨c0, c1, c2, c3, c4⟩ := HB.out.up hC.pair.up
      have HC := Lib.hid hC
      have HA := Lib.hid hall
      clear hC hall hd
      obtain rfl | rfl | rfl | rfl | rfl | rfl | rfl | rfl | rfl | rfl | rfl | rfl : i = 0 ∨ i = 1 ∨ i = 2 ∨ i = 3 ∨ i = 4 ∨ i = 5 ∨ i = 6 ∨ i = 7 ∨ i = 8 ∨ i = 9 ∨ i = 10 ∨ i = 11 := by omega
      · clear ho HA
        refine wpOp_step rfl (fun K hK => ?_)
        rw [if_pos (by rfl)]
        have HK := Lib.hid hK
        clear hK
        go_simp
        exact HK.out _ _ ⟨_, rfl, HC.out.load0⟩
      · have e0 := Lib.hid (HC.out.pair.l0 (HA.out ⟨0, .data⟩ (by cases ho; simp) rfl))
        clear ho HA
        refine wpOp_step rfl (fun K hK => ?_)
        rw [if_pos (by rfl)]
        have HK := Lib.hid hK
        clear hK
        go_simp
        have hcall := HO1.out W HC.out.pair.up
        rw [show sdVal s pT pF pS cT cF cS = V 0 from e0.out.symm] at hcall
        refine hcall.mono ?_
        rintro e w2 ⟨qT, qF, qS, dT, dF, dS, rfl, h1, h2, h3⟩
        exact HK.out _ _ ⟨_, rfl, HC.out.call1 h2 h1 h3⟩
      · clear ho HA
        refine wpOp_step rfl (fun K hK => ?_)
        rw [if_pos (by rfl)]
        have HK := Lib.hid hK
        clear hK
        go_simp
        exact HK.out _ _ ⟨_, rfl, HC.out.load2⟩
      · have e0 := Lib.hid (HC.out.pair.l2 (HA.out ⟨2, .data⟩ (by cases ho; simp) rfl))
        clear ho HA
        refine wpOp_step rfl (fun K hK => ?_)
        rw [if_pos (by rfl)]
        have HK := Lib.hid hK
        clear hK
        go_simp
        have hcall := HT1.out W HC.out.pair.up
        rw [show sdVal s pT pF pS cT cF cS = V 2 from e0.out.symm] at hcall
        refine hcall.mono ?_
        rintro e w2 ⟨qT, qF, qS, dT, dF, dS, rfl, h1, h2, h3⟩
        exact HK.out _ _ ⟨_, rfl, HC.out.call3 h2 h1 h3⟩
      · clear ho HA
        refine wpOp_step rfl (fun K hK => ?_)
        rw [if_pos (by rfl)]
        have HK := Lib.hid hK
        clear hK
        go_simp
        exact HK.out _ _ ⟨_, rfl, HC.out.mv4⟩
      · have e0 := Lib.hid (HC.out.a.1 (HA.out ⟨4, .data⟩ (by cases ho; simp) rfl))
        clear ho HA
        refine wpOp_step rfl (fun K hK => ?_)
        rw [if_pos (by rfl)]
        have HK := Lib.hid hK
        clear hK
        go_simp
        have hcall := HDa.out W HC.out.pair.up
        rw [show (Value.slice qa la.length da) = V 4 from e0.out.symm] at hcall
        refine hcall.mono ?_
        rintro e w2 ⟨q', d', rfl, -, -, r, hq, u⟩
        exact HK.out _ _ ⟨_, rfl, HC.out.dup5 u r hq⟩
      · clear ho HA
        refine wpOp_step rfl (fun K hK => ?_)
        rw [if_pos (by rfl)]
        have HK := Lib.hid hK
        clear hK
        go_simp
        exact HK.out _ _ ⟨_, rfl, HC.out.mv6⟩
      · have e0 := Lib.hid (HC.out.b.1 (HA.out ⟨6, .data⟩ (by cases ho; simp) rfl))
        clear ho HA
        refine wpOp_step rfl (fun K hK => ?_)
        rw [if_pos (by rfl)]
        have HK := Lib.hid hK
        clear hK
        go_simp
        have hcall := HDb.out W HC.out.pair.up
        rw [show (Value.slice qb lb.length db) = V 6 from e0.out.symm] at hcall
        refine hcall.mono ?_
        rintro e w2 ⟨q', d', rfl, -, -, r, hq, u⟩
        exact HK.out _ _ ⟨_, rfl, HC.out.dup7 u r hq⟩
      · clear ho HA
        refine wpOp_step rfl (fun K hK => ?_)
        rw [if_pos (by rfl)]
        have HK := Lib.hid hK
        clear hK
        go_simp
        exact HK.out _ _ ⟨_, rfl, HC.out.mv8⟩
      · have e0 := Lib.hid (HC.out.c.1 (HA.out ⟨8, .data⟩ (by cases ho; simp) rfl))
        clear ho HA
        refine wpOp_step rfl (fun K hK => ?_)
        rw [if_pos (by rfl)]
        have HK := Lib.hid hK
        clear hK
        go_simp
        have hcall := HDc.out W HC.out.pair.up
        rw [show (Value.slice qc lc.length dc) = V 8 from e0.out.symm] at hcall
        refine hcall.mono ?_
        rintro e w2 ⟨q', d', rfl, -, -, r, hq, u⟩
        exact HK.out _ _ ⟨_, rfl, HC.out.dup9 u r hq⟩
      · clear ho HA
        refine wpOp_step rfl (fun K hK => ?_)
        rw [if_pos (by rfl)]
        have HK := Lib.hid hK
        clear hK
        go_simp
        exact HK.out _ _ ⟨_, rfl, HC.out.alloc10⟩
      · clear ho HA
        refine wpOp_step rfl (fun K hK => ?_)
        rw [if_pos (by rfl)]
        have HK := Lib.hid hK
        clear hK
        go_simp
        exact HK.out _ _ ⟨_, rfl, HC.out.alloc11⟩
    · rintro a W ⟨V, rfl, hC⟩
      obtain ⟨⟨u, -, -, h1, h3, h4, h5, -, -⟩, hA, hB, hD⟩ := hC
      replace hA := hA.2 rfl
      replace hB := hB.2 rfl
      replace hD := hD.2 rfl
      replace h1 := h1 rfl
      replace h3 := h3 rfl
      replace h4 := h4 rfl
      replace h5 := h5 rfl
      generalize V 0 = v0 at *
      generalize V 1 = v1 at *
      generalize V 2 = v2 at *
      generalize V 3 = v3 at *
      generalize V 4 = v4 at *
      generalize V 5 = v5 at *
      generalize V 6 = v6 at *
      generalize V 7 = v7 at *
      generalize V 8 = v8 at *
      generalize V 9 = v9 at *
      generalize V 10 = v10 at *
      generalize V 11 = v11 at *
      obtain ⟨B5, rfl, k5, n5⟩ := h4
      obtain ⟨B6, rfl, k6, n6⟩ := h5
      obtain ⟨qT, qF, qS, dT, dF, dS, rfl, l1, o1, p1⟩ := h1
      obtain ⟨rT, rF, rS, gT, gF, gS, rfl, l3, o3, p3⟩ := h3
      obtain ⟨ya, ea, rfl, r1, r2, r3⟩ := hA
      obtain ⟨yb, eb, rfl, s1, s2, s3⟩ := hB
      obtain ⟨yc, ec, rfl, t1, t2, t3⟩ := hD
      change wpList _ _ _ [_, _, _, _, _] _ _
      have ne : B5 ≠ B6 := k5.ne k6 (by decide)
      have HBoth : Hid (Both w1 (fill (fill W B5 s qT qF qS dT dF dS) B6 s rT rF rS gT gF gS) s (.pointer (some ⟨B5, 0, none⟩)) (.pointer (some ⟨B6, 0, none⟩))) :=
        ⟨B5, B6, qT, qF, qS, dT, dF, dS, rT, rF, rS, gT, gF, gS, rfl, rfl, fill_up (fill_up u n5 _ _ _ _ _ _ _) n6 _ _ _ _ _ _ _, fill_lists (fill_lists l1 o1 _ _ _ _ _ _) p1 _ _ _ _ _ _, fill_lists (fill_lists l3 o3 _ _ _ _ _ _) p3 _ _ _ _ _ _,
          At5.of (fill_other (fill_blk k5 _ _ _ _ _ _ _) ne _ _ _ _ _ _ _), At5.of (fill_blk (fill_other k6 (Ne.symm ne) _ _ _ _ _ _ _) _ _ _ _ _ _ _)⟩
      have HRows : Hid (RowV (fill (fill W B5 s qT qF qS dT dF dS) B6 s rT rF rS gT gF gS) (.slice ya la.length ea) la ∧ RowV (fill (fill W B5 s qT qF qS dT dF dS) B6 s rT rF rS gT gF gS) (.slice yb lb.length eb) lb ∧ RowV (fill (fill W B5 s qT qF qS dT dF dS) B6 s rT rF rS gT gF gS) (.slice yc lc.length ec) lc) :=
        ⟨⟨_, _, rfl, (r1.fill r2 _ _ _ _ _ _ _).fill r3 _ _ _ _ _ _ _⟩, ⟨_, _, rfl, (s1.fill s2 _ _ _ _ _ _ _).fill s3 _ _ _ _ _ _ _⟩, ⟨_, _, rfl, (t1.fill t2 _ _ _ _ _ _ _).fill t3 _ _ _ _ _ _ _⟩⟩
      have y0 := k5.cell 0
      have y1 := k5.cell 1
      have y2 := k5.cell 2
      have y3 := k5.cell 3
      have y4 := k5.cell 4
      have yf := k5.free
      have x0 := k6.cell 0
      have x1 := k6.cell 1
      have x2 := k6.cell 2
      have x3 := k6.cell 3
      have x4 := k6.cell 4
      have xf := k6.free
      simp only [zero5, List.getElem?_cons_zero, List.getElem?_cons_succ] at y0 y1 y2 y3 y4 x0 x1 x2 x3 x4
      have ne' := Ne.symm ne
      clear l1 l3 o1 o3 p1 p3 k5 k6 u n5 n6 HO1 HT1 HDa HDb HDc r1 r2 r3 s1 s2 s3 t1 t2 t3
      unfold sdVal
      dsimp only
      go_wp2_with fail
      go_meet
      exact ⟨HBoth.out, HRows.out⟩
  case rest =>
    obtain ⟨⟨B5, B6, qT, qF, qS, dT, dF, dS, rT, rF, rS, gT, gF, gS, rfl, rfl, u, l5, l6, a5, a6⟩, ⟨ya, ea, rfl, r1⟩, ⟨yb, eb, rfl, r2⟩, ⟨yc, ec, rfl, r3⟩⟩ := hcut
    have L5 := Lib.hid l5
    have L6 := Lib.hid l6
    have A5 := Lib.hid a5
    have A6 := Lib.hid a6
    have R1 := Lib.hid r1
    have R2 := Lib.hid r2
    have R3 := Lib.hid r3
    have A0 := Lib.hid (HB.out.up u)
    have U0 := Lib.hid (Up.trans U1.out u)
    clear l5 l6 a5 a6 u U1 HB HO1 HT1 w1 r1 r2 r3 HDa HDb HDc
    generalize wc = wq at *
    have HC1 := Lib.hid (fun W (u : Up wq W) => Crest_c s x la ya ea W (L5.out.up u) (R1.out.up u) (by omega))
    have HC2 := Lib.hid (fun W (u : Up wq W) => refCrest_c s x la qa da W (L6.out.up u) (RA.out.up (Up.trans U0.out u)) (by omega))
    have HH1 := Lib.hid (fun W (u : Up wq W) => Hold_c s x lb lc yb yc eb ec W (L5.out.up u) (R2.out.up u) (R3.out.up u) (by omega) (by omega))
    have HH2 := Lib.hid (fun W (u : Up wq W) => refHold_c s x lb lc qb qc db dc W (L6.out.up u) (RB.out.up (Up.trans U0.out u)) (RC.out.up (Up.trans U0.out u)) (by omega) (by omega))
    have HE1 := Lib.hid (fun W (u : Up wq W) => eqInt_c la la ya qa ea da W (R1.out.up u) (RA.out.up (Up.trans U0.out u)) KM.out.1 KM.out.1)
    have HE2 := Lib.hid (fun W (u : Up wq W) => eqInt_c lb lb yb qb eb db W (R2.out.up u) (RB.out.up (Up.trans U0.out u)) KM.out.2.1 KM.out.2.1)
    have HE3 := Lib.hid (fun W (u : Up wq W) => eqInt_c lc lc yc qc ec dc W (R3.out.up u) (RC.out.up (Up.trans U0.out u)) KM.out.2.2 KM.out.2.2)
    rw [decide_eq_true (rfl : la = la)] at HE1
    rw [decide_eq_true (rfl : lb = lb)] at HE2
    rw [decide_eq_true (rfl : lc = lc)] at HE3
    clear R1 R2 R3 RA RB RC KM
    generalize crestV s x la = vc at *
    generalize errCrest s x la = xc at *
    generalize holdV s x lb lc = vh at *
    generalize errHold s x lb lc = xh at *
    have n1 : (vc != vc) = false := by simp
    have n2 : (xc != xc) = false := by simp
    have n3 : (vh == vh) = true := by simp
    have n4 : (xh == xh) = true := by simp
    obtain ⟨c0, c1, c2, c3, c4⟩ := A5.out
    go_wp2_with fail
    refine (HC1.out wq (Below.refl _ _)).mono ?_
    rintro e w2 ⟨rfl, v⟩
    have V2 := Lib.hid v
    clear v c0 c1 c2 c3 c4 HC1
    obtain ⟨c0, c1, c2, c3, c4⟩ := A6.out.up V2.out
    go_wp2_with fail
    refine (HC2.out w2 V2.out).mono ?_
    rintro e w3 ⟨rfl, v⟩
    have V3 := Lib.hid (Up.trans V2.out v)
    clear v c0 c1 c2 c3 c4 HC2 V2
    obtain ⟨c0, c1, c2, c3, c4⟩ := A5.out.up V3.out
    go_wp2_with fail
    refine (HH1.out w3 V3.out).mono ?_
    rintro e w4 ⟨rfl, v⟩
    have V4 := Lib.hid (Up.trans V3.out v)
    clear v c0 c1 c2 c3 c4 HH1 V3
    obtain ⟨c0, c1, c2, c3, c4⟩ := A6.out.up V4.out
    go_wp2_with fail
    refine (HH2.out w4 V4.out).mono ?_
    rintro e w5 ⟨rfl, v⟩
    have V5 := Lib.hid (Up.trans V4.out v)
    clear v c0 c1 c2 c3 c4 HH2 V4
    obtain ⟨c0, c1, c2, c3, c4⟩ := A5.out.up V5.out
    obtain ⟨d0, d1, d2, d3, d4⟩ := A0.out.up V5.out
    go_wp2_with fail
    refine (same_c s w5 (L5.out.up V5.out) (HL.out.up (Up.trans U0.out V5.out))).mono ?_
    rintro e w6 ⟨rfl, v⟩
    have V6 := Lib.hid (Up.trans V5.out v)
    clear v V5 c0 c1 c2 c3 c4 d0 d1 d2 d3 d4
    go_wp2_with fail
    refine (HE1.out w6 V6.out).mono ?_
    rintro e w7 ⟨rfl, v⟩
    have V7 := Lib.hid (Up.trans V6.out v)
    clear v V6 HE1
    go_wp2_with fail
    refine (HE2.out w7 V7.out).mono ?_
    rintro e w8 ⟨rfl, v⟩
    have V8 := Lib.hid (Up.trans V7.out v)
    clear v V7 HE2
    go_wp2_with fail
    refine (HE3.out w8 V8.out).mono ?_
    rintro e w9 ⟨rfl, v⟩
    have V9 := Lib.hid (Up.trans U0.out (Up.trans V8.out v))
    clear v V8 HE3
    go_wp2_with fail
    refine (awake_c w9).mono ?_
    rintro e w10 ⟨rfl, v⟩
    have V10 := Lib.hid (Up.trans V9.out v)
    clear v V9
    go_wp2_with fail
    go_ret
    exact ⟨rfl, V10.out⟩
end
end Go.Proofs.Ytcljkkojeleakaa
/- Arguments of the laws on sands, opened. -/
namespace Go.Proofs.Ytcljkkojeleakaa
open Go.ChangeShapes Go.WideShapes Go.ChangeAt Go.RowKit

theorem own : ownKnob Try.prog.godebug = none := by kernel_rfl
theorem laidOut : laidOutB Try.prog = true := by kernel_rfl
theorem cellsWater : Try.prog.cellsOf 103 = 2 := by kernel_rfl
theorem cellsSill : Try.prog.cellsOf 97 = 3 := by kernel_rfl
theorem cellsInt : Try.prog.cellsOf 3 = 1 := by kernel_rfl
theorem cellsSands : Try.prog.cellsOf 28 = 5 := by kernel_rfl
theorem cellsSpan : Try.prog.cellsOf 24 = 2 := by kernel_rfl
theorem cellsT : Try.prog.cellsOf 22 = 1 := by kernel_rfl
theorem cellsF : Try.prog.cellsOf 25 = 1 := by kernel_rfl
theorem cellsS : Try.prog.cellsOf 26 = 1 := by kernel_rfl
theorem bytesWater : Try.prog.bytesOf 103 = 16 := by kernel_rfl
theorem bytesSill : Try.prog.bytesOf 97 = 24 := by kernel_rfl
theorem bytesInt : Try.prog.bytesOf 3 = 8 := by kernel_rfl

section
variable {H : Type} {enc : TypeId × Value → H} {w : World}

theorem el_water : ∀ fuel cs (y : DataW H × List MemPlace), DataW.trod enc Try.prog w 0 (fun _ => true) true fuel 103 cs = some y → AllInts 2 cs := fun _ _ _ h =>
  open_struct_row Try.underlying103 cellsWater (fun i f hf => by
    match i, hf with
    | 0, hf => cases hf; exact ⟨rfl, Try.underlying3, cellsInt⟩
    | 1, hf => cases hf; exact ⟨rfl, Try.underlying3, cellsInt⟩
    | i + 2, hf => simp at hf) h
theorem el_sill : ∀ fuel cs (y : DataW H × List MemPlace), DataW.trod enc Try.prog w 0 (fun _ => true) true fuel 97 cs = some y → AllInts 3 cs := fun _ _ _ h =>
  open_struct_row Try.underlying97 cellsSill (fun i f hf => by
    match i, hf with
    | 0, hf => cases hf; exact ⟨rfl, Try.underlying3, cellsInt⟩
    | 1, hf => cases hf; exact ⟨rfl, Try.underlying3, cellsInt⟩
    | 2, hf => cases hf; exact ⟨rfl, Try.underlying3, cellsInt⟩
    | i + 3, hf => simp at hf) h
theorem el_int : ∀ fuel cs (y : DataW H × List MemPlace), DataW.trod enc Try.prog w 0 (fun _ => true) true fuel 3 cs = some y → AllInts 1 cs := fun _ _ _ h => open_int_row Try.underlying3 h

theorem room_of {t e : TypeId} {d : DataW H} {cap len b : Nat} (ht : Try.prog.underlying t = some (.slice e)) (hb : Try.prog.bytesOf e = b) (hl : len ≤ cap)
    (hd : (d = .nil ∧ cap = 0) ∨ ∃ el sp, d = .slice el sp ∧ el.length + sp.length = cap) (hz : ∀ n ∈ DataW.weights Try.prog t d, n ≤ reachBytes) : len * b ≤ 140737488355328 := by
  rcases hd with ⟨rfl, rfl⟩ | ⟨el, sp, rfl, rfl⟩
  · have : len = 0 := by omega
    subst this; simp
  · have h := hz ((el.length + sp.length) * Try.prog.bytesOf e) (by simp [DataW.weights, ht])
    rw [hb] at h
    have h2 : len * b ≤ (el.length + sp.length) * b := Nat.mul_le_mul_right b hl
    simp only [reachBytes] at h
    omega

set_option maxRecDepth 100000 in
theorem open_sands {base : Nat} {v : Value} {d : DataW H} {p : List MemPlace} (hv : Value.okWide Try.prog w .any base 28 v) (h : DataW.Trod enc Try.prog w 0 (fun _ => true) true 28 v d p)
    (hz : ∀ n ∈ DataW.weights Try.prog 28 d, n ≤ reachBytes) :
    ∃ s pT pF pS cT cF cS, v = sdVal s pT pF pS cT cF cS ∧ Lists w s pT pF pS cT cF cS ∧ s.table.length * 16 ≤ 140737488355328 ∧ s.floors.length * 8 ≤ 140737488355328 ∧ s.sills.length * 24 ≤ 140737488355328 := by
  obtain ⟨cs, rfl, hsz⟩ := okWide_struct Try.underlying28 hv
  obtain ⟨l⟩ := cs
  match l, hsz.trans cellsSands with
  | [c0, c1, c2, c3, c4], _ =>
    obtain ⟨fuel, hf⟩ := h
    obtain ⟨xs, n, -, hx, -, hlen, hg⟩ := DataW.trod_struct Try.underlying28 hf
    match xs, hlen with
    | [y0, y1, y2, y3], _ =>
      have g0 : DataW.trod enc Try.prog w 0 (fun _ => true) true n 22 (([c0, c1, c2, c3, c4].drop 0).take (Try.prog.cellsOf 22)) = some y0 := hg 0 _ rfl
      rw [cellsT] at g0
      have g1 : DataW.trod enc Try.prog w 0 (fun _ => true) true n 24 (([c0, c1, c2, c3, c4].drop 1).take (Try.prog.cellsOf 24)) = some y1 := hg 1 _ rfl
      rw [cellsSpan] at g1
      have g2 : DataW.trod enc Try.prog w 0 (fun _ => true) true n 25 (([c0, c1, c2, c3, c4].drop 3).take (Try.prog.cellsOf 25)) = some y2 := hg 2 _ rfl
      rw [cellsF] at g2
      have g3 : DataW.trod enc Try.prog w 0 (fun _ => true) true n 26 (([c0, c1, c2, c3, c4].drop 4).take (Try.prog.cellsOf 26)) = some y3 := hg 3 _ rfl
      rw [cellsS] at g3
      simp only [List.drop_zero, List.drop_succ_cons, List.take_succ_cons, List.take_zero] at g0 g1 g2 g3
      simp only [Prod.mk.injEq] at hx
      obtain ⟨rfl, -⟩ := hx
      simp only [DataW.weights, Try.underlying28, List.map_cons, List.map_nil, DataW.weightsEach, List.append_nil, List.mem_append] at hz
      obtain ⟨pT, lT, cT, rT, rfl, a1, a2, rfl, a4, a5, a6⟩ := open_rows Try.underlying22 cellsWater (by decide) el_water g0
      obtain ⟨pF, lF, cF, rF, rfl, b1, b2, rfl, b4, b5, b6⟩ := open_rows Try.underlying25 cellsInt (by decide) el_int g2
      obtain ⟨pS, lS, cS, rS, rfl, e1, e2, rfl, e4, e5, e6⟩ := open_rows Try.underlying26 cellsSill (by decide) el_sill g3
      obtain ⟨lt, rfl⟩ := pairs_of a5
      obtain ⟨lf, rfl⟩ := ints_of b5
      obtain ⟨ls, rfl⟩ := triples_of e5
      obtain ⟨zs, k, -, -, -, zl, zg⟩ := DataW.trod_struct Try.underlying24 g1
      match zs, zl with
      | [z0, z1], _ =>
        have k0 : DataW.trod enc Try.prog w 0 (fun _ => true) true k 3 (([c1, c2].drop 0).take (Try.prog.cellsOf 3)) = some z0 := zg 0 _ rfl
        rw [cellsInt] at k0
        have k1 : DataW.trod enc Try.prog w 0 (fun _ => true) true k 3 (([c1, c2].drop 1).take (Try.prog.cellsOf 3)) = some z1 := zg 1 _ rfl
        rw [cellsInt] at k1
        simp only [List.drop_zero, List.drop_succ_cons, List.take_succ_cons, List.take_zero] at k0 k1
        obtain ⟨lo, hlo, -, -⟩ := DataW.trod_int Try.underlying3 k0
        obtain ⟨hi, hhi, -, -⟩ := DataW.trod_int Try.underlying3 k1
        simp only [List.cons.injEq, and_true] at hlo hhi
        subst hlo
        subst hhi
        have q0 : (pairs lt).length = lt.length := by simp [pairs]
        have q1 : (ints lf).length = lf.length := by simp [ints]
        have q2 : (triples ls).length = ls.length := by simp [triples]
        rw [q0] at a1
        rw [q1] at b1
        rw [q2] at e1
        refine ⟨⟨lt, lo, hi, lf, ls⟩, pT, pF, pS, cT, cF, cS, by simp only [sdVal, q0, q1, q2], ⟨a4, b4, e4, a1, b1, e1, a2, b2, e2⟩, ?_, ?_, ?_⟩
        · exact room_of Try.underlying22 bytesWater a1 a6 (fun n hn => hz n (.inl hn))
        · exact room_of Try.underlying25 bytesInt b1 b6 (fun n hn => hz n (.inr (.inr (.inl hn))))
        · exact room_of Try.underlying26 bytesSill e1 e6 (fun n hn => hz n (.inr (.inr (.inr hn))))
end
end Go.Proofs.Ytcljkkojeleakaa
namespace Go.Proofs.Ytcljkkojeleakaa
open Go.ChangeShapes Go.WideShapes Go.ChangeAt Go.RowKit

section
variable {H : Type} {enc : TypeId × Value → H}
set_option maxRecDepth 100000 in
theorem open_ints {w : World} {base : Nat} {v : Value} {d : DataW H} {ps : List MemPlace} (hv : Value.okWide Try.prog w .any base 25 v) (h : DataW.Trod enc Try.prog w 0 (fun _ => true) true 25 v d ps) (hz : ∀ n ∈ DataW.weights Try.prog 25 d, n ≤ reachBytes) :
    ∃ p l c, v = .slice p l.length c ∧ Row w p 1 (ints l) ∧ l.length * 8 ≤ 140737488355328 := by
  obtain ⟨fuel, hf⟩ := h
  obtain ⟨p0, n0, c0, rfl⟩ := okWide_slice Try.underlying25 hv
  have hf' : DataW.trod enc Try.prog w 0 (fun _ => true) true fuel 25 [.slice p0 n0 c0] = some (d, ps) := hf
  obtain ⟨p, len, cap, rows, e, a1, a2, a3, a4, a5, a6⟩ := open_rows Try.underlying25 cellsInt (by decide) el_int hf'
  obtain ⟨l, rfl⟩ := ints_of a5
  have q : (ints l).length = l.length := by simp [ints]
  rw [q] at a3
  subst a3
  exact ⟨p, l, cap, e, a4, room_of Try.underlying25 bytesInt a1 a6 hz⟩
end

section
variable {pT pF pS : Option Addr} {cT cF cS : Nat}
set_option maxRecDepth 100000 in
set_option maxHeartbeats 1000000 in
theorem banksWide_c (s : Sd) (x : Int) (la lb lc : List Int) (qa qb qc : Option Addr) (da db dc : Nat) (w : World) (hw : wideB s = true ∨ 12 < la.length ∨ 20 < lb.length ∨ 20 < lc.length) :
    Calls Try.prog 5 #[sdVal s pT pF pS cT cF cS, .int .i64 x, .slice qa la.length da, .slice qb lb.length db, .slice qc lc.length dc] w fun e w' => e = .returned (.bool true) ∧ Up w w' := by
  have HW := Lib.hid hw
  clear hw
  unfold sdVal
  go_enter Try.func5, Try.ntmps5
  go_wp2_with fail
  refine (wide_c s _).mono ?_
  rintro e w1 ⟨rfl, u1⟩
  have U1 : Hid (Up w w1) := Up.trans (by (repeat (first | exact Below.refl _ _ | (with_reducible refine Below.drewN' ?_ _) | (with_reducible refine Below.drew ?_) | (with_reducible refine Below.setCell ?_ (by first | exact Nat.le_refl _ | omega | (with_reducible (repeat (first | refine sz_alloc ?_ | refine sz_setCell ?_ | refine sz_drew ?_ | refine sz_drewN ?_)); first | exact Nat.le_refl _ | omega) | (simp only [World.size_alloc, World.size_setCell, World.size_drew, size_drewN']; omega)) _) | (with_reducible refine Below.alloc ?_ (by first | exact Nat.le_refl _ | omega | (with_reducible (repeat (first | refine sz_alloc ?_ | refine sz_setCell ?_ | refine sz_drew ?_ | refine sz_drewN ?_)); first | exact Nat.le_refl _ | omega) | (simp only [World.size_alloc, World.size_setCell, World.size_drew, size_drewN']; omega)) _) | assumption))) u1
  have HA := Lib.hid (awake_c w1)
  clear u1
  cases hb : wideB s with
  | true =>
    have HB := Lib.hid hb
    clear hb
    go_wp2_with fail
    all_goals
      refine HA.out.mono ?_
      rintro e w4 ⟨rfl, u4⟩
      have U4 := Lib.hid (Up.trans U1.out u4)
      clear u4 U1 HA
      go_wp2_with fail
      go_ret
      exact ⟨rfl, U4.out⟩
  | false =>
    have hw : 12 < la.length ∨ (la.length ≤ 12 ∧ (20 < lb.length ∨ (lb.length ≤ 20 ∧ 20 < lc.length))) := by
      rcases HW.out with h | h | h | h
      · rw [hb] at h; cases h
      · exact .inl h
      · by_cases k : 12 < la.length
        · exact .inl k
        · exact .inr ⟨by omega, .inl h⟩
      · by_cases k : 12 < la.length
        · exact .inl k
        · by_cases k2 : 20 < lb.length
          · exact .inr ⟨by omega, .inl k2⟩
          · exact .inr ⟨by omega, .inr ⟨by omega, h⟩⟩
    have HB := Lib.hid hb
    clear hb HW
    rcases hw with k | ⟨k, k2 | ⟨k2, k3⟩⟩
    · have g1 : (12 : Int) < (la.length : Int) := by omega
      go_wp2_with fail
      all_goals
        refine HA.out.mono ?_
        rintro e w4 ⟨rfl, u4⟩
        have U4 := Lib.hid (Up.trans U1.out u4)
        clear u4 U1 HA
        go_wp2_with fail
        go_ret
        exact ⟨rfl, U4.out⟩
    · have g1 : ¬ (12 : Int) < (la.length : Int) := by omega
      have g2 : (20 : Int) < (lb.length : Int) := by omega
      go_wp2_with fail
      all_goals
        refine HA.out.mono ?_
        rintro e w4 ⟨rfl, u4⟩
        have U4 := Lib.hid (Up.trans U1.out u4)
        clear u4 U1 HA
        go_wp2_with fail
        go_ret
        exact ⟨rfl, U4.out⟩
    · have g1 : ¬ (12 : Int) < (la.length : Int) := by omega
      have g2 : ¬ (20 : Int) < (lb.length : Int) := by omega
      have g3 : (20 : Int) < (lc.length : Int) := by omega
      go_wp2_with fail
      all_goals
        refine HA.out.mono ?_
        rintro e w4 ⟨rfl, u4⟩
        have U4 := Lib.hid (Up.trans U1.out u4)
        clear u4 U1 HA
        go_wp2_with fail
        go_ret
        exact ⟨rfl, U4.out⟩

theorem tideBanks_c (s : Sd) (x : Int) (la lb lc : List Int) (qa qb qc : Option Addr) (da db dc : Nat) (w : World) (hl : Lists w s pT pF pS cT cF cS) (ra : Row w qa 1 (ints la)) (rb : Row w qb 1 (ints lb)) (rc : Row w qc 1 (ints lc)) (b1 : s.table.length * 16 ≤ 140737488355328) (b2 : s.floors.length * 8 ≤ 140737488355328) (b3 : s.sills.length * 24 ≤ 140737488355328) :
    Calls Try.prog 5 #[sdVal s pT pF pS cT cF cS, .int .i64 x, .slice qa la.length da, .slice qb lb.length db, .slice qc lc.length dc] w fun e w' => e = .returned (.bool true) ∧ Up w w' := by
  by_cases h : wideB s = true ∨ 12 < la.length ∨ 20 < lb.length ∨ 20 < lc.length
  · exact banksWide_c s x la lb lc qa qb qc da db dc w h
  · have h1 : wideB s = false := by
      cases hb : wideB s
      · rfl
      · exact absurd (.inl hb) h
    exact banks_c s x la lb lc qa qb qc da db dc w hl ra rb rc b1 b2 b3 h1 (by omega) (by omega) (by omega)
end

set_option maxRecDepth 100000 in
theorem banks_contract (H : Type) (enc : TypeId × Value → H) (W : World) (base : Nat) (args : Array Value) (ds gs : List (DataW H)) (before : List MemPlace)
    (hval : ∀ (j : Nat) t v, Try.f5.params[j]? = some t → args[j]? = some v → Value.okWide Try.prog W .any base t v)
    (hW : DataW.Whole enc Try.prog Try.f5.params.toList Rows.tideBanksSpec.vars false W args.toList ds gs before)
    (hsz0 : (DataW.weightsEach Try.prog (Try.f5.params.toList ++ Rows.tideBanksSpec.plain.varTypes Try.prog) (ds ++ gs)).all (· ≤ reachBytes) = true) :
    Calls Try.prog 5 args W fun e W' => ∃ v, e = .returned v ∧ Rows.tideBanksSpec.post enc Try.prog Try.f5 false true false false W args v W' := by
  have hW' := hW
  obtain ⟨p, q, hA0, hV, rfl, -, -⟩ := hW
  have hA : DataW.TrodAll enc Try.prog W 0 (fun _ => true) true Try.f5.params.toList args.toList ds p := hA0
  rw [Try.params5] at hA hval
  obtain ⟨v0, vs0, d0, ds0, p0, q0, hargs, rfl, rfl, h0, r0⟩ := trodAll_cons hA
  obtain ⟨v1, vs1, d1, ds1, p1, q1, rfl, rfl, rfl, h1, r1⟩ := trodAll_cons r0
  obtain ⟨v2, vs2, d2, ds2, p2, q2, rfl, rfl, rfl, h2, r2⟩ := trodAll_cons r1
  obtain ⟨v3, vs3, d3, ds3, p3, q3, rfl, rfl, rfl, h3, r3⟩ := trodAll_cons r2
  obtain ⟨v4, vs4, d4, ds4, p4, q4, rfl, rfl, rfl, h4, r4⟩ := trodAll_cons r3
  obtain ⟨rfl, rfl, rfl⟩ := trodAll_nil r4
  obtain rfl : args = #[v0, v1, v2, v3, v4] := by cases args; simp_all
  obtain ⟨rfl, rfl⟩ := trodVars_none hV
  have hz : ∀ (j : Nat) (t : TypeId) (d : DataW H), (Try.f5.params.toList ++ Rows.tideBanksSpec.plain.varTypes Try.prog)[j]? = some t → ([d0, d1, d2, d3, d4] ++ [])[j]? = some d → ∀ n ∈ DataW.weights Try.prog t d, n ≤ reachBytes := fun j t d e1 e2 n hn => by
    have := List.all_eq_true.1 hsz0 n (DataW.weights_mem_each (j := j) (t := t) e1 e2 n hn)
    simpa using this
  obtain ⟨s, pT, pF, pS, cT, cF, cS, rfl, hl, b1, b2, b3⟩ := open_sands (hval 0 _ v0 rfl rfl) h0 (hz 0 _ _ rfl rfl)
  obtain ⟨x, rfl, rfl, rfl, -⟩ := open_int Try.underlying3 (hval 1 _ v1 rfl rfl) h1
  obtain ⟨qa, la, da, rfl, ra, -⟩ := open_ints (hval 2 _ v2 rfl rfl) h2 (hz 2 _ _ rfl rfl)
  obtain ⟨qb, lb, db, rfl, rb, -⟩ := open_ints (hval 3 _ v3 rfl rfl) h3 (hz 3 _ _ rfl rfl)
  obtain ⟨qc, lc, dc, rfl, rc, -⟩ := open_ints (hval 4 _ v4 rfl rfl) h4 (hz 4 _ _ rfl rfl)
  refine (tideBanks_c s x la lb lc qa qb qc da db dc W hl ra rb rc b1 b2 b3).mono fun e W' ⟨he, hb⟩ => ?_
  exact ⟨_, he, law_post hW' rfl laidOut (by kernel_rfl) rfl Try.underlying4 ⟨rfl, rfl, rfl⟩ hb⟩

set_option maxRecDepth 100000 in
theorem banks_lifted (os : Os) (started : os.Started) (H : Type) (enc : TypeId × Value → H) :
    ReturnsInHanded {} Try.checked os 5 .any (Rows.tideBanksSpec.pre6 enc Try.prog Try.f5 Rows.tideBanksRow.domain false) (Rows.tideBanksSpec.post enc Try.prog Try.f5 false true false false) := by
  refine returnsInHanded_of_change_sized (C := Try.checked) own started (by kernel_rfl) Try.func5
    (ChangeSpec.witness6 (enc := enc) (C := Try.checked) false ⟨#[], #[.agg #[.slice none 0 0, .int .i64 0, .int .i64 0, .slice none 0 0, .slice none 0 0], .int .i64 0, .slice none 0 0, .slice none 0 0, .slice none 0 0], []⟩ 8 (by kernel_rfl) (by kernel_rfl) (by kernel_rfl) (by kernel_rfl)) ?_
  intro W base args ds gs before hval hW _ hsz _
  exact banks_contract H enc W base args ds gs before hval hW hsz

theorem banks_holds : Rows.TideBanksSaid :=
  OpenClaim.holds_of_wide 5 Try.f5 rfl rfl rfl rfl rfl rfl rfl ⟨rfl, rfl, rfl, rfl, rfl⟩ rfl rfl rfl rfl rfl (by kernel_rfl) Try.func5 (by kernel_rfl)
    (of_decide_eq_true (by kernel_rfl)) (by unfold Func.isWrapper; first | (rw [if_pos (by decide +kernel)]; kernel_rfl) | (rw [if_neg (by decide +kernel)]; exact ⟨rfl, rfl⟩))
    (fun os started H enc _ => banks_lifted os started H enc)
#print axioms banks_holds
end Go.Proofs.Ytcljkkojeleakaa
