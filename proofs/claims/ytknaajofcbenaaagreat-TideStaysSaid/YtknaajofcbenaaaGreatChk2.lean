import Derived.Test.YtknaajofcbenaaaGreatBase
import Derived.Test.YtknaajofcbenaaaGreatHeight
import Derived.Test.YtknaajofcbenaaaGreatChk
import Derived.Test.YtknaajofcbenaaaGreatEvery
import Derived.WalkKit
import Derived.WalkSpells
import Derived.WalkLawsBesides
import Derived.Deep.QuietTactic
import Derived.BigQuiet
import Derived.Lib.Hide
import Derived.Shelf.Abstract
import Derived.BigGuardPart
namespace Go.Proofs.YtknaajofcbenaaaGreat
open Go.RowKit

def okCounts (s : Sd) : Bool := inB s.table.length 2 12 && inB s.floors.length 1 8 && decide ((s.sills.length : Int) ≤ 16)

set_option maxHeartbeats 400000 in
theorem countsAllowed_c (b : Nat) (s : Sd) (w : World) (pT pF pS : Option Addr) (cT cF cS : Nat) (hw : SandsAt w b 0 s pT pF pS cT cF cS) (m1 : s.table.length ≤ maxLen) (m2 : s.floors.length ≤ maxLen) (m3 : s.sills.length ≤ maxLen) :
    Calls Tryz.prog 100 #[.pointer (some ⟨b, 0, none⟩)] w fun e w' => e = .returned (.bool (okCounts s)) ∧ w = w' := by
  obtain ⟨h0, -, -, h3, h4, -, -, -, -, -, -⟩ := hw
  unfold okCounts
  obtain ⟨l, lo, hi, fl, sl⟩ := s
  dsimp only at *
  unfold maxLen at m1 m2 m3
  simp only [Nat.zero_add] at h3 h4
  go_enter Tryz.func100, Tryz.ntmps100
  go_wp2_with (go_at_call 112; refine (within_c _ _ _ _).mono ?_; rintro e w' ⟨rfl, rfl⟩)
  all_goals go_ret
  all_goals exact ⟨ret_bool (by simp [*]), rfl⟩

def okNumbers (s : Sd) : Bool := s.table.all okWater && inB s.lo (-50) 50 && inB s.hi (-50) 50 && s.floors.all (fun x => inB x 0 999) && s.sills.all (fun x => inB x.2.2 0 999)

theorem en_isHeight : Enters Tryz.prog 135 := enters_of Tryz.func135 (by kernel_rfl) rfl
theorem en_n1 : Enters Tryz.prog 134 := enters_of Tryz.func134 (by kernel_rfl) rfl
theorem en_n2 : Enters Tryz.prog 137 := enters_of Tryz.func137 (by kernel_rfl) rfl
theorem en_joinsTwo : Enters Tryz.prog 105 := enters_of Tryz.func105 (by kernel_rfl) rfl
theorem en_joinsThings : Enters Tryz.prog 104 := enters_of Tryz.func104 (by kernel_rfl) rfl

theorem SandsAt.up {w w' : World} {b o : Nat} {s : Sd} {pT pF pS : Option Addr} {cT cF cS : Nat} (h : SandsAt w b o s pT pF pS cT cF cS) (u : Up w w') : SandsAt w' b o s pT pF pS cT cF cS :=
  ⟨u.cellAt h.ht, u.cellAt h.hlo, u.cellAt h.hhi, u.cellAt h.hf, u.cellAt h.hs, h.rt.up u, h.rf.up u, h.rs.up u, h.ct, h.cf, h.cs⟩

set_option maxHeartbeats 1000000 in
theorem numbersAllowed_c (b : Nat) (s : Sd) (w : World) (pT pF pS : Option Addr) (cT cF cS : Nat) (hw : SandsAt w b 0 s pT pF pS cT cF cS) (m1 : s.table.length ≤ maxLen) (m2 : s.floors.length ≤ maxLen) (m3 : s.sills.length ≤ maxLen) :
    Calls Tryz.prog 101 #[.pointer (some ⟨b, 0, none⟩)] w fun e w' => e = .returned (.bool (okNumbers s)) ∧ Up w w' := by
  obtain ⟨h0, h1, h2, h3, h4, r0, r3, r4, -, -, -⟩ := hw
  unfold okNumbers
  obtain ⟨l, lo, hi, fl, sl⟩ := s
  dsimp only at *
  simp only [Nat.zero_add] at h1 h2 h3 h4
  have hb := cell_lt h0
  have A : ∀ W, Up w W → Calls Tryz.prog 133 #[.slice pT l.length cT, .func (.func 134) #[] #[]] W fun e W' => e = .returned (.bool (l.all okWater)) ∧ Up W W' :=
    fun W u => everyWater_c _ _ _ _ _ _ _ _ (r0.up u) m1 en_n1 (fun x _ W _ => waterOk_c _ _ _)
  have B : ∀ W, Up w W → Calls Tryz.prog 70 #[.slice pF fl.length cF, .func (.func 135) #[] #[]] W fun e W' => e = .returned (.bool (fl.all (fun x => inB x 0 999))) ∧ Up W W' :=
    fun W u => everyInt_c _ _ _ _ _ _ _ _ (r3.up u) m2 en_isHeight (fun x _ W _ => (isHeight_c _ _).mono fun e w' ⟨h, k⟩ => ⟨h, k ▸ Below.refl _ _⟩)
  have C : ∀ W, Up w W → Calls Tryz.prog 103 #[.slice pS sl.length cS, .func (.func 137) #[] #[]] W fun e W' => e = .returned (.bool (sl.all (fun x => inB x.2.2 0 999))) ∧ Up W W' :=
    fun W u => everySill_c _ _ _ _ _ _ _ _ (r4.up u) m3 en_n2 (fun x _ W _ => sillOk_c _ _ _ _)
  have HA := Lib.hid A
  have HB := Lib.hid B
  have HC := Lib.hid C
  clear A B C
  go_enter Tryz.func101, Tryz.ntmps101
  go_wp2_with fail
  refine (HA.out _ (Below.refl _ _)).mono ?_
  rintro e w1 ⟨rfl, u1⟩
  have k1 := u1.cellAt h1
  have k2 := u1.cellAt h2
  have k3 := u1.cellAt h3
  have k4 := u1.cellAt h4
  go_wp2_with (first | (go_at_call 136; refine (isWind_c _ _).mono ?_; rintro e w' ⟨rfl, rfl⟩))
  · refine (HB.out _ u1).mono ?_
    rintro e w2 ⟨rfl, u2⟩
    have k5 := u2.cellAt k4
    go_wp2_with fail
    · refine (HC.out _ (Up.trans u1 u2)).mono ?_
      rintro e w3 ⟨rfl, u3⟩
      go_wp2_with fail
      go_ret
      exact ⟨ret_bool (by simp [*]), Up.trans (Up.trans u1 u2) u3⟩
    · go_ret
      exact ⟨ret_bool (by simp [*]), Up.trans u1 u2⟩
  all_goals go_ret
  all_goals exact ⟨ret_bool (by simp [*]), u1⟩

def okThings (n : Nat) (x : Int × Int × Int) : Bool := (x.1 == -1 || inB x.1 0 (n - 1)) && (x.2.1 == -1 || inB x.2.1 0 (n - 1))
set_option maxHeartbeats 1000000 in
theorem joinsThings_c (bw : Nat) (p : Option Addr) (n c : Nat) (a b h : Int) (w : World) (hc : w.cell? ⟨bw, 3, none⟩ = some (.slice p n c)) (hn : n ≤ maxLen) :
    Calls Tryz.prog 104 #[.pointer (some ⟨bw, 0, none⟩), .agg #[.int .i64 a, .int .i64 b, .int .i64 h]] w fun e w' => e = .returned (.bool (okThings n (a, b, h))) ∧ Up w w' := by
  unfold okThings
  have hb := cell_lt hc
  go_enter Tryz.func104, Tryz.ntmps104
  go_wp2_with (go_at_call 71; refine (isPlace_c _ _ _ _ _ _ (Up.cellAt (w := w) (by (repeat (first | exact Below.refl _ _ | (with_reducible refine Below.drewN' ?_ _) | (with_reducible refine Below.drew ?_) | (with_reducible refine Below.setCell ?_ (by first | exact Nat.le_refl _ | omega | (with_reducible (repeat (first | refine sz_alloc ?_ | refine sz_setCell ?_ | refine sz_drew ?_ | refine sz_drewN ?_)); first | exact Nat.le_refl _ | omega) | (simp only [World.size_alloc, World.size_setCell, World.size_drew, size_drewN']; omega)) _) | (with_reducible refine Below.alloc ?_ (by first | exact Nat.le_refl _ | omega | (with_reducible (repeat (first | refine sz_alloc ?_ | refine sz_setCell ?_ | refine sz_drew ?_ | refine sz_drewN ?_)); first | exact Nat.le_refl _ | omega) | (simp only [World.size_alloc, World.size_setCell, World.size_drew, size_drewN']; omega)) _) | assumption))) hc) hn).mono ?_; rintro e w' ⟨rfl, rfl⟩)
  all_goals go_ret
  all_goals exact ⟨ret_bool (by simp [*]), by (repeat (first | exact Below.refl _ _ | (with_reducible refine Below.drewN' ?_ _) | (with_reducible refine Below.drew ?_) | (with_reducible refine Below.setCell ?_ (by first | exact Nat.le_refl _ | omega | (with_reducible (repeat (first | refine sz_alloc ?_ | refine sz_setCell ?_ | refine sz_drew ?_ | refine sz_drewN ?_)); first | exact Nat.le_refl _ | omega) | (simp only [World.size_alloc, World.size_setCell, World.size_drew, size_drewN']; omega)) _) | (with_reducible refine Below.alloc ?_ (by first | exact Nat.le_refl _ | omega | (with_reducible (repeat (first | refine sz_alloc ?_ | refine sz_setCell ?_ | refine sz_drew ?_ | refine sz_drewN ?_)); first | exact Nat.le_refl _ | omega) | (simp only [World.size_alloc, World.size_setCell, World.size_drew, size_drewN']; omega)) _) | assumption))⟩

/-- strictly increasing minutes from place k on -/
def ordB (l : List (Int × Int)) : Bool := (List.range (l.length - 1)).all fun i => decide ((l.getD i (0, 0)).1 < (l.getD (i + 1) (0, 0)).1)

def okOrder (s : Sd) : Bool := ordB s.table && decide (s.lo ≤ s.hi)

set_option maxHeartbeats 1000000 in
theorem inOrder_c (bw : Nat) (s : Sd) (w : World) (pT pF pS : Option Addr) (cT cF cS : Nat) (hw : SandsAt w bw 0 s pT pF pS cT cF cS) (hl2 : 2 ≤ s.table.length) (m1 : s.table.length ≤ maxLen) :
    Calls Tryz.prog 102 #[.pointer (some ⟨bw, 0, none⟩)] w fun e w' => e = .returned (.bool (okOrder s)) ∧ Up w w' := by
  obtain ⟨h0, h1, h2, -, -, hr, -, -, hc, -, -⟩ := hw
  obtain ⟨l, lo, hi, fl, sl⟩ := s
  dsimp only at *
  unfold maxLen at m1
  simp only [Nat.zero_add] at h1 h2
  obtain ⟨b, off, rfl, hc0, hc1⟩ := hr.pair 0 (by omega)
  have hbl := cell_lt hc0
  have hbw := cell_lt h0
  clear hc0 hc1
  have hct1 : ¬ (cT = 1) := by omega
  go_enter Tryz.func102, Tryz.ntmps102
  go_wp2
  go_loopw [12] (fun i wr => ∃ k : Nat, k + 1 ≤ l.length ∧ i = .int .i64 k ∧ Up w wr ∧ ((List.range k).all fun i => decide ((l.getD i (0, 0)).1 < (l.getD (i + 1) (0, 0)).1)) = true) (fun i _ => l.length - (intOf i).toNat)
  case atStart => exact ⟨0, by omega, rfl, by (repeat (first | exact Below.refl _ _ | (with_reducible refine Below.drewN' ?_ _) | (with_reducible refine Below.drew ?_) | (with_reducible refine Below.setCell ?_ (by first | exact Nat.le_refl _ | omega | (with_reducible (repeat (first | refine sz_alloc ?_ | refine sz_setCell ?_ | refine sz_drew ?_ | refine sz_drewN ?_)); first | exact Nat.le_refl _ | omega) | (simp only [World.size_alloc, World.size_setCell, World.size_drew, size_drewN']; omega)) _) | (with_reducible refine Below.alloc ?_ (by first | exact Nat.le_refl _ | omega | (with_reducible (repeat (first | refine sz_alloc ?_ | refine sz_setCell ?_ | refine sz_drew ?_ | refine sz_drewN ?_)); first | exact Nat.le_refl _ | omega) | (simp only [World.size_alloc, World.size_setCell, World.size_drew, size_drewN']; omega)) _) | assumption)), by simp⟩
  case round =>
    obtain ⟨k, hk, rfl, hu, hall⟩ := hrel
    have HA := Lib.hid hall
    clear hall
    have hsz := hu.size
    have h0' := hu.cellAt h0
    have h1' := hu.cellAt h1
    have h2' := hu.cellAt h2
    have hbw' := cell_lt h0'
    by_cases hlt : k + 1 < l.length
    · obtain ⟨b', off', e, hd0, hd1⟩ := hr.pair (k + 1) hlt
      obtain ⟨rfl, rfl⟩ : b = b' ∧ off = off' := by simpa using e
      clear e
      obtain ⟨b', off', e, hg0, -⟩ := hr.pair k (by omega)
      obtain ⟨rfl, rfl⟩ : b = b' ∧ off = off' := by simpa using e
      clear e
      rw [show off + (k + 1) * 2 = off + 2 + k * 2 from by omega] at hd0 hd1
      have hd0' := hu.cellAt hd0
      have hd1' := hu.cellAt hd1
      have hg0' := hu.cellAt hg0
      have hbl' := cell_lt hg0'
      clear hd0 hd1 hg0
      have e1 : (l.getD k (0, 0)).1 = l[k].1 := by simp [List.getD, List.getElem?_eq_getElem (show k < l.length by omega)]
      have e2 : (l.getD (k + 1) (0, 0)).1 = l[k + 1].1 := by simp [List.getD, List.getElem?_eq_getElem hlt]
      have E1 := Lib.hid e1
      have E2 := Lib.hid e2
      clear e1 e2
      by_cases hle : l[k + 1].1 ≤ l[k].1
      · go_wp2
        go_quiet (fail)
        go_wp2
        go_ret
        refine ⟨ret_bool ?_, by (repeat (first | exact Below.refl _ _ | (with_reducible refine Below.drewN' ?_ _) | (with_reducible refine Below.drew ?_) | (with_reducible refine Below.setCell ?_ (by first | exact Nat.le_refl _ | omega | (with_reducible (repeat (first | refine sz_alloc ?_ | refine sz_setCell ?_ | refine sz_drew ?_ | refine sz_drewN ?_)); first | exact Nat.le_refl _ | omega) | (simp only [World.size_alloc, World.size_setCell, World.size_drew, size_drewN']; omega)) _) | (with_reducible refine Below.alloc ?_ (by first | exact Nat.le_refl _ | omega | (with_reducible (repeat (first | refine sz_alloc ?_ | refine sz_setCell ?_ | refine sz_drew ?_ | refine sz_drewN ?_)); first | exact Nat.le_refl _ | omega) | (simp only [World.size_alloc, World.size_setCell, World.size_drew, size_drewN']; omega)) _) | assumption))⟩
        unfold okOrder
        have : ordB l = false := by
          unfold ordB
          rw [List.all_eq_false]
          exact ⟨k, by simp; omega, by rw [E1.out, E2.out]; simp; omega⟩
        simp [this]
      · go_wp2
        go_quiet (fail)
        go_wp2
        go_roundw
        case rel =>
          refine ⟨k + 1, hlt, by go_num, by (repeat (first | exact Below.refl _ _ | (with_reducible refine Below.drewN' ?_ _) | (with_reducible refine Below.drew ?_) | (with_reducible refine Below.setCell ?_ (by first | exact Nat.le_refl _ | omega | (with_reducible (repeat (first | refine sz_alloc ?_ | refine sz_setCell ?_ | refine sz_drew ?_ | refine sz_drewN ?_)); first | exact Nat.le_refl _ | omega) | (simp only [World.size_alloc, World.size_setCell, World.size_drew, size_drewN']; omega)) _) | (with_reducible refine Below.alloc ?_ (by first | exact Nat.le_refl _ | omega | (with_reducible (repeat (first | refine sz_alloc ?_ | refine sz_setCell ?_ | refine sz_drew ?_ | refine sz_drewN ?_)); first | exact Nat.le_refl _ | omega) | (simp only [World.size_alloc, World.size_setCell, World.size_drew, size_drewN']; omega)) _) | assumption)), ?_⟩
          rw [List.range_succ, List.all_append, HA.out]
          simp only [Bool.true_and, List.all_cons, List.all_nil, Bool.and_true, E1.out, E2.out]
          simp; omega
        case measure => simp [intOf]; omega
    · obtain rfl : k = l.length - 1 := by omega
      go_wp2
      go_quiet (fail)
      go_wp2
      go_ret
      refine ⟨ret_bool ?_, by (repeat (first | exact Below.refl _ _ | (with_reducible refine Below.drewN' ?_ _) | (with_reducible refine Below.drew ?_) | (with_reducible refine Below.setCell ?_ (by first | exact Nat.le_refl _ | omega | (with_reducible (repeat (first | refine sz_alloc ?_ | refine sz_setCell ?_ | refine sz_drew ?_ | refine sz_drewN ?_)); first | exact Nat.le_refl _ | omega) | (simp only [World.size_alloc, World.size_setCell, World.size_drew, size_drewN']; omega)) _) | (with_reducible refine Below.alloc ?_ (by first | exact Nat.le_refl _ | omega | (with_reducible (repeat (first | refine sz_alloc ?_ | refine sz_setCell ?_ | refine sz_drew ?_ | refine sz_drewN ?_)); first | exact Nat.le_refl _ | omega) | (simp only [World.size_alloc, World.size_setCell, World.size_drew, size_drewN']; omega)) _) | assumption))⟩
      unfold okOrder
      have : ordB l = true := HA.out
      rw [this]; simp

def chk (s : Sd) : Int :=
  if okCounts s = false then 2 else if okNumbers s = false then 3 else if okOrder s = false then 4
  else if s.sills.all (okThings s.floors.length) = false then 1 else if s.sills.all (fun x => x.1 != x.2.1) = false then 8 else 0

/-- sands as a struct's value -/
def sdVal (s : Sd) (pT pF pS : Option Addr) (cT cF cS : Nat) : Value :=
  .agg #[.slice pT s.table.length cT, .int .i64 s.lo, .int .i64 s.hi, .slice pF s.floors.length cF, .slice pS s.sills.length cS]

structure Lists (w : World) (s : Sd) (pT pF pS : Option Addr) (cT cF cS : Nat) : Prop where
  rt : Row w pT 2 (pairs s.table)
  rf : Row w pF 1 (ints s.floors)
  rs : Row w pS 3 (triples s.sills)
  ct : s.table.length ≤ cT
  cf : s.floors.length ≤ cF
  cs : s.sills.length ≤ cS
  mt : cT ≤ maxLen
  mf : cF ≤ maxLen
  ms : cS ≤ maxLen

theorem Lists.up {w w' : World} {s : Sd} {pT pF pS : Option Addr} {cT cF cS : Nat} (h : Lists w s pT pF pS cT cF cS) (u : Up w w') : Lists w' s pT pF pS cT cF cS :=
  ⟨h.rt.up u, h.rf.up u, h.rs.up u, h.ct, h.cf, h.cs, h.mt, h.mf, h.ms⟩

end Go.Proofs.YtknaajofcbenaaaGreat
