import Derived.Test.YtknaajofcbenaaaGreatBase
import Derived.Test.YtknaajofcbenaaaGreatLine
import Derived.WalkKit
import Derived.WalkSpells
import Derived.WalkLawsBesides
import Derived.Deep.QuietTactic
import Derived.BigQuiet
namespace Go.Proofs.YtknaajofcbenaaaGreat
open Go.RowKit

structure Sd where
  table : List (Int × Int)
  lo : Int
  hi : Int
  floors : List Int
  sills : List (Int × Int × Int)

/-- what five cells from an offset on hold of sands -/
structure SandsAt (w : World) (b o : Nat) (s : Sd) (pT pF pS : Option Addr) (cT cF cS : Nat) : Prop where
  ht : w.cell? ⟨b, o, none⟩ = some (.slice pT s.table.length cT)
  hlo : w.cell? ⟨b, o + 1, none⟩ = some (.int .i64 s.lo)
  hhi : w.cell? ⟨b, o + 2, none⟩ = some (.int .i64 s.hi)
  hf : w.cell? ⟨b, o + 3, none⟩ = some (.slice pF s.floors.length cF)
  hs : w.cell? ⟨b, o + 4, none⟩ = some (.slice pS s.sills.length cS)
  rt : Row w pT 2 (pairs s.table)
  rf : Row w pF 1 (ints s.floors)
  rs : Row w pS 3 (triples s.sills)
  ct : s.table.length ≤ cT
  cf : s.floors.length ≤ cF
  cs : s.sills.length ≤ cS

def hgtFrom (a : Int × Int) : List (Int × Int) → Int → Int
  | [], _ => a.2
  | b :: r, m => if m ≤ b.1 then onL a b m else hgtFrom b r m

def okTable (l : List (Int × Int)) : Prop := (∀ x ∈ l, 0 ≤ x.1 ∧ x.1 ≤ 1440 ∧ 0 ≤ x.2 ∧ x.2 ≤ 999) ∧ (∀ i (h : i + 1 < l.length), l[i].1 < l[i+1].1) ∧ 2 ≤ l.length ∧ l.length ≤ 12

def hgt (l : List (Int × Int)) (m : Int) : Int := match l with | [] => 0 | a :: r => hgtFrom a r m

theorem hgt_step (l : List (Int × Int)) (m : Int) (k : Nat) (h : k + 1 < l.length) : hgtFrom l[k] (l.drop (k + 1)) m = if m ≤ l[k+1].1 then onL l[k] l[k+1] m else hgtFrom l[k+1] (l.drop (k + 2)) m := by
  rw [List.drop_eq_getElem_cons h]; rfl

set_option maxHeartbeats 400000 in
theorem height_c (bw : Nat) (s : Sd) (m : Int) (w : World) (pT pF pS : Option Addr) (cT cF cS : Nat) (hw : SandsAt w bw 0 s pT pF pS cT cF cS) (ok : okTable s.table)
    (hm : ∀ h : 0 < s.table.length, s.table[0].1 ≤ m) :
    Calls Tryz.prog 106 #[.pointer (some ⟨bw, 0, none⟩), .int .i64 m] w fun e w' => e = .returned (.int .i64 (hgt s.table m)) ∧ Up w w' := by
  obtain ⟨h0, -, -, -, -, hr, -, -, hc, -, -⟩ := hw
  obtain ⟨l, lo, hi, fl, sl⟩ := s
  dsimp only at *
  obtain ⟨okx, oki, hl2, hl12⟩ := ok
  obtain ⟨b, off, rfl, hc0, hc1⟩ := hr.pair 0 (by omega)
  have hbl := cell_lt hc0
  have hbw := cell_lt h0
  simp only [Nat.zero_mul, Nat.add_zero] at hc0 hc1
  have hct1 : ¬ (cT = 1) := by omega
  go_enter Tryz.func106, Tryz.ntmps106
  go_wp2
  go_loopw [22] (fun i wr => ∃ k : Nat, ∃ hk : k < l.length, i = .int .i64 k ∧ Blk wr w.heap.size [.int .i64 l[k].1, .int .i64 l[k].2] 78 ∧ Up w wr ∧ l[k].1 ≤ m ∧ hgt l m = hgtFrom l[k] (l.drop (k + 1)) m) (fun i _ => l.length - (intOf i).toNat)
  case atStart =>
    refine ⟨0, by omega, rfl, Blk.new _ _ _, by (repeat (first | exact Below.refl _ _ | (with_reducible refine Below.drewN' ?_ _) | (with_reducible refine Below.drew ?_) | (with_reducible refine Below.setCell ?_ (by first | exact Nat.le_refl _ | omega | (with_reducible (repeat (first | refine sz_alloc ?_ | refine sz_setCell ?_ | refine sz_drew ?_ | refine sz_drewN ?_)); first | exact Nat.le_refl _ | omega) | (simp only [World.size_alloc, World.size_setCell, World.size_drew, size_drewN']; omega)) _) | (with_reducible refine Below.alloc ?_ (by first | exact Nat.le_refl _ | omega | (with_reducible (repeat (first | refine sz_alloc ?_ | refine sz_setCell ?_ | refine sz_drew ?_ | refine sz_drewN ?_)); first | exact Nat.le_refl _ | omega) | (simp only [World.size_alloc, World.size_setCell, World.size_drew, size_drewN']; omega)) _) | assumption)), hm (by omega), ?_⟩
    cases l with
    | nil => simp at hl2
    | cons a r => rfl
  case round =>
    obtain ⟨k, hk, rfl, hB, hu, hkm, hh⟩ := hrel
    have B0 := hB.cell 0
    have B1 := hB.cell 1
    have F0 := hB.free 0
    have F1 := hB.free 1
    have BL := hB.lt
    simp only [List.getElem?_cons_zero, List.getElem?_cons_succ] at B0 B1
    by_cases hlt : k + 1 < l.length
    · obtain ⟨b', off', e, hd0, hd1⟩ := hr.pair (k + 1) hlt
      obtain ⟨rfl, rfl⟩ : b = b' ∧ off = off' := by simpa using e
      clear e
      rw [show off + (k + 1) * 2 = off + 2 + k * 2 from by omega] at hd0 hd1
      have hd0' := hu.cellAt hd0
      have hd1' := hu.cellAt hd1
      clear hd0 hd1
      obtain ⟨x1, x2, x3, x4⟩ := okx l[k] (List.getElem_mem _)
      obtain ⟨y1, y2, y3, y4⟩ := okx l[k + 1] (List.getElem_mem _)
      have hlk := oki k hlt
      go_wp2_with (go_at_call 138; refine (onLine_c _ _ _ _ _ _ x1 hlk y2 hkm (by assumption) x3 x4 y3 y4).mono ?_; rintro e w1 ⟨rfl, hb1⟩)
      · go_ret
        refine ⟨ret_int ?_, ?_⟩
        · rw [hh, hgt_step l m k hlt, if_pos (by assumption)]
        · exact Up.trans (by (repeat (first | exact Below.refl _ _ | (with_reducible refine Below.drewN' ?_ _) | (with_reducible refine Below.drew ?_) | (with_reducible refine Below.setCell ?_ (by first | exact Nat.le_refl _ | omega | (with_reducible (repeat (first | refine sz_alloc ?_ | refine sz_setCell ?_ | refine sz_drew ?_ | refine sz_drewN ?_)); first | exact Nat.le_refl _ | omega) | (simp only [World.size_alloc, World.size_setCell, World.size_drew, size_drewN']; omega)) _) | (with_reducible refine Below.alloc ?_ (by first | exact Nat.le_refl _ | omega | (with_reducible (repeat (first | refine sz_alloc ?_ | refine sz_setCell ?_ | refine sz_drew ?_ | refine sz_drewN ?_)); first | exact Nat.le_refl _ | omega) | (simp only [World.size_alloc, World.size_setCell, World.size_drew, size_drewN']; omega)) _) | assumption))) hb1
      · go_roundw
        case rel =>
          refine ⟨k + 1, hlt, by go_num, ((hB.set 0 _).set 1 _).alloc _, by (repeat (first | exact Below.refl _ _ | (with_reducible refine Below.drewN' ?_ _) | (with_reducible refine Below.drew ?_) | (with_reducible refine Below.setCell ?_ (by first | exact Nat.le_refl _ | omega | (with_reducible (repeat (first | refine sz_alloc ?_ | refine sz_setCell ?_ | refine sz_drew ?_ | refine sz_drewN ?_)); first | exact Nat.le_refl _ | omega) | (simp only [World.size_alloc, World.size_setCell, World.size_drew, size_drewN']; omega)) _) | (with_reducible refine Below.alloc ?_ (by first | exact Nat.le_refl _ | omega | (with_reducible (repeat (first | refine sz_alloc ?_ | refine sz_setCell ?_ | refine sz_drew ?_ | refine sz_drewN ?_)); first | exact Nat.le_refl _ | omega) | (simp only [World.size_alloc, World.size_setCell, World.size_drew, size_drewN']; omega)) _) | assumption)), by omega, ?_⟩
          rw [hh, hgt_step l m k hlt, if_neg (by omega)]
        case measure => simp [intOf]; omega
    · obtain rfl : k = l.length - 1 := by omega
      go_wp2
      go_ret
      refine ⟨ret_int ?_, by (repeat (first | exact Below.refl _ _ | (with_reducible refine Below.drewN' ?_ _) | (with_reducible refine Below.drew ?_) | (with_reducible refine Below.setCell ?_ (by first | exact Nat.le_refl _ | omega | (with_reducible (repeat (first | refine sz_alloc ?_ | refine sz_setCell ?_ | refine sz_drew ?_ | refine sz_drewN ?_)); first | exact Nat.le_refl _ | omega) | (simp only [World.size_alloc, World.size_setCell, World.size_drew, size_drewN']; omega)) _) | (with_reducible refine Below.alloc ?_ (by first | exact Nat.le_refl _ | omega | (with_reducible (repeat (first | refine sz_alloc ?_ | refine sz_setCell ?_ | refine sz_drew ?_ | refine sz_drewN ?_)); first | exact Nat.le_refl _ | omega) | (simp only [World.size_alloc, World.size_setCell, World.size_drew, size_drewN']; omega)) _) | assumption))⟩
      rw [hh, List.drop_of_length_le (by omega)]; rfl
end Go.Proofs.YtknaajofcbenaaaGreat
