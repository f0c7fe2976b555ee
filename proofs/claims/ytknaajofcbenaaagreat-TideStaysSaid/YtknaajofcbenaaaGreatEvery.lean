import Derived.Test.YtknaajofcbenaaaGreatBase
import Derived.Test.YtknaajofcbenaaaGreatHeight
import Derived.WalkKit
import Derived.WalkSpells
import Derived.WalkLawsBesides
import Derived.Deep.QuietTactic
import Derived.BigQuiet
import Derived.Lib.Hide
import Derived.Shelf.Abstract
namespace Go.Proofs.YtknaajofcbenaaaGreat
open Go.RowKit

theorem all_take_succ {α : Type} (l : List α) (p : α → Bool) (k : Nat) (h : k < l.length) : (l.take (k + 1)).all p = ((l.take k).all p && p l[k]) := by
  rw [List.take_succ_eq_append_getElem h, List.all_append]; simp
theorem all_true_of {α : Type} (l : List α) (p : α → Bool) (h : (l.take l.length).all p = true) : l.all p = true := by rwa [List.take_length] at h
theorem all_false_of {α : Type} (l : List α) (p : α → Bool) (k : Nat) (h : k < l.length) (hk : p l[k] = false) : l.all p = false := by
  rw [List.all_eq_false]; exact ⟨l[k], List.getElem_mem _, by simp [hk]⟩

set_option maxHeartbeats 400000 in
theorem everyInt_c (f : Nat) (pre post : Array Value) (p : Option Addr) (c : Nat) (l : List Int) (pd : Int → Bool) (w : World) (hr : Row w p 1 (ints l)) (hm : l.length ≤ maxLen) (eg : Enters Tryz.prog f)
    (hf : ∀ x, x ∈ l → ∀ W, Up w W → Calls Tryz.prog f (pre ++ #[.int .i64 x] ++ post) W fun e W' => e = .returned (.bool (pd x)) ∧ Up W W') :
    Calls Tryz.prog 70 #[.slice p l.length c, .func (.func f) pre post] w fun e w' => e = .returned (.bool (l.all pd)) ∧ Up w w' := by
  unfold maxLen at hm
  have eg' : ∀ (args : Array Value) (w : World), (callFunc f args).run Tryz.prog w = .ok (.enter f args) w := eg
  have HF := Lib.hid hf
  clear hf
  go_enter Tryz.func70, Tryz.ntmps70
  go_wp2
  go_loopw [9] (fun i wr => ∃ k : Nat, k ≤ l.length ∧ i = .int .i64 k ∧ Up w wr ∧ (l.take k).all pd = true) (fun i _ => l.length - (intOf i).toNat)
  case atStart => exact ⟨0, Nat.zero_le _, rfl, Below.refl _ _, by simp⟩
  case round =>
    obtain ⟨k, hk, rfl, hu, hall⟩ := hrel
    have hsz := hu.size
    have HA := Lib.hid hall
    clear hall
    by_cases hlt : k < l.length
    · obtain ⟨b, off, rfl, hc0⟩ := hr.int k hlt
      have hd0 := hu.cellAt hc0
      clear hc0
      have hfk := fun W h => HF.out l[k] (List.getElem_mem _) W h
      cases hp : pd l[k]
      all_goals
        rw [hp] at hfk
        have HP := Lib.hid hp
        clear hp
        have HK := Lib.hid hfk
        clear hfk
        go_wp2_with fail
        refine (HK.out _ hu).mono ?_
        rintro e w1 ⟨rfl, hb1⟩
        go_wp2
      · go_ret
        exact ⟨ret_bool (all_false_of l pd k hlt HP.out).symm, Up.trans hu hb1⟩
      · go_roundw
        case rel => exact ⟨k + 1, hlt, by go_num, Up.trans hu hb1, by rw [all_take_succ l pd k hlt, HA.out, HP.out]; rfl⟩
        case measure => simp [intOf]; omega
    · obtain rfl : k = l.length := by omega
      go_wp2
      go_ret
      exact ⟨ret_bool (all_true_of l pd HA.out).symm, hu⟩

set_option maxHeartbeats 400000 in
theorem everyWater_c (f : Nat) (pre post : Array Value) (p : Option Addr) (c : Nat) (l : List (Int × Int)) (pd : (Int × Int) → Bool) (w : World) (hr : Row w p 2 (pairs l)) (hm : l.length ≤ maxLen) (eg : Enters Tryz.prog f)
    (hf : ∀ x, x ∈ l → ∀ W, Up w W → Calls Tryz.prog f (pre ++ #[.agg #[.int .i64 x.1, .int .i64 x.2]] ++ post) W fun e W' => e = .returned (.bool (pd x)) ∧ Up W W') :
    Calls Tryz.prog 133 #[.slice p l.length c, .func (.func f) pre post] w fun e w' => e = .returned (.bool (l.all pd)) ∧ Up w w' := by
  unfold maxLen at hm
  have eg' : ∀ (args : Array Value) (w : World), (callFunc f args).run Tryz.prog w = .ok (.enter f args) w := eg
  have HF := Lib.hid hf
  clear hf
  go_enter Tryz.func133, Tryz.ntmps133
  go_wp2
  go_loopw [9] (fun i wr => ∃ k : Nat, k ≤ l.length ∧ i = .int .i64 k ∧ Up w wr ∧ (l.take k).all pd = true) (fun i _ => l.length - (intOf i).toNat)
  case atStart => exact ⟨0, Nat.zero_le _, rfl, Below.refl _ _, by simp⟩
  case round =>
    obtain ⟨k, hk, rfl, hu, hall⟩ := hrel
    have hsz := hu.size
    have HA := Lib.hid hall
    clear hall
    by_cases hlt : k < l.length
    · obtain ⟨b, off, rfl, hc0, hc1⟩ := hr.pair k hlt
      have hd0 := hu.cellAt hc0
      clear hc0
      have hd1 := hu.cellAt hc1
      clear hc1
      have hfk := fun W h => HF.out l[k] (List.getElem_mem _) W h
      cases hp : pd l[k]
      all_goals
        rw [hp] at hfk
        have HP := Lib.hid hp
        clear hp
        have HK := Lib.hid hfk
        clear hfk
        go_wp2_with fail
        refine (HK.out _ (by (repeat (first | exact Below.refl _ _ | (with_reducible refine Below.drewN' ?_ _) | (with_reducible refine Below.drew ?_) | (with_reducible refine Below.setCell ?_ (by first | exact Nat.le_refl _ | omega | (with_reducible (repeat (first | refine sz_alloc ?_ | refine sz_setCell ?_ | refine sz_drew ?_ | refine sz_drewN ?_)); first | exact Nat.le_refl _ | omega) | (simp only [World.size_alloc, World.size_setCell, World.size_drew, size_drewN']; omega)) _) | (with_reducible refine Below.alloc ?_ (by first | exact Nat.le_refl _ | omega | (with_reducible (repeat (first | refine sz_alloc ?_ | refine sz_setCell ?_ | refine sz_drew ?_ | refine sz_drewN ?_)); first | exact Nat.le_refl _ | omega) | (simp only [World.size_alloc, World.size_setCell, World.size_drew, size_drewN']; omega)) _) | assumption)))).mono ?_
        rintro e w1 ⟨rfl, hb1⟩
        go_wp2
      · go_ret
        exact ⟨ret_bool (all_false_of l pd k hlt HP.out).symm, Up.trans (by (repeat (first | exact Below.refl _ _ | (with_reducible refine Below.drewN' ?_ _) | (with_reducible refine Below.drew ?_) | (with_reducible refine Below.setCell ?_ (by first | exact Nat.le_refl _ | omega | (with_reducible (repeat (first | refine sz_alloc ?_ | refine sz_setCell ?_ | refine sz_drew ?_ | refine sz_drewN ?_)); first | exact Nat.le_refl _ | omega) | (simp only [World.size_alloc, World.size_setCell, World.size_drew, size_drewN']; omega)) _) | (with_reducible refine Below.alloc ?_ (by first | exact Nat.le_refl _ | omega | (with_reducible (repeat (first | refine sz_alloc ?_ | refine sz_setCell ?_ | refine sz_drew ?_ | refine sz_drewN ?_)); first | exact Nat.le_refl _ | omega) | (simp only [World.size_alloc, World.size_setCell, World.size_drew, size_drewN']; omega)) _) | assumption))) hb1⟩
      · go_roundw
        case rel => exact ⟨k + 1, hlt, by go_num, Up.trans (by (repeat (first | exact Below.refl _ _ | (with_reducible refine Below.drewN' ?_ _) | (with_reducible refine Below.drew ?_) | (with_reducible refine Below.setCell ?_ (by first | exact Nat.le_refl _ | omega | (with_reducible (repeat (first | refine sz_alloc ?_ | refine sz_setCell ?_ | refine sz_drew ?_ | refine sz_drewN ?_)); first | exact Nat.le_refl _ | omega) | (simp only [World.size_alloc, World.size_setCell, World.size_drew, size_drewN']; omega)) _) | (with_reducible refine Below.alloc ?_ (by first | exact Nat.le_refl _ | omega | (with_reducible (repeat (first | refine sz_alloc ?_ | refine sz_setCell ?_ | refine sz_drew ?_ | refine sz_drewN ?_)); first | exact Nat.le_refl _ | omega) | (simp only [World.size_alloc, World.size_setCell, World.size_drew, size_drewN']; omega)) _) | assumption))) hb1, by rw [all_take_succ l pd k hlt, HA.out, HP.out]; rfl⟩
        case measure => simp [intOf]; omega
    · obtain rfl : k = l.length := by omega
      go_wp2
      go_ret
      exact ⟨ret_bool (all_true_of l pd HA.out).symm, hu⟩

set_option maxHeartbeats 400000 in
theorem everySill_c (f : Nat) (pre post : Array Value) (p : Option Addr) (c : Nat) (l : List (Int × Int × Int)) (pd : (Int × Int × Int) → Bool) (w : World) (hr : Row w p 3 (triples l)) (hm : l.length ≤ maxLen) (eg : Enters Tryz.prog f)
    (hf : ∀ x, x ∈ l → ∀ W, Up w W → Calls Tryz.prog f (pre ++ #[.agg #[.int .i64 x.1, .int .i64 x.2.1, .int .i64 x.2.2]] ++ post) W fun e W' => e = .returned (.bool (pd x)) ∧ Up W W') :
    Calls Tryz.prog 103 #[.slice p l.length c, .func (.func f) pre post] w fun e w' => e = .returned (.bool (l.all pd)) ∧ Up w w' := by
  unfold maxLen at hm
  have eg' : ∀ (args : Array Value) (w : World), (callFunc f args).run Tryz.prog w = .ok (.enter f args) w := eg
  have HF := Lib.hid hf
  clear hf
  go_enter Tryz.func103, Tryz.ntmps103
  go_wp2
  go_loopw [9] (fun i wr => ∃ k : Nat, k ≤ l.length ∧ i = .int .i64 k ∧ Up w wr ∧ (l.take k).all pd = true) (fun i _ => l.length - (intOf i).toNat)
  case atStart => exact ⟨0, Nat.zero_le _, rfl, Below.refl _ _, by simp⟩
  case round =>
    obtain ⟨k, hk, rfl, hu, hall⟩ := hrel
    have hsz := hu.size
    have HA := Lib.hid hall
    clear hall
    by_cases hlt : k < l.length
    · obtain ⟨b, off, rfl, hc0, hc1, hc2⟩ := hr.triple k hlt
      have hd0 := hu.cellAt hc0
      clear hc0
      have hd1 := hu.cellAt hc1
      clear hc1
      have hd2 := hu.cellAt hc2
      clear hc2
      have hfk := fun W h => HF.out l[k] (List.getElem_mem _) W h
      cases hp : pd l[k]
      all_goals
        rw [hp] at hfk
        have HP := Lib.hid hp
        clear hp
        have HK := Lib.hid hfk
        clear hfk
        go_wp2_with fail
        refine (HK.out _ (by (repeat (first | exact Below.refl _ _ | (with_reducible refine Below.drewN' ?_ _) | (with_reducible refine Below.drew ?_) | (with_reducible refine Below.setCell ?_ (by first | exact Nat.le_refl _ | omega | (with_reducible (repeat (first | refine sz_alloc ?_ | refine sz_setCell ?_ | refine sz_drew ?_ | refine sz_drewN ?_)); first | exact Nat.le_refl _ | omega) | (simp only [World.size_alloc, World.size_setCell, World.size_drew, size_drewN']; omega)) _) | (with_reducible refine Below.alloc ?_ (by first | exact Nat.le_refl _ | omega | (with_reducible (repeat (first | refine sz_alloc ?_ | refine sz_setCell ?_ | refine sz_drew ?_ | refine sz_drewN ?_)); first | exact Nat.le_refl _ | omega) | (simp only [World.size_alloc, World.size_setCell, World.size_drew, size_drewN']; omega)) _) | assumption)))).mono ?_
        rintro e w1 ⟨rfl, hb1⟩
        go_wp2
      · go_ret
        exact ⟨ret_bool (all_false_of l pd k hlt HP.out).symm, Up.trans (by (repeat (first | exact Below.refl _ _ | (with_reducible refine Below.drewN' ?_ _) | (with_reducible refine Below.drew ?_) | (with_reducible refine Below.setCell ?_ (by first | exact Nat.le_refl _ | omega | (with_reducible (repeat (first | refine sz_alloc ?_ | refine sz_setCell ?_ | refine sz_drew ?_ | refine sz_drewN ?_)); first | exact Nat.le_refl _ | omega) | (simp only [World.size_alloc, World.size_setCell, World.size_drew, size_drewN']; omega)) _) | (with_reducible refine Below.alloc ?_ (by first | exact Nat.le_refl _ | omega | (with_reducible (repeat (first | refine sz_alloc ?_ | refine sz_setCell ?_ | refine sz_drew ?_ | refine sz_drewN ?_)); first | exact Nat.le_refl _ | omega) | (simp only [World.size_alloc, World.size_setCell, World.size_drew, size_drewN']; omega)) _) | assumption))) hb1⟩
      · go_roundw
        case rel => exact ⟨k + 1, hlt, by go_num, Up.trans (by (repeat (first | exact Below.refl _ _ | (with_reducible refine Below.drewN' ?_ _) | (with_reducible refine Below.drew ?_) | (with_reducible refine Below.setCell ?_ (by first | exact Nat.le_refl _ | omega | (with_reducible (repeat (first | refine sz_alloc ?_ | refine sz_setCell ?_ | refine sz_drew ?_ | refine sz_drewN ?_)); first | exact Nat.le_refl _ | omega) | (simp only [World.size_alloc, World.size_setCell, World.size_drew, size_drewN']; omega)) _) | (with_reducible refine Below.alloc ?_ (by first | exact Nat.le_refl _ | omega | (with_reducible (repeat (first | refine sz_alloc ?_ | refine sz_setCell ?_ | refine sz_drew ?_ | refine sz_drewN ?_)); first | exact Nat.le_refl _ | omega) | (simp only [World.size_alloc, World.size_setCell, World.size_drew, size_drewN']; omega)) _) | assumption))) hb1, by rw [all_take_succ l pd k hlt, HA.out, HP.out]; rfl⟩
        case measure => simp [intOf]; omega
    · obtain rfl : k = l.length := by omega
      go_wp2
      go_ret
      exact ⟨ret_bool (all_true_of l pd HA.out).symm, hu⟩
end Go.Proofs.YtknaajofcbenaaaGreat
