import Derived.Test.YtknaajofcbenaaaGreatBase
import Derived.Test.YtknaajofcbenaaaGreatHeight
import Derived.Test.YtknaajofcbenaaaGreatChk
import Derived.Test.YtknaajofcbenaaaGreatEvery
import Derived.Test.YtknaajofcbenaaaGreatChk2
import Derived.WalkKit
import Derived.WalkSpells
import Derived.WalkLawsBesides
import Derived.Deep.QuietTactic
import Derived.BigQuiet
import Derived.Lib.Hide
import Derived.Shelf.Abstract
import Derived.BigGuardPart
namespace Go.Proofs.YtknaajofcbenaaaGreat
open Go.RowKit

theorem Blk.new' (w : World) (cs : List Value) (T : TypeId) {n : Nat} (hn : n = w.heap.size) : Blk (w.alloc (.cells cs.toArray T)) n cs T := hn ▸ Blk.new w cs T

def sdCells (s : Sd) (pT pF pS : Option Addr) (cT cF cS : Nat) : List Value :=
  [.slice pT s.table.length cT, .int .i64 s.lo, .int .i64 s.hi, .slice pF s.floors.length cF, .slice pS s.sills.length cS]

theorem SandsAt.of {w W : World} {s : Sd} {pT pF pS : Option Addr} {cT cF cS : Nat} (h : Lists w s pT pF pS cT cF cS) (u : Up w W) {B : Nat} {rest : List Value} {T : TypeId}
    (hB : Blk W B (sdCells s pT pF pS cT cF cS ++ rest) T) : SandsAt W B 0 s pT pF pS cT cF cS := by
  have h0 := hB.cell 0
  have h1 := hB.cell 1
  have h2 := hB.cell 2
  have h3 := hB.cell 3
  have h4 := hB.cell 4
  simp only [sdCells, List.cons_append, List.nil_append, List.getElem?_cons_zero, List.getElem?_cons_succ] at h0 h1 h2 h3 h4
  exact ⟨h0, h1, h2, h3, h4, h.rt.up u, h.rf.up u, h.rs.up u, h.ct, h.cf, h.cs⟩

section
variable {w : World} {b : Nat} {s : Sd} {pT pF pS : Option Addr} {cT cF cS : Nat}
theorem SandsAt.s0 (h : SandsAt w b 0 s pT pF pS cT cF cS) : w.cell? ⟨b, 0, none⟩ = some (.slice pT s.table.length cT) := by simpa using h.ht
theorem SandsAt.s1 (h : SandsAt w b 0 s pT pF pS cT cF cS) : w.cell? ⟨b, 1, none⟩ = some (.int .i64 s.lo) := by simpa using h.hlo
theorem SandsAt.s2 (h : SandsAt w b 0 s pT pF pS cT cF cS) : w.cell? ⟨b, 2, none⟩ = some (.int .i64 s.hi) := by simpa using h.hhi
theorem SandsAt.s3 (h : SandsAt w b 0 s pT pF pS cT cF cS) : w.cell? ⟨b, 3, none⟩ = some (.slice pF s.floors.length cF) := by simpa using h.hf
theorem SandsAt.s4 (h : SandsAt w b 0 s pT pF pS cT cF cS) : w.cell? ⟨b, 4, none⟩ = some (.slice pS s.sills.length cS) := by simpa using h.hs
end

set_option maxHeartbeats 1000000 in
theorem check_c (s : Sd) (w : World) (pT pF pS : Option Addr) (cT cF cS : Nat) (hl : Lists w s pT pF pS cT cF cS) :
    Calls Tryz.prog 41 #[sdVal s pT pF pS cT cF cS] w fun e w' => e = .returned (.int .i64 (chk s)) ∧ Up w w' := by
  have m1 : s.table.length ≤ maxLen := Nat.le_trans hl.ct hl.mt
  have m2 : s.floors.length ≤ maxLen := Nat.le_trans hl.cf hl.mf
  have m3 : s.sills.length ≤ maxLen := Nat.le_trans hl.cs hl.ms
  unfold sdVal
  go_enter Tryz.func41, Tryz.ntmps41
  go_wp2_with fail
  refine Calls.world ?_
  intro W2 hW2
  have u : Up w W2 := by rw [hW2]; (repeat (first | exact Below.refl _ _ | (with_reducible refine Below.drewN' ?_ _) | (with_reducible refine Below.drew ?_) | (with_reducible refine Below.setCell ?_ (by first | exact Nat.le_refl _ | omega | (with_reducible (repeat (first | refine sz_alloc ?_ | refine sz_setCell ?_ | refine sz_drew ?_ | refine sz_drewN ?_)); first | exact Nat.le_refl _ | omega) | (simp only [World.size_alloc, World.size_setCell, World.size_drew, size_drewN']; omega)) _) | (with_reducible refine Below.alloc ?_ (by first | exact Nat.le_refl _ | omega | (with_reducible (repeat (first | refine sz_alloc ?_ | refine sz_setCell ?_ | refine sz_drew ?_ | refine sz_drewN ?_)); first | exact Nat.le_refl _ | omega) | (simp only [World.size_alloc, World.size_setCell, World.size_drew, size_drewN']; omega)) _) | assumption))
  have hB : Blk W2 (w.heap.size + 1) (sdCells s pT pF pS cT cF cS ++ List.replicate 8 (.int .i64 0)) 130 := by
    rw [hW2]; refine Blk.new' _ (sdCells s pT pF pS cT cF cS ++ List.replicate 8 (.int .i64 0)) _ ?_; simp
  clear hW2
  have hS := SandsAt.of hl u hB
  have HS := Lib.hid hS
  have HB := Lib.hid hB
  clear hS hB
  refine (countsAllowed_c _ s W2 pT pF pS cT cF cS HS.out m1 m2 m3).mono ?_
  rintro e w' ⟨rfl, rfl⟩
  go_wp2_with fail
  · go_ret
    have h : okCounts s = false := by simpa using ‹(!okCounts s) = true›
    exact ⟨ret_int (by simp [chk, h]), u⟩
  have h1 : okCounts s = true := by simpa using ‹(!okCounts s) = false›
  have H1 := Lib.hid h1
  have hl2 : 2 ≤ s.table.length := by
    have := h1
    simp only [okCounts, Bool.and_eq_true, inB_true] at this
    omega
  clear h1
  refine (numbersAllowed_c _ s W2 pT pF pS cT cF cS HS.out m1 m2 m3).mono ?_
  rintro e w1 ⟨rfl, u1⟩
  go_wp2_with fail
  · go_ret
    have h : okNumbers s = false := by simpa using ‹(!okNumbers s) = true›
    exact ⟨ret_int (by simp [chk, h, H1.out]), Up.trans u u1⟩
  have h2 : okNumbers s = true := by simpa using ‹(!okNumbers s) = false›
  have H2 := Lib.hid h2
  clear h2
  refine (inOrder_c _ s w1 pT pF pS cT cF cS (HS.out.up u1) hl2 m1).mono ?_
  rintro e w2 ⟨rfl, u2⟩
  have u3 := Up.trans u1 u2
  have hs3 := HS.out.up u3
  have k3 := hs3.s4
  have k4 := hs3.s3
  have A : ∀ W, Up w2 W → Calls Tryz.prog 103 #[.slice pS s.sills.length cS, .func (.func 104) #[.pointer (some ⟨w.heap.size + 1, 0, none⟩)] #[]] W fun e W' => e = .returned (.bool (s.sills.all (okThings s.floors.length))) ∧ Up W W' :=
    fun W x => everySill_c _ _ _ _ _ _ _ _ (hs3.rs.up x) m3 en_joinsThings (fun y _ W' x' => joinsThings_c _ _ _ _ _ _ _ _ ((Up.trans x x').cellAt k4) m2)
  have B : ∀ W, Up w2 W → Calls Tryz.prog 103 #[.slice pS s.sills.length cS, .func (.func 105) #[] #[]] W fun e W' => e = .returned (.bool (s.sills.all (fun x => x.1 != x.2.1))) ∧ Up W W' :=
    fun W x => everySill_c _ _ _ _ _ _ _ _ (hs3.rs.up x) m3 en_joinsTwo (fun y _ W' x' => joinsTwo_c _ _ _ _)
  have HA := Lib.hid A
  have HB' := Lib.hid B
  have HS3 := Lib.hid hs3
  clear A B hs3
  go_wp2_with fail
  · go_ret
    have h : okOrder s = false := by simpa using ‹(!okOrder s) = true›
    exact ⟨ret_int (by simp [chk, h, H1.out, H2.out]), Up.trans u (Up.trans u1 u2)⟩
  have h3 : okOrder s = true := by simpa using ‹(!okOrder s) = false›
  have H3 := Lib.hid h3
  clear h3
  refine (HA.out _ (Below.refl _ _)).mono ?_
  rintro e w3 ⟨rfl, u4⟩
  have k5 := u4.cellAt k3
  go_wp2_with fail
  · go_ret
    have h : s.sills.all (okThings s.floors.length) = false := by simpa using ‹(!s.sills.all (okThings s.floors.length)) = true›
    exact ⟨ret_int (by simp [chk, h, H1.out, H2.out, H3.out]), Up.trans u (Up.trans u3 u4)⟩
  have h4 : s.sills.all (okThings s.floors.length) = true := by simpa using ‹(!s.sills.all (okThings s.floors.length)) = false›
  have H4 := Lib.hid h4
  clear h4
  refine (HB'.out _ u4).mono ?_
  rintro e w4 ⟨rfl, u5⟩
  have u6 := Up.trans u (Up.trans u3 (Up.trans u4 u5))
  go_wp2_with fail
  · go_ret
    have h : s.sills.all (fun x => x.1 != x.2.1) = false := by simpa using ‹(!s.sills.all (fun x => x.1 != x.2.1)) = true›
    exact ⟨ret_int (by simp [chk, h, H1.out, H2.out, H3.out, H4.out]), u6⟩
  · go_ret
    have h : s.sills.all (fun x => x.1 != x.2.1) = true := by simpa using ‹(!s.sills.all (fun x => x.1 != x.2.1)) = false›
    exact ⟨ret_int (by simp [chk, h, H1.out, H2.out, H3.out, H4.out]), u6⟩
end Go.Proofs.YtknaajofcbenaaaGreat
