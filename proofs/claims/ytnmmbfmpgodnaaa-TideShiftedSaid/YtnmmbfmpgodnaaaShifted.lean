/- Proved: whatever numbers, amount, place and minute are passed in, the law TideShifted returns true, and all arguments read behind the call as they read before it. Conditions: none but those that the given row states of itself. -/
import Derived.Test.YtnmmbfmpgodnaaaOpen
import Derived.Test.YtnmmbfmpgodnaaaHeap
import Derived.Test.YtnmmbfmpgodnaaaBase
import Derived.Test.YtnmmbfmpgodnaaaHeight
import Derived.Test.YtnmmbfmpgodnaaaChk2
import Derived.Test.YtnmmbfmpgodnaaaPost
import Derived.Test.YtnmmbfmpgodnaaaShifts
import Derived.Test.YtnmmbfmpgodnaaaAwake
import Derived.WalkKit
import Derived.WalkSpells
import Derived.WalkLawsBesides
import Derived.Deep.QuietTactic
import Derived.BigQuiet
import Derived.Lib.Hide
import Derived.Shelf.Abstract
import Derived.BigGuardPart
import Derived.Carry
import Derived.ChangeSame
import Derived.SizedLaws
import Derived.ProofKit
import Derived.OpenShut
import Derived.JoinedOf
import Derived.Deep.Slices
import Derived.RangeFuncNested
import Derived.RangeFuncBound
import Derived.RangeFuncCalls
import Derived.RangeFuncLeaves
import Derived.Shelf.RegionOpen
import Derived.OwnWalkIn
import Derived.TacticsInMore
import Derived.LoopNIn
import Derived.LoopIn
import Derived.StillTailTactics
import Derived.Deep.RegionHeld3
import Derived.StillTail
import Derived.RangeFuncWrites
import Derived.Laws.StructEq
import Derived.Deep.LoopGhost
import Derived.IntWalk
import Derived.RangeFuncBox
import Derived.ArgAppend
import Derived.Laws.CopyOwn
import Derived.OwnWalk
import Derived.Lib.SliceRun
import Derived.Maps.OwnOps
import Derived.Maps.OwnSet
import Derived.Deep.AppendSrc
import Derived.Deep.Upon
import Derived.Deep.Cut
import Derived.Deep.DeepCutAuto
/- Slices of bytes, and bytes, that came in. -/
namespace Go.Proofs.Ytnmmbfmpgodnaaa
section
open Go.ChangeShapes Go.WideShapes Go.ChangeAt Go.RowKit

section
variable {H : Type} {enc : TypeId × Value → H} {P : Program}
/-- a slice that came in, as rows of k cells -/
theorem open_rowsQ {w : World} {t e : TypeId} {fuel k : Nat} {Q : List Value → Prop} {v : Value} {x : DataW H × List MemPlace} (ht : P.underlying t = some (.slice e)) (hC : P.cellsOf e = k) (hk : 0 < k) (hQ : ∀ r, Q r → r.length = k)
    (hel : ∀ fuel cs y, DataW.trod enc P w 0 (fun _ => true) true fuel e cs = some y → Q cs) (h : DataW.trod enc P w 0 (fun _ => true) true fuel t [v] = some x) :
    ∃ p len cap rows, v = .slice p len cap ∧ len ≤ cap ∧ cap ≤ maxLen ∧ rows.length = len ∧ Row w p k rows ∧ (∀ r ∈ rows, Q r) ∧ ((x.1 = .nil ∧ cap = 0) ∨ ∃ el sp, x.1 = .slice el sp ∧ el.length + sp.length = cap) := by
  rcases Go.Deep.open_slice ht h with ⟨hv, rfl⟩ | ⟨a, len, cap, m, n, D, Pl, hv, -, hl, hm, hmm, rfl, hi⟩
  · simp only [List.cons.injEq, and_true] at hv
    exact ⟨none, 0, 0, [], hv, Nat.le_refl _, by simp [maxLen], rfl, fun i row hr => by simp at hr, fun r hr => by simp at hr, .inl ⟨rfl, rfl⟩⟩
  · simp only [List.cons.injEq, and_true] at hv
    simp only [if_true] at hmm
    subst hmm
    rw [hC] at hi
    have hch : ∀ i, ∃ cs, i < len → Q cs ∧ ∀ j c, cs[j]? = some c → w.cell? (a.add (i * k + j)) = some c := fun i => by
      by_cases hlt : i < len
      · obtain ⟨cs, hc, ht'⟩ := hi i (by omega)
        obtain ⟨-, hcl, hat⟩ := World.cells?_some hc
        refine ⟨cs, fun _ => ⟨hel _ _ _ ht', fun j c hj => ?_⟩⟩
        have hjl : j < k := by have := (List.getElem?_eq_some_iff.1 hj).1; omega
        rw [← Go.Deep.add_add, hat j hjl, hj]
      · exact ⟨[], fun h => absurd h hlt⟩
    obtain ⟨f, hf⟩ := Classical.axiomOfChoice hch
    refine ⟨some a, len, m, (List.range len).map f, hv, hl, hm, by simp, fun i row hr => ?_, fun r hr => ?_, .inr ⟨_, _, rfl, by simp; omega⟩⟩
    · rw [List.getElem?_map] at hr
      by_cases hlt : i < len
      · rw [List.getElem?_range hlt] at hr
        simp only [Option.map_some, Option.some.injEq] at hr
        subst hr
        obtain ⟨g2, g3⟩ := hf 0 (by omega)
        have g1 := hQ _ g2
        have h0 := g3 0 _ (List.getElem?_eq_getElem (by omega))
        have hs : a.spot = none := spot_of (by simpa [Addr.add] using h0)
        obtain ⟨b, off, sp⟩ := a
        simp only at hs
        subst hs
        refine ⟨b, off, rfl, fun j c hj => ?_⟩
        have := (hf i hlt).2 j c hj
        rwa [Addr.add_lit, ← Nat.add_assoc] at this
      · rw [List.getElem?_eq_none (by simp; omega)] at hr
        cases hr
    · simp only [List.mem_map, List.mem_range] at hr
      obtain ⟨i, hlt, rfl⟩ := hr
      exact (hf i hlt).1

/-- a row of one byte -/
def OneByte (r : List Value) : Prop := ∃ n, r = [.int .u8 n]
theorem bytes_of : ∀ {rows : List (List Value)}, (∀ r ∈ rows, OneByte r) → ∃ l : List Int, rows = bytes l
  | [], _ => ⟨[], rfl⟩
  | r :: rest, h => by
    obtain ⟨l, hl⟩ := bytes_of (rows := rest) (fun r hr => h r (by simp [hr]))
    obtain ⟨n, rfl⟩ := h r (by simp)
    exact ⟨n :: l, by rw [hl]; rfl⟩
theorem cellsByte : Try.prog.cellsOf 5 = 1 := by kernel_rfl
theorem bytesByte : Try.prog.bytesOf 5 = 1 := by kernel_rfl
set_option maxRecDepth 100000 in
theorem open_bytes {w : World} {base : Nat} {v : Value} {d : DataW H} {ps : List MemPlace} (hv : Value.okWide Try.prog w .any base 83 v) (h : DataW.Trod enc Try.prog w 0 (fun _ => true) true 83 v d ps) (hz : ∀ n ∈ DataW.weights Try.prog 83 d, n ≤ reachBytes) :
    ∃ p l c, v = .slice p l.length c ∧ Row w p 1 (bytes l) ∧ l.length ≤ 140737488355328 := by
  obtain ⟨fuel, hf⟩ := h
  obtain ⟨p0, n0, c0, rfl⟩ := okWide_slice Try.underlying83 hv
  have hf' : DataW.trod enc Try.prog w 0 (fun _ => true) true fuel 83 [.slice p0 n0 c0] = some (d, ps) := hf
  obtain ⟨p, len, cap, rows, e, a1, a2, a3, a4, a5, a6⟩ := open_rowsQ (Q := OneByte) Try.underlying83 cellsByte (by decide) (fun r ⟨n, e⟩ => by rw [e]; rfl) (fun fuel cs y hy => by
    obtain ⟨n, e, -, -⟩ := DataW.trod_int Try.underlying5 hy
    exact ⟨n, e⟩) hf'
  obtain ⟨l, rfl⟩ := bytes_of a5
  have q : (bytes l).length = l.length := by simp [bytes]
  rw [q] at a3
  subst a3
  have hr := room_of Try.underlying83 bytesByte a1 a6 hz
  exact ⟨p, l, cap, e, a4, by omega⟩
theorem byte_rng {n : Int} (h : (Lit.int .u8 n).wf = true) : 0 ≤ n ∧ n ≤ 255 := by
  simp [Lit.wf] at h
  have e1 : IntKind.u8.min = 0 := rfl
  have e2 : IntKind.u8.max = 255 := rfl
  omega
end
end
end Go.Proofs.Ytnmmbfmpgodnaaa
/- The law TideShifted returns true, whatever numbers are passed in. -/
namespace Go.Proofs.Ytnmmbfmpgodnaaa
open Go.RowKit Go.Shelf

section
variable {p : Option Addr} {c : Nat}
set_option maxRecDepth 100000 in
set_option maxHeartbeats 4000000 in
theorem shiftedLaw_c (l : List Int) (A V T : Int) (w : World) (hr : Row w p 1 (bytes l)) (hl : l.length ≤ 140737488355328) (a0 : 0 ≤ A) (a1 : A ≤ 255) (v0 : 0 ≤ V) (v1 : V ≤ 255) (t0 : 0 ≤ T) (t1 : T ≤ 255) :
    Calls Try.prog 11 #[.slice p l.length c, .int .u8 A, .int .u8 V, .int .u8 T] w fun e w' => e = .returned (.bool true) ∧ Up w w' := by
  have HP := Lib.hid (fun W (u : Up w W) => pile_c p c l W (hr.up u))
  clear hr
  go_enter Try.func11, Try.ntmps11
  go_wp2_with fail
  refine (HP.out _ (by (repeat (first | exact Below.refl _ _ | (with_reducible refine Below.drewN' ?_ _) | (with_reducible refine Below.drew ?_) | (with_reducible refine Below.setCell ?_ (by first | exact Nat.le_refl _ | omega | (with_reducible (repeat (first | refine sz_alloc ?_ | refine sz_setCell ?_ | refine sz_drew ?_ | refine sz_drewN ?_)); first | exact Nat.le_refl _ | omega) | (simp only [World.size_alloc, World.size_setCell, World.size_drew, size_drewN']; omega)) _) | (with_reducible refine Below.alloc ?_ (by first | exact Nat.le_refl _ | omega | (with_reducible (repeat (first | refine sz_alloc ?_ | refine sz_setCell ?_ | refine sz_drew ?_ | refine sz_drewN ?_)); first | exact Nat.le_refl _ | omega) | (simp only [World.size_alloc, World.size_setCell, World.size_drew, size_drewN']; omega)) _) | assumption)))).mono ?_
  rintro e w1 ⟨rfl, g1, u1, s1, ap⟩
  have U1 := Lib.hid u1
  have G1 := Lib.hid g1
  have AP := Lib.hid ap
  clear g1 u1 ap HP
  go_wp2_with fail
  refine (made_c (p := p) (c := c) (l := l) w.heap.size 6 9 w1 G1.out (AP.out.mono (by omega)) hl (by decide) (by decide) (by decide) (by decide)).mono ?_
  rintro e w2 ⟨s, qT, qF, qS, dT, dF, dS, rfl, mk, l2, -, -, f2⟩
  have MK := Lib.hid mk
  have L2 := Lib.hid l2
  have U2 : Hid (Up w w2) := Below.trans U1.out (f2.below (Nat.le_refl _) (by omega))
  have OK := Lib.hid (mk.ok (by decide) (by decide))
  have m2 := mk.t2
  have m4 := mk.t4
  have mlo := mk.lo
  have mhi := mk.hi
  have mf1 := mk.f1
  have mf6 := mk.fn
  have ms9 := mk.sn
  clear mk l2 f2 G1 AP U1 s1
  unfold sdVal
  go_wp2_with fail
  have B2 : Hid (Blk (w2.alloc (.cells #[.slice qT s.table.length dT, .int .i64 s.lo, .int .i64 s.hi, .slice qF s.floors.length dF, .slice qS s.sills.length dS] 28)) w2.heap.size (sdCells s qT qF qS dT dF dS) 28) := Blk.new w2 (sdCells s qT qF qS dT dF dS) 28
  have L3 : Hid (Lists (w2.alloc (.cells #[.slice qT s.table.length dT, .int .i64 s.lo, .int .i64 s.hi, .slice qF s.floors.length dF, .slice qS s.sills.length dS] 28)) s qT qF qS dT dF dS) := L2.out.up (by (repeat (first | exact Below.refl _ _ | (with_reducible refine Below.drewN' ?_ _) | (with_reducible refine Below.drew ?_) | (with_reducible refine Below.setCell ?_ (by first | exact Nat.le_refl _ | omega | (with_reducible (repeat (first | refine sz_alloc ?_ | refine sz_setCell ?_ | refine sz_drew ?_ | refine sz_drewN ?_)); first | exact Nat.le_refl _ | omega) | (simp only [World.size_alloc, World.size_setCell, World.size_drew, size_drewN']; omega)) _) | (with_reducible refine Below.alloc ?_ (by first | exact Nat.le_refl _ | omega | (with_reducible (repeat (first | refine sz_alloc ?_ | refine sz_setCell ?_ | refine sz_drew ?_ | refine sz_drewN ?_)); first | exact Nat.le_refl _ | omega) | (simp only [World.size_alloc, World.size_setCell, World.size_drew, size_drewN']; omega)) _) | assumption)))
  have U3 : Hid (Up w (w2.alloc (.cells #[.slice qT s.table.length dT, .int .i64 s.lo, .int .i64 s.hi, .slice qF s.floors.length dF, .slice qS s.sills.length dS] 28))) := Up.trans U2.out (by (repeat (first | exact Below.refl _ _ | (with_reducible refine Below.drewN' ?_ _) | (with_reducible refine Below.drew ?_) | (with_reducible refine Below.setCell ?_ (by first | exact Nat.le_refl _ | omega | (with_reducible (repeat (first | refine sz_alloc ?_ | refine sz_setCell ?_ | refine sz_drew ?_ | refine sz_drewN ?_)); first | exact Nat.le_refl _ | omega) | (simp only [World.size_alloc, World.size_setCell, World.size_drew, size_drewN']; omega)) _) | (with_reducible refine Below.alloc ?_ (by first | exact Nat.le_refl _ | omega | (with_reducible (repeat (first | refine sz_alloc ?_ | refine sz_setCell ?_ | refine sz_drew ?_ | refine sz_drewN ?_)); first | exact Nat.le_refl _ | omega) | (simp only [World.size_alloc, World.size_setCell, World.size_drew, size_drewN']; omega)) _) | assumption)))
  have M3 : Hid (w.heap.size ≤ w2.heap.size) := Lib.hid U2.out.size
  generalize (w2.alloc (.cells #[.slice qT s.table.length dT, .int .i64 s.lo, .int .i64 s.hi, .slice qF s.floors.length dF, .slice qS s.sills.length dS] 28)) = w3 at *
  generalize w2.heap.size = M at *
  clear L2 U2 w2
  refine (own_o s w3 L3.out (by omega) (by omega) (by omega)).mono ?_
  rintro e w4 ⟨rT, rF, rS, eT, eF, eS, rfl, l4, u4, -, mn⟩
  have L4 := Lib.hid l4
  have U4 := Lib.hid u4
  have MN := Lib.hid mn
  have ltM3 := B2.out.lt
  have b4 := B2.out.up u4
  have B4 := Lib.hid b4
  have c1 := b4.cell 1
  have c2 := b4.cell 2
  have fM := b4.free
  have ltM := b4.lt
  simp only [sdCells, List.getElem?_cons_zero, List.getElem?_cons_succ] at c1 c2
  clear l4 u4 mn b4 B2
  unfold sdVal
  obtain ⟨g, rfl, hg, pb⟩ := PairBlk.of MN.out.ot (by omega)
  have PB := Lib.hid pb
  have ltg := pb.lt
  have d0 : 0 ≤ A % 40 := by omega
  have d1 : A % 40 ≤ 39 := by omega
  clear pb
  go_wp2_with fail
  have BN : Hid (Blk (w4.alloc (.cells #[.slice (some ⟨g, 0, none⟩) s.table.length eT, .int .i64 (s.lo - A % 40), .int .i64 (s.hi - A % 40), .slice rF s.floors.length eF, .slice rS s.sills.length eS] 28)) w4.heap.size [.slice (some ⟨g, 0, none⟩) s.table.length eT, .int .i64 (s.lo - A % 40), .int .i64 (s.hi - A % 40), .slice rF s.floors.length eF, .slice rS s.sills.length eS] 28) := Blk.new w4 [.slice (some ⟨g, 0, none⟩) s.table.length eT, .int .i64 (s.lo - A % 40), .int .i64 (s.hi - A % 40), .slice rF s.floors.length eF, .slice rS s.sills.length eS] 28
  have U5 : Hid (Up w4 (w4.alloc (.cells #[.slice (some ⟨g, 0, none⟩) s.table.length eT, .int .i64 (s.lo - A % 40), .int .i64 (s.hi - A % 40), .slice rF s.floors.length eF, .slice rS s.sills.length eS] 28))) := Lib.hid (by (repeat (first | exact Below.refl _ _ | (with_reducible refine Below.drewN' ?_ _) | (with_reducible refine Below.drew ?_) | (with_reducible refine Below.setCell ?_ (by first | exact Nat.le_refl _ | omega | (with_reducible (repeat (first | refine sz_alloc ?_ | refine sz_setCell ?_ | refine sz_drew ?_ | refine sz_drewN ?_)); first | exact Nat.le_refl _ | omega) | (simp only [World.size_alloc, World.size_setCell, World.size_drew, size_drewN']; omega)) _) | (with_reducible refine Below.alloc ?_ (by first | exact Nat.le_refl _ | omega | (with_reducible (repeat (first | refine sz_alloc ?_ | refine sz_setCell ?_ | refine sz_drew ?_ | refine sz_drewN ?_)); first | exact Nat.le_refl _ | omega) | (simp only [World.size_alloc, World.size_setCell, World.size_drew, size_drewN']; omega)) _) | assumption)))
  generalize (w4.alloc (.cells #[.slice (some ⟨g, 0, none⟩) s.table.length eT, .int .i64 (s.lo - A % 40), .int .i64 (s.hi - A % 40), .slice rF s.floors.length eF, .slice rS s.sills.length eS] 28)) = w5 at *
  generalize w4.heap.size = N at *
  generalize A % 40 = d at *
  have P5 : Hid (PairBlk w5 g s.table) := Lib.hid (by obtain ⟨cur, h1, h2⟩ := PB.out; exact ⟨cur, h1.up U5.out, h2⟩)
  clear PB
  go_loopw [51] (fun i wr => ∃ k : Nat, k ≤ s.table.length ∧ i = .int .i64 k ∧ Far g w5.heap.size w5 wr ∧ PairBlk wr g (partly d s.table k)) (fun i _ => s.table.length - (intOf i).toNat)
  case atStart => exact ⟨0, by omega, rfl, Far.refl _ _ _, by rw [partly_zero]; exact P5.out⟩
  case round =>
    obtain ⟨k, hk, rfl, hf, hp⟩ := hrel
    have HF := Lib.hid hf
    have HPB := Lib.hid hp
    have bN := hf.blk BN.out BN.out.lt (by omega)
    have n0 := bN.cell 0
    have fN := bN.free
    have lN := bN.lt
    simp only [List.getElem?_cons_zero] at n0
    clear hf bN
    by_cases hlt : k < s.table.length
    · obtain ⟨-, y1⟩ := hp.cells (k := k) (by rw [partly_len]; exact hlt)
      rw [partly_at d s.table k hlt] at y1
      have yf := hp.free
      have yl := hp.lt
      have q1 : (k : Int) < s.table.length := by omega
      obtain ⟨-, -, x3, x4⟩ := OK.out.table.1 s.table[k] (List.getElem_mem _)
      clear hp
      go_wp2
      go_roundw
      case rel => exact ⟨k + 1, by omega, by go_num, HF.out.setIn _ _, HPB.out.lift hlt⟩
      case measure => simp [intOf]; omega
    · obtain rfl : k = s.table.length := by omega
      have lw5 := BN.out.lt
      have hT : PairBlk wr g (s.table.map (lift d)) := by rw [← partly_all]; exact hp
      have LS : Hid (Lists wr s qT qF qS dT dF dS) := by
        have h := (L3.out.up U4.out).up U5.out
        refine Lib.hid ⟨HF.out.row h.rt (fun h0 b off e => ?_), HF.out.row h.rf (fun h0 b off e => ?_), HF.out.row h.rs (fun h0 b off e => ?_), h.ct, h.cf, h.cs, h.mt, h.mf, h.ms⟩
        · have := L3.out.rt.lt (pairs_pos _) h0 e; omega
        · have := L3.out.rf.lt (ints_pos _) h0 e; omega
        · have := L3.out.rs.lt (triples_pos _) h0 e; omega
      have LT : Hid (Lists wr (shifted d s) (some ⟨g, 0, none⟩) rF rS eT eF eS) := by
        have h := L4.out.up U5.out
        have hm := MN.out.up U5.out
        have hlen : (shifted d s).table.length = s.table.length := List.length_map ..
        refine Lib.hid ⟨hT.row, HF.out.row h.rf (fun h0 b off e => ⟨h.rf.lt (ints_pos _) h0 e, ?_⟩), HF.out.row h.rs (fun h0 b off e => ⟨h.rs.lt (triples_pos _) h0 e, ?_⟩), by rw [hlen]; exact h.ct, h.cf, h.cs, h.mt, h.mf, h.ms⟩
        · exact P5.out.ne hm.of (by decide) b off e
        · exact P5.out.ne hm.os (by decide) b off e
      have BM : Hid (Blk wr M (sdCells s qT qF qS dT dF dS) 28) := Lib.hid (HF.out.blk (B4.out.up U5.out) (by omega) (by omega))
      have BT : Hid (Blk wr N [.slice (some ⟨g, 0, none⟩) s.table.length eT, .int .i64 (s.lo - d), .int .i64 (s.hi - d), .slice rF s.floors.length eF, .slice rS s.sills.length eS] 28) := Lib.hid (HF.out.blk BN.out lw5 (by omega))
      have UR : Hid (Up w wr) := by
        have h3 := U3.out.size
        exact Lib.hid (Below.trans (Up.trans (Up.trans U3.out U4.out) U5.out) (HF.out.below (by omega) (by omega)))
      have OK' : Hid (Ok (shifted d s)) := Lib.hid (MK.out.shift (by decide) (by decide) d0 (by omega))
      have m0 := BM.out.cell 2
      have m1 := BM.out.cell 3
      simp only [sdCells, List.getElem?_cons_zero, List.getElem?_cons_succ] at m0 m1
      have z1 : ¬ ((s.floors.length : Int) = 0) := by omega
      clear hp hT HF HPB fN n0 lN P5 BN U5 MN L4 L3 U3 U4 B4 c1 c2 fM hg lw5 ltM3 M3 w3 w4
      go_wp2_with fail
      obtain ⟨f0, f1, f2⟩ := firstM_lt OK.out.table
      have vm : 0 ≤ V % (s.floors.length : Int) ∧ V % (s.floors.length : Int) < s.floors.length := ⟨Int.emod_nonneg _ z1, Int.emod_lt_of_pos _ (by omega)⟩
      generalize V % (s.floors.length : Int) = x at *
      have HFst := Lib.hid (fun W (u : Up wr W) => firstL_c s W (LS.out.up u) m2)
      have HLst := Lib.hid (fun W (u : Up wr W) => lastL_c s W (LS.out.up u) m2 (by omega))
      have c0 := BM.out.cell 0
      have c1 := BM.out.cell 1
      have c2 := BM.out.cell 2
      have c3 := BM.out.cell 3
      have c4 := BM.out.cell 4
      simp only [sdCells, List.getElem?_cons_zero, List.getElem?_cons_succ] at c0 c1 c2 c3 c4
      have z2 : ¬ (lastM s.table - firstM s.table + 1 = 0) := by omega
      have z3 : 0 ≤ T % (lastM s.table - firstM s.table + 1) ∧ T % (lastM s.table - firstM s.table + 1) < lastM s.table - firstM s.table + 1 := ⟨Int.emod_nonneg _ z2, Int.emod_lt_of_pos _ (by omega)⟩
      clear m0 m1 MK hk hlt z1
      refine region_tail (fun W' => W'.cell? ⟨M, 0, none⟩ = some (.slice qT s.table.length dT) ∧ W'.cell? ⟨M, 1, none⟩ = some (.int .i64 s.lo) ∧ W'.cell? ⟨M, 2, none⟩ = some (.int .i64 s.hi) ∧ W'.cell? ⟨M, 3, none⟩ = some (.slice qF s.floors.length dF) ∧ W'.cell? ⟨M, 4, none⟩ = some (.slice qS s.sills.length dS) ∧ Up wr W') 12 mixed (by kernel_rfl) ⟨c0, c1, c2, c3, c4, (Below.refl _ _).drew⟩ (fun hHeld => ?_)
      refine wpAnyG_take 0 71 (v := ?_) rfl rfl (by kernel_rfl) (fun _ _ _ h => h) (Or.inl ⟨by rfl, ?_⟩) (by assumption) ?_
      rotate_left
      · (intro w' hSw; (try dsimp only at hSw); go_split_ands; go_simp; try with_reducible rfl)
      try simp only [List.setIfInBounds_toArray, List.set_cons_zero, List.set_cons_succ]
      refine wpAnyG_take 2 73 (v := ?_) rfl rfl (by kernel_rfl) (fun _ _ _ h => h) (Or.inl ⟨by rfl, ?_⟩) (by assumption) ?_
      rotate_left
      · (intro w' hSw; (try dsimp only at hSw); go_split_ands; go_simp; try with_reducible rfl)
      try simp only [List.setIfInBounds_toArray, List.set_cons_zero, List.set_cons_succ]
      refine wpAnyG_take 3 74 (v := ?_) rfl rfl (by kernel_rfl) (fun _ _ _ h => h) (Or.inl ⟨by rfl, ?_⟩) (by assumption) ?_
      rotate_left
      · (intro w' hSw; (try dsimp only at hSw); go_split_ands; go_simp; try with_reducible rfl)
      try simp only [List.setIfInBounds_toArray, List.set_cons_zero, List.set_cons_succ]
      refine wpAnyG_take 4 75 (v := ?_) rfl rfl (by kernel_rfl) (fun _ _ _ h => h) (Or.inl ⟨by rfl, ?_⟩) (by assumption) ?_
      rotate_left
      · (intro w' hSw; (try dsimp only at hSw); go_split_ands; go_simp; try with_reducible rfl)
      try simp only [List.setIfInBounds_toArray, List.set_cons_zero, List.set_cons_succ]
      refine wpAnyG_take 6 77 (v := ?_) rfl rfl (by kernel_rfl) (fun _ _ _ h => h) (Or.inl ⟨by rfl, ?_⟩) (by assumption) ?_
      rotate_left
      · (intro w' hSw; (try dsimp only at hSw); go_split_ands; go_simp; try with_reducible rfl)
      try simp only [List.setIfInBounds_toArray, List.set_cons_zero, List.set_cons_succ]
      refine wpAnyG_do 1 rfl (by kernel_rfl) (fun K hK => ?_)
      rw [if_pos (by rfl)]
      go_simp
      refine (HFst.out _ ((Below.refl _ _).drew)).mono ?_
      rintro e w6 ⟨rfl, v6⟩
      have v6' : Up wr w6 := Up.trans ((Below.refl _ _).drew) v6
      refine hK.out _ _ ⟨v6'.cellAt c0, v6'.cellAt c1, v6'.cellAt c2, v6'.cellAt c3, v6'.cellAt c4, v6'⟩ (fun hHeld => ?_)
      clear hK K
      refine wpAnyG_do 5 rfl (by kernel_rfl) (fun K hK => ?_)
      rw [if_pos (by rfl)]
      go_simp
      refine (HLst.out _ v6').mono ?_
      rintro e w7 ⟨rfl, v7⟩
      have v7' : Up wr w7 := Up.trans v6' v7
      refine hK.out _ _ ⟨v7'.cellAt c0, v7'.cellAt c1, v7'.cellAt c2, v7'.cellAt c3, v7'.cellAt c4, v7'⟩ (fun hHeld => ?_)
      clear hK K
      refine wpAnyG_do 7 rfl (by kernel_rfl) (fun K hK => ?_)
      rw [if_pos (by rfl)]
      go_simp
      refine (HFst.out _ v7').mono ?_
      rintro e w8 ⟨rfl, v8⟩
      have v8' : Up wr w8 := Up.trans v7' v8
      refine hK.out _ _ ⟨v8'.cellAt c0, v8'.cellAt c1, v8'.cellAt c2, v8'.cellAt c3, v8'.cellAt c4, v8'⟩ (fun hHeld => ?_)
      clear hK K
      have s1 : IntKind.i64.wrap (lastM s.table - firstM s.table) = lastM s.table - firstM s.table := IntWalk.i64_in _ (by omega)
      have s2 : IntKind.i64.wrap (lastM s.table - firstM s.table + 1) = lastM s.table - firstM s.table + 1 := IntWalk.i64_in _ (by omega)
      have s3 : IntKind.i64.wrap T = T := IntWalk.i64_in _ (by omega)
      have s4 : IntKind.i64.wrap (firstM s.table + T % (lastM s.table - firstM s.table + 1)) = firstM s.table + T % (lastM s.table - firstM s.table + 1) := IntWalk.i64_in _ (by omega)
      have s5 : T.tmod (lastM s.table - firstM s.table + 1) = T % (lastM s.table - firstM s.table + 1) := Int.tmod_eq_emod_of_nonneg t0
      refine wpAnyG_take 8 79 (v := .int .i64 (lastM s.table - firstM s.table)) rfl rfl (by kernel_rfl) (fun _ _ _ h => h) (Or.inl ⟨by rfl, ?_⟩) (by assumption) ?_
      · intro w' _
        go_simp
      try simp only [List.setIfInBounds_toArray, List.set_cons_zero, List.set_cons_succ]
      refine wpAnyG_take 9 80 (v := .int .i64 (lastM s.table - firstM s.table + 1)) rfl rfl (by kernel_rfl) (fun _ _ _ h => h) (Or.inl ⟨by rfl, ?_⟩) (by assumption) ?_
      · intro w' _
        go_simp
      try simp only [List.setIfInBounds_toArray, List.set_cons_zero, List.set_cons_succ]
      refine wpAnyG_take 10 81 (v := .int .i64 (T % (lastM s.table - firstM s.table + 1))) rfl rfl (by kernel_rfl) (fun _ _ _ h => h) (Or.inl ⟨by rfl, ?_⟩) (by assumption) ?_
      · intro w' _
        go_simp
      try simp only [List.setIfInBounds_toArray, List.set_cons_zero, List.set_cons_succ]
      refine wpAnyG_take 11 82 (v := .int .i64 (firstM s.table + T % (lastM s.table - firstM s.table + 1))) rfl rfl (by kernel_rfl) (fun _ _ _ h => h) (Or.inl ⟨by rfl, ?_⟩) (by assumption) ?_
      · intro w' _
        go_simp
      try simp only [List.setIfInBounds_toArray, List.set_cons_zero, List.set_cons_succ]
      have mm : firstM s.table ≤ firstM s.table + T % (lastM s.table - firstM s.table + 1) ∧ firstM s.table + T % (lastM s.table - firstM s.table + 1) ≤ lastM s.table := by omega
      generalize firstM s.table + T % (lastM s.table - firstM s.table + 1) = m at *
      have LS8 := Lib.hid (LS.out.up v8')
      have LT8 := Lib.hid (LT.out.up v8')
      have BM8 := Lib.hid (BM.out.up v8')
      have BT8 := Lib.hid (BT.out.up v8')
      have U8 : Hid (Up w w8) := Lib.hid (Up.trans UR.out v8')
      have d8 := v8'.cellAt c0
      have d9 := v8'.cellAt c1
      have d10 := v8'.cellAt c2
      have d11 := v8'.cellAt c3
      have d12 := v8'.cellAt c4
      refine wpAnyG_tail (by kernel_rfl) ?_
      clear s1 s2 s3 s4 s5 z2 z3 c0 c1 c2 c3 c4 hHeld HFst HLst LS LT BM BT UR v6 v7 v8 v6' v7' v8'
      change wpList _ _ _ [_] _ _
      go_wp2_with fail
      refine (firstL_c s w8 LS8.out m2).mono ?_
      rintro e w9 ⟨rfl, u9⟩
      have LS9 := Lib.hid (LS8.out.up u9)
      have LT9 := Lib.hid (LT8.out.up u9)
      have BM9 := Lib.hid (BM8.out.up u9)
      have BT9 := Lib.hid (BT8.out.up u9)
      have U9 : Hid (Up w w9) := Lib.hid (Up.trans U8.out u9)
      clear d8 d9 d10 d11 d12 LS8 LT8 BM8 BT8 U8 u9
      have ltMN := ltM
      clear ltM ltg
      go_wp2_with fail
      go_loopw [15] (fun i wx => ∃ y : Int, i = .int .i64 y ∧ firstM s.table ≤ y ∧ y ≤ lastM s.table + 1 ∧ Up w9 wx) (fun i _ => (lastM s.table + 1 - intOf i).toNat)
      case atStart => exact ⟨_, rfl, Int.le_refl _, by omega, Below.refl _ _⟩
      case round =>
        obtain ⟨y, rfl, y0, y1, hu⟩ := hrel
        have LSx := Lib.hid (LS9.out.up hu)
        have LTx := Lib.hid (LT9.out.up hu)
        have BMx := Lib.hid (BM9.out.up hu)
        have BTx := Lib.hid (BT9.out.up hu)
        have Ux : Hid (Up w9 wr) := Lib.hid hu
        obtain ⟨c0, c1, c2, c3, c4⟩ := five BMx.out
        clear hu
        go_wp2_with fail
        refine (lastL_c s wr LSx.out m2 (by omega)).mono ?_
        rintro e wa ⟨rfl, ua⟩
        have La := Lib.hid (LSx.out.up ua)
        have Ta := Lib.hid (LTx.out.up ua)
        have Ma := Lib.hid (BMx.out.up ua)
        have Na := Lib.hid (BTx.out.up ua)
        have Ua : Hid (Up w9 wa) := Lib.hid (Up.trans Ux.out ua)
        obtain ⟨c0, c1, c2, c3, c4⟩ := five Ma.out
        clear ua LSx LTx BMx BTx Ux
        by_cases hy : y ≤ lastM s.table
        · have hin : Hid (inDay s y = true) := Lib.hid (inB_true.2 ⟨y0, hy⟩)
          go_wp2_with fail
          refine (sAll_c OK.out hin.out La.out).mono ?_
          rintro e wb ⟨pa, ka, rfl, a1, a2, a3, ub⟩
          have A3 := Lib.hid a3
          have Lb := Lib.hid (La.out.up ub)
          have Tb := Lib.hid (Ta.out.up ub)
          have Mb := Lib.hid (Ma.out.up ub)
          have Nb := Lib.hid (Na.out.up ub)
          have Ub : Hid (Up w9 wb) := Lib.hid (Up.trans Ua.out ub)
          obtain ⟨c0, c1, c2, c3, c4⟩ := five Mb.out
          obtain ⟨n0, n1, n2, n3, n4⟩ := five Nb.out
          clear ub La Ta Ma Na Ua a3
          go_wp2_with fail
          refine (shAll_c OK.out OK'.out hin.out Tb.out).mono ?_
          rintro e wc ⟨pb, kb, rfl, b1, b2, b3, uc⟩
          have B3 := Lib.hid b3
          have A4 := Lib.hid (A3.out.up uc)
          have Lc := Lib.hid (Lb.out.up uc)
          have Tc := Lib.hid (Tb.out.up uc)
          have Mc := Lib.hid (Mb.out.up uc)
          have Nc := Lib.hid (Nb.out.up uc)
          have Uc : Hid (Up w9 wc) := Lib.hid (Up.trans Ub.out uc)
          obtain ⟨c0, c1, c2, c3, c4⟩ := five Mc.out
          clear uc Lb Tb Mb Nb Ub b3 A3 n0 n1 n2 n3 n4
          go_wp2_with fail
          refine (sLevel_c OK.out hin.out Lc.out).mono ?_
          rintro e wd ⟨rfl, ud⟩
          have B4 := Lib.hid (B3.out.up ud)
          have A5 := Lib.hid (A4.out.up ud)
          have Ld := Lib.hid (Lc.out.up ud)
          have Td := Lib.hid (Tc.out.up ud)
          have Md := Lib.hid (Mc.out.up ud)
          have Nd := Lib.hid (Nc.out.up ud)
          have Ud : Hid (Up w9 wd) := Lib.hid (Up.trans Uc.out ud)
          obtain ⟨n0, n1, n2, n3, n4⟩ := five Nd.out
          have nlt := Nd.out.lt
          clear ud Lc Tc Mc Nc Uc B3 A4 c0 c1 c2 c3 c4
          go_wp2_with fail
          have HR := hgt_rng OK.out.table y y0
          have Xd : Hid (Blk (wd.alloc (.cells #[.int .i64 (hgt s.table y + s.lo), .int .i64 (hgt s.table y + s.hi)] 24)) wd.heap.size [.int .i64 (hgt s.table y + s.lo), .int .i64 (hgt s.table y + s.hi)] 24) := Blk.new wd [.int .i64 (hgt s.table y + s.lo), .int .i64 (hgt s.table y + s.hi)] _
          have ud : Up wd (wd.alloc (.cells #[.int .i64 (hgt s.table y + s.lo), .int .i64 (hgt s.table y + s.hi)] 24)) := by (repeat (first | exact Below.refl _ _ | (with_reducible refine Below.drewN' ?_ _) | (with_reducible refine Below.drew ?_) | (with_reducible refine Below.setCell ?_ (by first | exact Nat.le_refl _ | omega | (with_reducible (repeat (first | refine sz_alloc ?_ | refine sz_setCell ?_ | refine sz_drew ?_ | refine sz_drewN ?_)); first | exact Nat.le_refl _ | omega) | (simp only [World.size_alloc, World.size_setCell, World.size_drew, size_drewN']; omega)) _) | (with_reducible refine Below.alloc ?_ (by first | exact Nat.le_refl _ | omega | (with_reducible (repeat (first | refine sz_alloc ?_ | refine sz_setCell ?_ | refine sz_drew ?_ | refine sz_drewN ?_)); first | exact Nat.le_refl _ | omega) | (simp only [World.size_alloc, World.size_setCell, World.size_drew, size_drewN']; omega)) _) | assumption))
          refine (shLevel_c OK.out OK'.out hin.out (Td.out.up ud)).mono ?_
          rintro e we ⟨rfl, ue⟩
          have ue' := Up.trans ud ue
          have B5 := Lib.hid (B4.out.up ue')
          have A6 := Lib.hid (A5.out.up ue')
          have Le := Lib.hid (Ld.out.up ue')
          have Me := Lib.hid (Md.out.up ue')
          have Xe := Lib.hid (Xd.out.up ue)
          have Ue : Hid (Up w9 we) := Lib.hid (Up.trans Ud.out ue')
          have hX := Xd.out.lt
          have hX' := Xe.out.lt
          clear ud ue ue' Ld Td Md Nd Ud B4 A5 Xd n0 n1 n2 n3 n4 nlt
          generalize wd.heap.size = X at *
          go_wp2_with fail
          have Yf : Hid (Blk (we.alloc (.cells #[.int .i64 (hgt s.table y + s.lo), .int .i64 (hgt s.table y + s.hi)] 24)) we.heap.size [.int .i64 (hgt s.table y + s.lo), .int .i64 (hgt s.table y + s.hi)] 24) := Blk.new we [.int .i64 (hgt s.table y + s.lo), .int .i64 (hgt s.table y + s.hi)] _
          have uf : Up we (we.alloc (.cells #[.int .i64 (hgt s.table y + s.lo), .int .i64 (hgt s.table y + s.hi)] 24)) := by (repeat (first | exact Below.refl _ _ | (with_reducible refine Below.drewN' ?_ _) | (with_reducible refine Below.drew ?_) | (with_reducible refine Below.setCell ?_ (by first | exact Nat.le_refl _ | omega | (with_reducible (repeat (first | refine sz_alloc ?_ | refine sz_setCell ?_ | refine sz_drew ?_ | refine sz_drewN ?_)); first | exact Nat.le_refl _ | omega) | (simp only [World.size_alloc, World.size_setCell, World.size_drew, size_drewN']; omega)) _) | (with_reducible refine Below.alloc ?_ (by first | exact Nat.le_refl _ | omega | (with_reducible (repeat (first | refine sz_alloc ?_ | refine sz_setCell ?_ | refine sz_drew ?_ | refine sz_drewN ?_)); first | exact Nat.le_refl _ | omega) | (simp only [World.size_alloc, World.size_setCell, World.size_drew, size_drewN']; omega)) _) | assumption))
          generalize (we.alloc (.cells #[.int .i64 (hgt s.table y + s.lo), .int .i64 (hgt s.table y + s.hi)] 24)) = wf at *
          generalize we.heap.size = Y at *
          have Uf : Hid (Up w9 wf) := Lib.hid (Up.trans Ue.out uf)
          have EQ : Hid (∀ W, Up wf W → Calls Try.prog 61 #[.slice pa (allV s y).length ka, .slice pb (allV s y).length kb] W fun e w' => e = .returned (.bool true) ∧ Up W w') := Lib.hid (fun W u => by
            have := eqState_c (allV s y) (allV s y) pa pb ka kb W (A6.out.up (Up.trans uf u)) (B5.out.up (Up.trans uf u)) (by omega) (by omega)
            rw [decide_eq_true (rfl : allV s y = allV s y)] at this
            exact this)
          have LN : Hid (∀ W, Up wf W → Calls Try.prog 62 #[sdVal s qT qF qS dT dF dS, .int .i64 y] W fun e w' => e = .returned (.int .i64 (hgt s.table y)) ∧ Up W w') := Lib.hid (fun W u => line_c s y W (Le.out.up (Up.trans uf u)) OK.out.table hin.out)
          obtain ⟨c0, c1, c2, c3, c4⟩ := five (Me.out.up uf)
          have e0 := (Xe.out.up uf).cell 0
          have e1 := (Xe.out.up uf).cell 1
          have f0' := Yf.out.cell 0
          have f1' := Yf.out.cell 1
          simp only [List.getElem?_cons_zero, List.getElem?_cons_succ] at e0 e1 f0' f1'
          have w0 : IntKind.i64.wrap (hgt s.table y + s.lo) = hgt s.table y + s.lo := IntWalk.i64_in _ (by omega)
          have w1' : IntKind.i64.wrap (hgt s.table y + s.hi) = hgt s.table y + s.hi := IntWalk.i64_in _ (by omega)
          clear uf A6 B5 Le Me Xe Yf Ue hX hX'
          refine region_tail (fun W' => W'.cell? ⟨M, 0, none⟩ = some (.slice qT s.table.length dT) ∧ W'.cell? ⟨M, 1, none⟩ = some (.int .i64 s.lo) ∧ W'.cell? ⟨M, 2, none⟩ = some (.int .i64 s.hi) ∧ W'.cell? ⟨M, 3, none⟩ = some (.slice qF s.floors.length dF) ∧ W'.cell? ⟨M, 4, none⟩ = some (.slice qS s.sills.length dS) ∧ W'.cell? ⟨X, 0, none⟩ = some (.int .i64 (hgt s.table y + s.lo)) ∧ W'.cell? ⟨X, 1, none⟩ = some (.int .i64 (hgt s.table y + s.hi)) ∧ W'.cell? ⟨Y, 0, none⟩ = some (.int .i64 (hgt s.table y + s.lo)) ∧ W'.cell? ⟨Y, 1, none⟩ = some (.int .i64 (hgt s.table y + s.hi)) ∧ Up wf W') 49 mixed (by kernel_rfl) ⟨c0, c1, c2, c3, c4, e0, e1, f0', f1', (Below.refl _ _).drew⟩ (fun hHeld => ?_)
          refine wpAnyG_take 0 115 (v := ?_) rfl rfl (by kernel_rfl) (fun _ _ _ h => h) (Or.inl ⟨by rfl, ?_⟩) (by assumption) ?_
          rotate_left
          · (intro w' hSw; (try dsimp only at hSw); go_split_ands; go_simp; try with_reducible rfl)
          try simp only [List.setIfInBounds_toArray, List.set_cons_zero, List.set_cons_succ]
          refine wpAnyG_take 1 116 (v := ?_) rfl rfl (by kernel_rfl) (fun _ _ _ h => h) (Or.inl ⟨by rfl, ?_⟩) (by assumption) ?_
          rotate_left
          · (intro w' hSw; (try dsimp only at hSw); go_split_ands; go_simp; try with_reducible rfl)
          try simp only [List.setIfInBounds_toArray, List.set_cons_zero, List.set_cons_succ]
          refine wpAnyG_take 2 117 (v := ?_) rfl rfl (by kernel_rfl) (fun _ _ _ h => h) (Or.inl ⟨by rfl, ?_⟩) (by assumption) ?_
          rotate_left
          · (intro w' hSw; (try dsimp only at hSw); go_split_ands; go_simp; try with_reducible rfl)
          try simp only [List.setIfInBounds_toArray, List.set_cons_zero, List.set_cons_succ]
          refine wpAnyG_take 3 118 (v := ?_) rfl rfl (by kernel_rfl) (fun _ _ _ h => h) (Or.inl ⟨by rfl, ?_⟩) (by assumption) ?_
          rotate_left
          · (intro w' hSw; (try dsimp only at hSw); go_split_ands; go_simp; try with_reducible rfl)
          try simp only [List.setIfInBounds_toArray, List.set_cons_zero, List.set_cons_succ]
          refine wpAnyG_take 4 119 (v := ?_) rfl rfl (by kernel_rfl) (fun _ _ _ h => h) (Or.inl ⟨by rfl, ?_⟩) (by assumption) ?_
          rotate_left
          · (intro w' hSw; (try dsimp only at hSw); go_split_ands; go_simp; try with_reducible rfl)
          try simp only [List.setIfInBounds_toArray, List.set_cons_zero, List.set_cons_succ]
          refine wpAnyG_take 5 120 (v := ?_) rfl rfl (by kernel_rfl) (fun _ _ _ h => h) (Or.inl ⟨by rfl, ?_⟩) (by assumption) ?_
          rotate_left
          · (intro w' hSw; (try dsimp only at hSw); go_split_ands; go_simp; try with_reducible rfl)
          try simp only [List.setIfInBounds_toArray, List.set_cons_zero, List.set_cons_succ]
          refine wpAnyG_take 6 121 (v := ?_) rfl rfl (by kernel_rfl) (fun _ _ _ h => h) (Or.inl ⟨by rfl, ?_⟩) (by assumption) ?_
          rotate_left
          · (intro w' hSw; (try dsimp only at hSw); go_split_ands; go_simp; try with_reducible rfl)
          try simp only [List.setIfInBounds_toArray, List.set_cons_zero, List.set_cons_succ]
          refine wpAnyG_take 7 122 (v := ?_) rfl rfl (by kernel_rfl) (fun _ _ _ h => h) (Or.inl ⟨by rfl, ?_⟩) (by assumption) ?_
          rotate_left
          · (intro w' hSw; (try dsimp only at hSw); go_split_ands; go_simp; try with_reducible rfl)
          try simp only [List.setIfInBounds_toArray, List.set_cons_zero, List.set_cons_succ]
          refine wpAnyG_take 8 123 (v := ?_) rfl rfl (by kernel_rfl) (fun _ _ _ h => h) (Or.inl ⟨by rfl, ?_⟩) (by assumption) ?_
          rotate_left
          · (intro w' hSw; (try dsimp only at hSw); go_split_ands; go_simp; try with_reducible rfl)
          try simp only [List.setIfInBounds_toArray, List.set_cons_zero, List.set_cons_succ]
          refine wpAnyG_take 9 124 (v := ?_) rfl rfl (by kernel_rfl) (fun _ _ _ h => h) (Or.inl ⟨by rfl, ?_⟩) (by assumption) ?_
          rotate_left
          · (intro w' hSw; (try dsimp only at hSw); go_split_ands; go_simp; try with_reducible rfl)
          try simp only [List.setIfInBounds_toArray, List.set_cons_zero, List.set_cons_succ]
          refine wpAnyG_take 10 125 (v := ?_) rfl rfl (by kernel_rfl) (fun _ _ _ h => h) (Or.inl ⟨by rfl, ?_⟩) (by assumption) ?_
          rotate_left
          · (intro w' hSw; (try dsimp only at hSw); go_split_ands; go_simp; try with_reducible rfl)
          try simp only [List.setIfInBounds_toArray, List.set_cons_zero, List.set_cons_succ]
          refine wpAnyG_take 11 126 (v := ?_) rfl rfl (by kernel_rfl) (fun _ _ _ h => h) (Or.inl ⟨by rfl, ?_⟩) (by assumption) ?_
          rotate_left
          · (intro w' hSw; (try dsimp only at hSw); go_split_ands; go_simp; try with_reducible rfl)
          try simp only [List.setIfInBounds_toArray, List.set_cons_zero, List.set_cons_succ]
          refine wpAnyG_take 12 127 (v := ?_) rfl rfl (by kernel_rfl) (fun _ _ _ h => h) (Or.inl ⟨by rfl, ?_⟩) (by assumption) ?_
          rotate_left
          · (intro w' hSw; (try dsimp only at hSw); go_split_ands; go_simp; try with_reducible rfl)
          try simp only [List.setIfInBounds_toArray, List.set_cons_zero, List.set_cons_succ]
          refine wpAnyG_take 13 128 (v := ?_) rfl rfl (by kernel_rfl) (fun _ _ _ h => h) (Or.inl ⟨by rfl, ?_⟩) (by assumption) ?_
          rotate_left
          · (intro w' hSw; (try dsimp only at hSw); go_split_ands; go_simp; try with_reducible rfl)
          try simp only [List.setIfInBounds_toArray, List.set_cons_zero, List.set_cons_succ]
          refine wpAnyG_take 14 129 (v := ?_) rfl rfl (by kernel_rfl) (fun _ _ _ h => h) (Or.inl ⟨by rfl, ?_⟩) (by assumption) ?_
          rotate_left
          · (intro w' hSw; (try dsimp only at hSw); go_split_ands; go_simp; try with_reducible rfl)
          try simp only [List.setIfInBounds_toArray, List.set_cons_zero, List.set_cons_succ]
          refine wpAnyG_take 15 130 (v := ?_) rfl rfl (by kernel_rfl) (fun _ _ _ h => h) (Or.inl ⟨by rfl, ?_⟩) (by assumption) ?_
          rotate_left
          · (intro w' hSw; (try dsimp only at hSw); go_split_ands; go_simp; try with_reducible rfl)
          try simp only [List.setIfInBounds_toArray, List.set_cons_zero, List.set_cons_succ]
          refine wpAnyG_take 16 131 (v := ?_) rfl rfl (by kernel_rfl) (fun _ _ _ h => h) (Or.inl ⟨by rfl, ?_⟩) (by assumption) ?_
          rotate_left
          · (intro w' hSw; (try dsimp only at hSw); go_split_ands; go_simp; try with_reducible rfl)
          try simp only [List.setIfInBounds_toArray, List.set_cons_zero, List.set_cons_succ]
          refine wpAnyG_do 17 rfl (by kernel_rfl) (fun K hK => ?_)
          rw [if_pos (by rfl)]
          go_simp
          refine (EQ.out _ ((Below.refl _ _).drew)).mono ?_
          rintro e wg ⟨rfl, vg⟩
          have vg' : Up wf wg := Up.trans ((Below.refl _ _).drew) vg
          refine hK.out _ _ ⟨vg'.cellAt c0, vg'.cellAt c1, vg'.cellAt c2, vg'.cellAt c3, vg'.cellAt c4, vg'.cellAt e0, vg'.cellAt e1, vg'.cellAt f0', vg'.cellAt f1', vg'⟩ (fun hHeld => ?_)
          clear hK K vg
          refine wpAnyG_take 18 133 (v := ?_) rfl rfl (by kernel_rfl) (fun _ _ _ h => h) (Or.inl ⟨by rfl, ?_⟩) (by assumption) ?_
          rotate_left
          · (intro w' hSw; (try dsimp only at hSw); go_split_ands; go_simp; try with_reducible rfl)
          try simp only [List.setIfInBounds_toArray, List.set_cons_zero, List.set_cons_succ]
          refine wpAnyG_take 19 134 (v := ?_) rfl rfl (by kernel_rfl) (fun _ _ _ h => h) (Or.inl ⟨by rfl, ?_⟩) (by assumption) ?_
          rotate_left
          · (intro w' hSw; (try dsimp only at hSw); go_split_ands; go_simp; try with_reducible rfl)
          try simp only [List.setIfInBounds_toArray, List.set_cons_zero, List.set_cons_succ]
          refine wpAnyG_take 20 135 (v := ?_) rfl rfl (by kernel_rfl) (fun _ _ _ h => h) (Or.inl ⟨by rfl, ?_⟩) (by assumption) ?_
          rotate_left
          · (intro w' hSw; (try dsimp only at hSw); go_split_ands; go_simp; try with_reducible rfl)
          try simp only [List.setIfInBounds_toArray, List.set_cons_zero, List.set_cons_succ]
          refine wpAnyG_take 21 136 (v := ?_) rfl rfl (by kernel_rfl) (fun _ _ _ h => h) (Or.inl ⟨by rfl, ?_⟩) (by assumption) ?_
          rotate_left
          · (intro w' hSw; (try dsimp only at hSw); go_split_ands; go_simp; try with_reducible rfl)
          try simp only [List.setIfInBounds_toArray, List.set_cons_zero, List.set_cons_succ]
          refine wpAnyG_take 22 137 (v := ?_) rfl rfl (by kernel_rfl) (fun _ _ _ h => h) (Or.inl ⟨by rfl, ?_⟩) (by assumption) ?_
          rotate_left
          · (intro w' hSw; (try dsimp only at hSw); go_split_ands; go_simp; try with_reducible rfl)
          try simp only [List.setIfInBounds_toArray, List.set_cons_zero, List.set_cons_succ]
          refine wpAnyG_take 23 138 (v := ?_) rfl rfl (by kernel_rfl) (fun _ _ _ h => h) (Or.inl ⟨by rfl, ?_⟩) (by assumption) ?_
          rotate_left
          · (intro w' hSw; (try dsimp only at hSw); go_split_ands; go_simp; try with_reducible rfl)
          try simp only [List.setIfInBounds_toArray, List.set_cons_zero, List.set_cons_succ]
          refine wpAnyG_take 24 139 (v := ?_) rfl rfl (by kernel_rfl) (fun _ _ _ h => h) (Or.inl ⟨by rfl, ?_⟩) (by assumption) ?_
          rotate_left
          · (intro w' hSw; (try dsimp only at hSw); go_split_ands; go_simp; try with_reducible rfl)
          try simp only [List.setIfInBounds_toArray, List.set_cons_zero, List.set_cons_succ]
          refine wpAnyG_take 25 140 (v := ?_) rfl rfl (by kernel_rfl) (fun _ _ _ h => h) (Or.inl ⟨by rfl, ?_⟩) (by assumption) ?_
          rotate_left
          · (intro w' hSw; (try dsimp only at hSw); go_split_ands; go_simp; try with_reducible rfl)
          try simp only [List.setIfInBounds_toArray, List.set_cons_zero, List.set_cons_succ]
          refine wpAnyG_take 26 141 (v := ?_) rfl rfl (by kernel_rfl) (fun _ _ _ h => h) (Or.inl ⟨by rfl, ?_⟩) (by assumption) ?_
          rotate_left
          · (intro w' hSw; (try dsimp only at hSw); go_split_ands; go_simp; try with_reducible rfl)
          try simp only [List.setIfInBounds_toArray, List.set_cons_zero, List.set_cons_succ]
          refine wpAnyG_take 27 142 (v := ?_) rfl rfl (by kernel_rfl) (fun _ _ _ h => h) (Or.inl ⟨by rfl, ?_⟩) (by assumption) ?_
          rotate_left
          · (intro w' hSw; (try dsimp only at hSw); go_split_ands; go_simp; try with_reducible rfl)
          try simp only [List.setIfInBounds_toArray, List.set_cons_zero, List.set_cons_succ]
          refine wpAnyG_take 28 143 (v := ?_) rfl rfl (by kernel_rfl) (fun _ _ _ h => h) (Or.inl ⟨by rfl, ?_⟩) (by assumption) ?_
          rotate_left
          · (intro w' hSw; (try dsimp only at hSw); go_split_ands; go_simp; try with_reducible rfl)
          try simp only [List.setIfInBounds_toArray, List.set_cons_zero, List.set_cons_succ]
          refine wpAnyG_take 29 144 (v := ?_) rfl rfl (by kernel_rfl) (fun _ _ _ h => h) (Or.inl ⟨by rfl, ?_⟩) (by assumption) ?_
          rotate_left
          · (intro w' hSw; (try dsimp only at hSw); go_split_ands; go_simp; try with_reducible rfl)
          try simp only [List.setIfInBounds_toArray, List.set_cons_zero, List.set_cons_succ]
          refine wpAnyG_take 31 146 (v := ?_) rfl rfl (by kernel_rfl) (fun _ _ _ h => h) (Or.inl ⟨by rfl, ?_⟩) (by assumption) ?_
          rotate_left
          · (intro w' hSw; (try dsimp only at hSw); go_split_ands; go_simp; try with_reducible rfl)
          try simp only [List.setIfInBounds_toArray, List.set_cons_zero, List.set_cons_succ]
          refine wpAnyG_take 32 147 (v := ?_) rfl rfl (by kernel_rfl) (fun _ _ _ h => h) (Or.inl ⟨by rfl, ?_⟩) (by assumption) ?_
          rotate_left
          · (intro w' hSw; (try dsimp only at hSw); go_split_ands; go_simp; try with_reducible rfl)
          try simp only [List.setIfInBounds_toArray, List.set_cons_zero, List.set_cons_succ]
          refine wpAnyG_take 33 148 (v := ?_) rfl rfl (by kernel_rfl) (fun _ _ _ h => h) (Or.inl ⟨by rfl, ?_⟩) (by assumption) ?_
          rotate_left
          · (intro w' hSw; (try dsimp only at hSw); go_split_ands; go_simp; try with_reducible rfl)
          try simp only [List.setIfInBounds_toArray, List.set_cons_zero, List.set_cons_succ]
          refine wpAnyG_do 30 rfl (by kernel_rfl) (fun K hK => ?_)
          rw [if_pos (by rfl)]
          go_simp
          refine (LN.out _ vg').mono ?_
          rintro e wh ⟨rfl, vh⟩
          have vh' : Up wf wh := Up.trans vg' vh
          refine hK.out _ _ ⟨vh'.cellAt c0, vh'.cellAt c1, vh'.cellAt c2, vh'.cellAt c3, vh'.cellAt c4, vh'.cellAt e0, vh'.cellAt e1, vh'.cellAt f0', vh'.cellAt f1', vh'⟩ (fun hHeld => ?_)
          clear hK K vh
          refine wpAnyG_take 34 149 (v := ?_) rfl rfl (by kernel_rfl) (fun _ _ _ h => h) (Or.inl ⟨by rfl, ?_⟩) (by assumption) ?_
          rotate_left
          · (intro w' hSw; (try dsimp only at hSw); go_split_ands; go_simp; try with_reducible rfl)
          try simp only [List.setIfInBounds_toArray, List.set_cons_zero, List.set_cons_succ]
          refine wpAnyG_take 35 150 (v := ?_) rfl rfl (by kernel_rfl) (fun _ _ _ h => h) (Or.inl ⟨by rfl, ?_⟩) (by assumption) ?_
          rotate_left
          · (intro w' hSw; (try dsimp only at hSw); go_split_ands; go_simp; try with_reducible rfl)
          try simp only [List.setIfInBounds_toArray, List.set_cons_zero, List.set_cons_succ]
          refine wpAnyG_take 36 151 (v := ?_) rfl rfl (by kernel_rfl) (fun _ _ _ h => h) (Or.inl ⟨by rfl, ?_⟩) (by assumption) ?_
          rotate_left
          · (intro w' hSw; (try dsimp only at hSw); go_split_ands; go_simp; try with_reducible rfl)
          try simp only [List.setIfInBounds_toArray, List.set_cons_zero, List.set_cons_succ]
          refine wpAnyG_take 37 152 (v := ?_) rfl rfl (by kernel_rfl) (fun _ _ _ h => h) (Or.inl ⟨by rfl, ?_⟩) (by assumption) ?_
          rotate_left
          · (intro w' hSw; (try dsimp only at hSw); go_split_ands; go_simp; try with_reducible rfl)
          try simp only [List.setIfInBounds_toArray, List.set_cons_zero, List.set_cons_succ]
          refine wpAnyG_take 38 153 (v := ?_) rfl rfl (by kernel_rfl) (fun _ _ _ h => h) (Or.inl ⟨by rfl, ?_⟩) (by assumption) ?_
          rotate_left
          · (intro w' hSw; (try dsimp only at hSw); go_split_ands; go_simp; try with_reducible rfl)
          try simp only [List.setIfInBounds_toArray, List.set_cons_zero, List.set_cons_succ]
          refine wpAnyG_take 39 154 (v := ?_) rfl rfl (by kernel_rfl) (fun _ _ _ h => h) (Or.inl ⟨by rfl, ?_⟩) (by assumption) ?_
          rotate_left
          · (intro w' hSw; (try dsimp only at hSw); go_split_ands; go_simp; try with_reducible rfl)
          try simp only [List.setIfInBounds_toArray, List.set_cons_zero, List.set_cons_succ]
          refine wpAnyG_take 40 155 (v := ?_) rfl rfl (by kernel_rfl) (fun _ _ _ h => h) (Or.inl ⟨by rfl, ?_⟩) (by assumption) ?_
          rotate_left
          · (intro w' hSw; (try dsimp only at hSw); go_split_ands; go_simp; try with_reducible rfl)
          try simp only [List.setIfInBounds_toArray, List.set_cons_zero, List.set_cons_succ]
          refine wpAnyG_take 41 156 (v := ?_) rfl rfl (by kernel_rfl) (fun _ _ _ h => h) (Or.inl ⟨by rfl, ?_⟩) (by assumption) ?_
          rotate_left
          · (intro w' hSw; (try dsimp only at hSw); go_split_ands; go_simp; try with_reducible rfl)
          try simp only [List.setIfInBounds_toArray, List.set_cons_zero, List.set_cons_succ]
          refine wpAnyG_take 43 158 (v := ?_) rfl rfl (by kernel_rfl) (fun _ _ _ h => h) (Or.inl ⟨by rfl, ?_⟩) (by assumption) ?_
          rotate_left
          · (intro w' hSw; (try dsimp only at hSw); go_split_ands; go_simp; try with_reducible rfl)
          try simp only [List.setIfInBounds_toArray, List.set_cons_zero, List.set_cons_succ]
          refine wpAnyG_take 44 159 (v := ?_) rfl rfl (by kernel_rfl) (fun _ _ _ h => h) (Or.inl ⟨by rfl, ?_⟩) (by assumption) ?_
          rotate_left
          · (intro w' hSw; (try dsimp only at hSw); go_split_ands; go_simp; try with_reducible rfl)
          try simp only [List.setIfInBounds_toArray, List.set_cons_zero, List.set_cons_succ]
          refine wpAnyG_take 45 160 (v := ?_) rfl rfl (by kernel_rfl) (fun _ _ _ h => h) (Or.inl ⟨by rfl, ?_⟩) (by assumption) ?_
          rotate_left
          · (intro w' hSw; (try dsimp only at hSw); go_split_ands; go_simp; try with_reducible rfl)
          try simp only [List.setIfInBounds_toArray, List.set_cons_zero, List.set_cons_succ]
          refine wpAnyG_do 42 rfl (by kernel_rfl) (fun K hK => ?_)
          rw [if_pos (by rfl)]
          go_simp
          refine (LN.out _ vh').mono ?_
          rintro e wi ⟨rfl, vi⟩
          have vi' : Up wf wi := Up.trans vh' vi
          refine hK.out _ _ ⟨vi'.cellAt c0, vi'.cellAt c1, vi'.cellAt c2, vi'.cellAt c3, vi'.cellAt c4, vi'.cellAt e0, vi'.cellAt e1, vi'.cellAt f0', vi'.cellAt f1', vi'⟩ (fun hHeld => ?_)
          clear hK K vi
          refine wpAnyG_take 46 161 (v := ?_) rfl rfl (by kernel_rfl) (fun _ _ _ h => h) (Or.inl ⟨by rfl, ?_⟩) (by assumption) ?_
          rotate_left
          · (intro w' hSw; (try dsimp only at hSw); go_split_ands; go_simp; try with_reducible rfl)
          try simp only [List.setIfInBounds_toArray, List.set_cons_zero, List.set_cons_succ]
          refine wpAnyG_take 47 162 (v := ?_) rfl rfl (by kernel_rfl) (fun _ _ _ h => h) (Or.inl ⟨by rfl, ?_⟩) (by assumption) ?_
          rotate_left
          · (intro w' hSw; (try dsimp only at hSw); go_split_ands; go_simp; try with_reducible rfl)
          try simp only [List.setIfInBounds_toArray, List.set_cons_zero, List.set_cons_succ]
          refine wpAnyG_take 48 163 (v := ?_) rfl rfl (by kernel_rfl) (fun _ _ _ h => h) (Or.inl ⟨by rfl, ?_⟩) (by assumption) ?_
          rotate_left
          · (intro w' hSw; (try dsimp only at hSw); go_split_ands; go_simp; try with_reducible rfl)
          try simp only [List.setIfInBounds_toArray, List.set_cons_zero, List.set_cons_succ]
          have Ui : Hid (Up w9 wi) := Lib.hid (Up.trans Uf.out vi')
          refine wpAnyG_tail (by kernel_rfl) ?_
          clear hHeld c0 c1 c2 c3 c4 e0 e1 f0' f1' w0 w1' EQ LN HR vg' vh' vi' Uf
          change wpList _ _ _ [] _ _
          go_wp2_with fail
          go_roundw
          case rel => exact ⟨y + 1, by go_num, by omega, by omega, Ui.out⟩
          case measure => simp [intOf]; omega
        · obtain ⟨n0, n1, n2, n3, n4⟩ := five Na.out
          have hmd : inDay s m = true := inB_true.2 mm
          have hE := errTurn_or OK.out x vm hmd
          go_wp2_with fail
          refine (Turn_c s x m wa La.out).mono ?_
          rintro e wb ⟨rfl, ub⟩
          have Tb := Lib.hid (Ta.out.up ub)
          have Nb := Lib.hid (Na.out.up ub)
          have Ub : Hid (Up w9 wb) := Lib.hid (Up.trans Ua.out ub)
          obtain ⟨n0, n1, n2, n3, n4⟩ := five Nb.out
          clear ub La Ta Ma Na Ua c0 c1 c2 c3 c4
          go_wp2_with fail
          refine (shTurn_c OK.out OK'.out x Tb.out).mono ?_
          rintro e wc ⟨rfl, uc⟩
          have Uc : Hid (Up w wc) := Lib.hid (Up.trans U9.out (Up.trans Ub.out uc))
          clear uc Tb Nb Ub n0 n1 n2 n3 n4
          generalize turnV s x m = tv at *
          generalize errTurn s x m = ee at *
          obtain rfl | rfl := hE
          all_goals
            go_wp2_with fail
            refine (awake_c wc).mono ?_
            rintro e wd ⟨rfl, ud⟩
            have Ud : Hid (Up w wd) := Lib.hid (Up.trans Uc.out ud)
            clear ud
            go_wp2_with fail
            go_ret
            exact ⟨rfl, Ud.out⟩
end
end Go.Proofs.Ytnmmbfmpgodnaaa
namespace Go.Proofs.Ytnmmbfmpgodnaaa
section
open Go.ChangeShapes Go.WideShapes Go.ChangeAt Go.RowKit

set_option maxRecDepth 100000 in
theorem shifted_contract (H : Type) (enc : TypeId × Value → H) (W : World) (base : Nat) (args : Array Value) (ds gs : List (DataW H)) (before : List MemPlace)
    (hval : ∀ (j : Nat) t v, Try.f11.params[j]? = some t → args[j]? = some v → Value.okWide Try.prog W .any base t v)
    (hW : DataW.Whole enc Try.prog Try.f11.params.toList Rows.tideShiftedSpec.vars false W args.toList ds gs before)
    (hsz0 : (DataW.weightsEach Try.prog (Try.f11.params.toList ++ Rows.tideShiftedSpec.plain.varTypes Try.prog) (ds ++ gs)).all (· ≤ reachBytes) = true) :
    Calls Try.prog 11 args W fun e W' => ∃ v, e = .returned v ∧ Rows.tideShiftedSpec.post enc Try.prog Try.f11 false true false false W args v W' := by
  have hW' := hW
  obtain ⟨p, q, hA0, hV, rfl, -, -⟩ := hW
  have hA : DataW.TrodAll enc Try.prog W 0 (fun _ => true) true Try.f11.params.toList args.toList ds p := hA0
  rw [Try.params11] at hA hval
  obtain ⟨v0, vs0, d0, ds0, p0, q0, hargs, rfl, rfl, h0, r0⟩ := trodAll_cons hA
  obtain ⟨v1, vs1, d1, ds1, p1, q1, rfl, rfl, rfl, h1, r1⟩ := trodAll_cons r0
  obtain ⟨v2, vs2, d2, ds2, p2, q2, rfl, rfl, rfl, h2, r2⟩ := trodAll_cons r1
  obtain ⟨v3, vs3, d3, ds3, p3, q3, rfl, rfl, rfl, h3, r3⟩ := trodAll_cons r2
  obtain ⟨rfl, rfl, rfl⟩ := trodAll_nil r3
  obtain rfl : args = #[v0, v1, v2, v3] := by cases args; simp_all
  obtain ⟨rfl, rfl⟩ := trodVars_none hV
  have hz : ∀ n ∈ DataW.weights Try.prog 83 d0, n ≤ reachBytes := fun n hn => by
    have := List.all_eq_true.1 hsz0 n (DataW.weights_mem_each (j := 0) (t := 83) rfl rfl n hn)
    simpa using this
  obtain ⟨pb, l, c, rfl, hr, hl⟩ := open_bytes (hval 0 _ v0 rfl rfl) h0 hz
  obtain ⟨a, rfl, rfl, rfl, ha⟩ := open_int Try.underlying5 (hval 1 _ v1 rfl rfl) h1
  obtain ⟨b, rfl, rfl, rfl, hb⟩ := open_int Try.underlying5 (hval 2 _ v2 rfl rfl) h2
  obtain ⟨t, rfl, rfl, rfl, ht⟩ := open_int Try.underlying5 (hval 3 _ v3 rfl rfl) h3
  obtain ⟨a0, a1⟩ := byte_rng ha
  obtain ⟨b0, b1⟩ := byte_rng hb
  obtain ⟨t0, t1⟩ := byte_rng ht
  refine (shiftedLaw_c l a b t W hr hl a0 a1 b0 b1 t0 t1).mono fun e W' ⟨he, hbl⟩ => ?_
  exact ⟨_, he, law_post hW' rfl laidOut (by kernel_rfl) rfl Try.underlying4 ⟨rfl, rfl, rfl⟩ hbl⟩

set_option maxRecDepth 100000 in
theorem shifted_lifted (os : Os) (started : os.Started) (H : Type) (enc : TypeId × Value → H) :
    ReturnsInHanded {} Try.checked os 11 .any (Rows.tideShiftedSpec.pre6 enc Try.prog Try.f11 Rows.tideShiftedRow.domain false) (Rows.tideShiftedSpec.post enc Try.prog Try.f11 false true false false) := by
  refine returnsInHanded_of_change_sized (C := Try.checked) own started (by kernel_rfl) Try.func11
    (ChangeSpec.witness6 (enc := enc) (C := Try.checked) false ⟨#[], #[.slice none 0 0, .int .u8 0, .int .u8 0, .int .u8 0], []⟩ 8 (by kernel_rfl) (by kernel_rfl) (by kernel_rfl) (by kernel_rfl)) ?_
  intro W base args ds gs before hval hW _ hsz _
  exact shifted_contract H enc W base args ds gs before hval hW hsz

theorem shifted_holds : Rows.TideShiftedSaid :=
  OpenClaim.holds_of_wide 11 Try.f11 rfl rfl rfl rfl rfl rfl rfl ⟨rfl, rfl, rfl, rfl, rfl⟩ rfl rfl rfl rfl rfl (by kernel_rfl) Try.func11 (by kernel_rfl)
    (of_decide_eq_true (by kernel_rfl)) (by unfold Func.isWrapper; first | (rw [if_pos (by decide +kernel)]; kernel_rfl) | (rw [if_neg (by decide +kernel)]; exact ⟨rfl, rfl⟩))
    (fun os started H enc _ => shifted_lifted os started H enc)
#print axioms shifted_holds
end
end Go.Proofs.Ytnmmbfmpgodnaaa
