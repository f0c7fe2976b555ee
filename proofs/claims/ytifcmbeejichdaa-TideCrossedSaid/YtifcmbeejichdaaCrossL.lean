/- The law TideCrossed returns true. -/
import Derived.Test.YtifcmbeejichdaaCrossA
import Derived.Test.YtifcmbeejichdaaCrossC
import Derived.Test.YtifcmbeejichdaaMade
import Derived.Test.YtifcmbeejichdaaHold
import Derived.Deep.Cut
import Derived.Deep.CutRange
import Derived.Deep.DeepCutAuto
namespace Go.Proofs.Ytifcmbeejichdaa
open Go.RowKit Go.Shelf

theorem lists_far {w w' : World} {s : Sd} {pT pF pS : Option Addr} {cT cF cS hb n : Nat} (h : Lists w s pT pF pS cT cF cS) (hx : (0 < s.table.length → ∀ b off, pT = some ⟨b, off, none⟩ → b ≠ hb) ∧ (0 < s.floors.length → ∀ b off, pF = some ⟨b, off, none⟩ → b ≠ hb) ∧ (0 < s.sills.length → ∀ b off, pS = some ⟨b, off, none⟩ → b ≠ hb)) (hf : Far hb n w w') (hn : w.heap.size ≤ n) : Lists w' s pT pF pS cT cF cS :=
  ⟨hf.row h.rt (fun h0 b off e => ⟨by have := h.rt.lt (pairs_pos _) h0 e; omega, hx.1 (by simpa [pairs] using h0) b off e⟩), hf.row h.rf (fun h0 b off e => ⟨by have := h.rf.lt (ints_pos _) h0 e; omega, hx.2.1 (by simpa [ints] using h0) b off e⟩), hf.row h.rs (fun h0 b off e => ⟨by have := h.rs.lt (triples_pos _) h0 e; omega, hx.2.2 (by simpa [triples] using h0) b off e⟩), h.ct, h.cf, h.cs, h.mt, h.mf, h.ms⟩
section
variable {p p' : Option Addr} {c c' : Nat}
set_option maxRecDepth 100000 in
set_option maxHeartbeats 20000000 in
theorem crossedLaw_c (l l' : List Int) (w : World) (hr : Row w p 1 (bytes l)) (hr' : Row w p' 1 (bytes l')) (hl : l.length ≤ 140737488355328) (hl' : l'.length ≤ 140737488355328) :
    Calls Try.prog 9 #[.slice p l.length c, .slice p' l'.length c'] w fun e w' => e = .returned (.bool true) ∧ Up w w' := by
  have HP := Lib.hid (fun W (u : Up w W) => pile_c p c l W (hr.up u))
  obtain ⟨i0, hi0, hz0, hz1, hz2⟩ := info_parts info3
  have HP' := Lib.hid (fun W (u : Up w W) => pile_c p' c' l' W (hr'.up u))
  clear hr hr'
  go_enter Try.func9, Try.ntmps9
  go_wp2_with fail
  refine (HP.out _ (by (repeat (first | exact Below.refl _ _ | (with_reducible refine Below.drewN' ?_ _) | (with_reducible refine Below.drew ?_) | (with_reducible refine Below.setCell ?_ (by first | exact Nat.le_refl _ | omega | (with_reducible (repeat (first | refine sz_alloc ?_ | refine sz_setCell ?_ | refine sz_drew ?_ | refine sz_drewN ?_)); first | exact Nat.le_refl _ | omega) | (simp only [World.size_alloc, World.size_setCell, World.size_drew, size_drewN']; omega)) _) | (with_reducible refine Below.alloc ?_ (by first | exact Nat.le_refl _ | omega | (with_reducible (repeat (first | refine sz_alloc ?_ | refine sz_setCell ?_ | refine sz_drew ?_ | refine sz_drewN ?_)); first | exact Nat.le_refl _ | omega) | (simp only [World.size_alloc, World.size_setCell, World.size_drew, size_drewN']; omega)) _) | assumption)))).mono ?_
  rintro e w1 ⟨rfl, g1, u1, s1, ap⟩
  have U1 := Lib.hid u1
  have G1 := Lib.hid g1
  have AP := Lib.hid ap
  clear g1 u1 ap HP
  go_wp2_with fail
  refine (made_c (p := p) (c := c) (l := l) w.heap.size 7 12 w1 G1.out (AP.out.mono (by omega)) hl (by decide) (by decide) (by decide) (by decide)).mono ?_
  rintro e w2 ⟨s, qT, qF, qS, dT, dF, dS, rfl, mk, l2, -, -, f2⟩
  have MK := Lib.hid mk
  have L2 := Lib.hid l2
  have U2 : Hid (Up w w2) := Below.trans U1.out (f2.below (Nat.le_refl _) (by omega))
  have OK := Lib.hid (mk.ok (by decide) (by decide))
  have mf1 := mk.f1
  have mf7 := mk.fn
  have ms := mk.sn
  obtain ⟨gF, oF, rfl, -⟩ := l2.rf.int 0 (by omega)
  clear mk l2 f2 G1 AP U1 s1
  unfold sdVal
  go_wp2_with fail
  have BS : Hid (Blk (w2.alloc (.cells #[.slice qT s.table.length dT, .int .i64 s.lo, .int .i64 s.hi, .slice (some ⟨gF, oF, none⟩) s.floors.length dF, .slice qS s.sills.length dS] 28)) w2.heap.size (sdCells s qT (some ⟨gF, oF, none⟩) qS dT dF dS) 28) := Blk.new w2 (sdCells s qT (some ⟨gF, oF, none⟩) qS dT dF dS) 28
  have LS : Hid (Lists (w2.alloc (.cells #[.slice qT s.table.length dT, .int .i64 s.lo, .int .i64 s.hi, .slice (some ⟨gF, oF, none⟩) s.floors.length dF, .slice qS s.sills.length dS] 28)) s qT (some ⟨gF, oF, none⟩) qS dT dF dS) := L2.out.up (by (repeat (first | exact Below.refl _ _ | (with_reducible refine Below.drewN' ?_ _) | (with_reducible refine Below.drew ?_) | (with_reducible refine Below.setCell ?_ (by first | exact Nat.le_refl _ | omega | (with_reducible (repeat (first | refine sz_alloc ?_ | refine sz_setCell ?_ | refine sz_drew ?_ | refine sz_drewN ?_)); first | exact Nat.le_refl _ | omega) | (simp only [World.size_alloc, World.size_setCell, World.size_drew, size_drewN']; omega)) _) | (with_reducible refine Below.alloc ?_ (by first | exact Nat.le_refl _ | omega | (with_reducible (repeat (first | refine sz_alloc ?_ | refine sz_setCell ?_ | refine sz_drew ?_ | refine sz_drewN ?_)); first | exact Nat.le_refl _ | omega) | (simp only [World.size_alloc, World.size_setCell, World.size_drew, size_drewN']; omega)) _) | assumption)))
  have UR : Hid (Up w (w2.alloc (.cells #[.slice qT s.table.length dT, .int .i64 s.lo, .int .i64 s.hi, .slice (some ⟨gF, oF, none⟩) s.floors.length dF, .slice qS s.sills.length dS] 28))) := Up.trans U2.out (by (repeat (first | exact Below.refl _ _ | (with_reducible refine Below.drewN' ?_ _) | (with_reducible refine Below.drew ?_) | (with_reducible refine Below.setCell ?_ (by first | exact Nat.le_refl _ | omega | (with_reducible (repeat (first | refine sz_alloc ?_ | refine sz_setCell ?_ | refine sz_drew ?_ | refine sz_drewN ?_)); first | exact Nat.le_refl _ | omega) | (simp only [World.size_alloc, World.size_setCell, World.size_drew, size_drewN']; omega)) _) | (with_reducible refine Below.alloc ?_ (by first | exact Nat.le_refl _ | omega | (with_reducible (repeat (first | refine sz_alloc ?_ | refine sz_setCell ?_ | refine sz_drew ?_ | refine sz_drewN ?_)); first | exact Nat.le_refl _ | omega) | (simp only [World.size_alloc, World.size_setCell, World.size_drew, size_drewN']; omega)) _) | assumption)))
  generalize (w2.alloc (.cells #[.slice qT s.table.length dT, .int .i64 s.lo, .int .i64 s.hi, .slice (some ⟨gF, oF, none⟩) s.floors.length dF, .slice qS s.sills.length dS] 28)) = w3 at *
  generalize w2.heap.size = M at *
  clear L2 U2 w2
  refine (HP'.out w3 UR.out).mono ?_
  rintro e w4 ⟨rfl, g4, u4, s4, ap4⟩
  have AP := Lib.hid ap4
  have G4 := Lib.hid g4
  have V4 := Lib.hid u4
  have lM := BS.out.lt
  have sz4 : w3.heap.size < w4.heap.size := by omega
  have HX : Hid ((0 < s.table.length → ∀ b off, qT = some ⟨b, off, none⟩ → b ≠ w3.heap.size) ∧ (0 < s.floors.length → ∀ b off, (some ⟨gF, oF, none⟩ : Option Addr) = some ⟨b, off, none⟩ → b ≠ w3.heap.size) ∧ (0 < s.sills.length → ∀ b off, qS = some ⟨b, off, none⟩ → b ≠ w3.heap.size)) :=
    Lib.hid ⟨fun h0 b off e => by have := LS.out.rt.lt (pairs_pos _) (by simpa [pairs] using h0) e; omega, fun h0 b off e => by have := LS.out.rf.lt (ints_pos _) (by simpa [ints] using h0) e; omega, fun h0 b off e => by have := LS.out.rs.lt (triples_pos _) (by simpa [triples] using h0) e; omega⟩
  obtain ⟨c0, c1, c2, c3, c4⟩ := five (BS.out.up u4)
  clear g4 ap4 HP' u4
  go_wp2_with fail
  refine (gates_c s w4 OK.out (LS.out.up V4.out)).mono ?_
  rintro e w6 ⟨g, rfl, bg, lg, u6⟩
  have ng : g ≠ w3.heap.size := by omega
  have G6 := Lib.hid (G4.out.up u6)
  have V6 := Lib.hid (Up.trans V4.out u6)
  have z6 : w3.heap.size < w6.heap.size := by have := u6.size; omega
  have lg6 := bg.lt
  have HLw : Hid (∀ W, Far w3.heap.size w6.heap.size w6 W → Lists W s qT (some ⟨gF, oF, none⟩) qS dT dF dS) := Lib.hid (fun W hf => lists_far (LS.out.up V6.out) HX.out hf (Nat.le_refl _))
  have HBw : Hid (∀ W, Far w3.heap.size w6.heap.size w6 W → Blk W M (sdCells s qT (some ⟨gF, oF, none⟩) qS dT dF dS) 28) := Lib.hid (fun W hf => hf.blk (BS.out.up V6.out) (by omega) (by omega))
  have HGw : Hid (∀ W, Far w3.heap.size w6.heap.size w6 W → Blk W g (gcells (lvls s 62)) 3) := Lib.hid (fun W hf => hf.blk bg lg6 ng)
  have HUw : Hid (∀ W, Far w3.heap.size w6.heap.size w6 W → Up w W) := Lib.hid (fun W hf => Below.trans UR.out ((Below.trans V6.out (hf.below (Nat.le_refl _) (by omega))).mono UR.out.size))
  have gl : (lvls s 62).length = s.floors.length := lvls_len OK.out 62
  have HGV : Hid (∀ k : Nat, k < s.floors.length → (lvls s 62)[k]?.getD 0 = if gateOf s k < 1050 then gateOf s k else 1000000) := Lib.hid (fun k hk => lvls_gates OK.out MK.out.floors (fun x hx => (MK.out.sills x hx).2.2.2.2) k hk)
  have HC : Hid (chk s = 0) := Lib.hid (chk_zero OK.out)
  have HAP : Hid (∀ W : World, w3.heap.size ≤ W.heap.size → Apart p' w3.heap.size W.heap.size l') := Lib.hid (fun W hW => AP.out.mono hW)
  clear V4 V6 bg u6 HX BS LS UR G4 AP c0 c1 c2 c3 c4 MK
  generalize w3.heap.size = hb at *
  have F6 : Hid (Far hb w6.heap.size w6 w6) := Lib.hid (Far.refl _ _ _)
  obtain ⟨c0, c1, c2, c3, c4⟩ := five (HBw.out w6 F6.out)
  go_wp2_with fail
  go_loopw [8, 9, 10, 11, 12, 13, 14, 15, 16, 17, 18, 19, 20, 21, 22, 23, 24, 26, 27, 28, 29, 30, 31, 32, 33, 34, 45] (fun _ _ _ _ _ _ _ _ _ _ _ _ _ _ _ _ _ _ _ _ _ _ _ _ _ _ i wr => ∃ k : Nat, k ≤ s.floors.length ∧ i = .int .i64 k ∧ HeapAt wr hb p' c' l' ∧ Far hb w6.heap.size w6 wr) (fun _ _ _ _ _ _ _ _ _ _ _ _ _ _ _ _ _ _ _ _ _ _ _ _ _ _ i _ => s.floors.length - (intOf i).toNat)
  case atStart => exact ⟨0, Nat.zero_le _, rfl, G6.out, F6.out⟩
  case round =>
    obtain ⟨k, hk, rfl, hh, hf⟩ := hrel
    have HH := Lib.hid hh
    have HF := Lib.hid hf
    clear hh hf
    by_cases hlt : k < s.floors.length
    · have k1 : (k : Int) < s.floors.length := by omega
      obtain ⟨hE, hyes, hno⟩ := cross_facts OK.out hlt HC.out (gts_le s k).1
      obtain ⟨c0, c1, c2, c3, c4⟩ := five (HBw.out wr HF.out)
      go_wp2_with fail
      refine (Gate_c s k wr (HLw.out wr HF.out)).mono ?_
      rintro e wa ⟨rfl, ua⟩
      have Fa := Lib.hid (HF.out.trans (Far.of (ua.mono HF.out.size)))
      have Ha := Lib.hid (HH.out.up ua)
      clear ua HF HH c0 c1 c2 c3 c4
      obtain ⟨c0, c1, c2, c3, c4⟩ := five (HBw.out wa Fa.out)
      go_wp2_with fail
      refine (Way_c s k wa (HLw.out wa Fa.out)).mono ?_
      rintro e wb ⟨pw, rfl, rway, lway, ub⟩
      have Fb := Lib.hid (Fa.out.trans (Far.of (ub.mono Fa.out.size)))
      have Hb := Lib.hid (Ha.out.up ub)
      have RW := Lib.hid rway
      clear ub Fa Ha c0 c1 c2 c3 c4 rway
      obtain ⟨c0, c1, c2, c3, c4⟩ := five (HBw.out wb Fb.out)
      go_wp2_with fail
      refine (Bank_c s k wb (HLw.out wb Fb.out)).mono ?_
      rintro e wd ⟨q1, d1, q2, d2, rfl, r1, r2, ud⟩
      have Fd := Lib.hid (Fb.out.trans (Far.of (ud.mono Fb.out.size)))
      have Hd := Lib.hid (Hb.out.up ud)
      have RWd := Lib.hid (RW.out.up ud)
      have R1 := Lib.hid r1
      have R2 := Lib.hid r2
      clear ud Fb Hb c0 c1 c2 c3 c4 r1 r2 RW
      have gk := gcell (HGw.out wd Fd.out) (i := k) (by omega)
      rw [HGV.out k hlt] at gk
      have gkl := cell_lt gk
      have HEE := Lib.hid hE
      by_cases hg : gateOf s k < 1050
      · obtain ⟨e1, e2, e3, e4⟩ := hyes hg
        obtain ⟨b1, b2⟩ := bank_holds OK.out hlt hE (gts_le s k).1 hg
        have hx : bankX s k = bankV s (gateOf s k) := by unfold bankX; rw [if_pos e1, Int.toNat_natCast]
        rw [← hx] at b1 b2
        have B12 := Lib.hid (And.intro b1 b2)
        have E34 := Lib.hid (And.intro e3 e4)
        have ln1 : (bankX s k).1.length ≤ 10000 ∧ (bankX s k).2.length ≤ 10000 := by
          rw [hx]
          have k1 := (bank_sound OK.out (gts_le s k).1).1
          have h1 := markL_len (bankW s (gateOf s k)).1
          have h2 := markL_len (bankW s (gateOf s k)).2
          show (markL _).length ≤ _ ∧ (markL _).length ≤ _
          rw [k1.1] at h1
          rw [k1.2.1] at h2
          omega
        have LN := Lib.hid ln1
        rw [if_pos hg] at gk
        have nv : (gateOf s k == 1000000) = false := beq_eq_false_iff_ne.2 (by omega)
        rw [e1, e2]
        have HG := Lib.hid hg
        have HT := Lib.hid (fun ss ps (h1 : Rise s.sills.length ss) (h2 : Rise s.floors.length ps) => hold_try OK.out hlt hE hg h1 h2)
        have HW := Lib.hid (fun ll MM ee (h : Wand s ll MM ee) => h.crest OK.out hE)
        clear hyes hno e1 e2 e3 e4 b1 b2 hx ln1 hE hg
        generalize gateOf s k = G at *
        obtain ⟨c0, c1, c2, c3, c4⟩ := five (HBw.out wd Fd.out)
        go_wp2_with fail
        refine (Crest_c s k (wayV s k) pw (wayV s k).length wd (HLw.out wd Fd.out) RWd.out (by omega)).mono ?_
        rintro e we ⟨rfl, ue⟩
        rw [E34.out.1, E34.out.2]
        have Fe := Lib.hid (Fd.out.trans (Far.of (ue.mono Fd.out.size)))
        have He := Lib.hid (Hd.out.up ue)
        have R1e := Lib.hid (R1.out.up ue)
        have R2e := Lib.hid (R2.out.up ue)
        have ge := ue.cellAt gk
        clear ue Fd Hd R1 R2 RWd gk gkl c0 c1 c2 c3 c4
        obtain ⟨c0, c1, c2, c3, c4⟩ := five (HBw.out we Fe.out)
        go_wp2_with fail
        refine (Hold_c s k (bankX s k).1 (bankX s k).2 q1 q2 d1 d2 we (HLw.out we Fe.out) R1e.out R2e.out LN.out.1 LN.out.2).mono ?_
        rintro e wf ⟨rfl, uf⟩
        rw [B12.out.1, B12.out.2]
        have Ff := Lib.hid (Fe.out.trans (Far.of (uf.mono Fe.out.size)))
        have Hf := Lib.hid (He.out.up uf)
        have gf := uf.cellAt ge
        have gfl := cell_lt gf
        clear uf Fe He R1e R2e ge c0 c1 c2 c3 c4
        have n1 : (G != G) = false := by simp
        go_wp2_with fail
        clear n1
        go_loopw [22, 23, 24, 26, 27, 28, 29, 30, 31, 32, 33, 34, 141] (fun _ _ _ _ _ _ _ _ _ _ _ _ i wr => ∃ j : Nat, j ≤ 6 ∧ i = .int .i64 j ∧ HeapAt wr hb p' c' l' ∧ Far hb w6.heap.size w6 wr) (fun _ _ _ _ _ _ _ _ _ _ _ _ i _ => 6 - (intOf i).toNat)
        case atStart => exact ⟨0, by decide, rfl, Hf.out, Ff.out⟩
        case round =>
          as_aux_lemma =>
            obtain ⟨j, hj, rfl, hh, hf⟩ := hrel
            obtain ⟨wv, rfl⟩ : ∃ x, x = wr := ⟨wr, rfl⟩
            have Hx := Lib.hid hh
            have Fx := Lib.hid hf
            clear gf gfl Ff Hf
            by_cases hj6 : j < 6
            · have j1 : (j : Int) < 6 := by omega
              obtain ⟨c0, c1, c2, c3, c4⟩ := five (HBw.out wv hf)
              have sz1 := hf.size
              have u1 : Up wv (wv.alloc (.cells #[.int .i64 (-1)] 3)) := by (repeat (first | exact Below.refl _ _ | (with_reducible refine Below.drewN' ?_ _) | (with_reducible refine Below.drew ?_) | (with_reducible refine Below.setCell ?_ (by first | exact Nat.le_refl _ | omega | (with_reducible (repeat (first | refine sz_alloc ?_ | refine sz_setCell ?_ | refine sz_drew ?_ | refine sz_drewN ?_)); first | exact Nat.le_refl _ | omega) | (simp only [World.size_alloc, World.size_setCell, World.size_drew, size_drewN']; omega)) _) | (with_reducible refine Below.alloc ?_ (by first | exact Nat.le_refl _ | omega | (with_reducible (repeat (first | refine sz_alloc ?_ | refine sz_setCell ?_ | refine sz_drew ?_ | refine sz_drewN ?_)); first | exact Nat.le_refl _ | omega) | (simp only [World.size_alloc, World.size_setCell, World.size_drew, size_drewN']; omega)) _) | assumption))
              have M0 := Lib.hid (World.ownsRow_lit (base := wv.heap.size) (e := 3) (size := 1) wv #[.int .i64 (-1)] 1 (Nat.le_refl _) (by decide) rfl)
              have Fq := Lib.hid (hf.trans (Far.of (u1.mono hf.size)))
              have Hq := Lib.hid (hh.up u1)
              have sz2 : wv.heap.size < (wv.alloc (.cells #[.int .i64 (-1)] 3)).heap.size := by rw [World.size_alloc]; omega
              have lMr : M < wv.heap.size := cell_lt c0
              clear hh hf
              go_wp2_with fail
              generalize (wv.alloc (.cells #[.int .i64 (-1)] 3)) = wq at *
              refine (order_c hb s.sills.length wq Hq.out (HAP.out wq (by omega)) hl' (by omega)).mono ?_
              rintro e wo ⟨lo, q, dq, rfl, llo, hlo, rlo, qlo, ho, fo⟩
              have Fo := Lib.hid (Fq.out.trans (fo.mono Fq.out.size))
              have Ho := Lib.hid ho
              have szo := fo.size
              have T0 : Hid (Trio wv.heap.size wo q lo (.slice none 0 0) (.slice (some ⟨wv.heap.size, 0, none⟩) 1 1) [] [-1] wo) :=
                Lib.hid ⟨Below.refl _ _, by omega, rlo, fun b off e => ⟨(qlo b off e).2, (fun h => by cases h), fun h => by simp [Value.ownBlock] at h; have := (qlo b off e).1; omega⟩, World.ownsRow_nil _ _ _ _, fo.own' M0.out (by omega), fun b h => by cases h⟩
              have HLO := Lib.hid hlo
              have LLO := Lib.hid llo
              have lo12 : lo.length ≤ 12 := by omega
              clear M0 Fq Hq ho fo rlo qlo hlo llo u1 c0 c1 c2 c3 c4
              go_wp2_with fail
              go_loopw [22, 23, 24, 26, 27, 150] (fun at' met own _ _ i wx => ∃ (m : Nat) (L MM : List Int) (ee : Int), i = .int .i64 m ∧ m ≤ lo.length ∧ at' = .int .i64 ee ∧ Wand s L MM ee ∧ L.length ≤ m ∧ Trio wv.heap.size wo q lo own met L MM wx) (fun _ _ _ _ _ i _ => lo.length - (intOf i).toNat)
              case atStart => exact ⟨0, [], [-1], -1, rfl, Nat.zero_le _, rfl, Wand.start s, Nat.le_refl _, T0.out⟩
              case round =>
                as_aux_lemma =>
                  obtain ⟨m, L, MM, ee, rfl, hm, rfl, hw, hL, hT⟩ := hrel
                  have HWD := Lib.hid hw
                  have HTR := Lib.hid hT
                  have HML := Lib.hid hw.len
                  have Fx3 := Lib.hid (Fo.out.trans (Far.of (hT.below.mono (by omega : w6.heap.size ≤ wv.heap.size))))
                  by_cases hlt3 : m < lo.length
                  · have m1 : (m : Int) < lo.length := by omega
                    obtain ⟨bq, oq, rfl, cq⟩ := hT.row.int m hlt3
                    obtain ⟨y0', y1'⟩ := HLO.out lo[m] (List.getElem_mem hlt3)
                    obtain ⟨i, hi⟩ : ∃ i : Nat, lo[m] = i := ⟨lo[m].toNat, by omega⟩
                    rw [hi] at cq y1'
                    have hin : i < s.sills.length := by omega
                    have i1 : (i : Int) < s.sills.length := by omega
                    obtain ⟨bS, oS, hqS, t0, t1, t2⟩ := (HLw.out wr Fx3.out).rs.triple i hin
                    subst hqS
                    obtain ⟨c0, c1, c2, c3, c4⟩ := five (HBw.out wr Fx3.out)
                    have lMr3 : M < wr.heap.size := cell_lt c0
                    have lbq : bq < wr.heap.size := cell_lt cq
                    have lbS : bS < wr.heap.size := cell_lt t0
                    have HST := Lib.hid (fun (ha : (turnTo s.sills[i] ee).1 = ee) (hM : (turnTo s.sills[i] ee).2.1 ∉ MM) => hw.step OK.out hin ha hM)
                    have hnewX := hT.new (b := wr.heap.size) (Nat.le_refl _)
                    have HN := Lib.hid hnewX
                    clear hi y0' y1' hw hT hnewX
                    generalize s.sills[i] = y at *
                    obtain ⟨A, B, H⟩ := y
                    dsimp only at t0 t1 t2
                    go_upto_if 162 with fail
                    go_cut [150] (fun iv wx => iv = .int .i64 m ∧ Blk wx wr.heap.size [.int .i64 (turnTo (A, B, H) ee).1, .int .i64 (turnTo (A, B, H) ee).2.1, .int .i64 (turnTo (A, B, H) ee).2.2] 97 ∧ Trio wv.heap.size wo (some ⟨bq, oq, none⟩) lo u24 u23 L MM wx)
                    case first =>
                      by_cases hB : B = ee
                      · have n1 : (B == ee) = true := by rw [hB]; simp
                        have e1 : turnTo (A, B, H) ee = (B, A, H) := by unfold turnTo; rw [if_pos hB]
                        have E1 := Lib.hid e1
                        clear hB e1
                        go_wp2_with fail
                        go_meet
                        exact ⟨rfl, by rw [E1.out]; exact Blk.new wr [.int .i64 B, .int .i64 A, .int .i64 H] _, HTR.out.alloc _⟩
                      · have n1 : (B == ee) = false := beq_eq_false_iff_ne.2 hB
                        have e1 : turnTo (A, B, H) ee = (A, B, H) := by unfold turnTo; rw [if_neg hB]
                        have E1 := Lib.hid e1
                        clear hB e1
                        go_wp2_with fail
                        go_meet
                        exact ⟨rfl, by rw [E1.out]; exact Blk.new wr [.int .i64 A, .int .i64 B, .int .i64 H] _, HTR.out.alloc _⟩
                    case rest =>
                      obtain ⟨rfl, hbx, hTx⟩ := hcut
                      clear c0 c1 c2 c3 c4 t0 t1 t2 cq HTR Fx3
                      generalize turnTo (A, B, H) ee = y at *
                      obtain ⟨A', B', H'⟩ := y
                      dsimp only at hbx
                      have x0 := hbx.cell 0
                      have x1 := hbx.cell 1
                      have xl := hbx.lt
                      simp only [List.getElem?_cons_zero, List.getElem?_cons_succ] at x0 x1
                      have HBX := Lib.hid hbx
                      have HTX := Lib.hid hTx
                      have hrm := hTx.rm
                      obtain ⟨pm, cm, hpm, -, -, rowm, -⟩ := Row.of_own (rows := ints MM) (flatOk_ints _) hrm (by simp [ints])
                      subst hpm
                      have RM := Lib.hid rowm
                      clear hbx hTx hrm rowm
                      by_cases hA : A' = ee
                      · have n1 : (A' == ee) = true := by rw [hA]; simp
                        have HA1 := Lib.hid hA
                        clear hA
                        go_wp2_with fail
                        refine (contains_c MM pm cm B' wc RM.out (by have := HML.out; omega)).mono ?_
                        rintro e wd ⟨rfl, ud⟩
                        have HBd := Lib.hid (HBX.out.up ud)
                        have HTd := Lib.hid (HTX.out.up ud)
                        have x0 := HBd.out.cell 0
                        have x1 := HBd.out.cell 1
                        have xl := HBd.out.lt
                        simp only [List.getElem?_cons_zero, List.getElem?_cons_succ] at x0 x1
                        clear ud HBX HTX RM
                        by_cases hin2 : B' ∈ MM
                        · rw [decide_eq_true hin2]
                          clear hin2
                          go_wp2_with fail
                          go_roundw
                          case rel =>
                            try ((repeat apply Exists.intro); refine ⟨?_, rfl⟩)
                            exact ⟨m + 1, L, MM, ee, by go_num, by omega, rfl, HWD.out, by omega, HTd.out⟩
                          case measure => simp [intOf]; omega
                        · rw [decide_eq_false hin2]
                          have HIN := Lib.hid hin2
                          clear hin2
                          by_cases hep : ee = k
                          · have n2 : (ee != (k : Int)) = false := by rw [hep]; simp
                            clear hep
                            go_wp2_with fail
                            go_roundw
                            case rel =>
                              try ((repeat apply Exists.intro); refine ⟨?_, rfl⟩)
                              exact ⟨m + 1, L, MM, ee, by go_num, by omega, rfl, HWD.out, by omega, HTd.out⟩
                            case measure => simp [intOf]; omega
                          · have n2 : (ee != (k : Int)) = true := by simp [hep]
                            clear hep
                            go_wp2_with fail
                            have HX1 := Lib.hid (HN.out)
                            have HW2 := Lib.hid (HST.out HA1.out HIN.out)
                            obtain ⟨X, hX⟩ : ∃ X, wr.heap.size = X := ⟨_, rfl⟩
                            rw [hX] at HBd HX1
                            rw [hX]
                            clear hX x0 x1 xl
                            as_aux_lemma =>
                              refine region_inv3 11 (fun done a W => ∃ V : Nat → Value, a = ⟨#[.slice p l.length c, .slice p' l'.length c', undef, undef, u4, .pointer (some ⟨M, 0, none⟩), .pointer (some ⟨hb, 0, none⟩), .slice (some ⟨g, 0, none⟩) s.floors.length s.floors.length, .int .i64 (k : Int), .int .i64 G, .int .i64 0, .slice pw (wayV s (k : Int)).length (wayV s (k : Int)).length, .int .i64 0, .slice q1 (bankX s (k : Int)).fst.length d1, .slice q2 (bankX s (k : Int)).snd.length d2, .int .i64 0, u16, u17, .int .i64 G, .int .i64 0, .int .i64 G, .int .i64 0, .int .i64 ee, .slice pm MM.length cm, u24, undef, .int .i64 (i : Int), .pointer (some ⟨X, 0, none⟩), u28, u29, u30, u31, u32, u33, u34, .slice p l.length c, .pointer (some ⟨w.heap.size, 0, none⟩), .agg #[.slice qT s.table.length dT, .int .i64 s.lo, .int .i64 s.hi, .slice (some ⟨gF, oF, none⟩) s.floors.length dF, .slice (some ⟨bS, oS, none⟩) s.sills.length dS], .slice p' l'.length c', .pointer (some ⟨hb, 0, none⟩), .agg #[.slice qT s.table.length dT, .int .i64 s.lo, .int .i64 s.hi, .slice (some ⟨gF, oF, none⟩) s.floors.length dF, .slice (some ⟨bS, oS, none⟩) s.sills.length dS], .slice (some ⟨g, 0, none⟩) s.floors.length s.floors.length, .pointer (some ⟨M, 3, none⟩), .slice (some ⟨gF, oF, none⟩) s.floors.length dF, .int .i64 (s.floors.length : Int), .int .i64 (k : Int), .bool true, .int .i64 (k : Int), .tuple #[.int .i64 G, .int .i64 0], .agg #[.slice qT s.table.length dT, .int .i64 s.lo, .int .i64 s.hi, .slice (some ⟨gF, oF, none⟩) s.floors.length dF, .slice (some ⟨bS, oS, none⟩) s.sills.length dS], .int .i64 (k : Int), .tuple #[.int .i64 G, .int .i64 0], .int .i64 G, .int .i64 0, .tuple #[.slice pw (wayV s (k : Int)).length (wayV s (k : Int)).length, .int .i64 0], .agg #[.slice qT s.table.length dT, .int .i64 s.lo, .int .i64 s.hi, .slice (some ⟨gF, oF, none⟩) s.floors.length dF, .slice (some ⟨bS, oS, none⟩) s.sills.length dS], .int .i64 (k : Int), .tuple #[.slice pw (wayV s (k : Int)).length (wayV s (k : Int)).length, .int .i64 0], .slice pw (wayV s (k : Int)).length (wayV s (k : Int)).length, .int .i64 0, .tuple #[.slice q1 (bankX s (k : Int)).fst.length d1, .slice q2 (bankX s (k : Int)).snd.length d2, .int .i64 0], .agg #[.slice qT s.table.length dT, .int .i64 s.lo, .int .i64 s.hi, .slice (some ⟨gF, oF, none⟩) s.floors.length dF, .slice (some ⟨bS, oS, none⟩) s.sills.length dS], .int .i64 (k : Int), .tuple #[.slice q1 (bankX s (k : Int)).fst.length d1, .slice q2 (bankX s (k : Int)).snd.length d2, .int .i64 0], .slice q1 (bankX s (k : Int)).fst.length d1, .slice q2 (bankX s (k : Int)).snd.length d2, .int .i64 0, .slice (some ⟨g, 0, none⟩) s.floors.length s.floors.length, .int .i64 (k : Int), .pointer (some ⟨g, k, none⟩), .int .i64 G, .bool false, u72, u73, u74, u75, u76, u77, u78, u79, u80, u81, u82, u83, u84, u85, u86, u87, u88, u89, .tuple #[.int .i64 G, .int .i64 0], .agg #[.slice qT s.table.length dT, .int .i64 s.lo, .int .i64 s.hi, .slice (some ⟨gF, oF, none⟩) s.floors.length dF, .slice (some ⟨bS, oS, none⟩) s.sills.length dS], .int .i64 (k : Int), .slice pw (wayV s (k : Int)).length (wayV s (k : Int)).length, .tuple #[.int .i64 G, .int .i64 0], .int .i64 G, .int .i64 0, .tuple #[.int .i64 G, .int .i64 0], .agg #[.slice qT s.table.length dT, .int .i64 s.lo, .int .i64 s.hi, .slice (some ⟨gF, oF, none⟩) s.floors.length dF, .slice (some ⟨bS, oS, none⟩) s.sills.length dS], .int .i64 (k : Int), .slice q1 (bankX s (k : Int)).fst.length d1, .slice q2 (bankX s (k : Int)).snd.length d2, .tuple #[.int .i64 G, .int .i64 0], .int .i64 G, .int .i64 0, .int .i64 0, .bool false, .bool false, .int .i64 0, .bool false, .bool false, .bool false, .int .i64 0, .bool false, .bool false, .bool false, .int .i64 0, .bool false, .bool false, .bool false, .int .i64 0, .bool false, .bool false, .bool false, .int .i64 G, .slice (some ⟨g, 0, none⟩) s.floors.length s.floors.length, .int .i64 (k : Int), .pointer (some ⟨g, k, none⟩), .int .i64 G, .bool false, .bool false, .bool false, .int .i64 G, .int .i64 G, .bool false, .bool false, .bool false, .int .i64 G, .int .i64 G, .bool false, .bool false, .int .i64 (j : Int), .bool true, .slice (some ⟨wv.heap.size, 0, none⟩) 1 1, .pointer (some ⟨hb, 0, none⟩), .pointer (some ⟨M, 4, none⟩), .slice (some ⟨bS, oS, none⟩) s.sills.length dS, .int .i64 (s.sills.length : Int), .slice (some ⟨bq, oq, none⟩) lo.length dq, .int .i64 (lo.length : Int), .int .i64 (m : Int), u151, u152, u153, u154, u155, u156, u157, u158, u159, u160, u161, u162, u163, u164, u165, u166, u167, u168, .pointer (some ⟨X, 0, none⟩), .int .i64 A', .int .i64 ee, .bool true, .bool true, .slice pm MM.length cm, .pointer (some ⟨X, 1, none⟩), .int .i64 B', .bool false, .bool true, .bool true, .bool true, .int .i64 ee, .int .i64 (k : Int), .bool true, .bool true, V 0, V 1, V 2, V 3, V 4, V 5, V 6, V 7, V 8, V 9, V 10, u196, u197, u198, u199, u200, u201, u202, u203, u204, u205, u206, u207, u208, u209, u210, u211, u212, u213, u214, u215, u216, u217, u218, u219, u220, u221, u222, u223, u224, u225, u226, u227, u228, u229, u230, u231, u232, u233, u234, u235, u236, u237, u238, u239, u240, u241, u242, u243, u244, u245, u246, u247, u248, u249, u250, u251, u252, u253, u254, u255, u256, u257, u258, u259, u260, u261, u262, u263, u264, u265, u266, u267, u268, u269, u270, u271, u272, u273, u274, u275, undef], []⟩ ∧ (∀ k, done k = true → AppV u24 (.slice pm MM.length cm) (i : Int) B' X k (V k)) ∧ AppS wv.heap.size wo (some ⟨bq, oq, none⟩) lo u24 (.slice pm MM.length cm) L MM (i : Int) B' X [.int .i64 A', .int .i64 B', .int .i64 H'] done W V) mixed (by kernel_rfl) ?_ ?_ ?_
                              · exact ⟨fun i => if i = 0 then u185 else if i = 1 then u186 else if i = 2 then u187 else if i = 3 then u188 else if i = 4 then u189 else if i = 5 then u190 else if i = 6 then u191 else if i = 7 then u192 else if i = 8 then u193 else if i = 9 then u194 else u195, rfl, (fun k h => by cases h), AppS.start HTd.out HBd.out HX1.out.1 HX1.out.2 _⟩
                              · intro done a W i' o hi' hd ho hall hinv
                                obtain ⟨V, rfl, hv, hs⟩ := hinv
                                have HV := Lib.hid hv
                                have HS := Lib.hid hs
                                have HA := Lib.hid hall
                                have HD := Lib.hid hd
                                have x0 := hs.x.cell 0
                                have x1 := hs.x.cell 1
                                have xl := hs.x.lt
                                simp only [List.getElem?_cons_zero, List.getElem?_cons_succ] at x0 x1
                                clear hv hs hall hd
                                obtain rfl | rfl | rfl | rfl | rfl | rfl | rfl | rfl | rfl | rfl | rfl : i' = 0 ∨ i' = 1 ∨ i' = 2 ∨ i' = 3 ∨ i' = 4 ∨ i' = 5 ∨ i' = 6 ∨ i' = 7 ∨ i' = 8 ∨ i' = 9 ∨ i' = 10 := by omega
                                · clear ho HA
                                  refine wpOp_step rfl (fun K hK => ?_)
                                  rw [if_pos (by rfl)]
                                  have HK := Lib.hid hK
                                  clear hK
                                  go_simp
                                  exact HK.out _ _ ⟨putV V 0 (.pointer (some ⟨X, 1, none⟩)), rfl, appV_upd HV.out rfl, HS.out.keep 0 (by decide) (by decide) (by decide) (by decide) _⟩
                                · have e0 : V 0 = _ := HV.out 0 (HA.out ⟨0, .data⟩ (by cases ho; simp) rfl)
                                  clear ho HA
                                  refine wpOp_step rfl (fun K hK => ?_)
                                  rw [if_pos (by rfl)]
                                  have HK := Lib.hid hK
                                  clear hK
                                  go_simp
                                  exact HK.out _ _ ⟨putV V 1 (.int .i64 B'), (by first | (simp only [putV, e0]; rfl) | (simp only [e0]; rfl)), appV_upd HV.out rfl, HS.out.keep 1 (by decide) (by decide) (by decide) (by decide) _⟩
                                · clear ho HA
                                  refine wpOp_step rfl (fun K hK => ?_)
                                  rw [if_pos (by rfl)]
                                  have HK := Lib.hid hK
                                  clear hK
                                  go_simp
                                  exact HK.out _ _ ⟨putV V 2 (u24), rfl, appV_upd HV.out rfl, HS.out.keep 2 (by decide) (by decide) (by decide) (by decide) _⟩
                                · clear ho HA
                                  refine wpOp_step rfl (fun K hK => ?_)
                                  rw [if_pos (by rfl)]
                                  have HK := Lib.hid hK
                                  clear hK
                                  go_simp
                                  exact HK.out _ _ ⟨putV V 3 (.int .i64 (i : Int)), rfl, appV_upd HV.out rfl, HS.out.keep 3 (by decide) (by decide) (by decide) (by decide) _⟩
                                · have e3 : V 3 = _ := HV.out 3 (HA.out ⟨3, .data⟩ (by cases ho; simp) rfl)
                                  clear ho HA
                                  refine wpOp_step rfl (fun K hK => ?_)
                                  rw [if_pos (by rfl)]
                                  have HK := Lib.hid hK
                                  clear hK
                                  go_simp
                                  exact HK.out _ _ ⟨putV V 4 (.slice (some ⟨W.heap.size, 0, none⟩) 1 1), (by first | (simp only [putV, e3]; rfl) | (simp only [e3]; rfl)), appV_upd HV.out trivial, (by first | exact HS.out.build4 | (simp only [e3]; exact HS.out.build4))⟩
                                · have e2 : V 2 = _ := HV.out 2 (HA.out ⟨2, .data⟩ (by cases ho; simp) rfl)
                                  have hd4 : done 4 = true := HA.out ⟨4, .data⟩ (by cases ho; simp) rfl
                                  obtain ⟨b, v', w', k1, hrun, hs'⟩ := HS.out.app5 hd4 HD.out (by omega)
                                  have HS' := Lib.hid hs'
                                  clear ho HA hs'
                                  refine wpOp_step rfl (fun K hK => ?_)
                                  rw [if_pos (by rfl)]
                                  refine wp_append_a (.tmp 187) (.tmp 189) 25 rfl _ _ v' w' (show _ = u24 from e2) (show _ = Value.slice (some ⟨b, 0, none⟩) 1 1 from k1) (hrun _) (hK _ _ ⟨putV V 5 v', ?_, appV_upd HV.out trivial, HS'.out⟩)
                                  exact rfl
                                · clear ho HA
                                  refine wpOp_step rfl (fun K hK => ?_)
                                  rw [if_pos (by rfl)]
                                  have HK := Lib.hid hK
                                  clear hK
                                  go_simp
                                  exact HK.out _ _ ⟨putV V 6 (.slice pm MM.length cm), rfl, appV_upd HV.out rfl, HS.out.keep 6 (by decide) (by decide) (by decide) (by decide) _⟩
                                · clear ho HA
                                  refine wpOp_step rfl (fun K hK => ?_)
                                  rw [if_pos (by rfl)]
                                  have HK := Lib.hid hK
                                  clear hK
                                  go_simp
                                  exact HK.out _ _ ⟨putV V 7 (.pointer (some ⟨X, 1, none⟩)), rfl, appV_upd HV.out rfl, HS.out.keep 7 (by decide) (by decide) (by decide) (by decide) _⟩
                                · have e7 : V 7 = _ := HV.out 7 (HA.out ⟨7, .data⟩ (by cases ho; simp) rfl)
                                  clear ho HA
                                  refine wpOp_step rfl (fun K hK => ?_)
                                  rw [if_pos (by rfl)]
                                  have HK := Lib.hid hK
                                  clear hK
                                  go_simp
                                  exact HK.out _ _ ⟨putV V 8 (.int .i64 B'), (by first | (simp only [putV, e7]; rfl) | (simp only [e7]; rfl)), appV_upd HV.out rfl, HS.out.keep 8 (by decide) (by decide) (by decide) (by decide) _⟩
                                · have e8 : V 8 = _ := HV.out 8 (HA.out ⟨8, .data⟩ (by cases ho; simp) rfl)
                                  clear ho HA
                                  refine wpOp_step rfl (fun K hK => ?_)
                                  rw [if_pos (by rfl)]
                                  have HK := Lib.hid hK
                                  clear hK
                                  go_simp
                                  exact HK.out _ _ ⟨putV V 9 (.slice (some ⟨W.heap.size, 0, none⟩) 1 1), (by first | (simp only [putV, e8]; rfl) | (simp only [e8]; rfl)), appV_upd HV.out trivial, (by first | exact HS.out.build9 | (simp only [e8]; exact HS.out.build9))⟩
                                · have e6 : V 6 = _ := HV.out 6 (HA.out ⟨6, .data⟩ (by cases ho; simp) rfl)
                                  have hd9 : done 9 = true := HA.out ⟨9, .data⟩ (by cases ho; simp) rfl
                                  obtain ⟨b, v', w', k1, hrun, hs'⟩ := HS.out.app10 hd9 HD.out (by have := HML.out; omega)
                                  have HS' := Lib.hid hs'
                                  clear ho HA hs'
                                  refine wpOp_step rfl (fun K hK => ?_)
                                  rw [if_pos (by rfl)]
                                  refine wp_append_a (.tmp 191) (.tmp 194) 25 rfl _ _ v' w' (show _ = .slice pm MM.length cm from e6) (show _ = Value.slice (some ⟨b, 0, none⟩) 1 1 from k1) (hrun _) (hK _ _ ⟨putV V 10 v', ?_, appV_upd HV.out trivial, HS'.out⟩)
                                  exact rfl
                              · rintro a W ⟨V, rfl, hv, hs⟩
                                have e1 : V 1 = _ := hv 1 rfl
                                have HE := Lib.hid (hs.ends rfl rfl)
                                clear hv hs
                                change wpList _ _ _ [_, _, _] _ _
                                generalize V 5 = v5 at *
                                generalize V 10 = v10 at *
                                rw [e1]
                                clear e1
                                go_wp2_with fail
                                go_roundw
                                case rel =>
                                  try ((repeat apply Exists.intro); refine ⟨?_, rfl⟩)
                                  exact ⟨m + 1, L ++ [(i : Int)], MM ++ [B'], B', by go_num, by omega, rfl, HW2.out, by rw [List.length_append]; simp; omega, HE.out⟩
                                case measure => simp [intOf]; omega
                      · have n1 : (A' == ee) = false := beq_eq_false_iff_ne.2 hA
                        clear hA
                        go_wp2_with fail
                        go_roundw
                        case rel =>
                          try ((repeat apply Exists.intro); refine ⟨?_, rfl⟩)
                          exact ⟨m + 1, L, MM, ee, by go_num, by omega, rfl, HWD.out, by omega, HTX.out⟩
                        case measure => simp [intOf]; omega
                  · obtain rfl : m = lo.length := by omega
                    obtain ⟨po, co, hpo, -, -, rowo, -⟩ := Row.of_own (rows := ints L) (flatOk_ints _) hT.ro (by simp [ints])
                    subst hpo
                    have RO := Lib.hid rowo
                    have Hw3 := Lib.hid (Ho.out.below hT.below (by omega) (HAP.out wv (by omega)))
                    obtain ⟨c0, c1, c2, c3, c4⟩ := five (HBw.out wr Fx3.out)
                    clear hT HTR rowo T0 Ho
                    go_wp2_with fail
                    refine (Crest_c s k L po co wr (HLw.out wr Fx3.out) RO.out (by omega)).mono ?_
                    rintro e wt ⟨rfl, ut⟩
                    have Ft := Lib.hid (Fx3.out.trans (Far.of (ut.mono Fx3.out.size)))
                    have Ht := Lib.hid (Hw3.out.up ut)
                    have szt := ut.size
                    have szw := Ft.out.size
                    have HWX := Lib.hid (HW.out L MM ee HWD.out)
                    clear ut Fx3 Hw3 RO c0 c1 c2 c3 c4 hw HWD HML
                    go_upto_region 34 with fail
                    focus
                      go_cut [28, 29, 224] (fun _ _ v wx => v = .bool false ∧ wt = wx)
                      case first =>
                        by_cases hep : ee = k
                        · obtain ⟨q1', q2'⟩ := HWX.out.1 hep
                          rw [q1']
                          have n2 : (ee == (k : Int)) = true := by rw [hep]; simp
                          have n3 : (ee != (k : Int)) = false := by rw [hep]; simp
                          have n4 : ¬ crestV s k L < G := by omega
                          have n5 : decide (crestV s k L < G) = false := decide_eq_false n4
                          clear q1' hep HWX
                          generalize crestV s k L = cv at *
                          go_wp2_with fail
                          go_meet
                          exact ⟨rfl, rfl⟩
                        · rw [HWX.out.2 hep]
                          have n2 : (ee == (k : Int)) = false := beq_eq_false_iff_ne.2 hep
                          have n3 : (ee != (k : Int)) = true := by simp [hep]
                          clear hep HWX
                          generalize crestV s k L = cv at *
                          go_wp2_with fail
                          go_meet
                          exact ⟨rfl, rfl⟩
                      case rest =>
                        obtain ⟨rfl, rfl⟩ := hcut
                        clear HWX
                        obtain ⟨c0, c1, c2, c3, c4⟩ := five (HBw.out wt Ft.out)
                        go_wp2_with fail
                        go_loopw [30, 32, 228] (fun v _ i wx => ∃ (n : Nat) (ss : List Int), i = .int .i64 n ∧ n ≤ s.sills.length ∧ Rise n ss ∧ wx.ownsRow wt.heap.size 3 1 v ss.length (ints ss).flatten ∧ HeapAt wx hb p' c' l' ∧ Far hb w6.heap.size w6 wx ∧ wt.heap.size ≤ wx.heap.size) (fun _ _ i _ => s.sills.length - (intOf i).toNat)
                        case atStart => exact ⟨0, [], rfl, Nat.zero_le _, Rise.nil _, World.ownsRow_nil _ _ _ _, Ht.out, Ft.out, Nat.le_refl _⟩
                        case round =>
                          as_aux_lemma =>
                            obtain ⟨n, ss, rfl, hn, hss, hown, hh, hf, hsz⟩ := hrel
                            have HSS := Lib.hid hss
                            have HOW := Lib.hid hown
                            have HHx := Lib.hid hh
                            have HFx := Lib.hid hf
                            have hsl := hss.len
                            clear hss hown hh hf c0 c1 c2 c3 c4
                            by_cases hn' : n < s.sills.length
                            · have nn : (n : Int) < s.sills.length := by omega
                              go_wp2_with fail
                              refine (once_c hb p' c' l' 2 wr HHx.out (HAP.out wr (by omega)) hl' (by decide) (by decide)).mono ?_
                              rintro e wu ⟨b, rfl, hu, fu⟩
                              have H2 := Lib.hid hu
                              have F2 := Lib.hid (HFx.out.trans (fu.mono HFx.out.size))
                              have O2 := Lib.hid (fu.own' HOW.out (by omega))
                              have sz2' := fu.size
                              have sz3' : wt.heap.size ≤ wu.heap.size := by omega
                              clear hu fu HHx HFx HOW
                              cases b with
                              | false =>
                                go_wp2_with fail
                                go_roundw
                                case rel =>
                                  try ((repeat apply Exists.intro); refine ⟨?_, rfl⟩)
                                  exact ⟨n + 1, ss, by go_num, by omega, HSS.out.mono, O2.out, H2.out, F2.out, sz3'⟩
                                case measure => simp [intOf]; omega
                              | true =>
                                go_wp2_with (at_builtin; refine wpList_append_own _ rfl _ _ 25 rfl wt.heap.size 3 i0 (.int .i64 0) 1 8 Try.underlying25 hi0 hz0 hz1 hz2 rfl (by decide) _ _ _ rfl (O2.out.alloc _) ⟨wu.heap.size, 0, none⟩ 1 1 [.int .i64 n] rfl rfl (newsAt _ rfl [.int .i64 n] _) (by simp [Value.oneCell']) (by simp [maxLen]; omega) (by omega) (sz_alloc sz3') ?_; intro v' w8 hown8 hgr8 hnn; clear hnn)
                                have B8 : Below wt.heap.size wu w8 := ((Below.refl _ _).alloc sz3' _).grown hgr8 (sz_alloc sz3') (fun j e => (O2.out.lt j e).1)
                                have H8 := Lib.hid (H2.out.below B8 (by omega) (HAP.out wt (by omega)))
                                have F8 := Lib.hid (F2.out.trans (Far.of (B8.mono (by omega))))
                                have O8 := Lib.hid hown8
                                have sz8 : wt.heap.size ≤ w8.heap.size := Nat.le_trans sz3' B8.size
                                clear hown8 hgr8 B8
                                go_roundw
                                case rel =>
                                  try ((repeat apply Exists.intro); refine ⟨?_, rfl⟩)
                                  refine ⟨n + 1, ss ++ [(n : Int)], by go_num, by omega, HSS.out.snoc, ?_, H8.out, F8.out, sz8⟩
                                  have e : (ints (ss ++ [(n : Int)])).flatten = (ints ss).flatten ++ [.int .i64 n] := by unfold ints; rw [List.map_append, List.flatten_append]; rfl
                                  rw [e, List.length_append]
                                  exact O8.out
                                case measure => simp [intOf]; omega
                            · obtain rfl : n = s.sills.length := by omega
                              obtain ⟨w9, rfl⟩ : ∃ x, x = wr := ⟨wr, rfl⟩
                              obtain ⟨p3, d3, hp3, -, -, row3, ge3⟩ := Row.of_own (rows := ints ss) (flatOk_ints _) HOW.out (by simp [ints])
                              subst hp3
                              have R3 := Lib.hid row3
                              have GE3 := Lib.hid ge3
                              clear row3 ge3 HOW
                              obtain ⟨c0, c1, c2, c3, c4⟩ := five (HBw.out w9 HFx.out)
                              go_wp2_with fail
                              go_loopw [31, 33, 241] (fun v _ i wx => ∃ (n : Nat) (ps : List Int), i = .int .i64 n ∧ n ≤ s.floors.length ∧ Rise n ps ∧ wx.ownsRow w9.heap.size 3 1 v ps.length (ints ps).flatten ∧ HeapAt wx hb p' c' l' ∧ Far hb w9.heap.size w9 wx) (fun _ _ i _ => s.floors.length - (intOf i).toNat)
                              case atStart => exact ⟨0, [], rfl, Nat.zero_le _, Rise.nil _, World.ownsRow_nil _ _ _ _, HHx.out, Far.refl _ _ _⟩
                              case round =>
                                as_aux_lemma =>
                                  obtain ⟨n, ps, rfl, hn, hps, hown, hh, hf⟩ := hrel
                                  have HPS := Lib.hid hps
                                  have HOW := Lib.hid hown
                                  have HHy := Lib.hid hh
                                  have HFy := Lib.hid hf
                                  have hpl := hps.len
                                  have sz0' := hf.size
                                  clear hps hown hh hf c0 c1 c2 c3 c4
                                  by_cases hn' : n < s.floors.length
                                  · have nn : (n : Int) < s.floors.length := by omega
                                    go_wp2_with fail
                                    refine (once_c hb p' c' l' 3 wr HHy.out (HAP.out wr (by omega)) hl' (by decide) (by decide)).mono ?_
                                    rintro e wu ⟨b, rfl, hu, fu⟩
                                    have H2 := Lib.hid hu
                                    have F2 := Lib.hid (HFy.out.trans (fu.mono HFy.out.size))
                                    have O2 := Lib.hid (fu.own' HOW.out (by omega))
                                    have sz2' := fu.size
                                    have sz3' : w9.heap.size ≤ wu.heap.size := by omega
                                    clear hu fu HHy HFy HOW
                                    cases b with
                                    | false =>
                                      go_wp2_with fail
                                      go_roundw
                                      case rel =>
                                        try ((repeat apply Exists.intro); refine ⟨?_, rfl⟩)
                                        exact ⟨n + 1, ps, by go_num, by omega, HPS.out.mono, O2.out, H2.out, F2.out⟩
                                      case measure => simp [intOf]; omega
                                    | true =>
                                      go_wp2_with (at_builtin; refine wpList_append_own _ rfl _ _ 25 rfl w9.heap.size 3 i0 (.int .i64 0) 1 8 Try.underlying25 hi0 hz0 hz1 hz2 rfl (by decide) _ _ _ rfl (O2.out.alloc _) ⟨wu.heap.size, 0, none⟩ 1 1 [.int .i64 n] rfl rfl (newsAt _ rfl [.int .i64 n] _) (by simp [Value.oneCell']) (by simp [maxLen]; omega) (by omega) (sz_alloc sz3') ?_; intro v' w8 hown8 hgr8 hnn; clear hnn)
                                      have B8 : Below w9.heap.size wu w8 := ((Below.refl _ _).alloc sz3' _).grown hgr8 (sz_alloc sz3') (fun j e => (O2.out.lt j e).1)
                                      have H8 := Lib.hid (H2.out.below B8 (by omega) (HAP.out w9 (by omega)))
                                      have F8 := Lib.hid (F2.out.trans (Far.of B8))
                                      have O8 := Lib.hid hown8
                                      clear hown8 hgr8 B8
                                      go_roundw
                                      case rel =>
                                        try ((repeat apply Exists.intro); refine ⟨?_, rfl⟩)
                                        refine ⟨n + 1, ps ++ [(n : Int)], by go_num, by omega, HPS.out.snoc, ?_, H8.out, F8.out⟩
                                        have e : (ints (ps ++ [(n : Int)])).flatten = (ints ps).flatten ++ [.int .i64 n] := by unfold ints; rw [List.map_append, List.flatten_append]; rfl
                                        rw [e, List.length_append]
                                        exact O8.out
                                      case measure => simp [intOf]; omega
                                  · obtain rfl : n = s.floors.length := by omega
                                    obtain ⟨p4, d4, hp4, -, -, row4, -⟩ := Row.of_own (rows := ints ps) (flatOk_ints _) HOW.out (by simp [ints])
                                    subst hp4
                                    have R4 := Lib.hid row4
                                    have R3y := Lib.hid (HFy.out.row R3.out (fun h0 b off e => ⟨R3.out.lt (ints_pos _) h0 e, by have := GE3.out b off e; omega⟩))
                                    have FY := Lib.hid (HFx.out.trans (HFy.out.mono HFx.out.size))
                                    have HTW := Lib.hid (HT.out ss ps HSS.out HPS.out)
                                    clear row4 HOW R3
                                    obtain ⟨c0, c1, c2, c3, c4⟩ := five (HBw.out wr FY.out)
                                    go_wp2_with fail
                                    refine (Hold_c s k ss ps p3 p4 d3 d4 wr (HLw.out wr FY.out) R3y.out R4.out (by omega) (by omega)).mono ?_
                                    rintro e wz ⟨rfl, uz⟩
                                    have FZ := Lib.hid (FY.out.trans (Far.of (uz.mono FY.out.size)))
                                    have HZ := Lib.hid (HHy.out.up uz)
                                    clear uz FY HHy R3y R4 c0 c1 c2 c3 c4 HFy
                                    go_upto_region 50 with fail
                                    focus
                                      go_cut [29, 34, 273] (fun _ _ v wx => v = .bool false ∧ wz = wx)
                                      case first =>
                                        rcases HTW.out with hx | ⟨hx, hle⟩
                                        · rw [hx]
                                          clear hx HTW
                                          generalize holdV s k ss ps = hv at *
                                          go_wp2_with fail
                                          go_meet
                                          exact ⟨rfl, rfl⟩
                                        · rw [hx]
                                          have n4 : ¬ G < holdV s k ss ps := by omega
                                          have n5 : decide (G < holdV s k ss ps) = false := decide_eq_false n4
                                          clear hx HTW
                                          generalize holdV s k ss ps = hv at *
                                          go_wp2_with fail
                                          go_meet
                                          exact ⟨rfl, rfl⟩
                                      case rest =>
                                        obtain ⟨rfl, rfl⟩ := hcut
                                        go_wp2_with fail
                                        go_roundw
                                        case rel =>
                                          try ((repeat apply Exists.intro); refine ⟨?_, rfl⟩)
                                          exact ⟨j + 1, by omega, by go_num, HZ.out, FZ.out⟩
                                        case measure => simp [intOf]; omega
            · obtain rfl : j = 6 := by omega
              go_wp2_with fail
              go_roundw
              case rel =>
                try ((repeat apply Exists.intro); refine ⟨?_, rfl⟩)
                exact ⟨k + 1, by omega, by go_num, Hx.out, Fx.out⟩
              case measure => simp [intOf]; omega
      · obtain ⟨e1, e2⟩ := hno (by omega)
        rw [if_neg hg] at gk
        have E2 := Lib.hid e2
        rw [e1]
        clear hyes hno e1 e2 hE hg
        generalize gateV s k = gv at *
        obtain ⟨c0, c1, c2, c3, c4⟩ := five (HBw.out wd Fd.out)
        go_wp2_with fail
        refine (Hold_c s k [] [] none none 0 0 wd (HLw.out wd Fd.out) (Row.nil _ _ _) (Row.nil _ _ _) (by simp) (by simp)).mono ?_
        rintro e we ⟨rfl, ue⟩
        rw [E2.out]
        have Fe := Lib.hid (Fd.out.trans (Far.of (ue.mono Fd.out.size)))
        have He := Lib.hid (Hd.out.up ue)
        clear ue Fd Hd R1 R2 RWd gk gkl c0 c1 c2 c3 c4
        generalize holdV s k [] [] = hv at *
        go_wp2_with fail
        go_roundw
        case rel =>
          try ((repeat apply Exists.intro); refine ⟨?_, rfl⟩)
          exact ⟨k + 1, by omega, by go_num, He.out, Fe.out⟩
        case measure => simp [intOf]; omega
    · obtain rfl : k = s.floors.length := by omega
      go_wp2_with fail
      refine (awake_c wr).mono ?_
      rintro e wz ⟨rfl, uz⟩
      have UZ := Lib.hid (Up.trans (HUw.out wr HF.out) uz)
      clear uz
      go_wp2_with fail
      go_ret
      exact ⟨rfl, UZ.out⟩
end
end Go.Proofs.Ytifcmbeejichdaa
