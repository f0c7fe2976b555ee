import Derived.Test.YtknaajofcbenaaaGreatBase
import Derived.Test.YtknaajofcbenaaaGreatHeight
import Derived.Test.YtknaajofcbenaaaGreatCheck
import Derived.Test.YtknaajofcbenaaaGreatOn
import Derived.Test.YtknaajofcbenaaaGreatStep
import Derived.Test.YtknaajofcbenaaaGreatLower
import Derived.Test.YtknaajofcbenaaaGreatGates
import Derived.Test.YtknaajofcbenaaaGreatAll
import Derived.Test.YtknaajofcbenaaaGreatQue
import Derived.Test.YtknaajofcbenaaaGreatLead
import Derived.Test.YtknaajofcbenaaaGreatWaysF
import Derived.WalkKit
import Derived.WalkSpells
import Derived.WalkLawsBesides
import Derived.Deep.QuietTactic
import Derived.BigQuiet
import Derived.Lib.Hide
import Derived.Shelf.Abstract
import Derived.BigGuardPart
import Derived.RangeFuncNested
import Derived.RangeFuncBound
import Derived.RangeFuncCalls
import Derived.RangeFuncLeaves
import Derived.Shelf.RegionOpen
import Derived.OwnWalkIn
import Derived.TacticsInMore
import Derived.LoopNIn
import Derived.LoopIn
import Derived.StillTailTactics
import Derived.Deep.RegionHeld3
import Derived.StillTail
import Derived.RangeFuncWrites
import Derived.Laws.StructEq
import Derived.Deep.LoopGhost
import Derived.IntWalk
import Derived.RangeFuncBox
import Derived.ArgAppend
import Derived.Laws.CopyOwn
import Derived.OwnWalk
import Derived.Lib.SliceRun
import Derived.Maps.OwnOps
import Derived.Maps.OwnSet
namespace Go.Proofs.YtknaajofcbenaaaGreat
open Go.RowKit Go.Shelf Go.Maps

theorem law3 : Keyed Tryz.prog 3 := int_keyed Tryz.underlying3
theorem zero3 (w : World) : (zeroValue 3).run Tryz.prog w = .ok (.int .i64 0) w := by kernel_rfl
theorem wf_small {x : Int} (h0 : 0 ≤ x) (h1 : x < 100000) : (Lit.int .i64 x).wf = true := WalkArith.wf_i64 (by omega)

/-- a map that counts a list -/
structure CntIs (D : DataW Unit) (l : List Int) : Prop where
  count : ∀ x : Int, D.atKey (.int .i64 x) (.lit (.int .i64 0)) = .lit (.int .i64 (l.count x))
  has : ∀ x : Int, Maps.has D (.int .i64 x) = decide (x ∈ l)
  le : Maps.size D ≤ l.length
  nodup : Maps.size D = l.length ↔ l.Nodup
theorem CntIs.nil : CntIs (.map []) [] := ⟨fun x => rfl, fun x => rfl, Nat.le_refl _, by simp [Maps.size]⟩
theorem CntIs.snoc {D : DataW Unit} {l : List Int} (h : CntIs D l) (hm : Maps.IsMap D) (ht : Maps.Tidy D) (x : Int) : CntIs (D.put (.int .i64 x) (.lit (.int .i64 (l.count x + 1)))) (l ++ [x]) := by
  have hk : ∀ y : Int, WideAt.IsKeyLit (.int .i64 y) := fun y => by unfold WideAt.IsKeyLit; trivial
  have hsz := size_put (k := .int .i64 x) ht (.lit (.int .i64 ((l.count x : Int) + 1)))
  rw [h.has] at hsz
  have hle := h.le
  have hnd := h.nodup
  refine ⟨fun y => ?_, fun y => ?_, ?_, ?_⟩
  · by_cases e : y = x
    · subst e
      rw [atKey_put_same hm (hk y)]
      simp
    · rw [atKey_put_other (fun e' => e (by simpa using e')), h.count]
      simp [List.count_append, Ne.symm e]
  · by_cases e : y = x
    · subst e
      rw [has_put_same hm (hk y)]
      simp
    · rw [has_put_other (fun e' => e (by simpa using e')), h.has]
      simp [e]
  · rw [hsz]
    simp only [List.length_append, List.length_singleton]
    split <;> omega
  · rw [hsz]
    by_cases e : x ∈ l
    · simp only [e, decide_true, if_true, List.length_append, List.length_singleton]
      constructor
      · intro h1; omega
      · intro h1
        have := (List.nodup_append.1 h1).2.2 x e x (by simp)
        exact absurd rfl this
    · simp only [e, decide_false, Bool.false_eq_true, if_false, List.length_append, List.length_singleton]
      constructor
      · intro h1
        have h2 := hnd.1 (by omega)
        exact List.nodup_append.2 ⟨h2, by simp, fun a ha b hb hab => by simp at hb; subst hb; subst hab; exact e ha⟩
      · intro h1
        have h2 := hnd.2 (List.nodup_append.1 h1).1
        omega

set_option maxRecDepth 100000 in
set_option maxHeartbeats 1000000 in
theorem counted_c (l : List Int) (p : Option Addr) (c : Nat) (w : World) (hr : Row w p 1 (ints l)) (hl : l.length ≤ 10000) (hb : ∀ x ∈ l, 0 ≤ x ∧ x < 100000) :
    Calls Tryz.prog 72 #[.slice p l.length c] w fun e w' => e = .returned (.map (some w.heap.size)) ∧ (∃ D, CntIs D l ∧ w'.ownsMap Tryz.prog 3 (plainElem Tryz.prog 3) w.heap.size l.length D) ∧ Up w w' := by
  have hmm := @run_makeMap Tryz.prog
  have HR := Lib.hid hr
  clear hr
  go_enter Tryz.func72, Tryz.ntmps72
  go_wp2_with fail
  go_loopw [9] (fun i wr => ∃ (k : Nat) (D : DataW Unit), k ≤ l.length ∧ i = .int .i64 k ∧ CntIs D (l.take k) ∧ wr.ownsMap Tryz.prog 3 (plainElem Tryz.prog 3) w.heap.size k D ∧ Up w wr) (fun i _ => l.length - (intOf i).toNat)
  case atStart => exact ⟨0, .map [], Nat.zero_le _, rfl, CntIs.nil, World.ownsMap_made _ _ _ _, (Below.refl _ _).alloc (Nat.le_refl _) _⟩
  case round =>
    obtain ⟨k, D, hk, rfl, hc, hown, hu⟩ := hrel
    have HC := Lib.hid hc
    have HU := Lib.hid hu
    clear hc hu
    by_cases hlt : k < l.length
    · obtain ⟨b, off, rfl, d0⟩ := HR.out.int k hlt
      have e0 := HU.out.cellAt d0
      have hx := hb l[k] (List.getElem_mem hlt)
      have HT := Lib.hid (show l.take (k + 1) = l.take k ++ [l[k]] by rw [List.take_add_one, List.getElem?_eq_getElem hlt]; rfl)
      clear d0
      generalize l[k] = x at *
      have hkey : keyOf Tryz.prog 3 (.int .i64 x) = some (.int .i64 x) := keyOf_int_mk Tryz.underlying3 (wf_small hx.1 hx.2)
      have hcl : (l.take k).count x ≤ l.length := Nat.le_trans List.count_le_length (by simp; omega)
      have htid := Lib.hid (hown.tidy law3)
      obtain ⟨cn, hcn⟩ : ∃ cn : Int, (((l.take k).count x : Nat) : Int) = cn := ⟨_, rfl⟩
      have hc0 : 0 ≤ cn ∧ cn ≤ 10000 := by omega
      have HCN := Lib.hid hcn
      have hat0 : D.atKey (.int .i64 x) (.lit (.int .i64 0)) = .lit (.int .i64 cn) := by rw [HC.out.count, hcn]
      have HAT := Lib.hid hat0
      have s1 : IntKind.i64.wrap (cn + 1) = cn + 1 := IntWalk.i64_in _ (by omega)
      clear hcn hat0 hcl
      go_wp2_with (first
        | (at_lookup; refine wpList_lookup_own_int _ rfl _ _ 119 rfl 3 3 .i64 law3 Tryz.underlying119 Tryz.underlying3 (zero3 _) w.heap.size k _ rfl hown _ _ rfl hkey ?_; intro c hat hwc; obtain rfl : cn = c := by (rw [HAT.out] at hat; simpa using hat))
        | (at_mapUpdate; refine wpList_mapUpdate_own _ rfl _ _ _ 119 rfl 3 3 law3 Tryz.underlying119 _ w.heap.size k _ rfl hown (by unfold maxLen; omega) _ _ _ rfl rfl hkey _ [] (plainElem_int Tryz.underlying3 (WalkArith.wf_i64 (by omega))) ?_; intro w1 hown1 hgrow1))
      go_roundw
      case rel =>
        refine ⟨k + 1, D.put (.int .i64 x) (.lit (.int .i64 (cn + 1))), by omega, by go_num, ?_, hown1, HU.out.grown hgrow1 HU.out.size (fun j hj => by cases hj; exact Nat.le_refl _)⟩
        rw [HT.out, ← HCN.out]
        exact HC.out.snoc hown.isMap htid.out x
      case measure => simp [intOf]; omega
    · obtain rfl : k = l.length := by omega
      go_wp2_with fail
      go_ret
      rw [List.take_length] at HC
      exact ⟨rfl, ⟨D, HC.out, hown⟩, HU.out⟩
end Go.Proofs.YtknaajofcbenaaaGreat
