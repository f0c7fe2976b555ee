import Derived.Test.YtifcmbeejichdaaBase
import Derived.Test.YtifcmbeejichdaaBegin
import Derived.Test.YtifcmbeejichdaaBegin2
import Derived.Test.YtifcmbeejichdaaOut1
import Derived.Test.YtifcmbeejichdaaAll
import Derived.Test.YtifcmbeejichdaaTurn
import Derived.Test.YtifcmbeejichdaaCrossB
import Derived.Test.YtifcmbeejichdaaWay
import Derived.Test.YtifcmbeejichdaaTwo
import Derived.Test.YtifcmbeejichdaaChk2
import Derived.Test.YtifcmbeejichdaaQue
import Derived.Test.YtifcmbeejichdaaLead
import Derived.Test.YtifcmbeejichdaaWaysF
import Derived.Test.YtifcmbeejichdaaCounted
import Derived.Test.YtifcmbeejichdaaHold
import Derived.Test.YtifcmbeejichdaaDup
import Derived.Test.YtifcmbeejichdaaHeap
import Derived.Test.YtifcmbeejichdaaOwn
import Derived.Test.YtifcmbeejichdaaHeight
import Derived.Test.YtifcmbeejichdaaOn
import Derived.Test.YtifcmbeejichdaaRound
import Derived.Test.YtifcmbeejichdaaDraw
import Derived.Test.YtifcmbeejichdaaPair
import Derived.Test.YtifcmbeejichdaaLine
import Derived.Test.YtifcmbeejichdaaChk
import Derived.Test.YtifcmbeejichdaaLower
import Derived.Test.YtifcmbeejichdaaGates
import Derived.Test.YtifcmbeejichdaaSpans
import Derived.Test.YtifcmbeejichdaaState2
import Derived.Test.YtifcmbeejichdaaFits
import Derived.Test.YtifcmbeejichdaaSpans2
import Derived.Test.YtifcmbeejichdaaFar
import Derived.Test.YtifcmbeejichdaaMade
import Derived.Test.YtifcmbeejichdaaCrossA
import Derived.Test.YtifcmbeejichdaaStep
import Derived.Test.YtifcmbeejichdaaCheck
import Derived.Test.YtifcmbeejichdaaEqInt
import Derived.WalkKit
import Derived.WalkSpells
import Derived.WalkLawsBesides
import Derived.Deep.QuietTactic
import Derived.BigQuiet
import Derived.Lib.Hide
import Derived.Shelf.Abstract
import Derived.BigGuardPart
import Derived.RangeFuncNested
import Derived.RangeFuncBound
import Derived.RangeFuncCalls
import Derived.RangeFuncLeaves
import Derived.Shelf.RegionOpen
import Derived.OwnWalkIn
import Derived.TacticsInMore
import Derived.LoopNIn
import Derived.LoopIn
import Derived.StillTailTactics
import Derived.Deep.RegionHeld3
import Derived.StillTail
import Derived.RangeFuncWrites
import Derived.Laws.StructEq
import Derived.Deep.LoopGhost
import Derived.IntWalk
import Derived.RangeFuncBox
import Derived.ArgAppend
import Derived.Laws.CopyOwn
import Derived.OwnWalk
import Derived.Lib.SliceRun
import Derived.Maps.OwnOps
import Derived.Maps.OwnSet
import Derived.Laws.OwnMore
import Derived.Laws.IdiomCopy
import Derived.Deep.Upon
import Derived.Shelf.Spec.SlicesInsertGrow
import Derived.Maps.AppendAt
import Derived.Laws.BitsAllLaws
import Derived.Deep.AppendSrc
import Derived.Deep.Cut
import Derived.Deep.DeepCutAuto
import Derived.Deep.CutRange
import Derived.Deep.CutBlock
namespace Go.Proofs.Ytifcmbeejichdaa
open Go.RowKit Go.Shelf
set_option maxRecDepth 100000
theorem v_h1 : heightV two 91 = 175 ∧ errAt two 91 = 0 := by constructor <;> kernel_rfl
theorem v_h2 : heightV two 400 = 370 ∧ errAt two 400 = 0 := by constructor <;> kernel_rfl
theorem v_g : gateV two 1 = 220 ∧ errGate two 1 = 0 := by constructor <;> kernel_rfl
theorem v_t : turnV two 0 0 = 97 ∧ errTurn two 0 0 = 0 := by constructor <;> kernel_rfl
theorem v_w : wayV two 1 = [0, 1] := by kernel_rfl
theorem v_a : allV two 150 = [2, 1] ∧ errAt two 150 = 0 := by constructor <;> kernel_rfl
theorem v_l : looksV two [(120, 0, true)] = (1, 20) ∧ looksE two [(120, 0, true)] = 0 := by constructor <;> kernel_rfl
end Go.Proofs.Ytifcmbeejichdaa
namespace Go.Proofs.Ytifcmbeejichdaa
open Go.RowKit Go.Shelf
set_option maxRecDepth 100000 in
theorem v_hold : holdV two 1 [] [1] = 220 ∧ errHold two 1 [] [1] = 0 := by constructor <;> kernel_rfl
theorem hold_two (pT pF pS : Option Addr) (cT cF cS : Nat) (p : Option Addr) (c : Nat) (w : World) (hl : Lists w two pT pF pS cT cF cS) (h : Row w p 1 (ints [1])) :
    Calls Try.prog 37 #[sdVal two pT pF pS cT cF cS, .int .i64 1, .slice none 0 0, .slice p 1 c] w fun e w' => e = .returned (.tuple #[.int .i64 220, .int .i64 0]) ∧ Up w w' := by
  have k := Hold_c two 1 [] [1] none p 0 c w hl (Row.nil _ _ _) h (by decide) (by decide)
  rwa [v_hold.1, v_hold.2] at k
end Go.Proofs.Ytifcmbeejichdaa
/- slices.Index and slices.Contains at []int. -/
namespace Go.Proofs.Ytifcmbeejichdaa
open Go.RowKit Go.Shelf

set_option maxRecDepth 100000 in
set_option maxHeartbeats 1000000 in
theorem index_c (l : List Int) (p : Option Addr) (c : Nat) (v : Int) (w : World) (h : Row w p 1 (ints l)) (hl : l.length ≤ 10000) :
    Calls Try.prog 123 #[.slice p l.length c, .int .i64 v] w fun e w' => ∃ r : Int, e = .returned (.int .i64 r) ∧ (0 ≤ r ↔ v ∈ l) ∧ -1 ≤ r ∧ r ≤ 10000 ∧ Up w w' := by
  have H := Lib.hid h
  clear h
  go_enter Try.func123, Try.ntmps123
  go_wp2_with fail
  go_loopw [8, 5] (fun i _ wr => ∃ k : Nat, k ≤ l.length ∧ i = .int .i64 k ∧ v ∉ l.take k ∧ Up w wr) (fun i _ _ => l.length - (intOf i).toNat)
  case atStart => exact ⟨0, Nat.zero_le _, rfl, by simp, Below.refl _ _⟩
  case round =>
    obtain ⟨k, hk, rfl, hv, hu⟩ := hrel
    have HU := Lib.hid hu
    have HV := Lib.hid hv
    clear hu hv
    by_cases hlt : k < l.length
    · have k1 : (k : Int) < l.length := by omega
      obtain ⟨b, off, rfl, hc⟩ := (H.out.up HU.out).int k hlt
      by_cases he : v = l[k]
      · have hmem := Lib.hid (show v ∈ l by rw [he]; exact List.getElem_mem hlt)
        have n1 : (v == l[k]) = true := by rw [he]; simp
        generalize l[k] = x at hc he n1
        clear he
        go_wp2_with fail
        go_ret
        exact ⟨k, rfl, ⟨fun _ => hmem.out, fun _ => by omega⟩, by omega, by omega, HU.out⟩
      · have n1 : (v == l[k]) = false := beq_eq_false_iff_ne.2 he
        have hno := Lib.hid (show v ∉ l.take (k + 1) by
          rw [List.take_add_one, List.getElem?_eq_getElem hlt, List.mem_append]
          rintro (h | h)
          · exact HV.out h
          · simp at h; exact he h)
        generalize l[k] = x at hc he n1
        clear he
        go_wp2_with fail
        go_roundw
        case rel =>
          try ((repeat apply Exists.intro); refine ⟨?_, rfl⟩)
          exact ⟨k + 1, by omega, by go_num, hno.out, HU.out⟩
        case measure => simp [intOf]; omega
    · obtain rfl : k = l.length := by omega
      have hno := Lib.hid (show v ∉ l by have := HV.out; rwa [List.take_length] at this)
      go_wp2_with fail
      go_ret
      exact ⟨-1, rfl, ⟨fun h => absurd h (by decide), fun h => absurd h hno.out⟩, by omega, by omega, HU.out⟩

set_option maxRecDepth 100000 in
set_option maxHeartbeats 1000000 in
theorem contains_c (l : List Int) (p : Option Addr) (c : Nat) (v : Int) (w : World) (h : Row w p 1 (ints l)) (hl : l.length ≤ 10000) :
    Calls Try.prog 59 #[.slice p l.length c, .int .i64 v] w fun e w' => e = .returned (.bool (decide (v ∈ l))) ∧ Up w w' := by
  have H := Lib.hid (index_c l p c v w h hl)
  clear h
  go_enter Try.func59, Try.ntmps59
  go_wp2_with fail
  refine H.out.mono ?_
  rintro e w1 ⟨r, rfl, hr, r1, r2, u⟩
  have U := Lib.hid u
  have HR : Hid (decide (v ∈ l) = decide (0 ≤ r)) := by show _ = _; simp only [hr]
  clear u hr
  go_wp2_with fail
  go_ret
  exact ⟨ret_bool (by rw [HR.out]), U.out⟩
end Go.Proofs.Ytifcmbeejichdaa
/- Plain facts: a number more in an own row, at whatever place. -/
namespace Go.Proofs.Ytifcmbeejichdaa
open Go.RowKit

theorem setCells_blk {g : Nat} {e : TypeId} : ∀ (vs : List Value) (o : Nat) (w : World) (cur : Array Value), w.heap[g]? = some (.cells cur e (0, 0)) →
    ∃ cur', (w.setCells g o vs).heap[g]? = some (.cells cur' e (0, 0)) ∧ cur'.size = cur.size ∧ (∀ j, j < o ∨ o + vs.length ≤ j → cur'[j]? = cur[j]?) ∧ (∀ j, j < vs.length → o + j < cur.size → cur'[o + j]? = vs[j]?)
  | [], o, w, cur, h => ⟨cur, h, rfl, fun _ _ => rfl, fun j hj => by simp at hj⟩
  | v :: r, o, w, cur, h => by
    obtain ⟨cur', h1, h2, h3, h4⟩ := setCells_blk r (o + 1) (w.setCell ⟨g, o, none⟩ v) (cur.setIfInBounds o v) (heap_setCell_same w g o cur e v h)
    refine ⟨cur', h1, by rw [h2]; simp, fun j hj => ?_, fun j hj hs => ?_⟩
    · rw [h3 j (by simp only [List.length_cons] at hj; omega), Array.getElem?_setIfInBounds_ne (by simp only [List.length_cons] at hj; omega)]
    · cases j with
      | zero =>
        rw [h3 _ (by omega)]
        simp only [Nat.add_zero] at hs ⊢
        rw [Array.getElem?_setIfInBounds_self_of_lt hs]
        rfl
      | succ j =>
        have := h4 j (by simpa using hj) (by simp; omega)
        rw [show o + (j + 1) = o + 1 + j by omega, this]
        rfl
theorem setCells_below {g n : Nat} (hn : n ≤ g) : ∀ (vs : List Value) (o : Nat) (w w' : World), Below n w w' → Below n w (w'.setCells g o vs)
  | [], _, _, _, h => h
  | _ :: r, o, w, _, h => setCells_below hn r (o + 1) w _ (h.setCell hn _)
/-- a number more -/
def insAt (l : List Int) (i : Nat) (k : Int) : List Int := l.take i ++ k :: l.drop i
theorem insAt_len (l : List Int) (i : Nat) (k : Int) (h : i ≤ l.length) : (insAt l i k).length = l.length + 1 := by
  unfold insAt
  rw [List.length_append, List.length_cons, List.length_take, List.length_drop]
  omega
theorem mem_insAt {l : List Int} {i : Nat} {k y : Int} (h : y ∈ insAt l i k) : y = k ∨ y ∈ l := by
  unfold insAt at h
  rcases List.mem_append.1 h with h | h
  · exact .inr (List.mem_of_mem_take h)
  · rcases List.mem_cons.1 h with h | h
    · exact .inl h
    · exact .inr (List.mem_of_mem_drop h)
theorem flat_ints (l : List Int) : (ints l).flatten = l.map fun x => .int .i64 x := by
  unfold ints
  induction l with
  | nil => rfl
  | cons x r ih => rw [List.map_cons, List.flatten_cons, ih]; rfl
theorem insAt_get (l : List Int) (i : Nat) (k : Int) (h : i ≤ l.length) (j : Nat) : (insAt l i k)[j]? = if j < i then l[j]? else if j = i then some k else l[j - 1]? := by
  unfold insAt
  rw [List.getElem?_append]
  have hl : (l.take i).length = i := by rw [List.length_take]; omega
  rw [hl]
  split
  · next h1 => rw [List.getElem?_take, if_pos h1]
  · next h1 =>
    split
    · next h2 => rw [h2, Nat.sub_self]; rfl
    · next h2 =>
      obtain ⟨d, rfl⟩ : ∃ d, j = i + 1 + d := ⟨j - i - 1, by omega⟩
      rw [show i + 1 + d - i = d + 1 by omega, List.getElem?_cons_succ, List.getElem?_drop]
      congr 1; omega
/-- an own row, known cell by cell -/
theorem ownsRow_cells {w : World} {base g cap : Nat} {e : TypeId} {cur : Array Value} (l : List Int) (hb : base ≤ g) (hg : w.heap[g]? = some (.cells cur e (0, 0))) (hn : l.length ≤ cap) (hc : cap ≤ maxLen) (hs : cur.size = cap)
    (h : ∀ j, j < l.length → cur[j]? = (l[j]?).map fun x => .int .i64 x) : w.ownsRow base e 1 (.slice (some ⟨g, 0, none⟩) l.length cap) l.length (ints l).flatten := by
  refine ⟨by rw [flat_ints]; simp, .inr ⟨g, cap, cur, rfl, hb, hg, hn, hc, by simpa using hs, ?_⟩⟩
  rw [flat_ints]
  apply List.ext_getElem?
  intro j
  rw [List.getElem?_take, List.getElem?_map]
  split
  · next hj => rw [← h j (by simpa using hj)]; simp
  · next hj => rw [List.getElem?_eq_none (by simpa using hj)]; rfl
theorem Below.drew_ {n : Nat} {a w : World} (h : Below n a w) : Below n a w.drew := ⟨h.os, h.tape, h.output, h.size, h.block⟩
end Go.Proofs.Ytifcmbeejichdaa
/- slices.Insert at []int, of one number into an own row. -/
namespace Go.Proofs.Ytifcmbeejichdaa
open Go.RowKit Go.Shelf

/-- which numbers the shelf's functions and types have here -/
def insRen : Ren := ⟨fun k => if k = 21 then 122 else if k = 27 then 160 else if k = 28 then 161 else if k = 35 then 165 else if k = 39 then 166 else 0, fun k => if k = 0 then 0 else if k = 3 then 3 else if k = 4 then 4 else if k = 22 then 25 else 0, fun k => k⟩
theorem insLays : Lays2.n21 Try.prog insRen where
  mixed := by kernel_rfl
  f21 := by kernel_rfl
  f27 := by kernel_rfl
  f28 := by kernel_rfl
  f35 := by kernel_rfl
  f39 := by kernel_rfl
  t0 := by kernel_rfl
  a0 := fun w => by kernel_rfl
  z0 := fun w => by kernel_rfl
  v0 := fun w => by kernel_rfl
  t3 := by kernel_rfl
  a3 := fun w => by kernel_rfl
  z3 := fun w => by kernel_rfl
  v3 := fun w => by kernel_rfl
  t4 := by kernel_rfl
  a4 := fun w => by kernel_rfl
  z4 := fun w => by kernel_rfl
  v4 := fun w => by kernel_rfl
  t22 := by kernel_rfl
  a22 := fun w => by kernel_rfl
  z22 := fun w => by kernel_rfl
  v22 := fun w => by kernel_rfl
  i3 := by kernel_rfl

set_option maxRecDepth 100000 in
theorem insert_c (l : List Int) (i : Nat) (k : Int) (n0 vb : Nat) (v : Value) (w : World) (ho : w.ownsRow n0 3 1 v l.length (ints l).flatten) (hi : i ≤ l.length) (hl : l.length ≤ 1000) (hb : Blk w vb [.int .i64 k] 3) (hn : n0 ≤ w.heap.size) (hv : v.ownBlock ≠ some vb) :
    Calls Try.prog 122 #[v, .int .i64 i, .slice (some ⟨vb, 0, none⟩) 1 1] w fun e w' => ∃ v', e = .returned v' ∧ w'.ownsRow n0 3 1 v' (l.length + 1) (ints (insAt l i k)).flatten ∧ Below n0 w w' ∧ (∀ b, v'.ownBlock = some b → v.ownBlock = some b ∨ w.heap.size ≤ b) ∧ (∀ b, b < w.heap.size → v.ownBlock ≠ some b → w'.heap[b]? = w.heap[b]?) := by
  obtain ⟨-, ho⟩ := ho
  have hkl := insAt_len l i k hi
  have hvs : ∀ j u, ([Value.int .i64 k] : List Value)[j]? = some u → w.cell? ⟨vb, 0 + j, none⟩ = some u := fun j u hj => by rw [Nat.zero_add, hb.cell]; exact hj
  have h1v : ∀ u ∈ ([Value.int .i64 k] : List Value), u.oneCell' = true := by simp [Value.oneCell']
  have hm1 : w.heap.size + 1 ≤ maxLen ∨ True := .inr trivial
  have hgz : ∀ c, l.length + 1 ≤ grownCap w (l.length + 1) c 3 ∧ grownCap w (l.length + 1) c 3 ≤ maxLen := fun c => ⟨grownCap_ge w _ _ _, grownCap_le_maxLen w _ _ _ (by simp [maxLen]; omega)⟩
  have hcs : ∀ cs : List Value, cs = l.map (fun x => Value.int .i64 x) → cs.length = l.length ∧ (∀ u ∈ cs, u.oneCell' = true) ∧ ∀ j : Nat, cs[j]? = (l[j]?).map (fun x => Value.int .i64 x) := fun cs e => by
    subst e
    refine ⟨by simp, fun u hu => ?_, fun j => by rw [List.getElem?_map]⟩
    obtain ⟨x, -, rfl⟩ := List.mem_map.1 hu
    rfl
  obtain ⟨cs, hcse⟩ : ∃ cs, cs = l.map (fun x => Value.int .i64 x) := ⟨_, rfl⟩
  obtain ⟨hcl, h1c, hcg⟩ := hcs cs hcse
  rcases ho with ⟨rfl, h0⟩ | ⟨g, cap, cur, rfl, g0, gb, gn, gm, gs, gt⟩
  · obtain rfl : l = [] := List.length_eq_zero_iff.1 h0
    obtain rfl : i = 0 := by simpa using hi
    have hcs0 : cs = [] := by rw [hcse]; rfl
    subst hcs0
    refine (Any2.slices_Insert_int_end_grow insLays none 0 0 vb 0 1 1 [] [.int .i64 k] w (by decide) (by decide) (by decide) (by decide) rfl rfl (fun _ => rfl) (fun a e => by cases e) hvs h1v).mono ?_
    rintro e w' ⟨rfl, rfl⟩
    obtain ⟨a1, a2⟩ := hgz 0
    rw [show insRen.t 3 = 3 from rfl]
    simp only [List.length_nil, Nat.zero_add] at a1 a2
    refine ⟨_, rfl, ownsRow_cells (insAt [] 0 k) hn (heap_alloc_new w.drew _) a1 a2 ?_ ?_, ?_, ?_, ?_⟩
    · simp [Builtin.zeroCells, Value.cells]; omega
    · intro j hj
      rw [hkl] at hj
      obtain rfl : j = 0 := by simpa using hj
      rw [Array.getElem?_append_left (by simp)]
      rfl
    · exact ((Below.refl _ _).drew).alloc hn _
    · intro b hb2; right; simp [Value.ownBlock] at hb2; omega
    · intro b hb2 _; exact Below.heap_alloc w.drew _ b hb2
  · have hcell : ∀ j u, cs[j]? = some u → w.cell? ⟨g, 0 + j, none⟩ = some u := fun j u hj => by
      rw [Nat.zero_add, cell_of_row w g j cur _ (0, 0) gb]
      have hjl : j < l.length := by rw [← hcl]; exact (List.getElem?_eq_some_iff.1 hj).1
      have : (cur.toList.take (l.length * 1))[j]? = cs[j]? := by rw [gt, flat_ints, hcse]
      rw [List.getElem?_take, if_pos (by omega)] at this
      rw [← hj, ← this]; simp
    have hcur : ∀ j, j < l.length → cur[j]? = (l[j]?).map fun x => Value.int .i64 x := fun j hj => by
      have h1 := hcell j (.int .i64 l[j]) (by rw [hcg, List.getElem?_eq_getElem hj]; rfl)
      rw [Nat.zero_add, cell_of_row w g j cur _ (0, 0) gb] at h1
      rw [h1, List.getElem?_eq_getElem hj]; rfl
    have hgw : g < w.heap.size := (Array.getElem?_eq_some_iff.1 gb).1
    have gs' : cur.size = cap := by omega
    have hgv : vb ≠ g := fun e => hv (by simp [Value.ownBlock, e])
    by_cases hend : i = l.length
    · subst hend
      by_cases hroom : l.length + 1 ≤ cap
      · refine (Any2.slices_Insert_int_end_room insLays g 0 l.length cap vb 0 1 1 [.int .i64 k] w (by decide) hroom (by simpa [maxLen] using gm) rfl (fun j hj => ?_) (fun j hj => ?_) hvs h1v).mono ?_
        · rw [cell_of_row w g _ cur _ (0, 0) gb, Array.getElem?_eq_getElem (by omega)]; rfl
        · exact frozen_of_row w g _ cur _ gb
        rintro e w' ⟨rfl, rfl⟩
        obtain ⟨cur', c1, c2, c3, c4⟩ := setCells_blk [.int .i64 k] (0 + l.length) w cur gb
        refine ⟨_, rfl, ?_, ?_, fun b hb2 => .inl hb2, ?_⟩
        · have := ownsRow_cells (insAt l l.length k) (cap := cap) g0 c1 (by omega) gm (by omega) (fun j hj => ?_)
          · rwa [hkl] at this
          · rw [insAt_get l _ k (Nat.le_refl _)]
            split
            · next h => rw [c3 j (by omega), hcur j h]
            · next h =>
              rw [if_pos (by omega)]
              have := c4 0 (by simp) (by omega)
              rw [show j = 0 + l.length + 0 by omega, this]; rfl
        · exact setCells_below g0 _ _ _ _ (Below.refl _ _)
        · intro b hb2 hne; exact World.heap_setCells_other w g _ _ hb2 (fun e => hne (by simp [Value.ownBlock, e]))
      · refine (Any2.slices_Insert_int_end_grow insLays (some ⟨g, 0, none⟩) l.length cap vb 0 1 1 cs [.int .i64 k] w (by decide) gn (by omega) (by omega) hcl rfl (fun e => by cases e) (fun a e j u hj => ?_) hvs h1v).mono ?_
        · simp only [Option.some.injEq] at e
          subst e
          rw [Addr.add_lit]
          exact hcell j u hj
        rintro e w' ⟨rfl, rfl⟩
        obtain ⟨a1, a2⟩ := hgz cap
        refine ⟨_, rfl, ?_, ((Below.refl _ _).drew).alloc hn _, fun b hb2 => ?_, fun b hb2 _ => Below.heap_alloc w.drew _ b hb2⟩
        · have := ownsRow_cells (w := w.drew.alloc (.cells ((cs ++ [Value.int .i64 k]).toArray ++ Builtin.zeroCells (Value.int .i64 0).cells (grownCap w (l.length + 1) cap 3 - (l.length + 1))) 3)) (base := n0) (insAt l l.length k) hn (heap_alloc_new w.drew _) (cap := grownCap w (l.length + 1) cap 3) (by omega) a2 ?_ (fun j hj => ?_)
          · rwa [hkl] at this
          · simp [Builtin.zeroCells, Value.cells, hcl]; omega
          · rw [insAt_get l _ k (Nat.le_refl _), Array.getElem?_append_left (by simp [hcl]; omega), List.getElem?_toArray]
            split
            · next h => rw [List.getElem?_append_left (by omega), hcg]
            · next h => rw [if_pos (by omega), List.getElem?_append_right (by omega), hcl, show j - l.length = 0 by omega]; rfl
        · right; simp [Value.ownBlock] at hb2; omega
    · have hlt : i < l.length := by omega
      by_cases hroom : l.length + 1 ≤ cap
      · refine (Any2.slices_Insert_int_shift insLays g 0 l.length cap i vb 0 1 1 cs [.int .i64 k] w hlt (by decide) hroom (by simpa [maxLen] using gm) hgv hcl rfl hcell (fun j hj => ?_) (fun j hj => ?_) hvs h1c h1v 3 3 1 cap ?_ ?_ (by omega) ?_ ?_).mono ?_
        · rw [cell_of_row w g _ cur _ (0, 0) gb, Array.getElem?_eq_getElem (by omega)]; rfl
        · exact frozen_of_row w g _ cur _ gb
        · have h : w.heap[vb]? = _ := hb
          simp [World.shape?, h]
        · simp [World.shape?, gb, gs']
        · exact hb.free 0
        · exact hb.free 1
        rintro e w' ⟨rfl, rfl⟩
        obtain ⟨cur1, c1, c2, c3, c4⟩ := setCells_blk (cs.drop i) (0 + (i + 1)) w.drew cur gb
        obtain ⟨cur2, d1, d2, d3, d4⟩ := setCells_blk [.int .i64 k] (0 + i) _ cur1 c1
        have hdl : (cs.drop i).length = l.length - i := by rw [List.length_drop, hcl]
        refine ⟨_, rfl, ?_, ?_, fun b hb2 => .inl hb2, ?_⟩
        · have := ownsRow_cells (insAt l i k) (cap := cap) g0 d1 (by omega) gm (by omega) (fun j hj => ?_)
          · rwa [hkl] at this
          · rw [insAt_get l _ k hi]
            split
            · next h => rw [d3 j (by omega), c3 j (by omega), hcur j (by omega)]
            · next h =>
              split
              · next h2 =>
                have := d4 0 (by simp) (by omega)
                rw [show j = 0 + i + 0 by omega, this]; rfl
              · next h2 =>
                rw [d3 j (by simp; omega)]
                have := c4 (j - (i + 1)) (by omega) (by omega)
                rw [show j = 0 + (i + 1) + (j - (i + 1)) by omega, this, List.getElem?_drop, hcg]
                congr 2; omega
        · exact setCells_below g0 _ _ _ _ (setCells_below g0 _ _ _ _ (Below.refl _ _).drew)
        · intro b hb2 hne
          have hne' : b ≠ g := fun e => hne (by simp [Value.ownBlock, e])
          rw [World.heap_setCells_other _ g _ _ (Nat.lt_of_lt_of_le hb2 (setCells_below (n := 0) (Nat.zero_le g) _ _ w _ (Below.refl _ _).drew).size) hne', World.heap_setCells_other w.drew g _ _ hb2 hne']
          rfl
      · refine (Any2.slices_Insert_int_grow insLays g 0 l.length cap i vb 0 1 1 cs [.int .i64 k] w hlt (by decide) gn (by omega) (by omega) hcl rfl hcell hvs h1c h1v).mono ?_
        rintro e w' ⟨rfl, rfl⟩
        obtain ⟨a1, a2⟩ := hgz cap
        obtain ⟨cur0, hcur0⟩ : ∃ cur0, cur0 = (cs.take i).toArray ++ Builtin.zeroCells (Value.int .i64 0).cells (l.length + 1 - i) ++ Builtin.zeroCells (Value.int .i64 0).cells (grownCap w (l.length + 1) cap 3 - (l.length + 1)) := ⟨_, rfl⟩
        have hs0 : cur0.size = grownCap w (l.length + 1) cap 3 := by rw [hcur0]; simp [Builtin.zeroCells, Value.cells, hcl]; omega
        rw [show insRen.t 3 = 3 from rfl]
        rw [← hcur0]
        obtain ⟨cur1, c1, c2, c3, c4⟩ := setCells_blk (g := w.heap.size) (e := 3) [.int .i64 k] i (w.alloc (.cells cur0 3)).drew cur0 (heap_alloc_new w _)
        obtain ⟨cur2, d1, d2, d3, d4⟩ := setCells_blk (cs.drop i) (i + 1) (((w.alloc (.cells cur0 3)).drew.setCells w.heap.size i [.int .i64 k]).drew) cur1 c1
        have hdl : (cs.drop i).length = l.length - i := by rw [List.length_drop, hcl]
        have b1 : Below w.heap.size w (((w.alloc (.cells cur0 3)).drew.setCells w.heap.size i [.int .i64 k]).drew) := (setCells_below (Nat.le_refl _) _ _ _ _ (((Below.refl _ _).alloc (Nat.le_refl _) _).drew)).drew
        have b2 := setCells_below (Nat.le_refl w.heap.size) (cs.drop i) (i + 1) _ _ b1
        refine ⟨_, rfl, ?_, b2.mono hn, fun b hb2 => ?_, fun b hb2 _ => b2.block b hb2⟩
        · have := ownsRow_cells (base := n0) (insAt l i k) (cap := grownCap w (l.length + 1) cap 3) (by omega) d1 (by omega) a2 (by omega) (fun j hj => ?_)
          · rwa [hkl] at this
          · rw [insAt_get l _ k hi]
            split
            · next h =>
              rw [d3 j (by omega), c3 j (by omega), hcur0, Array.append_assoc, Array.getElem?_append_left (by simp [hcl]; omega), List.getElem?_toArray, List.getElem?_take, if_pos h, hcg]
            · next h =>
              split
              · next h2 =>
                rw [d3 j (by omega)]
                have := c4 0 (by simp) (by omega)
                rw [show j = i + 0 by omega, this]; rfl
              · next h2 =>
                have := d4 (j - (i + 1)) (by omega) (by omega)
                rw [show j = i + 1 + (j - (i + 1)) by omega, this, List.getElem?_drop, hcg]
                congr 2; omega
        · right; simp [Value.ownBlock] at hb2; omega
end Go.Proofs.Ytifcmbeejichdaa
/- The heap's Order: the numbers below n, each in its place. -/
namespace Go.Proofs.Ytifcmbeejichdaa
open Go.RowKit Go.Shelf
theorem Far.own' {B base : Nat} {w w' : World} {T : TypeId} {k n : Nat} {v : Value} {xs : List Value} (h : Far B w.heap.size w w') (ho : w.ownsRow base T k v n xs) (hb : B < base) : w'.ownsRow base T k v n xs :=
  ho.kept ⟨h.os, h.tape, h.output, h.size, fun k hk hne => h.block k hk (fun e => hne (by rw [e]))⟩ (Or.inr (fun e => by have := (ho.lt B e).1; omega))
theorem Apart.mono' {p : Option Addr} {b n m : Nat} {l : List Int} (h : Apart p b n l) (hm : n ≤ m) : Apart p b m l := fun h0 b' off e => ⟨(h h0 b' off e).1, by have := (h h0 b' off e).2; omega⟩
section
variable {pB : Option Addr} {cB : Nat} {lB : List Int}
set_option maxRecDepth 100000 in
set_option maxHeartbeats 1000000 in
theorem order_c (hb n : Nat) (w : World) (h : HeapAt w hb pB cB lB) (ha : Apart pB hb w.heap.size lB) (hlB : lB.length ≤ 140737488355328) (hn : n ≤ 100) :
    Calls Try.prog 58 #[.pointer (some ⟨hb, 0, none⟩), .int .i64 n] w fun e w' => ∃ l q c, e = .returned (.slice q (l : List Int).length c) ∧ l.length = n ∧ (∀ y ∈ l, 0 ≤ y ∧ y < n) ∧ Row w' q 1 (ints l) ∧ (∀ b off, q = some ⟨b, off, none⟩ → w.heap.size ≤ b ∧ b < w'.heap.size) ∧ HeapAt w' hb pB cB lB ∧ Far hb w.heap.size w w' := by
  have HH := Lib.hid h
  have HA := Lib.hid ha
  have hbw : hb < w.heap.size := by obtain ⟨k, r, hB, -⟩ := h; exact hB.lt
  clear h ha
  go_enter Try.func58, Try.ntmps58
  go_wp2_with fail
  go_loopw [9, 5] (fun i v wr => ∃ (k : Nat) (l : List Int), i = .int .i64 k ∧ k ≤ n ∧ l.length = k ∧ (∀ y ∈ l, 0 ≤ y ∧ y < k) ∧ wr.ownsRow w.heap.size 3 1 v k (ints l).flatten ∧ HeapAt wr hb pB cB lB ∧ Far hb w.heap.size w wr) (fun i _ _ => n - (intOf i).toNat)
  case atStart => exact ⟨0, [], rfl, by omega, rfl, by simp, World.ownsRow_nil _ _ _ _, HH.out, Far.refl _ _ _⟩
  case round =>
    obtain ⟨k, l, rfl, hk, hlen, hlk, hown, hh, hf⟩ := hrel
    have HO := Lib.hid hown
    have HF := Lib.hid hf
    have HHr := Lib.hid hh
    have HLK := Lib.hid hlk
    clear hown hf hh hlk
    subst hlen
    by_cases hlt : l.length < n
    · have q1 : (l.length : Int) < (n : Int) := by omega
      go_wp2_with fail
      refine (upto_c hb pB cB lB (l.length : Int) wr HHr.out (HA.out.mono' HF.out.size) hlB (by omega) (by omega)).mono ?_
      rintro e w3 ⟨v, ⟨v0, v1, -⟩, rfl, g3, f3⟩
      have v2 := v1 (by omega)
      obtain ⟨i, rfl⟩ := Int.eq_ofNat_of_zero_le v0
      have O3 := Lib.hid (f3.own' HO.out (by omega))
      have H3 := Lib.hid g3
      have F3 := Lib.hid (HF.out.trans (f3.mono HF.out.size))
      clear g3 f3 v1 HO HHr HF
      have hs3 := F3.out.size
      go_wp2_with fail
      refine (insert_c l i (l.length : Int) w.heap.size w3.heap.size _ _ (O3.out.alloc _) (by omega) (by omega) (Blk.new w3 [.int .i64 (l.length : Int)] _) (sz_alloc hs3) (fun e => by have := (O3.out.lt _ e).2; omega)).mono ?_
      rintro e w4 ⟨v', rfl, o4, b4, -, -⟩
      have hbb : Below w.heap.size w3 (w3.alloc (.cells #[.int .i64 (l.length : Int)] 3)) := (Below.refl _ _).alloc hs3 _
      have F4 := Lib.hid (F3.out.trans (Far.of (hbb.trans b4)))
      have H4 := Lib.hid (H3.out.below (hbb.trans b4) hbw HA.out)
      have O4 := Lib.hid o4
      have HM := Lib.hid (show ∀ y ∈ insAt l i (l.length : Int), 0 ≤ y ∧ y < ((l.length + 1 : Nat) : Int) from fun y hy => by
        rcases mem_insAt hy with rfl | hy
        · omega
        · have := HLK.out y hy; omega)
      have HL := Lib.hid (insAt_len l i (l.length : Int) (by omega))
      clear o4 b4 hbb O3 H3 F3
      go_wp2_with fail
      go_roundw
      case rel =>
        try ((repeat apply Exists.intro); refine ⟨?_, rfl⟩)
        exact ⟨l.length + 1, insAt l i (l.length : Int), by go_num, by omega, HL.out, HM.out, O4.out, H4.out, F4.out⟩
      case measure => simp [intOf]; omega
    · obtain rfl : l.length = n := by omega
      obtain ⟨q, d, rfl, a1, a2, hR, hge⟩ := Row.of_own (rows := ints l) (flatOk_ints _) HO.out (by simp [ints])
      go_wp2_with fail
      go_ret
      exact ⟨l, q, d, rfl, rfl, HLK.out, hR, fun b off e => HO.out.lt b (by rw [e]; rfl), HHr.out, HF.out⟩
end
end Go.Proofs.Ytifcmbeejichdaa
/- Two rows of the call's own that grow side by side, and a row that is read. -/
namespace Go.Proofs.Ytifcmbeejichdaa
open Go.RowKit Go.Shelf

structure Trio (n2 : Nat) (wz : World) (q : Option Addr) (lo : List Int) (vo vm : Value) (Lo Mo : List Int) (W : World) : Prop where
  below : Below n2 wz W
  sz : n2 ≤ W.heap.size
  row : Row W q 1 (ints lo)
  qb : ∀ b off, q = some ⟨b, off, none⟩ → b < W.heap.size ∧ vo.ownBlock ≠ some b ∧ vm.ownBlock ≠ some b
  ro : W.ownsRow n2 3 1 vo Lo.length (ints Lo).flatten
  rm : W.ownsRow n2 3 1 vm Mo.length (ints Mo).flatten
  sep : ∀ b, vo.ownBlock = some b → vm.ownBlock ≠ some b
section
variable {n2 : Nat} {wz W : World} {q : Option Addr} {lo Lo Mo : List Int} {vo vm : Value}
theorem Trio.swap (h : Trio n2 wz q lo vo vm Lo Mo W) : Trio n2 wz q lo vm vo Mo Lo W :=
  ⟨h.below, h.sz, h.row, fun b off e => ⟨(h.qb b off e).1, (h.qb b off e).2.2, (h.qb b off e).2.1⟩, h.rm, h.ro, fun b e e' => h.sep b e' e⟩
theorem Trio.up {W' : World} (h : Trio n2 wz q lo vo vm Lo Mo W) (u : Up W W') : Trio n2 wz q lo vo vm Lo Mo W' :=
  ⟨h.below.trans (u.mono h.sz), Nat.le_trans h.sz u.size, h.row.up u, fun b off e => ⟨Nat.lt_of_lt_of_le (h.qb b off e).1 u.size, (h.qb b off e).2⟩, ownsRow_up h.ro u, ownsRow_up h.rm u, h.sep⟩
theorem Trio.drew (h : Trio n2 wz q lo vo vm Lo Mo W) : Trio n2 wz q lo vo vm Lo Mo W.drew := h.up (Below.refl _ _).drew
theorem Trio.alloc (h : Trio n2 wz q lo vo vm Lo Mo W) (o : Obj) : Trio n2 wz q lo vo vm Lo Mo (W.alloc o) := h.up ((Below.refl _ _).alloc (Nat.le_refl _) o)
theorem Trio.new (h : Trio n2 wz q lo vo vm Lo Mo W) {b : Nat} (hb : W.heap.size ≤ b) : vo.ownBlock ≠ some b ∧ vm.ownBlock ≠ some b :=
  ⟨fun e => by have := (h.ro.lt b e).2; omega, fun e => by have := (h.rm.lt b e).2; omega⟩
theorem Trio.set (h : Trio n2 wz q lo vo vm Lo Mo W) {X : Nat} (hX : n2 ≤ X) (h1 : vo.ownBlock ≠ some X) (h2 : vm.ownBlock ≠ some X) (h3 : ∀ b off, q = some ⟨b, off, none⟩ → b ≠ X) (i : Nat) (v : Value) : Trio n2 wz q lo vo vm Lo Mo (W.setCell ⟨X, i, none⟩ v) :=
  ⟨h.below.setCell hX _, by rw [World.size_setCell]; exact h.sz, h.row.other (fun b off e => h3 b off e) v, fun b off e => ⟨by rw [World.size_setCell]; exact (h.qb b off e).1, (h.qb b off e).2⟩,
    h.ro.kept (w' := W.setCell ⟨X, i, none⟩ v) (row := some X) ⟨rfl, rfl, rfl, Nat.le_of_eq (World.size_setCell _ _ _).symm, fun k _ hk => Below.heap_setCell W ⟨X, i, none⟩ v k (fun e => hk (by rw [e]))⟩ (.inr h1),
    h.rm.kept (w' := W.setCell ⟨X, i, none⟩ v) (row := some X) ⟨rfl, rfl, rfl, Nat.le_of_eq (World.size_setCell _ _ _).symm, fun k _ hk => Below.heap_setCell W ⟨X, i, none⟩ v k (fun e => hk (by rw [e]))⟩ (.inr h2), h.sep⟩
/-- one number more in the first row -/
theorem Trio.app (h : Trio n2 wz q lo vo vm Lo Mo W) {b : Nat} {k : Int} (hb : Blk W b [.int .i64 k] 3) (hl : Lo.length ≤ 1000) :
    ∃ v' w', (∀ ty, (Builtin.append_ #[25, 25] ty #[vo, .slice (some ⟨b, 0, none⟩) 1 1]).run Try.prog W = .ok v' w') ∧ Trio n2 wz q lo v' vm (Lo ++ [k]) Mo w' ∧ W.heap.size ≤ w'.heap.size ∧
      (∀ b' cs T, Blk W b' cs T → vo.ownBlock ≠ some b' → Blk w' b' cs T ∧ v'.ownBlock ≠ some b') := by
  obtain ⟨i0, hi, hz0, hz1, hz2⟩ := info_parts info3
  have hrun := fun ty => run_append_own_at (P := Try.prog) W n2 25 ty 3 i0 (.int .i64 0) 1 8 Try.underlying25 hi hz0 hz1 hz2 rfl (by decide) vo Lo.length (ints Lo).flatten h.ro ⟨b, 0, none⟩ 1 1 [.int .i64 k] rfl
    (fun j u hj => by rw [Addr.add_lit, Nat.zero_add, hb.cell]; exact hj) (by simp [Value.oneCell']) (by simp [maxLen]; omega) (by omega) h.sz
  obtain ⟨v', w', h1, h2, h3, -, h5⟩ := hrun 0
  have hall : ∀ ty, (Builtin.append_ #[25, 25] ty #[vo, .slice (some ⟨b, 0, none⟩) 1 1]).run Try.prog W = .ok v' w' := fun ty => h1
  have hq : ∀ b' off, q = some ⟨b', off, none⟩ → W.heap.size ≠ b' ∧ b' < W.heap.size := fun b' off e => by have := (h.qb b' off e).1; omega
  have hvb : ∀ b', b' < W.heap.size → vo.ownBlock ≠ some b' → v'.ownBlock ≠ some b' := fun b' h6 h7 e => by
    rcases h5 with h5 | h5
    · exact h7 (by rw [← h5, e])
    · rw [h5] at e; simp at e; omega
  refine ⟨v', w', hall, ⟨?_, Nat.le_trans h.sz h3.size, ?_, fun b' off e => ⟨Nat.lt_of_lt_of_le (h.qb b' off e).1 h3.size, hvb b' (h.qb b' off e).1 (h.qb b' off e).2.1, (h.qb b' off e).2.2⟩, ?_, h.rm.kept h3 ?_, fun b' e e' => ?_⟩, h3.size, fun b' cs T hB hne => ⟨(h3.block b' hB.lt (fun e => hne e.symm)).trans hB, hvb b' hB.lt hne⟩⟩
  · exact h.below.grown h3 h.sz (fun k e => (h.ro.lt k e).1)
  · intro i row hi
    obtain ⟨b', off, e, hc⟩ := h.row i row hi
    exact ⟨b', off, e, fun j x hj => (World.cell?_of_block (a := ⟨b', off + i * 1 + j, none⟩) (h3.block b' (h.qb b' off e).1 (fun e' => (h.qb b' off e).2.1 e'.symm))).trans (hc j x hj)⟩
  · have e : (ints (Lo ++ [k])).flatten = (ints Lo).flatten ++ [.int .i64 k] := by unfold ints; rw [List.map_append, List.flatten_append]; rfl
    rw [e, List.length_append]
    exact h2
  · cases hm : vm.ownBlock with
    | none => exact .inl rfl
    | some b' => exact .inr (fun e => h.sep b' e.symm hm)
  · have := (h.rm.lt b' e').2
    have h7 := hvb b' this
    by_cases h8 : vo.ownBlock = some b'
    · exact h.sep b' h8 e'
    · exact h7 h8 e
theorem Trio.app_m (h : Trio n2 wz q lo vo vm Lo Mo W) {b : Nat} {k : Int} (hb : Blk W b [.int .i64 k] 3) (hl : Mo.length ≤ 1000) :
    ∃ v' w', (∀ ty, (Builtin.append_ #[25, 25] ty #[vm, .slice (some ⟨b, 0, none⟩) 1 1]).run Try.prog W = .ok v' w') ∧ Trio n2 wz q lo vo v' Lo (Mo ++ [k]) w' ∧ W.heap.size ≤ w'.heap.size ∧
      (∀ b' cs T, Blk W b' cs T → vm.ownBlock ≠ some b' → Blk w' b' cs T ∧ v'.ownBlock ≠ some b') := by
  obtain ⟨v', w', h1, h2, h3, h4⟩ := h.swap.app hb hl
  exact ⟨v', w', h1, h2.swap, h3, h4⟩
end
end Go.Proofs.Ytifcmbeejichdaa
/- As Draw: but an operation of the tail may wait for one of the head by way of another one of the tail. -/
namespace Go.Proofs.Ytifcmbeejichdaa
open Go.RowKit Go.Shelf

/-- each operation from N on waits for each before N, at once or by way of others -/
def tailWaits3 (md : Region.Mode) (ops : Array Oper) (N : Nat) : Bool :=
  (List.range ops.size).all fun t => decide (t < N) || (List.range N).all fun j => waitsT md ops ops.size 6 t j

theorem head_of_ready3 {md : Region.Mode} {ops : Array Oper} {N : Nat} {listed : Array Bool} {i j : Nat} (ht : tailWaits3 md ops N = true) (hcl : Closed md ops (fun j => listed.getD j false)) (hi : i < N) (hun : listed.getD i false = false) (hj : j ∈ Region.ready md ops listed) : j < N := by
  rcases Nat.lt_or_ge j N with h | h
  · exact h
  · exfalso
    obtain ⟨_, oj, hoj, hall⟩ := mem_ready.1 hj
    have hjs : j < ops.size := (Array.getElem?_eq_some_iff.1 hoj).1
    have h1 := List.all_eq_true.1 ht j (List.mem_range.2 hjs)
    simp only [Bool.or_eq_true, decide_eq_true_eq] at h1
    have h2 := h1.resolve_left (by omega)
    have h3 := List.all_eq_true.1 h2 i (List.mem_range.2 hi)
    have one : ∀ k, Region.waitsFor md ops j k = true → listed.getD k false = true := fun k hk => by
      obtain ⟨o', ho', e, he, hb, hon⟩ := Region.waitsFor_spec hk
      have : o' = oj := Option.some.inj (ho'.symm.trans hoj)
      subst this
      rw [← hon]
      exact hall e he hb
    simp only [waitsT, Bool.or_eq_true, List.any_eq_true, Bool.and_eq_true] at h3
    rcases h3 with h3 | ⟨k, -, h4, h5⟩
    · rw [one i h3] at hun; cases hun
    · have h6 : listed.getD i false = true := hcl.all (N := ops.size) 5 k i (one k h4) (by simp only [waitsT, Bool.or_eq_true, List.any_eq_true, Bool.and_eq_true]; exact h5)
      rw [h6] at hun; cases hun

section
variable {P : Program} {Q : Exit → Act → World → Prop} {N : Nat}

theorem inv_G3 {md : Region.Mode} {ops : Array Oper} {R : Array Bool → Act → World → Prop} (Inv : (Nat → Bool) → Act → World → Prop) (hb : backward ops = true) (ht : tailWaits3 md ops N = true) (hN : N ≤ ops.size)
    (step : ∀ (done : Nat → Bool) (a : Act) (w : World) (i : Nat) (o : Oper), i < N → done i = false → ops[i]? = some o → (∀ e ∈ o.after, Region.binds md e = true → done e.on = true) → Inv done a w → wpOp P ops Q i (fun a' w' => Inv (upd done i) a' w') a w)
    (hR : ∀ (listed : Array Bool) (a : Act) (w : World), listed.size = ops.size → (∀ j, listed.getD j false = decide (j < N)) → Inv (fun j => decide (j < N)) a w → R listed a w) :
    ∀ (f : Nat) (listed : Array Bool) (a : Act) (w : World), listed.size = ops.size → (∀ j, N ≤ j → listed.getD j false = false) → cnt (fun j => listed.getD j false) N = f → Closed md ops (fun j => listed.getD j false) → Inv (fun j => listed.getD j false) a w →
      wpAnyG P md ops Q (fun _ => True) N R f listed a w
  | 0, listed, a, w, hs, hf, hc, _, hi => by
    have hall := cnt_zero hc
    have hg : ∀ j, listed.getD j false = decide (j < N) := fun j => by
      by_cases h : j < N
      · rw [hall j h]; simp [h]
      · rw [hf j (by omega)]; simp [h]
    refine ⟨hall, hR listed a w hs hg ?_⟩
    rw [show (fun j => listed.getD j false) = (fun j => decide (j < N)) from funext hg] at hi
    exact hi
  | f + 1, listed, a, w, hs, hf, hc, hcl, hi => by
    obtain ⟨j, hj, hun, hbefore⟩ := cnt_first (g := fun j => listed.getD j false) (n := N) (by omega)
    have hjs : j < ops.size := by omega
    have hready : j ∈ Region.ready md ops listed := by
      refine mem_ready.2 ⟨?_, ops[j], Array.getElem?_eq_getElem hjs, fun e he _ => ?_⟩
      · have hun' : listed.getD j false = false := hun
        rw [Array.getD_eq_getD_getElem?] at hun' ⊢
        rw [Array.getElem?_eq_getElem (by omega)] at hun' ⊢
        exact hun'
      · have h1 := List.all_eq_true.1 hb j (List.mem_range.2 hjs)
        rw [Array.getElem?_eq_getElem hjs] at h1
        have h2 := (Array.all_eq_true_iff_forall_mem.1 h1) e he
        simp only [decide_eq_true_eq] at h2
        exact hbefore _ h2
    refine ⟨fun h0 => (by rw [h0] at hready; cases hready), fun i hir => ?_⟩
    have hiN := head_of_ready3 ht hcl hj hun hir
    obtain ⟨hiun, o, ho, hall⟩ := mem_ready.1 hir
    have hiun' : listed.getD i false = false := getD_both hiun
    refine ⟨hiN, wpOp_mono (fun a' w' h' => ⟨trivial, ?_⟩) (step (fun j => listed.getD j false) a w i o hiN hiun' ho hall hi)⟩
    have hset : (fun j => (listed.setIfInBounds i true).getD j false) = upd (fun j => listed.getD j false) i := by
      funext k
      by_cases hk : i = k
      · subst hk
        have : i < (listed.setIfInBounds i true).size := by simp; omega
        rw [Array.getD_eq_getD_getElem?, Array.getElem?_eq_getElem this]
        simp [upd]
      · rw [getD_set_ne false hk]
        have : (k == i) = false := by rw [beq_eq_false_iff_ne]; omega
        simp [upd, this]
    refine inv_G3 Inv hb ht hN step hR f _ a' w' (by simpa using hs) (fun k hk => ?_) ?_ ?_ ?_
    · rw [getD_set_ne false (by omega)]; exact hf k hk
    · rw [hset]
      have := cnt_set (fun j => listed.getD j false) i hiun' N hiN
      omega
    · rw [hset]
      intro k ok hok hk e he hb
      have hk' : listed.getD k false = true ∨ k = i := by simpa [upd] using hk
      have : listed.getD e.on false = true := by
        rcases hk' with hk' | rfl
        · exact hcl k ok hok hk' e he hb
        · have : ok = o := Option.some.inj (hok.symm.trans ho)
          subst this
          exact hall e he hb
      simp [upd, this]
    · rw [hset]; exact h'

/-- the order is right for the rule: the first N, in whatever order, then the others as they stand -/
def drawOk3 (md : Region.Mode) (l : List Oper) (N : Nat) : Bool :=
  decide (N ≤ l.length) && backward l.toArray && tailWaits3 md l.toArray N && (headDone N (List.replicate N true ++ List.replicate (l.length - N) false).toArray && Region.seqB md l.toArray (l.drop N).length N (List.replicate N true ++ List.replicate (l.length - N) false).toArray)

theorem region_inv3 {id : Nat} {l : List Oper} {a : Act} {w : World} (N : Nat) (Inv : (Nat → Bool) → Act → World → Prop) (hm : P.follows .mixedOrders = true) (hd : drawOk3 .any l N = true)
    (start : Inv (fun _ => false) a w.drew)
    (step : ∀ (done : Nat → Bool) (a : Act) (w : World) (i : Nat) (o : Oper), i < N → done i = false → l.toArray[i]? = some o → (∀ e ∈ o.after, Region.binds .any e = true → done e.on = true) → Inv done a w → wpOp P l.toArray Q i (fun a' w' => Inv (upd done i) a' w') a w)
    (tail : ∀ a w, Inv (fun j => decide (j < N)) a w → wpList P l.toArray Q (l.drop N) a w) : (Code.region id l.toArray true).wp P Q a w := by
  unfold drawOk3 at hd
  simp only [Bool.and_eq_true, decide_eq_true_eq] at hd
  obtain ⟨⟨⟨hN, hb⟩, ht⟩, hh, hseq⟩ := hd
  refine region_tail (fun _ => True) N hm (by simpa using hN) trivial (fun _ => ?_)
  refine inv_G3 Inv hb ht (by simpa using hN) step (fun listed a w hs hg hi => ?_) N _ a w.drew (by simp) (fun j _ => none_listed _ j) ?_ (fun i o _ hi => ?_) ?_
  · rw [listed_eq (n := l.length) (by simpa using hs) hN hg]
    have := wpAnyG_tail (P := P) (Q := Q) (S := fun _ => True) (a := a) (w := w) (by rw [Bool.and_eq_true]; exact ⟨hh, hseq⟩) (tail a w hi)
    exact this.2
  · have : (fun j => (Array.replicate l.toArray.size false).getD j false) = fun _ => false := by funext j; exact none_listed _ j
    rw [this]; exact cnt_none N
  · have hi' : (Array.replicate l.toArray.size false).getD i false = true := hi
    rw [none_listed] at hi'; cases hi'
  · have : (fun j => (Array.replicate l.toArray.size false).getD j false) = fun _ => false := by funext j; exact none_listed _ j
    rw [this]; exact start
end
end Go.Proofs.Ytifcmbeejichdaa
/- How far the statement 'at, own, met = x.B, append(own, i), append(met, x.B)' has come. -/
namespace Go.Proofs.Ytifcmbeejichdaa
open Go.RowKit Go.Shelf

theorem wp_append_a {P : Program} {w : World} {o : Oper} {a : Act} {K : Act → World → Prop} {Q : Exit → Act → World → Prop} (s x : Operand) (t : TypeId)
    (ho : o.op = .call { callee := .builtin .append, args := #[s, x], argTypes := #[t, t] }) (v1 v2 v' : Value) (w' : World) (hs : a.eval s = v1) (hx : a.eval x = v2) (hr : (Builtin.append_ #[t, t] o.type #[v1, v2]).run P w = .ok v' w')
    (h : K (a.put o.dst v') w') : Oper.wp P o a w K Q := by
  unfold Oper.wp execOp
  simp only [ho, resolve, invoke, builtin, Sem.run_bind, Sem.run_pure, Result.andThen_ok, List.map_toArray, List.map_cons, List.map_nil, hs, hx, hr]
  exact h
def putV (V : Nat → Value) (i : Nat) (v : Value) : Nat → Value := fun k => if k = i then v else V k
theorem putV_same (V : Nat → Value) (i : Nat) (v : Value) : putV V i v i = v := by simp [putV]
theorem putV_other (V : Nat → Value) {i k : Nat} (v : Value) (h : k ≠ i) : putV V i v k = V k := by simp [putV, h]
theorem updd_same (done : Nat → Bool) (i : Nat) : upd done i i = true := by simp [upd]
theorem updd_other (done : Nat → Bool) {i k : Nat} (h : k ≠ i) : upd done i k = done k := by simp [upd, h]
/-- a number in a block of its own, in neither row -/
def LooseAt (W : World) (v : Value) (k : Int) (vo vm : Value) : Prop := ∃ b, v = .slice (some ⟨b, 0, none⟩) 1 1 ∧ Blk W b [.int .i64 k] 3 ∧ vo.ownBlock ≠ some b ∧ vm.ownBlock ≠ some b
structure AppS (n2 : Nat) (wo : World) (q : Option Addr) (lo : List Int) (own met : Value) (L MM : List Int) (iv bv : Int) (X : Nat) (xs : List Value) (done : Nat → Bool) (W : World) (V : Nat → Value) : Prop where
  ex : ∃ vo vm Lo Mo, ((done 5 = false → vo = own ∧ Lo = L) ∧ (done 5 = true → vo = V 5 ∧ Lo = L ++ [iv])) ∧ ((done 10 = false → vm = met ∧ Mo = MM) ∧ (done 10 = true → vm = V 10 ∧ Mo = MM ++ [bv])) ∧
    Trio n2 wo q lo vo vm Lo Mo W ∧ Blk W X xs 97 ∧ vo.ownBlock ≠ some X ∧ vm.ownBlock ≠ some X ∧ (done 4 = true → LooseAt W (V 4) iv vo vm) ∧ (done 9 = true → LooseAt W (V 9) bv vo vm)
section
variable {n2 : Nat} {wo W : World} {q : Option Addr} {lo L MM : List Int} {own met : Value} {iv bv : Int} {X : Nat} {xs : List Value} {done : Nat → Bool} {V : Nat → Value}
theorem AppS.start (hT : Trio n2 wo q lo own met L MM W) (hb : Blk W X xs 97) (h1 : own.ownBlock ≠ some X) (h2 : met.ownBlock ≠ some X) (V : Nat → Value) : AppS n2 wo q lo own met L MM iv bv X xs (fun _ => false) W.drew V :=
  ⟨own, met, L, MM, ⟨fun _ => ⟨rfl, rfl⟩, fun h => (by cases h)⟩, ⟨fun _ => ⟨rfl, rfl⟩, fun h => (by cases h)⟩, hT.drew, hb.drew, h1, h2, fun h => (by cases h), fun h => (by cases h)⟩
theorem AppS.keep (h : AppS n2 wo q lo own met L MM iv bv X xs done W V) (i : Nat) (h4 : 4 ≠ i) (h5 : 5 ≠ i) (h9 : 9 ≠ i) (h10 : 10 ≠ i) (v : Value) : AppS n2 wo q lo own met L MM iv bv X xs (upd done i) W (putV V i v) := by
  obtain ⟨vo, vm, Lo, Mo, a, b, t, x, e1, e2, c, d⟩ := h.ex
  refine ⟨vo, vm, Lo, Mo, ?_, ?_, t, x, e1, e2, ?_, ?_⟩
  · rw [updd_other done h5, putV_other V v h5]; exact a
  · rw [updd_other done h10, putV_other V v h10]; exact b
  · rw [updd_other done h4, putV_other V v h4]; exact c
  · rw [updd_other done h9, putV_other V v h9]; exact d
theorem LooseAt.alloc {v vo vm : Value} {k : Int} (h : LooseAt W v k vo vm) (o : Obj) : LooseAt (W.alloc o) v k vo vm := by
  obtain ⟨b, e, hb, h1, h2⟩ := h
  exact ⟨b, e, hb.alloc o, h1, h2⟩
theorem AppS.build4 (h : AppS n2 wo q lo own met L MM iv bv X xs done W V) : AppS n2 wo q lo own met L MM iv bv X xs (upd done 4) (W.alloc (.cells #[.int .i64 iv] 3)) (putV V 4 (.slice (some ⟨W.heap.size, 0, none⟩) 1 1)) := by
  obtain ⟨vo, vm, Lo, Mo, a, b, t, x, e1, e2, c, d⟩ := h.ex
  refine ⟨vo, vm, Lo, Mo, ?_, ?_, t.alloc _, x.alloc _, e1, e2, fun _ => ?_, fun e => ?_⟩
  · rw [updd_other done (by decide), putV_other V _ (by decide)]; exact a
  · rw [updd_other done (by decide), putV_other V _ (by decide)]; exact b
  · rw [putV_same]
    exact ⟨_, rfl, Blk.new W [.int .i64 iv] _, (t.new (Nat.le_refl _)).1, (t.new (Nat.le_refl _)).2⟩
  · rw [updd_other done (by decide)] at e
    rw [putV_other V _ (by decide)]
    exact (d e).alloc _
theorem AppS.build9 (h : AppS n2 wo q lo own met L MM iv bv X xs done W V) : AppS n2 wo q lo own met L MM iv bv X xs (upd done 9) (W.alloc (.cells #[.int .i64 bv] 3)) (putV V 9 (.slice (some ⟨W.heap.size, 0, none⟩) 1 1)) := by
  obtain ⟨vo, vm, Lo, Mo, a, b, t, x, e1, e2, c, d⟩ := h.ex
  refine ⟨vo, vm, Lo, Mo, ?_, ?_, t.alloc _, x.alloc _, e1, e2, fun e => ?_, fun _ => ?_⟩
  · rw [updd_other done (by decide), putV_other V _ (by decide)]; exact a
  · rw [updd_other done (by decide), putV_other V _ (by decide)]; exact b
  · rw [updd_other done (by decide)] at e
    rw [putV_other V _ (by decide)]
    exact (c e).alloc _
  · rw [putV_same]
    exact ⟨_, rfl, Blk.new W [.int .i64 bv] _, (t.new (Nat.le_refl _)).1, (t.new (Nat.le_refl _)).2⟩
theorem AppS.app5 (h : AppS n2 wo q lo own met L MM iv bv X xs done W V) (d4 : done 4 = true) (d5 : done 5 = false) (hl : L.length ≤ 1000) :
    ∃ b v' w', V 4 = .slice (some ⟨b, 0, none⟩) 1 1 ∧ (∀ ty, (Builtin.append_ #[25, 25] ty #[own, .slice (some ⟨b, 0, none⟩) 1 1]).run Try.prog W = .ok v' w') ∧ AppS n2 wo q lo own met L MM iv bv X xs (upd done 5) w' (putV V 5 v') := by
  obtain ⟨vo, vm, Lo, Mo, a, b, t, x, e1, e2, c, d⟩ := h.ex
  obtain ⟨rfl, rfl⟩ := a.1 d5
  obtain ⟨b4, k1, k2, k3, k4⟩ := c d4
  obtain ⟨v', w', r1, r2, r3, r4⟩ := t.app k2 hl
  refine ⟨b4, v', w', k1, r1, v', vm, Lo ++ [iv], Mo, ⟨fun e => ?_, fun _ => ?_⟩, ?_, r2, (r4 _ _ _ x e1).1, (r4 _ _ _ x e1).2, e2, fun _ => ?_, fun e => ?_⟩
  · rw [updd_same] at e; cases e
  · rw [putV_same]; exact ⟨rfl, rfl⟩
  · rw [updd_other done (by decide), putV_other V _ (by decide)]; exact b
  · rw [putV_other V _ (by decide)]
    exact ⟨b4, k1, (r4 _ _ _ k2 k3).1, (r4 _ _ _ k2 k3).2, k4⟩
  · rw [updd_other done (by decide)] at e
    rw [putV_other V _ (by decide)]
    obtain ⟨b9, j1, j2, j3, j4⟩ := d e
    exact ⟨b9, j1, (r4 _ _ _ j2 j3).1, (r4 _ _ _ j2 j3).2, j4⟩
theorem AppS.app10 (h : AppS n2 wo q lo own met L MM iv bv X xs done W V) (d9 : done 9 = true) (d10 : done 10 = false) (hl : MM.length ≤ 1000) :
    ∃ b v' w', V 9 = .slice (some ⟨b, 0, none⟩) 1 1 ∧ (∀ ty, (Builtin.append_ #[25, 25] ty #[met, .slice (some ⟨b, 0, none⟩) 1 1]).run Try.prog W = .ok v' w') ∧ AppS n2 wo q lo own met L MM iv bv X xs (upd done 10) w' (putV V 10 v') := by
  obtain ⟨vo, vm, Lo, Mo, a, b, t, x, e1, e2, c, d⟩ := h.ex
  obtain ⟨rfl, rfl⟩ := b.1 d10
  obtain ⟨b9, k1, k2, k3, k4⟩ := d d9
  obtain ⟨v', w', r1, r2, r3, r4⟩ := t.app_m k2 hl
  refine ⟨b9, v', w', k1, r1, vo, v', Lo, Mo ++ [bv], ?_, ⟨fun e => ?_, fun _ => ?_⟩, r2, (r4 _ _ _ x e2).1, e1, (r4 _ _ _ x e2).2, fun e => ?_, fun _ => ?_⟩
  · rw [updd_other done (by decide), putV_other V _ (by decide)]; exact a
  · rw [updd_same] at e; cases e
  · rw [putV_same]; exact ⟨rfl, rfl⟩
  · rw [updd_other done (by decide)] at e
    rw [putV_other V _ (by decide)]
    obtain ⟨b4, j1, j2, j3, j4⟩ := c e
    exact ⟨b4, j1, (r4 _ _ _ j2 j4).1, j3, (r4 _ _ _ j2 j4).2⟩
  · rw [putV_other V _ (by decide)]
    exact ⟨b9, k1, (r4 _ _ _ k2 k4).1, k3, (r4 _ _ _ k2 k4).2⟩
theorem AppS.x (h : AppS n2 wo q lo own met L MM iv bv X xs done W V) : Blk W X xs 97 := by
  obtain ⟨vo, vm, Lo, Mo, a, b, t, x, e1, e2, c, d⟩ := h.ex
  exact x
theorem AppS.ends (h : AppS n2 wo q lo own met L MM iv bv X xs done W V) (d5 : done 5 = true) (d10 : done 10 = true) : Trio n2 wo q lo (V 5) (V 10) (L ++ [iv]) (MM ++ [bv]) W := by
  obtain ⟨vo, vm, Lo, Mo, a, b, t, x, e1, e2, c, d⟩ := h.ex
  obtain ⟨rfl, rfl⟩ := a.2 d5
  obtain ⟨rfl, rfl⟩ := b.2 d10
  exact t
/-- what the loads and moves make -/
def AppV (own met : Value) (iv bv : Int) (X : Nat) : Nat → Value → Prop
  | 0, v => v = .pointer (some ⟨X, 1, none⟩)
  | 1, v => v = .int .i64 bv
  | 2, v => v = own
  | 3, v => v = .int .i64 iv
  | 6, v => v = met
  | 7, v => v = .pointer (some ⟨X, 1, none⟩)
  | 8, v => v = .int .i64 bv
  | _, _ => True
theorem appV_upd {P : Nat → Value → Prop} {done : Nat → Bool} {V : Nat → Value} {i : Nat} {v : Value} (h : ∀ k, done k = true → P k (V k)) (hv : P i v) : ∀ k, upd done i k = true → P k (putV V i v k) := fun k hk => by
  by_cases e : k = i
  · subst e; rw [putV_same]; exact hv
  · rw [putV_other V v e]; exact h k (by rw [updd_other done e] at hk; exact hk)
end
end Go.Proofs.Ytifcmbeejichdaa
/- Plain facts for the law TideShifted: sands whose table is lifted and whose wind is let down by as much; a row of pairs changed in its place; sands that Made makes are right; the law's own first, last and line. -/
namespace Go.Proofs.Ytifcmbeejichdaa
section
open Go.RowKit

/-- a point of the line, lifted -/
def lift (d : Int) (x : Int × Int) : Int × Int := (x.1, x.2 + d)
theorem onL_lift (d m : Int) (a b : Int × Int) (h : a.1 < b.1) : onL (lift d a) (lift d b) m = onL a b m + d := by
  unfold onL lift
  dsimp only
  rw [show (a.2 + d) * (b.1 - a.1) + (b.2 + d - (a.2 + d)) * (m - a.1) = a.2 * (b.1 - a.1) + (b.2 - a.2) * (m - a.1) + d * (b.1 - a.1) by
    rw [Int.add_mul, show b.2 + d - (a.2 + d) = b.2 - a.2 by omega]; omega]
  rw [Int.add_mul_ediv_right _ _ (by omega)]
theorem hgtFrom_lift (d m : Int) : ∀ (r : List (Int × Int)) (a : Int × Int), (∀ i (h : i + 1 < (a :: r).length), (a :: r)[i].1 < (a :: r)[i + 1].1) → hgtFrom (lift d a) (r.map (lift d)) m = hgtFrom a r m + d
  | [], a, _ => rfl
  | b :: r, a, h => by
    have h0 := h 0 (by simp)
    have hr := hgtFrom_lift d m r b (fun i hi => h (i + 1) (by simp only [List.length_cons] at hi ⊢; omega))
    have h0' : a.1 < b.1 := h0
    show (if m ≤ b.1 then onL (lift d a) (lift d b) m else hgtFrom (lift d b) (r.map (lift d)) m) = (if m ≤ b.1 then onL a b m else hgtFrom b r m) + d
    split
    · exact onL_lift d m a b h0'
    · exact hr
theorem hgt_lift (d m : Int) (l : List (Int × Int)) (h : ∀ i (h : i + 1 < l.length), l[i].1 < l[i + 1].1) (hl : 1 ≤ l.length) : hgt (l.map (lift d)) m = hgt l m + d := by
  match l, h, hl with
  | a :: r, h, _ => exact hgtFrom_lift d m r a h

theorem fixG_eq {s t : Sd} (h : ∀ g, lowered s g = lowered t g) : ∀ n g, fixG s n g = fixG t n g
  | 0, g => rfl
  | n + 1, g => by unfold fixG; rw [h g, fixG_eq h n]
theorem gts_eq {s t : Sd} (h1 : s.floors = t.floors) (h2 : s.sills = t.sills) : gts s = gts t := by
  obtain ⟨l, lo, hi, f, x⟩ := s
  obtain ⟨l', lo', hi', f', x'⟩ := t
  dsimp only at h1 h2
  subst h1 h2
  unfold gts
  generalize (9000 : Nat) = n
  exact fixG_eq (s := ⟨l, lo, hi, f, x⟩) (t := ⟨l', lo', hi', f, x⟩) (fun g => rfl) n top

/-- the wind let down, and the table lifted, by as much -/
def shifted (d : Int) (s : Sd) : Sd := ⟨s.table.map (lift d), s.lo - d, s.hi - d, s.floors, s.sills⟩
section
variable {s : Sd} {d : Int}
theorem shifted_ok (h : Ok s) (d0 : 0 ≤ d) (hd : ∀ x ∈ s.table, x.2 + d ≤ 999) (hlo : -50 ≤ s.lo - d) : Ok (shifted d s) := by
  obtain ⟨⟨t1, t2, t3, t4⟩, f0, f1, sl, lo0, hi1, lohi, fl, hs, good, two⟩ := h
  have hlen : (shifted d s).table.length = s.table.length := List.length_map ..
  refine ⟨⟨fun x hx => ?_, fun i hi => ?_, by omega, by omega⟩, f0, f1, sl, hlo, ?_, ?_, fl, hs, good, two⟩
  · obtain ⟨y, hy, rfl⟩ := List.mem_map.1 hx
    have h1 := t1 y hy
    have h2 := hd y hy
    show 0 ≤ y.1 ∧ y.1 ≤ 1440 ∧ 0 ≤ y.2 + d ∧ y.2 + d ≤ 999
    omega
  · have := t2 i (by omega)
    simpa [shifted, lift] using this
  · show s.hi - d ≤ 50; omega
  · show s.lo - d ≤ s.hi - d; omega
theorem shifted_first : firstM (shifted d s).table = firstM s.table := by
  unfold firstM shifted
  dsimp only
  rw [List.getElem?_map]
  cases s.table[0]? <;> rfl
theorem shifted_last : lastM (shifted d s).table = lastM s.table := by
  unfold lastM shifted
  dsimp only
  rw [List.length_map, List.getElem?_map]
  cases s.table[s.table.length - 1]? <;> rfl
theorem shifted_inDay (m : Int) : inDay (shifted d s) m = inDay s m := by
  unfold inDay
  rw [shifted_first, shifted_last]
theorem shifted_hgt (h : Ok s) (m : Int) : hgt (shifted d s).table m = hgt s.table m + d := hgt_lift d m s.table h.table.2.1 (by have := h.table.2.2.1; omega)
theorem shifted_st (h : Ok s) (m : Int) (p : Nat) : st (shifted d s) m p = st s m p := by
  have e : gateOf (shifted d s) p = gateOf s p := by unfold gateOf; rw [gts_eq (s := shifted d s) (t := s) rfl rfl]
  unfold st
  rw [e, shifted_hgt h]
  have h1 : (shifted d s).lo = s.lo - d := rfl
  have h2 : (shifted d s).hi = s.hi - d := rfl
  rw [h1, h2, show hgt s.table m + d + (s.lo - d) = hgt s.table m + s.lo by omega, show hgt s.table m + d + (s.hi - d) = hgt s.table m + s.hi by omega]
theorem shifted_errAt (h : Ok s) (h' : Ok (shifted d s)) (m : Int) : errAt (shifted d s) m = errAt s m := by
  unfold errAt
  rw [chk_zero h, chk_zero h', shifted_inDay]
theorem shifted_errFor (h : Ok s) (h' : Ok (shifted d s)) (p : Int) : errFor (shifted d s) p = errFor s p := by
  unfold errFor
  rw [chk_zero h, chk_zero h']
  rfl
theorem shifted_allV (h : Ok s) (h' : Ok (shifted d s)) (m : Int) : allV (shifted d s) m = allV s m := by
  unfold allV
  rw [shifted_errAt h h']
  have : allS (shifted d s) m = allS s m := by
    unfold allS
    show (List.range s.floors.length).map _ = _
    exact List.map_congr_left (fun p _ => shifted_st h m p)
  rw [this]
theorem shifted_levelV (h : Ok s) (h' : Ok (shifted d s)) (m : Int) : levelV (shifted d s) m = levelV s m := by
  unfold levelV
  rw [shifted_errAt h h', shifted_hgt h]
  have h1 : (shifted d s).lo = s.lo - d := rfl
  have h2 : (shifted d s).hi = s.hi - d := rfl
  rw [h1, h2, show hgt s.table m + d + (s.lo - d) = hgt s.table m + s.lo by omega, show hgt s.table m + d + (s.hi - d) = hgt s.table m + s.hi by omega]
theorem shifted_drySpans (h : Ok s) (ps : List Int) : drySpans (shifted d s) ps = drySpans s ps := by
  have e : dryB (shifted d s) ps = dryB s ps := by
    funext m
    unfold dryB fitB
    simp only [shifted_st h]
  unfold drySpans dayN
  rw [e, shifted_first, shifted_last]
theorem shifted_turnV (h : Ok s) (h' : Ok (shifted d s)) (p m : Int) : turnV (shifted d s) p m = turnV s p m := by
  unfold turnV
  rw [shifted_errFor h h', shifted_inDay, shifted_drySpans h]
theorem shifted_errTurn (h : Ok s) (h' : Ok (shifted d s)) (p m : Int) : errTurn (shifted d s) p m = errTurn s p m := by
  unfold errTurn
  rw [shifted_errFor h h', shifted_inDay, shifted_drySpans h]
end
end

section
open Go.RowKit Go.Shelf

/-- the value of shifted sands -/
def shVal (d : Int) (s : Sd) (pT pF pS : Option Addr) (cT cF cS : Nat) : Value :=
  .agg #[.slice pT s.table.length cT, .int .i64 (s.lo - d), .int .i64 (s.hi - d), .slice pF s.floors.length cF, .slice pS s.sills.length cS]
section
variable {s : Sd} {d y : Int} {pT pF pS : Option Addr} {cT cF cS : Nat} {w : World}
theorem shVal_eq : sdVal (shifted d s) pT pF pS cT cF cS = shVal d s pT pF pS cT cF cS := by
  unfold sdVal shVal shifted
  dsimp only
  rw [List.length_map]
theorem errAt_in (ok : Ok s) (h : inDay s y = true) : errAt s y = 0 := by unfold errAt; rw [if_pos (chk_zero ok), h]; rfl
theorem levelV_in (ok : Ok s) (h : inDay s y = true) : levelV s y = (hgt s.table y + s.lo, hgt s.table y + s.hi) := by unfold levelV; rw [if_pos (errAt_in ok h)]
theorem sAll_c (ok : Ok s) (h : inDay s y = true) (hl : Lists w s pT pF pS cT cF cS) :
    Calls Try.prog 42 #[sdVal s pT pF pS cT cF cS, .int .i64 y] w fun e w' => ∃ p c, e = .returned (.tuple #[.slice p (allV s y).length c, .int .i64 0]) ∧ (allV s y).length ≤ c ∧ c ≤ maxLen ∧ Row w' p 1 (ints (allV s y)) ∧ Up w w' := by
  have := All_c s y w hl
  rw [errAt_in ok h] at this
  exact this
theorem shAll_c (ok : Ok s) (ok' : Ok (shifted d s)) (h : inDay s y = true) (hl : Lists w (shifted d s) pT pF pS cT cF cS) :
    Calls Try.prog 42 #[shVal d s pT pF pS cT cF cS, .int .i64 y] w fun e w' => ∃ p c, e = .returned (.tuple #[.slice p (allV s y).length c, .int .i64 0]) ∧ (allV s y).length ≤ c ∧ c ≤ maxLen ∧ Row w' p 1 (ints (allV s y)) ∧ Up w w' := by
  have := sAll_c ok' (by rw [shifted_inDay]; exact h) hl
  rw [shVal_eq, shifted_allV ok ok'] at this
  exact this
theorem sLevel_c (ok : Ok s) (h : inDay s y = true) (hl : Lists w s pT pF pS cT cF cS) :
    Calls Try.prog 26 #[sdVal s pT pF pS cT cF cS, .int .i64 y] w fun e w' => e = .returned (.tuple #[.agg #[.int .i64 (hgt s.table y + s.lo), .int .i64 (hgt s.table y + s.hi)], .int .i64 0]) ∧ Up w w' := by
  have := Level_c s y w hl
  rw [errAt_in ok h, levelV_in ok h] at this
  exact this
theorem shLevel_c (ok : Ok s) (ok' : Ok (shifted d s)) (h : inDay s y = true) (hl : Lists w (shifted d s) pT pF pS cT cF cS) :
    Calls Try.prog 26 #[shVal d s pT pF pS cT cF cS, .int .i64 y] w fun e w' => e = .returned (.tuple #[.agg #[.int .i64 (hgt s.table y + s.lo), .int .i64 (hgt s.table y + s.hi)], .int .i64 0]) ∧ Up w w' := by
  have := Level_c (shifted d s) y w hl
  rw [shVal_eq, shifted_errAt ok ok', errAt_in ok h, shifted_levelV ok ok', levelV_in ok h] at this
  exact this
theorem shTurn_c (ok : Ok s) (ok' : Ok (shifted d s)) (x : Int) (hl : Lists w (shifted d s) pT pF pS cT cF cS) :
    Calls Try.prog 63 #[shVal d s pT pF pS cT cF cS, .int .i64 x, .int .i64 y] w fun e w' => e = .returned (.tuple #[.int .i64 (turnV s x y), .int .i64 (errTurn s x y)]) ∧ Up w w' := by
  have := Turn_c (shifted d s) x y w hl
  rw [shVal_eq, shifted_turnV ok ok', shifted_errTurn ok ok'] at this
  exact this
theorem errTurn_or (ok : Ok s) (x : Int) (hx : 0 ≤ x ∧ x < s.floors.length) (h : inDay s y = true) : errTurn s x y = 0 ∨ errTurn s x y = 6 := by
  have h1 : errFor s x = 0 := by
    unfold errFor
    rw [if_pos (chk_zero ok)]
    have : isPl s x = true := inB_true.2 (by omega)
    rw [this]; rfl
  unfold errTurn
  rw [if_pos h1, if_pos h]
  split
  · exact Or.inl rfl
  · exact Or.inr rfl
end
end

section
open Go.RowKit Go.Shelf

theorem flat_set : ∀ (l : List (Int × Int)) (k : Nat) (v : Int) (h : k < l.length), (pairs l).flatten.set (k * 2 + 1) (.int .i64 v) = (pairs (l.set k (l[k].1, v))).flatten
  | a :: r, 0, v, _ => rfl
  | a :: r, k + 1, v, h => by
    have hk : k < r.length := by simpa using h
    have ih := flat_set r k v hk
    show (.int .i64 a.1 :: .int .i64 a.2 :: (pairs r).flatten).set ((k + 1) * 2 + 1) (.int .i64 v) = .int .i64 a.1 :: .int .i64 a.2 :: (pairs (r.set k (r[k].1, v))).flatten
    rw [show (k + 1) * 2 + 1 = k * 2 + 1 + 1 + 1 by omega, List.set_cons_succ, List.set_cons_succ, ih]

/-- the first k lifted -/
def partly (d : Int) (l : List (Int × Int)) (k : Nat) : List (Int × Int) := (l.take k).map (lift d) ++ l.drop k
theorem partly_zero (d : Int) (l : List (Int × Int)) : partly d l 0 = l := by simp [partly]
theorem partly_all (d : Int) (l : List (Int × Int)) : partly d l l.length = l.map (lift d) := by simp [partly]
theorem partly_len (d : Int) (l : List (Int × Int)) (k : Nat) : (partly d l k).length = l.length := by
  unfold partly
  rw [List.length_append, List.length_map, List.length_take, List.length_drop]
  omega
theorem partly_at (d : Int) (l : List (Int × Int)) (k : Nat) (h : k < l.length) : (partly d l k)[k]'(by rw [partly_len]; exact h) = l[k] := by
  unfold partly
  rw [List.getElem_append_right (by rw [List.length_map, List.length_take]; omega)]
  simp only [List.length_map, List.length_take, List.getElem_drop]
  congr 1
  omega
theorem partly_step (d : Int) (l : List (Int × Int)) (k : Nat) (h : k < l.length) : (partly d l k).set k (l[k].1, l[k].2 + d) = partly d l (k + 1) := by
  unfold partly
  have e : ((l.take k).map (lift d)).length = k := by rw [List.length_map, List.length_take]; omega
  rw [List.set_append_right _ _ (by omega), e, Nat.sub_self, List.drop_eq_getElem_cons h, List.set_cons_zero]
  rw [List.take_succ_eq_append_getElem h, List.map_append, List.append_assoc]
  rfl

/-- a block of pairs: what its first cells are -/
def PairBlk (w : World) (g : Nat) (l : List (Int × Int)) : Prop := ∃ cur : List Value, Blk w g cur 103 ∧ cur.take (l.length * 2) = (pairs l).flatten
section
variable {w : World} {g n₀ k c : Nat} {l : List (Int × Int)} {d : Int} {p : Option Addr}
theorem PairBlk.cells (h : PairBlk w g l) (hk : k < l.length) : w.cell? ⟨g, k * 2, none⟩ = some (.int .i64 l[k].1) ∧ w.cell? ⟨g, k * 2 + 1, none⟩ = some (.int .i64 l[k].2) := by
  obtain ⟨cur, hb, ht⟩ := h
  have hx : (pairs l)[k]? = some [.int .i64 l[k].1, .int .i64 l[k].2] := by simp [pairs, hk]
  have c0 := flat_at 2 (pairs l) (flatOk_pairs l) k _ hx 0 (.int .i64 l[k].1) rfl
  have c1 := flat_at 2 (pairs l) (flatOk_pairs l) k _ hx 1 (.int .i64 l[k].2) rfl
  rw [← ht, List.getElem?_take_of_lt (by omega)] at c0 c1
  rw [hb.cell, hb.cell]
  exact ⟨c0, c1⟩
theorem PairBlk.free (h : PairBlk w g l) (i : Nat) : w.frozen? ⟨g, i, none⟩ = false := by
  obtain ⟨cur, hb, -⟩ := h
  exact hb.free i
theorem PairBlk.lt (h : PairBlk w g l) : g < w.heap.size := by
  obtain ⟨cur, hb, -⟩ := h
  exact hb.lt
theorem PairBlk.row (h : PairBlk w g l) : Row w (some ⟨g, 0, none⟩) 2 (pairs l) := by
  intro i row hi
  have hl : i < l.length := by have := (List.getElem?_eq_some_iff.1 hi).1; simpa [pairs] using this
  obtain ⟨cur, hb, ht⟩ := h
  refine ⟨g, 0, rfl, fun j x hj => ?_⟩
  have hr := flat_at 2 (pairs l) (flatOk_pairs l) i row hi j x hj
  have hj2 : j < 2 := by
    have h1 : row.length = 2 := by simp only [pairs, List.getElem?_map, Option.map_eq_some_iff] at hi; obtain ⟨y, -, rfl⟩ := hi; rfl
    have := (List.getElem?_eq_some_iff.1 hj).1
    omega
  rw [← ht, List.getElem?_take_of_lt (by omega)] at hr
  rw [hb.cell, Nat.zero_add]
  exact hr
theorem PairBlk.lift (h : PairBlk w g (partly d l k)) (hk : k < l.length) : PairBlk (w.setCell ⟨g, k * 2 + 1, none⟩ (.int .i64 (l[k].2 + d))) g (partly d l (k + 1)) := by
  obtain ⟨cur, hb, ht⟩ := h
  refine ⟨_, hb.set _ _, ?_⟩
  have hm : k < (partly d l k).length := by rw [partly_len]; exact hk
  rw [partly_len] at ht ⊢
  have hs := flat_set (partly d l k) k (l[k].2 + d) hm
  rw [partly_at d l k hk, partly_step d l k hk] at hs
  rw [← hs, ← ht, List.take_set]
theorem PairBlk.of (h : w.ownsRow n₀ 103 2 (.slice p l.length c) l.length (pairs l).flatten) (hl : 0 < l.length) : ∃ g, p = some ⟨g, 0, none⟩ ∧ n₀ ≤ g ∧ PairBlk w g l := by
  rcases h.2 with ⟨-, h0⟩ | ⟨g, cap, cur, h1, h2, h3, h4, h5, h6, h7⟩
  · omega
  · injection h1 with e1 e2 e3
    exact ⟨g, e1, h2, cur.toList, h3, h7⟩
/-- rows of another type lie elsewhere -/
theorem PairBlk.ne {E : TypeId} {m n : Nat} {q : Option Addr} {xs : List Value} (h : PairBlk w g l) (h' : w.ownsRow n₀ E m (.slice q n c) n xs) (hE : E ≠ 103) : ∀ b off, q = some ⟨b, off, none⟩ → b ≠ g := by
  intro b off e hb
  obtain ⟨cur, hc, -⟩ := h
  rcases h'.2 with ⟨h1, -⟩ | ⟨g', cap, cur', h1, h2, h3, h4⟩
  · injection h1 with e1 e2 e3
    rw [e1] at e; cases e
  · injection h1 with e1 e2 e3
    rw [e1] at e
    simp only [Option.some.injEq, Addr.mk.injEq] at e
    have hg : g' = g := by omega
    rw [hg] at h3
    have h5 := h3.symm.trans hc
    simp only [Option.some.injEq, Obj.cells.injEq] at h5
    exact hE h5.2.1
end
end

section
open Go.RowKit

theorem IsMade.ok {places sills : Nat} {s : Sd} (h : IsMade places sills s) (hp : places ≤ 8) (hs : sills ≤ 16) : Ok s := by
  obtain ⟨⟨a, ta, tb, tc, td⟩, t2, t4, lo, hi, f1, fn, fl, sn, sl⟩ := h
  refine ⟨⟨fun x hx => ?_, tb, t2, by omega⟩, f1, by omega, by omega, by omega, by omega, by omega, fun x hx => ?_, fun x hx => ?_, fun x hx => ?_, fun x hx => ?_⟩
  · have := ta x hx; omega
  · have := fl x hx; omega
  · have := (sl x hx).2.2.2; omega
  · obtain ⟨h1, h2, -, -⟩ := sl x hx; omega
  · exact (sl x hx).2.2.1
theorem IsMade.shift {places sills : Nat} {s : Sd} {d : Int} (h : IsMade places sills s) (hp : places ≤ 8) (hs : sills ≤ 16) (d0 : 0 ≤ d) (d1 : d ≤ 40) : Ok (shifted d s) := by
  refine shifted_ok (h.ok hp hs) d0 (fun x hx => ?_) (by have := h.lo; omega)
  obtain ⟨a, ta, -⟩ := h.table
  have := ta x hx; omega
end

section
open Go.RowKit Go.Shelf

section
variable {pT pF pS : Option Addr} {cT cF cS : Nat}
set_option maxRecDepth 100000 in
theorem firstL_c (s : Sd) (w : World) (hl : Lists w s pT pF pS cT cF cS) (h2 : 2 ≤ s.table.length) : Calls Try.prog 55 #[sdVal s pT pF pS cT cF cS] w fun e w' => e = .returned (.int .i64 (firstM s.table)) ∧ Up w w' := by
  obtain ⟨b, off, rfl, c0, -⟩ := hl.rt.pair 0 (by omega)
  have hb2 := cell_lt c0
  simp only [Nat.zero_mul, Nat.add_zero] at c0
  have E := Lib.hid (show firstM s.table = (s.table[0]'(by omega)).1 by simp [firstM, List.getElem?_eq_getElem (show 0 < s.table.length by omega)])
  have k : (0 : Int) < s.table.length := by omega
  clear hl
  unfold sdVal
  go_enter Try.func55, Try.ntmps55
  go_wp2
  go_ret
  exact ⟨ret_int E.out.symm, by (repeat (first | exact Below.refl _ _ | (with_reducible refine Below.drewN' ?_ _) | (with_reducible refine Below.drew ?_) | (with_reducible refine Below.setCell ?_ (by first | exact Nat.le_refl _ | omega | (with_reducible (repeat (first | refine sz_alloc ?_ | refine sz_setCell ?_ | refine sz_drew ?_ | refine sz_drewN ?_)); first | exact Nat.le_refl _ | omega) | (simp only [World.size_alloc, World.size_setCell, World.size_drew, size_drewN']; omega)) _) | (with_reducible refine Below.alloc ?_ (by first | exact Nat.le_refl _ | omega | (with_reducible (repeat (first | refine sz_alloc ?_ | refine sz_setCell ?_ | refine sz_drew ?_ | refine sz_drewN ?_)); first | exact Nat.le_refl _ | omega) | (simp only [World.size_alloc, World.size_setCell, World.size_drew, size_drewN']; omega)) _) | assumption))⟩

set_option maxRecDepth 100000 in
theorem lastL_c (s : Sd) (w : World) (hl : Lists w s pT pF pS cT cF cS) (h2 : 2 ≤ s.table.length) (h12 : s.table.length ≤ 12) : Calls Try.prog 56 #[sdVal s pT pF pS cT cF cS] w fun e w' => e = .returned (.int .i64 (lastM s.table)) ∧ Up w w' := by
  obtain ⟨b, off, rfl, c0, -⟩ := hl.rt.pair (s.table.length - 1) (by omega)
  have hb2 := cell_lt c0
  have E := Lib.hid (show lastM s.table = (s.table[s.table.length - 1]'(by omega)).1 by simp [lastM, List.getElem?_eq_getElem (show s.table.length - 1 < s.table.length by omega)])
  have k : (0 : Int) < s.table.length := by omega
  have k1 : ((s.table.length : Int) - 1) < s.table.length := by omega
  have k2 : (0 : Int) ≤ ((s.table.length : Int) - 1) := by omega
  have k3 : ((s.table.length : Int) - 1).toNat = s.table.length - 1 := by omega
  have s1 : IntKind.i64.wrap ((s.table.length : Int) - 1) = (s.table.length : Int) - 1 := IntWalk.i64_in _ (by omega)
  clear hl
  unfold sdVal
  go_enter Try.func56, Try.ntmps56
  go_wp2
  go_ret
  exact ⟨ret_int E.out.symm, by (repeat (first | exact Below.refl _ _ | (with_reducible refine Below.drewN' ?_ _) | (with_reducible refine Below.drew ?_) | (with_reducible refine Below.setCell ?_ (by first | exact Nat.le_refl _ | omega | (with_reducible (repeat (first | refine sz_alloc ?_ | refine sz_setCell ?_ | refine sz_drew ?_ | refine sz_drewN ?_)); first | exact Nat.le_refl _ | omega) | (simp only [World.size_alloc, World.size_setCell, World.size_drew, size_drewN']; omega)) _) | (with_reducible refine Below.alloc ?_ (by first | exact Nat.le_refl _ | omega | (with_reducible (repeat (first | refine sz_alloc ?_ | refine sz_setCell ?_ | refine sz_drew ?_ | refine sz_drewN ?_)); first | exact Nat.le_refl _ | omega) | (simp only [World.size_alloc, World.size_setCell, World.size_drew, size_drewN']; omega)) _) | assumption))⟩

/-- how the law rounds down -/
theorem round_down (a b : Int × Int) (m : Int) (h : a.1 < b.1) : (a.2 * (b.1 - a.1) + (b.2 - a.2) * (m - a.1) + 1000 * (b.1 - a.1)) / (b.1 - a.1) - 1000 = onL a b m := by
  unfold onL
  rw [Int.add_mul_ediv_right _ _ (by omega)]
  omega

set_option maxRecDepth 100000 in
set_option maxHeartbeats 1000000 in
theorem line_c (s : Sd) (m : Int) (w : World) (hl : Lists w s pT pF pS cT cF cS) (ok : okTable s.table) (hd : inDay s m = true) : Calls Try.prog 62 #[sdVal s pT pF pS cT cF cS, .int .i64 m] w fun e w' => e = .returned (.int .i64 (hgt s.table m)) ∧ Up w w' := by
  have HOK := Lib.hid ok
  obtain ⟨okx, oki, hl2, hl12⟩ := ok
  obtain ⟨d1, d2⟩ := inB_true.1 (show inB m (firstM s.table) (lastM s.table) = true from hd)
  have e1 : firstM s.table = (s.table[0]'(by omega)).1 := by simp [firstM, List.getElem?_eq_getElem (show 0 < s.table.length by omega)]
  have e2 : lastM s.table = (s.table[s.table.length - 1]'(by omega)).1 := by simp [lastM, List.getElem?_eq_getElem (show s.table.length - 1 < s.table.length by omega)]
  rw [e1] at d1
  rw [e2] at d2
  have hr := hl.rt
  have hc := hl.ct
  clear hl e1 e2 hd
  obtain ⟨l, lo, hi, fl, sl⟩ := s
  dsimp only at *
  have hl2' : 2 ≤ l.length := hl2
  have hl12' : l.length ≤ 12 := hl12
  obtain ⟨b, off, rfl, hc0, -⟩ := hr.pair 0 (by omega)
  have hbl := cell_lt hc0
  have kl : (0 : Int) < l.length := by omega
  clear hc0
  unfold sdVal
  go_enter Try.func62, Try.ntmps62
  go_wp2
  go_loopw [12] (fun i wr => ∃ k : Nat, k ≤ l.length ∧ i = .int .i64 k ∧ Up w wr ∧ Blk wr w.heap.size [.slice (some ⟨b, off, none⟩) l.length cT, .int .i64 lo, .int .i64 hi, .slice pF fl.length cF, .slice pS sl.length cS] 28 ∧ ∀ j (hj : j < l.length), j < k → l[j].1 < m) (fun i _ => l.length - (intOf i).toNat)
  case atStart => exact ⟨0, by omega, rfl, by (repeat (first | exact Below.refl _ _ | (with_reducible refine Below.drewN' ?_ _) | (with_reducible refine Below.drew ?_) | (with_reducible refine Below.setCell ?_ (by first | exact Nat.le_refl _ | omega | (with_reducible (repeat (first | refine sz_alloc ?_ | refine sz_setCell ?_ | refine sz_drew ?_ | refine sz_drewN ?_)); first | exact Nat.le_refl _ | omega) | (simp only [World.size_alloc, World.size_setCell, World.size_drew, size_drewN']; omega)) _) | (with_reducible refine Below.alloc ?_ (by first | exact Nat.le_refl _ | omega | (with_reducible (repeat (first | refine sz_alloc ?_ | refine sz_setCell ?_ | refine sz_drew ?_ | refine sz_drewN ?_)); first | exact Nat.le_refl _ | omega) | (simp only [World.size_alloc, World.size_setCell, World.size_drew, size_drewN']; omega)) _) | assumption)), Blk.new _ _ _, fun j _ h => by omega⟩
  case round =>
    obtain ⟨k, hk, rfl, hu, hB, hlow⟩ := hrel
    have HU := Lib.hid hu
    have HBk := Lib.hid hB
    have HLow := Lib.hid hlow
    have B0 := hB.cell 0
    have BL := hB.lt
    simp only [List.getElem?_cons_zero] at B0
    clear hu hB
    by_cases hlt : k < l.length
    · obtain ⟨b', off', e, hd0, hd1⟩ := hr.pair k hlt
      obtain ⟨rfl, rfl⟩ : b = b' ∧ off = off' := by simpa using e
      clear e
      have hd0' := HU.out.cellAt hd0
      have hd1' := HU.out.cellAt hd1
      have q1 : (k : Int) < l.length := by omega
      obtain ⟨x1, x2, x3, x4⟩ := okx l[k] (List.getElem_mem _)
      by_cases hm : l[k].1 = m
      · have HE : Hid (hgt l m = l[k].2) := Lib.hid (by rw [← hm]; exact hgt_knot HOK.out k hlt)
        go_wp2
        go_ret
        refine ⟨ret_int ?_, ?_⟩
        · rw [HE.out]
        · exact Up.trans HU.out (by (repeat (first | exact Below.refl _ _ | (with_reducible refine Below.drewN' ?_ _) | (with_reducible refine Below.drew ?_) | (with_reducible refine Below.setCell ?_ (by first | exact Nat.le_refl _ | omega | (with_reducible (repeat (first | refine sz_alloc ?_ | refine sz_setCell ?_ | refine sz_drew ?_ | refine sz_drewN ?_)); first | exact Nat.le_refl _ | omega) | (simp only [World.size_alloc, World.size_setCell, World.size_drew, size_drewN']; omega)) _) | (with_reducible refine Below.alloc ?_ (by first | exact Nat.le_refl _ | omega | (with_reducible (repeat (first | refine sz_alloc ?_ | refine sz_setCell ?_ | refine sz_drew ?_ | refine sz_drewN ?_)); first | exact Nat.le_refl _ | omega) | (simp only [World.size_alloc, World.size_setCell, World.size_drew, size_drewN']; omega)) _) | assumption)))
      · by_cases hg : m < l[k].1
        · have hk0 : 0 < k := by
            rcases Nat.eq_zero_or_pos k with h0 | h0
            · subst h0; omega
            · exact h0
          obtain ⟨i, rfl⟩ : ∃ i, k = i + 1 := ⟨k - 1, by omega⟩
          obtain ⟨b'', off'', e, ha0, ha1⟩ := hr.pair i (by omega)
          obtain ⟨rfl, rfl⟩ : b = b'' ∧ off = off'' := by simpa using e
          clear e
          have ha0' := HU.out.cellAt ha0
          have ha1' := HU.out.cellAt ha1
          obtain ⟨y1, y2, y3, y4⟩ := okx (l[i]'(by omega)) (List.getElem_mem _)
          have hlow' := hlow i (by omega) (by omega)
          have hlk := oki i hlt
          have HE : Hid (hgt l m = onL (l[i]'(by omega)) l[i + 1] m) := Lib.hid (hgt_seg l m i hlt (fun j hj _ h => hlow j hj (by omega)) (by omega))
          have k1 := mul_rng (l[i + 1].1 - (l[i]'(by omega)).1) (l[i]'(by omega)).2 1440 999 (by omega) (by omega) (by omega) (by omega) (by omega)
          have k2 := mul_rng (m - (l[i]'(by omega)).1) (l[i + 1].2 - (l[i]'(by omega)).2) 1440 999 (by omega) (by omega) (by omega) (by omega) (by omega)
          have k3 := onL_nonneg (l[i]'(by omega)).1 (l[i]'(by omega)).2 l[i + 1].1 l[i + 1].2 m hlk (by omega) (by omega) y3 x3
          have kr := round_down (l[i]'(by omega)) l[i + 1] m hlk
          generalize (l[i]'(by omega)).1 = m0 at *
          generalize (l[i]'(by omega)).2 = h0 at *
          generalize l[i + 1].1 = m1 at *
          generalize l[i + 1].2 = h1 at *
          obtain ⟨k4, k5⟩ := k1
          obtain ⟨k6, k7⟩ := k2
          have k8 : 0 ≤ (h0 * (m1 - m0) + (h1 - h0) * (m - m0) + 1000 * (m1 - m0)) / (m1 - m0) := Int.ediv_nonneg (by omega) (by omega)
          have k9 : (h0 * (m1 - m0) + (h1 - h0) * (m - m0) + 1000 * (m1 - m0)) / (m1 - m0) ≤ 9223372036854775807 := by
            have := Int.ediv_le_self (m1 - m0) (show 0 ≤ h0 * (m1 - m0) + (h1 - h0) * (m - m0) + 1000 * (m1 - m0) by omega)
            omega
          have s1 : IntKind.i64.wrap (((i + 1 : Nat) : Int) - 1) = (i : Int) := by rw [show ((i + 1 : Nat) : Int) - 1 = (i : Int) by omega]; exact IntWalk.i64_in _ (by omega)
          have q2 : (i : Int) < l.length := by omega
          have KR := Lib.hid (kr.trans HE.out.symm)
          have hbr := cell_lt ha0'
          clear hd0 hd1 ha0 ha1 hlow kr HE okx oki d1 d2
          go_wp2
          go_ret
          exact ⟨ret_int KR.out, Up.trans HU.out (by (repeat (first | exact Below.refl _ _ | (with_reducible refine Below.drewN' ?_ _) | (with_reducible refine Below.drew ?_) | (with_reducible refine Below.setCell ?_ (by first | exact Nat.le_refl _ | omega | (with_reducible (repeat (first | refine sz_alloc ?_ | refine sz_setCell ?_ | refine sz_drew ?_ | refine sz_drewN ?_)); first | exact Nat.le_refl _ | omega) | (simp only [World.size_alloc, World.size_setCell, World.size_drew, size_drewN']; omega)) _) | (with_reducible refine Below.alloc ?_ (by first | exact Nat.le_refl _ | omega | (with_reducible (repeat (first | refine sz_alloc ?_ | refine sz_setCell ?_ | refine sz_drew ?_ | refine sz_drewN ?_)); first | exact Nat.le_refl _ | omega) | (simp only [World.size_alloc, World.size_setCell, World.size_drew, size_drewN']; omega)) _) | assumption)))⟩
        · go_wp2
          go_roundw
          case rel =>
            refine ⟨k + 1, by omega, by go_num, Up.trans HU.out (by (repeat (first | exact Below.refl _ _ | (with_reducible refine Below.drewN' ?_ _) | (with_reducible refine Below.drew ?_) | (with_reducible refine Below.setCell ?_ (by first | exact Nat.le_refl _ | omega | (with_reducible (repeat (first | refine sz_alloc ?_ | refine sz_setCell ?_ | refine sz_drew ?_ | refine sz_drewN ?_)); first | exact Nat.le_refl _ | omega) | (simp only [World.size_alloc, World.size_setCell, World.size_drew, size_drewN']; omega)) _) | (with_reducible refine Below.alloc ?_ (by first | exact Nat.le_refl _ | omega | (with_reducible (repeat (first | refine sz_alloc ?_ | refine sz_setCell ?_ | refine sz_drew ?_ | refine sz_drewN ?_)); first | exact Nat.le_refl _ | omega) | (simp only [World.size_alloc, World.size_setCell, World.size_drew, size_drewN']; omega)) _) | assumption))), HBk.out.alloc _, fun j hj h => ?_⟩
            rcases Nat.lt_or_ge j k with h1 | h1
            · exact HLow.out j hj h1
            · obtain rfl : j = k := by omega
              omega
          case measure => simp [intOf]; omega
    · exfalso
      have := hlow (l.length - 1) (by omega) (by omega)
      omega
end
end
end Go.Proofs.Ytifcmbeejichdaa
/- The law's own gates: what the call returns. -/
namespace Go.Proofs.Ytifcmbeejichdaa
open Go.RowKit Go.Shelf

theorem rowInt {w : World} {b off : Nat} {l : List Int} (h : Row w (some ⟨b, off, none⟩) 1 (ints l)) {i : Nat} (hi : i < l.length) : w.cell? ⟨b, off + i, none⟩ = some (.int .i64 l[i]) := by
  obtain ⟨b', off', e, hc⟩ := h.int i hi
  simp only [Option.some.injEq, Addr.mk.injEq, and_true] at e
  obtain ⟨rfl, rfl⟩ := e
  exact hc
theorem gcell {w : World} {g : Nat} {l : List Int} {T : TypeId} (h : Blk w g (gcells l) T) {i : Nat} (hi : i < l.length) : w.cell? ⟨g, i, none⟩ = some (.int .i64 (l[i]?.getD 0)) := by
  rw [h.cell i, gcells, List.getElem?_map, List.getElem?_eq_getElem hi]
  rfl
theorem gset {w : World} {g : Nat} {l : List Int} {T : TypeId} (h : Blk w g (gcells l) T) (i : Nat) (v : Int) : Blk (w.setCell ⟨g, i, none⟩ (.int .i64 v)) g (gcells (l.set i v)) T := by
  have := h.set i (.int .i64 v)
  unfold gcells at this ⊢
  rw [List.map_set]
  exact this

section
variable {pT pF pS : Option Addr} {cT cF cS : Nat}
set_option maxRecDepth 100000 in
set_option maxHeartbeats 3000000 in
theorem gates_c (s : Sd) (w : World) (ok : Ok s) (hl : Lists w s pT pF pS cT cF cS) :
    Calls Try.prog 52 #[sdVal s pT pF pS cT cF cS] w fun e w' => ∃ g, e = .returned (.slice (some ⟨g, 0, none⟩) s.floors.length s.floors.length) ∧ Blk w' g (gcells (lvls s 62)) 3 ∧ w.heap.size ≤ g ∧ Up w w' := by
  have f0 := ok.fl0
  have f8 := ok.fl1
  have s16 := ok.sl
  obtain ⟨gF, oF, rfl, -⟩ := hl.rf.int 0 (by omega)
  have HL := Lib.hid hl
  have OK := Lib.hid ok
  clear hl
  obtain ⟨i0, hi, hz0, hz1, hz2⟩ := info_parts info3
  have hmk : ∀ u : World, (Instr.makeSlice 25 (.int .i64 (s.floors.length : Int)) (.int .i64 (s.floors.length : Int))).run Try.prog u =
      .ok (.slice (some ⟨u.heap.size, 0, none⟩) s.floors.length s.floors.length) (u.alloc (.cells (madeCells #[.int .i64 0] s.floors.length) 3)) := fun u => by
    have h := run_make (P := Try.prog) u 25 3 i0 (.int .i64 0) Try.underlying25 hi hz0 .i64 .i64 (s.floors.length : Int) (s.floors.length : Int) (by omega) (Int.le_refl _) (by rw [hz2]; omega) (by omega)
    rw [Int.toNat_natCast] at h
    simpa [hz1, Value.cells] using h
  have HMK := Lib.hid hmk
  clear hi hz0 hz1 hz2
  unfold sdVal
  go_enter Try.func52, Try.ntmps52
  go_wp2_with fail
  clear hmk
  have HB1 : Hid (Blk ((w.alloc (.cells #[.slice pT s.table.length cT, .int .i64 s.lo, .int .i64 s.hi, .slice (some ⟨gF, oF, none⟩) s.floors.length cF, .slice pS s.sills.length cS] 28)).alloc (.cells (madeCells #[Value.int IntKind.i64 0] s.floors.length) 3)) w.heap.size (sdCells s pT (some ⟨gF, oF, none⟩) pS cT cF cS) 28) := Lib.hid ((Blk.new w (sdCells s pT (some ⟨gF, oF, none⟩) pS cT cF cS) 28).alloc _)
  have HG : Hid (Blk ((w.alloc (.cells #[.slice pT s.table.length cT, .int .i64 s.lo, .int .i64 s.hi, .slice (some ⟨gF, oF, none⟩) s.floors.length cF, .slice pS s.sills.length cS] 28)).alloc (.cells (madeCells #[Value.int IntKind.i64 0] s.floors.length) 3)) (w.heap.size + 1) (gcells (fillTo s.floors.length (fun _ => 1000000) 0)) 3) := Lib.hid (by
    have e : (madeCells #[Value.int IntKind.i64 0] s.floors.length) = (gcells (fillTo s.floors.length (fun _ => 1000000) 0)).toArray := by
      apply Array.toList_inj.1
      rw [toList_madeCells_one]
      simp [gcells, fillTo]
    rw [e]
    exact Blk.new' _ _ _ (by simp))
  have HU : Hid (Up w ((w.alloc (.cells #[.slice pT s.table.length cT, .int .i64 s.lo, .int .i64 s.hi, .slice (some ⟨gF, oF, none⟩) s.floors.length cF, .slice pS s.sills.length cS] 28)).alloc (.cells (madeCells #[Value.int IntKind.i64 0] s.floors.length) 3))) := Lib.hid (by (repeat (first | exact Below.refl _ _ | (with_reducible refine Below.drewN' ?_ _) | (with_reducible refine Below.drew ?_) | (with_reducible refine Below.setCell ?_ (by first | exact Nat.le_refl _ | omega | (with_reducible (repeat (first | refine sz_alloc ?_ | refine sz_setCell ?_ | refine sz_drew ?_ | refine sz_drewN ?_)); first | exact Nat.le_refl _ | omega) | (simp only [World.size_alloc, World.size_setCell, World.size_drew, size_drewN']; omega)) _) | (with_reducible refine Below.alloc ?_ (by first | exact Nat.le_refl _ | omega | (with_reducible (repeat (first | refine sz_alloc ?_ | refine sz_setCell ?_ | refine sz_drew ?_ | refine sz_drewN ?_)); first | exact Nat.le_refl _ | omega) | (simp only [World.size_alloc, World.size_setCell, World.size_drew, size_drewN']; omega)) _) | assumption)))
  generalize ((w.alloc (.cells #[.slice pT s.table.length cT, .int .i64 s.lo, .int .i64 s.hi, .slice (some ⟨gF, oF, none⟩) s.floors.length cF, .slice pS s.sills.length cS] 28)).alloc (.cells (madeCells #[Value.int IntKind.i64 0] s.floors.length) 3)) = w1 at *
  have hw1 := HG.out.lt
  have NF : Hid (∀ wr : World, Far (w.heap.size + 1) w1.heap.size w1 wr → Up w wr) := Lib.hid (fun wr h => Below.trans HU.out (h.below (by omega) (by omega)))
  go_loopw [16] (fun i wr => ∃ j : Nat, i = .int .i64 j ∧ j ≤ s.floors.length ∧ Blk wr (w.heap.size + 1) (gcells (fillTo s.floors.length (fun _ => 1000000) j)) 3 ∧ Far (w.heap.size + 1) w1.heap.size w1 wr) (fun i _ => s.floors.length - (intOf i).toNat)
  case atStart => exact ⟨0, rfl, by omega, HG.out, Far.refl _ _ _⟩
  case round =>
    obtain ⟨j, rfl, hj, hb, hf⟩ := hrel
    have HBk := Lib.hid hb
    have HF := Lib.hid hf
    clear hf
    by_cases hlt : j < s.floors.length
    · have q1 : (j : Int) < s.floors.length := by omega
      have c0 := gcell hb (i := j) (by rw [fillTo_len hj]; exact hlt)
      have cf := hb.free j
      have cl := hb.lt
      clear hb
      go_wp2_with fail
      go_roundw
      case rel =>
        refine ⟨j + 1, by go_num, by omega, ?_, HF.out.setIn _ _⟩
        have := gset HBk.out j 1000000
        rw [fillTo_set (f := fun _ => 1000000) hlt] at this
        exact this
      case measure => simp [intOf]; omega
    · obtain rfl : j = s.floors.length := by omega
      have e0 : fillTo s.floors.length (fun _ => (1000000 : Int)) s.floors.length = lvls s 0 := by
        rw [fillTo_end]
        show (List.range s.floors.length).map (fun _ => (1000000 : Int)) = List.replicate s.floors.length 1000000
        exact List.ext_getElem (by simp) (fun i h1 h2 => by rw [List.getElem_map, List.getElem_replicate])
      rw [e0] at HBk
      clear hb e0 hlt hj
      go_wp2_with fail
      go_loopw [23] (fun i wr => ∃ k : Nat, i = .int .i64 k ∧ k ≤ 61 ∧ Blk wr (w.heap.size + 1) (gcells (lvls s k)) 3 ∧ Far (w.heap.size + 1) w1.heap.size w1 wr) (fun i _ => 62 - (intOf i).toNat)
      case atStart => exact ⟨0, rfl, by omega, HBk.out, HF.out⟩
      case round =>
        obtain ⟨k, rfl, hk, hb, hf⟩ := hrel
        clear HBk HF
        have HBk := Lib.hid hb
        have HF := Lib.hid hf
        have q1 : (k : Int) < 1000 := by omega
        obtain ⟨c0, c1, c2, c3, c4⟩ := five (hf.blk HB1.out HB1.out.lt (by omega))
        clear hb hf
        have HP : Hid (passes s k (s.floors.length - 0) (lvls s k) = lvls s (k + 1)) := Lib.hid rfl
        go_wp2_with fail
        go_loopw [29] (fun i wr => ∃ (j : Nat) (cur : List Int), i = .int .i64 j ∧ j ≤ s.floors.length ∧ cur.length = s.floors.length ∧ passes s k (s.floors.length - j) cur = lvls s (k + 1) ∧ Blk wr (w.heap.size + 1) (gcells cur) 3 ∧ Far (w.heap.size + 1) w1.heap.size w1 wr) (fun i _ => s.floors.length - (intOf i).toNat)
        case atStart => exact ⟨0, lvls s k, rfl, by omega, lvls_len OK.out k, HP.out, HBk.out, HF.out⟩
        case round =>
          obtain ⟨j, cur, rfl, hj, hcl, hps, hb, hf⟩ := hrel
          clear HBk HF HP c0 c1 c2 c3 c4
          have HBk := Lib.hid hb
          have HF := Lib.hid hf
          have HP := Lib.hid hps
          obtain ⟨c0, c1, c2, c3, c4⟩ := five (hf.blk HB1.out HB1.out.lt (by omega))
          clear hb hf hps
          by_cases hlt : j < s.floors.length
          · have q2 : (j : Int) < s.floors.length := by omega
            have HP2 : Hid (passes s k (s.floors.length - (j + 1)) (pass s k cur) = lvls s (k + 1)) := Lib.hid (by
              have h := HP.out
              rw [show s.floors.length - j = (s.floors.length - (j + 1)) + 1 by omega] at h
              exact h)
            go_wp2_with fail
            go_loopw [34] (fun i wr => ∃ (m : Nat) (cu : List Int), i = .int .i64 m ∧ m ≤ s.sills.length ∧ cu.length = s.floors.length ∧ (s.sills.drop m).foldl (rel2 s.floors k) cu = pass s k cur ∧ Blk wr (w.heap.size + 1) (gcells cu) 3 ∧ Far (w.heap.size + 1) w1.heap.size w1 wr) (fun i _ => s.sills.length - (intOf i).toNat)
            case atStart => exact ⟨0, cur, rfl, by omega, hcl, rfl, HBk.out, HF.out⟩
            case round =>
              obtain ⟨m, cu, rfl, hm, hul, hfo, hb, hf⟩ := hrel
              clear HBk HF HP c0 c1 c2 c3 c4
              have HBk := Lib.hid hb
              have HF := Lib.hid hf
              have HO := Lib.hid hfo
              obtain ⟨c0, c1, c2, c3, c4⟩ := five (hf.blk HB1.out HB1.out.lt (by omega))
              have lr := (HL.out.up (NF.out _ hf)).rs
              clear hb hf hfo
              by_cases hlm : m < s.sills.length
              · obtain ⟨gS, oS, rfl, d0, d1, d2⟩ := lr.triple m hlm
                have dl := cell_lt d0
                clear lr
                have q3 : (m : Int) < s.sills.length := by omega
                have HO2 : Hid ((s.sills.drop (m + 1)).foldl (rel2 s.floors k) (rel2 s.floors k cu s.sills[m]) = pass s k cur) := Lib.hid (by
                  have h := HO.out
                  rw [List.drop_eq_getElem_cons hlm, List.foldl_cons] at h
                  exact h)
                have EK := Lib.hid (EndOk.of OK.out (List.getElem_mem hlm))
                generalize hx : s.sills[m] = x at *
                obtain ⟨A, B, H⟩ := x
                dsimp only at d0 d1 d2
                clear hx HO
                go_wp2_with fail
                have ux : Up wr ((wr.alloc (.cells #[.int .i64 A, .int .i64 B, .int .i64 H] 97)).alloc (.cells #[.int .i64 A, .int .i64 B, .int .i64 H, .int .i64 B, .int .i64 A, .int .i64 H] 97)) := by (repeat (first | exact Below.refl _ _ | (with_reducible refine Below.drewN' ?_ _) | (with_reducible refine Below.drew ?_) | (with_reducible refine Below.setCell ?_ (by first | exact Nat.le_refl _ | omega | (with_reducible (repeat (first | refine sz_alloc ?_ | refine sz_setCell ?_ | refine sz_drew ?_ | refine sz_drewN ?_)); first | exact Nat.le_refl _ | omega) | (simp only [World.size_alloc, World.size_setCell, World.size_drew, size_drewN']; omega)) _) | (with_reducible refine Below.alloc ?_ (by first | exact Nat.le_refl _ | omega | (with_reducible (repeat (first | refine sz_alloc ?_ | refine sz_setCell ?_ | refine sz_drew ?_ | refine sz_drewN ?_)); first | exact Nat.le_refl _ | omega) | (simp only [World.size_alloc, World.size_setCell, World.size_drew, size_drewN']; omega)) _) | assumption))
                have R2 : Hid (RowBlk ((wr.alloc (.cells #[.int .i64 A, .int .i64 B, .int .i64 H] 97)).alloc (.cells #[.int .i64 A, .int .i64 B, .int .i64 H, .int .i64 B, .int .i64 A, .int .i64 H] 97)) (wr.heap.size + 1) 97 3 (triples [(A, B, H), (B, A, H)])) :=
                  Lib.hid (Blk.row 3 (triples_len _) (Blk.new' _ _ _ (by simp)))
                have HB2 := Lib.hid (HBk.out.up ux)
                have HF2 := Lib.hid (HF.out.trans (Far.of (ux.mono HF.out.size)))
                generalize hw2 : ((wr.alloc (.cells #[.int .i64 A, .int .i64 B, .int .i64 H] 97)).alloc (.cells #[.int .i64 A, .int .i64 B, .int .i64 H, .int .i64 B, .int .i64 A, .int .i64 H] 97)) = w2 at *
                have lw2 : wr.heap.size + 1 < w2.heap.size := R2.out.lt
                have lwr : w1.heap.size ≤ wr.heap.size := HF.out.size
                generalize wr.heap.size = Z at *
                have lB : w.heap.size < w1.heap.size := HB1.out.lt
                clear hw2 ux HBk HF d0 d1 d2 dl c0 c1 c2 c3 c4
                go_loopw [48] (fun i wr => ∃ (d : Nat) (cv : List Int), i = .int .i64 d ∧ d ≤ 2 ∧ cv.length = s.floors.length ∧ ([(A, B, H), (B, A, H)].drop d).foldl (rel1 s.floors k) cv = rel2 s.floors k cu (A, B, H) ∧ Blk wr (w.heap.size + 1) (gcells cv) 3 ∧ Far (w.heap.size + 1) w2.heap.size w2 wr) (fun i _ => 2 - (intOf i).toNat)
                case atStart => exact ⟨0, cu, rfl, by omega, hul, rfl, HB2.out, Far.refl _ _ _⟩
                case round =>
                  obtain ⟨d, cv, rfl, hd, hvl, hfo, hb, hf⟩ := hrel
                  have HBk := Lib.hid hb
                  have HF := Lib.hid hf
                  have HF1 := Lib.hid (HF2.out.trans (hf.mono (by omega)))
                  have HO := Lib.hid hfo
                  clear hb hf hfo
                  by_cases hld : d < 2
                  · have q4 : (d : Int) < 2 := by omega
                    have ey : ∃ yA yB, [(A, B, H), (B, A, H)][d]? = some (yA, yB, H) ∧ EndOk s.floors.length (yA, yB, H) := by
                      obtain rfl | rfl : d = 0 ∨ d = 1 := by omega
                      · exact ⟨A, B, rfl, EK.out⟩
                      · exact ⟨B, A, rfl, EK.out.turned⟩
                    obtain ⟨yA, yB, ey, he⟩ := ey
                    have HN : Hid (([(A, B, H), (B, A, H)].drop (d + 1)).foldl (rel1 s.floors k) (rel1 s.floors k cv (yA, yB, H)) = rel2 s.floors k cu (A, B, H)) := Lib.hid (by
                      have h := HO.out
                      obtain ⟨hdl, hde⟩ := List.getElem?_eq_some_iff.1 ey
                      rw [List.drop_eq_getElem_cons hdl, List.foldl_cons, hde] at h
                      exact h)
                    have r2 := R2.out.far HF.out lw2 (by omega)
                    have hrow : (triples [(A, B, H), (B, A, H)])[d]? = some [.int .i64 yA, .int .i64 yB, .int .i64 H] := by unfold triples; rw [List.getElem?_map, ey]; rfl
                    have d0 : wr.cell? ⟨Z + 1, d * 3, none⟩ = some (.int .i64 yA) := r2.cell (j := 0) hrow rfl
                    have d1 := r2.cell (j := 1) hrow rfl
                    have d2 := r2.cell (j := 2) hrow rfl
                    have dl := r2.lt
                    clear r2 hrow HO
                    obtain ⟨c0, c1, c2, c3, c4⟩ := five (HF1.out.blk HB1.out HB1.out.lt (by omega))
                    have lz := HF.out.size
                    have lb0 : w.heap.size < wr.heap.size := by omega
                    have lb1 : w.heap.size + 1 < wr.heap.size := HBk.out.lt
                    have Lw := Lib.hid (HL.out.up (NF.out _ HF1.out)).rf
                    by_cases h1 : H ≤ k
                    · by_cases h2 : yB = -1
                      · subst h2
                        go_wp2_with fail
                        go_roundw
                        case rel =>
                          refine ⟨d + 1, cv, by go_num, by omega, hvl, ?_, HBk.out.up (by (repeat (first | exact Below.refl _ _ | (with_reducible refine Below.drewN' ?_ _) | (with_reducible refine Below.drew ?_) | (with_reducible refine Below.setCell ?_ (by first | exact Nat.le_refl _ | omega | (with_reducible (repeat (first | refine sz_alloc ?_ | refine sz_setCell ?_ | refine sz_drew ?_ | refine sz_drewN ?_)); first | exact Nat.le_refl _ | omega) | (simp only [World.size_alloc, World.size_setCell, World.size_drew, size_drewN']; omega)) _) | (with_reducible refine Below.alloc ?_ (by first | exact Nat.le_refl _ | omega | (with_reducible (repeat (first | refine sz_alloc ?_ | refine sz_setCell ?_ | refine sz_drew ?_ | refine sz_drewN ?_)); first | exact Nat.le_refl _ | omega) | (simp only [World.size_alloc, World.size_setCell, World.size_drew, size_drewN']; omega)) _) | assumption))), HF.out.alloc (by omega) _⟩
                          have h := HN.out
                          rw [show rel1 s.floors k cv (yA, -1, H) = cv from if_neg (fun hc => hc.2.1 rfl)] at h
                          exact h
                        case measure => simp [intOf]; omega
                      · obtain ⟨b0, b1⟩ : 0 ≤ yB ∧ yB < s.floors.length := by rcases he.2.1 with e | e; exact absurd e h2; exact e
                        obtain ⟨b, rfl⟩ : ∃ b : Nat, yB = b := ⟨yB.toNat, by omega⟩
                        have hbl : b < s.floors.length := by omega
                        have x0 := rowInt Lw.out hbl
                        have xl := cell_lt x0
                        have y0 := gcell HBk.out (i := b) (by omega)
                        have yf := HBk.out.free
                        have h2' : ¬ ((b : Int) = -1) := h2
                        by_cases h3 : s.floors[b] ≤ k
                        · by_cases h4 : yA = -1
                          · subst h4
                            go_wp2_with fail
                            go_region
                            go_wp2_with fail
                            go_roundw
                            case rel =>
                              refine ⟨d + 1, cv.set b (min (cv[b]?.getD 0) k), by go_num, by omega, by rw [List.length_set]; exact hvl, ?_, ?_, ?_⟩
                              · have h := HN.out
                                rw [show rel1 s.floors k cv (-1, (b : Int), H) = cv.set b (min (cv[b]?.getD 0) k) from if_pos ⟨h1, h2, by simpa [List.getElem?_eq_getElem hbl] using h3, Or.inl rfl⟩] at h
                                exact h
                              · have hbv : b < cv.length := by omega
                                have e : (if (k : Int) < cv[b] then (k : Int) else cv[b]) = min (cv[b]?.getD 0) k := by
                                  rw [List.getElem?_eq_getElem hbv, Option.getD_some]
                                  split <;> omega
                                have e2 : min cv[b] (k : Int) = min (cv[b]?.getD 0) k := by rw [List.getElem?_eq_getElem hbv, Option.getD_some]
                                first | rw [e] | rw [e2]
                                exact ((gset HBk.out b _).alloc _).drew
                              · exact ((HF.out.setIn b _).alloc (by rw [World.size_setCell]; omega) _).drew
                            case measure => simp [intOf]; omega
                          · obtain ⟨a0, a1⟩ : 0 ≤ yA ∧ yA < s.floors.length := by rcases he.1 with e | e; exact absurd e h4; exact e
                            obtain ⟨a, rfl⟩ : ∃ a : Nat, yA = a := ⟨yA.toNat, by omega⟩
                            have z0 := gcell HBk.out (i := a) (by omega)
                            have h4' : ¬ ((a : Int) = -1) := h4
                            by_cases h5 : cv[a]?.getD 0 ≤ k
                            · go_wp2_with fail
                              go_region
                              go_wp2_with fail
                              go_roundw
                              case rel =>
                                refine ⟨d + 1, cv.set b (min (cv[b]?.getD 0) k), by go_num, by omega, by rw [List.length_set]; exact hvl, ?_, ?_, ?_⟩
                                · have h := HN.out
                                  rw [show rel1 s.floors k cv ((a : Int), (b : Int), H) = cv.set b (min (cv[b]?.getD 0) k) from if_pos ⟨h1, h2, by simpa [List.getElem?_eq_getElem hbl] using h3, Or.inr h5⟩] at h
                                  exact h
                                · have hbv : b < cv.length := by omega
                                  have e : (if (k : Int) < cv[b] then (k : Int) else cv[b]) = min (cv[b]?.getD 0) k := by
                                    rw [List.getElem?_eq_getElem hbv, Option.getD_some]
                                    split <;> omega
                                  have e2 : min cv[b] (k : Int) = min (cv[b]?.getD 0) k := by rw [List.getElem?_eq_getElem hbv, Option.getD_some]
                                  first | rw [e] | rw [e2]
                                  exact ((gset HBk.out b _).alloc _).drew
                                · exact ((HF.out.setIn b _).alloc (by rw [World.size_setCell]; omega) _).drew
                              case measure => simp [intOf]; omega
                            · go_wp2_with fail
                              go_roundw
                              case rel =>
                                refine ⟨d + 1, cv, by go_num, by omega, hvl, ?_, HBk.out.up (by (repeat (first | exact Below.refl _ _ | (with_reducible refine Below.drewN' ?_ _) | (with_reducible refine Below.drew ?_) | (with_reducible refine Below.setCell ?_ (by first | exact Nat.le_refl _ | omega | (with_reducible (repeat (first | refine sz_alloc ?_ | refine sz_setCell ?_ | refine sz_drew ?_ | refine sz_drewN ?_)); first | exact Nat.le_refl _ | omega) | (simp only [World.size_alloc, World.size_setCell, World.size_drew, size_drewN']; omega)) _) | (with_reducible refine Below.alloc ?_ (by first | exact Nat.le_refl _ | omega | (with_reducible (repeat (first | refine sz_alloc ?_ | refine sz_setCell ?_ | refine sz_drew ?_ | refine sz_drewN ?_)); first | exact Nat.le_refl _ | omega) | (simp only [World.size_alloc, World.size_setCell, World.size_drew, size_drewN']; omega)) _) | assumption))), HF.out.alloc (by omega) _⟩
                                have h := HN.out
                                rw [show rel1 s.floors k cv ((a : Int), (b : Int), H) = cv from if_neg (fun hc => by rcases hc.2.2.2 with e | e; exact h4 e; exact h5 e)] at h
                                exact h
                              case measure => simp [intOf]; omega
                        · go_wp2_with fail
                          go_roundw
                          case rel =>
                            refine ⟨d + 1, cv, by go_num, by omega, hvl, ?_, HBk.out.up (by (repeat (first | exact Below.refl _ _ | (with_reducible refine Below.drewN' ?_ _) | (with_reducible refine Below.drew ?_) | (with_reducible refine Below.setCell ?_ (by first | exact Nat.le_refl _ | omega | (with_reducible (repeat (first | refine sz_alloc ?_ | refine sz_setCell ?_ | refine sz_drew ?_ | refine sz_drewN ?_)); first | exact Nat.le_refl _ | omega) | (simp only [World.size_alloc, World.size_setCell, World.size_drew, size_drewN']; omega)) _) | (with_reducible refine Below.alloc ?_ (by first | exact Nat.le_refl _ | omega | (with_reducible (repeat (first | refine sz_alloc ?_ | refine sz_setCell ?_ | refine sz_drew ?_ | refine sz_drewN ?_)); first | exact Nat.le_refl _ | omega) | (simp only [World.size_alloc, World.size_setCell, World.size_drew, size_drewN']; omega)) _) | assumption))), HF.out.alloc (by omega) _⟩
                            have h := HN.out
                            rw [show rel1 s.floors k cv (yA, (b : Int), H) = cv from if_neg (fun hc => h3 (by simpa [List.getElem?_eq_getElem hbl] using hc.2.2.1))] at h
                            exact h
                          case measure => simp [intOf]; omega
                    · go_wp2_with fail
                      go_roundw
                      case rel =>
                        refine ⟨d + 1, cv, by go_num, by omega, hvl, ?_, HBk.out.up (by (repeat (first | exact Below.refl _ _ | (with_reducible refine Below.drewN' ?_ _) | (with_reducible refine Below.drew ?_) | (with_reducible refine Below.setCell ?_ (by first | exact Nat.le_refl _ | omega | (with_reducible (repeat (first | refine sz_alloc ?_ | refine sz_setCell ?_ | refine sz_drew ?_ | refine sz_drewN ?_)); first | exact Nat.le_refl _ | omega) | (simp only [World.size_alloc, World.size_setCell, World.size_drew, size_drewN']; omega)) _) | (with_reducible refine Below.alloc ?_ (by first | exact Nat.le_refl _ | omega | (with_reducible (repeat (first | refine sz_alloc ?_ | refine sz_setCell ?_ | refine sz_drew ?_ | refine sz_drewN ?_)); first | exact Nat.le_refl _ | omega) | (simp only [World.size_alloc, World.size_setCell, World.size_drew, size_drewN']; omega)) _) | assumption))), HF.out.alloc (by omega) _⟩
                        have h := HN.out
                        rw [show rel1 s.floors k cv (yA, yB, H) = cv from if_neg (fun hc => h1 hc.1)] at h
                        exact h
                      case measure => simp [intOf]; omega
                  · obtain rfl : d = 2 := by omega
                    have e2 : cv = rel2 s.floors k cu (A, B, H) := HO.out
                    subst e2
                    go_wp2_with fail
                    go_roundw
                    case rel => exact ⟨m + 1, _, by go_num, by omega, hvl, HO2.out, HBk.out, HF1.out⟩
                    case measure => simp [intOf]; omega
              · obtain rfl : m = s.sills.length := by omega
                have e2 : cu = pass s k cur := by have h := HO.out; rw [List.drop_length] at h; exact h
                subst e2
                go_wp2_with fail
                go_roundw
                case rel => exact ⟨j + 1, _, by go_num, by omega, hul, HP2.out, HBk.out, HF.out⟩
                case measure => simp [intOf]; omega
          · obtain rfl : j = s.floors.length := by omega
            have e2 : cur = lvls s (k + 1) := by have h := HP.out; rw [Nat.sub_self] at h; exact h
            subst e2
            by_cases hk61 : k = 61
            · subst hk61
              go_wp2_with fail
              go_ret
              exact ⟨_, rfl, HBk.out, by omega, NF.out _ HF.out⟩
            · have hk60 : (k : Int) ≤ 60 := by omega
              go_wp2_with fail
              go_roundw
              case rel => exact ⟨k + 1, by go_num, by omega, HBk.out, HF.out⟩
              case measure => simp [intOf]; omega
end
end Go.Proofs.Ytifcmbeejichdaa
/- What the layer's bank does with each place with a lower gate: the sills and places where it is left. -/
namespace Go.Proofs.Ytifcmbeejichdaa
open Go.RowKit Go.Shelf
attribute [local go_sem] Oper.semAt_some

def boolCells (l : List Bool) : List Value := l.map Value.bool
theorem boolCells_set (l : List Bool) (i : Nat) (v : Bool) : (boolCells l).set i (.bool v) = boolCells (l.set i v) := by unfold boolCells; rw [List.map_set]
/-- a bank that is being found: the layer's work, the height, what is marked -/
structure BankAt (W : World) (bw bp bh b3 b4 gA gB : Nat) (h : Int) (nS nF : Nat) (A B : List Bool) : Prop where
  p : Blk W bp [.pointer (some ⟨bw, 0, none⟩)] 134
  h : Blk W bh [.int .i64 h] 3
  c3 : Blk W b3 [.slice (some ⟨gA, 0, none⟩) nS nS] 72
  c4 : Blk W b4 [.slice (some ⟨gB, 0, none⟩) nF nF] 72
  a : Blk W gA (boolCells A) 4
  b : Blk W gB (boolCells B) 4
  ne : gA ≠ gB
section
variable {W W' : World} {bw bp bh b3 b4 gA gB nS nF : Nat} {h : Int} {A B : List Bool}
theorem BankAt.up (k : BankAt W bw bp bh b3 b4 gA gB h nS nF A B) (u : Up W W') : BankAt W' bw bp bh b3 b4 gA gB h nS nF A B :=
  ⟨k.p.up u, k.h.up u, k.c3.up u, k.c4.up u, k.a.up u, k.b.up u, k.ne⟩
theorem BankAt.own (k : BankAt W bw bp bh b3 b4 gA gB h nS nF A B) (o : OwnStep W W') : BankAt W' bw bp bh b3 b4 gA gB h nS nF A B :=
  ⟨k.p.own o, k.h.own o, k.c3.own o, k.c4.own o, k.a.own o, k.b.own o, k.ne⟩
theorem BankAt.setA (k : BankAt W bw bp bh b3 b4 gA gB h nS nF A B) (i : Nat) : BankAt (W.setCell ⟨gA, i, none⟩ (.bool true)) bw bp bh b3 b4 gA gB h nS nF (A.set i true) B :=
  ⟨k.p.other (k.p.ne k.a (by decide)) _, k.h.other (k.h.ne k.a (by decide)) _, k.c3.other (k.c3.ne k.a (by decide)) _, k.c4.other (k.c4.ne k.a (by decide)) _, by rw [← boolCells_set]; exact k.a.set i _, k.b.other (Ne.symm k.ne) _, k.ne⟩
theorem BankAt.setB (k : BankAt W bw bp bh b3 b4 gA gB h nS nF A B) (i : Nat) : BankAt (W.setCell ⟨gB, i, none⟩ (.bool true)) bw bp bh b3 b4 gA gB h nS nF A (B.set i true) :=
  ⟨k.p.other (k.p.ne k.b (by decide)) _, k.h.other (k.h.ne k.b (by decide)) _, k.c3.other (k.c3.ne k.b (by decide)) _, k.c4.other (k.c4.ne k.b (by decide)) _, k.a.other k.ne _, by rw [← boolCells_set]; exact k.b.set i _, k.ne⟩
end
theorem bank1_len {s : Sd} {h : Int} (st : List Bool × List Bool) (x : Lead s.sills.length s.floors.length) : (bank1 s h st x).1.length = st.1.length ∧ (bank1 s h st x).2.length = st.2.length := by
  unfold bank1
  split
  · exact ⟨rfl, rfl⟩
  · split
    · exact ⟨by simp, rfl⟩
    · exact ⟨rfl, by simp⟩
theorem banks_len {s : Sd} {h : Int} : ∀ (l : List (Lead s.sills.length s.floors.length)) (st : List Bool × List Bool), (l.foldl (bank1 s h) st).1.length = st.1.length ∧ (l.foldl (bank1 s h) st).2.length = st.2.length
  | [], _ => ⟨rfl, rfl⟩
  | x :: r, st => by
    obtain ⟨h1, h2⟩ := bank1_len (h := h) st x
    obtain ⟨h3, h4⟩ := banks_len r (bank1 s h st x)
    exact ⟨h3.trans h1, h4.trans h2⟩

section
variable {pT pF pS : Option Addr} {cT cF cS : Nat}
set_option maxRecDepth 100000 in
set_option maxHeartbeats 2000000 in
theorem leave_c (bw : Nat) (s : Sd) (w0 w : World) (hw : IsWork w0 bw s pT pF pS cT cF cS) (hu : Up w0 w) (m2 : s.floors.length ≤ 8) (m3 : s.sills.length ≤ 16) (hg : goodSills s.sills s.floors.length) (h : Int)
    (bp bh b3 b4 gA gB : Nat) (f : Int) (A B : List Bool) (lA : A.length = s.sills.length) (lB : B.length = s.floors.length) (hB : BankAt w bw bp bh b3 b4 gA gB h s.sills.length s.floors.length A B)
    (gp : w0.heap.size ≤ gA) (gq : w0.heap.size ≤ gB) :
    Calls Try.prog 153 #[.int .i64 f, .pointer (some ⟨bp, 0, none⟩), .pointer (some ⟨bh, 0, none⟩), .pointer (some ⟨b3, 0, none⟩), .pointer (some ⟨b4, 0, none⟩)] w fun e w' => e = .returned (.tuple #[]) ∧
      Below w0.heap.size w w' ∧ BankAt w' bw bp bh b3 b4 gA gB h s.sills.length s.floors.length (leaveW s h (A, B) f).1 (leaveW s h (A, B) f).2 := by
  have c0 := hB.p.cell 0
  have lbp := hB.p.lt
  simp only [List.getElem?_cons_zero] at c0
  refine callsIn_wide (n := 9).1 ?_
  refine callsIn_of_wp_marks Try.func153 rfl trivial ?_ rfl
  simp only [Try.ntmps153, List.size_toArray, List.length_cons, List.length_nil, Nat.reduceAdd, Nat.reduceSub, Array.replicate_succ, Array.replicate_zero, List.push_toArray, List.append_toArray, List.nil_append, List.cons_append]
  gi_wp2_with (refine ⟨trivial, ?_⟩; gi_at_call 150; refine (callsIn_wide.2 (on_c _ _ _)).mono ?_; rintro e w' ⟨rfl, rfl⟩)
  obtain ⟨w1, hw1⟩ : ∃ w1, ((w.alloc (.cells #[.pointer (some ⟨bw, 0, none⟩)] 134)).alloc (.cells #[.int .i64 f] 3)) = w1 := ⟨_, rfl⟩
  have hsz1 : w1.heap.size = w.heap.size + 2 := by rw [← hw1]; simp
  have hu1 : Up w w1 := by rw [← hw1]; (repeat (first | exact Below.refl _ _ | (with_reducible refine Below.drewN' ?_ _) | (with_reducible refine Below.drew ?_) | (with_reducible refine Below.setCell ?_ (by first | exact Nat.le_refl _ | omega | (with_reducible (repeat (first | refine sz_alloc ?_ | refine sz_setCell ?_ | refine sz_drew ?_ | refine sz_drewN ?_)); first | exact Nat.le_refl _ | omega) | (simp only [World.size_alloc, World.size_setCell, World.size_drew, size_drewN']; omega)) _) | (with_reducible refine Below.alloc ?_ (by first | exact Nat.le_refl _ | omega | (with_reducible (repeat (first | refine sz_alloc ?_ | refine sz_setCell ?_ | refine sz_drew ?_ | refine sz_drewN ?_)); first | exact Nat.le_refl _ | omega) | (simp only [World.size_alloc, World.size_setCell, World.size_drew, size_drewN']; omega)) _) | assumption))
  have hb1 : Blk w1 w.heap.size [.pointer (some ⟨bw, 0, none⟩)] 134 := by rw [← hw1]; exact (Blk.new w [.pointer (some ⟨bw, 0, none⟩)] _).alloc _
  have hb2 : Blk w1 (w.heap.size + 1) [.int .i64 f] 3 := by rw [← hw1]; exact Blk.new' _ [.int .i64 f] _ (by simp)
  rw [hw1]
  clear hw1
  have hw' := (hw.sands.up hu).up hu1
  have hns := hu.size
  have lA0 := hB.a.lt
  have lB0 := hB.b.lt
  refine wpIn_rangeFunc_ownG rfl (by decide) (gf := 162) (lb := #[.pointer (some ⟨w.heap.size, 0, none⟩), .pointer (some ⟨w.heap.size + 1, 0, none⟩)]) rfl trivial en_on1
    (on_stops 8 (by decide) (fun k => k < w0.heap.size ∨ k = w.heap.size + 1) (w.heap.size) (w.heap.size + 1) bw pS cS s.sills s.floors.length f hg (by simp [maxLen]; omega) w1
      (fun k hk => by omega) (by right; rfl) (fun h b off e => Or.inl (hw.sands.sills_lt h e)) (hb1.cell 0) (hb2.cell 0) hw'.s4 hw'.rs) Keep.trans (keepK_b (fun k hk => by omega)) (Below.refl _ _) (fun _ => rfl)
    (fun pre' W => BankAt W bw bp bh b3 b4 gA gB h s.sills.length s.floors.length (pre'.foldl (bank1 s h) (A, B)).1 (pre'.foldl (bank1 s h) (A, B)).2 ∧ Below w0.heap.size w W ∧ w.heap.size + 2 ≤ W.heap.size)
    (fun _ _ _ => False) (fun pre' X Y row hh hgr hr => by
      obtain ⟨k1, k7, k8⟩ := hh
      have ho : OwnStep X Y := ⟨row, hgr, fun r e => (hr r e).2⟩
      exact ⟨k1.own ho, k7.grown hgr (Nat.le_trans hns k7.size) (fun k e => by have := (hr k e).1; omega), Nat.le_trans k8 hgr.size⟩)
    (fun _ _ _ _ _ hs _ _ => hs) ⟨hB.up hu1, Below.mono hu1 hns, by omega⟩
    (fun x => { tmps := #[.int .i64 f, .pointer (some ⟨bp, 0, none⟩), .pointer (some ⟨bh, 0, none⟩), .pointer (some ⟨b3, 0, none⟩), .pointer (some ⟨b4, 0, none⟩), undef,
      .int .i64 (x.1.1 : Int), .int .i64 (x.1.2 : Int), .pointer (some ⟨bw, 0, none⟩), .int .i64 f, .func (.func 162) #[] #[.pointer (some ⟨w.heap.size, 0, none⟩), .pointer (some ⟨w.heap.size + 1, 0, none⟩)],
      .int .i64 (x.1.1 : Int), .int .i64 (x.1.2 : Int), undef, undef, undef, undef, undef, undef, undef, undef, undef, undef, undef, undef, undef, undef, undef, undef, undef, undef, undef, undef, undef, undef, undef, undef, undef], defers := [] }) ?assign ?body ?done ?stop
  case assign =>
    intro l x W K hK
    gi_wp2
    exact hK
  case body =>
    rintro l pre' x W ⟨k1, k7, k8⟩ _
    obtain ⟨⟨i, tq⟩, hi, hto⟩ := x
    dsimp only at hi hto ⊢
    obtain ⟨st, hst⟩ : ∃ st, pre'.foldl (bank1 s h) (A, B) = st := ⟨_, rfl⟩
    rw [hst] at k1
    have hln : st.1.length = s.sills.length ∧ st.2.length = s.floors.length := by
      have := banks_len (h := h) pre' (A, B)
      rw [hst] at this
      exact ⟨this.1.trans lA, this.2.trans lB⟩
    have HS := Lib.hid (show (pre' ++ [(⟨(i, tq), hi, hto⟩ : Lead s.sills.length s.floors.length)]).foldl (bank1 s h) (A, B) = bank1 s h st (⟨(i, tq), hi, hto⟩ : Lead s.sills.length s.floors.length) by rw [List.foldl_append, hst]; rfl)
    have to8 : tq < 8 := by omega
    have to8' : (tq : Int) < 8 := by omega
    have to0 : (0 : Int) ≤ tq := by omega
    have wk := hw.up (Below.trans hu k7)
    have gt := wk.gates tq to8
    have HG := Lib.hid (show (gts s)[tq]?.getD 0 = gateOf s tq from rfl)
    generalize (gts s)[tq]?.getD 0 = gv at *
    have c1 := k1.p.cell 0
    have c2 := k1.h.cell 0
    have l1 := k1.p.lt
    have l2 := k1.h.lt
    simp only [List.getElem?_cons_zero] at c1 c2
    have K1 := Lib.hid k1
    have K7 := Lib.hid k7
    have WK := Lib.hid wk
    clear k1 k7 wk hw' hb1 hb2 hB lA lB hst
    by_cases hlow : gv < h
    · have HE := Lib.hid (HS.out.trans (show bank1 s h st _ = st by unfold bank1; rw [if_pos (by rw [← HG.out]; exact hlow)]))
      gi_wp2_with fail
      refine region_tail_round (fun W' => W'.cell? ⟨bp, 0, none⟩ = some (.pointer (some ⟨bw, 0, none⟩)) ∧ W'.cell? ⟨bh, 0, none⟩ = some (.int .i64 h) ∧ W'.cell? ⟨bw, 5 + tq, none⟩ = some (.int .i64 gv)) 8 mixed (by kernel_rfl) (fun _ _ h => h) ⟨c1, c2, gt⟩ (fun hHeld => ?_)
      refine wpAnyG_take 0 13 (v := ?_) rfl rfl (by kernel_rfl) (fun _ _ _ h => h) (Or.inl ⟨by rfl, ?_⟩) (by assumption) ?_
      rotate_left
      · (intro w' hSw; (try dsimp only at hSw); go_split_ands; go_simp; try with_reducible rfl)
      try simp only [List.setIfInBounds_toArray, List.set_cons_zero, List.set_cons_succ]
      refine wpAnyG_take 1 14 (v := ?_) rfl rfl (by kernel_rfl) (fun _ _ _ h => h) (Or.inl ⟨by rfl, ?_⟩) (by assumption) ?_
      rotate_left
      · (intro w' hSw; (try dsimp only at hSw); go_split_ands; go_simp; try with_reducible rfl)
      try simp only [List.setIfInBounds_toArray, List.set_cons_zero, List.set_cons_succ]
      refine wpAnyG_take 2 15 (v := ?_) rfl rfl (by kernel_rfl) (fun _ _ _ h => h) (Or.inl ⟨by rfl, ?_⟩) (by assumption) ?_
      rotate_left
      · (intro w' hSw; (try dsimp only at hSw); go_split_ands; go_simp; try with_reducible rfl)
      try simp only [List.setIfInBounds_toArray, List.set_cons_zero, List.set_cons_succ]
      refine wpAnyG_take 3 16 (v := ?_) rfl rfl (by kernel_rfl) (fun _ _ _ h => h) (Or.inl ⟨by rfl, ?_⟩) (by assumption) ?_
      rotate_left
      · (intro w' hSw; (try dsimp only at hSw); go_split_ands; go_simp; try with_reducible rfl)
      try simp only [List.setIfInBounds_toArray, List.set_cons_zero, List.set_cons_succ]
      refine wpAnyG_take 4 17 (v := ?_) rfl rfl (by kernel_rfl) (fun _ _ _ h => h) (Or.inl ⟨by rfl, ?_⟩) (by assumption) ?_
      rotate_left
      · (intro w' hSw; (try dsimp only at hSw); go_split_ands; go_simp; try with_reducible rfl)
      try simp only [List.setIfInBounds_toArray, List.set_cons_zero, List.set_cons_succ]
      refine wpAnyG_take 5 18 (v := ?_) rfl rfl (by kernel_rfl) (fun _ _ _ h => h) (Or.inl ⟨by rfl, ?_⟩) (by assumption) ?_
      rotate_left
      · (intro w' hSw; (try dsimp only at hSw); go_split_ands; go_simp; try with_reducible rfl)
      try simp only [List.setIfInBounds_toArray, List.set_cons_zero, List.set_cons_succ]
      refine wpAnyG_take 6 19 (v := ?_) rfl rfl (by kernel_rfl) (fun _ _ _ h => h) (Or.inl ⟨by rfl, ?_⟩) (by assumption) ?_
      rotate_left
      · (intro w' hSw; (try dsimp only at hSw); go_split_ands; go_simp; try with_reducible rfl)
      try simp only [List.setIfInBounds_toArray, List.set_cons_zero, List.set_cons_succ]
      refine wpAnyG_take 7 20 (v := ?_) rfl rfl (by kernel_rfl) (fun _ _ _ h => h) (Or.inl ⟨by rfl, ?_⟩) (by assumption) ?_
      rotate_left
      · (intro w' hSw; (try dsimp only at hSw); go_split_ands; go_simp; try with_reducible rfl)
      try simp only [List.setIfInBounds_toArray, List.set_cons_zero, List.set_cons_succ]
      refine wpAnyG_tail (by kernel_rfl) ?_
      change wpList _ _ _ [] _ _
      go_wp2_with fail
      gi_wp2_with fail
      have ud : Up W W.drew := (Below.refl _ _).drew
      refine ⟨KeepsFrom.of_up ud, Keep.of_below ud (fun k hk => by omega), ?_⟩
      dsimp only
      rw [HE.out]
      exact ⟨K1.out.up ud, K7.out.drew, k8⟩
    · obtain ⟨bs, os, rfl, -, -, e2⟩ := WK.out.sands.rs.triple i hi
      have s4 := WK.out.sands.s4
      have HB1 := Lib.hid (show bank1 s h st (⟨(i, tq), hi, hto⟩ : Lead s.sills.length s.floors.length) = if h ≤ (s.sills[i]).2.2 then (st.1.set i true, st.2) else (st.1, st.2.set tq true) by unfold bank1; rw [if_neg (by rw [← HG.out]; exact hlow)])
      generalize (s.sills[i]).2.2 = hs at *
      have i1 : (i : Int) < (s.sills.length : Int) := by omega
      have t1 : (tq : Int) < (s.floors.length : Int) := by omega
      gi_wp2_with fail
      refine region_tail_round (fun W' => W'.cell? ⟨bp, 0, none⟩ = some (.pointer (some ⟨bw, 0, none⟩)) ∧ W'.cell? ⟨bh, 0, none⟩ = some (.int .i64 h) ∧ W'.cell? ⟨bw, 5 + tq, none⟩ = some (.int .i64 gv)) 8 mixed (by kernel_rfl) (fun _ _ h => h) ⟨c1, c2, gt⟩ (fun hHeld => ?_)
      refine wpAnyG_take 0 13 (v := ?_) rfl rfl (by kernel_rfl) (fun _ _ _ h => h) (Or.inl ⟨by rfl, ?_⟩) (by assumption) ?_
      rotate_left
      · (intro w' hSw; (try dsimp only at hSw); go_split_ands; go_simp; try with_reducible rfl)
      try simp only [List.setIfInBounds_toArray, List.set_cons_zero, List.set_cons_succ]
      refine wpAnyG_take 1 14 (v := ?_) rfl rfl (by kernel_rfl) (fun _ _ _ h => h) (Or.inl ⟨by rfl, ?_⟩) (by assumption) ?_
      rotate_left
      · (intro w' hSw; (try dsimp only at hSw); go_split_ands; go_simp; try with_reducible rfl)
      try simp only [List.setIfInBounds_toArray, List.set_cons_zero, List.set_cons_succ]
      refine wpAnyG_take 2 15 (v := ?_) rfl rfl (by kernel_rfl) (fun _ _ _ h => h) (Or.inl ⟨by rfl, ?_⟩) (by assumption) ?_
      rotate_left
      · (intro w' hSw; (try dsimp only at hSw); go_split_ands; go_simp; try with_reducible rfl)
      try simp only [List.setIfInBounds_toArray, List.set_cons_zero, List.set_cons_succ]
      refine wpAnyG_take 3 16 (v := ?_) rfl rfl (by kernel_rfl) (fun _ _ _ h => h) (Or.inl ⟨by rfl, ?_⟩) (by assumption) ?_
      rotate_left
      · (intro w' hSw; (try dsimp only at hSw); go_split_ands; go_simp; try with_reducible rfl)
      try simp only [List.setIfInBounds_toArray, List.set_cons_zero, List.set_cons_succ]
      refine wpAnyG_take 4 17 (v := ?_) rfl rfl (by kernel_rfl) (fun _ _ _ h => h) (Or.inl ⟨by rfl, ?_⟩) (by assumption) ?_
      rotate_left
      · (intro w' hSw; (try dsimp only at hSw); go_split_ands; go_simp; try with_reducible rfl)
      try simp only [List.setIfInBounds_toArray, List.set_cons_zero, List.set_cons_succ]
      refine wpAnyG_take 5 18 (v := ?_) rfl rfl (by kernel_rfl) (fun _ _ _ h => h) (Or.inl ⟨by rfl, ?_⟩) (by assumption) ?_
      rotate_left
      · (intro w' hSw; (try dsimp only at hSw); go_split_ands; go_simp; try with_reducible rfl)
      try simp only [List.setIfInBounds_toArray, List.set_cons_zero, List.set_cons_succ]
      refine wpAnyG_take 6 19 (v := ?_) rfl rfl (by kernel_rfl) (fun _ _ _ h => h) (Or.inl ⟨by rfl, ?_⟩) (by assumption) ?_
      rotate_left
      · (intro w' hSw; (try dsimp only at hSw); go_split_ands; go_simp; try with_reducible rfl)
      try simp only [List.setIfInBounds_toArray, List.set_cons_zero, List.set_cons_succ]
      refine wpAnyG_take 7 20 (v := ?_) rfl rfl (by kernel_rfl) (fun _ _ _ h => h) (Or.inl ⟨by rfl, ?_⟩) (by assumption) ?_
      rotate_left
      · (intro w' hSw; (try dsimp only at hSw); go_split_ands; go_simp; try with_reducible rfl)
      try simp only [List.setIfInBounds_toArray, List.set_cons_zero, List.set_cons_succ]
      refine wpAnyG_tail (by kernel_rfl) ?_
      change wpList _ _ _ [] _ _
      clear hHeld
      go_wp2_with fail
      gi_wp2_with fail
      have ud : Up W W.drew := (Below.refl _ _).drew
      refine region_tail_round (fun W' => W'.cell? ⟨bp, 0, none⟩ = some (.pointer (some ⟨bw, 0, none⟩)) ∧ W'.cell? ⟨bh, 0, none⟩ = some (.int .i64 h) ∧ W'.cell? ⟨bw, 4, none⟩ = some (.slice (some ⟨bs, os, none⟩) s.sills.length cS) ∧ W'.cell? ⟨bs, os + i * 3 + 2, none⟩ = some (.int .i64 hs)) 11 mixed (by kernel_rfl) (fun _ _ h => h) ⟨c1, c2, s4, e2⟩ (fun hHeld => ?_)
      refine wpAnyG_take 0 21 (v := ?_) rfl rfl (by kernel_rfl) (fun _ _ _ h => h) (Or.inl ⟨by rfl, ?_⟩) (by assumption) ?_
      rotate_left
      · (intro w' hSw; (try dsimp only at hSw); go_split_ands; go_simp; try with_reducible rfl)
      try simp only [List.setIfInBounds_toArray, List.set_cons_zero, List.set_cons_succ]
      refine wpAnyG_take 1 22 (v := ?_) rfl rfl (by kernel_rfl) (fun _ _ _ h => h) (Or.inl ⟨by rfl, ?_⟩) (by assumption) ?_
      rotate_left
      · (intro w' hSw; (try dsimp only at hSw); go_split_ands; go_simp; try with_reducible rfl)
      try simp only [List.setIfInBounds_toArray, List.set_cons_zero, List.set_cons_succ]
      refine wpAnyG_take 2 23 (v := ?_) rfl rfl (by kernel_rfl) (fun _ _ _ h => h) (Or.inl ⟨by rfl, ?_⟩) (by assumption) ?_
      rotate_left
      · (intro w' hSw; (try dsimp only at hSw); go_split_ands; go_simp; try with_reducible rfl)
      try simp only [List.setIfInBounds_toArray, List.set_cons_zero, List.set_cons_succ]
      refine wpAnyG_take 3 24 (v := ?_) rfl rfl (by kernel_rfl) (fun _ _ _ h => h) (Or.inl ⟨by rfl, ?_⟩) (by assumption) ?_
      rotate_left
      · (intro w' hSw; (try dsimp only at hSw); go_split_ands; go_simp; try with_reducible rfl)
      try simp only [List.setIfInBounds_toArray, List.set_cons_zero, List.set_cons_succ]
      refine wpAnyG_take 4 25 (v := ?_) rfl rfl (by kernel_rfl) (fun _ _ _ h => h) (Or.inl ⟨by rfl, ?_⟩) (by assumption) ?_
      rotate_left
      · (intro w' hSw; (try dsimp only at hSw); go_split_ands; go_simp; try with_reducible rfl)
      try simp only [List.setIfInBounds_toArray, List.set_cons_zero, List.set_cons_succ]
      refine wpAnyG_take 5 26 (v := ?_) rfl rfl (by kernel_rfl) (fun _ _ _ h => h) (Or.inl ⟨by rfl, ?_⟩) (by assumption) ?_
      rotate_left
      · (intro w' hSw; (try dsimp only at hSw); go_split_ands; go_simp; try with_reducible rfl)
      try simp only [List.setIfInBounds_toArray, List.set_cons_zero, List.set_cons_succ]
      refine wpAnyG_take 6 27 (v := ?_) rfl rfl (by kernel_rfl) (fun _ _ _ h => h) (Or.inl ⟨by rfl, ?_⟩) (by assumption) ?_
      rotate_left
      · (intro w' hSw; (try dsimp only at hSw); go_split_ands; go_simp; try with_reducible rfl)
      try simp only [List.setIfInBounds_toArray, List.set_cons_zero, List.set_cons_succ]
      refine wpAnyG_take 7 28 (v := ?_) rfl rfl (by kernel_rfl) (fun _ _ _ h => h) (Or.inl ⟨by rfl, ?_⟩) (by assumption) ?_
      rotate_left
      · (intro w' hSw; (try dsimp only at hSw); go_split_ands; go_simp; try with_reducible rfl)
      try simp only [List.setIfInBounds_toArray, List.set_cons_zero, List.set_cons_succ]
      refine wpAnyG_take 8 29 (v := ?_) rfl rfl (by kernel_rfl) (fun _ _ _ h => h) (Or.inl ⟨by rfl, ?_⟩) (by assumption) ?_
      rotate_left
      · (intro w' hSw; (try dsimp only at hSw); go_split_ands; go_simp; try with_reducible rfl)
      try simp only [List.setIfInBounds_toArray, List.set_cons_zero, List.set_cons_succ]
      refine wpAnyG_take 9 30 (v := ?_) rfl rfl (by kernel_rfl) (fun _ _ _ h => h) (Or.inl ⟨by rfl, ?_⟩) (by assumption) ?_
      rotate_left
      · (intro w' hSw; (try dsimp only at hSw); go_split_ands; go_simp; try with_reducible rfl)
      try simp only [List.setIfInBounds_toArray, List.set_cons_zero, List.set_cons_succ]
      refine wpAnyG_take 10 31 (v := ?_) rfl rfl (by kernel_rfl) (fun _ _ _ h => h) (Or.inl ⟨by rfl, ?_⟩) (by assumption) ?_
      rotate_left
      · (intro w' hSw; (try dsimp only at hSw); go_split_ands; go_simp; try with_reducible rfl)
      try simp only [List.setIfInBounds_toArray, List.set_cons_zero, List.set_cons_succ]
      refine wpAnyG_tail (by kernel_rfl) ?_
      change wpList _ _ _ [] _ _
      clear hHeld
      have u2 : Up W W.drew.drew := ud.drew
      have K2 := Lib.hid (K1.out.up u2)
      have K8 := Lib.hid (K7.out.drew.drew)
      have hz : w.heap.size + 2 ≤ W.drew.drew.heap.size := k8
      generalize W.drew.drew = W2 at *
      by_cases hh : h ≤ hs
      · have HE := Lib.hid (HS.out.trans (HB1.out.trans (if_pos hh)))
        have c3 := K2.out.c3.cell 0
        have l3 := K2.out.c3.lt
        have ca := K2.out.a.cell i
        have la := K2.out.a.lt
        have fa := K2.out.a.free
        rw [show (boolCells st.1)[i]? = some (.bool (st.1[i]'(by omega))) by unfold boolCells; rw [List.getElem?_map, List.getElem?_eq_getElem (by omega)]; rfl] at ca
        simp only [List.getElem?_cons_zero] at c3
        clear c1 c2 gt s4 e2 HB1
        go_wp2_with fail
        gi_wp2_with fail
        refine ⟨(KeepsFrom.of_up u2).trans ((KeepsOthers.setCell _ _ _).from _), (Keep.of_below u2 (fun k hk => by omega)).trans (Keep.setCell _ _ _ _ (fun hk => by simp only at hk; omega)), ?_⟩
        dsimp only
        rw [HE.out]
        exact ⟨K2.out.setA i, K8.out.setCell (by simp only []; omega) _, by rw [World.size_setCell]; exact hz⟩
      · have HE := Lib.hid (HS.out.trans (HB1.out.trans (if_neg hh)))
        have c3 := K2.out.c4.cell 0
        have l3 := K2.out.c4.lt
        have ca := K2.out.b.cell tq
        have la := K2.out.b.lt
        have fa := K2.out.b.free
        rw [show (boolCells st.2)[tq]? = some (.bool (st.2[tq]'(by omega))) by unfold boolCells; rw [List.getElem?_map, List.getElem?_eq_getElem (by omega)]; rfl] at ca
        simp only [List.getElem?_cons_zero] at c3
        clear c1 c2 gt s4 e2 HB1
        go_wp2_with fail
        gi_wp2_with fail
        refine ⟨(KeepsFrom.of_up u2).trans ((KeepsOthers.setCell _ _ _).from _), (Keep.of_below u2 (fun k hk => by omega)).trans (Keep.setCell _ _ _ _ (fun hk => by simp only at hk; omega)), ?_⟩
        dsimp only
        rw [HE.out]
        exact ⟨K2.out.setB tq, K8.out.setCell (by simp only []; omega) _, by rw [World.size_setCell]; exact hz⟩
  case done =>
    rintro D ys W hD rfl ⟨k1, k7, k8⟩ hK
    gi_wp2_with fail
    refine leaves_marks [D] _ (by simp) (fun D' hD' => by rw [List.mem_singleton.1 hD']; exact hK) (fun w' hg => ?_)
    have ho : OwnStep W w' := ⟨some D, ⟨hg.os, hg.tape, hg.output, by rw [hg.size]; exact Nat.le_refl _, fun k _ hk => hg.block k (fun h => hk (by rw [List.mem_singleton.1 h]))⟩, fun r e => by
      simp only [Option.some.injEq] at e
      subst e
      exact ⟨_, hK, rfl⟩⟩
    refine ⟨.tuple #[], ?_, rfl, Below.trans k7 (hg.below _ (fun D' hD' => by rw [List.mem_singleton.1 hD']; omega)), k1.own ho⟩
    exact results_none rfl _ _ _
  case stop =>
    rintro D c pre' W _ _ h
    exact h.elim
end
end Go.Proofs.Ytifcmbeejichdaa
/- What the layer's function marked returns. -/
namespace Go.Proofs.Ytifcmbeejichdaa
open Go.RowKit Go.Shelf

theorem mark_take {l : List Bool} {k : Nat} (h : k < l.length) : markL (l.take (k + 1)) = markL (l.take k) ++ (if l[k] = true then [(k : Int)] else []) := by
  unfold markL
  have e1 : (l.take (k + 1)).length = k + 1 := by rw [List.length_take]; omega
  have e2 : (l.take k).length = k := by rw [List.length_take]; omega
  rw [e1, e2, List.range_succ, List.filter_append, List.map_append]
  have f1 : (List.range k).filter (fun i => (l.take (k + 1))[i]?.getD false) = (List.range k).filter (fun i => (l.take k)[i]?.getD false) := by
    refine List.filter_congr (fun i hi => ?_)
    rw [List.mem_range] at hi
    rw [List.getElem?_take, List.getElem?_take, if_pos (by omega), if_pos hi]
  rw [f1]
  congr 1
  have e3 : (l.take (k + 1))[k]?.getD false = l[k] := by rw [List.getElem?_take, if_pos (by omega), List.getElem?_eq_getElem h]; rfl
  simp only [List.filter_cons, e3, List.filter_nil]
  split
  · rfl
  · rfl
theorem markL_take_le (l : List Bool) (k : Nat) : (markL (l.take k)).length ≤ k := Nat.le_trans (markL_len _) (by rw [List.length_take]; omega)
set_option maxRecDepth 100000 in
set_option maxHeartbeats 1000000 in
theorem marked_c (l : List Bool) (p : Option Addr) (c : Nat) (w : World) (hr : Row w p 1 (bools l)) (hm : l.length ≤ 100) :
    Calls Try.prog 154 #[.slice p l.length c] w fun e w' => ∃ q d, e = .returned (.slice q (markL l).length d) ∧ (markL l).length ≤ d ∧ d ≤ maxLen ∧ Row w' q 1 (ints (markL l)) ∧ Up w w' := by
  obtain ⟨i0, hi, hz0, hz1, hz2⟩ := info_parts info3
  have HR := Lib.hid hr
  clear hr
  go_enter Try.func154, Try.ntmps154
  go_wp2_with fail
  go_loopw [3, 4, 5, 8] (fun v _ _ i wr => ∃ k : Nat, k ≤ l.length ∧ i = .int .i64 k ∧ wr.ownsRow w.heap.size 3 1 v (markL (l.take k)).length (ints (markL (l.take k))).flatten ∧ Up w wr) (fun _ _ _ i _ => l.length - (intOf i).toNat)
  case atStart => exact ⟨0, Nat.zero_le _, rfl, World.ownsRow_nil _ _ _ _, Below.refl _ _⟩
  case round =>
    obtain ⟨k, hk, rfl, hown, hu⟩ := hrel
    have HO := Lib.hid hown
    have HU := Lib.hid hu
    have hsz := hu.size
    by_cases hlt : k < l.length
    · obtain ⟨b, off, rfl, d0⟩ := (HR.out.up hu).bool k hlt
      have HM := Lib.hid (mark_take hlt)
      have hle := markL_take_le l k
      have b1 : (k : Int) < (l.length : Int) := by omega
      clear hu hown
      cases hv : l[k] with
      | true =>
        rw [hv] at d0 HM
        rw [if_pos rfl] at HM
        have HV := Lib.hid hv
        clear hv
        generalize markL (l.take k) = ml at *
        go_wp2_with (at_builtin; refine wpList_append_own _ rfl _ _ 25 rfl w.heap.size 3 i0 (.int .i64 0) 1 8 Try.underlying25 hi hz0 hz1 hz2 rfl (by decide) _ _ _ rfl (HO.out.alloc _) ⟨wr.heap.size, 0, none⟩ 1 1 [.int .i64 k] rfl rfl (newsAt _ rfl [.int .i64 k] _) (by simp [Value.oneCell']) (by simp [maxLen]; omega) (by omega) (sz_alloc hsz) ?_; intro v' w8 hown8 hgr8 hnn; clear hnn)
        have U8 := Lib.hid ((HU.out.alloc hsz _).grown hgr8 (sz_alloc hsz) (fun j e => (HO.out.lt j e).1))
        have O8 := Lib.hid hown8
        clear hown8 hgr8
        go_roundw
        case rel =>
          try ((repeat apply Exists.intro); refine ⟨?_, rfl⟩)
          refine ⟨k + 1, hlt, by go_num, ?_, U8.out⟩
          rw [HM.out]
          have e : (ints (ml ++ [(k : Int)])).flatten = (ints ml).flatten ++ [.int .i64 k] := by
            unfold ints
            rw [List.map_append, List.flatten_append]
            rfl
          rw [e, List.length_append]
          exact O8.out
        case measure => simp [intOf]; omega
      | false =>
        rw [hv] at d0 HM
        rw [if_neg (by decide), List.append_nil] at HM
        clear hv
        go_wp2_with fail
        go_roundw
        case rel =>
          try ((repeat apply Exists.intro); refine ⟨?_, rfl⟩)
          exact ⟨k + 1, hlt, by go_num, by rw [HM.out]; exact HO.out, HU.out⟩
        case measure => simp [intOf]; omega
    · obtain rfl : k = l.length := by omega
      rw [List.take_length] at HO
      obtain ⟨q, d, rfl, a1, a2, hR, -⟩ := Row.of_own (rows := ints (markL l)) (flatOk_ints _) HO.out (by simp [ints])
      have RR := Lib.hid hR
      clear hR hown hu HO
      go_wp2_with fail
      go_ret
      exact ⟨q, d, rfl, a1, a2, RR.out, HU.out⟩
end Go.Proofs.Ytifcmbeejichdaa
/- What the layer's functions bank and Bank return. -/
namespace Go.Proofs.Ytifcmbeejichdaa
open Go.RowKit Go.Shelf

theorem made_falses (n : Nat) : madeCells #[Value.bool false] n = (boolCells (List.replicate n false)).toArray := by
  unfold boolCells
  rw [List.map_replicate]
  apply Array.ext'
  simp [madeCells, Nat.mod_one, List.map_const']
/-- how far a drawn region of plain operations and new blocks has come -/
structure Drawn (w1 : World) (isP : Nat → Bool) (E : List Value) (val : Nat → Nat → Value) (cs : Nat → List Value) (T : Nat → TypeId) (done : Nat → Bool) (W : World) (V : List Value) : Prop where
  up : Up w1 W
  pure : ∀ (i : Nat) (v : Value), V[i]? = some v → isP i = true → done i = true → v = E[i]?.getD undef
  made : ∃ B : Nat → Nat, (∀ i, done i = true → isP i = false → V[i]? = some (val i (B i)) ∧ Blk W (B i) (cs i) (T i) ∧ w1.heap.size ≤ B i) ∧ ∀ i j, done i = true → done j = true → isP i = false → isP j = false → i ≠ j → B i ≠ B j
section
variable {w1 W : World} {isP : Nat → Bool} {E : List Value} {val : Nat → Nat → Value} {cs : Nat → List Value} {T : Nat → TypeId} {done : Nat → Bool} {V : List Value}
theorem upd_or' {i k : Nat} (h : upd done i k = true) : k = i ∨ k ≠ i ∧ done k = true := by
  by_cases e : k = i
  · exact Or.inl e
  · refine Or.inr ⟨e, ?_⟩
    have : (k == i) = false := by rw [beq_eq_false_iff_ne]; exact e
    simpa [upd, this] using h
theorem Drawn.start (w : World) (V : List Value) : Drawn w isP E val cs T (fun _ => false) w.drew V :=
  ⟨(Below.refl _ _).drew, fun _ _ _ _ h => (by cases h), ⟨fun _ => 0, fun _ h => (by cases h), fun _ _ h => (by cases h)⟩⟩
theorem Drawn.pureStep (h : Drawn w1 isP E val cs T done W V) (i : Nat) (hp : isP i = true) (v : Value) (hv : v = E[i]?.getD undef) : Drawn w1 isP E val cs T (upd done i) W (V.set i v) := by
  obtain ⟨B, b1, b2⟩ := h.made
  refine ⟨h.up, fun k u hk hpk hd => ?_, ⟨B, fun k hd hpk => ?_, fun k j hk hj pk pj => ?_⟩⟩
  · rcases upd_or' hd with rfl | ⟨e, hd⟩
    · rw [List.getElem?_set] at hk
      rw [if_pos rfl] at hk
      split at hk
      · cases hk; exact hv
      · cases hk
    · rw [List.getElem?_set_ne (Ne.symm e)] at hk
      exact h.pure k u hk hpk hd
  · rcases upd_or' hd with rfl | ⟨e, hd⟩
    · rw [hp] at hpk; cases hpk
    · rw [List.getElem?_set_ne (Ne.symm e)]
      exact b1 k hd hpk
  · rcases upd_or' hk with rfl | ⟨-, hk⟩
    · rw [hp] at pk; cases pk
    · rcases upd_or' hj with rfl | ⟨-, hj⟩
      · rw [hp] at pj; cases pj
      · exact b2 k j hk hj pk pj
theorem Drawn.mkStep (h : Drawn w1 isP E val cs T done W V) (i : Nat) (hp : isP i = false) (hi : i < V.length := by simp) : Drawn w1 isP E val cs T (upd done i) (W.alloc (.cells (cs i).toArray (T i))) (V.set i (val i W.heap.size)) := by
  obtain ⟨B, b1, b2⟩ := h.made
  refine ⟨Up.trans h.up (by (repeat (first | exact Below.refl _ _ | (with_reducible refine Below.drewN' ?_ _) | (with_reducible refine Below.drew ?_) | (with_reducible refine Below.setCell ?_ (by first | exact Nat.le_refl _ | omega | (with_reducible (repeat (first | refine sz_alloc ?_ | refine sz_setCell ?_ | refine sz_drew ?_ | refine sz_drewN ?_)); first | exact Nat.le_refl _ | omega) | (simp only [World.size_alloc, World.size_setCell, World.size_drew, size_drewN']; omega)) _) | (with_reducible refine Below.alloc ?_ (by first | exact Nat.le_refl _ | omega | (with_reducible (repeat (first | refine sz_alloc ?_ | refine sz_setCell ?_ | refine sz_drew ?_ | refine sz_drewN ?_)); first | exact Nat.le_refl _ | omega) | (simp only [World.size_alloc, World.size_setCell, World.size_drew, size_drewN']; omega)) _) | assumption))), fun k u hk hpk hd => ?_, ⟨fun k => if k = i then W.heap.size else B k, fun k hd hpk => ?_, fun k j hk hj pk pj hne => ?_⟩⟩
  · rcases upd_or' hd with rfl | ⟨e, hd⟩
    · rw [hp] at hpk; cases hpk
    · rw [List.getElem?_set_ne (Ne.symm e)] at hk
      exact h.pure k u hk hpk hd
  · rcases upd_or' hd with rfl | ⟨e, hd⟩
    · dsimp only
      rw [if_pos rfl, List.getElem?_set_self hi]
      exact ⟨rfl, Blk.new W (cs k) (T k), h.up.size⟩
    · dsimp only
      rw [if_neg e, List.getElem?_set_ne (Ne.symm e)]
      obtain ⟨c1, c2, c3⟩ := b1 k hd hpk
      exact ⟨c1, c2.alloc _, c3⟩
  · dsimp only
    rcases upd_or' hk with ek | ⟨ek, hk'⟩
    · rcases upd_or' hj with ej | ⟨ej, hj'⟩
      · exact absurd (ek.trans ej.symm) hne
      · rw [if_pos ek, if_neg ej]
        have := (b1 j hj' pj).2.1.lt
        omega
    · rcases upd_or' hj with ej | ⟨ej, hj'⟩
      · rw [if_pos ej, if_neg ek]
        have := (b1 k hk' pk).2.1.lt
        omega
      · rw [if_neg ek, if_neg ej]
        exact b2 k j hk' hj' pk pj hne
end

def mkVal (nS nF : Nat) (i b : Nat) : Value := if i = 6 then .slice (some ⟨b, 0, none⟩) nS nS else if i = 13 then .slice (some ⟨b, 0, none⟩) nF nF else .pointer (some ⟨b, 0, none⟩)
def mkCs (nS nF : Nat) (i : Nat) : List Value := if i = 6 then boolCells (List.replicate nS false) else if i = 13 then boolCells (List.replicate nF false) else [.slice none 0 0]
def mkT (i : Nat) : TypeId := if i = 6 then 4 else if i = 13 then 4 else 72
def plainB (i : Nat) : Bool := !(i == 6 || i == 13 || i == 14 || i == 15)
def mkCs1 (nS nF gA : Nat) (i : Nat) : List Value := if i = 14 then [.slice (some ⟨gA, 0, none⟩) nS nS] else mkCs nS nF i
theorem Drawn.cast {w1 W : World} {isP : Nat → Bool} {E : List Value} {val : Nat → Nat → Value} {cs cs' : Nat → List Value} {T : Nat → TypeId} {done : Nat → Bool} {V : List Value} (h : Drawn w1 isP E val cs T done W V) (hc : ∀ i, done i = true → isP i = false → cs' i = cs i) : Drawn w1 isP E val cs' T done W V := by
  obtain ⟨B, b1, b2⟩ := h.made
  refine ⟨h.up, h.pure, B, fun i hd hp => ?_, b2⟩
  rw [hc i hd hp]
  exact b1 i hd hp
def BInv (w1 : World) (nS nF : Nat) (E : List Value) (done : Nat → Bool) (W : World) (V : List Value) : Prop :=
  (done 16 = false ∧ Drawn w1 plainB E (mkVal nS nF) (mkCs nS nF) mkT done W V) ∨
  (done 16 = true ∧ done 6 = true ∧ done 14 = true ∧ ∃ gA, V[6]? = some (mkVal nS nF 6 gA) ∧ Drawn w1 plainB E (mkVal nS nF) (mkCs1 nS nF gA) mkT done W V)
section
variable {w1 W : World} {nS nF : Nat} {E : List Value} {done : Nat → Bool} {V : List Value}
theorem upd_ne' {i k : Nat} (h : k ≠ i) : upd done i k = done k := by
  have : (k == i) = false := by rw [beq_eq_false_iff_ne]; exact h
  simp [upd, this]
theorem BInv.up (h : BInv w1 nS nF E done W V) : Up w1 W := by
  rcases h with ⟨-, h⟩ | ⟨-, -, -, gA, -, h⟩ <;> exact h.up
theorem BInv.pure (h : BInv w1 nS nF E done W V) (i : Nat) (v : Value) (hv : V[i]? = some v) (hp : plainB i = true) (hd : done i = true) : v = E[i]?.getD undef := by
  rcases h with ⟨-, h⟩ | ⟨-, -, -, gA, -, h⟩ <;> exact h.pure i v hv hp hd
theorem BInv.start (w : World) (V : List Value) : BInv w nS nF E (fun _ => false) w.drew V := .inl ⟨rfl, Drawn.start _ _⟩
theorem BInv.pureStep (h : BInv w1 nS nF E done W V) (i : Nat) (hp : plainB i = true) (v : Value) (hv : v = E[i]?.getD undef) (hi : i ≠ 16 := by decide) : BInv w1 nS nF E (upd done i) W (V.set i v) := by
  have h6 : i ≠ 6 := by rintro rfl; cases hp
  have h14 : i ≠ 14 := by rintro rfl; cases hp
  rcases h with ⟨h0, h⟩ | ⟨h0, h1, h2, gA, h3, h⟩
  · exact .inl ⟨by rw [upd_ne' (Ne.symm hi)]; exact h0, h.pureStep i hp v hv⟩
  · exact .inr ⟨by rw [upd_ne' (Ne.symm hi)]; exact h0, by rw [upd_ne' (Ne.symm h6)]; exact h1, by rw [upd_ne' (Ne.symm h14)]; exact h2, gA, by rw [List.getElem?_set_ne h6]; exact h3, h.pureStep i hp v hv⟩
theorem BInv.mkStep (h : BInv w1 nS nF E done W V) (i : Nat) (hp : plainB i = false) (hd : done i = false) (hi : i < V.length := by simp) : BInv w1 nS nF E (upd done i) (W.alloc (.cells (mkCs nS nF i).toArray (mkT i))) (V.set i (mkVal nS nF i W.heap.size)) := by
  have h16 : i ≠ 16 := by rintro rfl; cases hp
  rcases h with ⟨h0, h⟩ | ⟨h0, h1, h2, gA, h3, h⟩
  · exact .inl ⟨by rw [upd_ne' (Ne.symm h16)]; exact h0, h.mkStep i hp hi⟩
  · have h6 : i ≠ 6 := by rintro rfl; rw [h1] at hd; cases hd
    have h14 : i ≠ 14 := by rintro rfl; rw [h2] at hd; cases hd
    refine .inr ⟨by rw [upd_ne' (Ne.symm h16)]; exact h0, by rw [upd_ne' (Ne.symm h6)]; exact h1, by rw [upd_ne' (Ne.symm h14)]; exact h2, gA, by rw [List.getElem?_set_ne h6]; exact h3, ?_⟩
    have := h.mkStep i hp hi
    rwa [show mkCs1 nS nF gA i = mkCs nS nF i from if_neg h14] at this
/-- the first store: what it finds -/
theorem BInv.at16 (h : BInv w1 nS nF E done W V) (hd : done 16 = false) (d6 : done 6 = true) (d14 : done 14 = true) (hV : V[16]? = none := by rfl) : ∃ gA b6, V[6]? = some (.slice (some ⟨gA, 0, none⟩) nS nS) ∧ V[14]? = some (.pointer (some ⟨b6, 0, none⟩)) ∧ Blk W b6 [.slice none 0 0] 72 ∧
    BInv w1 nS nF E (upd done 16) (W.setCell ⟨b6, 0, none⟩ (.slice (some ⟨gA, 0, none⟩) nS nS)) V := by
  rcases h with ⟨-, h⟩ | ⟨h0, -⟩
  · obtain ⟨B, b1, b2⟩ := h.made
    obtain ⟨x1, x2, x3⟩ := b1 6 d6 rfl
    obtain ⟨y1, y2, y3⟩ := b1 14 d14 rfl
    refine ⟨B 6, B 14, x1, y1, y2, .inr ⟨by simp [upd], by rw [upd_ne' (by decide)]; exact d6, by rw [upd_ne' (by decide)]; exact d14, B 6, x1, ?_⟩⟩
    refine ⟨h.up.setCell (p := ⟨B 14, 0, none⟩) y3 _, fun k u hk hpk hdk => ?_, B, fun k hk hpk => ?_, fun k j hk hj pk pj hne => ?_⟩
    · rcases upd_or' hdk with rfl | ⟨e, hdk⟩
      · rw [hV] at hk; cases hk
      · exact h.pure k u hk hpk hdk
    · have h16 : k ≠ 16 := by rintro rfl; cases hpk
      rw [upd_ne' h16] at hk
      obtain ⟨c1, c2, c3⟩ := b1 k hk hpk
      refine ⟨c1, ?_, c3⟩
      by_cases e : k = 14
      · subst e
        exact c2.set 0 _
      · rw [show mkCs1 nS nF (B 6) k = mkCs nS nF k from if_neg e]
        exact c2.other (b2 k 14 hk d14 hpk rfl e) _
    · have h1 : k ≠ 16 := by rintro rfl; cases pk
      have h2 : j ≠ 16 := by rintro rfl; cases pj
      rw [upd_ne' h1] at hk
      rw [upd_ne' h2] at hj
      exact b2 k j hk hj pk pj hne
  · rw [hd] at h0; cases h0
end

section
variable {pT pF pS : Option Addr} {cT cF cS : Nat}
theorem bools_flat (l : List Bool) : (bools l).flatten = boolCells l := by
  unfold bools boolCells
  induction l with
  | nil => rfl
  | cons a r ih => simp [ih]
theorem Blk.bools {W : World} {g : Nat} {l : List Bool} (h : Blk W g (boolCells l) 4) : Row W (some ⟨g, 0, none⟩) 1 (bools l) :=
  RowBlk.row (Blk.row 1 (rows := Go.Proofs.Ytifcmbeejichdaa.bools l) (fun r hr => by
    simp only [Go.Proofs.Ytifcmbeejichdaa.bools, List.mem_map] at hr
    obtain ⟨x, -, rfl⟩ := hr; rfl) (by rw [bools_flat]; exact h))
set_option maxRecDepth 100000 in
set_option maxHeartbeats 4000000 in
theorem bank_c (bw : Nat) (s : Sd) (w : World) (hw : IsWork w bw s pT pF pS cT cF cS) (ok : Ok s) (h : Int) :
    Calls Try.prog 97 #[.pointer (some ⟨bw, 0, none⟩), .int .i64 h] w fun e w' => ∃ q1 d1 q2 d2, e = .returned (.tuple #[.slice q1 (bankV s h).1.length d1, .slice q2 (bankV s h).2.length d2]) ∧ Row w' q1 1 (ints (bankV s h).1) ∧ Row w' q2 1 (ints (bankV s h).2) ∧ Up w w' := by
  have f8 := ok.fl1
  have s16 := ok.sl
  have good := ok.good
  obtain ⟨i0, hi, hz0, hz1, hz2⟩ := info_parts infoB
  have HMS := Lib.hid (fun (u : World) => show (Instr.makeSlice 72 (.int .i64 (s.sills.length : Int)) (.int .i64 (s.sills.length : Int))).run Try.prog u =
      .ok (.slice (some ⟨u.heap.size, 0, none⟩) s.sills.length s.sills.length) (u.alloc (.cells (boolCells (List.replicate s.sills.length false)).toArray 4)) by
    have h := run_make (P := Try.prog) u 72 4 i0 (.bool false) Try.underlying72 hi hz0 .i64 .i64 (s.sills.length : Int) (s.sills.length : Int) (by omega) (by omega) (by rw [hz2]; omega) (by omega)
    rw [Int.toNat_natCast, hz1, Nat.mul_one] at h
    rw [← made_falses]
    exact h)
  have HMF := Lib.hid (fun (u : World) => show (Instr.makeSlice 72 (.int .i64 (s.floors.length : Int)) (.int .i64 (s.floors.length : Int))).run Try.prog u =
      .ok (.slice (some ⟨u.heap.size, 0, none⟩) s.floors.length s.floors.length) (u.alloc (.cells (boolCells (List.replicate s.floors.length false)).toArray 4)) by
    have h := run_make (P := Try.prog) u 72 4 i0 (.bool false) Try.underlying72 hi hz0 .i64 .i64 (s.floors.length : Int) (s.floors.length : Int) (by omega) (by omega) (by rw [hz2]; omega) (by omega)
    rw [Int.toNat_natCast, hz1, Nat.mul_one] at h
    rw [← made_falses]
    exact h)
  clear hi hz0 hz1 hz2
  have HW := Lib.hid hw
  have hb0 := cell_lt hw.sands.s3
  clear hw
  go_enter Try.func97, Try.ntmps97
  go_upto_region 1 with fail
  have BP : Hid (Blk ((w.alloc (.cells #[.pointer (some ⟨bw, 0, none⟩)] 134)).alloc (.cells #[.int .i64 h] 3)) w.heap.size [.pointer (some ⟨bw, 0, none⟩)] 134) := Lib.hid ((Blk.new w [.pointer (some ⟨bw, 0, none⟩)] _).alloc _)
  have BH : Hid (Blk ((w.alloc (.cells #[.pointer (some ⟨bw, 0, none⟩)] 134)).alloc (.cells #[.int .i64 h] 3)) (w.heap.size + 1) [.int .i64 h] 3) := Lib.hid (Blk.new' _ [.int .i64 h] _ (by simp))
  have U1 : Hid (Up w ((w.alloc (.cells #[.pointer (some ⟨bw, 0, none⟩)] 134)).alloc (.cells #[.int .i64 h] 3))) := Lib.hid (by (repeat (first | exact Below.refl _ _ | (with_reducible refine Below.drewN' ?_ _) | (with_reducible refine Below.drew ?_) | (with_reducible refine Below.setCell ?_ (by first | exact Nat.le_refl _ | omega | (with_reducible (repeat (first | refine sz_alloc ?_ | refine sz_setCell ?_ | refine sz_drew ?_ | refine sz_drewN ?_)); first | exact Nat.le_refl _ | omega) | (simp only [World.size_alloc, World.size_setCell, World.size_drew, size_drewN']; omega)) _) | (with_reducible refine Below.alloc ?_ (by first | exact Nat.le_refl _ | omega | (with_reducible (repeat (first | refine sz_alloc ?_ | refine sz_setCell ?_ | refine sz_drew ?_ | refine sz_drewN ?_)); first | exact Nat.le_refl _ | omega) | (simp only [World.size_alloc, World.size_setCell, World.size_drew, size_drewN']; omega)) _) | assumption)))
  have hs1 : w.heap.size ≤ ((w.alloc (.cells #[.pointer (some ⟨bw, 0, none⟩)] 134)).alloc (.cells #[.int .i64 h] 3)).heap.size := by simp; omega
  generalize ((w.alloc (.cells #[.pointer (some ⟨bw, 0, none⟩)] 134)).alloc (.cells #[.int .i64 h] 3)) = w1 at *
  go_cut [6, 7] (fun a b wx => ∃ b6 b7 gA gB, a = .pointer (some ⟨b6, 0, none⟩) ∧ b = .pointer (some ⟨b7, 0, none⟩) ∧ BankAt wx bw w.heap.size (w.heap.size + 1) b6 b7 gA gB h s.sills.length s.floors.length (List.replicate s.sills.length false) (List.replicate s.floors.length false) ∧ w.heap.size ≤ gA ∧ w.heap.size ≤ gB ∧ Up w wx)
  case first =>
    refine region_inv 17 (fun done a W => ∃ v0 v1 v2 v3 v4 v5 v6 v7 v8 v9 v10 v11 v12 v13 v14 v15, a = ⟨#[.pointer (some ⟨bw, 0, none⟩), .int .i64 h, .pointer (some ⟨w.heap.size, 0, none⟩), .pointer (some ⟨w.heap.size + 1, 0, none⟩), .slice none 0 0, .slice none 0 0, v14, v15, undef, undef, v0, v1, v2, v3, v4, v5, v6, v7, v8, v9, v10, v11, v12, v13, undef, undef, undef, undef, undef, undef, undef, undef, undef, undef, undef, undef, undef, undef, undef, undef, undef, undef, undef, undef, undef, undef, undef, undef, undef, undef, undef, undef], []⟩ ∧ BInv w1 s.sills.length s.floors.length [.pointer (some ⟨bw, 0, none⟩), .pointer (some ⟨bw, 0, none⟩), .pointer (some ⟨bw, 0, none⟩), .pointer (some ⟨bw, 4, none⟩), .slice pS s.sills.length cS, .int .i64 s.sills.length, undef, .pointer (some ⟨bw, 0, none⟩), .pointer (some ⟨bw, 0, none⟩), .pointer (some ⟨bw, 0, none⟩), .pointer (some ⟨bw, 3, none⟩), .slice pF s.floors.length cF, .int .i64 s.floors.length, undef, undef, undef] done W [v0, v1, v2, v3, v4, v5, v6, v7, v8, v9, v10, v11, v12, v13, v14, v15]) mixed (by kernel_rfl) ?_ ?_ ?_
    · exact ⟨_, _, _, _, _, _, _, _, _, _, _, _, _, _, _, _, rfl, BInv.start _ _⟩
    · intro done a W i o hi hd ho hall hinv
      obtain ⟨v0, v1, v2, v3, v4, v5, v6, v7, v8, v9, v10, v11, v12, v13, v14, v15, rfl, hC⟩ := hinv
      have HC := Lib.hid hC
      have HA := Lib.hid hall
      have HD := Lib.hid hd
      have wk := HW.out.up (Up.trans U1.out hC.up)
      have c1 := (BP.out.up hC.up).cell 0
      have c3 := wk.sands.s3
      have c4 := wk.sands.s4
      simp only [List.getElem?_cons_zero] at c1
      clear hC hall hd wk
      obtain rfl | rfl | rfl | rfl | rfl | rfl | rfl | rfl | rfl | rfl | rfl | rfl | rfl | rfl | rfl | rfl | rfl : i = 0 ∨ i = 1 ∨ i = 2 ∨ i = 3 ∨ i = 4 ∨ i = 5 ∨ i = 6 ∨ i = 7 ∨ i = 8 ∨ i = 9 ∨ i = 10 ∨ i = 11 ∨ i = 12 ∨ i = 13 ∨ i = 14 ∨ i = 15 ∨ i = 16 := by omega
      · clear ho HA
        refine wpOp_step rfl (fun K hK => ?_)
        rw [if_pos (by rfl)]
        have HK := Lib.hid hK
        clear hK
        go_simp
        exact HK.out _ _ ⟨_, _, _, _, _, _, _, _, _, _, _, _, _, _, _, _, rfl, HC.out.pureStep 0 rfl _ rfl⟩
      · have e0 : v0 = .pointer (some ⟨bw, 0, none⟩) := HC.out.pure 0 _ rfl rfl (HA.out ⟨0, .data⟩ (by cases ho; simp) rfl)
        clear ho HA
        subst e0
        refine wpOp_step rfl (fun K hK => ?_)
        rw [if_pos (by rfl)]
        have HK := Lib.hid hK
        clear hK
        go_simp
        exact HK.out _ _ ⟨_, _, _, _, _, _, _, _, _, _, _, _, _, _, _, _, rfl, HC.out.pureStep 1 rfl _ rfl⟩
      · have e1 : v1 = .pointer (some ⟨bw, 0, none⟩) := HC.out.pure 1 _ rfl rfl (HA.out ⟨1, .data⟩ (by cases ho; simp) rfl)
        clear ho HA
        subst e1
        refine wpOp_step rfl (fun K hK => ?_)
        rw [if_pos (by rfl)]
        have HK := Lib.hid hK
        clear hK
        go_simp
        exact HK.out _ _ ⟨_, _, _, _, _, _, _, _, _, _, _, _, _, _, _, _, rfl, HC.out.pureStep 2 rfl _ rfl⟩
      · have e2 : v2 = .pointer (some ⟨bw, 0, none⟩) := HC.out.pure 2 _ rfl rfl (HA.out ⟨2, .data⟩ (by cases ho; simp) rfl)
        clear ho HA
        subst e2
        refine wpOp_step rfl (fun K hK => ?_)
        rw [if_pos (by rfl)]
        have HK := Lib.hid hK
        clear hK
        go_simp
        exact HK.out _ _ ⟨_, _, _, _, _, _, _, _, _, _, _, _, _, _, _, _, rfl, HC.out.pureStep 3 rfl _ rfl⟩
      · have e3 : v3 = .pointer (some ⟨bw, 4, none⟩) := HC.out.pure 3 _ rfl rfl (HA.out ⟨3, .data⟩ (by cases ho; simp) rfl)
        clear ho HA
        subst e3
        refine wpOp_step rfl (fun K hK => ?_)
        rw [if_pos (by rfl)]
        have HK := Lib.hid hK
        clear hK
        go_simp
        exact HK.out _ _ ⟨_, _, _, _, _, _, _, _, _, _, _, _, _, _, _, _, rfl, HC.out.pureStep 4 rfl _ rfl⟩
      · have e4 : v4 = .slice pS s.sills.length cS := HC.out.pure 4 _ rfl rfl (HA.out ⟨4, .data⟩ (by cases ho; simp) rfl)
        clear ho HA
        subst e4
        refine wpOp_step rfl (fun K hK => ?_)
        rw [if_pos (by rfl)]
        have HK := Lib.hid hK
        clear hK
        go_simp
        exact HK.out _ _ ⟨_, _, _, _, _, _, _, _, _, _, _, _, _, _, _, _, rfl, HC.out.pureStep 5 rfl _ rfl⟩
      · have e5 : v5 = .int .i64 s.sills.length := HC.out.pure 5 _ rfl rfl (HA.out ⟨5, .data⟩ (by cases ho; simp) rfl)
        clear ho HA
        subst e5
        have hmk := HMS.out W
        refine wpOp_step rfl (fun K hK => ?_)
        rw [if_pos (by rfl)]
        have HK := Lib.hid hK
        clear hK
        go_simp
        exact HK.out _ _ ⟨_, _, _, _, _, _, _, _, _, _, _, _, _, _, _, _, rfl, HC.out.mkStep 6 rfl HD.out⟩
      · clear ho HA
        refine wpOp_step rfl (fun K hK => ?_)
        rw [if_pos (by rfl)]
        have HK := Lib.hid hK
        clear hK
        go_simp
        exact HK.out _ _ ⟨_, _, _, _, _, _, _, _, _, _, _, _, _, _, _, _, rfl, HC.out.pureStep 7 rfl _ rfl⟩
      · have e7 : v7 = .pointer (some ⟨bw, 0, none⟩) := HC.out.pure 7 _ rfl rfl (HA.out ⟨7, .data⟩ (by cases ho; simp) rfl)
        clear ho HA
        subst e7
        refine wpOp_step rfl (fun K hK => ?_)
        rw [if_pos (by rfl)]
        have HK := Lib.hid hK
        clear hK
        go_simp
        exact HK.out _ _ ⟨_, _, _, _, _, _, _, _, _, _, _, _, _, _, _, _, rfl, HC.out.pureStep 8 rfl _ rfl⟩
      · have e8 : v8 = .pointer (some ⟨bw, 0, none⟩) := HC.out.pure 8 _ rfl rfl (HA.out ⟨8, .data⟩ (by cases ho; simp) rfl)
        clear ho HA
        subst e8
        refine wpOp_step rfl (fun K hK => ?_)
        rw [if_pos (by rfl)]
        have HK := Lib.hid hK
        clear hK
        go_simp
        exact HK.out _ _ ⟨_, _, _, _, _, _, _, _, _, _, _, _, _, _, _, _, rfl, HC.out.pureStep 9 rfl _ rfl⟩
      · have e9 : v9 = .pointer (some ⟨bw, 0, none⟩) := HC.out.pure 9 _ rfl rfl (HA.out ⟨9, .data⟩ (by cases ho; simp) rfl)
        clear ho HA
        subst e9
        refine wpOp_step rfl (fun K hK => ?_)
        rw [if_pos (by rfl)]
        have HK := Lib.hid hK
        clear hK
        go_simp
        exact HK.out _ _ ⟨_, _, _, _, _, _, _, _, _, _, _, _, _, _, _, _, rfl, HC.out.pureStep 10 rfl _ rfl⟩
      · have e10 : v10 = .pointer (some ⟨bw, 3, none⟩) := HC.out.pure 10 _ rfl rfl (HA.out ⟨10, .data⟩ (by cases ho; simp) rfl)
        clear ho HA
        subst e10
        refine wpOp_step rfl (fun K hK => ?_)
        rw [if_pos (by rfl)]
        have HK := Lib.hid hK
        clear hK
        go_simp
        exact HK.out _ _ ⟨_, _, _, _, _, _, _, _, _, _, _, _, _, _, _, _, rfl, HC.out.pureStep 11 rfl _ rfl⟩
      · have e11 : v11 = .slice pF s.floors.length cF := HC.out.pure 11 _ rfl rfl (HA.out ⟨11, .data⟩ (by cases ho; simp) rfl)
        clear ho HA
        subst e11
        refine wpOp_step rfl (fun K hK => ?_)
        rw [if_pos (by rfl)]
        have HK := Lib.hid hK
        clear hK
        go_simp
        exact HK.out _ _ ⟨_, _, _, _, _, _, _, _, _, _, _, _, _, _, _, _, rfl, HC.out.pureStep 12 rfl _ rfl⟩
      · have e12 : v12 = .int .i64 s.floors.length := HC.out.pure 12 _ rfl rfl (HA.out ⟨12, .data⟩ (by cases ho; simp) rfl)
        clear ho HA
        subst e12
        have hmk := HMF.out W
        refine wpOp_step rfl (fun K hK => ?_)
        rw [if_pos (by rfl)]
        have HK := Lib.hid hK
        clear hK
        go_simp
        exact HK.out _ _ ⟨_, _, _, _, _, _, _, _, _, _, _, _, _, _, _, _, rfl, HC.out.mkStep 13 rfl HD.out⟩
      · clear ho HA
        refine wpOp_step rfl (fun K hK => ?_)
        rw [if_pos (by rfl)]
        have HK := Lib.hid hK
        clear hK
        go_simp
        exact HK.out _ _ ⟨_, _, _, _, _, _, _, _, _, _, _, _, _, _, _, _, rfl, HC.out.mkStep 14 rfl HD.out⟩
      · clear ho HA
        refine wpOp_step rfl (fun K hK => ?_)
        rw [if_pos (by rfl)]
        have HK := Lib.hid hK
        clear hK
        go_simp
        exact HK.out _ _ ⟨_, _, _, _, _, _, _, _, _, _, _, _, _, _, _, _, rfl, HC.out.mkStep 15 rfl HD.out⟩
      · have d6 := HA.out ⟨6, .data⟩ (by cases ho; simp) rfl
        have d14 := HA.out ⟨14, .data⟩ (by cases ho; simp) rfl
        obtain ⟨gA, b6, e6, e14, z2, hN⟩ := HC.out.at16 HD.out d6 d14
        replace e6 : v6 = _ := Option.some.inj e6
        replace e14 : v14 = _ := Option.some.inj e14
        have HN := Lib.hid hN
        have k0 := z2.cell 0
        have kf := z2.free
        have kl := z2.lt
        simp only [List.getElem?_cons_zero] at k0
        clear ho HA hN z2
        subst e6 e14
        refine wpOp_step rfl (fun K hK => ?_)
        rw [if_pos (by rfl)]
        have HK := Lib.hid hK
        clear hK
        go_simp
        exact HK.out _ _ ⟨_, _, _, _, _, _, _, _, _, _, _, _, _, _, _, _, rfl, HN.out⟩
    · rintro a W ⟨v0, v1, v2, v3, v4, v5, v6, v7, v8, v9, v10, v11, v12, v13, v14, v15, rfl, hC⟩
      rcases hC with ⟨h0, -⟩ | ⟨-, -, -, gA, e6, hC⟩
      · cases h0
      obtain ⟨B, b1, b2⟩ := hC.made
      have hu := hC.up
      obtain ⟨x1, x2, x3⟩ := b1 6 rfl rfl
      obtain ⟨y1, y2, y3⟩ := b1 13 rfl rfl
      obtain ⟨z1, z2, z3⟩ := b1 14 rfl rfl
      obtain ⟨t1, t2, t3⟩ := b1 15 rfl rfl
      have n1 := b2 6 13 rfl rfl rfl rfl (by decide)
      have n2 := b2 14 15 rfl rfl rfl rfl (by decide)
      rw [e6] at x1
      replace x1 : gA = B 6 := by
        have := Option.some.inj x1
        simp only [mkVal, if_pos, Value.slice.injEq, Option.some.injEq, Addr.mk.injEq, and_true] at this
        exact this
      replace e6 : v6 = .slice (some ⟨gA, 0, none⟩) s.sills.length s.sills.length := Option.some.inj e6
      replace y1 : v13 = .slice (some ⟨B 13, 0, none⟩) s.floors.length s.floors.length := Option.some.inj y1
      replace z1 : v14 = .pointer (some ⟨B 14, 0, none⟩) := Option.some.inj z1
      replace t1 : v15 = .pointer (some ⟨B 15, 0, none⟩) := Option.some.inj t1
      replace x2 : Blk W (B 6) (boolCells (List.replicate s.sills.length false)) 4 := x2
      replace y2 : Blk W (B 13) (boolCells (List.replicate s.floors.length false)) 4 := y2
      replace z2 : Blk W (B 14) [.slice (some ⟨gA, 0, none⟩) s.sills.length s.sills.length] 72 := z2
      replace t2 : Blk W (B 15) [.slice none 0 0] 72 := t2
      subst e6 y1 z1 t1
      rw [← x1] at x2 n1 x3
      clear b1 b2 hC x1
      generalize B 13 = gB at *
      generalize B 14 = b6 at *
      generalize B 15 = b7 at *
      change wpList _ _ _ [_] _ _
      have HBK : Hid (BankAt (W.setCell ⟨b7, 0, none⟩ (.slice (some ⟨gB, 0, none⟩) s.floors.length s.floors.length)) bw w.heap.size (w.heap.size + 1) b6 b7 gA gB h s.sills.length s.floors.length (List.replicate s.sills.length false) (List.replicate s.floors.length false)) := by
        have p1 := BP.out.up hu
        have p2 := BH.out.up hu
        exact ⟨p1.other (p1.ne t2 (by decide)) _, p2.other (p2.ne t2 (by decide)) _, z2.other n2 _, t2.set 0 _, x2.other (x2.ne t2 (by decide)) _, y2.other (y2.ne t2 (by decide)) _, n1⟩
      have HU : Hid (Up w (W.setCell ⟨b7, 0, none⟩ (.slice (some ⟨gB, 0, none⟩) s.floors.length s.floors.length))) :=
        (Up.trans U1.out hu).setCell (p := ⟨b7, 0, none⟩) (by simp only []; omega) _
      have k0 := z2.cell 0
      have kf := z2.free
      have kl := z2.lt
      have m0 := t2.cell 0
      have mf := t2.free
      have ml := t2.lt
      simp only [List.getElem?_cons_zero] at k0 m0
      have n2' := Ne.symm n2
      clear x2 y2 z2 t2 hu HMS HMF
      go_wp2_with fail
      go_meet
      exact ⟨b6, b7, gA, gB, rfl, rfl, HBK.out, by omega, by omega, HU.out⟩
  case rest =>
    obtain ⟨b6, b7, gA, gB, rfl, rfl, hbk, ga, gb, hu⟩ := hcut
    have BK := Lib.hid hbk
    have U2 := Lib.hid hu
    clear hbk hu BP BH U1 hs1 HMS HMF
    generalize wc = w2 at *
    have HL := Lib.hid (fun (W : World) (u : Up w W) (f : Int) (A B : List Bool) (lA : A.length = s.sills.length) (lB : B.length = s.floors.length) (hB : BankAt W bw w.heap.size (w.heap.size + 1) b6 b7 gA gB h s.sills.length s.floors.length A B) => leave_c bw s w W HW.out u f8 s16 good h w.heap.size (w.heap.size + 1) b6 b7 gA gB f A B lA lB hB ga gb)
    have lr : (List.replicate s.sills.length false).length = s.sills.length ∧ (List.replicate s.floors.length false).length = s.floors.length := ⟨by simp, by simp⟩
    go_wp2_with fail
    refine (HL.out w2 U2.out (-1) _ _ lr.1 lr.2 BK.out).mono ?_
    rintro e w3 ⟨rfl, u3, hbk⟩
    have U3 : Hid (Up w w3) := Below.trans U2.out u3
    have B3 := Lib.hid hbk
    have LN : Hid ((leaveW s h (List.replicate s.sills.length false, List.replicate s.floors.length false) (-1)).1.length = s.sills.length ∧ (leaveW s h (List.replicate s.sills.length false, List.replicate s.floors.length false) (-1)).2.length = s.floors.length) := by
      obtain ⟨e1, e2⟩ := banks_len (h := h) (leads s.sills s.floors.length (-1) s.sills.length) (List.replicate s.sills.length false, List.replicate s.floors.length false)
      exact ⟨e1.trans lr.1, e2.trans lr.2⟩
    have HBW : Hid (bankW s h = (List.range s.floors.length).foldl (leaveP s h) (leaveW s h (List.replicate s.sills.length false, List.replicate s.floors.length false) (-1))) := rfl
    generalize leaveW s h (List.replicate s.sills.length false, List.replicate s.floors.length false) (-1) = st0 at *
    clear hbk u3 BK U2 lr
    have c1 := B3.out.p.cell 0
    have s3 := (HW.out.up U3.out).sands.s3
    simp only [List.getElem?_cons_zero] at c1
    go_wp2_with fail
    go_loopw [9, 33] (fun _ i wr => ∃ (k : Nat) (st : List Bool × List Bool), k ≤ s.floors.length ∧ i = .int .i64 k ∧ st = (List.range k).foldl (leaveP s h) st0 ∧ st.1.length = s.sills.length ∧ st.2.length = s.floors.length ∧ BankAt wr bw w.heap.size (w.heap.size + 1) b6 b7 gA gB h s.sills.length s.floors.length st.1 st.2 ∧ Up w wr) (fun _ i _ => s.floors.length - (intOf i).toNat)
    case atStart => exact ⟨0, st0, Nat.zero_le _, rfl, rfl, LN.out.1, LN.out.2, B3.out, U3.out⟩
    case round =>
      obtain ⟨k, st, hk, rfl, hst, l1, l2, hb, hu⟩ := hrel
      have HST := Lib.hid hst
      have BK := Lib.hid hb
      have HU := Lib.hid hu
      have L12 := Lib.hid (And.intro l1 l2)
      clear hst hb c1 s3 l1 l2
      by_cases hlt : k < s.floors.length
      · have k1 : (k : Int) < s.floors.length := by omega
        have k8 : (k : Int) < 8 := by omega
        have c1 := BK.out.p.cell 0
        have c2 := BK.out.h.cell 0
        have c3 := (HW.out.up hu).gates k (by omega)
        simp only [List.getElem?_cons_zero] at c1 c2
        have HG := Lib.hid (show (gts s)[k]?.getD 0 = gateOf s k from rfl)
        have HN := Lib.hid (show (List.range (k + 1)).foldl (leaveP s h) st0 = leaveP s h st k by rw [List.range_succ, List.foldl_append, ← HST.out]; rfl)
        generalize (gts s)[k]?.getD 0 = gv at *
        clear hu
        by_cases hlow : gv < h
        · have HP : Hid (leaveP s h st k = leaveW s h st k) := by
            show _ = _
            unfold leaveP
            rw [if_pos (by rw [← HG.out]; exact hlow)]
          have l1 := BK.out.p.lt
          have l2 := BK.out.h.lt
          go_wp2_with fail
          go_quiet (fail)
          go_wp2_with fail
          refine (HL.out _ (Below.drewN' HU.out _) k st.1 st.2 L12.out.1 L12.out.2 (BK.out.up (Below.drewN' (Below.refl _ _) _))).mono ?_
          rintro e w5 ⟨rfl, u5, hb5⟩
          have U5 : Hid (Up w w5) := Below.trans (Below.drewN' HU.out _) u5
          have B5 := Lib.hid hb5
          obtain ⟨e1, e2⟩ := banks_len (h := h) (leads s.sills s.floors.length k s.sills.length) (st.1, st.2)
          have LL : Hid ((leaveW s h st k).1.length = s.sills.length ∧ (leaveW s h st k).2.length = s.floors.length) := ⟨e1.trans L12.out.1, e2.trans L12.out.2⟩
          clear hb5 u5 e1 e2
          go_wp2_with fail
          go_roundw
          case rel =>
            try ((repeat apply Exists.intro); refine ⟨?_, rfl⟩)
            exact ⟨k + 1, leaveW s h st k, hlt, by go_num, by rw [HN.out, HP.out], LL.out.1, LL.out.2, B5.out, U5.out⟩
          case measure => simp [intOf]; omega
        · have HP : Hid (leaveP s h st k = st) := by
            show _ = _
            unfold leaveP
            rw [if_neg (by rw [← HG.out]; exact hlow)]
          have l1 := BK.out.p.lt
          have l2 := BK.out.h.lt
          go_wp2_with fail
          go_quiet (fail)
          go_wp2_with fail
          go_roundw
          case rel =>
            try ((repeat apply Exists.intro); refine ⟨?_, rfl⟩)
            exact ⟨k + 1, st, hlt, by go_num, by rw [HN.out, HP.out], L12.out.1, L12.out.2, BK.out.up (Below.drewN' (Below.refl _ _) _), Below.drewN' HU.out _⟩
          case measure => simp [intOf]; omega
      · obtain rfl : k = s.floors.length := by omega
        have HF : Hid (bankW s h = st) := by show _ = _; rw [HBW.out, HST.out]
        have HV1 : Hid ((bankV s h).1 = markL st.1) := by show _ = _; unfold bankV; rw [HF.out]
        have HV2 : Hid ((bankV s h).2 = markL st.2) := by show _ = _; unfold bankV; rw [HF.out]
        have c1 := BK.out.c3.cell 0
        have c2 := BK.out.c4.cell 0
        simp only [List.getElem?_cons_zero] at c1 c2
        have l1 := BK.out.c3.lt
        have l2 := BK.out.c4.lt
        clear hu
        go_upto_region 10 with fail
        refine region_tail (fun W' => W'.cell? ⟨b6, 0, none⟩ = some (.slice (some ⟨gA, 0, none⟩) s.sills.length s.sills.length) ∧ W'.cell? ⟨b7, 0, none⟩ = some (.slice (some ⟨gB, 0, none⟩) s.floors.length s.floors.length)) 6 mixed (by kernel_rfl) ⟨c1, c2⟩ (fun hHeld => ?_)
        refine wpAnyG_take 0 48 (v := ?_) rfl rfl (by kernel_rfl) (fun _ _ _ h => h) (Or.inl ⟨by rfl, ?_⟩) (by assumption) ?_
        rotate_left
        · (intro w' hSw; (try dsimp only at hSw); go_split_ands; go_simp; try with_reducible rfl)
        try simp only [List.setIfInBounds_toArray, List.set_cons_zero, List.set_cons_succ]
        refine wpAnyG_take 2 50 (v := ?_) rfl rfl (by kernel_rfl) (fun _ _ _ h => h) (Or.inl ⟨by rfl, ?_⟩) (by assumption) ?_
        rotate_left
        · (intro w' hSw; (try dsimp only at hSw); go_split_ands; go_simp; try with_reducible rfl)
        try simp only [List.setIfInBounds_toArray, List.set_cons_zero, List.set_cons_succ]
        refine wpAnyG_do 1 rfl (by kernel_rfl) (fun K hK => ?_)
        rw [if_pos (by rfl)]
        go_simp
        have hM1 := marked_c st.1 (some ⟨gA, 0, none⟩) s.sills.length wr.drew (BK.out.a.up (Below.refl _ _).drew).bools (by rw [L12.out.1]; omega)
        rw [L12.out.1] at hM1
        refine hM1.mono ?_
        rintro e wa ⟨q1, d1, rfl, -, -, r1, v1⟩
        have v1' : Up wr wa := Up.trans ((Below.refl _ _).drew) v1
        refine hK.out _ _ ⟨v1'.cellAt c1, v1'.cellAt c2⟩ (fun hHeld => ?_)
        clear hK K hM1
        refine wpAnyG_do 3 rfl (by kernel_rfl) (fun K hK => ?_)
        rw [if_pos (by rfl)]
        go_simp
        have hM2 := marked_c st.2 (some ⟨gB, 0, none⟩) s.floors.length wa (BK.out.b.up v1').bools (by rw [L12.out.2]; omega)
        rw [L12.out.2] at hM2
        refine hM2.mono ?_
        rintro e wb ⟨q2, d2, rfl, -, -, r2, v2⟩
        have v2' : Up wr wb := Up.trans v1' v2
        refine hK.out _ _ ⟨v2'.cellAt c1, v2'.cellAt c2⟩ (fun hHeld => ?_)
        clear hK K hM2
        refine wpAnyG_take 4 4 (v := ?_) rfl rfl (by kernel_rfl) (fun _ _ _ h => h) (Or.inl ⟨by rfl, ?_⟩) (by assumption) ?_
        rotate_left
        · (intro w' hSw; (try dsimp only at hSw); go_split_ands; go_simp; try with_reducible rfl)
        try simp only [List.setIfInBounds_toArray, List.set_cons_zero, List.set_cons_succ]
        refine wpAnyG_take 5 5 (v := ?_) rfl rfl (by kernel_rfl) (fun _ _ _ h => h) (Or.inl ⟨by rfl, ?_⟩) (by assumption) ?_
        rotate_left
        · (intro w' hSw; (try dsimp only at hSw); go_split_ands; go_simp; try with_reducible rfl)
        try simp only [List.setIfInBounds_toArray, List.set_cons_zero, List.set_cons_succ]
        refine wpAnyG_tail (by kernel_rfl) ?_
        change wpList _ _ _ [] _ _
        have R1 := Lib.hid (r1.up v2)
        have R2 := Lib.hid r2
        have U9 := Lib.hid (Up.trans HU.out v2')
        clear hHeld r1 r2 v1 v2 v1' v2' c1 c2
        go_wp2_with fail
        go_ret2
        rw [HV1.out, HV2.out]
        exact ⟨q1, d1, q2, d2, rfl, R1.out, R2.out, U9.out⟩
end
end Go.Proofs.Ytifcmbeejichdaa
/- What the layer's Bank and the reference's Gate return. -/
namespace Go.Proofs.Ytifcmbeejichdaa
open Go.RowKit Go.Shelf
def bankX (s : Sd) (x : Int) : List Int × List Int := if errGate s x = 0 then bankV s (gateOf s x.toNat) else ([], [])
section
variable {pT pF pS : Option Addr} {cT cF cS : Nat}
set_option maxRecDepth 100000 in
set_option maxHeartbeats 4000000 in
theorem Bank_c (s : Sd) (x : Int) (w : World) (hl : Lists w s pT pF pS cT cF cS) :
    Calls Try.prog 32 #[sdVal s pT pF pS cT cF cS, .int .i64 x] w fun e w' => ∃ q1 d1 q2 d2, e = .returned (.tuple #[.slice q1 (bankX s x).1.length d1, .slice q2 (bankX s x).2.length d2, .int .i64 (errGate s x)]) ∧ Row w' q1 1 (ints (bankX s x).1) ∧ Row w' q2 1 (ints (bankX s x).2) ∧ Up w w' := by
  have HC := Lib.hid (fun W (u : Up w W) => beginGate_c s x W (hl.up u))
  clear hl
  by_cases hE : errGate s x = 0
  · obtain ⟨-, hc, hx0, hx8⟩ := errGate_zero' hE
    have hok := chk_ok hc
    obtain ⟨n, rfl⟩ := Int.eq_ofNat_of_zero_le hx0
    have HV := Lib.hid (show bankX s n = bankV s (gateOf s n) by unfold bankX; rw [if_pos hE, Int.toNat_natCast])
    rw [hE] at HC ⊢
    have HO := Lib.hid hok
    clear hok hE hc
    unfold sdVal at *
    go_enter Try.func32, Try.ntmps32
    go_wp2_with fail
    refine (HC.out _ (by (repeat (first | exact Below.refl _ _ | (with_reducible refine Below.drewN' ?_ _) | (with_reducible refine Below.drew ?_) | (with_reducible refine Below.setCell ?_ (by first | exact Nat.le_refl _ | omega | (with_reducible (repeat (first | refine sz_alloc ?_ | refine sz_setCell ?_ | refine sz_drew ?_ | refine sz_drewN ?_)); first | exact Nat.le_refl _ | omega) | (simp only [World.size_alloc, World.size_setCell, World.size_drew, size_drewN']; omega)) _) | (with_reducible refine Below.alloc ?_ (by first | exact Nat.le_refl _ | omega | (with_reducible (repeat (first | refine sz_alloc ?_ | refine sz_setCell ?_ | refine sz_drew ?_ | refine sz_drewN ?_)); first | exact Nat.le_refl _ | omega) | (simp only [World.size_alloc, World.size_setCell, World.size_drew, size_drewN']; omega)) _) | assumption)))).mono ?_
    rintro e w1 ⟨p, rfl, u1, hok⟩
    obtain ⟨bw, rfl, hW⟩ := hok rfl
    have U1 := Lib.hid (Up.trans (show Up w (w.alloc (.cells (sdCells s pT pF pS cT cF cS).toArray 28)) by (repeat (first | exact Below.refl _ _ | (with_reducible refine Below.drewN' ?_ _) | (with_reducible refine Below.drew ?_) | (with_reducible refine Below.setCell ?_ (by first | exact Nat.le_refl _ | omega | (with_reducible (repeat (first | refine sz_alloc ?_ | refine sz_setCell ?_ | refine sz_drew ?_ | refine sz_drewN ?_)); first | exact Nat.le_refl _ | omega) | (simp only [World.size_alloc, World.size_setCell, World.size_drew, size_drewN']; omega)) _) | (with_reducible refine Below.alloc ?_ (by first | exact Nat.le_refl _ | omega | (with_reducible (repeat (first | refine sz_alloc ?_ | refine sz_setCell ?_ | refine sz_drew ?_ | refine sz_drewN ?_)); first | exact Nat.le_refl _ | omega) | (simp only [World.size_alloc, World.size_setCell, World.size_drew, size_drewN']; omega)) _) | assumption))) u1)
    have HW := Lib.hid hW
    have c0 := hW.gates n (by omega)
    change _ = some (Value.int .i64 (gateOf s n)) at c0
    have lb := cell_lt c0
    have k1 : (n : Int) < 8 := by omega
    clear hok hW u1 HC
    go_wp2_with fail
    refine (bank_c bw s w1 HW.out HO.out (gateOf s n)).mono ?_
    rintro e w2 ⟨q1, d1, q2, d2, rfl, r1, r2, u2⟩
    have R1 := Lib.hid r1
    have R2 := Lib.hid r2
    have U2 := Lib.hid (Up.trans U1.out u2)
    clear r1 r2 u2
    go_wp2_with fail
    refine bodyPost_ret (v := .tuple #[.slice q1 (bankV s (gateOf s n)).1.length d1, .slice q2 (bankV s (gateOf s n)).2.length d2, .int .i64 0]) (by simp [results, Try.f32, go_sem]) rfl ?_
    rw [HV.out]
    exact ⟨q1, d1, q2, d2, rfl, R1.out, R2.out, U2.out⟩
  · have hne : (errGate s x != 0) = true := by rw [bne_iff_ne]; exact hE
    have HV := Lib.hid (show bankX s x = ([], []) by unfold bankX; rw [if_neg hE])
    clear hE
    unfold sdVal at *
    go_enter Try.func32, Try.ntmps32
    go_wp2_with fail
    refine (HC.out _ (by (repeat (first | exact Below.refl _ _ | (with_reducible refine Below.drewN' ?_ _) | (with_reducible refine Below.drew ?_) | (with_reducible refine Below.setCell ?_ (by first | exact Nat.le_refl _ | omega | (with_reducible (repeat (first | refine sz_alloc ?_ | refine sz_setCell ?_ | refine sz_drew ?_ | refine sz_drewN ?_)); first | exact Nat.le_refl _ | omega) | (simp only [World.size_alloc, World.size_setCell, World.size_drew, size_drewN']; omega)) _) | (with_reducible refine Below.alloc ?_ (by first | exact Nat.le_refl _ | omega | (with_reducible (repeat (first | refine sz_alloc ?_ | refine sz_setCell ?_ | refine sz_drew ?_ | refine sz_drewN ?_)); first | exact Nat.le_refl _ | omega) | (simp only [World.size_alloc, World.size_setCell, World.size_drew, size_drewN']; omega)) _) | assumption)))).mono ?_
    rintro e w1 ⟨p, rfl, u1, -⟩
    have U1 := Lib.hid (Up.trans (show Up w (w.alloc (.cells (sdCells s pT pF pS cT cF cS).toArray 28)) by (repeat (first | exact Below.refl _ _ | (with_reducible refine Below.drewN' ?_ _) | (with_reducible refine Below.drew ?_) | (with_reducible refine Below.setCell ?_ (by first | exact Nat.le_refl _ | omega | (with_reducible (repeat (first | refine sz_alloc ?_ | refine sz_setCell ?_ | refine sz_drew ?_ | refine sz_drewN ?_)); first | exact Nat.le_refl _ | omega) | (simp only [World.size_alloc, World.size_setCell, World.size_drew, size_drewN']; omega)) _) | (with_reducible refine Below.alloc ?_ (by first | exact Nat.le_refl _ | omega | (with_reducible (repeat (first | refine sz_alloc ?_ | refine sz_setCell ?_ | refine sz_drew ?_ | refine sz_drewN ?_)); first | exact Nat.le_refl _ | omega) | (simp only [World.size_alloc, World.size_setCell, World.size_drew, size_drewN']; omega)) _) | assumption))) u1)
    clear u1 HC
    go_wp2_with fail
    refine bodyPost_ret (v := .tuple #[.slice none 0 0, .slice none 0 0, .int .i64 (errGate s x)]) (by simp [results, Try.f32, go_sem]) rfl ?_
    rw [HV.out]
    exact ⟨none, 0, none, 0, rfl, Row.nil _ _ _, Row.nil _ _ _, U1.out⟩

end
end Go.Proofs.Ytifcmbeejichdaa
/- What the layer's functions follow and Crest return. -/
namespace Go.Proofs.Ytifcmbeejichdaa
open Go.RowKit Go.Shelf

section
variable {pT pF pS : Option Addr} {cT cF cS : Nat}
set_option maxRecDepth 100000 in
set_option maxHeartbeats 4000000 in
theorem follow_c (bw : Nat) (s : Sd) (way : List Int) (p : Option Addr) (c : Nat) (w : World) (ok : Ok s) (hw : SandsAt w bw 0 s pT pF pS cT cF cS) (hr : Row w p 1 (ints way)) (hm : way.length ≤ 10000) (ha : way.all (isSi s) = true) :
    Calls Try.prog 104 #[.pointer (some ⟨bw, 0, none⟩), .slice p way.length c] w fun e w' => e = .returned (.tuple #[.int .i64 (folV s way).1, .int .i64 (folV s way).2]) ∧ Up w w' := by
  have f8 := ok.fl1
  have s16 := ok.sl
  have OK := Lib.hid ok
  have HW := Lib.hid hw
  have HR := Lib.hid hr
  have HS := Lib.hid (fun W (u : Up w W) i t hI hT => step_c bw s W pT pF pS cT cF cS (hw.up u) (by simp [maxLen]; omega) (by simp [maxLen]; omega) i t hI hT)
  have GS : Hid (∀ i ∈ way, 0 ≤ i ∧ i < s.sills.length) := fun i hi => by have := inB_true.1 (List.all_eq_true.1 ha i hi); omega
  have lb := cell_lt hw.s3
  clear hw hr ha ok
  go_enter Try.func104, Try.ntmps104
  go_wp2_with fail
  have B8 : Hid (Blk (w.alloc (.cells #[.bool false, .bool false, .bool false, .bool false, .bool false, .bool false, .bool false, .bool false] 191)) w.heap.size (metB []) 191) := Lib.hid (Blk.new w (metB []) 191)
  have U0 : Hid (Up w (w.alloc (.cells #[.bool false, .bool false, .bool false, .bool false, .bool false, .bool false, .bool false, .bool false] 191))) := Lib.hid (by (repeat (first | exact Below.refl _ _ | (with_reducible refine Below.drewN' ?_ _) | (with_reducible refine Below.drew ?_) | (with_reducible refine Below.setCell ?_ (by first | exact Nat.le_refl _ | omega | (with_reducible (repeat (first | refine sz_alloc ?_ | refine sz_setCell ?_ | refine sz_drew ?_ | refine sz_drewN ?_)); first | exact Nat.le_refl _ | omega) | (simp only [World.size_alloc, World.size_setCell, World.size_drew, size_drewN']; omega)) _) | (with_reducible refine Below.alloc ?_ (by first | exact Nat.le_refl _ | omega | (with_reducible (repeat (first | refine sz_alloc ?_ | refine sz_setCell ?_ | refine sz_drew ?_ | refine sz_drewN ?_)); first | exact Nat.le_refl _ | omega) | (simp only [World.size_alloc, World.size_setCell, World.size_drew, size_drewN']; omega)) _) | assumption)))
  generalize (w.alloc (.cells #[.bool false, .bool false, .bool false, .bool false, .bool false, .bool false, .bool false, .bool false] 191)) = w0 at *
  have lw0 := B8.out.lt
  go_loopw [4, 5, 8, 9, 12] (fun e c _ _ i wr => ∃ (k : Nat) (M : List Int) (ev cv : Int), k ≤ way.length ∧ e = .int .i64 ev ∧ c = .int .i64 cv ∧ i = .int .i64 k ∧ folS s way [] (-1) 0 = folS s (way.drop k) M ev cv ∧ 0 ≤ cv ∧ Blk wr w.heap.size (metB M) 191 ∧ Up w wr) (fun _ _ _ _ i _ => way.length - (intOf i).toNat)
  case atStart => exact ⟨0, [], -1, 0, Nat.zero_le _, rfl, rfl, rfl, rfl, Int.le_refl _, B8.out, U0.out⟩
  case round =>
    obtain ⟨k, M, ev, cv, hk, rfl, rfl, rfl, ht, hc0, hb, hu⟩ := hrel
    have HT := Lib.hid ht
    have HU := Lib.hid hu
    have HB := Lib.hid hb
    clear ht hb B8 U0
    by_cases hlt : k < way.length
    · obtain ⟨b, off, rfl, d0⟩ := (HR.out.up hu).int k hlt
      have HD := Lib.hid (List.drop_eq_getElem_cons hlt)
      have hy := GS.out way[k] (List.getElem_mem hlt)
      have b1 : (k : Int) < (way.length : Int) := by omega
      generalize way[k] = y at *
      obtain ⟨n, rfl⟩ := Int.eq_ofNat_of_zero_le hy.1
      have hn : n < s.sills.length := by omega
      have b2 : (n : Int) < (s.sills.length : Int) := by omega
      obtain ⟨bs, os, rfl, e0, e1, e2⟩ := ((HW.out.up hu).rs).triple n hn
      have s4 := (HW.out.up hu).s4
      have HO := Lib.hid (other_rng OK.out n hn ev)
      have HSA := Lib.hid (sillAt_nat n hn)
      have HH := Lib.hid (OK.out.heights _ (List.getElem_mem hn))
      have HSW := Lib.hid (fun W (u : Up w W) t hT => HS.out W u n t hn hT)
      generalize s.sills[n] = sl at *
      obtain ⟨a, b', h⟩ := sl
      dsimp only at e0 e1 e2
      clear hy hu
      go_wp2_with fail
      refine (otherEnd_c a b' h ev _).mono ?_
      rintro e w2 ⟨rfl, hw2⟩
      have u2 : Up wr w2 := by rw [← hw2]; (repeat (first | exact Below.refl _ _ | (with_reducible refine Below.drewN' ?_ _) | (with_reducible refine Below.drew ?_) | (with_reducible refine Below.setCell ?_ (by first | exact Nat.le_refl _ | omega | (with_reducible (repeat (first | refine sz_alloc ?_ | refine sz_setCell ?_ | refine sz_drew ?_ | refine sz_drewN ?_)); first | exact Nat.le_refl _ | omega) | (simp only [World.size_alloc, World.size_setCell, World.size_drew, size_drewN']; omega)) _) | (with_reducible refine Below.alloc ?_ (by first | exact Nat.le_refl _ | omega | (with_reducible (repeat (first | refine sz_alloc ?_ | refine sz_setCell ?_ | refine sz_drew ?_ | refine sz_drewN ?_)); first | exact Nat.le_refl _ | omega) | (simp only [World.size_alloc, World.size_setCell, World.size_drew, size_drewN']; omega)) _) | assumption))
      have U2 := Lib.hid (Up.trans HU.out u2)
      have B2 := Lib.hid (HB.out.up u2)
      clear hw2 u2 e0 e1 e2 s4 d0 HB
      have HO' := HO.out
      have HG := Lib.hid (folS_go (s := s) (i := (n : Int)) (r := way.drop (k + 1)) (M := M) (e := ev) (c := cv))
      have HP := Lib.hid (folS_stop (s := s) (i := (n : Int)) (r := way.drop (k + 1)) (M := M) (e := ev) (c := cv))
      rw [HSA.out] at HG HP
      generalize other (a, b', h) ev = ov at *
      rcases HO' with rfl | ⟨t, rfl, ht⟩
      · have HX : Hid (folV s way = (-1, 0)) := by
          show _ = _
          unfold folV
          rw [HT.out, HD.out, HP.out (.inl rfl)]
          rfl
        go_wp2_with fail
        go_ret2
        rw [HX.out]
        exact ⟨rfl, U2.out⟩
      · have ht8 : t < 8 := by omega
        have g1 : ((t : Int) == -1) = false := beq_eq_false_iff_ne.2 (by omega)
        have g2 : (t : Int) < 8 := by omega
        have k1 := B2.out.cell t
        rw [metB_get _ _ ht8] at k1
        have k2 := B2.out.free
        have k3 := B2.out.lt
        by_cases hm : (t : Int) ∈ M
        · rw [decide_eq_true hm] at k1
          have HX : Hid (folV s way = (-1, 0)) := by
            show _ = _
            unfold folV
            rw [HT.out, HD.out, HP.out (.inr hm)]
            rfl
          clear hm
          go_wp2_with fail
          go_ret2
          rw [HX.out]
          exact ⟨rfl, U2.out⟩
        · rw [decide_eq_false hm] at k1
          have HX : Hid (folS s way [] (-1) 0 = folS s (way.drop (k + 1)) (M ++ [(t : Int)]) t (max cv (max h (flAt s t)))) := by
            show _ = _
            rw [HT.out, HD.out, HG.out (by rintro (h | h); omega; exact hm h)]
          rw [flAt_nat t ht] at HX
          clear hm HP HG
          go_wp2_with fail
          refine Calls.world ?_
          intro w3 hw3
          have B3 : Hid (Blk w3 w.heap.size (metB (M ++ [(t : Int)])) 191) := by
            show Blk _ _ _ _
            rw [← metB_set _ _ ht8, hw3]
            exact B2.out.set t _
          have U3 : Hid (Up w w3) := by
            show Up _ _
            rw [hw3]
            exact U2.out.setCell (by simp) _
          clear hw3 k1 k2 k3 B2 U2
          refine (HSW.out w3 U3.out t ht).mono ?_
          rintro e w4 ⟨rfl, u⟩
          have U4 := Lib.hid (Up.trans U3.out u)
          have B4 := Lib.hid (B3.out.up u)
          clear u B3 U3 HSW
          have HM : Hid (grt [cv, grt [h, s.floors[t]]] = max cv (max h s.floors[t])) := by
            show _ = _
            rw [grt2, grt2]
            have := HH.out
            omega
          have HN : Hid (0 ≤ max cv (max h s.floors[t])) := by
            show _ ≤ _
            omega
          generalize grt [h, s.floors[t]] = gv at *
          go_wp2_with fail
          refine (greatest_c (some ⟨w4.heap.size, 0, none⟩) 2 [cv, gv] _ (Row.lit w4 [cv, gv] _) (by simp [maxLen])).mono ?_
          rintro e w5 ⟨rfl, hw5⟩
          have u5 : Up w4 w5 := by rw [← hw5]; (repeat (first | exact Below.refl _ _ | (with_reducible refine Below.drewN' ?_ _) | (with_reducible refine Below.drew ?_) | (with_reducible refine Below.setCell ?_ (by first | exact Nat.le_refl _ | omega | (with_reducible (repeat (first | refine sz_alloc ?_ | refine sz_setCell ?_ | refine sz_drew ?_ | refine sz_drewN ?_)); first | exact Nat.le_refl _ | omega) | (simp only [World.size_alloc, World.size_setCell, World.size_drew, size_drewN']; omega)) _) | (with_reducible refine Below.alloc ?_ (by first | exact Nat.le_refl _ | omega | (with_reducible (repeat (first | refine sz_alloc ?_ | refine sz_setCell ?_ | refine sz_drew ?_ | refine sz_drewN ?_)); first | exact Nat.le_refl _ | omega) | (simp only [World.size_alloc, World.size_setCell, World.size_drew, size_drewN']; omega)) _) | assumption))
          have U5 := Lib.hid (Up.trans U4.out u5)
          have B5 := Lib.hid (B4.out.up u5)
          clear hw5 u5 B4 U4
          rw [HM.out]
          go_wp2_with fail
          go_roundw
          case rel =>
            try ((repeat apply Exists.intro); refine ⟨?_, rfl⟩)
            exact ⟨k + 1, M ++ [(t : Int)], t, _, hlt, rfl, rfl, by go_num, HX.out, HN.out, B5.out, U5.out⟩
          case measure => simp [intOf]; omega
    · obtain rfl : k = way.length := by omega
      have HX : Hid (folV s way = (ev, cv)) := by
        show _ = _
        unfold folV
        rw [HT.out, List.drop_eq_nil_of_le (Nat.le_refl _)]
        rfl
      clear hu
      go_wp2_with fail
      go_ret2
      rw [HX.out]
      exact ⟨rfl, HU.out⟩

set_option maxRecDepth 100000 in
set_option maxHeartbeats 4000000 in
theorem Crest_c (s : Sd) (x : Int) (way : List Int) (p : Option Addr) (c : Nat) (w : World) (hl : Lists w s pT pF pS cT cF cS) (h1 : Row w p 1 (ints way)) (l1 : way.length ≤ 10000) :
    Calls Try.prog 36 #[sdVal s pT pF pS cT cF cS, .int .i64 x, .slice p way.length c] w fun e w' => e = .returned (.tuple #[.int .i64 (crestV s x way), .int .i64 (errCrest s x way)]) ∧ Up w w' := by
  have HC := Lib.hid (fun W (u : Up w W) => beginFor_c s x W (hl.up u))
  have H1 := Lib.hid h1
  have HV : Hid (errCrest s x way ≠ 0 → crestV s x way = 0) := fun h => by unfold crestV; rw [if_neg h]
  have hml : way.length ≤ maxLen := by simp only [maxLen]; omega
  clear hl h1
  by_cases hE : errFor s x = 0
  · have hc : chk s = 0 := by
      unfold errFor at hE
      by_cases hk : chk s = 0
      · exact hk
      · rw [if_neg hk] at hE; exact absurd hE hk
    have hok := chk_ok hc
    have m2 := hok.fl1
    have m3 := hok.sl
    have HO := Lib.hid hok
    have HE := Lib.hid (show errCrest s x way = if way.all (isSi s) = true then (if (folV s way).1 = x then 0 else 8) else 1 by unfold errCrest; rw [if_pos hE])
    rw [hE] at HC
    clear hok hE hc
    unfold sdVal at *
    go_enter Try.func36, Try.ntmps36
    go_wp2_with fail
    refine (HC.out _ (by (repeat (first | exact Below.refl _ _ | (with_reducible refine Below.drewN' ?_ _) | (with_reducible refine Below.drew ?_) | (with_reducible refine Below.setCell ?_ (by first | exact Nat.le_refl _ | omega | (with_reducible (repeat (first | refine sz_alloc ?_ | refine sz_setCell ?_ | refine sz_drew ?_ | refine sz_drewN ?_)); first | exact Nat.le_refl _ | omega) | (simp only [World.size_alloc, World.size_setCell, World.size_drew, size_drewN']; omega)) _) | (with_reducible refine Below.alloc ?_ (by first | exact Nat.le_refl _ | omega | (with_reducible (repeat (first | refine sz_alloc ?_ | refine sz_setCell ?_ | refine sz_drew ?_ | refine sz_drewN ?_)); first | exact Nat.le_refl _ | omega) | (simp only [World.size_alloc, World.size_setCell, World.size_drew, size_drewN']; omega)) _) | assumption)))).mono ?_
    rintro e w1 ⟨q, rfl, u1, hok⟩
    obtain ⟨bw, rfl, hW⟩ := hok rfl
    have U1 := Lib.hid (Up.trans (show Up w (w.alloc (.cells (sdCells s pT pF pS cT cF cS).toArray 28)) by (repeat (first | exact Below.refl _ _ | (with_reducible refine Below.drewN' ?_ _) | (with_reducible refine Below.drew ?_) | (with_reducible refine Below.setCell ?_ (by first | exact Nat.le_refl _ | omega | (with_reducible (repeat (first | refine sz_alloc ?_ | refine sz_setCell ?_ | refine sz_drew ?_ | refine sz_drewN ?_)); first | exact Nat.le_refl _ | omega) | (simp only [World.size_alloc, World.size_setCell, World.size_drew, size_drewN']; omega)) _) | (with_reducible refine Below.alloc ?_ (by first | exact Nat.le_refl _ | omega | (with_reducible (repeat (first | refine sz_alloc ?_ | refine sz_setCell ?_ | refine sz_drew ?_ | refine sz_drewN ?_)); first | exact Nat.le_refl _ | omega) | (simp only [World.size_alloc, World.size_setCell, World.size_drew, size_drewN']; omega)) _) | assumption))) u1)
    have HW := Lib.hid hW
    clear hok hW u1 HC
    go_wp2_with fail
    refine (everyInt_c 103 #[.pointer (some ⟨bw, 0, none⟩)] #[] p c way (isSi s) _ (H1.out.up U1.out) hml en_isSill (fun y _ W u => (isSill_c bw _ _ _ y W (HW.out.up u).sands.s4 (by simp only [maxLen]; omega)).mono fun e w' ⟨h, k⟩ => ⟨h, k ▸ Below.refl _ _⟩)).mono ?_
    rintro e w2 ⟨rfl, u2⟩
    have U2 := Lib.hid (Up.trans U1.out u2)
    have HW2 := Lib.hid (HW.out.up u2)
    clear u2 HW
    cases ha : way.all (isSi s) with
    | false =>
      have HX := Lib.hid (show errCrest s x way = 1 by rw [HE.out, ha]; rfl)
      have HY := Lib.hid (HV.out (by rw [HX.out]; decide))
      clear ha
      go_wp2_with fail
      go_ret2
      rw [HX.out, HY.out]
      exact ⟨rfl, U2.out⟩
    | true =>
      have HX := Lib.hid (show errCrest s x way = if (folV s way).1 = x then 0 else 8 by rw [HE.out, ha]; rfl)
      have HA := Lib.hid ha
      clear ha
      go_wp2_with fail
      refine (follow_c bw s way p c w2 HO.out HW2.out.sands (H1.out.up U2.out) l1 HA.out).mono ?_
      rintro e w3 ⟨rfl, u3⟩
      have U3 := Lib.hid (Up.trans U2.out u3)
      clear u3
      have HF : Hid (∀ z, folV s way = z → z.1 = x → crestV s x way = z.2) := fun z hz hx => by
        subst hz
        unfold crestV
        rw [HX.out, if_pos hx]
        rfl
      generalize folV s way = z at *
      obtain ⟨ev, cv⟩ := z
      dsimp only at HX ⊢
      by_cases he : ev = x
      · have HX' := Lib.hid (show errCrest s x way = 0 by rw [HX.out, if_pos he])
        have HY := Lib.hid (HF.out _ rfl he)
        have n1 : (ev != x) = false := by rw [he]; simp
        clear he
        go_wp2_with fail
        go_ret2
        rw [HX'.out, HY.out]
        exact ⟨rfl, U3.out⟩
      · have HX' := Lib.hid (show errCrest s x way = 8 by rw [HX.out, if_neg he])
        have HY := Lib.hid (HV.out (by rw [HX'.out]; decide))
        have n1 : (ev != x) = true := by rw [bne_iff_ne]; exact he
        clear he
        go_wp2_with fail
        go_ret2
        rw [HX'.out, HY.out]
        exact ⟨rfl, U3.out⟩
  · have hne : (errFor s x != 0) = true := by rw [bne_iff_ne]; exact hE
    have HX := Lib.hid (show errCrest s x way = errFor s x by unfold errCrest; rw [if_neg hE])
    have HY := Lib.hid (HV.out (by rw [HX.out]; exact hE))
    clear hE
    unfold sdVal at *
    go_enter Try.func36, Try.ntmps36
    go_wp2_with fail
    refine (HC.out _ (by (repeat (first | exact Below.refl _ _ | (with_reducible refine Below.drewN' ?_ _) | (with_reducible refine Below.drew ?_) | (with_reducible refine Below.setCell ?_ (by first | exact Nat.le_refl _ | omega | (with_reducible (repeat (first | refine sz_alloc ?_ | refine sz_setCell ?_ | refine sz_drew ?_ | refine sz_drewN ?_)); first | exact Nat.le_refl _ | omega) | (simp only [World.size_alloc, World.size_setCell, World.size_drew, size_drewN']; omega)) _) | (with_reducible refine Below.alloc ?_ (by first | exact Nat.le_refl _ | omega | (with_reducible (repeat (first | refine sz_alloc ?_ | refine sz_setCell ?_ | refine sz_drew ?_ | refine sz_drewN ?_)); first | exact Nat.le_refl _ | omega) | (simp only [World.size_alloc, World.size_setCell, World.size_drew, size_drewN']; omega)) _) | assumption)))).mono ?_
    rintro e w1 ⟨q, rfl, u1, -⟩
    have U1 := Lib.hid (Up.trans (show Up w (w.alloc (.cells (sdCells s pT pF pS cT cF cS).toArray 28)) by (repeat (first | exact Below.refl _ _ | (with_reducible refine Below.drewN' ?_ _) | (with_reducible refine Below.drew ?_) | (with_reducible refine Below.setCell ?_ (by first | exact Nat.le_refl _ | omega | (with_reducible (repeat (first | refine sz_alloc ?_ | refine sz_setCell ?_ | refine sz_drew ?_ | refine sz_drewN ?_)); first | exact Nat.le_refl _ | omega) | (simp only [World.size_alloc, World.size_setCell, World.size_drew, size_drewN']; omega)) _) | (with_reducible refine Below.alloc ?_ (by first | exact Nat.le_refl _ | omega | (with_reducible (repeat (first | refine sz_alloc ?_ | refine sz_setCell ?_ | refine sz_drew ?_ | refine sz_drewN ?_)); first | exact Nat.le_refl _ | omega) | (simp only [World.size_alloc, World.size_setCell, World.size_drew, size_drewN']; omega)) _) | assumption))) u1)
    clear u1 HC
    go_wp2_with fail
    go_ret2
    rw [HX.out, HY.out]
    exact ⟨rfl, U1.out⟩
end
end Go.Proofs.Ytifcmbeejichdaa
namespace Go.Proofs.Ytifcmbeejichdaa
open Go.RowKit Go.Shelf

section
variable {pT pF pS : Option Addr} {cT cF cS : Nat}
theorem h91 (w : World) (hl : Lists w two pT pF pS cT cF cS) : Calls Try.prog 25 #[sdVal two pT pF pS cT cF cS, .int .i64 91] w fun e w' => e = .returned (.tuple #[.int .i64 175, .int .i64 0]) ∧ Up w w' := by
  have h := Height_c two 91 w hl
  rwa [v_h1.1, v_h1.2] at h
theorem h400 (w : World) (hl : Lists w two pT pF pS cT cF cS) : Calls Try.prog 25 #[sdVal two pT pF pS cT cF cS, .int .i64 400] w fun e w' => e = .returned (.tuple #[.int .i64 370, .int .i64 0]) ∧ Up w w' := by
  have h := Height_c two 400 w hl
  rwa [v_h2.1, v_h2.2] at h
theorem g1 (w : World) (hl : Lists w two pT pF pS cT cF cS) : Calls Try.prog 30 #[sdVal two pT pF pS cT cF cS, .int .i64 1] w fun e w' => e = .returned (.tuple #[.int .i64 220, .int .i64 0]) ∧ Up w w' := by
  have h := Gate_c two 1 w hl
  rwa [v_g.1, v_g.2] at h
theorem t00 (w : World) (hl : Lists w two pT pF pS cT cF cS) : Calls Try.prog 63 #[sdVal two pT pF pS cT cF cS, .int .i64 0, .int .i64 0] w fun e w' => e = .returned (.tuple #[.int .i64 97, .int .i64 0]) ∧ Up w w' := by
  have h := Turn_c two 0 0 w hl
  rwa [v_t.1, v_t.2] at h
theorem w1' (w : World) (hl : Lists w two pT pF pS cT cF cS) : Calls Try.prog 31 #[sdVal two pT pF pS cT cF cS, .int .i64 1] w fun e w' => ∃ p, e = .returned (.tuple #[.slice p 2 2, .int .i64 0]) ∧ Row w' p 1 (ints [0, 1]) ∧ Up w w' := by
  have h := Way_c two 1 w hl
  rw [v_w, v_g.2] at h
  exact h.mono fun e w' ⟨p, h1, h2, _, h3⟩ => ⟨p, h1, h2, h3⟩
theorem a150 (w : World) (hl : Lists w two pT pF pS cT cF cS) : Calls Try.prog 42 #[sdVal two pT pF pS cT cF cS, .int .i64 150] w fun e w' => ∃ p c, e = .returned (.tuple #[.slice p 2 c, .int .i64 0]) ∧ Row w' p 1 (ints [2, 1]) ∧ Up w w' := by
  have h := All_c two 150 w hl
  rw [v_a.1, v_a.2] at h
  exact h.mono fun e w' ⟨p, c, h1, _, _, h2, h3⟩ => ⟨p, c, h1, h2, h3⟩
theorem l1 (p : Option Addr) (c : Nat) (w : World) (hl : Lists w two pT pF pS cT cF cS) (hr : Row w p 3 (lrows [(120, 0, true)])) : Calls Try.prog 54 #[sdVal two pT pF pS cT cF cS, .slice p 1 c] w fun e w' => e = .returned (.tuple #[.agg #[.int .i64 1, .int .i64 20], .int .i64 0]) ∧ Up w w' := by
  have h := Looks_c two [(120, 0, true)] p c w hl hr (by decide)
  rwa [v_l.1, v_l.2] at h
end

set_option maxRecDepth 100000 in
set_option maxHeartbeats 4000000 in
theorem awake_c (w : World) : Calls Try.prog 20 #[] w fun e w' => e = .returned (.bool true) ∧ Up w w' := by
  go_enter Try.func20, Try.ntmps20
  go_wp2_with fail
  refine (two_c _).mono ?_
  rintro e w1 ⟨b1, rfl, k1, u1⟩
  go_wp2_with fail
  refine (h91 _ k1).mono ?_
  rintro e w2 ⟨rfl, u2⟩
  go_wp2_with fail
  refine (two_c _).mono ?_
  rintro e w3 ⟨b3, rfl, k3, u3⟩
  go_wp2_with fail
  refine (h400 _ k3).mono ?_
  rintro e w4 ⟨rfl, u4⟩
  have U4 := Lib.hid (Up.trans u1 (Up.trans u2 (Up.trans u3 u4)))
  clear u1 u2 u3 u4 k1 k3
  go_wp2_with fail
  refine (two_c _).mono ?_
  rintro e w5 ⟨b5, rfl, k5, u5⟩
  go_wp2_with fail
  refine (g1 _ k5).mono ?_
  rintro e w6 ⟨rfl, u6⟩
  go_wp2_with fail
  refine (two_c _).mono ?_
  rintro e w7 ⟨b7, rfl, k7, u7⟩
  go_wp2_with fail
  refine (t00 _ k7).mono ?_
  rintro e w8 ⟨rfl, u8⟩
  have U8 := Lib.hid (Up.trans U4.out (Up.trans u5 (Up.trans u6 (Up.trans u7 u8))))
  clear u5 u6 u7 u8 k5 k7 U4
  go_wp2_with fail
  refine (two_c _).mono ?_
  rintro e w9 ⟨b9, rfl, k9, u9⟩
  go_wp2_with fail
  refine (w1' _ k9).mono ?_
  rintro e w10 ⟨p10, rfl, r10, u10⟩
  have U10 := Lib.hid (Up.trans U8.out (Up.trans u9 u10))
  have R10 := Lib.hid r10
  clear u9 u10 k9 U8 r10
  go_wp2_with fail
  refine (two_c _).mono ?_
  rintro e w11 ⟨b11, rfl, k11, u11⟩
  have R11 := Lib.hid (R10.out.up u11)
  have U11 := Lib.hid (Up.trans U10.out u11)
  have K11 := Lib.hid k11
  clear u11 k11 R10 U10
  go_wp2_with fail
  refine Calls.world ?_
  intro w12 hw12
  have u12 : Up w11 w12 := by rw [hw12]; (repeat (first | exact Below.refl _ _ | (with_reducible refine Below.drewN' ?_ _) | (with_reducible refine Below.drew ?_) | (with_reducible refine Below.setCell ?_ (by first | exact Nat.le_refl _ | omega | (with_reducible (repeat (first | refine sz_alloc ?_ | refine sz_setCell ?_ | refine sz_drew ?_ | refine sz_drewN ?_)); first | exact Nat.le_refl _ | omega) | (simp only [World.size_alloc, World.size_setCell, World.size_drew, size_drewN']; omega)) _) | (with_reducible refine Below.alloc ?_ (by first | exact Nat.le_refl _ | omega | (with_reducible (repeat (first | refine sz_alloc ?_ | refine sz_setCell ?_ | refine sz_drew ?_ | refine sz_drewN ?_)); first | exact Nat.le_refl _ | omega) | (simp only [World.size_alloc, World.size_setCell, World.size_drew, size_drewN']; omega)) _) | assumption))
  have r12 : Row w12 (some ⟨w11.heap.size, 0, none⟩) 1 (ints [1]) := by rw [hw12]; exact Row.lit w11 [1] _
  clear hw12
  refine (hold_two _ _ _ _ _ _ _ _ w12 (K11.out.up u12) r12).mono ?_
  rintro e w13 ⟨rfl, u13⟩
  have R13 := Lib.hid ((R11.out.up u12).up u13)
  have U13 := Lib.hid (Up.trans U11.out (Up.trans u12 u13))
  clear u12 u13 r12 K11 R11 U11
  go_wp2_with fail
  refine (two_c _).mono ?_
  rintro e w14 ⟨b14, rfl, k14, u14⟩
  go_wp2_with fail
  refine (a150 _ k14).mono ?_
  rintro e w15 ⟨p15, c15, rfl, r15, u15⟩
  have R15 := Lib.hid ((R13.out.up u14).up u15)
  have S15 := Lib.hid r15
  have U15 := Lib.hid (Up.trans U13.out (Up.trans u14 u15))
  clear u14 u15 r15 k14 R13 U13
  go_wp2_with fail
  refine (two_c _).mono ?_
  rintro e w16 ⟨b16, rfl, k16, u16⟩
  have R16 := Lib.hid (R15.out.up u16)
  have S16 := Lib.hid (S15.out.up u16)
  have U16 := Lib.hid (Up.trans U15.out u16)
  have K16 := Lib.hid k16
  clear u16 k16 R15 S15 U15
  go_wp2_with fail
  refine Calls.world ?_
  intro w17 hw17
  have u17 : Up w16 w17 := by rw [hw17]; (repeat (first | exact Below.refl _ _ | (with_reducible refine Below.drewN' ?_ _) | (with_reducible refine Below.drew ?_) | (with_reducible refine Below.setCell ?_ (by first | exact Nat.le_refl _ | omega | (with_reducible (repeat (first | refine sz_alloc ?_ | refine sz_setCell ?_ | refine sz_drew ?_ | refine sz_drewN ?_)); first | exact Nat.le_refl _ | omega) | (simp only [World.size_alloc, World.size_setCell, World.size_drew, size_drewN']; omega)) _) | (with_reducible refine Below.alloc ?_ (by first | exact Nat.le_refl _ | omega | (with_reducible (repeat (first | refine sz_alloc ?_ | refine sz_setCell ?_ | refine sz_drew ?_ | refine sz_drewN ?_)); first | exact Nat.le_refl _ | omega) | (simp only [World.size_alloc, World.size_setCell, World.size_drew, size_drewN']; omega)) _) | assumption))
  have r17 : Row w17 (some ⟨w16.heap.size, 0, none⟩) 3 (lrows [(120, 0, true)]) := by rw [hw17]; exact Row.of_flat rfl (Blk.new w16 (lrows [(120, 0, true)]).flatten _)
  clear hw17
  refine (l1 _ _ w17 (K16.out.up u17) r17).mono ?_
  rintro e w18 ⟨rfl, u18⟩
  have R18 := Lib.hid ((R16.out.up u17).up u18)
  have S18 := Lib.hid ((S16.out.up u17).up u18)
  have U18 := Lib.hid (Up.trans U16.out (Up.trans u17 u18))
  clear u17 u18 r17 K16 R16 S16 U16
  go_wp2_with fail
  refine Calls.world ?_
  intro w19 hw19
  have u19 : Up w18 w19 := by rw [hw19]; (repeat (first | exact Below.refl _ _ | (with_reducible refine Below.drewN' ?_ _) | (with_reducible refine Below.drew ?_) | (with_reducible refine Below.setCell ?_ (by first | exact Nat.le_refl _ | omega | (with_reducible (repeat (first | refine sz_alloc ?_ | refine sz_setCell ?_ | refine sz_drew ?_ | refine sz_drewN ?_)); first | exact Nat.le_refl _ | omega) | (simp only [World.size_alloc, World.size_setCell, World.size_drew, size_drewN']; omega)) _) | (with_reducible refine Below.alloc ?_ (by first | exact Nat.le_refl _ | omega | (with_reducible (repeat (first | refine sz_alloc ?_ | refine sz_setCell ?_ | refine sz_drew ?_ | refine sz_drewN ?_)); first | exact Nat.le_refl _ | omega) | (simp only [World.size_alloc, World.size_setCell, World.size_drew, size_drewN']; omega)) _) | assumption))
  have hz : Blk w19 w18.heap.size [.int .i64 1, .int .i64 20] 24 := by rw [hw19]; exact (Blk.new w18 _ _).alloc _
  have r19 : Row w19 (some ⟨w18.heap.size + 1, 0, none⟩) 1 (ints [0, 1]) := by rw [hw19]; exact Row.of_flat rfl (Blk.new' (w18.alloc _) (ints [0, 1]).flatten _ (by simp))
  clear hw19
  refine (eqInt_c [0, 1] [0, 1] _ _ _ _ w19 (R18.out.up u19) r19 (by decide) (by decide)).mono ?_
  rintro e w20 ⟨rfl, u20⟩
  have S20 := Lib.hid ((S18.out.up u19).up u20)
  have U20 := Lib.hid (Up.trans U18.out (Up.trans u19 u20))
  have Z20 := Lib.hid (hz.up u20)
  clear u19 u20 hz r19 R18 S18 U18
  rw [show decide (([0, 1] : List Int) = [0, 1]) = true by decide]
  go_wp2_with fail
  refine Calls.world ?_
  intro w21 hw21
  have u21 : Up w20 w21 := by rw [hw21]; (repeat (first | exact Below.refl _ _ | (with_reducible refine Below.drewN' ?_ _) | (with_reducible refine Below.drew ?_) | (with_reducible refine Below.setCell ?_ (by first | exact Nat.le_refl _ | omega | (with_reducible (repeat (first | refine sz_alloc ?_ | refine sz_setCell ?_ | refine sz_drew ?_ | refine sz_drewN ?_)); first | exact Nat.le_refl _ | omega) | (simp only [World.size_alloc, World.size_setCell, World.size_drew, size_drewN']; omega)) _) | (with_reducible refine Below.alloc ?_ (by first | exact Nat.le_refl _ | omega | (with_reducible (repeat (first | refine sz_alloc ?_ | refine sz_setCell ?_ | refine sz_drew ?_ | refine sz_drewN ?_)); first | exact Nat.le_refl _ | omega) | (simp only [World.size_alloc, World.size_setCell, World.size_drew, size_drewN']; omega)) _) | assumption))
  have r21 : Row w21 (some ⟨w20.heap.size, 0, none⟩) 1 (ints [2, 1]) := by rw [hw21]; exact Row.of_flat rfl (Blk.new w20 (ints [2, 1]).flatten _)
  clear hw21
  refine (eqState_c [2, 1] [2, 1] _ _ _ _ w21 (S20.out.up u21) r21 (by decide) (by decide)).mono ?_
  rintro e w22 ⟨rfl, u22⟩
  have U22 := Lib.hid (Up.trans U20.out (Up.trans u21 u22))
  have z22 := (Z20.out.up u21).up u22
  have q0 := z22.cell 0
  have q1 := z22.cell 1
  simp only [List.getElem?_cons_zero, List.getElem?_cons_succ] at q0 q1
  clear u21 u22 r21 S20 U20 Z20 z22
  rw [show decide (([2, 1] : List Int) = [2, 1]) = true by decide]
  go_wp2_with fail
  go_ret
  exact ⟨rfl, U22.out⟩
end Go.Proofs.Ytifcmbeejichdaa
