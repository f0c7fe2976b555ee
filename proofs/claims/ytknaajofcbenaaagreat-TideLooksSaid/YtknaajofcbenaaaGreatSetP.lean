/- Plain facts: sets of looks by bits, and the least one that no truth agrees with. -/
import Derived.Test.YtknaajofcbenaaaGreatClaD
namespace Go.Proofs.YtknaajofcbenaaaGreat
section
open Go.RowKit
/-- i is in the set -/
def inS (set i : Nat) : Bool := set / 2 ^ i % 2 == 1
/-- the numbers below n that a set names -/
def memS (set n : Nat) : List Int := ((List.range n).filter (inS set)).map (fun i : Nat => (i : Int))
/-- first in lexicographic order -/
def lexB : List Int → List Int → Bool
  | a :: ps, b :: qs => if a = b then lexB ps qs else decide (a < b)
  | _, _ => false
/-- shorter, or as long and first -/
def aheadB (a b : List Int) : Bool := if a.length = b.length then lexB a b else decide (a.length < b.length)

theorem lexB_trans : ∀ (a b c : List Int), lexB a b = true → lexB b c = true → lexB a c = true
  | [], _, _, h, _ => by simp [lexB] at h
  | _ :: _, [], _, h, _ => by simp [lexB] at h
  | _ :: _, _ :: _, [], _, h => by simp [lexB] at h
  | a :: ps, b :: qs, c :: rs, h, k => by
    unfold lexB at h k ⊢
    by_cases e : a = b
    · subst e
      rw [if_pos rfl] at h
      by_cases f : a = c
      · subst f
        rw [if_pos rfl] at k ⊢
        exact lexB_trans ps qs rs h k
      · rw [if_neg f] at k ⊢
        exact k
    · rw [if_neg e, decide_eq_true_eq] at h
      by_cases f : b = c
      · subst f
        rw [if_neg e, decide_eq_true_eq]
        exact h
      · rw [if_neg f, decide_eq_true_eq] at k
        rw [if_neg (by omega), decide_eq_true_eq]
        omega
theorem aheadB_trans {a b c : List Int} (h : aheadB a b = true) (k : aheadB b c = true) : aheadB a c = true := by
  unfold aheadB at h k ⊢
  by_cases e : a.length = b.length
  · rw [if_pos e] at h
    by_cases f : b.length = c.length
    · rw [if_pos f] at k
      rw [if_pos (by omega)]
      exact lexB_trans a b c h k
    · rw [if_neg f, decide_eq_true_eq] at k
      rw [if_neg (by omega), decide_eq_true_eq]
      omega
  · rw [if_neg e, decide_eq_true_eq] at h
    by_cases f : b.length = c.length
    · rw [if_neg (by omega), decide_eq_true_eq]
      omega
    · rw [if_neg f, decide_eq_true_eq] at k
      rw [if_neg (by omega), decide_eq_true_eq]
      omega

theorem one_set : ∀ n, n ≤ 10 → ∀ i, i < n → memS (2 ^ i) n = [(i : Int)] := by decide +kernel
theorem two_set : ∀ n, n ≤ 10 → ∀ j, j < n → ∀ i, i < j → memS (2 ^ i + 2 ^ j) n = [(i : Int), (j : Int)] := by decide +kernel
theorem one_lt : ∀ n, n ≤ 10 → ∀ i, i < n → 1 ≤ 2 ^ i ∧ 2 ^ i < 2 ^ n ∧ inS (2 ^ i) i = true := by decide +kernel
theorem two_lt : ∀ n, n ≤ 10 → ∀ j, j < n → ∀ i, i < j → 1 ≤ 2 ^ i + 2 ^ j ∧ 2 ^ i + 2 ^ j < 2 ^ n ∧ inS (2 ^ i + 2 ^ j) i = true ∧ inS (2 ^ i + 2 ^ j) j = true := by decide +kernel

section
variable {s : Sd} {l : List Lk}
/-- no truth agrees with all looks of the set -/
def emptyS (s : Sd) (l : List Lk) (set : Nat) : Prop := ∀ t, s.lo ≤ t → t ≤ s.hi → ∃ i, ∃ h : i < l.length, inS set i = true ∧ ¬ ((truV s l[i]).1 ≤ t ∧ t ≤ (truV s l[i]).2)
theorem com_comm (a b : Int × Int) : com a b = com b a := by unfold com; simp only [Prod.mk.injEq]; omega
/-- of a set that no truth agrees with, one look or two already have none -/
theorem helly (ok : Ok s) {set : Nat} (h : emptyS s l set) :
    (∃ i, ∃ hi : i < l.length, inS set i = true ∧ siz (truV s l[i]) = 0) ∨ ∃ i j, ∃ hi : i < l.length, ∃ hj : j < l.length, i < j ∧ inS set i = true ∧ inS set j = true ∧ siz (com (truV s l[i]) (truV s l[j])) = 0 := by
  have b := ok.lohi
  obtain ⟨L, hL⟩ : ∃ L, L = ((List.range l.length).filter (inS set)).filterMap (fun i => l[i]?) := ⟨_, rfl⟩
  have mem : ∀ x, x ∈ L ↔ ∃ i, ∃ hi : i < l.length, inS set i = true ∧ l[i] = x := by
    intro x
    rw [hL, List.mem_filterMap]
    constructor
    · rintro ⟨i, hm, hx⟩
      rw [List.mem_filter, List.mem_range] at hm
      rw [List.getElem?_eq_getElem hm.1, Option.some.injEq] at hx
      exact ⟨i, hm.1, hm.2, hx⟩
    · rintro ⟨i, hi, hs, hx⟩
      exact ⟨i, List.mem_filter.2 ⟨List.mem_range.2 hi, hs⟩, by rw [List.getElem?_eq_getElem hi, hx]⟩
  obtain ⟨h1, h2, h3, h4, h5⟩ := lkOf_spec s L (s.lo, s.hi)
  dsimp only at h1 h2 h4 h5
  by_cases hc : (lkOf s (s.lo, s.hi) L).1 ≤ (lkOf s (s.lo, s.hi) L).2
  · obtain ⟨i, hi, hs, hn⟩ := h (lkOf s (s.lo, s.hi) L).1 h1 (by omega)
    have := h3 _ ((mem _).2 ⟨i, hi, hs, rfl⟩)
    exact absurd ⟨this.1, by omega⟩ hn
  · have one : ∀ i (hi : i < l.length), inS set i = true → (truV s l[i]).2 < (truV s l[i]).1 → (∃ i, ∃ hi : i < l.length, inS set i = true ∧ siz (truV s l[i]) = 0) := fun i hi hs hh => ⟨i, hi, hs, (siz_zero _).2 hh⟩
    rcases h4 with h4 | ⟨x, hx, h4⟩
    · rcases h5 with h5 | ⟨y, hy, h5⟩
      · omega
      · obtain ⟨j, hj, js, rfl⟩ := (mem _).1 hy
        have := truV_in (s := s) l[j]
        exact .inl (one j hj js (by omega))
    · obtain ⟨i, hi, is, rfl⟩ := (mem _).1 hx
      rcases h5 with h5 | ⟨y, hy, h5⟩
      · have := truV_in (s := s) l[i]
        exact .inl (one i hi is (by omega))
      · obtain ⟨j, hj, js, rfl⟩ := (mem _).1 hy
        have hlt : (truV s l[j]).2 < (truV s l[i]).1 := by omega
        have hcom : siz (com (truV s l[i]) (truV s l[j])) = 0 := by
          rw [siz_zero]
          show min (truV s l[i]).2 (truV s l[j]).2 < max (truV s l[i]).1 (truV s l[j]).1
          omega
        rcases Nat.lt_trichotomy i j with hij | rfl | hij
        · exact .inr ⟨i, j, hi, hj, hij, is, js, hcom⟩
        · exact .inl (one i hi is hlt)
        · exact .inr ⟨j, i, hj, hi, hij, js, is, by rw [com_comm]; exact hcom⟩
theorem one_empty {i : Nat} (hn : l.length ≤ 10) (hi : i < l.length) (h : siz (truV s l[i]) = 0) : emptyS s l (2 ^ i) := by
  intro t _ _
  rw [siz_zero] at h
  exact ⟨i, hi, (one_lt _ hn i hi).2.2, by omega⟩
theorem two_empty {i j : Nat} (hn : l.length ≤ 10) (hi : i < l.length) (hj : j < l.length) (hij : i < j) (h : siz (com (truV s l[i]) (truV s l[j])) = 0) : emptyS s l (2 ^ i + 2 ^ j) := by
  intro t _ _
  rw [siz_zero] at h
  have h' : min (truV s l[i]).2 (truV s l[j]).2 < max (truV s l[i]).1 (truV s l[j]).1 := h
  obtain ⟨-, -, a, b⟩ := two_lt _ hn j hj i hij
  by_cases c : (truV s l[i]).1 ≤ t ∧ t ≤ (truV s l[i]).2
  · exact ⟨j, hj, b, by omega⟩
  · exact ⟨i, hi, a, c⟩
/-- what is best of the sets 1 .. k-1 -/
def BestI (s : Sd) (l : List Lk) (k : Nat) (b : List Int) : Prop :=
  (b = [] ∧ ∀ set, 1 ≤ set → set < k → ¬ emptyS s l set) ∨
  ∃ s0, 1 ≤ s0 ∧ s0 < k ∧ b = memS s0 l.length ∧ emptyS s l s0 ∧ ∀ set, 1 ≤ set → set < k → emptyS s l set → aheadB (memS set l.length) b = false
theorem BestI.start : BestI s l 1 [] := .inl ⟨rfl, fun set h1 h2 => by omega⟩
theorem aheadB_irrefl (a : List Int) : aheadB a a = false := by
  unfold aheadB
  rw [if_pos rfl]
  induction a with
  | nil => rfl
  | cons x r ih => unfold lexB; rw [if_pos rfl]; exact ih
theorem BestI.take (ok : Ok s) {k : Nat} {b : List Int} (h : BestI s l k b) (hk : 1 ≤ k) (hb : b = [] ∨ aheadB (memS k l.length) b = true) (he : emptyS s l k) : BestI s l (k + 1) (memS k l.length) := by
  refine .inr ⟨k, hk, by omega, rfl, he, fun set h1 h2 h3 => ?_⟩
  by_cases e : set = k
  · subst e; exact aheadB_irrefl _
  · rcases h with ⟨-, h⟩ | ⟨s0, h4, h5, h6, h7, h8⟩
    · exact absurd h3 (h set h1 (by omega))
    · have k0 := h8 set h1 (by omega) h3
      rcases hb with hb | hb
      · have hne := h8 s0 h4 h5 h7
        subst hb
        cases hm : aheadB (memS set l.length) (memS k l.length) with
        | false => rfl
        | true =>
          -- the best is named by s0, and none is shorter than the empty list: not met
          exfalso
          obtain ⟨i, hi, hs⟩ : ∃ i, ∃ _ : i < l.length, inS s0 i = true := by
            obtain ⟨i, hi, hs, -⟩ := h7 s.lo (Int.le_refl _) ok.lohi
            exact ⟨i, hi, hs⟩
          have : (i : Int) ∈ memS s0 l.length := List.mem_map.2 ⟨i, List.mem_filter.2 ⟨List.mem_range.2 hi, hs⟩, rfl⟩
          rw [← h6] at this
          exact absurd this (by simp)
      · cases hm : aheadB (memS set l.length) (memS k l.length) with
        | false => rfl
        | true => rw [aheadB_trans hm hb] at k0; exact absurd k0 (by decide)
theorem BestI.leave {k : Nat} {b : List Int} (h : BestI s l k b) (hb : ¬ ((b = [] ∨ aheadB (memS k l.length) b = true) ∧ emptyS s l k)) : BestI s l (k + 1) b := by
  rcases h with ⟨h1, h2⟩ | ⟨s0, h4, h5, h6, h7, h8⟩
  · refine .inl ⟨h1, fun set k1 k2 he => ?_⟩
    by_cases e : set = k
    · subst e; exact hb ⟨.inl h1, he⟩
    · exact h2 set k1 (by omega) he
  · refine .inr ⟨s0, h4, by omega, h6, h7, fun set k1 k2 he => ?_⟩
    by_cases e : set = k
    · subst e
      cases hm : aheadB (memS set l.length) b with
      | false => rfl
      | true => exact absurd ⟨.inr hm, he⟩ hb
    · exact h8 set k1 (by omega) he
/-- the best of all sets is what clashes -/
theorem best_is (ok : Ok s) (hn : l.length ≤ 10) {b : List Int} (h : BestI s l (2 ^ l.length) b) : ClashIs s l b := by
  rcases h with ⟨rfl, h2⟩ | ⟨s0, h4, h5, h6, h7, h8⟩
  · refine .inr ⟨fun x hx hz => ?_, .inr ⟨rfl, fun i j hi hj hij hz => ?_⟩⟩
    · obtain ⟨i, hi, rfl⟩ := List.getElem_of_mem hx
      obtain ⟨a, c, -⟩ := one_lt _ hn i hi
      exact h2 _ a c (one_empty hn hi hz)
    · obtain ⟨a, c, -⟩ := two_lt _ hn j hj i hij
      exact h2 _ a c (two_empty hn hi hj hij hz)
  · have no1 : ∀ j (hj : j < l.length), siz (truV s l[j]) = 0 → aheadB [(j : Int)] b = false := fun j hj hz => by
      obtain ⟨a, c, -⟩ := one_lt _ hn j hj
      have := h8 _ a c (one_empty hn hj hz)
      rwa [one_set _ hn j hj] at this
    have no2 : ∀ i j (hi : i < l.length) (hj : j < l.length), i < j → siz (com (truV s l[i]) (truV s l[j])) = 0 → aheadB [(i : Int), (j : Int)] b = false := fun i j hi hj hij hz => by
      obtain ⟨a, c, -⟩ := two_lt _ hn j hj i hij
      have := h8 _ a c (two_empty hn hi hj hij hz)
      rwa [two_set _ hn j hj i hij] at this
    have memb : ∀ i, i < l.length → inS s0 i = true → (i : Int) ∈ b := fun i hi hs => by
      rw [h6]; exact List.mem_map.2 ⟨i, List.mem_filter.2 ⟨List.mem_range.2 hi, hs⟩, rfl⟩
    have back : ∀ x ∈ b, ∃ i : Nat, x = i ∧ i < l.length ∧ inS s0 i = true := fun x hx => by
      rw [h6] at hx
      obtain ⟨i, hm, rfl⟩ := List.mem_map.1 hx
      rw [List.mem_filter, List.mem_range] at hm
      exact ⟨i, rfl, hm.1, hm.2⟩
    have len1 : ∀ j (hj : j < l.length), siz (truV s l[j]) = 0 → b.length ≤ 1 := fun j hj hz => by
      have := no1 j hj hz
      unfold aheadB at this
      split at this
      · rename_i e; simp at e; omega
      · have := of_decide_eq_false this; simp at this; omega
    have len2 : ∀ i j (hi : i < l.length) (hj : j < l.length), i < j → siz (com (truV s l[i]) (truV s l[j])) = 0 → b.length ≤ 2 := fun i j hi hj hij hz => by
      have := no2 i j hi hj hij hz
      unfold aheadB at this
      split at this
      · rename_i e; simp at e; omega
      · have := of_decide_eq_false this; simp at this; omega
    by_cases hall : ∃ j, ∃ hj : j < l.length, siz (truV s l[j]) = 0
    · obtain ⟨j, hj, hz⟩ := hall
      have hl := len1 j hj hz
      obtain ⟨i, hi, hs, -⟩ := h7 s.lo (Int.le_refl _) ok.lohi
      have hm := memb i hi hs
      obtain ⟨x, rfl⟩ : ∃ x, b = [x] := by
        match b, hl, hm with
        | [x], _, _ => exact ⟨x, rfl⟩
        | [], _, hm => simp at hm
        | _ :: _ :: _, hl, _ => simp at hl
      rw [List.mem_singleton] at hm
      subst hm
      have hz' : siz (truV s l[i]) = 0 := by
        rcases helly ok h7 with ⟨i', hi', is', hz'⟩ | ⟨i', j', hi', hj', hij, is', js', -⟩
        · have := memb i' hi' is'
          rw [List.mem_singleton] at this
          obtain rfl : i' = i := by omega
          exact hz'
        · have a := memb i' hi' is'
          have c := memb j' hj' js'
          rw [List.mem_singleton] at a c
          omega
      refine .inl ⟨i, hi, rfl, hz', fun k hk hki hzk => ?_⟩
      have := no1 k hk hzk
      unfold aheadB lexB at this
      rw [if_pos (by rfl), if_neg (by omega)] at this
      exact of_decide_eq_false this (by omega)
    · have hall' : ∀ x ∈ l, siz (truV s x) ≠ 0 := fun x hx hz => by
        obtain ⟨i, hi, rfl⟩ := List.getElem_of_mem hx
        exact hall ⟨i, hi, hz⟩
      refine .inr ⟨hall', .inl ?_⟩
      rcases helly ok h7 with ⟨i', hi', is', hz'⟩ | ⟨i, j, hi, hj, hij, is, js, hz⟩
      · exact absurd ⟨i', hi', hz'⟩ hall
      · have hl := len2 i j hi hj hij hz
        have a := memb i hi is
        have c := memb j hj js
        have srt : b.Pairwise (· < ·) := by
          rw [h6]
          unfold memS
          rw [List.pairwise_map]
          refine List.Pairwise.imp (R := (· < ·)) (fun h => by omega) ?_
          exact List.Pairwise.filter _ List.pairwise_lt_range
        obtain ⟨x, y, rfl⟩ : ∃ x y, b = [x, y] := by
          match b, hl, a, c with
          | [x, y], _, _, _ => exact ⟨x, y, rfl⟩
          | [], _, a, _ => simp at a
          | [x], _, a, c => rw [List.mem_singleton] at a c; omega
          | _ :: _ :: _ :: _, hl, _, _ => simp at hl
        have hxy : x < y := by
          rw [List.pairwise_cons] at srt
          exact srt.1 y (by simp)
        simp only [List.mem_cons, List.not_mem_nil, or_false] at a c
        obtain rfl : (i : Int) = x := by omega
        obtain rfl : (j : Int) = y := by omega
        refine ⟨i, j, hi, hj, hij, rfl, hz, fun i' j' hi' hj' hij' hlt hz' => ?_⟩
        have := no2 i' j' hi' hj' hij' hz'
        unfold aheadB lexB at this
        rw [if_pos (by rfl)] at this
        by_cases e : (i' : Int) = i
        · rw [if_pos e] at this
          unfold lexB at this
          rw [if_neg (by omega)] at this
          exact of_decide_eq_false this (by omega)
        · rw [if_neg e] at this
          exact of_decide_eq_false this (by omega)
end
end
end Go.Proofs.YtknaajofcbenaaaGreat
