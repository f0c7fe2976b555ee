/- What Clash finds: a look that no truth agrees with, or two of them, or nothing. -/
import Derived.Test.YtknaajofcbenaaaGreatAskP
import Derived.Test.YtknaajofcbenaaaGreatLooks3
namespace Go.Proofs.YtknaajofcbenaaaGreat
section
open Go.RowKit
/-- what is found: a look that no truth agrees with, or two of them, or nothing -/
def ClashIs (s : Sd) (l : List Lk) (r : List Int) : Prop :=
  (∃ i, ∃ h : i < l.length, r = [(i : Int)] ∧ siz (truV s l[i]) = 0 ∧ ∀ j (hj : j < l.length), j < i → siz (truV s l[j]) ≠ 0) ∨
  ((∀ x ∈ l, siz (truV s x) ≠ 0) ∧
    ((∃ i j, ∃ hi : i < l.length, ∃ hj : j < l.length, i < j ∧ r = [(i : Int), (j : Int)] ∧ siz (com (truV s l[i]) (truV s l[j])) = 0 ∧
        ∀ i' j' (hi' : i' < l.length) (hj' : j' < l.length), i' < j' → (i' < i ∨ i' = i ∧ j' < j) → siz (com (truV s l[i']) (truV s l[j'])) ≠ 0) ∨
     (r = [] ∧ ∀ i' j' (hi' : i' < l.length) (hj' : j' < l.length), i' < j' → siz (com (truV s l[i']) (truV s l[j'])) ≠ 0)))
/-- what Clash returns -/
def ClashR (s : Sd) (l : List Lk) (r : List Int) (E : Int) : Prop := if errLooks s l = 0 then ClashIs s l r ∧ E = (if r = [] then 6 else 0) else r = [] ∧ E = errLooks s l

section
variable {s : Sd} {l : List Lk} {r : List Int}
theorem siz_zero (a : Int × Int) : siz a = 0 ↔ a.2 < a.1 := by unfold siz; omega
theorem lkOf_snoc (z : Int × Int) (l : List Lk) (x : Lk) : lkOf s z (l ++ [x]) = com (lkOf s z l) (truV s x) := by unfold lkOf; rw [List.foldl_append]; rfl
/-- from where what is left goes on, and where it ends: an end of the wind, or of a look -/
theorem lkOf_spec (s : Sd) : ∀ (l : List Lk) (z : Int × Int), z.1 ≤ (lkOf s z l).1 ∧ (lkOf s z l).2 ≤ z.2 ∧ (∀ x ∈ l, (truV s x).1 ≤ (lkOf s z l).1 ∧ (lkOf s z l).2 ≤ (truV s x).2) ∧
    ((lkOf s z l).1 = z.1 ∨ ∃ x ∈ l, (lkOf s z l).1 = (truV s x).1) ∧ ((lkOf s z l).2 = z.2 ∨ ∃ x ∈ l, (lkOf s z l).2 = (truV s x).2)
  | [], z => ⟨Int.le_refl _, Int.le_refl _, by simp, .inl rfl, .inl rfl⟩
  | x :: l, z => by
    obtain ⟨h1, h2, h3, h4, h5⟩ := lkOf_spec s l (com z (truV s x))
    have e : lkOf s z (x :: l) = lkOf s (com z (truV s x)) l := rfl
    rw [e]
    have c1 : (com z (truV s x)).1 = max z.1 (truV s x).1 := rfl
    have c2 : (com z (truV s x)).2 = min z.2 (truV s x).2 := rfl
    rw [c1] at h1 h4
    rw [c2] at h2 h5
    have k1 := h1
    have k2 := h2
    clear h1 h2
    have j1 : z.1 ≤ (lkOf s (com z (truV s x)) l).1 ∧ (truV s x).1 ≤ (lkOf s (com z (truV s x)) l).1 := by clear h3 h4 h5; omega
    have j2 : (lkOf s (com z (truV s x)) l).2 ≤ z.2 ∧ (lkOf s (com z (truV s x)) l).2 ≤ (truV s x).2 := by clear h3 h4 h5; omega
    refine ⟨j1.1, j2.1, fun y hy => ?_, ?_, ?_⟩
    · rcases List.mem_cons.1 hy with rfl | hy
      · exact ⟨j1.2, j2.2⟩
      · exact h3 y hy
    · rcases h4 with h4 | ⟨y, hy, h4⟩
      · by_cases hc : z.1 ≤ (truV s x).1
        · exact .inr ⟨x, by simp, by clear h3 h5; omega⟩
        · exact .inl (by clear h3 h5; omega)
      · exact .inr ⟨y, by simp [hy], h4⟩
    · rcases h5 with h5 | ⟨y, hy, h5⟩
      · by_cases hc : (truV s x).2 ≤ z.2
        · exact .inr ⟨x, by simp, by clear h3 h4; omega⟩
        · exact .inl (by clear h3 h4; omega)
      · exact .inr ⟨y, by simp [hy], h5⟩
end
end
end Go.Proofs.YtknaajofcbenaaaGreat
