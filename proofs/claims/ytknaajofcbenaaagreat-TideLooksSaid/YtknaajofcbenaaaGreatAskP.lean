/- Plain facts: the look that settles most. -/
import Derived.Test.YtknaajofcbenaaaGreatLooks3
import Derived.Test.YtknaajofcbenaaaGreatSpans2
import Derived.Test.YtknaajofcbenaaaGreatChkZ
import Derived.Test.YtknaajofcbenaaaGreatTurn
import Derived.Test.YtknaajofcbenaaaGreatAll
import Derived.Test.YtknaajofcbenaaaGreatHgtPure
namespace Go.Proofs.YtknaajofcbenaaaGreat
section
open Go.RowKit

/-- how many truths a look leaves at most, whatever is seen -/
def askMost (s : Sd) (m : Int) (p : Nat) : Int := max (siz (truV s (m, (p : Int), true))) (siz (s.lo, s.hi) - siz (truV s (m, (p : Int), true)))
def askOne (s : Sd) (m : Int) (z : Lk × Int) (p : Nat) : Lk × Int := if z.1 = (0, 0, false) ∨ askMost s m p < z.2 then ((m, (p : Int), true), askMost s m p) else z
def askRow (s : Sd) (m : Int) (z : Lk × Int) : Nat → Lk × Int
  | 0 => z
  | k + 1 => askOne s m (askRow s m z k) k
def askAll (s : Sd) : Nat → Lk × Int
  | 0 => ((0, 0, false), siz (s.lo, s.hi))
  | k + 1 => askRow s (firstM s.table + k) (askAll s k) s.floors.length
def askE (s : Sd) : Int := if chk s = 0 then (if siz (s.lo, s.hi) = 1 then 6 else 0) else chk s
def askV (s : Sd) : Lk × Int := if askE s = 0 then askAll s (dayN s) else ((0, 0, false), 0)

/-- the best of what has been looked at: the first of those that leave fewest -/
def Best (s : Sd) (seen : Int → Nat → Prop) (z : Lk × Int) : Prop :=
  (z = ((0, 0, false), siz (s.lo, s.hi)) ∧ ∀ m p, ¬ seen m p) ∨
  ∃ (m : Int) (p : Nat), z = ((m, (p : Int), true), askMost s m p) ∧ seen m p ∧ ∀ m' p', seen m' p' → askMost s m p ≤ askMost s m' p' ∧ (askMost s m p = askMost s m' p' → m < m' ∨ m = m' ∧ p ≤ p')

theorem Best.one {s : Sd} {seen seen' : Int → Nat → Prop} {z : Lk × Int} {m : Int} {p : Nat} (h : Best s seen z) (h1 : ∀ m' p', seen' m' p' ↔ seen m' p' ∨ m' = m ∧ p' = p) (h2 : ∀ m' p', seen m' p' → m' < m ∨ m' = m ∧ p' < p) :
    Best s seen' (askOne s m z p) := by
  rcases h with ⟨rfl, h0⟩ | ⟨m0, p0, rfl, hs, hb⟩
  · unfold askOne
    rw [if_pos (Or.inl rfl)]
    refine .inr ⟨m, p, rfl, (h1 _ _).2 (.inr ⟨rfl, rfl⟩), fun m' p' h => ?_⟩
    rcases (h1 _ _).1 h with h | ⟨rfl, rfl⟩
    · exact absurd h (h0 _ _)
    · exact ⟨Int.le_refl _, fun _ => .inr ⟨rfl, Nat.le_refl _⟩⟩
  · unfold askOne
    by_cases hc : askMost s m p < askMost s m0 p0
    · rw [if_pos (Or.inr hc)]
      refine .inr ⟨m, p, rfl, (h1 _ _).2 (.inr ⟨rfl, rfl⟩), fun m' p' h => ?_⟩
      rcases (h1 _ _).1 h with h | ⟨rfl, rfl⟩
      · have := (hb m' p' h).1
        exact ⟨by omega, fun e => by omega⟩
      · exact ⟨Int.le_refl _, fun _ => .inr ⟨rfl, Nat.le_refl _⟩⟩
    · rw [if_neg (fun h => by rcases h with h | h <;> first | (exact hc h) | (exact absurd (congrArg (fun t => t.2.2) h) (by simp)))]
      refine .inr ⟨m0, p0, rfl, (h1 _ _).2 (.inl hs), fun m' p' h => ?_⟩
      rcases (h1 _ _).1 h with h | ⟨rfl, rfl⟩
      · exact hb m' p' h
      · have := h2 m0 p0 hs
        exact ⟨by omega, fun _ => by omega⟩

theorem askRow_best {s : Sd} {seen : Int → Nat → Prop} {z : Lk × Int} {m : Int} (h : Best s seen z) (h2 : ∀ m' p', seen m' p' → m' < m) : ∀ k, Best s (fun m' p' => seen m' p' ∨ m' = m ∧ p' < k) (askRow s m z k)
  | 0 => by
    have : (fun m' p' => seen m' p' ∨ m' = m ∧ p' < 0) = seen := by funext a b; simp
    rw [this]; exact h
  | k + 1 => by
    refine (askRow_best h h2 k).one (fun m' p' => ?_) (fun m' p' h => ?_)
    · constructor
      · rintro (h | ⟨h, h'⟩)
        · exact .inl (.inl h)
        · by_cases e : p' = k
          · exact .inr ⟨h, e⟩
          · exact .inl (.inr ⟨h, by omega⟩)
      · rintro ((h | ⟨h, h'⟩) | ⟨h, h'⟩)
        · exact .inl h
        · exact .inr ⟨h, by omega⟩
        · exact .inr ⟨h, by omega⟩
    · rcases h with h | ⟨h, h'⟩
      · exact .inl (h2 _ _ h)
      · exact .inr ⟨h, h'⟩

theorem askAll_best (s : Sd) : ∀ k : Nat, Best s (fun m' p' => firstM s.table ≤ m' ∧ m' < firstM s.table + k ∧ p' < s.floors.length) (askAll s k)
  | 0 => .inl ⟨rfl, fun m p h => by omega⟩
  | k + 1 => by
    have h := askRow_best (m := firstM s.table + k) (askAll_best s k) (fun m' p' h => h.2.1) s.floors.length
    have e : (fun m' p' => (firstM s.table ≤ m' ∧ m' < firstM s.table + (k : Int) ∧ p' < s.floors.length) ∨ m' = firstM s.table + (k : Int) ∧ p' < s.floors.length) = (fun m' p' => firstM s.table ≤ m' ∧ m' < firstM s.table + ((k + 1 : Nat) : Int) ∧ p' < s.floors.length) := by
      funext a b
      apply propext
      constructor
      · rintro (⟨h1, h2, h3⟩ | ⟨h1, h2⟩)
        · exact ⟨h1, by omega, h3⟩
        · exact ⟨by omega, by omega, h2⟩
      · rintro ⟨h1, h2, h3⟩
        by_cases e : a = firstM s.table + k
        · exact .inr ⟨e, h3⟩
        · exact .inl ⟨h1, by omega, h3⟩
    rw [e] at h
    exact h

theorem siz_wind {s : Sd} (ok : Ok s) : siz (s.lo, s.hi) = s.hi - s.lo + 1 := by
  have := ok.lohi
  unfold siz
  dsimp only
  omega
/-- a look and its contrary part the truths -/
theorem siz_part {s : Sd} (ok : Ok s) (m p : Int) : siz (truV s (m, p, true)) + siz (truV s (m, p, false)) = siz (s.lo, s.hi) := by
  have b0 := ok.lo0
  have b1 := ok.hi1
  have b2 := ok.lohi
  rw [siz_wind ok]
  unfold truV siz com
  simp only [if_pos, Bool.false_eq_true, if_false]
  omega
theorem siz_nonneg (a : Int × Int) : 0 ≤ siz a := by unfold siz; omega
theorem truV_com {s : Sd} (x : Lk) : com (s.lo, s.hi) (truV s x) = truV s x := by
  unfold truV com
  split <;> (refine Prod.ext ?_ ?_ <;> dsimp only <;> omega)
theorem truV_in {s : Sd} (x : Lk) : s.lo ≤ (truV s x).1 ∧ (truV s x).2 ≤ s.hi := by
  unfold truV com
  split <;> dsimp only <;> omega
theorem askMost_two {s : Sd} (ok : Ok s) (m : Int) (p : Nat) : askMost s m p = max (siz (truV s (m, (p : Int), true))) (siz (truV s (m, (p : Int), false))) := by
  have := siz_part ok m p
  unfold askMost
  rw [show siz (s.lo, s.hi) - siz (truV s (m, (p : Int), true)) = siz (truV s (m, (p : Int), false)) by omega]
theorem ask_best {s : Sd} (ok : Ok s) : ∃ m p, askAll s (dayN s) = ((m, ((p : Nat) : Int), true), askMost s m p) ∧ inDay s m = true ∧ p < s.floors.length ∧
    ∀ m' p', inDay s m' = true → p' < s.floors.length → askMost s m p ≤ askMost s m' p' ∧ (askMost s m p = askMost s m' p' → m < m' ∨ m = m' ∧ p ≤ p') := by
  obtain ⟨f0, f1, f2⟩ := firstM_lt ok.table
  have hn : ((dayN s : Nat) : Int) = lastM s.table - firstM s.table + 1 := by unfold dayN; omega
  have hfl := ok.fl0
  rcases askAll_best s (dayN s) with ⟨-, h⟩ | ⟨m, p, h1, ⟨h2, h3, h4⟩, h5⟩
  · exact absurd ⟨Int.le_refl _, by omega, hfl⟩ (h (firstM s.table) 0)
  · refine ⟨m, p, h1, inB_true.2 ⟨h2, by omega⟩, h4, fun m' p' hm hp => h5 m' p' ?_⟩
    obtain ⟨i1, i2⟩ := inB_true.1 hm
    exact ⟨i1, by omega, hp⟩
theorem looks_one {s : Sd} (ok : Ok s) {m : Int} (hm : inDay s m = true) {p : Nat} (hp : p < s.floors.length) (b : Bool) :
    looksE s [(m, (p : Int), b)] = (if siz (truV s (m, (p : Int), b)) = 0 then 7 else 0) ∧ looksV s [(m, (p : Int), b)] = (if siz (truV s (m, (p : Int), b)) = 0 then (0, 0) else truV s (m, (p : Int), b)) := by
  have e1 : errLooks s [(m, (p : Int), b)] = 0 := by
    unfold errLooks
    rw [if_pos (chk_zero ok), if_neg (by simp)]
    simp only [lkErr]
    rw [hm, show isPl s (p : Int) = true from inB_true.2 ⟨by omega, by omega⟩]
    rfl
  have e2 : lkOf s (s.lo, s.hi) [(m, (p : Int), b)] = truV s (m, (p : Int), b) := by
    unfold lkOf
    simp only [List.foldl_cons, List.foldl_nil]
    exact truV_com _
  have e3 : looksE s [(m, (p : Int), b)] = (if siz (truV s (m, (p : Int), b)) = 0 then 7 else 0) := by
    unfold looksE
    rw [if_pos e1, e2]
  refine ⟨e3, ?_⟩
  unfold looksV
  rw [e3, e2]
  split
  · rw [if_neg (by decide)]
  · rw [if_pos rfl]
end
end Go.Proofs.YtknaajofcbenaaaGreat
