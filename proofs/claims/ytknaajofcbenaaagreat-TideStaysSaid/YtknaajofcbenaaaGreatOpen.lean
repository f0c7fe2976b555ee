/- Arguments of the laws on sands, opened. -/
import Derived.Test.YtknaajofcbenaaaGreatBase
import Derived.Test.YtknaajofcbenaaaGreatHeight
import Derived.Test.YtknaajofcbenaaaGreatChk2
import Derived.Test.YtknaajofcbenaaaGreatPost
import Derived.WalkKit
import Derived.WalkSpells
import Derived.WalkLawsBesides
import Derived.Deep.QuietTactic
import Derived.BigQuiet
import Derived.Lib.Hide
import Derived.Shelf.Abstract
import Derived.BigGuardPart
import Derived.Carry
import Derived.ChangeSame
import Derived.SizedLaws
import Derived.ProofKit
import Derived.OpenShut
import Derived.JoinedOf
import Derived.Deep.Slices
namespace Go.Proofs.YtknaajofcbenaaaGreat
open Go.ChangeShapes Go.WideShapes Go.ChangeAt Go.RowKit

theorem own : ownKnob Tryz.prog.godebug = none := by kernel_rfl
theorem laidOut : laidOutB Tryz.prog = true := by kernel_rfl
theorem cellsWater : Tryz.prog.cellsOf 78 = 2 := by kernel_rfl
theorem cellsSill : Tryz.prog.cellsOf 80 = 3 := by kernel_rfl
theorem cellsInt : Tryz.prog.cellsOf 3 = 1 := by kernel_rfl
theorem cellsSands : Tryz.prog.cellsOf 28 = 5 := by kernel_rfl
theorem cellsSpan : Tryz.prog.cellsOf 24 = 2 := by kernel_rfl
theorem cellsT : Tryz.prog.cellsOf 22 = 1 := by kernel_rfl
theorem cellsF : Tryz.prog.cellsOf 25 = 1 := by kernel_rfl
theorem cellsS : Tryz.prog.cellsOf 26 = 1 := by kernel_rfl
theorem bytesWater : Tryz.prog.bytesOf 78 = 16 := by kernel_rfl
theorem bytesSill : Tryz.prog.bytesOf 80 = 24 := by kernel_rfl
theorem bytesInt : Tryz.prog.bytesOf 3 = 8 := by kernel_rfl

section
variable {H : Type} {enc : TypeId × Value → H} {w : World}

theorem el_water : ∀ fuel cs (y : DataW H × List MemPlace), DataW.trod enc Tryz.prog w 0 (fun _ => true) true fuel 78 cs = some y → AllInts 2 cs := fun _ _ _ h =>
  open_struct_row Tryz.underlying78 cellsWater (fun i f hf => by
    match i, hf with
    | 0, hf => cases hf; exact ⟨rfl, Tryz.underlying3, cellsInt⟩
    | 1, hf => cases hf; exact ⟨rfl, Tryz.underlying3, cellsInt⟩
    | i + 2, hf => simp at hf) h
theorem el_sill : ∀ fuel cs (y : DataW H × List MemPlace), DataW.trod enc Tryz.prog w 0 (fun _ => true) true fuel 80 cs = some y → AllInts 3 cs := fun _ _ _ h =>
  open_struct_row Tryz.underlying80 cellsSill (fun i f hf => by
    match i, hf with
    | 0, hf => cases hf; exact ⟨rfl, Tryz.underlying3, cellsInt⟩
    | 1, hf => cases hf; exact ⟨rfl, Tryz.underlying3, cellsInt⟩
    | 2, hf => cases hf; exact ⟨rfl, Tryz.underlying3, cellsInt⟩
    | i + 3, hf => simp at hf) h
theorem el_int : ∀ fuel cs (y : DataW H × List MemPlace), DataW.trod enc Tryz.prog w 0 (fun _ => true) true fuel 3 cs = some y → AllInts 1 cs := fun _ _ _ h => open_int_row Tryz.underlying3 h

theorem room_of {t e : TypeId} {d : DataW H} {cap len b : Nat} (ht : Tryz.prog.underlying t = some (.slice e)) (hb : Tryz.prog.bytesOf e = b) (hl : len ≤ cap)
    (hd : (d = .nil ∧ cap = 0) ∨ ∃ el sp, d = .slice el sp ∧ el.length + sp.length = cap) (hz : ∀ n ∈ DataW.weights Tryz.prog t d, n ≤ reachBytes) : len * b ≤ 140737488355328 := by
  rcases hd with ⟨rfl, rfl⟩ | ⟨el, sp, rfl, rfl⟩
  · have : len = 0 := by omega
    subst this; simp
  · have h := hz ((el.length + sp.length) * Tryz.prog.bytesOf e) (by simp [DataW.weights, ht])
    rw [hb] at h
    have h2 : len * b ≤ (el.length + sp.length) * b := Nat.mul_le_mul_right b hl
    simp only [reachBytes] at h
    omega

set_option maxRecDepth 100000 in
theorem open_sands {base : Nat} {v : Value} {d : DataW H} {p : List MemPlace} (hv : Value.okWide Tryz.prog w .any base 28 v) (h : DataW.Trod enc Tryz.prog w 0 (fun _ => true) true 28 v d p)
    (hz : ∀ n ∈ DataW.weights Tryz.prog 28 d, n ≤ reachBytes) :
    ∃ s pT pF pS cT cF cS, v = sdVal s pT pF pS cT cF cS ∧ Lists w s pT pF pS cT cF cS ∧ s.table.length * 16 ≤ 140737488355328 ∧ s.floors.length * 8 ≤ 140737488355328 ∧ s.sills.length * 24 ≤ 140737488355328 := by
  obtain ⟨cs, rfl, hsz⟩ := okWide_struct Tryz.underlying28 hv
  obtain ⟨l⟩ := cs
  match l, hsz.trans cellsSands with
  | [c0, c1, c2, c3, c4], _ =>
    obtain ⟨fuel, hf⟩ := h
    obtain ⟨xs, n, -, hx, -, hlen, hg⟩ := DataW.trod_struct Tryz.underlying28 hf
    match xs, hlen with
    | [y0, y1, y2, y3], _ =>
      have g0 : DataW.trod enc Tryz.prog w 0 (fun _ => true) true n 22 (([c0, c1, c2, c3, c4].drop 0).take (Tryz.prog.cellsOf 22)) = some y0 := hg 0 _ rfl
      rw [cellsT] at g0
      have g1 : DataW.trod enc Tryz.prog w 0 (fun _ => true) true n 24 (([c0, c1, c2, c3, c4].drop 1).take (Tryz.prog.cellsOf 24)) = some y1 := hg 1 _ rfl
      rw [cellsSpan] at g1
      have g2 : DataW.trod enc Tryz.prog w 0 (fun _ => true) true n 25 (([c0, c1, c2, c3, c4].drop 3).take (Tryz.prog.cellsOf 25)) = some y2 := hg 2 _ rfl
      rw [cellsF] at g2
      have g3 : DataW.trod enc Tryz.prog w 0 (fun _ => true) true n 26 (([c0, c1, c2, c3, c4].drop 4).take (Tryz.prog.cellsOf 26)) = some y3 := hg 3 _ rfl
      rw [cellsS] at g3
      simp only [List.drop_zero, List.drop_succ_cons, List.take_succ_cons, List.take_zero] at g0 g1 g2 g3
      simp only [Prod.mk.injEq] at hx
      obtain ⟨rfl, -⟩ := hx
      simp only [DataW.weights, Tryz.underlying28, List.map_cons, List.map_nil, DataW.weightsEach, List.append_nil, List.mem_append] at hz
      obtain ⟨pT, lT, cT, rT, rfl, a1, a2, rfl, a4, a5, a6⟩ := open_rows Tryz.underlying22 cellsWater (by decide) el_water g0
      obtain ⟨pF, lF, cF, rF, rfl, b1, b2, rfl, b4, b5, b6⟩ := open_rows Tryz.underlying25 cellsInt (by decide) el_int g2
      obtain ⟨pS, lS, cS, rS, rfl, e1, e2, rfl, e4, e5, e6⟩ := open_rows Tryz.underlying26 cellsSill (by decide) el_sill g3
      obtain ⟨lt, rfl⟩ := pairs_of a5
      obtain ⟨lf, rfl⟩ := ints_of b5
      obtain ⟨ls, rfl⟩ := triples_of e5
      obtain ⟨zs, k, -, -, -, zl, zg⟩ := DataW.trod_struct Tryz.underlying24 g1
      match zs, zl with
      | [z0, z1], _ =>
        have k0 : DataW.trod enc Tryz.prog w 0 (fun _ => true) true k 3 (([c1, c2].drop 0).take (Tryz.prog.cellsOf 3)) = some z0 := zg 0 _ rfl
        rw [cellsInt] at k0
        have k1 : DataW.trod enc Tryz.prog w 0 (fun _ => true) true k 3 (([c1, c2].drop 1).take (Tryz.prog.cellsOf 3)) = some z1 := zg 1 _ rfl
        rw [cellsInt] at k1
        simp only [List.drop_zero, List.drop_succ_cons, List.take_succ_cons, List.take_zero] at k0 k1
        obtain ⟨lo, hlo, -, -⟩ := DataW.trod_int Tryz.underlying3 k0
        obtain ⟨hi, hhi, -, -⟩ := DataW.trod_int Tryz.underlying3 k1
        simp only [List.cons.injEq, and_true] at hlo hhi
        subst hlo
        subst hhi
        have q0 : (pairs lt).length = lt.length := by simp [pairs]
        have q1 : (ints lf).length = lf.length := by simp [ints]
        have q2 : (triples ls).length = ls.length := by simp [triples]
        rw [q0] at a1
        rw [q1] at b1
        rw [q2] at e1
        refine ⟨⟨lt, lo, hi, lf, ls⟩, pT, pF, pS, cT, cF, cS, by simp only [sdVal, q0, q1, q2], ⟨a4, b4, e4, a1, b1, e1, a2, b2, e2⟩, ?_, ?_, ?_⟩
        · exact room_of Tryz.underlying22 bytesWater a1 a6 (fun n hn => hz n (.inl hn))
        · exact room_of Tryz.underlying25 bytesInt b1 b6 (fun n hn => hz n (.inr (.inr (.inl hn))))
        · exact room_of Tryz.underlying26 bytesSill e1 e6 (fun n hn => hz n (.inr (.inr (.inr hn))))
end
end Go.Proofs.YtknaajofcbenaaaGreat
