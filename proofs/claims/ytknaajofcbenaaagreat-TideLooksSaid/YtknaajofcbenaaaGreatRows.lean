/-
  No cell of these rows narrows 'for every input' (looked for: loops, veiled, ifaces, maps, wideKeys, modest, calm, conditions, laid).
  DERIVED. THE GIVEN ROWS OF THIS SEAT. 3 by the template 'for every input the law returns true; each argument reads behind the call as it read before'; 0 by the template 'total and deterministic' (their statements: YtknaajofcbenaaaGreatTotals.lean).
  GIVEN WITH THE SEED: the statements are not yours to turn. If you find one false, say at which input.
  Laid BY PROGRAM, IN A SANDBOX (cutbox-rows.mjs): the forced cells as the released guide's own fill.sh prints them over the translation db57207b928476e6… (all of the seat's roots in one cut). By AI agents, Wed Nov 11 2026. No macro, syntax, notation, axiom, sorry.
-/
import Derived.Test.YtknaajofcbenaaaGreatChecked
import GoSem.Claim
import GoSem.ClaimJoined
import GoSem.ClaimMapViews
import Derived.JoinedTies
import Derived.KernelRfl
namespace Go.Proofs.YtknaajofcbenaaaGreat
/- THE CELL 'sum', in the pinned program and in every row, IS THE sha256 OF THE DUMP (.gsa) THAT YtknaajofcbenaaaGreatProg.lean LOADS. Nothing in Lean hashes anything: it is a label: what it is worth is what the hold of that sum in a sandbox is worth. -/
noncomputable def Tryz.pinned : Pinned := { name := "ytknaajofcbenaaagreat", sum := "db57207b928476e6a118e53f73df253109f5a89d0bbb05ad5a5b940fae64eff6", checked := Tryz.checked }
namespace Rows
def none {H : Type} : Left H := { results := [], args := [] }

/-- 'laurellaw01.TideStays': WHATEVER THE INPUT: true; the input reads as it did. -/
def tideStaysSpec : ChangeSpec := { name := "tideStays", fn := fun _ => fun
  | [d1, d2, d3, d4] => { results := [.lit (.bool true)], args := [d1, d2, d3, d4] }
  | _ => none }
def tideStaysRow : OpenClaim := { program := "ytknaajofcbenaaagreat", sum := "db57207b928476e6a118e53f73df253109f5a89d0bbb05ad5a5b940fae64eff6", func := "laurel/laurellaw01.TideStays", spec := "tideStays", unfollowed := true, recurses := true, apart := false }
def TideStaysSaid : Prop := tideStaysRow.holds Tryz.pinned (OpenSpec.ofChange tideStaysSpec)

/-- ITS FALSE NEIGHBOUR: 'it returns false'. Refute it at one input. -/
def tideStaysWrong : ChangeSpec := { name := "tideStays", fn := fun _ => fun
  | [d1, d2, d3, d4] => { results := [.lit (.bool false)], args := [d1, d2, d3, d4] }
  | _ => none }
def TideStaysWrongFalsely : Prop := tideStaysRow.holds Tryz.pinned (OpenSpec.ofChange tideStaysWrong)

/-- 'laurellaw01.TideLooks': WHATEVER THE INPUT: true; the input reads as it did. -/
def tideLooksSpec : ChangeSpec := { name := "tideLooks", fn := fun _ => fun
  | [d1, d2] => { results := [.lit (.bool true)], args := [d1, d2] }
  | _ => none }
def tideLooksRow : OpenClaim := { program := "ytknaajofcbenaaagreat", sum := "db57207b928476e6a118e53f73df253109f5a89d0bbb05ad5a5b940fae64eff6", func := "laurel/laurellaw01.TideLooks", spec := "tideLooks", unfollowed := true, recurses := true, apart := false }
def TideLooksSaid : Prop := tideLooksRow.holds Tryz.pinned (OpenSpec.ofChange tideLooksSpec)

/-- ITS FALSE NEIGHBOUR: 'it returns false'. Refute it at one input. -/
def tideLooksWrong : ChangeSpec := { name := "tideLooks", fn := fun _ => fun
  | [d1, d2] => { results := [.lit (.bool false)], args := [d1, d2] }
  | _ => none }
def TideLooksWrongFalsely : Prop := tideLooksRow.holds Tryz.pinned (OpenSpec.ofChange tideLooksWrong)

/-- 'laurellaw01.TideSmall': WHATEVER THE INPUT: true; the input reads as it did. -/
def tideSmallSpec : ChangeSpec := { name := "tideSmall", fn := fun _ => fun
  | [] => { results := [.lit (.bool true)], args := [] }
  | _ => none }
def tideSmallRow : OpenClaim := { program := "ytknaajofcbenaaagreat", sum := "db57207b928476e6a118e53f73df253109f5a89d0bbb05ad5a5b940fae64eff6", func := "laurel/laurellaw01.TideSmall", spec := "tideSmall", unfollowed := true, recurses := true, apart := false }
def TideSmallSaid : Prop := tideSmallRow.holds Tryz.pinned (OpenSpec.ofChange tideSmallSpec)

/-- ITS FALSE NEIGHBOUR: 'it returns false'. Refute it at one input. -/
def tideSmallWrong : ChangeSpec := { name := "tideSmall", fn := fun _ => fun
  | [] => { results := [.lit (.bool false)], args := [] }
  | _ => none }
def TideSmallWrongFalsely : Prop := tideSmallRow.holds Tryz.pinned (OpenSpec.ofChange tideSmallWrong)

/- THE SECOND FORM. 'bulk': how many values and letters a reading holds, each counted each time it is reached (what is shared counts as often as it is met; a slice's spare places count too). A statement '..UptoSaid' is the law's where the arguments, and the package variables that the reading takes, are together of bulk at most 1048576: NARROWER than '..Said'. Prove '..Said' where nothing that the law and all that it calls make is longer than what came in: it says more and counts as full. Else prove '..UptoSaid'. A law counts once. -/
mutual
def uptoBulk {H : Type} : DataW H → Nat
  | .lit (.string bytes) => bytes.length + 1
  | .lit _ => 1
  | .nil => 1
  | .ptr d => uptoBulk d + 1
  | .slice elems spare => uptoBulkAll elems + uptoBulkAll spare + 1
  | .agg parts => uptoBulkAll parts + 1
  | .iface _ d => uptoBulk d + 1
  | .map entries => uptoBulkEntries entries + 1
  | .held _ => 1
def uptoBulkAll {H : Type} : List (DataW H) → Nat
  | [] => 0
  | d :: r => uptoBulk d + uptoBulkAll r
def uptoBulkEntries {H : Type} : List (Lit × DataW H) → Nat
  | [] => 0
  | x :: r => uptoBulkEntry x + uptoBulkEntries r
def uptoBulkEntry {H : Type} : Lit × DataW H → Nat
  | (.string bytes, d) => bytes.length + uptoBulk d + 1
  | (_, d) => uptoBulk d + 1
 end
def uptoSmall : (H : Type) → List (DataW H) → Bool := fun _ ds => decide (uptoBulkAll ds ≤ 1048576)
def OpenSpec.upto (s : _root_.Go.ChangeSpec) : _root_.Go.OpenSpec := { _root_.Go.OpenSpec.ofChange s with cond := some uptoSmall }

/-- 'laurellaw01.TideStays', WHERE WHAT IT READS IS OF BULK AT MOST 1048576: true; the input reads as it did. -/
def tideStaysUptoRow : OpenClaim := { program := "ytknaajofcbenaaagreat", sum := "db57207b928476e6a118e53f73df253109f5a89d0bbb05ad5a5b940fae64eff6", func := "laurel/laurellaw01.TideStays", spec := "tideStays", unfollowed := true, recurses := true, apart := false, narrowed := true }
def TideStaysUptoSaid : Prop := tideStaysUptoRow.holds Tryz.pinned (OpenSpec.upto tideStaysSpec)

/-- 'laurellaw01.TideLooks', WHERE WHAT IT READS IS OF BULK AT MOST 1048576: true; the input reads as it did. -/
def tideLooksUptoRow : OpenClaim := { program := "ytknaajofcbenaaagreat", sum := "db57207b928476e6a118e53f73df253109f5a89d0bbb05ad5a5b940fae64eff6", func := "laurel/laurellaw01.TideLooks", spec := "tideLooks", unfollowed := true, recurses := true, apart := false, narrowed := true }
def TideLooksUptoSaid : Prop := tideLooksUptoRow.holds Tryz.pinned (OpenSpec.upto tideLooksSpec)

/-- 'laurellaw01.TideSmall', WHERE WHAT IT READS IS OF BULK AT MOST 1048576: true; the input reads as it did. -/
def tideSmallUptoRow : OpenClaim := { program := "ytknaajofcbenaaagreat", sum := "db57207b928476e6a118e53f73df253109f5a89d0bbb05ad5a5b940fae64eff6", func := "laurel/laurellaw01.TideSmall", spec := "tideSmall", unfollowed := true, recurses := true, apart := false, narrowed := true }
def TideSmallUptoSaid : Prop := tideSmallUptoRow.holds Tryz.pinned (OpenSpec.upto tideSmallSpec)

end Rows
end Go.Proofs.YtknaajofcbenaaaGreat
