/-
  No cell of these rows narrows 'for every input' (looked for: loops, veiled, ifaces, maps, wideKeys, modest, calm, conditions, laid).
  DERIVED. THE GIVEN ROWS OF THIS SEAT. 5 by the template 'for every input the law returns true; each argument reads behind the call as it read before'; 0 by the template 'total and deterministic' (their statements: YtbigppdaoakkfaaTotals.lean).
  GIVEN WITH THE SEED: the statements are not yours to turn. If you find one false, say at which input.
  Laid BY PROGRAM, IN A SANDBOX (cutbox-rows.mjs): the forced cells as the released guide's own fill.sh prints them over the translation 4e25d19cbc698766… (all of the seat's roots in one cut). By AI agents, Wed Nov 11 2026. No macro, syntax, notation, axiom, sorry.
-/
import Derived.Test.YtbigppdaoakkfaaChecked
import GoSem.Claim
import GoSem.ClaimJoined
import GoSem.ClaimMapViews
import Derived.JoinedTies
import Derived.KernelRfl
namespace Go.Proofs.Ytbigppdaoakkfaa
/- THE CELL 'sum', in the pinned program and in every row, IS THE sha256 OF THE DUMP (.gsa) THAT YtbigppdaoakkfaaProg.lean LOADS. Nothing in Lean hashes anything: it is a label: what it is worth is what the hold of that sum in a sandbox is worth. -/
noncomputable def Try.pinned : Pinned := { name := "ytbigppdaoakkfaa", sum := "4e25d19cbc69876689425b5dc88ad70b13975ce6aa45de31079c8bde86c3be8b", checked := Try.checked }
namespace Rows
def none {H : Type} : Left H := { results := [], args := [] }

/-- 'blindstamplaw07.GrantNames': WHATEVER THE INPUT: true; the input reads as it did. -/
def grantNamesSpec : ChangeSpec := { name := "grantNames", fn := fun _ => fun
  | [] => { results := [.lit (.bool true)], args := [] }
  | _ => none }
def grantNamesRow : OpenClaim := { program := "ytbigppdaoakkfaa", sum := "4e25d19cbc69876689425b5dc88ad70b13975ce6aa45de31079c8bde86c3be8b", func := "blindstamp/blindstamplaw07.GrantNames", spec := "grantNames", unfollowed := true, recurses := true, apart := false }
def GrantNamesSaid : Prop := grantNamesRow.holds Try.pinned (OpenSpec.ofChange grantNamesSpec)

/-- ITS FALSE NEIGHBOUR: 'it returns false'. Refute it at one input. -/
def grantNamesWrong : ChangeSpec := { name := "grantNames", fn := fun _ => fun
  | [] => { results := [.lit (.bool false)], args := [] }
  | _ => none }
def GrantNamesWrongFalsely : Prop := grantNamesRow.holds Try.pinned (OpenSpec.ofChange grantNamesWrong)

/-- 'blindstamplaw07.GrantTells': WHATEVER THE INPUT: true; the input reads as it did. -/
def grantTellsSpec : ChangeSpec := { name := "grantTells", fn := fun _ => fun
  | [d1, d2, d3] => { results := [.lit (.bool true)], args := [d1, d2, d3] }
  | _ => none }
def grantTellsRow : OpenClaim := { program := "ytbigppdaoakkfaa", sum := "4e25d19cbc69876689425b5dc88ad70b13975ce6aa45de31079c8bde86c3be8b", func := "blindstamp/blindstamplaw07.GrantTells", spec := "grantTells", unfollowed := true, recurses := true, apart := false }
def GrantTellsSaid : Prop := grantTellsRow.holds Try.pinned (OpenSpec.ofChange grantTellsSpec)

/-- ITS FALSE NEIGHBOUR: 'it returns false'. Refute it at one input. -/
def grantTellsWrong : ChangeSpec := { name := "grantTells", fn := fun _ => fun
  | [d1, d2, d3] => { results := [.lit (.bool false)], args := [d1, d2, d3] }
  | _ => none }
def GrantTellsWrongFalsely : Prop := grantTellsRow.holds Try.pinned (OpenSpec.ofChange grantTellsWrong)

/-- 'blindstamplaw07.GrantWrites': WHATEVER THE INPUT: true; the input reads as it did. -/
def grantWritesSpec : ChangeSpec := { name := "grantWrites", fn := fun _ => fun
  | [d1, d2] => { results := [.lit (.bool true)], args := [d1, d2] }
  | _ => none }
def grantWritesRow : OpenClaim := { program := "ytbigppdaoakkfaa", sum := "4e25d19cbc69876689425b5dc88ad70b13975ce6aa45de31079c8bde86c3be8b", func := "blindstamp/blindstamplaw07.GrantWrites", spec := "grantWrites", unfollowed := true, recurses := true, apart := false }
def GrantWritesSaid : Prop := grantWritesRow.holds Try.pinned (OpenSpec.ofChange grantWritesSpec)

/-- ITS FALSE NEIGHBOUR: 'it returns false'. Refute it at one input. -/
def grantWritesWrong : ChangeSpec := { name := "grantWrites", fn := fun _ => fun
  | [d1, d2] => { results := [.lit (.bool false)], args := [d1, d2] }
  | _ => none }
def GrantWritesWrongFalsely : Prop := grantWritesRow.holds Try.pinned (OpenSpec.ofChange grantWritesWrong)

/-- 'blindstamplaw07.GrantLast': WHATEVER THE INPUT: true; the input reads as it did. -/
def grantLastSpec : ChangeSpec := { name := "grantLast", fn := fun _ => fun
  | [d1, d2, d3] => { results := [.lit (.bool true)], args := [d1, d2, d3] }
  | _ => none }
def grantLastRow : OpenClaim := { program := "ytbigppdaoakkfaa", sum := "4e25d19cbc69876689425b5dc88ad70b13975ce6aa45de31079c8bde86c3be8b", func := "blindstamp/blindstamplaw07.GrantLast", spec := "grantLast", unfollowed := true, recurses := true, apart := false }
def GrantLastSaid : Prop := grantLastRow.holds Try.pinned (OpenSpec.ofChange grantLastSpec)

/-- ITS FALSE NEIGHBOUR: 'it returns false'. Refute it at one input. -/
def grantLastWrong : ChangeSpec := { name := "grantLast", fn := fun _ => fun
  | [d1, d2, d3] => { results := [.lit (.bool false)], args := [d1, d2, d3] }
  | _ => none }
def GrantLastWrongFalsely : Prop := grantLastRow.holds Try.pinned (OpenSpec.ofChange grantLastWrong)

/-- 'blindstamplaw07.GrantBack': WHATEVER THE INPUT: true; the input reads as it did. -/
def grantBackSpec : ChangeSpec := { name := "grantBack", fn := fun _ => fun
  | [d1, d2] => { results := [.lit (.bool true)], args := [d1, d2] }
  | _ => none }
def grantBackRow : OpenClaim := { program := "ytbigppdaoakkfaa", sum := "4e25d19cbc69876689425b5dc88ad70b13975ce6aa45de31079c8bde86c3be8b", func := "blindstamp/blindstamplaw07.GrantBack", spec := "grantBack", unfollowed := true, recurses := true, apart := false }
def GrantBackSaid : Prop := grantBackRow.holds Try.pinned (OpenSpec.ofChange grantBackSpec)

/-- ITS FALSE NEIGHBOUR: 'it returns false'. Refute it at one input. -/
def grantBackWrong : ChangeSpec := { name := "grantBack", fn := fun _ => fun
  | [d1, d2] => { results := [.lit (.bool false)], args := [d1, d2] }
  | _ => none }
def GrantBackWrongFalsely : Prop := grantBackRow.holds Try.pinned (OpenSpec.ofChange grantBackWrong)

/- THE SECOND FORM. 'bulk': how many values and letters a reading holds, each counted each time it is reached (what is shared counts as often as it is met; a slice's spare places count too). A statement '..UptoSaid' is the law's where the arguments, and the package variables that the reading takes, are together of bulk at most 1048576: NARROWER than '..Said'. Prove '..Said' where nothing that the law and all that it calls make is longer than what came in: it says more and counts as full. Else prove '..UptoSaid'. A law counts once. -/
mutual
def uptoBulk {H : Type} : DataW H → Nat
  | .lit (.string bytes) => bytes.length + 1
  | .lit _ => 1
  | .nil => 1
  | .ptr d => uptoBulk d + 1
  | .slice elems spare => uptoBulkAll elems + uptoBulkAll spare + 1
  | .agg parts => uptoBulkAll parts + 1
  | .iface _ d => uptoBulk d + 1
  | .map entries => uptoBulkEntries entries + 1
  | .held _ => 1
def uptoBulkAll {H : Type} : List (DataW H) → Nat
  | [] => 0
  | d :: r => uptoBulk d + uptoBulkAll r
def uptoBulkEntries {H : Type} : List (Lit × DataW H) → Nat
  | [] => 0
  | x :: r => uptoBulkEntry x + uptoBulkEntries r
def uptoBulkEntry {H : Type} : Lit × DataW H → Nat
  | (.string bytes, d) => bytes.length + uptoBulk d + 1
  | (_, d) => uptoBulk d + 1
 end
def uptoSmall : (H : Type) → List (DataW H) → Bool := fun _ ds => decide (uptoBulkAll ds ≤ 1048576)
def OpenSpec.upto (s : _root_.Go.ChangeSpec) : _root_.Go.OpenSpec := { _root_.Go.OpenSpec.ofChange s with cond := some uptoSmall }

/-- 'blindstamplaw07.GrantNames', WHERE WHAT IT READS IS OF BULK AT MOST 1048576: true; the input reads as it did. -/
def grantNamesUptoRow : OpenClaim := { program := "ytbigppdaoakkfaa", sum := "4e25d19cbc69876689425b5dc88ad70b13975ce6aa45de31079c8bde86c3be8b", func := "blindstamp/blindstamplaw07.GrantNames", spec := "grantNames", unfollowed := true, recurses := true, apart := false, narrowed := true }
def GrantNamesUptoSaid : Prop := grantNamesUptoRow.holds Try.pinned (OpenSpec.upto grantNamesSpec)

/-- 'blindstamplaw07.GrantTells', WHERE WHAT IT READS IS OF BULK AT MOST 1048576: true; the input reads as it did. -/
def grantTellsUptoRow : OpenClaim := { program := "ytbigppdaoakkfaa", sum := "4e25d19cbc69876689425b5dc88ad70b13975ce6aa45de31079c8bde86c3be8b", func := "blindstamp/blindstamplaw07.GrantTells", spec := "grantTells", unfollowed := true, recurses := true, apart := false, narrowed := true }
def GrantTellsUptoSaid : Prop := grantTellsUptoRow.holds Try.pinned (OpenSpec.upto grantTellsSpec)

/-- 'blindstamplaw07.GrantWrites', WHERE WHAT IT READS IS OF BULK AT MOST 1048576: true; the input reads as it did. -/
def grantWritesUptoRow : OpenClaim := { program := "ytbigppdaoakkfaa", sum := "4e25d19cbc69876689425b5dc88ad70b13975ce6aa45de31079c8bde86c3be8b", func := "blindstamp/blindstamplaw07.GrantWrites", spec := "grantWrites", unfollowed := true, recurses := true, apart := false, narrowed := true }
def GrantWritesUptoSaid : Prop := grantWritesUptoRow.holds Try.pinned (OpenSpec.upto grantWritesSpec)

/-- 'blindstamplaw07.GrantLast', WHERE WHAT IT READS IS OF BULK AT MOST 1048576: true; the input reads as it did. -/
def grantLastUptoRow : OpenClaim := { program := "ytbigppdaoakkfaa", sum := "4e25d19cbc69876689425b5dc88ad70b13975ce6aa45de31079c8bde86c3be8b", func := "blindstamp/blindstamplaw07.GrantLast", spec := "grantLast", unfollowed := true, recurses := true, apart := false, narrowed := true }
def GrantLastUptoSaid : Prop := grantLastUptoRow.holds Try.pinned (OpenSpec.upto grantLastSpec)

/-- 'blindstamplaw07.GrantBack', WHERE WHAT IT READS IS OF BULK AT MOST 1048576: true; the input reads as it did. -/
def grantBackUptoRow : OpenClaim := { program := "ytbigppdaoakkfaa", sum := "4e25d19cbc69876689425b5dc88ad70b13975ce6aa45de31079c8bde86c3be8b", func := "blindstamp/blindstamplaw07.GrantBack", spec := "grantBack", unfollowed := true, recurses := true, apart := false, narrowed := true }
def GrantBackUptoSaid : Prop := grantBackUptoRow.holds Try.pinned (OpenSpec.upto grantBackSpec)

end Rows
end Go.Proofs.Ytbigppdaoakkfaa
