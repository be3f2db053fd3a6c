/-
  No cell of these rows narrows 'for every input' (looked for: loops, veiled, ifaces, maps, wideKeys, modest, calm, conditions, laid).
  DERIVED. THE GIVEN ROWS OF THIS SEAT. 6 by the template 'for every input the law returns true; each argument reads behind the call as it read before'; 0 by the template 'total and deterministic' (their statements: YtpmpngdejikhhaaTotals.lean).
  GIVEN WITH THE SEED: the statements are not yours to turn. If you find one false, say at which input.
  Laid BY PROGRAM, IN A SANDBOX (cutbox-rows.mjs): the forced cells as the released guide's own fill.sh prints them over the translation ece0221294810d3c… (all of the seat's roots in one cut). By AI agents, Wed Nov 11 2026. No macro, syntax, notation, axiom, sorry.
-/
import Derived.Test.YtpmpngdejikhhaaChecked
import GoSem.Claim
import GoSem.ClaimJoined
import GoSem.ClaimMapViews
import Derived.JoinedTies
import Derived.KernelRfl
namespace Go.Proofs.Ytpmpngdejikhhaa
/- THE CELL 'sum', in the pinned program and in every row, IS THE sha256 OF THE DUMP (.gsa) THAT YtpmpngdejikhhaaProg.lean LOADS. Nothing in Lean hashes anything: it is a label: what it is worth is what the hold of that sum in a sandbox is worth. -/
noncomputable def Try.pinned : Pinned := { name := "ytpmpngdejikhhaa", sum := "ece0221294810d3c9a03cd331ae8d1be86ea4f52865c4d1bffc989ce87162e84", checked := Try.checked }
namespace Rows
def none {H : Type} : Left H := { results := [], args := [] }

/-- 'blindstamplaw05.IdsNames': WHATEVER THE INPUT: true; the input reads as it did. -/
def idsNamesSpec : ChangeSpec := { name := "idsNames", fn := fun _ => fun
  | [] => { results := [.lit (.bool true)], args := [] }
  | _ => none }
def idsNamesRow : OpenClaim := { program := "ytpmpngdejikhhaa", sum := "ece0221294810d3c9a03cd331ae8d1be86ea4f52865c4d1bffc989ce87162e84", func := "blindstamp/blindstamplaw05.IdsNames", spec := "idsNames", apart := false }
def IdsNamesSaid : Prop := idsNamesRow.holds Try.pinned (OpenSpec.ofChange idsNamesSpec)

/-- ITS FALSE NEIGHBOUR: 'it returns false'. Refute it at one input. -/
def idsNamesWrong : ChangeSpec := { name := "idsNames", fn := fun _ => fun
  | [] => { results := [.lit (.bool false)], args := [] }
  | _ => none }
def IdsNamesWrongFalsely : Prop := idsNamesRow.holds Try.pinned (OpenSpec.ofChange idsNamesWrong)

/-- 'blindstamplaw05.IdsTell': WHATEVER THE INPUT: true; the input reads as it did. -/
def idsTellSpec : ChangeSpec := { name := "idsTell", fn := fun _ => fun
  | [d1, d2, d3, d4] => { results := [.lit (.bool true)], args := [d1, d2, d3, d4] }
  | _ => none }
def idsTellRow : OpenClaim := { program := "ytpmpngdejikhhaa", sum := "ece0221294810d3c9a03cd331ae8d1be86ea4f52865c4d1bffc989ce87162e84", func := "blindstamp/blindstamplaw05.IdsTell", spec := "idsTell", apart := false }
def IdsTellSaid : Prop := idsTellRow.holds Try.pinned (OpenSpec.ofChange idsTellSpec)

/-- ITS FALSE NEIGHBOUR: 'it returns false'. Refute it at one input. -/
def idsTellWrong : ChangeSpec := { name := "idsTell", fn := fun _ => fun
  | [d1, d2, d3, d4] => { results := [.lit (.bool false)], args := [d1, d2, d3, d4] }
  | _ => none }
def IdsTellWrongFalsely : Prop := idsTellRow.holds Try.pinned (OpenSpec.ofChange idsTellWrong)

/-- 'blindstamplaw05.IdsWrite': WHATEVER THE INPUT: true; the input reads as it did. -/
def idsWriteSpec : ChangeSpec := { name := "idsWrite", fn := fun _ => fun
  | [d1, d2] => { results := [.lit (.bool true)], args := [d1, d2] }
  | _ => none }
def idsWriteRow : OpenClaim := { program := "ytpmpngdejikhhaa", sum := "ece0221294810d3c9a03cd331ae8d1be86ea4f52865c4d1bffc989ce87162e84", func := "blindstamp/blindstamplaw05.IdsWrite", spec := "idsWrite", apart := false }
def IdsWriteSaid : Prop := idsWriteRow.holds Try.pinned (OpenSpec.ofChange idsWriteSpec)

/-- ITS FALSE NEIGHBOUR: 'it returns false'. Refute it at one input. -/
def idsWriteWrong : ChangeSpec := { name := "idsWrite", fn := fun _ => fun
  | [d1, d2] => { results := [.lit (.bool false)], args := [d1, d2] }
  | _ => none }
def IdsWriteWrongFalsely : Prop := idsWriteRow.holds Try.pinned (OpenSpec.ofChange idsWriteWrong)

/-- 'blindstamplaw05.IdsOrder': WHATEVER THE INPUT: true; the input reads as it did. -/
def idsOrderSpec : ChangeSpec := { name := "idsOrder", fn := fun _ => fun
  | [d1, d2, d3] => { results := [.lit (.bool true)], args := [d1, d2, d3] }
  | _ => none }
def idsOrderRow : OpenClaim := { program := "ytpmpngdejikhhaa", sum := "ece0221294810d3c9a03cd331ae8d1be86ea4f52865c4d1bffc989ce87162e84", func := "blindstamp/blindstamplaw05.IdsOrder", spec := "idsOrder", apart := false }
def IdsOrderSaid : Prop := idsOrderRow.holds Try.pinned (OpenSpec.ofChange idsOrderSpec)

/-- ITS FALSE NEIGHBOUR: 'it returns false'. Refute it at one input. -/
def idsOrderWrong : ChangeSpec := { name := "idsOrder", fn := fun _ => fun
  | [d1, d2, d3] => { results := [.lit (.bool false)], args := [d1, d2, d3] }
  | _ => none }
def IdsOrderWrongFalsely : Prop := idsOrderRow.holds Try.pinned (OpenSpec.ofChange idsOrderWrong)

/-- 'blindstamplaw05.IdsBack': WHATEVER THE INPUT: true; the input reads as it did. -/
def idsBackSpec : ChangeSpec := { name := "idsBack", fn := fun _ => fun
  | [d1, d2] => { results := [.lit (.bool true)], args := [d1, d2] }
  | _ => none }
def idsBackRow : OpenClaim := { program := "ytpmpngdejikhhaa", sum := "ece0221294810d3c9a03cd331ae8d1be86ea4f52865c4d1bffc989ce87162e84", func := "blindstamp/blindstamplaw05.IdsBack", spec := "idsBack", apart := false }
def IdsBackSaid : Prop := idsBackRow.holds Try.pinned (OpenSpec.ofChange idsBackSpec)

/-- ITS FALSE NEIGHBOUR: 'it returns false'. Refute it at one input. -/
def idsBackWrong : ChangeSpec := { name := "idsBack", fn := fun _ => fun
  | [d1, d2] => { results := [.lit (.bool false)], args := [d1, d2] }
  | _ => none }
def IdsBackWrongFalsely : Prop := idsBackRow.holds Try.pinned (OpenSpec.ofChange idsBackWrong)

/-- 'blindstamplaw05.IdsCut': WHATEVER THE INPUT: true; the input reads as it did. -/
def idsCutSpec : ChangeSpec := { name := "idsCut", fn := fun _ => fun
  | [d1, d2, d3, d4] => { results := [.lit (.bool true)], args := [d1, d2, d3, d4] }
  | _ => none }
def idsCutRow : OpenClaim := { program := "ytpmpngdejikhhaa", sum := "ece0221294810d3c9a03cd331ae8d1be86ea4f52865c4d1bffc989ce87162e84", func := "blindstamp/blindstamplaw05.IdsCut", spec := "idsCut", apart := false }
def IdsCutSaid : Prop := idsCutRow.holds Try.pinned (OpenSpec.ofChange idsCutSpec)

/-- ITS FALSE NEIGHBOUR: 'it returns false'. Refute it at one input. -/
def idsCutWrong : ChangeSpec := { name := "idsCut", fn := fun _ => fun
  | [d1, d2, d3, d4] => { results := [.lit (.bool false)], args := [d1, d2, d3, d4] }
  | _ => none }
def IdsCutWrongFalsely : Prop := idsCutRow.holds Try.pinned (OpenSpec.ofChange idsCutWrong)

/- THE SECOND FORM. 'bulk': how many values and letters a reading holds, each counted each time it is reached (what is shared counts as often as it is met; a slice's spare places count too). A statement '..UptoSaid' is the law's where the arguments, and the package variables that the reading takes, are together of bulk at most 1048576: NARROWER than '..Said'. Prove '..Said' where nothing that the law and all that it calls make is longer than what came in: it says more and counts as full. Else prove '..UptoSaid'. A law counts once. -/
mutual
def uptoBulk {H : Type} : DataW H → Nat
  | .lit (.string bytes) => bytes.length + 1
  | .lit _ => 1
  | .nil => 1
  | .ptr d => uptoBulk d + 1
  | .slice elems spare => uptoBulkAll elems + uptoBulkAll spare + 1
  | .agg parts => uptoBulkAll parts + 1
  | .iface _ d => uptoBulk d + 1
  | .map entries => uptoBulkEntries entries + 1
  | .held _ => 1
def uptoBulkAll {H : Type} : List (DataW H) → Nat
  | [] => 0
  | d :: r => uptoBulk d + uptoBulkAll r
def uptoBulkEntries {H : Type} : List (Lit × DataW H) → Nat
  | [] => 0
  | x :: r => uptoBulkEntry x + uptoBulkEntries r
def uptoBulkEntry {H : Type} : Lit × DataW H → Nat
  | (.string bytes, d) => bytes.length + uptoBulk d + 1
  | (_, d) => uptoBulk d + 1
 end
def uptoSmall : (H : Type) → List (DataW H) → Bool := fun _ ds => decide (uptoBulkAll ds ≤ 1048576)
def OpenSpec.upto (s : _root_.Go.ChangeSpec) : _root_.Go.OpenSpec := { _root_.Go.OpenSpec.ofChange s with cond := some uptoSmall }

/-- 'blindstamplaw05.IdsNames', WHERE WHAT IT READS IS OF BULK AT MOST 1048576: true; the input reads as it did. -/
def idsNamesUptoRow : OpenClaim := { program := "ytpmpngdejikhhaa", sum := "ece0221294810d3c9a03cd331ae8d1be86ea4f52865c4d1bffc989ce87162e84", func := "blindstamp/blindstamplaw05.IdsNames", spec := "idsNames", apart := false, narrowed := true }
def IdsNamesUptoSaid : Prop := idsNamesUptoRow.holds Try.pinned (OpenSpec.upto idsNamesSpec)

/-- 'blindstamplaw05.IdsTell', WHERE WHAT IT READS IS OF BULK AT MOST 1048576: true; the input reads as it did. -/
def idsTellUptoRow : OpenClaim := { program := "ytpmpngdejikhhaa", sum := "ece0221294810d3c9a03cd331ae8d1be86ea4f52865c4d1bffc989ce87162e84", func := "blindstamp/blindstamplaw05.IdsTell", spec := "idsTell", apart := false, narrowed := true }
def IdsTellUptoSaid : Prop := idsTellUptoRow.holds Try.pinned (OpenSpec.upto idsTellSpec)

/-- 'blindstamplaw05.IdsWrite', WHERE WHAT IT READS IS OF BULK AT MOST 1048576: true; the input reads as it did. -/
def idsWriteUptoRow : OpenClaim := { program := "ytpmpngdejikhhaa", sum := "ece0221294810d3c9a03cd331ae8d1be86ea4f52865c4d1bffc989ce87162e84", func := "blindstamp/blindstamplaw05.IdsWrite", spec := "idsWrite", apart := false, narrowed := true }
def IdsWriteUptoSaid : Prop := idsWriteUptoRow.holds Try.pinned (OpenSpec.upto idsWriteSpec)

/-- 'blindstamplaw05.IdsOrder', WHERE WHAT IT READS IS OF BULK AT MOST 1048576: true; the input reads as it did. -/
def idsOrderUptoRow : OpenClaim := { program := "ytpmpngdejikhhaa", sum := "ece0221294810d3c9a03cd331ae8d1be86ea4f52865c4d1bffc989ce87162e84", func := "blindstamp/blindstamplaw05.IdsOrder", spec := "idsOrder", apart := false, narrowed := true }
def IdsOrderUptoSaid : Prop := idsOrderUptoRow.holds Try.pinned (OpenSpec.upto idsOrderSpec)

/-- 'blindstamplaw05.IdsBack', WHERE WHAT IT READS IS OF BULK AT MOST 1048576: true; the input reads as it did. -/
def idsBackUptoRow : OpenClaim := { program := "ytpmpngdejikhhaa", sum := "ece0221294810d3c9a03cd331ae8d1be86ea4f52865c4d1bffc989ce87162e84", func := "blindstamp/blindstamplaw05.IdsBack", spec := "idsBack", apart := false, narrowed := true }
def IdsBackUptoSaid : Prop := idsBackUptoRow.holds Try.pinned (OpenSpec.upto idsBackSpec)

/-- 'blindstamplaw05.IdsCut', WHERE WHAT IT READS IS OF BULK AT MOST 1048576: true; the input reads as it did. -/
def idsCutUptoRow : OpenClaim := { program := "ytpmpngdejikhhaa", sum := "ece0221294810d3c9a03cd331ae8d1be86ea4f52865c4d1bffc989ce87162e84", func := "blindstamp/blindstamplaw05.IdsCut", spec := "idsCut", apart := false, narrowed := true }
def IdsCutUptoSaid : Prop := idsCutUptoRow.holds Try.pinned (OpenSpec.upto idsCutSpec)

end Rows
end Go.Proofs.Ytpmpngdejikhhaa
