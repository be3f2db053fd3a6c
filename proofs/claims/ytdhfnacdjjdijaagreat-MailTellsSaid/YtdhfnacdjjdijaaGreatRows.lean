/-
  No cell of these rows narrows 'for every input' (looked for: loops, veiled, ifaces, maps, wideKeys, modest, calm, conditions, laid).
  DERIVED. THE GIVEN ROWS OF THIS SEAT. 4 by the template 'for every input the law returns true; each argument reads behind the call as it read before'; 0 by the template 'total and deterministic' (their statements: YtdhfnacdjjdijaaGreatTotals.lean).
  GIVEN WITH THE SEED: the statements are not yours to turn. If you find one false, say at which input.
  Laid BY PROGRAM, IN A SANDBOX (cutbox-rows.mjs): the forced cells as the released guide's own fill.sh prints them over the translation 5c36872ad3d2537f… (all of the seat's roots in one cut). By AI agents, Wed Nov 11 2026. No macro, syntax, notation, axiom, sorry.
-/
import Derived.Test.YtdhfnacdjjdijaaGreatChecked
import GoSem.Claim
import GoSem.ClaimJoined
import GoSem.ClaimMapViews
import Derived.JoinedTies
import Derived.KernelRfl
namespace Go.Proofs.YtdhfnacdjjdijaaGreat
/- THE CELL 'sum', in the pinned program and in every row, IS THE sha256 OF THE DUMP (.gsa) THAT YtdhfnacdjjdijaaGreatProg.lean LOADS. Nothing in Lean hashes anything: it is a label: what it is worth is what the hold of that sum in a sandbox is worth. -/
noncomputable def Tryz.pinned : Pinned := { name := "ytdhfnacdjjdijaagreat", sum := "5c36872ad3d2537f31ddcb7300d351eb03403c04c6340662814efbcfa896e4f5", checked := Tryz.checked }
namespace Rows
def none {H : Type} : Left H := { results := [], args := [] }

/-- 'blindstamplaw10.MailNames': WHATEVER THE INPUT: true; the input reads as it did. -/
def mailNamesSpec : ChangeSpec := { name := "mailNames", fn := fun _ => fun
  | [] => { results := [.lit (.bool true)], args := [] }
  | _ => none }
def mailNamesRow : OpenClaim := { program := "ytdhfnacdjjdijaagreat", sum := "5c36872ad3d2537f31ddcb7300d351eb03403c04c6340662814efbcfa896e4f5", func := "blindstamp/blindstamplaw10.MailNames", spec := "mailNames", unfollowed := true, recurses := true, apart := false }
def MailNamesSaid : Prop := mailNamesRow.holds Tryz.pinned (OpenSpec.ofChange mailNamesSpec)

/-- ITS FALSE NEIGHBOUR: 'it returns false'. Refute it at one input. -/
def mailNamesWrong : ChangeSpec := { name := "mailNames", fn := fun _ => fun
  | [] => { results := [.lit (.bool false)], args := [] }
  | _ => none }
def MailNamesWrongFalsely : Prop := mailNamesRow.holds Tryz.pinned (OpenSpec.ofChange mailNamesWrong)

/-- 'blindstamplaw10.MailTells': WHATEVER THE INPUT: true; the input reads as it did. -/
def mailTellsSpec : ChangeSpec := { name := "mailTells", fn := fun _ => fun
  | [d1, d2, d3] => { results := [.lit (.bool true)], args := [d1, d2, d3] }
  | _ => none }
def mailTellsRow : OpenClaim := { program := "ytdhfnacdjjdijaagreat", sum := "5c36872ad3d2537f31ddcb7300d351eb03403c04c6340662814efbcfa896e4f5", func := "blindstamp/blindstamplaw10.MailTells", spec := "mailTells", unfollowed := true, recurses := true, apart := false }
def MailTellsSaid : Prop := mailTellsRow.holds Tryz.pinned (OpenSpec.ofChange mailTellsSpec)

/-- ITS FALSE NEIGHBOUR: 'it returns false'. Refute it at one input. -/
def mailTellsWrong : ChangeSpec := { name := "mailTells", fn := fun _ => fun
  | [d1, d2, d3] => { results := [.lit (.bool false)], args := [d1, d2, d3] }
  | _ => none }
def MailTellsWrongFalsely : Prop := mailTellsRow.holds Tryz.pinned (OpenSpec.ofChange mailTellsWrong)

/-- 'blindstamplaw10.MailBack': WHATEVER THE INPUT: true; the input reads as it did. -/
def mailBackSpec : ChangeSpec := { name := "mailBack", fn := fun _ => fun
  | [d1, d2] => { results := [.lit (.bool true)], args := [d1, d2] }
  | _ => none }
def mailBackRow : OpenClaim := { program := "ytdhfnacdjjdijaagreat", sum := "5c36872ad3d2537f31ddcb7300d351eb03403c04c6340662814efbcfa896e4f5", func := "blindstamp/blindstamplaw10.MailBack", spec := "mailBack", unfollowed := true, recurses := true, apart := false }
def MailBackSaid : Prop := mailBackRow.holds Tryz.pinned (OpenSpec.ofChange mailBackSpec)

/-- ITS FALSE NEIGHBOUR: 'it returns false'. Refute it at one input. -/
def mailBackWrong : ChangeSpec := { name := "mailBack", fn := fun _ => fun
  | [d1, d2] => { results := [.lit (.bool false)], args := [d1, d2] }
  | _ => none }
def MailBackWrongFalsely : Prop := mailBackRow.holds Tryz.pinned (OpenSpec.ofChange mailBackWrong)

/-- 'blindstamplaw10.MailLong': WHATEVER THE INPUT: true; the input reads as it did. -/
def mailLongSpec : ChangeSpec := { name := "mailLong", fn := fun _ => fun
  | [d1, d2] => { results := [.lit (.bool true)], args := [d1, d2] }
  | _ => none }
def mailLongRow : OpenClaim := { program := "ytdhfnacdjjdijaagreat", sum := "5c36872ad3d2537f31ddcb7300d351eb03403c04c6340662814efbcfa896e4f5", func := "blindstamp/blindstamplaw10.MailLong", spec := "mailLong", unfollowed := true, recurses := true, apart := false }
def MailLongSaid : Prop := mailLongRow.holds Tryz.pinned (OpenSpec.ofChange mailLongSpec)

/-- ITS FALSE NEIGHBOUR: 'it returns false'. Refute it at one input. -/
def mailLongWrong : ChangeSpec := { name := "mailLong", fn := fun _ => fun
  | [d1, d2] => { results := [.lit (.bool false)], args := [d1, d2] }
  | _ => none }
def MailLongWrongFalsely : Prop := mailLongRow.holds Tryz.pinned (OpenSpec.ofChange mailLongWrong)

/- THE SECOND FORM. 'bulk': how many values and letters a reading holds, each counted each time it is reached (what is shared counts as often as it is met; a slice's spare places count too). A statement '..UptoSaid' is the law's where the arguments, and the package variables that the reading takes, are together of bulk at most 1048576: NARROWER than '..Said'. Prove '..Said' where nothing that the law and all that it calls make is longer than what came in: it says more and counts as full. Else prove '..UptoSaid'. A law counts once. -/
mutual
def uptoBulk {H : Type} : DataW H → Nat
  | .lit (.string bytes) => bytes.length + 1
  | .lit _ => 1
  | .nil => 1
  | .ptr d => uptoBulk d + 1
  | .slice elems spare => uptoBulkAll elems + uptoBulkAll spare + 1
  | .agg parts => uptoBulkAll parts + 1
  | .iface _ d => uptoBulk d + 1
  | .map entries => uptoBulkEntries entries + 1
  | .held _ => 1
def uptoBulkAll {H : Type} : List (DataW H) → Nat
  | [] => 0
  | d :: r => uptoBulk d + uptoBulkAll r
def uptoBulkEntries {H : Type} : List (Lit × DataW H) → Nat
  | [] => 0
  | x :: r => uptoBulkEntry x + uptoBulkEntries r
def uptoBulkEntry {H : Type} : Lit × DataW H → Nat
  | (.string bytes, d) => bytes.length + uptoBulk d + 1
  | (_, d) => uptoBulk d + 1
 end
def uptoSmall : (H : Type) → List (DataW H) → Bool := fun _ ds => decide (uptoBulkAll ds ≤ 1048576)
def OpenSpec.upto (s : _root_.Go.ChangeSpec) : _root_.Go.OpenSpec := { _root_.Go.OpenSpec.ofChange s with cond := some uptoSmall }

/-- 'blindstamplaw10.MailNames', WHERE WHAT IT READS IS OF BULK AT MOST 1048576: true; the input reads as it did. -/
def mailNamesUptoRow : OpenClaim := { program := "ytdhfnacdjjdijaagreat", sum := "5c36872ad3d2537f31ddcb7300d351eb03403c04c6340662814efbcfa896e4f5", func := "blindstamp/blindstamplaw10.MailNames", spec := "mailNames", unfollowed := true, recurses := true, apart := false, narrowed := true }
def MailNamesUptoSaid : Prop := mailNamesUptoRow.holds Tryz.pinned (OpenSpec.upto mailNamesSpec)

/-- 'blindstamplaw10.MailTells', WHERE WHAT IT READS IS OF BULK AT MOST 1048576: true; the input reads as it did. -/
def mailTellsUptoRow : OpenClaim := { program := "ytdhfnacdjjdijaagreat", sum := "5c36872ad3d2537f31ddcb7300d351eb03403c04c6340662814efbcfa896e4f5", func := "blindstamp/blindstamplaw10.MailTells", spec := "mailTells", unfollowed := true, recurses := true, apart := false, narrowed := true }
def MailTellsUptoSaid : Prop := mailTellsUptoRow.holds Tryz.pinned (OpenSpec.upto mailTellsSpec)

/-- 'blindstamplaw10.MailBack', WHERE WHAT IT READS IS OF BULK AT MOST 1048576: true; the input reads as it did. -/
def mailBackUptoRow : OpenClaim := { program := "ytdhfnacdjjdijaagreat", sum := "5c36872ad3d2537f31ddcb7300d351eb03403c04c6340662814efbcfa896e4f5", func := "blindstamp/blindstamplaw10.MailBack", spec := "mailBack", unfollowed := true, recurses := true, apart := false, narrowed := true }
def MailBackUptoSaid : Prop := mailBackUptoRow.holds Tryz.pinned (OpenSpec.upto mailBackSpec)

/-- 'blindstamplaw10.MailLong', WHERE WHAT IT READS IS OF BULK AT MOST 1048576: true; the input reads as it did. -/
def mailLongUptoRow : OpenClaim := { program := "ytdhfnacdjjdijaagreat", sum := "5c36872ad3d2537f31ddcb7300d351eb03403c04c6340662814efbcfa896e4f5", func := "blindstamp/blindstamplaw10.MailLong", spec := "mailLong", unfollowed := true, recurses := true, apart := false, narrowed := true }
def MailLongUptoSaid : Prop := mailLongUptoRow.holds Tryz.pinned (OpenSpec.upto mailLongSpec)

end Rows
end Go.Proofs.YtdhfnacdjjdijaaGreat
