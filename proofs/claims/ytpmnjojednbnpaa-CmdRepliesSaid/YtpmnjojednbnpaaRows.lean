/-
  No cell of these rows narrows 'for every input' (looked for: loops, veiled, ifaces, maps, wideKeys, modest, calm, conditions, laid).
  DERIVED. THE GIVEN ROWS OF THIS SEAT. 3 by the template 'for every input the law returns true; each argument reads behind the call as it read before'; 0 by the template 'total and deterministic' (their statements: YtpmnjojednbnpaaTotals.lean).
  GIVEN WITH THE SEED: the statements are not yours to turn. If you find one false, say at which input.
  Laid BY PROGRAM, IN A SANDBOX (cutbox-rows.mjs): the forced cells as the released guide's own fill.sh prints them over the translation 379f9388b1a23424… (all of the seat's roots in one cut). By AI agents, Wed Nov 11 2026. No macro, syntax, notation, axiom, sorry.
-/
import Derived.Test.YtpmnjojednbnpaaChecked
import GoSem.Claim
import GoSem.ClaimJoined
import GoSem.ClaimMapViews
import Derived.JoinedTies
import Derived.KernelRfl
namespace Go.Proofs.Ytpmnjojednbnpaa
/- THE CELL 'sum', in the pinned program and in every row, IS THE sha256 OF THE DUMP (.gsa) THAT YtpmnjojednbnpaaProg.lean LOADS. Nothing in Lean hashes anything: it is a label: what it is worth is what the hold of that sum in a sandbox is worth. -/
noncomputable def Try.pinned : Pinned := { name := "ytpmnjojednbnpaa", sum := "379f9388b1a23424b28fc333664f853eb12507d760c1672557f687341ed72144", checked := Try.checked }
namespace Rows
def none {H : Type} : Left H := { results := [], args := [] }

/-- 'novationlaw34.CmdEncodes': WHATEVER THE INPUT: true; the input reads as it did. -/
def cmdEncodesSpec : ChangeSpec := { name := "cmdEncodes", fn := fun _ => fun
  | [d1, d2] => { results := [.lit (.bool true)], args := [d1, d2] }
  | _ => none }
def cmdEncodesRow : OpenClaim := { program := "ytpmnjojednbnpaa", sum := "379f9388b1a23424b28fc333664f853eb12507d760c1672557f687341ed72144", func := "novation/novationlaw34.CmdEncodes", spec := "cmdEncodes", unfollowed := true, recurses := true, apart := false }
def CmdEncodesSaid : Prop := cmdEncodesRow.holds Try.pinned (OpenSpec.ofChange cmdEncodesSpec)

/-- ITS FALSE NEIGHBOUR: 'it returns false'. Refute it at one input. -/
def cmdEncodesWrong : ChangeSpec := { name := "cmdEncodes", fn := fun _ => fun
  | [d1, d2] => { results := [.lit (.bool false)], args := [d1, d2] }
  | _ => none }
def CmdEncodesWrongFalsely : Prop := cmdEncodesRow.holds Try.pinned (OpenSpec.ofChange cmdEncodesWrong)

/-- 'novationlaw34.CmdDecodes': WHATEVER THE INPUT: true; the input reads as it did. -/
def cmdDecodesSpec : ChangeSpec := { name := "cmdDecodes", fn := fun _ => fun
  | [d1, d2] => { results := [.lit (.bool true)], args := [d1, d2] }
  | _ => none }
def cmdDecodesRow : OpenClaim := { program := "ytpmnjojednbnpaa", sum := "379f9388b1a23424b28fc333664f853eb12507d760c1672557f687341ed72144", func := "novation/novationlaw34.CmdDecodes", spec := "cmdDecodes", unfollowed := true, recurses := true, apart := false }
def CmdDecodesSaid : Prop := cmdDecodesRow.holds Try.pinned (OpenSpec.ofChange cmdDecodesSpec)

/-- ITS FALSE NEIGHBOUR: 'it returns false'. Refute it at one input. -/
def cmdDecodesWrong : ChangeSpec := { name := "cmdDecodes", fn := fun _ => fun
  | [d1, d2] => { results := [.lit (.bool false)], args := [d1, d2] }
  | _ => none }
def CmdDecodesWrongFalsely : Prop := cmdDecodesRow.holds Try.pinned (OpenSpec.ofChange cmdDecodesWrong)

/-- 'novationlaw34.CmdReplies': WHATEVER THE INPUT: true; the input reads as it did. -/
def cmdRepliesSpec : ChangeSpec := { name := "cmdReplies", fn := fun _ => fun
  | [d1, d2] => { results := [.lit (.bool true)], args := [d1, d2] }
  | _ => none }
def cmdRepliesRow : OpenClaim := { program := "ytpmnjojednbnpaa", sum := "379f9388b1a23424b28fc333664f853eb12507d760c1672557f687341ed72144", func := "novation/novationlaw34.CmdReplies", spec := "cmdReplies", unfollowed := true, recurses := true, apart := false }
def CmdRepliesSaid : Prop := cmdRepliesRow.holds Try.pinned (OpenSpec.ofChange cmdRepliesSpec)

/-- ITS FALSE NEIGHBOUR: 'it returns false'. Refute it at one input. -/
def cmdRepliesWrong : ChangeSpec := { name := "cmdReplies", fn := fun _ => fun
  | [d1, d2] => { results := [.lit (.bool false)], args := [d1, d2] }
  | _ => none }
def CmdRepliesWrongFalsely : Prop := cmdRepliesRow.holds Try.pinned (OpenSpec.ofChange cmdRepliesWrong)

/- THE SECOND FORM. 'bulk': how many values and letters a reading holds, each counted each time it is reached (what is shared counts as often as it is met; a slice's spare places count too). A statement '..UptoSaid' is the law's where the arguments, and the package variables that the reading takes, are together of bulk at most 1048576: NARROWER than '..Said'. Prove '..Said' where nothing that the law and all that it calls make is longer than what came in: it says more and counts as full. Else prove '..UptoSaid'. A law counts once. -/
mutual
def uptoBulk {H : Type} : DataW H → Nat
  | .lit (.string bytes) => bytes.length + 1
  | .lit _ => 1
  | .nil => 1
  | .ptr d => uptoBulk d + 1
  | .slice elems spare => uptoBulkAll elems + uptoBulkAll spare + 1
  | .agg parts => uptoBulkAll parts + 1
  | .iface _ d => uptoBulk d + 1
  | .map entries => uptoBulkEntries entries + 1
  | .held _ => 1
def uptoBulkAll {H : Type} : List (DataW H) → Nat
  | [] => 0
  | d :: r => uptoBulk d + uptoBulkAll r
def uptoBulkEntries {H : Type} : List (Lit × DataW H) → Nat
  | [] => 0
  | x :: r => uptoBulkEntry x + uptoBulkEntries r
def uptoBulkEntry {H : Type} : Lit × DataW H → Nat
  | (.string bytes, d) => bytes.length + uptoBulk d + 1
  | (_, d) => uptoBulk d + 1
 end
def uptoSmall : (H : Type) → List (DataW H) → Bool := fun _ ds => decide (uptoBulkAll ds ≤ 1048576)
def OpenSpec.upto (s : _root_.Go.ChangeSpec) : _root_.Go.OpenSpec := { _root_.Go.OpenSpec.ofChange s with cond := some uptoSmall }

/-- 'novationlaw34.CmdEncodes', WHERE WHAT IT READS IS OF BULK AT MOST 1048576: true; the input reads as it did. -/
def cmdEncodesUptoRow : OpenClaim := { program := "ytpmnjojednbnpaa", sum := "379f9388b1a23424b28fc333664f853eb12507d760c1672557f687341ed72144", func := "novation/novationlaw34.CmdEncodes", spec := "cmdEncodes", unfollowed := true, recurses := true, apart := false, narrowed := true }
def CmdEncodesUptoSaid : Prop := cmdEncodesUptoRow.holds Try.pinned (OpenSpec.upto cmdEncodesSpec)

/-- 'novationlaw34.CmdDecodes', WHERE WHAT IT READS IS OF BULK AT MOST 1048576: true; the input reads as it did. -/
def cmdDecodesUptoRow : OpenClaim := { program := "ytpmnjojednbnpaa", sum := "379f9388b1a23424b28fc333664f853eb12507d760c1672557f687341ed72144", func := "novation/novationlaw34.CmdDecodes", spec := "cmdDecodes", unfollowed := true, recurses := true, apart := false, narrowed := true }
def CmdDecodesUptoSaid : Prop := cmdDecodesUptoRow.holds Try.pinned (OpenSpec.upto cmdDecodesSpec)

/-- 'novationlaw34.CmdReplies', WHERE WHAT IT READS IS OF BULK AT MOST 1048576: true; the input reads as it did. -/
def cmdRepliesUptoRow : OpenClaim := { program := "ytpmnjojednbnpaa", sum := "379f9388b1a23424b28fc333664f853eb12507d760c1672557f687341ed72144", func := "novation/novationlaw34.CmdReplies", spec := "cmdReplies", unfollowed := true, recurses := true, apart := false, narrowed := true }
def CmdRepliesUptoSaid : Prop := cmdRepliesUptoRow.holds Try.pinned (OpenSpec.upto cmdRepliesSpec)

end Rows
end Go.Proofs.Ytpmnjojednbnpaa
