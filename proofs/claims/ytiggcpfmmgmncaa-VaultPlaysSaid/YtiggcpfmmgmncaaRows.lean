/-
  No cell of these rows narrows 'for every input' (looked for: loops, veiled, ifaces, maps, wideKeys, modest, calm, conditions, laid).
  DERIVED. THE GIVEN ROWS OF THIS SEAT. 9 by the template 'for every input the law returns true; each argument reads behind the call as it read before'; 0 by the template 'total and deterministic' (their statements: YtiggcpfmmgmncaaTotals.lean).
  GIVEN WITH THE SEED: the statements are not yours to turn. If you find one false, say at which input.
  Laid BY PROGRAM, IN A SANDBOX (cutbox-rows.mjs): the forced cells as the released guide's own fill.sh prints them over the translation 058fd8339398e7b8… (all of the seat's roots in one cut). By AI agents, Wed Nov 11 2026. No macro, syntax, notation, axiom, sorry.
-/
import Derived.Test.YtiggcpfmmgmncaaChecked
import GoSem.Claim
import GoSem.ClaimJoined
import GoSem.ClaimMapViews
import Derived.JoinedTies
import Derived.KernelRfl
namespace Go.Proofs.Ytiggcpfmmgmncaa
/- THE CELL 'sum', in the pinned program and in every row, IS THE sha256 OF THE DUMP (.gsa) THAT YtiggcpfmmgmncaaProg.lean LOADS. Nothing in Lean hashes anything: it is a label: what it is worth is what the hold of that sum in a sandbox is worth. -/
noncomputable def Try.pinned : Pinned := { name := "ytiggcpfmmgmncaa", sum := "058fd8339398e7b81e806b6c150cc7e2bece833a09ef0523d9853fb53b46998c", checked := Try.checked }
namespace Rows
def none {H : Type} : Left H := { results := [], args := [] }

/-- 'novationlaw08.ScrollPlays': WHATEVER THE INPUT: true; the input reads as it did. -/
def scrollPlaysSpec : ChangeSpec := { name := "scrollPlays", fn := fun _ => fun
  | [d1, d2, d3] => { results := [.lit (.bool true)], args := [d1, d2, d3] }
  | _ => none }
def scrollPlaysRow : OpenClaim := { program := "ytiggcpfmmgmncaa", sum := "058fd8339398e7b81e806b6c150cc7e2bece833a09ef0523d9853fb53b46998c", func := "novation/novationlaw08.ScrollPlays", spec := "scrollPlays", unfollowed := true, recurses := true, apart := false }
def ScrollPlaysSaid : Prop := scrollPlaysRow.holds Try.pinned (OpenSpec.ofChange scrollPlaysSpec)

/-- ITS FALSE NEIGHBOUR: 'it returns false'. Refute it at one input. -/
def scrollPlaysWrong : ChangeSpec := { name := "scrollPlays", fn := fun _ => fun
  | [d1, d2, d3] => { results := [.lit (.bool false)], args := [d1, d2, d3] }
  | _ => none }
def ScrollPlaysWrongFalsely : Prop := scrollPlaysRow.holds Try.pinned (OpenSpec.ofChange scrollPlaysWrong)

/-- 'novationlaw08.ScrollKept': WHATEVER THE INPUT: true; the input reads as it did. -/
def scrollKeptSpec : ChangeSpec := { name := "scrollKept", fn := fun _ => fun
  | [d] => { results := [.lit (.bool true)], args := [d] }
  | _ => none }
def scrollKeptRow : OpenClaim := { program := "ytiggcpfmmgmncaa", sum := "058fd8339398e7b81e806b6c150cc7e2bece833a09ef0523d9853fb53b46998c", func := "novation/novationlaw08.ScrollKept", spec := "scrollKept", unfollowed := true, recurses := true, apart := false }
def ScrollKeptSaid : Prop := scrollKeptRow.holds Try.pinned (OpenSpec.ofChange scrollKeptSpec)

/-- ITS FALSE NEIGHBOUR: 'it returns false'. Refute it at one input. -/
def scrollKeptWrong : ChangeSpec := { name := "scrollKept", fn := fun _ => fun
  | [d] => { results := [.lit (.bool false)], args := [d] }
  | _ => none }
def ScrollKeptWrongFalsely : Prop := scrollKeptRow.holds Try.pinned (OpenSpec.ofChange scrollKeptWrong)

/-- 'novationlaw08.ScrollReads': WHATEVER THE INPUT: true; the input reads as it did. -/
def scrollReadsSpec : ChangeSpec := { name := "scrollReads", fn := fun _ => fun
  | [d1, d2, d3, d4, d5] => { results := [.lit (.bool true)], args := [d1, d2, d3, d4, d5] }
  | _ => none }
def scrollReadsRow : OpenClaim := { program := "ytiggcpfmmgmncaa", sum := "058fd8339398e7b81e806b6c150cc7e2bece833a09ef0523d9853fb53b46998c", func := "novation/novationlaw08.ScrollReads", spec := "scrollReads", unfollowed := true, recurses := true, apart := false }
def ScrollReadsSaid : Prop := scrollReadsRow.holds Try.pinned (OpenSpec.ofChange scrollReadsSpec)

/-- ITS FALSE NEIGHBOUR: 'it returns false'. Refute it at one input. -/
def scrollReadsWrong : ChangeSpec := { name := "scrollReads", fn := fun _ => fun
  | [d1, d2, d3, d4, d5] => { results := [.lit (.bool false)], args := [d1, d2, d3, d4, d5] }
  | _ => none }
def ScrollReadsWrongFalsely : Prop := scrollReadsRow.holds Try.pinned (OpenSpec.ofChange scrollReadsWrong)

/-- 'novationlaw08.ScrollNobody': WHATEVER THE INPUT: true; the input reads as it did. -/
def scrollNobodySpec : ChangeSpec := { name := "scrollNobody", fn := fun _ => fun
  | [d1, d2, d3] => { results := [.lit (.bool true)], args := [d1, d2, d3] }
  | _ => none }
def scrollNobodyRow : OpenClaim := { program := "ytiggcpfmmgmncaa", sum := "058fd8339398e7b81e806b6c150cc7e2bece833a09ef0523d9853fb53b46998c", func := "novation/novationlaw08.ScrollNobody", spec := "scrollNobody", unfollowed := true, recurses := true, apart := false }
def ScrollNobodySaid : Prop := scrollNobodyRow.holds Try.pinned (OpenSpec.ofChange scrollNobodySpec)

/-- ITS FALSE NEIGHBOUR: 'it returns false'. Refute it at one input. -/
def scrollNobodyWrong : ChangeSpec := { name := "scrollNobody", fn := fun _ => fun
  | [d1, d2, d3] => { results := [.lit (.bool false)], args := [d1, d2, d3] }
  | _ => none }
def ScrollNobodyWrongFalsely : Prop := scrollNobodyRow.holds Try.pinned (OpenSpec.ofChange scrollNobodyWrong)

/-- 'novationlaw09.StillKept': WHATEVER THE INPUT: true; the input reads as it did. -/
def stillKeptSpec : ChangeSpec := { name := "stillKept", fn := fun _ => fun
  | [d] => { results := [.lit (.bool true)], args := [d] }
  | _ => none }
def stillKeptRow : OpenClaim := { program := "ytiggcpfmmgmncaa", sum := "058fd8339398e7b81e806b6c150cc7e2bece833a09ef0523d9853fb53b46998c", func := "novation/novationlaw09.StillKept", spec := "stillKept", unfollowed := true, recurses := true, apart := false }
def StillKeptSaid : Prop := stillKeptRow.holds Try.pinned (OpenSpec.ofChange stillKeptSpec)

/-- ITS FALSE NEIGHBOUR: 'it returns false'. Refute it at one input. -/
def stillKeptWrong : ChangeSpec := { name := "stillKept", fn := fun _ => fun
  | [d] => { results := [.lit (.bool false)], args := [d] }
  | _ => none }
def StillKeptWrongFalsely : Prop := stillKeptRow.holds Try.pinned (OpenSpec.ofChange stillKeptWrong)

/-- 'novationlaw09.StillNobody': WHATEVER THE INPUT: true; the input reads as it did. -/
def stillNobodySpec : ChangeSpec := { name := "stillNobody", fn := fun _ => fun
  | [d1, d2, d3] => { results := [.lit (.bool true)], args := [d1, d2, d3] }
  | _ => none }
def stillNobodyRow : OpenClaim := { program := "ytiggcpfmmgmncaa", sum := "058fd8339398e7b81e806b6c150cc7e2bece833a09ef0523d9853fb53b46998c", func := "novation/novationlaw09.StillNobody", spec := "stillNobody", unfollowed := true, recurses := true, apart := false }
def StillNobodySaid : Prop := stillNobodyRow.holds Try.pinned (OpenSpec.ofChange stillNobodySpec)

/-- ITS FALSE NEIGHBOUR: 'it returns false'. Refute it at one input. -/
def stillNobodyWrong : ChangeSpec := { name := "stillNobody", fn := fun _ => fun
  | [d1, d2, d3] => { results := [.lit (.bool false)], args := [d1, d2, d3] }
  | _ => none }
def StillNobodyWrongFalsely : Prop := stillNobodyRow.holds Try.pinned (OpenSpec.ofChange stillNobodyWrong)

/-- 'novationlaw10.VaultPlays': WHATEVER THE INPUT: true; the input reads as it did. -/
def vaultPlaysSpec : ChangeSpec := { name := "vaultPlays", fn := fun _ => fun
  | [d1, d2, d3] => { results := [.lit (.bool true)], args := [d1, d2, d3] }
  | _ => none }
def vaultPlaysRow : OpenClaim := { program := "ytiggcpfmmgmncaa", sum := "058fd8339398e7b81e806b6c150cc7e2bece833a09ef0523d9853fb53b46998c", func := "novation/novationlaw10.VaultPlays", spec := "vaultPlays", unfollowed := true, recurses := true, apart := false }
def VaultPlaysSaid : Prop := vaultPlaysRow.holds Try.pinned (OpenSpec.ofChange vaultPlaysSpec)

/-- ITS FALSE NEIGHBOUR: 'it returns false'. Refute it at one input. -/
def vaultPlaysWrong : ChangeSpec := { name := "vaultPlays", fn := fun _ => fun
  | [d1, d2, d3] => { results := [.lit (.bool false)], args := [d1, d2, d3] }
  | _ => none }
def VaultPlaysWrongFalsely : Prop := vaultPlaysRow.holds Try.pinned (OpenSpec.ofChange vaultPlaysWrong)

/-- 'novationlaw10.VaultKept': WHATEVER THE INPUT: true; the input reads as it did. -/
def vaultKeptSpec : ChangeSpec := { name := "vaultKept", fn := fun _ => fun
  | [d] => { results := [.lit (.bool true)], args := [d] }
  | _ => none }
def vaultKeptRow : OpenClaim := { program := "ytiggcpfmmgmncaa", sum := "058fd8339398e7b81e806b6c150cc7e2bece833a09ef0523d9853fb53b46998c", func := "novation/novationlaw10.VaultKept", spec := "vaultKept", unfollowed := true, recurses := true, apart := false }
def VaultKeptSaid : Prop := vaultKeptRow.holds Try.pinned (OpenSpec.ofChange vaultKeptSpec)

/-- ITS FALSE NEIGHBOUR: 'it returns false'. Refute it at one input. -/
def vaultKeptWrong : ChangeSpec := { name := "vaultKept", fn := fun _ => fun
  | [d] => { results := [.lit (.bool false)], args := [d] }
  | _ => none }
def VaultKeptWrongFalsely : Prop := vaultKeptRow.holds Try.pinned (OpenSpec.ofChange vaultKeptWrong)

/-- 'novationlaw10.VaultNobody': WHATEVER THE INPUT: true; the input reads as it did. -/
def vaultNobodySpec : ChangeSpec := { name := "vaultNobody", fn := fun _ => fun
  | [d1, d2] => { results := [.lit (.bool true)], args := [d1, d2] }
  | _ => none }
def vaultNobodyRow : OpenClaim := { program := "ytiggcpfmmgmncaa", sum := "058fd8339398e7b81e806b6c150cc7e2bece833a09ef0523d9853fb53b46998c", func := "novation/novationlaw10.VaultNobody", spec := "vaultNobody", unfollowed := true, recurses := true, apart := false }
def VaultNobodySaid : Prop := vaultNobodyRow.holds Try.pinned (OpenSpec.ofChange vaultNobodySpec)

/-- ITS FALSE NEIGHBOUR: 'it returns false'. Refute it at one input. -/
def vaultNobodyWrong : ChangeSpec := { name := "vaultNobody", fn := fun _ => fun
  | [d1, d2] => { results := [.lit (.bool false)], args := [d1, d2] }
  | _ => none }
def VaultNobodyWrongFalsely : Prop := vaultNobodyRow.holds Try.pinned (OpenSpec.ofChange vaultNobodyWrong)

/- THE SECOND FORM. 'bulk': how many values and letters a reading holds, each counted each time it is reached (what is shared counts as often as it is met; a slice's spare places count too). A statement '..UptoSaid' is the law's where the arguments, and the package variables that the reading takes, are together of bulk at most 1048576: NARROWER than '..Said'. Prove '..Said' where nothing that the law and all that it calls make is longer than what came in: it says more and counts as full. Else prove '..UptoSaid'. A law counts once. -/
mutual
def uptoBulk {H : Type} : DataW H → Nat
  | .lit (.string bytes) => bytes.length + 1
  | .lit _ => 1
  | .nil => 1
  | .ptr d => uptoBulk d + 1
  | .slice elems spare => uptoBulkAll elems + uptoBulkAll spare + 1
  | .agg parts => uptoBulkAll parts + 1
  | .iface _ d => uptoBulk d + 1
  | .map entries => uptoBulkEntries entries + 1
  | .held _ => 1
def uptoBulkAll {H : Type} : List (DataW H) → Nat
  | [] => 0
  | d :: r => uptoBulk d + uptoBulkAll r
def uptoBulkEntries {H : Type} : List (Lit × DataW H) → Nat
  | [] => 0
  | x :: r => uptoBulkEntry x + uptoBulkEntries r
def uptoBulkEntry {H : Type} : Lit × DataW H → Nat
  | (.string bytes, d) => bytes.length + uptoBulk d + 1
  | (_, d) => uptoBulk d + 1
 end
def uptoSmall : (H : Type) → List (DataW H) → Bool := fun _ ds => decide (uptoBulkAll ds ≤ 1048576)
def OpenSpec.upto (s : _root_.Go.ChangeSpec) : _root_.Go.OpenSpec := { _root_.Go.OpenSpec.ofChange s with cond := some uptoSmall }

/-- 'novationlaw08.ScrollPlays', WHERE WHAT IT READS IS OF BULK AT MOST 1048576: true; the input reads as it did. -/
def scrollPlaysUptoRow : OpenClaim := { program := "ytiggcpfmmgmncaa", sum := "058fd8339398e7b81e806b6c150cc7e2bece833a09ef0523d9853fb53b46998c", func := "novation/novationlaw08.ScrollPlays", spec := "scrollPlays", unfollowed := true, recurses := true, apart := false, narrowed := true }
def ScrollPlaysUptoSaid : Prop := scrollPlaysUptoRow.holds Try.pinned (OpenSpec.upto scrollPlaysSpec)

/-- 'novationlaw08.ScrollKept', WHERE WHAT IT READS IS OF BULK AT MOST 1048576: true; the input reads as it did. -/
def scrollKeptUptoRow : OpenClaim := { program := "ytiggcpfmmgmncaa", sum := "058fd8339398e7b81e806b6c150cc7e2bece833a09ef0523d9853fb53b46998c", func := "novation/novationlaw08.ScrollKept", spec := "scrollKept", unfollowed := true, recurses := true, apart := false, narrowed := true }
def ScrollKeptUptoSaid : Prop := scrollKeptUptoRow.holds Try.pinned (OpenSpec.upto scrollKeptSpec)

/-- 'novationlaw08.ScrollReads', WHERE WHAT IT READS IS OF BULK AT MOST 1048576: true; the input reads as it did. -/
def scrollReadsUptoRow : OpenClaim := { program := "ytiggcpfmmgmncaa", sum := "058fd8339398e7b81e806b6c150cc7e2bece833a09ef0523d9853fb53b46998c", func := "novation/novationlaw08.ScrollReads", spec := "scrollReads", unfollowed := true, recurses := true, apart := false, narrowed := true }
def ScrollReadsUptoSaid : Prop := scrollReadsUptoRow.holds Try.pinned (OpenSpec.upto scrollReadsSpec)

/-- 'novationlaw08.ScrollNobody', WHERE WHAT IT READS IS OF BULK AT MOST 1048576: true; the input reads as it did. -/
def scrollNobodyUptoRow : OpenClaim := { program := "ytiggcpfmmgmncaa", sum := "058fd8339398e7b81e806b6c150cc7e2bece833a09ef0523d9853fb53b46998c", func := "novation/novationlaw08.ScrollNobody", spec := "scrollNobody", unfollowed := true, recurses := true, apart := false, narrowed := true }
def ScrollNobodyUptoSaid : Prop := scrollNobodyUptoRow.holds Try.pinned (OpenSpec.upto scrollNobodySpec)

/-- 'novationlaw09.StillKept', WHERE WHAT IT READS IS OF BULK AT MOST 1048576: true; the input reads as it did. -/
def stillKeptUptoRow : OpenClaim := { program := "ytiggcpfmmgmncaa", sum := "058fd8339398e7b81e806b6c150cc7e2bece833a09ef0523d9853fb53b46998c", func := "novation/novationlaw09.StillKept", spec := "stillKept", unfollowed := true, recurses := true, apart := false, narrowed := true }
def StillKeptUptoSaid : Prop := stillKeptUptoRow.holds Try.pinned (OpenSpec.upto stillKeptSpec)

/-- 'novationlaw09.StillNobody', WHERE WHAT IT READS IS OF BULK AT MOST 1048576: true; the input reads as it did. -/
def stillNobodyUptoRow : OpenClaim := { program := "ytiggcpfmmgmncaa", sum := "058fd8339398e7b81e806b6c150cc7e2bece833a09ef0523d9853fb53b46998c", func := "novation/novationlaw09.StillNobody", spec := "stillNobody", unfollowed := true, recurses := true, apart := false, narrowed := true }
def StillNobodyUptoSaid : Prop := stillNobodyUptoRow.holds Try.pinned (OpenSpec.upto stillNobodySpec)

/-- 'novationlaw10.VaultPlays', WHERE WHAT IT READS IS OF BULK AT MOST 1048576: true; the input reads as it did. -/
def vaultPlaysUptoRow : OpenClaim := { program := "ytiggcpfmmgmncaa", sum := "058fd8339398e7b81e806b6c150cc7e2bece833a09ef0523d9853fb53b46998c", func := "novation/novationlaw10.VaultPlays", spec := "vaultPlays", unfollowed := true, recurses := true, apart := false, narrowed := true }
def VaultPlaysUptoSaid : Prop := vaultPlaysUptoRow.holds Try.pinned (OpenSpec.upto vaultPlaysSpec)

/-- 'novationlaw10.VaultKept', WHERE WHAT IT READS IS OF BULK AT MOST 1048576: true; the input reads as it did. -/
def vaultKeptUptoRow : OpenClaim := { program := "ytiggcpfmmgmncaa", sum := "058fd8339398e7b81e806b6c150cc7e2bece833a09ef0523d9853fb53b46998c", func := "novation/novationlaw10.VaultKept", spec := "vaultKept", unfollowed := true, recurses := true, apart := false, narrowed := true }
def VaultKeptUptoSaid : Prop := vaultKeptUptoRow.holds Try.pinned (OpenSpec.upto vaultKeptSpec)

/-- 'novationlaw10.VaultNobody', WHERE WHAT IT READS IS OF BULK AT MOST 1048576: true; the input reads as it did. -/
def vaultNobodyUptoRow : OpenClaim := { program := "ytiggcpfmmgmncaa", sum := "058fd8339398e7b81e806b6c150cc7e2bece833a09ef0523d9853fb53b46998c", func := "novation/novationlaw10.VaultNobody", spec := "vaultNobody", unfollowed := true, recurses := true, apart := false, narrowed := true }
def VaultNobodyUptoSaid : Prop := vaultNobodyUptoRow.holds Try.pinned (OpenSpec.upto vaultNobodySpec)

end Rows
end Go.Proofs.Ytiggcpfmmgmncaa
