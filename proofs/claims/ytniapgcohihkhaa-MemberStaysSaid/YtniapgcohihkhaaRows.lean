/-
  No cell of these rows narrows 'for every input' (looked for: loops, veiled, ifaces, maps, wideKeys, modest, calm, conditions, laid).
  DERIVED. THE GIVEN ROWS OF THIS SEAT. 7 by the template 'for every input the law returns true; each argument reads behind the call as it read before'; 0 by the template 'total and deterministic' (their statements: YtniapgcohihkhaaTotals.lean).
  GIVEN WITH THE SEED: the statements are not yours to turn. If you find one false, say at which input.
  Laid BY PROGRAM, IN A SANDBOX (cutbox-rows.mjs): the forced cells as the released guide's own fill.sh prints them over the translation ac7b1664c98682dc… (all of the seat's roots in one cut). By AI agents, Wed Nov 11 2026. No macro, syntax, notation, axiom, sorry.
-/
import Derived.Test.YtniapgcohihkhaaChecked
import GoSem.Claim
import GoSem.ClaimJoined
import GoSem.ClaimMapViews
import Derived.JoinedTies
import Derived.KernelRfl
namespace Go.Proofs.Ytniapgcohihkhaa
/- THE CELL 'sum', in the pinned program and in every row, IS THE sha256 OF THE DUMP (.gsa) THAT YtniapgcohihkhaaProg.lean LOADS. Nothing in Lean hashes anything: it is a label: what it is worth is what the hold of that sum in a sandbox is worth. -/
noncomputable def Try.pinned : Pinned := { name := "ytniapgcohihkhaa", sum := "ac7b1664c98682dc86d2eb8c1fb478da6cd948b2505c32f9a9d92bed2e50af4e", checked := Try.checked }
namespace Rows
def none {H : Type} : Left H := { results := [], args := [] }

/-- 'novationlaw14.MemberTables': WHATEVER THE INPUT: true; the input reads as it did. -/
def memberTablesSpec : ChangeSpec := { name := "memberTables", fn := fun _ => fun
  | [d1, d2, d3] => { results := [.lit (.bool true)], args := [d1, d2, d3] }
  | _ => none }
def memberTablesRow : OpenClaim := { program := "ytniapgcohihkhaa", sum := "ac7b1664c98682dc86d2eb8c1fb478da6cd948b2505c32f9a9d92bed2e50af4e", func := "novation/novationlaw14.MemberTables", spec := "memberTables", inPlace := ["slices.overlaps[novation/api.Member]", "math/bits.Add64"], unfollowed := true, recurses := true, apart := false }
def MemberTablesSaid : Prop := memberTablesRow.holds Try.pinned (OpenSpec.ofChange memberTablesSpec)

/-- ITS FALSE NEIGHBOUR: 'it returns false'. Refute it at one input. -/
def memberTablesWrong : ChangeSpec := { name := "memberTables", fn := fun _ => fun
  | [d1, d2, d3] => { results := [.lit (.bool false)], args := [d1, d2, d3] }
  | _ => none }
def MemberTablesWrongFalsely : Prop := memberTablesRow.holds Try.pinned (OpenSpec.ofChange memberTablesWrong)

/-- 'novationlaw14.MemberRooms': WHATEVER THE INPUT: true; the input reads as it did. -/
def memberRoomsSpec : ChangeSpec := { name := "memberRooms", fn := fun _ => fun
  | [d1, d2, d3] => { results := [.lit (.bool true)], args := [d1, d2, d3] }
  | _ => none }
def memberRoomsRow : OpenClaim := { program := "ytniapgcohihkhaa", sum := "ac7b1664c98682dc86d2eb8c1fb478da6cd948b2505c32f9a9d92bed2e50af4e", func := "novation/novationlaw14.MemberRooms", spec := "memberRooms", inPlace := ["math/bits.Add64", "slices.overlaps[novation/api.Member]"], unfollowed := true, recurses := true, apart := false }
def MemberRoomsSaid : Prop := memberRoomsRow.holds Try.pinned (OpenSpec.ofChange memberRoomsSpec)

/-- ITS FALSE NEIGHBOUR: 'it returns false'. Refute it at one input. -/
def memberRoomsWrong : ChangeSpec := { name := "memberRooms", fn := fun _ => fun
  | [d1, d2, d3] => { results := [.lit (.bool false)], args := [d1, d2, d3] }
  | _ => none }
def MemberRoomsWrongFalsely : Prop := memberRoomsRow.holds Try.pinned (OpenSpec.ofChange memberRoomsWrong)

/-- 'novationlaw14.MemberParts': WHATEVER THE INPUT: true; the input reads as it did. -/
def memberPartsSpec : ChangeSpec := { name := "memberParts", fn := fun _ => fun
  | [d1, d2, d3, d4] => { results := [.lit (.bool true)], args := [d1, d2, d3, d4] }
  | _ => none }
def memberPartsRow : OpenClaim := { program := "ytniapgcohihkhaa", sum := "ac7b1664c98682dc86d2eb8c1fb478da6cd948b2505c32f9a9d92bed2e50af4e", func := "novation/novationlaw14.MemberParts", spec := "memberParts", inPlace := ["slices.overlaps[novation/api.Member]", "math/bits.Add64"], unfollowed := true, recurses := true, apart := false }
def MemberPartsSaid : Prop := memberPartsRow.holds Try.pinned (OpenSpec.ofChange memberPartsSpec)

/-- ITS FALSE NEIGHBOUR: 'it returns false'. Refute it at one input. -/
def memberPartsWrong : ChangeSpec := { name := "memberParts", fn := fun _ => fun
  | [d1, d2, d3, d4] => { results := [.lit (.bool false)], args := [d1, d2, d3, d4] }
  | _ => none }
def MemberPartsWrongFalsely : Prop := memberPartsRow.holds Try.pinned (OpenSpec.ofChange memberPartsWrong)

/-- 'novationlaw14.MemberStays': WHATEVER THE INPUT: true; the input reads as it did. -/
def memberStaysSpec : ChangeSpec := { name := "memberStays", fn := fun _ => fun
  | [d1, d2, d3] => { results := [.lit (.bool true)], args := [d1, d2, d3] }
  | _ => none }
def memberStaysRow : OpenClaim := { program := "ytniapgcohihkhaa", sum := "ac7b1664c98682dc86d2eb8c1fb478da6cd948b2505c32f9a9d92bed2e50af4e", func := "novation/novationlaw14.MemberStays", spec := "memberStays", inPlace := ["slices.overlaps[novation/api.Member]", "math/bits.Add64"], unfollowed := true, recurses := true, apart := false }
def MemberStaysSaid : Prop := memberStaysRow.holds Try.pinned (OpenSpec.ofChange memberStaysSpec)

/-- ITS FALSE NEIGHBOUR: 'it returns false'. Refute it at one input. -/
def memberStaysWrong : ChangeSpec := { name := "memberStays", fn := fun _ => fun
  | [d1, d2, d3] => { results := [.lit (.bool false)], args := [d1, d2, d3] }
  | _ => none }
def MemberStaysWrongFalsely : Prop := memberStaysRow.holds Try.pinned (OpenSpec.ofChange memberStaysWrong)

/-- 'novationlaw16.ElectChoices': WHATEVER THE INPUT: true; the input reads as it did. -/
def electChoicesSpec : ChangeSpec := { name := "electChoices", fn := fun _ => fun
  | [d1, d2, d3] => { results := [.lit (.bool true)], args := [d1, d2, d3] }
  | _ => none }
def electChoicesRow : OpenClaim := { program := "ytniapgcohihkhaa", sum := "ac7b1664c98682dc86d2eb8c1fb478da6cd948b2505c32f9a9d92bed2e50af4e", func := "novation/novationlaw16.ElectChoices", spec := "electChoices", inPlace := ["slices.overlaps[novation/api.Choice]"], unfollowed := true, recurses := true, apart := false }
def ElectChoicesSaid : Prop := electChoicesRow.holds Try.pinned (OpenSpec.ofChange electChoicesSpec)

/-- ITS FALSE NEIGHBOUR: 'it returns false'. Refute it at one input. -/
def electChoicesWrong : ChangeSpec := { name := "electChoices", fn := fun _ => fun
  | [d1, d2, d3] => { results := [.lit (.bool false)], args := [d1, d2, d3] }
  | _ => none }
def ElectChoicesWrongFalsely : Prop := electChoicesRow.holds Try.pinned (OpenSpec.ofChange electChoicesWrong)

/-- 'novationlaw16.ElectAnew': WHATEVER THE INPUT: true; the input reads as it did. -/
def electAnewSpec : ChangeSpec := { name := "electAnew", fn := fun _ => fun
  | [d1, d2] => { results := [.lit (.bool true)], args := [d1, d2] }
  | _ => none }
def electAnewRow : OpenClaim := { program := "ytniapgcohihkhaa", sum := "ac7b1664c98682dc86d2eb8c1fb478da6cd948b2505c32f9a9d92bed2e50af4e", func := "novation/novationlaw16.ElectAnew", spec := "electAnew", inPlace := ["slices.overlaps[novation/api.Choice]"], unfollowed := true, recurses := true, apart := false }
def ElectAnewSaid : Prop := electAnewRow.holds Try.pinned (OpenSpec.ofChange electAnewSpec)

/-- ITS FALSE NEIGHBOUR: 'it returns false'. Refute it at one input. -/
def electAnewWrong : ChangeSpec := { name := "electAnew", fn := fun _ => fun
  | [d1, d2] => { results := [.lit (.bool false)], args := [d1, d2] }
  | _ => none }
def ElectAnewWrongFalsely : Prop := electAnewRow.holds Try.pinned (OpenSpec.ofChange electAnewWrong)

/-- 'novationlaw16.ElectTurns': WHATEVER THE INPUT: true; the input reads as it did. -/
def electTurnsSpec : ChangeSpec := { name := "electTurns", fn := fun _ => fun
  | [d1, d2, d3, d4, d5] => { results := [.lit (.bool true)], args := [d1, d2, d3, d4, d5] }
  | _ => none }
def electTurnsRow : OpenClaim := { program := "ytniapgcohihkhaa", sum := "ac7b1664c98682dc86d2eb8c1fb478da6cd948b2505c32f9a9d92bed2e50af4e", func := "novation/novationlaw16.ElectTurns", spec := "electTurns", inPlace := ["slices.overlaps[novation/api.Choice]"], unfollowed := true, recurses := true, apart := false }
def ElectTurnsSaid : Prop := electTurnsRow.holds Try.pinned (OpenSpec.ofChange electTurnsSpec)

/-- ITS FALSE NEIGHBOUR: 'it returns false'. Refute it at one input. -/
def electTurnsWrong : ChangeSpec := { name := "electTurns", fn := fun _ => fun
  | [d1, d2, d3, d4, d5] => { results := [.lit (.bool false)], args := [d1, d2, d3, d4, d5] }
  | _ => none }
def ElectTurnsWrongFalsely : Prop := electTurnsRow.holds Try.pinned (OpenSpec.ofChange electTurnsWrong)

/- THE SECOND FORM. 'bulk': how many values and letters a reading holds, each counted each time it is reached (what is shared counts as often as it is met; a slice's spare places count too). A statement '..UptoSaid' is the law's where the arguments, and the package variables that the reading takes, are together of bulk at most 1048576: NARROWER than '..Said'. Prove '..Said' where nothing that the law and all that it calls make is longer than what came in: it says more and counts as full. Else prove '..UptoSaid'. A law counts once. -/
mutual
def uptoBulk {H : Type} : DataW H → Nat
  | .lit (.string bytes) => bytes.length + 1
  | .lit _ => 1
  | .nil => 1
  | .ptr d => uptoBulk d + 1
  | .slice elems spare => uptoBulkAll elems + uptoBulkAll spare + 1
  | .agg parts => uptoBulkAll parts + 1
  | .iface _ d => uptoBulk d + 1
  | .map entries => uptoBulkEntries entries + 1
  | .held _ => 1
def uptoBulkAll {H : Type} : List (DataW H) → Nat
  | [] => 0
  | d :: r => uptoBulk d + uptoBulkAll r
def uptoBulkEntries {H : Type} : List (Lit × DataW H) → Nat
  | [] => 0
  | x :: r => uptoBulkEntry x + uptoBulkEntries r
def uptoBulkEntry {H : Type} : Lit × DataW H → Nat
  | (.string bytes, d) => bytes.length + uptoBulk d + 1
  | (_, d) => uptoBulk d + 1
 end
def uptoSmall : (H : Type) → List (DataW H) → Bool := fun _ ds => decide (uptoBulkAll ds ≤ 1048576)
def OpenSpec.upto (s : _root_.Go.ChangeSpec) : _root_.Go.OpenSpec := { _root_.Go.OpenSpec.ofChange s with cond := some uptoSmall }

/-- 'novationlaw14.MemberTables', WHERE WHAT IT READS IS OF BULK AT MOST 1048576: true; the input reads as it did. -/
def memberTablesUptoRow : OpenClaim := { program := "ytniapgcohihkhaa", sum := "ac7b1664c98682dc86d2eb8c1fb478da6cd948b2505c32f9a9d92bed2e50af4e", func := "novation/novationlaw14.MemberTables", spec := "memberTables", inPlace := ["slices.overlaps[novation/api.Member]", "math/bits.Add64"], unfollowed := true, recurses := true, apart := false, narrowed := true }
def MemberTablesUptoSaid : Prop := memberTablesUptoRow.holds Try.pinned (OpenSpec.upto memberTablesSpec)

/-- 'novationlaw14.MemberRooms', WHERE WHAT IT READS IS OF BULK AT MOST 1048576: true; the input reads as it did. -/
def memberRoomsUptoRow : OpenClaim := { program := "ytniapgcohihkhaa", sum := "ac7b1664c98682dc86d2eb8c1fb478da6cd948b2505c32f9a9d92bed2e50af4e", func := "novation/novationlaw14.MemberRooms", spec := "memberRooms", inPlace := ["math/bits.Add64", "slices.overlaps[novation/api.Member]"], unfollowed := true, recurses := true, apart := false, narrowed := true }
def MemberRoomsUptoSaid : Prop := memberRoomsUptoRow.holds Try.pinned (OpenSpec.upto memberRoomsSpec)

/-- 'novationlaw14.MemberParts', WHERE WHAT IT READS IS OF BULK AT MOST 1048576: true; the input reads as it did. -/
def memberPartsUptoRow : OpenClaim := { program := "ytniapgcohihkhaa", sum := "ac7b1664c98682dc86d2eb8c1fb478da6cd948b2505c32f9a9d92bed2e50af4e", func := "novation/novationlaw14.MemberParts", spec := "memberParts", inPlace := ["slices.overlaps[novation/api.Member]", "math/bits.Add64"], unfollowed := true, recurses := true, apart := false, narrowed := true }
def MemberPartsUptoSaid : Prop := memberPartsUptoRow.holds Try.pinned (OpenSpec.upto memberPartsSpec)

/-- 'novationlaw14.MemberStays', WHERE WHAT IT READS IS OF BULK AT MOST 1048576: true; the input reads as it did. -/
def memberStaysUptoRow : OpenClaim := { program := "ytniapgcohihkhaa", sum := "ac7b1664c98682dc86d2eb8c1fb478da6cd948b2505c32f9a9d92bed2e50af4e", func := "novation/novationlaw14.MemberStays", spec := "memberStays", inPlace := ["slices.overlaps[novation/api.Member]", "math/bits.Add64"], unfollowed := true, recurses := true, apart := false, narrowed := true }
def MemberStaysUptoSaid : Prop := memberStaysUptoRow.holds Try.pinned (OpenSpec.upto memberStaysSpec)

/-- 'novationlaw16.ElectChoices', WHERE WHAT IT READS IS OF BULK AT MOST 1048576: true; the input reads as it did. -/
def electChoicesUptoRow : OpenClaim := { program := "ytniapgcohihkhaa", sum := "ac7b1664c98682dc86d2eb8c1fb478da6cd948b2505c32f9a9d92bed2e50af4e", func := "novation/novationlaw16.ElectChoices", spec := "electChoices", inPlace := ["slices.overlaps[novation/api.Choice]"], unfollowed := true, recurses := true, apart := false, narrowed := true }
def ElectChoicesUptoSaid : Prop := electChoicesUptoRow.holds Try.pinned (OpenSpec.upto electChoicesSpec)

/-- 'novationlaw16.ElectAnew', WHERE WHAT IT READS IS OF BULK AT MOST 1048576: true; the input reads as it did. -/
def electAnewUptoRow : OpenClaim := { program := "ytniapgcohihkhaa", sum := "ac7b1664c98682dc86d2eb8c1fb478da6cd948b2505c32f9a9d92bed2e50af4e", func := "novation/novationlaw16.ElectAnew", spec := "electAnew", inPlace := ["slices.overlaps[novation/api.Choice]"], unfollowed := true, recurses := true, apart := false, narrowed := true }
def ElectAnewUptoSaid : Prop := electAnewUptoRow.holds Try.pinned (OpenSpec.upto electAnewSpec)

/-- 'novationlaw16.ElectTurns', WHERE WHAT IT READS IS OF BULK AT MOST 1048576: true; the input reads as it did. -/
def electTurnsUptoRow : OpenClaim := { program := "ytniapgcohihkhaa", sum := "ac7b1664c98682dc86d2eb8c1fb478da6cd948b2505c32f9a9d92bed2e50af4e", func := "novation/novationlaw16.ElectTurns", spec := "electTurns", inPlace := ["slices.overlaps[novation/api.Choice]"], unfollowed := true, recurses := true, apart := false, narrowed := true }
def ElectTurnsUptoSaid : Prop := electTurnsUptoRow.holds Try.pinned (OpenSpec.upto electTurnsSpec)

end Rows
end Go.Proofs.Ytniapgcohihkhaa
