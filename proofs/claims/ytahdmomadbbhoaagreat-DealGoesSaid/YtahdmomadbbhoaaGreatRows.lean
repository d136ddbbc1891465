/-
  No cell of these rows narrows 'for every input' (looked for: loops, veiled, ifaces, maps, wideKeys, modest, calm, conditions, laid).
  DERIVED. THE GIVEN ROWS OF THIS SEAT. 3 by the template 'for every input the law returns true; each argument reads behind the call as it read before'; 0 by the template 'total and deterministic' (their statements: YtahdmomadbbhoaaGreatTotals.lean).
  GIVEN WITH THE SEED: the statements are not yours to turn. If you find one false, say at which input.
  Laid BY PROGRAM, IN A SANDBOX (cutbox-rows.mjs): the forced cells as the released guide's own fill.sh prints them over the translation 2ffe5a56d343d5ad… (all of the seat's roots in one cut). By AI agents, Wed Nov 11 2026. No macro, syntax, notation, axiom, sorry.
-/
import Derived.Test.YtahdmomadbbhoaaGreatChecked
import GoSem.Claim
import GoSem.ClaimJoined
import GoSem.ClaimMapViews
import Derived.JoinedTies
import Derived.KernelRfl
namespace Go.Proofs.YtahdmomadbbhoaaGreat
/- THE CELL 'sum', in the pinned program and in every row, IS THE sha256 OF THE DUMP (.gsa) THAT YtahdmomadbbhoaaGreatProg.lean LOADS. Nothing in Lean hashes anything: it is a label: what it is worth is what the hold of that sum in a sandbox is worth. -/
noncomputable def Tryz.pinned : Pinned := { name := "ytahdmomadbbhoaagreat", sum := "2ffe5a56d343d5ad7b78c024e8f90f13fc38a4f73eb352771e81511b9c620fab", checked := Tryz.checked }
namespace Rows
def none {H : Type} : Left H := { results := [], args := [] }

/-- 'novationlaw21.DealGoes': WHATEVER THE INPUT: true; the input reads as it did. -/
def dealGoesSpec : ChangeSpec := { name := "dealGoes", fn := fun _ => fun
  | [d1, d2, d3, d4, d5, d6, d7] => { results := [.lit (.bool true)], args := [d1, d2, d3, d4, d5, d6, d7] }
  | _ => none }
def dealGoesRow : OpenClaim := { program := "ytahdmomadbbhoaagreat", sum := "2ffe5a56d343d5ad7b78c024e8f90f13fc38a4f73eb352771e81511b9c620fab", func := "novation/novationlaw21.DealGoes", spec := "dealGoes", inPlace := ["math/bits.Sub64", "math/bits.Add64", "slices.overlaps[novation/api.Pos]"], unfollowed := true, recurses := true, plainKeys := false, apart := false }
def DealGoesSaid : Prop := dealGoesRow.holds Tryz.pinned (OpenSpec.ofChange dealGoesSpec)

/-- ITS FALSE NEIGHBOUR: 'it returns false'. Refute it at one input. -/
def dealGoesWrong : ChangeSpec := { name := "dealGoes", fn := fun _ => fun
  | [d1, d2, d3, d4, d5, d6, d7] => { results := [.lit (.bool false)], args := [d1, d2, d3, d4, d5, d6, d7] }
  | _ => none }
def DealGoesWrongFalsely : Prop := dealGoesRow.holds Tryz.pinned (OpenSpec.ofChange dealGoesWrong)

/-- 'novationlaw21.DealKeeps': WHATEVER THE INPUT: true; the input reads as it did. -/
def dealKeepsSpec : ChangeSpec := { name := "dealKeeps", fn := fun _ => fun
  | [d1, d2, d3, d4, d5, d6, d7, d8] => { results := [.lit (.bool true)], args := [d1, d2, d3, d4, d5, d6, d7, d8] }
  | _ => none }
def dealKeepsRow : OpenClaim := { program := "ytahdmomadbbhoaagreat", sum := "2ffe5a56d343d5ad7b78c024e8f90f13fc38a4f73eb352771e81511b9c620fab", func := "novation/novationlaw21.DealKeeps", spec := "dealKeeps", inPlace := ["math/bits.Sub64", "math/bits.Add64", "slices.overlaps[novation/api.Pos]"], unfollowed := true, recurses := true, plainKeys := false, apart := false }
def DealKeepsSaid : Prop := dealKeepsRow.holds Tryz.pinned (OpenSpec.ofChange dealKeepsSpec)

/-- ITS FALSE NEIGHBOUR: 'it returns false'. Refute it at one input. -/
def dealKeepsWrong : ChangeSpec := { name := "dealKeeps", fn := fun _ => fun
  | [d1, d2, d3, d4, d5, d6, d7, d8] => { results := [.lit (.bool false)], args := [d1, d2, d3, d4, d5, d6, d7, d8] }
  | _ => none }
def DealKeepsWrongFalsely : Prop := dealKeepsRow.holds Tryz.pinned (OpenSpec.ofChange dealKeepsWrong)

/-- 'novationlaw21.DealNets': WHATEVER THE INPUT: true; the input reads as it did. -/
def dealNetsSpec : ChangeSpec := { name := "dealNets", fn := fun _ => fun
  | [d1, d2, d3, d4, d5, d6, d7, d8] => { results := [.lit (.bool true)], args := [d1, d2, d3, d4, d5, d6, d7, d8] }
  | _ => none }
def dealNetsRow : OpenClaim := { program := "ytahdmomadbbhoaagreat", sum := "2ffe5a56d343d5ad7b78c024e8f90f13fc38a4f73eb352771e81511b9c620fab", func := "novation/novationlaw21.DealNets", spec := "dealNets", inPlace := ["math/bits.Sub64", "math/bits.Add64", "slices.overlaps[novation/api.Pos]"], unfollowed := true, recurses := true, plainKeys := false, apart := false }
def DealNetsSaid : Prop := dealNetsRow.holds Tryz.pinned (OpenSpec.ofChange dealNetsSpec)

/-- ITS FALSE NEIGHBOUR: 'it returns false'. Refute it at one input. -/
def dealNetsWrong : ChangeSpec := { name := "dealNets", fn := fun _ => fun
  | [d1, d2, d3, d4, d5, d6, d7, d8] => { results := [.lit (.bool false)], args := [d1, d2, d3, d4, d5, d6, d7, d8] }
  | _ => none }
def DealNetsWrongFalsely : Prop := dealNetsRow.holds Tryz.pinned (OpenSpec.ofChange dealNetsWrong)

/- THE SECOND FORM. 'bulk': how many values and letters a reading holds, each counted each time it is reached (what is shared counts as often as it is met; a slice's spare places count too). A statement '..UptoSaid' is the law's where the arguments, and the package variables that the reading takes, are together of bulk at most 1048576: NARROWER than '..Said'. Prove '..Said' where nothing that the law and all that it calls make is longer than what came in: it says more and counts as full. Else prove '..UptoSaid'. A law counts once. -/
mutual
def uptoBulk {H : Type} : DataW H → Nat
  | .lit (.string bytes) => bytes.length + 1
  | .lit _ => 1
  | .nil => 1
  | .ptr d => uptoBulk d + 1
  | .slice elems spare => uptoBulkAll elems + uptoBulkAll spare + 1
  | .agg parts => uptoBulkAll parts + 1
  | .iface _ d => uptoBulk d + 1
  | .map entries => uptoBulkEntries entries + 1
  | .held _ => 1
def uptoBulkAll {H : Type} : List (DataW H) → Nat
  | [] => 0
  | d :: r => uptoBulk d + uptoBulkAll r
def uptoBulkEntries {H : Type} : List (Lit × DataW H) → Nat
  | [] => 0
  | x :: r => uptoBulkEntry x + uptoBulkEntries r
def uptoBulkEntry {H : Type} : Lit × DataW H → Nat
  | (.string bytes, d) => bytes.length + uptoBulk d + 1
  | (_, d) => uptoBulk d + 1
 end
def uptoSmall : (H : Type) → List (DataW H) → Bool := fun _ ds => decide (uptoBulkAll ds ≤ 1048576)
def OpenSpec.upto (s : _root_.Go.ChangeSpec) : _root_.Go.OpenSpec := { _root_.Go.OpenSpec.ofChange s with cond := some uptoSmall }

/-- 'novationlaw21.DealGoes', WHERE WHAT IT READS IS OF BULK AT MOST 1048576: true; the input reads as it did. -/
def dealGoesUptoRow : OpenClaim := { program := "ytahdmomadbbhoaagreat", sum := "2ffe5a56d343d5ad7b78c024e8f90f13fc38a4f73eb352771e81511b9c620fab", func := "novation/novationlaw21.DealGoes", spec := "dealGoes", inPlace := ["math/bits.Sub64", "math/bits.Add64", "slices.overlaps[novation/api.Pos]"], unfollowed := true, recurses := true, plainKeys := false, apart := false, narrowed := true }
def DealGoesUptoSaid : Prop := dealGoesUptoRow.holds Tryz.pinned (OpenSpec.upto dealGoesSpec)

/-- 'novationlaw21.DealKeeps', WHERE WHAT IT READS IS OF BULK AT MOST 1048576: true; the input reads as it did. -/
def dealKeepsUptoRow : OpenClaim := { program := "ytahdmomadbbhoaagreat", sum := "2ffe5a56d343d5ad7b78c024e8f90f13fc38a4f73eb352771e81511b9c620fab", func := "novation/novationlaw21.DealKeeps", spec := "dealKeeps", inPlace := ["math/bits.Sub64", "math/bits.Add64", "slices.overlaps[novation/api.Pos]"], unfollowed := true, recurses := true, plainKeys := false, apart := false, narrowed := true }
def DealKeepsUptoSaid : Prop := dealKeepsUptoRow.holds Tryz.pinned (OpenSpec.upto dealKeepsSpec)

/-- 'novationlaw21.DealNets', WHERE WHAT IT READS IS OF BULK AT MOST 1048576: true; the input reads as it did. -/
def dealNetsUptoRow : OpenClaim := { program := "ytahdmomadbbhoaagreat", sum := "2ffe5a56d343d5ad7b78c024e8f90f13fc38a4f73eb352771e81511b9c620fab", func := "novation/novationlaw21.DealNets", spec := "dealNets", inPlace := ["math/bits.Sub64", "math/bits.Add64", "slices.overlaps[novation/api.Pos]"], unfollowed := true, recurses := true, plainKeys := false, apart := false, narrowed := true }
def DealNetsUptoSaid : Prop := dealNetsUptoRow.holds Tryz.pinned (OpenSpec.upto dealNetsSpec)

end Rows
end Go.Proofs.YtahdmomadbbhoaaGreat
