/-
  No cell of these rows narrows 'for every input' (looked for: loops, veiled, ifaces, maps, wideKeys, modest, calm, conditions, laid).
  DERIVED. THE GIVEN ROWS OF THIS SEAT. 10 by the template 'for every input the law returns true; each argument reads behind the call as it read before'; 0 by the template 'total and deterministic' (their statements: YtfagpdnckmaomaaTotals.lean).
  GIVEN WITH THE SEED: the statements are not yours to turn. If you find one false, say at which input.
  Laid BY PROGRAM, IN A SANDBOX (cutbox-rows.mjs): the forced cells as the released guide's own fill.sh prints them over the translation 0dbb8d84adc4408c… (all of the seat's roots in one cut). By AI agents, Wed Nov 11 2026. No macro, syntax, notation, axiom, sorry.
-/
import Derived.Test.YtfagpdnckmaomaaChecked
import GoSem.Claim
import GoSem.ClaimJoined
import GoSem.ClaimMapViews
import Derived.JoinedTies
import Derived.KernelRfl
namespace Go.Proofs.Ytfagpdnckmaomaa
/- THE CELL 'sum', in the pinned program and in every row, IS THE sha256 OF THE DUMP (.gsa) THAT YtfagpdnckmaomaaProg.lean LOADS. Nothing in Lean hashes anything: it is a label: what it is worth is what the hold of that sum in a sandbox is worth. -/
noncomputable def Try.pinned : Pinned := { name := "ytfagpdnckmaomaa", sum := "0dbb8d84adc4408ccec195887adf8c464157edf2c3de78c8d16c7fe76d8f8645", checked := Try.checked }
namespace Rows
def none {H : Type} : Left H := { results := [], args := [] }

/-- 'novationlaw11.VecAdds': WHATEVER THE INPUT: true; the input reads as it did. -/
def vecAddsSpec : ChangeSpec := { name := "vecAdds", fn := fun _ => fun
  | [d1, d2] => { results := [.lit (.bool true)], args := [d1, d2] }
  | _ => none }
def vecAddsRow : OpenClaim := { program := "ytfagpdnckmaomaa", sum := "0dbb8d84adc4408ccec195887adf8c464157edf2c3de78c8d16c7fe76d8f8645", func := "novation/novationlaw11.VecAdds", spec := "vecAdds", inPlace := ["math/bits.Add64"], unfollowed := true, recurses := true, plainKeys := false, apart := false }
def VecAddsSaid : Prop := vecAddsRow.holds Try.pinned (OpenSpec.ofChange vecAddsSpec)

/-- ITS FALSE NEIGHBOUR: 'it returns false'. Refute it at one input. -/
def vecAddsWrong : ChangeSpec := { name := "vecAdds", fn := fun _ => fun
  | [d1, d2] => { results := [.lit (.bool false)], args := [d1, d2] }
  | _ => none }
def VecAddsWrongFalsely : Prop := vecAddsRow.holds Try.pinned (OpenSpec.ofChange vecAddsWrong)

/-- 'novationlaw11.VecTurns': WHATEVER THE INPUT: true; the input reads as it did. -/
def vecTurnsSpec : ChangeSpec := { name := "vecTurns", fn := fun _ => fun
  | [d1, d2] => { results := [.lit (.bool true)], args := [d1, d2] }
  | _ => none }
def vecTurnsRow : OpenClaim := { program := "ytfagpdnckmaomaa", sum := "0dbb8d84adc4408ccec195887adf8c464157edf2c3de78c8d16c7fe76d8f8645", func := "novation/novationlaw11.VecTurns", spec := "vecTurns", inPlace := ["math/bits.Sub64", "math/bits.Add64"], unfollowed := true, recurses := true, plainKeys := false, apart := false }
def VecTurnsSaid : Prop := vecTurnsRow.holds Try.pinned (OpenSpec.ofChange vecTurnsSpec)

/-- ITS FALSE NEIGHBOUR: 'it returns false'. Refute it at one input. -/
def vecTurnsWrong : ChangeSpec := { name := "vecTurns", fn := fun _ => fun
  | [d1, d2] => { results := [.lit (.bool false)], args := [d1, d2] }
  | _ => none }
def VecTurnsWrongFalsely : Prop := vecTurnsRow.holds Try.pinned (OpenSpec.ofChange vecTurnsWrong)

/-- 'novationlaw11.VecBack': WHATEVER THE INPUT: true; the input reads as it did. -/
def vecBackSpec : ChangeSpec := { name := "vecBack", fn := fun _ => fun
  | [d1, d2] => { results := [.lit (.bool true)], args := [d1, d2] }
  | _ => none }
def vecBackRow : OpenClaim := { program := "ytfagpdnckmaomaa", sum := "0dbb8d84adc4408ccec195887adf8c464157edf2c3de78c8d16c7fe76d8f8645", func := "novation/novationlaw11.VecBack", spec := "vecBack", inPlace := ["math/bits.Add64", "math/bits.Sub64"], unfollowed := true, recurses := true, plainKeys := false, apart := false }
def VecBackSaid : Prop := vecBackRow.holds Try.pinned (OpenSpec.ofChange vecBackSpec)

/-- ITS FALSE NEIGHBOUR: 'it returns false'. Refute it at one input. -/
def vecBackWrong : ChangeSpec := { name := "vecBack", fn := fun _ => fun
  | [d1, d2] => { results := [.lit (.bool false)], args := [d1, d2] }
  | _ => none }
def VecBackWrongFalsely : Prop := vecBackRow.holds Try.pinned (OpenSpec.ofChange vecBackWrong)

/-- 'novationlaw17.PursePays': WHATEVER THE INPUT: true; the input reads as it did. -/
def pursePaysSpec : ChangeSpec := { name := "pursePays", fn := fun _ => fun
  | [d1, d2, d3] => { results := [.lit (.bool true)], args := [d1, d2, d3] }
  | _ => none }
def pursePaysRow : OpenClaim := { program := "ytfagpdnckmaomaa", sum := "0dbb8d84adc4408ccec195887adf8c464157edf2c3de78c8d16c7fe76d8f8645", func := "novation/novationlaw17.PursePays", spec := "pursePays", inPlace := ["math/bits.Add64", "math/bits.Sub64"], unfollowed := true, recurses := true, plainKeys := false, apart := false }
def PursePaysSaid : Prop := pursePaysRow.holds Try.pinned (OpenSpec.ofChange pursePaysSpec)

/-- ITS FALSE NEIGHBOUR: 'it returns false'. Refute it at one input. -/
def pursePaysWrong : ChangeSpec := { name := "pursePays", fn := fun _ => fun
  | [d1, d2, d3] => { results := [.lit (.bool false)], args := [d1, d2, d3] }
  | _ => none }
def PursePaysWrongFalsely : Prop := pursePaysRow.holds Try.pinned (OpenSpec.ofChange pursePaysWrong)

/-- 'novationlaw17.PurseMoves': WHATEVER THE INPUT: true; the input reads as it did. -/
def purseMovesSpec : ChangeSpec := { name := "purseMoves", fn := fun _ => fun
  | [d1, d2, d3, d4, d5] => { results := [.lit (.bool true)], args := [d1, d2, d3, d4, d5] }
  | _ => none }
def purseMovesRow : OpenClaim := { program := "ytfagpdnckmaomaa", sum := "0dbb8d84adc4408ccec195887adf8c464157edf2c3de78c8d16c7fe76d8f8645", func := "novation/novationlaw17.PurseMoves", spec := "purseMoves", inPlace := ["math/bits.Sub64", "math/bits.Add64"], unfollowed := true, recurses := true, plainKeys := false, apart := false }
def PurseMovesSaid : Prop := purseMovesRow.holds Try.pinned (OpenSpec.ofChange purseMovesSpec)

/-- ITS FALSE NEIGHBOUR: 'it returns false'. Refute it at one input. -/
def purseMovesWrong : ChangeSpec := { name := "purseMoves", fn := fun _ => fun
  | [d1, d2, d3, d4, d5] => { results := [.lit (.bool false)], args := [d1, d2, d3, d4, d5] }
  | _ => none }
def PurseMovesWrongFalsely : Prop := purseMovesRow.holds Try.pinned (OpenSpec.ofChange purseMovesWrong)

/-- 'novationlaw17.PurseTurns': WHATEVER THE INPUT: true; the input reads as it did. -/
def purseTurnsSpec : ChangeSpec := { name := "purseTurns", fn := fun _ => fun
  | [d1, d2] => { results := [.lit (.bool true)], args := [d1, d2] }
  | _ => none }
def purseTurnsRow : OpenClaim := { program := "ytfagpdnckmaomaa", sum := "0dbb8d84adc4408ccec195887adf8c464157edf2c3de78c8d16c7fe76d8f8645", func := "novation/novationlaw17.PurseTurns", spec := "purseTurns", inPlace := ["math/bits.Add64", "math/bits.Sub64"], unfollowed := true, recurses := true, plainKeys := false, apart := false }
def PurseTurnsSaid : Prop := purseTurnsRow.holds Try.pinned (OpenSpec.ofChange purseTurnsSpec)

/-- ITS FALSE NEIGHBOUR: 'it returns false'. Refute it at one input. -/
def purseTurnsWrong : ChangeSpec := { name := "purseTurns", fn := fun _ => fun
  | [d1, d2] => { results := [.lit (.bool false)], args := [d1, d2] }
  | _ => none }
def PurseTurnsWrongFalsely : Prop := purseTurnsRow.holds Try.pinned (OpenSpec.ofChange purseTurnsWrong)

/-- 'novationlaw18.LotsPuts': WHATEVER THE INPUT: true; the input reads as it did. -/
def lotsPutsSpec : ChangeSpec := { name := "lotsPuts", fn := fun _ => fun
  | [d1, d2] => { results := [.lit (.bool true)], args := [d1, d2] }
  | _ => none }
def lotsPutsRow : OpenClaim := { program := "ytfagpdnckmaomaa", sum := "0dbb8d84adc4408ccec195887adf8c464157edf2c3de78c8d16c7fe76d8f8645", func := "novation/novationlaw18.LotsPuts", spec := "lotsPuts", inPlace := ["math/bits.Add64", "slices.overlaps[novation/api.Lot]"], unfollowed := true, recurses := true, plainKeys := false, apart := false }
def LotsPutsSaid : Prop := lotsPutsRow.holds Try.pinned (OpenSpec.ofChange lotsPutsSpec)

/-- ITS FALSE NEIGHBOUR: 'it returns false'. Refute it at one input. -/
def lotsPutsWrong : ChangeSpec := { name := "lotsPuts", fn := fun _ => fun
  | [d1, d2] => { results := [.lit (.bool false)], args := [d1, d2] }
  | _ => none }
def LotsPutsWrongFalsely : Prop := lotsPutsRow.holds Try.pinned (OpenSpec.ofChange lotsPutsWrong)

/-- 'novationlaw18.LotsDraws': WHATEVER THE INPUT: true; the input reads as it did. -/
def lotsDrawsSpec : ChangeSpec := { name := "lotsDraws", fn := fun _ => fun
  | [d1, d2, d3, d4] => { results := [.lit (.bool true)], args := [d1, d2, d3, d4] }
  | _ => none }
def lotsDrawsRow : OpenClaim := { program := "ytfagpdnckmaomaa", sum := "0dbb8d84adc4408ccec195887adf8c464157edf2c3de78c8d16c7fe76d8f8645", func := "novation/novationlaw18.LotsDraws", spec := "lotsDraws", inPlace := ["math/bits.Add64", "slices.overlaps[novation/api.Lot]"], unfollowed := true, recurses := true, plainKeys := false, apart := false }
def LotsDrawsSaid : Prop := lotsDrawsRow.holds Try.pinned (OpenSpec.ofChange lotsDrawsSpec)

/-- ITS FALSE NEIGHBOUR: 'it returns false'. Refute it at one input. -/
def lotsDrawsWrong : ChangeSpec := { name := "lotsDraws", fn := fun _ => fun
  | [d1, d2, d3, d4] => { results := [.lit (.bool false)], args := [d1, d2, d3, d4] }
  | _ => none }
def LotsDrawsWrongFalsely : Prop := lotsDrawsRow.holds Try.pinned (OpenSpec.ofChange lotsDrawsWrong)

/-- 'novationlaw18.LotsBack': WHATEVER THE INPUT: true; the input reads as it did. -/
def lotsBackSpec : ChangeSpec := { name := "lotsBack", fn := fun _ => fun
  | [d1, d2, d3] => { results := [.lit (.bool true)], args := [d1, d2, d3] }
  | _ => none }
def lotsBackRow : OpenClaim := { program := "ytfagpdnckmaomaa", sum := "0dbb8d84adc4408ccec195887adf8c464157edf2c3de78c8d16c7fe76d8f8645", func := "novation/novationlaw18.LotsBack", spec := "lotsBack", inPlace := ["math/bits.Add64", "slices.overlaps[novation/api.Lot]"], unfollowed := true, recurses := true, plainKeys := false, apart := false }
def LotsBackSaid : Prop := lotsBackRow.holds Try.pinned (OpenSpec.ofChange lotsBackSpec)

/-- ITS FALSE NEIGHBOUR: 'it returns false'. Refute it at one input. -/
def lotsBackWrong : ChangeSpec := { name := "lotsBack", fn := fun _ => fun
  | [d1, d2, d3] => { results := [.lit (.bool false)], args := [d1, d2, d3] }
  | _ => none }
def LotsBackWrongFalsely : Prop := lotsBackRow.holds Try.pinned (OpenSpec.ofChange lotsBackWrong)

/-- 'novationlaw18.LotsJoins': WHATEVER THE INPUT: true; the input reads as it did. -/
def lotsJoinsSpec : ChangeSpec := { name := "lotsJoins", fn := fun _ => fun
  | [d1, d2] => { results := [.lit (.bool true)], args := [d1, d2] }
  | _ => none }
def lotsJoinsRow : OpenClaim := { program := "ytfagpdnckmaomaa", sum := "0dbb8d84adc4408ccec195887adf8c464157edf2c3de78c8d16c7fe76d8f8645", func := "novation/novationlaw18.LotsJoins", spec := "lotsJoins", inPlace := ["math/bits.Add64", "slices.overlaps[novation/api.Lot]"], unfollowed := true, recurses := true, plainKeys := false, apart := false }
def LotsJoinsSaid : Prop := lotsJoinsRow.holds Try.pinned (OpenSpec.ofChange lotsJoinsSpec)

/-- ITS FALSE NEIGHBOUR: 'it returns false'. Refute it at one input. -/
def lotsJoinsWrong : ChangeSpec := { name := "lotsJoins", fn := fun _ => fun
  | [d1, d2] => { results := [.lit (.bool false)], args := [d1, d2] }
  | _ => none }
def LotsJoinsWrongFalsely : Prop := lotsJoinsRow.holds Try.pinned (OpenSpec.ofChange lotsJoinsWrong)

/- THE SECOND FORM. 'bulk': how many values and letters a reading holds, each counted each time it is reached (what is shared counts as often as it is met; a slice's spare places count too). A statement '..UptoSaid' is the law's where the arguments, and the package variables that the reading takes, are together of bulk at most 1048576: NARROWER than '..Said'. Prove '..Said' where nothing that the law and all that it calls make is longer than what came in: it says more and counts as full. Else prove '..UptoSaid'. A law counts once. -/
mutual
def uptoBulk {H : Type} : DataW H → Nat
  | .lit (.string bytes) => bytes.length + 1
  | .lit _ => 1
  | .nil => 1
  | .ptr d => uptoBulk d + 1
  | .slice elems spare => uptoBulkAll elems + uptoBulkAll spare + 1
  | .agg parts => uptoBulkAll parts + 1
  | .iface _ d => uptoBulk d + 1
  | .map entries => uptoBulkEntries entries + 1
  | .held _ => 1
def uptoBulkAll {H : Type} : List (DataW H) → Nat
  | [] => 0
  | d :: r => uptoBulk d + uptoBulkAll r
def uptoBulkEntries {H : Type} : List (Lit × DataW H) → Nat
  | [] => 0
  | x :: r => uptoBulkEntry x + uptoBulkEntries r
def uptoBulkEntry {H : Type} : Lit × DataW H → Nat
  | (.string bytes, d) => bytes.length + uptoBulk d + 1
  | (_, d) => uptoBulk d + 1
 end
def uptoSmall : (H : Type) → List (DataW H) → Bool := fun _ ds => decide (uptoBulkAll ds ≤ 1048576)
def OpenSpec.upto (s : _root_.Go.ChangeSpec) : _root_.Go.OpenSpec := { _root_.Go.OpenSpec.ofChange s with cond := some uptoSmall }

/-- 'novationlaw11.VecAdds', WHERE WHAT IT READS IS OF BULK AT MOST 1048576: true; the input reads as it did. -/
def vecAddsUptoRow : OpenClaim := { program := "ytfagpdnckmaomaa", sum := "0dbb8d84adc4408ccec195887adf8c464157edf2c3de78c8d16c7fe76d8f8645", func := "novation/novationlaw11.VecAdds", spec := "vecAdds", inPlace := ["math/bits.Add64"], unfollowed := true, recurses := true, plainKeys := false, apart := false, narrowed := true }
def VecAddsUptoSaid : Prop := vecAddsUptoRow.holds Try.pinned (OpenSpec.upto vecAddsSpec)

/-- 'novationlaw11.VecTurns', WHERE WHAT IT READS IS OF BULK AT MOST 1048576: true; the input reads as it did. -/
def vecTurnsUptoRow : OpenClaim := { program := "ytfagpdnckmaomaa", sum := "0dbb8d84adc4408ccec195887adf8c464157edf2c3de78c8d16c7fe76d8f8645", func := "novation/novationlaw11.VecTurns", spec := "vecTurns", inPlace := ["math/bits.Sub64", "math/bits.Add64"], unfollowed := true, recurses := true, plainKeys := false, apart := false, narrowed := true }
def VecTurnsUptoSaid : Prop := vecTurnsUptoRow.holds Try.pinned (OpenSpec.upto vecTurnsSpec)

/-- 'novationlaw11.VecBack', WHERE WHAT IT READS IS OF BULK AT MOST 1048576: true; the input reads as it did. -/
def vecBackUptoRow : OpenClaim := { program := "ytfagpdnckmaomaa", sum := "0dbb8d84adc4408ccec195887adf8c464157edf2c3de78c8d16c7fe76d8f8645", func := "novation/novationlaw11.VecBack", spec := "vecBack", inPlace := ["math/bits.Add64", "math/bits.Sub64"], unfollowed := true, recurses := true, plainKeys := false, apart := false, narrowed := true }
def VecBackUptoSaid : Prop := vecBackUptoRow.holds Try.pinned (OpenSpec.upto vecBackSpec)

/-- 'novationlaw17.PursePays', WHERE WHAT IT READS IS OF BULK AT MOST 1048576: true; the input reads as it did. -/
def pursePaysUptoRow : OpenClaim := { program := "ytfagpdnckmaomaa", sum := "0dbb8d84adc4408ccec195887adf8c464157edf2c3de78c8d16c7fe76d8f8645", func := "novation/novationlaw17.PursePays", spec := "pursePays", inPlace := ["math/bits.Add64", "math/bits.Sub64"], unfollowed := true, recurses := true, plainKeys := false, apart := false, narrowed := true }
def PursePaysUptoSaid : Prop := pursePaysUptoRow.holds Try.pinned (OpenSpec.upto pursePaysSpec)

/-- 'novationlaw17.PurseMoves', WHERE WHAT IT READS IS OF BULK AT MOST 1048576: true; the input reads as it did. -/
def purseMovesUptoRow : OpenClaim := { program := "ytfagpdnckmaomaa", sum := "0dbb8d84adc4408ccec195887adf8c464157edf2c3de78c8d16c7fe76d8f8645", func := "novation/novationlaw17.PurseMoves", spec := "purseMoves", inPlace := ["math/bits.Sub64", "math/bits.Add64"], unfollowed := true, recurses := true, plainKeys := false, apart := false, narrowed := true }
def PurseMovesUptoSaid : Prop := purseMovesUptoRow.holds Try.pinned (OpenSpec.upto purseMovesSpec)

/-- 'novationlaw17.PurseTurns', WHERE WHAT IT READS IS OF BULK AT MOST 1048576: true; the input reads as it did. -/
def purseTurnsUptoRow : OpenClaim := { program := "ytfagpdnckmaomaa", sum := "0dbb8d84adc4408ccec195887adf8c464157edf2c3de78c8d16c7fe76d8f8645", func := "novation/novationlaw17.PurseTurns", spec := "purseTurns", inPlace := ["math/bits.Add64", "math/bits.Sub64"], unfollowed := true, recurses := true, plainKeys := false, apart := false, narrowed := true }
def PurseTurnsUptoSaid : Prop := purseTurnsUptoRow.holds Try.pinned (OpenSpec.upto purseTurnsSpec)

/-- 'novationlaw18.LotsPuts', WHERE WHAT IT READS IS OF BULK AT MOST 1048576: true; the input reads as it did. -/
def lotsPutsUptoRow : OpenClaim := { program := "ytfagpdnckmaomaa", sum := "0dbb8d84adc4408ccec195887adf8c464157edf2c3de78c8d16c7fe76d8f8645", func := "novation/novationlaw18.LotsPuts", spec := "lotsPuts", inPlace := ["math/bits.Add64", "slices.overlaps[novation/api.Lot]"], unfollowed := true, recurses := true, plainKeys := false, apart := false, narrowed := true }
def LotsPutsUptoSaid : Prop := lotsPutsUptoRow.holds Try.pinned (OpenSpec.upto lotsPutsSpec)

/-- 'novationlaw18.LotsDraws', WHERE WHAT IT READS IS OF BULK AT MOST 1048576: true; the input reads as it did. -/
def lotsDrawsUptoRow : OpenClaim := { program := "ytfagpdnckmaomaa", sum := "0dbb8d84adc4408ccec195887adf8c464157edf2c3de78c8d16c7fe76d8f8645", func := "novation/novationlaw18.LotsDraws", spec := "lotsDraws", inPlace := ["math/bits.Add64", "slices.overlaps[novation/api.Lot]"], unfollowed := true, recurses := true, plainKeys := false, apart := false, narrowed := true }
def LotsDrawsUptoSaid : Prop := lotsDrawsUptoRow.holds Try.pinned (OpenSpec.upto lotsDrawsSpec)

/-- 'novationlaw18.LotsBack', WHERE WHAT IT READS IS OF BULK AT MOST 1048576: true; the input reads as it did. -/
def lotsBackUptoRow : OpenClaim := { program := "ytfagpdnckmaomaa", sum := "0dbb8d84adc4408ccec195887adf8c464157edf2c3de78c8d16c7fe76d8f8645", func := "novation/novationlaw18.LotsBack", spec := "lotsBack", inPlace := ["math/bits.Add64", "slices.overlaps[novation/api.Lot]"], unfollowed := true, recurses := true, plainKeys := false, apart := false, narrowed := true }
def LotsBackUptoSaid : Prop := lotsBackUptoRow.holds Try.pinned (OpenSpec.upto lotsBackSpec)

/-- 'novationlaw18.LotsJoins', WHERE WHAT IT READS IS OF BULK AT MOST 1048576: true; the input reads as it did. -/
def lotsJoinsUptoRow : OpenClaim := { program := "ytfagpdnckmaomaa", sum := "0dbb8d84adc4408ccec195887adf8c464157edf2c3de78c8d16c7fe76d8f8645", func := "novation/novationlaw18.LotsJoins", spec := "lotsJoins", inPlace := ["math/bits.Add64", "slices.overlaps[novation/api.Lot]"], unfollowed := true, recurses := true, plainKeys := false, apart := false, narrowed := true }
def LotsJoinsUptoSaid : Prop := lotsJoinsUptoRow.holds Try.pinned (OpenSpec.upto lotsJoinsSpec)

end Rows
end Go.Proofs.Ytfagpdnckmaomaa
