/-
  No cell of these rows narrows 'for every input' (looked for: loops, veiled, ifaces, maps, wideKeys, modest, calm, conditions, laid).
  DERIVED. THE GIVEN ROWS OF THIS SEAT. 10 by the template 'for every input the law returns true; each argument reads behind the call as it read before'; 0 by the template 'total and deterministic' (their statements: YtaaknohoaijfhaaTotals.lean).
  GIVEN WITH THE SEED: the statements are not yours to turn. If you find one false, say at which input.
  Laid BY PROGRAM, IN A SANDBOX (cutbox-rows.mjs): the forced cells as the released guide's own fill.sh prints them over the translation d2de102b55fd0807… (all of the seat's roots in one cut). By AI agents, Wed Nov 11 2026. No macro, syntax, notation, axiom, sorry.
-/
import Derived.Test.YtaaknohoaijfhaaChecked
import GoSem.Claim
import GoSem.ClaimJoined
import GoSem.ClaimMapViews
import Derived.JoinedTies
import Derived.KernelRfl
namespace Go.Proofs.Ytaaknohoaijfhaa
/- THE CELL 'sum', in the pinned program and in every row, IS THE sha256 OF THE DUMP (.gsa) THAT YtaaknohoaijfhaaProg.lean LOADS. Nothing in Lean hashes anything: it is a label: what it is worth is what the hold of that sum in a sandbox is worth. -/
noncomputable def Try.pinned : Pinned := { name := "ytaaknohoaijfhaa", sum := "d2de102b55fd0807bdb9252e8034d95438b186567f337b6a6efb39003c1ad6c7", checked := Try.checked }
namespace Rows
def none {H : Type} : Left H := { results := [], args := [] }

/-- 'novationlaw05.CrcSums': WHATEVER THE INPUT: true; the input reads as it did. -/
def crcSumsSpec : ChangeSpec := { name := "crcSums", fn := fun _ => fun
  | [d1, d2] => { results := [.lit (.bool true)], args := [d1, d2] }
  | _ => none }
def crcSumsRow : OpenClaim := { program := "ytaaknohoaijfhaa", sum := "d2de102b55fd0807bdb9252e8034d95438b186567f337b6a6efb39003c1ad6c7", func := "novation/novationlaw05.CrcSums", spec := "crcSums", apart := false }
def CrcSumsSaid : Prop := crcSumsRow.holds Try.pinned (OpenSpec.ofChange crcSumsSpec)

/-- ITS FALSE NEIGHBOUR: 'it returns false'. Refute it at one input. -/
def crcSumsWrong : ChangeSpec := { name := "crcSums", fn := fun _ => fun
  | [d1, d2] => { results := [.lit (.bool false)], args := [d1, d2] }
  | _ => none }
def CrcSumsWrongFalsely : Prop := crcSumsRow.holds Try.pinned (OpenSpec.ofChange crcSumsWrong)

/-- 'novationlaw05.CrcSeals': WHATEVER THE INPUT: true; the input reads as it did. -/
def crcSealsSpec : ChangeSpec := { name := "crcSeals", fn := fun _ => fun
  | [d1, d2] => { results := [.lit (.bool true)], args := [d1, d2] }
  | _ => none }
def crcSealsRow : OpenClaim := { program := "ytaaknohoaijfhaa", sum := "d2de102b55fd0807bdb9252e8034d95438b186567f337b6a6efb39003c1ad6c7", func := "novation/novationlaw05.CrcSeals", spec := "crcSeals", apart := false }
def CrcSealsSaid : Prop := crcSealsRow.holds Try.pinned (OpenSpec.ofChange crcSealsSpec)

/-- ITS FALSE NEIGHBOUR: 'it returns false'. Refute it at one input. -/
def crcSealsWrong : ChangeSpec := { name := "crcSeals", fn := fun _ => fun
  | [d1, d2] => { results := [.lit (.bool false)], args := [d1, d2] }
  | _ => none }
def CrcSealsWrongFalsely : Prop := crcSealsRow.holds Try.pinned (OpenSpec.ofChange crcSealsWrong)

/-- 'novationlaw05.CrcParts': WHATEVER THE INPUT: true; the input reads as it did. -/
def crcPartsSpec : ChangeSpec := { name := "crcParts", fn := fun _ => fun
  | [d1, d2, d3] => { results := [.lit (.bool true)], args := [d1, d2, d3] }
  | _ => none }
def crcPartsRow : OpenClaim := { program := "ytaaknohoaijfhaa", sum := "d2de102b55fd0807bdb9252e8034d95438b186567f337b6a6efb39003c1ad6c7", func := "novation/novationlaw05.CrcParts", spec := "crcParts", apart := false }
def CrcPartsSaid : Prop := crcPartsRow.holds Try.pinned (OpenSpec.ofChange crcPartsSpec)

/-- ITS FALSE NEIGHBOUR: 'it returns false'. Refute it at one input. -/
def crcPartsWrong : ChangeSpec := { name := "crcParts", fn := fun _ => fun
  | [d1, d2, d3] => { results := [.lit (.bool false)], args := [d1, d2, d3] }
  | _ => none }
def CrcPartsWrongFalsely : Prop := crcPartsRow.holds Try.pinned (OpenSpec.ofChange crcPartsWrong)

/-- 'novationlaw05.CrcTurns': WHATEVER THE INPUT: true; the input reads as it did. -/
def crcTurnsSpec : ChangeSpec := { name := "crcTurns", fn := fun _ => fun
  | [d1, d2, d3, d4, d5] => { results := [.lit (.bool true)], args := [d1, d2, d3, d4, d5] }
  | _ => none }
def crcTurnsRow : OpenClaim := { program := "ytaaknohoaijfhaa", sum := "d2de102b55fd0807bdb9252e8034d95438b186567f337b6a6efb39003c1ad6c7", func := "novation/novationlaw05.CrcTurns", spec := "crcTurns", apart := false }
def CrcTurnsSaid : Prop := crcTurnsRow.holds Try.pinned (OpenSpec.ofChange crcTurnsSpec)

/-- ITS FALSE NEIGHBOUR: 'it returns false'. Refute it at one input. -/
def crcTurnsWrong : ChangeSpec := { name := "crcTurns", fn := fun _ => fun
  | [d1, d2, d3, d4, d5] => { results := [.lit (.bool false)], args := [d1, d2, d3, d4, d5] }
  | _ => none }
def CrcTurnsWrongFalsely : Prop := crcTurnsRow.holds Try.pinned (OpenSpec.ofChange crcTurnsWrong)

/-- 'novationlaw23.GivePlays': WHATEVER THE INPUT: true; the input reads as it did. -/
def givePlaysSpec : ChangeSpec := { name := "givePlays", fn := fun _ => fun
  | [d1, d2] => { results := [.lit (.bool true)], args := [d1, d2] }
  | _ => none }
def givePlaysRow : OpenClaim := { program := "ytaaknohoaijfhaa", sum := "d2de102b55fd0807bdb9252e8034d95438b186567f337b6a6efb39003c1ad6c7", func := "novation/novationlaw23.GivePlays", spec := "givePlays", unfollowed := true, recurses := true, apart := false }
def GivePlaysSaid : Prop := givePlaysRow.holds Try.pinned (OpenSpec.ofChange givePlaysSpec)

/-- ITS FALSE NEIGHBOUR: 'it returns false'. Refute it at one input. -/
def givePlaysWrong : ChangeSpec := { name := "givePlays", fn := fun _ => fun
  | [d1, d2] => { results := [.lit (.bool false)], args := [d1, d2] }
  | _ => none }
def GivePlaysWrongFalsely : Prop := givePlaysRow.holds Try.pinned (OpenSpec.ofChange givePlaysWrong)

/-- 'novationlaw23.GiveStays': WHATEVER THE INPUT: true; the input reads as it did. -/
def giveStaysSpec : ChangeSpec := { name := "giveStays", fn := fun _ => fun
  | [d] => { results := [.lit (.bool true)], args := [d] }
  | _ => none }
def giveStaysRow : OpenClaim := { program := "ytaaknohoaijfhaa", sum := "d2de102b55fd0807bdb9252e8034d95438b186567f337b6a6efb39003c1ad6c7", func := "novation/novationlaw23.GiveStays", spec := "giveStays", unfollowed := true, recurses := true, apart := false }
def GiveStaysSaid : Prop := giveStaysRow.holds Try.pinned (OpenSpec.ofChange giveStaysSpec)

/-- ITS FALSE NEIGHBOUR: 'it returns false'. Refute it at one input. -/
def giveStaysWrong : ChangeSpec := { name := "giveStays", fn := fun _ => fun
  | [d] => { results := [.lit (.bool false)], args := [d] }
  | _ => none }
def GiveStaysWrongFalsely : Prop := giveStaysRow.holds Try.pinned (OpenSpec.ofChange giveStaysWrong)

/-- 'novationlaw23.GiveLate': WHATEVER THE INPUT: true; the input reads as it did. -/
def giveLateSpec : ChangeSpec := { name := "giveLate", fn := fun _ => fun
  | [d1, d2] => { results := [.lit (.bool true)], args := [d1, d2] }
  | _ => none }
def giveLateRow : OpenClaim := { program := "ytaaknohoaijfhaa", sum := "d2de102b55fd0807bdb9252e8034d95438b186567f337b6a6efb39003c1ad6c7", func := "novation/novationlaw23.GiveLate", spec := "giveLate", unfollowed := true, recurses := true, apart := false }
def GiveLateSaid : Prop := giveLateRow.holds Try.pinned (OpenSpec.ofChange giveLateSpec)

/-- ITS FALSE NEIGHBOUR: 'it returns false'. Refute it at one input. -/
def giveLateWrong : ChangeSpec := { name := "giveLate", fn := fun _ => fun
  | [d1, d2] => { results := [.lit (.bool false)], args := [d1, d2] }
  | _ => none }
def GiveLateWrongFalsely : Prop := giveLateRow.holds Try.pinned (OpenSpec.ofChange giveLateWrong)

/-- 'novationlaw28.PhaseSteps': WHATEVER THE INPUT: true; the input reads as it did. -/
def phaseStepsSpec : ChangeSpec := { name := "phaseSteps", fn := fun _ => fun
  | [d1, d2, d3] => { results := [.lit (.bool true)], args := [d1, d2, d3] }
  | _ => none }
def phaseStepsRow : OpenClaim := { program := "ytaaknohoaijfhaa", sum := "d2de102b55fd0807bdb9252e8034d95438b186567f337b6a6efb39003c1ad6c7", func := "novation/novationlaw28.PhaseSteps", spec := "phaseSteps", apart := false }
def PhaseStepsSaid : Prop := phaseStepsRow.holds Try.pinned (OpenSpec.ofChange phaseStepsSpec)

/-- ITS FALSE NEIGHBOUR: 'it returns false'. Refute it at one input. -/
def phaseStepsWrong : ChangeSpec := { name := "phaseSteps", fn := fun _ => fun
  | [d1, d2, d3] => { results := [.lit (.bool false)], args := [d1, d2, d3] }
  | _ => none }
def PhaseStepsWrongFalsely : Prop := phaseStepsRow.holds Try.pinned (OpenSpec.ofChange phaseStepsWrong)

/-- 'novationlaw28.PhaseSoon': WHATEVER THE INPUT: true; the input reads as it did. -/
def phaseSoonSpec : ChangeSpec := { name := "phaseSoon", fn := fun _ => fun
  | [d1, d2] => { results := [.lit (.bool true)], args := [d1, d2] }
  | _ => none }
def phaseSoonRow : OpenClaim := { program := "ytaaknohoaijfhaa", sum := "d2de102b55fd0807bdb9252e8034d95438b186567f337b6a6efb39003c1ad6c7", func := "novation/novationlaw28.PhaseSoon", spec := "phaseSoon", apart := false }
def PhaseSoonSaid : Prop := phaseSoonRow.holds Try.pinned (OpenSpec.ofChange phaseSoonSpec)

/-- ITS FALSE NEIGHBOUR: 'it returns false'. Refute it at one input. -/
def phaseSoonWrong : ChangeSpec := { name := "phaseSoon", fn := fun _ => fun
  | [d1, d2] => { results := [.lit (.bool false)], args := [d1, d2] }
  | _ => none }
def PhaseSoonWrongFalsely : Prop := phaseSoonRow.holds Try.pinned (OpenSpec.ofChange phaseSoonWrong)

/-- 'novationlaw28.PhaseRises': WHATEVER THE INPUT: true; the input reads as it did. -/
def phaseRisesSpec : ChangeSpec := { name := "phaseRises", fn := fun _ => fun
  | [d1, d2, d3] => { results := [.lit (.bool true)], args := [d1, d2, d3] }
  | _ => none }
def phaseRisesRow : OpenClaim := { program := "ytaaknohoaijfhaa", sum := "d2de102b55fd0807bdb9252e8034d95438b186567f337b6a6efb39003c1ad6c7", func := "novation/novationlaw28.PhaseRises", spec := "phaseRises", apart := false }
def PhaseRisesSaid : Prop := phaseRisesRow.holds Try.pinned (OpenSpec.ofChange phaseRisesSpec)

/-- ITS FALSE NEIGHBOUR: 'it returns false'. Refute it at one input. -/
def phaseRisesWrong : ChangeSpec := { name := "phaseRises", fn := fun _ => fun
  | [d1, d2, d3] => { results := [.lit (.bool false)], args := [d1, d2, d3] }
  | _ => none }
def PhaseRisesWrongFalsely : Prop := phaseRisesRow.holds Try.pinned (OpenSpec.ofChange phaseRisesWrong)

/- THE SECOND FORM. 'bulk': how many values and letters a reading holds, each counted each time it is reached (what is shared counts as often as it is met; a slice's spare places count too). A statement '..UptoSaid' is the law's where the arguments, and the package variables that the reading takes, are together of bulk at most 1048576: NARROWER than '..Said'. Prove '..Said' where nothing that the law and all that it calls make is longer than what came in: it says more and counts as full. Else prove '..UptoSaid'. A law counts once. -/
mutual
def uptoBulk {H : Type} : DataW H → Nat
  | .lit (.string bytes) => bytes.length + 1
  | .lit _ => 1
  | .nil => 1
  | .ptr d => uptoBulk d + 1
  | .slice elems spare => uptoBulkAll elems + uptoBulkAll spare + 1
  | .agg parts => uptoBulkAll parts + 1
  | .iface _ d => uptoBulk d + 1
  | .map entries => uptoBulkEntries entries + 1
  | .held _ => 1
def uptoBulkAll {H : Type} : List (DataW H) → Nat
  | [] => 0
  | d :: r => uptoBulk d + uptoBulkAll r
def uptoBulkEntries {H : Type} : List (Lit × DataW H) → Nat
  | [] => 0
  | x :: r => uptoBulkEntry x + uptoBulkEntries r
def uptoBulkEntry {H : Type} : Lit × DataW H → Nat
  | (.string bytes, d) => bytes.length + uptoBulk d + 1
  | (_, d) => uptoBulk d + 1
 end
def uptoSmall : (H : Type) → List (DataW H) → Bool := fun _ ds => decide (uptoBulkAll ds ≤ 1048576)
def OpenSpec.upto (s : _root_.Go.ChangeSpec) : _root_.Go.OpenSpec := { _root_.Go.OpenSpec.ofChange s with cond := some uptoSmall }

/-- 'novationlaw05.CrcSums', WHERE WHAT IT READS IS OF BULK AT MOST 1048576: true; the input reads as it did. -/
def crcSumsUptoRow : OpenClaim := { program := "ytaaknohoaijfhaa", sum := "d2de102b55fd0807bdb9252e8034d95438b186567f337b6a6efb39003c1ad6c7", func := "novation/novationlaw05.CrcSums", spec := "crcSums", apart := false, narrowed := true }
def CrcSumsUptoSaid : Prop := crcSumsUptoRow.holds Try.pinned (OpenSpec.upto crcSumsSpec)

/-- 'novationlaw05.CrcSeals', WHERE WHAT IT READS IS OF BULK AT MOST 1048576: true; the input reads as it did. -/
def crcSealsUptoRow : OpenClaim := { program := "ytaaknohoaijfhaa", sum := "d2de102b55fd0807bdb9252e8034d95438b186567f337b6a6efb39003c1ad6c7", func := "novation/novationlaw05.CrcSeals", spec := "crcSeals", apart := false, narrowed := true }
def CrcSealsUptoSaid : Prop := crcSealsUptoRow.holds Try.pinned (OpenSpec.upto crcSealsSpec)

/-- 'novationlaw05.CrcParts', WHERE WHAT IT READS IS OF BULK AT MOST 1048576: true; the input reads as it did. -/
def crcPartsUptoRow : OpenClaim := { program := "ytaaknohoaijfhaa", sum := "d2de102b55fd0807bdb9252e8034d95438b186567f337b6a6efb39003c1ad6c7", func := "novation/novationlaw05.CrcParts", spec := "crcParts", apart := false, narrowed := true }
def CrcPartsUptoSaid : Prop := crcPartsUptoRow.holds Try.pinned (OpenSpec.upto crcPartsSpec)

/-- 'novationlaw05.CrcTurns', WHERE WHAT IT READS IS OF BULK AT MOST 1048576: true; the input reads as it did. -/
def crcTurnsUptoRow : OpenClaim := { program := "ytaaknohoaijfhaa", sum := "d2de102b55fd0807bdb9252e8034d95438b186567f337b6a6efb39003c1ad6c7", func := "novation/novationlaw05.CrcTurns", spec := "crcTurns", apart := false, narrowed := true }
def CrcTurnsUptoSaid : Prop := crcTurnsUptoRow.holds Try.pinned (OpenSpec.upto crcTurnsSpec)

/-- 'novationlaw23.GivePlays', WHERE WHAT IT READS IS OF BULK AT MOST 1048576: true; the input reads as it did. -/
def givePlaysUptoRow : OpenClaim := { program := "ytaaknohoaijfhaa", sum := "d2de102b55fd0807bdb9252e8034d95438b186567f337b6a6efb39003c1ad6c7", func := "novation/novationlaw23.GivePlays", spec := "givePlays", unfollowed := true, recurses := true, apart := false, narrowed := true }
def GivePlaysUptoSaid : Prop := givePlaysUptoRow.holds Try.pinned (OpenSpec.upto givePlaysSpec)

/-- 'novationlaw23.GiveStays', WHERE WHAT IT READS IS OF BULK AT MOST 1048576: true; the input reads as it did. -/
def giveStaysUptoRow : OpenClaim := { program := "ytaaknohoaijfhaa", sum := "d2de102b55fd0807bdb9252e8034d95438b186567f337b6a6efb39003c1ad6c7", func := "novation/novationlaw23.GiveStays", spec := "giveStays", unfollowed := true, recurses := true, apart := false, narrowed := true }
def GiveStaysUptoSaid : Prop := giveStaysUptoRow.holds Try.pinned (OpenSpec.upto giveStaysSpec)

/-- 'novationlaw23.GiveLate', WHERE WHAT IT READS IS OF BULK AT MOST 1048576: true; the input reads as it did. -/
def giveLateUptoRow : OpenClaim := { program := "ytaaknohoaijfhaa", sum := "d2de102b55fd0807bdb9252e8034d95438b186567f337b6a6efb39003c1ad6c7", func := "novation/novationlaw23.GiveLate", spec := "giveLate", unfollowed := true, recurses := true, apart := false, narrowed := true }
def GiveLateUptoSaid : Prop := giveLateUptoRow.holds Try.pinned (OpenSpec.upto giveLateSpec)

/-- 'novationlaw28.PhaseSteps', WHERE WHAT IT READS IS OF BULK AT MOST 1048576: true; the input reads as it did. -/
def phaseStepsUptoRow : OpenClaim := { program := "ytaaknohoaijfhaa", sum := "d2de102b55fd0807bdb9252e8034d95438b186567f337b6a6efb39003c1ad6c7", func := "novation/novationlaw28.PhaseSteps", spec := "phaseSteps", apart := false, narrowed := true }
def PhaseStepsUptoSaid : Prop := phaseStepsUptoRow.holds Try.pinned (OpenSpec.upto phaseStepsSpec)

/-- 'novationlaw28.PhaseSoon', WHERE WHAT IT READS IS OF BULK AT MOST 1048576: true; the input reads as it did. -/
def phaseSoonUptoRow : OpenClaim := { program := "ytaaknohoaijfhaa", sum := "d2de102b55fd0807bdb9252e8034d95438b186567f337b6a6efb39003c1ad6c7", func := "novation/novationlaw28.PhaseSoon", spec := "phaseSoon", apart := false, narrowed := true }
def PhaseSoonUptoSaid : Prop := phaseSoonUptoRow.holds Try.pinned (OpenSpec.upto phaseSoonSpec)

/-- 'novationlaw28.PhaseRises', WHERE WHAT IT READS IS OF BULK AT MOST 1048576: true; the input reads as it did. -/
def phaseRisesUptoRow : OpenClaim := { program := "ytaaknohoaijfhaa", sum := "d2de102b55fd0807bdb9252e8034d95438b186567f337b6a6efb39003c1ad6c7", func := "novation/novationlaw28.PhaseRises", spec := "phaseRises", apart := false, narrowed := true }
def PhaseRisesUptoSaid : Prop := phaseRisesUptoRow.holds Try.pinned (OpenSpec.upto phaseRisesSpec)

end Rows
end Go.Proofs.Ytaaknohoaijfhaa
