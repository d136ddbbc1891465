/-
  The walks of two laws of layer 5: CrcSums, CrcParts.
-/
import Derived.Test.YtfibpkbbpnjepaaCrcWalk2
namespace Go.Proofs.Ytfibpkbbpnjepaa
open Go.ChangeShapes Go.WideShapes Go.ChangeAt Go.RowKit
set_option linter.unusedVariables false


theorem u8E : Elem Try.prog 22 5 1 1 := Elem.mk' (z := .int .u8 0) Try.underlying22 (by kernel_rfl) rfl (by decide)

/-- what Cut leaves of bytes -/
theorem cut_bytes {w : World} {A : Option Addr} {l : List Nat} (k : Nat) (hs : Sl w A (by8 l)) (ho : Oct l) : ∃ x : List Nat, Hid (min l.length k = x.length ∧ x = l.take k) ∧ x.length ≤ k ∧ Sl w A (by8 x) ∧ Oct x :=
  ⟨l.take k, ⟨by simp [Nat.min_comm], rfl⟩, by simp; omega, by rw [by8_take]; exact hs.take k, ho.take k⟩

end Go.Proofs.Ytfibpkbbpnjepaa
