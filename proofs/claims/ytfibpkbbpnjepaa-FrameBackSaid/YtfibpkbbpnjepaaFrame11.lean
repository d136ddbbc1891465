/-
  Layer 7, eleventh part: plain (laid by hand).
-/
import Derived.Test.YtfibpkbbpnjepaaFrame10
namespace Go.Proofs.Ytfibpkbbpnjepaa
open Go.ChangeShapes Go.WideShapes Go.ChangeAt Go.RowKit
set_option linter.unusedVariables false
set_option linter.unusedSimpArgs false

set_option maxHeartbeats 1000000 in
set_option maxRecDepth 100000 in
theorem plain7_any (f : Fr) (A : Option Addr) (c : Nat) (w : World) :
    Calls Try.prog 10 #[f.val A c] w fun e w' => e = .returned (f.val A c) ∧ Below w.heap.size w w' := by
  unfold Fr.val
  generalize f.data.length = n at *
  go_enter Try.func10, Try.ntmps10
  go_wp2_with fail
  refine bodyPost_ret (v := .agg #[.int .i64 f.life, .int .i64 f.era, .int .i64 f.seq, .int .i64 f.part, .int .i64 f.parts, .slice A n c]) ?_ rfl ⟨rfl, since_alloc (since_alloc (Below.refl _ _) _) _⟩
  simp [results, Try.results10, go_sem]
end Go.Proofs.Ytfibpkbbpnjepaa
