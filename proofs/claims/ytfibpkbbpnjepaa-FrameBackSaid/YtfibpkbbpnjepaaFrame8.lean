/-
  Layer 7, eighth part: Encode of the program (laid by hand).
-/
import Derived.Test.YtfibpkbbpnjepaaFrame7
namespace Go.Proofs.Ytfibpkbbpnjepaa
open Go.ChangeShapes Go.WideShapes Go.ChangeAt Go.RowKit
set_option linter.unusedVariables false
set_option linter.unusedSimpArgs false

theorem bign_one {n : Nat} (h : n < 256) : bign 1 n = [n] := bign1 h
set_option maxHeartbeats 2000000 in
set_option maxRecDepth 100000 in
theorem fenc7_bad (f : Fr) (A : Option Addr) (c : Nat) (w : World) (hok : f.ok = false) :
    Calls Try.prog 8 #[f.val A c] w fun e w' => ERes w.heap.size w' e (encF f) ∧ Below w.heap.size w w' := by
  obtain ⟨life, era, seq, part, parts, data⟩ := f
  unfold Fr.val
  simp only
  have HIS := Lib.hid (fit7_any ⟨life, era, seq, part, parts, data⟩ A c (w.alloc (.cells #[.int .i64 life, .int .i64 era, .int .i64 seq, .int .i64 part, .int .i64 parts, .slice A data.length c] 25)))
  unfold Fr.val at HIS
  simp only at HIS
  have hE : encF ⟨life, era, seq, part, parts, data⟩ = ([], 2) := if_neg (by rw [hok]; decide)
  have HE := Lib.hid hE
  rw [hok] at HIS
  clear hE hok
  go_enter Try.func8, Try.ntmps8
  go_wp2_with fail
  refine HIS.out.mono ?_
  rintro e v1 ⟨rfl, hB⟩
  have hB2 := ((Below.refl _ w).alloc (Nat.le_refl _) _).trans (hB.mono (by rw [World.size_alloc]; omega))
  go_wp2_with fail
  go_ret2
  refine ⟨⟨none, 0, ?_, ?_⟩, hB2⟩
  · rw [HE.out]; rfl
  · rw [HE.out]; exact own_nil _ _ _

theorem run_zeros_none {w : World} (ty : TypeId) {g n c : Nat} (hroom : n ≤ c) :
    (Builtin.append_ #[22, 3] ty #[.slice (some ⟨g, 0, none⟩) n c, .int .i64 0]).run Try.prog w = .ok (.slice (some ⟨g, 0, none⟩) n c) w := by
  obtain ⟨i, hi, hz, hsize, hby⟩ := info_parts (show (Try.prog.info? 5).map (fun i => (i.zero, i.size, i.bytes)) = some (some (.int .u8 0), 1, 1) by kernel_rfl)
  have htn : Try.prog.underlying 3 = some (.int .i64) := by kernel_rfl
  have hw : IntKind.i64.wrap 0 = 0 := by decide
  simp [Builtin.append_, run_underlying EF8.und, run_underlying htn, sizeOf, typeInfo, zeroValue, hi, hz, hsize, hby, asInt, asIntOf, hw, hroom, Value.cells, storeCells, Builtin.zeroCells]
end Go.Proofs.Ytfibpkbbpnjepaa
