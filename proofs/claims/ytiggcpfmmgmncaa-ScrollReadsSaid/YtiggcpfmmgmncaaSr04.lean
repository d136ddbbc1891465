/-
  ScrollReads: for every input the law returns true, and what came in reads as before. The row's frame; the walk is walk_ScrollReads.
-/
import Derived.Test.YtiggcpfmmgmncaaSp00
import Derived.Test.YtiggcpfmmgmncaaSp01
import Derived.Test.YtiggcpfmmgmncaaSp02
import Derived.Test.YtiggcpfmmgmncaaSp03
import Derived.Test.YtiggcpfmmgmncaaSp04
import Derived.Test.YtiggcpfmmgmncaaSp05
import Derived.Test.YtiggcpfmmgmncaaSp06
import Derived.Test.YtiggcpfmmgmncaaSp07
import Derived.Test.YtiggcpfmmgmncaaSp08
import Derived.Test.YtiggcpfmmgmncaaSp09
import Derived.Test.YtiggcpfmmgmncaaSp10
import Derived.Test.YtiggcpfmmgmncaaSp11
import Derived.Test.YtiggcpfmmgmncaaSp12
import Derived.Test.YtiggcpfmmgmncaaSp13
import Derived.Test.YtiggcpfmmgmncaaSp14
import Derived.Test.YtiggcpfmmgmncaaSp15
import Derived.Test.YtiggcpfmmgmncaaSp16
import Derived.Test.YtiggcpfmmgmncaaSp17
import Derived.Test.YtiggcpfmmgmncaaSp18
import Derived.Test.YtiggcpfmmgmncaaSp19
import Derived.Test.YtiggcpfmmgmncaaSp20
import Derived.Test.YtiggcpfmmgmncaaSp21
import Derived.Test.YtiggcpfmmgmncaaSp22
import Derived.Test.YtiggcpfmmgmncaaSp23
import Derived.Test.YtiggcpfmmgmncaaSp24
import Derived.Test.YtiggcpfmmgmncaaSp25
import Derived.Test.YtiggcpfmmgmncaaSp26
import Derived.Test.YtiggcpfmmgmncaaSp27
import Derived.Test.YtiggcpfmmgmncaaSp28
import Derived.Test.YtiggcpfmmgmncaaSp29
import Derived.Test.YtiggcpfmmgmncaaSp30
import Derived.Test.YtiggcpfmmgmncaaSp31
import Derived.Test.YtiggcpfmmgmncaaSp32
import Derived.Test.YtiggcpfmmgmncaaSp33
import Derived.Test.YtiggcpfmmgmncaaSp34
import Derived.Test.YtiggcpfmmgmncaaSp35
import Derived.Test.YtiggcpfmmgmncaaSp36
import Derived.Test.YtiggcpfmmgmncaaSp37
import Derived.Test.YtiggcpfmmgmncaaSp38
import Derived.Test.YtiggcpfmmgmncaaSp39
import Derived.Test.YtiggcpfmmgmncaaSp40
import Derived.Test.YtiggcpfmmgmncaaSp41
import Derived.Test.YtiggcpfmmgmncaaSr03
section
namespace Go.Proofs.Ytiggcpfmmgmncaa.scrollReads
open Go.ChangeShapes Go.WideShapes Go.ChangeAt Go.RowKit
open Go.ChangeMaps (open_string shut_string)
set_option linter.unusedVariables false

set_option maxRecDepth 100000 in
theorem lifted (os : Os) (started : os.Started) (H : Type) (enc : TypeId × Value → H) :
    ReturnsInHanded {} Try.checked os 5 .any (Rows.scrollReadsSpec.pre6 enc Try.prog Try.f5 Rows.scrollReadsRow.domain false) (Rows.scrollReadsSpec.post enc Try.prog Try.f5 false true false false) := by
  refine returnsInHanded_of_change (C := Try.checked) own started (by kernel_rfl) Try.func5
    (ChangeSpec.witness6 (enc := enc) (C := Try.checked) false ⟨#[], #[.slice none 0 0, .int .i64 0, .int .i64 0, .int .i64 0, .int .i64 0], []⟩ 8 (by kernel_rfl) (by kernel_rfl) (by kernel_rfl) (by kernel_rfl)) ?_
  intro W base args ds gs before hval0 hW hcnd _
  have hval : ∀ (j : Nat) t v, Try.f5.params[j]? = some t → args[j]? = some v → Value.okWide Try.prog W .any base t v := hval0
  have hW' := hW
  obtain ⟨p, q, hA0, hV, rfl, hfz, hnd⟩ := hW
  have hA : DataW.TrodAll enc Try.prog W 0 (fun _ => true) true Try.f5.params.toList args.toList ds p := hA0
  rw [Try.params5] at hA hval
  obtain ⟨v0, vs0, d0, ds0, p0, q0, hargs, rfl, rfl, h0, r0⟩ := trodAll_cons hA
  obtain ⟨v1, vs1, d1, ds1, p1, q1, rfl, rfl, rfl, h1, r1⟩ := trodAll_cons r0
  obtain ⟨v2, vs2, d2, ds2, p2, q2, rfl, rfl, rfl, h2, r2⟩ := trodAll_cons r1
  obtain ⟨v3, vs3, d3, ds3, p3, q3, rfl, rfl, rfl, h3, r3⟩ := trodAll_cons r2
  obtain ⟨v4, vs4, d4, ds4, p4, q4, rfl, rfl, rfl, h4, r4⟩ := trodAll_cons r3
  obtain ⟨rfl, rfl, rfl⟩ := trodAll_nil r4
  obtain rfl : args = #[v0, v1, v2, v3, v4] := by cases args; simp_all
  obtain ⟨rfl, rfl⟩ := trodVars_none hV
  obtain ⟨a0, n0, c0, rfl⟩ := okWide_slice Try.underlying60 (hval 0 60 v0 rfl rfl)
  have k0 := h0
  have lt0 : ∀ x ∈ p0, x.block < W.heap.size := by obtain ⟨m, hm⟩ := k0; exact DataW.trod_lt m _ _ _ hm
  have w0 : Rd W (.sl (.cat (.sl (.int .u8)) (.cat (.cat (.int .i64) (.cat (.int .i64) (.cat (.int .i64) (.cat (.int .i64) (.cat (.int .i64) (.cat (.sl (.int .u8)) .nil)))))) .nil))) [.slice a0 n0 c0] := by simpa [Value.cells] using arg_shape (show shapeOf Try.prog 8 60 = some (.sl (.cat (.sl (.int .u8)) (.cat (.cat (.int .i64) (.cat (.int .i64) (.cat (.int .i64) (.cat (.int .i64) (.cat (.int .i64) (.cat (.sl (.int .u8)) .nil)))))) .nil))) by kernel_rfl) h0
  obtain ⟨a1, rfl, rfl, rfl, w1⟩ := open_int Try.underlying3 (hval 1 3 v1 rfl rfl) h1
  obtain ⟨a2, rfl, rfl, rfl, w2⟩ := open_int Try.underlying3 (hval 2 3 v2 rfl rfl) h2
  obtain ⟨a3, rfl, rfl, rfl, w3⟩ := open_int Try.underlying3 (hval 3 3 v3 rfl rfl) h3
  obtain ⟨a4, rfl, rfl, rfl, w4⟩ := open_int Try.underlying3 (hval 4 3 v4 rfl rfl) h4
  clear hA0 hval0
  refine (walk_ScrollReads a0 n0 c0 a1 a2 a3 a4 W w0 w1 w2 w3 w4).mono fun e W' ⟨he, bel⟩ => ?_
  subst he
  exact ⟨_, rfl, _, _, _, [], _, [], hW', trodAll_mk1 (shut_bool Try.underlying4 _), (trodAll_cons_mk (Below.trod laidOut (by kernel_rfl) (of_decide_eq_true (by kernel_rfl)) k0 bel lt0) (trodAll_cons_mk (shut_int Try.underlying3 w1) (trodAll_cons_mk (shut_int Try.underlying3 w2) (trodAll_cons_mk (shut_int Try.underlying3 w3) (trodAll_cons_mk (shut_int Try.underlying3 w4) trodAll_mk0))))), rfl, bel.frame _, fun h => by cases h⟩
theorem over : Rows.scrollReadsRow.holds Try.pinned (OpenSpec.ofChange Rows.scrollReadsSpec) :=
  OpenClaim.holds_of_wide 5 Try.f5 rfl rfl rfl rfl rfl rfl rfl ⟨rfl, rfl, rfl, rfl, rfl⟩ rfl rfl rfl rfl rfl (by kernel_rfl) Try.func5 (by kernel_rfl)
    (of_decide_eq_true (by kernel_rfl)) (by unfold Func.isWrapper; first | (rw [if_pos (by decide +kernel)]; kernel_rfl) | (rw [if_neg (by decide +kernel)]; exact ⟨rfl, rfl⟩))
    (fun os started H enc _ => lifted os started H enc)
theorem proved : Rows.ScrollReadsSaid := over
end Go.Proofs.Ytiggcpfmmgmncaa.scrollReads
end
