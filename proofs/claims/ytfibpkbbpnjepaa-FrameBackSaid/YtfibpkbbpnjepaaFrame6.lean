/-
  Layer 7, sixth part: noughts behind a row that has room for them.
-/
import Derived.Test.YtfibpkbbpnjepaaFrame5
import Derived.Lib.AppendStr
namespace Go.Proofs.Ytfibpkbbpnjepaa
open Go.ChangeShapes Go.WideShapes Go.ChangeAt Go.RowKit
set_option linter.unusedVariables false
set_option linter.unusedSimpArgs false

theorem zeroCells8 (k : Nat) : (Builtin.zeroCells #[Value.int .u8 0] k).toList = by8 (List.replicate k 0) := by
  apply List.ext_getElem
  · have := zeroCells_size #[Value.int .u8 0] k (by decide)
    simp [by8, this]
  · intro j h1 h2
    simp [Builtin.zeroCells, by8, Nat.mod_one]
theorem run_zeros_room {w : World} (ty : TypeId) {W g n c k : Nat} {l : List Nat} (hown : w.ownsRow W 5 1 (.slice (some ⟨g, 0, none⟩) n c) n (by8 l)) (hk : 0 < k) (hroom : n + k ≤ c) (hc : c ≤ 1000000) :
    ∃ w', (Builtin.append_ #[22, 3] ty #[.slice (some ⟨g, 0, none⟩) n c, .int .i64 k]).run Try.prog w = .ok (.slice (some ⟨g, 0, none⟩) (n + k) c) w' ∧
      w'.ownsRow W 5 1 (.slice (some ⟨g, 0, none⟩) (n + k) c) (n + k) (by8 (l ++ List.replicate k 0)) ∧ w.grownBy w' (some g) := by
  obtain ⟨i, hi, hz, hsize, hby⟩ := info_parts (show (Try.prog.info? 5).map (fun i => (i.zero, i.size, i.bytes)) = some (some (.int .u8 0), 1, 1) by kernel_rfl)
  have htn : Try.prog.underlying 3 = some (.int .i64) := by kernel_rfl
  rcases hown.2 with ⟨h, _⟩ | ⟨g', cap', cur, h, hbg, hg, hnc, hcm, hcs, htake⟩
  · simp at h
  · simp only [Value.slice.injEq, Option.some.injEq, Addr.mk.injEq, and_true, true_and] at h
    obtain ⟨rfl, rfl⟩ := h
    have hl : l.length = n := by have := hown.1; rw [by8_length] at this; omega
    have hfit : n + (by8 (List.replicate k 0)).length ≤ cur.size := by rw [by8_length, List.length_replicate, hcs]; omega
    have hst := run_storeCells_at Try.prog g n 5 (by8 (List.replicate k 0)) 0 cur w hg (by simpa using hfit) (by8_one _)
    simp only [Nat.add_zero, by8_length, List.length_replicate] at hst
    have hw : IntKind.i64.wrap (k : Int) = k := IntWalk.i64_in _ (by omega)
    have hneg : ¬ ((k : Int) < 0) := by omega
    have hz8 : Builtin.zeroCells #[Value.int .u8 0] k = (by8 (List.replicate k 0)).toArray := by rw [← zeroCells8]
    have hk0 : k ≠ 0 := by omega
    have hbig : ¬ ((281474976710656 : Int) < (k : Int)) := by omega
    have hr : (Builtin.append_ #[22, 3] ty #[.slice (some ⟨g, 0, none⟩) n c, .int .i64 k]).run Try.prog w = .ok (.slice (some ⟨g, 0, none⟩) (n + k) c) (w.setRow g (cur.toList.take n ++ by8 (List.replicate k 0) ++ cur.toList.drop (n + k)).toArray) := by
      simp [Builtin.append_, run_underlying EF8.und, run_underlying htn, sizeOf, typeInfo, zeroValue, hi, hz, hsize, hby, asInt, asIntOf, hw, hroom, hneg, hk0, hbig, Addr.add_lit, hz8, hst, Value.cells]
    refine ⟨_, hr, ⟨by simp [by8_length, hl], .inr ⟨g, c, _, rfl, hbg, setRow_heap w g cur _ _ _ hg, hroom, hcm, ?_, ?_⟩⟩, ⟨rfl, rfl, rfl, by simp, fun q _ hq => setRow_other w g q _ (fun e => hq (by simp [e]))⟩⟩
    · simp only [List.size_toArray, List.length_append, List.length_take, List.length_drop, Array.length_toList, by8_length, List.length_replicate]
      omega
    · rw [Nat.mul_one] at htake ⊢
      rw [htake, by8_append]
      have e : n + k = (by8 l ++ by8 (List.replicate k 0)).length := by rw [List.length_append, by8_length, by8_length, List.length_replicate, hl]
      rw [e]
      exact List.take_left
end Go.Proofs.Ytfibpkbbpnjepaa
