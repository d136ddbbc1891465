/-
  Layer 4, first part: a writer in memory; the document's Int, Ints, Text (laid by gen_pack.py).
-/
import Derived.Test.YtpmnjojednbnpaaPackM
import Derived.Test.YtpmnjojednbnpaaApart
import Derived.Test.YtpmnjojednbnpaaRowS
import Derived.Laws.BitsAllLaws
import Derived.Laws.Bits64
import Derived.Deep.CutRange
import Derived.Deep.CutBlock
import Derived.Deep.DeepCutAuto
import Derived.Deep.RegionLaw
import Derived.Deep.RegionHeld3
import Derived.BigQuiet
import Derived.IntWalk
namespace Go.Proofs.Ytpmnjojednbnpaa
open Go.ChangeShapes Go.WideShapes Go.ChangeAt Go.RowKit
set_option linter.unusedVariables false
set_option linter.unusedSimpArgs false

theorem EU8 : Elem Try.prog 28 5 1 1 := Elem.mk' (z := .int .u8 0) (by kernel_rfl) (by kernel_rfl) (by decide) (by decide)
/-- a row of bytes of the call's own -/
def BRow (B : Nat) (w' : World) (e : Ending) (l : List Nat) : Prop := ∃ A' c', e = .returned (.slice A' l.length c') ∧ w'.ownsRow B 5 1 (.slice A' l.length c') l.length (by8 l)

set_option maxHeartbeats 4000000 in
set_option maxRecDepth 100000 in
theorem rpint_any (n : Int) (h6 : In64p n) (w : World) :
    Calls Try.prog 33 #[.int .i64 n] w fun e w' => BRow w.heap.size w' e (packI n) ∧ Below w.heap.size w w' := by
  obtain ⟨X, hX⟩ : ∃ X, packI n = X := ⟨_, rfl⟩
  obtain ⟨u0, hu0⟩ : ∃ u, zz n = u := ⟨_, rfl⟩
  have hlt := zz_lt h6
  rw [hu0] at hlt
  have HX : Hid (vb u0 = X) := Lib.hid (by rw [← hX, packI, hu0])
  have HXL : Hid (X.length ≤ 10) := Lib.hid (by rw [← HX.out]; exact vb_len10 hlt)
  have HLT := Lib.hid hlt
  rw [hX]
  clear hX
  have key : (0 ≤ n ∧ 2 * n = (u0 : Int)) ∨ (¬ 0 ≤ n ∧ 2 * (-(n + 1)) + 1 = (u0 : Int)) := by
    rw [← hu0]
    unfold zz
    by_cases h : 0 ≤ n
    · left; rw [if_pos h]; omega
    · right; rw [if_neg h]; omega
  unfold In64p at h6
  clear hu0
  have key_ := True.intro
  rcases key with ⟨hn, he⟩ | ⟨hn, he⟩
  · go_enter Try.func33, Try.ntmps33
    go_upto_region 5 with fail
    clear he hn key_
    go_wp2_with fail
    go_loopw [3, 4] (fun uv ov wr => ∃ (z : Int) (pre : List Nat) (A2 : Option Addr) (c2 : Nat), uv = .int .u64 z ∧ 0 ≤ z ∧ ov = .slice A2 pre.length c2 ∧ wr.ownsRow w.heap.size 5 1 (.slice A2 pre.length c2) pre.length (by8 pre) ∧ pre ++ vb z.toNat = X ∧ z < 18446744073709551616 ∧ Below w.heap.size w wr) (fun uv _ _ => (intOf uv).toNat)
    case atStart => exact ⟨(u0 : Int), [], none, 0, rfl, by omega, rfl, own_nil _ _ _, HX.out, by have := HLT.out; omega, Below.refl _ _⟩
    case round =>
      obtain ⟨z, pre, A2, c2, rfl, hz0, rfl, own2, hpx, hul, hB⟩ := hrel
      have hpl : pre.length ≤ 10 := by have h1 := HXL.out; rw [← hpx, List.length_append] at h1; omega
      have hsz := hB.size
      by_cases hlt : z < 128
      · have hg : ¬ (128 : Int) ≤ z := by omega
        have HE : Hid (pre ++ [z.toNat] = X) := Lib.hid (by rw [← hpx, vb_low (by omega)])
        have hw1 : IntKind.u8.wrap z = z := by rw [IntKind.wrap_u8']; omega
        have HZT := Lib.hid (show ((z.toNat : Nat) : Int) = z by omega)
        clear hpx
        go_wp2_with (first
          | (at_builtin; refine wpList_app rfl (.tmp 27) (.tmp 30) rfl EU8 rfl rfl (own2.alloc _) (m := 1) (news := [.int .u8 z]) rfl (Sl.new_ _ _ _) (fun u hu => by simp only [List.mem_cons, List.not_mem_nil, or_false] at hu; subst hu; rfl) (by unfold maxLen; omega) (by omega) (by simp only [World.size_alloc]; omega) ?_; intro A3 c3 w3 own3 hg3 hb3)
          | fail)
        have hB3 := (since_alloc hB (.cells #[.int .u8 z] 5)).trans hb3
        go_ret
        rw [← HE.out]
        exact ⟨⟨A3, c3, by simp, by simpa [by8, HZT.out] using own3⟩, hB3⟩
      · have hg : (128 : Int) ≤ z := by omega
        have HE : Hid ((pre ++ [(z % 128 + 128).toNat]) ++ vb (z / 128).toNat = X) := Lib.hid (by
          rw [← hpx, vb_high (u := z.toNat) (by omega), List.append_assoc]
          have e1 : (z % 128 + 128).toNat = z.toNat % 128 + 128 := by omega
          have e2 : (z / 128).toNat = z.toNat / 128 := by omega
          rw [e1, e2]; rfl)
        have HM := Lib.hid (show 0 ≤ z / 128 ∧ z / 128 < 18446744073709551616 ∧ (z / 128).toNat < z.toNat by omega)
        have HZT := Lib.hid (show (((z % 128 + 128).toNat : Nat) : Int) = z % 128 + 128 by omega)
        have hm0 : 0 ≤ z % 128 := by omega
        have hm1 : z % 128 < 128 := by omega
        have hw2 : IntKind.u64.wrap (z % 128 + 128) = z % 128 + 128 := IntWalk.u64_in _ (by omega)
        have hw3 : IntKind.u8.wrap (z % 128 + 128) = z % 128 + 128 := by rw [IntKind.wrap_u8']; omega
        have hw4 : IntKind.u64.wrap (z / 128) = z / 128 := IntWalk.u64_in _ (by omega)
        clear hpx
        go_wp2_with (first
          | (at_builtin; refine wpList_app rfl (.tmp 18) (.tmp 23) rfl EU8 rfl rfl (own2.alloc _) (m := 1) (news := [.int .u8 (z % 128 + 128)]) rfl (Sl.new_ _ _ _) (fun u hu => by simp only [List.mem_cons, List.not_mem_nil, or_false] at hu; subst hu; rfl) (by unfold maxLen; omega) (by omega) (by simp only [World.size_alloc]; omega) ?_; intro A3 c3 w3 own3 hg3 hb3)
          | fail)
        have hB3 := (since_alloc hB (.cells #[.int .u8 (z % 128 + 128)] 5)).trans hb3
        go_roundw
        case rel => exact ⟨z / 128, pre ++ [(z % 128 + 128).toNat], A3, c3, rfl, HM.out.1, by simp, by simpa [by8, HZT.out] using own3, HE.out, HM.out.2.1, hB3⟩
        case measure => exact HM.out.2.2
  · go_enter Try.func33, Try.ntmps33
    go_upto_region 5 with fail
    clear he hn key_
    go_wp2_with fail
    go_loopw [3, 4] (fun uv ov wr => ∃ (z : Int) (pre : List Nat) (A2 : Option Addr) (c2 : Nat), uv = .int .u64 z ∧ 0 ≤ z ∧ ov = .slice A2 pre.length c2 ∧ wr.ownsRow w.heap.size 5 1 (.slice A2 pre.length c2) pre.length (by8 pre) ∧ pre ++ vb z.toNat = X ∧ z < 18446744073709551616 ∧ Below w.heap.size w wr) (fun uv _ _ => (intOf uv).toNat)
    case atStart => exact ⟨(u0 : Int), [], none, 0, rfl, by omega, rfl, own_nil _ _ _, HX.out, by have := HLT.out; omega, Below.refl _ _⟩
    case round =>
      obtain ⟨z, pre, A2, c2, rfl, hz0, rfl, own2, hpx, hul, hB⟩ := hrel
      have hpl : pre.length ≤ 10 := by have h1 := HXL.out; rw [← hpx, List.length_append] at h1; omega
      have hsz := hB.size
      by_cases hlt : z < 128
      · have hg : ¬ (128 : Int) ≤ z := by omega
        have HE : Hid (pre ++ [z.toNat] = X) := Lib.hid (by rw [← hpx, vb_low (by omega)])
        have hw1 : IntKind.u8.wrap z = z := by rw [IntKind.wrap_u8']; omega
        have HZT := Lib.hid (show ((z.toNat : Nat) : Int) = z by omega)
        clear hpx
        go_wp2_with (first
          | (at_builtin; refine wpList_app rfl (.tmp 27) (.tmp 30) rfl EU8 rfl rfl (own2.alloc _) (m := 1) (news := [.int .u8 z]) rfl (Sl.new_ _ _ _) (fun u hu => by simp only [List.mem_cons, List.not_mem_nil, or_false] at hu; subst hu; rfl) (by unfold maxLen; omega) (by omega) (by simp only [World.size_alloc]; omega) ?_; intro A3 c3 w3 own3 hg3 hb3)
          | fail)
        have hB3 := (since_alloc hB (.cells #[.int .u8 z] 5)).trans hb3
        go_ret
        rw [← HE.out]
        exact ⟨⟨A3, c3, by simp, by simpa [by8, HZT.out] using own3⟩, hB3⟩
      · have hg : (128 : Int) ≤ z := by omega
        have HE : Hid ((pre ++ [(z % 128 + 128).toNat]) ++ vb (z / 128).toNat = X) := Lib.hid (by
          rw [← hpx, vb_high (u := z.toNat) (by omega), List.append_assoc]
          have e1 : (z % 128 + 128).toNat = z.toNat % 128 + 128 := by omega
          have e2 : (z / 128).toNat = z.toNat / 128 := by omega
          rw [e1, e2]; rfl)
        have HM := Lib.hid (show 0 ≤ z / 128 ∧ z / 128 < 18446744073709551616 ∧ (z / 128).toNat < z.toNat by omega)
        have HZT := Lib.hid (show (((z % 128 + 128).toNat : Nat) : Int) = z % 128 + 128 by omega)
        have hm0 : 0 ≤ z % 128 := by omega
        have hm1 : z % 128 < 128 := by omega
        have hw2 : IntKind.u64.wrap (z % 128 + 128) = z % 128 + 128 := IntWalk.u64_in _ (by omega)
        have hw3 : IntKind.u8.wrap (z % 128 + 128) = z % 128 + 128 := by rw [IntKind.wrap_u8']; omega
        have hw4 : IntKind.u64.wrap (z / 128) = z / 128 := IntWalk.u64_in _ (by omega)
        clear hpx
        go_wp2_with (first
          | (at_builtin; refine wpList_app rfl (.tmp 18) (.tmp 23) rfl EU8 rfl rfl (own2.alloc _) (m := 1) (news := [.int .u8 (z % 128 + 128)]) rfl (Sl.new_ _ _ _) (fun u hu => by simp only [List.mem_cons, List.not_mem_nil, or_false] at hu; subst hu; rfl) (by unfold maxLen; omega) (by omega) (by simp only [World.size_alloc]; omega) ?_; intro A3 c3 w3 own3 hg3 hb3)
          | fail)
        have hB3 := (since_alloc hB (.cells #[.int .u8 (z % 128 + 128)] 5)).trans hb3
        go_roundw
        case rel => exact ⟨z / 128, pre ++ [(z % 128 + 128).toNat], A3, c3, rfl, HM.out.1, by simp, by simpa [by8, HZT.out] using own3, HE.out, HM.out.2.1, hB3⟩
        case measure => exact HM.out.2.2
end Go.Proofs.Ytpmnjojednbnpaa
