/-
  The document's Int (as XW8 has it, for seats without the law's big).
-/
import Derived.Test.YtfagpdnckmaomaaWide7
import Derived.Deep.CutRange
import Derived.Deep.CutBlock
import Derived.Deep.DeepCutAuto
namespace Go.Proofs.Ytfagpdnckmaomaa
open Go.ChangeShapes Go.WideShapes Go.ChangeAt Go.RowKit
set_option linter.unusedVariables false
set_option linter.unusedSimpArgs false
theorem bval_dropkR (l : List Nat) (j : Nat) (h : j < l.length) : bval (l.drop j) = l[j] + 2 * bval (l.drop (j + 1)) := by
  rw [List.drop_eq_getElem_cons h]; rfl

theorem cmp_same (z : Int) : cmpZ z z = 0 := by unfold cmpZ; simp
theorem BigAt.l64 {w : World} {s : Bool} {A : Option Addr} {n c : Nat} {z : Int} (h : BigAt w s A n c z) (hz : In64 z) : n ≤ 64 := (h.len (k := 64)).2 (by unfold In64 at hz; simp; omega)

set_option maxRecDepth 100000 in
set_option maxHeartbeats 4000000 in
theorem rint_any (x : Int) (hin : In64 x) (s : Bool) (A : Option Addr) (n c : Nat) (w : World) (hx : BigAt w s A n c x) :
    Calls Try.prog 72 #[.agg #[.bool s, .slice A n c]] w fun e w' => e = .returned (.int .i64 x) ∧ Below w.heap.size w w' := by
  have la := hx.l64 hin
  obtain ⟨a, h1, h2, h3, h4, h5, h6, h7⟩ := hx.ex
  subst h1
  clear hx h6
  have P1 := BB.new w s A a.length c 59
  have hB0 := since_alloc (Below.refl _ w) (.cells #[.bool s, .slice A a.length c] 59)
  have S1 := h4.below hB0
  have H7 := Lib.hid h7
  have HI := Lib.hid hin
  clear h7 hin h4
  go_enter Try.func72, Try.ntmps72
  go_upto_region 1 with fail
  generalize w.alloc (.cells #[.bool s, .slice A a.length c] 59) = W0 at *
  obtain ⟨p0, p1, p2, p3, p4⟩ := _root_.id P1
  go_wp2_with fail
  go_loopw [3, 4] (fun vn vi wr => ∃ (k : Nat) (v : Int), vi = .int .i64 k ∧ vn = .int .i64 v ∧ k ≤ a.length ∧ v = (if s = true then -(bval (a.drop k) : Int) else (bval (a.drop k) : Int)) ∧ Below W0.heap.size W0 wr) (fun _ i _ => (intOf i).toNat)
  case atStart => exact ⟨a.length, 0, rfl, rfl, by omega, by simp [bval], Below.refl _ _⟩
  case round =>
    obtain ⟨k, v, rfl, rfl, hk, hv, hB⟩ := hrel
    obtain ⟨q0, q1, q2, q3, q4⟩ := P1.below hB
    clear p0 p1 p2 p3 p4
    by_cases hk0 : 0 < k
    · obtain ⟨j, hj⟩ : ∃ j, k = j + 1 := ⟨k - 1, by omega⟩
      have hlt : j < a.length := by omega
      obtain ⟨bb, o, rfl, hz⟩ := (S1.below hB).byte hlt
      have hbr := World.block_lt_of_cell? _ _ hz
      have hbit := h5.1.at_ hlt
      have hdr : bval (a.drop j) = a[j] + 2 * bval (a.drop k) := by rw [bval_dropkR a j hlt, ← hj]
      have hle : bval (a.drop j) ≤ bval a := by
        have h8 := bval_drop a j (by omega)
        have h9 : 1 * bval (a.drop j) ≤ 2 ^ j * bval (a.drop j) := Nat.mul_le_mul_right _ (Nat.two_pow_pos j)
        omega
      have hin := HI.out
      have h7 := H7.out
      unfold In64 at hin
      have HJ := Lib.hid hj
      have HDR := Lib.hid hdr
      have f1 : IntKind.i64.wrap ((k : Int) - 1) = (j : Int) := by rw [IntKind.wrap_i64]; omega
      have d1 : decide (0 < (k : Int)) = true := decide_eq_true (by omega)
      have d1' : decide (0 < k) = true := decide_eq_true hk0
      generalize hdj : bval (a.drop j) = dj at *
      generalize hdk : bval (a.drop k) = dk at *
      generalize a[j] = bt at *
      have f2 : IntKind.i64.wrap (bt : Int) = (bt : Int) := by rw [IntKind.wrap_i64]; omega
      cases s with
      | false =>
        simp only [Bool.false_eq_true, if_false] at hv h7
        have f3 : IntKind.i64.wrap (2 * v) = 2 * v := by rw [IntKind.wrap_i64]; omega
        have f4 : IntKind.i64.wrap (2 * v + (bt : Int)) = (dj : Int) := by rw [IntKind.wrap_i64]; omega
        have HDJ := Lib.hid hdj
        clear hdr hle hin h7 hdj hdk hv hj
        go_wp2
        go_roundw
        case rel => exact ⟨j, (dj : Int), rfl, rfl, by omega, by simp [HDJ.out], hB⟩
        case measure => have := HJ.out; simp [intOf]; omega
      | true =>
        simp only [if_true] at hv h7
        have f3 : IntKind.i64.wrap (2 * v) = 2 * v := by rw [IntKind.wrap_i64]; omega
        have f4 : IntKind.i64.wrap (2 * v - (bt : Int)) = -(dj : Int) := by rw [IntKind.wrap_i64]; omega
        have HDJ := Lib.hid hdj
        clear hdr hle hin h7 hdj hdk hv hj
        go_wp2
        go_roundw
        case rel => exact ⟨j, -(dj : Int), rfl, rfl, by omega, by simp [HDJ.out], hB⟩
        case measure => have := HJ.out; simp [intOf]; omega
    · obtain rfl : k = 0 := by omega
      rw [List.drop_zero] at hv
      have hvx : v = x := by rw [hv, H7.out]
      subst hvx
      go_wp2
      go_ret
      exact ⟨rfl, since_step hB0 hB⟩

theorem BB.new1 (w : World) (o : Obj) (s : Bool) (A : Option Addr) (n c : Nat) (t : TypeId) : BB ((w.alloc o).alloc (.cells #[.bool s, .slice A n c] t)) (w.heap.size + 1) s A n c := by
  have := BB.new (w.alloc o) s A n c t
  rwa [World.size_alloc] at this

theorem BB.newS2 (w : World) (p q : Addr) (u v : Value) (s : Bool) (A : Option Addr) (n c : Nat) (t : TypeId) : BB (((w.setCell p u).setCell q v).alloc (.cells #[.bool s, .slice A n c] t)) w.heap.size s A n c := by
  have := BB.new ((w.setCell p u).setCell q v) s A n c t
  simpa using this

end Go.Proofs.Ytfagpdnckmaomaa
