import Derived.Test.YtahdmomadbbhoaaGreatDg11
import Derived.Test.YtahdmomadbbhoaaGreatDg12
import Derived.Lib.ItoaNum
import Derived.Test.YtahdmomadbbhoaaGreatDg07
import Derived.Deep.CutBlock
import Derived.Deep.CutRange
import Derived.Deep.DeepCutAuto
section
namespace Go.Proofs.YtahdmomadbbhoaaGreat
open Go.ChangeShapes Go.WideShapes Go.ChangeAt Go.RowKit
set_option linter.unusedVariables false
set_option linter.unusedSimpArgs false

theorem in64_iff (z : Int) : inN z 63 ↔ In64 z := by rw [inN_63]; exact Iff.rfl
set_option maxRecDepth 100000 in
set_option maxHeartbeats 4000000 in
theorem is_any (z : Int) (s : Bool) (A : Option Addr) (n c : Nat) (w : World) (la : n ≤ 100000) (hx : BigAt w s A n c z) :
    Calls Tryz.prog 17 #[.int .i64 (fV z), .int .i64 (fE z), .agg #[.bool s, .slice A n c]] w fun e w' => e = .returned (.bool true) ∧ Below w.heap.size w w' := by
  have P0 := BB.new w s A n c 50
  have hB0 : Below w.heap.size w (w.alloc (.cells #[.bool s, .slice A n c] 50)) := since_alloc (Below.refl _ w) _
  have X0 := hx.below hB0
  clear hx
  by_cases h : In64 z
  · have HF := Lib.hid (show decide (inN z 63) = true from decide_eq_true ((in64_iff z).2 h))
    rw [show fV z = z from if_pos h, show fE z = 0 from if_pos h]
    go_enter Tryz.func17, Tryz.ntmps17
    go_wp2_with fail
    refine (bfits_any z s A n c _ la X0).mono ?_
    rintro e w1 ⟨rfl, hb1⟩
    rw [HF.out]
    have X1 := X0.below hb1
    have P1 := P0.below hb1
    have hB1 := since_step hB0 hb1
    clear hb1 P0 X0
    go_upto_region 3 with fail
    have sO : ∀ W, Below w1.heap.size w1 W → (Below w1.heap.size w1 W ∧ W.cell? ⟨w.heap.size, 0, none⟩ = some (.bool s) ∧ W.cell? ⟨w.heap.size, 1, none⟩ = some (.slice A n c)) := fun W h => ⟨h, (P1.below h).2.1, (P1.below h).2.2.1⟩
    have SO := Lib.hid sO
    have XO := Lib.hid (fun W (h : Below w1.heap.size w1 W) => X1.below h)
    have HC := Lib.hid (show cmpZ z z = 0 from by unfold cmpZ; simp)
    clear sO P1 X1
    go_region_held3 (fun W => Below w1.heap.size w1 W ∧ W.cell? ⟨w.heap.size, 0, none⟩ = some (.bool s) ∧ W.cell? ⟨w.heap.size, 1, none⟩ = some (.slice A n c))
      (first | exact SO.out _ (by assumption) | exact SO.out _ (Below.refl _ _).drew | assumption)
      (first
        | (go_at_call 26; go_split_ands; refine (bof_any z _ h).mono ?_; rintro e w2 ⟨⟨s2, A2, n2, c2, rfl, hfr, hbig⟩, hb2⟩; have hbW2 := since_step (by assumption) hb2; have hn2 : n2 ≤ 64 := (hbig.len (k := 64)).2 (by unfold In64 at h; simp; omega))
        | (go_at_call 27; go_split_ands; refine (bcmp_any z z s2 s A2 A n2 c2 n c _ (by omega) la hbig (XO.out _ (by assumption))).mono ?_; rintro e w3 ⟨rfl, hb3⟩; have hbW3 := since_step (by assumption) hb3; rw [HC.out]))
    go_wp2
    go_ret
    go_split_ands
    exact ⟨rfl, since_step hB1 (by assumption)⟩
  · have HF := Lib.hid (show decide (inN z 63) = false from decide_eq_false fun g => h ((in64_iff z).1 g))
    rw [show fV z = 0 from if_neg h, show fE z = 7 from if_neg h]
    go_enter Tryz.func17, Tryz.ntmps17
    go_wp2_with fail
    refine (bfits_any z s A n c _ la X0).mono ?_
    rintro e w1 ⟨rfl, hb1⟩
    rw [HF.out]
    have hB1 := since_step hB0 hb1
    go_wp2
    go_ret
    exact ⟨rfl, hB1⟩
end Go.Proofs.YtahdmomadbbhoaaGreat
end
section
namespace Go.Proofs.YtahdmomadbbhoaaGreat
open Go.ChangeShapes Go.WideShapes Go.ChangeAt Go.RowKit
set_option linter.unusedVariables false
set_option linter.unusedSimpArgs false

structure Dg (Y A B u d : Nat) : Prop where
  hy : Y = A * 4294967296 + B
  hb : B < 4294967296
  ha : 2147483648 ≤ A
  ha2 : A < 4294967296
  hu : u < Y
  hd : d < 4294967296
theorem lin_le (qa qb r d M : Nat) (hc : qb ≤ r * M + d) : qa * M + qb ≤ (qa + r) * M + d := by rw [Nat.add_mul]; omega
section digit
variable {Y A B u d : Nat}
def dgQ (Y u d : Nat) : Nat := (u * 4294967296 + d) / Y
theorem Dg.pos (h : Dg Y A B u d) : 0 < Y := by have := h.hu; omega
theorem Dg.le (h : Dg Y A B u d) : dgQ Y u d ≤ u / A := by
  have hA : 0 < A := by have := h.ha; omega
  rw [Nat.le_div_iff_mul_le hA]
  have h1 : dgQ Y u d * Y ≤ u * 4294967296 + d := Nat.div_mul_le_self _ _
  have h2 : dgQ Y u d * (A * 4294967296) ≤ dgQ Y u d * Y := Nat.mul_le_mul_left _ (by have := h.hy; omega)
  have h3 : dgQ Y u d * (A * 4294967296) = dgQ Y u d * A * 4294967296 := by rw [Nat.mul_assoc]
  have := h.hd
  omega
theorem Dg.q2 (h : Dg Y A B u d) : u / A ≤ 4294967297 := by
  have hA : 0 < A := by have := h.ha; omega
  have : u / A < 4294967298 := by
    rw [Nat.div_lt_iff_lt_mul hA]
    have := h.hu; have := h.hy; have := h.hb; have := h.ha
    omega
  omega
theorem Dg.done (h : Dg Y A B u d) {q r : Nat} (e : q * A + r = u) (hq : dgQ Y u d ≤ q) (hc : q * B ≤ r * 4294967296 + d) : q = dgQ Y u d := by
  have : q ≤ dgQ Y u d := by
    clear hq
    unfold dgQ
    have e2 : q * Y = q * A * 4294967296 + q * B := by rw [h.hy, Nat.mul_add q (A * 4294967296) B, Nat.mul_assoc q A 4294967296]
    rw [Nat.le_div_iff_mul_le h.pos, e2]
    subst e
    exact lin_le _ _ _ _ _ hc
  omega
theorem Dg.rest (h : Dg Y A B u d) : dgQ Y u d * Y ≤ u * 4294967296 + d ∧ u * 4294967296 + d - dgQ Y u d * Y < Y := by
  have h1 : dgQ Y u d * Y ≤ u * 4294967296 + d := Nat.div_mul_le_self _ _
  refine ⟨h1, ?_⟩
  have h2 : Y * dgQ Y u d + (u * 4294967296 + d) % Y = u * 4294967296 + d := Nat.div_add_mod _ _
  have h3 : (u * 4294967296 + d) % Y < Y := Nat.mod_lt _ h.pos
  rw [Nat.mul_comm] at h2
  omega
end digit
theorem Dg.u2 {Y A B u d u2 : Nat} (h : Dg Y A B u d) (hu : u2 = u * 4294967296 + d - dgQ Y u d * Y) : u * 4294967296 + d = dgQ Y u d * Y + u2 ∧ u2 < Y := by
  obtain ⟨h1, h2⟩ := h.rest
  rw [hu]
  refine ⟨?_, h2⟩
  generalize dgQ Y u d * Y = m at *
  omega
end Go.Proofs.YtahdmomadbbhoaaGreat
end
section
namespace Go.Proofs.YtahdmomadbbhoaaGreat
open Go.ChangeShapes Go.WideShapes Go.ChangeAt Go.RowKit
set_option linter.unusedVariables false
set_option linter.unusedSimpArgs false
theorem bval_dropkR (l : List Nat) (j : Nat) (h : j < l.length) : bval (l.drop j) = l[j] + 2 * bval (l.drop (j + 1)) := by
  rw [List.drop_eq_getElem_cons h]; rfl
theorem BigAt.l64 {w : World} {s : Bool} {A : Option Addr} {n c : Nat} {z : Int} (h : BigAt w s A n c z) (hz : In64 z) : n ≤ 64 := (h.len (k := 64)).2 (by unfold In64 at hz; simp; omega)
set_option maxRecDepth 100000 in
set_option maxHeartbeats 4000000 in
theorem rint_any (x : Int) (hin : In64 x) (s : Bool) (A : Option Addr) (n c : Nat) (w : World) (hx : BigAt w s A n c x) :
    Calls Tryz.prog 38 #[.agg #[.bool s, .slice A n c]] w fun e w' => e = .returned (.int .i64 x) ∧ Below w.heap.size w w' := by
  have la := hx.l64 hin
  obtain ⟨a, h1, h2, h3, h4, h5, h6, h7⟩ := hx.ex
  subst h1
  clear hx h6
  have P1 := BB.new w s A a.length c 50
  have hB0 := since_alloc (Below.refl _ w) (.cells #[.bool s, .slice A a.length c] 50)
  have S1 := h4.below hB0
  have H7 := Lib.hid h7
  have HI := Lib.hid hin
  clear h7 hin h4
  go_enter Tryz.func38, Tryz.ntmps38
  go_upto_region 1 with fail
  generalize w.alloc (.cells #[.bool s, .slice A a.length c] 50) = W0 at *
  obtain ⟨p0, p1, p2, p3, p4⟩ := _root_.id P1
  go_wp2_with fail
  go_loopw [3, 4] (fun vn vi wr => ∃ (k : Nat) (v : Int), vi = .int .i64 k ∧ vn = .int .i64 v ∧ k ≤ a.length ∧ v = (if s = true then -(bval (a.drop k) : Int) else (bval (a.drop k) : Int)) ∧ Below W0.heap.size W0 wr) (fun _ i _ => (intOf i).toNat)
  case atStart => exact ⟨a.length, 0, rfl, rfl, by omega, by simp [bval], Below.refl _ _⟩
  case round =>
    obtain ⟨k, v, rfl, rfl, hk, hv, hB⟩ := hrel
    obtain ⟨q0, q1, q2, q3, q4⟩ := P1.below hB
    clear p0 p1 p2 p3 p4
    by_cases hk0 : 0 < k
    · obtain ⟨j, hj⟩ : ∃ j, k = j + 1 := ⟨k - 1, by omega⟩
      have hlt : j < a.length := by omega
      obtain ⟨bb, o, rfl, hz⟩ := (S1.below hB).byte hlt
      have hbr := World.block_lt_of_cell? _ _ hz
      have hbit := h5.1.at_ hlt
      have hdr : bval (a.drop j) = a[j] + 2 * bval (a.drop k) := by rw [bval_dropkR a j hlt, ← hj]
      have hle : bval (a.drop j) ≤ bval a := by
        have h8 := bval_drop a j (by omega)
        have h9 : 1 * bval (a.drop j) ≤ 2 ^ j * bval (a.drop j) := Nat.mul_le_mul_right _ (Nat.two_pow_pos j)
        omega
      have hin := HI.out
      have h7 := H7.out
      unfold In64 at hin
      have HJ := Lib.hid hj
      have HDR := Lib.hid hdr
      have f1 : IntKind.i64.wrap ((k : Int) - 1) = (j : Int) := by rw [IntKind.wrap_i64]; omega
      have d1 : decide (0 < (k : Int)) = true := decide_eq_true (by omega)
      have d1' : decide (0 < k) = true := decide_eq_true hk0
      generalize hdj : bval (a.drop j) = dj at *
      generalize hdk : bval (a.drop k) = dk at *
      generalize a[j] = bt at *
      have f2 : IntKind.i64.wrap (bt : Int) = (bt : Int) := by rw [IntKind.wrap_i64]; omega
      cases s with
      | false =>
        simp only [Bool.false_eq_true, if_false] at hv h7
        have f3 : IntKind.i64.wrap (2 * v) = 2 * v := by rw [IntKind.wrap_i64]; omega
        have f4 : IntKind.i64.wrap (2 * v + (bt : Int)) = (dj : Int) := by rw [IntKind.wrap_i64]; omega
        have HDJ := Lib.hid hdj
        clear hdr hle hin h7 hdj hdk hv hj
        go_wp2
        go_roundw
        case rel => exact ⟨j, (dj : Int), rfl, rfl, by omega, by simp [HDJ.out], hB⟩
        case measure => have := HJ.out; simp [intOf]; omega
      | true =>
        simp only [if_true] at hv h7
        have f3 : IntKind.i64.wrap (2 * v) = 2 * v := by rw [IntKind.wrap_i64]; omega
        have f4 : IntKind.i64.wrap (2 * v - (bt : Int)) = -(dj : Int) := by rw [IntKind.wrap_i64]; omega
        have HDJ := Lib.hid hdj
        clear hdr hle hin h7 hdj hdk hv hj
        go_wp2
        go_roundw
        case rel => exact ⟨j, -(dj : Int), rfl, rfl, by omega, by simp [HDJ.out], hB⟩
        case measure => have := HJ.out; simp [intOf]; omega
    · obtain rfl : k = 0 := by omega
      rw [List.drop_zero] at hv
      have hvx : v = x := by rw [hv, H7.out]
      subst hvx
      go_wp2
      go_ret
      exact ⟨rfl, since_step hB0 hB⟩
theorem BB.new1 (w : World) (o : Obj) (s : Bool) (A : Option Addr) (n c : Nat) (t : TypeId) : BB ((w.alloc o).alloc (.cells #[.bool s, .slice A n c] t)) (w.heap.size + 1) s A n c := by
  have := BB.new (w.alloc o) s A n c t
  rwa [World.size_alloc] at this
end Go.Proofs.YtahdmomadbbhoaaGreat
end
