import Derived.Lib.ItoaNum
import Derived.Test.YtldnponbkhgijaaGN07
import Derived.Deep.CutBlock
import Derived.Deep.CutRange
import Derived.Deep.DeepCutAuto
import Derived.Test.YtldnponbkhgijaaGN11
section
namespace Go.Proofs.Ytldnponbkhgijaa
open Go.ChangeShapes Go.WideShapes Go.ChangeAt Go.RowKit
set_option linter.unusedVariables false
set_option linter.unusedSimpArgs false

structure Dg (Y A B u d : Nat) : Prop where
  hy : Y = A * 4294967296 + B
  hb : B < 4294967296
  ha : 2147483648 ≤ A
  ha2 : A < 4294967296
  hu : u < Y
  hd : d < 4294967296
theorem lin_le (qa qb r d M : Nat) (hc : qb ≤ r * M + d) : qa * M + qb ≤ (qa + r) * M + d := by rw [Nat.add_mul]; omega
section digit
variable {Y A B u d : Nat}
def dgQ (Y u d : Nat) : Nat := (u * 4294967296 + d) / Y
theorem Dg.pos (h : Dg Y A B u d) : 0 < Y := by have := h.hu; omega
theorem Dg.le (h : Dg Y A B u d) : dgQ Y u d ≤ u / A := by
  have hA : 0 < A := by have := h.ha; omega
  rw [Nat.le_div_iff_mul_le hA]
  have h1 : dgQ Y u d * Y ≤ u * 4294967296 + d := Nat.div_mul_le_self _ _
  have h2 : dgQ Y u d * (A * 4294967296) ≤ dgQ Y u d * Y := Nat.mul_le_mul_left _ (by have := h.hy; omega)
  have h3 : dgQ Y u d * (A * 4294967296) = dgQ Y u d * A * 4294967296 := by rw [Nat.mul_assoc]
  have := h.hd
  omega
theorem Dg.q2 (h : Dg Y A B u d) : u / A ≤ 4294967297 := by
  have hA : 0 < A := by have := h.ha; omega
  have : u / A < 4294967298 := by
    rw [Nat.div_lt_iff_lt_mul hA]
    have := h.hu; have := h.hy; have := h.hb; have := h.ha
    omega
  omega
theorem Dg.done (h : Dg Y A B u d) {q r : Nat} (e : q * A + r = u) (hq : dgQ Y u d ≤ q) (hc : q * B ≤ r * 4294967296 + d) : q = dgQ Y u d := by
  have : q ≤ dgQ Y u d := by
    clear hq
    unfold dgQ
    have e2 : q * Y = q * A * 4294967296 + q * B := by rw [h.hy, Nat.mul_add q (A * 4294967296) B, Nat.mul_assoc q A 4294967296]
    rw [Nat.le_div_iff_mul_le h.pos, e2]
    subst e
    exact lin_le _ _ _ _ _ hc
  omega
theorem Dg.rest (h : Dg Y A B u d) : dgQ Y u d * Y ≤ u * 4294967296 + d ∧ u * 4294967296 + d - dgQ Y u d * Y < Y := by
  have h1 : dgQ Y u d * Y ≤ u * 4294967296 + d := Nat.div_mul_le_self _ _
  refine ⟨h1, ?_⟩
  have h2 : Y * dgQ Y u d + (u * 4294967296 + d) % Y = u * 4294967296 + d := Nat.div_add_mod _ _
  have h3 : (u * 4294967296 + d) % Y < Y := Nat.mod_lt _ h.pos
  rw [Nat.mul_comm] at h2
  omega
end digit
theorem Dg.u2 {Y A B u d u2 : Nat} (h : Dg Y A B u d) (hu : u2 = u * 4294967296 + d - dgQ Y u d * Y) : u * 4294967296 + d = dgQ Y u d * Y + u2 ∧ u2 < Y := by
  obtain ⟨h1, h2⟩ := h.rest
  rw [hu]
  refine ⟨?_, h2⟩
  generalize dgQ Y u d * Y = m at *
  omega
end Go.Proofs.Ytldnponbkhgijaa
end
section
namespace Go.Proofs.Ytldnponbkhgijaa
open Go.ChangeShapes Go.WideShapes Go.ChangeAt Go.RowKit
set_option linter.unusedVariables false
set_option linter.unusedSimpArgs false

set_option maxHeartbeats 2000000 in
theorem wcmp_any (x y : Int) (hx : In128 x) (hy : In128 y) (w : World) :
    Calls Try.prog 162 #[.agg #[.int .i64 (hiN x), .int .u64 (loN x)], .agg #[.int .i64 (hiN y), .int .u64 (loN y)]] w fun e w' => e = .returned (.int .i64 (cmpZ x y)) ∧ Below w.heap.size w w' := by
  have hxs := split_in hx
  have hys := split_in hy
  have lx := lo_nn x
  have ly := lo_nn y
  have lx2 := lo_lt x
  have ly2 := lo_lt y
  have hz : cmpZ x y = if hiN x = hiN y ∧ loN x = loN y then 0 else if hiN x < hiN y ∨ (hiN x = hiN y ∧ loN x < loN y) then -1 else 1 := by
    unfold cmpZ
    by_cases h1 : x = y
    · subst h1; simp
    · have hne : ¬ (hiN x = hiN y ∧ loN x = loN y) := fun h => h1 (parts_inj hx hy h.1 h.2)
      rw [if_neg h1, if_neg hne]
      by_cases h2 : x < y
      · rw [if_pos h2, if_pos (show hiN x < hiN y ∨ (hiN x = hiN y ∧ loN x < loN y) by omega)]
      · rw [if_neg h2, if_neg (show ¬ (hiN x < hiN y ∨ (hiN x = hiN y ∧ loN x < loN y)) by omega)]
  have HZ := Lib.hid hz
  clear hz hxs hys lx ly lx2 ly2
  generalize hiN x = a at *
  generalize hiN y = b at *
  generalize loN x = c at *
  generalize loN y = d at *
  have P1 := (T2.new w a c 28).alloc (.cells #[.int .i64 b, .int .u64 d] 28)
  have P2 : T2 ((w.alloc (.cells #[.int .i64 a, .int .u64 c] 28)).alloc (.cells #[.int .i64 b, .int .u64 d] 28)) (w.heap.size + 1) b d := by
    have := T2.new (w.alloc (.cells #[.int .i64 a, .int .u64 c] 28)) b d 28
    rwa [World.size_alloc] at this
  have hB := since_alloc (since_alloc (Below.refl _ w) (.cells #[.int .i64 a, .int .u64 c] 28)) (.cells #[.int .i64 b, .int .u64 d] 28)
  go_enter Try.func162, Try.ntmps162
  go_upto_region 1 with fail
  generalize (w.alloc (.cells #[.int .i64 a, .int .u64 c] 28)).alloc (.cells #[.int .i64 b, .int .u64 d] 28) = W at *
  obtain ⟨p0, p1, p2, p3, p4⟩ := P1
  obtain ⟨q0, q1, q2, q3, q4⟩ := P2
  by_cases h1 : a = b
  · subst h1
    by_cases h2 : c = d
    · subst h2
      go_wp2
      go_ret
      exact ⟨by rw [HZ.out]; simp, hB⟩
    · have k1 : (c == d) = false := by simp; exact h2
      have k2 : decide (a < a) = false := by simp
      by_cases h3 : c < d
      · have k3 : decide (c < d) = true := decide_eq_true h3
        go_wp2
        go_ret
        exact ⟨by rw [HZ.out]; simp; omega, hB⟩
      · have k3 : decide (c < d) = false := decide_eq_false h3
        go_wp2
        go_ret
        exact ⟨by rw [HZ.out]; simp; omega, hB⟩
  · have k1 : (a == b) = false := by simp; exact h1
    by_cases h3 : a < b
    · have k3 : decide (a < b) = true := decide_eq_true h3
      go_wp2
      go_ret
      exact ⟨by rw [HZ.out]; simp; omega, hB⟩
    · have k3 : decide (a < b) = false := decide_eq_false h3
      go_wp2
      go_ret
      exact ⟨by rw [HZ.out]; simp; omega, hB⟩
end Go.Proofs.Ytldnponbkhgijaa
end
section
namespace Go.Proofs.Ytldnponbkhgijaa
open Go.ChangeShapes Go.WideShapes Go.ChangeAt Go.RowKit
set_option linter.unusedVariables false
set_option linter.unusedSimpArgs false

theorem norm_cons0 {R : List Nat} (h : Norm R) (h0 : R ≠ []) : Norm (0 :: R) := by
  refine ⟨bin_cons0 h.1, fun k hk hl => ?_⟩
  cases k with
  | zero => simp at hl; exact absurd hl h0
  | succ k =>
    simp at hk hl
    simpa using h.2 k hk hl
theorem BigAt.twice {w w' : World} {s : Bool} {A A' : Option Addr} {n c c' : Nat} {z : Int} {bits : List Nat} (hl : bits.length = n) (hN : Norm bits) (hs : s = true → bits ≠ []) (hz : z = if s = true then -(bval bits : Int) else (bval bits : Int))
    (h0 : 0 < n) (hr : Sl w' A' (by8 (0 :: bits))) (hc : n + 1 ≤ c' ∧ c' ≤ maxLen) : BigAt w' s A' (n + 1) c' (2 * z) := by
  refine ⟨0 :: bits, by simp [hl], hc.1, hc.2, hr, norm_cons0 hN (by intro e; rw [e] at hl; simp at hl; omega), fun _ => by simp, ?_⟩
  rw [hz]
  cases s <;> simp [bval] <;> omega
end Go.Proofs.Ytldnponbkhgijaa
end
section
namespace Go.Proofs.Ytldnponbkhgijaa
open Go.ChangeShapes Go.WideShapes Go.ChangeAt Go.RowKit
set_option linter.unusedVariables false
set_option linter.unusedSimpArgs false
theorem bval_dropkR (l : List Nat) (j : Nat) (h : j < l.length) : bval (l.drop j) = l[j] + 2 * bval (l.drop (j + 1)) := by
  rw [List.drop_eq_getElem_cons h]; rfl
theorem BigAt.l64 {w : World} {s : Bool} {A : Option Addr} {n c : Nat} {z : Int} (h : BigAt w s A n c z) (hz : In64 z) : n ≤ 64 := (h.len (k := 64)).2 (by unfold In64 at hz; simp; omega)
set_option maxRecDepth 100000 in
set_option maxHeartbeats 4000000 in
theorem rint_any (x : Int) (hin : In64 x) (s : Bool) (A : Option Addr) (n c : Nat) (w : World) (hx : BigAt w s A n c x) :
    Calls Try.prog 55 #[.agg #[.bool s, .slice A n c]] w fun e w' => e = .returned (.int .i64 x) ∧ Below w.heap.size w w' := by
  have la := hx.l64 hin
  obtain ⟨a, h1, h2, h3, h4, h5, h6, h7⟩ := hx.ex
  subst h1
  clear hx h6
  have P1 := BB.new w s A a.length c 35
  have hB0 := since_alloc (Below.refl _ w) (.cells #[.bool s, .slice A a.length c] 35)
  have S1 := h4.below hB0
  have H7 := Lib.hid h7
  have HI := Lib.hid hin
  clear h7 hin h4
  go_enter Try.func55, Try.ntmps55
  go_upto_region 1 with fail
  generalize w.alloc (.cells #[.bool s, .slice A a.length c] 35) = W0 at *
  obtain ⟨p0, p1, p2, p3, p4⟩ := _root_.id P1
  go_wp2_with fail
  go_loopw [3, 4] (fun vn vi wr => ∃ (k : Nat) (v : Int), vi = .int .i64 k ∧ vn = .int .i64 v ∧ k ≤ a.length ∧ v = (if s = true then -(bval (a.drop k) : Int) else (bval (a.drop k) : Int)) ∧ Below W0.heap.size W0 wr) (fun _ i _ => (intOf i).toNat)
  case atStart => exact ⟨a.length, 0, rfl, rfl, by omega, by simp [bval], Below.refl _ _⟩
  case round =>
    obtain ⟨k, v, rfl, rfl, hk, hv, hB⟩ := hrel
    obtain ⟨q0, q1, q2, q3, q4⟩ := P1.below hB
    clear p0 p1 p2 p3 p4
    by_cases hk0 : 0 < k
    · obtain ⟨j, hj⟩ : ∃ j, k = j + 1 := ⟨k - 1, by omega⟩
      have hlt : j < a.length := by omega
      obtain ⟨bb, o, rfl, hz⟩ := (S1.below hB).byte hlt
      have hbr := World.block_lt_of_cell? _ _ hz
      have hbit := h5.1.at_ hlt
      have hdr : bval (a.drop j) = a[j] + 2 * bval (a.drop k) := by rw [bval_dropkR a j hlt, ← hj]
      have hle : bval (a.drop j) ≤ bval a := by
        have h8 := bval_drop a j (by omega)
        have h9 : 1 * bval (a.drop j) ≤ 2 ^ j * bval (a.drop j) := Nat.mul_le_mul_right _ (Nat.two_pow_pos j)
        omega
      have hin := HI.out
      have h7 := H7.out
      unfold In64 at hin
      have HJ := Lib.hid hj
      have HDR := Lib.hid hdr
      have f1 : IntKind.i64.wrap ((k : Int) - 1) = (j : Int) := by rw [IntKind.wrap_i64]; omega
      have d1 : decide (0 < (k : Int)) = true := decide_eq_true (by omega)
      have d1' : decide (0 < k) = true := decide_eq_true hk0
      generalize hdj : bval (a.drop j) = dj at *
      generalize hdk : bval (a.drop k) = dk at *
      generalize a[j] = bt at *
      have f2 : IntKind.i64.wrap (bt : Int) = (bt : Int) := by rw [IntKind.wrap_i64]; omega
      cases s with
      | false =>
        simp only [Bool.false_eq_true, if_false] at hv h7
        have f3 : IntKind.i64.wrap (2 * v) = 2 * v := by rw [IntKind.wrap_i64]; omega
        have f4 : IntKind.i64.wrap (2 * v + (bt : Int)) = (dj : Int) := by rw [IntKind.wrap_i64]; omega
        have HDJ := Lib.hid hdj
        clear hdr hle hin h7 hdj hdk hv hj
        go_wp2
        go_roundw
        case rel => exact ⟨j, (dj : Int), rfl, rfl, by omega, by simp [HDJ.out], hB⟩
        case measure => have := HJ.out; simp [intOf]; omega
      | true =>
        simp only [if_true] at hv h7
        have f3 : IntKind.i64.wrap (2 * v) = 2 * v := by rw [IntKind.wrap_i64]; omega
        have f4 : IntKind.i64.wrap (2 * v - (bt : Int)) = -(dj : Int) := by rw [IntKind.wrap_i64]; omega
        have HDJ := Lib.hid hdj
        clear hdr hle hin h7 hdj hdk hv hj
        go_wp2
        go_roundw
        case rel => exact ⟨j, -(dj : Int), rfl, rfl, by omega, by simp [HDJ.out], hB⟩
        case measure => have := HJ.out; simp [intOf]; omega
    · obtain rfl : k = 0 := by omega
      rw [List.drop_zero] at hv
      have hvx : v = x := by rw [hv, H7.out]
      subst hvx
      go_wp2
      go_ret
      exact ⟨rfl, since_step hB0 hB⟩
theorem BB.new1 (w : World) (o : Obj) (s : Bool) (A : Option Addr) (n c : Nat) (t : TypeId) : BB ((w.alloc o).alloc (.cells #[.bool s, .slice A n c] t)) (w.heap.size + 1) s A n c := by
  have := BB.new (w.alloc o) s A n c t
  rwa [World.size_alloc] at this
end Go.Proofs.Ytldnponbkhgijaa
end
