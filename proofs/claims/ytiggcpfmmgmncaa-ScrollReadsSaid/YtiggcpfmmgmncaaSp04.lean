import Derived.Test.YtiggcpfmmgmncaaSp03
import Derived.Laws.BitsAllLaws
section
namespace Go.Proofs.Ytiggcpfmmgmncaa
open Go.ChangeShapes Go.WideShapes Go.ChangeAt Go.RowKit
set_option linter.unusedVariables false
set_option linter.unusedSimpArgs false

theorem bign_take {s n j : Nat} (h : j < s) : (bign s n).take (j + 1) = (bign s n).take j ++ [n / 256 ^ (s - 1 - j) % 256] := by
  rw [List.take_succ_eq_append_getElem (by rw [bign_len]; exact h), bign_at]
set_option maxRecDepth 100000 in
theorem i64_or_byte {z y : Int} (h0 : 0 ≤ z) (h1 : z < 16777216) (h2 : 0 ≤ y) (h3 : y < 256) : bits BinOp.or IntKind.i64 (z * 256) y = 256 * z + y := by
  obtain ⟨Z, rfl⟩ := Int.eq_ofNat_of_zero_le h0
  obtain ⟨Q, rfl⟩ := Int.eq_ofNat_of_zero_le h2
  have e : ((Z : Int) * 256) = ((Z * 256 : Nat) : Int) := by push_cast; rfl
  rw [e]
  show IntKind.i64.wrap ((BitVec.ofInt 64 ((Z * 256 : Nat) : Int) ||| BitVec.ofInt 64 (Q : Int)).toNat : Int) = _
  rw [BitVec.toNat_or, ofInt_u64 (Z * 256) (by omega), ofInt_u64 Q (by omega), nat_join 8 (Z * 256) Q (by omega) (by omega)]
  rw [IntWalk.i64_in _ (by omega)]
  push_cast
  omega
set_option maxHeartbeats 4000000 in
set_option maxRecDepth 100000 in
theorem get7_any (A : Option Addr) (cap : Nat) (l : List Nat) (w : World) (hl : l.length ≤ 4) (ho : Oct l) (hs : Sl w A (by8 l)) :
    Calls Try.prog 100 #[.slice A l.length cap] w fun e w' => e = .returned (.int .i64 (bnum l : Nat)) ∧ w = w' := by
  go_enter Try.func100, Try.ntmps100
  go_wp2_with fail
  go_loop [3, 8] (fun zv iv => ∃ (k : Nat) (z : Int), k ≤ l.length ∧ zv = .int .i64 z ∧ iv = .int .i64 k ∧ z = (bnum (l.take k) : Nat)) (fun _ iv => l.length - (intOf iv).toNat)
  case atStart => exact ⟨0, 0, by omega, rfl, rfl, rfl⟩
  case round =>
    obtain ⟨k, z, hk, rfl, rfl, hz⟩ := hrel
    by_cases hlt : k < l.length
    · have hlk : (k : Int) < (l.length : Int) := by omega
      have hgk : (0 : Int) ≤ (k : Int) := by omega
      obtain ⟨b, o, rfl, hc⟩ := hs.byte hlt
      have hx := ho.at_ hlt
      have hn : bnum (l.take (k + 1)) = 256 * bnum (l.take k) + l[k] := by rw [List.take_succ_eq_append_getElem hlt, bnum_snoc]
      have hb := bnum_lt (ho.take k)
      have hp : 256 ^ (l.take k).length ≤ 16777216 := by
        have : (256 : Nat) ^ (l.take k).length ≤ 256 ^ 3 := Nat.pow_le_pow_right (by omega) (by rw [List.length_take]; omega)
        simpa using this
      have hz0 : 0 ≤ z := by omega
      have hz1 : z < 16777216 := by omega
      obtain ⟨y, hy⟩ : ∃ y : Int, ((l[k] : Nat) : Int) = y := ⟨_, rfl⟩
      have HN : Hid (256 * z + y = (bnum (l.take (k + 1)) : Nat)) := Lib.hid (by rw [hn]; omega)
      rw [hy] at hc
      have hy0 : 0 ≤ y := by omega
      have hy1 : y < 256 := by omega
      have hor := i64_or_byte hz0 hz1 hy0 hy1
      clear hz hy hn hb hp hx
      go_wp2
      go_round
      case rel => exact ⟨k + 1, 256 * z + y, by omega, rfl, by go_num, HN.out⟩
      case measure => simp [intOf]; omega
    · obtain rfl : k = l.length := by omega
      rw [List.take_length] at hz
      have HZ := Lib.hid hz
      clear hz
      go_wp2
      go_ret
      exact ⟨by rw [← HZ.out]; rfl, rfl⟩
set_option maxHeartbeats 4000000 in
set_option maxRecDepth 100000 in
theorem rvalue7_any (A : Option Addr) (cap : Nat) (l : List Nat) (w : World) (hl : l.length ≤ 4) (ho : Oct l) (hs : Sl w A (by8 l)) :
    Calls Try.prog 85 #[.slice A l.length cap] w fun e w' => e = .returned (.int .i64 (bnum l : Nat)) ∧ w = w' := by
  go_enter Try.func85, Try.ntmps85
  go_wp2_with fail
  go_loop [3, 4] (fun zv iv => ∃ (k : Nat) (z : Int), k ≤ l.length ∧ zv = .int .i64 z ∧ iv = .int .i64 k ∧ z = (bnum (l.take k) : Nat)) (fun _ iv => l.length - (intOf iv).toNat)
  case atStart => exact ⟨0, 0, by omega, rfl, rfl, rfl⟩
  case round =>
    obtain ⟨k, z, hk, rfl, rfl, hz⟩ := hrel
    by_cases hlt : k < l.length
    · have hlk : (k : Int) < (l.length : Int) := by omega
      have hgk : (0 : Int) ≤ (k : Int) := by omega
      obtain ⟨b, o, rfl, hc⟩ := hs.byte hlt
      have hx := ho.at_ hlt
      have hn : bnum (l.take (k + 1)) = 256 * bnum (l.take k) + l[k] := by rw [List.take_succ_eq_append_getElem hlt, bnum_snoc]
      have hb := bnum_lt (ho.take k)
      have hp : 256 ^ (l.take k).length ≤ 16777216 := by
        have : (256 : Nat) ^ (l.take k).length ≤ 256 ^ 3 := Nat.pow_le_pow_right (by omega) (by rw [List.length_take]; omega)
        simpa using this
      have hz0 : 0 ≤ z := by omega
      have hz1 : z < 16777216 := by omega
      obtain ⟨y, hy⟩ : ∃ y : Int, ((l[k] : Nat) : Int) = y := ⟨_, rfl⟩
      have HN : Hid (256 * z + y = (bnum (l.take (k + 1)) : Nat)) := Lib.hid (by rw [hn]; omega)
      rw [hy] at hc
      have hy0 : 0 ≤ y := by omega
      have hy1 : y < 256 := by omega
      have hor := i64_or_byte hz0 hz1 hy0 hy1
      clear hz hy hn hb hp hx
      go_wp2
      go_round
      case rel => exact ⟨k + 1, 256 * z + y, by omega, rfl, by go_num, HN.out⟩
      case measure => simp [intOf]; omega
    · obtain rfl : k = l.length := by omega
      rw [List.take_length] at hz
      have HZ := Lib.hid hz
      clear hz
      go_wp2
      go_ret
      exact ⟨by rw [← HZ.out]; rfl, rfl⟩
end Go.Proofs.Ytiggcpfmmgmncaa
end
section
namespace Go.Proofs.Ytiggcpfmmgmncaa.CrcM
set_option linter.unusedVariables false

def step (c : Nat) : Nat := if c * 2 > 16777215 then (c * 2) ^^^ 25578747 else c * 2
def steps : Nat → Nat → Nat
  | 0, c => c
  | n + 1, c => step (steps n c)
def byteC (c x : Nat) : Nat := steps 8 (c ^^^ (x * 65536))
def more (c : Nat) (l : List Nat) : Nat := l.foldl byteC c
def lin (c : Nat) : Nat := (c * 2 % 16777216) ^^^ (if c.testBit 23 then 8801531 else 0)
theorem testBit23 (c : Nat) (h : c < 16777216) : c.testBit 23 = decide (8388608 ≤ c) := by
  rw [Nat.testBit_eq_decide_div_mod_eq]
  by_cases hc : 8388608 ≤ c
  · have : c / 2 ^ 23 % 2 = 1 := by omega
    simp [hc, this]
  · have : c / 2 ^ 23 % 2 = 0 := by omega
    simp [hc, this]
theorem add_hi (r : Nat) (h : r < 16777216) : 16777216 + r = 16777216 ^^^ r := by
  apply Nat.eq_of_testBit_eq
  intro i
  rw [Nat.testBit_xor, show (16777216 : Nat) = 2 ^ 24 from rfl, Nat.testBit_two_pow]
  have h' : r < 2 ^ 24 := h
  rcases Nat.lt_trichotomy i 24 with hi | hi | hi
  · rw [Nat.testBit_two_pow_add_gt hi]
    have : ¬ 24 = i := by omega
    simp [this]
  · subst hi
    rw [Nat.testBit_two_pow_add_eq, Nat.testBit_lt_two_pow h']
    simp
  · rw [Nat.testBit_lt_two_pow (Nat.lt_of_lt_of_le (show 2 ^ 24 + r < 2 ^ 25 by omega) (Nat.pow_le_pow_right (by omega) (by omega))), Nat.testBit_lt_two_pow (Nat.lt_of_lt_of_le h' (Nat.pow_le_pow_right (by omega) (by omega)))]
    have : ¬ 24 = i := by omega
    simp [this]
theorem step_lin (c : Nat) (h : c < 16777216) : step c = lin c := by
  unfold step lin
  rw [testBit23 c h]
  by_cases hc : 8388608 ≤ c
  · rw [if_pos (by omega), if_pos (by simpa using hc)]
    have e : c * 2 = 16777216 + (c * 2 % 16777216) := by omega
    rw [show (25578747 : Nat) = 16777216 ^^^ 8801531 from by decide]
    rw [e, add_hi _ (by omega)]
    rw [show (16777216 ^^^ (c * 2 % 16777216)) % 16777216 = c * 2 % 16777216 from by rw [← add_hi _ (by omega)]; omega]
    rw [Nat.xor_comm 16777216 (c * 2 % 16777216), Nat.xor_assoc, ← Nat.xor_assoc 16777216 16777216, Nat.xor_self, Nat.zero_xor]
  · rw [if_neg (by omega), if_neg (by simpa using hc)]
    rw [Nat.xor_zero]
    omega
theorem lin_lt (c : Nat) : lin c < 16777216 := by
  unfold lin
  have : c * 2 % 16777216 < 2 ^ 24 := by omega
  split
  · exact Nat.xor_lt_two_pow this (by decide)
  · rw [Nat.xor_zero]; exact this
theorem dbl_xor (a b : Nat) : (a ^^^ b) * 2 % 16777216 = (a * 2 % 16777216) ^^^ (b * 2 % 16777216) := by
  have e : (a ^^^ b) * 2 = (a * 2) ^^^ (b * 2) := by
    have := Nat.shiftLeft_xor_distrib (a := a) (b := b) (i := 1)
    simpa [Nat.shiftLeft_eq] using this
  rw [e]
  exact Nat.xor_mod_two_pow (n := 24)
theorem lin_xor (a b : Nat) : lin (a ^^^ b) = lin a ^^^ lin b := by
  unfold lin
  rw [dbl_xor, Nat.testBit_xor]
  cases a.testBit 23 <;> cases b.testBit 23
  · simp
  · simp [Nat.xor_assoc]
  · simp only [Bool.xor_false, if_true, Nat.xor_zero, Bool.false_eq_true, if_false, Nat.xor_assoc]
    rw [Nat.xor_comm (b * 2 % 16777216) 8801531]
  · simp only [Bool.xor_self, Bool.false_eq_true, if_false, if_true, Nat.xor_zero, Nat.xor_assoc]
    rw [← Nat.xor_assoc 8801531, Nat.xor_comm 8801531, Nat.xor_assoc, Nat.xor_self, Nat.xor_zero]
theorem step_lt (c : Nat) (h : c < 16777216) : step c < 16777216 := by rw [step_lin c h]; exact lin_lt c
theorem step_xor (a b : Nat) (ha : a < 16777216) (hb : b < 16777216) : step (a ^^^ b) = step a ^^^ step b := by
  have hx : a ^^^ b < 2 ^ 24 := Nat.xor_lt_two_pow ha hb
  rw [step_lin _ hx, step_lin a ha, step_lin b hb, lin_xor]
theorem steps_lt (n c : Nat) (h : c < 16777216) : steps n c < 16777216 := by
  induction n with
  | zero => exact h
  | succ n ih => exact step_lt _ ih
theorem start_lt (c x : Nat) (hc : c < 16777216) (hx : x < 256) : c ^^^ (x * 65536) < 16777216 :=
  Nat.xor_lt_two_pow (n := 24) hc (by omega)
theorem byteC_lt (c x : Nat) (hc : c < 16777216) (hx : x < 256) : byteC c x < 16777216 := by
  unfold byteC
  exact steps_lt 8 _ (start_lt c x hc hx)
theorem more_lt (c : Nat) (l : List Nat) (hc : c < 16777216) (hl : ∀ x ∈ l, x < 256) : more c l < 16777216 := by
  induction l generalizing c with
  | nil => exact hc
  | cons x l ih =>
    have e : more c (x :: l) = more (byteC c x) l := by simp only [more, List.foldl_cons]
    rw [e]
    exact ih (byteC c x) (byteC_lt c x hc (hl x (by simp))) (fun y hy => hl y (by simp [hy]))
theorem more_snoc (c : Nat) (l : List Nat) (x : Nat) : more c (l ++ [x]) = byteC (more c l) x := by simp [more, List.foldl_append]
def rstep (c : Nat) (m : Bool) : Nat := if m then (c * 2 % 16777216) ^^^ 8801531 else c * 2 % 16777216
def bitOf (x j : Nat) : Nat := x / (128 / 2 ^ j) % 2
def rsteps : Nat → Nat → Nat → Nat
  | 0, c, _ => c
  | n + 1, c, x => rstep (rsteps n c x) (decide ((rsteps n c x) / 8388608 % 2 ≠ bitOf x n))
theorem rstep_lin (c m : Nat) (hc : c < 16777216) (hm : m < 2) : rstep c (decide (c / 8388608 % 2 ≠ m)) = lin (c ^^^ (m * 8388608)) := by
  unfold lin
  rw [dbl_xor, Nat.testBit_xor, testBit23 c hc, testBit23 (m * 8388608) (by omega)]
  have e0 : m * 8388608 * 2 % 16777216 = 0 := by omega
  rw [e0, Nat.xor_zero]
  unfold rstep
  rcases (show m = 0 ∨ m = 1 from by omega) with rfl | rfl
  · by_cases h : 8388608 ≤ c
    · have : c / 8388608 % 2 = 1 := by omega
      simp [h, this]
    · have : c / 8388608 % 2 = 0 := by omega
      simp [h, this]
  · by_cases h : 8388608 ≤ c
    · have : c / 8388608 % 2 = 1 := by omega
      simp [h, this]
    · have : c / 8388608 % 2 = 0 := by omega
      simp [h, this]
theorem rsteps_lt (n c x : Nat) (h : c < 16777216) : rsteps n c x < 16777216 := by
  induction n with
  | zero => exact h
  | succ n ih =>
    simp only [rsteps, rstep]
    split
    · exact Nat.xor_lt_two_pow (n := 24) (by omega) (by decide)
    · omega
theorem rest_step (x n : Nat) (hx : x < 256) (hn : n < 8) :
    (x % 2 ^ (8 - n)) * 2 ^ (16 + n) = (bitOf x n * 8388608) ^^^ ((x % 2 ^ (8 - (n + 1))) * 2 ^ (16 + n)) ∧
    step ((x % 2 ^ (8 - (n + 1))) * 2 ^ (16 + n)) = (x % 2 ^ (8 - (n + 1))) * 2 ^ (16 + (n + 1)) ∧
    (x % 2 ^ (8 - (n + 1))) * 2 ^ (16 + n) < 8388608 ∧ bitOf x n < 2 := by
  have key : ∀ (b r : Nat), b < 2 → r < 8388608 → b * 8388608 + r = (b * 8388608) ^^^ r := by
    intro b r hb hr
    rcases (show b = 0 ∨ b = 1 from by omega) with rfl | rfl
    · simp
    · rw [Nat.one_mul]
      apply Nat.eq_of_testBit_eq
      intro i
      rw [Nat.testBit_xor, show (8388608 : Nat) = 2 ^ 23 from rfl, Nat.testBit_two_pow]
      have h' : r < 2 ^ 23 := hr
      rcases Nat.lt_trichotomy i 23 with hi | hi | hi
      · rw [Nat.testBit_two_pow_add_gt hi]
        have : ¬ 23 = i := by omega
        simp [this]
      · subst hi
        rw [Nat.testBit_two_pow_add_eq, Nat.testBit_lt_two_pow h']
        simp
      · rw [Nat.testBit_lt_two_pow (Nat.lt_of_lt_of_le (show 2 ^ 23 + r < 2 ^ 24 by omega) (Nat.pow_le_pow_right (by omega) (by omega))), Nat.testBit_lt_two_pow (Nat.lt_of_lt_of_le h' (Nat.pow_le_pow_right (by omega) (by omega)))]
        have : ¬ 23 = i := by omega
        simp [this]
  have hcase : n = 0 ∨ n = 1 ∨ n = 2 ∨ n = 3 ∨ n = 4 ∨ n = 5 ∨ n = 6 ∨ n = 7 := by omega
  have h3 : (x % 2 ^ (8 - (n + 1))) * 2 ^ (16 + n) < 8388608 := by
    rcases hcase with rfl | rfl | rfl | rfl | rfl | rfl | rfl | rfl <;> simp <;> omega
  refine ⟨?_, ?_, h3, ?_⟩
  · rw [← key _ _ (by unfold bitOf; omega) (by rcases hcase with rfl | rfl | rfl | rfl | rfl | rfl | rfl | rfl <;> simp <;> omega)]
    rcases hcase with rfl | rfl | rfl | rfl | rfl | rfl | rfl | rfl <;> simp [bitOf] <;> omega
  · unfold step
    rw [if_neg (by omega), Nat.mul_assoc, ← Nat.pow_succ]
    rfl
  · unfold bitOf; omega
theorem steps_rsteps (n c x : Nat) (hc : c < 16777216) (hx : x < 256) (hn : n ≤ 8) :
    steps n (c ^^^ (x * 65536)) = rsteps n c x ^^^ ((x % 2 ^ (8 - n)) * 2 ^ (16 + n)) := by
  induction n with
  | zero =>
    simp only [steps, rsteps, Nat.sub_zero, Nat.add_zero]
    rw [show x % 2 ^ 8 = x from by omega]
  | succ n ih =>
    obtain ⟨h1, h2, h3, h4⟩ := rest_step x n hx (by omega)
    have hr := rsteps_lt n c x hc
    simp only [steps, rsteps]
    rw [ih (by omega), h1, ← Nat.xor_assoc, step_xor _ _ (Nat.xor_lt_two_pow (n := 24) hr (by omega)) (by omega), h2, rstep_lin _ _ hr h4,
      step_lin _ (Nat.xor_lt_two_pow (n := 24) hr (by omega))]
theorem byteC_eq (c x : Nat) (hc : c < 16777216) (hx : x < 256) : byteC c x = rsteps 8 c x := by
  have := steps_rsteps 8 c x hc hx (Nat.le_refl 8)
  simpa [byteC, Nat.mod_one] using this
end Go.Proofs.Ytiggcpfmmgmncaa.CrcM
end
