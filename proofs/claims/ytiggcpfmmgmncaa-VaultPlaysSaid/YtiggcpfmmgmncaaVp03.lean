import Derived.Laws.BitsAllLaws
import Derived.Test.YtiggcpfmmgmncaaVp00
import Derived.Lib.SlBytesConst
set_option maxHeartbeats 16000000
set_option maxRecDepth 100000
set_option linter.unusedVariables false
set_option linter.unusedSimpArgs false
section
namespace Go.Proofs.Ytiggcpfmmgmncaa.CrcM

def step (c : Nat) : Nat := if c * 2 > 16777215 then (c * 2) ^^^ 25578747 else c * 2
def steps : Nat → Nat → Nat
  | 0, c => c
  | n + 1, c => step (steps n c)
def byteC (c x : Nat) : Nat := steps 8 (c ^^^ (x * 65536))
def more (c : Nat) (l : List Nat) : Nat := l.foldl byteC c
def lin (c : Nat) : Nat := (c * 2 % 16777216) ^^^ (if c.testBit 23 then 8801531 else 0)
theorem testBit23 (c : Nat) (h : c < 16777216) : c.testBit 23 = decide (8388608 ≤ c) := by
  rw [Nat.testBit_eq_decide_div_mod_eq]
  by_cases hc : 8388608 ≤ c
  · have : c / 2 ^ 23 % 2 = 1 := by omega
    simp [hc, this]
  · have : c / 2 ^ 23 % 2 = 0 := by omega
    simp [hc, this]
theorem add_hi (r : Nat) (h : r < 16777216) : 16777216 + r = 16777216 ^^^ r := by
  apply Nat.eq_of_testBit_eq
  intro i
  rw [Nat.testBit_xor, show (16777216 : Nat) = 2 ^ 24 from rfl, Nat.testBit_two_pow]
  have h' : r < 2 ^ 24 := h
  rcases Nat.lt_trichotomy i 24 with hi | hi | hi
  · rw [Nat.testBit_two_pow_add_gt hi]
    have : ¬ 24 = i := by omega
    simp [this]
  · subst hi
    rw [Nat.testBit_two_pow_add_eq, Nat.testBit_lt_two_pow h']
    simp
  · rw [Nat.testBit_lt_two_pow (Nat.lt_of_lt_of_le (show 2 ^ 24 + r < 2 ^ 25 by omega) (Nat.pow_le_pow_right (by omega) (by omega))), Nat.testBit_lt_two_pow (Nat.lt_of_lt_of_le h' (Nat.pow_le_pow_right (by omega) (by omega)))]
    have : ¬ 24 = i := by omega
    simp [this]
theorem step_lin (c : Nat) (h : c < 16777216) : step c = lin c := by
  unfold step lin
  rw [testBit23 c h]
  by_cases hc : 8388608 ≤ c
  · rw [if_pos (by omega), if_pos (by simpa using hc)]
    have e : c * 2 = 16777216 + (c * 2 % 16777216) := by omega
    rw [show (25578747 : Nat) = 16777216 ^^^ 8801531 from by decide]
    rw [e, add_hi _ (by omega)]
    rw [show (16777216 ^^^ (c * 2 % 16777216)) % 16777216 = c * 2 % 16777216 from by rw [← add_hi _ (by omega)]; omega]
    rw [Nat.xor_comm 16777216 (c * 2 % 16777216), Nat.xor_assoc, ← Nat.xor_assoc 16777216 16777216, Nat.xor_self, Nat.zero_xor]
  · rw [if_neg (by omega), if_neg (by simpa using hc)]
    rw [Nat.xor_zero]
    omega
theorem lin_lt (c : Nat) : lin c < 16777216 := by
  unfold lin
  have : c * 2 % 16777216 < 2 ^ 24 := by omega
  split
  · exact Nat.xor_lt_two_pow this (by decide)
  · rw [Nat.xor_zero]; exact this
theorem dbl_xor (a b : Nat) : (a ^^^ b) * 2 % 16777216 = (a * 2 % 16777216) ^^^ (b * 2 % 16777216) := by
  have e : (a ^^^ b) * 2 = (a * 2) ^^^ (b * 2) := by
    have := Nat.shiftLeft_xor_distrib (a := a) (b := b) (i := 1)
    simpa [Nat.shiftLeft_eq] using this
  rw [e]
  exact Nat.xor_mod_two_pow (n := 24)
theorem lin_xor (a b : Nat) : lin (a ^^^ b) = lin a ^^^ lin b := by
  unfold lin
  rw [dbl_xor, Nat.testBit_xor]
  cases a.testBit 23 <;> cases b.testBit 23
  · simp
  · simp [Nat.xor_assoc]
  · simp only [Bool.xor_false, if_true, Nat.xor_zero, Bool.false_eq_true, if_false, Nat.xor_assoc]
    rw [Nat.xor_comm (b * 2 % 16777216) 8801531]
  · simp only [Bool.xor_self, Bool.false_eq_true, if_false, if_true, Nat.xor_zero, Nat.xor_assoc]
    rw [← Nat.xor_assoc 8801531, Nat.xor_comm 8801531, Nat.xor_assoc, Nat.xor_self, Nat.xor_zero]
theorem step_lt (c : Nat) (h : c < 16777216) : step c < 16777216 := by rw [step_lin c h]; exact lin_lt c
theorem step_xor (a b : Nat) (ha : a < 16777216) (hb : b < 16777216) : step (a ^^^ b) = step a ^^^ step b := by
  have hx : a ^^^ b < 2 ^ 24 := Nat.xor_lt_two_pow ha hb
  rw [step_lin _ hx, step_lin a ha, step_lin b hb, lin_xor]
theorem steps_lt (n c : Nat) (h : c < 16777216) : steps n c < 16777216 := by
  induction n with
  | zero => exact h
  | succ n ih => exact step_lt _ ih
theorem start_lt (c x : Nat) (hc : c < 16777216) (hx : x < 256) : c ^^^ (x * 65536) < 16777216 :=
  Nat.xor_lt_two_pow (n := 24) hc (by omega)
theorem byteC_lt (c x : Nat) (hc : c < 16777216) (hx : x < 256) : byteC c x < 16777216 := by
  unfold byteC
  exact steps_lt 8 _ (start_lt c x hc hx)
theorem more_lt (c : Nat) (l : List Nat) (hc : c < 16777216) (hl : ∀ x ∈ l, x < 256) : more c l < 16777216 := by
  induction l generalizing c with
  | nil => exact hc
  | cons x l ih =>
    have e : more c (x :: l) = more (byteC c x) l := by simp only [more, List.foldl_cons]
    rw [e]
    exact ih (byteC c x) (byteC_lt c x hc (hl x (by simp))) (fun y hy => hl y (by simp [hy]))
theorem more_snoc (c : Nat) (l : List Nat) (x : Nat) : more c (l ++ [x]) = byteC (more c l) x := by simp [more, List.foldl_append]
def rstep (c : Nat) (m : Bool) : Nat := if m then (c * 2 % 16777216) ^^^ 8801531 else c * 2 % 16777216
def bitOf (x j : Nat) : Nat := x / (128 / 2 ^ j) % 2
def rsteps : Nat → Nat → Nat → Nat
  | 0, c, _ => c
  | n + 1, c, x => rstep (rsteps n c x) (decide ((rsteps n c x) / 8388608 % 2 ≠ bitOf x n))
theorem rstep_lin (c m : Nat) (hc : c < 16777216) (hm : m < 2) : rstep c (decide (c / 8388608 % 2 ≠ m)) = lin (c ^^^ (m * 8388608)) := by
  unfold lin
  rw [dbl_xor, Nat.testBit_xor, testBit23 c hc, testBit23 (m * 8388608) (by omega)]
  have e0 : m * 8388608 * 2 % 16777216 = 0 := by omega
  rw [e0, Nat.xor_zero]
  unfold rstep
  rcases (show m = 0 ∨ m = 1 from by omega) with rfl | rfl
  · by_cases h : 8388608 ≤ c
    · have : c / 8388608 % 2 = 1 := by omega
      simp [h, this]
    · have : c / 8388608 % 2 = 0 := by omega
      simp [h, this]
  · by_cases h : 8388608 ≤ c
    · have : c / 8388608 % 2 = 1 := by omega
      simp [h, this]
    · have : c / 8388608 % 2 = 0 := by omega
      simp [h, this]
theorem rsteps_lt (n c x : Nat) (h : c < 16777216) : rsteps n c x < 16777216 := by
  induction n with
  | zero => exact h
  | succ n ih =>
    simp only [rsteps, rstep]
    split
    · exact Nat.xor_lt_two_pow (n := 24) (by omega) (by decide)
    · omega
theorem rest_step (x n : Nat) (hx : x < 256) (hn : n < 8) :
    (x % 2 ^ (8 - n)) * 2 ^ (16 + n) = (bitOf x n * 8388608) ^^^ ((x % 2 ^ (8 - (n + 1))) * 2 ^ (16 + n)) ∧
    step ((x % 2 ^ (8 - (n + 1))) * 2 ^ (16 + n)) = (x % 2 ^ (8 - (n + 1))) * 2 ^ (16 + (n + 1)) ∧
    (x % 2 ^ (8 - (n + 1))) * 2 ^ (16 + n) < 8388608 ∧ bitOf x n < 2 := by
  have key : ∀ (b r : Nat), b < 2 → r < 8388608 → b * 8388608 + r = (b * 8388608) ^^^ r := by
    intro b r hb hr
    rcases (show b = 0 ∨ b = 1 from by omega) with rfl | rfl
    · simp
    · rw [Nat.one_mul]
      apply Nat.eq_of_testBit_eq
      intro i
      rw [Nat.testBit_xor, show (8388608 : Nat) = 2 ^ 23 from rfl, Nat.testBit_two_pow]
      have h' : r < 2 ^ 23 := hr
      rcases Nat.lt_trichotomy i 23 with hi | hi | hi
      · rw [Nat.testBit_two_pow_add_gt hi]
        have : ¬ 23 = i := by omega
        simp [this]
      · subst hi
        rw [Nat.testBit_two_pow_add_eq, Nat.testBit_lt_two_pow h']
        simp
      · rw [Nat.testBit_lt_two_pow (Nat.lt_of_lt_of_le (show 2 ^ 23 + r < 2 ^ 24 by omega) (Nat.pow_le_pow_right (by omega) (by omega))), Nat.testBit_lt_two_pow (Nat.lt_of_lt_of_le h' (Nat.pow_le_pow_right (by omega) (by omega)))]
        have : ¬ 23 = i := by omega
        simp [this]
  have hcase : n = 0 ∨ n = 1 ∨ n = 2 ∨ n = 3 ∨ n = 4 ∨ n = 5 ∨ n = 6 ∨ n = 7 := by omega
  have h3 : (x % 2 ^ (8 - (n + 1))) * 2 ^ (16 + n) < 8388608 := by
    rcases hcase with rfl | rfl | rfl | rfl | rfl | rfl | rfl | rfl <;> simp <;> omega
  refine ⟨?_, ?_, h3, ?_⟩
  · rw [← key _ _ (by unfold bitOf; omega) (by rcases hcase with rfl | rfl | rfl | rfl | rfl | rfl | rfl | rfl <;> simp <;> omega)]
    rcases hcase with rfl | rfl | rfl | rfl | rfl | rfl | rfl | rfl <;> simp [bitOf] <;> omega
  · unfold step
    rw [if_neg (by omega), Nat.mul_assoc, ← Nat.pow_succ]
    rfl
  · unfold bitOf; omega
theorem steps_rsteps (n c x : Nat) (hc : c < 16777216) (hx : x < 256) (hn : n ≤ 8) :
    steps n (c ^^^ (x * 65536)) = rsteps n c x ^^^ ((x % 2 ^ (8 - n)) * 2 ^ (16 + n)) := by
  induction n with
  | zero =>
    simp only [steps, rsteps, Nat.sub_zero, Nat.add_zero]
    rw [show x % 2 ^ 8 = x from by omega]
  | succ n ih =>
    obtain ⟨h1, h2, h3, h4⟩ := rest_step x n hx (by omega)
    have hr := rsteps_lt n c x hc
    simp only [steps, rsteps]
    rw [ih (by omega), h1, ← Nat.xor_assoc, step_xor _ _ (Nat.xor_lt_two_pow (n := 24) hr (by omega)) (by omega), h2, rstep_lin _ _ hr h4,
      step_lin _ (Nat.xor_lt_two_pow (n := 24) hr (by omega))]
theorem byteC_eq (c x : Nat) (hc : c < 16777216) (hx : x < 256) : byteC c x = rsteps 8 c x := by
  have := steps_rsteps 8 c x hc hx (Nat.le_refl 8)
  simpa [byteC, Nat.mod_one] using this
end Go.Proofs.Ytiggcpfmmgmncaa.CrcM
end
namespace Go.Proofs.Ytiggcpfmmgmncaa
open Go.ChangeShapes Go.WideShapes Go.ChangeAt Go.RowKit
section
theorem cut_any (A : Option Addr) (n cap k : Nat) (w : World) (hn : n ≤ 9223372036854775807) (hk : k ≤ 9223372036854775807) (hcap : n ≤ cap) (hcap2 : cap ≤ 9223372036854775807) :
    Calls Try.prog 17 #[.slice A n cap, .int .i64 k] w fun e w' => e = .returned (.slice A (min n k) cap) ∧ w = w' := by
  by_cases h : k < n
  · have e : min n k = k := by omega
    rw [e]
    clear e
    go_enter Try.func17, Try.ntmps17
    go_wp2
    go_ret
    exact ⟨rfl, rfl⟩
  · have e : min n k = n := by omega
    rw [e]
    clear e
    go_enter Try.func17, Try.ntmps17
    go_wp2
    go_ret
    exact ⟨rfl, rfl⟩
theorem and24 (c : Nat) (h : c < 4294967296) : bits .and .u32 (c : Int) 16777215 = ((c % 16777216 : Nat) : Int) := by
  have := u32_and_nat c 16777215 h (by omega)
  have e : (c &&& 16777215) = c % 16777216 := Nat.and_two_pow_sub_one_eq_mod c 24
  rw [e] at this
  exact this
theorem more_any (c : Nat) (A : Option Addr) (cap : Nat) (l : List Nat) (w : World) (hc : c < 4294967296) (hl : l.length ≤ maxLen) (hs : Sl w A (by8 l)) (ho : Oct l) :
    Calls Try.prog 106 #[.int .u32 c, .slice A l.length cap] w fun e w' => e = .returned (.int .u32 (CrcM.more (c % 16777216) l : Nat)) ∧ w = w' := by
  unfold maxLen at hl
  go_enter Try.func106, Try.ntmps106
  go_wp2
  go_loop [0, 11] (fun s i => ∃ k : Nat, k ≤ l.length ∧ i = .int .i64 k ∧ s = .int .u32 (CrcM.more (c % 16777216) (l.take k) : Nat)) (fun _ i => l.length - (intOf i).toNat)
  case atStart => exact ⟨0, Nat.zero_le _, rfl, intE (by rw [and24 c hc]; rfl)⟩
  case round =>
    obtain ⟨k, hk, rfl, rfl⟩ := hrel
    by_cases hlt : k < l.length
    · obtain ⟨b, o, rfl, hz⟩ := hs.byte hlt
      have hx := ho.at_ hlt
      have hm := CrcM.more_lt (c % 16777216) (l.take k) (by omega) (ho.take k)
      have hsn := CrcM.more_snoc (c % 16777216) (l.take k) l[k]
      rw [← take_snoc l k hlt] at hsn
      have HS := Lib.hid hsn
      clear hsn
      generalize CrcM.more (c % 16777216) (l.take k) = v at *
      generalize hxe : l[k] = x at *
      have HX := Lib.hid hxe
      clear hxe
      go_wp2
      go_loop [0, 20] (fun s i => ∃ j : Nat, j ≤ 8 ∧ i = .int .i64 j ∧ s = .int .u32 (CrcM.steps j (v ^^^ (x * 65536)) : Nat)) (fun _ i => 8 - (intOf i).toNat)
      case atStart => exact ⟨0, by omega, rfl, intE (u32_xor_nat v (x * 65536) (by omega) (by omega))⟩
      case round =>
        obtain ⟨j, hj, rfl, rfl⟩ := hrel
        by_cases hj8 : j < 8
        · have hst := CrcM.steps_lt j _ (CrcM.start_lt v x hm hx)
          have hsu : CrcM.steps (j + 1) (v ^^^ (x * 65536)) = CrcM.step (CrcM.steps j (v ^^^ (x * 65536))) := rfl
          have HU := Lib.hid hsu
          clear hsu
          generalize CrcM.steps j (v ^^^ (x * 65536)) = u at *
          by_cases hu : 16777215 < u * 2
          · go_wp2
            go_round
            case rel => exact ⟨j + 1, by omega, by go_num, intE (by rw [HU.out, CrcM.step, if_pos hu]; exact u32_xor_nat (u * 2) 25578747 (by omega) (by omega))⟩
            case measure => simp [intOf]; omega
          · go_wp2
            go_round
            case rel => exact ⟨j + 1, by omega, by go_num, intE (by rw [HU.out, CrcM.step, if_neg hu]; simp)⟩
            case measure => simp [intOf]; omega
        · obtain rfl : j = 8 := by omega
          go_wp2
          go_round
          case rel => exact ⟨k + 1, by omega, by go_num, intE (by rw [HS.out]; rfl)⟩
          case measure => simp [intOf]; omega
    · obtain rfl : k = l.length := by omega
      go_wp2
      go_ret
      refine ⟨?_, rfl⟩
      simp
theorem refMore_any (c : Nat) (A : Option Addr) (cap : Nat) (l : List Nat) (w : World) (hc : c < 4294967296) (hl : l.length ≤ maxLen) (hs : Sl w A (by8 l)) (ho : Oct l) :
    Calls Try.prog 97 #[.int .u32 c, .slice A l.length cap] w fun e w' => e = .returned (.int .u32 (CrcM.more (c % 16777216) l : Nat)) ∧ w = w' := by
  unfold maxLen at hl
  go_enter Try.func97, Try.ntmps97
  go_wp2
  go_loop [0, 5] (fun s i => ∃ k : Nat, k ≤ l.length ∧ i = .int .i64 k ∧ s = .int .u32 (CrcM.more (c % 16777216) (l.take k) : Nat)) (fun _ i => l.length - (intOf i).toNat)
  case atStart => exact ⟨0, Nat.zero_le _, rfl, rfl⟩
  case round =>
    obtain ⟨k, hk, rfl, rfl⟩ := hrel
    by_cases hlt : k < l.length
    · obtain ⟨b, o, rfl, hz⟩ := hs.byte hlt
      have hx := ho.at_ hlt
      have hm := CrcM.more_lt (c % 16777216) (l.take k) (by omega) (ho.take k)
      have hsn := CrcM.more_snoc (c % 16777216) (l.take k) l[k]
      rw [← take_snoc l k hlt] at hsn
      have HS := Lib.hid hsn
      clear hsn
      generalize CrcM.more (c % 16777216) (l.take k) = v at *
      generalize hxe : l[k] = x at *
      have HX := Lib.hid hxe
      clear hxe
      go_wp2
      go_loop [0, 6] (fun s i => ∃ j : Nat, j ≤ 8 ∧ i = .int .i64 ((128 / 2 ^ j : Nat) : Int) ∧ s = .int .u32 (CrcM.rsteps j v x : Nat)) (fun _ i => (intOf i).toNat)
      case atStart => exact ⟨0, by omega, rfl, rfl⟩
      case round =>
        obtain ⟨j, hj, rfl, rfl⟩ := hrel
        by_cases hj8 : j < 8
        · have hst := CrcM.rsteps_lt j v x hm
          have hd : 1 ≤ 128 / 2 ^ j ∧ 128 / 2 ^ j ≤ 128 := by
            rcases (show j = 0 ∨ j = 1 ∨ j = 2 ∨ j = 3 ∨ j = 4 ∨ j = 5 ∨ j = 6 ∨ j = 7 from by omega) with rfl | rfl | rfl | rfl | rfl | rfl | rfl | rfl <;> decide
          have hdd : 128 / 2 ^ (j + 1) = 128 / 2 ^ j / 2 := by rw [Nat.pow_succ, Nat.div_div_eq_div_mul]
          have HD := Lib.hid hdd
          clear hdd
          have hsu : CrcM.rsteps (j + 1) v x = CrcM.rstep (CrcM.rsteps j v x) (decide ((CrcM.rsteps j v x) / 8388608 % 2 ≠ x / (128 / 2 ^ j) % 2)) := rfl
          have HU := Lib.hid hsu
          clear hsu
          generalize CrcM.rsteps j v x = u at *
          generalize 128 / 2 ^ j = d at *
          have hq : 0 ≤ (x : Int) / (d : Int) ∧ (x : Int) / (d : Int) ≤ 255 := by
            have : x / d ≤ x := Nat.div_le_self x d
            have e : (x : Int) / (d : Int) = ((x / d : Nat) : Int) := rfl
            rw [e]
            generalize x / d = q at *
            omega
          by_cases hb : u / 8388608 % 2 = x / d % 2
          · have hb' : ((u : Int) / 8388608 % 2 != (x : Int) / (d : Int) % 2) = false := by
              rw [bne_eq_false_iff_eq, show (x : Int) / (d : Int) = ((x / d : Nat) : Int) from rfl]; clear hq; generalize x / d = q at *; omega
            have HB := Lib.hid hb
            clear hb
            go_wp2
            go_round
            case rel => exact ⟨j + 1, by omega, intE (by rw [HD.out]; rfl), intE (by rw [HU.out, CrcM.rstep, HB.out]; simp)⟩
            case measure => simp only [intOf]; omega
          · have hb' : ((u : Int) / 8388608 % 2 != (x : Int) / (d : Int) % 2) = true := by
              rw [bne_iff_ne, show (x : Int) / (d : Int) = ((x / d : Nat) : Int) from rfl]; clear hq; generalize x / d = q at *; omega
            have HB := Lib.hid hb
            clear hb
            go_wp2
            go_round
            case rel => exact ⟨j + 1, by omega, intE (by rw [HD.out]; rfl), intE (by rw [HU.out, CrcM.rstep, decide_eq_true HB.out]; exact u32_xor_nat (u * 2 % 16777216) 8801531 (by omega) (by omega))⟩
            case measure => simp only [intOf]; omega
        · obtain rfl : j = 8 := by omega
          go_wp2
          go_round
          case rel => exact ⟨k + 1, by omega, by go_num, intE (by rw [HS.out, CrcM.byteC_eq v x hm hx])⟩
          case measure => simp [intOf]; omega
    · obtain rfl : k = l.length := by omega
      go_wp2
      go_ret
      refine ⟨?_, rfl⟩
      simp
end
section
theorem of_any (A : Option Addr) (cap : Nat) (l : List Nat) (w : World) (hl : l.length ≤ maxLen) (hs : Sl w A (by8 l)) (ho : Oct l) :
    Calls Try.prog 102 #[.slice A l.length cap] w fun e w' => e = .returned (.int .u32 (CrcM.more 11994318 l : Nat)) ∧ w = w' := by
  go_enter Try.func102, Try.ntmps102
  go_wp2_with (go_at_call 106; refine (more_any 11994318 A cap l _ (by omega) hl hs ho).mono ?_; rintro e w' ⟨rfl, rfl⟩)
  go_ret
  exact ⟨rfl, rfl⟩
def Agree (a b : List Nat) (k : Nat) : Prop := ∀ i, i < k → a[i]? = b[i]?
theorem agree_eq {a b : List Nat} (h : Agree a b a.length) (hl : a.length = b.length) : a = b := by
  apply List.ext_getElem? ; intro i
  by_cases hi : i < a.length
  · exact h i hi
  · rw [List.getElem?_eq_none (by omega), List.getElem?_eq_none (by omega)]
theorem same_any (A B : Option Addr) (ca cb : Nat) (a b : List Nat) (w : World) (hla : a.length ≤ maxLen) (hlb : b.length ≤ maxLen) (ha : Sl w A (by8 a)) (hb : Sl w B (by8 b)) :
    Calls Try.prog 34 #[.slice A a.length ca, .slice B b.length cb] w fun e w' => e = .returned (.bool (decide (a = b))) ∧ ∃ n, w' = w.drewN n := by
  unfold maxLen at hla hlb
  by_cases hne : a.length = b.length
  · have hd : ((a.length : Int) != (b.length : Int)) = false := by rw [hne]; simp
    have HN := Lib.hid hne
    clear hne
    go_enter Try.func34, Try.ntmps34
    go_wp2
    go_loopw [5] (fun i wr => ∃ k n : Nat, k ≤ a.length ∧ i = .int .i64 k ∧ Agree a b k ∧ wr = w.drewN n) (fun i _ => a.length - (intOf i).toNat)
    case atStart => exact ⟨0, 0, Nat.zero_le _, rfl, (fun i hi => absurd hi (by omega)), rfl⟩
    case round =>
      obtain ⟨k, n, hk, rfl, hag, rfl⟩ := hrel
      have HA := Lib.hid hag
      clear hag
      by_cases hlt : k < a.length
      · have hlt' : k < b.length := by have := HN.out; omega
        obtain ⟨b1, o1, rfl, hz1⟩ := ha.byte hlt
        obtain ⟨b2, o2, rfl, hz2⟩ := hb.byte hlt'
        by_cases he : a[k] = b[k]
        · have he' : ((a[k] : Int) != (b[k] : Int)) = false := by rw [he]; simp
          have HE := Lib.hid he
          clear he
          go_wp2
          go_quiet (fail)
          go_wp2
          go_roundw
          case rel =>
            refine ⟨k + 1, _, by omega, by go_num, fun i hi => ?_, rfl⟩
            by_cases hik : i = k
            · subst hik
              rw [List.getElem?_eq_getElem hlt, List.getElem?_eq_getElem hlt', HE.out]
            · exact HA.out i (by omega)
          case measure => simp [intOf]; omega
        · have he' : ((a[k] : Int) != (b[k] : Int)) = true := by rw [bne_iff_ne]; omega
          have hfin : decide (a = b) = false := by
            rw [decide_eq_false_iff_not]
            rintro rfl
            exact he rfl
          have HF := Lib.hid hfin
          clear hfin he
          go_wp2
          go_quiet (fail)
          go_wp2
          go_ret
          exact ⟨retB HF.out.symm, _, World.drewN_drewN _ _ _⟩
      · obtain rfl : k = a.length := by omega
        have hfin : decide (a = b) = true := decide_eq_true (agree_eq HA.out HN.out)
        have HF := Lib.hid hfin
        clear hfin
        go_wp2
        go_ret
        exact ⟨retB HF.out.symm, n, rfl⟩
  · have hd : ((a.length : Int) != (b.length : Int)) = true := by rw [bne_iff_ne]; omega
    have hfin : decide (a = b) = false := by
      rw [decide_eq_false_iff_not]
      rintro rfl
      exact hne rfl
    have HF := Lib.hid hfin
    clear hfin hne
    go_enter Try.func34, Try.ntmps34
    go_wp2
    go_ret
    exact ⟨retB HF.out.symm, 0, rfl⟩
def clampI (n lo hi : Int) : Int := if n < lo then lo else if hi < n then hi else n
theorem in_any (n lo hi : Int) (w : World) :
    Calls Try.prog 12 #[.int .i64 n, .int .i64 lo, .int .i64 hi] w fun e w' => e = .returned (.int .i64 (clampI n lo hi)) ∧ w = w' := by
  by_cases h1 : n < lo
  · have hf : clampI n lo hi = lo := if_pos h1
    rw [hf]; clear hf
    go_enter Try.func12, Try.ntmps12
    go_wp2
    go_ret
    exact ⟨rfl, rfl⟩
  · by_cases h2 : hi < n
    · have hf : clampI n lo hi = hi := by unfold clampI; rw [if_neg h1, if_pos h2]
      rw [hf]; clear hf
      go_enter Try.func12, Try.ntmps12
      go_wp2
      go_ret
      exact ⟨rfl, rfl⟩
    · have hf : clampI n lo hi = n := by unfold clampI; rw [if_neg h1, if_neg h2]
      rw [hf]; clear hf
      go_enter Try.func12, Try.ntmps12
      go_wp2
      go_ret
      exact ⟨rfl, rfl⟩
end
section
theorem u8E : Elem Try.prog 36 5 1 1 := Elem.mk' (z := .int .u8 0) Try.underlying36 (by kernel_rfl) rfl (by decide)
end
section
def three (m : Nat) : List Nat := [m / 65536, m / 256 % 256, m % 256]
def sealed (l : List Nat) : List Nat := l ++ three (CrcM.more 11994318 l)
theorem seal_any (A : Option Addr) (cap : Nat) (l : List Nat) (w : World) (hl : l.length ≤ 1000000) (hs : Sl w A (by8 l)) (ho : Oct l) :
    Calls Try.prog 95 #[.slice A l.length cap] w fun e w' => ∃ A' c', e = .returned (.slice A' (l.length + 3) c') ∧
      w'.ownsRow w.heap.size 5 1 (.slice A' (l.length + 3) c') (l.length + 3) (by8 (sealed l)) ∧ Below w.heap.size w w' := by
  go_enter Try.func95, Try.ntmps95
  go_wp2_with fail
  refine (of_any A cap l _ (by unfold maxLen; omega) hs ho).mono ?_
  rintro e w' ⟨rfl, rfl⟩
  have hm := CrcM.more_lt 11994318 l (by omega) ho
  have HS := Lib.hid (show sealed l = l ++ three (CrcM.more 11994318 l) from rfl)
  generalize CrcM.more 11994318 l = m at *
  go_wp2_with (first
    | (at_make; refine wpList_mk rfl (.const (.int .i64 0)) (.tmp 9) rfl u8E (l.length + 3) rfl rfl (by omega) (by omega) (by unfold maxLen; omega) (Nat.le_refl _) ?_; intro w1 hown1 hb1)
    | (at_builtin; refine wpList_app rfl (.tmp 11) (.tmp 12) rfl u8E rfl rfl hown1 (by rw [by8_length]; omega) (hs.below hb1) (by8_one _) (by unfold maxLen; omega) (by omega) hb1.size ?_; intro A2 c2 w2 hown2 hg2 hb2; simp only [Nat.zero_add, List.nil_append] at hown2)
    | (at_builtin; refine wpList_app rfl (.tmp 14) (.tmp 23) rfl u8E rfl rfl (hown2.alloc _) (m := 3) (news := by8 (three m)) rfl (Sl.new_ _ _ _) (by8_one _) (by unfold maxLen; omega) (by omega) (by have := hb1.size; have := hb2.size; simp; omega) ?_; intro A3 c3 w3 hown3 hg3 hb3)
    | fail)
  refine bodyPost_ret (results_tmp rfl _ _ _) rfl ⟨A3, c3, rfl, ?_, ?_⟩
  · rw [HS.out, by8_append]; exact hown3
  · exact (((hb1.trans hb2).alloc (by have := hb1.size; have := hb2.size; omega) _).trans hb3)
theorem refSeal_any (A : Option Addr) (cap : Nat) (l : List Nat) (w : World) (hl : l.length ≤ 1000000) (hs : Sl w A (by8 l)) (ho : Oct l) :
    Calls Try.prog 88 #[.slice A l.length cap] w fun e w' => ∃ A' c', e = .returned (.slice A' (l.length + 3) c') ∧
      w'.ownsRow w.heap.size 5 1 (.slice A' (l.length + 3) c') (l.length + 3) (by8 (sealed l)) ∧ Below w.heap.size w w' := by
  go_enter Try.func88, Try.ntmps88
  go_wp2_with fail
  refine (refMore_any 11994318 A cap l _ (by omega) (by unfold maxLen; omega) hs ho).mono ?_
  rintro e w' ⟨rfl, rfl⟩
  rw [show 11994318 % 16777216 = 11994318 from rfl]
  have hm := CrcM.more_lt 11994318 l (by omega) ho
  have HS := Lib.hid (show sealed l = l ++ three (CrcM.more 11994318 l) from rfl)
  generalize CrcM.more 11994318 l = m at *
  go_wp2_with (first
    | (at_builtin; refine wpList_app rfl (.tmp 7) (.tmp 8) rfl u8E rfl rfl (own_nil w.heap.size _ _) (by rw [by8_length]; omega) hs (by8_one _) (by unfold maxLen; omega) (by omega) (Nat.le_refl _) ?_; intro A2 c2 w2 hown2 hg2 hb2; simp only [Nat.zero_add, List.nil_append] at hown2)
    | (at_builtin; refine wpList_app rfl (.tmp 10) (.tmp 21) rfl u8E rfl rfl (hown2.alloc _) (m := 3) (news := by8 (three m)) rfl (Sl.new_ _ _ _) (by8_one _) (by unfold maxLen; omega) (by omega) (by have := hb2.size; simp; omega) ?_; intro A3 c3 w3 hown3 hg3 hb3)
    | fail)
  refine bodyPost_ret (results_tmp rfl _ _ _) rfl ⟨A3, c3, rfl, ?_, ?_⟩
  · rw [HS.out, by8_append]; exact hown3
  · exact ((hb2.alloc (by have := hb2.size; omega) _).trans hb3)
theorem or24 (p q r : Nat) (hp : p < 256) (hq : q < 256) (hr : r < 256) :
    bits .or .u32 (bits .or .u32 ((p : Int) * 65536) ((q : Int) * 256)) (r : Int) = ((p * 65536 + q * 256 + r : Nat) : Int) := by
  have h1 := u32_or_nat (p * 65536) (q * 256) (by omega) (by omega)
  have e1 : (p * 65536) ||| (q * 256) = p * 65536 + q * 256 := nat_join 16 _ _ (by omega) (by omega)
  have h2 := u32_or_nat (p * 65536 + q * 256) r (by omega) (by omega)
  have e2 : (p * 65536 + q * 256) ||| r = p * 65536 + q * 256 + r := nat_join 8 _ _ (by omega) (by omega)
  rw [e1] at h1
  rw [e2] at h2
  rw [← h2, ← h1]
  rfl
theorem open_any (A : Option Addr) (cap : Nat) (x : List Nat) (p q r : Nat) (w : World) (hl : x.length ≤ 1000000) (hs : Sl w A (by8 (x ++ [p, q, r]))) (ho : Oct (x ++ [p, q, r])) :
    Calls Try.prog 101 #[.slice A (x.length + 3) cap] w fun e w' => ∃ A' c', e = .returned (.tuple #[.slice A' x.length c', .bool (decide (p * 65536 + q * 256 + r = CrcM.more 11994318 x))]) ∧
      w'.ownsRow w.heap.size 5 1 (.slice A' x.length c') x.length (by8 x) ∧ Below w.heap.size w w' := by
  have hsx : Sl w A (by8 x) := by
    have := hs.take x.length
    rw [by8_append] at this
    rwa [List.take_left' (by rw [by8_length])] at this
  have hox : Oct x := fun y hy => ho y (by simp [hy])
  obtain ⟨b, o, rfl, hc0⟩ := hs.byte (j := x.length) (by simp)
  have hc1 : w.cell? ⟨b, o + (x.length + 1), none⟩ = some (.int .u8 (q : Int)) := by
    obtain ⟨_, _, e, h⟩ := hs.byte (j := x.length + 1) (by simp)
    injection e with e; injection e with e1 e2; subst e1; subst e2
    simpa using h
  have hc2 : w.cell? ⟨b, o + (x.length + 2), none⟩ = some (.int .u8 (r : Int)) := by
    obtain ⟨_, _, e, h⟩ := hs.byte (j := x.length + 2) (by simp)
    injection e with e; injection e with e1 e2; subst e1; subst e2
    simpa using h
  have hc0' : w.cell? ⟨b, o + x.length, none⟩ = some (.int .u8 (p : Int)) := by simpa using hc0
  clear hc0
  have hp : p < 256 := ho p (by simp)
  have hq : q < 256 := ho q (by simp)
  have hr : r < 256 := ho r (by simp)
  clear hs ho
  go_enter Try.func101, Try.ntmps101
  go_wp2_with fail
  go_quiet (fail)
  go_wp2_with (first
    | (at_make; refine wpList_mkFull rfl (.tmp 34) (.tmp 34) rfl u8E x.length rfl rfl (by omega) (by omega) (by omega) (by unfold maxLen; omega) (Nat.le_refl _) ?_; intro w1 hown1 hb1; obtain ⟨z, hown1, hz⟩ := hown1)
    | (with_reducible refine wpList_cp rfl (.tmp 36) (.tmp 37) rfl u8E rfl rfl hown1 (by rw [by8_length]) (by omega) ((hsx.drewN _).below hb1) (by8_one _) ?_; intro w2 hown2 hb2)
    | fail)
  have hs2 : Sl w2 (some { block := w.heap.size, off := 0 }) (by8 x) := Sl.of_own hown2
  refine (of_any _ x.length x _ (by unfold maxLen; omega) hs2 hox).mono ?_
  rintro e w' ⟨rfl, rfl⟩
  have H := or24 p q r hp hq hr
  go_wp2_with fail
  exact bodyPost_ret (results_tmp2 rfl _ _ _) rfl ⟨_, _, retTB (natBeq _ _), hown2, (below_drewN (Below.refl _ _) _).trans ((hb1.mono (Nat.le_refl _)).trans hb2)⟩
end
end Go.Proofs.Ytiggcpfmmgmncaa
