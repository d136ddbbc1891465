/-
  The plain mathematics of the sum of 24 bits: one step, a byte bit by bit, linearity.
-/
import Derived.Laws.BitsAllLaws
namespace Go.Proofs.Ytpmnjojednbnpaa.CrcM
set_option linter.unusedVariables false

/-- one step of the register -/
def step (c : Nat) : Nat := if c * 2 > 16777215 then (c * 2) ^^^ 25578747 else c * 2

def steps : Nat → Nat → Nat
  | 0, c => c
  | n + 1, c => step (steps n c)

def byteC (c x : Nat) : Nat := steps 8 (c ^^^ (x * 65536))
def more (c : Nat) (l : List Nat) : Nat := l.foldl byteC c

theorem xor_bits {a b n : Nat} (h : ∀ i, i < n → a.testBit i = b.testBit i) (ha : a < 2 ^ n) (hb : b < 2 ^ n) : a = b := by
  apply Nat.eq_of_testBit_eq
  intro i
  by_cases hi : i < n
  · exact h i hi
  · rw [Nat.testBit_lt_two_pow (Nat.lt_of_lt_of_le ha (Nat.pow_le_pow_right (by omega) (by omega))), Nat.testBit_lt_two_pow (Nat.lt_of_lt_of_le hb (Nat.pow_le_pow_right (by omega) (by omega)))]

/-- the register's step as a linear one: doubled without its highest bit, the short polynomial where that was 1 -/
def lin (c : Nat) : Nat := (c * 2 % 16777216) ^^^ (if c.testBit 23 then 8801531 else 0)

theorem testBit23 (c : Nat) (h : c < 16777216) : c.testBit 23 = decide (8388608 ≤ c) := by
  rw [Nat.testBit_eq_decide_div_mod_eq]
  by_cases hc : 8388608 ≤ c
  · have : c / 2 ^ 23 % 2 = 1 := by omega
    simp [hc, this]
  · have : c / 2 ^ 23 % 2 = 0 := by omega
    simp [hc, this]

theorem add_hi (r : Nat) (h : r < 16777216) : 16777216 + r = 16777216 ^^^ r := by
  apply Nat.eq_of_testBit_eq
  intro i
  rw [Nat.testBit_xor, show (16777216 : Nat) = 2 ^ 24 from rfl, Nat.testBit_two_pow]
  have h' : r < 2 ^ 24 := h
  rcases Nat.lt_trichotomy i 24 with hi | hi | hi
  · rw [Nat.testBit_two_pow_add_gt hi]
    have : ¬ 24 = i := by omega
    simp [this]
  · subst hi
    rw [Nat.testBit_two_pow_add_eq, Nat.testBit_lt_two_pow h']
    simp
  · rw [Nat.testBit_lt_two_pow (Nat.lt_of_lt_of_le (show 2 ^ 24 + r < 2 ^ 25 by omega) (Nat.pow_le_pow_right (by omega) (by omega))), Nat.testBit_lt_two_pow (Nat.lt_of_lt_of_le h' (Nat.pow_le_pow_right (by omega) (by omega)))]
    have : ¬ 24 = i := by omega
    simp [this]

theorem step_lin (c : Nat) (h : c < 16777216) : step c = lin c := by
  unfold step lin
  rw [testBit23 c h]
  by_cases hc : 8388608 ≤ c
  · rw [if_pos (by omega), if_pos (by simpa using hc)]
    have e : c * 2 = 16777216 + (c * 2 % 16777216) := by omega
    rw [show (25578747 : Nat) = 16777216 ^^^ 8801531 from by decide]
    rw [e, add_hi _ (by omega)]
    rw [show (16777216 ^^^ (c * 2 % 16777216)) % 16777216 = c * 2 % 16777216 from by rw [← add_hi _ (by omega)]; omega]
    rw [Nat.xor_comm 16777216 (c * 2 % 16777216), Nat.xor_assoc, ← Nat.xor_assoc 16777216 16777216, Nat.xor_self, Nat.zero_xor]
  · rw [if_neg (by omega), if_neg (by simpa using hc)]
    rw [Nat.xor_zero]
    omega

theorem lin_lt (c : Nat) : lin c < 16777216 := by
  unfold lin
  have : c * 2 % 16777216 < 2 ^ 24 := by omega
  split
  · exact Nat.xor_lt_two_pow this (by decide)
  · rw [Nat.xor_zero]; exact this

theorem dbl_xor (a b : Nat) : (a ^^^ b) * 2 % 16777216 = (a * 2 % 16777216) ^^^ (b * 2 % 16777216) := by
  have e : (a ^^^ b) * 2 = (a * 2) ^^^ (b * 2) := by
    have := Nat.shiftLeft_xor_distrib (a := a) (b := b) (i := 1)
    simpa [Nat.shiftLeft_eq] using this
  rw [e]
  exact Nat.xor_mod_two_pow (n := 24)

theorem lin_xor (a b : Nat) : lin (a ^^^ b) = lin a ^^^ lin b := by
  unfold lin
  rw [dbl_xor, Nat.testBit_xor]
  cases a.testBit 23 <;> cases b.testBit 23
  · simp
  · simp [Nat.xor_assoc]
  · simp only [Bool.xor_false, if_true, Nat.xor_zero, Bool.false_eq_true, if_false, Nat.xor_assoc]
    rw [Nat.xor_comm (b * 2 % 16777216) 8801531]
  · simp only [Bool.xor_self, Bool.false_eq_true, if_false, if_true, Nat.xor_zero, Nat.xor_assoc]
    rw [← Nat.xor_assoc 8801531, Nat.xor_comm 8801531, Nat.xor_assoc, Nat.xor_self, Nat.xor_zero]

theorem step_lt (c : Nat) (h : c < 16777216) : step c < 16777216 := by rw [step_lin c h]; exact lin_lt c

theorem step_xor (a b : Nat) (ha : a < 16777216) (hb : b < 16777216) : step (a ^^^ b) = step a ^^^ step b := by
  have hx : a ^^^ b < 2 ^ 24 := Nat.xor_lt_two_pow ha hb
  rw [step_lin _ hx, step_lin a ha, step_lin b hb, lin_xor]

theorem steps_lt (n c : Nat) (h : c < 16777216) : steps n c < 16777216 := by
  induction n with
  | zero => exact h
  | succ n ih => exact step_lt _ ih

theorem steps_xor (n a b : Nat) (ha : a < 16777216) (hb : b < 16777216) : steps n (a ^^^ b) = steps n a ^^^ steps n b := by
  induction n with
  | zero => rfl
  | succ n ih => simp only [steps]; rw [ih, step_xor _ _ (steps_lt n a ha) (steps_lt n b hb)]

theorem start_lt (c x : Nat) (hc : c < 16777216) (hx : x < 256) : c ^^^ (x * 65536) < 16777216 :=
  Nat.xor_lt_two_pow (n := 24) hc (by omega)

theorem byteC_lt (c x : Nat) (hc : c < 16777216) (hx : x < 256) : byteC c x < 16777216 := by
  unfold byteC
  exact steps_lt 8 _ (start_lt c x hc hx)

theorem more_lt (c : Nat) (l : List Nat) (hc : c < 16777216) (hl : ∀ x ∈ l, x < 256) : more c l < 16777216 := by
  induction l generalizing c with
  | nil => exact hc
  | cons x l ih =>
    have e : more c (x :: l) = more (byteC c x) l := by simp only [more, List.foldl_cons]
    rw [e]
    exact ih (byteC c x) (byteC_lt c x hc (hl x (by simp))) (fun y hy => hl y (by simp [hy]))

theorem more_append (c : Nat) (a b : List Nat) : more c (a ++ b) = more (more c a) b := by simp [more, List.foldl_append]
theorem more_snoc (c : Nat) (l : List Nat) (x : Nat) : more c (l ++ [x]) = byteC (more c l) x := by simp [more, List.foldl_append]

/-! the document's own: bit by bit, the highest first -/
/-- one bit: the register, whether its highest bit and the byte's differ -/
def rstep (c : Nat) (m : Bool) : Nat := if m then (c * 2 % 16777216) ^^^ 8801531 else c * 2 % 16777216

def bitOf (x j : Nat) : Nat := x / (128 / 2 ^ j) % 2

def rsteps : Nat → Nat → Nat → Nat
  | 0, c, _ => c
  | n + 1, c, x => rstep (rsteps n c x) (decide ((rsteps n c x) / 8388608 % 2 ≠ bitOf x n))

theorem rstep_lin (c m : Nat) (hc : c < 16777216) (hm : m < 2) : rstep c (decide (c / 8388608 % 2 ≠ m)) = lin (c ^^^ (m * 8388608)) := by
  unfold lin
  rw [dbl_xor, Nat.testBit_xor, testBit23 c hc, testBit23 (m * 8388608) (by omega)]
  have e0 : m * 8388608 * 2 % 16777216 = 0 := by omega
  rw [e0, Nat.xor_zero]
  unfold rstep
  rcases (show m = 0 ∨ m = 1 from by omega) with rfl | rfl
  · by_cases h : 8388608 ≤ c
    · have : c / 8388608 % 2 = 1 := by omega
      simp [h, this]
    · have : c / 8388608 % 2 = 0 := by omega
      simp [h, this]
  · by_cases h : 8388608 ≤ c
    · have : c / 8388608 % 2 = 1 := by omega
      simp [h, this]
    · have : c / 8388608 % 2 = 0 := by omega
      simp [h, this]

theorem rsteps_lt (n c x : Nat) (h : c < 16777216) : rsteps n c x < 16777216 := by
  induction n with
  | zero => exact h
  | succ n ih =>
    simp only [rsteps, rstep]
    split
    · exact Nat.xor_lt_two_pow (n := 24) (by omega) (by decide)
    · omega

/-- what is left of a byte behind n bits, on top of the register -/
theorem rest_step (x n : Nat) (hx : x < 256) (hn : n < 8) :
    (x % 2 ^ (8 - n)) * 2 ^ (16 + n) = (bitOf x n * 8388608) ^^^ ((x % 2 ^ (8 - (n + 1))) * 2 ^ (16 + n)) ∧
    step ((x % 2 ^ (8 - (n + 1))) * 2 ^ (16 + n)) = (x % 2 ^ (8 - (n + 1))) * 2 ^ (16 + (n + 1)) ∧
    (x % 2 ^ (8 - (n + 1))) * 2 ^ (16 + n) < 8388608 ∧ bitOf x n < 2 := by
  have key : ∀ (b r : Nat), b < 2 → r < 8388608 → b * 8388608 + r = (b * 8388608) ^^^ r := by
    intro b r hb hr
    rcases (show b = 0 ∨ b = 1 from by omega) with rfl | rfl
    · simp
    · rw [Nat.one_mul]
      apply Nat.eq_of_testBit_eq
      intro i
      rw [Nat.testBit_xor, show (8388608 : Nat) = 2 ^ 23 from rfl, Nat.testBit_two_pow]
      have h' : r < 2 ^ 23 := hr
      rcases Nat.lt_trichotomy i 23 with hi | hi | hi
      · rw [Nat.testBit_two_pow_add_gt hi]
        have : ¬ 23 = i := by omega
        simp [this]
      · subst hi
        rw [Nat.testBit_two_pow_add_eq, Nat.testBit_lt_two_pow h']
        simp
      · rw [Nat.testBit_lt_two_pow (Nat.lt_of_lt_of_le (show 2 ^ 23 + r < 2 ^ 24 by omega) (Nat.pow_le_pow_right (by omega) (by omega))), Nat.testBit_lt_two_pow (Nat.lt_of_lt_of_le h' (Nat.pow_le_pow_right (by omega) (by omega)))]
        have : ¬ 23 = i := by omega
        simp [this]
  have hcase : n = 0 ∨ n = 1 ∨ n = 2 ∨ n = 3 ∨ n = 4 ∨ n = 5 ∨ n = 6 ∨ n = 7 := by omega
  have h3 : (x % 2 ^ (8 - (n + 1))) * 2 ^ (16 + n) < 8388608 := by
    rcases hcase with rfl | rfl | rfl | rfl | rfl | rfl | rfl | rfl <;> simp <;> omega
  refine ⟨?_, ?_, h3, ?_⟩
  · rw [← key _ _ (by unfold bitOf; omega) (by rcases hcase with rfl | rfl | rfl | rfl | rfl | rfl | rfl | rfl <;> simp <;> omega)]
    rcases hcase with rfl | rfl | rfl | rfl | rfl | rfl | rfl | rfl <;> simp [bitOf] <;> omega
  · unfold step
    rw [if_neg (by omega), Nat.mul_assoc, ← Nat.pow_succ]
    rfl
  · unfold bitOf; omega

theorem steps_rsteps (n c x : Nat) (hc : c < 16777216) (hx : x < 256) (hn : n ≤ 8) :
    steps n (c ^^^ (x * 65536)) = rsteps n c x ^^^ ((x % 2 ^ (8 - n)) * 2 ^ (16 + n)) := by
  induction n with
  | zero =>
    simp only [steps, rsteps, Nat.sub_zero, Nat.add_zero]
    rw [show x % 2 ^ 8 = x from by omega]
  | succ n ih =>
    obtain ⟨h1, h2, h3, h4⟩ := rest_step x n hx (by omega)
    have hr := rsteps_lt n c x hc
    simp only [steps, rsteps]
    rw [ih (by omega), h1, ← Nat.xor_assoc, step_xor _ _ (Nat.xor_lt_two_pow (n := 24) hr (by omega)) (by omega), h2, rstep_lin _ _ hr h4,
      step_lin _ (Nat.xor_lt_two_pow (n := 24) hr (by omega))]

theorem byteC_eq (c x : Nat) (hc : c < 16777216) (hx : x < 256) : byteC c x = rsteps 8 c x := by
  have := steps_rsteps 8 c x hc hx (Nat.le_refl 8)
  simpa [byteC, Nat.mod_one] using this

/-! a sum tells up to three neighbours that were turned -/
theorem step_zero : step 0 = 0 := by decide
theorem steps_zero (n : Nat) : steps n 0 = 0 := by
  induction n with
  | zero => rfl
  | succ n ih => simp only [steps, ih, step_zero]

theorem lin_zero (c : Nat) (h : c < 16777216) (hz : lin c = 0) : c = 0 := by
  have h0 : (lin c) % 2 = 0 := by rw [hz]
  unfold lin at hz h0
  rw [testBit23 c h] at hz h0
  by_cases hc : 8388608 ≤ c
  · rw [if_pos (by simpa using hc)] at h0
    have e : ((c * 2 % 16777216) ^^^ 8801531) % 2 = ((c * 2 % 16777216) % 2) ^^^ (8801531 % 2) := Nat.xor_mod_two_pow (n := 1)
    rw [e, show c * 2 % 16777216 % 2 = 0 from by omega] at h0
    exact absurd h0 (by decide)
  · rw [if_neg (by simpa using hc), Nat.xor_zero] at hz
    omega
theorem steps_inj (n c : Nat) (h : c < 16777216) (hz : steps n c = 0) : c = 0 := by
  induction n with
  | zero => exact hz
  | succ n ih =>
    simp only [steps] at hz
    have hs := steps_lt n c h
    rw [step_lin _ hs] at hz
    exact ih (lin_zero _ hs hz)

theorem steps_add (n m c : Nat) : steps (n + m) c = steps m (steps n c) := by
  induction m with
  | zero => rfl
  | succ m ih => rw [← Nat.add_assoc]; simp only [steps, ih]

theorem byteC_xor (a e x : Nat) (ha : a < 16777216) (he : e < 16777216) (hx : x < 256) : byteC (a ^^^ e) x = byteC a x ^^^ steps 8 e := by
  unfold byteC
  rw [Nat.xor_assoc, Nat.xor_comm e, ← Nat.xor_assoc, steps_xor 8 _ _ (start_lt a x ha hx) he]

theorem more_xor (l : List Nat) : ∀ (a e : Nat), a < 16777216 → e < 16777216 → (∀ x ∈ l, x < 256) → more (a ^^^ e) l = more a l ^^^ steps (8 * l.length) e := by
  induction l with
  | nil => intro a e _ _ _; rfl
  | cons x l ih =>
    intro a e ha he hl
    have hx := hl x (by simp)
    have e1 : more (a ^^^ e) (x :: l) = more (byteC (a ^^^ e) x) l := by simp only [more, List.foldl_cons]
    have e2 : more a (x :: l) = more (byteC a x) l := by simp only [more, List.foldl_cons]
    rw [e1, e2, byteC_xor a e x ha he hx, ih _ _ (byteC_lt a x ha hx) (steps_lt 8 e he) (fun y hy => hl y (by simp [hy])), List.length_cons,
      show 8 * (l.length + 1) = 8 + 8 * l.length from by omega, steps_add]

/-- doubled without a carry -/
theorem steps_dbl (n c : Nat) (h : c * 2 ^ n < 16777216) : steps n c = c * 2 ^ n := by
  induction n with
  | zero => simp [steps]
  | succ n ih =>
    have h2 : c * 2 ^ n * 2 < 16777216 := by rw [Nat.mul_assoc, ← Nat.pow_succ]; exact h
    simp only [steps]
    rw [ih (by omega), step, if_neg (by omega), Nat.mul_assoc, ← Nat.pow_succ]

theorem more3 (s p q r : Nat) (hs : s < 16777216) (hp : p < 256) (hq : q < 256) (hr : r < 256) : more s [p, q, r] = steps 24 (s ^^^ (p * 65536) ^^^ (q * 256) ^^^ r) := by
  have e : more s [p, q, r] = byteC (byteC (byteC s p) q) r := by simp only [more, List.foldl_cons, List.foldl_nil]
  have h1 : q * 65536 = steps 8 (q * 256) := by rw [steps_dbl 8 _ (by omega)]; omega
  have h2 : r * 65536 = steps 16 r := by rw [steps_dbl 16 _ (by omega)]
  have l1 := start_lt s p hs hp
  have l2 : s ^^^ p * 65536 ^^^ q * 256 < 16777216 := Nat.xor_lt_two_pow (n := 24) l1 (by omega)
  rw [e]
  unfold byteC
  have ha : ∀ X, steps 16 X = steps 8 (steps 8 X) := fun X => steps_add 8 8 X
  have hb : ∀ X, steps 24 X = steps 8 (steps 16 X) := fun X => steps_add 16 8 X
  rw [h1, ← steps_xor 8 _ _ l1 (by omega), h2, ← ha (s ^^^ p * 65536 ^^^ q * 256), ← steps_xor 16 _ _ l2 (by omega), hb]

theorem join3 (p q r : Nat) (hp : p < 256) (hq : q < 256) (hr : r < 256) : (p * 65536) ^^^ (q * 256) ^^^ r = p * 65536 + q * 256 + r := by
  have hor : ∀ (i x y : Nat), x % 2 ^ i = 0 → y < 2 ^ i → x ^^^ y = x + y := by
    intro i x y hx hy
    rw [← nat_join i x y hx hy]
    apply Nat.eq_of_testBit_eq
    intro j
    rw [Nat.testBit_xor, Nat.testBit_or]
    by_cases hj : j < i
    · have : x.testBit j = false := by
        have hm : (x % 2 ^ i).testBit j = x.testBit j := by rw [Nat.testBit_mod_two_pow]; simp [hj]
        rw [← hm, hx]; simp
      rw [this]; simp
    · rw [Nat.testBit_lt_two_pow (x := y) (Nat.lt_of_lt_of_le hy (Nat.pow_le_pow_right (by omega) (by omega)))]; simp
  rw [hor 16 (p * 65536) (q * 256) (by omega) (by omega), hor 8 (p * 65536 + q * 256) r (by omega) (by omega)]

theorem sealed_zero (s p q r : Nat) (hp : p < 256) (hq : q < 256) (hr : r < 256) (h : p * 65536 + q * 256 + r = s) : more s [p, q, r] = 0 := by
  subst h
  rw [more3 _ p q r (by omega) hp hq hr, ← join3 p q r hp hq hr]
  have : ∀ a b c : Nat, (a ^^^ b ^^^ c) ^^^ a ^^^ b ^^^ c = 0 := by
    intro a b c
    rw [Nat.xor_assoc (a ^^^ b ^^^ c) a b, Nat.xor_assoc _ (a ^^^ b) c, Nat.xor_self]
  rw [this, steps_zero]

theorem turned (c : Nat) (a b : List Nat) (u v w x y z : Nat) (hc : c < 16777216) (ha : ∀ i ∈ a, i < 256) (hb : ∀ i ∈ b, i < 256) (hu : u < 256) (hv : v < 256) (hw : w < 256) (hx : x < 256) (hy : y < 256) (hz : z < 256)
    (h0 : more c (a ++ [u, v, w] ++ b) = 0) (hne : ¬(x = 0 ∧ y = 0 ∧ z = 0)) : more c (a ++ [u ^^^ x, v ^^^ y, w ^^^ z] ++ b) ≠ 0 := by
  intro h1
  rw [more_append, more_append] at h0 h1
  have hs := more_lt c a hc ha
  generalize more c a = s at *
  have xl : ∀ i j : Nat, i < 256 → j < 256 → i ^^^ j < 256 := fun i j hi hj => Nat.xor_lt_two_pow (n := 8) hi hj
  have e1 : more s [u ^^^ x, v ^^^ y, w ^^^ z] = more s [u, v, w] ^^^ steps 24 (x * 65536 + y * 256 + z) := by
    rw [more3 s _ _ _ hs (xl u x hu hx) (xl v y hv hy) (xl w z hw hz), more3 s u v w hs hu hv hw, ← join3 x y z hx hy hz, ← steps_xor 24 _ _ ?_ ?_]
    · congr 1
      have m1 : (u ^^^ x) * 65536 = (u * 65536) ^^^ (x * 65536) := by
        have := Nat.shiftLeft_xor_distrib (a := u) (b := x) (i := 16); simpa [Nat.shiftLeft_eq] using this
      have m2 : (v ^^^ y) * 256 = (v * 256) ^^^ (y * 256) := by
        have := Nat.shiftLeft_xor_distrib (a := v) (b := y) (i := 8); simpa [Nat.shiftLeft_eq] using this
      rw [m1, m2]
      ac_rfl
    · exact Nat.xor_lt_two_pow (n := 24) (Nat.xor_lt_two_pow (n := 24) (start_lt s u hs hu) (by omega)) (by omega)
    · rw [join3 x y z hx hy hz]; omega
  have hE : steps 24 (x * 65536 + y * 256 + z) < 16777216 := steps_lt 24 _ (by omega)
  have hA : more s [u, v, w] < 16777216 := more_lt s _ hs (by intro i hi; simp at hi; rcases hi with rfl | rfl | rfl <;> assumption)
  rw [e1, more_xor b _ _ hA hE hb, h0, Nat.zero_xor] at h1
  have := steps_inj _ _ (by omega) (steps_inj _ _ hE h1)
  omega

end Go.Proofs.Ytpmnjojednbnpaa.CrcM
