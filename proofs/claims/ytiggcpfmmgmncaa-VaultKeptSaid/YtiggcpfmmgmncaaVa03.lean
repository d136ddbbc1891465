import Derived.Laws.BitsAllLaws
import Derived.Test.YtiggcpfmmgmncaaVa00
import Derived.Lib.SlBytesConst
import Derived.Test.YtiggcpfmmgmncaaVa02
section
namespace Go.Proofs.Ytiggcpfmmgmncaa.CrcM
set_option linter.unusedVariables false

def step (c : Nat) : Nat := if c * 2 > 16777215 then (c * 2) ^^^ 25578747 else c * 2
def steps : Nat → Nat → Nat
  | 0, c => c
  | n + 1, c => step (steps n c)
def byteC (c x : Nat) : Nat := steps 8 (c ^^^ (x * 65536))
def more (c : Nat) (l : List Nat) : Nat := l.foldl byteC c
def lin (c : Nat) : Nat := (c * 2 % 16777216) ^^^ (if c.testBit 23 then 8801531 else 0)
theorem testBit23 (c : Nat) (h : c < 16777216) : c.testBit 23 = decide (8388608 ≤ c) := by
  rw [Nat.testBit_eq_decide_div_mod_eq]
  by_cases hc : 8388608 ≤ c
  · have : c / 2 ^ 23 % 2 = 1 := by omega
    simp [hc, this]
  · have : c / 2 ^ 23 % 2 = 0 := by omega
    simp [hc, this]
theorem add_hi (r : Nat) (h : r < 16777216) : 16777216 + r = 16777216 ^^^ r := by
  apply Nat.eq_of_testBit_eq
  intro i
  rw [Nat.testBit_xor, show (16777216 : Nat) = 2 ^ 24 from rfl, Nat.testBit_two_pow]
  have h' : r < 2 ^ 24 := h
  rcases Nat.lt_trichotomy i 24 with hi | hi | hi
  · rw [Nat.testBit_two_pow_add_gt hi]
    have : ¬ 24 = i := by omega
    simp [this]
  · subst hi
    rw [Nat.testBit_two_pow_add_eq, Nat.testBit_lt_two_pow h']
    simp
  · rw [Nat.testBit_lt_two_pow (Nat.lt_of_lt_of_le (show 2 ^ 24 + r < 2 ^ 25 by omega) (Nat.pow_le_pow_right (by omega) (by omega))), Nat.testBit_lt_two_pow (Nat.lt_of_lt_of_le h' (Nat.pow_le_pow_right (by omega) (by omega)))]
    have : ¬ 24 = i := by omega
    simp [this]
theorem step_lin (c : Nat) (h : c < 16777216) : step c = lin c := by
  unfold step lin
  rw [testBit23 c h]
  by_cases hc : 8388608 ≤ c
  · rw [if_pos (by omega), if_pos (by simpa using hc)]
    have e : c * 2 = 16777216 + (c * 2 % 16777216) := by omega
    rw [show (25578747 : Nat) = 16777216 ^^^ 8801531 from by decide]
    rw [e, add_hi _ (by omega)]
    rw [show (16777216 ^^^ (c * 2 % 16777216)) % 16777216 = c * 2 % 16777216 from by rw [← add_hi _ (by omega)]; omega]
    rw [Nat.xor_comm 16777216 (c * 2 % 16777216), Nat.xor_assoc, ← Nat.xor_assoc 16777216 16777216, Nat.xor_self, Nat.zero_xor]
  · rw [if_neg (by omega), if_neg (by simpa using hc)]
    rw [Nat.xor_zero]
    omega
theorem lin_lt (c : Nat) : lin c < 16777216 := by
  unfold lin
  have : c * 2 % 16777216 < 2 ^ 24 := by omega
  split
  · exact Nat.xor_lt_two_pow this (by decide)
  · rw [Nat.xor_zero]; exact this
theorem step_lt (c : Nat) (h : c < 16777216) : step c < 16777216 := by rw [step_lin c h]; exact lin_lt c
theorem steps_lt (n c : Nat) (h : c < 16777216) : steps n c < 16777216 := by
  induction n with
  | zero => exact h
  | succ n ih => exact step_lt _ ih
theorem start_lt (c x : Nat) (hc : c < 16777216) (hx : x < 256) : c ^^^ (x * 65536) < 16777216 :=
  Nat.xor_lt_two_pow (n := 24) hc (by omega)
theorem byteC_lt (c x : Nat) (hc : c < 16777216) (hx : x < 256) : byteC c x < 16777216 := by
  unfold byteC
  exact steps_lt 8 _ (start_lt c x hc hx)
theorem more_lt (c : Nat) (l : List Nat) (hc : c < 16777216) (hl : ∀ x ∈ l, x < 256) : more c l < 16777216 := by
  induction l generalizing c with
  | nil => exact hc
  | cons x l ih =>
    have e : more c (x :: l) = more (byteC c x) l := by simp only [more, List.foldl_cons]
    rw [e]
    exact ih (byteC c x) (byteC_lt c x hc (hl x (by simp))) (fun y hy => hl y (by simp [hy]))
theorem more_snoc (c : Nat) (l : List Nat) (x : Nat) : more c (l ++ [x]) = byteC (more c l) x := by simp [more, List.foldl_append]
end Go.Proofs.Ytiggcpfmmgmncaa.CrcM
end
section
namespace Go.Proofs.Ytiggcpfmmgmncaa
open Go.ChangeShapes Go.WideShapes Go.ChangeAt Go.RowKit
set_option linter.unusedVariables false

theorem cut_any (A : Option Addr) (n cap k : Nat) (w : World) (hn : n ≤ 9223372036854775807) (hk : k ≤ 9223372036854775807) (hcap : n ≤ cap) (hcap2 : cap ≤ 9223372036854775807) :
    Calls Try.prog 17 #[.slice A n cap, .int .i64 k] w fun e w' => e = .returned (.slice A (min n k) cap) ∧ w = w' := by
  by_cases h : k < n
  · have e : min n k = k := by omega
    rw [e]
    clear e
    go_enter Try.func17, Try.ntmps17
    go_wp2
    go_ret
    exact ⟨rfl, rfl⟩
  · have e : min n k = n := by omega
    rw [e]
    clear e
    go_enter Try.func17, Try.ntmps17
    go_wp2
    go_ret
    exact ⟨rfl, rfl⟩
theorem and24 (c : Nat) (h : c < 4294967296) : bits .and .u32 (c : Int) 16777215 = ((c % 16777216 : Nat) : Int) := by
  have := u32_and_nat c 16777215 h (by omega)
  have e : (c &&& 16777215) = c % 16777216 := Nat.and_two_pow_sub_one_eq_mod c 24
  rw [e] at this
  exact this
set_option maxHeartbeats 400000 in
theorem more_any (c : Nat) (A : Option Addr) (cap : Nat) (l : List Nat) (w : World) (hc : c < 4294967296) (hl : l.length ≤ maxLen) (hs : Sl w A (by8 l)) (ho : Oct l) :
    Calls Try.prog 106 #[.int .u32 c, .slice A l.length cap] w fun e w' => e = .returned (.int .u32 (CrcM.more (c % 16777216) l : Nat)) ∧ w = w' := by
  unfold maxLen at hl
  go_enter Try.func106, Try.ntmps106
  go_wp2
  go_loop [0, 11] (fun s i => ∃ k : Nat, k ≤ l.length ∧ i = .int .i64 k ∧ s = .int .u32 (CrcM.more (c % 16777216) (l.take k) : Nat)) (fun _ i => l.length - (intOf i).toNat)
  case atStart => exact ⟨0, Nat.zero_le _, rfl, intE (by rw [and24 c hc]; rfl)⟩
  case round =>
    obtain ⟨k, hk, rfl, rfl⟩ := hrel
    by_cases hlt : k < l.length
    · obtain ⟨b, o, rfl, hz⟩ := hs.byte hlt
      have hx := ho.at_ hlt
      have hm := CrcM.more_lt (c % 16777216) (l.take k) (by omega) (ho.take k)
      have hsn := CrcM.more_snoc (c % 16777216) (l.take k) l[k]
      rw [← take_snoc l k hlt] at hsn
      have HS := Lib.hid hsn
      clear hsn
      generalize CrcM.more (c % 16777216) (l.take k) = v at *
      generalize hxe : l[k] = x at *
      have HX := Lib.hid hxe
      clear hxe
      go_wp2
      go_loop [0, 20] (fun s i => ∃ j : Nat, j ≤ 8 ∧ i = .int .i64 j ∧ s = .int .u32 (CrcM.steps j (v ^^^ (x * 65536)) : Nat)) (fun _ i => 8 - (intOf i).toNat)
      case atStart => exact ⟨0, by omega, rfl, intE (u32_xor_nat v (x * 65536) (by omega) (by omega))⟩
      case round =>
        obtain ⟨j, hj, rfl, rfl⟩ := hrel
        by_cases hj8 : j < 8
        · have hst := CrcM.steps_lt j _ (CrcM.start_lt v x hm hx)
          have hsu : CrcM.steps (j + 1) (v ^^^ (x * 65536)) = CrcM.step (CrcM.steps j (v ^^^ (x * 65536))) := rfl
          have HU := Lib.hid hsu
          clear hsu
          generalize CrcM.steps j (v ^^^ (x * 65536)) = u at *
          by_cases hu : 16777215 < u * 2
          · go_wp2
            go_round
            case rel => exact ⟨j + 1, by omega, by go_num, intE (by rw [HU.out, CrcM.step, if_pos hu]; exact u32_xor_nat (u * 2) 25578747 (by omega) (by omega))⟩
            case measure => simp [intOf]; omega
          · go_wp2
            go_round
            case rel => exact ⟨j + 1, by omega, by go_num, intE (by rw [HU.out, CrcM.step, if_neg hu]; simp)⟩
            case measure => simp [intOf]; omega
        · obtain rfl : j = 8 := by omega
          go_wp2
          go_round
          case rel => exact ⟨k + 1, by omega, by go_num, intE (by rw [HS.out]; rfl)⟩
          case measure => simp [intOf]; omega
    · obtain rfl : k = l.length := by omega
      go_wp2
      go_ret
      refine ⟨?_, rfl⟩
      simp
end Go.Proofs.Ytiggcpfmmgmncaa
end
section
namespace Go.Proofs.Ytiggcpfmmgmncaa
open Go.ChangeShapes Go.WideShapes Go.ChangeAt Go.RowKit
set_option linter.unusedVariables false

theorem of_any (A : Option Addr) (cap : Nat) (l : List Nat) (w : World) (hl : l.length ≤ maxLen) (hs : Sl w A (by8 l)) (ho : Oct l) :
    Calls Try.prog 102 #[.slice A l.length cap] w fun e w' => e = .returned (.int .u32 (CrcM.more 11994318 l : Nat)) ∧ w = w' := by
  go_enter Try.func102, Try.ntmps102
  go_wp2_with (go_at_call 106; refine (more_any 11994318 A cap l _ (by omega) hl hs ho).mono ?_; rintro e w' ⟨rfl, rfl⟩)
  go_ret
  exact ⟨rfl, rfl⟩
def Agree (a b : List Nat) (k : Nat) : Prop := ∀ i, i < k → a[i]? = b[i]?
theorem agree_eq {a b : List Nat} (h : Agree a b a.length) (hl : a.length = b.length) : a = b := by
  apply List.ext_getElem? ; intro i
  by_cases hi : i < a.length
  · exact h i hi
  · rw [List.getElem?_eq_none (by omega), List.getElem?_eq_none (by omega)]
set_option maxHeartbeats 400000 in
theorem same_any (A B : Option Addr) (ca cb : Nat) (a b : List Nat) (w : World) (hla : a.length ≤ maxLen) (hlb : b.length ≤ maxLen) (ha : Sl w A (by8 a)) (hb : Sl w B (by8 b)) :
    Calls Try.prog 34 #[.slice A a.length ca, .slice B b.length cb] w fun e w' => e = .returned (.bool (decide (a = b))) ∧ ∃ n, w' = w.drewN n := by
  unfold maxLen at hla hlb
  by_cases hne : a.length = b.length
  · have hd : ((a.length : Int) != (b.length : Int)) = false := by rw [hne]; simp
    have HN := Lib.hid hne
    clear hne
    go_enter Try.func34, Try.ntmps34
    go_wp2
    go_loopw [5] (fun i wr => ∃ k n : Nat, k ≤ a.length ∧ i = .int .i64 k ∧ Agree a b k ∧ wr = w.drewN n) (fun i _ => a.length - (intOf i).toNat)
    case atStart => exact ⟨0, 0, Nat.zero_le _, rfl, (fun i hi => absurd hi (by omega)), rfl⟩
    case round =>
      obtain ⟨k, n, hk, rfl, hag, rfl⟩ := hrel
      have HA := Lib.hid hag
      clear hag
      by_cases hlt : k < a.length
      · have hlt' : k < b.length := by have := HN.out; omega
        obtain ⟨b1, o1, rfl, hz1⟩ := ha.byte hlt
        obtain ⟨b2, o2, rfl, hz2⟩ := hb.byte hlt'
        by_cases he : a[k] = b[k]
        · have he' : ((a[k] : Int) != (b[k] : Int)) = false := by rw [he]; simp
          have HE := Lib.hid he
          clear he
          go_wp2
          go_quiet (fail)
          go_wp2
          go_roundw
          case rel =>
            refine ⟨k + 1, _, by omega, by go_num, fun i hi => ?_, rfl⟩
            by_cases hik : i = k
            · subst hik
              rw [List.getElem?_eq_getElem hlt, List.getElem?_eq_getElem hlt', HE.out]
            · exact HA.out i (by omega)
          case measure => simp [intOf]; omega
        · have he' : ((a[k] : Int) != (b[k] : Int)) = true := by rw [bne_iff_ne]; omega
          have hfin : decide (a = b) = false := by
            rw [decide_eq_false_iff_not]
            rintro rfl
            exact he rfl
          have HF := Lib.hid hfin
          clear hfin he
          go_wp2
          go_quiet (fail)
          go_wp2
          go_ret
          exact ⟨retB HF.out.symm, _, World.drewN_drewN _ _ _⟩
      · obtain rfl : k = a.length := by omega
        have hfin : decide (a = b) = true := decide_eq_true (agree_eq HA.out HN.out)
        have HF := Lib.hid hfin
        clear hfin
        go_wp2
        go_ret
        exact ⟨retB HF.out.symm, n, rfl⟩
  · have hd : ((a.length : Int) != (b.length : Int)) = true := by rw [bne_iff_ne]; omega
    have hfin : decide (a = b) = false := by
      rw [decide_eq_false_iff_not]
      rintro rfl
      exact hne rfl
    have HF := Lib.hid hfin
    clear hfin hne
    go_enter Try.func34, Try.ntmps34
    go_wp2
    go_ret
    exact ⟨retB HF.out.symm, 0, rfl⟩
theorem same_n (A B : Option Addr) (ca cb na nb : Nat) (a b : List Nat) (w : World) (hna : a.length = na) (hnb : b.length = nb) (hla : na ≤ maxLen) (hlb : nb ≤ maxLen) (ha : Sl w A (by8 a)) (hb : Sl w B (by8 b)) :
    Calls Try.prog 34 #[.slice A na ca, .slice B nb cb] w fun e w' => e = .returned (.bool (decide (a = b))) ∧ ∃ n, w' = w.drewN n := by
  subst hna; subst hnb
  exact same_any A B ca cb a b w hla hlb ha hb
end Go.Proofs.Ytiggcpfmmgmncaa
end
section
namespace Go.Proofs.Ytiggcpfmmgmncaa
open Go.ChangeShapes Go.WideShapes Go.ChangeAt Go.RowKit
set_option linter.unusedVariables false


theorem u8E : Elem Try.prog 36 5 1 1 := Elem.mk' (z := .int .u8 0) Try.underlying36 (by kernel_rfl) rfl (by decide)
end Go.Proofs.Ytiggcpfmmgmncaa
end
section
namespace Go.Proofs.Ytiggcpfmmgmncaa
open Go.ChangeShapes Go.WideShapes Go.ChangeAt Go.RowKit
set_option linter.unusedVariables false

def three (m : Nat) : List Nat := [m / 65536, m / 256 % 256, m % 256]
def sealed (l : List Nat) : List Nat := l ++ three (CrcM.more 11994318 l)
set_option maxHeartbeats 400000 in
theorem seal_any (A : Option Addr) (cap : Nat) (l : List Nat) (w : World) (hl : l.length ≤ 1000000) (hs : Sl w A (by8 l)) (ho : Oct l) :
    Calls Try.prog 95 #[.slice A l.length cap] w fun e w' => ∃ A' c', e = .returned (.slice A' (l.length + 3) c') ∧
      w'.ownsRow w.heap.size 5 1 (.slice A' (l.length + 3) c') (l.length + 3) (by8 (sealed l)) ∧ Below w.heap.size w w' := by
  go_enter Try.func95, Try.ntmps95
  go_wp2_with fail
  refine (of_any A cap l _ (by unfold maxLen; omega) hs ho).mono ?_
  rintro e w' ⟨rfl, rfl⟩
  have hm := CrcM.more_lt 11994318 l (by omega) ho
  have HS := Lib.hid (show sealed l = l ++ three (CrcM.more 11994318 l) from rfl)
  generalize CrcM.more 11994318 l = m at *
  go_wp2_with (first
    | (at_make; refine wpList_mk rfl (.const (.int .i64 0)) (.tmp 9) rfl u8E (l.length + 3) rfl rfl (by omega) (by omega) (by unfold maxLen; omega) (Nat.le_refl _) ?_; intro w1 hown1 hb1)
    | (at_builtin; refine wpList_app rfl (.tmp 11) (.tmp 12) rfl u8E rfl rfl hown1 (by rw [by8_length]; omega) (hs.below hb1) (by8_one _) (by unfold maxLen; omega) (by omega) hb1.size ?_; intro A2 c2 w2 hown2 hg2 hb2; simp only [Nat.zero_add, List.nil_append] at hown2)
    | (at_builtin; refine wpList_app rfl (.tmp 14) (.tmp 23) rfl u8E rfl rfl (hown2.alloc _) (m := 3) (news := by8 (three m)) rfl (Sl.new_ _ _ _) (by8_one _) (by unfold maxLen; omega) (by omega) (by have := hb1.size; have := hb2.size; simp; omega) ?_; intro A3 c3 w3 hown3 hg3 hb3)
    | fail)
  refine bodyPost_ret (results_tmp rfl _ _ _) rfl ⟨A3, c3, rfl, ?_, ?_⟩
  · rw [HS.out, by8_append]; exact hown3
  · exact (((hb1.trans hb2).alloc (by have := hb1.size; have := hb2.size; omega) _).trans hb3)
theorem or24 (p q r : Nat) (hp : p < 256) (hq : q < 256) (hr : r < 256) :
    bits .or .u32 (bits .or .u32 ((p : Int) * 65536) ((q : Int) * 256)) (r : Int) = ((p * 65536 + q * 256 + r : Nat) : Int) := by
  have h1 := u32_or_nat (p * 65536) (q * 256) (by omega) (by omega)
  have e1 : (p * 65536) ||| (q * 256) = p * 65536 + q * 256 := nat_join 16 _ _ (by omega) (by omega)
  have h2 := u32_or_nat (p * 65536 + q * 256) r (by omega) (by omega)
  have e2 : (p * 65536 + q * 256) ||| r = p * 65536 + q * 256 + r := nat_join 8 _ _ (by omega) (by omega)
  rw [e1] at h1
  rw [e2] at h2
  rw [← h2, ← h1]
  rfl
set_option maxHeartbeats 400000 in
theorem open_any (A : Option Addr) (cap : Nat) (x : List Nat) (p q r : Nat) (w : World) (hl : x.length ≤ 1000000) (hs : Sl w A (by8 (x ++ [p, q, r]))) (ho : Oct (x ++ [p, q, r])) :
    Calls Try.prog 101 #[.slice A (x.length + 3) cap] w fun e w' => ∃ A' c', e = .returned (.tuple #[.slice A' x.length c', .bool (decide (p * 65536 + q * 256 + r = CrcM.more 11994318 x))]) ∧
      w'.ownsRow w.heap.size 5 1 (.slice A' x.length c') x.length (by8 x) ∧ Below w.heap.size w w' := by
  have hsx : Sl w A (by8 x) := by
    have := hs.take x.length
    rw [by8_append] at this
    rwa [List.take_left' (by rw [by8_length])] at this
  have hox : Oct x := fun y hy => ho y (by simp [hy])
  obtain ⟨b, o, rfl, hc0⟩ := hs.byte (j := x.length) (by simp)
  have hc1 : w.cell? ⟨b, o + (x.length + 1), none⟩ = some (.int .u8 (q : Int)) := by
    obtain ⟨_, _, e, h⟩ := hs.byte (j := x.length + 1) (by simp)
    injection e with e; injection e with e1 e2; subst e1; subst e2
    simpa using h
  have hc2 : w.cell? ⟨b, o + (x.length + 2), none⟩ = some (.int .u8 (r : Int)) := by
    obtain ⟨_, _, e, h⟩ := hs.byte (j := x.length + 2) (by simp)
    injection e with e; injection e with e1 e2; subst e1; subst e2
    simpa using h
  have hc0' : w.cell? ⟨b, o + x.length, none⟩ = some (.int .u8 (p : Int)) := by simpa using hc0
  clear hc0
  have hp : p < 256 := ho p (by simp)
  have hq : q < 256 := ho q (by simp)
  have hr : r < 256 := ho r (by simp)
  clear hs ho
  go_enter Try.func101, Try.ntmps101
  go_wp2_with fail
  go_quiet (fail)
  go_wp2_with (first
    | (at_make; refine wpList_mkFull rfl (.tmp 34) (.tmp 34) rfl u8E x.length rfl rfl (by omega) (by omega) (by omega) (by unfold maxLen; omega) (Nat.le_refl _) ?_; intro w1 hown1 hb1; obtain ⟨z, hown1, hz⟩ := hown1)
    | (with_reducible refine wpList_cp rfl (.tmp 36) (.tmp 37) rfl u8E rfl rfl hown1 (by rw [by8_length]) (by omega) ((hsx.drewN _).below hb1) (by8_one _) ?_; intro w2 hown2 hb2)
    | fail)
  have hs2 : Sl w2 (some { block := w.heap.size, off := 0 }) (by8 x) := Sl.of_own hown2
  refine (of_any _ x.length x _ (by unfold maxLen; omega) hs2 hox).mono ?_
  rintro e w' ⟨rfl, rfl⟩
  have H := or24 p q r hp hq hr
  go_wp2_with fail
  exact bodyPost_ret (results_tmp2 rfl _ _ _) rfl ⟨_, _, retTB (natBeq _ _), hown2, (below_drewN (Below.refl _ _) _).trans ((hb1.mono (Nat.le_refl _)).trans hb2)⟩
end Go.Proofs.Ytiggcpfmmgmncaa
end
section
namespace Go.Proofs.Ytiggcpfmmgmncaa
open Go.ChangeShapes Go.WideShapes Go.ChangeAt Go.RowKit
set_option linter.unusedVariables false
set_option linter.unusedSimpArgs false

def encF (f : Fr) : List Nat × Int := if f.ok = true then (sealed f.body, 0) else ([], 2)
def ERes (B : Nat) (w' : World) (e : Ending) (R : List Nat × Int) : Prop := ∃ A' c', e = .returned (.tuple #[.slice A' R.1.length c', .int .i64 R.2]) ∧ w'.ownsRow B 5 1 (.slice A' R.1.length c') R.1.length (by8 R.1)
theorem sealed_len (l : List Nat) : (sealed l).length = l.length + 3 := by simp [sealed, three]
theorem box6 {w : World} {a0 a1 a2 a3 a4 a5 : Value} {t : TypeId} {V : World} (h : Below (w.alloc (.cells #[a0, a1, a2, a3, a4, a5] t)).heap.size (w.alloc (.cells #[a0, a1, a2, a3, a4, a5] t)) V) :
    V.cell? ⟨w.heap.size, 0, none⟩ = some a0 ∧ V.cell? ⟨w.heap.size, 1, none⟩ = some a1 ∧ V.cell? ⟨w.heap.size, 2, none⟩ = some a2 ∧ V.cell? ⟨w.heap.size, 3, none⟩ = some a3 ∧ V.cell? ⟨w.heap.size, 4, none⟩ = some a4 ∧ V.cell? ⟨w.heap.size, 5, none⟩ = some a5 := by
  have hl : w.heap.size < (w.alloc (.cells #[a0, a1, a2, a3, a4, a5] t)).heap.size := by rw [World.size_alloc]; omega
  have key : ∀ i, V.cell? ⟨w.heap.size, i, none⟩ = (#[a0, a1, a2, a3, a4, a5] : Array Value)[i]? := fun i => (h.cell (p := ⟨w.heap.size, i, none⟩) hl).trans (World.cell?_alloc_new w _ t i)
  exact ⟨key 0, key 1, key 2, key 3, key 4, key 5⟩
theorem bign1 {n : Nat} (h : n < 256) : bign 1 n = [n] := by simp [bign]; omega
theorem Oct.rep {n : Nat} : Oct (List.replicate n 0) := fun x hx => by
  rw [List.mem_replicate] at hx
  omega
theorem Fr.body_oct {f : Fr} (h : f.ok = true) (ho : Oct f.data) : Oct f.body := by
  have h := (Fr.ok_iff _).1 h
  unfold Fr.body
  refine (((((bign_oct _ _).app (bign_oct _ _)).app (bign_oct _ _)).app ?_).app ho).app Oct.rep
  intro x hx
  simp only [List.mem_cons, List.not_mem_nil, or_false] at hx
  omega
end Go.Proofs.Ytiggcpfmmgmncaa
end
