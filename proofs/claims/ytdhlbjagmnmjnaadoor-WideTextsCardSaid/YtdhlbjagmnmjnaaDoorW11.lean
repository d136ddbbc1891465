/-
  Text in general.
-/
import Derived.Test.YtdhlbjagmnmjnaaDoorW10
import Derived.Laws.Concat
namespace Go.Proofs.YtdhlbjagmnmjnaaDoor
open Go.ChangeShapes Go.WideShapes Go.ChangeAt Go.RowKit
set_option linter.unusedVariables false
set_option linter.unusedSimpArgs false

def txt (x : Int) : List UInt8 := (if x < 0 then [45] else []) ++ Lib.decDigits x.natAbs
theorem bytes_data (l : List UInt8) : (⟨l.toArray⟩ : ByteArray).data.toList = l := by simp
theorem bytes_app (a b : ByteArray) : (a ++ b).data.toList = a.data.toList ++ b.data.toList := by
  obtain ⟨a⟩ := a
  obtain ⟨b⟩ := b
  rw [ByteArray.mk_append_mk]
theorem bytes_len (a : ByteArray) : a.data.toList.length = a.size := by rw [Array.length_toList]; rfl
theorem bytes_size (a b : ByteArray) : (a ++ b).size = a.size + b.size := by
  rw [← bytes_len, ← bytes_len, ← bytes_len, bytes_app, List.length_append]
theorem add_str (a b : ByteArray) (h : a.size + b.size ≤ 1000) : ∀ W, (Op.stringOp .add a b).run Tryd.prog W = .ok (.string (a ++ b)) W := fun W => run_string_add_sum W a b (by omega)
theorem rep_48 (c : Nat) : Lib.repeatL [48] c = List.replicate c 48 := by
  induction c with
  | zero => rfl
  | succ c ih => rw [Lib.repeatL, ih]; rfl

theorem sfmt_any (u : Nat) (hu : u < 18446744073709551616) (w : World) (htab : Lib.TabIs Tryd.prog w "internal/strconv.uint64pow10" .u64 Lib.pow10Tab) :
    Calls Tryd.prog 48 #[.int .u64 u, .int .i64 10] w fun e w' => e = .returned (.string ⟨(Lib.decDigits u).toArray⟩) ∧ Below w.heap.size w w' := by
  go_enter Tryd.func48, Tryd.ntmps48
  go_wp2_with fail
  refine (fmt_any u hu _ htab).mono ?_
  rintro e w1 ⟨rfl, hb1⟩
  go_wp2_with fail
  go_ret
  exact ⟨rfl, hb1⟩

theorem divide_chunk (h l H R L : Nat) (h1 : h < 18446744073709551616) (h2 : l < 18446744073709551616) (hH : H = h / 10000000000000000000) (hL : L = (h % 10000000000000000000 * 18446744073709551616 + l) / 10000000000000000000)
    (hR : R = (h % 10000000000000000000 * 18446744073709551616 + l) % 10000000000000000000) (w : World) :
    Calls Tryd.prog 47 #[.int .u64 h, .int .u64 l, .int .u64 10000000000000000000] w fun e w' => e = .returned (.tuple #[.int .u64 (H : Int), .int .u64 (L : Int), .int .u64 (R : Int)]) ∧ Below w.heap.size w w' :=
  divide_any h l 10000000000000000000 H R L 0 (by decide) (by decide) h1 h2 hH hL hR w

theorem two_parts (h l d : Nat) (hd : 0 < d) : (h * 18446744073709551616 + l) / d = h / d * 18446744073709551616 + (h % d * 18446744073709551616 + l) / d ∧ (h * 18446744073709551616 + l) % d = (h % d * 18446744073709551616 + l) % d := by
  have hdm := Nat.div_add_mod h d
  have key : h * 18446744073709551616 + l = d * (h / d * 18446744073709551616) + (h % d * 18446744073709551616 + l) := by
    conv => lhs; rw [← hdm]
    rw [Nat.add_mul, Nat.mul_assoc, Nat.add_assoc]
  rw [key]
  exact ⟨by rw [Nat.mul_add_div hd], by rw [Nat.mul_add_mod]⟩

set_option maxRecDepth 100000 in
set_option maxHeartbeats 4000000 in
theorem text_any (x : Int) (hx : In128 x) (w : World) (hT : Lib.TabBelow Tryd.prog w.heap.size w "internal/strconv.uint64pow10" .u64 Lib.pow10Tab) :
    Calls Tryd.prog 31 #[.agg #[.int .i64 (hiN x), .int .u64 (loN x)]] w fun e w' => (∃ s : ByteArray, e = .returned (.string s) ∧ s.data.toList = txt x) ∧ Below w.heap.size w w' := by
  have HS := Lib.hid (fun w => size_nat x hx w)
  have lX : szL x < 18446744073709551616 := by unfold szL; omega
  have lH : szH x < 18446744073709551616 := by unfold szH; unfold In128 at hx; omega
  have hN : x.natAbs = szH x * 18446744073709551616 + szL x := by unfold szH szL; omega
  have hneg := hi_neg hx
  have N39 : x.natAbs < 10 ^ (38 + 1) := by
    rw [show (10 : Nat) ^ (38 + 1) = 1000000000000000000000000000000000000000 from by decide]
    unfold In128 at hx
    omega
  have HN := Lib.hid hN
  clear hN hx
  go_enter Tryd.func31, Tryd.ntmps31
  go_wp2_with fail
  refine (HS.out _).mono ?_
  rintro e w1 ⟨rfl, hb1⟩
  have P1 := (T2.new w (hiN x) (loN x) 24).below hb1
  have hB1 := since_step (since_alloc (Below.refl _ w) _) hb1
  clear hb1
  go_wp2_with fail
  go_loopw [3, 4, 5] (fun a b c wr => ∃ (h l : Nat) (t : ByteArray), a = .int .u64 h ∧ b = .int .u64 l ∧ c = .string t ∧ h < 18446744073709551616 ∧ l < 18446744073709551616 ∧ Lib.decDigits x.natAbs = Lib.decDigits (h * 18446744073709551616 + l) ++ t.data.toList ∧ T2 wr w.heap.size (hiN x) (loN x) ∧ Below w.heap.size w wr)
    (fun a b _ _ => (intOf a).toNat * 18446744073709551616 + (intOf b).toNat)
  case atStart => exact ⟨szH x, szL x, ⟨#[]⟩, rfl, rfl, rfl, lH, lX, by rw [HN.out]; simp, P1, hB1⟩
  case round =>
    obtain ⟨h, l, t, rfl, rfl, rfl, hh, hl, hD, P, hB⟩ := hrel
    have HD := Lib.hid hD
    have ht39 : t.size ≤ 39 := by
      have h1 := congrArg List.length hD
      rw [List.length_append, bytes_len] at h1
      have h2 := (pad_dec 38 x.natAbs N39).1
      omega
    clear hD
    by_cases hM : 10000000000000000000 ≤ h * 18446744073709551616 + l
    · obtain ⟨q1, q2⟩ := two_parts h l 10000000000000000000 (by decide)
      obtain ⟨H, hH⟩ : ∃ H : Nat, H = h / 10000000000000000000 := ⟨_, rfl⟩
      obtain ⟨L, hL⟩ : ∃ L : Nat, L = (h % 10000000000000000000 * 18446744073709551616 + l) / 10000000000000000000 := ⟨_, rfl⟩
      obtain ⟨R, hR⟩ : ∃ R : Nat, R = (h % 10000000000000000000 * 18446744073709551616 + l) % 10000000000000000000 := ⟨_, rfl⟩
      have HDV := Lib.hid (fun w => divide_chunk h l H R L hh hl hH hL hR w)
      rw [← hH, ← hL] at q1
      rw [← hR] at q2
      obtain ⟨st, stl⟩ := dec_step _ hM t.data.toList
      rw [q1, q2] at st
      rw [q2] at stl
      have hRl : R < 10000000000000000000 := by rw [hR]; exact Nat.mod_lt _ (by decide)
      have hHl : H < 18446744073709551616 := by omega
      have hLl : L < 18446744073709551616 := by
        rw [hL, Nat.div_lt_iff_lt_mul (by decide)]
        have : h % 10000000000000000000 < 10000000000000000000 := Nat.mod_lt _ (by decide)
        omega
      have hlt : H * 18446744073709551616 + L < h * 18446744073709551616 + l := by rw [← q1]; exact Nat.div_lt_self (by omega) (by decide)
      have ST := Lib.hid st
      have HLT := Lib.hid hlt
      clear q1 q2 hH hL hR st hlt
      obtain ⟨s, hs⟩ : ∃ s : ByteArray, s = ⟨(Lib.decDigits R).toArray⟩ := ⟨_, rfl⟩
      have hsd : s.data.toList = Lib.decDigits R := by rw [hs]
      obtain ⟨n, hn⟩ : ∃ n : Nat, n = (Lib.decDigits R).length := ⟨_, rfl⟩
      have hsz : s.size = n := by rw [hs, hn]; rfl
      rw [← hn] at stl
      have HF := fun w ht => sfmt_any R (by omega) w ht
      rw [← hs] at HF
      have HF := Lib.hid HF
      obtain ⟨z, hz⟩ : ∃ z : ByteArray, z = ⟨(Lib.repeatL [48] (19 - n)).toArray⟩ := ⟨_, rfl⟩
      have hzd : z.data.toList = List.replicate (19 - n) 48 := by rw [hz, rep_48]
      have HR := fun w => Tryd.strings_Repeat ⟨#[48]⟩ (19 - n) w (by omega) (by simp [ByteArray.size]; omega)
      have HR' : ∀ w, Calls Tryd.prog 49 #[.string ⟨#[48]⟩, .int .i64 ((19 - n : Nat) : Int)] w fun e w' => e = .returned (.string z) ∧ Below w.heap.size w w' := by
        intro w
        have := HR w
        rw [hz]
        exact this
      have HRR := Lib.hid HR'
      have f1 : IntKind.i64.wrap (19 - (n : Int)) = ((19 - n : Nat) : Int) := by rw [IntKind.wrap_i64]; omega
      have HF1 := Lib.hid f1
      have HSD := Lib.hid (show s.data.toList = Lib.decDigits R ∧ z.data.toList = List.replicate (19 - n) 48 ∧ n = (Lib.decDigits R).length from ⟨hsd, hzd, hn⟩)
      have hzs : z.size = 19 - n := by rw [← bytes_len, hzd, List.length_replicate]
      have ad1 := add_str z s (by omega)
      have ad2 := add_str (z ++ s) t (by rw [bytes_size]; omega)
      clear hs hsd hz hzd HR HR' hn
      by_cases hpos : 0 < h
      · have g1 : decide (0 < (h : Int)) = true := decide_eq_true (by omega)
        have g1' : decide (0 < h) = true := decide_eq_true hpos
        go_wp2_with fail
        refine (HDV.out _).mono ?_
        rintro e w2 ⟨rfl, hb2⟩
        have hB2 := since_step hB hb2
        have P2 := P.below hb2
        clear hb2
        go_wp2_with fail
        refine (HF.out _ (hT.on hB2).here).mono ?_
        rintro e w3 ⟨rfl, hb3⟩
        have hB3 := since_step hB2 hb3
        have P3 := P2.below hb3
        clear hb3
        go_wp2_with fail
        refine (HRR.out _).mono ?_
        rintro e w4 ⟨rfl, hb4⟩
        have hB4 := since_step hB3 hb4
        have P4 := P3.below hb4
        clear hb4
        go_wp2_with fail
        go_roundw
        case rel => exact ⟨H, L, z ++ s ++ t, rfl, rfl, rfl, hHl, hLl, by rw [bytes_app, bytes_app, HSD.out.1, HSD.out.2.1, HSD.out.2.2, HD.out, ST.out], P4, hB4⟩
        case measure => have := HLT.out; simp [intOf]; omega
      · have h0 : h = 0 := by omega
        have g1 : decide (0 < (h : Int)) = false := decide_eq_false (by omega)
        have g1' : decide (0 < h) = false := decide_eq_false hpos
        have g2 : decide ((10000000000000000000 : Int) ≤ (l : Int)) = true := decide_eq_true (by omega)
        have g2' : decide (10000000000000000000 ≤ l) = true := decide_eq_true (by omega)
        clear h0
        go_wp2_with fail
        refine (HDV.out _).mono ?_
        rintro e w2 ⟨rfl, hb2⟩
        have hB2 := since_step hB hb2
        have P2 := P.below hb2
        clear hb2
        go_wp2_with fail
        refine (HF.out _ (hT.on hB2).here).mono ?_
        rintro e w3 ⟨rfl, hb3⟩
        have hB3 := since_step hB2 hb3
        have P3 := P2.below hb3
        clear hb3
        go_wp2_with fail
        refine (HRR.out _).mono ?_
        rintro e w4 ⟨rfl, hb4⟩
        have hB4 := since_step hB3 hb4
        have P4 := P3.below hb4
        clear hb4
        go_wp2_with fail
        go_roundw
        case rel => exact ⟨H, L, z ++ s ++ t, rfl, rfl, rfl, hHl, hLl, by rw [bytes_app, bytes_app, HSD.out.1, HSD.out.2.1, HSD.out.2.2, HD.out, ST.out], P4, hB4⟩
        case measure => have := HLT.out; simp [intOf]; omega
    · have h0 : h = 0 := by omega
      subst h0
      have k1 : decide ((10000000000000000000 : Int) ≤ (l : Int)) = false := decide_eq_false (by omega)
      have k1' : decide (10000000000000000000 ≤ l) = false := decide_eq_false (by omega)
      have hD := HD.out
      rw [Nat.zero_mul, Nat.zero_add] at hD
      have HD2 := Lib.hid hD
      obtain ⟨s, hs⟩ : ∃ s : ByteArray, s = ⟨(Lib.decDigits l).toArray⟩ := ⟨_, rfl⟩
      have hsd : s.data.toList = Lib.decDigits l := by rw [hs]
      have HSD := Lib.hid hsd
      have HF := fun w ht => sfmt_any l hl w ht
      rw [← hs] at HF
      have HF := Lib.hid HF
      have hsl : s.size ≤ 39 := by
        have h1 := congrArg List.length hD
        rw [List.length_append, ← hsd, bytes_len] at h1
        have h2 := (pad_dec 38 x.natAbs N39).1
        omega
      have ad1 := add_str s t (by omega)
      have ad2 := add_str ⟨#[45]⟩ (s ++ t) (by rw [bytes_size]; have : (⟨#[45]⟩ : ByteArray).size = 1 := rfl; omega)
      clear hD hs hsd hM
      by_cases hx0 : x < 0
      · have g1 : decide (hiN x < 0) = true := decide_eq_true (hneg.2 hx0)
        go_wp2_with fail
        refine (HF.out _ (hT.on hB).here).mono ?_
        rintro e w2 ⟨rfl, hb2⟩
        have hB2 := since_step hB hb2
        obtain ⟨q0, q1, q2, q3, q4⟩ := P.below hb2
        go_wp2_with fail
        go_ret
        exact ⟨⟨_, rfl, by rw [bytes_app, bytes_app, HSD.out]; unfold txt; rw [if_pos hx0, HD2.out]⟩, hB2⟩
      · have g1 : decide (hiN x < 0) = false := decide_eq_false (fun g => hx0 (hneg.1 g))
        go_wp2_with fail
        refine (HF.out _ (hT.on hB).here).mono ?_
        rintro e w2 ⟨rfl, hb2⟩
        have hB2 := since_step hB hb2
        obtain ⟨q0, q1, q2, q3, q4⟩ := P.below hb2
        go_wp2_with fail
        go_ret
        exact ⟨⟨_, rfl, by rw [bytes_app, HSD.out]; unfold txt; rw [if_neg (show ¬ x < 0 by omega), HD2.out, List.nil_append]⟩, hB2⟩
end Go.Proofs.YtdhlbjagmnmjnaaDoor
