import Derived.Laws.Concat
import Derived.Lib.ItoaNum
import Derived.Test.YtpmnjojednbnpaaGreatDoorWr16
section
namespace Go.Proofs.YtpmnjojednbnpaaGreatDoor
open Go.ChangeShapes Go.WideShapes Go.ChangeAt Go.RowKit
set_option linter.unusedVariables false
set_option linter.unusedSimpArgs false


def padD : Nat → Nat → List UInt8
  | 0, _ => []
  | k + 1, r => padD k (r / 10) ++ [UInt8.ofNat (48 + r % 10)]
theorem padD_zero (k : Nat) : padD k 0 = List.replicate k 48 := by
  induction k with
  | zero => rfl
  | succ k ih => rw [padD, show 0 / 10 = 0 from rfl, ih, show UInt8.ofNat (48 + 0 % 10) = 48 from rfl, List.replicate_succ']
theorem dec_big {u : Nat} (h : ¬ u < 10) : Lib.decDigits u = Lib.decDigits (u / 10) ++ [UInt8.ofNat (48 + u % 10)] := by
  rw [Lib.decDigits, dif_neg h]
theorem pad_dec (k : Nat) : ∀ r, r < 10 ^ (k + 1) → (Lib.decDigits r).length ≤ k + 1 ∧ padD (k + 1) r = List.replicate (k + 1 - (Lib.decDigits r).length) 48 ++ Lib.decDigits r := by
  induction k with
  | zero =>
    intro r hr
    have h : r < 10 := by simpa using hr
    rw [Lib.decDigits_one h]
    refine ⟨by simp, ?_⟩
    simp only [padD, List.nil_append, List.length_singleton]
    rw [Nat.mod_eq_of_lt h]
    rfl
  | succ k ih =>
    intro r hr
    by_cases h : r < 10
    · rw [Lib.decDigits_one h]
      refine ⟨by simp, ?_⟩
      rw [padD, show r / 10 = 0 from by omega, padD_zero, Nat.mod_eq_of_lt h]
      simp
    · obtain ⟨h1, h2⟩ := ih (r / 10) (by rw [Nat.pow_succ] at hr; omega)
      rw [dec_big h, padD, h2]
      refine ⟨by simp; omega, ?_⟩
      rw [List.length_append, List.length_singleton, List.append_assoc, show k + 1 + 1 - ((Lib.decDigits (r / 10)).length + 1) = k + 1 - (Lib.decDigits (r / 10)).length from by omega]
def txt (x : Int) : List UInt8 := (if x < 0 then [45] else []) ++ Lib.decDigits x.natAbs
theorem bytes_app (a b : ByteArray) : (a ++ b).data.toList = a.data.toList ++ b.data.toList := by
  obtain ⟨a⟩ := a
  obtain ⟨b⟩ := b
  rw [ByteArray.mk_append_mk]
theorem bytes_len (a : ByteArray) : a.data.toList.length = a.size := by rw [Array.length_toList]; rfl
theorem bytes_size (a b : ByteArray) : (a ++ b).size = a.size + b.size := by
  rw [← bytes_len, ← bytes_len, ← bytes_len, bytes_app, List.length_append]
theorem add_str (a b : ByteArray) (h : a.size + b.size ≤ 1000) : ∀ W, (Op.stringOp .add a b).run Tryz.prog W = .ok (.string (a ++ b)) W := fun W => run_string_add_sum W a b (by omega)
theorem BigAt.in128 {w : World} {s : Bool} {A : Option Addr} {n c : Nat} {z : Int} (h : BigAt w s A n c z) (hz : In128 z) : n ≤ 128 := h.len.2 (by
  rw [show (2 : Nat) ^ 128 = 340282366920938463463374607431768211456 from by decide]
  unfold In128 at hz
  omega)
theorem bdiv_10 (x0 : Int) (s : Bool) (A : Option Addr) (n c : Nat) (w : World) (la : n ≤ 10000) (hx : BigAt w s A n c x0) :
    Calls Tryz.prog 93 #[.agg #[.bool s, .slice A n c], .int .u64 10] w fun e w' =>
      (∃ s' A' n' c', e = .returned (.tuple #[.agg #[.bool s', .slice A' n' c'], .int .u64 (x0 % 10)]) ∧ Fr w.heap.size A' n' ∧ BigAt w' s' A' n' c' (x0 / 10)) ∧ Below w.heap.size w w' :=
  bdiv_any x0 s A n c 10 w la (by decide) (by decide) hx
def digNat (X : Nat) : List UInt8 := if X = 0 then [] else Lib.decDigits X
theorem dig_step (X : Nat) (t : List UInt8) (h : X ≠ 0) : digNat X ++ t = digNat (X / 10) ++ (UInt8.ofNat (48 + X % 10) :: t) := by
  unfold digNat
  rw [if_neg h]
  by_cases h10 : X < 10
  · rw [if_pos (show X / 10 = 0 by omega), Lib.decDigits_one h10, Nat.mod_eq_of_lt h10]; simp
  · rw [if_neg (show X / 10 ≠ 0 by omega), dec_big h10]; simp
theorem dec_dig (N : Nat) : Lib.decDigits N = digNat (N / 10) ++ [UInt8.ofNat (48 + N % 10)] := by
  unfold digNat
  by_cases h10 : N < 10
  · rw [if_pos (show N / 10 = 0 by omega), Lib.decDigits_one h10, Nat.mod_eq_of_lt h10]; rfl
  · rw [if_neg (show N / 10 ≠ 0 by omega), dec_big h10]
set_option maxRecDepth 100000 in
set_option maxHeartbeats 4000000 in
theorem digits_any (x : Int) (hx : In128 x) (s : Bool) (A : Option Addr) (n c : Nat) (w : World) (hX : BigAt w s A n c x) :
    Calls Tryz.prog 64 #[.agg #[.bool s, .slice A n c]] w fun e w' => (∃ r : ByteArray, e = .returned (.string r) ∧ r.data.toList = txt x) ∧ Below w.heap.size w w' := by
  have la := hX.in128 hx
  have hsg := hX.neg_iff
  have N39 : x.natAbs < 10 ^ (38 + 1) := by
    rw [show (10 : Nat) ^ (38 + 1) = 1000000000000000000000000000000000000000 from by decide]
    unfold In128 at hx
    omega
  have hlt := hX.lt
  have P1 := BB.new w s A n c 124
  have hB0 := since_alloc (Below.refl _ w) (.cells #[.bool s, .slice A n c] 124)
  have X0 := hX.abs.below hB0
  have HSG := Lib.hid hsg
  clear hX hx hsg
  go_enter Tryz.func64, Tryz.ntmps64
  go_upto_region 2 with fail
  have hW0 : w.heap.size < (w.alloc (.cells #[.bool s, .slice A n c] 124)).heap.size := P1.1
  generalize w.alloc (.cells #[.bool s, .slice A n c] 124) = W0 at *
  obtain ⟨p0, p1, p2, p3, p4⟩ := _root_.id P1
  have Q1 := BB.new W0 false A n c 124
  have P2 := P1.alloc (.cells #[.bool false, .slice A n c] 124)
  have X1 := X0.alloc (.cells #[.bool false, .slice A n c] 124)
  have hB1 := since_alloc hB0 (.cells #[.bool false, .slice A n c] 124)
  go_wp2_with fail
  go_loopw [3] (fun cs wr => ∃ (t : ByteArray) (X : Nat) (A4 : Option Addr) (n4 c4 : Nat), cs = .string t ∧ BB wr W0.heap.size false A4 n4 c4 ∧ BigAt wr false A4 n4 c4 (X : Int) ∧ (∀ b o, A4 = some ⟨b, o, none⟩ → 0 < n4 → b ≠ W0.heap.size) ∧ BB wr w.heap.size s A n c ∧ n4 ≤ 128 ∧ Below w.heap.size w wr ∧
      W0.heap.size < wr.heap.size ∧ ((t.size = 0 ∧ X = x.natAbs) ∨ (0 < t.size ∧ Lib.decDigits x.natAbs = digNat X ++ t.data.toList))) (fun cs _ => match cs with | .string t => 40 - t.size | _ => 0)
  case atStart => exact ⟨⟨#[]⟩, x.natAbs, A, n, c, rfl, Q1, X1, fun b o hA h0 => by have := hlt b o hA h0; omega, P2, la, hB1, Q1.1, Or.inl ⟨rfl, rfl⟩⟩
  case round =>
    obtain ⟨t, X, A4, n4, c4, rfl, Q, Z, hne, P, n4l, hB, hsz, hD⟩ := hrel
    have hz := Z.len (k := 0)
    have ht : t.size ≤ 39 := by
      rcases hD with ⟨h1, _⟩ | ⟨_, h1⟩
      · omega
      · have h2 := congrArg List.length h1
        rw [List.length_append, bytes_len] at h2
        have h3 := (pad_dec 38 x.natAbs N39).1
        omega
    obtain ⟨q0, q1, q2, q3, q4⟩ := _root_.id Q
    by_cases hgo : t.size = 0 ∨ 0 < n4
    · obtain ⟨R, hR⟩ : ∃ R : Nat, R = X % 10 := ⟨_, rfl⟩
      have hRl : R < 10 := by omega
      obtain ⟨D, hDD⟩ : ∃ D : Nat, D = 48 + R := ⟨_, rfl⟩
      have f0 : (X : Int) % 10 = (R : Int) := by omega
      have f1 : IntKind.u64.wrap (48 + (R : Int)) = (D : Int) := by rw [IntKind.wrap_u64]; omega
      have f2 : IntKind.u8.wrap (D : Int) = (D : Int) := by rw [IntKind.wrap_u8']; omega
      have hDu : ((UInt8.ofNat D).toNat : Int) = (D : Int) := by rw [UInt8.toNat_ofNat']; omega
      have ad := add_str ⟨#[UInt8.ofNat D]⟩ t (by have : (⟨#[UInt8.ofNat D]⟩ : ByteArray).size = 1 := rfl; omega)
      have hD256 : D < 256 := by omega
      have HR := Lib.hid (show R = X % 10 ∧ D = 48 + R from ⟨hR, hDD⟩)
      have HDD := Lib.hid hD
      clear hR hDD hD
      by_cases ht0 : t.size = 0
      · have e0 : t.toList = [] := by rw [ByteArray.toList_eq]; exact List.eq_nil_of_length_eq_zero (by rw [bytes_len]; exact ht0)
        go_wp2_with fail
        refine (bdiv_10 (X : Int) false A4 n4 c4 _ (by omega) Z).mono ?_
        rintro e w2 ⟨⟨s5, A5, n5, c5, rfl, hf5, Z5⟩, hb2⟩
        have hs5 := Z5.neg_iff
        obtain rfl : s5 = false := by rw [hs5]; simp; omega
        have hB2 := since_step hB hb2
        have Q2 := (Q.below hb2).alloc (.cells #[.bool false, .slice A5 n5 c5] 124)
        have P2 := (P.below hb2).alloc (.cells #[.bool false, .slice A5 n5 c5] 124)
        have T2' := BB.new w2 false A5 n5 c5 124
        have Z6 := Z5.alloc (.cells #[.bool false, .slice A5 n5 c5] 124)
        have hB3 := since_alloc hB2 (.cells #[.bool false, .slice A5 n5 c5] 124)
        have n5l : n5 ≤ 128 := by
          have h1 := Z.len.1 n4l
          exact Z5.len.2 (by omega)
        have hz2 : wr.heap.size ≤ w2.heap.size := hb2.size
        clear hb2 hs5 hB2 Z5
        go_upto_region 5 with fail
        have hg2 : w2.heap.size < (w2.alloc (.cells #[.bool false, .slice A5 n5 c5] 124)).heap.size := T2'.1
        generalize w2.alloc (.cells #[.bool false, .slice A5 n5 c5] 124) = W2 at *
        have hcv : (convert 54 9 (.slice (some ⟨W2.heap.size, 0, none⟩) 1 1)).run Tryz.prog (W2.alloc (.cells #[.int .u8 (D : Int)] 5)) = .ok (.string ⟨#[UInt8.ofNat D]⟩) (W2.alloc (.cells #[.int .u8 (D : Int)] 5)) := by
          have h := run_convert_bytes_back (P := Tryz.prog) (W2.alloc (.cells #[.int .u8 (D : Int)] 5)) 54 9 5 ⟨W2.heap.size, 0, none⟩ 1 [UInt8.ofNat D] (by kernel_rfl) (by kernel_rfl) (by kernel_rfl) (fun j hj => by
            have hj0 : j = 0 := by simpa using hj
            subst hj0
            simp [Lib.add_plain]; omega)
          exact h
        have Q3 := Q2.alloc (.cells #[.int .u8 (D : Int)] 5)
        have P3 := P2.alloc (.cells #[.int .u8 (D : Int)] 5)
        have T3' := T2'.alloc (.cells #[.int .u8 (D : Int)] 5)
        have Z7 := Z6.alloc (.cells #[.int .u8 (D : Int)] 5)
        have hB4 := since_alloc hB3 (.cells #[.int .u8 (D : Int)] 5)
        go_upto_region 6 with fail
        generalize W2.alloc (.cells #[.int .u8 (D : Int)] 5) = W3 at *
        obtain ⟨a0, a1, a2, a3, a4⟩ := _root_.id Q3
        obtain ⟨b0, b1, b2, b3, b4⟩ := _root_.id T3'
        have hcs := @cell_set
        have hq : (X : Int) / 10 = ((X / 10 : Nat) : Int) := by omega
        rw [hq] at Z7
        clear hq
        go_wp2_with fail
        go_roundw
        case rel =>
          refine ⟨_, X / 10, A5, n5, c5, rfl, Q3.set2 _ _ _ _, ?_, fun b o hA h0 => by have := hf5 b o hA h0; omega, (P3.far (by simp; omega) _).far (by simp; omega) _, n5l, ?_, by simpa using a0, Or.inr ⟨by rw [bytes_size]; have : (⟨#[UInt8.ofNat D]⟩ : ByteArray).size = 1 := rfl; omega, ?_⟩⟩
          · exact (Z7.far (fun b o hA h0 => by have := hf5 b o hA h0; simp; omega) _).far (fun b o hA h0 => by have := hf5 b o hA h0; simp; omega) _
          · refine Below.setCell (Below.setCell hB4 ?_ _) ?_ _ <;> (simp; omega)
          · rw [bytes_app, HR.out.2, HR.out.1]
            rcases HDD.out with ⟨_, h1⟩ | ⟨h1, _⟩
            · rw [h1, dec_dig x.natAbs]
              have h2 : t.data.toList = [] := by rw [← ByteArray.toList_eq]; exact e0
              rw [h2]; rfl
            · omega
        case measure =>
          show 40 - (⟨#[UInt8.ofNat D]⟩ ++ t : ByteArray).size < 40 - t.size
          rw [bytes_size]
          have : (⟨#[UInt8.ofNat D]⟩ : ByteArray).size = 1 := rfl
          omega
      · have e0 : (t.toList == []) = false := by
          rw [ByteArray.toList_eq]
          cases h : t.data.toList with
          | nil => exfalso; have := bytes_len t; rw [h] at this; simp at this; omega
          | cons a b => rfl
        have hn4 : 0 < n4 := by omega
        have d1 : decide (0 < (n4 : Int)) = true := decide_eq_true (by omega)
        have d1' : decide (0 < n4) = true := decide_eq_true hn4
        go_wp2_with fail
        refine (bdiv_10 (X : Int) false A4 n4 c4 _ (by omega) Z).mono ?_
        rintro e w2 ⟨⟨s5, A5, n5, c5, rfl, hf5, Z5⟩, hb2⟩
        have hs5 := Z5.neg_iff
        obtain rfl : s5 = false := by rw [hs5]; simp; omega
        have hB2 := since_step hB hb2
        have Q2 := (Q.below hb2).alloc (.cells #[.bool false, .slice A5 n5 c5] 124)
        have P2 := (P.below hb2).alloc (.cells #[.bool false, .slice A5 n5 c5] 124)
        have T2' := BB.new w2 false A5 n5 c5 124
        have Z6 := Z5.alloc (.cells #[.bool false, .slice A5 n5 c5] 124)
        have hB3 := since_alloc hB2 (.cells #[.bool false, .slice A5 n5 c5] 124)
        have n5l : n5 ≤ 128 := by
          have h1 := Z.len.1 n4l
          exact Z5.len.2 (by omega)
        have hz2 : wr.heap.size ≤ w2.heap.size := hb2.size
        clear hb2 hs5 hB2 Z5
        go_upto_region 5 with fail
        have hg2 : w2.heap.size < (w2.alloc (.cells #[.bool false, .slice A5 n5 c5] 124)).heap.size := T2'.1
        generalize w2.alloc (.cells #[.bool false, .slice A5 n5 c5] 124) = W2 at *
        have hcv : (convert 54 9 (.slice (some ⟨W2.heap.size, 0, none⟩) 1 1)).run Tryz.prog (W2.alloc (.cells #[.int .u8 (D : Int)] 5)) = .ok (.string ⟨#[UInt8.ofNat D]⟩) (W2.alloc (.cells #[.int .u8 (D : Int)] 5)) := by
          have h := run_convert_bytes_back (P := Tryz.prog) (W2.alloc (.cells #[.int .u8 (D : Int)] 5)) 54 9 5 ⟨W2.heap.size, 0, none⟩ 1 [UInt8.ofNat D] (by kernel_rfl) (by kernel_rfl) (by kernel_rfl) (fun j hj => by
            have hj0 : j = 0 := by simpa using hj
            subst hj0
            simp [Lib.add_plain]; omega)
          exact h
        have Q3 := Q2.alloc (.cells #[.int .u8 (D : Int)] 5)
        have P3 := P2.alloc (.cells #[.int .u8 (D : Int)] 5)
        have T3' := T2'.alloc (.cells #[.int .u8 (D : Int)] 5)
        have Z7 := Z6.alloc (.cells #[.int .u8 (D : Int)] 5)
        have hB4 := since_alloc hB3 (.cells #[.int .u8 (D : Int)] 5)
        go_upto_region 6 with fail
        generalize W2.alloc (.cells #[.int .u8 (D : Int)] 5) = W3 at *
        obtain ⟨a0, a1, a2, a3, a4⟩ := _root_.id Q3
        obtain ⟨b0, b1, b2, b3, b4⟩ := _root_.id T3'
        have hcs := @cell_set
        have hq : (X : Int) / 10 = ((X / 10 : Nat) : Int) := by omega
        rw [hq] at Z7
        clear hq
        go_wp2_with fail
        go_roundw
        case rel =>
          refine ⟨_, X / 10, A5, n5, c5, rfl, Q3.set2 _ _ _ _, ?_, fun b o hA h0 => by have := hf5 b o hA h0; omega, (P3.far (by simp; omega) _).far (by simp; omega) _, n5l, ?_, by simpa using a0, Or.inr ⟨by rw [bytes_size]; have : (⟨#[UInt8.ofNat D]⟩ : ByteArray).size = 1 := rfl; omega, ?_⟩⟩
          · exact (Z7.far (fun b o hA h0 => by have := hf5 b o hA h0; simp; omega) _).far (fun b o hA h0 => by have := hf5 b o hA h0; simp; omega) _
          · refine Below.setCell (Below.setCell hB4 ?_ _) ?_ _ <;> (simp; omega)
          · rw [bytes_app, HR.out.2, HR.out.1]
            rcases HDD.out with ⟨h1, _⟩ | ⟨_, h1⟩
            · omega
            · rw [h1, dig_step X _ (by intro e; rw [e] at hz; simp at hz; omega)]; rfl
        case measure =>
          show 40 - (⟨#[UInt8.ofNat D]⟩ ++ t : ByteArray).size < 40 - t.size
          rw [bytes_size]
          have : (⟨#[UInt8.ofNat D]⟩ : ByteArray).size = 1 := rfl
          omega
    · have ht0 : 0 < t.size := by omega
      have e0 : (t.toList == []) = false := by
        rw [ByteArray.toList_eq]
        cases h : t.data.toList with
        | nil => exfalso; have := bytes_len t; rw [h] at this; simp at this; omega
        | cons a b => rfl
      have hn4 : ¬ 0 < n4 := by omega
      have d1 : decide (0 < (n4 : Int)) = false := decide_eq_false (by omega)
      have d1' : decide (0 < n4) = false := decide_eq_false hn4
      have hX0 : X = 0 := by
        have := hz.1 (by omega)
        simpa using this
      have hfin : Lib.decDigits x.natAbs = t.data.toList := by
        rcases hD with ⟨h1, _⟩ | ⟨_, h1⟩
        · omega
        · rw [h1, hX0]; rfl
      have HF := Lib.hid hfin
      have ad := add_str ⟨#[45]⟩ t (by have : (⟨#[45]⟩ : ByteArray).size = 1 := rfl; omega)
      clear hfin hD hgo hz
      by_cases hx0 : x < 0
      · have hs1 : s = true := by rw [HSG.out]; exact decide_eq_true hx0
        have HX0 := Lib.hid hx0
        subst hs1
        obtain ⟨p0, p1, p2, p3, p4⟩ := _root_.id P
        go_wp2_with fail
        go_ret
        exact ⟨⟨_, rfl, by rw [bytes_app]; unfold txt; rw [if_pos HX0.out, HF.out]⟩, hB⟩
      · have hs1 : s = false := by rw [HSG.out]; exact decide_eq_false hx0
        have HX0 := Lib.hid hx0
        subst hs1
        obtain ⟨p0, p1, p2, p3, p4⟩ := _root_.id P
        go_wp2_with fail
        go_ret
        exact ⟨⟨_, rfl, by unfold txt; rw [if_neg (show ¬ x < 0 by omega), HF.out, List.nil_append]⟩, hB⟩
end Go.Proofs.YtpmnjojednbnpaaGreatDoor
end
