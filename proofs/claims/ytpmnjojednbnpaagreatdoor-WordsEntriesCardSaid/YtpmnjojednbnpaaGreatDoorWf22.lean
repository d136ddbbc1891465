import Derived.Laws.Concat
import Derived.Lib.ItoaNum
import Derived.Test.YtpmnjojednbnpaaGreatDoorWf21
import Derived.Test.YtpmnjojednbnpaaGreatDoorWf12
import Derived.Deep.CutBlock
import Derived.Deep.CutRange
import Derived.Deep.DeepCutAuto
import Derived.Test.YtpmnjojednbnpaaGreatDoorWf20
set_option maxHeartbeats 16000000
set_option maxRecDepth 100000
set_option linter.unusedVariables false
set_option linter.unusedSimpArgs false
namespace Go.Proofs.YtpmnjojednbnpaaGreatDoor
open Go.ChangeShapes Go.WideShapes Go.ChangeAt Go.RowKit
section
def padD : Nat → Nat → List UInt8
  | 0, _ => []
  | k + 1, r => padD k (r / 10) ++ [UInt8.ofNat (48 + r % 10)]
theorem padD_zero (k : Nat) : padD k 0 = List.replicate k 48 := by
 induction k with
 | zero => rfl
 | succ k ih => rw [padD, show 0 / 10 = 0 from rfl, ih, show UInt8.ofNat (48 + 0 % 10) = 48 from rfl, List.replicate_succ']
theorem dec_big {u : Nat} (h : ¬ u < 10) : Lib.decDigits u = Lib.decDigits (u / 10) ++ [UInt8.ofNat (48 + u % 10)] := by
 rw [Lib.decDigits, dif_neg h]
theorem dec_len_pos (u : Nat) : 0 < (Lib.decDigits u).length := by
 by_cases h : u < 10
 ·rw [Lib.decDigits_one h]; simp
 ·rw [dec_big h]; simp
theorem pad_dec (k : Nat) : ∀ r, r < 10 ^ (k + 1) → (Lib.decDigits r).length ≤ k + 1 ∧ padD (k + 1) r = List.replicate (k + 1 - (Lib.decDigits r).length) 48 ++ Lib.decDigits r := by
 induction k with
 | zero =>
  intro r hr;have h : r < 10 := by simpa using hr
  rw [Lib.decDigits_one h];refine ⟨by simp, ?_⟩;simp only [padD, List.nil_append, List.length_singleton];rw [Nat.mod_eq_of_lt h];rfl
 | succ k ih =>
  intro r hr
  by_cases h : r < 10
  ·rw [Lib.decDigits_one h];refine ⟨by simp, ?_⟩;rw [padD, show r / 10 = 0 from by omega, padD_zero, Nat.mod_eq_of_lt h];simp
  ·obtain ⟨h1, h2⟩ := ih (r / 10) (by rw [Nat.pow_succ] at hr; omega);rw [dec_big h, padD, h2];refine ⟨by simp; omega, ?_⟩;rw [List.length_append, List.length_singleton, List.append_assoc, show k + 1 + 1 - ((Lib.decDigits (r / 10)).length + 1) = k + 1 - (Lib.decDigits (r / 10)).length from by omega]
def txt (x : Int) : List UInt8 := (if x < 0 then [45] else []) ++ Lib.decDigits x.natAbs
theorem bytes_app (a b : ByteArray) : (a ++ b).data.toList = a.data.toList ++ b.data.toList := by
 obtain ⟨a⟩ := a;obtain ⟨b⟩ := b;rw [ByteArray.mk_append_mk]
theorem bytes_len (a : ByteArray) : a.data.toList.length = a.size := by rw [Array.length_toList]; rfl
theorem bytes_size (a b : ByteArray) : (a ++ b).size = a.size + b.size := by
 rw [← bytes_len, ← bytes_len, ← bytes_len, bytes_app, List.length_append]
theorem add_str (a b : ByteArray) (h : a.size + b.size ≤ 1000) : ∀ W, (Op.stringOp .add a b).run Tryz.prog W = .ok (.string (a ++ b)) W := fun W => run_string_add_sum W a b (by omega)
theorem BigAt.in128 {w : World} {s : Bool} {A : Option Addr} {n c : Nat} {z : Int} (h : BigAt w s A n c z) (hz : In128 z) : n ≤ 128 := h.len.2 (by
 rw [show (2 : Nat) ^ 128 = 340282366920938463463374607431768211456 from by decide];unfold In128 at hz
 omega)
theorem bdiv_10 (x0 : Int) (s : Bool) (A : Option Addr) (n c : Nat) (w : World) (la : n ≤ 10000) (hx : BigAt w s A n c x0) :
  Calls Tryz.prog 93 #[.agg #[.bool s, .slice A n c], .int .u64 10] w fun e w' =>
   (∃ s' A' n' c', e = .returned (.tuple #[.agg #[.bool s', .slice A' n' c'], .int .u64 (x0 % 10)]) ∧ Fr w.heap.size A' n' ∧ BigAt w' s' A' n' c' (x0 / 10)) ∧ Below w.heap.size w w' :=
 bdiv_any x0 s A n c 10 w la (by decide) (by decide) hx
def digNat (X : Nat) : List UInt8 := if X = 0 then [] else Lib.decDigits X
theorem dig_step (X : Nat) (t : List UInt8) (h : X ≠ 0) : digNat X ++ t = digNat (X / 10) ++ (UInt8.ofNat (48 + X % 10) :: t) := by
 unfold digNat
 rw [if_neg h]
 by_cases h10 : X < 10
 ·rw [if_pos (show X / 10 = 0 by omega), Lib.decDigits_one h10, Nat.mod_eq_of_lt h10]; simp
 ·rw [if_neg (show X / 10 ≠ 0 by omega), dec_big h10]; simp
theorem dec_dig (N : Nat) : Lib.decDigits N = digNat (N / 10) ++ [UInt8.ofNat (48 + N % 10)] := by
 unfold digNat
 by_cases h10 : N < 10
 ·rw [if_pos (show N / 10 = 0 by omega), Lib.decDigits_one h10, Nat.mod_eq_of_lt h10]; rfl
 ·rw [if_neg (show N / 10 ≠ 0 by omega), dec_big h10]
theorem digits_any (x : Int) (hx : In128 x) (s : Bool) (A : Option Addr) (n c : Nat) (w : World) (hX : BigAt w s A n c x) :
  Calls Tryz.prog 64 #[.agg #[.bool s, .slice A n c]] w fun e w' => (∃ r : ByteArray, e = .returned (.string r) ∧ r.data.toList = txt x) ∧ Below w.heap.size w w' := by
 have la := hX.in128 hx;have hsg := hX.neg_iff
 have N39 : x.natAbs < 10 ^ (38 + 1) := by
  rw [show (10 : Nat) ^ (38 + 1) = 1000000000000000000000000000000000000000 from by decide];unfold In128 at hx;omega
 have hlt := hX.lt;have P1 := BB.new w s A n c 124;have hB0 := since_alloc (Below.refl _ w) (.cells #[.bool s, .slice A n c] 124);have X0 := hX.abs.below hB0;have HSG := hJz hsg;clear hX hx hsg;go_enter Tryz.func64, Tryz.ntmps64;go_upto_region 2 with fail;have hW0 : w.heap.size < (w.alloc (.cells #[.bool s, .slice A n c] 124)).heap.size := P1.1;generalize w.alloc (.cells #[.bool s, .slice A n c] 124) = W0 at *;obtain ⟨p0, p1, p2, p3, p4⟩ := _root_.id P1;have Q1 := BB.new W0 false A n c 124;have P2 := P1.alloc (.cells #[.bool false, .slice A n c] 124);have X1 := X0.alloc (.cells #[.bool false, .slice A n c] 124);have hB1 := since_alloc hB0 (.cells #[.bool false, .slice A n c] 124);go_wp2_with fail
 go_loopw [3] (fun cs wr => ∃ (t : ByteArray) (X : Nat) (A4 : Option Addr) (n4 c4 : Nat), cs = .string t ∧ BB wr W0.heap.size false A4 n4 c4 ∧ BigAt wr false A4 n4 c4 (X : Int) ∧ (∀ b o, A4 = some ⟨b, o, none⟩ → 0 < n4 → b ≠ W0.heap.size) ∧ BB wr w.heap.size s A n c ∧ n4 ≤ 128 ∧ Below w.heap.size w wr ∧
   W0.heap.size < wr.heap.size ∧ ((t.size = 0 ∧ X = x.natAbs) ∨ (0 < t.size ∧ Lib.decDigits x.natAbs = digNat X ++ t.data.toList))) (fun cs _ => match cs with | .string t => 40 - t.size | _ => 0)
 case atStart => exact ⟨⟨#[]⟩, x.natAbs, A, n, c, rfl, Q1, X1, fun b o hA h0 => by have := hlt b o hA h0; omega, P2, la, hB1, Q1.1, Or.inl ⟨rfl, rfl⟩⟩
 case round =>
  obtain ⟨t, X, A4, n4, c4, rfl, Q, Z, hne, P, n4l, hB, hsz, hD⟩ := hrel;have hz := Z.len (k := 0)
  have ht : t.size ≤ 39 := by
   rcases hD with ⟨h1, _⟩ | ⟨_, h1⟩
   ·omega
   ·have h2 := congrArg List.length h1;rw [List.length_append, bytes_len] at h2;have h3 := (pad_dec 38 x.natAbs N39).1;omega
  obtain ⟨q0, q1, q2, q3, q4⟩ := _root_.id Q
  by_cases hgo : t.size = 0 ∨ 0 < n4
  ·obtain ⟨R, hR⟩ : ∃ R : Nat, R = X % 10 := ⟨_, rfl⟩;have hRl : R < 10 := by omega
   obtain ⟨D, hDD⟩ : ∃ D : Nat, D = 48 + R := ⟨_, rfl⟩;have f0 : (X : Int) % 10 = (R : Int) := by omega
   have f1 : IntKind.u64.wrap (48 + (R : Int)) = (D : Int) := by rw [IntKind.wrap_u64]; omega
   have f2 : IntKind.u8.wrap (D : Int) = (D : Int) := by rw [IntKind.wrap_u8']; omega
   have hDu : ((UInt8.ofNat D).toNat : Int) = (D : Int) := by rw [UInt8.toNat_ofNat']; omega
   have ad := add_str ⟨#[UInt8.ofNat D]⟩ t (by have : (⟨#[UInt8.ofNat D]⟩ : ByteArray).size = 1 := rfl; omega);have hD256 : D < 256 := by omega
   have HR := hJz (show R = X % 10 ∧ D = 48 + R from ⟨hR, hDD⟩);have HDD := hJz hD;clear hR hDD hD
   by_cases ht0 : t.size = 0
   ·have e0 : t.toList = [] := by rw [ByteArray.toList_eq]; exact List.eq_nil_of_length_eq_zero (by rw [bytes_len]; exact ht0)
    go_wp2_with fail;refine (bdiv_10 (X : Int) false A4 n4 c4 _ (by omega) Z).mono ?_;rintro e w2 ⟨⟨s5, A5, n5, c5, rfl, hf5, Z5⟩, hb2⟩;have hs5 := Z5.neg_iff;obtain rfl : s5 = false := by rw [hs5]; simp; omega
    have hB2 := since_step hB hb2;have Q2 := (Q.below hb2).alloc (.cells #[.bool false, .slice A5 n5 c5] 124);have P2 := (P.below hb2).alloc (.cells #[.bool false, .slice A5 n5 c5] 124);have T2' := BB.new w2 false A5 n5 c5 124;have Z6 := Z5.alloc (.cells #[.bool false, .slice A5 n5 c5] 124);have hB3 := since_alloc hB2 (.cells #[.bool false, .slice A5 n5 c5] 124)
    have n5l : n5 ≤ 128 := by
     have h1 := Z.len.1 n4l;exact Z5.len.2 (by omega)
    have hz2 : wr.heap.size ≤ w2.heap.size := hb2.size;clear hb2 hs5 hB2 Z5;go_upto_region 5 with fail;have hg2 : w2.heap.size < (w2.alloc (.cells #[.bool false, .slice A5 n5 c5] 124)).heap.size := T2'.1;generalize w2.alloc (.cells #[.bool false, .slice A5 n5 c5] 124) = W2 at *
    have hcv : (convert 54 9 (.slice (some ⟨W2.heap.size, 0, none⟩) 1 1)).run Tryz.prog (W2.alloc (.cells #[.int .u8 (D : Int)] 5)) = .ok (.string ⟨#[UInt8.ofNat D]⟩) (W2.alloc (.cells #[.int .u8 (D : Int)] 5)) := by
     have h := run_convert_bytes_back (P := Tryz.prog) (W2.alloc (.cells #[.int .u8 (D : Int)] 5)) 54 9 5 ⟨W2.heap.size, 0, none⟩ 1 [UInt8.ofNat D] (by kernel_rfl) (by kernel_rfl) (by kernel_rfl) (fun j hj => by
      have hj0 : j = 0 := by simpa using hj
      subst hj0
      simp [Lib.add_plain]; omega)
     exact h
    have Q3 := Q2.alloc (.cells #[.int .u8 (D : Int)] 5);have P3 := P2.alloc (.cells #[.int .u8 (D : Int)] 5);have T3' := T2'.alloc (.cells #[.int .u8 (D : Int)] 5);have Z7 := Z6.alloc (.cells #[.int .u8 (D : Int)] 5);have hB4 := since_alloc hB3 (.cells #[.int .u8 (D : Int)] 5);go_upto_region 6 with fail;generalize W2.alloc (.cells #[.int .u8 (D : Int)] 5) = W3 at *;obtain ⟨a0, a1, a2, a3, a4⟩ := _root_.id Q3;obtain ⟨b0, b1, b2, b3, b4⟩ := _root_.id T3';have hcs := @cell_set;have hq : (X : Int) / 10 = ((X / 10 : Nat) : Int) := by omega
    rw [hq] at Z7;clear hq;go_wp2_with fail;go_roundw
    case rel =>
     refine ⟨_, X / 10, A5, n5, c5, rfl, Q3.set2 _ _ _ _, ?_, fun b o hA h0 => by have := hf5 b o hA h0; omega, (P3.far (by simp; omega) _).far (by simp; omega) _, n5l, ?_, by simpa using a0, Or.inr ⟨by rw [bytes_size]; have : (⟨#[UInt8.ofNat D]⟩ : ByteArray).size = 1 := rfl; omega, ?_⟩⟩
     ·exact (Z7.far (fun b o hA h0 => by have := hf5 b o hA h0; simp; omega) _).far (fun b o hA h0 => by have := hf5 b o hA h0; simp; omega) _
     ·refine Below.setCell (Below.setCell hB4 ?_ _) ?_ _ <;> (simp; omega)
     ·rw [bytes_app, HR.out.2, HR.out.1]
      rcases HDD.out with ⟨_, h1⟩ | ⟨h1, _⟩
      ·rw [h1, dec_dig x.natAbs];have h2 : t.data.toList = [] := by rw [← ByteArray.toList_eq]; exact e0
       rw [h2]; rfl
      ·omega
    case measure =>
     show 40 - (⟨#[UInt8.ofNat D]⟩ ++ t : ByteArray).size < 40 - t.size
     rw [bytes_size];have : (⟨#[UInt8.ofNat D]⟩ : ByteArray).size = 1 := rfl;omega
   ·have e0 : (t.toList == []) = false := by
     rw [ByteArray.toList_eq]
     cases h : t.data.toList with
     | nil => exfalso; have := bytes_len t; rw [h] at this; simp at this; omega
     | cons a b => rfl
    have hn4 : 0 < n4 := by omega
    have d1 : decide (0 < (n4 : Int)) = true := decide_eq_true (by omega);have d1' : decide (0 < n4) = true := decide_eq_true hn4;go_wp2_with fail;refine (bdiv_10 (X : Int) false A4 n4 c4 _ (by omega) Z).mono ?_;rintro e w2 ⟨⟨s5, A5, n5, c5, rfl, hf5, Z5⟩, hb2⟩;have hs5 := Z5.neg_iff;obtain rfl : s5 = false := by rw [hs5]; simp; omega
    have hB2 := since_step hB hb2;have Q2 := (Q.below hb2).alloc (.cells #[.bool false, .slice A5 n5 c5] 124);have P2 := (P.below hb2).alloc (.cells #[.bool false, .slice A5 n5 c5] 124);have T2' := BB.new w2 false A5 n5 c5 124;have Z6 := Z5.alloc (.cells #[.bool false, .slice A5 n5 c5] 124);have hB3 := since_alloc hB2 (.cells #[.bool false, .slice A5 n5 c5] 124)
    have n5l : n5 ≤ 128 := by
     have h1 := Z.len.1 n4l;exact Z5.len.2 (by omega)
    have hz2 : wr.heap.size ≤ w2.heap.size := hb2.size;clear hb2 hs5 hB2 Z5;go_upto_region 5 with fail;have hg2 : w2.heap.size < (w2.alloc (.cells #[.bool false, .slice A5 n5 c5] 124)).heap.size := T2'.1;generalize w2.alloc (.cells #[.bool false, .slice A5 n5 c5] 124) = W2 at *
    have hcv : (convert 54 9 (.slice (some ⟨W2.heap.size, 0, none⟩) 1 1)).run Tryz.prog (W2.alloc (.cells #[.int .u8 (D : Int)] 5)) = .ok (.string ⟨#[UInt8.ofNat D]⟩) (W2.alloc (.cells #[.int .u8 (D : Int)] 5)) := by
     have h := run_convert_bytes_back (P := Tryz.prog) (W2.alloc (.cells #[.int .u8 (D : Int)] 5)) 54 9 5 ⟨W2.heap.size, 0, none⟩ 1 [UInt8.ofNat D] (by kernel_rfl) (by kernel_rfl) (by kernel_rfl) (fun j hj => by
      have hj0 : j = 0 := by simpa using hj
      subst hj0
      simp [Lib.add_plain]; omega)
     exact h
    have Q3 := Q2.alloc (.cells #[.int .u8 (D : Int)] 5);have P3 := P2.alloc (.cells #[.int .u8 (D : Int)] 5);have T3' := T2'.alloc (.cells #[.int .u8 (D : Int)] 5);have Z7 := Z6.alloc (.cells #[.int .u8 (D : Int)] 5);have hB4 := since_alloc hB3 (.cells #[.int .u8 (D : Int)] 5);go_upto_region 6 with fail;generalize W2.alloc (.cells #[.int .u8 (D : Int)] 5) = W3 at *;obtain ⟨a0, a1, a2, a3, a4⟩ := _root_.id Q3;obtain ⟨b0, b1, b2, b3, b4⟩ := _root_.id T3';have hcs := @cell_set;have hq : (X : Int) / 10 = ((X / 10 : Nat) : Int) := by omega
    rw [hq] at Z7;clear hq;go_wp2_with fail;go_roundw
    case rel =>
     refine ⟨_, X / 10, A5, n5, c5, rfl, Q3.set2 _ _ _ _, ?_, fun b o hA h0 => by have := hf5 b o hA h0; omega, (P3.far (by simp; omega) _).far (by simp; omega) _, n5l, ?_, by simpa using a0, Or.inr ⟨by rw [bytes_size]; have : (⟨#[UInt8.ofNat D]⟩ : ByteArray).size = 1 := rfl; omega, ?_⟩⟩
     ·exact (Z7.far (fun b o hA h0 => by have := hf5 b o hA h0; simp; omega) _).far (fun b o hA h0 => by have := hf5 b o hA h0; simp; omega) _
     ·refine Below.setCell (Below.setCell hB4 ?_ _) ?_ _ <;> (simp; omega)
     ·rw [bytes_app, HR.out.2, HR.out.1]
      rcases HDD.out with ⟨h1, _⟩ | ⟨_, h1⟩
      ·omega
      ·rw [h1, dig_step X _ (by intro e; rw [e] at hz; simp at hz; omega)]; rfl
    case measure =>
     show 40 - (⟨#[UInt8.ofNat D]⟩ ++ t : ByteArray).size < 40 - t.size
     rw [bytes_size];have : (⟨#[UInt8.ofNat D]⟩ : ByteArray).size = 1 := rfl;omega
  ·have ht0 : 0 < t.size := by omega
   have e0 : (t.toList == []) = false := by
    rw [ByteArray.toList_eq]
    cases h : t.data.toList with
    | nil => exfalso; have := bytes_len t; rw [h] at this; simp at this; omega
    | cons a b => rfl
   have hn4 : ¬ 0 < n4 := by omega
   have d1 : decide (0 < (n4 : Int)) = false := decide_eq_false (by omega);have d1' : decide (0 < n4) = false := decide_eq_false hn4
   have hX0 : X = 0 := by
    have := hz.1 (by omega);simpa using this
   have hfin : Lib.decDigits x.natAbs = t.data.toList := by
    rcases hD with ⟨h1, _⟩ | ⟨_, h1⟩
    ·omega
    ·rw [h1, hX0]; rfl
   have HF := hJz hfin;have ad := add_str ⟨#[45]⟩ t (by have : (⟨#[45]⟩ : ByteArray).size = 1 := rfl; omega);clear hfin hD hgo hz
   by_cases hx0 : x < 0
   ·have hs1 : s = true := by rw [HSG.out]; exact decide_eq_true hx0
    have HX0 := hJz hx0;subst hs1;obtain ⟨p0, p1, p2, p3, p4⟩ := _root_.id P;go_wp2_with fail;go_ret;exact ⟨⟨_, rfl, by rw [bytes_app]; unfold txt; rw [if_pos HX0.out, HF.out]⟩, hB⟩
   ·have hs1 : s = false := by rw [HSG.out]; exact decide_eq_false hx0
    have HX0 := hJz hx0;subst hs1;obtain ⟨p0, p1, p2, p3, p4⟩ := _root_.id P;go_wp2_with fail;go_ret;exact ⟨⟨_, rfl, by unfold txt; rw [if_neg (show ¬ x < 0 by omega), HF.out, List.nil_append]⟩, hB⟩
end
section
structure Db where
  a : Int
  b : Int
  c : Int
  d : Int
  q : Int
def Db.cells (x : Db) : List Value := [.int .i64 x.a, .int .i64 x.b, .int .i64 x.c, .int .i64 x.d, .int .i64 x.q]
def Db.in64 (x : Db) : Prop := In64p x.a ∧ In64p x.b ∧ In64p x.c ∧ In64p x.d ∧ In64p x.q
structure Lo where
  a : Int
  b : Int
  q : Int
def Lo.cells (x : Lo) : List Value := [.int .i64 x.a, .int .i64 x.b, .int .i64 x.q]
def Lo.in64 (x : Lo) : Prop := In64p x.a ∧ In64p x.b ∧ In64p x.q
structure Rn where
  a : Int
  b : Int
  q : Int
  A : Option Addr
  c : Nat
  lots : List Lo
def Rn.cells (x : Rn) : List Value := [.int .i64 x.a, .int .i64 x.b, .int .i64 x.q, .slice x.A x.lots.length x.c]
structure Rn.ok (w : World) (x : Rn) : Prop where
  ia : In64p x.a
  ib : In64p x.b
  iq : In64p x.q
  ll : x.lots.length ≤ 100
  il : ∀ y ∈ x.lots, y.in64
  sl : Sl w x.A (rc Lo.cells x.lots)
theorem Rn.ok.below {w w' : World} {x : Rn} (h : x.ok w) (hb : Below w.heap.size w w') : x.ok w' := ⟨h.ia, h.ib, h.iq, h.ll, h.il, h.sl.below hb⟩
def Lw (n : Nat) (L : List (List UInt8)) : Prop := L.length ≤ n ∧ ∀ x ∈ L, x.length ≤ 44
theorem Lw.app {n m : Nat} {L M : List (List UInt8)} (h : Lw n L) (k : Lw m M) : Lw (n + m) (L ++ M) := ⟨by rw [List.length_append]; exact Nat.add_le_add h.1 k.1, fun x hx => (List.mem_append.1 hx).elim (h.2 x) (k.2 x)⟩
theorem Lw.up {n m : Nat} {L : List (List UInt8)} (h : Lw n L) (hm : n ≤ m) : Lw m L := ⟨Nat.le_trans h.1 hm, h.2⟩
theorem unitB_len {a b : Int} (ha : In64p a) (hb : In64p b) : (unitB a b).length ≤ 43 := by
 have h1 := itoa_len a ha;have h2 := itoa_len b hb;unfold unitB;rw [List.length_append, List.length_cons];omega
theorem nums_lw {nums : List Int} (h : ∀ x ∈ nums, In64p x) : Lw nums.length (nums.map Lib.itoa) := ⟨by simp, fun x hx => by
 obtain ⟨n, hn, rfl⟩ := List.mem_map.1 hx;have := itoa_len n (h n hn)
 omega⟩
end
section
theorem txt_itoa (n : Int) : txt n = Lib.itoa n := by
 unfold txt Lib.itoa
 split
 ·rename_i h
  have e : (-n).toNat = n.natAbs := by omega
  simp [e]
 ·rename_i h
  have e : n.toNat = n.natAbs := by omega
  simp [e]
theorem eq_S8 {r : ByteArray} {l : List UInt8} (h : r.data.toList = l) : r = S8 l := by
 subst h;rfl
theorem rnum40 (n : Int) (hn : In64p n) (w : World) :
  Calls Tryz.prog 35 #[.int .i64 n] w fun e w' => e = .returned (.string (S8 (Lib.itoa n))) ∧ Below w.heap.size w w' := by
 have HO := hJz (bof_any n w ⟨hn.1, hn.2⟩);have HI : Hid (In128 n) := hJz (by unfold In64p at hn; unfold In128; omega);clear hn;go_enter Tryz.func35, Tryz.ntmps35;go_wp2_with fail;refine HO.out.mono ?_;rintro e w1 ⟨⟨s, A, k, c, rfl, _, hX⟩, hb1⟩;have HD := hJz (digits_any n HI.out s A k c w1 hX);clear hX HO;go_wp2_with fail;refine HD.out.mono ?_;rintro e w2 ⟨⟨r, rfl, hr⟩, hb2⟩;have HR : Hid (r = S8 (Lib.itoa n)) := hJz (eq_S8 (by rw [hr, txt_itoa]));have hB := since_step hb1 hb2;clear hr HD;go_wp2_with fail;go_ret;exact ⟨by rw [HR.out]; rfl, hB⟩
theorem runit40 (a b : Int) (ha : In64p a) (hb : In64p b) (w : World) :
  Calls Tryz.prog 37 #[.agg #[.int .i64 a, .int .i64 b]] w fun e w' => e = .returned (.string (S8 (unitB a b))) ∧ Below w.heap.size w w' := by
 have hal := since_alloc (Below.refl _ w) (.cells #[.int .i64 a, .int .i64 b] 23);have hx := heap_alloc_new w (.cells #[.int .i64 a, .int .i64 b] 23);obtain ⟨Y, hY⟩ : ∃ Y, w.alloc (.cells #[.int .i64 a, .int .i64 b] 23) = Y := ⟨_, rfl⟩;rw [hY] at hal hx;have HY := hJz hY;have HAL := hJz hal
 have HF : Hid (∀ V, Below Y.heap.size Y V → V.cell? ⟨w.heap.size, 0, none⟩ = some (.int .i64 a) ∧ V.cell? ⟨w.heap.size, 0 + 1, none⟩ = some (.int .i64 b) ∧ w.heap.size < V.heap.size) := hJz fun V hV => by
  have h := (hV.block _ (Array.getElem?_eq_some_iff.1 hx).1).trans hx;exact ⟨(cell_of_row V _ 0 _ _ (0, 0) h).trans rfl, (cell_of_row V _ 1 _ _ (0, 0) h).trans rfl, (Array.getElem?_eq_some_iff.1 h).1⟩
 have HS1 := hJz (fun V => rnum40 a ha V);have HS2 := hJz (fun V => rnum40 b hb V);have la := itoa_len a ha;have lb := itoa_len b hb;have HU : Hid (unitB a b = Lib.itoa a ++ 46 :: Lib.itoa b) := hJz rfl;generalize Lib.itoa a = DA at *;generalize Lib.itoa b = DB at *;have hs1 := add_strW DA [46] (by simp; omega);have hs2 := add_strW (DA ++ [46]) DB (by simp; omega);have hpt : S8 [46] = (⟨#[46]⟩ : ByteArray) := rfl;rw [hpt] at hs1;clear hpt hal hx hY la lb ha hb;go_enter Tryz.func37, Tryz.ntmps37;go_upto_region 1 with fail;rw [HY.out];refine wp_region_held_drew (S := (fun V => Below Y.heap.size Y V)) (by kernel_rfl) (by exact (Below.refl _ _).drew) (fun hHeld => ?_);refine tkI 0 3 rfl (by intro w hSw; obtain ⟨p0, p1, pl⟩ := HF.out _ (hSw); go_simp <;> with_reducible rfl) hHeld ?_; simp only [pqZ];refine tkI 1 4 rfl (by intro w hSw; obtain ⟨p0, p1, pl⟩ := HF.out _ (hSw); go_simp <;> with_reducible rfl) hHeld ?_; simp only [pqZ];refine tkI 4 7 rfl (by intro w hSw; obtain ⟨p0, p1, pl⟩ := HF.out _ (hSw); go_simp <;> with_reducible rfl) hHeld ?_; simp only [pqZ];refine tkI 5 8 rfl (by intro w hSw; obtain ⟨p0, p1, pl⟩ := HF.out _ (hSw); go_simp <;> with_reducible rfl) hHeld ?_; simp only [pqZ];refine rdZ 2 5 rfl (by kernel_rfl) (fun K hK => ?_)
 go_simp
 refine (HS1.out _).mono ?_;rintro e y1 ⟨rfl, hb1⟩;have hKeep := since_step hHeld hb1;clear hb1;go_wp2_with fail;refine hK.out _ _ (by (try dsimp only); exact hKeep) (fun hHeld => ?_); clear hK K hKeep; try simp only [pqZ]
 refine tkI 3 6 rfl (by intro w hSw; obtain ⟨p0, p1, pl⟩ := HF.out _ (hSw); go_simp <;> with_reducible rfl) hHeld ?_; simp only [pqZ];refine rdZ 6 9 rfl (by kernel_rfl) (fun K hK => ?_)
 go_simp
 refine (HS2.out _).mono ?_;rintro e y2 ⟨rfl, hb2⟩;have hKeep := since_step hHeld hb2;clear hb2;go_wp2_with fail;refine hK.out _ _ (by (try dsimp only); exact hKeep) (fun hHeld => ?_); clear hK K hKeep; try simp only [pqZ]
 refine tkI 7 10 rfl (by intro w hSw; obtain ⟨p0, p1, pl⟩ := HF.out _ (hSw); go_simp <;> with_reducible rfl) hHeld ?_; simp only [pqZ];refine tkI 8 2 rfl (by intro w hSw; obtain ⟨p0, p1, pl⟩ := HF.out _ (hSw); go_simp <;> with_reducible rfl) hHeld ?_; simp only [pqZ];refine wpAnyH_done (by kernel_rfl) ?_ _;have hB := since_step HAL.out hHeld;go_wp2_with fail;go_ret;exact ⟨by rw [HU.out]; simp, hB⟩
def jn (L : List (List UInt8)) : List UInt8 := L.flatMap fun x => 32 :: x
theorem join_jn (x : List UInt8) (L : List (List UInt8)) : Lib.join (x :: L) [32] = x ++ jn L := by
 rw [Lib.join_cons]
 congr 1
theorem join_more (H M : List (List UInt8)) (h : H ≠ []) : Lib.join (H ++ M) [32] = Lib.join H [32] ++ jn M := by
 match H, h with
 | x :: r, _ =>
  rw [List.cons_append, join_jn, join_jn];unfold jn;rw [List.flatMap_append, List.append_assoc]
theorem join_len {n : Nat} {L : List (List UInt8)} (h : Lw n L) (hn : n ≤ 100000) : (Lib.join L [32]).length ≤ 10000000 := by
 have h1 := join_le L [32] h.2;have : (44 + ([32] : List UInt8).length) * L.length ≤ 45 * 100000 := Nat.mul_le_mul (by simp) (Nat.le_trans h.1 hn);omega
end
section
theorem bval_dropkR (l : List Nat) (j : Nat) (h : j < l.length) : bval (l.drop j) = l[j] + 2 * bval (l.drop (j + 1)) := by
 rw [List.drop_eq_getElem_cons h]; rfl
theorem BigAt.l64 {w : World} {s : Bool} {A : Option Addr} {n c : Nat} {z : Int} (h : BigAt w s A n c z) (hz : In64 z) : n ≤ 64 := (h.len (k := 64)).2 (by unfold In64 at hz; simp; omega)
theorem rint_any (x : Int) (hin : In64 x) (s : Bool) (A : Option Addr) (n c : Nat) (w : World) (hx : BigAt w s A n c x) :
  Calls Tryz.prog 74 #[.agg #[.bool s, .slice A n c]] w fun e w' => e = .returned (.int .i64 x) ∧ Below w.heap.size w w' := by
 have la := hx.l64 hin;obtain ⟨a, h1, h2, h3, h4, h5, h6, h7⟩ := hx.ex;subst h1;clear hx h6;have P1 := BB.new w s A a.length c 124;have hB0 := since_alloc (Below.refl _ w) (.cells #[.bool s, .slice A a.length c] 124);have S1 := h4.below hB0;have H7 := hJz h7;have HI := hJz hin;clear h7 hin h4;go_enter Tryz.func74, Tryz.ntmps74;go_upto_region 1 with fail;generalize w.alloc (.cells #[.bool s, .slice A a.length c] 124) = W0 at *;obtain ⟨p0, p1, p2, p3, p4⟩ := _root_.id P1;go_wp2_with fail;go_loopw [3, 4] (fun vn vi wr => ∃ (k : Nat) (v : Int), vi = .int .i64 k ∧ vn = .int .i64 v ∧ k ≤ a.length ∧ v = (if s = true then -(bval (a.drop k) : Int) else (bval (a.drop k) : Int)) ∧ Below W0.heap.size W0 wr) (fun _ i _ => (intOf i).toNat)
 case atStart => exact ⟨a.length, 0, rfl, rfl, by omega, by simp [bval], Below.refl _ _⟩
 case round =>
  obtain ⟨k, v, rfl, rfl, hk, hv, hB⟩ := hrel;obtain ⟨q0, q1, q2, q3, q4⟩ := P1.below hB;clear p0 p1 p2 p3 p4
  by_cases hk0 : 0 < k
  ·obtain ⟨j, hj⟩ : ∃ j, k = j + 1 := ⟨k - 1, by omega⟩;have hlt : j < a.length := by omega
   obtain ⟨bb, o, rfl, hz⟩ := (S1.below hB).byte hlt;have hbr := World.block_lt_of_cell? _ _ hz;have hbit := h5.1.at_ hlt;have hdr : bval (a.drop j) = a[j] + 2 * bval (a.drop k) := by rw [bval_dropkR a j hlt, ← hj]
   have hle : bval (a.drop j) ≤ bval a := by
    have h8 := bval_drop a j (by omega);have h9 : 1 * bval (a.drop j) ≤ 2 ^ j * bval (a.drop j) := Nat.mul_le_mul_right _ (Nat.two_pow_pos j);omega
   have hin := HI.out;have h7 := H7.out;unfold In64 at hin;have HJ := hJz hj;have HDR := hJz hdr;have f1 : IntKind.i64.wrap ((k : Int) - 1) = (j : Int) := by rw [IntKind.wrap_i64]; omega
   have d1 : decide (0 < (k : Int)) = true := decide_eq_true (by omega);have d1' : decide (0 < k) = true := decide_eq_true hk0;generalize hdj : bval (a.drop j) = dj at *;generalize hdk : bval (a.drop k) = dk at *;generalize a[j] = bt at *;have f2 : IntKind.i64.wrap (bt : Int) = (bt : Int) := by rw [IntKind.wrap_i64]; omega
   cases s with
   | false =>
    simp only [Bool.false_eq_true, if_false] at hv h7;have f3 : IntKind.i64.wrap (2 * v) = 2 * v := by rw [IntKind.wrap_i64]; omega
    have f4 : IntKind.i64.wrap (2 * v + (bt : Int)) = (dj : Int) := by rw [IntKind.wrap_i64]; omega
    have HDJ := hJz hdj;clear hdr hle hin h7 hdj hdk hv hj
    go_wp2
    go_roundw
    case rel => exact ⟨j, (dj : Int), rfl, rfl, by omega, by simp [HDJ.out], hB⟩
    case measure => have := HJ.out; simp [intOf]; omega
   | true =>
    simp only [if_true] at hv h7;have f3 : IntKind.i64.wrap (2 * v) = 2 * v := by rw [IntKind.wrap_i64]; omega
    have f4 : IntKind.i64.wrap (2 * v - (bt : Int)) = -(dj : Int) := by rw [IntKind.wrap_i64]; omega
    have HDJ := hJz hdj;clear hdr hle hin h7 hdj hdk hv hj
    go_wp2
    go_roundw
    case rel => exact ⟨j, -(dj : Int), rfl, rfl, by omega, by simp [HDJ.out], hB⟩
    case measure => have := HJ.out; simp [intOf]; omega
  ·obtain rfl : k = 0 := by omega
   rw [List.drop_zero] at hv;have hvx : v = x := by rw [hv, H7.out]
   subst hvx
   go_wp2
   go_ret;exact ⟨rfl, since_step hB0 hB⟩
theorem BB.new1 (w : World) (o : Obj) (s : Bool) (A : Option Addr) (n c : Nat) (t : TypeId) : BB ((w.alloc o).alloc (.cells #[.bool s, .slice A n c] t)) (w.heap.size + 1) s A n c := by
 have := BB.new (w.alloc o) s A n c t
 rwa [World.size_alloc] at this
end
end Go.Proofs.YtpmnjojednbnpaaGreatDoor
