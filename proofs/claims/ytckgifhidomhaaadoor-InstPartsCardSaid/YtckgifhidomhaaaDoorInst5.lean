/-
  Layer 13, fifth part: short, lives; InstGains: the walk (laid by gen_inst5.py).
-/
import Derived.Test.YtckgifhidomhaaaDoorInst4
import Derived.Test.YtckgifhidomhaaaDoorW1
namespace Go.Proofs.YtckgifhidomhaaaDoor
open Go.ChangeShapes Go.WideShapes Go.ChangeAt Go.RowKit
set_option linter.unusedVariables false
set_option linter.unusedSimpArgs false

theorem fmt_60 (w : World) :
    Calls Tryd.prog 73 #[.int .u64 60, .int .i64 10] w fun e w' => e = .returned (.string ⟨#[54, 48]⟩) ∧ Below w.heap.size w w' := by
  have HS := Lib.hid (fun w => Tryd.internal_strconv_small 60 (by decide) w)
  rw [show (⟨(Lib.decDigits 60).toArray⟩ : ByteArray) = ⟨#[54, 48]⟩ from by rw [Lib.decDigits_two (by decide) (by decide)]; rfl] at HS
  go_enter Tryd.func73, Tryd.ntmps73
  go_wp2_with fail
  refine (HS.out _).mono ?_
  rintro e w1 ⟨rfl, rfl⟩
  go_wp2_with fail
  go_ret
  exact ⟨rfl, Below.refl _ _⟩
theorem sfmt_60 (w : World) :
    Calls Tryd.prog 63 #[.int .u64 60, .int .i64 10] w fun e w' => e = .returned (.string ⟨#[54, 48]⟩) ∧ Below w.heap.size w w' := by
  go_enter Tryd.func63, Tryd.ntmps63
  go_wp2_with fail
  refine (fmt_60 _).mono ?_
  rintro e w1 ⟨rfl, hb1⟩
  go_wp2_with fail
  go_ret
  exact ⟨rfl, hb1⟩

set_option maxHeartbeats 1000000 in
theorem text_60 (w : World) :
    Calls Tryd.prog 42 #[.agg #[.int .i64 (-1), .int .u64 18446744073709551556]] w fun e w' => e = .returned (.string ⟨#[45, 54, 48]⟩) ∧ Below w.heap.size w w' := by
  have HS := Lib.hid (fun w => size_nat (-60) (by unfold In128; omega) w)
  rw [show hiN (-60) = -1 from by decide, show loN (-60) = 18446744073709551556 from by decide, show (szH (-60) : Int) = 0 from by decide, show (szL (-60) : Int) = 60 from by decide] at HS
  go_enter Tryd.func42, Tryd.ntmps42
  go_wp2_with fail
  refine (HS.out _).mono ?_
  rintro e w1 ⟨rfl, hb1⟩
  obtain ⟨q0, q1, q2, q3, q4⟩ := (T2.new w (-1) 18446744073709551556 45).below hb1
  have hB1 := since_step (since_alloc (Below.refl _ w) _) hb1
  go_wp2_with fail
  go_loopw [3, 4, 5] (fun a b c wr => a = .int .u64 0 ∧ b = .int .u64 60 ∧ c = .string ⟨#[]⟩ ∧ wr = w1) (fun _ _ _ _ => 0)
  case atStart => exact ⟨rfl, rfl, rfl, rfl⟩
  case round =>
    obtain ⟨rfl, rfl, rfl, hw⟩ := hrel
    subst hw
    go_wp2_with fail
    refine (sfmt_60 _).mono ?_
    rintro e w2 ⟨rfl, hb2⟩
    obtain ⟨q0, q1, q2, q3, q4⟩ : T2 w2 w.heap.size (-1) 18446744073709551556 := (T2.below ⟨q0, q1, q2, q3, q4⟩ hb2)
    have hB2 := since_step hB1 hb2
    go_wp2_with fail
    go_ret
    exact ⟨rfl, hB2⟩

/-- at most 12 moves -/
def shortI (i : Ins) : Ins := ⟨i.id, i.mult, i.price, i.nxt, i.mv.take 12⟩
theorem InsAt.short {w : World} {i : Ins} {A : Option Addr} {c : Nat} (h : InsAt w i A c) : InsAt w (shortI i) A c :=
  ⟨⟨by have := h.cap.1; simp [shortI]; omega, h.cap.2⟩, sl_takeI h.sl 12, h.mv64.takeI 12, h.n64⟩

set_option maxHeartbeats 1000000 in
theorem short_any (i : Ins) (A : Option Addr) (c : Nat) (w : World) (h : InsAt w i A c) :
    Calls Tryd.prog 7 #[insV i A c] w fun e w' => e = .returned (insV (shortI i) A c) ∧ Below w.heap.size w w' := by
  have hcs := @cell_set
  have hB0 := since_alloc (Below.refl _ w) (.cells #[.int .i64 i.id, .int .i64 i.mult, .int .i64 i.price, .int .i64 i.nxt, .slice A i.mv.length c] 25)
  have hc1 := h.cap.1
  by_cases h12 : 12 < i.mv.length
  · have e : (i.mv.take 12).length = 12 := by simp; omega
    rw [show insV (shortI i) A c = .agg #[.int .i64 i.id, .int .i64 i.mult, .int .i64 i.price, .int .i64 i.nxt, .slice A (i.mv.take 12).length c] from rfl, e]
    unfold insV
    obtain ⟨b, o, rfl, hz0⟩ := h.sl.int (show 0 < i.mv.length by omega)
    have h12c : 12 ≤ c := by omega
    clear hz0 h e
    go_enter Tryd.func7, Tryd.ntmps7
    go_wp2
    refine bodyPost_ret (v := .agg #[.int .i64 i.id, .int .i64 i.mult, .int .i64 i.price, .int .i64 i.nxt, .slice (some ⟨b, o, none⟩) 12 c]) ?_ rfl ?_
    · simp [results, Tryd.results7, go_sem]
    · refine ⟨rfl, ?_⟩
      repeat' (first | with_reducible exact hB0 | with_reducible exact Below.refl _ _ | with_reducible refine Below.setCell ?_ ?_ _ | with_reducible refine since_alloc ?_ _)
      all_goals first | (simp; done) | (simp; omega)
  · have e : (i.mv.take 12).length = i.mv.length := by rw [List.length_take]; omega
    rw [show insV (shortI i) A c = .agg #[.int .i64 i.id, .int .i64 i.mult, .int .i64 i.price, .int .i64 i.nxt, .slice A (i.mv.take 12).length c] from rfl, e]
    unfold insV
    clear h e
    go_enter Tryd.func7, Tryd.ntmps7
    go_wp2
    refine bodyPost_ret (v := .agg #[.int .i64 i.id, .int .i64 i.mult, .int .i64 i.price, .int .i64 i.nxt, .slice A i.mv.length c]) ?_ rfl ?_
    · simp [results, Tryd.results7, go_sem]
    · refine ⟨rfl, ?_⟩
      repeat' (first | with_reducible exact hB0 | with_reducible exact Below.refl _ _ | with_reducible refine Below.setCell ?_ ?_ _ | with_reducible refine since_alloc ?_ _)
      all_goals first | (simp; done) | (simp; omega)

set_option maxRecDepth 100000 in
set_option maxHeartbeats 4000000 in
theorem lives13_any (w : World) : Calls Tryd.prog 22 #[] w fun e w' => e = .returned (.bool true) ∧ Below w.heap.size w w' := by
  have hG := fun A W (h : InsAt W ⟨1, 10, 0, 0, [-2]⟩ A 1) => gain_any ⟨1, 10, 0, 0, [-2]⟩ A 1 3 5 7 W h (by decide) (by decide) (by decide)
  rw [show gainV ⟨1, 10, 0, 0, [-2]⟩ 3 5 7 = 60 by decide, show gainE ⟨1, 10, 0, 0, [-2]⟩ 3 5 7 = 0 by decide] at hG
  have hS := fun A W (h : InsAt W ⟨1, 10, 0, 0, [-2]⟩ A 1) => shock_any ⟨1, 10, 0, 0, [-2]⟩ A 1 3 0 W h (by decide) (by decide)
  rw [show hiN (shockZ ⟨1, 10, 0, 0, [-2]⟩ 3 0) = -1 by decide, show loN (shockZ ⟨1, 10, 0, 0, [-2]⟩ 3 0) = 18446744073709551556 by decide] at hS
  unfold insV at hG hS
  have HG := Lib.hid hG
  have HS := Lib.hid hS
  have hA : InsAt (w.alloc (.cells #[.int .i64 (-2)] 2)) ⟨1, 10, 0, 0, [-2]⟩ (some ⟨w.heap.size, 0, none⟩) 1 :=
    ⟨by decide, Sl.new_ w (ints .i64 [-2]) _, by intro x hx; simp at hx; subst hx; decide, by decide⟩
  have hA1 := hA.below ((Below.refl _ _).alloc (Nat.le_refl _) (.cells #[.int .i64 1, .int .i64 10, .int .i64 0, .int .i64 0, .slice (some ⟨w.heap.size, 0, none⟩) 1 1] 25))
  have hI := IB.new (w.alloc (.cells #[.int .i64 (-2)] 2)) ⟨1, 10, 0, 0, [-2]⟩ (some ⟨w.heap.size, 0, none⟩) 1 25
  rw [World.size_alloc] at hI
  have hB := since_alloc (since_alloc (Below.refl _ w) (.cells #[.int .i64 (-2)] 2)) (.cells #[.int .i64 1, .int .i64 10, .int .i64 0, .int .i64 0, .slice (some ⟨w.heap.size, 0, none⟩) 1 1] 25)
  have HA := Lib.hid hA1
  have HI := Lib.hid hI
  clear hG hS hA hA1 hI
  go_enter Tryd.func22, Tryd.ntmps22
  go_wp2_with fail
  refine (HG.out _ _ HA.out).mono ?_
  rintro e w1 ⟨rfl, hb1⟩
  have A1 := HA.out.below hb1
  have I1 := HI.out.below hb1
  have hB1 := since_step hB hb1
  clear hb1 hB
  obtain ⟨i0, i1, i2, i3, i4, i5⟩ := _root_.id I1
  simp only [List.length_cons, List.length_nil] at i5
  go_wp2_with fail
  refine (HS.out _ _ A1).mono ?_
  rintro e w2 ⟨rfl, hb2⟩
  have hB2 := since_step hB1 hb2
  clear hb2 hB1
  go_wp2_with fail
  refine (text_60 _).mono ?_
  rintro e w3 ⟨rfl, hb3⟩
  have hB3 := since_step hB2 hb3
  go_wp2_with fail
  go_ret
  exact ⟨rfl, hB3⟩

theorem shock_in (i : Ins) (q s : Int) (hq : In64 q) : In128 (shockZ i q s) := by
  unfold shockZ
  split
  · rename_i h
    have hk : s.toNat < i.mv.length := by omega
    have e : i.mv.getD s.toNat 0 = i.mv[s.toNat] := by rw [List.getD_eq_getElem?_getD, List.getElem?_eq_getElem hk]; rfl
    rw [e]
    exact (move_in hq (ok_move h.1 hk) (ok_mult h.1)).2.2.2
  · unfold In128; omega
theorem cmp_self (z : Int) : cmpZ z z = 0 := by unfold cmpZ; simp

set_option maxRecDepth 100000 in
set_option maxHeartbeats 8000000 in
theorem walk_InstGains (a0 : Array Value) (a1 : Int) (a2 : Int) (a3 : Int) (a4 : Int) (w : World) (w0 : Rd w (.cat (.int .i64) (.cat (.int .i64) (.cat (.int .i64) (.cat (.int .i64) (.cat (.sl (.int .i64)) .nil))))) a0.toList) (w1 : (Lit.int .i64 a1).wf = true) (w2 : (Lit.int .i64 a2).wf = true) (w3 : (Lit.int .i64 a3).wf = true) (w4 : (Lit.int .i64 a4).wf = true) :
    Calls Tryd.prog 4 #[.agg a0, .int .i64 a1, .int .i64 a2, .int .i64 a3, .int .i64 a4] w fun e w' => e = .returned (.bool true) ∧ Below w.heap.size w w' := by
  obtain ⟨i0, A, c, e0, hI0⟩ := rd_inst w0
  rw [e0]
  have h1 : In64 a1 := bd_i64 w1
  have h2 : In64 a2 := bd_i64 w2
  have h3 : In64 a3 := bd_i64 w3
  have h4 : In64 a4 := bd_i64 w4
  obtain ⟨i, hi⟩ : ∃ i, i = shortI i0 := ⟨_, rfl⟩
  have hI : InsAt w i A c := by rw [hi]; exact hI0.short
  have HSH := fun W (hb : Below w.heap.size w W) => short_any i0 A c W (hI0.below hb)
  rw [← hi] at HSH
  have HS := fun W (hb : Below w.heap.size w W) => shock_any i A c a1 a4 W (hI.below hb) h1 h4
  have HRS := fun W (hb : Below w.heap.size w W) => rshock_any i A c a1 a4 W (hI.below hb) h1 h4
  have HG := fun W (hb : Below w.heap.size w W) => gain_any i A c a1 a2 a3 W (hI.below hb) h1 h2 h3
  have HRG := fun W (hb : Below w.heap.size w W) => rgain_any i A c a1 a2 a3 W (hI.below hb) h1 h2 h3
  have HOK := fun W (hb : Below w.heap.size w W) => ris_any i A c W (hI.below hb)
  have hz128 := shock_in i a1 a4 h1
  have HWD := Lib.hid (fun W => rwide_any (shockZ i a1 a4) hz128 W)
  have HL := Lib.hid (fun W s A n c (h : BigAt W s A n c (shockZ i a1 a4)) => show n ≤ 128 from h.len.2 (by
    rw [show (2 : Nat) ^ 128 = 340282366920938463463374607431768211456 from by decide]
    unfold In128 at hz128; omega))
  have hB0 := since_alloc (Below.refl _ w) (.cells #[.int .i64 i0.id, .int .i64 i0.mult, .int .i64 i0.price, .int .i64 i0.nxt, .slice A i0.mv.length c] 25)
  have hX0 := IB.new w i0 A c 25
  have hn : i.id = i0.id ∧ i.mult = i0.mult ∧ i.price = i0.price ∧ i.nxt = i0.nxt := by rw [hi]; exact ⟨rfl, rfl, rfl, rfl⟩
  have hcase : (okB i = true ∧ prB a2 = true ∧ prB a3 = true) ∨ (okB i = false ∨ (okB i = true ∧ (a2 < 0 ∨ (¬ a2 < 0 ∧ (2147483647 < a2 ∨ (¬ 2147483647 < a2 ∧ (a3 < 0 ∨ (¬ a3 < 0 ∧ 2147483647 < a3)))))))) := by
    cases hok : okB i with
    | false => exact Or.inr (Or.inl rfl)
    | true =>
      by_cases p : prB a2 = true ∧ prB a3 = true
      · exact Or.inl ⟨rfl, p⟩
      · refine Or.inr (Or.inr ⟨rfl, ?_⟩)
        simp only [prB, Bool.and_eq_true, decide_eq_true_eq] at p
        omega
  unfold insV at HSH HS HRS HG HRG HOK ⊢
  have HSH := Lib.hid HSH
  have HS := Lib.hid HS
  have HRS := Lib.hid HRS
  have HG := Lib.hid HG
  have HRG := Lib.hid HRG
  have HOK := Lib.hid HOK
  have HX0 := Lib.hid hX0
  have HN := Lib.hid hn
  have HI := Lib.hid hI
  have HGV := Lib.hid (fun (h : okB i = true ∧ prB a2 = true ∧ prB a3 = true) => show gainV i a1 a2 a3 = fV (a1 * i.mult * (a3 - a2)) ∧ gainE i a1 a2 a3 = fE (a1 * i.mult * (a3 - a2)) from by
    have e : a1 * i.mult * (a3 - a2) = gainZ i a1 a2 a3 := by unfold gainZ; rw [Int.mul_right_comm]
    rw [e]
    exact ⟨if_pos h, if_pos h⟩)
  have HGN := Lib.hid (fun (h : ¬ (okB i = true ∧ prB a2 = true ∧ prB a3 = true)) => show gainV i a1 a2 a3 = 0 ∧ gainE i a1 a2 a3 = 2 from ⟨if_neg h, if_neg h⟩)
  have HZ : Hid (∀ W s A n c, BigAt W s A n c (a1 * i.mult * (a3 - a2)) → n ≤ 100000) := Lib.hid (fun W s A n c h => by
    have hh : n ≤ 192 := h.len.2 (by
      have hm := hI.n64.2.1
      unfold In64 at h1 h2 h3 hm
      have g1 := abs_mul_le (A := 9223372036854775808) (B := 9223372036854775808) (a := a1) (b := i.mult) (by omega) (by omega)
      have g2 := abs_mul_le (A := 9223372036854775808 * 9223372036854775808) (B := 18446744073709551616) (a := a1 * i.mult) (b := a3 - a2) (by omega) (by omega)
      rw [show (2 : Nat) ^ 192 = 6277101735386680763835789423207666416102355444464034512896 from by decide]
      generalize a1 * i.mult * (a3 - a2) = z at *
      omega)
    omega)
  obtain ⟨S, hS⟩ : ∃ S, S = shockZ i a1 a4 := ⟨_, rfl⟩
  rw [← hS] at HS HRS HWD HL
  have HC := Lib.hid (cmp_self S)
  clear w0 w1 w2 w3 w4 e0 hI0 hi hX0 hn hz128 h1 h2 h3 h4 hI hS
  generalize gainV i a1 a2 a3 = gv at *
  generalize gainE i a1 a2 a3 = ge at *
  generalize a1 * i.mult * (a3 - a2) = gz at *
  go_enter Tryd.func4, Tryd.ntmps4
  go_wp2_with fail
  refine (HSH.out _ hB0).mono ?_
  rintro e w1 ⟨rfl, hb1⟩
  have X1 := HX0.out.below hb1
  have hB1 := since_step hB0 hb1
  have z0 : w1.frozen? ⟨w.heap.size, 0, none⟩ = false := (hb1.frozen (p := ⟨w.heap.size, 0, none⟩) (by simp)).trans (by simp)
  have z1 : w1.frozen? ⟨w.heap.size, 1, none⟩ = false := (hb1.frozen (p := ⟨w.heap.size, 1, none⟩) (by simp)).trans (by simp)
  have z2 : w1.frozen? ⟨w.heap.size, 2, none⟩ = false := (hb1.frozen (p := ⟨w.heap.size, 2, none⟩) (by simp)).trans (by simp)
  have z3 : w1.frozen? ⟨w.heap.size, 3, none⟩ = false := (hb1.frozen (p := ⟨w.heap.size, 3, none⟩) (by simp)).trans (by simp)
  have z4 : w1.frozen? ⟨w.heap.size, 4, none⟩ = false := (hb1.frozen (p := ⟨w.heap.size, 4, none⟩) (by simp)).trans (by simp)
  clear hb1 hB0
  obtain ⟨x0, x1, x2, x3, x4, x5⟩ := _root_.id X1
  have HX5 := Lib.hid (show IB ((((((w1.setCell ⟨w.heap.size, 0, none⟩ (.int .i64 i.id)).setCell ⟨w.heap.size, 1, none⟩ (.int .i64 i.mult)).setCell ⟨w.heap.size, 2, none⟩ (.int .i64 i.price)).setCell ⟨w.heap.size, 3, none⟩ (.int .i64 i.nxt)).setCell ⟨w.heap.size, 4, none⟩ (.slice A i.mv.length c))) w.heap.size i A c from by
    refine ⟨by simpa using x0, ?_, ?_, ?_, ?_, ?_⟩ <;> simp [cell_set, x1, x2, x3, x4, x5])
  have hB2 : Below w.heap.size w ((((((w1.setCell ⟨w.heap.size, 0, none⟩ (.int .i64 i.id)).setCell ⟨w.heap.size, 1, none⟩ (.int .i64 i.mult)).setCell ⟨w.heap.size, 2, none⟩ (.int .i64 i.price)).setCell ⟨w.heap.size, 3, none⟩ (.int .i64 i.nxt)).setCell ⟨w.heap.size, 4, none⟩ (.slice A i.mv.length c))) :=
    Below.setCell (Below.setCell (Below.setCell (Below.setCell (Below.setCell hB1 (by simp) _) (by simp) _) (by simp) _) (by simp) _) (by simp) _
  go_upto_region 2 with fail
  generalize ((((((w1.setCell ⟨w.heap.size, 0, none⟩ (.int .i64 i.id)).setCell ⟨w.heap.size, 1, none⟩ (.int .i64 i.mult)).setCell ⟨w.heap.size, 2, none⟩ (.int .i64 i.price)).setCell ⟨w.heap.size, 3, none⟩ (.int .i64 i.nxt)).setCell ⟨w.heap.size, 4, none⟩ (.slice A i.mv.length c))) = w2 at *
  clear hB1 x0 x1 x2 x3 x4 x5 X1 z0 z1 z2 z3 z4
  obtain ⟨x0, x1, x2, x3, x4, x5⟩ := _root_.id HX5.out
  go_wp2_with fail
  refine (HS.out _ hB2).mono ?_
  rintro e w3 ⟨rfl, hb3⟩
  have X3 := HX5.out.below hb3
  have hB3 := since_step hB2 hb3
  clear hb3 hB2 x0 x1 x2 x3 x4 x5 HX5
  have hB4 := since_alloc hB3 (.cells #[.int .i64 (hiN S), .int .u64 (loN S)] 45)
  have X4 := X3.below ((Below.refl _ _).alloc (Nat.le_refl _) (.cells #[.int .i64 (hiN S), .int .u64 (loN S)] 45))
  have T4 := T2.new w3 (hiN S) (loN S) 45
  go_upto_region 3 with fail
  generalize w3.alloc (.cells #[.int .i64 (hiN S), .int .u64 (loN S)] 45) = W at *
  have HX := Lib.hid X4
  have HT := Lib.hid T4
  generalize w3.heap.size = gw at *
  clear X3 hB3 T4
  refine wp_region_held_drew (S := (fun V => Below W.heap.size W V)) (by kernel_rfl) (by exact (Below.refl _ _).drew) (fun hHeld => ?_)
  refine wpAnyH_take (i := 0) (oi := { dst := some 20, op := _, type := _, pos := _, after := _, guard := _ }) (v := ?_) rfl (by kernel_rfl) (by kernel_rfl) (by kernel_rfl) (fun _ _ _ h => h) (Or.inl ⟨by rfl, ?_⟩) hHeld ?_
  rotate_left
  · (intro w hSw; obtain ⟨o0, o1, o2, o3, o4, o5⟩ := HX.out.below hSw; obtain ⟨r0, r1, r2, r3, r4⟩ := HT.out.below hSw; go_simp <;> with_reducible rfl)
  try simp only [Act.put, List.setIfInBounds_toArray, List.set_cons_zero, List.set_cons_succ]
  refine wpAnyH_take (i := 1) (oi := { dst := some 21, op := _, type := _, pos := _, after := _, guard := _ }) (v := ?_) rfl (by kernel_rfl) (by kernel_rfl) (by kernel_rfl) (fun _ _ _ h => h) (Or.inl ⟨by rfl, ?_⟩) hHeld ?_
  rotate_left
  · (intro w hSw; obtain ⟨o0, o1, o2, o3, o4, o5⟩ := HX.out.below hSw; obtain ⟨r0, r1, r2, r3, r4⟩ := HT.out.below hSw; go_simp <;> with_reducible rfl)
  try simp only [Act.put, List.setIfInBounds_toArray, List.set_cons_zero, List.set_cons_succ]
  refine wpAnyH_take (i := 2) (oi := { dst := some 22, op := _, type := _, pos := _, after := _, guard := _ }) (v := ?_) rfl (by kernel_rfl) (by kernel_rfl) (by kernel_rfl) (fun _ _ _ h => h) (Or.inl ⟨by rfl, ?_⟩) hHeld ?_
  rotate_left
  · (intro w hSw; obtain ⟨o0, o1, o2, o3, o4, o5⟩ := HX.out.below hSw; obtain ⟨r0, r1, r2, r3, r4⟩ := HT.out.below hSw; go_simp <;> with_reducible rfl)
  try simp only [Act.put, List.setIfInBounds_toArray, List.set_cons_zero, List.set_cons_succ]
  refine wpAnyH_take (i := 3) (oi := { dst := some 23, op := _, type := _, pos := _, after := _, guard := _ }) (v := ?_) rfl (by kernel_rfl) (by kernel_rfl) (by kernel_rfl) (fun _ _ _ h => h) (Or.inl ⟨by rfl, ?_⟩) hHeld ?_
  rotate_left
  · (intro w hSw; obtain ⟨o0, o1, o2, o3, o4, o5⟩ := HX.out.below hSw; obtain ⟨r0, r1, r2, r3, r4⟩ := HT.out.below hSw; go_simp <;> with_reducible rfl)
  try simp only [Act.put, List.setIfInBounds_toArray, List.set_cons_zero, List.set_cons_succ]
  refine wpAnyH_take (i := 5) (oi := { dst := some 25, op := _, type := _, pos := _, after := _, guard := _ }) (v := ?_) rfl (by kernel_rfl) (by kernel_rfl) (by kernel_rfl) (fun _ _ _ h => h) (Or.inl ⟨by rfl, ?_⟩) hHeld ?_
  rotate_left
  · (intro w hSw; obtain ⟨o0, o1, o2, o3, o4, o5⟩ := HX.out.below hSw; obtain ⟨r0, r1, r2, r3, r4⟩ := HT.out.below hSw; go_simp <;> with_reducible rfl)
  try simp only [Act.put, List.setIfInBounds_toArray, List.set_cons_zero, List.set_cons_succ]
  refine wpAnyH_take (i := 6) (oi := { dst := some 26, op := _, type := _, pos := _, after := _, guard := _ }) (v := ?_) rfl (by kernel_rfl) (by kernel_rfl) (by kernel_rfl) (fun _ _ _ h => h) (Or.inl ⟨by rfl, ?_⟩) hHeld ?_
  rotate_left
  · (intro w hSw; obtain ⟨o0, o1, o2, o3, o4, o5⟩ := HX.out.below hSw; obtain ⟨r0, r1, r2, r3, r4⟩ := HT.out.below hSw; go_simp <;> with_reducible rfl)
  try simp only [Act.put, List.setIfInBounds_toArray, List.set_cons_zero, List.set_cons_succ]
  refine wpAnyH_take (i := 7) (oi := { dst := some 27, op := _, type := _, pos := _, after := _, guard := _ }) (v := ?_) rfl (by kernel_rfl) (by kernel_rfl) (by kernel_rfl) (fun _ _ _ h => h) (Or.inl ⟨by rfl, ?_⟩) hHeld ?_
  rotate_left
  · (intro w hSw; obtain ⟨o0, o1, o2, o3, o4, o5⟩ := HX.out.below hSw; obtain ⟨r0, r1, r2, r3, r4⟩ := HT.out.below hSw; go_simp <;> with_reducible rfl)
  try simp only [Act.put, List.setIfInBounds_toArray, List.set_cons_zero, List.set_cons_succ]
  refine wpAnyH_ready (rs := [4]) (by kernel_rfl) (by simp) ?_
  refine AllReadyH.cons (o := { dst := some 24, op := _, type := _, pos := _, after := _, guard := _ }) rfl (fun K hK => ?_) AllReadyH.nil
  go_simp
  (refine (HWD.out _).mono ?_; rintro e u1 ⟨⟨t1, B1, m1, d1, rfl, hq1, Y1⟩, hk1⟩; have hKeep := since_step hHeld hk1; have M1 := HL.out _ _ _ _ _ Y1)
  go_wp2_with fail
  refine hK.out _ _ (by (try dsimp only); exact hKeep) (fun hHeld => ?_)
  clear hK K hKeep
  try simp only [Act.put, List.setIfInBounds_toArray, List.set_cons_zero, List.set_cons_succ]
  refine wpAnyH_ready (rs := [8]) (by kernel_rfl) (by simp) ?_
  refine AllReadyH.cons (o := { dst := some 28, op := _, type := _, pos := _, after := _, guard := _ }) rfl (fun K hK => ?_) AllReadyH.nil
  go_simp
  (refine (HRS.out _ (since_step hB4 hHeld)).mono ?_; rintro e u2 ⟨⟨t2, B2, m2, d2, rfl, hq2, Y2⟩, hk2⟩; have hKeep := since_step hHeld hk2; have Y1 := Y1.below hk2; have M2 := HL.out _ _ _ _ _ Y2)
  go_wp2_with fail
  refine hK.out _ _ (by (try dsimp only); exact hKeep) (fun hHeld => ?_)
  clear hK K hKeep
  try simp only [Act.put, List.setIfInBounds_toArray, List.set_cons_zero, List.set_cons_succ]
  refine wpAnyH_ready (rs := [9]) (by kernel_rfl) (by simp) ?_
  refine AllReadyH.cons (o := { dst := some 29, op := _, type := _, pos := _, after := _, guard := _ }) rfl (fun K hK => ?_) AllReadyH.nil
  go_simp
  (refine (bcmp_any S S _ _ _ _ _ _ _ _ _ (by omega) (by omega) Y1 Y2).mono ?_; rintro e u3 ⟨rfl, hk3⟩; have hKeep := since_step hHeld hk3; rw [HC.out])
  go_wp2_with fail
  refine hK.out _ _ (by (try dsimp only); exact hKeep) (fun hHeld => ?_)
  clear hK K hKeep
  try simp only [Act.put, List.setIfInBounds_toArray, List.set_cons_zero, List.set_cons_succ]
  refine wpAnyH_take (i := 10) (oi := { dst := some 30, op := _, type := _, pos := _, after := _, guard := _ }) (v := ?_) rfl (by kernel_rfl) (by kernel_rfl) (by kernel_rfl) (fun _ _ _ h => h) (Or.inl ⟨by rfl, ?_⟩) hHeld ?_
  rotate_left
  · (intro w hSw; obtain ⟨o0, o1, o2, o3, o4, o5⟩ := HX.out.below hSw; obtain ⟨r0, r1, r2, r3, r4⟩ := HT.out.below hSw; go_simp <;> with_reducible rfl)
  try simp only [Act.put, List.setIfInBounds_toArray, List.set_cons_zero, List.set_cons_succ]
  refine wpAnyH_done (by kernel_rfl) ?_ _
  have hB6 := since_step hB4 hHeld
  have X6 := X4.below hHeld
  clear hHeld hB4 X4 HX HT
  obtain ⟨x0, x1, x2, x3, x4, x5⟩ := _root_.id X6
  go_wp2_with fail
  refine (HG.out _ hB6).mono ?_
  rintro e w7 ⟨rfl, hb7⟩
  have X7 := X6.below hb7
  have hB7 := since_step hB6 hb7
  clear hb7 hB6 x0 x1 x2 x3 x4 x5 X6
  obtain ⟨x0, x1, x2, x3, x4, x5⟩ := _root_.id X7
  go_wp2_with fail
  refine (HOK.out _ hB7).mono ?_
  rintro e w8 ⟨rfl, hb8⟩
  have X8 := X7.below hb8
  have hB8 := since_step hB7 hb8
  clear hb8 hB7 x0 x1 x2 x3 x4 x5 X7
  obtain ⟨x0, x1, x2, x3, x4, x5⟩ := _root_.id X8
  rcases hcase with hy | hn
  · obtain ⟨g1, g2⟩ := HGV.out hy
    obtain ⟨k1, k2, k3⟩ := hy
    rw [k1, g1, g2]
    simp only [prB, Bool.and_eq_true, decide_eq_true_eq] at k2 k3
    clear k1 g1 g2
    go_wp2_with fail
    refine (HRG.out _ hB8).mono ?_
    rintro e w9 ⟨⟨s9, A9, n9, c9, rfl, hf9, X9⟩, hb9⟩
    have hB9 := since_step hB8 hb9
    have l9 := HZ.out _ _ _ _ _ X9
    clear hb9 hB8 hf9
    go_wp2_with fail
    refine (is_any gz s9 A9 n9 c9 _ l9 X9).mono ?_
    rintro e w10 ⟨rfl, hb10⟩
    have hB10 := since_step hB9 hb10
    clear hb10 hB9 X9
    go_wp2_with fail
    refine (lives13_any _).mono ?_
    rintro e w11 ⟨rfl, hb11⟩
    have hB11 := since_step hB10 hb11
    go_wp2_with fail
    go_ret
    exact ⟨rfl, hB11⟩
  · have hno : ¬ (okB i = true ∧ prB a2 = true ∧ prB a3 = true) := by
      rintro ⟨k1, k2, k3⟩
      simp only [prB, Bool.and_eq_true, decide_eq_true_eq] at k2 k3
      rcases hn with h | ⟨_, h⟩
      · rw [k1] at h; cases h
      · omega
    obtain ⟨g1, g2⟩ := HGN.out hno
    rw [g1, g2]
    clear hno g1 g2
    rcases hn with h | ⟨h, h5 | ⟨h5, h6 | ⟨h6, h7 | ⟨h7, h8⟩⟩⟩⟩
    all_goals
      rw [h]
      clear h
      go_wp2_with fail
      refine (lives13_any _).mono ?_
      rintro e w11 ⟨rfl, hb11⟩
      have hB11 := since_step hB8 hb11
      go_wp2_with fail
      go_ret
      exact ⟨rfl, hB11⟩
end Go.Proofs.YtckgifhidomhaaaDoor
