/-
  Layer 12, third part: AssetSplits.
-/
import Derived.Test.YtidbiiomhhmniaaAsset2
namespace Go.Proofs.Ytidbiiomhhmniaa
open Go.ChangeShapes Go.WideShapes Go.ChangeAt Go.RowKit
set_option linter.unusedVariables false
set_option linter.unusedSimpArgs false

theorem count_cases (a : Ast) (q : Int) : (countE a q = 0 ∧ okA a ∧ 0 ≤ q ∧ In64 (q * a.price) ∧ countV a q = q * a.price * (10000 - a.hc) / 10000) ∨ ((countE a q = 2 ∨ countE a q = 7) ∧ countV a q = 0) := by
  unfold countE countV
  by_cases h : okA a ∧ 0 ≤ q
  · by_cases h6 : In64 (q * a.price)
    · left
      rw [if_pos h, if_pos ⟨h.1, h.2, h6⟩]
      exact ⟨if_pos h6, h.1, h.2, h6, rfl⟩
    · right
      rw [if_pos h, if_neg fun k => h6 k.2.2]
      exact ⟨Or.inr (if_neg h6), rfl⟩
  · right
    rw [if_neg h, if_neg fun k => h ⟨k.1, k.2.1⟩]
    exact ⟨Or.inl rfl, rfl⟩
theorem count_ok {a : Ast} {q : Int} (h : okA a) (h0 : 0 ≤ q) (h6 : In64 (q * a.price)) : countE a q = 0 ∧ countV a q = q * a.price * (10000 - a.hc) / 10000 :=
  ⟨(if_pos ⟨h, h0⟩).trans (if_pos h6), if_pos ⟨h, h0, h6⟩⟩
theorem count_split {a : Ast} {x y : Int} (hok : okA a) (hx : 0 ≤ x) (hy : 0 ≤ y) (h6 : In64 ((x + y) * a.price)) :
    countE a x = 0 ∧ countE a y = 0 ∧ 0 ≤ countV a x ∧ 0 ≤ countV a y ∧ countV a x + countV a y ≤ countV a (x + y) ∧ countV a (x + y) ≤ countV a x + countV a y + 1 ∧ countV a (x + y) < 9223372036854775808 := by
  have hp : 0 ≤ a.price := hok.2.2.1.1
  have h1 : 0 ≤ x * a.price := Int.mul_nonneg hx hp
  have h2 : 0 ≤ y * a.price := Int.mul_nonneg hy hp
  have h3 : (x + y) * a.price = x * a.price + y * a.price := Int.add_mul _ _ _
  have h4 : In64 (x * a.price) := by unfold In64 at *; omega
  have h5 : In64 (y * a.price) := by unfold In64 at *; omega
  obtain ⟨e1, v1⟩ := count_ok hok hx h4
  obtain ⟨e2, v2⟩ := count_ok hok hy h5
  obtain ⟨e3, v3⟩ := count_ok hok (show 0 ≤ x + y by omega) h6
  have r3 := count_rng hok (show 0 ≤ (x + y) * a.price by omega)
  have r1 := count_rng hok h1
  have r2 := count_rng hok h2
  rw [← v1] at r1
  rw [← v2] at r2
  rw [← v3] at r3
  have hs : (x + y) * a.price * (10000 - a.hc) = x * a.price * (10000 - a.hc) + y * a.price * (10000 - a.hc) := by rw [h3, Int.add_mul]
  rw [hs] at v3
  unfold In64 at h6
  refine ⟨e1, e2, r1.1, r2.1, ?_, ?_, ?_⟩ <;> omega

set_option maxRecDepth 100000 in
set_option maxHeartbeats 8000000 in
theorem walk_AssetSplits (a0 : Array Value) (a1 : Int) (a2 : Int) (w : World) (w0 : Rd w (.cat (.int .i64) (.cat (.int .i64) (.cat (.int .i64) .nil))) a0.toList) (w1 : (Lit.int .i64 a1).wf = true) (w2 : (Lit.int .i64 a2).wf = true) :
    Calls Try.prog 5 #[.agg a0, .int .i64 a1, .int .i64 a2] w fun e w' => e = .returned (.bool true) ∧ Below w.heap.size w w' := by
  obtain ⟨a, ha, hid, hpr, hhc⟩ := rd_ast w0
  rw [ha]
  have hx := bd_i64 w1
  have hy := bd_i64 w2
  clear w0 ha w1 w2 hid hhc
  have hB0 := since_alloc (Below.refl _ w) (.cells #[.int .i64 a.id, .int .i64 a.price, .int .i64 a.hc] 23)
  have HX0 := Lib.hid (AB.new w a 23)
  have HN := fun W => count_any a a1 W hx hpr
  have HM := fun W => count_any a a2 W hy hpr
  unfold astV at *
  have hcase : (a1 < 0 ∨ (¬ a1 < 0 ∧ (a2 < 0 ∨ (¬ a2 < 0 ∧ (2305843009213693952 < a1 ∨ (¬ 2305843009213693952 < a1 ∧ 2305843009213693952 < a2)))))) ∨ (¬ a1 < 0 ∧ ¬ a2 < 0 ∧ ¬ 2305843009213693952 < a1 ∧ ¬ 2305843009213693952 < a2) := by omega
  rcases hcase with hbad | ⟨h1, h2, h3, h4⟩
  · clear HN HM hpr hx hy
    rcases hbad with h1 | ⟨h1, h2 | ⟨h2, h3 | ⟨h3, h4⟩⟩⟩
    all_goals
      go_enter Try.func5, Try.ntmps5
      go_wp2_with fail
      refine (lives12_any _).mono ?_
      rintro e w1 ⟨rfl, hb1⟩
      have hB1 := since_step hB0 hb1
      go_wp2_with fail
      go_ret
      exact ⟨rfl, hB1⟩
  · have hxy : In64 (a1 + a2) := by unfold In64; omega
    have HW := fun W => count_any a (a1 + a2) W hxy hpr
    unfold astV at HW
    rcases count_cases a (a1 + a2) with ⟨c1, c2, c3, c4, c5⟩ | ⟨c1, c2⟩
    · obtain ⟨d1, d2, d3, d4, d5, d6, d7⟩ := count_split c2 (show 0 ≤ a1 by omega) (show 0 ≤ a2 by omega) c4
      rw [d1] at HN
      rw [d2] at HM
      rw [c1] at HW
      generalize countV a a1 = n at *
      generalize countV a a2 = m at *
      generalize countV a (a1 + a2) = v at *
      have HN := Lib.hid HN
      have HM := Lib.hid HM
      have HW := Lib.hid HW
      have hxy' : -9223372036854775808 ≤ a1 + a2 ∧ a1 + a2 < 9223372036854775808 := by omega
      have hnm : -9223372036854775808 ≤ n + m ∧ n + m < 9223372036854775808 := by omega
      have hvn : -9223372036854775808 ≤ v - n ∧ v - n < 9223372036854775808 := by omega
      have hvnm : -9223372036854775808 ≤ v - n - m ∧ v - n - m < 9223372036854775808 := by omega
      have hle : n + m ≤ v := d5
      have hle1 : v - n - m ≤ 1 := by omega
      clear c1 c2 c3 c4 c5 d1 d2 d3 d4 d5 d6 d7 hxy hpr hx hy
      go_enter Try.func5, Try.ntmps5
      go_wp2_with fail
      obtain ⟨x0, x1, x2, x3⟩ := _root_.id HX0.out
      go_wp2_with fail
      refine (HN.out _).mono ?_
      rintro e w1 ⟨rfl, hb1⟩
      have X1 := HX0.out.below hb1
      have hB1 := since_step hB0 hb1
      clear hb1 hB0 x0 x1 x2 x3
      obtain ⟨x0, x1, x2, x3⟩ := _root_.id X1
      go_wp2_with fail
      refine (HM.out _).mono ?_
      rintro e w2 ⟨rfl, hb2⟩
      have X2 := X1.below hb2
      have hB2 := since_step hB1 hb2
      clear hb2 hB1 x0 x1 x2 x3 X1
      obtain ⟨x0, x1, x2, x3⟩ := _root_.id X2
      go_wp2_with fail
      refine (HW.out _).mono ?_
      rintro e w3 ⟨rfl, hb3⟩
      have hB3 := since_step hB2 hb3
      clear hb3 hB2 x0 x1 x2 x3 X2
      go_wp2_with fail
      refine (lives12_any _).mono ?_
      rintro e w4 ⟨rfl, hb4⟩
      have hB4 := since_step hB3 hb4
      go_wp2_with fail
      go_ret
      exact ⟨rfl, hB4⟩
    · rw [c2] at HW
      generalize countV a a1 = n at *
      generalize countV a a2 = m at *
      generalize countE a a1 = en at *
      generalize countE a a2 = em at *
      have HN := Lib.hid HN
      have HM := Lib.hid HM
      have hxy' : -9223372036854775808 ≤ a1 + a2 ∧ a1 + a2 < 9223372036854775808 := by omega
      clear c2 hxy hpr hx hy
      rcases c1 with c1 | c1
      all_goals
        rw [c1] at HW
        have HW := Lib.hid HW
        clear c1
        go_enter Try.func5, Try.ntmps5
        go_wp2_with fail
        obtain ⟨x0, x1, x2, x3⟩ := _root_.id HX0.out
        go_wp2_with fail
        refine (HN.out _).mono ?_
        rintro e w1 ⟨rfl, hb1⟩
        have X1 := HX0.out.below hb1
        have hB1 := since_step hB0 hb1
        clear hb1 hB0 x0 x1 x2 x3
        obtain ⟨x0, x1, x2, x3⟩ := _root_.id X1
        go_wp2_with fail
        refine (HM.out _).mono ?_
        rintro e w2 ⟨rfl, hb2⟩
        have X2 := X1.below hb2
        have hB2 := since_step hB1 hb2
        clear hb2 hB1 x0 x1 x2 x3 X1
        obtain ⟨x0, x1, x2, x3⟩ := _root_.id X2
        go_wp2_with fail
        refine (HW.out _).mono ?_
        rintro e w3 ⟨rfl, hb3⟩
        have hB3 := since_step hB2 hb3
        clear hb3 hB2 x0 x1 x2 x3 X2
        go_wp2_with fail
        refine (lives12_any _).mono ?_
        rintro e w4 ⟨rfl, hb4⟩
        have hB4 := since_step hB3 hb4
        go_wp2_with fail
        go_ret
        exact ⟨rfl, hB4⟩
end Go.Proofs.Ytidbiiomhhmniaa
