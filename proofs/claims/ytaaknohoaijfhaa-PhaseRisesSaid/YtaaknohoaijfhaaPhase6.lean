/-
  The walk of the law PhaseRises.
-/
import Derived.Test.YtaaknohoaijfhaaPhase5
namespace Go.Proofs.Ytaaknohoaijfhaa
open Go.ChangeShapes Go.WideShapes Go.ChangeAt Go.RowKit
set_option linter.unusedVariables false
set_option linter.unusedSimpArgs false

/-- four cells of a block, not frozen -/
def Q4 (w : World) (g : Nat) (a b c d : Int) : Prop :=
  g < w.heap.size ∧ w.cell? ⟨g, 0, none⟩ = some (.int .i64 a) ∧ w.cell? ⟨g, 1, none⟩ = some (.int .i64 b) ∧ w.cell? ⟨g, 2, none⟩ = some (.int .i64 c) ∧ w.cell? ⟨g, 3, none⟩ = some (.int .i64 d) ∧
  w.frozen? ⟨g, 0, none⟩ = false ∧ w.frozen? ⟨g, 1, none⟩ = false ∧ w.frozen? ⟨g, 2, none⟩ = false ∧ w.frozen? ⟨g, 3, none⟩ = false
theorem Q4.below {w w' : World} {g : Nat} {a b c d : Int} (h : Q4 w g a b c d) (hb : Below w.heap.size w w') : Q4 w' g a b c d := by
  obtain ⟨h0, h1, h2, h3, h4, f1, f2, f3, f4⟩ := h
  exact ⟨Nat.lt_of_lt_of_le h0 hb.size, (hb.cell (p := ⟨g, 0, none⟩) h0).trans h1, (hb.cell (p := ⟨g, 1, none⟩) h0).trans h2, (hb.cell (p := ⟨g, 2, none⟩) h0).trans h3, (hb.cell (p := ⟨g, 3, none⟩) h0).trans h4,
    (hb.frozen (p := ⟨g, 0, none⟩) h0).trans f1, (hb.frozen (p := ⟨g, 1, none⟩) h0).trans f2, (hb.frozen (p := ⟨g, 2, none⟩) h0).trans f3, (hb.frozen (p := ⟨g, 3, none⟩) h0).trans f4⟩
theorem Q4.new (w : World) (a b c d : Int) (t : TypeId) : Q4 (w.alloc (.cells #[.int .i64 a, .int .i64 b, .int .i64 c, .int .i64 d] t)) w.heap.size a b c d := by
  refine ⟨by simp, ?_, ?_, ?_, ?_, ?_, ?_, ?_, ?_⟩ <;> simp

theorem Q4.far {w : World} {g : Nat} {a b c d : Int} (h : Q4 w g a b c d) {p : Addr} (hp : p.block ≠ g) (v : Value) : Q4 (w.setCell p v) g a b c d := by
  obtain ⟨h0, h1, h2, h3, h4, f1, f2, f3, f4⟩ := h
  have k : ∀ o, (w.setCell p v).cell? ⟨g, o, none⟩ = w.cell? ⟨g, o, none⟩ := fun o => World.cell?_setCell_other w _ _ _ (by rintro rfl; exact hp rfl)
  exact ⟨by simpa using h0, (k 0).trans h1, (k 1).trans h2, (k 2).trans h3, (k 3).trans h4, by simpa using f1, by simpa using f2, by simpa using f3, by simpa using f4⟩
theorem Q4.set4 {w : World} {g : Nat} {a b c d : Int} (h : Q4 w g a b c d) (a' b' c' d' : Int) :
    Q4 ((((w.setCell ⟨g, 0, none⟩ (.int .i64 a')).setCell ⟨g, 1, none⟩ (.int .i64 b')).setCell ⟨g, 2, none⟩ (.int .i64 c')).setCell ⟨g, 3, none⟩ (.int .i64 d')) g a' b' c' d' := by
  obtain ⟨h0, h1, h2, h3, h4, f1, f2, f3, f4⟩ := h
  refine ⟨by simpa using h0, ?_, ?_, ?_, ?_, by simpa using f1, by simpa using f2, by simpa using f3, by simpa using f4⟩ <;> simp [cell_set, h1, h2, h3, h4]

theorem i64_and1023 (n : Int) : bits .and .i64 n 1023 = n % 1024 := by
  have h : (BitVec.ofInt 64 1023).toNat = 2 ^ 10 - 1 := by decide
  have key : (BitVec.ofInt 64 n &&& BitVec.ofInt 64 1023).toNat = (n % ((2 ^ 64 : Nat) : Int)).toNat % 2 ^ 10 := by
    rw [BitVec.toNat_and, BitVec.toNat_ofInt, h, Nat.and_two_pow_sub_one_eq_mod]
  show IntKind.i64.wrap ((BitVec.ofInt 64 n &&& BitVec.ofInt 64 1023).toNat : Nat) = n % 1024
  rw [key, IntKind.wrap_i64]
  omega
theorem i64_and7 (n : Int) : bits .and .i64 n 7 = n % 8 := by
  have h : (BitVec.ofInt 64 7).toNat = 2 ^ 3 - 1 := by decide
  have key : (BitVec.ofInt 64 n &&& BitVec.ofInt 64 7).toNat = (n % ((2 ^ 64 : Nat) : Int)).toNat % 2 ^ 3 := by
    rw [BitVec.toNat_and, BitVec.toNat_ofInt, h, Nat.and_two_pow_sub_one_eq_mod]
  show IntKind.i64.wrap ((BitVec.ofInt 64 n &&& BitVec.ofInt 64 7).toNat : Nat) = n % 8
  rw [key, IntKind.wrap_i64]
  omega

theorem fail_ok {i c p u d n : Int} (h : (failS i c p u d n).e = 0) : ∃ v, failS i c p u d n = ⟨i, c, p + 1, v, 0⟩ ∧ 0 ≤ p ∧ p ≤ 2 := by
  unfold failS at h ⊢
  split at h
  · split at h
    · split at h
      · rename_i h1 h2 h3
        subst h3
        rw [if_pos h1, if_pos h2, if_pos rfl]
        exact ⟨_, rfl, by omega, by omega⟩
      · simp at h
    · simp at h
  · simp at h
theorem sell_ok {i c p u d : Int} (h : (sellS i c p u d).e = 0) : ∃ v, sellS i c p u d = ⟨i, c, p + 1, v, 0⟩ ∧ 0 ≤ p ∧ p ≤ 2 := by
  unfold sellS at h ⊢
  split at h
  · split at h
    · split at h
      · rename_i h1 h2 h3
        subst h2
        rw [if_pos h1, if_pos rfl, if_pos h3]
        exact ⟨_, rfl, by omega, by omega⟩
      · simp at h
    · simp at h
  · simp at h
theorem close_ok {i c p u d : Int} (h : (closeS i c p u d).e = 0) : ∃ v, closeS i c p u d = ⟨i, c, p + 1, v, 0⟩ ∧ 0 ≤ p ∧ p ≤ 2 := by
  unfold closeS at h ⊢
  split at h
  · split at h
    · rename_i h1 h2
      subst h2
      rw [if_pos h1, if_pos rfl]
      exact ⟨_, rfl, by omega, by omega⟩
    · simp at h
  · simp at h

set_option maxRecDepth 100000 in
set_option maxHeartbeats 4000000 in
theorem walk_PhaseRises (a0 : Array Value) (a1 : Option Addr) (n1 c1 : Nat) (a2 : Int) (w : World) (w0 : Rd w (.cat (.int .i64) (.cat (.int .i64) (.cat (.int .i64) (.cat (.int .i64) .nil)))) a0.toList) (w1 : Rd w (.sl (.int .i64)) [.slice a1 n1 c1]) (w2 : (Lit.int .i64 a2).wf = true) :
    Calls Try.prog 12 #[.agg a0, .slice a1 n1 c1, .int .i64 a2] w fun e w' => e = .returned (.bool true) ∧ Below w.heap.size w w' := by
  obtain ⟨i, c, p, u, rfl⟩ := rd_mem4 w0
  obtain ⟨l, hl, hlc, hcm, hs, _⟩ := rd_ints w1
  subst hl
  clear w0 w1 w2
  unfold maxLen at hcm
  go_enter Try.func12, Try.ntmps12
  go_wp2
  go_loopw [2, 8] (fun s2 s8 wr => ∃ (k : Nat) (pk uk dk : Int), k ≤ l.length ∧ k ≤ 30 ∧ s8 = .int .i64 k ∧ s2 = .int .i64 dk ∧ p ≤ pk ∧ Q4 wr w.heap.size i c p u ∧ Q4 wr (w.heap.size + 1) i c pk uk ∧ Below w.heap.size w wr)
    (fun _ s8 _ => 30 - (intOf s8).toNat)
  case atStart =>
    refine ⟨0, p, u, a2, by omega, by omega, rfl, rfl, Int.le_refl _, ?_, ?_, ?_⟩
    · exact (Q4.new w i c p u _).below ((Below.refl _ _).alloc (Nat.le_refl _) _)
    · simpa using Q4.new (w.alloc (.cells #[.int .i64 i, .int .i64 c, .int .i64 p, .int .i64 u] 66)) i c p u 66
    · exact ((Below.refl _ _).alloc (Nat.le_refl _) _).alloc (by simp) _
  case round =>
    obtain ⟨k, pk, uk, dk, hk, hk30, rfl, rfl, hp, hq0, hq1, hB⟩ := hrel
    by_cases hlt : k < l.length ∧ k < 30
    · obtain ⟨hlt, hlt3⟩ := hlt
      obtain ⟨b, o, rfl, hzw⟩ := hs.int hlt
      have hbw : b < w.heap.size := World.block_lt_of_cell? _ _ hzw
      have hz := (hB.cell (p := ⟨b, o + k, none⟩) hbw).trans hzw
      have hbl : b < wr.heap.size := World.block_lt_of_cell? _ _ hz
      generalize l[k] = s at *
      obtain ⟨l1, e0, e1, e2, e3, f0, f1, f2, f3⟩ := id hq1
      obtain ⟨l1, e0, e1, e2, e3, f0, f1, f2, f3⟩ := id hq1
      obtain ⟨l1, e0, e1, e2, e3, f0, f1, f2, f3⟩ := id hq1
      obtain ⟨l1, e0, e1, e2, e3, f0, f1, f2, f3⟩ := id hq1
      obtain ⟨l1, e0, e1, e2, e3, f0, f1, f2, f3⟩ := id hq1
      obtain ⟨l1, e0, e1, e2, e3, f0, f1, f2, f3⟩ := id hq1
      by_cases h0 : s = 0
      · subst h0
        go_wp2_with fail
        refine (fail_any i c pk uk dk 1 _).mono ?_
        rintro e w2 ⟨rfl, hb2⟩
        have hB2 : Below w.heap.size w w2 := (hB.alloc hB.size _).trans (hb2.mono (by have := hB.size; simp; omega))
        have r0 := (hq0.below ((Below.refl _ _).alloc (Nat.le_refl _) (.cells #[.int .i64 i, .int .i64 c, .int .i64 pk, .int .i64 uk] 66))).below hb2
        have r1 := (hq1.below ((Below.refl _ _).alloc (Nat.le_refl _) (.cells #[.int .i64 i, .int .i64 c, .int .i64 pk, .int .i64 uk] 66))).below hb2
        have r2 := (Q4.new wr i c pk uk 66).below hb2
        have g1 := hq1.1
        have hne : ¬ wr.heap.size = w.heap.size + 1 := by omega
        have hne' : ¬ w.heap.size + 1 = wr.heap.size := by omega
        clear l1 e0 e1 e2 e3 f0 f1 f2 f3 hb2 hq0 hq1
        have hz2 := (hB2.cell (p := ⟨b, o + k, none⟩) hbw).trans hzw
        have hn1 : ¬ wr.heap.size = b := by omega
        have hn2 : ¬ w.heap.size + 1 = b := by omega
        have hcs := @cell_set
        obtain ⟨m1, e10, e11, e12, e13, f10, f11, f12, f13⟩ := id r1
        obtain ⟨m2, e20, e21, e22, e23, f20, f21, f22, f23⟩ := id r2
        by_cases he : (failS i c pk uk dk 1).e = 0
        · obtain ⟨v, hr, hp0, hp2⟩ := fail_ok he
          rw [hr]
          clear he hr
          unfold resV
          go_wp2_with fail
          go_roundw
          case rel =>
            refine ⟨k + 1, pk + 1, v, dk, by omega, by omega, by go_num, rfl, by omega, ?_, ?_, ?_⟩
            · exact ((((((((r0.far (by simp; omega) _).far (by simp; omega) _).far (by simp; omega) _).far (by simp; omega) _).far (by simp) _).far (by simp) _).far (by simp) _).far (by simp) _)
            · exact Q4.set4 ((((r1.far (by simp; omega) _).far (by simp; omega) _).far (by simp; omega) _).far (by simp; omega) _) _ _ _ _
            · repeat' (first | with_reducible exact hB2 | with_reducible refine Below.setCell ?_ ?_ _)
              all_goals (simp <;> omega)
          case measure => simp [intOf]; omega
        · have he' : ((failS i c pk uk dk 1).e != 0) = true := by rw [bne_iff_ne]; exact he
          clear he
          generalize failS i c pk uk dk 1 = r at *
          unfold resV
          go_wp2_with fail
          go_roundw
          case rel =>
            refine ⟨k + 1, pk, uk, dk, by omega, by omega, by go_num, rfl, by omega, ?_, ?_, ?_⟩
            · exact ((((r0.far (by simp; omega) _).far (by simp; omega) _).far (by simp; omega) _).far (by simp; omega) _)
            · exact ((((r1.far (by simp; omega) _).far (by simp; omega) _).far (by simp; omega) _).far (by simp; omega) _)
            · repeat' (first | with_reducible exact hB2 | with_reducible refine Below.setCell ?_ ?_ _)
              all_goals (simp <;> omega)
          case measure => simp [intOf]; omega
      have q0 : (s == 0) = false := by rw [beq_eq_false_iff_ne]; exact h0
      by_cases h1 : s = 1
      · subst h1
        go_wp2_with fail
        refine (sell_any i c pk uk dk _).mono ?_
        rintro e w2 ⟨rfl, hb2⟩
        have hB2 : Below w.heap.size w w2 := (hB.alloc hB.size _).trans (hb2.mono (by have := hB.size; simp; omega))
        have r0 := (hq0.below ((Below.refl _ _).alloc (Nat.le_refl _) (.cells #[.int .i64 i, .int .i64 c, .int .i64 pk, .int .i64 uk] 66))).below hb2
        have r1 := (hq1.below ((Below.refl _ _).alloc (Nat.le_refl _) (.cells #[.int .i64 i, .int .i64 c, .int .i64 pk, .int .i64 uk] 66))).below hb2
        have r2 := (Q4.new wr i c pk uk 66).below hb2
        have g1 := hq1.1
        have hne : ¬ wr.heap.size = w.heap.size + 1 := by omega
        have hne' : ¬ w.heap.size + 1 = wr.heap.size := by omega
        clear l1 e0 e1 e2 e3 f0 f1 f2 f3 hb2 hq0 hq1
        have hz2 := (hB2.cell (p := ⟨b, o + k, none⟩) hbw).trans hzw
        have hn1 : ¬ wr.heap.size = b := by omega
        have hn2 : ¬ w.heap.size + 1 = b := by omega
        have hcs := @cell_set
        obtain ⟨m1, e10, e11, e12, e13, f10, f11, f12, f13⟩ := id r1
        obtain ⟨m2, e20, e21, e22, e23, f20, f21, f22, f23⟩ := id r2
        by_cases he : (sellS i c pk uk dk).e = 0
        · obtain ⟨v, hr, hp0, hp2⟩ := sell_ok he
          rw [hr]
          clear he hr
          unfold resV
          go_wp2_with fail
          go_roundw
          case rel =>
            refine ⟨k + 1, pk + 1, v, dk, by omega, by omega, by go_num, rfl, by omega, ?_, ?_, ?_⟩
            · exact ((((((((r0.far (by simp; omega) _).far (by simp; omega) _).far (by simp; omega) _).far (by simp; omega) _).far (by simp) _).far (by simp) _).far (by simp) _).far (by simp) _)
            · exact Q4.set4 ((((r1.far (by simp; omega) _).far (by simp; omega) _).far (by simp; omega) _).far (by simp; omega) _) _ _ _ _
            · repeat' (first | with_reducible exact hB2 | with_reducible refine Below.setCell ?_ ?_ _)
              all_goals (simp <;> omega)
          case measure => simp [intOf]; omega
        · have he' : ((sellS i c pk uk dk).e != 0) = true := by rw [bne_iff_ne]; exact he
          clear he
          generalize sellS i c pk uk dk = r at *
          unfold resV
          go_wp2_with fail
          go_roundw
          case rel =>
            refine ⟨k + 1, pk, uk, dk, by omega, by omega, by go_num, rfl, by omega, ?_, ?_, ?_⟩
            · exact ((((r0.far (by simp; omega) _).far (by simp; omega) _).far (by simp; omega) _).far (by simp; omega) _)
            · exact ((((r1.far (by simp; omega) _).far (by simp; omega) _).far (by simp; omega) _).far (by simp; omega) _)
            · repeat' (first | with_reducible exact hB2 | with_reducible refine Below.setCell ?_ ?_ _)
              all_goals (simp <;> omega)
          case measure => simp [intOf]; omega
      have q1 : (s == 1) = false := by rw [beq_eq_false_iff_ne]; exact h1
      by_cases h2 : s = 2
      · subst h2
        go_wp2_with fail
        refine (close_any i c pk uk dk _).mono ?_
        rintro e w2 ⟨rfl, hb2⟩
        have hB2 : Below w.heap.size w w2 := (hB.alloc hB.size _).trans (hb2.mono (by have := hB.size; simp; omega))
        have r0 := (hq0.below ((Below.refl _ _).alloc (Nat.le_refl _) (.cells #[.int .i64 i, .int .i64 c, .int .i64 pk, .int .i64 uk] 66))).below hb2
        have r1 := (hq1.below ((Below.refl _ _).alloc (Nat.le_refl _) (.cells #[.int .i64 i, .int .i64 c, .int .i64 pk, .int .i64 uk] 66))).below hb2
        have r2 := (Q4.new wr i c pk uk 66).below hb2
        have g1 := hq1.1
        have hne : ¬ wr.heap.size = w.heap.size + 1 := by omega
        have hne' : ¬ w.heap.size + 1 = wr.heap.size := by omega
        clear l1 e0 e1 e2 e3 f0 f1 f2 f3 hb2 hq0 hq1
        have hz2 := (hB2.cell (p := ⟨b, o + k, none⟩) hbw).trans hzw
        have hn1 : ¬ wr.heap.size = b := by omega
        have hn2 : ¬ w.heap.size + 1 = b := by omega
        have hcs := @cell_set
        obtain ⟨m1, e10, e11, e12, e13, f10, f11, f12, f13⟩ := id r1
        obtain ⟨m2, e20, e21, e22, e23, f20, f21, f22, f23⟩ := id r2
        by_cases he : (closeS i c pk uk dk).e = 0
        · obtain ⟨v, hr, hp0, hp2⟩ := close_ok he
          rw [hr]
          clear he hr
          unfold resV
          go_wp2_with fail
          go_roundw
          case rel =>
            refine ⟨k + 1, pk + 1, v, dk, by omega, by omega, by go_num, rfl, by omega, ?_, ?_, ?_⟩
            · exact ((((((((r0.far (by simp; omega) _).far (by simp; omega) _).far (by simp; omega) _).far (by simp; omega) _).far (by simp) _).far (by simp) _).far (by simp) _).far (by simp) _)
            · exact Q4.set4 ((((r1.far (by simp; omega) _).far (by simp; omega) _).far (by simp; omega) _).far (by simp; omega) _) _ _ _ _
            · repeat' (first | with_reducible exact hB2 | with_reducible refine Below.setCell ?_ ?_ _)
              all_goals (simp <;> omega)
          case measure => simp [intOf]; omega
        · have he' : ((closeS i c pk uk dk).e != 0) = true := by rw [bne_iff_ne]; exact he
          clear he
          generalize closeS i c pk uk dk = r at *
          unfold resV
          go_wp2_with fail
          go_roundw
          case rel =>
            refine ⟨k + 1, pk, uk, dk, by omega, by omega, by go_num, rfl, by omega, ?_, ?_, ?_⟩
            · exact ((((r0.far (by simp; omega) _).far (by simp; omega) _).far (by simp; omega) _).far (by simp; omega) _)
            · exact ((((r1.far (by simp; omega) _).far (by simp; omega) _).far (by simp; omega) _).far (by simp; omega) _)
            · repeat' (first | with_reducible exact hB2 | with_reducible refine Below.setCell ?_ ?_ _)
              all_goals (simp <;> omega)
          case measure => simp [intOf]; omega
      have q2 : (s == 2) = false := by rw [beq_eq_false_iff_ne]; exact h2
      have g1 := hq1.1
      have hne : ¬ wr.heap.size = w.heap.size + 1 := by omega
      have hne' : ¬ w.heap.size + 1 = wr.heap.size := by omega
      obtain ⟨X, a1, a3, a4⟩ : ∃ X, bits .and .i64 dk 1023 = X ∧ 0 ≤ X ∧ X ≤ 1023 := ⟨_, i64_and1023 dk, by omega, by omega⟩
      obtain ⟨Y, a2, a5, a6⟩ : ∃ Y, bits .and .i64 s 7 = Y ∧ 0 ≤ Y ∧ Y ≤ 7 := ⟨_, i64_and7 s, by omega, by omega⟩
      have hn1 : ¬ wr.heap.size = b := by omega
      have hn2 : ¬ w.heap.size + 1 = b := by omega
      have hs2 : s < 0 ∨ 2 < s := by omega
      clear h0 h1 h2
      have hq0c := hq0
      have hq1c := hq1
      have hq0c := hq0.below ((Below.refl _ _).alloc (Nat.le_refl _) (.cells #[.int .i64 i, .int .i64 c, .int .i64 pk, .int .i64 uk] 66))
      have hq1c := hq1.below ((Below.refl _ _).alloc (Nat.le_refl _) (.cells #[.int .i64 i, .int .i64 c, .int .i64 pk, .int .i64 uk] 66))
      rcases hs2 with h | h
      all_goals
        go_wp2_with fail
        go_roundw
        case rel =>
          refine ⟨k + 1, pk, uk, _, by omega, by omega, by go_num, rfl, hp, ?_, ?_, ?_⟩
          · exact ((((hq0.far (by simp) _).far (by simp) _).far (by simp) _).far (by simp) _).below ((Below.refl _ _).alloc (Nat.le_refl _) _)
          · exact (Q4.set4 hq1 _ _ _ _).below ((Below.refl _ _).alloc (Nat.le_refl _) _)
          · refine Below.alloc ?_ ?_ _
            · repeat' (first | with_reducible exact hB | with_reducible refine Below.setCell ?_ ?_ _)
              all_goals simp
            · simp; omega
        case measure => simp [intOf]; omega
    · have hq0c := hq0
      have hq1c := hq1
      obtain ⟨l0, d0, d1, d2, d3, _⟩ := hq0
      obtain ⟨l1, e0, e1, e2, e3, _⟩ := hq1
      have hways : l.length ≤ k ∨ (k < l.length ∧ k = 30) := by omega
      rcases hways with h1 | ⟨h1, h2⟩
      all_goals
        try subst h2
        go_wp2_with fail
        refine (lives28_any _).mono ?_
        rintro e w5 ⟨rfl, hb5⟩
        go_wp2_with fail
        go_ret
        exact ⟨rfl, since_step hB hb5⟩
end Go.Proofs.Ytaaknohoaijfhaa
