/-
  The walks of two laws of layer 5: CrcSeals, CrcTurns.
-/
import Derived.Test.YtaaknohoaijfhaaCrcSeal
namespace Go.Proofs.Ytaaknohoaijfhaa
open Go.ChangeShapes Go.WideShapes Go.ChangeAt Go.RowKit
set_option linter.unusedVariables false

theorem three_oct (m : Nat) (h : m < 16777216) : Oct (three m) := by
  intro x hx
  simp [three] at hx
  omega
theorem sealed_oct {x : List Nat} (h : Oct x) : Oct (sealed x) := h.app (three_oct _ (CrcM.more_lt _ _ (by omega) h))
theorem three_sum (m : Nat) (h : m < 16777216) : m / 65536 * 65536 + m / 256 % 256 * 256 + m % 256 = m := by omega
theorem sealed_form (x : List Nat) (h : Oct x) : ∃ p q r, sealed x = x ++ [p, q, r] ∧ p * 65536 + q * 256 + r = CrcM.more 11994318 x :=
  ⟨_, _, _, rfl, three_sum _ (CrcM.more_lt _ _ (by omega) h)⟩
theorem sealed_iff (x : List Nat) (p q r : Nat) (ho : Oct (x ++ [p, q, r])) : decide (p * 65536 + q * 256 + r = CrcM.more 11994318 x) = decide (sealed x = x ++ [p, q, r]) := by
  have hp : p < 256 := ho p (by simp)
  have hq : q < 256 := ho q (by simp)
  have hr : r < 256 := ho r (by simp)
  have hox : Oct x := fun y hy => ho y (by simp [hy])
  have hm := CrcM.more_lt 11994318 x (by omega) hox
  unfold sealed
  generalize CrcM.more 11994318 x = m at *
  rw [decide_eq_decide, List.append_cancel_left_eq]
  unfold three
  constructor
  · intro h
    have h1 : m / 65536 = p := by omega
    have h2 : m / 256 % 256 = q := by omega
    have h3 : m % 256 = r := by omega
    rw [h1, h2, h3]
  · intro h
    simp only [List.cons.injEq, and_true] at h
    omega
theorem sealed_length (x : List Nat) : (sealed x).length = x.length + 3 := by simp [sealed, three]
theorem split3 (l : List Nat) (h : 3 ≤ l.length) : ∃ x p q r, l = x ++ [p, q, r] := by
  refine ⟨l.take (l.length - 3), l[l.length - 3], l[l.length - 3 + 1], l[l.length - 3 + 1 + 1], ?_⟩
  have h1 := List.take_append_drop (l.length - 3) l
  rw [List.drop_eq_getElem_cons (by omega), List.drop_eq_getElem_cons (by omega), List.drop_eq_getElem_cons (by omega), List.drop_eq_nil_of_le (by omega)] at h1
  exact h1.symm

set_option maxHeartbeats 1000000 in
theorem walk_CrcSeals (a0 : Option Addr) (len0 cap0 : Nat) (z0 : List Int) (a1 : Option Addr) (len1 cap1 : Nat) (z1 : List Int) (w : World) (w0 : IsRow .u8 w a0 len0 cap0 z0) (w1 : IsRow .u8 w a1 len1 cap1 z1) :
    Calls Try.prog 4 #[.slice a0 len0 cap0, .slice a1 len1 cap1] w fun e w' => e = .returned (.bool true) ∧ Below w.heap.size w w' := by
  obtain ⟨la, rfl, hca, hma, hsa, hoa⟩ := w0.bytes
  obtain ⟨lb, rfl, hcb, hmb, hsb, hob⟩ := w1.bytes
  obtain ⟨x, HX, hla, hsa', hoa'⟩ := cut_bytes 300 hsa hoa
  obtain ⟨y, HY, hlb, hsb', hob'⟩ := cut_bytes 300 hsb hob
  clear w0 w1 hsa hsb hoa hob
  unfold maxLen at hma hmb
  go_enter Try.func4, Try.ntmps4
  go_wp2_with fail
  refine (cut_any a0 la.length cap0 300 _ (by omega) (by omega) hca (by omega)).mono ?_
  rintro e w' ⟨rfl, rfl⟩
  rw [HX.out.1]
  go_wp2_with fail
  refine (cut_any a1 lb.length cap1 300 _ (by omega) (by omega) hcb (by omega)).mono ?_
  rintro e w' ⟨rfl, rfl⟩
  rw [HY.out.1]
  have hyc : y.length ≤ cap1 := by have := HY.out.1; omega
  clear HX HY hca hcb hma
  go_wp2_with fail
  refine (seal_any a0 cap0 x _ (by omega) hsa' hoa').mono ?_
  rintro e w1 ⟨A1, c1, rfl, hown1, hb1⟩
  have hs1 := Sl.of_own hown1
  have hx1 := hsa'.below hb1
  have hy1 := hsb'.below hb1
  have hso := sealed_oct hoa'
  have hsl := sealed_length x
  have HL := Lib.hid hsl
  obtain ⟨p, q, r, hf, hpq⟩ := sealed_form x hoa'
  have HF := Lib.hid hf
  have HP := Lib.hid (decide_eq_true hpq)
  clear hf hpq hsl
  go_wp2_with fail
  refine (open_any A1 c1 x p q r _ (by omega) (by rw [← HF.out]; exact hs1) (by rw [← HF.out]; exact hso)).mono ?_
  rintro e w2 ⟨A2, c2, rfl, hown2, hb2⟩
  rw [HP.out]
  have hs2 := hs1.below hb2
  have hin2 := Sl.of_own hown2
  have hx2 := hx1.below hb2
  have hy2 := hy1.below hb2
  go_wp2_with fail
  refine (refSeal_any a0 cap0 x _ (by omega) hx2 hoa').mono ?_
  rintro e w3 ⟨A3, c3, rfl, hown3, hb3⟩
  have hs3 := hs2.below hb3
  have hin3 := hin2.below hb3
  have hx3 := hx2.below hb3
  have hy3 := hy2.below hb3
  have hsr3 := Sl.of_own hown3
  go_wp2_with fail
  rw [← HL.out]
  refine (same_any A1 A3 c1 c3 (sealed x) (sealed x) _ (by rw [HL.out]; unfold maxLen; omega) (by rw [HL.out]; unfold maxLen; omega) hs3 hsr3).mono ?_
  rintro e w4 ⟨rfl, n4, rfl⟩
  rw [decide_eq_true rfl]
  go_wp2_with fail
  refine (same_any A2 a0 c2 cap0 x x _ (by unfold maxLen; omega) (by unfold maxLen; omega) (hin3.drewN _) (hx3.drewN _)).mono ?_
  rintro e w4 ⟨rfl, n5, rfl⟩
  rw [decide_eq_true rfl]
  have hbw : Below w.heap.size w w3 := hb1.trans ((hb2.mono hb1.size).trans (hb3.mono (Nat.le_trans hb1.size hb2.size)))
  clear hs1 hx1 hy1 hs2 hin2 hx2 hy2 hs3 hin3 hx3 hsr3 hown1 hown2 hown3 hb1 hb2 hb3 HP HF HL
  by_cases h3 : y.length < 3
  · go_wp2_with fail
    refine (open_short a1 y.length cap1 _ h3).mono ?_
    rintro e w5 ⟨rfl, rfl⟩
    go_wp2_with fail
    refine (lives_any _).mono ?_
    rintro e w6 ⟨rfl, hb6⟩
    go_wp2_with fail
    go_ret
    exact ⟨rfl, (below_drewN hbw _).trans (hb6.mono hbw.size)⟩
  · obtain ⟨u, p2, q2, r2, rfl⟩ := split3 y (by omega)
    have hu : u.length ≤ 297 := by simp at hlb; omega
    have huc : u.length + 3 ≤ cap1 := by simp at hyc; omega
    clear hyc
    have hou : Oct u := fun z hz => hob' z (by simp [hz])
    have HB := Lib.hid (sealed_iff u p2 q2 r2 hob')
    have hlu := Lib.hid (sealed_length u)
    have hlr : (u ++ [p2, q2, r2]).length = u.length + 3 := by simp
    have HR := Lib.hid hlr
    clear hlr h3 hlb
    go_wp2_with fail
    refine (open_any a1 cap1 u p2 q2 r2 _ (by omega) (hy3.drewN _) hob').mono ?_
    rintro e w5 ⟨A5, c5, rfl, hown5, hb5⟩
    rw [HB.out]
    have hs5 := Sl.of_own hown5
    have hy5 := (hy3.drewN (n4 + n5)).below hb5
    have hu5 : Sl w5 a1 (by8 u) := by
      have := hy5.take u.length
      rw [by8_append] at this
      rwa [List.take_left' (by rw [by8_length])] at this
    generalize hD : decide (sealed u = u ++ [p2, q2, r2]) = D
    go_wp2_with fail
    refine (same_any A5 a1 c5 cap1 u u _ (by unfold maxLen; omega) (by unfold maxLen; omega) hs5 hu5).mono ?_
    rintro e w6 ⟨rfl, n6, rfl⟩
    rw [decide_eq_true rfl]
    go_wp2_with fail
    refine (refSeal_any A5 c5 u _ (by omega) (hs5.drewN _) hou).mono ?_
    rintro e w7 ⟨A7, c7, rfl, hown7, hb7⟩
    have hs7 := Sl.of_own hown7
    have hy7 := (hy5.drewN n6).below hb7
    go_wp2_with fail
    refine (same_n A7 a1 c7 cap1 _ _ (sealed u) (u ++ [p2, q2, r2]) _ hlu.out HR.out (by unfold maxLen; omega) (by unfold maxLen; omega) hs7 hy7).mono ?_
    rintro e w8 ⟨rfl, n8, rfl⟩
    rw [hD]
    go_wp2_with fail
    refine (lives_any _).mono ?_
    rintro e w9 ⟨rfl, hb9⟩
    go_wp2_with fail
    go_ret
    have hA := (below_drewN hbw (n4 + n5)).trans (hb5.mono hbw.size)
    have hB := (below_drewN hA n6).trans (hb7.mono hA.size)
    exact ⟨rfl, (below_drewN hB n8).trans (hb9.mono hB.size)⟩
end Go.Proofs.Ytaaknohoaijfhaa
