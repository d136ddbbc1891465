/-
  The walk of CrcTurns.
-/
import Derived.Test.YtaaknohoaijfhaaCrcLaws2
import Derived.BigRegion
namespace Go.Proofs.Ytaaknohoaijfhaa
open Go.ChangeShapes Go.WideShapes Go.ChangeAt Go.RowKit
set_option linter.unusedVariables false

theorem parts3 (l : List Nat) (k : Nat) (h : k + 3 ≤ l.length) : ∃ p u v t q, l = p ++ [u, v, t] ++ q ∧ p.length = k := by
  refine ⟨l.take k, l[k], l[k + 1], l[k + 1 + 1], l.drop (k + 3), ?_, by simp; omega⟩
  have h1 := List.take_append_drop k l
  rw [List.drop_eq_getElem_cons (by omega), List.drop_eq_getElem_cons (by omega), List.drop_eq_getElem_cons (by omega)] at h1
  rw [List.append_assoc]
  exact h1.symm
theorem sl_at {w : World} {g k x : Nat} {l : List Nat} (h : Sl w (some ⟨g, 0, none⟩) (by8 l)) (hk : k < l.length) (he : l[k] = x) : w.cell? ⟨g, k, none⟩ = some (.int .u8 (x : Int)) := by
  obtain ⟨b, o, e, hc⟩ := h.byte hk
  injection e with e; injection e with e1 e2; subst e1; subst e2; subst he
  simpa using hc

theorem set3 (p q : List Nat) (u v t u' v' t' : Nat) : (((p ++ [u, v, t] ++ q).set p.length u').set (p.length + 1) v').set (p.length + 2) t' = p ++ [u', v', t'] ++ q := by
  induction p with
  | nil => rfl
  | cons a p ih => simp
theorem sealed_sum (b : List Nat) (h : Oct b) : CrcM.more 11994318 (sealed b) = 0 := by
  have hm := CrcM.more_lt 11994318 b (by omega) h
  unfold sealed three
  rw [CrcM.more_append]
  exact CrcM.sealed_zero _ _ _ _ (by omega) (by omega) (by omega) (three_sum _ hm)

set_option maxHeartbeats 4000000 in
theorem walk_CrcTurns (a0 : Option Addr) (len0 cap0 : Nat) (z0 : List Int) (a1 : Int) (a2 : Int) (a3 : Int) (a4 : Int) (w : World) (w0 : IsRow .u8 w a0 len0 cap0 z0) (w1 : (Lit.int .i64 a1).wf = true) (w2 : (Lit.int .u8 a2).wf = true) (w3 : (Lit.int .u8 a3).wf = true) (w4 : (Lit.int .u8 a4).wf = true) :
    Calls Try.prog 6 #[.slice a0 len0 cap0, .int .i64 a1, .int .u8 a2, .int .u8 a3, .int .u8 a4] w fun e w' => e = .returned (.bool true) ∧ Below w.heap.size w w' := by
  obtain ⟨la, rfl, hca, hma, hsa, hoa⟩ := w0.bytes
  obtain ⟨b, HX, hla, hsa', hoa'⟩ := cut_bytes 300 hsa hoa
  have k2 := bd_u8 w2
  have k3 := bd_u8 w3
  have k4 := bd_u8 w4
  obtain ⟨x, rfl⟩ := Int.eq_ofNat_of_zero_le k2.1
  obtain ⟨y, rfl⟩ := Int.eq_ofNat_of_zero_le k3.1
  obtain ⟨z, rfl⟩ := Int.eq_ofNat_of_zero_le k4.1
  clear w0 w1 w2 w3 w4 hsa hoa
  unfold maxLen at hma
  go_enter Try.func6, Try.ntmps6
  go_wp2_with fail
  refine (cut_any a0 la.length cap0 300 _ (by omega) (by omega) hca (by omega)).mono ?_
  rintro e w' ⟨rfl, rfl⟩
  rw [HX.out.1]
  clear HX
  go_wp2_with fail
  refine (seal_any a0 cap0 b _ (by omega) hsa' hoa').mono ?_
  rintro e w1 ⟨A1, c1, rfl, hown1, hb1⟩
  go_wp2_with fail
  refine (in_any a1 0 (b.length) _).mono ?_
  rintro e w' ⟨rfl, rfl⟩
  obtain ⟨k, hk, hkb⟩ : ∃ k : Nat, clampI a1 0 (b.length : Int) = (k : Int) ∧ k ≤ b.length := by
    unfold clampI
    split
    · exact ⟨0, rfl, by omega⟩
    · split
      · exact ⟨b.length, rfl, by omega⟩
      · exact ⟨a1.toNat, by omega, by omega⟩
  rw [hk]
  clear hk
  by_cases hz : x = 0 ∧ y = 0 ∧ z = 0
  · obtain ⟨rfl, rfl, rfl⟩ := hz
    go_wp2_with fail
    refine (lives_any _).mono ?_
    rintro e w6 ⟨rfl, hb6⟩
    go_wp2_with fail
    go_ret
    exact ⟨rfl, hb1.trans (hb6.mono hb1.size)⟩
  · have hways : ((x : Int) == 0) = false ∨ (((x : Int) == 0) = true ∧ ((y : Int) == 0) = false) ∨ (((x : Int) == 0) = true ∧ ((y : Int) == 0) = true ∧ ((z : Int) == 0) = false) := by
      simp only [beq_eq_false_iff_ne, beq_iff_eq]; omega
    rcases hways with h1 | ⟨h1, h2⟩ | ⟨h1, h2, h3⟩
    all_goals
      go_wp2_with (first
        | (at_builtin; refine wpList_app rfl (.tmp 37) (.tmp 38) rfl u8E rfl rfl (own_nil w.heap.size _ _) (by rw [by8_length, sealed_length]; omega) (Sl.of_own hown1) (by8_one _) (by unfold maxLen; omega) (by omega) hb1.size ?_; intro A2 c2 w2 hown2 hg2 hb2; simp only [Nat.zero_add, List.nil_append] at hown2)
        | fail)
    all_goals
      have hbw := hb1.trans hb2
      obtain ⟨g, rfl, hg, hgs, hfz⟩ := own_at hown2 (by omega)
      have hf0 := hfz k
      have hf1 := hfz (k + 1)
      have hf2 := hfz (k + 2)
      have hs2 : Sl w2 (some ⟨g, 0, none⟩) (by8 (sealed b)) := Sl.of_own hown2
      obtain ⟨p, u, v, t, q, hsp, hpl⟩ := parts3 (sealed b) k (by rw [sealed_length]; omega)
      have hc0 : w2.cell? ⟨g, k, none⟩ = some (.int .u8 (u : Int)) := by
        rw [hsp] at hs2
        exact sl_at hs2 (by simp; omega) (by simp [hpl])
      have hc1 : w2.cell? ⟨g, k + 1, none⟩ = some (.int .u8 (v : Int)) := by
        rw [hsp] at hs2
        exact sl_at hs2 (by simp; omega) (by simp [hpl])
      have hc2 : w2.cell? ⟨g, k + 2, none⟩ = some (.int .u8 (t : Int)) := by
        rw [hsp] at hs2
        exact sl_at hs2 (by simp; omega) (by simp [hpl])
      clear hfz hg2 hown1 hb1 hb2 hsa' hown2
      have hT := set3 p q u v t (u ^^^ x) (v ^^^ y) (t ^^^ z)
      rw [hpl, ← hsp] at hT
      have hoS := sealed_oct hoa'
      have hu : u < 256 := hoS u (by rw [hsp]; simp)
      have hv : v < 256 := hoS v (by rw [hsp]; simp)
      have ht : t < 256 := hoS t (by rw [hsp]; simp)
      have hop : Oct p := fun i hi => hoS i (by rw [hsp]; simp [hi])
      have hoq : Oct q := fun i hi => hoS i (by rw [hsp]; simp [hi])
      have hx8 : x < 256 := by omega
      have hy8 : y < 256 := by omega
      have hz8 : z < 256 := by omega
      have hlen : (sealed b).length = b.length + 3 := sealed_length b
      have hne : CrcM.more 11994318 (p ++ [u ^^^ x, v ^^^ y, t ^^^ z] ++ q) ≠ 0 :=
        CrcM.turned 11994318 p q u v t x y z (by omega) hop hoq hu hv ht hx8 hy8 hz8 (by rw [← hsp]; exact sealed_sum b hoa') hz
      have xl : ∀ i j : Nat, i < 256 → j < 256 → i ^^^ j < 256 := fun i j hi hj => Nat.xor_lt_two_pow (n := 8) hi hj
      have hoT : Oct (p ++ [u ^^^ x, v ^^^ y, t ^^^ z] ++ q) := by
        refine (hop.app ?_).app hoq
        intro i hi
        simp at hi
        rcases hi with rfl | rfl | rfl
        · exact xl _ _ hu hx8
        · exact xl _ _ hv hy8
        · exact xl _ _ ht hz8
      have hlT : (p ++ [u ^^^ x, v ^^^ y, t ^^^ z] ++ q).length = b.length + 3 := by rw [← hT]; simp [hlen]
      have e0 := u8_xor_nat u x hu hx8
      have e1 := u8_xor_nat v y hv hy8
      have e2 := u8_xor_nat t z ht hz8
      have hsl : ∀ W : World, Sl W (some ⟨g, 0, none⟩) (by8 (sealed b)) → Sl (((W.setCell ⟨g, k, none⟩ (.int .u8 ((u ^^^ x : Nat) : Int))).setCell ⟨g, k + 1, none⟩ (.int .u8 ((v ^^^ y : Nat) : Int))).setCell ⟨g, k + 2, none⟩ (.int .u8 ((t ^^^ z : Nat) : Int))) (some ⟨g, 0, none⟩) (by8 (p ++ [u ^^^ x, v ^^^ y, t ^^^ z] ++ q)) := by
        intro W h
        rw [← hT]
        unfold by8 at h ⊢
        rw [← by8_set, ← by8_set, ← by8_set]
        exact ((h.set0 (by simp [hlen]; omega) _).set0 (by simp [hlen]; omega) _).set0 (by simp [hlen]; omega) _
      obtain ⟨T, p1, p2, p3, hTf⟩ := split3 (p ++ [u ^^^ x, v ^^^ y, t ^^^ z] ++ q) (by omega)
      rw [hTf] at hne hoT hlT hsl
      have hlT' : T.length = b.length := by simp at hlT; omega
      have hno : decide (p1 * 65536 + p2 * 256 + p3 = CrcM.more 11994318 T) = false := by
        rw [decide_eq_false_iff_not]
        intro h
        apply hne
        rw [CrcM.more_append]
        exact CrcM.sealed_zero _ p1 p2 p3 (hoT p1 (by simp)) (hoT p2 (by simp)) (hoT p3 (by simp)) h
      have HNO := Lib.hid hno
      have HL := Lib.hid hlT'
      have HSL := Lib.hid (hsl w2 hs2)
      clear hno hlT' hlT hne hT hTf hsl hlen hpl hsp hs2
      go_region
      go_wp2_with fail
      rw [← HL.out]
      refine (open_any (some ⟨g, 0, none⟩) c2 T p1 p2 p3 _ (by have := HL.out; omega) (HSL.out.drew) hoT).mono ?_
      rintro e w5 ⟨A5, c5, rfl, hown5, hb5⟩
      rw [HNO.out]
      go_wp2_with fail
      refine (lives_any _).mono ?_
      rintro e w6 ⟨rfl, hb6⟩
      go_wp2_with fail
      go_ret
      have hA : Below w.heap.size w (((w2.setCell ⟨g, k, none⟩ (.int .u8 ((u ^^^ x : Nat) : Int))).setCell ⟨g, k + 1, none⟩ (.int .u8 ((v ^^^ y : Nat) : Int))).setCell ⟨g, k + 2, none⟩ (.int .u8 ((t ^^^ z : Nat) : Int))).drew :=
        (((hbw.setCell (p := ⟨g, k, none⟩) hg _).setCell (p := ⟨g, k + 1, none⟩) hg _).setCell (p := ⟨g, k + 2, none⟩) hg _).drew
      have hB := hA.trans (hb5.mono hA.size)
      exact ⟨rfl, hB.trans (hb6.mono hB.size)⟩
end Go.Proofs.Ytaaknohoaijfhaa
