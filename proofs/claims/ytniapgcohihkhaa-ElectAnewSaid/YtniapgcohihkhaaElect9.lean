/-
  Layer 16, ninth part: ElectAnew: the walk (laid by gen_elect9.py).
-/
import Derived.Test.YtniapgcohihkhaaElectM2
import Derived.Test.YtniapgcohihkhaaDnT
namespace Go.Proofs.Ytniapgcohihkhaa
open Go.ChangeShapes Go.WideShapes Go.ChangeAt Go.RowKit
set_option linter.unusedVariables false
set_option linter.unusedSimpArgs false

theorem rd_dn {w : World} {r : List Value} (h : Rd w (.cat (.int .i64) (.cat (.cat (.int .i64) (.cat (.int .i64) .nil)) (.cat (.cat (.int .i64) (.cat (.int .i64) .nil)) .nil))) r) : ∃ g : Dn, r = g.cells := by
  obtain ⟨p, q, rfl, ⟨a, rfl, _⟩, ⟨p0, q0, rfl, ⟨p1, q1, rfl, ⟨b, rfl, _⟩, ⟨p2, q2, rfl, ⟨c, rfl, _⟩, rfl⟩⟩, ⟨p3, q3, rfl, ⟨p4, q4, rfl, ⟨d, rfl, _⟩, ⟨p5, q5, rfl, ⟨e, rfl, _⟩, rfl⟩⟩, rfl⟩⟩⟩ := h
  exact ⟨⟨a, b, c, d, e⟩, rfl⟩
def AnewRel (n : Nat) (W0 : World) (all i : Value) (wr : World) : Prop :=
  ∃ (k : Nat) (L : List Ch) (A' : Option Addr) (c' : Nat), k ≤ n ∧ k ≤ 30 ∧ all = .slice A' L.length c' ∧ i = .int .i64 k ∧ Sl wr A' (rc Ch.cells L) ∧ isC L = true ∧ L.length ≤ k ∧ Below W0.heap.size W0 wr
theorem isC_nil : isC [] = true := by decide

set_option maxHeartbeats 16000000 in
set_option maxRecDepth 100000 in
theorem walk_ElectAnew (a0 : Option Addr) (n0 c0 : Nat) (a1 : Array Value) (w : World) (w0 : Rd w (.sl (.cat (.int .i64) (.cat (.cat (.int .i64) (.cat (.int .i64) .nil)) (.cat (.cat (.int .i64) (.cat (.int .i64) .nil)) .nil)))) [.slice a0 n0 c0]) (w1 : Rd w (.cat (.int .i64) (.cat (.int .i64) .nil)) a1.toList) :
    Calls Try.prog 8 #[.slice a0 n0 c0, .agg a1] w fun e w' => e = .returned (.bool true) ∧ Below w.heap.size w w' := by
  obtain ⟨l, rfl, hn0, hcm, hsl⟩ := rd_rows (f := Dn.cells) (fun r => rd_dn) w0
  obtain ⟨o1, o2, rfl⟩ := rd_two w1
  clear w0 w1 hn0 hcm
  have hBW := since_alloc (Below.refl _ w) (.cells #[.int .i64 o1, .int .i64 o2] 44)
  have hU0 := UAt.new w o1 o2 44
  have hs0 := hsl.alloc (.cells #[.int .i64 o1, .int .i64 o2] 44)
  go_enter Try.func8, Try.ntmps8
  go_upto_region 1 with fail
  generalize hWW : w.alloc (.cells #[.int .i64 o1, .int .i64 o2] 44) = W0 at *
  clear hWW hsl
  go_wp2_with fail
  go_loopw [5, 6] (fun all i wr => AnewRel l.length W0 all i wr) (fun _ i _ => l.length - (intOf i).toNat)
  case atStart => exact ⟨0, [], none, 0, by omega, by omega, rfl, rfl, Sl.nil, isC_nil, by simp, Below.refl _ _⟩
  case round =>
    obtain ⟨k, L, A', c', hk, hk30, rfl, rfl, hs, hC, hLk, hB⟩ := hrel
    by_cases hgo : k < l.length ∧ k < 30
    · obtain ⟨hlt, hlt30⟩ := hgo
      obtain ⟨b, o, rfl, hbw, hg⟩ := hs0.dn hlt
      have hg1 : l[k].at wr b (o + k * 5) := Dn.at_keep (w := W0) hg fun i => hB.cell (p := ⟨b, i, none⟩) hbw
      have hbr : b < wr.heap.size := Nat.lt_of_lt_of_le hbw hB.size
      have hUo := (hU0.below hB).below ((Below.refl wr.heap.size wr).alloc (Nat.le_refl _) (.cells l[k].cells.toArray 64))
      have hV := Bk.new wr l[k].cells.toArray 64
      have hs := hs.alloc (.cells l[k].cells.toArray 64)
      have hB3 := since_alloc hB (.cells l[k].cells.toArray 64)
      have hlL : L.length ≤ 1000000 := by omega
      have hlk : (k : Int) < (l.length : Int) := by omega
      have hlk30 : (k : Int) < 30 := by omega
      obtain ⟨pv, hpv⟩ : ∃ v, findC L o1 o2 = v := ⟨_, rfl⟩
      obtain ⟨pq, hpq⟩ : ∃ v, hasC L o1 o2 = v := ⟨_, rfl⟩
      have HPV := Lib.hid hpv
      have HPQ := Lib.hid hpq
      have hqq : (pq != pq) = false := by simp
      clear hg hbw hs0 hU0 hB hBW hpv hpq
      generalize l[k] = v at *
      obtain ⟨kd, fu, fv, tu, tv⟩ := v
      unfold Dn.at at hg1
      unfold Dn.cells at *
      simp only at hg1
      obtain ⟨g0, g1, g2, g3, g4⟩ := hg1
      have hfo3 : (fu = o1 ∧ fv = o2) ∨ fu ≠ o1 ∨ (fu = o1 ∧ fv ≠ o2) := by
        by_cases h8 : fu = o1
        · by_cases h9 : fv = o2
          · exact .inl ⟨h8, h9⟩
          · exact .inr (.inr ⟨h8, h9⟩)
        · exact .inr (.inl h8)
      by_cases hk0 : kd = 0
      · subst hk0
        by_cases hft : fu = tu ∧ fv = tv
        · have HE : Hid (electR L fu fv tu tv = (24, [])) := Lib.hid (by rw [electR, if_neg (by rw [hC]; decide), if_pos hft])
          have HR : Hid (readyR [] fu fv = (0, 0, 19)) := Lib.hid rfl
          have HMC := Lib.hid hC
          obtain ⟨rfl, rfl⟩ := hft
          clear hC
          rcases hfo3 with hfo | hfo | hfo
          · obtain ⟨rfl, rfl⟩ := hfo
            have HF2 : Hid (findC L fu fv = pv ∧ hasC L fu fv = pq) := Lib.hid ⟨HPV.out, HPQ.out⟩
            obtain ⟨u0, u1, u2⟩ := id hUo
            obtain ⟨lv, cv⟩ := id hV
            have q0 := cv 0
            have q1 := cv 1
            have q2 := cv 2
            have q3 := cv 3
            have q4 := cv 4
            simp at q0 q1 q2 q3 q4
            clear cv
            go_wp2_with fail
            refine (efind_any A' c' L fu fv _ (by omega) hs).mono ?_
            rw [HPV.out, HPQ.out]
            unfold Ch.val
            rintro e z1 ⟨rfl, hb⟩
            have hB3 := since_step hB3 hb
            have hs := hs.below hb
            have hUo := hUo.below hb
            have hV := hV.below hb
            clear hb
            clear u0 u1 u2 lv q0 q1 q2 q3 q4
            obtain ⟨u0, u1, u2⟩ := id hUo
            obtain ⟨lv, cv⟩ := id hV
            have q0 := cv 0
            have q1 := cv 1
            have q2 := cv 2
            have q3 := cv 3
            have q4 := cv 4
            simp at q0 q1 q2 q3 q4
            clear cv
            go_wp2_with fail
            have hP1 := Ch.Bx.new z1 pv
            have hA := (Below.refl z1.heap.size z1).alloc (Nat.le_refl _) (.cells pv.cells.toArray 54)
            have hs := hs.below hA
            have hUo := hUo.below hA
            have hV := hV.below hA
            have hB3 := since_step hB3 hA
            clear hA
            refine (eelect_any A' c' L fu fv fu fv _ (by omega) hs).mono ?_
            rw [HE.out]
            rintro e z2 ⟨⟨AX, cX, rfl, hown⟩, hb⟩
            have hB3 := since_step hB3 hb
            have hs := hs.below hb
            have hUo := hUo.below hb
            have hV := hV.below hb
            have hP1 := hP1.below hb
            clear hb
            clear u0 u1 u2 lv q0 q1 q2 q3 q4
            have hX := Sl.of_own hown
            clear hown
            obtain ⟨u0, u1, u2⟩ := id hUo
            obtain ⟨lv, cv⟩ := id hV
            have q0 := cv 0
            have q1 := cv 1
            have q2 := cv 2
            have q3 := cv 3
            have q4 := cv 4
            simp at q0 q1 q2 q3 q4
            clear cv
            obtain ⟨p0, p1, p2, p3, p4⟩ := hP1.got
            go_wp2_with fail
            refine (eready_any AX cX [] fu fv _ (by decide) hX).mono ?_
            rw [HR.out]
            unfold unitV
            rintro e z3 ⟨rfl, hb⟩
            have hB3 := since_step hB3 hb
            have hs := hs.below hb
            have hUo := hUo.below hb
            have hV := hV.below hb
            have hP1 := hP1.below hb
            have hX := hX.below hb
            clear hb
            clear u0 u1 u2 lv q0 q1 q2 q3 q4 p0 p1 p2 p3 p4
            obtain ⟨u0, u1, u2⟩ := id hUo
            obtain ⟨lv, cv⟩ := id hV
            have q0 := cv 0
            have q1 := cv 1
            have q2 := cv 2
            have q3 := cv 3
            have q4 := cv 4
            simp at q0 q1 q2 q3 q4
            clear cv
            obtain ⟨p0, p1, p2, p3, p4⟩ := hP1.got
            go_wp2_with fail
            have hR1 := UAt.new z3 0 0 44
            have hA := (Below.refl z3.heap.size z3).alloc (Nat.le_refl _) (.cells #[.int .i64 0, .int .i64 0] 44)
            have hs := hs.below hA
            have hUo := hUo.below hA
            have hV := hV.below hA
            have hP1 := hP1.below hA
            have hX := hX.below hA
            have hB3 := since_step hB3 hA
            clear hA
            refine (efind_any A' c' L fu fv _ hlL hs).mono ?_
            rw [HF2.out.1, HF2.out.2]
            unfold Ch.val
            rintro e z4 ⟨rfl, hb⟩
            have hB3 := since_step hB3 hb
            have hs := hs.below hb
            have hUo := hUo.below hb
            have hV := hV.below hb
            have hP1 := hP1.below hb
            have hX := hX.below hb
            have hR1 := hR1.below hb
            clear hb
            clear u0 u1 u2 lv q0 q1 q2 q3 q4 p0 p1 p2 p3 p4
            obtain ⟨u0, u1, u2⟩ := id hUo
            obtain ⟨lv, cv⟩ := id hV
            have q0 := cv 0
            have q1 := cv 1
            have q2 := cv 2
            have q3 := cv 3
            have q4 := cv 4
            simp at q0 q1 q2 q3 q4
            clear cv
            obtain ⟨p0, p1, p2, p3, p4⟩ := hP1.got
            go_wp2_with fail
            have hP2 := Ch.Bx.new z4 pv
            have hA := (Below.refl z4.heap.size z4).alloc (Nat.le_refl _) (.cells pv.cells.toArray 54)
            have hs := hs.below hA
            have hUo := hUo.below hA
            have hV := hV.below hA
            have hP1 := hP1.below hA
            have hX := hX.below hA
            have hR1 := hR1.below hA
            have hB3 := since_step hB3 hA
            clear hA
            refine (eis_any A' c' L _ hlL hs).mono ?_
            rw [HMC.out]
            rintro e z5 ⟨rfl, hb⟩
            have hB3 := since_step hB3 hb
            have hs := hs.below hb
            have hUo := hUo.below hb
            have hV := hV.below hb
            have hP1 := hP1.below hb
            have hX := hX.below hb
            have hR1 := hR1.below hb
            have hP2 := hP2.below hb
            clear hb
            clear u0 u1 u2 lv q0 q1 q2 q3 q4 p0 p1 p2 p3 p4
            obtain ⟨u0, u1, u2⟩ := id hUo
            obtain ⟨lv, cv⟩ := id hV
            have q0 := cv 0
            have q1 := cv 1
            have q2 := cv 2
            have q3 := cv 3
            have q4 := cv 4
            simp at q0 q1 q2 q3 q4
            clear cv
            obtain ⟨p0, p1, p2, p3, p4⟩ := hP1.got
            obtain ⟨s0, s1, s2, s3, s4⟩ := hP2.got
            go_wp2_with fail
            go_roundw
            case rel => exact ⟨k + 1, L, A', c', by omega, by omega, rfl, by go_num, hs, HMC.out, by omega, hB3⟩
            case measure => simp [intOf]; omega
          · have hf1 : fu ≠ o1 := hfo
            have HF2 : Hid (findC L o1 o2 = pv ∧ hasC L o1 o2 = pq) := Lib.hid ⟨HPV.out, HPQ.out⟩
            obtain ⟨u0, u1, u2⟩ := id hUo
            obtain ⟨lv, cv⟩ := id hV
            have q0 := cv 0
            have q1 := cv 1
            have q2 := cv 2
            have q3 := cv 3
            have q4 := cv 4
            simp at q0 q1 q2 q3 q4
            clear cv
            go_wp2_with fail
            refine (efind_any A' c' L o1 o2 _ (by omega) hs).mono ?_
            rw [HPV.out, HPQ.out]
            unfold Ch.val
            rintro e z1 ⟨rfl, hb⟩
            have hB3 := since_step hB3 hb
            have hs := hs.below hb
            have hUo := hUo.below hb
            have hV := hV.below hb
            clear hb
            clear u0 u1 u2 lv q0 q1 q2 q3 q4
            obtain ⟨u0, u1, u2⟩ := id hUo
            obtain ⟨lv, cv⟩ := id hV
            have q0 := cv 0
            have q1 := cv 1
            have q2 := cv 2
            have q3 := cv 3
            have q4 := cv 4
            simp at q0 q1 q2 q3 q4
            clear cv
            go_wp2_with fail
            have hP1 := Ch.Bx.new z1 pv
            have hA := (Below.refl z1.heap.size z1).alloc (Nat.le_refl _) (.cells pv.cells.toArray 54)
            have hs := hs.below hA
            have hUo := hUo.below hA
            have hV := hV.below hA
            have hB3 := since_step hB3 hA
            clear hA
            refine (eelect_any A' c' L fu fv fu fv _ (by omega) hs).mono ?_
            rw [HE.out]
            rintro e z2 ⟨⟨AX, cX, rfl, hown⟩, hb⟩
            have hB3 := since_step hB3 hb
            have hs := hs.below hb
            have hUo := hUo.below hb
            have hV := hV.below hb
            have hP1 := hP1.below hb
            clear hb
            clear u0 u1 u2 lv q0 q1 q2 q3 q4
            have hX := Sl.of_own hown
            clear hown
            obtain ⟨u0, u1, u2⟩ := id hUo
            obtain ⟨lv, cv⟩ := id hV
            have q0 := cv 0
            have q1 := cv 1
            have q2 := cv 2
            have q3 := cv 3
            have q4 := cv 4
            simp at q0 q1 q2 q3 q4
            clear cv
            obtain ⟨p0, p1, p2, p3, p4⟩ := hP1.got
            go_wp2_with fail
            refine (eready_any AX cX [] fu fv _ (by decide) hX).mono ?_
            rw [HR.out]
            unfold unitV
            rintro e z3 ⟨rfl, hb⟩
            have hB3 := since_step hB3 hb
            have hs := hs.below hb
            have hUo := hUo.below hb
            have hV := hV.below hb
            have hP1 := hP1.below hb
            have hX := hX.below hb
            clear hb
            clear u0 u1 u2 lv q0 q1 q2 q3 q4 p0 p1 p2 p3 p4
            obtain ⟨u0, u1, u2⟩ := id hUo
            obtain ⟨lv, cv⟩ := id hV
            have q0 := cv 0
            have q1 := cv 1
            have q2 := cv 2
            have q3 := cv 3
            have q4 := cv 4
            simp at q0 q1 q2 q3 q4
            clear cv
            obtain ⟨p0, p1, p2, p3, p4⟩ := hP1.got
            go_wp2_with fail
            have hR1 := UAt.new z3 0 0 44
            have hA := (Below.refl z3.heap.size z3).alloc (Nat.le_refl _) (.cells #[.int .i64 0, .int .i64 0] 44)
            have hs := hs.below hA
            have hUo := hUo.below hA
            have hV := hV.below hA
            have hP1 := hP1.below hA
            have hX := hX.below hA
            have hB3 := since_step hB3 hA
            clear hA
            refine (efind_any A' c' L o1 o2 _ hlL hs).mono ?_
            rw [HF2.out.1, HF2.out.2]
            unfold Ch.val
            rintro e z4 ⟨rfl, hb⟩
            have hB3 := since_step hB3 hb
            have hs := hs.below hb
            have hUo := hUo.below hb
            have hV := hV.below hb
            have hP1 := hP1.below hb
            have hX := hX.below hb
            have hR1 := hR1.below hb
            clear hb
            clear u0 u1 u2 lv q0 q1 q2 q3 q4 p0 p1 p2 p3 p4
            obtain ⟨u0, u1, u2⟩ := id hUo
            obtain ⟨lv, cv⟩ := id hV
            have q0 := cv 0
            have q1 := cv 1
            have q2 := cv 2
            have q3 := cv 3
            have q4 := cv 4
            simp at q0 q1 q2 q3 q4
            clear cv
            obtain ⟨p0, p1, p2, p3, p4⟩ := hP1.got
            go_wp2_with fail
            have hP2 := Ch.Bx.new z4 pv
            have hA := (Below.refl z4.heap.size z4).alloc (Nat.le_refl _) (.cells pv.cells.toArray 54)
            have hs := hs.below hA
            have hUo := hUo.below hA
            have hV := hV.below hA
            have hP1 := hP1.below hA
            have hX := hX.below hA
            have hR1 := hR1.below hA
            have hB3 := since_step hB3 hA
            clear hA
            refine (eis_any A' c' L _ hlL hs).mono ?_
            rw [HMC.out]
            rintro e z5 ⟨rfl, hb⟩
            have hB3 := since_step hB3 hb
            have hs := hs.below hb
            have hUo := hUo.below hb
            have hV := hV.below hb
            have hP1 := hP1.below hb
            have hX := hX.below hb
            have hR1 := hR1.below hb
            have hP2 := hP2.below hb
            clear hb
            clear u0 u1 u2 lv q0 q1 q2 q3 q4 p0 p1 p2 p3 p4
            obtain ⟨u0, u1, u2⟩ := id hUo
            obtain ⟨lv, cv⟩ := id hV
            have q0 := cv 0
            have q1 := cv 1
            have q2 := cv 2
            have q3 := cv 3
            have q4 := cv 4
            simp at q0 q1 q2 q3 q4
            clear cv
            obtain ⟨p0, p1, p2, p3, p4⟩ := hP1.got
            obtain ⟨s0, s1, s2, s3, s4⟩ := hP2.got
            go_wp2_with fail
            go_roundw
            case rel => exact ⟨k + 1, L, A', c', by omega, by omega, rfl, by go_num, hs, HMC.out, by omega, hB3⟩
            case measure => simp [intOf]; omega
          · obtain ⟨rfl, hf1⟩ := hfo
            have HF2 : Hid (findC L fu o2 = pv ∧ hasC L fu o2 = pq) := Lib.hid ⟨HPV.out, HPQ.out⟩
            obtain ⟨u0, u1, u2⟩ := id hUo
            obtain ⟨lv, cv⟩ := id hV
            have q0 := cv 0
            have q1 := cv 1
            have q2 := cv 2
            have q3 := cv 3
            have q4 := cv 4
            simp at q0 q1 q2 q3 q4
            clear cv
            go_wp2_with fail
            refine (efind_any A' c' L fu o2 _ (by omega) hs).mono ?_
            rw [HPV.out, HPQ.out]
            unfold Ch.val
            rintro e z1 ⟨rfl, hb⟩
            have hB3 := since_step hB3 hb
            have hs := hs.below hb
            have hUo := hUo.below hb
            have hV := hV.below hb
            clear hb
            clear u0 u1 u2 lv q0 q1 q2 q3 q4
            obtain ⟨u0, u1, u2⟩ := id hUo
            obtain ⟨lv, cv⟩ := id hV
            have q0 := cv 0
            have q1 := cv 1
            have q2 := cv 2
            have q3 := cv 3
            have q4 := cv 4
            simp at q0 q1 q2 q3 q4
            clear cv
            go_wp2_with fail
            have hP1 := Ch.Bx.new z1 pv
            have hA := (Below.refl z1.heap.size z1).alloc (Nat.le_refl _) (.cells pv.cells.toArray 54)
            have hs := hs.below hA
            have hUo := hUo.below hA
            have hV := hV.below hA
            have hB3 := since_step hB3 hA
            clear hA
            refine (eelect_any A' c' L fu fv fu fv _ (by omega) hs).mono ?_
            rw [HE.out]
            rintro e z2 ⟨⟨AX, cX, rfl, hown⟩, hb⟩
            have hB3 := since_step hB3 hb
            have hs := hs.below hb
            have hUo := hUo.below hb
            have hV := hV.below hb
            have hP1 := hP1.below hb
            clear hb
            clear u0 u1 u2 lv q0 q1 q2 q3 q4
            have hX := Sl.of_own hown
            clear hown
            obtain ⟨u0, u1, u2⟩ := id hUo
            obtain ⟨lv, cv⟩ := id hV
            have q0 := cv 0
            have q1 := cv 1
            have q2 := cv 2
            have q3 := cv 3
            have q4 := cv 4
            simp at q0 q1 q2 q3 q4
            clear cv
            obtain ⟨p0, p1, p2, p3, p4⟩ := hP1.got
            go_wp2_with fail
            refine (eready_any AX cX [] fu fv _ (by decide) hX).mono ?_
            rw [HR.out]
            unfold unitV
            rintro e z3 ⟨rfl, hb⟩
            have hB3 := since_step hB3 hb
            have hs := hs.below hb
            have hUo := hUo.below hb
            have hV := hV.below hb
            have hP1 := hP1.below hb
            have hX := hX.below hb
            clear hb
            clear u0 u1 u2 lv q0 q1 q2 q3 q4 p0 p1 p2 p3 p4
            obtain ⟨u0, u1, u2⟩ := id hUo
            obtain ⟨lv, cv⟩ := id hV
            have q0 := cv 0
            have q1 := cv 1
            have q2 := cv 2
            have q3 := cv 3
            have q4 := cv 4
            simp at q0 q1 q2 q3 q4
            clear cv
            obtain ⟨p0, p1, p2, p3, p4⟩ := hP1.got
            go_wp2_with fail
            have hR1 := UAt.new z3 0 0 44
            have hA := (Below.refl z3.heap.size z3).alloc (Nat.le_refl _) (.cells #[.int .i64 0, .int .i64 0] 44)
            have hs := hs.below hA
            have hUo := hUo.below hA
            have hV := hV.below hA
            have hP1 := hP1.below hA
            have hX := hX.below hA
            have hB3 := since_step hB3 hA
            clear hA
            refine (efind_any A' c' L fu o2 _ hlL hs).mono ?_
            rw [HF2.out.1, HF2.out.2]
            unfold Ch.val
            rintro e z4 ⟨rfl, hb⟩
            have hB3 := since_step hB3 hb
            have hs := hs.below hb
            have hUo := hUo.below hb
            have hV := hV.below hb
            have hP1 := hP1.below hb
            have hX := hX.below hb
            have hR1 := hR1.below hb
            clear hb
            clear u0 u1 u2 lv q0 q1 q2 q3 q4 p0 p1 p2 p3 p4
            obtain ⟨u0, u1, u2⟩ := id hUo
            obtain ⟨lv, cv⟩ := id hV
            have q0 := cv 0
            have q1 := cv 1
            have q2 := cv 2
            have q3 := cv 3
            have q4 := cv 4
            simp at q0 q1 q2 q3 q4
            clear cv
            obtain ⟨p0, p1, p2, p3, p4⟩ := hP1.got
            go_wp2_with fail
            have hP2 := Ch.Bx.new z4 pv
            have hA := (Below.refl z4.heap.size z4).alloc (Nat.le_refl _) (.cells pv.cells.toArray 54)
            have hs := hs.below hA
            have hUo := hUo.below hA
            have hV := hV.below hA
            have hP1 := hP1.below hA
            have hX := hX.below hA
            have hR1 := hR1.below hA
            have hB3 := since_step hB3 hA
            clear hA
            refine (eis_any A' c' L _ hlL hs).mono ?_
            rw [HMC.out]
            rintro e z5 ⟨rfl, hb⟩
            have hB3 := since_step hB3 hb
            have hs := hs.below hb
            have hUo := hUo.below hb
            have hV := hV.below hb
            have hP1 := hP1.below hb
            have hX := hX.below hb
            have hR1 := hR1.below hb
            have hP2 := hP2.below hb
            clear hb
            clear u0 u1 u2 lv q0 q1 q2 q3 q4 p0 p1 p2 p3 p4
            obtain ⟨u0, u1, u2⟩ := id hUo
            obtain ⟨lv, cv⟩ := id hV
            have q0 := cv 0
            have q1 := cv 1
            have q2 := cv 2
            have q3 := cv 3
            have q4 := cv 4
            simp at q0 q1 q2 q3 q4
            clear cv
            obtain ⟨p0, p1, p2, p3, p4⟩ := hP1.got
            obtain ⟨s0, s1, s2, s3, s4⟩ := hP2.got
            go_wp2_with fail
            go_roundw
            case rel => exact ⟨k + 1, L, A', c', by omega, by omega, rfl, by go_num, hs, HMC.out, by omega, hB3⟩
            case measure => simp [intOf]; omega
        · have hx : selfC ⟨fu, fv, tu, tv, false⟩ = false := by simp only [selfC, Bool.and_eq_false_iff, beq_eq_false_iff_ne]; omega
          obtain ⟨M, hMM⟩ : ∃ M, putR ahC L ⟨fu, fv, tu, tv, false⟩ = M := ⟨_, rfl⟩
          have HM := Lib.hid hMM
          have HMC : Hid (isC M = true) := Lib.hid (by rw [← hMM]; exact isC_putR hC hx)
          have HML : Hid (M.length ≤ k + 1) := Lib.hid (by rw [← hMM]; exact Nat.le_trans (length_putR _ _) (by omega))
          have hlM : M.length ≤ 1000000 := by have := HML.out; omega
          have HE : Hid (electR L fu fv tu tv = (0, M)) := Lib.hid (by rw [electR, if_neg (by rw [hC]; decide), if_neg hft, hMM])
          have HR : Hid (readyR M fu fv = (0, 0, 20)) := Lib.hid (by rw [← hMM]; exact readyR_putR L ⟨fu, fv, tu, tv, false⟩)
          clear hC hft hx hMM
          rcases hfo3 with hfo | hfo | hfo
          · obtain ⟨rfl, rfl⟩ := hfo
            obtain ⟨pw, hpw⟩ : ∃ v, findC M fu fv = v := ⟨_, rfl⟩
            obtain ⟨pr, hpr⟩ : ∃ v, hasC M fu fv = v := ⟨_, rfl⟩
            have HF2 : Hid (findC M fu fv = pw ∧ hasC M fu fv = pr) := Lib.hid ⟨hpw, hpr⟩
            clear hpw hpr
            obtain ⟨u0, u1, u2⟩ := id hUo
            obtain ⟨lv, cv⟩ := id hV
            have q0 := cv 0
            have q1 := cv 1
            have q2 := cv 2
            have q3 := cv 3
            have q4 := cv 4
            simp at q0 q1 q2 q3 q4
            clear cv
            go_wp2_with fail
            refine (efind_any A' c' L fu fv _ (by omega) hs).mono ?_
            rw [HPV.out, HPQ.out]
            unfold Ch.val
            rintro e z1 ⟨rfl, hb⟩
            have hB3 := since_step hB3 hb
            have hs := hs.below hb
            have hUo := hUo.below hb
            have hV := hV.below hb
            clear hb
            clear u0 u1 u2 lv q0 q1 q2 q3 q4
            obtain ⟨u0, u1, u2⟩ := id hUo
            obtain ⟨lv, cv⟩ := id hV
            have q0 := cv 0
            have q1 := cv 1
            have q2 := cv 2
            have q3 := cv 3
            have q4 := cv 4
            simp at q0 q1 q2 q3 q4
            clear cv
            go_wp2_with fail
            have hP1 := Ch.Bx.new z1 pv
            have hA := (Below.refl z1.heap.size z1).alloc (Nat.le_refl _) (.cells pv.cells.toArray 54)
            have hs := hs.below hA
            have hUo := hUo.below hA
            have hV := hV.below hA
            have hB3 := since_step hB3 hA
            clear hA
            refine (eelect_any A' c' L fu fv tu tv _ (by omega) hs).mono ?_
            rw [HE.out]
            rintro e z2 ⟨⟨AX, cX, rfl, hown⟩, hb⟩
            have hB3 := since_step hB3 hb
            have hs := hs.below hb
            have hUo := hUo.below hb
            have hV := hV.below hb
            have hP1 := hP1.below hb
            clear hb
            clear u0 u1 u2 lv q0 q1 q2 q3 q4
            have hX := Sl.of_own hown
            clear hown
            obtain ⟨u0, u1, u2⟩ := id hUo
            obtain ⟨lv, cv⟩ := id hV
            have q0 := cv 0
            have q1 := cv 1
            have q2 := cv 2
            have q3 := cv 3
            have q4 := cv 4
            simp at q0 q1 q2 q3 q4
            clear cv
            obtain ⟨p0, p1, p2, p3, p4⟩ := hP1.got
            go_wp2_with fail
            refine (eready_any AX cX M fu fv _ hlM hX).mono ?_
            rw [HR.out]
            unfold unitV
            rintro e z3 ⟨rfl, hb⟩
            have hB3 := since_step hB3 hb
            have hs := hs.below hb
            have hUo := hUo.below hb
            have hV := hV.below hb
            have hP1 := hP1.below hb
            have hX := hX.below hb
            clear hb
            clear u0 u1 u2 lv q0 q1 q2 q3 q4 p0 p1 p2 p3 p4
            obtain ⟨u0, u1, u2⟩ := id hUo
            obtain ⟨lv, cv⟩ := id hV
            have q0 := cv 0
            have q1 := cv 1
            have q2 := cv 2
            have q3 := cv 3
            have q4 := cv 4
            simp at q0 q1 q2 q3 q4
            clear cv
            obtain ⟨p0, p1, p2, p3, p4⟩ := hP1.got
            go_wp2_with fail
            have hR1 := UAt.new z3 0 0 44
            have hA := (Below.refl z3.heap.size z3).alloc (Nat.le_refl _) (.cells #[.int .i64 0, .int .i64 0] 44)
            have hs := hs.below hA
            have hUo := hUo.below hA
            have hV := hV.below hA
            have hP1 := hP1.below hA
            have hX := hX.below hA
            have hB3 := since_step hB3 hA
            clear hA
            refine (efind_any AX cX M fu fv _ hlM hX).mono ?_
            rw [HF2.out.1, HF2.out.2]
            unfold Ch.val
            rintro e z4 ⟨rfl, hb⟩
            have hB3 := since_step hB3 hb
            have hs := hs.below hb
            have hUo := hUo.below hb
            have hV := hV.below hb
            have hP1 := hP1.below hb
            have hX := hX.below hb
            have hR1 := hR1.below hb
            clear hb
            clear u0 u1 u2 lv q0 q1 q2 q3 q4 p0 p1 p2 p3 p4
            obtain ⟨u0, u1, u2⟩ := id hUo
            obtain ⟨lv, cv⟩ := id hV
            have q0 := cv 0
            have q1 := cv 1
            have q2 := cv 2
            have q3 := cv 3
            have q4 := cv 4
            simp at q0 q1 q2 q3 q4
            clear cv
            obtain ⟨p0, p1, p2, p3, p4⟩ := hP1.got
            go_wp2_with fail
            have hP2 := Ch.Bx.new z4 pw
            have hA := (Below.refl z4.heap.size z4).alloc (Nat.le_refl _) (.cells pw.cells.toArray 54)
            have hs := hs.below hA
            have hUo := hUo.below hA
            have hV := hV.below hA
            have hP1 := hP1.below hA
            have hX := hX.below hA
            have hR1 := hR1.below hA
            have hB3 := since_step hB3 hA
            clear hA
            refine (eis_any AX cX M _ hlM hX).mono ?_
            rw [HMC.out]
            rintro e z5 ⟨rfl, hb⟩
            have hB3 := since_step hB3 hb
            have hs := hs.below hb
            have hUo := hUo.below hb
            have hV := hV.below hb
            have hP1 := hP1.below hb
            have hX := hX.below hb
            have hR1 := hR1.below hb
            have hP2 := hP2.below hb
            clear hb
            clear u0 u1 u2 lv q0 q1 q2 q3 q4 p0 p1 p2 p3 p4
            obtain ⟨u0, u1, u2⟩ := id hUo
            obtain ⟨lv, cv⟩ := id hV
            have q0 := cv 0
            have q1 := cv 1
            have q2 := cv 2
            have q3 := cv 3
            have q4 := cv 4
            simp at q0 q1 q2 q3 q4
            clear cv
            obtain ⟨p0, p1, p2, p3, p4⟩ := hP1.got
            obtain ⟨s0, s1, s2, s3, s4⟩ := hP2.got
            go_wp2_with fail
            go_roundw
            case rel => exact ⟨k + 1, M, AX, cX, by omega, by omega, rfl, by go_num, hX, HMC.out, HML.out, hB3⟩
            case measure => simp [intOf]; omega
          · have hf1 : fu ≠ o1 := hfo
            have HF2 : Hid (findC M o1 o2 = pv ∧ hasC M o1 o2 = pq) := Lib.hid (by have h9 := find_same_of (find_putR_other ⟨fu, fv, tu, tv, false⟩ o1 o2 (fun h => hf1 h.1) L); rw [HM.out, HPV.out, HPQ.out] at h9; exact h9)
            obtain ⟨u0, u1, u2⟩ := id hUo
            obtain ⟨lv, cv⟩ := id hV
            have q0 := cv 0
            have q1 := cv 1
            have q2 := cv 2
            have q3 := cv 3
            have q4 := cv 4
            simp at q0 q1 q2 q3 q4
            clear cv
            go_wp2_with fail
            refine (efind_any A' c' L o1 o2 _ (by omega) hs).mono ?_
            rw [HPV.out, HPQ.out]
            unfold Ch.val
            rintro e z1 ⟨rfl, hb⟩
            have hB3 := since_step hB3 hb
            have hs := hs.below hb
            have hUo := hUo.below hb
            have hV := hV.below hb
            clear hb
            clear u0 u1 u2 lv q0 q1 q2 q3 q4
            obtain ⟨u0, u1, u2⟩ := id hUo
            obtain ⟨lv, cv⟩ := id hV
            have q0 := cv 0
            have q1 := cv 1
            have q2 := cv 2
            have q3 := cv 3
            have q4 := cv 4
            simp at q0 q1 q2 q3 q4
            clear cv
            go_wp2_with fail
            have hP1 := Ch.Bx.new z1 pv
            have hA := (Below.refl z1.heap.size z1).alloc (Nat.le_refl _) (.cells pv.cells.toArray 54)
            have hs := hs.below hA
            have hUo := hUo.below hA
            have hV := hV.below hA
            have hB3 := since_step hB3 hA
            clear hA
            refine (eelect_any A' c' L fu fv tu tv _ (by omega) hs).mono ?_
            rw [HE.out]
            rintro e z2 ⟨⟨AX, cX, rfl, hown⟩, hb⟩
            have hB3 := since_step hB3 hb
            have hs := hs.below hb
            have hUo := hUo.below hb
            have hV := hV.below hb
            have hP1 := hP1.below hb
            clear hb
            clear u0 u1 u2 lv q0 q1 q2 q3 q4
            have hX := Sl.of_own hown
            clear hown
            obtain ⟨u0, u1, u2⟩ := id hUo
            obtain ⟨lv, cv⟩ := id hV
            have q0 := cv 0
            have q1 := cv 1
            have q2 := cv 2
            have q3 := cv 3
            have q4 := cv 4
            simp at q0 q1 q2 q3 q4
            clear cv
            obtain ⟨p0, p1, p2, p3, p4⟩ := hP1.got
            go_wp2_with fail
            refine (eready_any AX cX M fu fv _ hlM hX).mono ?_
            rw [HR.out]
            unfold unitV
            rintro e z3 ⟨rfl, hb⟩
            have hB3 := since_step hB3 hb
            have hs := hs.below hb
            have hUo := hUo.below hb
            have hV := hV.below hb
            have hP1 := hP1.below hb
            have hX := hX.below hb
            clear hb
            clear u0 u1 u2 lv q0 q1 q2 q3 q4 p0 p1 p2 p3 p4
            obtain ⟨u0, u1, u2⟩ := id hUo
            obtain ⟨lv, cv⟩ := id hV
            have q0 := cv 0
            have q1 := cv 1
            have q2 := cv 2
            have q3 := cv 3
            have q4 := cv 4
            simp at q0 q1 q2 q3 q4
            clear cv
            obtain ⟨p0, p1, p2, p3, p4⟩ := hP1.got
            go_wp2_with fail
            have hR1 := UAt.new z3 0 0 44
            have hA := (Below.refl z3.heap.size z3).alloc (Nat.le_refl _) (.cells #[.int .i64 0, .int .i64 0] 44)
            have hs := hs.below hA
            have hUo := hUo.below hA
            have hV := hV.below hA
            have hP1 := hP1.below hA
            have hX := hX.below hA
            have hB3 := since_step hB3 hA
            clear hA
            refine (efind_any AX cX M o1 o2 _ hlM hX).mono ?_
            rw [HF2.out.1, HF2.out.2]
            unfold Ch.val
            rintro e z4 ⟨rfl, hb⟩
            have hB3 := since_step hB3 hb
            have hs := hs.below hb
            have hUo := hUo.below hb
            have hV := hV.below hb
            have hP1 := hP1.below hb
            have hX := hX.below hb
            have hR1 := hR1.below hb
            clear hb
            clear u0 u1 u2 lv q0 q1 q2 q3 q4 p0 p1 p2 p3 p4
            obtain ⟨u0, u1, u2⟩ := id hUo
            obtain ⟨lv, cv⟩ := id hV
            have q0 := cv 0
            have q1 := cv 1
            have q2 := cv 2
            have q3 := cv 3
            have q4 := cv 4
            simp at q0 q1 q2 q3 q4
            clear cv
            obtain ⟨p0, p1, p2, p3, p4⟩ := hP1.got
            go_wp2_with fail
            have hP2 := Ch.Bx.new z4 pv
            have hA := (Below.refl z4.heap.size z4).alloc (Nat.le_refl _) (.cells pv.cells.toArray 54)
            have hs := hs.below hA
            have hUo := hUo.below hA
            have hV := hV.below hA
            have hP1 := hP1.below hA
            have hX := hX.below hA
            have hR1 := hR1.below hA
            have hB3 := since_step hB3 hA
            clear hA
            refine (eis_any AX cX M _ hlM hX).mono ?_
            rw [HMC.out]
            rintro e z5 ⟨rfl, hb⟩
            have hB3 := since_step hB3 hb
            have hs := hs.below hb
            have hUo := hUo.below hb
            have hV := hV.below hb
            have hP1 := hP1.below hb
            have hX := hX.below hb
            have hR1 := hR1.below hb
            have hP2 := hP2.below hb
            clear hb
            clear u0 u1 u2 lv q0 q1 q2 q3 q4 p0 p1 p2 p3 p4
            obtain ⟨u0, u1, u2⟩ := id hUo
            obtain ⟨lv, cv⟩ := id hV
            have q0 := cv 0
            have q1 := cv 1
            have q2 := cv 2
            have q3 := cv 3
            have q4 := cv 4
            simp at q0 q1 q2 q3 q4
            clear cv
            obtain ⟨p0, p1, p2, p3, p4⟩ := hP1.got
            obtain ⟨s0, s1, s2, s3, s4⟩ := hP2.got
            go_wp2_with fail
            go_roundw
            case rel => exact ⟨k + 1, M, AX, cX, by omega, by omega, rfl, by go_num, hX, HMC.out, HML.out, hB3⟩
            case measure => simp [intOf]; omega
          · obtain ⟨rfl, hf1⟩ := hfo
            have HF2 : Hid (findC M fu o2 = pv ∧ hasC M fu o2 = pq) := Lib.hid (by have h9 := find_same_of (find_putR_other ⟨fu, fv, tu, tv, false⟩ fu o2 (fun h => hf1 h.2) L); rw [HM.out, HPV.out, HPQ.out] at h9; exact h9)
            obtain ⟨u0, u1, u2⟩ := id hUo
            obtain ⟨lv, cv⟩ := id hV
            have q0 := cv 0
            have q1 := cv 1
            have q2 := cv 2
            have q3 := cv 3
            have q4 := cv 4
            simp at q0 q1 q2 q3 q4
            clear cv
            go_wp2_with fail
            refine (efind_any A' c' L fu o2 _ (by omega) hs).mono ?_
            rw [HPV.out, HPQ.out]
            unfold Ch.val
            rintro e z1 ⟨rfl, hb⟩
            have hB3 := since_step hB3 hb
            have hs := hs.below hb
            have hUo := hUo.below hb
            have hV := hV.below hb
            clear hb
            clear u0 u1 u2 lv q0 q1 q2 q3 q4
            obtain ⟨u0, u1, u2⟩ := id hUo
            obtain ⟨lv, cv⟩ := id hV
            have q0 := cv 0
            have q1 := cv 1
            have q2 := cv 2
            have q3 := cv 3
            have q4 := cv 4
            simp at q0 q1 q2 q3 q4
            clear cv
            go_wp2_with fail
            have hP1 := Ch.Bx.new z1 pv
            have hA := (Below.refl z1.heap.size z1).alloc (Nat.le_refl _) (.cells pv.cells.toArray 54)
            have hs := hs.below hA
            have hUo := hUo.below hA
            have hV := hV.below hA
            have hB3 := since_step hB3 hA
            clear hA
            refine (eelect_any A' c' L fu fv tu tv _ (by omega) hs).mono ?_
            rw [HE.out]
            rintro e z2 ⟨⟨AX, cX, rfl, hown⟩, hb⟩
            have hB3 := since_step hB3 hb
            have hs := hs.below hb
            have hUo := hUo.below hb
            have hV := hV.below hb
            have hP1 := hP1.below hb
            clear hb
            clear u0 u1 u2 lv q0 q1 q2 q3 q4
            have hX := Sl.of_own hown
            clear hown
            obtain ⟨u0, u1, u2⟩ := id hUo
            obtain ⟨lv, cv⟩ := id hV
            have q0 := cv 0
            have q1 := cv 1
            have q2 := cv 2
            have q3 := cv 3
            have q4 := cv 4
            simp at q0 q1 q2 q3 q4
            clear cv
            obtain ⟨p0, p1, p2, p3, p4⟩ := hP1.got
            go_wp2_with fail
            refine (eready_any AX cX M fu fv _ hlM hX).mono ?_
            rw [HR.out]
            unfold unitV
            rintro e z3 ⟨rfl, hb⟩
            have hB3 := since_step hB3 hb
            have hs := hs.below hb
            have hUo := hUo.below hb
            have hV := hV.below hb
            have hP1 := hP1.below hb
            have hX := hX.below hb
            clear hb
            clear u0 u1 u2 lv q0 q1 q2 q3 q4 p0 p1 p2 p3 p4
            obtain ⟨u0, u1, u2⟩ := id hUo
            obtain ⟨lv, cv⟩ := id hV
            have q0 := cv 0
            have q1 := cv 1
            have q2 := cv 2
            have q3 := cv 3
            have q4 := cv 4
            simp at q0 q1 q2 q3 q4
            clear cv
            obtain ⟨p0, p1, p2, p3, p4⟩ := hP1.got
            go_wp2_with fail
            have hR1 := UAt.new z3 0 0 44
            have hA := (Below.refl z3.heap.size z3).alloc (Nat.le_refl _) (.cells #[.int .i64 0, .int .i64 0] 44)
            have hs := hs.below hA
            have hUo := hUo.below hA
            have hV := hV.below hA
            have hP1 := hP1.below hA
            have hX := hX.below hA
            have hB3 := since_step hB3 hA
            clear hA
            refine (efind_any AX cX M fu o2 _ hlM hX).mono ?_
            rw [HF2.out.1, HF2.out.2]
            unfold Ch.val
            rintro e z4 ⟨rfl, hb⟩
            have hB3 := since_step hB3 hb
            have hs := hs.below hb
            have hUo := hUo.below hb
            have hV := hV.below hb
            have hP1 := hP1.below hb
            have hX := hX.below hb
            have hR1 := hR1.below hb
            clear hb
            clear u0 u1 u2 lv q0 q1 q2 q3 q4 p0 p1 p2 p3 p4
            obtain ⟨u0, u1, u2⟩ := id hUo
            obtain ⟨lv, cv⟩ := id hV
            have q0 := cv 0
            have q1 := cv 1
            have q2 := cv 2
            have q3 := cv 3
            have q4 := cv 4
            simp at q0 q1 q2 q3 q4
            clear cv
            obtain ⟨p0, p1, p2, p3, p4⟩ := hP1.got
            go_wp2_with fail
            have hP2 := Ch.Bx.new z4 pv
            have hA := (Below.refl z4.heap.size z4).alloc (Nat.le_refl _) (.cells pv.cells.toArray 54)
            have hs := hs.below hA
            have hUo := hUo.below hA
            have hV := hV.below hA
            have hP1 := hP1.below hA
            have hX := hX.below hA
            have hR1 := hR1.below hA
            have hB3 := since_step hB3 hA
            clear hA
            refine (eis_any AX cX M _ hlM hX).mono ?_
            rw [HMC.out]
            rintro e z5 ⟨rfl, hb⟩
            have hB3 := since_step hB3 hb
            have hs := hs.below hb
            have hUo := hUo.below hb
            have hV := hV.below hb
            have hP1 := hP1.below hb
            have hX := hX.below hb
            have hR1 := hR1.below hb
            have hP2 := hP2.below hb
            clear hb
            clear u0 u1 u2 lv q0 q1 q2 q3 q4 p0 p1 p2 p3 p4
            obtain ⟨u0, u1, u2⟩ := id hUo
            obtain ⟨lv, cv⟩ := id hV
            have q0 := cv 0
            have q1 := cv 1
            have q2 := cv 2
            have q3 := cv 3
            have q4 := cv 4
            simp at q0 q1 q2 q3 q4
            clear cv
            obtain ⟨p0, p1, p2, p3, p4⟩ := hP1.got
            obtain ⟨s0, s1, s2, s3, s4⟩ := hP2.got
            go_wp2_with fail
            go_roundw
            case rel => exact ⟨k + 1, M, AX, cX, by omega, by omega, rfl, by go_num, hX, HMC.out, HML.out, hB3⟩
            case measure => simp [intOf]; omega
      · have hk0b : (kd == 0) = false := by simpa using hk0
        by_cases hk1 : kd = 1
        · subst hk1
          clear hk0 hk0b
          by_cases hh : hasC L fu fv = true
          · by_cases hft : (findC L fu fv).ta = tu ∧ (findC L fu fv).tc = tv
            · have hx := agree_self hC hh hft.1 hft.2 true
              obtain ⟨M, hMM⟩ : ∃ M, putR ahC L ⟨fu, fv, tu, tv, true⟩ = M := ⟨_, rfl⟩
              have HM := Lib.hid hMM
              have HMC : Hid (isC M = true) := Lib.hid (by rw [← hMM]; exact isC_putR hC hx)
              have HML : Hid (M.length ≤ k + 1) := Lib.hid (by rw [← hMM]; exact Nat.le_trans (length_putR _ _) (by omega))
              have hlM : M.length ≤ 1000000 := by have := HML.out; omega
              have HE : Hid (agreeR L fu fv tu tv = (0, M)) := Lib.hid (by rw [agreeR, if_neg (by rw [hC]; decide), if_neg (by rw [hh]; decide), if_pos hft, hMM])
              have HR : Hid (readyR M fu fv = (tu, tv, 0)) := Lib.hid (by rw [← hMM]; exact readyR_putR L ⟨fu, fv, tu, tv, true⟩)
              clear hC hft hx hMM hh
              rcases hfo3 with hfo | hfo | hfo
              · obtain ⟨rfl, rfl⟩ := hfo
                obtain ⟨pw, hpw⟩ : ∃ v, findC M fu fv = v := ⟨_, rfl⟩
                obtain ⟨pr, hpr⟩ : ∃ v, hasC M fu fv = v := ⟨_, rfl⟩
                have HF2 : Hid (findC M fu fv = pw ∧ hasC M fu fv = pr) := Lib.hid ⟨hpw, hpr⟩
                clear hpw hpr
                obtain ⟨u0, u1, u2⟩ := id hUo
                obtain ⟨lv, cv⟩ := id hV
                have q0 := cv 0
                have q1 := cv 1
                have q2 := cv 2
                have q3 := cv 3
                have q4 := cv 4
                simp at q0 q1 q2 q3 q4
                clear cv
                go_wp2_with fail
                refine (efind_any A' c' L fu fv _ (by omega) hs).mono ?_
                rw [HPV.out, HPQ.out]
                unfold Ch.val
                rintro e z1 ⟨rfl, hb⟩
                have hB3 := since_step hB3 hb
                have hs := hs.below hb
                have hUo := hUo.below hb
                have hV := hV.below hb
                clear hb
                clear u0 u1 u2 lv q0 q1 q2 q3 q4
                obtain ⟨u0, u1, u2⟩ := id hUo
                obtain ⟨lv, cv⟩ := id hV
                have q0 := cv 0
                have q1 := cv 1
                have q2 := cv 2
                have q3 := cv 3
                have q4 := cv 4
                simp at q0 q1 q2 q3 q4
                clear cv
                go_wp2_with fail
                have hP1 := Ch.Bx.new z1 pv
                have hA := (Below.refl z1.heap.size z1).alloc (Nat.le_refl _) (.cells pv.cells.toArray 54)
                have hs := hs.below hA
                have hUo := hUo.below hA
                have hV := hV.below hA
                have hB3 := since_step hB3 hA
                clear hA
                refine (eagree_any A' c' L fu fv tu tv _ (by omega) hs).mono ?_
                rw [HE.out]
                rintro e z2 ⟨⟨AX, cX, rfl, hown⟩, hb⟩
                have hB3 := since_step hB3 hb
                have hs := hs.below hb
                have hUo := hUo.below hb
                have hV := hV.below hb
                have hP1 := hP1.below hb
                clear hb
                clear u0 u1 u2 lv q0 q1 q2 q3 q4
                have hX := Sl.of_own hown
                clear hown
                obtain ⟨u0, u1, u2⟩ := id hUo
                obtain ⟨lv, cv⟩ := id hV
                have q0 := cv 0
                have q1 := cv 1
                have q2 := cv 2
                have q3 := cv 3
                have q4 := cv 4
                simp at q0 q1 q2 q3 q4
                clear cv
                obtain ⟨p0, p1, p2, p3, p4⟩ := hP1.got
                go_wp2_with fail
                refine (eready_any AX cX M fu fv _ hlM hX).mono ?_
                rw [HR.out]
                unfold unitV
                rintro e z3 ⟨rfl, hb⟩
                have hB3 := since_step hB3 hb
                have hs := hs.below hb
                have hUo := hUo.below hb
                have hV := hV.below hb
                have hP1 := hP1.below hb
                have hX := hX.below hb
                clear hb
                clear u0 u1 u2 lv q0 q1 q2 q3 q4 p0 p1 p2 p3 p4
                obtain ⟨u0, u1, u2⟩ := id hUo
                obtain ⟨lv, cv⟩ := id hV
                have q0 := cv 0
                have q1 := cv 1
                have q2 := cv 2
                have q3 := cv 3
                have q4 := cv 4
                simp at q0 q1 q2 q3 q4
                clear cv
                obtain ⟨p0, p1, p2, p3, p4⟩ := hP1.got
                go_wp2_with fail
                have hR1 := UAt.new z3 tu tv 44
                have hA := (Below.refl z3.heap.size z3).alloc (Nat.le_refl _) (.cells #[.int .i64 tu, .int .i64 tv] 44)
                have hs := hs.below hA
                have hUo := hUo.below hA
                have hV := hV.below hA
                have hP1 := hP1.below hA
                have hX := hX.below hA
                have hB3 := since_step hB3 hA
                clear hA
                refine (efind_any AX cX M fu fv _ hlM hX).mono ?_
                rw [HF2.out.1, HF2.out.2]
                unfold Ch.val
                rintro e z4 ⟨rfl, hb⟩
                have hB3 := since_step hB3 hb
                have hs := hs.below hb
                have hUo := hUo.below hb
                have hV := hV.below hb
                have hP1 := hP1.below hb
                have hX := hX.below hb
                have hR1 := hR1.below hb
                clear hb
                clear u0 u1 u2 lv q0 q1 q2 q3 q4 p0 p1 p2 p3 p4
                obtain ⟨u0, u1, u2⟩ := id hUo
                obtain ⟨lv, cv⟩ := id hV
                have q0 := cv 0
                have q1 := cv 1
                have q2 := cv 2
                have q3 := cv 3
                have q4 := cv 4
                simp at q0 q1 q2 q3 q4
                clear cv
                obtain ⟨p0, p1, p2, p3, p4⟩ := hP1.got
                go_wp2_with fail
                have hP2 := Ch.Bx.new z4 pw
                have hA := (Below.refl z4.heap.size z4).alloc (Nat.le_refl _) (.cells pw.cells.toArray 54)
                have hs := hs.below hA
                have hUo := hUo.below hA
                have hV := hV.below hA
                have hP1 := hP1.below hA
                have hX := hX.below hA
                have hR1 := hR1.below hA
                have hB3 := since_step hB3 hA
                clear hA
                refine (eis_any AX cX M _ hlM hX).mono ?_
                rw [HMC.out]
                rintro e z5 ⟨rfl, hb⟩
                have hB3 := since_step hB3 hb
                have hs := hs.below hb
                have hUo := hUo.below hb
                have hV := hV.below hb
                have hP1 := hP1.below hb
                have hX := hX.below hb
                have hR1 := hR1.below hb
                have hP2 := hP2.below hb
                clear hb
                clear u0 u1 u2 lv q0 q1 q2 q3 q4 p0 p1 p2 p3 p4
                obtain ⟨u0, u1, u2⟩ := id hUo
                obtain ⟨lv, cv⟩ := id hV
                have q0 := cv 0
                have q1 := cv 1
                have q2 := cv 2
                have q3 := cv 3
                have q4 := cv 4
                simp at q0 q1 q2 q3 q4
                clear cv
                obtain ⟨p0, p1, p2, p3, p4⟩ := hP1.got
                obtain ⟨s0, s1, s2, s3, s4⟩ := hP2.got
                go_wp2_with fail
                go_roundw
                case rel => exact ⟨k + 1, M, AX, cX, by omega, by omega, rfl, by go_num, hX, HMC.out, HML.out, hB3⟩
                case measure => simp [intOf]; omega
              · have hf1 : fu ≠ o1 := hfo
                have HF2 : Hid (findC M o1 o2 = pv ∧ hasC M o1 o2 = pq) := Lib.hid (by have h9 := find_same_of (find_putR_other ⟨fu, fv, tu, tv, true⟩ o1 o2 (fun h => hf1 h.1) L); rw [HM.out, HPV.out, HPQ.out] at h9; exact h9)
                obtain ⟨u0, u1, u2⟩ := id hUo
                obtain ⟨lv, cv⟩ := id hV
                have q0 := cv 0
                have q1 := cv 1
                have q2 := cv 2
                have q3 := cv 3
                have q4 := cv 4
                simp at q0 q1 q2 q3 q4
                clear cv
                go_wp2_with fail
                refine (efind_any A' c' L o1 o2 _ (by omega) hs).mono ?_
                rw [HPV.out, HPQ.out]
                unfold Ch.val
                rintro e z1 ⟨rfl, hb⟩
                have hB3 := since_step hB3 hb
                have hs := hs.below hb
                have hUo := hUo.below hb
                have hV := hV.below hb
                clear hb
                clear u0 u1 u2 lv q0 q1 q2 q3 q4
                obtain ⟨u0, u1, u2⟩ := id hUo
                obtain ⟨lv, cv⟩ := id hV
                have q0 := cv 0
                have q1 := cv 1
                have q2 := cv 2
                have q3 := cv 3
                have q4 := cv 4
                simp at q0 q1 q2 q3 q4
                clear cv
                go_wp2_with fail
                have hP1 := Ch.Bx.new z1 pv
                have hA := (Below.refl z1.heap.size z1).alloc (Nat.le_refl _) (.cells pv.cells.toArray 54)
                have hs := hs.below hA
                have hUo := hUo.below hA
                have hV := hV.below hA
                have hB3 := since_step hB3 hA
                clear hA
                refine (eagree_any A' c' L fu fv tu tv _ (by omega) hs).mono ?_
                rw [HE.out]
                rintro e z2 ⟨⟨AX, cX, rfl, hown⟩, hb⟩
                have hB3 := since_step hB3 hb
                have hs := hs.below hb
                have hUo := hUo.below hb
                have hV := hV.below hb
                have hP1 := hP1.below hb
                clear hb
                clear u0 u1 u2 lv q0 q1 q2 q3 q4
                have hX := Sl.of_own hown
                clear hown
                obtain ⟨u0, u1, u2⟩ := id hUo
                obtain ⟨lv, cv⟩ := id hV
                have q0 := cv 0
                have q1 := cv 1
                have q2 := cv 2
                have q3 := cv 3
                have q4 := cv 4
                simp at q0 q1 q2 q3 q4
                clear cv
                obtain ⟨p0, p1, p2, p3, p4⟩ := hP1.got
                go_wp2_with fail
                refine (eready_any AX cX M fu fv _ hlM hX).mono ?_
                rw [HR.out]
                unfold unitV
                rintro e z3 ⟨rfl, hb⟩
                have hB3 := since_step hB3 hb
                have hs := hs.below hb
                have hUo := hUo.below hb
                have hV := hV.below hb
                have hP1 := hP1.below hb
                have hX := hX.below hb
                clear hb
                clear u0 u1 u2 lv q0 q1 q2 q3 q4 p0 p1 p2 p3 p4
                obtain ⟨u0, u1, u2⟩ := id hUo
                obtain ⟨lv, cv⟩ := id hV
                have q0 := cv 0
                have q1 := cv 1
                have q2 := cv 2
                have q3 := cv 3
                have q4 := cv 4
                simp at q0 q1 q2 q3 q4
                clear cv
                obtain ⟨p0, p1, p2, p3, p4⟩ := hP1.got
                go_wp2_with fail
                have hR1 := UAt.new z3 tu tv 44
                have hA := (Below.refl z3.heap.size z3).alloc (Nat.le_refl _) (.cells #[.int .i64 tu, .int .i64 tv] 44)
                have hs := hs.below hA
                have hUo := hUo.below hA
                have hV := hV.below hA
                have hP1 := hP1.below hA
                have hX := hX.below hA
                have hB3 := since_step hB3 hA
                clear hA
                refine (efind_any AX cX M o1 o2 _ hlM hX).mono ?_
                rw [HF2.out.1, HF2.out.2]
                unfold Ch.val
                rintro e z4 ⟨rfl, hb⟩
                have hB3 := since_step hB3 hb
                have hs := hs.below hb
                have hUo := hUo.below hb
                have hV := hV.below hb
                have hP1 := hP1.below hb
                have hX := hX.below hb
                have hR1 := hR1.below hb
                clear hb
                clear u0 u1 u2 lv q0 q1 q2 q3 q4 p0 p1 p2 p3 p4
                obtain ⟨u0, u1, u2⟩ := id hUo
                obtain ⟨lv, cv⟩ := id hV
                have q0 := cv 0
                have q1 := cv 1
                have q2 := cv 2
                have q3 := cv 3
                have q4 := cv 4
                simp at q0 q1 q2 q3 q4
                clear cv
                obtain ⟨p0, p1, p2, p3, p4⟩ := hP1.got
                go_wp2_with fail
                have hP2 := Ch.Bx.new z4 pv
                have hA := (Below.refl z4.heap.size z4).alloc (Nat.le_refl _) (.cells pv.cells.toArray 54)
                have hs := hs.below hA
                have hUo := hUo.below hA
                have hV := hV.below hA
                have hP1 := hP1.below hA
                have hX := hX.below hA
                have hR1 := hR1.below hA
                have hB3 := since_step hB3 hA
                clear hA
                refine (eis_any AX cX M _ hlM hX).mono ?_
                rw [HMC.out]
                rintro e z5 ⟨rfl, hb⟩
                have hB3 := since_step hB3 hb
                have hs := hs.below hb
                have hUo := hUo.below hb
                have hV := hV.below hb
                have hP1 := hP1.below hb
                have hX := hX.below hb
                have hR1 := hR1.below hb
                have hP2 := hP2.below hb
                clear hb
                clear u0 u1 u2 lv q0 q1 q2 q3 q4 p0 p1 p2 p3 p4
                obtain ⟨u0, u1, u2⟩ := id hUo
                obtain ⟨lv, cv⟩ := id hV
                have q0 := cv 0
                have q1 := cv 1
                have q2 := cv 2
                have q3 := cv 3
                have q4 := cv 4
                simp at q0 q1 q2 q3 q4
                clear cv
                obtain ⟨p0, p1, p2, p3, p4⟩ := hP1.got
                obtain ⟨s0, s1, s2, s3, s4⟩ := hP2.got
                go_wp2_with fail
                go_roundw
                case rel => exact ⟨k + 1, M, AX, cX, by omega, by omega, rfl, by go_num, hX, HMC.out, HML.out, hB3⟩
                case measure => simp [intOf]; omega
              · obtain ⟨rfl, hf1⟩ := hfo
                have HF2 : Hid (findC M fu o2 = pv ∧ hasC M fu o2 = pq) := Lib.hid (by have h9 := find_same_of (find_putR_other ⟨fu, fv, tu, tv, true⟩ fu o2 (fun h => hf1 h.2) L); rw [HM.out, HPV.out, HPQ.out] at h9; exact h9)
                obtain ⟨u0, u1, u2⟩ := id hUo
                obtain ⟨lv, cv⟩ := id hV
                have q0 := cv 0
                have q1 := cv 1
                have q2 := cv 2
                have q3 := cv 3
                have q4 := cv 4
                simp at q0 q1 q2 q3 q4
                clear cv
                go_wp2_with fail
                refine (efind_any A' c' L fu o2 _ (by omega) hs).mono ?_
                rw [HPV.out, HPQ.out]
                unfold Ch.val
                rintro e z1 ⟨rfl, hb⟩
                have hB3 := since_step hB3 hb
                have hs := hs.below hb
                have hUo := hUo.below hb
                have hV := hV.below hb
                clear hb
                clear u0 u1 u2 lv q0 q1 q2 q3 q4
                obtain ⟨u0, u1, u2⟩ := id hUo
                obtain ⟨lv, cv⟩ := id hV
                have q0 := cv 0
                have q1 := cv 1
                have q2 := cv 2
                have q3 := cv 3
                have q4 := cv 4
                simp at q0 q1 q2 q3 q4
                clear cv
                go_wp2_with fail
                have hP1 := Ch.Bx.new z1 pv
                have hA := (Below.refl z1.heap.size z1).alloc (Nat.le_refl _) (.cells pv.cells.toArray 54)
                have hs := hs.below hA
                have hUo := hUo.below hA
                have hV := hV.below hA
                have hB3 := since_step hB3 hA
                clear hA
                refine (eagree_any A' c' L fu fv tu tv _ (by omega) hs).mono ?_
                rw [HE.out]
                rintro e z2 ⟨⟨AX, cX, rfl, hown⟩, hb⟩
                have hB3 := since_step hB3 hb
                have hs := hs.below hb
                have hUo := hUo.below hb
                have hV := hV.below hb
                have hP1 := hP1.below hb
                clear hb
                clear u0 u1 u2 lv q0 q1 q2 q3 q4
                have hX := Sl.of_own hown
                clear hown
                obtain ⟨u0, u1, u2⟩ := id hUo
                obtain ⟨lv, cv⟩ := id hV
                have q0 := cv 0
                have q1 := cv 1
                have q2 := cv 2
                have q3 := cv 3
                have q4 := cv 4
                simp at q0 q1 q2 q3 q4
                clear cv
                obtain ⟨p0, p1, p2, p3, p4⟩ := hP1.got
                go_wp2_with fail
                refine (eready_any AX cX M fu fv _ hlM hX).mono ?_
                rw [HR.out]
                unfold unitV
                rintro e z3 ⟨rfl, hb⟩
                have hB3 := since_step hB3 hb
                have hs := hs.below hb
                have hUo := hUo.below hb
                have hV := hV.below hb
                have hP1 := hP1.below hb
                have hX := hX.below hb
                clear hb
                clear u0 u1 u2 lv q0 q1 q2 q3 q4 p0 p1 p2 p3 p4
                obtain ⟨u0, u1, u2⟩ := id hUo
                obtain ⟨lv, cv⟩ := id hV
                have q0 := cv 0
                have q1 := cv 1
                have q2 := cv 2
                have q3 := cv 3
                have q4 := cv 4
                simp at q0 q1 q2 q3 q4
                clear cv
                obtain ⟨p0, p1, p2, p3, p4⟩ := hP1.got
                go_wp2_with fail
                have hR1 := UAt.new z3 tu tv 44
                have hA := (Below.refl z3.heap.size z3).alloc (Nat.le_refl _) (.cells #[.int .i64 tu, .int .i64 tv] 44)
                have hs := hs.below hA
                have hUo := hUo.below hA
                have hV := hV.below hA
                have hP1 := hP1.below hA
                have hX := hX.below hA
                have hB3 := since_step hB3 hA
                clear hA
                refine (efind_any AX cX M fu o2 _ hlM hX).mono ?_
                rw [HF2.out.1, HF2.out.2]
                unfold Ch.val
                rintro e z4 ⟨rfl, hb⟩
                have hB3 := since_step hB3 hb
                have hs := hs.below hb
                have hUo := hUo.below hb
                have hV := hV.below hb
                have hP1 := hP1.below hb
                have hX := hX.below hb
                have hR1 := hR1.below hb
                clear hb
                clear u0 u1 u2 lv q0 q1 q2 q3 q4 p0 p1 p2 p3 p4
                obtain ⟨u0, u1, u2⟩ := id hUo
                obtain ⟨lv, cv⟩ := id hV
                have q0 := cv 0
                have q1 := cv 1
                have q2 := cv 2
                have q3 := cv 3
                have q4 := cv 4
                simp at q0 q1 q2 q3 q4
                clear cv
                obtain ⟨p0, p1, p2, p3, p4⟩ := hP1.got
                go_wp2_with fail
                have hP2 := Ch.Bx.new z4 pv
                have hA := (Below.refl z4.heap.size z4).alloc (Nat.le_refl _) (.cells pv.cells.toArray 54)
                have hs := hs.below hA
                have hUo := hUo.below hA
                have hV := hV.below hA
                have hP1 := hP1.below hA
                have hX := hX.below hA
                have hR1 := hR1.below hA
                have hB3 := since_step hB3 hA
                clear hA
                refine (eis_any AX cX M _ hlM hX).mono ?_
                rw [HMC.out]
                rintro e z5 ⟨rfl, hb⟩
                have hB3 := since_step hB3 hb
                have hs := hs.below hb
                have hUo := hUo.below hb
                have hV := hV.below hb
                have hP1 := hP1.below hb
                have hX := hX.below hb
                have hR1 := hR1.below hb
                have hP2 := hP2.below hb
                clear hb
                clear u0 u1 u2 lv q0 q1 q2 q3 q4 p0 p1 p2 p3 p4
                obtain ⟨u0, u1, u2⟩ := id hUo
                obtain ⟨lv, cv⟩ := id hV
                have q0 := cv 0
                have q1 := cv 1
                have q2 := cv 2
                have q3 := cv 3
                have q4 := cv 4
                simp at q0 q1 q2 q3 q4
                clear cv
                obtain ⟨p0, p1, p2, p3, p4⟩ := hP1.got
                obtain ⟨s0, s1, s2, s3, s4⟩ := hP2.got
                go_wp2_with fail
                go_roundw
                case rel => exact ⟨k + 1, M, AX, cX, by omega, by omega, rfl, by go_num, hX, HMC.out, HML.out, hB3⟩
                case measure => simp [intOf]; omega
            · have HE : Hid (agreeR L fu fv tu tv = (11, [])) := Lib.hid (by rw [agreeR, if_neg (by rw [hC]; decide), if_neg (by rw [hh]; decide), if_neg hft])
              have HR : Hid (readyR [] fu fv = (0, 0, 19)) := Lib.hid rfl
              have HMC := Lib.hid hC
              clear hC hft hh
              rcases hfo3 with hfo | hfo | hfo
              · obtain ⟨rfl, rfl⟩ := hfo
                have HF2 : Hid (findC L fu fv = pv ∧ hasC L fu fv = pq) := Lib.hid ⟨HPV.out, HPQ.out⟩
                obtain ⟨u0, u1, u2⟩ := id hUo
                obtain ⟨lv, cv⟩ := id hV
                have q0 := cv 0
                have q1 := cv 1
                have q2 := cv 2
                have q3 := cv 3
                have q4 := cv 4
                simp at q0 q1 q2 q3 q4
                clear cv
                go_wp2_with fail
                refine (efind_any A' c' L fu fv _ (by omega) hs).mono ?_
                rw [HPV.out, HPQ.out]
                unfold Ch.val
                rintro e z1 ⟨rfl, hb⟩
                have hB3 := since_step hB3 hb
                have hs := hs.below hb
                have hUo := hUo.below hb
                have hV := hV.below hb
                clear hb
                clear u0 u1 u2 lv q0 q1 q2 q3 q4
                obtain ⟨u0, u1, u2⟩ := id hUo
                obtain ⟨lv, cv⟩ := id hV
                have q0 := cv 0
                have q1 := cv 1
                have q2 := cv 2
                have q3 := cv 3
                have q4 := cv 4
                simp at q0 q1 q2 q3 q4
                clear cv
                go_wp2_with fail
                have hP1 := Ch.Bx.new z1 pv
                have hA := (Below.refl z1.heap.size z1).alloc (Nat.le_refl _) (.cells pv.cells.toArray 54)
                have hs := hs.below hA
                have hUo := hUo.below hA
                have hV := hV.below hA
                have hB3 := since_step hB3 hA
                clear hA
                refine (eagree_any A' c' L fu fv tu tv _ (by omega) hs).mono ?_
                rw [HE.out]
                rintro e z2 ⟨⟨AX, cX, rfl, hown⟩, hb⟩
                have hB3 := since_step hB3 hb
                have hs := hs.below hb
                have hUo := hUo.below hb
                have hV := hV.below hb
                have hP1 := hP1.below hb
                clear hb
                clear u0 u1 u2 lv q0 q1 q2 q3 q4
                have hX := Sl.of_own hown
                clear hown
                obtain ⟨u0, u1, u2⟩ := id hUo
                obtain ⟨lv, cv⟩ := id hV
                have q0 := cv 0
                have q1 := cv 1
                have q2 := cv 2
                have q3 := cv 3
                have q4 := cv 4
                simp at q0 q1 q2 q3 q4
                clear cv
                obtain ⟨p0, p1, p2, p3, p4⟩ := hP1.got
                go_wp2_with fail
                refine (eready_any AX cX [] fu fv _ (by decide) hX).mono ?_
                rw [HR.out]
                unfold unitV
                rintro e z3 ⟨rfl, hb⟩
                have hB3 := since_step hB3 hb
                have hs := hs.below hb
                have hUo := hUo.below hb
                have hV := hV.below hb
                have hP1 := hP1.below hb
                have hX := hX.below hb
                clear hb
                clear u0 u1 u2 lv q0 q1 q2 q3 q4 p0 p1 p2 p3 p4
                obtain ⟨u0, u1, u2⟩ := id hUo
                obtain ⟨lv, cv⟩ := id hV
                have q0 := cv 0
                have q1 := cv 1
                have q2 := cv 2
                have q3 := cv 3
                have q4 := cv 4
                simp at q0 q1 q2 q3 q4
                clear cv
                obtain ⟨p0, p1, p2, p3, p4⟩ := hP1.got
                go_wp2_with fail
                have hR1 := UAt.new z3 0 0 44
                have hA := (Below.refl z3.heap.size z3).alloc (Nat.le_refl _) (.cells #[.int .i64 0, .int .i64 0] 44)
                have hs := hs.below hA
                have hUo := hUo.below hA
                have hV := hV.below hA
                have hP1 := hP1.below hA
                have hX := hX.below hA
                have hB3 := since_step hB3 hA
                clear hA
                refine (efind_any A' c' L fu fv _ hlL hs).mono ?_
                rw [HF2.out.1, HF2.out.2]
                unfold Ch.val
                rintro e z4 ⟨rfl, hb⟩
                have hB3 := since_step hB3 hb
                have hs := hs.below hb
                have hUo := hUo.below hb
                have hV := hV.below hb
                have hP1 := hP1.below hb
                have hX := hX.below hb
                have hR1 := hR1.below hb
                clear hb
                clear u0 u1 u2 lv q0 q1 q2 q3 q4 p0 p1 p2 p3 p4
                obtain ⟨u0, u1, u2⟩ := id hUo
                obtain ⟨lv, cv⟩ := id hV
                have q0 := cv 0
                have q1 := cv 1
                have q2 := cv 2
                have q3 := cv 3
                have q4 := cv 4
                simp at q0 q1 q2 q3 q4
                clear cv
                obtain ⟨p0, p1, p2, p3, p4⟩ := hP1.got
                go_wp2_with fail
                have hP2 := Ch.Bx.new z4 pv
                have hA := (Below.refl z4.heap.size z4).alloc (Nat.le_refl _) (.cells pv.cells.toArray 54)
                have hs := hs.below hA
                have hUo := hUo.below hA
                have hV := hV.below hA
                have hP1 := hP1.below hA
                have hX := hX.below hA
                have hR1 := hR1.below hA
                have hB3 := since_step hB3 hA
                clear hA
                refine (eis_any A' c' L _ hlL hs).mono ?_
                rw [HMC.out]
                rintro e z5 ⟨rfl, hb⟩
                have hB3 := since_step hB3 hb
                have hs := hs.below hb
                have hUo := hUo.below hb
                have hV := hV.below hb
                have hP1 := hP1.below hb
                have hX := hX.below hb
                have hR1 := hR1.below hb
                have hP2 := hP2.below hb
                clear hb
                clear u0 u1 u2 lv q0 q1 q2 q3 q4 p0 p1 p2 p3 p4
                obtain ⟨u0, u1, u2⟩ := id hUo
                obtain ⟨lv, cv⟩ := id hV
                have q0 := cv 0
                have q1 := cv 1
                have q2 := cv 2
                have q3 := cv 3
                have q4 := cv 4
                simp at q0 q1 q2 q3 q4
                clear cv
                obtain ⟨p0, p1, p2, p3, p4⟩ := hP1.got
                obtain ⟨s0, s1, s2, s3, s4⟩ := hP2.got
                go_wp2_with fail
                go_roundw
                case rel => exact ⟨k + 1, L, A', c', by omega, by omega, rfl, by go_num, hs, HMC.out, by omega, hB3⟩
                case measure => simp [intOf]; omega
              · have hf1 : fu ≠ o1 := hfo
                have HF2 : Hid (findC L o1 o2 = pv ∧ hasC L o1 o2 = pq) := Lib.hid ⟨HPV.out, HPQ.out⟩
                obtain ⟨u0, u1, u2⟩ := id hUo
                obtain ⟨lv, cv⟩ := id hV
                have q0 := cv 0
                have q1 := cv 1
                have q2 := cv 2
                have q3 := cv 3
                have q4 := cv 4
                simp at q0 q1 q2 q3 q4
                clear cv
                go_wp2_with fail
                refine (efind_any A' c' L o1 o2 _ (by omega) hs).mono ?_
                rw [HPV.out, HPQ.out]
                unfold Ch.val
                rintro e z1 ⟨rfl, hb⟩
                have hB3 := since_step hB3 hb
                have hs := hs.below hb
                have hUo := hUo.below hb
                have hV := hV.below hb
                clear hb
                clear u0 u1 u2 lv q0 q1 q2 q3 q4
                obtain ⟨u0, u1, u2⟩ := id hUo
                obtain ⟨lv, cv⟩ := id hV
                have q0 := cv 0
                have q1 := cv 1
                have q2 := cv 2
                have q3 := cv 3
                have q4 := cv 4
                simp at q0 q1 q2 q3 q4
                clear cv
                go_wp2_with fail
                have hP1 := Ch.Bx.new z1 pv
                have hA := (Below.refl z1.heap.size z1).alloc (Nat.le_refl _) (.cells pv.cells.toArray 54)
                have hs := hs.below hA
                have hUo := hUo.below hA
                have hV := hV.below hA
                have hB3 := since_step hB3 hA
                clear hA
                refine (eagree_any A' c' L fu fv tu tv _ (by omega) hs).mono ?_
                rw [HE.out]
                rintro e z2 ⟨⟨AX, cX, rfl, hown⟩, hb⟩
                have hB3 := since_step hB3 hb
                have hs := hs.below hb
                have hUo := hUo.below hb
                have hV := hV.below hb
                have hP1 := hP1.below hb
                clear hb
                clear u0 u1 u2 lv q0 q1 q2 q3 q4
                have hX := Sl.of_own hown
                clear hown
                obtain ⟨u0, u1, u2⟩ := id hUo
                obtain ⟨lv, cv⟩ := id hV
                have q0 := cv 0
                have q1 := cv 1
                have q2 := cv 2
                have q3 := cv 3
                have q4 := cv 4
                simp at q0 q1 q2 q3 q4
                clear cv
                obtain ⟨p0, p1, p2, p3, p4⟩ := hP1.got
                go_wp2_with fail
                refine (eready_any AX cX [] fu fv _ (by decide) hX).mono ?_
                rw [HR.out]
                unfold unitV
                rintro e z3 ⟨rfl, hb⟩
                have hB3 := since_step hB3 hb
                have hs := hs.below hb
                have hUo := hUo.below hb
                have hV := hV.below hb
                have hP1 := hP1.below hb
                have hX := hX.below hb
                clear hb
                clear u0 u1 u2 lv q0 q1 q2 q3 q4 p0 p1 p2 p3 p4
                obtain ⟨u0, u1, u2⟩ := id hUo
                obtain ⟨lv, cv⟩ := id hV
                have q0 := cv 0
                have q1 := cv 1
                have q2 := cv 2
                have q3 := cv 3
                have q4 := cv 4
                simp at q0 q1 q2 q3 q4
                clear cv
                obtain ⟨p0, p1, p2, p3, p4⟩ := hP1.got
                go_wp2_with fail
                have hR1 := UAt.new z3 0 0 44
                have hA := (Below.refl z3.heap.size z3).alloc (Nat.le_refl _) (.cells #[.int .i64 0, .int .i64 0] 44)
                have hs := hs.below hA
                have hUo := hUo.below hA
                have hV := hV.below hA
                have hP1 := hP1.below hA
                have hX := hX.below hA
                have hB3 := since_step hB3 hA
                clear hA
                refine (efind_any A' c' L o1 o2 _ hlL hs).mono ?_
                rw [HF2.out.1, HF2.out.2]
                unfold Ch.val
                rintro e z4 ⟨rfl, hb⟩
                have hB3 := since_step hB3 hb
                have hs := hs.below hb
                have hUo := hUo.below hb
                have hV := hV.below hb
                have hP1 := hP1.below hb
                have hX := hX.below hb
                have hR1 := hR1.below hb
                clear hb
                clear u0 u1 u2 lv q0 q1 q2 q3 q4 p0 p1 p2 p3 p4
                obtain ⟨u0, u1, u2⟩ := id hUo
                obtain ⟨lv, cv⟩ := id hV
                have q0 := cv 0
                have q1 := cv 1
                have q2 := cv 2
                have q3 := cv 3
                have q4 := cv 4
                simp at q0 q1 q2 q3 q4
                clear cv
                obtain ⟨p0, p1, p2, p3, p4⟩ := hP1.got
                go_wp2_with fail
                have hP2 := Ch.Bx.new z4 pv
                have hA := (Below.refl z4.heap.size z4).alloc (Nat.le_refl _) (.cells pv.cells.toArray 54)
                have hs := hs.below hA
                have hUo := hUo.below hA
                have hV := hV.below hA
                have hP1 := hP1.below hA
                have hX := hX.below hA
                have hR1 := hR1.below hA
                have hB3 := since_step hB3 hA
                clear hA
                refine (eis_any A' c' L _ hlL hs).mono ?_
                rw [HMC.out]
                rintro e z5 ⟨rfl, hb⟩
                have hB3 := since_step hB3 hb
                have hs := hs.below hb
                have hUo := hUo.below hb
                have hV := hV.below hb
                have hP1 := hP1.below hb
                have hX := hX.below hb
                have hR1 := hR1.below hb
                have hP2 := hP2.below hb
                clear hb
                clear u0 u1 u2 lv q0 q1 q2 q3 q4 p0 p1 p2 p3 p4
                obtain ⟨u0, u1, u2⟩ := id hUo
                obtain ⟨lv, cv⟩ := id hV
                have q0 := cv 0
                have q1 := cv 1
                have q2 := cv 2
                have q3 := cv 3
                have q4 := cv 4
                simp at q0 q1 q2 q3 q4
                clear cv
                obtain ⟨p0, p1, p2, p3, p4⟩ := hP1.got
                obtain ⟨s0, s1, s2, s3, s4⟩ := hP2.got
                go_wp2_with fail
                go_roundw
                case rel => exact ⟨k + 1, L, A', c', by omega, by omega, rfl, by go_num, hs, HMC.out, by omega, hB3⟩
                case measure => simp [intOf]; omega
              · obtain ⟨rfl, hf1⟩ := hfo
                have HF2 : Hid (findC L fu o2 = pv ∧ hasC L fu o2 = pq) := Lib.hid ⟨HPV.out, HPQ.out⟩
                obtain ⟨u0, u1, u2⟩ := id hUo
                obtain ⟨lv, cv⟩ := id hV
                have q0 := cv 0
                have q1 := cv 1
                have q2 := cv 2
                have q3 := cv 3
                have q4 := cv 4
                simp at q0 q1 q2 q3 q4
                clear cv
                go_wp2_with fail
                refine (efind_any A' c' L fu o2 _ (by omega) hs).mono ?_
                rw [HPV.out, HPQ.out]
                unfold Ch.val
                rintro e z1 ⟨rfl, hb⟩
                have hB3 := since_step hB3 hb
                have hs := hs.below hb
                have hUo := hUo.below hb
                have hV := hV.below hb
                clear hb
                clear u0 u1 u2 lv q0 q1 q2 q3 q4
                obtain ⟨u0, u1, u2⟩ := id hUo
                obtain ⟨lv, cv⟩ := id hV
                have q0 := cv 0
                have q1 := cv 1
                have q2 := cv 2
                have q3 := cv 3
                have q4 := cv 4
                simp at q0 q1 q2 q3 q4
                clear cv
                go_wp2_with fail
                have hP1 := Ch.Bx.new z1 pv
                have hA := (Below.refl z1.heap.size z1).alloc (Nat.le_refl _) (.cells pv.cells.toArray 54)
                have hs := hs.below hA
                have hUo := hUo.below hA
                have hV := hV.below hA
                have hB3 := since_step hB3 hA
                clear hA
                refine (eagree_any A' c' L fu fv tu tv _ (by omega) hs).mono ?_
                rw [HE.out]
                rintro e z2 ⟨⟨AX, cX, rfl, hown⟩, hb⟩
                have hB3 := since_step hB3 hb
                have hs := hs.below hb
                have hUo := hUo.below hb
                have hV := hV.below hb
                have hP1 := hP1.below hb
                clear hb
                clear u0 u1 u2 lv q0 q1 q2 q3 q4
                have hX := Sl.of_own hown
                clear hown
                obtain ⟨u0, u1, u2⟩ := id hUo
                obtain ⟨lv, cv⟩ := id hV
                have q0 := cv 0
                have q1 := cv 1
                have q2 := cv 2
                have q3 := cv 3
                have q4 := cv 4
                simp at q0 q1 q2 q3 q4
                clear cv
                obtain ⟨p0, p1, p2, p3, p4⟩ := hP1.got
                go_wp2_with fail
                refine (eready_any AX cX [] fu fv _ (by decide) hX).mono ?_
                rw [HR.out]
                unfold unitV
                rintro e z3 ⟨rfl, hb⟩
                have hB3 := since_step hB3 hb
                have hs := hs.below hb
                have hUo := hUo.below hb
                have hV := hV.below hb
                have hP1 := hP1.below hb
                have hX := hX.below hb
                clear hb
                clear u0 u1 u2 lv q0 q1 q2 q3 q4 p0 p1 p2 p3 p4
                obtain ⟨u0, u1, u2⟩ := id hUo
                obtain ⟨lv, cv⟩ := id hV
                have q0 := cv 0
                have q1 := cv 1
                have q2 := cv 2
                have q3 := cv 3
                have q4 := cv 4
                simp at q0 q1 q2 q3 q4
                clear cv
                obtain ⟨p0, p1, p2, p3, p4⟩ := hP1.got
                go_wp2_with fail
                have hR1 := UAt.new z3 0 0 44
                have hA := (Below.refl z3.heap.size z3).alloc (Nat.le_refl _) (.cells #[.int .i64 0, .int .i64 0] 44)
                have hs := hs.below hA
                have hUo := hUo.below hA
                have hV := hV.below hA
                have hP1 := hP1.below hA
                have hX := hX.below hA
                have hB3 := since_step hB3 hA
                clear hA
                refine (efind_any A' c' L fu o2 _ hlL hs).mono ?_
                rw [HF2.out.1, HF2.out.2]
                unfold Ch.val
                rintro e z4 ⟨rfl, hb⟩
                have hB3 := since_step hB3 hb
                have hs := hs.below hb
                have hUo := hUo.below hb
                have hV := hV.below hb
                have hP1 := hP1.below hb
                have hX := hX.below hb
                have hR1 := hR1.below hb
                clear hb
                clear u0 u1 u2 lv q0 q1 q2 q3 q4 p0 p1 p2 p3 p4
                obtain ⟨u0, u1, u2⟩ := id hUo
                obtain ⟨lv, cv⟩ := id hV
                have q0 := cv 0
                have q1 := cv 1
                have q2 := cv 2
                have q3 := cv 3
                have q4 := cv 4
                simp at q0 q1 q2 q3 q4
                clear cv
                obtain ⟨p0, p1, p2, p3, p4⟩ := hP1.got
                go_wp2_with fail
                have hP2 := Ch.Bx.new z4 pv
                have hA := (Below.refl z4.heap.size z4).alloc (Nat.le_refl _) (.cells pv.cells.toArray 54)
                have hs := hs.below hA
                have hUo := hUo.below hA
                have hV := hV.below hA
                have hP1 := hP1.below hA
                have hX := hX.below hA
                have hR1 := hR1.below hA
                have hB3 := since_step hB3 hA
                clear hA
                refine (eis_any A' c' L _ hlL hs).mono ?_
                rw [HMC.out]
                rintro e z5 ⟨rfl, hb⟩
                have hB3 := since_step hB3 hb
                have hs := hs.below hb
                have hUo := hUo.below hb
                have hV := hV.below hb
                have hP1 := hP1.below hb
                have hX := hX.below hb
                have hR1 := hR1.below hb
                have hP2 := hP2.below hb
                clear hb
                clear u0 u1 u2 lv q0 q1 q2 q3 q4 p0 p1 p2 p3 p4
                obtain ⟨u0, u1, u2⟩ := id hUo
                obtain ⟨lv, cv⟩ := id hV
                have q0 := cv 0
                have q1 := cv 1
                have q2 := cv 2
                have q3 := cv 3
                have q4 := cv 4
                simp at q0 q1 q2 q3 q4
                clear cv
                obtain ⟨p0, p1, p2, p3, p4⟩ := hP1.got
                obtain ⟨s0, s1, s2, s3, s4⟩ := hP2.got
                go_wp2_with fail
                go_roundw
                case rel => exact ⟨k + 1, L, A', c', by omega, by omega, rfl, by go_num, hs, HMC.out, by omega, hB3⟩
                case measure => simp [intOf]; omega
          · have HE : Hid (agreeR L fu fv tu tv = (19, [])) := Lib.hid (by rw [agreeR, if_neg (by rw [hC]; decide), if_pos (by simpa using hh)])
            have HR : Hid (readyR [] fu fv = (0, 0, 19)) := Lib.hid rfl
            have HMC := Lib.hid hC
            clear hC hh
            rcases hfo3 with hfo | hfo | hfo
            · obtain ⟨rfl, rfl⟩ := hfo
              have HF2 : Hid (findC L fu fv = pv ∧ hasC L fu fv = pq) := Lib.hid ⟨HPV.out, HPQ.out⟩
              obtain ⟨u0, u1, u2⟩ := id hUo
              obtain ⟨lv, cv⟩ := id hV
              have q0 := cv 0
              have q1 := cv 1
              have q2 := cv 2
              have q3 := cv 3
              have q4 := cv 4
              simp at q0 q1 q2 q3 q4
              clear cv
              go_wp2_with fail
              refine (efind_any A' c' L fu fv _ (by omega) hs).mono ?_
              rw [HPV.out, HPQ.out]
              unfold Ch.val
              rintro e z1 ⟨rfl, hb⟩
              have hB3 := since_step hB3 hb
              have hs := hs.below hb
              have hUo := hUo.below hb
              have hV := hV.below hb
              clear hb
              clear u0 u1 u2 lv q0 q1 q2 q3 q4
              obtain ⟨u0, u1, u2⟩ := id hUo
              obtain ⟨lv, cv⟩ := id hV
              have q0 := cv 0
              have q1 := cv 1
              have q2 := cv 2
              have q3 := cv 3
              have q4 := cv 4
              simp at q0 q1 q2 q3 q4
              clear cv
              go_wp2_with fail
              have hP1 := Ch.Bx.new z1 pv
              have hA := (Below.refl z1.heap.size z1).alloc (Nat.le_refl _) (.cells pv.cells.toArray 54)
              have hs := hs.below hA
              have hUo := hUo.below hA
              have hV := hV.below hA
              have hB3 := since_step hB3 hA
              clear hA
              refine (eagree_any A' c' L fu fv tu tv _ (by omega) hs).mono ?_
              rw [HE.out]
              rintro e z2 ⟨⟨AX, cX, rfl, hown⟩, hb⟩
              have hB3 := since_step hB3 hb
              have hs := hs.below hb
              have hUo := hUo.below hb
              have hV := hV.below hb
              have hP1 := hP1.below hb
              clear hb
              clear u0 u1 u2 lv q0 q1 q2 q3 q4
              have hX := Sl.of_own hown
              clear hown
              obtain ⟨u0, u1, u2⟩ := id hUo
              obtain ⟨lv, cv⟩ := id hV
              have q0 := cv 0
              have q1 := cv 1
              have q2 := cv 2
              have q3 := cv 3
              have q4 := cv 4
              simp at q0 q1 q2 q3 q4
              clear cv
              obtain ⟨p0, p1, p2, p3, p4⟩ := hP1.got
              go_wp2_with fail
              refine (eready_any AX cX [] fu fv _ (by decide) hX).mono ?_
              rw [HR.out]
              unfold unitV
              rintro e z3 ⟨rfl, hb⟩
              have hB3 := since_step hB3 hb
              have hs := hs.below hb
              have hUo := hUo.below hb
              have hV := hV.below hb
              have hP1 := hP1.below hb
              have hX := hX.below hb
              clear hb
              clear u0 u1 u2 lv q0 q1 q2 q3 q4 p0 p1 p2 p3 p4
              obtain ⟨u0, u1, u2⟩ := id hUo
              obtain ⟨lv, cv⟩ := id hV
              have q0 := cv 0
              have q1 := cv 1
              have q2 := cv 2
              have q3 := cv 3
              have q4 := cv 4
              simp at q0 q1 q2 q3 q4
              clear cv
              obtain ⟨p0, p1, p2, p3, p4⟩ := hP1.got
              go_wp2_with fail
              have hR1 := UAt.new z3 0 0 44
              have hA := (Below.refl z3.heap.size z3).alloc (Nat.le_refl _) (.cells #[.int .i64 0, .int .i64 0] 44)
              have hs := hs.below hA
              have hUo := hUo.below hA
              have hV := hV.below hA
              have hP1 := hP1.below hA
              have hX := hX.below hA
              have hB3 := since_step hB3 hA
              clear hA
              refine (efind_any A' c' L fu fv _ hlL hs).mono ?_
              rw [HF2.out.1, HF2.out.2]
              unfold Ch.val
              rintro e z4 ⟨rfl, hb⟩
              have hB3 := since_step hB3 hb
              have hs := hs.below hb
              have hUo := hUo.below hb
              have hV := hV.below hb
              have hP1 := hP1.below hb
              have hX := hX.below hb
              have hR1 := hR1.below hb
              clear hb
              clear u0 u1 u2 lv q0 q1 q2 q3 q4 p0 p1 p2 p3 p4
              obtain ⟨u0, u1, u2⟩ := id hUo
              obtain ⟨lv, cv⟩ := id hV
              have q0 := cv 0
              have q1 := cv 1
              have q2 := cv 2
              have q3 := cv 3
              have q4 := cv 4
              simp at q0 q1 q2 q3 q4
              clear cv
              obtain ⟨p0, p1, p2, p3, p4⟩ := hP1.got
              go_wp2_with fail
              have hP2 := Ch.Bx.new z4 pv
              have hA := (Below.refl z4.heap.size z4).alloc (Nat.le_refl _) (.cells pv.cells.toArray 54)
              have hs := hs.below hA
              have hUo := hUo.below hA
              have hV := hV.below hA
              have hP1 := hP1.below hA
              have hX := hX.below hA
              have hR1 := hR1.below hA
              have hB3 := since_step hB3 hA
              clear hA
              refine (eis_any A' c' L _ hlL hs).mono ?_
              rw [HMC.out]
              rintro e z5 ⟨rfl, hb⟩
              have hB3 := since_step hB3 hb
              have hs := hs.below hb
              have hUo := hUo.below hb
              have hV := hV.below hb
              have hP1 := hP1.below hb
              have hX := hX.below hb
              have hR1 := hR1.below hb
              have hP2 := hP2.below hb
              clear hb
              clear u0 u1 u2 lv q0 q1 q2 q3 q4 p0 p1 p2 p3 p4
              obtain ⟨u0, u1, u2⟩ := id hUo
              obtain ⟨lv, cv⟩ := id hV
              have q0 := cv 0
              have q1 := cv 1
              have q2 := cv 2
              have q3 := cv 3
              have q4 := cv 4
              simp at q0 q1 q2 q3 q4
              clear cv
              obtain ⟨p0, p1, p2, p3, p4⟩ := hP1.got
              obtain ⟨s0, s1, s2, s3, s4⟩ := hP2.got
              go_wp2_with fail
              go_roundw
              case rel => exact ⟨k + 1, L, A', c', by omega, by omega, rfl, by go_num, hs, HMC.out, by omega, hB3⟩
              case measure => simp [intOf]; omega
            · have hf1 : fu ≠ o1 := hfo
              have HF2 : Hid (findC L o1 o2 = pv ∧ hasC L o1 o2 = pq) := Lib.hid ⟨HPV.out, HPQ.out⟩
              obtain ⟨u0, u1, u2⟩ := id hUo
              obtain ⟨lv, cv⟩ := id hV
              have q0 := cv 0
              have q1 := cv 1
              have q2 := cv 2
              have q3 := cv 3
              have q4 := cv 4
              simp at q0 q1 q2 q3 q4
              clear cv
              go_wp2_with fail
              refine (efind_any A' c' L o1 o2 _ (by omega) hs).mono ?_
              rw [HPV.out, HPQ.out]
              unfold Ch.val
              rintro e z1 ⟨rfl, hb⟩
              have hB3 := since_step hB3 hb
              have hs := hs.below hb
              have hUo := hUo.below hb
              have hV := hV.below hb
              clear hb
              clear u0 u1 u2 lv q0 q1 q2 q3 q4
              obtain ⟨u0, u1, u2⟩ := id hUo
              obtain ⟨lv, cv⟩ := id hV
              have q0 := cv 0
              have q1 := cv 1
              have q2 := cv 2
              have q3 := cv 3
              have q4 := cv 4
              simp at q0 q1 q2 q3 q4
              clear cv
              go_wp2_with fail
              have hP1 := Ch.Bx.new z1 pv
              have hA := (Below.refl z1.heap.size z1).alloc (Nat.le_refl _) (.cells pv.cells.toArray 54)
              have hs := hs.below hA
              have hUo := hUo.below hA
              have hV := hV.below hA
              have hB3 := since_step hB3 hA
              clear hA
              refine (eagree_any A' c' L fu fv tu tv _ (by omega) hs).mono ?_
              rw [HE.out]
              rintro e z2 ⟨⟨AX, cX, rfl, hown⟩, hb⟩
              have hB3 := since_step hB3 hb
              have hs := hs.below hb
              have hUo := hUo.below hb
              have hV := hV.below hb
              have hP1 := hP1.below hb
              clear hb
              clear u0 u1 u2 lv q0 q1 q2 q3 q4
              have hX := Sl.of_own hown
              clear hown
              obtain ⟨u0, u1, u2⟩ := id hUo
              obtain ⟨lv, cv⟩ := id hV
              have q0 := cv 0
              have q1 := cv 1
              have q2 := cv 2
              have q3 := cv 3
              have q4 := cv 4
              simp at q0 q1 q2 q3 q4
              clear cv
              obtain ⟨p0, p1, p2, p3, p4⟩ := hP1.got
              go_wp2_with fail
              refine (eready_any AX cX [] fu fv _ (by decide) hX).mono ?_
              rw [HR.out]
              unfold unitV
              rintro e z3 ⟨rfl, hb⟩
              have hB3 := since_step hB3 hb
              have hs := hs.below hb
              have hUo := hUo.below hb
              have hV := hV.below hb
              have hP1 := hP1.below hb
              have hX := hX.below hb
              clear hb
              clear u0 u1 u2 lv q0 q1 q2 q3 q4 p0 p1 p2 p3 p4
              obtain ⟨u0, u1, u2⟩ := id hUo
              obtain ⟨lv, cv⟩ := id hV
              have q0 := cv 0
              have q1 := cv 1
              have q2 := cv 2
              have q3 := cv 3
              have q4 := cv 4
              simp at q0 q1 q2 q3 q4
              clear cv
              obtain ⟨p0, p1, p2, p3, p4⟩ := hP1.got
              go_wp2_with fail
              have hR1 := UAt.new z3 0 0 44
              have hA := (Below.refl z3.heap.size z3).alloc (Nat.le_refl _) (.cells #[.int .i64 0, .int .i64 0] 44)
              have hs := hs.below hA
              have hUo := hUo.below hA
              have hV := hV.below hA
              have hP1 := hP1.below hA
              have hX := hX.below hA
              have hB3 := since_step hB3 hA
              clear hA
              refine (efind_any A' c' L o1 o2 _ hlL hs).mono ?_
              rw [HF2.out.1, HF2.out.2]
              unfold Ch.val
              rintro e z4 ⟨rfl, hb⟩
              have hB3 := since_step hB3 hb
              have hs := hs.below hb
              have hUo := hUo.below hb
              have hV := hV.below hb
              have hP1 := hP1.below hb
              have hX := hX.below hb
              have hR1 := hR1.below hb
              clear hb
              clear u0 u1 u2 lv q0 q1 q2 q3 q4 p0 p1 p2 p3 p4
              obtain ⟨u0, u1, u2⟩ := id hUo
              obtain ⟨lv, cv⟩ := id hV
              have q0 := cv 0
              have q1 := cv 1
              have q2 := cv 2
              have q3 := cv 3
              have q4 := cv 4
              simp at q0 q1 q2 q3 q4
              clear cv
              obtain ⟨p0, p1, p2, p3, p4⟩ := hP1.got
              go_wp2_with fail
              have hP2 := Ch.Bx.new z4 pv
              have hA := (Below.refl z4.heap.size z4).alloc (Nat.le_refl _) (.cells pv.cells.toArray 54)
              have hs := hs.below hA
              have hUo := hUo.below hA
              have hV := hV.below hA
              have hP1 := hP1.below hA
              have hX := hX.below hA
              have hR1 := hR1.below hA
              have hB3 := since_step hB3 hA
              clear hA
              refine (eis_any A' c' L _ hlL hs).mono ?_
              rw [HMC.out]
              rintro e z5 ⟨rfl, hb⟩
              have hB3 := since_step hB3 hb
              have hs := hs.below hb
              have hUo := hUo.below hb
              have hV := hV.below hb
              have hP1 := hP1.below hb
              have hX := hX.below hb
              have hR1 := hR1.below hb
              have hP2 := hP2.below hb
              clear hb
              clear u0 u1 u2 lv q0 q1 q2 q3 q4 p0 p1 p2 p3 p4
              obtain ⟨u0, u1, u2⟩ := id hUo
              obtain ⟨lv, cv⟩ := id hV
              have q0 := cv 0
              have q1 := cv 1
              have q2 := cv 2
              have q3 := cv 3
              have q4 := cv 4
              simp at q0 q1 q2 q3 q4
              clear cv
              obtain ⟨p0, p1, p2, p3, p4⟩ := hP1.got
              obtain ⟨s0, s1, s2, s3, s4⟩ := hP2.got
              go_wp2_with fail
              go_roundw
              case rel => exact ⟨k + 1, L, A', c', by omega, by omega, rfl, by go_num, hs, HMC.out, by omega, hB3⟩
              case measure => simp [intOf]; omega
            · obtain ⟨rfl, hf1⟩ := hfo
              have HF2 : Hid (findC L fu o2 = pv ∧ hasC L fu o2 = pq) := Lib.hid ⟨HPV.out, HPQ.out⟩
              obtain ⟨u0, u1, u2⟩ := id hUo
              obtain ⟨lv, cv⟩ := id hV
              have q0 := cv 0
              have q1 := cv 1
              have q2 := cv 2
              have q3 := cv 3
              have q4 := cv 4
              simp at q0 q1 q2 q3 q4
              clear cv
              go_wp2_with fail
              refine (efind_any A' c' L fu o2 _ (by omega) hs).mono ?_
              rw [HPV.out, HPQ.out]
              unfold Ch.val
              rintro e z1 ⟨rfl, hb⟩
              have hB3 := since_step hB3 hb
              have hs := hs.below hb
              have hUo := hUo.below hb
              have hV := hV.below hb
              clear hb
              clear u0 u1 u2 lv q0 q1 q2 q3 q4
              obtain ⟨u0, u1, u2⟩ := id hUo
              obtain ⟨lv, cv⟩ := id hV
              have q0 := cv 0
              have q1 := cv 1
              have q2 := cv 2
              have q3 := cv 3
              have q4 := cv 4
              simp at q0 q1 q2 q3 q4
              clear cv
              go_wp2_with fail
              have hP1 := Ch.Bx.new z1 pv
              have hA := (Below.refl z1.heap.size z1).alloc (Nat.le_refl _) (.cells pv.cells.toArray 54)
              have hs := hs.below hA
              have hUo := hUo.below hA
              have hV := hV.below hA
              have hB3 := since_step hB3 hA
              clear hA
              refine (eagree_any A' c' L fu fv tu tv _ (by omega) hs).mono ?_
              rw [HE.out]
              rintro e z2 ⟨⟨AX, cX, rfl, hown⟩, hb⟩
              have hB3 := since_step hB3 hb
              have hs := hs.below hb
              have hUo := hUo.below hb
              have hV := hV.below hb
              have hP1 := hP1.below hb
              clear hb
              clear u0 u1 u2 lv q0 q1 q2 q3 q4
              have hX := Sl.of_own hown
              clear hown
              obtain ⟨u0, u1, u2⟩ := id hUo
              obtain ⟨lv, cv⟩ := id hV
              have q0 := cv 0
              have q1 := cv 1
              have q2 := cv 2
              have q3 := cv 3
              have q4 := cv 4
              simp at q0 q1 q2 q3 q4
              clear cv
              obtain ⟨p0, p1, p2, p3, p4⟩ := hP1.got
              go_wp2_with fail
              refine (eready_any AX cX [] fu fv _ (by decide) hX).mono ?_
              rw [HR.out]
              unfold unitV
              rintro e z3 ⟨rfl, hb⟩
              have hB3 := since_step hB3 hb
              have hs := hs.below hb
              have hUo := hUo.below hb
              have hV := hV.below hb
              have hP1 := hP1.below hb
              have hX := hX.below hb
              clear hb
              clear u0 u1 u2 lv q0 q1 q2 q3 q4 p0 p1 p2 p3 p4
              obtain ⟨u0, u1, u2⟩ := id hUo
              obtain ⟨lv, cv⟩ := id hV
              have q0 := cv 0
              have q1 := cv 1
              have q2 := cv 2
              have q3 := cv 3
              have q4 := cv 4
              simp at q0 q1 q2 q3 q4
              clear cv
              obtain ⟨p0, p1, p2, p3, p4⟩ := hP1.got
              go_wp2_with fail
              have hR1 := UAt.new z3 0 0 44
              have hA := (Below.refl z3.heap.size z3).alloc (Nat.le_refl _) (.cells #[.int .i64 0, .int .i64 0] 44)
              have hs := hs.below hA
              have hUo := hUo.below hA
              have hV := hV.below hA
              have hP1 := hP1.below hA
              have hX := hX.below hA
              have hB3 := since_step hB3 hA
              clear hA
              refine (efind_any A' c' L fu o2 _ hlL hs).mono ?_
              rw [HF2.out.1, HF2.out.2]
              unfold Ch.val
              rintro e z4 ⟨rfl, hb⟩
              have hB3 := since_step hB3 hb
              have hs := hs.below hb
              have hUo := hUo.below hb
              have hV := hV.below hb
              have hP1 := hP1.below hb
              have hX := hX.below hb
              have hR1 := hR1.below hb
              clear hb
              clear u0 u1 u2 lv q0 q1 q2 q3 q4 p0 p1 p2 p3 p4
              obtain ⟨u0, u1, u2⟩ := id hUo
              obtain ⟨lv, cv⟩ := id hV
              have q0 := cv 0
              have q1 := cv 1
              have q2 := cv 2
              have q3 := cv 3
              have q4 := cv 4
              simp at q0 q1 q2 q3 q4
              clear cv
              obtain ⟨p0, p1, p2, p3, p4⟩ := hP1.got
              go_wp2_with fail
              have hP2 := Ch.Bx.new z4 pv
              have hA := (Below.refl z4.heap.size z4).alloc (Nat.le_refl _) (.cells pv.cells.toArray 54)
              have hs := hs.below hA
              have hUo := hUo.below hA
              have hV := hV.below hA
              have hP1 := hP1.below hA
              have hX := hX.below hA
              have hR1 := hR1.below hA
              have hB3 := since_step hB3 hA
              clear hA
              refine (eis_any A' c' L _ hlL hs).mono ?_
              rw [HMC.out]
              rintro e z5 ⟨rfl, hb⟩
              have hB3 := since_step hB3 hb
              have hs := hs.below hb
              have hUo := hUo.below hb
              have hV := hV.below hb
              have hP1 := hP1.below hb
              have hX := hX.below hb
              have hR1 := hR1.below hb
              have hP2 := hP2.below hb
              clear hb
              clear u0 u1 u2 lv q0 q1 q2 q3 q4 p0 p1 p2 p3 p4
              obtain ⟨u0, u1, u2⟩ := id hUo
              obtain ⟨lv, cv⟩ := id hV
              have q0 := cv 0
              have q1 := cv 1
              have q2 := cv 2
              have q3 := cv 3
              have q4 := cv 4
              simp at q0 q1 q2 q3 q4
              clear cv
              obtain ⟨p0, p1, p2, p3, p4⟩ := hP1.got
              obtain ⟨s0, s1, s2, s3, s4⟩ := hP2.got
              go_wp2_with fail
              go_roundw
              case rel => exact ⟨k + 1, L, A', c', by omega, by omega, rfl, by go_num, hs, HMC.out, by omega, hB3⟩
              case measure => simp [intOf]; omega
        · have hk1b : (kd == 1) = false := by simpa using hk1
          obtain ⟨M, hMM⟩ : ∃ M, dropC L fu fv = M := ⟨_, rfl⟩
          have HM := Lib.hid hMM
          have HMC : Hid (isC M = true) := Lib.hid (by rw [← hMM]; exact isC_dropC hC fu fv)
          have HML : Hid (M.length ≤ k + 1) := Lib.hid (by rw [← hMM]; exact Nat.le_trans (dropC_len _ _ _) (by omega))
          have hlM : M.length ≤ 1000000 := by have := HML.out; omega
          have HE : Hid (dropC L fu fv = M) := Lib.hid hMM
          have HR : Hid (readyR M fu fv = (0, 0, 19)) := Lib.hid (by rw [← hMM]; exact readyR_drop L fu fv)
          clear hC hMM
          rcases hfo3 with hfo | hfo | hfo
          · obtain ⟨rfl, rfl⟩ := hfo
            obtain ⟨pw, hpw⟩ : ∃ v, findC M fu fv = v := ⟨_, rfl⟩
            obtain ⟨pr, hpr⟩ : ∃ v, hasC M fu fv = v := ⟨_, rfl⟩
            have HF2 : Hid (findC M fu fv = pw ∧ hasC M fu fv = pr) := Lib.hid ⟨hpw, hpr⟩
            clear hpw hpr
            obtain ⟨u0, u1, u2⟩ := id hUo
            obtain ⟨lv, cv⟩ := id hV
            have q0 := cv 0
            have q1 := cv 1
            have q2 := cv 2
            have q3 := cv 3
            have q4 := cv 4
            simp at q0 q1 q2 q3 q4
            clear cv
            go_wp2_with fail
            refine (efind_any A' c' L fu fv _ (by omega) hs).mono ?_
            rw [HPV.out, HPQ.out]
            unfold Ch.val
            rintro e z1 ⟨rfl, hb⟩
            have hB3 := since_step hB3 hb
            have hs := hs.below hb
            have hUo := hUo.below hb
            have hV := hV.below hb
            clear hb
            clear u0 u1 u2 lv q0 q1 q2 q3 q4
            obtain ⟨u0, u1, u2⟩ := id hUo
            obtain ⟨lv, cv⟩ := id hV
            have q0 := cv 0
            have q1 := cv 1
            have q2 := cv 2
            have q3 := cv 3
            have q4 := cv 4
            simp at q0 q1 q2 q3 q4
            clear cv
            go_wp2_with fail
            have hP1 := Ch.Bx.new z1 pv
            have hA := (Below.refl z1.heap.size z1).alloc (Nat.le_refl _) (.cells pv.cells.toArray 54)
            have hs := hs.below hA
            have hUo := hUo.below hA
            have hV := hV.below hA
            have hB3 := since_step hB3 hA
            clear hA
            refine (edrop_any A' c' L fu fv _ (by omega) hs).mono ?_
            rw [HE.out]
            rintro e z2 ⟨⟨AX, cX, rfl, hown⟩, hb⟩
            have hB3 := since_step hB3 hb
            have hs := hs.below hb
            have hUo := hUo.below hb
            have hV := hV.below hb
            have hP1 := hP1.below hb
            clear hb
            clear u0 u1 u2 lv q0 q1 q2 q3 q4
            have hX := Sl.of_own hown
            clear hown
            obtain ⟨u0, u1, u2⟩ := id hUo
            obtain ⟨lv, cv⟩ := id hV
            have q0 := cv 0
            have q1 := cv 1
            have q2 := cv 2
            have q3 := cv 3
            have q4 := cv 4
            simp at q0 q1 q2 q3 q4
            clear cv
            obtain ⟨p0, p1, p2, p3, p4⟩ := hP1.got
            go_wp2_with fail
            refine (eready_any AX cX M fu fv _ hlM hX).mono ?_
            rw [HR.out]
            unfold unitV
            rintro e z3 ⟨rfl, hb⟩
            have hB3 := since_step hB3 hb
            have hs := hs.below hb
            have hUo := hUo.below hb
            have hV := hV.below hb
            have hP1 := hP1.below hb
            have hX := hX.below hb
            clear hb
            clear u0 u1 u2 lv q0 q1 q2 q3 q4 p0 p1 p2 p3 p4
            obtain ⟨u0, u1, u2⟩ := id hUo
            obtain ⟨lv, cv⟩ := id hV
            have q0 := cv 0
            have q1 := cv 1
            have q2 := cv 2
            have q3 := cv 3
            have q4 := cv 4
            simp at q0 q1 q2 q3 q4
            clear cv
            obtain ⟨p0, p1, p2, p3, p4⟩ := hP1.got
            go_wp2_with fail
            have hR1 := UAt.new z3 0 0 44
            have hA := (Below.refl z3.heap.size z3).alloc (Nat.le_refl _) (.cells #[.int .i64 0, .int .i64 0] 44)
            have hs := hs.below hA
            have hUo := hUo.below hA
            have hV := hV.below hA
            have hP1 := hP1.below hA
            have hX := hX.below hA
            have hB3 := since_step hB3 hA
            clear hA
            refine (efind_any AX cX M fu fv _ hlM hX).mono ?_
            rw [HF2.out.1, HF2.out.2]
            unfold Ch.val
            rintro e z4 ⟨rfl, hb⟩
            have hB3 := since_step hB3 hb
            have hs := hs.below hb
            have hUo := hUo.below hb
            have hV := hV.below hb
            have hP1 := hP1.below hb
            have hX := hX.below hb
            have hR1 := hR1.below hb
            clear hb
            clear u0 u1 u2 lv q0 q1 q2 q3 q4 p0 p1 p2 p3 p4
            obtain ⟨u0, u1, u2⟩ := id hUo
            obtain ⟨lv, cv⟩ := id hV
            have q0 := cv 0
            have q1 := cv 1
            have q2 := cv 2
            have q3 := cv 3
            have q4 := cv 4
            simp at q0 q1 q2 q3 q4
            clear cv
            obtain ⟨p0, p1, p2, p3, p4⟩ := hP1.got
            go_wp2_with fail
            have hP2 := Ch.Bx.new z4 pw
            have hA := (Below.refl z4.heap.size z4).alloc (Nat.le_refl _) (.cells pw.cells.toArray 54)
            have hs := hs.below hA
            have hUo := hUo.below hA
            have hV := hV.below hA
            have hP1 := hP1.below hA
            have hX := hX.below hA
            have hR1 := hR1.below hA
            have hB3 := since_step hB3 hA
            clear hA
            refine (eis_any AX cX M _ hlM hX).mono ?_
            rw [HMC.out]
            rintro e z5 ⟨rfl, hb⟩
            have hB3 := since_step hB3 hb
            have hs := hs.below hb
            have hUo := hUo.below hb
            have hV := hV.below hb
            have hP1 := hP1.below hb
            have hX := hX.below hb
            have hR1 := hR1.below hb
            have hP2 := hP2.below hb
            clear hb
            clear u0 u1 u2 lv q0 q1 q2 q3 q4 p0 p1 p2 p3 p4
            obtain ⟨u0, u1, u2⟩ := id hUo
            obtain ⟨lv, cv⟩ := id hV
            have q0 := cv 0
            have q1 := cv 1
            have q2 := cv 2
            have q3 := cv 3
            have q4 := cv 4
            simp at q0 q1 q2 q3 q4
            clear cv
            obtain ⟨p0, p1, p2, p3, p4⟩ := hP1.got
            obtain ⟨s0, s1, s2, s3, s4⟩ := hP2.got
            go_wp2_with fail
            go_roundw
            case rel => exact ⟨k + 1, M, AX, cX, by omega, by omega, rfl, by go_num, hX, HMC.out, HML.out, hB3⟩
            case measure => simp [intOf]; omega
          · have hf1 : fu ≠ o1 := hfo
            have HF2 : Hid (findC M o1 o2 = pv ∧ hasC M o1 o2 = pq) := Lib.hid (by have h9 := find_same_of (find_drop_other fu fv o1 o2 (fun h => hf1 h.1) L); rw [HM.out, HPV.out, HPQ.out] at h9; exact h9)
            obtain ⟨u0, u1, u2⟩ := id hUo
            obtain ⟨lv, cv⟩ := id hV
            have q0 := cv 0
            have q1 := cv 1
            have q2 := cv 2
            have q3 := cv 3
            have q4 := cv 4
            simp at q0 q1 q2 q3 q4
            clear cv
            go_wp2_with fail
            refine (efind_any A' c' L o1 o2 _ (by omega) hs).mono ?_
            rw [HPV.out, HPQ.out]
            unfold Ch.val
            rintro e z1 ⟨rfl, hb⟩
            have hB3 := since_step hB3 hb
            have hs := hs.below hb
            have hUo := hUo.below hb
            have hV := hV.below hb
            clear hb
            clear u0 u1 u2 lv q0 q1 q2 q3 q4
            obtain ⟨u0, u1, u2⟩ := id hUo
            obtain ⟨lv, cv⟩ := id hV
            have q0 := cv 0
            have q1 := cv 1
            have q2 := cv 2
            have q3 := cv 3
            have q4 := cv 4
            simp at q0 q1 q2 q3 q4
            clear cv
            go_wp2_with fail
            have hP1 := Ch.Bx.new z1 pv
            have hA := (Below.refl z1.heap.size z1).alloc (Nat.le_refl _) (.cells pv.cells.toArray 54)
            have hs := hs.below hA
            have hUo := hUo.below hA
            have hV := hV.below hA
            have hB3 := since_step hB3 hA
            clear hA
            refine (edrop_any A' c' L fu fv _ (by omega) hs).mono ?_
            rw [HE.out]
            rintro e z2 ⟨⟨AX, cX, rfl, hown⟩, hb⟩
            have hB3 := since_step hB3 hb
            have hs := hs.below hb
            have hUo := hUo.below hb
            have hV := hV.below hb
            have hP1 := hP1.below hb
            clear hb
            clear u0 u1 u2 lv q0 q1 q2 q3 q4
            have hX := Sl.of_own hown
            clear hown
            obtain ⟨u0, u1, u2⟩ := id hUo
            obtain ⟨lv, cv⟩ := id hV
            have q0 := cv 0
            have q1 := cv 1
            have q2 := cv 2
            have q3 := cv 3
            have q4 := cv 4
            simp at q0 q1 q2 q3 q4
            clear cv
            obtain ⟨p0, p1, p2, p3, p4⟩ := hP1.got
            go_wp2_with fail
            refine (eready_any AX cX M fu fv _ hlM hX).mono ?_
            rw [HR.out]
            unfold unitV
            rintro e z3 ⟨rfl, hb⟩
            have hB3 := since_step hB3 hb
            have hs := hs.below hb
            have hUo := hUo.below hb
            have hV := hV.below hb
            have hP1 := hP1.below hb
            have hX := hX.below hb
            clear hb
            clear u0 u1 u2 lv q0 q1 q2 q3 q4 p0 p1 p2 p3 p4
            obtain ⟨u0, u1, u2⟩ := id hUo
            obtain ⟨lv, cv⟩ := id hV
            have q0 := cv 0
            have q1 := cv 1
            have q2 := cv 2
            have q3 := cv 3
            have q4 := cv 4
            simp at q0 q1 q2 q3 q4
            clear cv
            obtain ⟨p0, p1, p2, p3, p4⟩ := hP1.got
            go_wp2_with fail
            have hR1 := UAt.new z3 0 0 44
            have hA := (Below.refl z3.heap.size z3).alloc (Nat.le_refl _) (.cells #[.int .i64 0, .int .i64 0] 44)
            have hs := hs.below hA
            have hUo := hUo.below hA
            have hV := hV.below hA
            have hP1 := hP1.below hA
            have hX := hX.below hA
            have hB3 := since_step hB3 hA
            clear hA
            refine (efind_any AX cX M o1 o2 _ hlM hX).mono ?_
            rw [HF2.out.1, HF2.out.2]
            unfold Ch.val
            rintro e z4 ⟨rfl, hb⟩
            have hB3 := since_step hB3 hb
            have hs := hs.below hb
            have hUo := hUo.below hb
            have hV := hV.below hb
            have hP1 := hP1.below hb
            have hX := hX.below hb
            have hR1 := hR1.below hb
            clear hb
            clear u0 u1 u2 lv q0 q1 q2 q3 q4 p0 p1 p2 p3 p4
            obtain ⟨u0, u1, u2⟩ := id hUo
            obtain ⟨lv, cv⟩ := id hV
            have q0 := cv 0
            have q1 := cv 1
            have q2 := cv 2
            have q3 := cv 3
            have q4 := cv 4
            simp at q0 q1 q2 q3 q4
            clear cv
            obtain ⟨p0, p1, p2, p3, p4⟩ := hP1.got
            go_wp2_with fail
            have hP2 := Ch.Bx.new z4 pv
            have hA := (Below.refl z4.heap.size z4).alloc (Nat.le_refl _) (.cells pv.cells.toArray 54)
            have hs := hs.below hA
            have hUo := hUo.below hA
            have hV := hV.below hA
            have hP1 := hP1.below hA
            have hX := hX.below hA
            have hR1 := hR1.below hA
            have hB3 := since_step hB3 hA
            clear hA
            refine (eis_any AX cX M _ hlM hX).mono ?_
            rw [HMC.out]
            rintro e z5 ⟨rfl, hb⟩
            have hB3 := since_step hB3 hb
            have hs := hs.below hb
            have hUo := hUo.below hb
            have hV := hV.below hb
            have hP1 := hP1.below hb
            have hX := hX.below hb
            have hR1 := hR1.below hb
            have hP2 := hP2.below hb
            clear hb
            clear u0 u1 u2 lv q0 q1 q2 q3 q4 p0 p1 p2 p3 p4
            obtain ⟨u0, u1, u2⟩ := id hUo
            obtain ⟨lv, cv⟩ := id hV
            have q0 := cv 0
            have q1 := cv 1
            have q2 := cv 2
            have q3 := cv 3
            have q4 := cv 4
            simp at q0 q1 q2 q3 q4
            clear cv
            obtain ⟨p0, p1, p2, p3, p4⟩ := hP1.got
            obtain ⟨s0, s1, s2, s3, s4⟩ := hP2.got
            go_wp2_with fail
            go_roundw
            case rel => exact ⟨k + 1, M, AX, cX, by omega, by omega, rfl, by go_num, hX, HMC.out, HML.out, hB3⟩
            case measure => simp [intOf]; omega
          · obtain ⟨rfl, hf1⟩ := hfo
            have HF2 : Hid (findC M fu o2 = pv ∧ hasC M fu o2 = pq) := Lib.hid (by have h9 := find_same_of (find_drop_other fu fv fu o2 (fun h => hf1 h.2) L); rw [HM.out, HPV.out, HPQ.out] at h9; exact h9)
            obtain ⟨u0, u1, u2⟩ := id hUo
            obtain ⟨lv, cv⟩ := id hV
            have q0 := cv 0
            have q1 := cv 1
            have q2 := cv 2
            have q3 := cv 3
            have q4 := cv 4
            simp at q0 q1 q2 q3 q4
            clear cv
            go_wp2_with fail
            refine (efind_any A' c' L fu o2 _ (by omega) hs).mono ?_
            rw [HPV.out, HPQ.out]
            unfold Ch.val
            rintro e z1 ⟨rfl, hb⟩
            have hB3 := since_step hB3 hb
            have hs := hs.below hb
            have hUo := hUo.below hb
            have hV := hV.below hb
            clear hb
            clear u0 u1 u2 lv q0 q1 q2 q3 q4
            obtain ⟨u0, u1, u2⟩ := id hUo
            obtain ⟨lv, cv⟩ := id hV
            have q0 := cv 0
            have q1 := cv 1
            have q2 := cv 2
            have q3 := cv 3
            have q4 := cv 4
            simp at q0 q1 q2 q3 q4
            clear cv
            go_wp2_with fail
            have hP1 := Ch.Bx.new z1 pv
            have hA := (Below.refl z1.heap.size z1).alloc (Nat.le_refl _) (.cells pv.cells.toArray 54)
            have hs := hs.below hA
            have hUo := hUo.below hA
            have hV := hV.below hA
            have hB3 := since_step hB3 hA
            clear hA
            refine (edrop_any A' c' L fu fv _ (by omega) hs).mono ?_
            rw [HE.out]
            rintro e z2 ⟨⟨AX, cX, rfl, hown⟩, hb⟩
            have hB3 := since_step hB3 hb
            have hs := hs.below hb
            have hUo := hUo.below hb
            have hV := hV.below hb
            have hP1 := hP1.below hb
            clear hb
            clear u0 u1 u2 lv q0 q1 q2 q3 q4
            have hX := Sl.of_own hown
            clear hown
            obtain ⟨u0, u1, u2⟩ := id hUo
            obtain ⟨lv, cv⟩ := id hV
            have q0 := cv 0
            have q1 := cv 1
            have q2 := cv 2
            have q3 := cv 3
            have q4 := cv 4
            simp at q0 q1 q2 q3 q4
            clear cv
            obtain ⟨p0, p1, p2, p3, p4⟩ := hP1.got
            go_wp2_with fail
            refine (eready_any AX cX M fu fv _ hlM hX).mono ?_
            rw [HR.out]
            unfold unitV
            rintro e z3 ⟨rfl, hb⟩
            have hB3 := since_step hB3 hb
            have hs := hs.below hb
            have hUo := hUo.below hb
            have hV := hV.below hb
            have hP1 := hP1.below hb
            have hX := hX.below hb
            clear hb
            clear u0 u1 u2 lv q0 q1 q2 q3 q4 p0 p1 p2 p3 p4
            obtain ⟨u0, u1, u2⟩ := id hUo
            obtain ⟨lv, cv⟩ := id hV
            have q0 := cv 0
            have q1 := cv 1
            have q2 := cv 2
            have q3 := cv 3
            have q4 := cv 4
            simp at q0 q1 q2 q3 q4
            clear cv
            obtain ⟨p0, p1, p2, p3, p4⟩ := hP1.got
            go_wp2_with fail
            have hR1 := UAt.new z3 0 0 44
            have hA := (Below.refl z3.heap.size z3).alloc (Nat.le_refl _) (.cells #[.int .i64 0, .int .i64 0] 44)
            have hs := hs.below hA
            have hUo := hUo.below hA
            have hV := hV.below hA
            have hP1 := hP1.below hA
            have hX := hX.below hA
            have hB3 := since_step hB3 hA
            clear hA
            refine (efind_any AX cX M fu o2 _ hlM hX).mono ?_
            rw [HF2.out.1, HF2.out.2]
            unfold Ch.val
            rintro e z4 ⟨rfl, hb⟩
            have hB3 := since_step hB3 hb
            have hs := hs.below hb
            have hUo := hUo.below hb
            have hV := hV.below hb
            have hP1 := hP1.below hb
            have hX := hX.below hb
            have hR1 := hR1.below hb
            clear hb
            clear u0 u1 u2 lv q0 q1 q2 q3 q4 p0 p1 p2 p3 p4
            obtain ⟨u0, u1, u2⟩ := id hUo
            obtain ⟨lv, cv⟩ := id hV
            have q0 := cv 0
            have q1 := cv 1
            have q2 := cv 2
            have q3 := cv 3
            have q4 := cv 4
            simp at q0 q1 q2 q3 q4
            clear cv
            obtain ⟨p0, p1, p2, p3, p4⟩ := hP1.got
            go_wp2_with fail
            have hP2 := Ch.Bx.new z4 pv
            have hA := (Below.refl z4.heap.size z4).alloc (Nat.le_refl _) (.cells pv.cells.toArray 54)
            have hs := hs.below hA
            have hUo := hUo.below hA
            have hV := hV.below hA
            have hP1 := hP1.below hA
            have hX := hX.below hA
            have hR1 := hR1.below hA
            have hB3 := since_step hB3 hA
            clear hA
            refine (eis_any AX cX M _ hlM hX).mono ?_
            rw [HMC.out]
            rintro e z5 ⟨rfl, hb⟩
            have hB3 := since_step hB3 hb
            have hs := hs.below hb
            have hUo := hUo.below hb
            have hV := hV.below hb
            have hP1 := hP1.below hb
            have hX := hX.below hb
            have hR1 := hR1.below hb
            have hP2 := hP2.below hb
            clear hb
            clear u0 u1 u2 lv q0 q1 q2 q3 q4 p0 p1 p2 p3 p4
            obtain ⟨u0, u1, u2⟩ := id hUo
            obtain ⟨lv, cv⟩ := id hV
            have q0 := cv 0
            have q1 := cv 1
            have q2 := cv 2
            have q3 := cv 3
            have q4 := cv 4
            simp at q0 q1 q2 q3 q4
            clear cv
            obtain ⟨p0, p1, p2, p3, p4⟩ := hP1.got
            obtain ⟨s0, s1, s2, s3, s4⟩ := hP2.got
            go_wp2_with fail
            go_roundw
            case rel => exact ⟨k + 1, M, AX, cX, by omega, by omega, rfl, by go_num, hX, HMC.out, HML.out, hB3⟩
            case measure => simp [intOf]; omega
    · have hend : ¬ ((k : Int) < (l.length : Int)) ∨ ((k : Int) < (l.length : Int) ∧ ¬ ((k : Int) < 30)) := by omega
      have hB3 := hBW.trans (hB.mono (by have := hBW.size; omega))
      clear hgo
      rcases hend with h1 | ⟨h1, h2⟩
      all_goals
        go_wp2_with fail
        refine (lives16_any _).mono ?_
        rintro e z1 ⟨rfl, hb⟩
        have hB4 := since_step hB3 hb
        go_wp2_with fail
        go_ret
        exact ⟨rfl, hB4⟩
end Go.Proofs.Ytniapgcohihkhaa
