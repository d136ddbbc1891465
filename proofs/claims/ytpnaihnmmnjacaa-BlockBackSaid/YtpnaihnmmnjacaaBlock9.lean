/-
  Layer 22, ninth part: BlockGroups (laid by gen_block9.py).
-/
import Derived.Test.YtpnaihnmmnjacaaBlock8
import Derived.Test.YtpnaihnmmnjacaaBlock5
namespace Go.Proofs.Ytpnaihnmmnjacaa
open Go.ChangeShapes Go.WideShapes Go.ChangeAt Go.RowKit
set_option linter.unusedVariables false
set_option linter.unusedSimpArgs false

theorem rd_grow {w : World} {r : List Value} (h : Rd w (.cat (.int .i64) (.cat (.cat (.int .i64) (.cat (.int .i64) .nil)) (.cat (.int .i64) (.cat (.int .i64) (.cat (.int .i64) .nil))))) r) : ∃ g : Gr, r = g.cells := by
  obtain ⟨p, q, rfl, ⟨a, rfl, _⟩, ⟨p2, q2, rfl, ⟨p3, q3, rfl, ⟨b, rfl, _⟩, ⟨p4, q4, rfl, ⟨c, rfl, _⟩, rfl⟩⟩, ⟨p5, q5, rfl, ⟨d, rfl, _⟩, ⟨p6, q6, rfl, ⟨e, rfl, _⟩, ⟨p7, q7, rfl, ⟨f, rfl, _⟩, rfl⟩⟩⟩⟩⟩ := h
  exact ⟨⟨a, b, c, d, e, f⟩, rfl⟩
theorem rd_gr {w : World} {a : Array Value} (h : Rd w (.cat (.int .i64) (.cat (.cat (.int .i64) (.cat (.int .i64) .nil)) (.cat (.int .i64) (.cat (.int .i64) (.cat (.int .i64) .nil))))) a.toList) : ∃ v : Gr, .agg a = v.val := by
  obtain ⟨v, hv⟩ := rd_grow h
  refine ⟨v, ?_⟩
  cases a
  simp at hv
  subst hv
  rfl
theorem openR_len (l : List Gr) (v : Gr) : (openR l v).2.2.length ≤ l.length + 1 := by
  unfold openR
  split
  · simp
  · split
    · simp
    · simp
theorem allocR_len (l : List Gr) (id q : Int) : (allocR l id q).2.length ≤ l.length := by
  unfold allocR
  split
  · split
    · simp
    · split
      · simp
      · simp [setG_length]
  · simp
theorem backR_len (l : List Gr) (id q : Int) : (backR l id q).2.length ≤ l.length := by
  unfold backR
  split
  · split
    · simp [setG_length]
    · simp
  · simp

set_option maxHeartbeats 16000000 in
set_option maxRecDepth 100000 in
theorem walk_BlockGroups (a0 : Option Addr) (n0 c0 : Nat) (a1 : Array Value) (a2 : Int) (a3 : Int) (w : World) (w0 : Rd w (.sl (.cat (.int .i64) (.cat (.cat (.int .i64) (.cat (.int .i64) .nil)) (.cat (.int .i64) (.cat (.int .i64) (.cat (.int .i64) .nil)))))) [.slice a0 n0 c0]) (w1 : Rd w (.cat (.int .i64) (.cat (.cat (.int .i64) (.cat (.int .i64) .nil)) (.cat (.int .i64) (.cat (.int .i64) (.cat (.int .i64) .nil))))) a1.toList) (w2 : (Lit.int .i64 a2).wf = true) (w3 : (Lit.int .i64 a3).wf = true) :
    Calls Try.prog 11 #[.slice a0 n0 c0, .agg a1, .int .i64 a2, .int .i64 a3] w fun e w' => e = .returned (.bool true) ∧ Below w.heap.size w w' := by
  obtain ⟨l, rfl, _, _, hsl⟩ := rd_rows (f := Gr.cells) (fun r => rd_grow) w0
  obtain ⟨v, hv⟩ := rd_gr w1
  have hq := bd_i64 w3
  rw [hv]
  clear hv w0 w1 w2 w3
  have hB := since_alloc (Below.refl _ w) (.cells v.cells.toArray 102)
  have hV := Gr.Bx.new w v
  have hs := hsl.alloc (.cells v.cells.toArray 102)
  clear hsl
  unfold Gr.val
  go_enter Try.func11, Try.ntmps11
  go_upto_region 1 with fail
  unfold Gr.cells at hB hV hs
  generalize hWW : w.alloc (.cells #[.int .i64 v.id, .int .i64 v.ac, .int .i64 v.cl, .int .i64 v.ins, .int .i64 v.pr, .int .i64 v.left] 102) = W at *
  clear hWW
  obtain ⟨hV_0, hV_1, hV_2, hV_3, hV_4, hV_5⟩ := hV.got
  have hV_l := hV.lt
  go_wp2_with fail
  refine (rgtable_any a0 c0 l _ hs).mono ?_
  rintro e z1 ⟨⟨R, AT, cT, rfl, ownT, hok, hR70⟩, hb⟩
  have hB := since_step hB hb
  have hV := hV.below hb
  have hs := hs.below hb
  clear hb
  clear hV_0 hV_1 hV_2 hV_3 hV_4 hV_5 hV_l
  have hT := Sl.of_own ownT
  clear ownT
  have h64 := hok.in64
  have hRl : R.length ≤ 900000 := by omega
  have l1 : (openR R v).2.2.length ≤ 1000000 := Nat.le_trans (openR_len R v) (by omega)
  have l2 : (allocR R a2 a3).2.length ≤ 1000000 := Nat.le_trans (allocR_len R a2 a3) (by omega)
  have l3 : (backR R a2 a3).2.length ≤ 1000000 := Nat.le_trans (backR_len R a2 a3) (by omega)
  have HO1 := Lib.hid (fun W h => gopen_any AT cT R v W hRl h)
  have HO2 := Lib.hid (fun W h => rgopen_any AT cT R v W hRl h)
  have HA1 := Lib.hid (fun W h => galloc_any AT cT R a2 a3 hq W hRl h64 h)
  have HA2 := Lib.hid (fun W h => rgalloc_any AT cT R a2 a3 hq W hRl h64 h)
  have HB1 := Lib.hid (fun W h => gback_any AT cT R a2 a3 hq W hRl h64 h)
  have HB2 := Lib.hid (fun W h => rgback_any AT cT R a2 a3 hq W hRl h64 h)
  have HF1 := Lib.hid (fun W h => gfind_any AT cT R a2 W (by omega) h)
  have HF2 := Lib.hid (fun W h => rgfind_any AT cT R a2 W (by omega) h)
  obtain ⟨pv, hpv⟩ : ∃ y, findG R a2 = y := ⟨_, rfl⟩
  obtain ⟨pq, hpq⟩ : ∃ y, hasG R a2 = y := ⟨_, rfl⟩
  rw [hpv, hpq] at HF1 HF2
  clear hpv hpq hok h64
  obtain ⟨ro, hro⟩ : ∃ y, openR R v = y := ⟨_, rfl⟩
  rw [hro] at HO1 HO2 l1
  obtain ⟨o1, o2, o3⟩ := ro
  obtain ⟨ra, hra⟩ : ∃ y, allocR R a2 a3 = y := ⟨_, rfl⟩
  rw [hra] at HA1 HA2 l2
  obtain ⟨p1, p2⟩ := ra
  obtain ⟨rb, hrb⟩ : ∃ y, backR R a2 a3 = y := ⟨_, rfl⟩
  rw [hrb] at HB1 HB2 l3
  obtain ⟨s1, s2⟩ := rb
  clear hro hra hrb
  unfold Gr.val at HO1 HO2 HF1 HF2
  simp only at l1 l2 l3
  clear hs
  obtain ⟨hV_0, hV_1, hV_2, hV_3, hV_4, hV_5⟩ := hV.got
  have hV_l := hV.lt
  go_wp2_with fail
  refine (HO1.out _ hT).mono ?_
  rintro e z2 ⟨⟨X1, c1, rfl, hown⟩, hb⟩
  have hB := since_step hB hb
  have hV := hV.below hb
  have hT := hT.below hb
  clear hb
  clear hV_0 hV_1 hV_2 hV_3 hV_4 hV_5 hV_l
  have hX1 := Sl.of_own hown
  clear hown
  obtain ⟨hV_0, hV_1, hV_2, hV_3, hV_4, hV_5⟩ := hV.got
  have hV_l := hV.lt
  go_wp2_with fail
  refine (HO2.out _ hT).mono ?_
  rintro e z3 ⟨⟨X2, c2, rfl, hown⟩, hb⟩
  have hB := since_step hB hb
  have hV := hV.below hb
  have hT := hT.below hb
  have hX1 := hX1.below hb
  clear hb
  clear hV_0 hV_1 hV_2 hV_3 hV_4 hV_5 hV_l
  have hX2 := Sl.of_own hown
  clear hown
  clear hV
  go_wp2_with fail
  refine (HA1.out _ hT).mono ?_
  rintro e z4 ⟨⟨X3, c3, rfl, hown⟩, hb⟩
  have hB := since_step hB hb
  have hT := hT.below hb
  have hX1 := hX1.below hb
  have hX2 := hX2.below hb
  clear hb
  have hX3 := Sl.of_own hown
  clear hown
  go_wp2_with fail
  refine (HA2.out _ hT).mono ?_
  rintro e z5 ⟨⟨X4, c4, rfl, hown⟩, hb⟩
  have hB := since_step hB hb
  have hT := hT.below hb
  have hX1 := hX1.below hb
  have hX2 := hX2.below hb
  have hX3 := hX3.below hb
  clear hb
  have hX4 := Sl.of_own hown
  clear hown
  go_wp2_with fail
  refine (HB1.out _ hT).mono ?_
  rintro e z6 ⟨⟨X5, c5, rfl, hown⟩, hb⟩
  have hB := since_step hB hb
  have hT := hT.below hb
  have hX1 := hX1.below hb
  have hX2 := hX2.below hb
  have hX3 := hX3.below hb
  have hX4 := hX4.below hb
  clear hb
  have hX5 := Sl.of_own hown
  clear hown
  go_wp2_with fail
  refine (HB2.out _ hT).mono ?_
  rintro e z7 ⟨⟨X6, c6, rfl, hown⟩, hb⟩
  have hB := since_step hB hb
  have hT := hT.below hb
  have hX1 := hX1.below hb
  have hX2 := hX2.below hb
  have hX3 := hX3.below hb
  have hX4 := hX4.below hb
  have hX5 := hX5.below hb
  clear hb
  have hX6 := Sl.of_own hown
  clear hown
  go_wp2_with fail
  refine (HF1.out _ hT).mono ?_
  rintro e z8 ⟨rfl, hb⟩
  have hB := since_step hB hb
  have hT := hT.below hb
  have hX1 := hX1.below hb
  have hX2 := hX2.below hb
  have hX3 := hX3.below hb
  have hX4 := hX4.below hb
  have hX5 := hX5.below hb
  have hX6 := hX6.below hb
  clear hb
  go_wp2_with fail
  have hP1 := Gr.Bx.new z8 pv
  have hA := (Below.refl z8.heap.size z8).alloc (Nat.le_refl _) (.cells pv.cells.toArray 102)
  have hT := hT.below hA
  have hX1 := hX1.below hA
  have hX2 := hX2.below hA
  have hX3 := hX3.below hA
  have hX4 := hX4.below hA
  have hX5 := hX5.below hA
  have hX6 := hX6.below hA
  have hB := since_step hB hA
  clear hA
  refine (HF2.out _ hT).mono ?_
  rintro e z9 ⟨rfl, hb⟩
  have hB := since_step hB hb
  have hT := hT.below hb
  have hX1 := hX1.below hb
  have hX2 := hX2.below hb
  have hX3 := hX3.below hb
  have hX4 := hX4.below hb
  have hX5 := hX5.below hb
  have hX6 := hX6.below hb
  have hP1 := hP1.below hb
  clear hb
  clear hT
  obtain ⟨hP1_0, hP1_1, hP1_2, hP1_3, hP1_4, hP1_5⟩ := hP1.got
  have hP1_l := hP1.lt
  go_wp2_with fail
  have hP2 := Gr.Bx.new z9 pv
  have hA := (Below.refl z9.heap.size z9).alloc (Nat.le_refl _) (.cells pv.cells.toArray 102)
  have hX1 := hX1.below hA
  have hX2 := hX2.below hA
  have hX3 := hX3.below hA
  have hX4 := hX4.below hA
  have hX5 := hX5.below hA
  have hX6 := hX6.below hA
  have hP1 := hP1.below hA
  have hB := since_step hB hA
  clear hA
  refine (gsame_any_self X1 X2 c1 c2 _ _ l1 hX1 hX2).mono ?_
  rintro e z10 ⟨rfl, hb⟩
  have hB := since_step hB hb
  have hX1 := hX1.below hb
  have hX2 := hX2.below hb
  have hX3 := hX3.below hb
  have hX4 := hX4.below hb
  have hX5 := hX5.below hb
  have hX6 := hX6.below hb
  have hP1 := hP1.below hb
  have hP2 := hP2.below hb
  clear hb
  clear hP1_0 hP1_1 hP1_2 hP1_3 hP1_4 hP1_5 hP1_l
  obtain ⟨hP1_0, hP1_1, hP1_2, hP1_3, hP1_4, hP1_5⟩ := hP1.got
  have hP1_l := hP1.lt
  obtain ⟨hP2_0, hP2_1, hP2_2, hP2_3, hP2_4, hP2_5⟩ := hP2.got
  have hP2_l := hP2.lt
  go_wp2_with fail
  refine (gsame_any_self X3 X4 c3 c4 _ _ l2 hX3 hX4).mono ?_
  rintro e z11 ⟨rfl, hb⟩
  have hB := since_step hB hb
  have hX1 := hX1.below hb
  have hX2 := hX2.below hb
  have hX3 := hX3.below hb
  have hX4 := hX4.below hb
  have hX5 := hX5.below hb
  have hX6 := hX6.below hb
  have hP1 := hP1.below hb
  have hP2 := hP2.below hb
  clear hb
  clear hP1_0 hP1_1 hP1_2 hP1_3 hP1_4 hP1_5 hP1_l hP2_0 hP2_1 hP2_2 hP2_3 hP2_4 hP2_5 hP2_l
  obtain ⟨hP1_0, hP1_1, hP1_2, hP1_3, hP1_4, hP1_5⟩ := hP1.got
  have hP1_l := hP1.lt
  obtain ⟨hP2_0, hP2_1, hP2_2, hP2_3, hP2_4, hP2_5⟩ := hP2.got
  have hP2_l := hP2.lt
  go_wp2_with fail
  refine (gsame_any_self X5 X6 c5 c6 _ _ l3 hX5 hX6).mono ?_
  rintro e z12 ⟨rfl, hb⟩
  have hB := since_step hB hb
  have hX1 := hX1.below hb
  have hX2 := hX2.below hb
  have hX3 := hX3.below hb
  have hX4 := hX4.below hb
  have hX5 := hX5.below hb
  have hX6 := hX6.below hb
  have hP1 := hP1.below hb
  have hP2 := hP2.below hb
  clear hb
  clear hP1_0 hP1_1 hP1_2 hP1_3 hP1_4 hP1_5 hP1_l hP2_0 hP2_1 hP2_2 hP2_3 hP2_4 hP2_5 hP2_l
  obtain ⟨hP1_0, hP1_1, hP1_2, hP1_3, hP1_4, hP1_5⟩ := hP1.got
  have hP1_l := hP1.lt
  obtain ⟨hP2_0, hP2_1, hP2_2, hP2_3, hP2_4, hP2_5⟩ := hP2.got
  have hP2_l := hP2.lt
  go_wp2_with fail
  refine (lives22_any _).mono ?_
  rintro e z13 ⟨rfl, hb⟩
  have hB := since_step hB hb
  have hX1 := hX1.below hb
  have hX2 := hX2.below hb
  have hX3 := hX3.below hb
  have hX4 := hX4.below hb
  have hX5 := hX5.below hb
  have hX6 := hX6.below hb
  have hP1 := hP1.below hb
  have hP2 := hP2.below hb
  clear hb
  clear hP1_0 hP1_1 hP1_2 hP1_3 hP1_4 hP1_5 hP1_l hP2_0 hP2_1 hP2_2 hP2_3 hP2_4 hP2_5 hP2_l
  obtain ⟨hP1_0, hP1_1, hP1_2, hP1_3, hP1_4, hP1_5⟩ := hP1.got
  have hP1_l := hP1.lt
  obtain ⟨hP2_0, hP2_1, hP2_2, hP2_3, hP2_4, hP2_5⟩ := hP2.got
  have hP2_l := hP2.lt
  go_wp2_with fail
  go_ret
  exact ⟨rfl, hB⟩
end Go.Proofs.Ytpnaihnmmnjacaa
