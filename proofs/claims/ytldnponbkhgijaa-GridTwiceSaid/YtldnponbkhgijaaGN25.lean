import Derived.Test.YtldnponbkhgijaaGN11
import Derived.Test.YtldnponbkhgijaaGN15
import Derived.Test.YtldnponbkhgijaaGN18
import Derived.Test.YtldnponbkhgijaaGN24
section
namespace Go.Proofs.Ytldnponbkhgijaa
open Go.ChangeShapes Go.WideShapes Go.ChangeAt Go.RowKit
set_option linter.unusedVariables false
set_option linter.unusedSimpArgs false

def liveI : List Ins := [⟨1, 10, 0, 0, [2, -3]⟩]
theorem live24a : marginR liveI [⟨1, 4⟩] = (120, 0) := by
  have e : worstR liveI [⟨1, 4⟩] = (120, 1, 0) := by decide
  unfold marginR
  rw [e]
  decide
theorem live24b : marginR liveI [⟨1, -4⟩] = (80, 0) := by
  have e : worstR liveI [⟨1, -4⟩] = (80, 0, 0) := by decide
  unfold marginR
  rw [e]
  decide
theorem live24c : worstR liveI [⟨1, 4⟩] = (120, 1, 0) := by decide
set_option maxHeartbeats 4000000 in
set_option maxRecDepth 100000 in
theorem lives24_any (w : World) : Calls Try.prog 50 #[] w fun e w' => e = .returned (.bool true) ∧ Below w.heap.size w w' := by
  have hB0 := since_alloc (since_alloc (Below.refl _ w) (.cells #[.int .i64 2, .int .i64 (-3)] 2)) (.cells #[.int .i64 1, .int .i64 10, .int .i64 0, .int .i64 0, .slice (some ⟨w.heap.size, 0, none⟩) 2 2] 153)
  have s0 := (Sl.new_ w (ints .i64 [2, -3]) 2).alloc (.cells #[.int .i64 1, .int .i64 10, .int .i64 0, .int .i64 0, .slice (some ⟨w.heap.size, 0, none⟩) 2 2] 153)
  have r0 : Sl ((w.alloc (.cells #[.int .i64 2, .int .i64 (-3)] 2)).alloc (.cells #[.int .i64 1, .int .i64 10, .int .i64 0, .int .i64 0, .slice (some ⟨w.heap.size, 0, none⟩) 2 2] 153)) (some ⟨w.heap.size + 1, 0, none⟩) (rc Iq.cells [⟨1, 10, 0, 0, some ⟨w.heap.size, 0, none⟩, 2, 2⟩]) := Sl.new1 w (.cells #[.int .i64 2, .int .i64 (-3)] 2) (rc Iq.cells [⟨1, 10, 0, 0, some ⟨w.heap.size, 0, none⟩, 2, 2⟩]) 153
  have t0 : InTab ((w.alloc (.cells #[.int .i64 2, .int .i64 (-3)] 2)).alloc (.cells #[.int .i64 1, .int .i64 10, .int .i64 0, .int .i64 0, .slice (some ⟨w.heap.size, 0, none⟩) 2 2] 153)) [⟨1, 10, 0, 0, some ⟨w.heap.size, 0, none⟩, 2, 2⟩] liveI :=
    InTab.cons ⟨rfl, rfl, rfl, rfl, rfl, ⟨⟨Nat.le_refl _, by show 2 ≤ maxLen; decide⟩, s0, (fun x hx => by rcases List.mem_cons.1 hx with rfl | hx; (unfold In64; omega); (rw [List.mem_singleton.1 hx]; unfold In64; omega)), by show In64 1 ∧ In64 10 ∧ In64 0 ∧ In64 0; unfold In64; omega⟩⟩ (InTab.nil _)
  have HT := Lib.hid (And.intro r0 t0)
  have hq : ∀ q : Int, In64 q → ∀ y ∈ [(⟨1, q⟩ : Lg)], In64 y.qty := fun q h y hy => by rw [List.mem_singleton.1 hy]; exact h
  have hcl : ∀ i ∈ liveI, i.mv.length ≤ 900000 := by intro i hi; rw [List.mem_singleton.1 hi]; decide
  have HM1 := Lib.hid (fun LA V h1 h2 h3 => gmargin_any (some ⟨w.heap.size + 1, 0, none⟩) 1 [⟨1, 10, 0, 0, some ⟨w.heap.size, 0, none⟩, 2, 2⟩] liveI LA 1 [⟨1, 4⟩] V (by simp) hcl (by simp) (hq 4 (by unfold In64; omega)) h1 h2 h3)
  have HM2 := Lib.hid (fun LA V h1 h2 h3 => gmargin_any (some ⟨w.heap.size + 1, 0, none⟩) 1 [⟨1, 10, 0, 0, some ⟨w.heap.size, 0, none⟩, 2, 2⟩] liveI LA 1 [⟨1, -4⟩] V (by simp) hcl (by simp) (hq (-4) (by unfold In64; omega)) h1 h2 h3)
  have HM3 := Lib.hid (fun LA V h1 h2 h3 => gworst2_any (some ⟨w.heap.size + 1, 0, none⟩) 1 [⟨1, 10, 0, 0, some ⟨w.heap.size, 0, none⟩, 2, 2⟩] liveI LA 1 [⟨1, 4⟩] V (by simp) hcl (by simp) (hq 4 (by unfold In64; omega)) h1 h2 h3)
  rw [live24a] at HM1
  rw [live24b] at HM2
  rw [live24c] at HM3
  simp only [List.length_cons, List.length_nil] at HM1 HM2 HM3
  clear s0 r0 t0 hq hcl
  go_enter Try.func50, Try.ntmps50
  go_upto_region 2 with fail
  generalize hYY : (w.alloc (.cells #[.int .i64 2, .int .i64 (-3)] 2)).alloc (.cells #[.int .i64 1, .int .i64 10, .int .i64 0, .int .i64 0, .slice (some ⟨w.heap.size, 0, none⟩) 2 2] 153) = Y at *
  clear hYY
  go_wp2_with fail
  refine (HM1.out _ _ (HT.out.1.alloc _) (HT.out.2.below ((Below.refl _ _).alloc (Nat.le_refl _) _)) (Sl.new_ Y (rc Lg.cells [⟨1, 4⟩]) 138)).mono ?_
  rintro e w1 ⟨rfl, hb⟩
  have hb := since_step (since_alloc (Below.refl _ Y) (.cells #[.int .i64 1, .int .i64 4] 138)) hb
  have hB1 := since_step hB0 hb
  have HT := Lib.hid (And.intro (HT.out.1.below hb) (HT.out.2.below hb))
  clear hb
  go_wp2_with fail
  refine (HM2.out _ _ (HT.out.1.alloc _) (HT.out.2.below ((Below.refl _ _).alloc (Nat.le_refl _) _)) (Sl.new_ w1 (rc Lg.cells [⟨1, -4⟩]) 138)).mono ?_
  rintro e w2 ⟨rfl, hb⟩
  have hb := since_step (since_alloc (Below.refl _ w1) (.cells #[.int .i64 1, .int .i64 (-4)] 138)) hb
  have hB2 := since_step hB1 hb
  have HT := Lib.hid (And.intro (HT.out.1.below hb) (HT.out.2.below hb))
  clear hb
  go_wp2_with fail
  refine (HM3.out _ _ (HT.out.1.alloc _) (HT.out.2.below ((Below.refl _ _).alloc (Nat.le_refl _) _)) (Sl.new_ w2 (rc Lg.cells [⟨1, 4⟩]) 138)).mono ?_
  rintro e w3 ⟨rfl, hb⟩
  have hb := since_step (since_alloc (Below.refl _ w2) (.cells #[.int .i64 1, .int .i64 4] 138)) hb
  have hB3 := since_step hB2 hb
  go_wp2_with fail
  go_ret
  exact ⟨rfl, hB3⟩
theorem rd_legs24 {w : World} {A : Option Addr} {n c : Nat} (h : Rd w (.sl (.cat (.int .i64) (.cat (.int .i64) .nil))) [.slice A n c]) : ∃ M : List Lg, M.length ≤ 12 ∧ (∀ y ∈ M, In64 y.qty) ∧ Sl w A (rc Lg.cells M) ∧ Hid (∀ V, Below w.heap.size w V → Calls Try.prog 29 #[.slice A n c] V fun e w' => e = .returned (.slice A M.length c) ∧ Below V.heap.size V w') := by
  have hf : ∀ r, Rd w (.cat (.int .i64) (.cat (.int .i64) .nil)) r → ∃ g : Lg, r = g.cells ∧ In64 g.qty := fun r h => by
    obtain ⟨p, q, rfl, ⟨a, rfl, _⟩, ⟨p2, q2, rfl, ⟨b, rfl, hb⟩, rfl⟩⟩ := h
    exact ⟨⟨a, b⟩, rfl, bd_i64 hb⟩
  obtain ⟨l, rfl, hlc, hcm, hs, hq⟩ := rd_rowsP (f := Lg.cells) hf h
  exact ⟨l.take 12, by simp; omega, fun y hy => hq y (List.mem_of_mem_take hy), by rw [← rc_take Lg.len]; exact hs.take _, Lib.hid fun V hV => few11_any A c l V hlc hcm (hs.below hV)⟩
set_option maxHeartbeats 16000000 in
set_option maxRecDepth 100000 in
theorem walk_GridNets (a0 : Option Addr) (n0 c0 : Nat) (a1 : Option Addr) (n1 c1 : Nat) (a2 : Option Addr) (n2 c2 : Nat) (w : World) (w0 : Rd w (.sl (.cat (.int .i64) (.cat (.int .i64) (.cat (.int .i64) (.cat (.int .i64) (.cat (.sl (.int .i64)) .nil)))))) [.slice a0 n0 c0]) (w1 : Rd w (.sl (.cat (.int .i64) (.cat (.int .i64) .nil))) [.slice a1 n1 c1]) (w2 : Rd w (.sl (.cat (.int .i64) (.cat (.int .i64) .nil))) [.slice a2 n2 c2]) :
    Calls Try.prog 9 #[.slice a0 n0 c0, .slice a1 n1 c1, .slice a2 n2 c2] w fun e w' => e = .returned (.bool true) ∧ Below w.heap.size w w' := by
  obtain ⟨l, rfl, _, _, hs, hd⟩ := rd_rowsP (f := Iq.cells) (fun r => rd_insrow) w0
  obtain ⟨M1, hM1, hq1, hs1, HF1⟩ := rd_legs24 w1
  obtain ⟨M2, hM2, hq2, hs2, HF2⟩ := rd_legs24 w2
  clear w0 w1 w2
  have HI := Lib.hid (insts_any a0 c0 l w hs hd)
  have HLV := Lib.hid (fun V => lives24_any V)
  have HAD := Lib.hid (fun A V h h1 h2 => radd_2 M1 M2 (by omega) (by omega) hq1 hq2 A a1 a2 c1 c2 V h h1 h2)
  obtain ⟨en, B, hE⟩ : ∃ n B, addL [M1, M2] = (n, B) := ⟨_, _, rfl⟩
  rw [hE] at HAD
  unfold GRes at HAD
  simp only at HAD
  have HB0 := Below.refl w.heap.size w
  clear hs hd
  go_enter Try.func9, Try.ntmps9
  go_wp2_with fail
  refine HI.out.mono ?_
  rintro e z1 ⟨⟨R, is, A, c, rfl, hs, ht, hR, h9⟩, hb⟩
  have hB := hb
  have HF1 := Lib.hid (HF1.out _ hb)
  have hs1 := hs1.below hb
  have hs2 := hs2.below hb
  have hR9 : R.length ≤ 900000 := by omega
  have hcl9 : ∀ i ∈ is, i.mv.length ≤ 900000 := fun i hi => Nat.le_trans (h9 i hi) (by omega)
  have HT := Lib.hid (And.intro hs ht)
  clear hs ht h9 HI
  go_wp2_with fail
  refine HF1.out.mono ?_
  rintro e z2 ⟨rfl, hb⟩
  have hB := since_step hB hb
  have HF2 := Lib.hid (HF2.out _ hB)
  have hs1 := hs1.below hb
  have hs2 := hs2.below hb
  have HT := Lib.hid (And.intro (HT.out.1.below hb) (HT.out.2.below hb))
  clear hb HF1
  go_wp2_with fail
  refine HF2.out.mono ?_
  rintro e z3 ⟨rfl, hb⟩
  have hB := since_step hB hb
  have hs1 := hs1.below hb
  have hs2 := hs2.below hb
  have HT := Lib.hid (And.intro (HT.out.1.below hb) (HT.out.2.below hb))
  clear hb HF2
  have HG1 := Lib.hid (fun V h1 h2 h3 => gmargin_any A c R is a1 c1 M1 V hR9 hcl9 (by omega) hq1 h1 h2 h3)
  have HG2 := Lib.hid (fun V h1 h2 h3 => gmargin_any A c R is a2 c2 M2 V hR9 hcl9 (by omega) hq2 h1 h2 h3)
  have HNN := Lib.hid (And.intro (margin_nn is M1) (margin_nn is M2))
  have HIN := Lib.hid (And.intro (margin_in is M1) (margin_in is M2))
  have HNE := Lib.hid (fun (h : en = 0) (ha : (marginR is M1).2 = 0) (hb : (marginR is M2).2 = 0) => nets (is := is) (a := M1) (b := M2) (B := B) (by rw [hE, h]) ha hb)
  have HBF := Lib.hid (fun (h : en = 0) => two_facts (a := M1) (b := M2) (B := B) (by rw [hE, h]))
  clear hE
  generalize marginR is M1 = p1 at *
  generalize marginR is M2 = p2 at *
  obtain ⟨n, f⟩ := p1
  obtain ⟨m, g⟩ := p2
  simp only at HG1 HG2 HNN HIN HNE
  go_wp2_with fail
  refine (HAD.out _ _ (Sl.new_ z3 (rc RowS.cells [(⟨a1, c1, M1⟩ : RowS Lg), ⟨a2, c2, M2⟩]) 51) (hs1.alloc _) (hs2.alloc _)).mono ?_
  rintro e z4 ⟨⟨A4, c4, rfl, o4⟩, hb⟩
  have hA := since_step (since_alloc (Below.refl _ z3) (.cells #[.slice a1 M1.length c1, .slice a2 M2.length c2] 51)) hb
  have hB := since_step hB hA
  have hs1 := hs1.below hA
  have hs2 := hs2.below hA
  have HT := Lib.hid (And.intro (HT.out.1.below hA) (HT.out.2.below hA))
  have s4 := Sl.of_own o4
  clear hb hA o4
  go_wp2_with fail
  refine (HG1.out _ HT.out.1 HT.out.2 hs1).mono ?_
  rintro e z5 ⟨rfl, hb⟩
  have hB := since_step hB hb
  have hs2 := hs2.below hb
  have s4 := s4.below hb
  have HT := Lib.hid (And.intro (HT.out.1.below hb) (HT.out.2.below hb))
  clear hb
  go_wp2_with fail
  refine (HG2.out _ HT.out.1 HT.out.2 hs2).mono ?_
  rintro e z6 ⟨rfl, hb⟩
  have hB := since_step hB hb
  have s4 := s4.below hb
  have HT := Lib.hid (And.intro (HT.out.1.below hb) (HT.out.2.below hb))
  clear hb hs1 hs2
  have hn0 : ¬ n < 0 := by have := HNN.out.1; omega
  have hm0 : ¬ m < 0 := by have := HNN.out.2; omega
  by_cases he : en = 0
  rotate_left
  · have heb : (en != 0) = true := by simpa using he
    have heb2 : (en == 0) = false := by simpa using he
    clear he
    go_wp2_with fail
    refine (HLV.out _).mono ?_
    rintro e z7 ⟨rfl, hb⟩
    have hB := since_step hB hb
    go_wp2_with fail
    go_ret
    exact ⟨rfl, hB⟩
  by_cases hf : f = 0
  rotate_left
  · subst he
    have heb : (f != 0) = true := by simpa using hf
    have heb2 : (f == 0) = false := by simpa using hf
    clear hf
    go_wp2_with fail
    refine (HLV.out _).mono ?_
    rintro e z7 ⟨rfl, hb⟩
    have hB := since_step hB hb
    go_wp2_with fail
    go_ret
    exact ⟨rfl, hB⟩
  by_cases hg : g = 0
  rotate_left
  · subst he
    subst hf
    have heb : (g != 0) = true := by simpa using hg
    have heb2 : (g == 0) = false := by simpa using hg
    clear hg
    go_wp2_with fail
    refine (HLV.out _).mono ?_
    rintro e z7 ⟨rfl, hb⟩
    have hB := since_step hB hb
    go_wp2_with fail
    go_ret
    exact ⟨rfl, hB⟩
  subst he
  subst hf
  subst hg
  obtain ⟨_, _, hBi, hB6, hBe⟩ := HBF.out rfl
  have hBl : B.length ≤ 8 := by rw [hBe]; exact Nat.le_trans (legsF_len _ _) (by simp)
  have HG3 := Lib.hid (fun V h1 h2 h3 => gmargin_any A c R is A4 c4 B V hR9 hcl9 (by omega) hB6 h1 h2 h3)
  have hne := HNE.out rfl rfl rfl
  have hBin := margin_in is B
  generalize marginR is B = pB at *
  obtain ⟨x, h⟩ := pB
  simp only at HG3 hne hBin
  have HON := Lib.hid (fun V => bof_any n V HIN.out.1)
  have HOM := Lib.hid (fun V => bof_any m V HIN.out.2)
  have HOX := Lib.hid (fun V => bof_any x V hBin)
  have HOL := Lib.hid (fun V => bof_any 9223372036854775807 V (by omega))
  have HN128 : Hid (In128 n ∧ In128 m ∧ In128 x ∧ In128 (n + m) ∧ In128 9223372036854775807) := Lib.hid (by have h1 := HIN.out.1; have h2 := HIN.out.2; unfold In64 at h1 h2 hBin; unfold In128; omega)
  clear HBF HNE HNN HIN hBi hB6 hBe hBl hBin HF1 HF2
  rcases hne with ⟨rfl, hgt⟩ | ⟨rfl, hle⟩
  · have hc : cmpZ (n + m) 9223372036854775807 = 1 := by unfold cmpZ; rw [if_neg (by omega), if_neg (by omega)]
    have HC := Lib.hid hc
    clear hc hgt
    go_wp2_with fail
    refine (HG3.out _ HT.out.1 HT.out.2 s4).mono ?_
    rintro e z7 ⟨rfl, hb⟩
    have hB := since_step hB hb
    clear hb s4
    go_wp2_with fail
    refine (HON.out _).mono ?_
    rintro e z8 ⟨⟨q1, Q1, k1, d1, rfl, f1, Y1⟩, hb⟩
    have hB := since_step hB hb
    have L1 := Y1.l128 HN128.out.1
    clear hb
    go_wp2_with fail
    refine (HOM.out _).mono ?_
    rintro e z9 ⟨⟨q2, Q2, k2, d2, rfl, f2, Y2⟩, hb⟩
    have hB := since_step hB hb
    have L2 := Y2.l128 HN128.out.2.1
    have Y1 := Y1.below hb
    clear hb
    go_wp2_with fail
    refine (badd' (by omega) (by omega) Y1 Y2).mono ?_
    rintro e x1 ⟨⟨q3, Q3, k3, d3, rfl, f3, Y3⟩, hb⟩
    have hB := since_step hB hb
    have L3 := Y3.l128 HN128.out.2.2.2.1
    clear hb Y1 Y2
    go_wp2_with fail
    refine (HOL.out _).mono ?_
    rintro e x2 ⟨⟨q4, Q4, k4, d4, rfl, f4, Y4⟩, hb⟩
    have hB := since_step hB hb
    have L4 := Y4.l128 HN128.out.2.2.2.2
    have Y3 := Y3.below hb
    clear hb
    go_wp2_with fail
    refine (bcmp_any _ _ _ _ _ _ _ _ _ _ _ (by omega) (by omega) Y3 Y4).mono ?_
    rw [HC.out]
    rintro e x3 ⟨rfl, hb⟩
    have hB := since_step hB hb
    clear hb Y3 Y4
    go_wp2_with fail
    refine (HLV.out _).mono ?_
    rintro e x4 ⟨rfl, hb⟩
    have hB := since_step hB hb
    go_wp2_with fail
    go_ret
    exact ⟨rfl, hB⟩
  · have hc : ∃ z, cmpZ x (n + m) = z ∧ z ≤ 0 := by
      unfold cmpZ
      split
      · exact ⟨_, rfl, by omega⟩
      · rw [if_pos (by omega)]; exact ⟨_, rfl, by omega⟩
    obtain ⟨z, hz, hz0⟩ := hc
    have HC := Lib.hid hz
    clear hz hle
    go_wp2_with fail
    refine (HG3.out _ HT.out.1 HT.out.2 s4).mono ?_
    rintro e z7 ⟨rfl, hb⟩
    have hB := since_step hB hb
    clear hb s4
    go_wp2_with fail
    refine (HOX.out _).mono ?_
    rintro e x2 ⟨⟨q4, Q4, k4, d4, rfl, f4, Y4⟩, hb⟩
    have hB := since_step hB hb
    have L4 := Y4.l128 HN128.out.2.2.1
    clear hb
    go_wp2_with fail
    refine (HON.out _).mono ?_
    rintro e z8 ⟨⟨q1, Q1, k1, d1, rfl, f1, Y1⟩, hb⟩
    have hB := since_step hB hb
    have L1 := Y1.l128 HN128.out.1
    have Y4 := Y4.below hb
    clear hb
    go_wp2_with fail
    refine (HOM.out _).mono ?_
    rintro e z9 ⟨⟨q2, Q2, k2, d2, rfl, f2, Y2⟩, hb⟩
    have hB := since_step hB hb
    have L2 := Y2.l128 HN128.out.2.1
    have Y1 := Y1.below hb
    have Y4 := Y4.below hb
    clear hb
    go_wp2_with fail
    refine (badd' (by omega) (by omega) Y1 Y2).mono ?_
    rintro e x1 ⟨⟨q3, Q3, k3, d3, rfl, f3, Y3⟩, hb⟩
    have hB := since_step hB hb
    have L3 := Y3.l128 HN128.out.2.2.2.1
    have Y4 := Y4.below hb
    clear hb Y1 Y2
    go_wp2_with fail
    refine (bcmp_any _ _ _ _ _ _ _ _ _ _ _ (by omega) (by omega) Y4 Y3).mono ?_
    rw [HC.out]
    rintro e x3 ⟨rfl, hb⟩
    have hB := since_step hB hb
    clear hb Y3 Y4
    go_wp2_with fail
    refine (HLV.out _).mono ?_
    rintro e x4 ⟨rfl, hb⟩
    have hB := since_step hB hb
    go_wp2_with fail
    go_ret
    exact ⟨rfl, hB⟩
set_option maxHeartbeats 16000000 in
set_option maxRecDepth 100000 in
theorem walk_GridTwice (a0 : Option Addr) (n0 c0 : Nat) (a1 : Option Addr) (n1 c1 : Nat) (w : World) (w0 : Rd w (.sl (.cat (.int .i64) (.cat (.int .i64) (.cat (.int .i64) (.cat (.int .i64) (.cat (.sl (.int .i64)) .nil)))))) [.slice a0 n0 c0]) (w1 : Rd w (.sl (.cat (.int .i64) (.cat (.int .i64) .nil))) [.slice a1 n1 c1]) :
    Calls Try.prog 10 #[.slice a0 n0 c0, .slice a1 n1 c1] w fun e w' => e = .returned (.bool true) ∧ Below w.heap.size w w' := by
  obtain ⟨l, rfl, _, _, hs, hd⟩ := rd_rowsP (f := Iq.cells) (fun r => rd_insrow) w0
  obtain ⟨M1, hM1, hq1, hs1, HF1⟩ := rd_legs24 w1
  clear w0 w1
  have HI := Lib.hid (insts_any a0 c0 l w hs hd)
  have HLV := Lib.hid (fun V => lives24_any V)
  have HAD := Lib.hid (fun A V h h1 h2 => radd_2 M1 M1 (by omega) (by omega) hq1 hq1 A a1 a1 c1 c1 V h h1 h2)
  obtain ⟨en, B, hE⟩ : ∃ n B, addL [M1, M1] = (n, B) := ⟨_, _, rfl⟩
  rw [hE] at HAD
  unfold GRes at HAD
  simp only at HAD
  clear hs hd
  go_enter Try.func10, Try.ntmps10
  go_wp2_with fail
  refine HI.out.mono ?_
  rintro e z1 ⟨⟨R, is, A, c, rfl, hs, ht, hR, h9⟩, hb⟩
  have hB := hb
  have HF1 := Lib.hid (HF1.out _ hb)
  have hs1 := hs1.below hb
  have hR9 : R.length ≤ 900000 := by omega
  have hcl9 : ∀ i ∈ is, i.mv.length ≤ 900000 := fun i hi => Nat.le_trans (h9 i hi) (by omega)
  have HT := Lib.hid (And.intro hs ht)
  clear hs ht h9 HI
  go_wp2_with fail
  refine HF1.out.mono ?_
  rintro e z2 ⟨rfl, hb⟩
  have hB := since_step hB hb
  have hs1 := hs1.below hb
  have HT := Lib.hid (And.intro (HT.out.1.below hb) (HT.out.2.below hb))
  clear hb HF1
  have HG1 := Lib.hid (fun V h1 h2 h3 => gmargin_any A c R is a1 c1 M1 V hR9 hcl9 (by omega) hq1 h1 h2 h3)
  have HIN := Lib.hid (margin_in is M1)
  have HTW := Lib.hid (fun (h : en = 0) (ha : (marginR is M1).2 = 0) => twice (is := is) (a := M1) (B := B) (by rw [hE, h]) ha)
  have HBF := Lib.hid (fun (h : en = 0) => two_facts (a := M1) (b := M1) (B := B) (by rw [hE, h]))
  clear hE
  generalize marginR is M1 = p1 at *
  obtain ⟨n, f⟩ := p1
  simp only at HG1 HIN HTW
  go_wp2_with fail
  refine (HAD.out _ _ (Sl.new_ z2 (rc RowS.cells [(⟨a1, c1, M1⟩ : RowS Lg), ⟨a1, c1, M1⟩]) 51) (hs1.alloc _) (hs1.alloc _)).mono ?_
  rintro e z4 ⟨⟨A4, c4, rfl, o4⟩, hb⟩
  have hA := since_step (since_alloc (Below.refl _ z2) (.cells #[.slice a1 M1.length c1, .slice a1 M1.length c1] 51)) hb
  have hB := since_step hB hA
  have hs1 := hs1.below hA
  have HT := Lib.hid (And.intro (HT.out.1.below hA) (HT.out.2.below hA))
  have s4 := Sl.of_own o4
  clear hb hA o4
  go_wp2_with fail
  refine (HG1.out _ HT.out.1 HT.out.2 hs1).mono ?_
  rintro e z5 ⟨rfl, hb⟩
  have hB := since_step hB hb
  have s4 := s4.below hb
  have HT := Lib.hid (And.intro (HT.out.1.below hb) (HT.out.2.below hb))
  clear hb hs1
  by_cases he : en = 0
  rotate_left
  · have heb : (en != 0) = true := by simpa using he
    have heb2 : (en == 0) = false := by simpa using he
    clear he
    go_wp2_with fail
    refine (HLV.out _).mono ?_
    rintro e z7 ⟨rfl, hb⟩
    have hB := since_step hB hb
    go_wp2_with fail
    go_ret
    exact ⟨rfl, hB⟩
  by_cases hf : f = 0
  rotate_left
  · subst he
    have heb : (f != 0) = true := by simpa using hf
    have heb2 : (f == 0) = false := by simpa using hf
    clear hf
    go_wp2_with fail
    refine (HLV.out _).mono ?_
    rintro e z7 ⟨rfl, hb⟩
    have hB := since_step hB hb
    go_wp2_with fail
    go_ret
    exact ⟨rfl, hB⟩
  subst he
  subst hf
  obtain ⟨_, _, hBi, hB6, hBe⟩ := HBF.out rfl
  have hBl : B.length ≤ 8 := by rw [hBe]; exact Nat.le_trans (legsF_len _ _) (by simp)
  have HG3 := Lib.hid (fun V h1 h2 h3 => gmargin_any A c R is A4 c4 B V hR9 hcl9 (by omega) hB6 h1 h2 h3)
  rw [HTW.out rfl rfl] at HG3
  have HON := Lib.hid (fun V => bof_any n V HIN.out)
  have HN128 : Hid (In128 n ∧ In128 (n + n)) := Lib.hid (by have h1 := HIN.out; unfold In64 at h1; unfold In128; omega)
  clear HBF HTW hBi hB6 hBe hBl HIN
  by_cases h6 : In64 (n + n)
  · have hv : fV (n + n) = n + n := by unfold fV; rw [if_pos h6]
    have hw : fE (n + n) = 0 := by unfold fE; rw [if_pos h6]
    rw [hv, hw] at HG3
    have HFT : Hid (decide (inN (n + n) 63) = true) := Lib.hid (decide_eq_true ((in64_iff _).2 h6))
    have HRI := Lib.hid (fun s A' k d V h => rint_any (n + n) h6 s A' k d V h)
    obtain ⟨y, hy⟩ : ∃ y, n + n = y := ⟨_, rfl⟩
    rw [hy] at HFT HRI HN128 HG3
    have HY := Lib.hid hy
    clear hv hw h6 hy
    go_wp2_with fail
    refine (HG3.out _ HT.out.1 HT.out.2 s4).mono ?_
    rintro e z7 ⟨rfl, hb⟩
    have hB := since_step hB hb
    clear hb s4
    go_wp2_with fail
    refine (HON.out _).mono ?_
    rintro e z8 ⟨⟨q1, Q1, k1, d1, rfl, f1, Y1⟩, hb⟩
    have hB := since_step hB hb
    have L1 := Y1.l128 HN128.out.1
    clear hb
    go_wp2_with fail
    refine (HON.out _).mono ?_
    rintro e z9 ⟨⟨q2, Q2, k2, d2, rfl, f2, Y2⟩, hb⟩
    have hB := since_step hB hb
    have L2 := Y2.l128 HN128.out.1
    have Y1 := Y1.below hb
    clear hb
    go_wp2_with fail
    refine (badd' (by omega) (by omega) Y1 Y2).mono ?_
    rw [HY.out]
    rintro e x1 ⟨⟨q3, Q3, k3, d3, rfl, f3, Y3⟩, hb⟩
    have hB := since_alloc (since_step hB hb) (.cells #[.bool q3, .slice Q3 k3 d3] 35)
    have L3 := Y3.l128 HN128.out.2
    have Y3 := Y3.alloc (.cells #[.bool q3, .slice Q3 k3 d3] 35)
    have G3 := BB.new x1 q3 Q3 k3 d3 35
    clear hb Y1 Y2
    go_upto_region 8 with fail
    generalize hVV : x1.alloc (.cells #[.bool q3, .slice Q3 k3 d3] 35) = V at *
    generalize hGG : x1.heap.size = gg at *
    clear hVV hGG
    obtain ⟨b0, b1, b2, b3, b4⟩ := id G3
    go_wp2_with fail
    refine (bfits_any _ _ _ _ _ _ (by omega) Y3).mono ?_
    rw [HFT.out]
    rintro e x2 ⟨rfl, hb⟩
    have hB := since_step hB hb
    have Y3 := Y3.below hb
    have G3 := G3.below hb
    clear hb b0 b1 b2 b3 b4
    obtain ⟨b0, b1, b2, b3, b4⟩ := id G3
    have hyy : (y == y) = true := by simp
    go_wp2_with fail
    refine (HRI.out _ _ _ _ _ Y3).mono ?_
    rintro e x3 ⟨rfl, hb⟩
    have hB := since_step hB hb
    clear hb
    go_wp2_with fail
    refine (HLV.out _).mono ?_
    rintro e x4 ⟨rfl, hb⟩
    have hB := since_step hB hb
    go_wp2_with fail
    go_ret
    exact ⟨rfl, hB⟩
  · have hv : fV (n + n) = 0 := by unfold fV; rw [if_neg h6]
    have hw : fE (n + n) = 7 := by unfold fE; rw [if_neg h6]
    rw [hv, hw] at HG3
    have HFT : Hid (decide (inN (n + n) 63) = false) := Lib.hid (decide_eq_false (fun h => h6 ((in64_iff _).1 h)))
    obtain ⟨y, hy⟩ : ∃ y, n + n = y := ⟨_, rfl⟩
    rw [hy] at HFT HN128
    have HY := Lib.hid hy
    clear hv hw h6 hy
    go_wp2_with fail
    refine (HG3.out _ HT.out.1 HT.out.2 s4).mono ?_
    rintro e z7 ⟨rfl, hb⟩
    have hB := since_step hB hb
    clear hb s4
    go_wp2_with fail
    refine (HON.out _).mono ?_
    rintro e z8 ⟨⟨q1, Q1, k1, d1, rfl, f1, Y1⟩, hb⟩
    have hB := since_step hB hb
    have L1 := Y1.l128 HN128.out.1
    clear hb
    go_wp2_with fail
    refine (HON.out _).mono ?_
    rintro e z9 ⟨⟨q2, Q2, k2, d2, rfl, f2, Y2⟩, hb⟩
    have hB := since_step hB hb
    have L2 := Y2.l128 HN128.out.1
    have Y1 := Y1.below hb
    clear hb
    go_wp2_with fail
    refine (badd' (by omega) (by omega) Y1 Y2).mono ?_
    rw [HY.out]
    rintro e x1 ⟨⟨q3, Q3, k3, d3, rfl, f3, Y3⟩, hb⟩
    have hB := since_alloc (since_step hB hb) (.cells #[.bool q3, .slice Q3 k3 d3] 35)
    have L3 := Y3.l128 HN128.out.2
    have Y3 := Y3.alloc (.cells #[.bool q3, .slice Q3 k3 d3] 35)
    have G3 := BB.new x1 q3 Q3 k3 d3 35
    clear hb Y1 Y2
    go_upto_region 8 with fail
    generalize hVV : x1.alloc (.cells #[.bool q3, .slice Q3 k3 d3] 35) = V at *
    generalize hGG : x1.heap.size = gg at *
    clear hVV hGG
    obtain ⟨b0, b1, b2, b3, b4⟩ := id G3
    go_wp2_with fail
    refine (bfits_any _ _ _ _ _ _ (by omega) Y3).mono ?_
    rw [HFT.out]
    rintro e x2 ⟨rfl, hb⟩
    have hB := since_step hB hb
    clear hb b0 b1 b2 b3 b4
    go_wp2_with fail
    refine (HLV.out _).mono ?_
    rintro e x4 ⟨rfl, hb⟩
    have hB := since_step hB hb
    go_wp2_with fail
    go_ret
    exact ⟨rfl, hB⟩
end Go.Proofs.Ytldnponbkhgijaa
end
