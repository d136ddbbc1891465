import Derived.Test.YtahdmomadbbhoaaMk27
import Derived.Test.YtahdmomadbbhoaaMk36
import Derived.Test.YtahdmomadbbhoaaMk41
import Derived.Test.YtahdmomadbbhoaaMk42
import Derived.Test.YtahdmomadbbhoaaMk43
section
namespace Go.Proofs.Ytahdmomadbbhoaa
open Go.ChangeShapes Go.WideShapes Go.ChangeAt Go.RowKit
set_option linter.unusedVariables false
set_option linter.unusedSimpArgs false
theorem payR_lenM (l fs : List Fw) : (payR l fs).2.length ≤ l.length + fs.length := by
  unfold payR
  split
  · simp
  · split
    · simp
    · have h1 := outU_len (l ++ fs) (unitsU (l ++ fs))
      have h2 := unitsU_len (l ++ fs)
      rw [List.length_append] at h2
      show (outU (l ++ fs) (unitsU (l ++ fs))).length ≤ _
      omega
theorem settR_len (is : List Ins) (cs : List Pc) (p : List Fw) : (settR is cs p).2.length ≤ p.length + cs.length := by
  unfold settR
  split
  · simp
  · split
    · simp
    · have h1 := payR_lenM p (flowsR is cs).2
      have h2 := flowsR_len is cs
      omega
theorem rd_legs20 {w : World} {A : Option Addr} {n c : Nat} (h : Rd w (.sl (.cat (.int .i64) (.cat (.int .i64) .nil))) [.slice A n c]) : ∃ M : List Lg, M.length ≤ 12 ∧ (∀ y ∈ M, In64 y.qty) ∧ Sl w A (rc Lg.cells M) ∧ Hid (∀ V, Below w.heap.size w V → Calls Try.prog 7 #[.slice A n c] V fun e w' => e = .returned (.slice A M.length c) ∧ Below V.heap.size V w') := by
  have hf : ∀ r, Rd w (.cat (.int .i64) (.cat (.int .i64) .nil)) r → ∃ g : Lg, r = g.cells ∧ In64 g.qty := fun r h => by
    obtain ⟨p, q, rfl, ⟨a, rfl, _⟩, ⟨p2, q2, rfl, ⟨b, rfl, hb⟩, rfl⟩⟩ := h
    exact ⟨⟨a, b⟩, rfl, bd_i64 hb⟩
  obtain ⟨l, rfl, hlc, hcm, hs, hq⟩ := rd_rowsP (f := Lg.cells) hf h
  exact ⟨l.take 12, by simp; omega, fun y hy => hq y (List.mem_of_mem_take hy), by rw [← rc_take Lg.len]; exact hs.take _, Lib.hid fun V hV => few11_any A c l V hlc hcm (hs.below hV)⟩
def live20 : List Ins := [⟨1, 10, 5, 7, []⟩]
theorem live20a : gnR live20 [⟨1, 3⟩] = (60, 0) := by decide
theorem live20b : OkT live20 := by intro i hi; rw [List.mem_singleton.1 hi]; decide
set_option maxHeartbeats 4000000 in
set_option maxRecDepth 100000 in
theorem lives20_any (w : World) : Calls Try.prog 17 #[] w fun e w' => e = .returned (.bool true) ∧ Below w.heap.size w w' := by
  have hB0 := since_alloc (Below.refl _ w) (.cells #[.int .i64 1, .int .i64 10, .int .i64 5, .int .i64 7, .slice none 0 0] 54)
  have r0 : Sl (w.alloc (.cells #[.int .i64 1, .int .i64 10, .int .i64 5, .int .i64 7, .slice none 0 0] 54)) (some ⟨w.heap.size, 0, none⟩) (rc Iq.cells [⟨1, 10, 5, 7, none, 0, 0⟩]) := Sl.new_ w (rc Iq.cells [⟨1, 10, 5, 7, none, 0, 0⟩]) 54
  have t0 : InTab (w.alloc (.cells #[.int .i64 1, .int .i64 10, .int .i64 5, .int .i64 7, .slice none 0 0] 54)) [⟨1, 10, 5, 7, none, 0, 0⟩] live20 :=
    InTab.cons ⟨rfl, rfl, rfl, rfl, rfl, ⟨⟨Nat.le_refl _, by show 0 ≤ maxLen; decide⟩, Sl.nil, (fun x hx => by cases hx), by show In64 1 ∧ In64 10 ∧ In64 5 ∧ In64 7; unfold In64; omega⟩⟩ (InTab.nil _)
  have hq : ∀ y ∈ [(⟨1, 3⟩ : Lg)], In64 y.qty := fun y hy => by rw [List.mem_singleton.1 hy]; show In64 3; unfold In64; omega
  have hcl : ∀ i ∈ live20, i.mv.length ≤ 900000 := by intro i hi; rw [List.mem_singleton.1 hi]; decide
  have HM1 := Lib.hid (fun LA V h1 h2 h3 => mgain_any (some ⟨w.heap.size, 0, none⟩) 1 [⟨1, 10, 5, 7, none, 0, 0⟩] live20 LA 1 [⟨1, 3⟩] V (by simp) hcl live20b (by simp) hq h1 h2 h3)
  rw [live20a] at HM1
  simp only [List.length_cons, List.length_nil] at HM1
  have HT := Lib.hid (And.intro r0 t0)
  clear hq hcl r0 t0
  go_enter Try.func17, Try.ntmps17
  go_wp2_with fail
  refine (HM1.out _ _ (HT.out.1.alloc _) (HT.out.2.below ((Below.refl _ _).alloc (Nat.le_refl _) _)) (Sl.new1 _ _ (rc Lg.cells [⟨1, 3⟩]) 64)).mono ?_
  rintro e w1 ⟨rfl, hb⟩
  have hB1 := since_step (since_alloc hB0 _) hb
  go_wp2_with fail
  go_ret
  exact ⟨rfl, hB1⟩
set_option maxHeartbeats 32000000 in
set_option maxRecDepth 100000 in
theorem walk_MarkFlows (a0 : Option Addr) (n0 c0 : Nat) (a1 : Option Addr) (n1 c1 : Nat) (a2 : Option Addr) (n2 c2 : Nat) (a3 : Option Addr) (n3 c3 : Nat) (w : World) (w0 : Rd w (.sl (.cat (.int .i64) (.cat (.int .i64) (.cat (.int .i64) (.cat (.int .i64) (.cat (.sl (.int .i64)) .nil)))))) [.slice a0 n0 c0]) (w1 : Rd w (.sl (.cat (.int .i64) (.cat (.int .i64) .nil))) [.slice a1 n1 c1]) (w2 : Rd w (.sl (.cat (.cat (.int .i64) (.cat (.int .i64) .nil)) (.cat (.sl (.cat (.int .i64) (.cat (.int .i64) .nil))) .nil))) [.slice a2 n2 c2]) (w3 : Rd w (.sl (.cat (.cat (.int .i64) (.cat (.int .i64) .nil)) (.cat (.int .i64) .nil))) [.slice a3 n3 c3]) :
    Calls Try.prog 3 #[.slice a0 n0 c0, .slice a1 n1 c1, .slice a2 n2 c2, .slice a3 n3 c3] w fun e w' => e = .returned (.bool true) ∧ Below w.heap.size w w' := by
  obtain ⟨l, rfl, _, _, hs0, hd0⟩ := rd_rowsP (f := Iq.cells) (fun r => rd_insrow) w0
  obtain ⟨M, hMl, hM6, hsM, HF1⟩ := rd_legs20 w1
  obtain ⟨lp, rfl, _, _, hp0, hd2⟩ := rd_rowsP (f := Po.cells) (fun r => rd_posk) w2
  obtain ⟨L, hL20, hLq, hsL, HF3⟩ := rd_fws w3
  clear w0 w1 w2 w3
  have HI := Lib.hid (instsk_any a0 c0 l w hs0 hd0)
  have HF2 := Lib.hid (fun V (hV : Below w.heap.size w V) => few19k_any a2 c2 lp V (hp0.below hV) (fun g hg => (hd2 g hg).below hV))
  have HLV := Lib.hid (fun V => lives20_any V)
  clear hs0 hd0 hp0 hd2
  go_enter Try.func3, Try.ntmps3
  go_wp2_with fail
  refine HI.out.mono ?_
  rintro e z1 ⟨⟨R, is, A, c, rfl, hs, ht, hR, h9⟩, hB⟩
  clear HI
  have hsM := hsM.below hB
  go_wp2_with fail
  refine (HF1.out _ hB).mono ?_
  rintro e z2 ⟨rfl, hb⟩
  have hB := since_step hB hb
  have hs := hs.below hb
  have ht := ht.below hb
  have hsM := hsM.below hb
  clear hb HF1
  go_wp2_with fail
  refine (HF2.out _ hB).mono ?_
  rintro e z3 ⟨⟨P, cs, PA, pc, rfl, hp, hpt, hcap, hPn, hgd, hky⟩, hb⟩
  have hB := since_step hB hb
  have hs := hs.below hb
  have ht := ht.below hb
  have hsM := hsM.below hb
  clear hb HF2 hcap
  have hsL := hsL.below hB
  go_wp2_with fail
  refine (HF3.out _ hB).mono ?_
  rintro e z4 ⟨rfl, hb⟩
  have hB := since_step hB hb
  have hs := hs.below hb
  have ht := ht.below hb
  have hsM := hsM.below hb
  have hp := hp.below hb
  have hpt := hpt.below hb
  have hsL := hsL.below hb
  clear hb HF3
  have hR9 : R.length ≤ 900000 := by omega
  have hcl9 : ∀ i ∈ is, i.mv.length ≤ 900000 := fun i hi => Nat.le_trans (h9 i hi).1 (by omega)
  have ho : OkT is := fun i hi => (h9 i hi).2
  have hP9 : P.length ≤ 900000 := by omega
  have hpl : ∀ g ∈ cs, g.L.length ≤ 1000 := fun g hg => Nat.le_trans (hgd.1 g hg) (by omega)
  have hpl9 : ∀ g ∈ cs, g.L.length ≤ 900000 := fun g hg => Nat.le_trans (hgd.1 g hg) (by omega)
  have hcsn : cs.length ≤ 10000 := by have := hpt.1; omega
  have hLn : L.length ≤ 10000 := by omega
  have HC1 := Lib.hid (fun V (h : Below z4.heap.size z4 V) => mgain_any A c R is a1 c1 M V hR9 hcl9 ho (by omega) hM6 (hs.below h) (ht.below h) (hsM.below h))
  have HC2 := Lib.hid (fun V (h : Below z4.heap.size z4 V) => rmvector_any A c R is a1 c1 M V hR9 ho (by omega) hM6 (hs.below h) (ht.below h) (hsM.below h))
  have HC3 := Lib.hid (fun V (h : Below z4.heap.size z4 V) => mflows_any A c R is PA pc P cs V hR9 hcl9 ho hP9 hpl hgd.2 (hs.below h) (ht.below h) (hp.below h) (hpt.below h))
  have HC4 := Lib.hid (fun V (h : Below z4.heap.size z4 V) => rmflows_any A c R is PA pc P cs V hR9 ho hP9 hpl hgd.2 (hs.below h) (ht.below h) (hp.below h) (hpt.below h))
  have HC5 := Lib.hid (fun V (h : Below z4.heap.size z4 V) => msettle_any A c R is PA pc P cs a3 c3 L V hR9 hcl9 ho hP9 hpl hgd.2 (hs.below h) (ht.below h) (hp.below h) (hpt.below h) hcsn hky hLn hLq (hsL.below h))
  have HC6 := Lib.hid (fun V (h : Below z4.heap.size z4 V) => rsettle_any A c R is PA pc P cs a3 c3 L V hR9 ho hP9 hpl hgd.2 (hs.below h) (ht.below h) (hp.below h) (hpt.below h) hcsn hky hLn hLq (hsL.below h))
  have hfl := flowsR_len is cs
  have hsl := settR_len is cs L
  generalize gnR is M = G at *
  generalize flowsR is cs = Q at *
  generalize settR is cs L = T at *
  obtain ⟨gv, ge⟩ := G
  obtain ⟨qn, qO⟩ := Q
  obtain ⟨tn, tO⟩ := T
  simp only at HC1 HC2 hfl hsl
  have HQ9 : Hid (qO.length ≤ 1000000) := Lib.hid (by omega)
  have HT9 : Hid (tO.length ≤ 1000000) := Lib.hid (by omega)
  have hC := Below.refl z4.heap.size z4
  clear hs ht hsM hp hpt hsL hR9 hcl9 ho hP9 hpl hpl9 hcsn hLn hR h9 hPn hgd hky hMl hM6 hL20 hLq hfl hsl
  have b1 : (gv == gv) = true := by simp
  have b2 : (ge == ge) = true := by simp
  have b3 : (qn == qn) = true := by simp
  have b4 : (tn == tn) = true := by simp
  go_wp2_with fail
  refine (HC1.out _ hC).mono ?_
  rintro e y1 ⟨rfl, hb⟩
  have hC := since_step hC hb
  clear hb
  go_wp2_with fail
  refine (HC2.out _ hC).mono ?_
  rintro e y2 ⟨rfl, hb⟩
  have hC := since_step hC hb
  clear hb
  go_wp2_with fail
  refine (HC3.out _ hC).mono ?_
  rintro e y3 ⟨hq, hb⟩
  have hC := since_step hC hb
  obtain ⟨A3, k3, rfl, s3⟩ := hq.of
  clear hb
  go_wp2_with fail
  refine (HC4.out _ hC).mono ?_
  rintro e y4 ⟨hq, hb⟩
  have hC := since_step hC hb
  obtain ⟨A4, k4, rfl, s4⟩ := hq.of
  have s3 := s3.below hb
  clear hb
  go_wp2_with fail
  refine (HC5.out _ hC).mono ?_
  rintro e y5 ⟨hq, hb⟩
  have hC := since_step hC hb
  obtain ⟨A5, k5, rfl, s5⟩ := hq.of
  have s3 := s3.below hb
  have s4 := s4.below hb
  clear hb
  go_wp2_with fail
  refine (HC6.out _ hC).mono ?_
  rintro e y6 ⟨hq, hb⟩
  have hC := since_step hC hb
  obtain ⟨A6, k6, rfl, s6⟩ := hq.of
  have s3 := s3.below hb
  have s4 := s4.below hb
  have s5 := s5.below hb
  clear hb
  clear HC1 HC2 HC3 HC4 HC5 HC6
  have HSM := Lib.hid (And.intro (And.intro s3 s4) (And.intro s5 s6))
  clear s3 s4 s5 s6
  go_wp2_with fail
  refine (rpsame_any_self A3 A4 k3 k4 qO _ HQ9.out HSM.out.1.1 HSM.out.1.2).mono ?_
  rintro e y7 ⟨rfl, hb⟩
  have hC := since_step hC hb
  have HSM := Lib.hid (And.intro (HSM.out.2.1.below hb) (HSM.out.2.2.below hb))
  clear hb
  go_wp2_with fail
  refine (rpsame_any_self A5 A6 k5 k6 tO _ HT9.out HSM.out.1 HSM.out.2).mono ?_
  rintro e y8 ⟨rfl, hb⟩
  have hC := since_step hC hb
  clear hb
  go_wp2_with fail
  refine (HLV.out _).mono ?_
  rintro e y9 ⟨rfl, hb⟩
  have hC := since_step hC hb
  clear hb
  go_wp2_with fail
  go_ret
  exact ⟨rfl, hB.trans (hC.mono hB.size)⟩
end Go.Proofs.Ytahdmomadbbhoaa
end
