/-
  Layer 3: the document's Fill; ShareSplits, ShareFills: the walks.
-/
import Derived.Test.YtckgifhidomhaaaShare6
import Derived.Test.YtckgifhidomhaaaShare8
import Derived.Test.YtckgifhidomhaaaShare9
namespace Go.Proofs.Ytckgifhidomhaaa
open Go.ChangeShapes Go.WideShapes Go.ChangeAt Go.RowKit
set_option linter.unusedVariables false
set_option linter.unusedSimpArgs false

set_option maxRecDepth 100000 in
set_option maxHeartbeats 4000000 in
theorem rfill_any (t : Int) (A : Option Addr) (cap : Nat) (l : List Int) (w : World) (hl : l.length ≤ 64) (hx : All64 l) (h64 : In64 t) (hs : Sl w A (ints .i64 l)) :
    Calls Try.prog 16 #[.int .i64 t, .slice A l.length cap] w fun e w' => rowR w w' e (fillV t l) (fillE t l) ∧ Below w.heap.size w w' := by
  have HB := Lib.hid (fun W (hb : Below w.heap.size w W) => why_any t A cap l W (by omega) hx (hs.below hb))
  have HR := Lib.hid (fun W (hb : Below w.heap.size w W) => rsum_any A cap l W (by omega) hx (hs.below hb))
  have HP := Lib.hid (fun W (hb : Below w.heap.size w W) => rsplit_any t A cap l W hl hx h64 (hs.below hb))
  have HO := Lib.hid (fun W => bof_any t W h64)
  by_cases hbad : mnL t l < 0
  · obtain ⟨e1, e2⟩ := fill_bad hbad
    rw [e1, e2]
    have HD := Lib.hid (show whyE t l = 2 from if_pos hbad)
    clear e1 e2 hbad
    go_enter Try.func16, Try.ntmps16
    go_wp2_with fail
    refine (HB.out _ (Below.refl _ _)).mono ?_
    rintro e w1 ⟨rfl, hb1⟩
    rw [HD.out]
    go_wp2_with fail
    go_ret2
    exact ⟨rowR.no _ _ _, hb1⟩
  · by_cases hin : In64 l.sum
    · have HD := Lib.hid (show whyE t l = 0 from (if_neg hbad).trans (if_pos hin))
      have HSL := fun (W : World) (s : Bool) (A : Option Addr) (n c : Nat) (h : BigAt W s A n c l.sum) => sum_len h (by omega) hx
      have HC := fun W s1 A1 n1 c1 s2 A2 n2 c2 h1 h2 X Y => bcmp_any l.sum t s1 s2 A1 A2 n1 c1 n2 c2 W h1 h2 X Y
      have HSL := Lib.hid HSL
      have H64 := Lib.hid h64
      by_cases hlt : l.sum < t
      · obtain ⟨e1, e2⟩ := fill_full hbad hin hlt
        rw [e1, e2]
        rw [show cmpZ l.sum t = -1 by unfold cmpZ; rw [if_neg (by omega), if_pos hlt]] at HC
        have HC := Lib.hid HC
        clear e1 e2 hbad hin hlt
        generalize l.sum = S at *
        go_enter Try.func16, Try.ntmps16
        go_wp2_with fail
        refine (HB.out _ (Below.refl _ _)).mono ?_
        rintro e w1 ⟨rfl, hb1⟩
        rw [HD.out]
        go_wp2_with fail
        refine (HR.out _ hb1).mono ?_
        rintro e w2 ⟨⟨s2, A2, n2, c2, rfl, hf2, X2⟩, hb2⟩
        have hB2 := since_step hb1 hb2
        have hn2 := HSL.out _ _ _ _ _ X2
        clear hb1 hb2 hf2
        go_wp2_with fail
        refine (HO.out _).mono ?_
        rintro e w3 ⟨⟨s3, A3, n3, c3, rfl, hf3, X3⟩, hb3⟩
        have hB3 := since_step hB2 hb3
        have X2 := X2.below hb3
        have hn3 := X3.l64 H64.out
        clear hb3 hf3
        go_wp2_with fail
        refine (HC.out _ _ _ _ _ _ _ _ _ (by omega) (by omega) X2 X3).mono ?_
        rintro e w4 ⟨rfl, hb4⟩
        have hB4 := since_step hB3 hb4
        go_wp2_with fail
        go_ret2
        exact ⟨rowR.no _ _ _, hB4⟩
      · obtain ⟨e1, e2⟩ := fill_ok hbad hin hlt
        rw [e1, e2]
        have hc0 : ¬ cmpZ l.sum t < 0 := by
          unfold cmpZ
          split
          · omega
          · first | omega | (split <;> omega)
        obtain ⟨cz, hcz⟩ : ∃ z, z = cmpZ l.sum t := ⟨_, rfl⟩
        rw [← hcz] at HC hc0
        have HC := Lib.hid HC
        clear e1 e2 hbad hin hlt hcz
        generalize l.sum = S at *
        go_enter Try.func16, Try.ntmps16
        go_wp2_with fail
        refine (HB.out _ (Below.refl _ _)).mono ?_
        rintro e w1 ⟨rfl, hb1⟩
        rw [HD.out]
        go_wp2_with fail
        refine (HR.out _ hb1).mono ?_
        rintro e w2 ⟨⟨s2, A2, n2, c2, rfl, hf2, X2⟩, hb2⟩
        have hB2 := since_step hb1 hb2
        have hn2 := HSL.out _ _ _ _ _ X2
        clear hb1 hb2 hf2
        go_wp2_with fail
        refine (HO.out _).mono ?_
        rintro e w3 ⟨⟨s3, A3, n3, c3, rfl, hf3, X3⟩, hb3⟩
        have hB3 := since_step hB2 hb3
        have X2 := X2.below hb3
        have hn3 := X3.l64 H64.out
        clear hb3 hf3
        go_wp2_with fail
        refine (HC.out _ _ _ _ _ _ _ _ _ (by omega) (by omega) X2 X3).mono ?_
        rintro e w4 ⟨rfl, hb4⟩
        have hB4 := since_step hB3 hb4
        clear hb4 hB2 hB3 X2 X3
        go_wp2_with fail
        refine (HP.out _ hB4).mono ?_
        rintro e w5 ⟨hr, hb5⟩
        have hB5 := since_step hB4 hb5
        have hr := hr.from hB4.size
        obtain ⟨A5, c5, rfl, hr2⟩ := hr
        clear hb5 hB4
        go_wp2_with fail
        go_ret2
        exact ⟨⟨A5, c5, rfl, hr2⟩, hB5⟩
    · obtain ⟨e1, e2⟩ := fill_far hbad hin
      rw [e1, e2]
      have HD := Lib.hid (show whyE t l = 7 from (if_neg hbad).trans (if_neg hin))
      clear e1 e2 hbad
      go_enter Try.func16, Try.ntmps16
      go_wp2_with fail
      refine (HB.out _ (Below.refl _ _)).mono ?_
      rintro e w1 ⟨rfl, hb1⟩
      rw [HD.out]
      go_wp2_with fail
      go_ret2
      exact ⟨rowR.no _ _ _, hb1⟩

theorem partsV_none {t : Int} {l : List Int} (h : splitE t l ≠ 0) : splitV t l = [] := if_neg h
set_option maxRecDepth 100000 in
set_option maxHeartbeats 4000000 in
theorem walk_ShareSplits (a0 : Int) (a1 : Option Addr) (n1 c1 : Nat) (w : World) (w0 : (Lit.int .i64 a0).wf = true) (w1 : Rd w (.sl (.int .i64)) [.slice a1 n1 c1]) :
    Calls Try.prog 3 #[.int .i64 a0, .slice a1 n1 c1] w fun e w' => e = .returned (.bool true) ∧ Below w.heap.size w w' := by
  have h64 : In64 a0 := bd_i64 w0
  obtain ⟨l0, rfl, hc1, hc2, hs0, hwf⟩ := rd_ints w1
  have hx0 := All64.of hwf
  obtain ⟨l, hl⟩ : ∃ l, l = l0.take 30 := ⟨_, rfl⟩
  have HF := Lib.hid (few3_any a1 c1 l0 w ⟨hc1, hc2⟩ hs0)
  have hx : All64 l := by rw [hl]; exact hx0.take _
  have hs : Sl w a1 (ints .i64 l) := by rw [hl]; exact sl_take hs0 _
  have hll : l.length ≤ 64 := by rw [hl]; simp; omega
  have HSP := Lib.hid (fun W (hb : Below w.heap.size w W) => split_any a0 a1 c1 l W hll hx h64 (hs.below hb))
  have HRP := Lib.hid (fun W (hb : Below w.heap.size w W) => rsplit_any a0 a1 c1 l W hll hx h64 (hs.below hb))
  have hvl : (splitV a0 l).length ≤ 1000000 := by
    unfold splitV; split
    · rw [partsV_length]; omega
    · simp
  rw [← hl] at HF
  clear w0 w1 hwf hx0 hs0 hc1 hl
  generalize splitV a0 l = v at *
  generalize splitE a0 l = E at *
  go_enter Try.func3, Try.ntmps3
  go_wp2_with fail
  refine HF.out.mono ?_
  rintro e w1 ⟨rfl, hb1⟩
  go_wp2_with fail
  refine (HSP.out _ hb1).mono ?_
  rintro e w2 ⟨⟨A2, c2, rfl, hc, ha, hf⟩, hb2⟩
  have hB2 := since_step hb1 hb2
  clear hb1 hb2 hf hc
  go_wp2_with fail
  refine (HRP.out _ hB2).mono ?_
  rintro e w3 ⟨⟨A3, c3, rfl, hc, ha3, hf⟩, hb3⟩
  have hB3 := since_step hB2 hb3
  have ha := ha.below hb3
  clear hb3 hf hc hB2
  go_wp2_with fail
  refine (same_any _ _ _ _ v _ hvl ha ha3).mono ?_
  rintro e w4 ⟨rfl, hb4⟩
  have hB4 := since_step hB3 hb4
  clear hb4 ha ha3 hB3
  go_wp2_with fail
  refine (lives3_any _).mono ?_
  rintro e w5 ⟨rfl, hb5⟩
  have hB5 := since_step hB4 hb5
  go_wp2_with fail
  go_ret
  exact ⟨rfl, hB5⟩

set_option maxRecDepth 100000 in
set_option maxHeartbeats 4000000 in
theorem walk_ShareFills (a0 : Int) (a1 : Option Addr) (n1 c1 : Nat) (w : World) (w0 : (Lit.int .i64 a0).wf = true) (w1 : Rd w (.sl (.int .i64)) [.slice a1 n1 c1]) :
    Calls Try.prog 4 #[.int .i64 a0, .slice a1 n1 c1] w fun e w' => e = .returned (.bool true) ∧ Below w.heap.size w w' := by
  have h64 : In64 a0 := bd_i64 w0
  obtain ⟨l0, rfl, hc1, hc2, hs0, hwf⟩ := rd_ints w1
  have hx0 := All64.of hwf
  obtain ⟨l, hl⟩ : ∃ l, l = l0.take 30 := ⟨_, rfl⟩
  have HF := Lib.hid (few3_any a1 c1 l0 w ⟨hc1, hc2⟩ hs0)
  have hx : All64 l := by rw [hl]; exact hx0.take _
  have hs : Sl w a1 (ints .i64 l) := by rw [hl]; exact sl_take hs0 _
  have hll : l.length ≤ 64 := by rw [hl]; simp; omega
  have HSP := Lib.hid (fun W (hb : Below w.heap.size w W) => fill_any a0 a1 c1 l W hll hx h64 (hs.below hb))
  have HRP := Lib.hid (fun W (hb : Below w.heap.size w W) => rfill_any a0 a1 c1 l W hll hx h64 (hs.below hb))
  have HTK := Lib.hid (fun W (hb : Below w.heap.size w W) => takes_any a0 a1 c1 l W hll h64 (hs.below hb))
  have HRT := Lib.hid (fun W (hb : Below w.heap.size w W) => rtakes_any a0 a1 c1 l W hll hx h64 (hs.below hb))
  have hvl : (fillV a0 l).length ≤ 1000000 := by
    unfold fillV; split
    · rw [partsV_length]; omega
    · simp
  have htl : (takesV a0 l).length ≤ 1000000 := by
    unfold takesV; split
    · simp
    · rw [tkV_length]; omega
  rw [← hl] at HF
  clear w0 w1 hwf hx0 hs0 hc1 hl
  generalize fillV a0 l = v at *
  generalize fillE a0 l = E at *
  generalize takesV a0 l = tv at *
  generalize takesR a0 l = tr at *
  generalize takesE a0 l = te at *
  go_enter Try.func4, Try.ntmps4
  go_wp2_with fail
  refine HF.out.mono ?_
  rintro e w1 ⟨rfl, hb1⟩
  go_wp2_with fail
  refine (HSP.out _ hb1).mono ?_
  rintro e w2 ⟨⟨A2, c2, rfl, hc, ha, hf⟩, hb2⟩
  have hB2 := since_step hb1 hb2
  clear hb1 hb2 hf hc
  go_wp2_with fail
  refine (HRP.out _ hB2).mono ?_
  rintro e w3 ⟨⟨A3, c3, rfl, hc, ha3, hf⟩, hb3⟩
  have hB3 := since_step hB2 hb3
  have ha := ha.below hb3
  clear hb3 hf hc hB2
  go_wp2_with fail
  refine (HTK.out _ hB3).mono ?_
  rintro e w4 ⟨⟨A4, c4, rfl, hc, ha4⟩, hb4⟩
  have hB4 := since_step hB3 hb4
  have ha := ha.below hb4
  have ha3 := ha3.below hb4
  clear hb4 hc hB3
  go_wp2_with fail
  refine (HRT.out _ hB4).mono ?_
  rintro e w5 ⟨⟨A5, c5, rfl, hc, ha5⟩, hb5⟩
  have hB5 := since_step hB4 hb5
  have ha := ha.below hb5
  have ha3 := ha3.below hb5
  have ha4 := ha4.below hb5
  clear hb5 hc hB4
  go_wp2_with fail
  refine (same_any _ _ _ _ v _ hvl ha ha3).mono ?_
  rintro e w6 ⟨rfl, hb6⟩
  have hB6 := since_step hB5 hb6
  have ha4 := ha4.below hb6
  have ha5 := ha5.below hb6
  clear hb6 ha ha3 hB5
  go_wp2_with fail
  refine (same_any _ _ _ _ tv _ htl ha4 ha5).mono ?_
  rintro e w7 ⟨rfl, hb7⟩
  have hB7 := since_step hB6 hb7
  clear hb7 ha4 ha5 hB6
  go_wp2_with fail
  refine (lives3_any _).mono ?_
  rintro e w8 ⟨rfl, hb8⟩
  have hB8 := since_step hB7 hb8
  go_wp2_with fail
  go_ret
  exact ⟨rfl, hB8⟩
end Go.Proofs.Ytckgifhidomhaaa
