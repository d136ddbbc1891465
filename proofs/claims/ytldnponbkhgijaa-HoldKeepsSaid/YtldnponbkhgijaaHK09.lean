import Derived.Test.YtldnponbkhgijaaHK06
import Derived.Test.YtldnponbkhgijaaHK07
import Derived.Test.YtldnponbkhgijaaHK08
section
namespace Go.Proofs.Ytldnponbkhgijaa
open Go.ChangeShapes Go.WideShapes Go.ChangeAt Go.RowKit
set_option linter.unusedVariables false
set_option linter.unusedSimpArgs false

set_option maxHeartbeats 32000000 in
set_option maxRecDepth 100000 in
theorem keeps_C21 (a0 : Option Addr) (c0 : Nat) (l : List Hd) (fa fc ta tc oa oc xa xt xq a5 : Int) (w : World) (hx : In64 xq) (hs : Sl w a0 (rc Hd.cells l)) (hd : ∀ g ∈ l, InH w g) (hf1 : Hid (oa = fa)) (hf2 : Hid (oc ≠ fc)) (ht1 : Hid (oa ≠ ta)) :
    Calls Try.prog 13 #[.slice a0 l.length c0, .agg #[.int .i64 fa, .int .i64 fc], .agg #[.int .i64 ta, .int .i64 tc], .agg #[.int .i64 oa, .int .i64 oc], .agg #[.int .i64 xa, .int .i64 xt, .int .i64 xq], .int .i64 a5] w fun e w' => e = .returned (.bool true) ∧ Below w.heap.size w w' := by
  have hB := since_alloc (since_alloc (since_alloc (since_alloc (Below.refl _ w) (.cells #[.int .i64 fa, .int .i64 fc] 24)) (.cells #[.int .i64 ta, .int .i64 tc] 24)) (.cells #[.int .i64 oa, .int .i64 oc] 24)) (.cells #[.int .i64 xa, .int .i64 xt, .int .i64 xq] 93)
  have hK1 := (((Bk.new w #[.int .i64 fa, .int .i64 fc] 24).alloc (.cells #[.int .i64 ta, .int .i64 tc] 24)).alloc (.cells #[.int .i64 oa, .int .i64 oc] 24)).alloc (.cells #[.int .i64 xa, .int .i64 xt, .int .i64 xq] 93)
  have hK2 := ((Bk.new (w.alloc (.cells #[.int .i64 fa, .int .i64 fc] 24)) #[.int .i64 ta, .int .i64 tc] 24).alloc (.cells #[.int .i64 oa, .int .i64 oc] 24)).alloc (.cells #[.int .i64 xa, .int .i64 xt, .int .i64 xq] 93)
  have hK3 := (Bk.new ((w.alloc (.cells #[.int .i64 fa, .int .i64 fc] 24)).alloc (.cells #[.int .i64 ta, .int .i64 tc] 24)) #[.int .i64 oa, .int .i64 oc] 24).alloc (.cells #[.int .i64 xa, .int .i64 xt, .int .i64 xq] 93)
  have hK4 := Bk.new (((w.alloc (.cells #[.int .i64 fa, .int .i64 fc] 24)).alloc (.cells #[.int .i64 ta, .int .i64 tc] 24)).alloc (.cells #[.int .i64 oa, .int .i64 oc] 24)) #[.int .i64 xa, .int .i64 xt, .int .i64 xq] 93
  rw [World.size_alloc] at hK2
  rw [World.size_alloc, World.size_alloc] at hK3
  rw [World.size_alloc, World.size_alloc, World.size_alloc] at hK4
  have HF1 := Lib.hid (few26_any a0 c0 l _ (hs.below hB) (fun g hg => (hd g hg).below hB))
  have HLV := Lib.hid (fun V => lives26_any V)
  clear hs hd
  go_enter Try.func13, Try.ntmps13
  go_upto_region 1 with fail
  generalize hWW : (((w.alloc (.cells #[.int .i64 fa, .int .i64 fc] 24)).alloc (.cells #[.int .i64 ta, .int .i64 tc] 24)).alloc (.cells #[.int .i64 oa, .int .i64 oc] 24)).alloc (.cells #[.int .i64 xa, .int .i64 xt, .int .i64 xq] 93) = W at *
  clear hWW
  obtain ⟨hK1_l, hK1_c⟩ := id hK1
  have hK1_0 := hK1_c 0
  have hK1_1 := hK1_c 1
  simp at hK1_0 hK1_1
  clear hK1_c
  obtain ⟨hK2_l, hK2_c⟩ := id hK2
  have hK2_0 := hK2_c 0
  have hK2_1 := hK2_c 1
  simp at hK2_0 hK2_1
  clear hK2_c
  obtain ⟨hK3_l, hK3_c⟩ := id hK3
  have hK3_0 := hK3_c 0
  have hK3_1 := hK3_c 1
  simp at hK3_0 hK3_1
  clear hK3_c
  obtain ⟨hK4_l, hK4_c⟩ := id hK4
  have hK4_0 := hK4_c 0
  have hK4_1 := hK4_c 1
  have hK4_2 := hK4_c 2
  simp at hK4_0 hK4_1 hK4_2
  clear hK4_c
  go_wp2_with fail
  refine (HF1.out).mono ?_
  rintro e z1 ⟨⟨R, cs, A, c, rfl, hs, ht, hcap, hR, hgd⟩, hb⟩
  have hB := since_step hB hb
  have hK1 := hK1.below hb
  have hK2 := hK2.below hb
  have hK3 := hK3.below hb
  have hK4 := hK4.below hb
  clear hb
  clear hK1_l hK1_0 hK1_1 hK2_l hK2_0 hK2_1 hK3_l hK3_0 hK3_1 hK4_l hK4_0 hK4_1 hK4_2
  have hRc := ht.1
  have hR9 : R.length ≤ 900000 := by omega
  have hR8 : R.length ≤ 800000 := by omega
  have hcl9 : ∀ g ∈ cs, g.L.length ≤ 900000 := fun g hg => Nat.le_trans (hgd.1 g hg) (by omega)
  have hcs : cs.length ≤ 10 := by omega
  have HM1 := Lib.hid (fun V h1 h2 => hmove_any A c R cs fa fc ta tc V hR8 hcl9 h1 h2)
  have HP1 := Lib.hid (fun V h1 h2 => hpass_any A c R cs fa fc ta tc xa xt xq a5 V hR8 hcl9 hx hgd.2 h1 h2)
  obtain ⟨mn, ML, hM⟩ : ∃ n L, moveHR cs fa fc ta tc = (n, L) := ⟨_, _, rfl⟩
  obtain ⟨pn, PL, hP⟩ : ∃ n L, passHR cs fa fc ta tc ⟨xa, xt, xq⟩ a5 = (n, L) := ⟨_, _, rfl⟩
  rw [hM] at HM1
  rw [hP] at HP1
  unfold HRes at HM1 HP1
  simp only at HM1 HP1
  have HT := Lib.hid (And.intro hs ht)
  clear hs ht hcap hR hRc hx
  obtain ⟨hK1_l, hK1_c⟩ := id hK1
  have hK1_0 := hK1_c 0
  have hK1_1 := hK1_c 1
  simp at hK1_0 hK1_1
  clear hK1_c
  obtain ⟨hK2_l, hK2_c⟩ := id hK2
  have hK2_0 := hK2_c 0
  have hK2_1 := hK2_c 1
  simp at hK2_0 hK2_1
  clear hK2_c
  obtain ⟨hK3_l, hK3_c⟩ := id hK3
  have hK3_0 := hK3_c 0
  have hK3_1 := hK3_c 1
  simp at hK3_0 hK3_1
  clear hK3_c
  obtain ⟨hK4_l, hK4_c⟩ := id hK4
  have hK4_0 := hK4_c 0
  have hK4_1 := hK4_c 1
  have hK4_2 := hK4_c 2
  simp at hK4_0 hK4_1 hK4_2
  clear hK4_c
  go_wp2_with fail
  refine (HM1.out _ HT.out.1 HT.out.2).mono ?_
  rintro e z2 ⟨⟨m1, X1, d1, rfl, hsN, htN, _⟩, hb⟩
  have hB := since_step hB hb
  have hK1 := hK1.below hb
  have hK2 := hK2.below hb
  have hK3 := hK3.below hb
  have hK4 := hK4.below hb
  have HT := Lib.hid (And.intro (HT.out.1.below hb) (HT.out.2.below hb))
  clear hb
  clear hK1_l hK1_0 hK1_1 hK2_l hK2_0 hK2_1 hK3_l hK3_0 hK3_1 hK4_l hK4_0 hK4_1 hK4_2
  have HR1 := Lib.hid (And.intro hsN htN)
  clear hsN htN
  obtain ⟨hK1_l, hK1_c⟩ := id hK1
  have hK1_0 := hK1_c 0
  have hK1_1 := hK1_c 1
  simp at hK1_0 hK1_1
  clear hK1_c
  obtain ⟨hK2_l, hK2_c⟩ := id hK2
  have hK2_0 := hK2_c 0
  have hK2_1 := hK2_c 1
  simp at hK2_0 hK2_1
  clear hK2_c
  obtain ⟨hK3_l, hK3_c⟩ := id hK3
  have hK3_0 := hK3_c 0
  have hK3_1 := hK3_c 1
  simp at hK3_0 hK3_1
  clear hK3_c
  obtain ⟨hK4_l, hK4_c⟩ := id hK4
  have hK4_0 := hK4_c 0
  have hK4_1 := hK4_c 1
  have hK4_2 := hK4_c 2
  simp at hK4_0 hK4_1 hK4_2
  clear hK4_c
  go_wp2_with fail
  refine (HP1.out _ HT.out.1 HT.out.2).mono ?_
  rintro e z3 ⟨⟨m2, X2, d2, rfl, hsN, htN, _⟩, hb⟩
  have hB := since_step hB hb
  have hK1 := hK1.below hb
  have hK2 := hK2.below hb
  have hK3 := hK3.below hb
  have hK4 := hK4.below hb
  have HT := Lib.hid (And.intro (HT.out.1.below hb) (HT.out.2.below hb))
  have HR1 := Lib.hid (And.intro (HR1.out.1.below hb) (HR1.out.2.below hb))
  clear hb
  clear hK1_l hK1_0 hK1_1 hK2_l hK2_0 hK2_1 hK3_l hK3_0 hK3_1 hK4_l hK4_0 hK4_1 hK4_2
  have HR2 := Lib.hid (And.intro hsN htN)
  clear hsN htN
  clear hK4
  clear HM1 HP1 HF1
  go_wp2_with fail
  by_cases hm0 : mn = 0
  · by_cases hp0 : pn = 0
    · subst hm0
      obtain ⟨hMi, hML⟩ := And.intro (move_is hM) (move_len hM)
      have hM6 := move_in6 hM hgd.2
      have hMc : ∀ g ∈ ML, g.L.length ≤ 900000 := fun g hg => Nat.le_trans (is_len hMi g hg) (by omega)
      have hTM := fun A1 c1 l1 k V hl h1 h2 => htotal_any A1 c1 l1 ML k V hl hMc hM6 h1 h2
      simp only [move_sum hM] at hTM
      have HTM := Lib.hid hTM
      have hMB := fun A1 c1 l1 V hl h1 h2 => hmove_any A1 c1 l1 ML ta tc fa fc V hl hMc h1 h2
      rw [move_back hM] at hMB
      unfold HRes at hMB
      simp only at hMB
      have HMB := Lib.hid hMB
      have HSB := Lib.hid (fun A1 c1 l1 A2 c2 l2 V hl h1 t1 h2 t2 => rhsame_self A1 c1 l1 A2 c2 l2 cs V hl hcl9 h1 t1 h2 t2)
      have hLM := fun A1 c1 l1 V hl h1 h2 => hlots_any A1 c1 l1 ML ta tc V hl hMc h1 h2
      rw [move_to hM] at hLM
      have HLM := Lib.hid hLM
      have HLF := Lib.hid (fun V h1 h2 => hlots_any A c R cs fa fc V hR9 hcl9 h1 h2)
      have hln := lotsH_len hgd.1 fa fc
      have HSL := Lib.hid (fun A1 A2 c1 c2 V h1 h2 => rlsame_any_self A1 A2 c1 c2 (lotsH cs fa fc) V (by omega) h1 h2)
      have HZM : Hid (ML.length ≤ 800000) := Lib.hid (by omega)
      clear hTM hMB hLM hln
      have hLO1 := fun A1 c1 l1 V hl h1 h2 => hlots_any A1 c1 l1 ML oa oc V hl hMc h1 h2
      rw [move_other hM (fun h => hf2.out h.2) (fun h => ht1.out h.1)] at hLO1
      have HLO1 := Lib.hid hLO1
      clear hLO1
      clear hMi hML hM6 hMc
      subst hp0
      obtain ⟨hPi, hP6, hPL⟩ := pass_is hP
      have hP6 := hP6 hgd.2
      have hPc : ∀ g ∈ PL, g.L.length ≤ 900000 := fun g hg => Nat.le_trans (is_len hPi g hg) (by omega)
      have hTP := fun A1 c1 l1 k V hl h1 h2 => htotal_any A1 c1 l1 PL k V hl hPc hP6 h1 h2
      simp only [pass_sum hP] at hTP
      have HTP := Lib.hid hTP
      have HZP : Hid (PL.length ≤ 800000) := Lib.hid (by omega)
      clear hTP
      have hLP := fun A1 c1 l1 V hl h1 h2 => hlots_any A1 c1 l1 PL oa oc V hl hPc h1 h2
      rw [pass_other hP (fun h => hf2.out h.2) (fun h => ht1.out h.1)] at hLP
      have HLP := Lib.hid hLP
      clear hLP
      clear hPi hP6 hPL hPc
      have HLO := Lib.hid (fun V h1 h2 => hlots_any A c R cs oa oc V hR9 hcl9 h1 h2)
      have hlo := lotsH_len hgd.1 oa oc
      have HSO := Lib.hid (fun A1 A2 c1 c2 V h1 h2 => rlsame_any_self A1 A2 c1 c2 (lotsH cs oa oc) V (by omega) h1 h2)
      generalize lotsH cs oa oc = L1 at *
      clear hlo
      generalize lotsH cs fa fc = L0 at *
      have HTL := Lib.hid (fun k V h1 h2 => htotal_any A c R cs k V hR9 hcl9 hgd.2 h1 h2)
      have HZR := Lib.hid hR8
      clear hgd hM hP hR9 hcl9 hR8
      have bf1 : (oa != fa) = false := by rw [hf1.out]; simp
      have bf2 : (oc != fc) = true := by simpa using hf2.out
      have cf1 : (oa == fa) = true := by rw [hf1.out]; simp
      have cf2 : (oc == fc) = false := by simpa using hf2.out
      clear hf1 hf2
      have bt1 : (oa != ta) = true := by simpa using ht1.out
      have ct1 : (oa == ta) = false := by simpa using ht1.out
      clear ht1
      go_loopw [17] (fun iv wr => ∃ k : Nat, 1 ≤ k ∧ k ≤ 5 ∧ iv = .int .i64 k ∧ Below z3.heap.size z3 wr) (fun iv _ => 5 - (intOf iv).toNat)
      case atStart => exact ⟨1, by omega, by omega, rfl, Below.refl _ _⟩
      case round =>
        obtain ⟨k, hk1, hk5, rfl, hbr⟩ := hrel
        by_cases hk : k ≤ 4
        · have hki : (k : Int) ≤ 4 := by omega
          have HTLk := Lib.hid (fun V h1 h2 => HTL.out (k : Int) V h1 h2)
          have HTMk := Lib.hid (fun A1 c1 l1 V hl h1 h2 => HTM.out A1 c1 l1 (k : Int) V hl h1 h2)
          have HTPk := Lib.hid (fun A1 c1 l1 V hl h1 h2 => HTP.out A1 c1 l1 (k : Int) V hl h1 h2)
          obtain ⟨th, hth⟩ : ∃ n, hiN (sumsH cs (k : Int)).sum = n := ⟨_, rfl⟩
          obtain ⟨tl, htl⟩ : ∃ n, loN (sumsH cs (k : Int)).sum = n := ⟨_, rfl⟩
          have hq1 : (th == th) = true := by simp
          have hq2 : (tl == tl) = true := by simp
          rw [hth, htl] at HTLk HTMk HTPk
          clear hth htl HTL HTM HTP
          have hBl := hbr
          have HT := Lib.hid (And.intro (HT.out.1.below hbr) (HT.out.2.below hbr))
          have HR1 := Lib.hid (And.intro (HR1.out.1.below hbr) (HR1.out.2.below hbr))
          have HR2 := Lib.hid (And.intro (HR2.out.1.below hbr) (HR2.out.2.below hbr))
          go_wp2_with fail
          refine (HTMk.out X1 d1 m1 _ (by have := HR1.out.2.1; have := HZM.out; omega) HR1.out.1 HR1.out.2).mono ?_
          rintro e r1 ⟨rfl, hb⟩
          have hBl := since_step hBl hb
          have HT := Lib.hid (And.intro (HT.out.1.below hb) (HT.out.2.below hb))
          have HR1 := Lib.hid (And.intro (HR1.out.1.below hb) (HR1.out.2.below hb))
          have HR2 := Lib.hid (And.intro (HR2.out.1.below hb) (HR2.out.2.below hb))
          clear hb
          go_wp2_with fail
          refine (HTLk.out _ HT.out.1 HT.out.2).mono ?_
          rintro e r2 ⟨rfl, hb⟩
          have hBl := since_step hBl hb
          have HT := Lib.hid (And.intro (HT.out.1.below hb) (HT.out.2.below hb))
          have HR1 := Lib.hid (And.intro (HR1.out.1.below hb) (HR1.out.2.below hb))
          have HR2 := Lib.hid (And.intro (HR2.out.1.below hb) (HR2.out.2.below hb))
          clear hb
          go_wp2_with fail
          refine (HTPk.out X2 d2 m2 _ (by have := HR2.out.2.1; have := HZP.out; omega) HR2.out.1 HR2.out.2).mono ?_
          rintro e r3 ⟨rfl, hb⟩
          have hBl := since_step hBl hb
          have HT := Lib.hid (And.intro (HT.out.1.below hb) (HT.out.2.below hb))
          have HR1 := Lib.hid (And.intro (HR1.out.1.below hb) (HR1.out.2.below hb))
          have HR2 := Lib.hid (And.intro (HR2.out.1.below hb) (HR2.out.2.below hb))
          clear hb
          go_wp2_with fail
          refine (HTLk.out _ HT.out.1 HT.out.2).mono ?_
          rintro e r4 ⟨rfl, hb⟩
          have hBl := since_step hBl hb
          have HT := Lib.hid (And.intro (HT.out.1.below hb) (HT.out.2.below hb))
          have HR1 := Lib.hid (And.intro (HR1.out.1.below hb) (HR1.out.2.below hb))
          have HR2 := Lib.hid (And.intro (HR2.out.1.below hb) (HR2.out.2.below hb))
          clear hb
          go_wp2_with fail
          go_roundw
          case rel => exact ⟨k + 1, by omega, by omega, by go_num, hBl⟩
          case measure => simp [intOf]; omega
        · have hki : ¬ ((k : Int) ≤ 4) := by omega
          have hB := since_step hB hbr
          have hK1 := hK1.below hbr
          have hK2 := hK2.below hbr
          have hK3 := hK3.below hbr
          have HT := Lib.hid (And.intro (HT.out.1.below hbr) (HT.out.2.below hbr))
          have HR1 := Lib.hid (And.intro (HR1.out.1.below hbr) (HR1.out.2.below hbr))
          have HR2 := Lib.hid (And.intro (HR2.out.1.below hbr) (HR2.out.2.below hbr))
          clear hbr HTL HTM HTP
          obtain ⟨hK1_l, hK1_c⟩ := id hK1
          have hK1_0 := hK1_c 0
          have hK1_1 := hK1_c 1
          simp at hK1_0 hK1_1
          clear hK1_c
          obtain ⟨hK2_l, hK2_c⟩ := id hK2
          have hK2_0 := hK2_c 0
          have hK2_1 := hK2_c 1
          simp at hK2_0 hK2_1
          clear hK2_c
          obtain ⟨hK3_l, hK3_c⟩ := id hK3
          have hK3_0 := hK3_c 0
          have hK3_1 := hK3_c 1
          simp at hK3_0 hK3_1
          clear hK3_c
          go_wp2_with fail
          refine (HMB.out X1 d1 m1 _ (by have := HR1.out.2.1; have := HZM.out; omega) HR1.out.1 HR1.out.2).mono ?_
          rintro e q1 ⟨⟨m3, X3, d3, rfl, hsN, htN, _⟩, hb⟩
          have hB := since_step hB hb
          have hK1 := hK1.below hb
          have hK2 := hK2.below hb
          have hK3 := hK3.below hb
          have HT := Lib.hid (And.intro (HT.out.1.below hb) (HT.out.2.below hb))
          have HR1 := Lib.hid (And.intro (HR1.out.1.below hb) (HR1.out.2.below hb))
          have HR2 := Lib.hid (And.intro (HR2.out.1.below hb) (HR2.out.2.below hb))
          clear hb
          clear hK1_l hK1_0 hK1_1 hK2_l hK2_0 hK2_1 hK3_l hK3_0 hK3_1
          have HR3 := Lib.hid (And.intro hsN htN)
          have HZ3 : Hid (m3.length ≤ 900000) := Lib.hid (by have h3 := htN.1; have h4 := HT.out.2.1; have := HZR.out; omega)
          clear hsN htN
          obtain ⟨hK1_l, hK1_c⟩ := id hK1
          have hK1_0 := hK1_c 0
          have hK1_1 := hK1_c 1
          simp at hK1_0 hK1_1
          clear hK1_c
          obtain ⟨hK2_l, hK2_c⟩ := id hK2
          have hK2_0 := hK2_c 0
          have hK2_1 := hK2_c 1
          simp at hK2_0 hK2_1
          clear hK2_c
          obtain ⟨hK3_l, hK3_c⟩ := id hK3
          have hK3_0 := hK3_c 0
          have hK3_1 := hK3_c 1
          simp at hK3_0 hK3_1
          clear hK3_c
          go_upto_region 12 with fail
          clear hK1_l hK1_0 hK1_1 hK2_l hK2_0 hK2_1 hK3_l hK3_0 hK3_1
          have HC : Hid (∀ V, Below q1.heap.size q1 V → (V.cell? ⟨w.heap.size, 0, none⟩ = some (.int .i64 fa) ∧ V.cell? ⟨w.heap.size, 1, none⟩ = some (.int .i64 fc)) ∧ (V.cell? ⟨w.heap.size + 1, 0, none⟩ = some (.int .i64 ta) ∧ V.cell? ⟨w.heap.size + 1, 1, none⟩ = some (.int .i64 tc)) ∧ (V.cell? ⟨w.heap.size + 1 + 1, 0, none⟩ = some (.int .i64 oa) ∧ V.cell? ⟨w.heap.size + 1 + 1, 1, none⟩ = some (.int .i64 oc))) := Lib.hid fun V h => ⟨⟨(hK1.below h).2 0, (hK1.below h).2 1⟩, ⟨(hK2.below h).2 0, (hK2.below h).2 1⟩, ⟨(hK3.below h).2 0, (hK3.below h).2 1⟩⟩
          have HR0 : Hid (∀ V, Below q1.heap.size q1 V → Sl V A (rc Hd.cells R) ∧ HdTab V R cs) := Lib.hid fun V h => ⟨HT.out.1.below h, HT.out.2.below h⟩
          have HRA : Hid (∀ V, Below q1.heap.size q1 V → Sl V X1 (rc Hd.cells m1) ∧ HdTab V m1 ML) := Lib.hid fun V h => ⟨HR1.out.1.below h, HR1.out.2.below h⟩
          have HRB : Hid (∀ V, Below q1.heap.size q1 V → Sl V X2 (rc Hd.cells m2) ∧ HdTab V m2 PL) := Lib.hid fun V h => ⟨HR2.out.1.below h, HR2.out.2.below h⟩
          have hszU := hB.size
          have HRC : Hid (∀ V, Below q1.heap.size q1 V → Sl V X3 (rc Hd.cells m3) ∧ HdTab V m3 cs) := Lib.hid fun V h => ⟨HR3.out.1.below h, HR3.out.2.below h⟩
          clear hK1 hK2 hK3 HT HR1 HR2 HR3
          go_wp2_with fail
          refine wp_region_held_drew (S := (fun V => Below q1.heap.size q1 V)) (by kernel_rfl) (by exact (Below.refl _ _).drew) (fun hHeld => ?_)
          refine wpAnyH_take (i := 0) (oi := { dst := some 84, op := _, type := _, pos := _, after := _, guard := _ }) (v := ?_) rfl (by kernel_rfl) (by kernel_rfl) (by kernel_rfl) (fun _ _ _ h => h) (Or.inl ⟨by rfl, ?_⟩) hHeld ?_
          rotate_left
          · (intro w hSw; clear hSw; go_simp <;> with_reducible rfl)
          try simp only [Act.put, List.setIfInBounds_toArray, List.set_cons_zero, List.set_cons_succ]
          refine wpAnyH_take (i := 1) (oi := { dst := some 85, op := _, type := _, pos := _, after := _, guard := _ }) (v := ?_) rfl (by kernel_rfl) (by kernel_rfl) (by kernel_rfl) (fun _ _ _ h => h) (Or.inl ⟨by rfl, ?_⟩) hHeld ?_
          rotate_left
          · (intro w hSw; clear hSw; go_simp <;> with_reducible rfl)
          try simp only [Act.put, List.setIfInBounds_toArray, List.set_cons_zero, List.set_cons_succ]
          refine wpAnyH_take (i := 2) (oi := { dst := some 86, op := _, type := _, pos := _, after := _, guard := _ }) (v := ?_) rfl (by kernel_rfl) (by kernel_rfl) (by kernel_rfl) (fun _ _ _ h => h) (Or.inl ⟨by rfl, ?_⟩) hHeld ?_
          rotate_left
          · (intro w hSw; clear hSw; go_simp <;> with_reducible rfl)
          try simp only [Act.put, List.setIfInBounds_toArray, List.set_cons_zero, List.set_cons_succ]
          refine wpAnyH_take (i := 3) (oi := { dst := some 87, op := _, type := _, pos := _, after := _, guard := _ }) (v := ?_) rfl (by kernel_rfl) (by kernel_rfl) (by kernel_rfl) (fun _ _ _ h => h) (Or.inl ⟨by rfl, ?_⟩) hHeld ?_
          rotate_left
          · (intro w hSw; clear hSw; go_simp <;> with_reducible rfl)
          try simp only [Act.put, List.setIfInBounds_toArray, List.set_cons_zero, List.set_cons_succ]
          refine wpAnyH_take (i := 4) (oi := { dst := some 88, op := _, type := _, pos := _, after := _, guard := _ }) (v := ?_) rfl (by kernel_rfl) (by kernel_rfl) (by kernel_rfl) (fun _ _ _ h => h) (Or.inl ⟨by rfl, ?_⟩) hHeld ?_
          rotate_left
          · (intro w hSw; clear hSw; go_simp <;> with_reducible rfl)
          try simp only [Act.put, List.setIfInBounds_toArray, List.set_cons_zero, List.set_cons_succ]
          refine wpAnyH_ready (rs := [5]) (by kernel_rfl) (by simp) ?_
          refine AllReadyH.cons (o := { dst := some 89, op := _, type := _, pos := _, after := _, guard := _ }) rfl (fun K hK => ?_) AllReadyH.nil
          go_simp
          refine (HSB.out _ _ _ _ _ _ _ HZ3.out (HRC.out _ hHeld).1 (HRC.out _ hHeld).2 (HR0.out _ hHeld).1 (HR0.out _ hHeld).2).mono ?_
          rintro e x1 ⟨rfl, hk1⟩
          have hKeep := since_step hHeld hk1
          go_wp2_with fail
          refine hK.out _ _ (by (try dsimp only); exact hKeep) (fun hHeld => ?_)
          clear hK K hKeep
          try simp only [Act.put, List.setIfInBounds_toArray, List.set_cons_zero, List.set_cons_succ]
          refine wpAnyH_take (i := 6) (oi := { dst := some 90, op := _, type := _, pos := _, after := _, guard := _ }) (v := ?_) rfl (by kernel_rfl) (by kernel_rfl) (by kernel_rfl) (fun _ _ _ h => h) (Or.inl ⟨by rfl, ?_⟩) hHeld ?_
          rotate_left
          · (intro w hSw; clear hSw; go_simp <;> with_reducible rfl)
          try simp only [Act.put, List.setIfInBounds_toArray, List.set_cons_zero, List.set_cons_succ]
          refine wpAnyH_take (i := 7) (oi := { dst := some 91, op := _, type := _, pos := _, after := _, guard := _ }) (v := ?_) rfl (by kernel_rfl) (by kernel_rfl) (by kernel_rfl) (fun _ _ _ h => h) (Or.inl ⟨by rfl, ?_⟩) hHeld ?_
          rotate_left
          · (intro w hSw; clear hSw; go_simp <;> with_reducible rfl)
          try simp only [Act.put, List.setIfInBounds_toArray, List.set_cons_zero, List.set_cons_succ]
          refine wpAnyH_take (i := 8) (oi := { dst := some 92, op := _, type := _, pos := _, after := _, guard := _ }) (v := ?_) rfl (by kernel_rfl) (by kernel_rfl) (by kernel_rfl) (fun _ _ _ h => h) (Or.inl ⟨by rfl, ?_⟩) hHeld ?_
          rotate_left
          · (intro w hSw; clear hSw; go_simp <;> with_reducible rfl)
          try simp only [Act.put, List.setIfInBounds_toArray, List.set_cons_zero, List.set_cons_succ]
          refine wpAnyH_take (i := 9) (oi := { dst := some 93, op := _, type := _, pos := _, after := _, guard := _ }) (v := ?_) rfl (by kernel_rfl) (by kernel_rfl) (by kernel_rfl) (fun _ _ _ h => h) (Or.inl ⟨by rfl, ?_⟩) hHeld ?_
          rotate_left
          · (intro w hSw; clear hSw; go_simp <;> with_reducible rfl)
          try simp only [Act.put, List.setIfInBounds_toArray, List.set_cons_zero, List.set_cons_succ]
          refine wpAnyH_take (i := 10) (oi := { dst := some 94, op := _, type := _, pos := _, after := _, guard := _ }) (v := ?_) rfl (by kernel_rfl) (by kernel_rfl) (by kernel_rfl) (fun _ _ _ h => h) (Or.inl ⟨by rfl, ?_⟩) hHeld ?_
          rotate_left
          · (intro w hSw; obtain ⟨⟨p0, p1⟩, ⟨p2, p3⟩, ⟨p4, p5⟩⟩ := HC.out _ hSw; go_simp <;> with_reducible rfl)
          try simp only [Act.put, List.setIfInBounds_toArray, List.set_cons_zero, List.set_cons_succ]
          refine wpAnyH_take (i := 12) (oi := { dst := some 96, op := _, type := _, pos := _, after := _, guard := _ }) (v := ?_) rfl (by kernel_rfl) (by kernel_rfl) (by kernel_rfl) (fun _ _ _ h => h) (Or.inl ⟨by rfl, ?_⟩) hHeld ?_
          rotate_left
          · (intro w hSw; clear hSw; go_simp <;> with_reducible rfl)
          try simp only [Act.put, List.setIfInBounds_toArray, List.set_cons_zero, List.set_cons_succ]
          refine wpAnyH_take (i := 13) (oi := { dst := some 97, op := _, type := _, pos := _, after := _, guard := _ }) (v := ?_) rfl (by kernel_rfl) (by kernel_rfl) (by kernel_rfl) (fun _ _ _ h => h) (Or.inl ⟨by rfl, ?_⟩) hHeld ?_
          rotate_left
          · (intro w hSw; obtain ⟨⟨p0, p1⟩, ⟨p2, p3⟩, ⟨p4, p5⟩⟩ := HC.out _ hSw; go_simp <;> with_reducible rfl)
          try simp only [Act.put, List.setIfInBounds_toArray, List.set_cons_zero, List.set_cons_succ]
          refine wpAnyH_ready (rs := [11]) (by kernel_rfl) (by simp) ?_
          refine AllReadyH.cons (o := { dst := some 95, op := _, type := _, pos := _, after := _, guard := _ }) rfl (fun K hK => ?_) AllReadyH.nil
          go_simp
          refine (HLM.out X1 d1 m1 _ (by have := (show HdTab _ _ _ from (HRA.out _ hHeld).2).1; have := HZM.out; omega) (HRA.out _ hHeld).1 (HRA.out _ hHeld).2).mono ?_
          rintro e x2 ⟨⟨A4, c4, rfl, o4⟩, hk2⟩
          have hKeep := since_step hHeld hk2
          have h4 := Sl.of_own o4
          clear o4
          go_wp2_with fail
          refine hK.out _ _ (by (try dsimp only); exact hKeep) (fun hHeld => ?_)
          clear hK K hKeep
          try simp only [Act.put, List.setIfInBounds_toArray, List.set_cons_zero, List.set_cons_succ]
          refine wpAnyH_ready (rs := [14]) (by kernel_rfl) (by simp) ?_
          refine AllReadyH.cons (o := { dst := some 98, op := _, type := _, pos := _, after := _, guard := _ }) rfl (fun K hK => ?_) AllReadyH.nil
          go_simp
          refine (HLF.out _ (HR0.out _ hHeld).1 (HR0.out _ hHeld).2).mono ?_
          rintro e x3 ⟨⟨A5, c5, rfl, o5⟩, hk3⟩
          have hKeep := since_step hHeld hk3
          have h4 := h4.below hk3
          have h5 := Sl.of_own o5
          clear o5
          go_wp2_with fail
          refine hK.out _ _ (by (try dsimp only); exact hKeep) (fun hHeld => ?_)
          clear hK K hKeep
          try simp only [Act.put, List.setIfInBounds_toArray, List.set_cons_zero, List.set_cons_succ]
          refine wpAnyH_ready (rs := [15]) (by kernel_rfl) (by simp) ?_
          refine AllReadyH.cons (o := { dst := some 99, op := _, type := _, pos := _, after := _, guard := _ }) rfl (fun K hK => ?_) AllReadyH.nil
          go_simp
          refine (HSL.out A4 A5 c4 c5 _ h4 h5).mono ?_
          rintro e x4 ⟨rfl, hk4⟩
          have hKeep := since_step hHeld hk4
          clear h4 h5
          go_wp2_with fail
          refine hK.out _ _ (by (try dsimp only); exact hKeep) (fun hHeld => ?_)
          clear hK K hKeep
          try simp only [Act.put, List.setIfInBounds_toArray, List.set_cons_zero, List.set_cons_succ]
          refine wpAnyH_take (i := 16) (oi := { dst := some 100, op := _, type := _, pos := _, after := _, guard := _ }) (v := ?_) rfl (by kernel_rfl) (by kernel_rfl) (by kernel_rfl) (fun _ _ _ h => h) (Or.inl ⟨by rfl, ?_⟩) hHeld ?_
          rotate_left
          · (intro w hSw; clear hSw; go_simp <;> with_reducible rfl)
          try simp only [Act.put, List.setIfInBounds_toArray, List.set_cons_zero, List.set_cons_succ]
          refine wpAnyH_take (i := 17) (oi := { dst := some 101, op := _, type := _, pos := _, after := _, guard := _ }) (v := ?_) rfl (by kernel_rfl) (by kernel_rfl) (by kernel_rfl) (fun _ _ _ h => h) (Or.inl ⟨by rfl, ?_⟩) hHeld ?_
          rotate_left
          · (intro w hSw; clear hSw; go_simp <;> with_reducible rfl)
          try simp only [Act.put, List.setIfInBounds_toArray, List.set_cons_zero, List.set_cons_succ]
          refine wpAnyH_take (i := 18) (oi := { dst := some 102, op := _, type := _, pos := _, after := _, guard := _ }) (v := ?_) rfl (by kernel_rfl) (by kernel_rfl) (by kernel_rfl) (fun _ _ _ h => h) (Or.inl ⟨by rfl, ?_⟩) hHeld ?_
          rotate_left
          · (intro w hSw; clear hSw; go_simp <;> with_reducible rfl)
          try simp only [Act.put, List.setIfInBounds_toArray, List.set_cons_zero, List.set_cons_succ]
          refine wpAnyH_take (i := 19) (oi := { dst := some 103, op := _, type := _, pos := _, after := _, guard := _ }) (v := ?_) rfl (by kernel_rfl) (by kernel_rfl) (by kernel_rfl) (fun _ _ _ h => h) (Or.inl ⟨by rfl, ?_⟩) hHeld ?_
          rotate_left
          · (intro w hSw; clear hSw; go_simp <;> with_reducible rfl)
          try simp only [Act.put, List.setIfInBounds_toArray, List.set_cons_zero, List.set_cons_succ]
          refine wpAnyH_take (i := 20) (oi := { dst := some 104, op := _, type := _, pos := _, after := _, guard := _ }) (v := ?_) rfl (by kernel_rfl) (by kernel_rfl) (by kernel_rfl) (fun _ _ _ h => h) (Or.inl ⟨by rfl, ?_⟩) hHeld ?_
          rotate_left
          · (intro w hSw; clear hSw; go_simp <;> with_reducible rfl)
          try simp only [Act.put, List.setIfInBounds_toArray, List.set_cons_zero, List.set_cons_succ]
          refine wpAnyH_take (i := 21) (oi := { dst := some 105, op := _, type := _, pos := _, after := _, guard := _ }) (v := ?_) rfl (by kernel_rfl) (by kernel_rfl) (by kernel_rfl) (fun _ _ _ h => h) (Or.inl ⟨by rfl, ?_⟩) hHeld ?_
          rotate_left
          · (intro w hSw; clear hSw; go_simp <;> with_reducible rfl)
          try simp only [Act.put, List.setIfInBounds_toArray, List.set_cons_zero, List.set_cons_succ]
          refine wpAnyH_take (i := 22) (oi := { dst := some 106, op := _, type := _, pos := _, after := _, guard := _ }) (v := ?_) rfl (by kernel_rfl) (by kernel_rfl) (by kernel_rfl) (fun _ _ _ h => h) (Or.inl ⟨by rfl, ?_⟩) hHeld ?_
          rotate_left
          · (intro w hSw; obtain ⟨⟨p0, p1⟩, ⟨p2, p3⟩, ⟨p4, p5⟩⟩ := HC.out _ hSw; go_simp <;> with_reducible rfl)
          try simp only [Act.put, List.setIfInBounds_toArray, List.set_cons_zero, List.set_cons_succ]
          refine wpAnyH_take (i := 24) (oi := { dst := some 108, op := _, type := _, pos := _, after := _, guard := _ }) (v := ?_) rfl (by kernel_rfl) (by kernel_rfl) (by kernel_rfl) (fun _ _ _ h => h) (Or.inl ⟨by rfl, ?_⟩) hHeld ?_
          rotate_left
          · (intro w hSw; clear hSw; go_simp <;> with_reducible rfl)
          try simp only [Act.put, List.setIfInBounds_toArray, List.set_cons_zero, List.set_cons_succ]
          refine wpAnyH_take (i := 25) (oi := { dst := some 109, op := _, type := _, pos := _, after := _, guard := _ }) (v := ?_) rfl (by kernel_rfl) (by kernel_rfl) (by kernel_rfl) (fun _ _ _ h => h) (Or.inl ⟨by rfl, ?_⟩) hHeld ?_
          rotate_left
          · (intro w hSw; obtain ⟨⟨p0, p1⟩, ⟨p2, p3⟩, ⟨p4, p5⟩⟩ := HC.out _ hSw; go_simp <;> with_reducible rfl)
          try simp only [Act.put, List.setIfInBounds_toArray, List.set_cons_zero, List.set_cons_succ]
          refine wpAnyH_ready (rs := [23]) (by kernel_rfl) (by simp) ?_
          refine AllReadyH.cons (o := { dst := some 107, op := _, type := _, pos := _, after := _, guard := _ }) rfl (fun K hK => ?_) AllReadyH.nil
          go_simp
          refine (HLO1.out X1 d1 m1 _ (by have := (show HdTab _ _ _ from (HRA.out _ hHeld).2).1; have := HZM.out; omega) (HRA.out _ hHeld).1 (HRA.out _ hHeld).2).mono ?_
          rintro e x5 ⟨⟨A6, c6, rfl, o6⟩, hk5⟩
          have hKeep := since_step hHeld hk5
          have h6 := Sl.of_own o6
          clear o6
          go_wp2_with fail
          refine hK.out _ _ (by (try dsimp only); exact hKeep) (fun hHeld => ?_)
          clear hK K hKeep
          try simp only [Act.put, List.setIfInBounds_toArray, List.set_cons_zero, List.set_cons_succ]
          refine wpAnyH_ready (rs := [26]) (by kernel_rfl) (by simp) ?_
          refine AllReadyH.cons (o := { dst := some 110, op := _, type := _, pos := _, after := _, guard := _ }) rfl (fun K hK => ?_) AllReadyH.nil
          go_simp
          refine (HLO.out _ (HR0.out _ hHeld).1 (HR0.out _ hHeld).2).mono ?_
          rintro e x6 ⟨⟨A7, c7, rfl, o7⟩, hk6⟩
          have hKeep := since_step hHeld hk6
          have h6 := h6.below hk6
          have h7 := Sl.of_own o7
          clear o7
          go_wp2_with fail
          refine hK.out _ _ (by (try dsimp only); exact hKeep) (fun hHeld => ?_)
          clear hK K hKeep
          try simp only [Act.put, List.setIfInBounds_toArray, List.set_cons_zero, List.set_cons_succ]
          refine wpAnyH_ready (rs := [27]) (by kernel_rfl) (by simp) ?_
          refine AllReadyH.cons (o := { dst := some 111, op := _, type := _, pos := _, after := _, guard := _ }) rfl (fun K hK => ?_) AllReadyH.nil
          go_simp
          refine (HSO.out A6 A7 c6 c7 _ h6 h7).mono ?_
          rintro e x7 ⟨rfl, hk7⟩
          have hKeep := since_step hHeld hk7
          clear h6 h7
          go_wp2_with fail
          refine hK.out _ _ (by (try dsimp only); exact hKeep) (fun hHeld => ?_)
          clear hK K hKeep
          try simp only [Act.put, List.setIfInBounds_toArray, List.set_cons_zero, List.set_cons_succ]
          refine wpAnyH_take (i := 28) (oi := { dst := some 112, op := _, type := _, pos := _, after := _, guard := _ }) (v := ?_) rfl (by kernel_rfl) (by kernel_rfl) (by kernel_rfl) (fun _ _ _ h => h) (Or.inl ⟨by rfl, ?_⟩) hHeld ?_
          rotate_left
          · (intro w hSw; clear hSw; go_simp <;> with_reducible rfl)
          try simp only [Act.put, List.setIfInBounds_toArray, List.set_cons_zero, List.set_cons_succ]
          refine wpAnyH_take (i := 29) (oi := { dst := some 113, op := _, type := _, pos := _, after := _, guard := _ }) (v := ?_) rfl (by kernel_rfl) (by kernel_rfl) (by kernel_rfl) (fun _ _ _ h => h) (Or.inl ⟨by rfl, ?_⟩) hHeld ?_
          rotate_left
          · (intro w hSw; clear hSw; go_simp <;> with_reducible rfl)
          try simp only [Act.put, List.setIfInBounds_toArray, List.set_cons_zero, List.set_cons_succ]
          refine wpAnyH_take (i := 30) (oi := { dst := some 114, op := _, type := _, pos := _, after := _, guard := _ }) (v := ?_) rfl (by kernel_rfl) (by kernel_rfl) (by kernel_rfl) (fun _ _ _ h => h) (Or.inl ⟨by rfl, ?_⟩) hHeld ?_
          rotate_left
          · (intro w hSw; clear hSw; go_simp <;> with_reducible rfl)
          try simp only [Act.put, List.setIfInBounds_toArray, List.set_cons_zero, List.set_cons_succ]
          refine wpAnyH_done (by kernel_rfl) ?_ _
          have hB := hB.trans (hHeld.mono hszU)
          have hHX := hHeld
          clear HRC hHeld
          go_upto_region 14 with fail
          have HC := Lib.hid (fun V (h : Below x7.heap.size x7 V) => HC.out V (since_step hHX h))
          have HR0 := Lib.hid (fun V (h : Below x7.heap.size x7 V) => HR0.out V (since_step hHX h))
          have HRA := Lib.hid (fun V (h : Below x7.heap.size x7 V) => HRA.out V (since_step hHX h))
          have HRB := Lib.hid (fun V (h : Below x7.heap.size x7 V) => HRB.out V (since_step hHX h))
          have hszU := hB.size
          clear hHX
          go_wp2_with fail
          refine wp_region_held_drew (S := (fun V => Below x7.heap.size x7 V)) (by kernel_rfl) (by exact (Below.refl _ _).drew) (fun hHeld => ?_)
          refine wpAnyH_take (i := 0) (oi := { dst := some 115, op := _, type := _, pos := _, after := _, guard := _ }) (v := ?_) rfl (by kernel_rfl) (by kernel_rfl) (by kernel_rfl) (fun _ _ _ h => h) (Or.inl ⟨by rfl, ?_⟩) hHeld ?_
          rotate_left
          · (intro w hSw; clear hSw; go_simp <;> with_reducible rfl)
          try simp only [Act.put, List.setIfInBounds_toArray, List.set_cons_zero, List.set_cons_succ]
          refine wpAnyH_take (i := 1) (oi := { dst := some 116, op := _, type := _, pos := _, after := _, guard := _ }) (v := ?_) rfl (by kernel_rfl) (by kernel_rfl) (by kernel_rfl) (fun _ _ _ h => h) (Or.inl ⟨by rfl, ?_⟩) hHeld ?_
          rotate_left
          · (intro w hSw; clear hSw; go_simp <;> with_reducible rfl)
          try simp only [Act.put, List.setIfInBounds_toArray, List.set_cons_zero, List.set_cons_succ]
          refine wpAnyH_take (i := 2) (oi := { dst := some 117, op := _, type := _, pos := _, after := _, guard := _ }) (v := ?_) rfl (by kernel_rfl) (by kernel_rfl) (by kernel_rfl) (fun _ _ _ h => h) (Or.inl ⟨by rfl, ?_⟩) hHeld ?_
          rotate_left
          · (intro w hSw; clear hSw; go_simp <;> with_reducible rfl)
          try simp only [Act.put, List.setIfInBounds_toArray, List.set_cons_zero, List.set_cons_succ]
          refine wpAnyH_take (i := 3) (oi := { dst := some 118, op := _, type := _, pos := _, after := _, guard := _ }) (v := ?_) rfl (by kernel_rfl) (by kernel_rfl) (by kernel_rfl) (fun _ _ _ h => h) (Or.inl ⟨by rfl, ?_⟩) hHeld ?_
          rotate_left
          · (intro w hSw; clear hSw; go_simp <;> with_reducible rfl)
          try simp only [Act.put, List.setIfInBounds_toArray, List.set_cons_zero, List.set_cons_succ]
          refine wpAnyH_take (i := 4) (oi := { dst := some 119, op := _, type := _, pos := _, after := _, guard := _ }) (v := ?_) rfl (by kernel_rfl) (by kernel_rfl) (by kernel_rfl) (fun _ _ _ h => h) (Or.inl ⟨by rfl, ?_⟩) hHeld ?_
          rotate_left
          · (intro w hSw; clear hSw; go_simp <;> with_reducible rfl)
          try simp only [Act.put, List.setIfInBounds_toArray, List.set_cons_zero, List.set_cons_succ]
          refine wpAnyH_take (i := 5) (oi := { dst := some 120, op := _, type := _, pos := _, after := _, guard := _ }) (v := ?_) rfl (by kernel_rfl) (by kernel_rfl) (by kernel_rfl) (fun _ _ _ h => h) (Or.inl ⟨by rfl, ?_⟩) hHeld ?_
          rotate_left
          · (intro w hSw; clear hSw; go_simp <;> with_reducible rfl)
          try simp only [Act.put, List.setIfInBounds_toArray, List.set_cons_zero, List.set_cons_succ]
          refine wpAnyH_take (i := 6) (oi := { dst := some 121, op := _, type := _, pos := _, after := _, guard := _ }) (v := ?_) rfl (by kernel_rfl) (by kernel_rfl) (by kernel_rfl) (fun _ _ _ h => h) (Or.inl ⟨by rfl, ?_⟩) hHeld ?_
          rotate_left
          · (intro w hSw; clear hSw; go_simp <;> with_reducible rfl)
          try simp only [Act.put, List.setIfInBounds_toArray, List.set_cons_zero, List.set_cons_succ]
          refine wpAnyH_take (i := 7) (oi := { dst := some 122, op := _, type := _, pos := _, after := _, guard := _ }) (v := ?_) rfl (by kernel_rfl) (by kernel_rfl) (by kernel_rfl) (fun _ _ _ h => h) (Or.inl ⟨by rfl, ?_⟩) hHeld ?_
          rotate_left
          · (intro w hSw; clear hSw; go_simp <;> with_reducible rfl)
          try simp only [Act.put, List.setIfInBounds_toArray, List.set_cons_zero, List.set_cons_succ]
          refine wpAnyH_take (i := 8) (oi := { dst := some 123, op := _, type := _, pos := _, after := _, guard := _ }) (v := ?_) rfl (by kernel_rfl) (by kernel_rfl) (by kernel_rfl) (fun _ _ _ h => h) (Or.inl ⟨by rfl, ?_⟩) hHeld ?_
          rotate_left
          · (intro w hSw; obtain ⟨⟨p0, p1⟩, ⟨p2, p3⟩, ⟨p4, p5⟩⟩ := HC.out _ hSw; go_simp <;> with_reducible rfl)
          try simp only [Act.put, List.setIfInBounds_toArray, List.set_cons_zero, List.set_cons_succ]
          refine wpAnyH_take (i := 10) (oi := { dst := some 125, op := _, type := _, pos := _, after := _, guard := _ }) (v := ?_) rfl (by kernel_rfl) (by kernel_rfl) (by kernel_rfl) (fun _ _ _ h => h) (Or.inl ⟨by rfl, ?_⟩) hHeld ?_
          rotate_left
          · (intro w hSw; clear hSw; go_simp <;> with_reducible rfl)
          try simp only [Act.put, List.setIfInBounds_toArray, List.set_cons_zero, List.set_cons_succ]
          refine wpAnyH_take (i := 11) (oi := { dst := some 126, op := _, type := _, pos := _, after := _, guard := _ }) (v := ?_) rfl (by kernel_rfl) (by kernel_rfl) (by kernel_rfl) (fun _ _ _ h => h) (Or.inl ⟨by rfl, ?_⟩) hHeld ?_
          rotate_left
          · (intro w hSw; obtain ⟨⟨p0, p1⟩, ⟨p2, p3⟩, ⟨p4, p5⟩⟩ := HC.out _ hSw; go_simp <;> with_reducible rfl)
          try simp only [Act.put, List.setIfInBounds_toArray, List.set_cons_zero, List.set_cons_succ]
          refine wpAnyH_ready (rs := [9]) (by kernel_rfl) (by simp) ?_
          refine AllReadyH.cons (o := { dst := some 124, op := _, type := _, pos := _, after := _, guard := _ }) rfl (fun K hK => ?_) AllReadyH.nil
          go_simp
          refine (HLP.out X2 d2 m2 _ (by have := (show HdTab _ _ _ from (HRB.out _ hHeld).2).1; have := HZP.out; omega) (HRB.out _ hHeld).1 (HRB.out _ hHeld).2).mono ?_
          rintro e y1 ⟨⟨A8, c8, rfl, o8⟩, hk1⟩
          have hKeep := since_step hHeld hk1
          have h8 := Sl.of_own o8
          clear o8
          go_wp2_with fail
          refine hK.out _ _ (by (try dsimp only); exact hKeep) (fun hHeld => ?_)
          clear hK K hKeep
          try simp only [Act.put, List.setIfInBounds_toArray, List.set_cons_zero, List.set_cons_succ]
          refine wpAnyH_ready (rs := [12]) (by kernel_rfl) (by simp) ?_
          refine AllReadyH.cons (o := { dst := some 127, op := _, type := _, pos := _, after := _, guard := _ }) rfl (fun K hK => ?_) AllReadyH.nil
          go_simp
          refine (HLO.out _ (HR0.out _ hHeld).1 (HR0.out _ hHeld).2).mono ?_
          rintro e y2 ⟨⟨A9, c9, rfl, o9⟩, hk2⟩
          have hKeep := since_step hHeld hk2
          have h8 := h8.below hk2
          have h9 := Sl.of_own o9
          clear o9
          go_wp2_with fail
          refine hK.out _ _ (by (try dsimp only); exact hKeep) (fun hHeld => ?_)
          clear hK K hKeep
          try simp only [Act.put, List.setIfInBounds_toArray, List.set_cons_zero, List.set_cons_succ]
          refine wpAnyH_ready (rs := [13]) (by kernel_rfl) (by simp) ?_
          refine AllReadyH.cons (o := { dst := some 128, op := _, type := _, pos := _, after := _, guard := _ }) rfl (fun K hK => ?_) AllReadyH.nil
          go_simp
          refine (HSO.out A8 A9 c8 c9 _ h8 h9).mono ?_
          rintro e y3 ⟨rfl, hk3⟩
          have hKeep := since_step hHeld hk3
          clear h8 h9
          go_wp2_with fail
          refine hK.out _ _ (by (try dsimp only); exact hKeep) (fun hHeld => ?_)
          clear hK K hKeep
          try simp only [Act.put, List.setIfInBounds_toArray, List.set_cons_zero, List.set_cons_succ]
          refine wpAnyH_take (i := 14) (oi := { dst := some 129, op := _, type := _, pos := _, after := _, guard := _ }) (v := ?_) rfl (by kernel_rfl) (by kernel_rfl) (by kernel_rfl) (fun _ _ _ h => h) (Or.inl ⟨by rfl, ?_⟩) hHeld ?_
          rotate_left
          · (intro w hSw; clear hSw; go_simp <;> with_reducible rfl)
          try simp only [Act.put, List.setIfInBounds_toArray, List.set_cons_zero, List.set_cons_succ]
          refine wpAnyH_take (i := 15) (oi := { dst := some 130, op := _, type := _, pos := _, after := _, guard := _ }) (v := ?_) rfl (by kernel_rfl) (by kernel_rfl) (by kernel_rfl) (fun _ _ _ h => h) (Or.inl ⟨by rfl, ?_⟩) hHeld ?_
          rotate_left
          · (intro w hSw; clear hSw; go_simp <;> with_reducible rfl)
          try simp only [Act.put, List.setIfInBounds_toArray, List.set_cons_zero, List.set_cons_succ]
          refine wpAnyH_ready (rs := [16]) (by kernel_rfl) (by simp) ?_
          refine AllReadyH.cons (o := { dst := some 131, op := _, type := _, pos := _, after := _, guard := _ }) rfl (fun K hK => ?_) AllReadyH.nil
          go_simp
          refine (HLV.out _).mono ?_
          rintro e y4 ⟨rfl, hk4⟩
          have hKeep := since_step hHeld hk4
          go_wp2_with fail
          refine hK.out _ _ (by (try dsimp only); exact hKeep) (fun hHeld => ?_)
          clear hK K hKeep
          try simp only [Act.put, List.setIfInBounds_toArray, List.set_cons_zero, List.set_cons_succ]
          refine wpAnyH_take (i := 17) (oi := { dst := some 132, op := _, type := _, pos := _, after := _, guard := _ }) (v := ?_) rfl (by kernel_rfl) (by kernel_rfl) (by kernel_rfl) (fun _ _ _ h => h) (Or.inl ⟨by rfl, ?_⟩) hHeld ?_
          rotate_left
          · (intro w hSw; clear hSw; go_simp <;> with_reducible rfl)
          try simp only [Act.put, List.setIfInBounds_toArray, List.set_cons_zero, List.set_cons_succ]
          refine wpAnyH_take (i := 18) (oi := { dst := some 12, op := _, type := _, pos := _, after := _, guard := _ }) (v := ?_) rfl (by kernel_rfl) (by kernel_rfl) (by kernel_rfl) (fun _ _ _ h => h) (Or.inl ⟨by rfl, ?_⟩) hHeld ?_
          rotate_left
          · (intro w hSw; clear hSw; go_simp <;> with_reducible rfl)
          try simp only [Act.put, List.setIfInBounds_toArray, List.set_cons_zero, List.set_cons_succ]
          refine wpAnyH_done (by kernel_rfl) ?_ _
          have hBf := hB.trans (hHeld.mono hszU)
          go_wp2_with fail
          go_ret
          exact ⟨rfl, hBf⟩
    · subst hm0
      obtain ⟨hMi, hML⟩ := And.intro (move_is hM) (move_len hM)
      have hM6 := move_in6 hM hgd.2
      have hMc : ∀ g ∈ ML, g.L.length ≤ 900000 := fun g hg => Nat.le_trans (is_len hMi g hg) (by omega)
      have hTM := fun A1 c1 l1 k V hl h1 h2 => htotal_any A1 c1 l1 ML k V hl hMc hM6 h1 h2
      simp only [move_sum hM] at hTM
      have HTM := Lib.hid hTM
      have hMB := fun A1 c1 l1 V hl h1 h2 => hmove_any A1 c1 l1 ML ta tc fa fc V hl hMc h1 h2
      rw [move_back hM] at hMB
      unfold HRes at hMB
      simp only at hMB
      have HMB := Lib.hid hMB
      have HSB := Lib.hid (fun A1 c1 l1 A2 c2 l2 V hl h1 t1 h2 t2 => rhsame_self A1 c1 l1 A2 c2 l2 cs V hl hcl9 h1 t1 h2 t2)
      have hLM := fun A1 c1 l1 V hl h1 h2 => hlots_any A1 c1 l1 ML ta tc V hl hMc h1 h2
      rw [move_to hM] at hLM
      have HLM := Lib.hid hLM
      have HLF := Lib.hid (fun V h1 h2 => hlots_any A c R cs fa fc V hR9 hcl9 h1 h2)
      have hln := lotsH_len hgd.1 fa fc
      have HSL := Lib.hid (fun A1 A2 c1 c2 V h1 h2 => rlsame_any_self A1 A2 c1 c2 (lotsH cs fa fc) V (by omega) h1 h2)
      have HZM : Hid (ML.length ≤ 800000) := Lib.hid (by omega)
      clear hTM hMB hLM hln
      have hLO1 := fun A1 c1 l1 V hl h1 h2 => hlots_any A1 c1 l1 ML oa oc V hl hMc h1 h2
      rw [move_other hM (fun h => hf2.out h.2) (fun h => ht1.out h.1)] at hLO1
      have HLO1 := Lib.hid hLO1
      clear hLO1
      clear hMi hML hM6 hMc
      have hp1 : (pn == 0) = false := by simpa using hp0
      have hp2 : (pn != 0) = true := by simpa using hp0
      clear hp0
      have HLO := Lib.hid (fun V h1 h2 => hlots_any A c R cs oa oc V hR9 hcl9 h1 h2)
      have hlo := lotsH_len hgd.1 oa oc
      have HSO := Lib.hid (fun A1 A2 c1 c2 V h1 h2 => rlsame_any_self A1 A2 c1 c2 (lotsH cs oa oc) V (by omega) h1 h2)
      generalize lotsH cs oa oc = L1 at *
      clear hlo
      generalize lotsH cs fa fc = L0 at *
      have HTL := Lib.hid (fun k V h1 h2 => htotal_any A c R cs k V hR9 hcl9 hgd.2 h1 h2)
      have HZR := Lib.hid hR8
      clear hgd hM hP hR9 hcl9 hR8
      have bf1 : (oa != fa) = false := by rw [hf1.out]; simp
      have bf2 : (oc != fc) = true := by simpa using hf2.out
      have cf1 : (oa == fa) = true := by rw [hf1.out]; simp
      have cf2 : (oc == fc) = false := by simpa using hf2.out
      clear hf1 hf2
      have bt1 : (oa != ta) = true := by simpa using ht1.out
      have ct1 : (oa == ta) = false := by simpa using ht1.out
      clear ht1
      go_loopw [17] (fun iv wr => ∃ k : Nat, 1 ≤ k ∧ k ≤ 5 ∧ iv = .int .i64 k ∧ Below z3.heap.size z3 wr) (fun iv _ => 5 - (intOf iv).toNat)
      case atStart => exact ⟨1, by omega, by omega, rfl, Below.refl _ _⟩
      case round =>
        obtain ⟨k, hk1, hk5, rfl, hbr⟩ := hrel
        by_cases hk : k ≤ 4
        · have hki : (k : Int) ≤ 4 := by omega
          have HTLk := Lib.hid (fun V h1 h2 => HTL.out (k : Int) V h1 h2)
          have HTMk := Lib.hid (fun A1 c1 l1 V hl h1 h2 => HTM.out A1 c1 l1 (k : Int) V hl h1 h2)
          obtain ⟨th, hth⟩ : ∃ n, hiN (sumsH cs (k : Int)).sum = n := ⟨_, rfl⟩
          obtain ⟨tl, htl⟩ : ∃ n, loN (sumsH cs (k : Int)).sum = n := ⟨_, rfl⟩
          have hq1 : (th == th) = true := by simp
          have hq2 : (tl == tl) = true := by simp
          rw [hth, htl] at HTLk HTMk
          clear hth htl HTL HTM
          have hBl := hbr
          have HT := Lib.hid (And.intro (HT.out.1.below hbr) (HT.out.2.below hbr))
          have HR1 := Lib.hid (And.intro (HR1.out.1.below hbr) (HR1.out.2.below hbr))
          go_wp2_with fail
          refine (HTMk.out X1 d1 m1 _ (by have := HR1.out.2.1; have := HZM.out; omega) HR1.out.1 HR1.out.2).mono ?_
          rintro e r1 ⟨rfl, hb⟩
          have hBl := since_step hBl hb
          have HT := Lib.hid (And.intro (HT.out.1.below hb) (HT.out.2.below hb))
          have HR1 := Lib.hid (And.intro (HR1.out.1.below hb) (HR1.out.2.below hb))
          clear hb
          go_wp2_with fail
          refine (HTLk.out _ HT.out.1 HT.out.2).mono ?_
          rintro e r2 ⟨rfl, hb⟩
          have hBl := since_step hBl hb
          have HT := Lib.hid (And.intro (HT.out.1.below hb) (HT.out.2.below hb))
          have HR1 := Lib.hid (And.intro (HR1.out.1.below hb) (HR1.out.2.below hb))
          clear hb
          go_wp2_with fail
          go_roundw
          case rel => exact ⟨k + 1, by omega, by omega, by go_num, hBl⟩
          case measure => simp [intOf]; omega
        · have hki : ¬ ((k : Int) ≤ 4) := by omega
          have hB := since_step hB hbr
          have hK1 := hK1.below hbr
          have hK2 := hK2.below hbr
          have hK3 := hK3.below hbr
          have HT := Lib.hid (And.intro (HT.out.1.below hbr) (HT.out.2.below hbr))
          have HR1 := Lib.hid (And.intro (HR1.out.1.below hbr) (HR1.out.2.below hbr))
          have HR2 := Lib.hid (And.intro (HR2.out.1.below hbr) (HR2.out.2.below hbr))
          clear hbr HTL HTM
          obtain ⟨hK1_l, hK1_c⟩ := id hK1
          have hK1_0 := hK1_c 0
          have hK1_1 := hK1_c 1
          simp at hK1_0 hK1_1
          clear hK1_c
          obtain ⟨hK2_l, hK2_c⟩ := id hK2
          have hK2_0 := hK2_c 0
          have hK2_1 := hK2_c 1
          simp at hK2_0 hK2_1
          clear hK2_c
          obtain ⟨hK3_l, hK3_c⟩ := id hK3
          have hK3_0 := hK3_c 0
          have hK3_1 := hK3_c 1
          simp at hK3_0 hK3_1
          clear hK3_c
          go_wp2_with fail
          refine (HMB.out X1 d1 m1 _ (by have := HR1.out.2.1; have := HZM.out; omega) HR1.out.1 HR1.out.2).mono ?_
          rintro e q1 ⟨⟨m3, X3, d3, rfl, hsN, htN, _⟩, hb⟩
          have hB := since_step hB hb
          have hK1 := hK1.below hb
          have hK2 := hK2.below hb
          have hK3 := hK3.below hb
          have HT := Lib.hid (And.intro (HT.out.1.below hb) (HT.out.2.below hb))
          have HR1 := Lib.hid (And.intro (HR1.out.1.below hb) (HR1.out.2.below hb))
          have HR2 := Lib.hid (And.intro (HR2.out.1.below hb) (HR2.out.2.below hb))
          clear hb
          clear hK1_l hK1_0 hK1_1 hK2_l hK2_0 hK2_1 hK3_l hK3_0 hK3_1
          have HR3 := Lib.hid (And.intro hsN htN)
          have HZ3 : Hid (m3.length ≤ 900000) := Lib.hid (by have h3 := htN.1; have h4 := HT.out.2.1; have := HZR.out; omega)
          clear hsN htN
          obtain ⟨hK1_l, hK1_c⟩ := id hK1
          have hK1_0 := hK1_c 0
          have hK1_1 := hK1_c 1
          simp at hK1_0 hK1_1
          clear hK1_c
          obtain ⟨hK2_l, hK2_c⟩ := id hK2
          have hK2_0 := hK2_c 0
          have hK2_1 := hK2_c 1
          simp at hK2_0 hK2_1
          clear hK2_c
          obtain ⟨hK3_l, hK3_c⟩ := id hK3
          have hK3_0 := hK3_c 0
          have hK3_1 := hK3_c 1
          simp at hK3_0 hK3_1
          clear hK3_c
          go_upto_region 12 with fail
          clear hK1_l hK1_0 hK1_1 hK2_l hK2_0 hK2_1 hK3_l hK3_0 hK3_1
          have HC : Hid (∀ V, Below q1.heap.size q1 V → (V.cell? ⟨w.heap.size, 0, none⟩ = some (.int .i64 fa) ∧ V.cell? ⟨w.heap.size, 1, none⟩ = some (.int .i64 fc)) ∧ (V.cell? ⟨w.heap.size + 1, 0, none⟩ = some (.int .i64 ta) ∧ V.cell? ⟨w.heap.size + 1, 1, none⟩ = some (.int .i64 tc)) ∧ (V.cell? ⟨w.heap.size + 1 + 1, 0, none⟩ = some (.int .i64 oa) ∧ V.cell? ⟨w.heap.size + 1 + 1, 1, none⟩ = some (.int .i64 oc))) := Lib.hid fun V h => ⟨⟨(hK1.below h).2 0, (hK1.below h).2 1⟩, ⟨(hK2.below h).2 0, (hK2.below h).2 1⟩, ⟨(hK3.below h).2 0, (hK3.below h).2 1⟩⟩
          have HR0 : Hid (∀ V, Below q1.heap.size q1 V → Sl V A (rc Hd.cells R) ∧ HdTab V R cs) := Lib.hid fun V h => ⟨HT.out.1.below h, HT.out.2.below h⟩
          have HRA : Hid (∀ V, Below q1.heap.size q1 V → Sl V X1 (rc Hd.cells m1) ∧ HdTab V m1 ML) := Lib.hid fun V h => ⟨HR1.out.1.below h, HR1.out.2.below h⟩
          have HRB : Hid (∀ V, Below q1.heap.size q1 V → Sl V X2 (rc Hd.cells m2) ∧ HdTab V m2 PL) := Lib.hid fun V h => ⟨HR2.out.1.below h, HR2.out.2.below h⟩
          have hszU := hB.size
          have HRC : Hid (∀ V, Below q1.heap.size q1 V → Sl V X3 (rc Hd.cells m3) ∧ HdTab V m3 cs) := Lib.hid fun V h => ⟨HR3.out.1.below h, HR3.out.2.below h⟩
          clear hK1 hK2 hK3 HT HR1 HR2 HR3
          go_wp2_with fail
          refine wp_region_held_drew (S := (fun V => Below q1.heap.size q1 V)) (by kernel_rfl) (by exact (Below.refl _ _).drew) (fun hHeld => ?_)
          refine wpAnyH_take (i := 0) (oi := { dst := some 84, op := _, type := _, pos := _, after := _, guard := _ }) (v := ?_) rfl (by kernel_rfl) (by kernel_rfl) (by kernel_rfl) (fun _ _ _ h => h) (Or.inl ⟨by rfl, ?_⟩) hHeld ?_
          rotate_left
          · (intro w hSw; clear hSw; go_simp <;> with_reducible rfl)
          try simp only [Act.put, List.setIfInBounds_toArray, List.set_cons_zero, List.set_cons_succ]
          refine wpAnyH_take (i := 1) (oi := { dst := some 85, op := _, type := _, pos := _, after := _, guard := _ }) (v := ?_) rfl (by kernel_rfl) (by kernel_rfl) (by kernel_rfl) (fun _ _ _ h => h) (Or.inl ⟨by rfl, ?_⟩) hHeld ?_
          rotate_left
          · (intro w hSw; clear hSw; go_simp <;> with_reducible rfl)
          try simp only [Act.put, List.setIfInBounds_toArray, List.set_cons_zero, List.set_cons_succ]
          refine wpAnyH_take (i := 2) (oi := { dst := some 86, op := _, type := _, pos := _, after := _, guard := _ }) (v := ?_) rfl (by kernel_rfl) (by kernel_rfl) (by kernel_rfl) (fun _ _ _ h => h) (Or.inl ⟨by rfl, ?_⟩) hHeld ?_
          rotate_left
          · (intro w hSw; clear hSw; go_simp <;> with_reducible rfl)
          try simp only [Act.put, List.setIfInBounds_toArray, List.set_cons_zero, List.set_cons_succ]
          refine wpAnyH_take (i := 3) (oi := { dst := some 87, op := _, type := _, pos := _, after := _, guard := _ }) (v := ?_) rfl (by kernel_rfl) (by kernel_rfl) (by kernel_rfl) (fun _ _ _ h => h) (Or.inl ⟨by rfl, ?_⟩) hHeld ?_
          rotate_left
          · (intro w hSw; clear hSw; go_simp <;> with_reducible rfl)
          try simp only [Act.put, List.setIfInBounds_toArray, List.set_cons_zero, List.set_cons_succ]
          refine wpAnyH_take (i := 4) (oi := { dst := some 88, op := _, type := _, pos := _, after := _, guard := _ }) (v := ?_) rfl (by kernel_rfl) (by kernel_rfl) (by kernel_rfl) (fun _ _ _ h => h) (Or.inl ⟨by rfl, ?_⟩) hHeld ?_
          rotate_left
          · (intro w hSw; clear hSw; go_simp <;> with_reducible rfl)
          try simp only [Act.put, List.setIfInBounds_toArray, List.set_cons_zero, List.set_cons_succ]
          refine wpAnyH_ready (rs := [5]) (by kernel_rfl) (by simp) ?_
          refine AllReadyH.cons (o := { dst := some 89, op := _, type := _, pos := _, after := _, guard := _ }) rfl (fun K hK => ?_) AllReadyH.nil
          go_simp
          refine (HSB.out _ _ _ _ _ _ _ HZ3.out (HRC.out _ hHeld).1 (HRC.out _ hHeld).2 (HR0.out _ hHeld).1 (HR0.out _ hHeld).2).mono ?_
          rintro e x1 ⟨rfl, hk1⟩
          have hKeep := since_step hHeld hk1
          go_wp2_with fail
          refine hK.out _ _ (by (try dsimp only); exact hKeep) (fun hHeld => ?_)
          clear hK K hKeep
          try simp only [Act.put, List.setIfInBounds_toArray, List.set_cons_zero, List.set_cons_succ]
          refine wpAnyH_take (i := 6) (oi := { dst := some 90, op := _, type := _, pos := _, after := _, guard := _ }) (v := ?_) rfl (by kernel_rfl) (by kernel_rfl) (by kernel_rfl) (fun _ _ _ h => h) (Or.inl ⟨by rfl, ?_⟩) hHeld ?_
          rotate_left
          · (intro w hSw; clear hSw; go_simp <;> with_reducible rfl)
          try simp only [Act.put, List.setIfInBounds_toArray, List.set_cons_zero, List.set_cons_succ]
          refine wpAnyH_take (i := 7) (oi := { dst := some 91, op := _, type := _, pos := _, after := _, guard := _ }) (v := ?_) rfl (by kernel_rfl) (by kernel_rfl) (by kernel_rfl) (fun _ _ _ h => h) (Or.inl ⟨by rfl, ?_⟩) hHeld ?_
          rotate_left
          · (intro w hSw; clear hSw; go_simp <;> with_reducible rfl)
          try simp only [Act.put, List.setIfInBounds_toArray, List.set_cons_zero, List.set_cons_succ]
          refine wpAnyH_take (i := 8) (oi := { dst := some 92, op := _, type := _, pos := _, after := _, guard := _ }) (v := ?_) rfl (by kernel_rfl) (by kernel_rfl) (by kernel_rfl) (fun _ _ _ h => h) (Or.inl ⟨by rfl, ?_⟩) hHeld ?_
          rotate_left
          · (intro w hSw; clear hSw; go_simp <;> with_reducible rfl)
          try simp only [Act.put, List.setIfInBounds_toArray, List.set_cons_zero, List.set_cons_succ]
          refine wpAnyH_take (i := 9) (oi := { dst := some 93, op := _, type := _, pos := _, after := _, guard := _ }) (v := ?_) rfl (by kernel_rfl) (by kernel_rfl) (by kernel_rfl) (fun _ _ _ h => h) (Or.inl ⟨by rfl, ?_⟩) hHeld ?_
          rotate_left
          · (intro w hSw; clear hSw; go_simp <;> with_reducible rfl)
          try simp only [Act.put, List.setIfInBounds_toArray, List.set_cons_zero, List.set_cons_succ]
          refine wpAnyH_take (i := 10) (oi := { dst := some 94, op := _, type := _, pos := _, after := _, guard := _ }) (v := ?_) rfl (by kernel_rfl) (by kernel_rfl) (by kernel_rfl) (fun _ _ _ h => h) (Or.inl ⟨by rfl, ?_⟩) hHeld ?_
          rotate_left
          · (intro w hSw; obtain ⟨⟨p0, p1⟩, ⟨p2, p3⟩, ⟨p4, p5⟩⟩ := HC.out _ hSw; go_simp <;> with_reducible rfl)
          try simp only [Act.put, List.setIfInBounds_toArray, List.set_cons_zero, List.set_cons_succ]
          refine wpAnyH_take (i := 12) (oi := { dst := some 96, op := _, type := _, pos := _, after := _, guard := _ }) (v := ?_) rfl (by kernel_rfl) (by kernel_rfl) (by kernel_rfl) (fun _ _ _ h => h) (Or.inl ⟨by rfl, ?_⟩) hHeld ?_
          rotate_left
          · (intro w hSw; clear hSw; go_simp <;> with_reducible rfl)
          try simp only [Act.put, List.setIfInBounds_toArray, List.set_cons_zero, List.set_cons_succ]
          refine wpAnyH_take (i := 13) (oi := { dst := some 97, op := _, type := _, pos := _, after := _, guard := _ }) (v := ?_) rfl (by kernel_rfl) (by kernel_rfl) (by kernel_rfl) (fun _ _ _ h => h) (Or.inl ⟨by rfl, ?_⟩) hHeld ?_
          rotate_left
          · (intro w hSw; obtain ⟨⟨p0, p1⟩, ⟨p2, p3⟩, ⟨p4, p5⟩⟩ := HC.out _ hSw; go_simp <;> with_reducible rfl)
          try simp only [Act.put, List.setIfInBounds_toArray, List.set_cons_zero, List.set_cons_succ]
          refine wpAnyH_ready (rs := [11]) (by kernel_rfl) (by simp) ?_
          refine AllReadyH.cons (o := { dst := some 95, op := _, type := _, pos := _, after := _, guard := _ }) rfl (fun K hK => ?_) AllReadyH.nil
          go_simp
          refine (HLM.out X1 d1 m1 _ (by have := (show HdTab _ _ _ from (HRA.out _ hHeld).2).1; have := HZM.out; omega) (HRA.out _ hHeld).1 (HRA.out _ hHeld).2).mono ?_
          rintro e x2 ⟨⟨A4, c4, rfl, o4⟩, hk2⟩
          have hKeep := since_step hHeld hk2
          have h4 := Sl.of_own o4
          clear o4
          go_wp2_with fail
          refine hK.out _ _ (by (try dsimp only); exact hKeep) (fun hHeld => ?_)
          clear hK K hKeep
          try simp only [Act.put, List.setIfInBounds_toArray, List.set_cons_zero, List.set_cons_succ]
          refine wpAnyH_ready (rs := [14]) (by kernel_rfl) (by simp) ?_
          refine AllReadyH.cons (o := { dst := some 98, op := _, type := _, pos := _, after := _, guard := _ }) rfl (fun K hK => ?_) AllReadyH.nil
          go_simp
          refine (HLF.out _ (HR0.out _ hHeld).1 (HR0.out _ hHeld).2).mono ?_
          rintro e x3 ⟨⟨A5, c5, rfl, o5⟩, hk3⟩
          have hKeep := since_step hHeld hk3
          have h4 := h4.below hk3
          have h5 := Sl.of_own o5
          clear o5
          go_wp2_with fail
          refine hK.out _ _ (by (try dsimp only); exact hKeep) (fun hHeld => ?_)
          clear hK K hKeep
          try simp only [Act.put, List.setIfInBounds_toArray, List.set_cons_zero, List.set_cons_succ]
          refine wpAnyH_ready (rs := [15]) (by kernel_rfl) (by simp) ?_
          refine AllReadyH.cons (o := { dst := some 99, op := _, type := _, pos := _, after := _, guard := _ }) rfl (fun K hK => ?_) AllReadyH.nil
          go_simp
          refine (HSL.out A4 A5 c4 c5 _ h4 h5).mono ?_
          rintro e x4 ⟨rfl, hk4⟩
          have hKeep := since_step hHeld hk4
          clear h4 h5
          go_wp2_with fail
          refine hK.out _ _ (by (try dsimp only); exact hKeep) (fun hHeld => ?_)
          clear hK K hKeep
          try simp only [Act.put, List.setIfInBounds_toArray, List.set_cons_zero, List.set_cons_succ]
          refine wpAnyH_take (i := 16) (oi := { dst := some 100, op := _, type := _, pos := _, after := _, guard := _ }) (v := ?_) rfl (by kernel_rfl) (by kernel_rfl) (by kernel_rfl) (fun _ _ _ h => h) (Or.inl ⟨by rfl, ?_⟩) hHeld ?_
          rotate_left
          · (intro w hSw; clear hSw; go_simp <;> with_reducible rfl)
          try simp only [Act.put, List.setIfInBounds_toArray, List.set_cons_zero, List.set_cons_succ]
          refine wpAnyH_take (i := 17) (oi := { dst := some 101, op := _, type := _, pos := _, after := _, guard := _ }) (v := ?_) rfl (by kernel_rfl) (by kernel_rfl) (by kernel_rfl) (fun _ _ _ h => h) (Or.inl ⟨by rfl, ?_⟩) hHeld ?_
          rotate_left
          · (intro w hSw; clear hSw; go_simp <;> with_reducible rfl)
          try simp only [Act.put, List.setIfInBounds_toArray, List.set_cons_zero, List.set_cons_succ]
          refine wpAnyH_take (i := 18) (oi := { dst := some 102, op := _, type := _, pos := _, after := _, guard := _ }) (v := ?_) rfl (by kernel_rfl) (by kernel_rfl) (by kernel_rfl) (fun _ _ _ h => h) (Or.inl ⟨by rfl, ?_⟩) hHeld ?_
          rotate_left
          · (intro w hSw; clear hSw; go_simp <;> with_reducible rfl)
          try simp only [Act.put, List.setIfInBounds_toArray, List.set_cons_zero, List.set_cons_succ]
          refine wpAnyH_take (i := 19) (oi := { dst := some 103, op := _, type := _, pos := _, after := _, guard := _ }) (v := ?_) rfl (by kernel_rfl) (by kernel_rfl) (by kernel_rfl) (fun _ _ _ h => h) (Or.inl ⟨by rfl, ?_⟩) hHeld ?_
          rotate_left
          · (intro w hSw; clear hSw; go_simp <;> with_reducible rfl)
          try simp only [Act.put, List.setIfInBounds_toArray, List.set_cons_zero, List.set_cons_succ]
          refine wpAnyH_take (i := 20) (oi := { dst := some 104, op := _, type := _, pos := _, after := _, guard := _ }) (v := ?_) rfl (by kernel_rfl) (by kernel_rfl) (by kernel_rfl) (fun _ _ _ h => h) (Or.inl ⟨by rfl, ?_⟩) hHeld ?_
          rotate_left
          · (intro w hSw; clear hSw; go_simp <;> with_reducible rfl)
          try simp only [Act.put, List.setIfInBounds_toArray, List.set_cons_zero, List.set_cons_succ]
          refine wpAnyH_take (i := 21) (oi := { dst := some 105, op := _, type := _, pos := _, after := _, guard := _ }) (v := ?_) rfl (by kernel_rfl) (by kernel_rfl) (by kernel_rfl) (fun _ _ _ h => h) (Or.inl ⟨by rfl, ?_⟩) hHeld ?_
          rotate_left
          · (intro w hSw; clear hSw; go_simp <;> with_reducible rfl)
          try simp only [Act.put, List.setIfInBounds_toArray, List.set_cons_zero, List.set_cons_succ]
          refine wpAnyH_take (i := 22) (oi := { dst := some 106, op := _, type := _, pos := _, after := _, guard := _ }) (v := ?_) rfl (by kernel_rfl) (by kernel_rfl) (by kernel_rfl) (fun _ _ _ h => h) (Or.inl ⟨by rfl, ?_⟩) hHeld ?_
          rotate_left
          · (intro w hSw; obtain ⟨⟨p0, p1⟩, ⟨p2, p3⟩, ⟨p4, p5⟩⟩ := HC.out _ hSw; go_simp <;> with_reducible rfl)
          try simp only [Act.put, List.setIfInBounds_toArray, List.set_cons_zero, List.set_cons_succ]
          refine wpAnyH_take (i := 24) (oi := { dst := some 108, op := _, type := _, pos := _, after := _, guard := _ }) (v := ?_) rfl (by kernel_rfl) (by kernel_rfl) (by kernel_rfl) (fun _ _ _ h => h) (Or.inl ⟨by rfl, ?_⟩) hHeld ?_
          rotate_left
          · (intro w hSw; clear hSw; go_simp <;> with_reducible rfl)
          try simp only [Act.put, List.setIfInBounds_toArray, List.set_cons_zero, List.set_cons_succ]
          refine wpAnyH_take (i := 25) (oi := { dst := some 109, op := _, type := _, pos := _, after := _, guard := _ }) (v := ?_) rfl (by kernel_rfl) (by kernel_rfl) (by kernel_rfl) (fun _ _ _ h => h) (Or.inl ⟨by rfl, ?_⟩) hHeld ?_
          rotate_left
          · (intro w hSw; obtain ⟨⟨p0, p1⟩, ⟨p2, p3⟩, ⟨p4, p5⟩⟩ := HC.out _ hSw; go_simp <;> with_reducible rfl)
          try simp only [Act.put, List.setIfInBounds_toArray, List.set_cons_zero, List.set_cons_succ]
          refine wpAnyH_ready (rs := [23]) (by kernel_rfl) (by simp) ?_
          refine AllReadyH.cons (o := { dst := some 107, op := _, type := _, pos := _, after := _, guard := _ }) rfl (fun K hK => ?_) AllReadyH.nil
          go_simp
          refine (HLO1.out X1 d1 m1 _ (by have := (show HdTab _ _ _ from (HRA.out _ hHeld).2).1; have := HZM.out; omega) (HRA.out _ hHeld).1 (HRA.out _ hHeld).2).mono ?_
          rintro e x5 ⟨⟨A6, c6, rfl, o6⟩, hk5⟩
          have hKeep := since_step hHeld hk5
          have h6 := Sl.of_own o6
          clear o6
          go_wp2_with fail
          refine hK.out _ _ (by (try dsimp only); exact hKeep) (fun hHeld => ?_)
          clear hK K hKeep
          try simp only [Act.put, List.setIfInBounds_toArray, List.set_cons_zero, List.set_cons_succ]
          refine wpAnyH_ready (rs := [26]) (by kernel_rfl) (by simp) ?_
          refine AllReadyH.cons (o := { dst := some 110, op := _, type := _, pos := _, after := _, guard := _ }) rfl (fun K hK => ?_) AllReadyH.nil
          go_simp
          refine (HLO.out _ (HR0.out _ hHeld).1 (HR0.out _ hHeld).2).mono ?_
          rintro e x6 ⟨⟨A7, c7, rfl, o7⟩, hk6⟩
          have hKeep := since_step hHeld hk6
          have h6 := h6.below hk6
          have h7 := Sl.of_own o7
          clear o7
          go_wp2_with fail
          refine hK.out _ _ (by (try dsimp only); exact hKeep) (fun hHeld => ?_)
          clear hK K hKeep
          try simp only [Act.put, List.setIfInBounds_toArray, List.set_cons_zero, List.set_cons_succ]
          refine wpAnyH_ready (rs := [27]) (by kernel_rfl) (by simp) ?_
          refine AllReadyH.cons (o := { dst := some 111, op := _, type := _, pos := _, after := _, guard := _ }) rfl (fun K hK => ?_) AllReadyH.nil
          go_simp
          refine (HSO.out A6 A7 c6 c7 _ h6 h7).mono ?_
          rintro e x7 ⟨rfl, hk7⟩
          have hKeep := since_step hHeld hk7
          clear h6 h7
          go_wp2_with fail
          refine hK.out _ _ (by (try dsimp only); exact hKeep) (fun hHeld => ?_)
          clear hK K hKeep
          try simp only [Act.put, List.setIfInBounds_toArray, List.set_cons_zero, List.set_cons_succ]
          refine wpAnyH_take (i := 28) (oi := { dst := some 112, op := _, type := _, pos := _, after := _, guard := _ }) (v := ?_) rfl (by kernel_rfl) (by kernel_rfl) (by kernel_rfl) (fun _ _ _ h => h) (Or.inl ⟨by rfl, ?_⟩) hHeld ?_
          rotate_left
          · (intro w hSw; clear hSw; go_simp <;> with_reducible rfl)
          try simp only [Act.put, List.setIfInBounds_toArray, List.set_cons_zero, List.set_cons_succ]
          refine wpAnyH_take (i := 29) (oi := { dst := some 113, op := _, type := _, pos := _, after := _, guard := _ }) (v := ?_) rfl (by kernel_rfl) (by kernel_rfl) (by kernel_rfl) (fun _ _ _ h => h) (Or.inl ⟨by rfl, ?_⟩) hHeld ?_
          rotate_left
          · (intro w hSw; clear hSw; go_simp <;> with_reducible rfl)
          try simp only [Act.put, List.setIfInBounds_toArray, List.set_cons_zero, List.set_cons_succ]
          refine wpAnyH_take (i := 30) (oi := { dst := some 114, op := _, type := _, pos := _, after := _, guard := _ }) (v := ?_) rfl (by kernel_rfl) (by kernel_rfl) (by kernel_rfl) (fun _ _ _ h => h) (Or.inl ⟨by rfl, ?_⟩) hHeld ?_
          rotate_left
          · (intro w hSw; clear hSw; go_simp <;> with_reducible rfl)
          try simp only [Act.put, List.setIfInBounds_toArray, List.set_cons_zero, List.set_cons_succ]
          refine wpAnyH_done (by kernel_rfl) ?_ _
          have hB := hB.trans (hHeld.mono hszU)
          have hHX := hHeld
          clear HRC hHeld
          go_upto_region 14 with fail
          have HC := Lib.hid (fun V (h : Below x7.heap.size x7 V) => HC.out V (since_step hHX h))
          have HR0 := Lib.hid (fun V (h : Below x7.heap.size x7 V) => HR0.out V (since_step hHX h))
          have HRA := Lib.hid (fun V (h : Below x7.heap.size x7 V) => HRA.out V (since_step hHX h))
          have HRB := Lib.hid (fun V (h : Below x7.heap.size x7 V) => HRB.out V (since_step hHX h))
          have hszU := hB.size
          clear hHX
          go_wp2_with fail
          refine wp_region_held_drew (S := (fun V => Below x7.heap.size x7 V)) (by kernel_rfl) (by exact (Below.refl _ _).drew) (fun hHeld => ?_)
          refine wpAnyH_take (i := 0) (oi := { dst := some 115, op := _, type := _, pos := _, after := _, guard := _ }) (v := ?_) rfl (by kernel_rfl) (by kernel_rfl) (by kernel_rfl) (fun _ _ _ h => h) (Or.inl ⟨by rfl, ?_⟩) hHeld ?_
          rotate_left
          · (intro w hSw; clear hSw; go_simp <;> with_reducible rfl)
          try simp only [Act.put, List.setIfInBounds_toArray, List.set_cons_zero, List.set_cons_succ]
          refine wpAnyH_take (i := 1) (oi := { dst := some 116, op := _, type := _, pos := _, after := _, guard := _ }) (v := ?_) rfl (by kernel_rfl) (by kernel_rfl) (by kernel_rfl) (fun _ _ _ h => h) (Or.inl ⟨by rfl, ?_⟩) hHeld ?_
          rotate_left
          · (intro w hSw; clear hSw; go_simp <;> with_reducible rfl)
          try simp only [Act.put, List.setIfInBounds_toArray, List.set_cons_zero, List.set_cons_succ]
          refine wpAnyH_take (i := 2) (oi := { dst := some 117, op := _, type := _, pos := _, after := _, guard := _ }) (v := ?_) rfl (by kernel_rfl) (by kernel_rfl) (by kernel_rfl) (fun _ _ _ h => h) (Or.inl ⟨by rfl, ?_⟩) hHeld ?_
          rotate_left
          · (intro w hSw; clear hSw; go_simp <;> with_reducible rfl)
          try simp only [Act.put, List.setIfInBounds_toArray, List.set_cons_zero, List.set_cons_succ]
          refine wpAnyH_take (i := 3) (oi := { dst := some 118, op := _, type := _, pos := _, after := _, guard := _ }) (v := undef) rfl (by kernel_rfl) (by kernel_rfl) (by kernel_rfl) (fun _ _ _ h => h) (Or.inr ⟨by rfl, rfl⟩) hHeld ?_
          try simp only [Act.put, List.setIfInBounds_toArray, List.set_cons_zero, List.set_cons_succ]
          refine wpAnyH_take (i := 4) (oi := { dst := some 119, op := _, type := _, pos := _, after := _, guard := _ }) (v := undef) rfl (by kernel_rfl) (by kernel_rfl) (by kernel_rfl) (fun _ _ _ h => h) (Or.inr ⟨by rfl, rfl⟩) hHeld ?_
          try simp only [Act.put, List.setIfInBounds_toArray, List.set_cons_zero, List.set_cons_succ]
          refine wpAnyH_take (i := 5) (oi := { dst := some 120, op := _, type := _, pos := _, after := _, guard := _ }) (v := ?_) rfl (by kernel_rfl) (by kernel_rfl) (by kernel_rfl) (fun _ _ _ h => h) (Or.inl ⟨by rfl, ?_⟩) hHeld ?_
          rotate_left
          · (intro w hSw; clear hSw; go_simp <;> with_reducible rfl)
          try simp only [Act.put, List.setIfInBounds_toArray, List.set_cons_zero, List.set_cons_succ]
          refine wpAnyH_take (i := 6) (oi := { dst := some 121, op := _, type := _, pos := _, after := _, guard := _ }) (v := ?_) rfl (by kernel_rfl) (by kernel_rfl) (by kernel_rfl) (fun _ _ _ h => h) (Or.inl ⟨by rfl, ?_⟩) hHeld ?_
          rotate_left
          · (intro w hSw; clear hSw; go_simp <;> with_reducible rfl)
          try simp only [Act.put, List.setIfInBounds_toArray, List.set_cons_zero, List.set_cons_succ]
          refine wpAnyH_take (i := 7) (oi := { dst := some 122, op := _, type := _, pos := _, after := _, guard := _ }) (v := undef) rfl (by kernel_rfl) (by kernel_rfl) (by kernel_rfl) (fun _ _ _ h => h) (Or.inr ⟨by rfl, rfl⟩) hHeld ?_
          try simp only [Act.put, List.setIfInBounds_toArray, List.set_cons_zero, List.set_cons_succ]
          refine wpAnyH_take (i := 8) (oi := { dst := some 123, op := _, type := _, pos := _, after := _, guard := _ }) (v := undef) rfl (by kernel_rfl) (by kernel_rfl) (by kernel_rfl) (fun _ _ _ h => h) (Or.inr ⟨by rfl, rfl⟩) hHeld ?_
          try simp only [Act.put, List.setIfInBounds_toArray, List.set_cons_zero, List.set_cons_succ]
          refine wpAnyH_take (i := 9) (oi := { dst := some 124, op := _, type := _, pos := _, after := _, guard := _ }) (v := undef) rfl (by kernel_rfl) (by kernel_rfl) (by kernel_rfl) (fun _ _ _ h => h) (Or.inr ⟨by rfl, rfl⟩) hHeld ?_
          try simp only [Act.put, List.setIfInBounds_toArray, List.set_cons_zero, List.set_cons_succ]
          refine wpAnyH_take (i := 10) (oi := { dst := some 125, op := _, type := _, pos := _, after := _, guard := _ }) (v := undef) rfl (by kernel_rfl) (by kernel_rfl) (by kernel_rfl) (fun _ _ _ h => h) (Or.inr ⟨by rfl, rfl⟩) hHeld ?_
          try simp only [Act.put, List.setIfInBounds_toArray, List.set_cons_zero, List.set_cons_succ]
          refine wpAnyH_take (i := 11) (oi := { dst := some 126, op := _, type := _, pos := _, after := _, guard := _ }) (v := undef) rfl (by kernel_rfl) (by kernel_rfl) (by kernel_rfl) (fun _ _ _ h => h) (Or.inr ⟨by rfl, rfl⟩) hHeld ?_
          try simp only [Act.put, List.setIfInBounds_toArray, List.set_cons_zero, List.set_cons_succ]
          refine wpAnyH_take (i := 12) (oi := { dst := some 127, op := _, type := _, pos := _, after := _, guard := _ }) (v := undef) rfl (by kernel_rfl) (by kernel_rfl) (by kernel_rfl) (fun _ _ _ h => h) (Or.inr ⟨by rfl, rfl⟩) hHeld ?_
          try simp only [Act.put, List.setIfInBounds_toArray, List.set_cons_zero, List.set_cons_succ]
          refine wpAnyH_take (i := 13) (oi := { dst := some 128, op := _, type := _, pos := _, after := _, guard := _ }) (v := undef) rfl (by kernel_rfl) (by kernel_rfl) (by kernel_rfl) (fun _ _ _ h => h) (Or.inr ⟨by rfl, rfl⟩) hHeld ?_
          try simp only [Act.put, List.setIfInBounds_toArray, List.set_cons_zero, List.set_cons_succ]
          refine wpAnyH_take (i := 14) (oi := { dst := some 129, op := _, type := _, pos := _, after := _, guard := _ }) (v := ?_) rfl (by kernel_rfl) (by kernel_rfl) (by kernel_rfl) (fun _ _ _ h => h) (Or.inl ⟨by rfl, ?_⟩) hHeld ?_
          rotate_left
          · (intro w hSw; clear hSw; go_simp <;> with_reducible rfl)
          try simp only [Act.put, List.setIfInBounds_toArray, List.set_cons_zero, List.set_cons_succ]
          refine wpAnyH_take (i := 15) (oi := { dst := some 130, op := _, type := _, pos := _, after := _, guard := _ }) (v := ?_) rfl (by kernel_rfl) (by kernel_rfl) (by kernel_rfl) (fun _ _ _ h => h) (Or.inl ⟨by rfl, ?_⟩) hHeld ?_
          rotate_left
          · (intro w hSw; clear hSw; go_simp <;> with_reducible rfl)
          try simp only [Act.put, List.setIfInBounds_toArray, List.set_cons_zero, List.set_cons_succ]
          refine wpAnyH_ready (rs := [16]) (by kernel_rfl) (by simp) ?_
          refine AllReadyH.cons (o := { dst := some 131, op := _, type := _, pos := _, after := _, guard := _ }) rfl (fun K hK => ?_) AllReadyH.nil
          go_simp
          refine (HLV.out _).mono ?_
          rintro e y4 ⟨rfl, hk4⟩
          have hKeep := since_step hHeld hk4
          go_wp2_with fail
          refine hK.out _ _ (by (try dsimp only); exact hKeep) (fun hHeld => ?_)
          clear hK K hKeep
          try simp only [Act.put, List.setIfInBounds_toArray, List.set_cons_zero, List.set_cons_succ]
          refine wpAnyH_take (i := 17) (oi := { dst := some 132, op := _, type := _, pos := _, after := _, guard := _ }) (v := ?_) rfl (by kernel_rfl) (by kernel_rfl) (by kernel_rfl) (fun _ _ _ h => h) (Or.inl ⟨by rfl, ?_⟩) hHeld ?_
          rotate_left
          · (intro w hSw; clear hSw; go_simp <;> with_reducible rfl)
          try simp only [Act.put, List.setIfInBounds_toArray, List.set_cons_zero, List.set_cons_succ]
          refine wpAnyH_take (i := 18) (oi := { dst := some 12, op := _, type := _, pos := _, after := _, guard := _ }) (v := ?_) rfl (by kernel_rfl) (by kernel_rfl) (by kernel_rfl) (fun _ _ _ h => h) (Or.inl ⟨by rfl, ?_⟩) hHeld ?_
          rotate_left
          · (intro w hSw; clear hSw; go_simp <;> with_reducible rfl)
          try simp only [Act.put, List.setIfInBounds_toArray, List.set_cons_zero, List.set_cons_succ]
          refine wpAnyH_done (by kernel_rfl) ?_ _
          have hBf := hB.trans (hHeld.mono hszU)
          go_wp2_with fail
          go_ret
          exact ⟨rfl, hBf⟩
  · by_cases hp0 : pn = 0
    · have hm1 : (mn == 0) = false := by simpa using hm0
      have hm2 : (mn != 0) = true := by simpa using hm0
      clear hm0
      subst hp0
      obtain ⟨hPi, hP6, hPL⟩ := pass_is hP
      have hP6 := hP6 hgd.2
      have hPc : ∀ g ∈ PL, g.L.length ≤ 900000 := fun g hg => Nat.le_trans (is_len hPi g hg) (by omega)
      have hTP := fun A1 c1 l1 k V hl h1 h2 => htotal_any A1 c1 l1 PL k V hl hPc hP6 h1 h2
      simp only [pass_sum hP] at hTP
      have HTP := Lib.hid hTP
      have HZP : Hid (PL.length ≤ 800000) := Lib.hid (by omega)
      clear hTP
      have hLP := fun A1 c1 l1 V hl h1 h2 => hlots_any A1 c1 l1 PL oa oc V hl hPc h1 h2
      rw [pass_other hP (fun h => hf2.out h.2) (fun h => ht1.out h.1)] at hLP
      have HLP := Lib.hid hLP
      clear hLP
      clear hPi hP6 hPL hPc
      have HLO := Lib.hid (fun V h1 h2 => hlots_any A c R cs oa oc V hR9 hcl9 h1 h2)
      have hlo := lotsH_len hgd.1 oa oc
      have HSO := Lib.hid (fun A1 A2 c1 c2 V h1 h2 => rlsame_any_self A1 A2 c1 c2 (lotsH cs oa oc) V (by omega) h1 h2)
      generalize lotsH cs oa oc = L1 at *
      clear hlo
      have HTL := Lib.hid (fun k V h1 h2 => htotal_any A c R cs k V hR9 hcl9 hgd.2 h1 h2)
      have HZR := Lib.hid hR8
      clear hgd hM hP hR9 hcl9 hR8
      have bf1 : (oa != fa) = false := by rw [hf1.out]; simp
      have bf2 : (oc != fc) = true := by simpa using hf2.out
      have cf1 : (oa == fa) = true := by rw [hf1.out]; simp
      have cf2 : (oc == fc) = false := by simpa using hf2.out
      clear hf1 hf2
      have bt1 : (oa != ta) = true := by simpa using ht1.out
      have ct1 : (oa == ta) = false := by simpa using ht1.out
      clear ht1
      go_loopw [17] (fun iv wr => ∃ k : Nat, 1 ≤ k ∧ k ≤ 5 ∧ iv = .int .i64 k ∧ Below z3.heap.size z3 wr) (fun iv _ => 5 - (intOf iv).toNat)
      case atStart => exact ⟨1, by omega, by omega, rfl, Below.refl _ _⟩
      case round =>
        obtain ⟨k, hk1, hk5, rfl, hbr⟩ := hrel
        by_cases hk : k ≤ 4
        · have hki : (k : Int) ≤ 4 := by omega
          have HTLk := Lib.hid (fun V h1 h2 => HTL.out (k : Int) V h1 h2)
          have HTPk := Lib.hid (fun A1 c1 l1 V hl h1 h2 => HTP.out A1 c1 l1 (k : Int) V hl h1 h2)
          obtain ⟨th, hth⟩ : ∃ n, hiN (sumsH cs (k : Int)).sum = n := ⟨_, rfl⟩
          obtain ⟨tl, htl⟩ : ∃ n, loN (sumsH cs (k : Int)).sum = n := ⟨_, rfl⟩
          have hq1 : (th == th) = true := by simp
          have hq2 : (tl == tl) = true := by simp
          rw [hth, htl] at HTLk HTPk
          clear hth htl HTL HTP
          have hBl := hbr
          have HT := Lib.hid (And.intro (HT.out.1.below hbr) (HT.out.2.below hbr))
          have HR2 := Lib.hid (And.intro (HR2.out.1.below hbr) (HR2.out.2.below hbr))
          go_wp2_with fail
          refine (HTPk.out X2 d2 m2 _ (by have := HR2.out.2.1; have := HZP.out; omega) HR2.out.1 HR2.out.2).mono ?_
          rintro e r1 ⟨rfl, hb⟩
          have hBl := since_step hBl hb
          have HT := Lib.hid (And.intro (HT.out.1.below hb) (HT.out.2.below hb))
          have HR2 := Lib.hid (And.intro (HR2.out.1.below hb) (HR2.out.2.below hb))
          clear hb
          go_wp2_with fail
          refine (HTLk.out _ HT.out.1 HT.out.2).mono ?_
          rintro e r2 ⟨rfl, hb⟩
          have hBl := since_step hBl hb
          have HT := Lib.hid (And.intro (HT.out.1.below hb) (HT.out.2.below hb))
          have HR2 := Lib.hid (And.intro (HR2.out.1.below hb) (HR2.out.2.below hb))
          clear hb
          go_wp2_with fail
          go_roundw
          case rel => exact ⟨k + 1, by omega, by omega, by go_num, hBl⟩
          case measure => simp [intOf]; omega
        · have hki : ¬ ((k : Int) ≤ 4) := by omega
          have hB := since_step hB hbr
          have hK1 := hK1.below hbr
          have hK2 := hK2.below hbr
          have hK3 := hK3.below hbr
          have HT := Lib.hid (And.intro (HT.out.1.below hbr) (HT.out.2.below hbr))
          have HR1 := Lib.hid (And.intro (HR1.out.1.below hbr) (HR1.out.2.below hbr))
          have HR2 := Lib.hid (And.intro (HR2.out.1.below hbr) (HR2.out.2.below hbr))
          clear hbr HTL HTP
          obtain ⟨hK1_l, hK1_c⟩ := id hK1
          have hK1_0 := hK1_c 0
          have hK1_1 := hK1_c 1
          simp at hK1_0 hK1_1
          clear hK1_c
          obtain ⟨hK2_l, hK2_c⟩ := id hK2
          have hK2_0 := hK2_c 0
          have hK2_1 := hK2_c 1
          simp at hK2_0 hK2_1
          clear hK2_c
          obtain ⟨hK3_l, hK3_c⟩ := id hK3
          have hK3_0 := hK3_c 0
          have hK3_1 := hK3_c 1
          simp at hK3_0 hK3_1
          clear hK3_c
          go_upto_region 14 with fail
          clear hK1_l hK1_0 hK1_1 hK2_l hK2_0 hK2_1 hK3_l hK3_0 hK3_1
          have HC : Hid (∀ V, Below wr.heap.size wr V → (V.cell? ⟨w.heap.size, 0, none⟩ = some (.int .i64 fa) ∧ V.cell? ⟨w.heap.size, 1, none⟩ = some (.int .i64 fc)) ∧ (V.cell? ⟨w.heap.size + 1, 0, none⟩ = some (.int .i64 ta) ∧ V.cell? ⟨w.heap.size + 1, 1, none⟩ = some (.int .i64 tc)) ∧ (V.cell? ⟨w.heap.size + 1 + 1, 0, none⟩ = some (.int .i64 oa) ∧ V.cell? ⟨w.heap.size + 1 + 1, 1, none⟩ = some (.int .i64 oc))) := Lib.hid fun V h => ⟨⟨(hK1.below h).2 0, (hK1.below h).2 1⟩, ⟨(hK2.below h).2 0, (hK2.below h).2 1⟩, ⟨(hK3.below h).2 0, (hK3.below h).2 1⟩⟩
          have HR0 : Hid (∀ V, Below wr.heap.size wr V → Sl V A (rc Hd.cells R) ∧ HdTab V R cs) := Lib.hid fun V h => ⟨HT.out.1.below h, HT.out.2.below h⟩
          have HRA : Hid (∀ V, Below wr.heap.size wr V → Sl V X1 (rc Hd.cells m1) ∧ HdTab V m1 ML) := Lib.hid fun V h => ⟨HR1.out.1.below h, HR1.out.2.below h⟩
          have HRB : Hid (∀ V, Below wr.heap.size wr V → Sl V X2 (rc Hd.cells m2) ∧ HdTab V m2 PL) := Lib.hid fun V h => ⟨HR2.out.1.below h, HR2.out.2.below h⟩
          have hszU := hB.size
          clear hK1 hK2 hK3 HT HR1 HR2
          go_wp2_with fail
          refine wp_region_held_drew (S := (fun V => Below wr.heap.size wr V)) (by kernel_rfl) (by exact (Below.refl _ _).drew) (fun hHeld => ?_)
          refine wpAnyH_take (i := 0) (oi := { dst := some 115, op := _, type := _, pos := _, after := _, guard := _ }) (v := ?_) rfl (by kernel_rfl) (by kernel_rfl) (by kernel_rfl) (fun _ _ _ h => h) (Or.inl ⟨by rfl, ?_⟩) hHeld ?_
          rotate_left
          · (intro w hSw; clear hSw; go_simp <;> with_reducible rfl)
          try simp only [Act.put, List.setIfInBounds_toArray, List.set_cons_zero, List.set_cons_succ]
          refine wpAnyH_take (i := 1) (oi := { dst := some 116, op := _, type := _, pos := _, after := _, guard := _ }) (v := ?_) rfl (by kernel_rfl) (by kernel_rfl) (by kernel_rfl) (fun _ _ _ h => h) (Or.inl ⟨by rfl, ?_⟩) hHeld ?_
          rotate_left
          · (intro w hSw; clear hSw; go_simp <;> with_reducible rfl)
          try simp only [Act.put, List.setIfInBounds_toArray, List.set_cons_zero, List.set_cons_succ]
          refine wpAnyH_take (i := 2) (oi := { dst := some 117, op := _, type := _, pos := _, after := _, guard := _ }) (v := ?_) rfl (by kernel_rfl) (by kernel_rfl) (by kernel_rfl) (fun _ _ _ h => h) (Or.inl ⟨by rfl, ?_⟩) hHeld ?_
          rotate_left
          · (intro w hSw; clear hSw; go_simp <;> with_reducible rfl)
          try simp only [Act.put, List.setIfInBounds_toArray, List.set_cons_zero, List.set_cons_succ]
          refine wpAnyH_take (i := 3) (oi := { dst := some 118, op := _, type := _, pos := _, after := _, guard := _ }) (v := ?_) rfl (by kernel_rfl) (by kernel_rfl) (by kernel_rfl) (fun _ _ _ h => h) (Or.inl ⟨by rfl, ?_⟩) hHeld ?_
          rotate_left
          · (intro w hSw; clear hSw; go_simp <;> with_reducible rfl)
          try simp only [Act.put, List.setIfInBounds_toArray, List.set_cons_zero, List.set_cons_succ]
          refine wpAnyH_take (i := 4) (oi := { dst := some 119, op := _, type := _, pos := _, after := _, guard := _ }) (v := ?_) rfl (by kernel_rfl) (by kernel_rfl) (by kernel_rfl) (fun _ _ _ h => h) (Or.inl ⟨by rfl, ?_⟩) hHeld ?_
          rotate_left
          · (intro w hSw; clear hSw; go_simp <;> with_reducible rfl)
          try simp only [Act.put, List.setIfInBounds_toArray, List.set_cons_zero, List.set_cons_succ]
          refine wpAnyH_take (i := 5) (oi := { dst := some 120, op := _, type := _, pos := _, after := _, guard := _ }) (v := ?_) rfl (by kernel_rfl) (by kernel_rfl) (by kernel_rfl) (fun _ _ _ h => h) (Or.inl ⟨by rfl, ?_⟩) hHeld ?_
          rotate_left
          · (intro w hSw; clear hSw; go_simp <;> with_reducible rfl)
          try simp only [Act.put, List.setIfInBounds_toArray, List.set_cons_zero, List.set_cons_succ]
          refine wpAnyH_take (i := 6) (oi := { dst := some 121, op := _, type := _, pos := _, after := _, guard := _ }) (v := ?_) rfl (by kernel_rfl) (by kernel_rfl) (by kernel_rfl) (fun _ _ _ h => h) (Or.inl ⟨by rfl, ?_⟩) hHeld ?_
          rotate_left
          · (intro w hSw; clear hSw; go_simp <;> with_reducible rfl)
          try simp only [Act.put, List.setIfInBounds_toArray, List.set_cons_zero, List.set_cons_succ]
          refine wpAnyH_take (i := 7) (oi := { dst := some 122, op := _, type := _, pos := _, after := _, guard := _ }) (v := ?_) rfl (by kernel_rfl) (by kernel_rfl) (by kernel_rfl) (fun _ _ _ h => h) (Or.inl ⟨by rfl, ?_⟩) hHeld ?_
          rotate_left
          · (intro w hSw; clear hSw; go_simp <;> with_reducible rfl)
          try simp only [Act.put, List.setIfInBounds_toArray, List.set_cons_zero, List.set_cons_succ]
          refine wpAnyH_take (i := 8) (oi := { dst := some 123, op := _, type := _, pos := _, after := _, guard := _ }) (v := ?_) rfl (by kernel_rfl) (by kernel_rfl) (by kernel_rfl) (fun _ _ _ h => h) (Or.inl ⟨by rfl, ?_⟩) hHeld ?_
          rotate_left
          · (intro w hSw; obtain ⟨⟨p0, p1⟩, ⟨p2, p3⟩, ⟨p4, p5⟩⟩ := HC.out _ hSw; go_simp <;> with_reducible rfl)
          try simp only [Act.put, List.setIfInBounds_toArray, List.set_cons_zero, List.set_cons_succ]
          refine wpAnyH_take (i := 10) (oi := { dst := some 125, op := _, type := _, pos := _, after := _, guard := _ }) (v := ?_) rfl (by kernel_rfl) (by kernel_rfl) (by kernel_rfl) (fun _ _ _ h => h) (Or.inl ⟨by rfl, ?_⟩) hHeld ?_
          rotate_left
          · (intro w hSw; clear hSw; go_simp <;> with_reducible rfl)
          try simp only [Act.put, List.setIfInBounds_toArray, List.set_cons_zero, List.set_cons_succ]
          refine wpAnyH_take (i := 11) (oi := { dst := some 126, op := _, type := _, pos := _, after := _, guard := _ }) (v := ?_) rfl (by kernel_rfl) (by kernel_rfl) (by kernel_rfl) (fun _ _ _ h => h) (Or.inl ⟨by rfl, ?_⟩) hHeld ?_
          rotate_left
          · (intro w hSw; obtain ⟨⟨p0, p1⟩, ⟨p2, p3⟩, ⟨p4, p5⟩⟩ := HC.out _ hSw; go_simp <;> with_reducible rfl)
          try simp only [Act.put, List.setIfInBounds_toArray, List.set_cons_zero, List.set_cons_succ]
          refine wpAnyH_ready (rs := [9]) (by kernel_rfl) (by simp) ?_
          refine AllReadyH.cons (o := { dst := some 124, op := _, type := _, pos := _, after := _, guard := _ }) rfl (fun K hK => ?_) AllReadyH.nil
          go_simp
          refine (HLP.out X2 d2 m2 _ (by have := (show HdTab _ _ _ from (HRB.out _ hHeld).2).1; have := HZP.out; omega) (HRB.out _ hHeld).1 (HRB.out _ hHeld).2).mono ?_
          rintro e y1 ⟨⟨A8, c8, rfl, o8⟩, hk1⟩
          have hKeep := since_step hHeld hk1
          have h8 := Sl.of_own o8
          clear o8
          go_wp2_with fail
          refine hK.out _ _ (by (try dsimp only); exact hKeep) (fun hHeld => ?_)
          clear hK K hKeep
          try simp only [Act.put, List.setIfInBounds_toArray, List.set_cons_zero, List.set_cons_succ]
          refine wpAnyH_ready (rs := [12]) (by kernel_rfl) (by simp) ?_
          refine AllReadyH.cons (o := { dst := some 127, op := _, type := _, pos := _, after := _, guard := _ }) rfl (fun K hK => ?_) AllReadyH.nil
          go_simp
          refine (HLO.out _ (HR0.out _ hHeld).1 (HR0.out _ hHeld).2).mono ?_
          rintro e y2 ⟨⟨A9, c9, rfl, o9⟩, hk2⟩
          have hKeep := since_step hHeld hk2
          have h8 := h8.below hk2
          have h9 := Sl.of_own o9
          clear o9
          go_wp2_with fail
          refine hK.out _ _ (by (try dsimp only); exact hKeep) (fun hHeld => ?_)
          clear hK K hKeep
          try simp only [Act.put, List.setIfInBounds_toArray, List.set_cons_zero, List.set_cons_succ]
          refine wpAnyH_ready (rs := [13]) (by kernel_rfl) (by simp) ?_
          refine AllReadyH.cons (o := { dst := some 128, op := _, type := _, pos := _, after := _, guard := _ }) rfl (fun K hK => ?_) AllReadyH.nil
          go_simp
          refine (HSO.out A8 A9 c8 c9 _ h8 h9).mono ?_
          rintro e y3 ⟨rfl, hk3⟩
          have hKeep := since_step hHeld hk3
          clear h8 h9
          go_wp2_with fail
          refine hK.out _ _ (by (try dsimp only); exact hKeep) (fun hHeld => ?_)
          clear hK K hKeep
          try simp only [Act.put, List.setIfInBounds_toArray, List.set_cons_zero, List.set_cons_succ]
          refine wpAnyH_take (i := 14) (oi := { dst := some 129, op := _, type := _, pos := _, after := _, guard := _ }) (v := ?_) rfl (by kernel_rfl) (by kernel_rfl) (by kernel_rfl) (fun _ _ _ h => h) (Or.inl ⟨by rfl, ?_⟩) hHeld ?_
          rotate_left
          · (intro w hSw; clear hSw; go_simp <;> with_reducible rfl)
          try simp only [Act.put, List.setIfInBounds_toArray, List.set_cons_zero, List.set_cons_succ]
          refine wpAnyH_take (i := 15) (oi := { dst := some 130, op := _, type := _, pos := _, after := _, guard := _ }) (v := ?_) rfl (by kernel_rfl) (by kernel_rfl) (by kernel_rfl) (fun _ _ _ h => h) (Or.inl ⟨by rfl, ?_⟩) hHeld ?_
          rotate_left
          · (intro w hSw; clear hSw; go_simp <;> with_reducible rfl)
          try simp only [Act.put, List.setIfInBounds_toArray, List.set_cons_zero, List.set_cons_succ]
          refine wpAnyH_ready (rs := [16]) (by kernel_rfl) (by simp) ?_
          refine AllReadyH.cons (o := { dst := some 131, op := _, type := _, pos := _, after := _, guard := _ }) rfl (fun K hK => ?_) AllReadyH.nil
          go_simp
          refine (HLV.out _).mono ?_
          rintro e y4 ⟨rfl, hk4⟩
          have hKeep := since_step hHeld hk4
          go_wp2_with fail
          refine hK.out _ _ (by (try dsimp only); exact hKeep) (fun hHeld => ?_)
          clear hK K hKeep
          try simp only [Act.put, List.setIfInBounds_toArray, List.set_cons_zero, List.set_cons_succ]
          refine wpAnyH_take (i := 17) (oi := { dst := some 132, op := _, type := _, pos := _, after := _, guard := _ }) (v := ?_) rfl (by kernel_rfl) (by kernel_rfl) (by kernel_rfl) (fun _ _ _ h => h) (Or.inl ⟨by rfl, ?_⟩) hHeld ?_
          rotate_left
          · (intro w hSw; clear hSw; go_simp <;> with_reducible rfl)
          try simp only [Act.put, List.setIfInBounds_toArray, List.set_cons_zero, List.set_cons_succ]
          refine wpAnyH_take (i := 18) (oi := { dst := some 12, op := _, type := _, pos := _, after := _, guard := _ }) (v := ?_) rfl (by kernel_rfl) (by kernel_rfl) (by kernel_rfl) (fun _ _ _ h => h) (Or.inl ⟨by rfl, ?_⟩) hHeld ?_
          rotate_left
          · (intro w hSw; clear hSw; go_simp <;> with_reducible rfl)
          try simp only [Act.put, List.setIfInBounds_toArray, List.set_cons_zero, List.set_cons_succ]
          refine wpAnyH_done (by kernel_rfl) ?_ _
          have hBf := hB.trans (hHeld.mono hszU)
          go_wp2_with fail
          go_ret
          exact ⟨rfl, hBf⟩
    · have hm1 : (mn == 0) = false := by simpa using hm0
      have hm2 : (mn != 0) = true := by simpa using hm0
      clear hm0
      have hp1 : (pn == 0) = false := by simpa using hp0
      have hp2 : (pn != 0) = true := by simpa using hp0
      clear hp0
      have HTL := Lib.hid (fun k V h1 h2 => htotal_any A c R cs k V hR9 hcl9 hgd.2 h1 h2)
      have HZR := Lib.hid hR8
      clear hgd hM hP hR9 hcl9 hR8
      have bf1 : (oa != fa) = false := by rw [hf1.out]; simp
      have bf2 : (oc != fc) = true := by simpa using hf2.out
      have cf1 : (oa == fa) = true := by rw [hf1.out]; simp
      have cf2 : (oc == fc) = false := by simpa using hf2.out
      clear hf1 hf2
      have bt1 : (oa != ta) = true := by simpa using ht1.out
      have ct1 : (oa == ta) = false := by simpa using ht1.out
      clear ht1
      go_loopw [17] (fun iv wr => ∃ k : Nat, 1 ≤ k ∧ k ≤ 5 ∧ iv = .int .i64 k ∧ Below z3.heap.size z3 wr) (fun iv _ => 5 - (intOf iv).toNat)
      case atStart => exact ⟨1, by omega, by omega, rfl, Below.refl _ _⟩
      case round =>
        obtain ⟨k, hk1, hk5, rfl, hbr⟩ := hrel
        by_cases hk : k ≤ 4
        · have hki : (k : Int) ≤ 4 := by omega
          have HTLk := Lib.hid (fun V h1 h2 => HTL.out (k : Int) V h1 h2)
          obtain ⟨th, hth⟩ : ∃ n, hiN (sumsH cs (k : Int)).sum = n := ⟨_, rfl⟩
          obtain ⟨tl, htl⟩ : ∃ n, loN (sumsH cs (k : Int)).sum = n := ⟨_, rfl⟩
          have hq1 : (th == th) = true := by simp
          have hq2 : (tl == tl) = true := by simp
          rw [hth, htl] at HTLk
          clear hth htl HTL
          have hBl := hbr
          have HT := Lib.hid (And.intro (HT.out.1.below hbr) (HT.out.2.below hbr))
          go_wp2_with fail
          go_roundw
          case rel => exact ⟨k + 1, by omega, by omega, by go_num, hBl⟩
          case measure => simp [intOf]; omega
        · have hki : ¬ ((k : Int) ≤ 4) := by omega
          have hB := since_step hB hbr
          have hK1 := hK1.below hbr
          have hK2 := hK2.below hbr
          have hK3 := hK3.below hbr
          have HT := Lib.hid (And.intro (HT.out.1.below hbr) (HT.out.2.below hbr))
          have HR1 := Lib.hid (And.intro (HR1.out.1.below hbr) (HR1.out.2.below hbr))
          have HR2 := Lib.hid (And.intro (HR2.out.1.below hbr) (HR2.out.2.below hbr))
          clear hbr HTL
          obtain ⟨hK1_l, hK1_c⟩ := id hK1
          have hK1_0 := hK1_c 0
          have hK1_1 := hK1_c 1
          simp at hK1_0 hK1_1
          clear hK1_c
          obtain ⟨hK2_l, hK2_c⟩ := id hK2
          have hK2_0 := hK2_c 0
          have hK2_1 := hK2_c 1
          simp at hK2_0 hK2_1
          clear hK2_c
          obtain ⟨hK3_l, hK3_c⟩ := id hK3
          have hK3_0 := hK3_c 0
          have hK3_1 := hK3_c 1
          simp at hK3_0 hK3_1
          clear hK3_c
          go_upto_region 14 with fail
          clear hK1_l hK1_0 hK1_1 hK2_l hK2_0 hK2_1 hK3_l hK3_0 hK3_1
          have HC : Hid (∀ V, Below wr.heap.size wr V → (V.cell? ⟨w.heap.size, 0, none⟩ = some (.int .i64 fa) ∧ V.cell? ⟨w.heap.size, 1, none⟩ = some (.int .i64 fc)) ∧ (V.cell? ⟨w.heap.size + 1, 0, none⟩ = some (.int .i64 ta) ∧ V.cell? ⟨w.heap.size + 1, 1, none⟩ = some (.int .i64 tc)) ∧ (V.cell? ⟨w.heap.size + 1 + 1, 0, none⟩ = some (.int .i64 oa) ∧ V.cell? ⟨w.heap.size + 1 + 1, 1, none⟩ = some (.int .i64 oc))) := Lib.hid fun V h => ⟨⟨(hK1.below h).2 0, (hK1.below h).2 1⟩, ⟨(hK2.below h).2 0, (hK2.below h).2 1⟩, ⟨(hK3.below h).2 0, (hK3.below h).2 1⟩⟩
          have HR0 : Hid (∀ V, Below wr.heap.size wr V → Sl V A (rc Hd.cells R) ∧ HdTab V R cs) := Lib.hid fun V h => ⟨HT.out.1.below h, HT.out.2.below h⟩
          have HRA : Hid (∀ V, Below wr.heap.size wr V → Sl V X1 (rc Hd.cells m1) ∧ HdTab V m1 ML) := Lib.hid fun V h => ⟨HR1.out.1.below h, HR1.out.2.below h⟩
          have HRB : Hid (∀ V, Below wr.heap.size wr V → Sl V X2 (rc Hd.cells m2) ∧ HdTab V m2 PL) := Lib.hid fun V h => ⟨HR2.out.1.below h, HR2.out.2.below h⟩
          have hszU := hB.size
          clear hK1 hK2 hK3 HT HR1 HR2
          go_wp2_with fail
          refine wp_region_held_drew (S := (fun V => Below wr.heap.size wr V)) (by kernel_rfl) (by exact (Below.refl _ _).drew) (fun hHeld => ?_)
          refine wpAnyH_take (i := 0) (oi := { dst := some 115, op := _, type := _, pos := _, after := _, guard := _ }) (v := ?_) rfl (by kernel_rfl) (by kernel_rfl) (by kernel_rfl) (fun _ _ _ h => h) (Or.inl ⟨by rfl, ?_⟩) hHeld ?_
          rotate_left
          · (intro w hSw; clear hSw; go_simp <;> with_reducible rfl)
          try simp only [Act.put, List.setIfInBounds_toArray, List.set_cons_zero, List.set_cons_succ]
          refine wpAnyH_take (i := 1) (oi := { dst := some 116, op := _, type := _, pos := _, after := _, guard := _ }) (v := ?_) rfl (by kernel_rfl) (by kernel_rfl) (by kernel_rfl) (fun _ _ _ h => h) (Or.inl ⟨by rfl, ?_⟩) hHeld ?_
          rotate_left
          · (intro w hSw; clear hSw; go_simp <;> with_reducible rfl)
          try simp only [Act.put, List.setIfInBounds_toArray, List.set_cons_zero, List.set_cons_succ]
          refine wpAnyH_take (i := 2) (oi := { dst := some 117, op := _, type := _, pos := _, after := _, guard := _ }) (v := ?_) rfl (by kernel_rfl) (by kernel_rfl) (by kernel_rfl) (fun _ _ _ h => h) (Or.inl ⟨by rfl, ?_⟩) hHeld ?_
          rotate_left
          · (intro w hSw; clear hSw; go_simp <;> with_reducible rfl)
          try simp only [Act.put, List.setIfInBounds_toArray, List.set_cons_zero, List.set_cons_succ]
          refine wpAnyH_take (i := 3) (oi := { dst := some 118, op := _, type := _, pos := _, after := _, guard := _ }) (v := undef) rfl (by kernel_rfl) (by kernel_rfl) (by kernel_rfl) (fun _ _ _ h => h) (Or.inr ⟨by rfl, rfl⟩) hHeld ?_
          try simp only [Act.put, List.setIfInBounds_toArray, List.set_cons_zero, List.set_cons_succ]
          refine wpAnyH_take (i := 4) (oi := { dst := some 119, op := _, type := _, pos := _, after := _, guard := _ }) (v := undef) rfl (by kernel_rfl) (by kernel_rfl) (by kernel_rfl) (fun _ _ _ h => h) (Or.inr ⟨by rfl, rfl⟩) hHeld ?_
          try simp only [Act.put, List.setIfInBounds_toArray, List.set_cons_zero, List.set_cons_succ]
          refine wpAnyH_take (i := 5) (oi := { dst := some 120, op := _, type := _, pos := _, after := _, guard := _ }) (v := ?_) rfl (by kernel_rfl) (by kernel_rfl) (by kernel_rfl) (fun _ _ _ h => h) (Or.inl ⟨by rfl, ?_⟩) hHeld ?_
          rotate_left
          · (intro w hSw; clear hSw; go_simp <;> with_reducible rfl)
          try simp only [Act.put, List.setIfInBounds_toArray, List.set_cons_zero, List.set_cons_succ]
          refine wpAnyH_take (i := 6) (oi := { dst := some 121, op := _, type := _, pos := _, after := _, guard := _ }) (v := ?_) rfl (by kernel_rfl) (by kernel_rfl) (by kernel_rfl) (fun _ _ _ h => h) (Or.inl ⟨by rfl, ?_⟩) hHeld ?_
          rotate_left
          · (intro w hSw; clear hSw; go_simp <;> with_reducible rfl)
          try simp only [Act.put, List.setIfInBounds_toArray, List.set_cons_zero, List.set_cons_succ]
          refine wpAnyH_take (i := 7) (oi := { dst := some 122, op := _, type := _, pos := _, after := _, guard := _ }) (v := undef) rfl (by kernel_rfl) (by kernel_rfl) (by kernel_rfl) (fun _ _ _ h => h) (Or.inr ⟨by rfl, rfl⟩) hHeld ?_
          try simp only [Act.put, List.setIfInBounds_toArray, List.set_cons_zero, List.set_cons_succ]
          refine wpAnyH_take (i := 8) (oi := { dst := some 123, op := _, type := _, pos := _, after := _, guard := _ }) (v := undef) rfl (by kernel_rfl) (by kernel_rfl) (by kernel_rfl) (fun _ _ _ h => h) (Or.inr ⟨by rfl, rfl⟩) hHeld ?_
          try simp only [Act.put, List.setIfInBounds_toArray, List.set_cons_zero, List.set_cons_succ]
          refine wpAnyH_take (i := 9) (oi := { dst := some 124, op := _, type := _, pos := _, after := _, guard := _ }) (v := undef) rfl (by kernel_rfl) (by kernel_rfl) (by kernel_rfl) (fun _ _ _ h => h) (Or.inr ⟨by rfl, rfl⟩) hHeld ?_
          try simp only [Act.put, List.setIfInBounds_toArray, List.set_cons_zero, List.set_cons_succ]
          refine wpAnyH_take (i := 10) (oi := { dst := some 125, op := _, type := _, pos := _, after := _, guard := _ }) (v := undef) rfl (by kernel_rfl) (by kernel_rfl) (by kernel_rfl) (fun _ _ _ h => h) (Or.inr ⟨by rfl, rfl⟩) hHeld ?_
          try simp only [Act.put, List.setIfInBounds_toArray, List.set_cons_zero, List.set_cons_succ]
          refine wpAnyH_take (i := 11) (oi := { dst := some 126, op := _, type := _, pos := _, after := _, guard := _ }) (v := undef) rfl (by kernel_rfl) (by kernel_rfl) (by kernel_rfl) (fun _ _ _ h => h) (Or.inr ⟨by rfl, rfl⟩) hHeld ?_
          try simp only [Act.put, List.setIfInBounds_toArray, List.set_cons_zero, List.set_cons_succ]
          refine wpAnyH_take (i := 12) (oi := { dst := some 127, op := _, type := _, pos := _, after := _, guard := _ }) (v := undef) rfl (by kernel_rfl) (by kernel_rfl) (by kernel_rfl) (fun _ _ _ h => h) (Or.inr ⟨by rfl, rfl⟩) hHeld ?_
          try simp only [Act.put, List.setIfInBounds_toArray, List.set_cons_zero, List.set_cons_succ]
          refine wpAnyH_take (i := 13) (oi := { dst := some 128, op := _, type := _, pos := _, after := _, guard := _ }) (v := undef) rfl (by kernel_rfl) (by kernel_rfl) (by kernel_rfl) (fun _ _ _ h => h) (Or.inr ⟨by rfl, rfl⟩) hHeld ?_
          try simp only [Act.put, List.setIfInBounds_toArray, List.set_cons_zero, List.set_cons_succ]
          refine wpAnyH_take (i := 14) (oi := { dst := some 129, op := _, type := _, pos := _, after := _, guard := _ }) (v := ?_) rfl (by kernel_rfl) (by kernel_rfl) (by kernel_rfl) (fun _ _ _ h => h) (Or.inl ⟨by rfl, ?_⟩) hHeld ?_
          rotate_left
          · (intro w hSw; clear hSw; go_simp <;> with_reducible rfl)
          try simp only [Act.put, List.setIfInBounds_toArray, List.set_cons_zero, List.set_cons_succ]
          refine wpAnyH_take (i := 15) (oi := { dst := some 130, op := _, type := _, pos := _, after := _, guard := _ }) (v := ?_) rfl (by kernel_rfl) (by kernel_rfl) (by kernel_rfl) (fun _ _ _ h => h) (Or.inl ⟨by rfl, ?_⟩) hHeld ?_
          rotate_left
          · (intro w hSw; clear hSw; go_simp <;> with_reducible rfl)
          try simp only [Act.put, List.setIfInBounds_toArray, List.set_cons_zero, List.set_cons_succ]
          refine wpAnyH_ready (rs := [16]) (by kernel_rfl) (by simp) ?_
          refine AllReadyH.cons (o := { dst := some 131, op := _, type := _, pos := _, after := _, guard := _ }) rfl (fun K hK => ?_) AllReadyH.nil
          go_simp
          refine (HLV.out _).mono ?_
          rintro e y4 ⟨rfl, hk4⟩
          have hKeep := since_step hHeld hk4
          go_wp2_with fail
          refine hK.out _ _ (by (try dsimp only); exact hKeep) (fun hHeld => ?_)
          clear hK K hKeep
          try simp only [Act.put, List.setIfInBounds_toArray, List.set_cons_zero, List.set_cons_succ]
          refine wpAnyH_take (i := 17) (oi := { dst := some 132, op := _, type := _, pos := _, after := _, guard := _ }) (v := ?_) rfl (by kernel_rfl) (by kernel_rfl) (by kernel_rfl) (fun _ _ _ h => h) (Or.inl ⟨by rfl, ?_⟩) hHeld ?_
          rotate_left
          · (intro w hSw; clear hSw; go_simp <;> with_reducible rfl)
          try simp only [Act.put, List.setIfInBounds_toArray, List.set_cons_zero, List.set_cons_succ]
          refine wpAnyH_take (i := 18) (oi := { dst := some 12, op := _, type := _, pos := _, after := _, guard := _ }) (v := ?_) rfl (by kernel_rfl) (by kernel_rfl) (by kernel_rfl) (fun _ _ _ h => h) (Or.inl ⟨by rfl, ?_⟩) hHeld ?_
          rotate_left
          · (intro w hSw; clear hSw; go_simp <;> with_reducible rfl)
          try simp only [Act.put, List.setIfInBounds_toArray, List.set_cons_zero, List.set_cons_succ]
          refine wpAnyH_done (by kernel_rfl) ?_ _
          have hBf := hB.trans (hHeld.mono hszU)
          go_wp2_with fail
          go_ret
          exact ⟨rfl, hBf⟩
set_option maxHeartbeats 32000000 in
set_option maxRecDepth 100000 in
theorem keeps_C22 (a0 : Option Addr) (c0 : Nat) (l : List Hd) (fa fc ta tc oa oc xa xt xq a5 : Int) (w : World) (hx : In64 xq) (hs : Sl w a0 (rc Hd.cells l)) (hd : ∀ g ∈ l, InH w g) (hf1 : Hid (oa = fa)) (hf2 : Hid (oc ≠ fc)) (ht1 : Hid (oa = ta)) (ht2 : Hid (oc ≠ tc)) :
    Calls Try.prog 13 #[.slice a0 l.length c0, .agg #[.int .i64 fa, .int .i64 fc], .agg #[.int .i64 ta, .int .i64 tc], .agg #[.int .i64 oa, .int .i64 oc], .agg #[.int .i64 xa, .int .i64 xt, .int .i64 xq], .int .i64 a5] w fun e w' => e = .returned (.bool true) ∧ Below w.heap.size w w' := by
  have hB := since_alloc (since_alloc (since_alloc (since_alloc (Below.refl _ w) (.cells #[.int .i64 fa, .int .i64 fc] 24)) (.cells #[.int .i64 ta, .int .i64 tc] 24)) (.cells #[.int .i64 oa, .int .i64 oc] 24)) (.cells #[.int .i64 xa, .int .i64 xt, .int .i64 xq] 93)
  have hK1 := (((Bk.new w #[.int .i64 fa, .int .i64 fc] 24).alloc (.cells #[.int .i64 ta, .int .i64 tc] 24)).alloc (.cells #[.int .i64 oa, .int .i64 oc] 24)).alloc (.cells #[.int .i64 xa, .int .i64 xt, .int .i64 xq] 93)
  have hK2 := ((Bk.new (w.alloc (.cells #[.int .i64 fa, .int .i64 fc] 24)) #[.int .i64 ta, .int .i64 tc] 24).alloc (.cells #[.int .i64 oa, .int .i64 oc] 24)).alloc (.cells #[.int .i64 xa, .int .i64 xt, .int .i64 xq] 93)
  have hK3 := (Bk.new ((w.alloc (.cells #[.int .i64 fa, .int .i64 fc] 24)).alloc (.cells #[.int .i64 ta, .int .i64 tc] 24)) #[.int .i64 oa, .int .i64 oc] 24).alloc (.cells #[.int .i64 xa, .int .i64 xt, .int .i64 xq] 93)
  have hK4 := Bk.new (((w.alloc (.cells #[.int .i64 fa, .int .i64 fc] 24)).alloc (.cells #[.int .i64 ta, .int .i64 tc] 24)).alloc (.cells #[.int .i64 oa, .int .i64 oc] 24)) #[.int .i64 xa, .int .i64 xt, .int .i64 xq] 93
  rw [World.size_alloc] at hK2
  rw [World.size_alloc, World.size_alloc] at hK3
  rw [World.size_alloc, World.size_alloc, World.size_alloc] at hK4
  have HF1 := Lib.hid (few26_any a0 c0 l _ (hs.below hB) (fun g hg => (hd g hg).below hB))
  have HLV := Lib.hid (fun V => lives26_any V)
  clear hs hd
  go_enter Try.func13, Try.ntmps13
  go_upto_region 1 with fail
  generalize hWW : (((w.alloc (.cells #[.int .i64 fa, .int .i64 fc] 24)).alloc (.cells #[.int .i64 ta, .int .i64 tc] 24)).alloc (.cells #[.int .i64 oa, .int .i64 oc] 24)).alloc (.cells #[.int .i64 xa, .int .i64 xt, .int .i64 xq] 93) = W at *
  clear hWW
  obtain ⟨hK1_l, hK1_c⟩ := id hK1
  have hK1_0 := hK1_c 0
  have hK1_1 := hK1_c 1
  simp at hK1_0 hK1_1
  clear hK1_c
  obtain ⟨hK2_l, hK2_c⟩ := id hK2
  have hK2_0 := hK2_c 0
  have hK2_1 := hK2_c 1
  simp at hK2_0 hK2_1
  clear hK2_c
  obtain ⟨hK3_l, hK3_c⟩ := id hK3
  have hK3_0 := hK3_c 0
  have hK3_1 := hK3_c 1
  simp at hK3_0 hK3_1
  clear hK3_c
  obtain ⟨hK4_l, hK4_c⟩ := id hK4
  have hK4_0 := hK4_c 0
  have hK4_1 := hK4_c 1
  have hK4_2 := hK4_c 2
  simp at hK4_0 hK4_1 hK4_2
  clear hK4_c
  go_wp2_with fail
  refine (HF1.out).mono ?_
  rintro e z1 ⟨⟨R, cs, A, c, rfl, hs, ht, hcap, hR, hgd⟩, hb⟩
  have hB := since_step hB hb
  have hK1 := hK1.below hb
  have hK2 := hK2.below hb
  have hK3 := hK3.below hb
  have hK4 := hK4.below hb
  clear hb
  clear hK1_l hK1_0 hK1_1 hK2_l hK2_0 hK2_1 hK3_l hK3_0 hK3_1 hK4_l hK4_0 hK4_1 hK4_2
  have hRc := ht.1
  have hR9 : R.length ≤ 900000 := by omega
  have hR8 : R.length ≤ 800000 := by omega
  have hcl9 : ∀ g ∈ cs, g.L.length ≤ 900000 := fun g hg => Nat.le_trans (hgd.1 g hg) (by omega)
  have hcs : cs.length ≤ 10 := by omega
  have HM1 := Lib.hid (fun V h1 h2 => hmove_any A c R cs fa fc ta tc V hR8 hcl9 h1 h2)
  have HP1 := Lib.hid (fun V h1 h2 => hpass_any A c R cs fa fc ta tc xa xt xq a5 V hR8 hcl9 hx hgd.2 h1 h2)
  obtain ⟨mn, ML, hM⟩ : ∃ n L, moveHR cs fa fc ta tc = (n, L) := ⟨_, _, rfl⟩
  obtain ⟨pn, PL, hP⟩ : ∃ n L, passHR cs fa fc ta tc ⟨xa, xt, xq⟩ a5 = (n, L) := ⟨_, _, rfl⟩
  rw [hM] at HM1
  rw [hP] at HP1
  unfold HRes at HM1 HP1
  simp only at HM1 HP1
  have HT := Lib.hid (And.intro hs ht)
  clear hs ht hcap hR hRc hx
  obtain ⟨hK1_l, hK1_c⟩ := id hK1
  have hK1_0 := hK1_c 0
  have hK1_1 := hK1_c 1
  simp at hK1_0 hK1_1
  clear hK1_c
  obtain ⟨hK2_l, hK2_c⟩ := id hK2
  have hK2_0 := hK2_c 0
  have hK2_1 := hK2_c 1
  simp at hK2_0 hK2_1
  clear hK2_c
  obtain ⟨hK3_l, hK3_c⟩ := id hK3
  have hK3_0 := hK3_c 0
  have hK3_1 := hK3_c 1
  simp at hK3_0 hK3_1
  clear hK3_c
  obtain ⟨hK4_l, hK4_c⟩ := id hK4
  have hK4_0 := hK4_c 0
  have hK4_1 := hK4_c 1
  have hK4_2 := hK4_c 2
  simp at hK4_0 hK4_1 hK4_2
  clear hK4_c
  go_wp2_with fail
  refine (HM1.out _ HT.out.1 HT.out.2).mono ?_
  rintro e z2 ⟨⟨m1, X1, d1, rfl, hsN, htN, _⟩, hb⟩
  have hB := since_step hB hb
  have hK1 := hK1.below hb
  have hK2 := hK2.below hb
  have hK3 := hK3.below hb
  have hK4 := hK4.below hb
  have HT := Lib.hid (And.intro (HT.out.1.below hb) (HT.out.2.below hb))
  clear hb
  clear hK1_l hK1_0 hK1_1 hK2_l hK2_0 hK2_1 hK3_l hK3_0 hK3_1 hK4_l hK4_0 hK4_1 hK4_2
  have HR1 := Lib.hid (And.intro hsN htN)
  clear hsN htN
  obtain ⟨hK1_l, hK1_c⟩ := id hK1
  have hK1_0 := hK1_c 0
  have hK1_1 := hK1_c 1
  simp at hK1_0 hK1_1
  clear hK1_c
  obtain ⟨hK2_l, hK2_c⟩ := id hK2
  have hK2_0 := hK2_c 0
  have hK2_1 := hK2_c 1
  simp at hK2_0 hK2_1
  clear hK2_c
  obtain ⟨hK3_l, hK3_c⟩ := id hK3
  have hK3_0 := hK3_c 0
  have hK3_1 := hK3_c 1
  simp at hK3_0 hK3_1
  clear hK3_c
  obtain ⟨hK4_l, hK4_c⟩ := id hK4
  have hK4_0 := hK4_c 0
  have hK4_1 := hK4_c 1
  have hK4_2 := hK4_c 2
  simp at hK4_0 hK4_1 hK4_2
  clear hK4_c
  go_wp2_with fail
  refine (HP1.out _ HT.out.1 HT.out.2).mono ?_
  rintro e z3 ⟨⟨m2, X2, d2, rfl, hsN, htN, _⟩, hb⟩
  have hB := since_step hB hb
  have hK1 := hK1.below hb
  have hK2 := hK2.below hb
  have hK3 := hK3.below hb
  have hK4 := hK4.below hb
  have HT := Lib.hid (And.intro (HT.out.1.below hb) (HT.out.2.below hb))
  have HR1 := Lib.hid (And.intro (HR1.out.1.below hb) (HR1.out.2.below hb))
  clear hb
  clear hK1_l hK1_0 hK1_1 hK2_l hK2_0 hK2_1 hK3_l hK3_0 hK3_1 hK4_l hK4_0 hK4_1 hK4_2
  have HR2 := Lib.hid (And.intro hsN htN)
  clear hsN htN
  clear hK4
  clear HM1 HP1 HF1
  go_wp2_with fail
  by_cases hm0 : mn = 0
  · by_cases hp0 : pn = 0
    · subst hm0
      obtain ⟨hMi, hML⟩ := And.intro (move_is hM) (move_len hM)
      have hM6 := move_in6 hM hgd.2
      have hMc : ∀ g ∈ ML, g.L.length ≤ 900000 := fun g hg => Nat.le_trans (is_len hMi g hg) (by omega)
      have hTM := fun A1 c1 l1 k V hl h1 h2 => htotal_any A1 c1 l1 ML k V hl hMc hM6 h1 h2
      simp only [move_sum hM] at hTM
      have HTM := Lib.hid hTM
      have hMB := fun A1 c1 l1 V hl h1 h2 => hmove_any A1 c1 l1 ML ta tc fa fc V hl hMc h1 h2
      rw [move_back hM] at hMB
      unfold HRes at hMB
      simp only at hMB
      have HMB := Lib.hid hMB
      have HSB := Lib.hid (fun A1 c1 l1 A2 c2 l2 V hl h1 t1 h2 t2 => rhsame_self A1 c1 l1 A2 c2 l2 cs V hl hcl9 h1 t1 h2 t2)
      have hLM := fun A1 c1 l1 V hl h1 h2 => hlots_any A1 c1 l1 ML ta tc V hl hMc h1 h2
      rw [move_to hM] at hLM
      have HLM := Lib.hid hLM
      have HLF := Lib.hid (fun V h1 h2 => hlots_any A c R cs fa fc V hR9 hcl9 h1 h2)
      have hln := lotsH_len hgd.1 fa fc
      have HSL := Lib.hid (fun A1 A2 c1 c2 V h1 h2 => rlsame_any_self A1 A2 c1 c2 (lotsH cs fa fc) V (by omega) h1 h2)
      have HZM : Hid (ML.length ≤ 800000) := Lib.hid (by omega)
      clear hTM hMB hLM hln
      have hLO1 := fun A1 c1 l1 V hl h1 h2 => hlots_any A1 c1 l1 ML oa oc V hl hMc h1 h2
      rw [move_other hM (fun h => hf2.out h.2) (fun h => ht2.out h.2)] at hLO1
      have HLO1 := Lib.hid hLO1
      clear hLO1
      clear hMi hML hM6 hMc
      subst hp0
      obtain ⟨hPi, hP6, hPL⟩ := pass_is hP
      have hP6 := hP6 hgd.2
      have hPc : ∀ g ∈ PL, g.L.length ≤ 900000 := fun g hg => Nat.le_trans (is_len hPi g hg) (by omega)
      have hTP := fun A1 c1 l1 k V hl h1 h2 => htotal_any A1 c1 l1 PL k V hl hPc hP6 h1 h2
      simp only [pass_sum hP] at hTP
      have HTP := Lib.hid hTP
      have HZP : Hid (PL.length ≤ 800000) := Lib.hid (by omega)
      clear hTP
      have hLP := fun A1 c1 l1 V hl h1 h2 => hlots_any A1 c1 l1 PL oa oc V hl hPc h1 h2
      rw [pass_other hP (fun h => hf2.out h.2) (fun h => ht2.out h.2)] at hLP
      have HLP := Lib.hid hLP
      clear hLP
      clear hPi hP6 hPL hPc
      have HLO := Lib.hid (fun V h1 h2 => hlots_any A c R cs oa oc V hR9 hcl9 h1 h2)
      have hlo := lotsH_len hgd.1 oa oc
      have HSO := Lib.hid (fun A1 A2 c1 c2 V h1 h2 => rlsame_any_self A1 A2 c1 c2 (lotsH cs oa oc) V (by omega) h1 h2)
      generalize lotsH cs oa oc = L1 at *
      clear hlo
      generalize lotsH cs fa fc = L0 at *
      have HTL := Lib.hid (fun k V h1 h2 => htotal_any A c R cs k V hR9 hcl9 hgd.2 h1 h2)
      have HZR := Lib.hid hR8
      clear hgd hM hP hR9 hcl9 hR8
      have bf1 : (oa != fa) = false := by rw [hf1.out]; simp
      have bf2 : (oc != fc) = true := by simpa using hf2.out
      have cf1 : (oa == fa) = true := by rw [hf1.out]; simp
      have cf2 : (oc == fc) = false := by simpa using hf2.out
      clear hf1 hf2
      have bt1 : (oa != ta) = false := by rw [ht1.out]; simp
      have bt2 : (oc != tc) = true := by simpa using ht2.out
      have ct1 : (oa == ta) = true := by rw [ht1.out]; simp
      have ct2 : (oc == tc) = false := by simpa using ht2.out
      clear ht1 ht2
      go_loopw [17] (fun iv wr => ∃ k : Nat, 1 ≤ k ∧ k ≤ 5 ∧ iv = .int .i64 k ∧ Below z3.heap.size z3 wr) (fun iv _ => 5 - (intOf iv).toNat)
      case atStart => exact ⟨1, by omega, by omega, rfl, Below.refl _ _⟩
      case round =>
        obtain ⟨k, hk1, hk5, rfl, hbr⟩ := hrel
        by_cases hk : k ≤ 4
        · have hki : (k : Int) ≤ 4 := by omega
          have HTLk := Lib.hid (fun V h1 h2 => HTL.out (k : Int) V h1 h2)
          have HTMk := Lib.hid (fun A1 c1 l1 V hl h1 h2 => HTM.out A1 c1 l1 (k : Int) V hl h1 h2)
          have HTPk := Lib.hid (fun A1 c1 l1 V hl h1 h2 => HTP.out A1 c1 l1 (k : Int) V hl h1 h2)
          obtain ⟨th, hth⟩ : ∃ n, hiN (sumsH cs (k : Int)).sum = n := ⟨_, rfl⟩
          obtain ⟨tl, htl⟩ : ∃ n, loN (sumsH cs (k : Int)).sum = n := ⟨_, rfl⟩
          have hq1 : (th == th) = true := by simp
          have hq2 : (tl == tl) = true := by simp
          rw [hth, htl] at HTLk HTMk HTPk
          clear hth htl HTL HTM HTP
          have hBl := hbr
          have HT := Lib.hid (And.intro (HT.out.1.below hbr) (HT.out.2.below hbr))
          have HR1 := Lib.hid (And.intro (HR1.out.1.below hbr) (HR1.out.2.below hbr))
          have HR2 := Lib.hid (And.intro (HR2.out.1.below hbr) (HR2.out.2.below hbr))
          go_wp2_with fail
          refine (HTMk.out X1 d1 m1 _ (by have := HR1.out.2.1; have := HZM.out; omega) HR1.out.1 HR1.out.2).mono ?_
          rintro e r1 ⟨rfl, hb⟩
          have hBl := since_step hBl hb
          have HT := Lib.hid (And.intro (HT.out.1.below hb) (HT.out.2.below hb))
          have HR1 := Lib.hid (And.intro (HR1.out.1.below hb) (HR1.out.2.below hb))
          have HR2 := Lib.hid (And.intro (HR2.out.1.below hb) (HR2.out.2.below hb))
          clear hb
          go_wp2_with fail
          refine (HTLk.out _ HT.out.1 HT.out.2).mono ?_
          rintro e r2 ⟨rfl, hb⟩
          have hBl := since_step hBl hb
          have HT := Lib.hid (And.intro (HT.out.1.below hb) (HT.out.2.below hb))
          have HR1 := Lib.hid (And.intro (HR1.out.1.below hb) (HR1.out.2.below hb))
          have HR2 := Lib.hid (And.intro (HR2.out.1.below hb) (HR2.out.2.below hb))
          clear hb
          go_wp2_with fail
          refine (HTPk.out X2 d2 m2 _ (by have := HR2.out.2.1; have := HZP.out; omega) HR2.out.1 HR2.out.2).mono ?_
          rintro e r3 ⟨rfl, hb⟩
          have hBl := since_step hBl hb
          have HT := Lib.hid (And.intro (HT.out.1.below hb) (HT.out.2.below hb))
          have HR1 := Lib.hid (And.intro (HR1.out.1.below hb) (HR1.out.2.below hb))
          have HR2 := Lib.hid (And.intro (HR2.out.1.below hb) (HR2.out.2.below hb))
          clear hb
          go_wp2_with fail
          refine (HTLk.out _ HT.out.1 HT.out.2).mono ?_
          rintro e r4 ⟨rfl, hb⟩
          have hBl := since_step hBl hb
          have HT := Lib.hid (And.intro (HT.out.1.below hb) (HT.out.2.below hb))
          have HR1 := Lib.hid (And.intro (HR1.out.1.below hb) (HR1.out.2.below hb))
          have HR2 := Lib.hid (And.intro (HR2.out.1.below hb) (HR2.out.2.below hb))
          clear hb
          go_wp2_with fail
          go_roundw
          case rel => exact ⟨k + 1, by omega, by omega, by go_num, hBl⟩
          case measure => simp [intOf]; omega
        · have hki : ¬ ((k : Int) ≤ 4) := by omega
          have hB := since_step hB hbr
          have hK1 := hK1.below hbr
          have hK2 := hK2.below hbr
          have hK3 := hK3.below hbr
          have HT := Lib.hid (And.intro (HT.out.1.below hbr) (HT.out.2.below hbr))
          have HR1 := Lib.hid (And.intro (HR1.out.1.below hbr) (HR1.out.2.below hbr))
          have HR2 := Lib.hid (And.intro (HR2.out.1.below hbr) (HR2.out.2.below hbr))
          clear hbr HTL HTM HTP
          obtain ⟨hK1_l, hK1_c⟩ := id hK1
          have hK1_0 := hK1_c 0
          have hK1_1 := hK1_c 1
          simp at hK1_0 hK1_1
          clear hK1_c
          obtain ⟨hK2_l, hK2_c⟩ := id hK2
          have hK2_0 := hK2_c 0
          have hK2_1 := hK2_c 1
          simp at hK2_0 hK2_1
          clear hK2_c
          obtain ⟨hK3_l, hK3_c⟩ := id hK3
          have hK3_0 := hK3_c 0
          have hK3_1 := hK3_c 1
          simp at hK3_0 hK3_1
          clear hK3_c
          go_wp2_with fail
          refine (HMB.out X1 d1 m1 _ (by have := HR1.out.2.1; have := HZM.out; omega) HR1.out.1 HR1.out.2).mono ?_
          rintro e q1 ⟨⟨m3, X3, d3, rfl, hsN, htN, _⟩, hb⟩
          have hB := since_step hB hb
          have hK1 := hK1.below hb
          have hK2 := hK2.below hb
          have hK3 := hK3.below hb
          have HT := Lib.hid (And.intro (HT.out.1.below hb) (HT.out.2.below hb))
          have HR1 := Lib.hid (And.intro (HR1.out.1.below hb) (HR1.out.2.below hb))
          have HR2 := Lib.hid (And.intro (HR2.out.1.below hb) (HR2.out.2.below hb))
          clear hb
          clear hK1_l hK1_0 hK1_1 hK2_l hK2_0 hK2_1 hK3_l hK3_0 hK3_1
          have HR3 := Lib.hid (And.intro hsN htN)
          have HZ3 : Hid (m3.length ≤ 900000) := Lib.hid (by have h3 := htN.1; have h4 := HT.out.2.1; have := HZR.out; omega)
          clear hsN htN
          obtain ⟨hK1_l, hK1_c⟩ := id hK1
          have hK1_0 := hK1_c 0
          have hK1_1 := hK1_c 1
          simp at hK1_0 hK1_1
          clear hK1_c
          obtain ⟨hK2_l, hK2_c⟩ := id hK2
          have hK2_0 := hK2_c 0
          have hK2_1 := hK2_c 1
          simp at hK2_0 hK2_1
          clear hK2_c
          obtain ⟨hK3_l, hK3_c⟩ := id hK3
          have hK3_0 := hK3_c 0
          have hK3_1 := hK3_c 1
          simp at hK3_0 hK3_1
          clear hK3_c
          go_upto_region 12 with fail
          clear hK1_l hK1_0 hK1_1 hK2_l hK2_0 hK2_1 hK3_l hK3_0 hK3_1
          have HC : Hid (∀ V, Below q1.heap.size q1 V → (V.cell? ⟨w.heap.size, 0, none⟩ = some (.int .i64 fa) ∧ V.cell? ⟨w.heap.size, 1, none⟩ = some (.int .i64 fc)) ∧ (V.cell? ⟨w.heap.size + 1, 0, none⟩ = some (.int .i64 ta) ∧ V.cell? ⟨w.heap.size + 1, 1, none⟩ = some (.int .i64 tc)) ∧ (V.cell? ⟨w.heap.size + 1 + 1, 0, none⟩ = some (.int .i64 oa) ∧ V.cell? ⟨w.heap.size + 1 + 1, 1, none⟩ = some (.int .i64 oc))) := Lib.hid fun V h => ⟨⟨(hK1.below h).2 0, (hK1.below h).2 1⟩, ⟨(hK2.below h).2 0, (hK2.below h).2 1⟩, ⟨(hK3.below h).2 0, (hK3.below h).2 1⟩⟩
          have HR0 : Hid (∀ V, Below q1.heap.size q1 V → Sl V A (rc Hd.cells R) ∧ HdTab V R cs) := Lib.hid fun V h => ⟨HT.out.1.below h, HT.out.2.below h⟩
          have HRA : Hid (∀ V, Below q1.heap.size q1 V → Sl V X1 (rc Hd.cells m1) ∧ HdTab V m1 ML) := Lib.hid fun V h => ⟨HR1.out.1.below h, HR1.out.2.below h⟩
          have HRB : Hid (∀ V, Below q1.heap.size q1 V → Sl V X2 (rc Hd.cells m2) ∧ HdTab V m2 PL) := Lib.hid fun V h => ⟨HR2.out.1.below h, HR2.out.2.below h⟩
          have hszU := hB.size
          have HRC : Hid (∀ V, Below q1.heap.size q1 V → Sl V X3 (rc Hd.cells m3) ∧ HdTab V m3 cs) := Lib.hid fun V h => ⟨HR3.out.1.below h, HR3.out.2.below h⟩
          clear hK1 hK2 hK3 HT HR1 HR2 HR3
          go_wp2_with fail
          refine wp_region_held_drew (S := (fun V => Below q1.heap.size q1 V)) (by kernel_rfl) (by exact (Below.refl _ _).drew) (fun hHeld => ?_)
          refine wpAnyH_take (i := 0) (oi := { dst := some 84, op := _, type := _, pos := _, after := _, guard := _ }) (v := ?_) rfl (by kernel_rfl) (by kernel_rfl) (by kernel_rfl) (fun _ _ _ h => h) (Or.inl ⟨by rfl, ?_⟩) hHeld ?_
          rotate_left
          · (intro w hSw; clear hSw; go_simp <;> with_reducible rfl)
          try simp only [Act.put, List.setIfInBounds_toArray, List.set_cons_zero, List.set_cons_succ]
          refine wpAnyH_take (i := 1) (oi := { dst := some 85, op := _, type := _, pos := _, after := _, guard := _ }) (v := ?_) rfl (by kernel_rfl) (by kernel_rfl) (by kernel_rfl) (fun _ _ _ h => h) (Or.inl ⟨by rfl, ?_⟩) hHeld ?_
          rotate_left
          · (intro w hSw; clear hSw; go_simp <;> with_reducible rfl)
          try simp only [Act.put, List.setIfInBounds_toArray, List.set_cons_zero, List.set_cons_succ]
          refine wpAnyH_take (i := 2) (oi := { dst := some 86, op := _, type := _, pos := _, after := _, guard := _ }) (v := ?_) rfl (by kernel_rfl) (by kernel_rfl) (by kernel_rfl) (fun _ _ _ h => h) (Or.inl ⟨by rfl, ?_⟩) hHeld ?_
          rotate_left
          · (intro w hSw; clear hSw; go_simp <;> with_reducible rfl)
          try simp only [Act.put, List.setIfInBounds_toArray, List.set_cons_zero, List.set_cons_succ]
          refine wpAnyH_take (i := 3) (oi := { dst := some 87, op := _, type := _, pos := _, after := _, guard := _ }) (v := ?_) rfl (by kernel_rfl) (by kernel_rfl) (by kernel_rfl) (fun _ _ _ h => h) (Or.inl ⟨by rfl, ?_⟩) hHeld ?_
          rotate_left
          · (intro w hSw; clear hSw; go_simp <;> with_reducible rfl)
          try simp only [Act.put, List.setIfInBounds_toArray, List.set_cons_zero, List.set_cons_succ]
          refine wpAnyH_take (i := 4) (oi := { dst := some 88, op := _, type := _, pos := _, after := _, guard := _ }) (v := ?_) rfl (by kernel_rfl) (by kernel_rfl) (by kernel_rfl) (fun _ _ _ h => h) (Or.inl ⟨by rfl, ?_⟩) hHeld ?_
          rotate_left
          · (intro w hSw; clear hSw; go_simp <;> with_reducible rfl)
          try simp only [Act.put, List.setIfInBounds_toArray, List.set_cons_zero, List.set_cons_succ]
          refine wpAnyH_ready (rs := [5]) (by kernel_rfl) (by simp) ?_
          refine AllReadyH.cons (o := { dst := some 89, op := _, type := _, pos := _, after := _, guard := _ }) rfl (fun K hK => ?_) AllReadyH.nil
          go_simp
          refine (HSB.out _ _ _ _ _ _ _ HZ3.out (HRC.out _ hHeld).1 (HRC.out _ hHeld).2 (HR0.out _ hHeld).1 (HR0.out _ hHeld).2).mono ?_
          rintro e x1 ⟨rfl, hk1⟩
          have hKeep := since_step hHeld hk1
          go_wp2_with fail
          refine hK.out _ _ (by (try dsimp only); exact hKeep) (fun hHeld => ?_)
          clear hK K hKeep
          try simp only [Act.put, List.setIfInBounds_toArray, List.set_cons_zero, List.set_cons_succ]
          refine wpAnyH_take (i := 6) (oi := { dst := some 90, op := _, type := _, pos := _, after := _, guard := _ }) (v := ?_) rfl (by kernel_rfl) (by kernel_rfl) (by kernel_rfl) (fun _ _ _ h => h) (Or.inl ⟨by rfl, ?_⟩) hHeld ?_
          rotate_left
          · (intro w hSw; clear hSw; go_simp <;> with_reducible rfl)
          try simp only [Act.put, List.setIfInBounds_toArray, List.set_cons_zero, List.set_cons_succ]
          refine wpAnyH_take (i := 7) (oi := { dst := some 91, op := _, type := _, pos := _, after := _, guard := _ }) (v := ?_) rfl (by kernel_rfl) (by kernel_rfl) (by kernel_rfl) (fun _ _ _ h => h) (Or.inl ⟨by rfl, ?_⟩) hHeld ?_
          rotate_left
          · (intro w hSw; clear hSw; go_simp <;> with_reducible rfl)
          try simp only [Act.put, List.setIfInBounds_toArray, List.set_cons_zero, List.set_cons_succ]
          refine wpAnyH_take (i := 8) (oi := { dst := some 92, op := _, type := _, pos := _, after := _, guard := _ }) (v := ?_) rfl (by kernel_rfl) (by kernel_rfl) (by kernel_rfl) (fun _ _ _ h => h) (Or.inl ⟨by rfl, ?_⟩) hHeld ?_
          rotate_left
          · (intro w hSw; clear hSw; go_simp <;> with_reducible rfl)
          try simp only [Act.put, List.setIfInBounds_toArray, List.set_cons_zero, List.set_cons_succ]
          refine wpAnyH_take (i := 9) (oi := { dst := some 93, op := _, type := _, pos := _, after := _, guard := _ }) (v := ?_) rfl (by kernel_rfl) (by kernel_rfl) (by kernel_rfl) (fun _ _ _ h => h) (Or.inl ⟨by rfl, ?_⟩) hHeld ?_
          rotate_left
          · (intro w hSw; clear hSw; go_simp <;> with_reducible rfl)
          try simp only [Act.put, List.setIfInBounds_toArray, List.set_cons_zero, List.set_cons_succ]
          refine wpAnyH_take (i := 10) (oi := { dst := some 94, op := _, type := _, pos := _, after := _, guard := _ }) (v := ?_) rfl (by kernel_rfl) (by kernel_rfl) (by kernel_rfl) (fun _ _ _ h => h) (Or.inl ⟨by rfl, ?_⟩) hHeld ?_
          rotate_left
          · (intro w hSw; obtain ⟨⟨p0, p1⟩, ⟨p2, p3⟩, ⟨p4, p5⟩⟩ := HC.out _ hSw; go_simp <;> with_reducible rfl)
          try simp only [Act.put, List.setIfInBounds_toArray, List.set_cons_zero, List.set_cons_succ]
          refine wpAnyH_take (i := 12) (oi := { dst := some 96, op := _, type := _, pos := _, after := _, guard := _ }) (v := ?_) rfl (by kernel_rfl) (by kernel_rfl) (by kernel_rfl) (fun _ _ _ h => h) (Or.inl ⟨by rfl, ?_⟩) hHeld ?_
          rotate_left
          · (intro w hSw; clear hSw; go_simp <;> with_reducible rfl)
          try simp only [Act.put, List.setIfInBounds_toArray, List.set_cons_zero, List.set_cons_succ]
          refine wpAnyH_take (i := 13) (oi := { dst := some 97, op := _, type := _, pos := _, after := _, guard := _ }) (v := ?_) rfl (by kernel_rfl) (by kernel_rfl) (by kernel_rfl) (fun _ _ _ h => h) (Or.inl ⟨by rfl, ?_⟩) hHeld ?_
          rotate_left
          · (intro w hSw; obtain ⟨⟨p0, p1⟩, ⟨p2, p3⟩, ⟨p4, p5⟩⟩ := HC.out _ hSw; go_simp <;> with_reducible rfl)
          try simp only [Act.put, List.setIfInBounds_toArray, List.set_cons_zero, List.set_cons_succ]
          refine wpAnyH_ready (rs := [11]) (by kernel_rfl) (by simp) ?_
          refine AllReadyH.cons (o := { dst := some 95, op := _, type := _, pos := _, after := _, guard := _ }) rfl (fun K hK => ?_) AllReadyH.nil
          go_simp
          refine (HLM.out X1 d1 m1 _ (by have := (show HdTab _ _ _ from (HRA.out _ hHeld).2).1; have := HZM.out; omega) (HRA.out _ hHeld).1 (HRA.out _ hHeld).2).mono ?_
          rintro e x2 ⟨⟨A4, c4, rfl, o4⟩, hk2⟩
          have hKeep := since_step hHeld hk2
          have h4 := Sl.of_own o4
          clear o4
          go_wp2_with fail
          refine hK.out _ _ (by (try dsimp only); exact hKeep) (fun hHeld => ?_)
          clear hK K hKeep
          try simp only [Act.put, List.setIfInBounds_toArray, List.set_cons_zero, List.set_cons_succ]
          refine wpAnyH_ready (rs := [14]) (by kernel_rfl) (by simp) ?_
          refine AllReadyH.cons (o := { dst := some 98, op := _, type := _, pos := _, after := _, guard := _ }) rfl (fun K hK => ?_) AllReadyH.nil
          go_simp
          refine (HLF.out _ (HR0.out _ hHeld).1 (HR0.out _ hHeld).2).mono ?_
          rintro e x3 ⟨⟨A5, c5, rfl, o5⟩, hk3⟩
          have hKeep := since_step hHeld hk3
          have h4 := h4.below hk3
          have h5 := Sl.of_own o5
          clear o5
          go_wp2_with fail
          refine hK.out _ _ (by (try dsimp only); exact hKeep) (fun hHeld => ?_)
          clear hK K hKeep
          try simp only [Act.put, List.setIfInBounds_toArray, List.set_cons_zero, List.set_cons_succ]
          refine wpAnyH_ready (rs := [15]) (by kernel_rfl) (by simp) ?_
          refine AllReadyH.cons (o := { dst := some 99, op := _, type := _, pos := _, after := _, guard := _ }) rfl (fun K hK => ?_) AllReadyH.nil
          go_simp
          refine (HSL.out A4 A5 c4 c5 _ h4 h5).mono ?_
          rintro e x4 ⟨rfl, hk4⟩
          have hKeep := since_step hHeld hk4
          clear h4 h5
          go_wp2_with fail
          refine hK.out _ _ (by (try dsimp only); exact hKeep) (fun hHeld => ?_)
          clear hK K hKeep
          try simp only [Act.put, List.setIfInBounds_toArray, List.set_cons_zero, List.set_cons_succ]
          refine wpAnyH_take (i := 16) (oi := { dst := some 100, op := _, type := _, pos := _, after := _, guard := _ }) (v := ?_) rfl (by kernel_rfl) (by kernel_rfl) (by kernel_rfl) (fun _ _ _ h => h) (Or.inl ⟨by rfl, ?_⟩) hHeld ?_
          rotate_left
          · (intro w hSw; clear hSw; go_simp <;> with_reducible rfl)
          try simp only [Act.put, List.setIfInBounds_toArray, List.set_cons_zero, List.set_cons_succ]
          refine wpAnyH_take (i := 17) (oi := { dst := some 101, op := _, type := _, pos := _, after := _, guard := _ }) (v := ?_) rfl (by kernel_rfl) (by kernel_rfl) (by kernel_rfl) (fun _ _ _ h => h) (Or.inl ⟨by rfl, ?_⟩) hHeld ?_
          rotate_left
          · (intro w hSw; clear hSw; go_simp <;> with_reducible rfl)
          try simp only [Act.put, List.setIfInBounds_toArray, List.set_cons_zero, List.set_cons_succ]
          refine wpAnyH_take (i := 18) (oi := { dst := some 102, op := _, type := _, pos := _, after := _, guard := _ }) (v := ?_) rfl (by kernel_rfl) (by kernel_rfl) (by kernel_rfl) (fun _ _ _ h => h) (Or.inl ⟨by rfl, ?_⟩) hHeld ?_
          rotate_left
          · (intro w hSw; clear hSw; go_simp <;> with_reducible rfl)
          try simp only [Act.put, List.setIfInBounds_toArray, List.set_cons_zero, List.set_cons_succ]
          refine wpAnyH_take (i := 19) (oi := { dst := some 103, op := _, type := _, pos := _, after := _, guard := _ }) (v := ?_) rfl (by kernel_rfl) (by kernel_rfl) (by kernel_rfl) (fun _ _ _ h => h) (Or.inl ⟨by rfl, ?_⟩) hHeld ?_
          rotate_left
          · (intro w hSw; clear hSw; go_simp <;> with_reducible rfl)
          try simp only [Act.put, List.setIfInBounds_toArray, List.set_cons_zero, List.set_cons_succ]
          refine wpAnyH_take (i := 20) (oi := { dst := some 104, op := _, type := _, pos := _, after := _, guard := _ }) (v := ?_) rfl (by kernel_rfl) (by kernel_rfl) (by kernel_rfl) (fun _ _ _ h => h) (Or.inl ⟨by rfl, ?_⟩) hHeld ?_
          rotate_left
          · (intro w hSw; clear hSw; go_simp <;> with_reducible rfl)
          try simp only [Act.put, List.setIfInBounds_toArray, List.set_cons_zero, List.set_cons_succ]
          refine wpAnyH_take (i := 21) (oi := { dst := some 105, op := _, type := _, pos := _, after := _, guard := _ }) (v := ?_) rfl (by kernel_rfl) (by kernel_rfl) (by kernel_rfl) (fun _ _ _ h => h) (Or.inl ⟨by rfl, ?_⟩) hHeld ?_
          rotate_left
          · (intro w hSw; clear hSw; go_simp <;> with_reducible rfl)
          try simp only [Act.put, List.setIfInBounds_toArray, List.set_cons_zero, List.set_cons_succ]
          refine wpAnyH_take (i := 22) (oi := { dst := some 106, op := _, type := _, pos := _, after := _, guard := _ }) (v := ?_) rfl (by kernel_rfl) (by kernel_rfl) (by kernel_rfl) (fun _ _ _ h => h) (Or.inl ⟨by rfl, ?_⟩) hHeld ?_
          rotate_left
          · (intro w hSw; obtain ⟨⟨p0, p1⟩, ⟨p2, p3⟩, ⟨p4, p5⟩⟩ := HC.out _ hSw; go_simp <;> with_reducible rfl)
          try simp only [Act.put, List.setIfInBounds_toArray, List.set_cons_zero, List.set_cons_succ]
          refine wpAnyH_take (i := 24) (oi := { dst := some 108, op := _, type := _, pos := _, after := _, guard := _ }) (v := ?_) rfl (by kernel_rfl) (by kernel_rfl) (by kernel_rfl) (fun _ _ _ h => h) (Or.inl ⟨by rfl, ?_⟩) hHeld ?_
          rotate_left
          · (intro w hSw; clear hSw; go_simp <;> with_reducible rfl)
          try simp only [Act.put, List.setIfInBounds_toArray, List.set_cons_zero, List.set_cons_succ]
          refine wpAnyH_take (i := 25) (oi := { dst := some 109, op := _, type := _, pos := _, after := _, guard := _ }) (v := ?_) rfl (by kernel_rfl) (by kernel_rfl) (by kernel_rfl) (fun _ _ _ h => h) (Or.inl ⟨by rfl, ?_⟩) hHeld ?_
          rotate_left
          · (intro w hSw; obtain ⟨⟨p0, p1⟩, ⟨p2, p3⟩, ⟨p4, p5⟩⟩ := HC.out _ hSw; go_simp <;> with_reducible rfl)
          try simp only [Act.put, List.setIfInBounds_toArray, List.set_cons_zero, List.set_cons_succ]
          refine wpAnyH_ready (rs := [23]) (by kernel_rfl) (by simp) ?_
          refine AllReadyH.cons (o := { dst := some 107, op := _, type := _, pos := _, after := _, guard := _ }) rfl (fun K hK => ?_) AllReadyH.nil
          go_simp
          refine (HLO1.out X1 d1 m1 _ (by have := (show HdTab _ _ _ from (HRA.out _ hHeld).2).1; have := HZM.out; omega) (HRA.out _ hHeld).1 (HRA.out _ hHeld).2).mono ?_
          rintro e x5 ⟨⟨A6, c6, rfl, o6⟩, hk5⟩
          have hKeep := since_step hHeld hk5
          have h6 := Sl.of_own o6
          clear o6
          go_wp2_with fail
          refine hK.out _ _ (by (try dsimp only); exact hKeep) (fun hHeld => ?_)
          clear hK K hKeep
          try simp only [Act.put, List.setIfInBounds_toArray, List.set_cons_zero, List.set_cons_succ]
          refine wpAnyH_ready (rs := [26]) (by kernel_rfl) (by simp) ?_
          refine AllReadyH.cons (o := { dst := some 110, op := _, type := _, pos := _, after := _, guard := _ }) rfl (fun K hK => ?_) AllReadyH.nil
          go_simp
          refine (HLO.out _ (HR0.out _ hHeld).1 (HR0.out _ hHeld).2).mono ?_
          rintro e x6 ⟨⟨A7, c7, rfl, o7⟩, hk6⟩
          have hKeep := since_step hHeld hk6
          have h6 := h6.below hk6
          have h7 := Sl.of_own o7
          clear o7
          go_wp2_with fail
          refine hK.out _ _ (by (try dsimp only); exact hKeep) (fun hHeld => ?_)
          clear hK K hKeep
          try simp only [Act.put, List.setIfInBounds_toArray, List.set_cons_zero, List.set_cons_succ]
          refine wpAnyH_ready (rs := [27]) (by kernel_rfl) (by simp) ?_
          refine AllReadyH.cons (o := { dst := some 111, op := _, type := _, pos := _, after := _, guard := _ }) rfl (fun K hK => ?_) AllReadyH.nil
          go_simp
          refine (HSO.out A6 A7 c6 c7 _ h6 h7).mono ?_
          rintro e x7 ⟨rfl, hk7⟩
          have hKeep := since_step hHeld hk7
          clear h6 h7
          go_wp2_with fail
          refine hK.out _ _ (by (try dsimp only); exact hKeep) (fun hHeld => ?_)
          clear hK K hKeep
          try simp only [Act.put, List.setIfInBounds_toArray, List.set_cons_zero, List.set_cons_succ]
          refine wpAnyH_take (i := 28) (oi := { dst := some 112, op := _, type := _, pos := _, after := _, guard := _ }) (v := ?_) rfl (by kernel_rfl) (by kernel_rfl) (by kernel_rfl) (fun _ _ _ h => h) (Or.inl ⟨by rfl, ?_⟩) hHeld ?_
          rotate_left
          · (intro w hSw; clear hSw; go_simp <;> with_reducible rfl)
          try simp only [Act.put, List.setIfInBounds_toArray, List.set_cons_zero, List.set_cons_succ]
          refine wpAnyH_take (i := 29) (oi := { dst := some 113, op := _, type := _, pos := _, after := _, guard := _ }) (v := ?_) rfl (by kernel_rfl) (by kernel_rfl) (by kernel_rfl) (fun _ _ _ h => h) (Or.inl ⟨by rfl, ?_⟩) hHeld ?_
          rotate_left
          · (intro w hSw; clear hSw; go_simp <;> with_reducible rfl)
          try simp only [Act.put, List.setIfInBounds_toArray, List.set_cons_zero, List.set_cons_succ]
          refine wpAnyH_take (i := 30) (oi := { dst := some 114, op := _, type := _, pos := _, after := _, guard := _ }) (v := ?_) rfl (by kernel_rfl) (by kernel_rfl) (by kernel_rfl) (fun _ _ _ h => h) (Or.inl ⟨by rfl, ?_⟩) hHeld ?_
          rotate_left
          · (intro w hSw; clear hSw; go_simp <;> with_reducible rfl)
          try simp only [Act.put, List.setIfInBounds_toArray, List.set_cons_zero, List.set_cons_succ]
          refine wpAnyH_done (by kernel_rfl) ?_ _
          have hB := hB.trans (hHeld.mono hszU)
          have hHX := hHeld
          clear HRC hHeld
          go_upto_region 14 with fail
          have HC := Lib.hid (fun V (h : Below x7.heap.size x7 V) => HC.out V (since_step hHX h))
          have HR0 := Lib.hid (fun V (h : Below x7.heap.size x7 V) => HR0.out V (since_step hHX h))
          have HRA := Lib.hid (fun V (h : Below x7.heap.size x7 V) => HRA.out V (since_step hHX h))
          have HRB := Lib.hid (fun V (h : Below x7.heap.size x7 V) => HRB.out V (since_step hHX h))
          have hszU := hB.size
          clear hHX
          go_wp2_with fail
          refine wp_region_held_drew (S := (fun V => Below x7.heap.size x7 V)) (by kernel_rfl) (by exact (Below.refl _ _).drew) (fun hHeld => ?_)
          refine wpAnyH_take (i := 0) (oi := { dst := some 115, op := _, type := _, pos := _, after := _, guard := _ }) (v := ?_) rfl (by kernel_rfl) (by kernel_rfl) (by kernel_rfl) (fun _ _ _ h => h) (Or.inl ⟨by rfl, ?_⟩) hHeld ?_
          rotate_left
          · (intro w hSw; clear hSw; go_simp <;> with_reducible rfl)
          try simp only [Act.put, List.setIfInBounds_toArray, List.set_cons_zero, List.set_cons_succ]
          refine wpAnyH_take (i := 1) (oi := { dst := some 116, op := _, type := _, pos := _, after := _, guard := _ }) (v := ?_) rfl (by kernel_rfl) (by kernel_rfl) (by kernel_rfl) (fun _ _ _ h => h) (Or.inl ⟨by rfl, ?_⟩) hHeld ?_
          rotate_left
          · (intro w hSw; clear hSw; go_simp <;> with_reducible rfl)
          try simp only [Act.put, List.setIfInBounds_toArray, List.set_cons_zero, List.set_cons_succ]
          refine wpAnyH_take (i := 2) (oi := { dst := some 117, op := _, type := _, pos := _, after := _, guard := _ }) (v := ?_) rfl (by kernel_rfl) (by kernel_rfl) (by kernel_rfl) (fun _ _ _ h => h) (Or.inl ⟨by rfl, ?_⟩) hHeld ?_
          rotate_left
          · (intro w hSw; clear hSw; go_simp <;> with_reducible rfl)
          try simp only [Act.put, List.setIfInBounds_toArray, List.set_cons_zero, List.set_cons_succ]
          refine wpAnyH_take (i := 3) (oi := { dst := some 118, op := _, type := _, pos := _, after := _, guard := _ }) (v := ?_) rfl (by kernel_rfl) (by kernel_rfl) (by kernel_rfl) (fun _ _ _ h => h) (Or.inl ⟨by rfl, ?_⟩) hHeld ?_
          rotate_left
          · (intro w hSw; clear hSw; go_simp <;> with_reducible rfl)
          try simp only [Act.put, List.setIfInBounds_toArray, List.set_cons_zero, List.set_cons_succ]
          refine wpAnyH_take (i := 4) (oi := { dst := some 119, op := _, type := _, pos := _, after := _, guard := _ }) (v := ?_) rfl (by kernel_rfl) (by kernel_rfl) (by kernel_rfl) (fun _ _ _ h => h) (Or.inl ⟨by rfl, ?_⟩) hHeld ?_
          rotate_left
          · (intro w hSw; clear hSw; go_simp <;> with_reducible rfl)
          try simp only [Act.put, List.setIfInBounds_toArray, List.set_cons_zero, List.set_cons_succ]
          refine wpAnyH_take (i := 5) (oi := { dst := some 120, op := _, type := _, pos := _, after := _, guard := _ }) (v := ?_) rfl (by kernel_rfl) (by kernel_rfl) (by kernel_rfl) (fun _ _ _ h => h) (Or.inl ⟨by rfl, ?_⟩) hHeld ?_
          rotate_left
          · (intro w hSw; clear hSw; go_simp <;> with_reducible rfl)
          try simp only [Act.put, List.setIfInBounds_toArray, List.set_cons_zero, List.set_cons_succ]
          refine wpAnyH_take (i := 6) (oi := { dst := some 121, op := _, type := _, pos := _, after := _, guard := _ }) (v := ?_) rfl (by kernel_rfl) (by kernel_rfl) (by kernel_rfl) (fun _ _ _ h => h) (Or.inl ⟨by rfl, ?_⟩) hHeld ?_
          rotate_left
          · (intro w hSw; clear hSw; go_simp <;> with_reducible rfl)
          try simp only [Act.put, List.setIfInBounds_toArray, List.set_cons_zero, List.set_cons_succ]
          refine wpAnyH_take (i := 7) (oi := { dst := some 122, op := _, type := _, pos := _, after := _, guard := _ }) (v := ?_) rfl (by kernel_rfl) (by kernel_rfl) (by kernel_rfl) (fun _ _ _ h => h) (Or.inl ⟨by rfl, ?_⟩) hHeld ?_
          rotate_left
          · (intro w hSw; clear hSw; go_simp <;> with_reducible rfl)
          try simp only [Act.put, List.setIfInBounds_toArray, List.set_cons_zero, List.set_cons_succ]
          refine wpAnyH_take (i := 8) (oi := { dst := some 123, op := _, type := _, pos := _, after := _, guard := _ }) (v := ?_) rfl (by kernel_rfl) (by kernel_rfl) (by kernel_rfl) (fun _ _ _ h => h) (Or.inl ⟨by rfl, ?_⟩) hHeld ?_
          rotate_left
          · (intro w hSw; obtain ⟨⟨p0, p1⟩, ⟨p2, p3⟩, ⟨p4, p5⟩⟩ := HC.out _ hSw; go_simp <;> with_reducible rfl)
          try simp only [Act.put, List.setIfInBounds_toArray, List.set_cons_zero, List.set_cons_succ]
          refine wpAnyH_take (i := 10) (oi := { dst := some 125, op := _, type := _, pos := _, after := _, guard := _ }) (v := ?_) rfl (by kernel_rfl) (by kernel_rfl) (by kernel_rfl) (fun _ _ _ h => h) (Or.inl ⟨by rfl, ?_⟩) hHeld ?_
          rotate_left
          · (intro w hSw; clear hSw; go_simp <;> with_reducible rfl)
          try simp only [Act.put, List.setIfInBounds_toArray, List.set_cons_zero, List.set_cons_succ]
          refine wpAnyH_take (i := 11) (oi := { dst := some 126, op := _, type := _, pos := _, after := _, guard := _ }) (v := ?_) rfl (by kernel_rfl) (by kernel_rfl) (by kernel_rfl) (fun _ _ _ h => h) (Or.inl ⟨by rfl, ?_⟩) hHeld ?_
          rotate_left
          · (intro w hSw; obtain ⟨⟨p0, p1⟩, ⟨p2, p3⟩, ⟨p4, p5⟩⟩ := HC.out _ hSw; go_simp <;> with_reducible rfl)
          try simp only [Act.put, List.setIfInBounds_toArray, List.set_cons_zero, List.set_cons_succ]
          refine wpAnyH_ready (rs := [9]) (by kernel_rfl) (by simp) ?_
          refine AllReadyH.cons (o := { dst := some 124, op := _, type := _, pos := _, after := _, guard := _ }) rfl (fun K hK => ?_) AllReadyH.nil
          go_simp
          refine (HLP.out X2 d2 m2 _ (by have := (show HdTab _ _ _ from (HRB.out _ hHeld).2).1; have := HZP.out; omega) (HRB.out _ hHeld).1 (HRB.out _ hHeld).2).mono ?_
          rintro e y1 ⟨⟨A8, c8, rfl, o8⟩, hk1⟩
          have hKeep := since_step hHeld hk1
          have h8 := Sl.of_own o8
          clear o8
          go_wp2_with fail
          refine hK.out _ _ (by (try dsimp only); exact hKeep) (fun hHeld => ?_)
          clear hK K hKeep
          try simp only [Act.put, List.setIfInBounds_toArray, List.set_cons_zero, List.set_cons_succ]
          refine wpAnyH_ready (rs := [12]) (by kernel_rfl) (by simp) ?_
          refine AllReadyH.cons (o := { dst := some 127, op := _, type := _, pos := _, after := _, guard := _ }) rfl (fun K hK => ?_) AllReadyH.nil
          go_simp
          refine (HLO.out _ (HR0.out _ hHeld).1 (HR0.out _ hHeld).2).mono ?_
          rintro e y2 ⟨⟨A9, c9, rfl, o9⟩, hk2⟩
          have hKeep := since_step hHeld hk2
          have h8 := h8.below hk2
          have h9 := Sl.of_own o9
          clear o9
          go_wp2_with fail
          refine hK.out _ _ (by (try dsimp only); exact hKeep) (fun hHeld => ?_)
          clear hK K hKeep
          try simp only [Act.put, List.setIfInBounds_toArray, List.set_cons_zero, List.set_cons_succ]
          refine wpAnyH_ready (rs := [13]) (by kernel_rfl) (by simp) ?_
          refine AllReadyH.cons (o := { dst := some 128, op := _, type := _, pos := _, after := _, guard := _ }) rfl (fun K hK => ?_) AllReadyH.nil
          go_simp
          refine (HSO.out A8 A9 c8 c9 _ h8 h9).mono ?_
          rintro e y3 ⟨rfl, hk3⟩
          have hKeep := since_step hHeld hk3
          clear h8 h9
          go_wp2_with fail
          refine hK.out _ _ (by (try dsimp only); exact hKeep) (fun hHeld => ?_)
          clear hK K hKeep
          try simp only [Act.put, List.setIfInBounds_toArray, List.set_cons_zero, List.set_cons_succ]
          refine wpAnyH_take (i := 14) (oi := { dst := some 129, op := _, type := _, pos := _, after := _, guard := _ }) (v := ?_) rfl (by kernel_rfl) (by kernel_rfl) (by kernel_rfl) (fun _ _ _ h => h) (Or.inl ⟨by rfl, ?_⟩) hHeld ?_
          rotate_left
          · (intro w hSw; clear hSw; go_simp <;> with_reducible rfl)
          try simp only [Act.put, List.setIfInBounds_toArray, List.set_cons_zero, List.set_cons_succ]
          refine wpAnyH_take (i := 15) (oi := { dst := some 130, op := _, type := _, pos := _, after := _, guard := _ }) (v := ?_) rfl (by kernel_rfl) (by kernel_rfl) (by kernel_rfl) (fun _ _ _ h => h) (Or.inl ⟨by rfl, ?_⟩) hHeld ?_
          rotate_left
          · (intro w hSw; clear hSw; go_simp <;> with_reducible rfl)
          try simp only [Act.put, List.setIfInBounds_toArray, List.set_cons_zero, List.set_cons_succ]
          refine wpAnyH_ready (rs := [16]) (by kernel_rfl) (by simp) ?_
          refine AllReadyH.cons (o := { dst := some 131, op := _, type := _, pos := _, after := _, guard := _ }) rfl (fun K hK => ?_) AllReadyH.nil
          go_simp
          refine (HLV.out _).mono ?_
          rintro e y4 ⟨rfl, hk4⟩
          have hKeep := since_step hHeld hk4
          go_wp2_with fail
          refine hK.out _ _ (by (try dsimp only); exact hKeep) (fun hHeld => ?_)
          clear hK K hKeep
          try simp only [Act.put, List.setIfInBounds_toArray, List.set_cons_zero, List.set_cons_succ]
          refine wpAnyH_take (i := 17) (oi := { dst := some 132, op := _, type := _, pos := _, after := _, guard := _ }) (v := ?_) rfl (by kernel_rfl) (by kernel_rfl) (by kernel_rfl) (fun _ _ _ h => h) (Or.inl ⟨by rfl, ?_⟩) hHeld ?_
          rotate_left
          · (intro w hSw; clear hSw; go_simp <;> with_reducible rfl)
          try simp only [Act.put, List.setIfInBounds_toArray, List.set_cons_zero, List.set_cons_succ]
          refine wpAnyH_take (i := 18) (oi := { dst := some 12, op := _, type := _, pos := _, after := _, guard := _ }) (v := ?_) rfl (by kernel_rfl) (by kernel_rfl) (by kernel_rfl) (fun _ _ _ h => h) (Or.inl ⟨by rfl, ?_⟩) hHeld ?_
          rotate_left
          · (intro w hSw; clear hSw; go_simp <;> with_reducible rfl)
          try simp only [Act.put, List.setIfInBounds_toArray, List.set_cons_zero, List.set_cons_succ]
          refine wpAnyH_done (by kernel_rfl) ?_ _
          have hBf := hB.trans (hHeld.mono hszU)
          go_wp2_with fail
          go_ret
          exact ⟨rfl, hBf⟩
    · subst hm0
      obtain ⟨hMi, hML⟩ := And.intro (move_is hM) (move_len hM)
      have hM6 := move_in6 hM hgd.2
      have hMc : ∀ g ∈ ML, g.L.length ≤ 900000 := fun g hg => Nat.le_trans (is_len hMi g hg) (by omega)
      have hTM := fun A1 c1 l1 k V hl h1 h2 => htotal_any A1 c1 l1 ML k V hl hMc hM6 h1 h2
      simp only [move_sum hM] at hTM
      have HTM := Lib.hid hTM
      have hMB := fun A1 c1 l1 V hl h1 h2 => hmove_any A1 c1 l1 ML ta tc fa fc V hl hMc h1 h2
      rw [move_back hM] at hMB
      unfold HRes at hMB
      simp only at hMB
      have HMB := Lib.hid hMB
      have HSB := Lib.hid (fun A1 c1 l1 A2 c2 l2 V hl h1 t1 h2 t2 => rhsame_self A1 c1 l1 A2 c2 l2 cs V hl hcl9 h1 t1 h2 t2)
      have hLM := fun A1 c1 l1 V hl h1 h2 => hlots_any A1 c1 l1 ML ta tc V hl hMc h1 h2
      rw [move_to hM] at hLM
      have HLM := Lib.hid hLM
      have HLF := Lib.hid (fun V h1 h2 => hlots_any A c R cs fa fc V hR9 hcl9 h1 h2)
      have hln := lotsH_len hgd.1 fa fc
      have HSL := Lib.hid (fun A1 A2 c1 c2 V h1 h2 => rlsame_any_self A1 A2 c1 c2 (lotsH cs fa fc) V (by omega) h1 h2)
      have HZM : Hid (ML.length ≤ 800000) := Lib.hid (by omega)
      clear hTM hMB hLM hln
      have hLO1 := fun A1 c1 l1 V hl h1 h2 => hlots_any A1 c1 l1 ML oa oc V hl hMc h1 h2
      rw [move_other hM (fun h => hf2.out h.2) (fun h => ht2.out h.2)] at hLO1
      have HLO1 := Lib.hid hLO1
      clear hLO1
      clear hMi hML hM6 hMc
      have hp1 : (pn == 0) = false := by simpa using hp0
      have hp2 : (pn != 0) = true := by simpa using hp0
      clear hp0
      have HLO := Lib.hid (fun V h1 h2 => hlots_any A c R cs oa oc V hR9 hcl9 h1 h2)
      have hlo := lotsH_len hgd.1 oa oc
      have HSO := Lib.hid (fun A1 A2 c1 c2 V h1 h2 => rlsame_any_self A1 A2 c1 c2 (lotsH cs oa oc) V (by omega) h1 h2)
      generalize lotsH cs oa oc = L1 at *
      clear hlo
      generalize lotsH cs fa fc = L0 at *
      have HTL := Lib.hid (fun k V h1 h2 => htotal_any A c R cs k V hR9 hcl9 hgd.2 h1 h2)
      have HZR := Lib.hid hR8
      clear hgd hM hP hR9 hcl9 hR8
      have bf1 : (oa != fa) = false := by rw [hf1.out]; simp
      have bf2 : (oc != fc) = true := by simpa using hf2.out
      have cf1 : (oa == fa) = true := by rw [hf1.out]; simp
      have cf2 : (oc == fc) = false := by simpa using hf2.out
      clear hf1 hf2
      have bt1 : (oa != ta) = false := by rw [ht1.out]; simp
      have bt2 : (oc != tc) = true := by simpa using ht2.out
      have ct1 : (oa == ta) = true := by rw [ht1.out]; simp
      have ct2 : (oc == tc) = false := by simpa using ht2.out
      clear ht1 ht2
      go_loopw [17] (fun iv wr => ∃ k : Nat, 1 ≤ k ∧ k ≤ 5 ∧ iv = .int .i64 k ∧ Below z3.heap.size z3 wr) (fun iv _ => 5 - (intOf iv).toNat)
      case atStart => exact ⟨1, by omega, by omega, rfl, Below.refl _ _⟩
      case round =>
        obtain ⟨k, hk1, hk5, rfl, hbr⟩ := hrel
        by_cases hk : k ≤ 4
        · have hki : (k : Int) ≤ 4 := by omega
          have HTLk := Lib.hid (fun V h1 h2 => HTL.out (k : Int) V h1 h2)
          have HTMk := Lib.hid (fun A1 c1 l1 V hl h1 h2 => HTM.out A1 c1 l1 (k : Int) V hl h1 h2)
          obtain ⟨th, hth⟩ : ∃ n, hiN (sumsH cs (k : Int)).sum = n := ⟨_, rfl⟩
          obtain ⟨tl, htl⟩ : ∃ n, loN (sumsH cs (k : Int)).sum = n := ⟨_, rfl⟩
          have hq1 : (th == th) = true := by simp
          have hq2 : (tl == tl) = true := by simp
          rw [hth, htl] at HTLk HTMk
          clear hth htl HTL HTM
          have hBl := hbr
          have HT := Lib.hid (And.intro (HT.out.1.below hbr) (HT.out.2.below hbr))
          have HR1 := Lib.hid (And.intro (HR1.out.1.below hbr) (HR1.out.2.below hbr))
          go_wp2_with fail
          refine (HTMk.out X1 d1 m1 _ (by have := HR1.out.2.1; have := HZM.out; omega) HR1.out.1 HR1.out.2).mono ?_
          rintro e r1 ⟨rfl, hb⟩
          have hBl := since_step hBl hb
          have HT := Lib.hid (And.intro (HT.out.1.below hb) (HT.out.2.below hb))
          have HR1 := Lib.hid (And.intro (HR1.out.1.below hb) (HR1.out.2.below hb))
          clear hb
          go_wp2_with fail
          refine (HTLk.out _ HT.out.1 HT.out.2).mono ?_
          rintro e r2 ⟨rfl, hb⟩
          have hBl := since_step hBl hb
          have HT := Lib.hid (And.intro (HT.out.1.below hb) (HT.out.2.below hb))
          have HR1 := Lib.hid (And.intro (HR1.out.1.below hb) (HR1.out.2.below hb))
          clear hb
          go_wp2_with fail
          go_roundw
          case rel => exact ⟨k + 1, by omega, by omega, by go_num, hBl⟩
          case measure => simp [intOf]; omega
        · have hki : ¬ ((k : Int) ≤ 4) := by omega
          have hB := since_step hB hbr
          have hK1 := hK1.below hbr
          have hK2 := hK2.below hbr
          have hK3 := hK3.below hbr
          have HT := Lib.hid (And.intro (HT.out.1.below hbr) (HT.out.2.below hbr))
          have HR1 := Lib.hid (And.intro (HR1.out.1.below hbr) (HR1.out.2.below hbr))
          have HR2 := Lib.hid (And.intro (HR2.out.1.below hbr) (HR2.out.2.below hbr))
          clear hbr HTL HTM
          obtain ⟨hK1_l, hK1_c⟩ := id hK1
          have hK1_0 := hK1_c 0
          have hK1_1 := hK1_c 1
          simp at hK1_0 hK1_1
          clear hK1_c
          obtain ⟨hK2_l, hK2_c⟩ := id hK2
          have hK2_0 := hK2_c 0
          have hK2_1 := hK2_c 1
          simp at hK2_0 hK2_1
          clear hK2_c
          obtain ⟨hK3_l, hK3_c⟩ := id hK3
          have hK3_0 := hK3_c 0
          have hK3_1 := hK3_c 1
          simp at hK3_0 hK3_1
          clear hK3_c
          go_wp2_with fail
          refine (HMB.out X1 d1 m1 _ (by have := HR1.out.2.1; have := HZM.out; omega) HR1.out.1 HR1.out.2).mono ?_
          rintro e q1 ⟨⟨m3, X3, d3, rfl, hsN, htN, _⟩, hb⟩
          have hB := since_step hB hb
          have hK1 := hK1.below hb
          have hK2 := hK2.below hb
          have hK3 := hK3.below hb
          have HT := Lib.hid (And.intro (HT.out.1.below hb) (HT.out.2.below hb))
          have HR1 := Lib.hid (And.intro (HR1.out.1.below hb) (HR1.out.2.below hb))
          have HR2 := Lib.hid (And.intro (HR2.out.1.below hb) (HR2.out.2.below hb))
          clear hb
          clear hK1_l hK1_0 hK1_1 hK2_l hK2_0 hK2_1 hK3_l hK3_0 hK3_1
          have HR3 := Lib.hid (And.intro hsN htN)
          have HZ3 : Hid (m3.length ≤ 900000) := Lib.hid (by have h3 := htN.1; have h4 := HT.out.2.1; have := HZR.out; omega)
          clear hsN htN
          obtain ⟨hK1_l, hK1_c⟩ := id hK1
          have hK1_0 := hK1_c 0
          have hK1_1 := hK1_c 1
          simp at hK1_0 hK1_1
          clear hK1_c
          obtain ⟨hK2_l, hK2_c⟩ := id hK2
          have hK2_0 := hK2_c 0
          have hK2_1 := hK2_c 1
          simp at hK2_0 hK2_1
          clear hK2_c
          obtain ⟨hK3_l, hK3_c⟩ := id hK3
          have hK3_0 := hK3_c 0
          have hK3_1 := hK3_c 1
          simp at hK3_0 hK3_1
          clear hK3_c
          go_upto_region 12 with fail
          clear hK1_l hK1_0 hK1_1 hK2_l hK2_0 hK2_1 hK3_l hK3_0 hK3_1
          have HC : Hid (∀ V, Below q1.heap.size q1 V → (V.cell? ⟨w.heap.size, 0, none⟩ = some (.int .i64 fa) ∧ V.cell? ⟨w.heap.size, 1, none⟩ = some (.int .i64 fc)) ∧ (V.cell? ⟨w.heap.size + 1, 0, none⟩ = some (.int .i64 ta) ∧ V.cell? ⟨w.heap.size + 1, 1, none⟩ = some (.int .i64 tc)) ∧ (V.cell? ⟨w.heap.size + 1 + 1, 0, none⟩ = some (.int .i64 oa) ∧ V.cell? ⟨w.heap.size + 1 + 1, 1, none⟩ = some (.int .i64 oc))) := Lib.hid fun V h => ⟨⟨(hK1.below h).2 0, (hK1.below h).2 1⟩, ⟨(hK2.below h).2 0, (hK2.below h).2 1⟩, ⟨(hK3.below h).2 0, (hK3.below h).2 1⟩⟩
          have HR0 : Hid (∀ V, Below q1.heap.size q1 V → Sl V A (rc Hd.cells R) ∧ HdTab V R cs) := Lib.hid fun V h => ⟨HT.out.1.below h, HT.out.2.below h⟩
          have HRA : Hid (∀ V, Below q1.heap.size q1 V → Sl V X1 (rc Hd.cells m1) ∧ HdTab V m1 ML) := Lib.hid fun V h => ⟨HR1.out.1.below h, HR1.out.2.below h⟩
          have HRB : Hid (∀ V, Below q1.heap.size q1 V → Sl V X2 (rc Hd.cells m2) ∧ HdTab V m2 PL) := Lib.hid fun V h => ⟨HR2.out.1.below h, HR2.out.2.below h⟩
          have hszU := hB.size
          have HRC : Hid (∀ V, Below q1.heap.size q1 V → Sl V X3 (rc Hd.cells m3) ∧ HdTab V m3 cs) := Lib.hid fun V h => ⟨HR3.out.1.below h, HR3.out.2.below h⟩
          clear hK1 hK2 hK3 HT HR1 HR2 HR3
          go_wp2_with fail
          refine wp_region_held_drew (S := (fun V => Below q1.heap.size q1 V)) (by kernel_rfl) (by exact (Below.refl _ _).drew) (fun hHeld => ?_)
          refine wpAnyH_take (i := 0) (oi := { dst := some 84, op := _, type := _, pos := _, after := _, guard := _ }) (v := ?_) rfl (by kernel_rfl) (by kernel_rfl) (by kernel_rfl) (fun _ _ _ h => h) (Or.inl ⟨by rfl, ?_⟩) hHeld ?_
          rotate_left
          · (intro w hSw; clear hSw; go_simp <;> with_reducible rfl)
          try simp only [Act.put, List.setIfInBounds_toArray, List.set_cons_zero, List.set_cons_succ]
          refine wpAnyH_take (i := 1) (oi := { dst := some 85, op := _, type := _, pos := _, after := _, guard := _ }) (v := ?_) rfl (by kernel_rfl) (by kernel_rfl) (by kernel_rfl) (fun _ _ _ h => h) (Or.inl ⟨by rfl, ?_⟩) hHeld ?_
          rotate_left
          · (intro w hSw; clear hSw; go_simp <;> with_reducible rfl)
          try simp only [Act.put, List.setIfInBounds_toArray, List.set_cons_zero, List.set_cons_succ]
          refine wpAnyH_take (i := 2) (oi := { dst := some 86, op := _, type := _, pos := _, after := _, guard := _ }) (v := ?_) rfl (by kernel_rfl) (by kernel_rfl) (by kernel_rfl) (fun _ _ _ h => h) (Or.inl ⟨by rfl, ?_⟩) hHeld ?_
          rotate_left
          · (intro w hSw; clear hSw; go_simp <;> with_reducible rfl)
          try simp only [Act.put, List.setIfInBounds_toArray, List.set_cons_zero, List.set_cons_succ]
          refine wpAnyH_take (i := 3) (oi := { dst := some 87, op := _, type := _, pos := _, after := _, guard := _ }) (v := ?_) rfl (by kernel_rfl) (by kernel_rfl) (by kernel_rfl) (fun _ _ _ h => h) (Or.inl ⟨by rfl, ?_⟩) hHeld ?_
          rotate_left
          · (intro w hSw; clear hSw; go_simp <;> with_reducible rfl)
          try simp only [Act.put, List.setIfInBounds_toArray, List.set_cons_zero, List.set_cons_succ]
          refine wpAnyH_take (i := 4) (oi := { dst := some 88, op := _, type := _, pos := _, after := _, guard := _ }) (v := ?_) rfl (by kernel_rfl) (by kernel_rfl) (by kernel_rfl) (fun _ _ _ h => h) (Or.inl ⟨by rfl, ?_⟩) hHeld ?_
          rotate_left
          · (intro w hSw; clear hSw; go_simp <;> with_reducible rfl)
          try simp only [Act.put, List.setIfInBounds_toArray, List.set_cons_zero, List.set_cons_succ]
          refine wpAnyH_ready (rs := [5]) (by kernel_rfl) (by simp) ?_
          refine AllReadyH.cons (o := { dst := some 89, op := _, type := _, pos := _, after := _, guard := _ }) rfl (fun K hK => ?_) AllReadyH.nil
          go_simp
          refine (HSB.out _ _ _ _ _ _ _ HZ3.out (HRC.out _ hHeld).1 (HRC.out _ hHeld).2 (HR0.out _ hHeld).1 (HR0.out _ hHeld).2).mono ?_
          rintro e x1 ⟨rfl, hk1⟩
          have hKeep := since_step hHeld hk1
          go_wp2_with fail
          refine hK.out _ _ (by (try dsimp only); exact hKeep) (fun hHeld => ?_)
          clear hK K hKeep
          try simp only [Act.put, List.setIfInBounds_toArray, List.set_cons_zero, List.set_cons_succ]
          refine wpAnyH_take (i := 6) (oi := { dst := some 90, op := _, type := _, pos := _, after := _, guard := _ }) (v := ?_) rfl (by kernel_rfl) (by kernel_rfl) (by kernel_rfl) (fun _ _ _ h => h) (Or.inl ⟨by rfl, ?_⟩) hHeld ?_
          rotate_left
          · (intro w hSw; clear hSw; go_simp <;> with_reducible rfl)
          try simp only [Act.put, List.setIfInBounds_toArray, List.set_cons_zero, List.set_cons_succ]
          refine wpAnyH_take (i := 7) (oi := { dst := some 91, op := _, type := _, pos := _, after := _, guard := _ }) (v := ?_) rfl (by kernel_rfl) (by kernel_rfl) (by kernel_rfl) (fun _ _ _ h => h) (Or.inl ⟨by rfl, ?_⟩) hHeld ?_
          rotate_left
          · (intro w hSw; clear hSw; go_simp <;> with_reducible rfl)
          try simp only [Act.put, List.setIfInBounds_toArray, List.set_cons_zero, List.set_cons_succ]
          refine wpAnyH_take (i := 8) (oi := { dst := some 92, op := _, type := _, pos := _, after := _, guard := _ }) (v := ?_) rfl (by kernel_rfl) (by kernel_rfl) (by kernel_rfl) (fun _ _ _ h => h) (Or.inl ⟨by rfl, ?_⟩) hHeld ?_
          rotate_left
          · (intro w hSw; clear hSw; go_simp <;> with_reducible rfl)
          try simp only [Act.put, List.setIfInBounds_toArray, List.set_cons_zero, List.set_cons_succ]
          refine wpAnyH_take (i := 9) (oi := { dst := some 93, op := _, type := _, pos := _, after := _, guard := _ }) (v := ?_) rfl (by kernel_rfl) (by kernel_rfl) (by kernel_rfl) (fun _ _ _ h => h) (Or.inl ⟨by rfl, ?_⟩) hHeld ?_
          rotate_left
          · (intro w hSw; clear hSw; go_simp <;> with_reducible rfl)
          try simp only [Act.put, List.setIfInBounds_toArray, List.set_cons_zero, List.set_cons_succ]
          refine wpAnyH_take (i := 10) (oi := { dst := some 94, op := _, type := _, pos := _, after := _, guard := _ }) (v := ?_) rfl (by kernel_rfl) (by kernel_rfl) (by kernel_rfl) (fun _ _ _ h => h) (Or.inl ⟨by rfl, ?_⟩) hHeld ?_
          rotate_left
          · (intro w hSw; obtain ⟨⟨p0, p1⟩, ⟨p2, p3⟩, ⟨p4, p5⟩⟩ := HC.out _ hSw; go_simp <;> with_reducible rfl)
          try simp only [Act.put, List.setIfInBounds_toArray, List.set_cons_zero, List.set_cons_succ]
          refine wpAnyH_take (i := 12) (oi := { dst := some 96, op := _, type := _, pos := _, after := _, guard := _ }) (v := ?_) rfl (by kernel_rfl) (by kernel_rfl) (by kernel_rfl) (fun _ _ _ h => h) (Or.inl ⟨by rfl, ?_⟩) hHeld ?_
          rotate_left
          · (intro w hSw; clear hSw; go_simp <;> with_reducible rfl)
          try simp only [Act.put, List.setIfInBounds_toArray, List.set_cons_zero, List.set_cons_succ]
          refine wpAnyH_take (i := 13) (oi := { dst := some 97, op := _, type := _, pos := _, after := _, guard := _ }) (v := ?_) rfl (by kernel_rfl) (by kernel_rfl) (by kernel_rfl) (fun _ _ _ h => h) (Or.inl ⟨by rfl, ?_⟩) hHeld ?_
          rotate_left
          · (intro w hSw; obtain ⟨⟨p0, p1⟩, ⟨p2, p3⟩, ⟨p4, p5⟩⟩ := HC.out _ hSw; go_simp <;> with_reducible rfl)
          try simp only [Act.put, List.setIfInBounds_toArray, List.set_cons_zero, List.set_cons_succ]
          refine wpAnyH_ready (rs := [11]) (by kernel_rfl) (by simp) ?_
          refine AllReadyH.cons (o := { dst := some 95, op := _, type := _, pos := _, after := _, guard := _ }) rfl (fun K hK => ?_) AllReadyH.nil
          go_simp
          refine (HLM.out X1 d1 m1 _ (by have := (show HdTab _ _ _ from (HRA.out _ hHeld).2).1; have := HZM.out; omega) (HRA.out _ hHeld).1 (HRA.out _ hHeld).2).mono ?_
          rintro e x2 ⟨⟨A4, c4, rfl, o4⟩, hk2⟩
          have hKeep := since_step hHeld hk2
          have h4 := Sl.of_own o4
          clear o4
          go_wp2_with fail
          refine hK.out _ _ (by (try dsimp only); exact hKeep) (fun hHeld => ?_)
          clear hK K hKeep
          try simp only [Act.put, List.setIfInBounds_toArray, List.set_cons_zero, List.set_cons_succ]
          refine wpAnyH_ready (rs := [14]) (by kernel_rfl) (by simp) ?_
          refine AllReadyH.cons (o := { dst := some 98, op := _, type := _, pos := _, after := _, guard := _ }) rfl (fun K hK => ?_) AllReadyH.nil
          go_simp
          refine (HLF.out _ (HR0.out _ hHeld).1 (HR0.out _ hHeld).2).mono ?_
          rintro e x3 ⟨⟨A5, c5, rfl, o5⟩, hk3⟩
          have hKeep := since_step hHeld hk3
          have h4 := h4.below hk3
          have h5 := Sl.of_own o5
          clear o5
          go_wp2_with fail
          refine hK.out _ _ (by (try dsimp only); exact hKeep) (fun hHeld => ?_)
          clear hK K hKeep
          try simp only [Act.put, List.setIfInBounds_toArray, List.set_cons_zero, List.set_cons_succ]
          refine wpAnyH_ready (rs := [15]) (by kernel_rfl) (by simp) ?_
          refine AllReadyH.cons (o := { dst := some 99, op := _, type := _, pos := _, after := _, guard := _ }) rfl (fun K hK => ?_) AllReadyH.nil
          go_simp
          refine (HSL.out A4 A5 c4 c5 _ h4 h5).mono ?_
          rintro e x4 ⟨rfl, hk4⟩
          have hKeep := since_step hHeld hk4
          clear h4 h5
          go_wp2_with fail
          refine hK.out _ _ (by (try dsimp only); exact hKeep) (fun hHeld => ?_)
          clear hK K hKeep
          try simp only [Act.put, List.setIfInBounds_toArray, List.set_cons_zero, List.set_cons_succ]
          refine wpAnyH_take (i := 16) (oi := { dst := some 100, op := _, type := _, pos := _, after := _, guard := _ }) (v := ?_) rfl (by kernel_rfl) (by kernel_rfl) (by kernel_rfl) (fun _ _ _ h => h) (Or.inl ⟨by rfl, ?_⟩) hHeld ?_
          rotate_left
          · (intro w hSw; clear hSw; go_simp <;> with_reducible rfl)
          try simp only [Act.put, List.setIfInBounds_toArray, List.set_cons_zero, List.set_cons_succ]
          refine wpAnyH_take (i := 17) (oi := { dst := some 101, op := _, type := _, pos := _, after := _, guard := _ }) (v := ?_) rfl (by kernel_rfl) (by kernel_rfl) (by kernel_rfl) (fun _ _ _ h => h) (Or.inl ⟨by rfl, ?_⟩) hHeld ?_
          rotate_left
          · (intro w hSw; clear hSw; go_simp <;> with_reducible rfl)
          try simp only [Act.put, List.setIfInBounds_toArray, List.set_cons_zero, List.set_cons_succ]
          refine wpAnyH_take (i := 18) (oi := { dst := some 102, op := _, type := _, pos := _, after := _, guard := _ }) (v := ?_) rfl (by kernel_rfl) (by kernel_rfl) (by kernel_rfl) (fun _ _ _ h => h) (Or.inl ⟨by rfl, ?_⟩) hHeld ?_
          rotate_left
          · (intro w hSw; clear hSw; go_simp <;> with_reducible rfl)
          try simp only [Act.put, List.setIfInBounds_toArray, List.set_cons_zero, List.set_cons_succ]
          refine wpAnyH_take (i := 19) (oi := { dst := some 103, op := _, type := _, pos := _, after := _, guard := _ }) (v := ?_) rfl (by kernel_rfl) (by kernel_rfl) (by kernel_rfl) (fun _ _ _ h => h) (Or.inl ⟨by rfl, ?_⟩) hHeld ?_
          rotate_left
          · (intro w hSw; clear hSw; go_simp <;> with_reducible rfl)
          try simp only [Act.put, List.setIfInBounds_toArray, List.set_cons_zero, List.set_cons_succ]
          refine wpAnyH_take (i := 20) (oi := { dst := some 104, op := _, type := _, pos := _, after := _, guard := _ }) (v := ?_) rfl (by kernel_rfl) (by kernel_rfl) (by kernel_rfl) (fun _ _ _ h => h) (Or.inl ⟨by rfl, ?_⟩) hHeld ?_
          rotate_left
          · (intro w hSw; clear hSw; go_simp <;> with_reducible rfl)
          try simp only [Act.put, List.setIfInBounds_toArray, List.set_cons_zero, List.set_cons_succ]
          refine wpAnyH_take (i := 21) (oi := { dst := some 105, op := _, type := _, pos := _, after := _, guard := _ }) (v := ?_) rfl (by kernel_rfl) (by kernel_rfl) (by kernel_rfl) (fun _ _ _ h => h) (Or.inl ⟨by rfl, ?_⟩) hHeld ?_
          rotate_left
          · (intro w hSw; clear hSw; go_simp <;> with_reducible rfl)
          try simp only [Act.put, List.setIfInBounds_toArray, List.set_cons_zero, List.set_cons_succ]
          refine wpAnyH_take (i := 22) (oi := { dst := some 106, op := _, type := _, pos := _, after := _, guard := _ }) (v := ?_) rfl (by kernel_rfl) (by kernel_rfl) (by kernel_rfl) (fun _ _ _ h => h) (Or.inl ⟨by rfl, ?_⟩) hHeld ?_
          rotate_left
          · (intro w hSw; obtain ⟨⟨p0, p1⟩, ⟨p2, p3⟩, ⟨p4, p5⟩⟩ := HC.out _ hSw; go_simp <;> with_reducible rfl)
          try simp only [Act.put, List.setIfInBounds_toArray, List.set_cons_zero, List.set_cons_succ]
          refine wpAnyH_take (i := 24) (oi := { dst := some 108, op := _, type := _, pos := _, after := _, guard := _ }) (v := ?_) rfl (by kernel_rfl) (by kernel_rfl) (by kernel_rfl) (fun _ _ _ h => h) (Or.inl ⟨by rfl, ?_⟩) hHeld ?_
          rotate_left
          · (intro w hSw; clear hSw; go_simp <;> with_reducible rfl)
          try simp only [Act.put, List.setIfInBounds_toArray, List.set_cons_zero, List.set_cons_succ]
          refine wpAnyH_take (i := 25) (oi := { dst := some 109, op := _, type := _, pos := _, after := _, guard := _ }) (v := ?_) rfl (by kernel_rfl) (by kernel_rfl) (by kernel_rfl) (fun _ _ _ h => h) (Or.inl ⟨by rfl, ?_⟩) hHeld ?_
          rotate_left
          · (intro w hSw; obtain ⟨⟨p0, p1⟩, ⟨p2, p3⟩, ⟨p4, p5⟩⟩ := HC.out _ hSw; go_simp <;> with_reducible rfl)
          try simp only [Act.put, List.setIfInBounds_toArray, List.set_cons_zero, List.set_cons_succ]
          refine wpAnyH_ready (rs := [23]) (by kernel_rfl) (by simp) ?_
          refine AllReadyH.cons (o := { dst := some 107, op := _, type := _, pos := _, after := _, guard := _ }) rfl (fun K hK => ?_) AllReadyH.nil
          go_simp
          refine (HLO1.out X1 d1 m1 _ (by have := (show HdTab _ _ _ from (HRA.out _ hHeld).2).1; have := HZM.out; omega) (HRA.out _ hHeld).1 (HRA.out _ hHeld).2).mono ?_
          rintro e x5 ⟨⟨A6, c6, rfl, o6⟩, hk5⟩
          have hKeep := since_step hHeld hk5
          have h6 := Sl.of_own o6
          clear o6
          go_wp2_with fail
          refine hK.out _ _ (by (try dsimp only); exact hKeep) (fun hHeld => ?_)
          clear hK K hKeep
          try simp only [Act.put, List.setIfInBounds_toArray, List.set_cons_zero, List.set_cons_succ]
          refine wpAnyH_ready (rs := [26]) (by kernel_rfl) (by simp) ?_
          refine AllReadyH.cons (o := { dst := some 110, op := _, type := _, pos := _, after := _, guard := _ }) rfl (fun K hK => ?_) AllReadyH.nil
          go_simp
          refine (HLO.out _ (HR0.out _ hHeld).1 (HR0.out _ hHeld).2).mono ?_
          rintro e x6 ⟨⟨A7, c7, rfl, o7⟩, hk6⟩
          have hKeep := since_step hHeld hk6
          have h6 := h6.below hk6
          have h7 := Sl.of_own o7
          clear o7
          go_wp2_with fail
          refine hK.out _ _ (by (try dsimp only); exact hKeep) (fun hHeld => ?_)
          clear hK K hKeep
          try simp only [Act.put, List.setIfInBounds_toArray, List.set_cons_zero, List.set_cons_succ]
          refine wpAnyH_ready (rs := [27]) (by kernel_rfl) (by simp) ?_
          refine AllReadyH.cons (o := { dst := some 111, op := _, type := _, pos := _, after := _, guard := _ }) rfl (fun K hK => ?_) AllReadyH.nil
          go_simp
          refine (HSO.out A6 A7 c6 c7 _ h6 h7).mono ?_
          rintro e x7 ⟨rfl, hk7⟩
          have hKeep := since_step hHeld hk7
          clear h6 h7
          go_wp2_with fail
          refine hK.out _ _ (by (try dsimp only); exact hKeep) (fun hHeld => ?_)
          clear hK K hKeep
          try simp only [Act.put, List.setIfInBounds_toArray, List.set_cons_zero, List.set_cons_succ]
          refine wpAnyH_take (i := 28) (oi := { dst := some 112, op := _, type := _, pos := _, after := _, guard := _ }) (v := ?_) rfl (by kernel_rfl) (by kernel_rfl) (by kernel_rfl) (fun _ _ _ h => h) (Or.inl ⟨by rfl, ?_⟩) hHeld ?_
          rotate_left
          · (intro w hSw; clear hSw; go_simp <;> with_reducible rfl)
          try simp only [Act.put, List.setIfInBounds_toArray, List.set_cons_zero, List.set_cons_succ]
          refine wpAnyH_take (i := 29) (oi := { dst := some 113, op := _, type := _, pos := _, after := _, guard := _ }) (v := ?_) rfl (by kernel_rfl) (by kernel_rfl) (by kernel_rfl) (fun _ _ _ h => h) (Or.inl ⟨by rfl, ?_⟩) hHeld ?_
          rotate_left
          · (intro w hSw; clear hSw; go_simp <;> with_reducible rfl)
          try simp only [Act.put, List.setIfInBounds_toArray, List.set_cons_zero, List.set_cons_succ]
          refine wpAnyH_take (i := 30) (oi := { dst := some 114, op := _, type := _, pos := _, after := _, guard := _ }) (v := ?_) rfl (by kernel_rfl) (by kernel_rfl) (by kernel_rfl) (fun _ _ _ h => h) (Or.inl ⟨by rfl, ?_⟩) hHeld ?_
          rotate_left
          · (intro w hSw; clear hSw; go_simp <;> with_reducible rfl)
          try simp only [Act.put, List.setIfInBounds_toArray, List.set_cons_zero, List.set_cons_succ]
          refine wpAnyH_done (by kernel_rfl) ?_ _
          have hB := hB.trans (hHeld.mono hszU)
          have hHX := hHeld
          clear HRC hHeld
          go_upto_region 14 with fail
          have HC := Lib.hid (fun V (h : Below x7.heap.size x7 V) => HC.out V (since_step hHX h))
          have HR0 := Lib.hid (fun V (h : Below x7.heap.size x7 V) => HR0.out V (since_step hHX h))
          have HRA := Lib.hid (fun V (h : Below x7.heap.size x7 V) => HRA.out V (since_step hHX h))
          have HRB := Lib.hid (fun V (h : Below x7.heap.size x7 V) => HRB.out V (since_step hHX h))
          have hszU := hB.size
          clear hHX
          go_wp2_with fail
          refine wp_region_held_drew (S := (fun V => Below x7.heap.size x7 V)) (by kernel_rfl) (by exact (Below.refl _ _).drew) (fun hHeld => ?_)
          refine wpAnyH_take (i := 0) (oi := { dst := some 115, op := _, type := _, pos := _, after := _, guard := _ }) (v := ?_) rfl (by kernel_rfl) (by kernel_rfl) (by kernel_rfl) (fun _ _ _ h => h) (Or.inl ⟨by rfl, ?_⟩) hHeld ?_
          rotate_left
          · (intro w hSw; clear hSw; go_simp <;> with_reducible rfl)
          try simp only [Act.put, List.setIfInBounds_toArray, List.set_cons_zero, List.set_cons_succ]
          refine wpAnyH_take (i := 1) (oi := { dst := some 116, op := _, type := _, pos := _, after := _, guard := _ }) (v := ?_) rfl (by kernel_rfl) (by kernel_rfl) (by kernel_rfl) (fun _ _ _ h => h) (Or.inl ⟨by rfl, ?_⟩) hHeld ?_
          rotate_left
          · (intro w hSw; clear hSw; go_simp <;> with_reducible rfl)
          try simp only [Act.put, List.setIfInBounds_toArray, List.set_cons_zero, List.set_cons_succ]
          refine wpAnyH_take (i := 2) (oi := { dst := some 117, op := _, type := _, pos := _, after := _, guard := _ }) (v := ?_) rfl (by kernel_rfl) (by kernel_rfl) (by kernel_rfl) (fun _ _ _ h => h) (Or.inl ⟨by rfl, ?_⟩) hHeld ?_
          rotate_left
          · (intro w hSw; clear hSw; go_simp <;> with_reducible rfl)
          try simp only [Act.put, List.setIfInBounds_toArray, List.set_cons_zero, List.set_cons_succ]
          refine wpAnyH_take (i := 3) (oi := { dst := some 118, op := _, type := _, pos := _, after := _, guard := _ }) (v := undef) rfl (by kernel_rfl) (by kernel_rfl) (by kernel_rfl) (fun _ _ _ h => h) (Or.inr ⟨by rfl, rfl⟩) hHeld ?_
          try simp only [Act.put, List.setIfInBounds_toArray, List.set_cons_zero, List.set_cons_succ]
          refine wpAnyH_take (i := 4) (oi := { dst := some 119, op := _, type := _, pos := _, after := _, guard := _ }) (v := undef) rfl (by kernel_rfl) (by kernel_rfl) (by kernel_rfl) (fun _ _ _ h => h) (Or.inr ⟨by rfl, rfl⟩) hHeld ?_
          try simp only [Act.put, List.setIfInBounds_toArray, List.set_cons_zero, List.set_cons_succ]
          refine wpAnyH_take (i := 5) (oi := { dst := some 120, op := _, type := _, pos := _, after := _, guard := _ }) (v := ?_) rfl (by kernel_rfl) (by kernel_rfl) (by kernel_rfl) (fun _ _ _ h => h) (Or.inl ⟨by rfl, ?_⟩) hHeld ?_
          rotate_left
          · (intro w hSw; clear hSw; go_simp <;> with_reducible rfl)
          try simp only [Act.put, List.setIfInBounds_toArray, List.set_cons_zero, List.set_cons_succ]
          refine wpAnyH_take (i := 6) (oi := { dst := some 121, op := _, type := _, pos := _, after := _, guard := _ }) (v := ?_) rfl (by kernel_rfl) (by kernel_rfl) (by kernel_rfl) (fun _ _ _ h => h) (Or.inl ⟨by rfl, ?_⟩) hHeld ?_
          rotate_left
          · (intro w hSw; clear hSw; go_simp <;> with_reducible rfl)
          try simp only [Act.put, List.setIfInBounds_toArray, List.set_cons_zero, List.set_cons_succ]
          refine wpAnyH_take (i := 7) (oi := { dst := some 122, op := _, type := _, pos := _, after := _, guard := _ }) (v := undef) rfl (by kernel_rfl) (by kernel_rfl) (by kernel_rfl) (fun _ _ _ h => h) (Or.inr ⟨by rfl, rfl⟩) hHeld ?_
          try simp only [Act.put, List.setIfInBounds_toArray, List.set_cons_zero, List.set_cons_succ]
          refine wpAnyH_take (i := 8) (oi := { dst := some 123, op := _, type := _, pos := _, after := _, guard := _ }) (v := undef) rfl (by kernel_rfl) (by kernel_rfl) (by kernel_rfl) (fun _ _ _ h => h) (Or.inr ⟨by rfl, rfl⟩) hHeld ?_
          try simp only [Act.put, List.setIfInBounds_toArray, List.set_cons_zero, List.set_cons_succ]
          refine wpAnyH_take (i := 9) (oi := { dst := some 124, op := _, type := _, pos := _, after := _, guard := _ }) (v := undef) rfl (by kernel_rfl) (by kernel_rfl) (by kernel_rfl) (fun _ _ _ h => h) (Or.inr ⟨by rfl, rfl⟩) hHeld ?_
          try simp only [Act.put, List.setIfInBounds_toArray, List.set_cons_zero, List.set_cons_succ]
          refine wpAnyH_take (i := 10) (oi := { dst := some 125, op := _, type := _, pos := _, after := _, guard := _ }) (v := undef) rfl (by kernel_rfl) (by kernel_rfl) (by kernel_rfl) (fun _ _ _ h => h) (Or.inr ⟨by rfl, rfl⟩) hHeld ?_
          try simp only [Act.put, List.setIfInBounds_toArray, List.set_cons_zero, List.set_cons_succ]
          refine wpAnyH_take (i := 11) (oi := { dst := some 126, op := _, type := _, pos := _, after := _, guard := _ }) (v := undef) rfl (by kernel_rfl) (by kernel_rfl) (by kernel_rfl) (fun _ _ _ h => h) (Or.inr ⟨by rfl, rfl⟩) hHeld ?_
          try simp only [Act.put, List.setIfInBounds_toArray, List.set_cons_zero, List.set_cons_succ]
          refine wpAnyH_take (i := 12) (oi := { dst := some 127, op := _, type := _, pos := _, after := _, guard := _ }) (v := undef) rfl (by kernel_rfl) (by kernel_rfl) (by kernel_rfl) (fun _ _ _ h => h) (Or.inr ⟨by rfl, rfl⟩) hHeld ?_
          try simp only [Act.put, List.setIfInBounds_toArray, List.set_cons_zero, List.set_cons_succ]
          refine wpAnyH_take (i := 13) (oi := { dst := some 128, op := _, type := _, pos := _, after := _, guard := _ }) (v := undef) rfl (by kernel_rfl) (by kernel_rfl) (by kernel_rfl) (fun _ _ _ h => h) (Or.inr ⟨by rfl, rfl⟩) hHeld ?_
          try simp only [Act.put, List.setIfInBounds_toArray, List.set_cons_zero, List.set_cons_succ]
          refine wpAnyH_take (i := 14) (oi := { dst := some 129, op := _, type := _, pos := _, after := _, guard := _ }) (v := ?_) rfl (by kernel_rfl) (by kernel_rfl) (by kernel_rfl) (fun _ _ _ h => h) (Or.inl ⟨by rfl, ?_⟩) hHeld ?_
          rotate_left
          · (intro w hSw; clear hSw; go_simp <;> with_reducible rfl)
          try simp only [Act.put, List.setIfInBounds_toArray, List.set_cons_zero, List.set_cons_succ]
          refine wpAnyH_take (i := 15) (oi := { dst := some 130, op := _, type := _, pos := _, after := _, guard := _ }) (v := ?_) rfl (by kernel_rfl) (by kernel_rfl) (by kernel_rfl) (fun _ _ _ h => h) (Or.inl ⟨by rfl, ?_⟩) hHeld ?_
          rotate_left
          · (intro w hSw; clear hSw; go_simp <;> with_reducible rfl)
          try simp only [Act.put, List.setIfInBounds_toArray, List.set_cons_zero, List.set_cons_succ]
          refine wpAnyH_ready (rs := [16]) (by kernel_rfl) (by simp) ?_
          refine AllReadyH.cons (o := { dst := some 131, op := _, type := _, pos := _, after := _, guard := _ }) rfl (fun K hK => ?_) AllReadyH.nil
          go_simp
          refine (HLV.out _).mono ?_
          rintro e y4 ⟨rfl, hk4⟩
          have hKeep := since_step hHeld hk4
          go_wp2_with fail
          refine hK.out _ _ (by (try dsimp only); exact hKeep) (fun hHeld => ?_)
          clear hK K hKeep
          try simp only [Act.put, List.setIfInBounds_toArray, List.set_cons_zero, List.set_cons_succ]
          refine wpAnyH_take (i := 17) (oi := { dst := some 132, op := _, type := _, pos := _, after := _, guard := _ }) (v := ?_) rfl (by kernel_rfl) (by kernel_rfl) (by kernel_rfl) (fun _ _ _ h => h) (Or.inl ⟨by rfl, ?_⟩) hHeld ?_
          rotate_left
          · (intro w hSw; clear hSw; go_simp <;> with_reducible rfl)
          try simp only [Act.put, List.setIfInBounds_toArray, List.set_cons_zero, List.set_cons_succ]
          refine wpAnyH_take (i := 18) (oi := { dst := some 12, op := _, type := _, pos := _, after := _, guard := _ }) (v := ?_) rfl (by kernel_rfl) (by kernel_rfl) (by kernel_rfl) (fun _ _ _ h => h) (Or.inl ⟨by rfl, ?_⟩) hHeld ?_
          rotate_left
          · (intro w hSw; clear hSw; go_simp <;> with_reducible rfl)
          try simp only [Act.put, List.setIfInBounds_toArray, List.set_cons_zero, List.set_cons_succ]
          refine wpAnyH_done (by kernel_rfl) ?_ _
          have hBf := hB.trans (hHeld.mono hszU)
          go_wp2_with fail
          go_ret
          exact ⟨rfl, hBf⟩
  · by_cases hp0 : pn = 0
    · have hm1 : (mn == 0) = false := by simpa using hm0
      have hm2 : (mn != 0) = true := by simpa using hm0
      clear hm0
      subst hp0
      obtain ⟨hPi, hP6, hPL⟩ := pass_is hP
      have hP6 := hP6 hgd.2
      have hPc : ∀ g ∈ PL, g.L.length ≤ 900000 := fun g hg => Nat.le_trans (is_len hPi g hg) (by omega)
      have hTP := fun A1 c1 l1 k V hl h1 h2 => htotal_any A1 c1 l1 PL k V hl hPc hP6 h1 h2
      simp only [pass_sum hP] at hTP
      have HTP := Lib.hid hTP
      have HZP : Hid (PL.length ≤ 800000) := Lib.hid (by omega)
      clear hTP
      have hLP := fun A1 c1 l1 V hl h1 h2 => hlots_any A1 c1 l1 PL oa oc V hl hPc h1 h2
      rw [pass_other hP (fun h => hf2.out h.2) (fun h => ht2.out h.2)] at hLP
      have HLP := Lib.hid hLP
      clear hLP
      clear hPi hP6 hPL hPc
      have HLO := Lib.hid (fun V h1 h2 => hlots_any A c R cs oa oc V hR9 hcl9 h1 h2)
      have hlo := lotsH_len hgd.1 oa oc
      have HSO := Lib.hid (fun A1 A2 c1 c2 V h1 h2 => rlsame_any_self A1 A2 c1 c2 (lotsH cs oa oc) V (by omega) h1 h2)
      generalize lotsH cs oa oc = L1 at *
      clear hlo
      have HTL := Lib.hid (fun k V h1 h2 => htotal_any A c R cs k V hR9 hcl9 hgd.2 h1 h2)
      have HZR := Lib.hid hR8
      clear hgd hM hP hR9 hcl9 hR8
      have bf1 : (oa != fa) = false := by rw [hf1.out]; simp
      have bf2 : (oc != fc) = true := by simpa using hf2.out
      have cf1 : (oa == fa) = true := by rw [hf1.out]; simp
      have cf2 : (oc == fc) = false := by simpa using hf2.out
      clear hf1 hf2
      have bt1 : (oa != ta) = false := by rw [ht1.out]; simp
      have bt2 : (oc != tc) = true := by simpa using ht2.out
      have ct1 : (oa == ta) = true := by rw [ht1.out]; simp
      have ct2 : (oc == tc) = false := by simpa using ht2.out
      clear ht1 ht2
      go_loopw [17] (fun iv wr => ∃ k : Nat, 1 ≤ k ∧ k ≤ 5 ∧ iv = .int .i64 k ∧ Below z3.heap.size z3 wr) (fun iv _ => 5 - (intOf iv).toNat)
      case atStart => exact ⟨1, by omega, by omega, rfl, Below.refl _ _⟩
      case round =>
        obtain ⟨k, hk1, hk5, rfl, hbr⟩ := hrel
        by_cases hk : k ≤ 4
        · have hki : (k : Int) ≤ 4 := by omega
          have HTLk := Lib.hid (fun V h1 h2 => HTL.out (k : Int) V h1 h2)
          have HTPk := Lib.hid (fun A1 c1 l1 V hl h1 h2 => HTP.out A1 c1 l1 (k : Int) V hl h1 h2)
          obtain ⟨th, hth⟩ : ∃ n, hiN (sumsH cs (k : Int)).sum = n := ⟨_, rfl⟩
          obtain ⟨tl, htl⟩ : ∃ n, loN (sumsH cs (k : Int)).sum = n := ⟨_, rfl⟩
          have hq1 : (th == th) = true := by simp
          have hq2 : (tl == tl) = true := by simp
          rw [hth, htl] at HTLk HTPk
          clear hth htl HTL HTP
          have hBl := hbr
          have HT := Lib.hid (And.intro (HT.out.1.below hbr) (HT.out.2.below hbr))
          have HR2 := Lib.hid (And.intro (HR2.out.1.below hbr) (HR2.out.2.below hbr))
          go_wp2_with fail
          refine (HTPk.out X2 d2 m2 _ (by have := HR2.out.2.1; have := HZP.out; omega) HR2.out.1 HR2.out.2).mono ?_
          rintro e r1 ⟨rfl, hb⟩
          have hBl := since_step hBl hb
          have HT := Lib.hid (And.intro (HT.out.1.below hb) (HT.out.2.below hb))
          have HR2 := Lib.hid (And.intro (HR2.out.1.below hb) (HR2.out.2.below hb))
          clear hb
          go_wp2_with fail
          refine (HTLk.out _ HT.out.1 HT.out.2).mono ?_
          rintro e r2 ⟨rfl, hb⟩
          have hBl := since_step hBl hb
          have HT := Lib.hid (And.intro (HT.out.1.below hb) (HT.out.2.below hb))
          have HR2 := Lib.hid (And.intro (HR2.out.1.below hb) (HR2.out.2.below hb))
          clear hb
          go_wp2_with fail
          go_roundw
          case rel => exact ⟨k + 1, by omega, by omega, by go_num, hBl⟩
          case measure => simp [intOf]; omega
        · have hki : ¬ ((k : Int) ≤ 4) := by omega
          have hB := since_step hB hbr
          have hK1 := hK1.below hbr
          have hK2 := hK2.below hbr
          have hK3 := hK3.below hbr
          have HT := Lib.hid (And.intro (HT.out.1.below hbr) (HT.out.2.below hbr))
          have HR1 := Lib.hid (And.intro (HR1.out.1.below hbr) (HR1.out.2.below hbr))
          have HR2 := Lib.hid (And.intro (HR2.out.1.below hbr) (HR2.out.2.below hbr))
          clear hbr HTL HTP
          obtain ⟨hK1_l, hK1_c⟩ := id hK1
          have hK1_0 := hK1_c 0
          have hK1_1 := hK1_c 1
          simp at hK1_0 hK1_1
          clear hK1_c
          obtain ⟨hK2_l, hK2_c⟩ := id hK2
          have hK2_0 := hK2_c 0
          have hK2_1 := hK2_c 1
          simp at hK2_0 hK2_1
          clear hK2_c
          obtain ⟨hK3_l, hK3_c⟩ := id hK3
          have hK3_0 := hK3_c 0
          have hK3_1 := hK3_c 1
          simp at hK3_0 hK3_1
          clear hK3_c
          go_upto_region 14 with fail
          clear hK1_l hK1_0 hK1_1 hK2_l hK2_0 hK2_1 hK3_l hK3_0 hK3_1
          have HC : Hid (∀ V, Below wr.heap.size wr V → (V.cell? ⟨w.heap.size, 0, none⟩ = some (.int .i64 fa) ∧ V.cell? ⟨w.heap.size, 1, none⟩ = some (.int .i64 fc)) ∧ (V.cell? ⟨w.heap.size + 1, 0, none⟩ = some (.int .i64 ta) ∧ V.cell? ⟨w.heap.size + 1, 1, none⟩ = some (.int .i64 tc)) ∧ (V.cell? ⟨w.heap.size + 1 + 1, 0, none⟩ = some (.int .i64 oa) ∧ V.cell? ⟨w.heap.size + 1 + 1, 1, none⟩ = some (.int .i64 oc))) := Lib.hid fun V h => ⟨⟨(hK1.below h).2 0, (hK1.below h).2 1⟩, ⟨(hK2.below h).2 0, (hK2.below h).2 1⟩, ⟨(hK3.below h).2 0, (hK3.below h).2 1⟩⟩
          have HR0 : Hid (∀ V, Below wr.heap.size wr V → Sl V A (rc Hd.cells R) ∧ HdTab V R cs) := Lib.hid fun V h => ⟨HT.out.1.below h, HT.out.2.below h⟩
          have HRA : Hid (∀ V, Below wr.heap.size wr V → Sl V X1 (rc Hd.cells m1) ∧ HdTab V m1 ML) := Lib.hid fun V h => ⟨HR1.out.1.below h, HR1.out.2.below h⟩
          have HRB : Hid (∀ V, Below wr.heap.size wr V → Sl V X2 (rc Hd.cells m2) ∧ HdTab V m2 PL) := Lib.hid fun V h => ⟨HR2.out.1.below h, HR2.out.2.below h⟩
          have hszU := hB.size
          clear hK1 hK2 hK3 HT HR1 HR2
          go_wp2_with fail
          refine wp_region_held_drew (S := (fun V => Below wr.heap.size wr V)) (by kernel_rfl) (by exact (Below.refl _ _).drew) (fun hHeld => ?_)
          refine wpAnyH_take (i := 0) (oi := { dst := some 115, op := _, type := _, pos := _, after := _, guard := _ }) (v := ?_) rfl (by kernel_rfl) (by kernel_rfl) (by kernel_rfl) (fun _ _ _ h => h) (Or.inl ⟨by rfl, ?_⟩) hHeld ?_
          rotate_left
          · (intro w hSw; clear hSw; go_simp <;> with_reducible rfl)
          try simp only [Act.put, List.setIfInBounds_toArray, List.set_cons_zero, List.set_cons_succ]
          refine wpAnyH_take (i := 1) (oi := { dst := some 116, op := _, type := _, pos := _, after := _, guard := _ }) (v := ?_) rfl (by kernel_rfl) (by kernel_rfl) (by kernel_rfl) (fun _ _ _ h => h) (Or.inl ⟨by rfl, ?_⟩) hHeld ?_
          rotate_left
          · (intro w hSw; clear hSw; go_simp <;> with_reducible rfl)
          try simp only [Act.put, List.setIfInBounds_toArray, List.set_cons_zero, List.set_cons_succ]
          refine wpAnyH_take (i := 2) (oi := { dst := some 117, op := _, type := _, pos := _, after := _, guard := _ }) (v := ?_) rfl (by kernel_rfl) (by kernel_rfl) (by kernel_rfl) (fun _ _ _ h => h) (Or.inl ⟨by rfl, ?_⟩) hHeld ?_
          rotate_left
          · (intro w hSw; clear hSw; go_simp <;> with_reducible rfl)
          try simp only [Act.put, List.setIfInBounds_toArray, List.set_cons_zero, List.set_cons_succ]
          refine wpAnyH_take (i := 3) (oi := { dst := some 118, op := _, type := _, pos := _, after := _, guard := _ }) (v := ?_) rfl (by kernel_rfl) (by kernel_rfl) (by kernel_rfl) (fun _ _ _ h => h) (Or.inl ⟨by rfl, ?_⟩) hHeld ?_
          rotate_left
          · (intro w hSw; clear hSw; go_simp <;> with_reducible rfl)
          try simp only [Act.put, List.setIfInBounds_toArray, List.set_cons_zero, List.set_cons_succ]
          refine wpAnyH_take (i := 4) (oi := { dst := some 119, op := _, type := _, pos := _, after := _, guard := _ }) (v := ?_) rfl (by kernel_rfl) (by kernel_rfl) (by kernel_rfl) (fun _ _ _ h => h) (Or.inl ⟨by rfl, ?_⟩) hHeld ?_
          rotate_left
          · (intro w hSw; clear hSw; go_simp <;> with_reducible rfl)
          try simp only [Act.put, List.setIfInBounds_toArray, List.set_cons_zero, List.set_cons_succ]
          refine wpAnyH_take (i := 5) (oi := { dst := some 120, op := _, type := _, pos := _, after := _, guard := _ }) (v := ?_) rfl (by kernel_rfl) (by kernel_rfl) (by kernel_rfl) (fun _ _ _ h => h) (Or.inl ⟨by rfl, ?_⟩) hHeld ?_
          rotate_left
          · (intro w hSw; clear hSw; go_simp <;> with_reducible rfl)
          try simp only [Act.put, List.setIfInBounds_toArray, List.set_cons_zero, List.set_cons_succ]
          refine wpAnyH_take (i := 6) (oi := { dst := some 121, op := _, type := _, pos := _, after := _, guard := _ }) (v := ?_) rfl (by kernel_rfl) (by kernel_rfl) (by kernel_rfl) (fun _ _ _ h => h) (Or.inl ⟨by rfl, ?_⟩) hHeld ?_
          rotate_left
          · (intro w hSw; clear hSw; go_simp <;> with_reducible rfl)
          try simp only [Act.put, List.setIfInBounds_toArray, List.set_cons_zero, List.set_cons_succ]
          refine wpAnyH_take (i := 7) (oi := { dst := some 122, op := _, type := _, pos := _, after := _, guard := _ }) (v := ?_) rfl (by kernel_rfl) (by kernel_rfl) (by kernel_rfl) (fun _ _ _ h => h) (Or.inl ⟨by rfl, ?_⟩) hHeld ?_
          rotate_left
          · (intro w hSw; clear hSw; go_simp <;> with_reducible rfl)
          try simp only [Act.put, List.setIfInBounds_toArray, List.set_cons_zero, List.set_cons_succ]
          refine wpAnyH_take (i := 8) (oi := { dst := some 123, op := _, type := _, pos := _, after := _, guard := _ }) (v := ?_) rfl (by kernel_rfl) (by kernel_rfl) (by kernel_rfl) (fun _ _ _ h => h) (Or.inl ⟨by rfl, ?_⟩) hHeld ?_
          rotate_left
          · (intro w hSw; obtain ⟨⟨p0, p1⟩, ⟨p2, p3⟩, ⟨p4, p5⟩⟩ := HC.out _ hSw; go_simp <;> with_reducible rfl)
          try simp only [Act.put, List.setIfInBounds_toArray, List.set_cons_zero, List.set_cons_succ]
          refine wpAnyH_take (i := 10) (oi := { dst := some 125, op := _, type := _, pos := _, after := _, guard := _ }) (v := ?_) rfl (by kernel_rfl) (by kernel_rfl) (by kernel_rfl) (fun _ _ _ h => h) (Or.inl ⟨by rfl, ?_⟩) hHeld ?_
          rotate_left
          · (intro w hSw; clear hSw; go_simp <;> with_reducible rfl)
          try simp only [Act.put, List.setIfInBounds_toArray, List.set_cons_zero, List.set_cons_succ]
          refine wpAnyH_take (i := 11) (oi := { dst := some 126, op := _, type := _, pos := _, after := _, guard := _ }) (v := ?_) rfl (by kernel_rfl) (by kernel_rfl) (by kernel_rfl) (fun _ _ _ h => h) (Or.inl ⟨by rfl, ?_⟩) hHeld ?_
          rotate_left
          · (intro w hSw; obtain ⟨⟨p0, p1⟩, ⟨p2, p3⟩, ⟨p4, p5⟩⟩ := HC.out _ hSw; go_simp <;> with_reducible rfl)
          try simp only [Act.put, List.setIfInBounds_toArray, List.set_cons_zero, List.set_cons_succ]
          refine wpAnyH_ready (rs := [9]) (by kernel_rfl) (by simp) ?_
          refine AllReadyH.cons (o := { dst := some 124, op := _, type := _, pos := _, after := _, guard := _ }) rfl (fun K hK => ?_) AllReadyH.nil
          go_simp
          refine (HLP.out X2 d2 m2 _ (by have := (show HdTab _ _ _ from (HRB.out _ hHeld).2).1; have := HZP.out; omega) (HRB.out _ hHeld).1 (HRB.out _ hHeld).2).mono ?_
          rintro e y1 ⟨⟨A8, c8, rfl, o8⟩, hk1⟩
          have hKeep := since_step hHeld hk1
          have h8 := Sl.of_own o8
          clear o8
          go_wp2_with fail
          refine hK.out _ _ (by (try dsimp only); exact hKeep) (fun hHeld => ?_)
          clear hK K hKeep
          try simp only [Act.put, List.setIfInBounds_toArray, List.set_cons_zero, List.set_cons_succ]
          refine wpAnyH_ready (rs := [12]) (by kernel_rfl) (by simp) ?_
          refine AllReadyH.cons (o := { dst := some 127, op := _, type := _, pos := _, after := _, guard := _ }) rfl (fun K hK => ?_) AllReadyH.nil
          go_simp
          refine (HLO.out _ (HR0.out _ hHeld).1 (HR0.out _ hHeld).2).mono ?_
          rintro e y2 ⟨⟨A9, c9, rfl, o9⟩, hk2⟩
          have hKeep := since_step hHeld hk2
          have h8 := h8.below hk2
          have h9 := Sl.of_own o9
          clear o9
          go_wp2_with fail
          refine hK.out _ _ (by (try dsimp only); exact hKeep) (fun hHeld => ?_)
          clear hK K hKeep
          try simp only [Act.put, List.setIfInBounds_toArray, List.set_cons_zero, List.set_cons_succ]
          refine wpAnyH_ready (rs := [13]) (by kernel_rfl) (by simp) ?_
          refine AllReadyH.cons (o := { dst := some 128, op := _, type := _, pos := _, after := _, guard := _ }) rfl (fun K hK => ?_) AllReadyH.nil
          go_simp
          refine (HSO.out A8 A9 c8 c9 _ h8 h9).mono ?_
          rintro e y3 ⟨rfl, hk3⟩
          have hKeep := since_step hHeld hk3
          clear h8 h9
          go_wp2_with fail
          refine hK.out _ _ (by (try dsimp only); exact hKeep) (fun hHeld => ?_)
          clear hK K hKeep
          try simp only [Act.put, List.setIfInBounds_toArray, List.set_cons_zero, List.set_cons_succ]
          refine wpAnyH_take (i := 14) (oi := { dst := some 129, op := _, type := _, pos := _, after := _, guard := _ }) (v := ?_) rfl (by kernel_rfl) (by kernel_rfl) (by kernel_rfl) (fun _ _ _ h => h) (Or.inl ⟨by rfl, ?_⟩) hHeld ?_
          rotate_left
          · (intro w hSw; clear hSw; go_simp <;> with_reducible rfl)
          try simp only [Act.put, List.setIfInBounds_toArray, List.set_cons_zero, List.set_cons_succ]
          refine wpAnyH_take (i := 15) (oi := { dst := some 130, op := _, type := _, pos := _, after := _, guard := _ }) (v := ?_) rfl (by kernel_rfl) (by kernel_rfl) (by kernel_rfl) (fun _ _ _ h => h) (Or.inl ⟨by rfl, ?_⟩) hHeld ?_
          rotate_left
          · (intro w hSw; clear hSw; go_simp <;> with_reducible rfl)
          try simp only [Act.put, List.setIfInBounds_toArray, List.set_cons_zero, List.set_cons_succ]
          refine wpAnyH_ready (rs := [16]) (by kernel_rfl) (by simp) ?_
          refine AllReadyH.cons (o := { dst := some 131, op := _, type := _, pos := _, after := _, guard := _ }) rfl (fun K hK => ?_) AllReadyH.nil
          go_simp
          refine (HLV.out _).mono ?_
          rintro e y4 ⟨rfl, hk4⟩
          have hKeep := since_step hHeld hk4
          go_wp2_with fail
          refine hK.out _ _ (by (try dsimp only); exact hKeep) (fun hHeld => ?_)
          clear hK K hKeep
          try simp only [Act.put, List.setIfInBounds_toArray, List.set_cons_zero, List.set_cons_succ]
          refine wpAnyH_take (i := 17) (oi := { dst := some 132, op := _, type := _, pos := _, after := _, guard := _ }) (v := ?_) rfl (by kernel_rfl) (by kernel_rfl) (by kernel_rfl) (fun _ _ _ h => h) (Or.inl ⟨by rfl, ?_⟩) hHeld ?_
          rotate_left
          · (intro w hSw; clear hSw; go_simp <;> with_reducible rfl)
          try simp only [Act.put, List.setIfInBounds_toArray, List.set_cons_zero, List.set_cons_succ]
          refine wpAnyH_take (i := 18) (oi := { dst := some 12, op := _, type := _, pos := _, after := _, guard := _ }) (v := ?_) rfl (by kernel_rfl) (by kernel_rfl) (by kernel_rfl) (fun _ _ _ h => h) (Or.inl ⟨by rfl, ?_⟩) hHeld ?_
          rotate_left
          · (intro w hSw; clear hSw; go_simp <;> with_reducible rfl)
          try simp only [Act.put, List.setIfInBounds_toArray, List.set_cons_zero, List.set_cons_succ]
          refine wpAnyH_done (by kernel_rfl) ?_ _
          have hBf := hB.trans (hHeld.mono hszU)
          go_wp2_with fail
          go_ret
          exact ⟨rfl, hBf⟩
    · have hm1 : (mn == 0) = false := by simpa using hm0
      have hm2 : (mn != 0) = true := by simpa using hm0
      clear hm0
      have hp1 : (pn == 0) = false := by simpa using hp0
      have hp2 : (pn != 0) = true := by simpa using hp0
      clear hp0
      have HTL := Lib.hid (fun k V h1 h2 => htotal_any A c R cs k V hR9 hcl9 hgd.2 h1 h2)
      have HZR := Lib.hid hR8
      clear hgd hM hP hR9 hcl9 hR8
      have bf1 : (oa != fa) = false := by rw [hf1.out]; simp
      have bf2 : (oc != fc) = true := by simpa using hf2.out
      have cf1 : (oa == fa) = true := by rw [hf1.out]; simp
      have cf2 : (oc == fc) = false := by simpa using hf2.out
      clear hf1 hf2
      have bt1 : (oa != ta) = false := by rw [ht1.out]; simp
      have bt2 : (oc != tc) = true := by simpa using ht2.out
      have ct1 : (oa == ta) = true := by rw [ht1.out]; simp
      have ct2 : (oc == tc) = false := by simpa using ht2.out
      clear ht1 ht2
      go_loopw [17] (fun iv wr => ∃ k : Nat, 1 ≤ k ∧ k ≤ 5 ∧ iv = .int .i64 k ∧ Below z3.heap.size z3 wr) (fun iv _ => 5 - (intOf iv).toNat)
      case atStart => exact ⟨1, by omega, by omega, rfl, Below.refl _ _⟩
      case round =>
        obtain ⟨k, hk1, hk5, rfl, hbr⟩ := hrel
        by_cases hk : k ≤ 4
        · have hki : (k : Int) ≤ 4 := by omega
          have HTLk := Lib.hid (fun V h1 h2 => HTL.out (k : Int) V h1 h2)
          obtain ⟨th, hth⟩ : ∃ n, hiN (sumsH cs (k : Int)).sum = n := ⟨_, rfl⟩
          obtain ⟨tl, htl⟩ : ∃ n, loN (sumsH cs (k : Int)).sum = n := ⟨_, rfl⟩
          have hq1 : (th == th) = true := by simp
          have hq2 : (tl == tl) = true := by simp
          rw [hth, htl] at HTLk
          clear hth htl HTL
          have hBl := hbr
          have HT := Lib.hid (And.intro (HT.out.1.below hbr) (HT.out.2.below hbr))
          go_wp2_with fail
          go_roundw
          case rel => exact ⟨k + 1, by omega, by omega, by go_num, hBl⟩
          case measure => simp [intOf]; omega
        · have hki : ¬ ((k : Int) ≤ 4) := by omega
          have hB := since_step hB hbr
          have hK1 := hK1.below hbr
          have hK2 := hK2.below hbr
          have hK3 := hK3.below hbr
          have HT := Lib.hid (And.intro (HT.out.1.below hbr) (HT.out.2.below hbr))
          have HR1 := Lib.hid (And.intro (HR1.out.1.below hbr) (HR1.out.2.below hbr))
          have HR2 := Lib.hid (And.intro (HR2.out.1.below hbr) (HR2.out.2.below hbr))
          clear hbr HTL
          obtain ⟨hK1_l, hK1_c⟩ := id hK1
          have hK1_0 := hK1_c 0
          have hK1_1 := hK1_c 1
          simp at hK1_0 hK1_1
          clear hK1_c
          obtain ⟨hK2_l, hK2_c⟩ := id hK2
          have hK2_0 := hK2_c 0
          have hK2_1 := hK2_c 1
          simp at hK2_0 hK2_1
          clear hK2_c
          obtain ⟨hK3_l, hK3_c⟩ := id hK3
          have hK3_0 := hK3_c 0
          have hK3_1 := hK3_c 1
          simp at hK3_0 hK3_1
          clear hK3_c
          go_upto_region 14 with fail
          clear hK1_l hK1_0 hK1_1 hK2_l hK2_0 hK2_1 hK3_l hK3_0 hK3_1
          have HC : Hid (∀ V, Below wr.heap.size wr V → (V.cell? ⟨w.heap.size, 0, none⟩ = some (.int .i64 fa) ∧ V.cell? ⟨w.heap.size, 1, none⟩ = some (.int .i64 fc)) ∧ (V.cell? ⟨w.heap.size + 1, 0, none⟩ = some (.int .i64 ta) ∧ V.cell? ⟨w.heap.size + 1, 1, none⟩ = some (.int .i64 tc)) ∧ (V.cell? ⟨w.heap.size + 1 + 1, 0, none⟩ = some (.int .i64 oa) ∧ V.cell? ⟨w.heap.size + 1 + 1, 1, none⟩ = some (.int .i64 oc))) := Lib.hid fun V h => ⟨⟨(hK1.below h).2 0, (hK1.below h).2 1⟩, ⟨(hK2.below h).2 0, (hK2.below h).2 1⟩, ⟨(hK3.below h).2 0, (hK3.below h).2 1⟩⟩
          have HR0 : Hid (∀ V, Below wr.heap.size wr V → Sl V A (rc Hd.cells R) ∧ HdTab V R cs) := Lib.hid fun V h => ⟨HT.out.1.below h, HT.out.2.below h⟩
          have HRA : Hid (∀ V, Below wr.heap.size wr V → Sl V X1 (rc Hd.cells m1) ∧ HdTab V m1 ML) := Lib.hid fun V h => ⟨HR1.out.1.below h, HR1.out.2.below h⟩
          have HRB : Hid (∀ V, Below wr.heap.size wr V → Sl V X2 (rc Hd.cells m2) ∧ HdTab V m2 PL) := Lib.hid fun V h => ⟨HR2.out.1.below h, HR2.out.2.below h⟩
          have hszU := hB.size
          clear hK1 hK2 hK3 HT HR1 HR2
          go_wp2_with fail
          refine wp_region_held_drew (S := (fun V => Below wr.heap.size wr V)) (by kernel_rfl) (by exact (Below.refl _ _).drew) (fun hHeld => ?_)
          refine wpAnyH_take (i := 0) (oi := { dst := some 115, op := _, type := _, pos := _, after := _, guard := _ }) (v := ?_) rfl (by kernel_rfl) (by kernel_rfl) (by kernel_rfl) (fun _ _ _ h => h) (Or.inl ⟨by rfl, ?_⟩) hHeld ?_
          rotate_left
          · (intro w hSw; clear hSw; go_simp <;> with_reducible rfl)
          try simp only [Act.put, List.setIfInBounds_toArray, List.set_cons_zero, List.set_cons_succ]
          refine wpAnyH_take (i := 1) (oi := { dst := some 116, op := _, type := _, pos := _, after := _, guard := _ }) (v := ?_) rfl (by kernel_rfl) (by kernel_rfl) (by kernel_rfl) (fun _ _ _ h => h) (Or.inl ⟨by rfl, ?_⟩) hHeld ?_
          rotate_left
          · (intro w hSw; clear hSw; go_simp <;> with_reducible rfl)
          try simp only [Act.put, List.setIfInBounds_toArray, List.set_cons_zero, List.set_cons_succ]
          refine wpAnyH_take (i := 2) (oi := { dst := some 117, op := _, type := _, pos := _, after := _, guard := _ }) (v := ?_) rfl (by kernel_rfl) (by kernel_rfl) (by kernel_rfl) (fun _ _ _ h => h) (Or.inl ⟨by rfl, ?_⟩) hHeld ?_
          rotate_left
          · (intro w hSw; clear hSw; go_simp <;> with_reducible rfl)
          try simp only [Act.put, List.setIfInBounds_toArray, List.set_cons_zero, List.set_cons_succ]
          refine wpAnyH_take (i := 3) (oi := { dst := some 118, op := _, type := _, pos := _, after := _, guard := _ }) (v := undef) rfl (by kernel_rfl) (by kernel_rfl) (by kernel_rfl) (fun _ _ _ h => h) (Or.inr ⟨by rfl, rfl⟩) hHeld ?_
          try simp only [Act.put, List.setIfInBounds_toArray, List.set_cons_zero, List.set_cons_succ]
          refine wpAnyH_take (i := 4) (oi := { dst := some 119, op := _, type := _, pos := _, after := _, guard := _ }) (v := undef) rfl (by kernel_rfl) (by kernel_rfl) (by kernel_rfl) (fun _ _ _ h => h) (Or.inr ⟨by rfl, rfl⟩) hHeld ?_
          try simp only [Act.put, List.setIfInBounds_toArray, List.set_cons_zero, List.set_cons_succ]
          refine wpAnyH_take (i := 5) (oi := { dst := some 120, op := _, type := _, pos := _, after := _, guard := _ }) (v := ?_) rfl (by kernel_rfl) (by kernel_rfl) (by kernel_rfl) (fun _ _ _ h => h) (Or.inl ⟨by rfl, ?_⟩) hHeld ?_
          rotate_left
          · (intro w hSw; clear hSw; go_simp <;> with_reducible rfl)
          try simp only [Act.put, List.setIfInBounds_toArray, List.set_cons_zero, List.set_cons_succ]
          refine wpAnyH_take (i := 6) (oi := { dst := some 121, op := _, type := _, pos := _, after := _, guard := _ }) (v := ?_) rfl (by kernel_rfl) (by kernel_rfl) (by kernel_rfl) (fun _ _ _ h => h) (Or.inl ⟨by rfl, ?_⟩) hHeld ?_
          rotate_left
          · (intro w hSw; clear hSw; go_simp <;> with_reducible rfl)
          try simp only [Act.put, List.setIfInBounds_toArray, List.set_cons_zero, List.set_cons_succ]
          refine wpAnyH_take (i := 7) (oi := { dst := some 122, op := _, type := _, pos := _, after := _, guard := _ }) (v := undef) rfl (by kernel_rfl) (by kernel_rfl) (by kernel_rfl) (fun _ _ _ h => h) (Or.inr ⟨by rfl, rfl⟩) hHeld ?_
          try simp only [Act.put, List.setIfInBounds_toArray, List.set_cons_zero, List.set_cons_succ]
          refine wpAnyH_take (i := 8) (oi := { dst := some 123, op := _, type := _, pos := _, after := _, guard := _ }) (v := undef) rfl (by kernel_rfl) (by kernel_rfl) (by kernel_rfl) (fun _ _ _ h => h) (Or.inr ⟨by rfl, rfl⟩) hHeld ?_
          try simp only [Act.put, List.setIfInBounds_toArray, List.set_cons_zero, List.set_cons_succ]
          refine wpAnyH_take (i := 9) (oi := { dst := some 124, op := _, type := _, pos := _, after := _, guard := _ }) (v := undef) rfl (by kernel_rfl) (by kernel_rfl) (by kernel_rfl) (fun _ _ _ h => h) (Or.inr ⟨by rfl, rfl⟩) hHeld ?_
          try simp only [Act.put, List.setIfInBounds_toArray, List.set_cons_zero, List.set_cons_succ]
          refine wpAnyH_take (i := 10) (oi := { dst := some 125, op := _, type := _, pos := _, after := _, guard := _ }) (v := undef) rfl (by kernel_rfl) (by kernel_rfl) (by kernel_rfl) (fun _ _ _ h => h) (Or.inr ⟨by rfl, rfl⟩) hHeld ?_
          try simp only [Act.put, List.setIfInBounds_toArray, List.set_cons_zero, List.set_cons_succ]
          refine wpAnyH_take (i := 11) (oi := { dst := some 126, op := _, type := _, pos := _, after := _, guard := _ }) (v := undef) rfl (by kernel_rfl) (by kernel_rfl) (by kernel_rfl) (fun _ _ _ h => h) (Or.inr ⟨by rfl, rfl⟩) hHeld ?_
          try simp only [Act.put, List.setIfInBounds_toArray, List.set_cons_zero, List.set_cons_succ]
          refine wpAnyH_take (i := 12) (oi := { dst := some 127, op := _, type := _, pos := _, after := _, guard := _ }) (v := undef) rfl (by kernel_rfl) (by kernel_rfl) (by kernel_rfl) (fun _ _ _ h => h) (Or.inr ⟨by rfl, rfl⟩) hHeld ?_
          try simp only [Act.put, List.setIfInBounds_toArray, List.set_cons_zero, List.set_cons_succ]
          refine wpAnyH_take (i := 13) (oi := { dst := some 128, op := _, type := _, pos := _, after := _, guard := _ }) (v := undef) rfl (by kernel_rfl) (by kernel_rfl) (by kernel_rfl) (fun _ _ _ h => h) (Or.inr ⟨by rfl, rfl⟩) hHeld ?_
          try simp only [Act.put, List.setIfInBounds_toArray, List.set_cons_zero, List.set_cons_succ]
          refine wpAnyH_take (i := 14) (oi := { dst := some 129, op := _, type := _, pos := _, after := _, guard := _ }) (v := ?_) rfl (by kernel_rfl) (by kernel_rfl) (by kernel_rfl) (fun _ _ _ h => h) (Or.inl ⟨by rfl, ?_⟩) hHeld ?_
          rotate_left
          · (intro w hSw; clear hSw; go_simp <;> with_reducible rfl)
          try simp only [Act.put, List.setIfInBounds_toArray, List.set_cons_zero, List.set_cons_succ]
          refine wpAnyH_take (i := 15) (oi := { dst := some 130, op := _, type := _, pos := _, after := _, guard := _ }) (v := ?_) rfl (by kernel_rfl) (by kernel_rfl) (by kernel_rfl) (fun _ _ _ h => h) (Or.inl ⟨by rfl, ?_⟩) hHeld ?_
          rotate_left
          · (intro w hSw; clear hSw; go_simp <;> with_reducible rfl)
          try simp only [Act.put, List.setIfInBounds_toArray, List.set_cons_zero, List.set_cons_succ]
          refine wpAnyH_ready (rs := [16]) (by kernel_rfl) (by simp) ?_
          refine AllReadyH.cons (o := { dst := some 131, op := _, type := _, pos := _, after := _, guard := _ }) rfl (fun K hK => ?_) AllReadyH.nil
          go_simp
          refine (HLV.out _).mono ?_
          rintro e y4 ⟨rfl, hk4⟩
          have hKeep := since_step hHeld hk4
          go_wp2_with fail
          refine hK.out _ _ (by (try dsimp only); exact hKeep) (fun hHeld => ?_)
          clear hK K hKeep
          try simp only [Act.put, List.setIfInBounds_toArray, List.set_cons_zero, List.set_cons_succ]
          refine wpAnyH_take (i := 17) (oi := { dst := some 132, op := _, type := _, pos := _, after := _, guard := _ }) (v := ?_) rfl (by kernel_rfl) (by kernel_rfl) (by kernel_rfl) (fun _ _ _ h => h) (Or.inl ⟨by rfl, ?_⟩) hHeld ?_
          rotate_left
          · (intro w hSw; clear hSw; go_simp <;> with_reducible rfl)
          try simp only [Act.put, List.setIfInBounds_toArray, List.set_cons_zero, List.set_cons_succ]
          refine wpAnyH_take (i := 18) (oi := { dst := some 12, op := _, type := _, pos := _, after := _, guard := _ }) (v := ?_) rfl (by kernel_rfl) (by kernel_rfl) (by kernel_rfl) (fun _ _ _ h => h) (Or.inl ⟨by rfl, ?_⟩) hHeld ?_
          rotate_left
          · (intro w hSw; clear hSw; go_simp <;> with_reducible rfl)
          try simp only [Act.put, List.setIfInBounds_toArray, List.set_cons_zero, List.set_cons_succ]
          refine wpAnyH_done (by kernel_rfl) ?_ _
          have hBf := hB.trans (hHeld.mono hszU)
          go_wp2_with fail
          go_ret
          exact ⟨rfl, hBf⟩
theorem walk_HoldKeeps (a0 : Option Addr) (n0 c0 : Nat) (a1 : Array Value) (a2 : Array Value) (a3 : Array Value) (a4 : Array Value) (a5 : Int) (w : World) (w0 : Rd w (.sl (.cat (.cat (.int .i64) (.cat (.int .i64) .nil)) (.cat (.sl (.cat (.int .i64) (.cat (.int .i64) (.cat (.int .i64) .nil)))) .nil))) [.slice a0 n0 c0]) (w1 : Rd w (.cat (.int .i64) (.cat (.int .i64) .nil)) a1.toList) (w2 : Rd w (.cat (.int .i64) (.cat (.int .i64) .nil)) a2.toList) (w3 : Rd w (.cat (.int .i64) (.cat (.int .i64) .nil)) a3.toList) (w4 : Rd w (.cat (.int .i64) (.cat (.int .i64) (.cat (.int .i64) .nil))) a4.toList) (w5 : (Lit.int .i64 a5).wf = true) :
    Calls Try.prog 13 #[.slice a0 n0 c0, .agg a1, .agg a2, .agg a3, .agg a4, .int .i64 a5] w fun e w' => e = .returned (.bool true) ∧ Below w.heap.size w w' := by
  obtain ⟨l, rfl, _, _, hs, hd⟩ := rd_rowsP (f := Hd.cells) (fun r => rd_hold) w0
  obtain ⟨fa, fc, rfl⟩ := rd_two w1
  obtain ⟨ta, tc, rfl⟩ := rd_two w2
  obtain ⟨oa, oc, rfl⟩ := rd_two w3
  obtain ⟨xa, xt, xq, rfl, hx⟩ := rd_lt3 w4
  by_cases f1 : oa = fa
  · by_cases f2 : oc = fc
    · exact keeps_A a0 c0 l fa fc ta tc oa oc xa xt xq a5 w hx hs hd (Lib.hid f1) (Lib.hid f2)
    · by_cases t1 : oa = ta
      · by_cases t2 : oc = tc
        · exact keeps_B2 a0 c0 l fa fc ta tc oa oc xa xt xq a5 w hx hs hd (Lib.hid f1) (Lib.hid f2) (Lib.hid t1) (Lib.hid t2)
        · exact keeps_C22 a0 c0 l fa fc ta tc oa oc xa xt xq a5 w hx hs hd (Lib.hid f1) (Lib.hid f2) (Lib.hid t1) (Lib.hid t2)
      · exact keeps_C21 a0 c0 l fa fc ta tc oa oc xa xt xq a5 w hx hs hd (Lib.hid f1) (Lib.hid f2) (Lib.hid t1)
  · by_cases t1 : oa = ta
    · by_cases t2 : oc = tc
      · exact keeps_B1 a0 c0 l fa fc ta tc oa oc xa xt xq a5 w hx hs hd (Lib.hid f1) (Lib.hid t1) (Lib.hid t2)
      · exact keeps_C12 a0 c0 l fa fc ta tc oa oc xa xt xq a5 w hx hs hd (Lib.hid f1) (Lib.hid t1) (Lib.hid t2)
    · exact keeps_C11 a0 c0 l fa fc ta tc oa oc xa xt xq a5 w hx hs hd (Lib.hid f1) (Lib.hid t1)
end Go.Proofs.Ytldnponbkhgijaa
end
