/-
  Layer 6, eighth part: DriveNobody, DriveFuses (laid by gen_drive8.py).
-/
import Derived.Test.YtbjfdphhopembaaDrive7
namespace Go.Proofs.Ytbjfdphhopembaa
open Go.ChangeShapes Go.WideShapes Go.ChangeAt Go.RowKit
set_option linter.unusedVariables false
set_option linter.unusedSimpArgs false

set_option maxHeartbeats 4000000 in
set_option maxRecDepth 100000 in
theorem walk_DriveNobody (a0 : Int) (a1 : Int) (w : World) (w0 : (Lit.int .i64 a0).wf = true) (w1 : (Lit.int .i64 a1).wf = true) :
    Calls Try.prog 5 #[.int .i64 a0, .int .i64 a1] w fun e w' => e = .returned (.bool true) ∧ Below w.heap.size w w' := by
  clear w0 w1
  have HLV := Lib.hid (fun V => lives6_any V)
  go_enter Try.func5, Try.ntmps5
  go_wp2_with fail
  go_loopw [5] (fun i wr => ∃ k : Nat, k ≤ 2 ∧ i = .int .i64 k ∧ Below w.heap.size w wr) (fun i _ => 2 - (intOf i).toNat)
  case atStart => exact ⟨0, by omega, rfl, Below.refl _ _⟩
  case round =>
    obtain ⟨k, hk, rfl, hB⟩ := hrel
    rcases (by omega : k = 0 ∨ k = 1 ∨ k = 2) with rfl | rfl | rfl
    · have HN0 := Lib.hid (fun V => (Or.inl rfl : Nob V none))
      go_wp2_with fail
      have hB0 := hB
      refine (nread_any none a0 _ (Or.inl rfl)).mono ?_
      rintro e x1 ⟨rfl, hb⟩
      have hB00 := since_step hB0 hb
      clear hb
      go_wp2_with fail
      refine (was6_any _).mono ?_
      rintro e x2 ⟨⟨m, rfl, ownm⟩, hb⟩
      have hB001 := since_step hB00 hb
      clear hb
      go_wp2_with fail
      refine (nwrite_any none a0 (some ⟨x2.heap.size, 0, none⟩) 1 1 _ (Or.inl rfl)).mono ?_
      rintro e x3 ⟨rfl, hb⟩
      have hB0012 := since_step (since_alloc hB001 (.cells #[.slice (some ⟨m, 0, none⟩) 96 96] 34)) hb
      clear hb
      go_wp2_with fail
      refine (nfuse_any none a1 none 0 0 _ (Or.inl rfl)).mono ?_
      rintro e x4 ⟨rfl, hb⟩
      have hB00123 := since_step hB0012 hb
      clear hb
      go_wp2_with fail
      refine (nstart_any none _ (Or.inl rfl)).mono ?_
      rintro e x5 ⟨rfl, hb⟩
      have hB001234 := since_step hB00123 hb
      clear hb
      go_wp2_with fail
      refine (nlive_any none _ (Or.inl rfl)).mono ?_
      rintro e x6 ⟨rfl, hb⟩
      have hB0012345 := since_step hB001234 hb
      clear hb
      go_wp2_with fail
      refine (nsize_any none _ (Or.inl rfl)).mono ?_
      rintro e x7 ⟨rfl, hb⟩
      have hB00123456 := since_step hB0012345 hb
      clear hb
      go_wp2_with fail
      refine (nwrites_any none _ (Or.inl rfl)).mono ?_
      rintro e x8 ⟨rfl, hb⟩
      have hB001234567 := since_step hB00123456 hb
      clear hb
      go_wp2_with fail
      go_roundw
      case rel => exact ⟨1, by omega, by go_num, hB001234567⟩
      case measure => simp [intOf]
    · have hN0 : Nob (wr.alloc (.cells #[.bool false, .bool false, .int .i64 0, .slice none 0 0, .slice none 0 0, .int .i64 0] 45)) (some ⟨wr.heap.size, 0, none⟩) := .inr ⟨_, rfl, by rw [heap_alloc_new]⟩
      have hB0 := hB.alloc hB.size (.cells #[.bool false, .bool false, .int .i64 0, .slice none 0 0, .slice none 0 0, .int .i64 0] 45)
      have HN := Lib.hid hN0
      clear hN0
      go_wp2_with fail
      generalize wr.alloc (.cells #[.bool false, .bool false, .int .i64 0, .slice none 0 0, .slice none 0 0, .int .i64 0] 45) = v0 at *
      generalize wr.heap.size = b at *
      refine (nread_any (some ⟨b, 0, none⟩) a0 _ HN.out).mono ?_
      rintro e x1 ⟨rfl, hb⟩
      have hB00 := since_step hB0 hb
      have HN := Lib.hid (HN.out.below hb)
      clear hb
      go_wp2_with fail
      refine (was6_any _).mono ?_
      rintro e x2 ⟨⟨m, rfl, ownm⟩, hb⟩
      have hB001 := since_step hB00 hb
      have HN := Lib.hid (HN.out.below hb)
      clear hb
      have HNA := Lib.hid (HN.out.below ((Below.refl _ x2).alloc (Nat.le_refl _) (.cells #[.slice (some ⟨m, 0, none⟩) 96 96] 34)))
      go_wp2_with fail
      refine (nwrite_any (some ⟨b, 0, none⟩) a0 (some ⟨x2.heap.size, 0, none⟩) 1 1 _ HNA.out).mono ?_
      rintro e x3 ⟨rfl, hb⟩
      have hB0012 := since_step (since_alloc hB001 (.cells #[.slice (some ⟨m, 0, none⟩) 96 96] 34)) hb
      have HN := Lib.hid (HNA.out.below hb)
      clear hb
      go_wp2_with fail
      refine (nfuse_any (some ⟨b, 0, none⟩) a1 none 0 0 _ HN.out).mono ?_
      rintro e x4 ⟨rfl, hb⟩
      have hB00123 := since_step hB0012 hb
      have HN := Lib.hid (HN.out.below hb)
      clear hb
      go_wp2_with fail
      refine (nstart_any (some ⟨b, 0, none⟩) _ HN.out).mono ?_
      rintro e x5 ⟨rfl, hb⟩
      have hB001234 := since_step hB00123 hb
      have HN := Lib.hid (HN.out.below hb)
      clear hb
      go_wp2_with fail
      refine (nlive_any (some ⟨b, 0, none⟩) _ HN.out).mono ?_
      rintro e x6 ⟨rfl, hb⟩
      have hB0012345 := since_step hB001234 hb
      have HN := Lib.hid (HN.out.below hb)
      clear hb
      go_wp2_with fail
      refine (nsize_any (some ⟨b, 0, none⟩) _ HN.out).mono ?_
      rintro e x7 ⟨rfl, hb⟩
      have hB00123456 := since_step hB0012345 hb
      have HN := Lib.hid (HN.out.below hb)
      clear hb
      go_wp2_with fail
      refine (nwrites_any (some ⟨b, 0, none⟩) _ HN.out).mono ?_
      rintro e x8 ⟨rfl, hb⟩
      have hB001234567 := since_step hB00123456 hb
      have HN := Lib.hid (HN.out.below hb)
      clear hb
      go_wp2_with fail
      go_roundw
      case rel => exact ⟨2, by omega, by go_num, hB001234567⟩
      case measure => simp [intOf]
    · go_wp2_with fail
      refine (HLV.out _).mono ?_
      rintro e w2 ⟨rfl, hb⟩
      have hB2 := since_step hB hb
      go_wp2_with fail
      go_ret
      exact ⟨rfl, hB2⟩

theorem clampI_nat (a : Int) (hi : Nat) : ∃ n : Nat, clampI a 0 hi = (n : Int) ∧ n ≤ hi := by
  unfold clampI
  by_cases h1 : a < 0
  · rw [if_pos h1]; exact ⟨0, rfl, Nat.zero_le _⟩
  · rw [if_neg h1]
    by_cases h2 : (hi : Int) < a
    · rw [if_pos h2]; exact ⟨hi, rfl, Nat.le_refl _⟩
    · rw [if_neg h2]; exact ⟨a.toNat, by omega, by omega⟩
def oneS : List Nat := 1 :: List.replicate 95 0
def markS (k : Nat) : List (List Nat) := List.replicate k oneS ++ List.replicate (30 - k) (List.replicate 96 0)
theorem markS_len {k : Nat} (h : k ≤ 30) : (markS k).length = 30 := by simp [markS]; omega
theorem markS_set {k : Nat} (h : k < 30) : (markS k).set k oneS = markS (k + 1) := by
  unfold markS
  rw [List.set_append_right _ _ (by simp), List.length_replicate, Nat.sub_self, show 30 - k = (30 - (k + 1)) + 1 by omega, List.replicate_succ, List.set_cons_zero, List.replicate_succ' (n := k), List.append_assoc]
  rfl
theorem markS_at {k i : Nat} (hk : k ≤ 30) (h : i < (markS k).length) : ∃ (z : Nat) (r : List Nat), (markS k)[i] = z :: r ∧ (z = if i < k then 1 else 0) := by
  have h0 := h
  rw [markS_len hk] at h0
  by_cases hi : i < k
  · refine ⟨1, List.replicate 95 0, ?_, by rw [if_pos hi]⟩
    simp only [markS]
    rw [List.getElem_append_left (by simpa using hi), List.getElem_replicate]; rfl
  · refine ⟨0, List.replicate 95 0, ?_, by rw [if_neg hi]⟩
    simp only [markS]
    rw [List.getElem_append_right (by simpa using hi), List.getElem_replicate]; rfl
def stF (n i : Nat) (z : Int) : Dv := if i ≤ n then ⟨true, true, (n : Int) - (i : Int), [], markS i, z⟩ else ⟨false, false, 0, [], markS n, z⟩
theorem fits1 {i : Nat} (h : i < 30) : fitsF 30 i [oneS] = true := by
  have h2 : (i : Int) ≤ 29 := by omega
  simp [fitsF, oneS, h2]
theorem stF_go {n i : Nat} (hn : n ≤ 25) (hi : i < n) (z : Int) : (stF n i z).write i [oneS] = (stF n (i + 1) (wrap64 (z + 1)), 0) := by
  have h1 : i ≤ n := by omega
  have h2 : i + 1 ≤ n := by omega
  have hs : (0 : Int) < (n : Int) - (i : Int) := by omega
  unfold stF Dv.write
  rw [if_pos h1, if_pos h2]
  simp only [markS_len (show i ≤ 30 by omega), fits1 (show i < 30 by omega), if_true]
  simp only [Dv.burnt, Dv.torn, if_pos hs, if_true, List.length_cons, List.length_nil, putK, Int.toNat_natCast]
  have hd : decide ((n : Int) - (i : Int) ≤ 0) = false := decide_eq_false (by omega)
  simp [hd, markS_set (show i < 30 by omega)]
  omega
theorem stF_off {n : Nat} (hn : n ≤ 25) (z : Int) : (stF n n z).write n [oneS] = (stF n (n + 1) (wrap64 (z + 1)), 9) := by
  unfold stF Dv.write
  rw [if_pos (Nat.le_refl n), if_neg (show ¬ n + 1 ≤ n by omega)]
  simp only [markS_len (show n ≤ 30 by omega), fits1 (show n < 30 by omega), if_true]
  simp [Dv.burnt, Dv.torn, putK, inL]
theorem stF_dead {n i : Nat} (h : n < i) (z : Int) : (stF n i z).write i [oneS] = (stF n (i + 1) z, 9) := by
  unfold stF Dv.write
  rw [if_neg (show ¬ i ≤ n by omega), if_neg (show ¬ i + 1 ≤ n by omega)]
  simp
theorem stF_start (n : Nat) : ((Dv.new 30).fuse (n : Int) []).1 = stF n 0 0 ∧ ((Dv.new 30).fuse (n : Int) []).2 = 0 := by
  unfold Dv.fuse stF
  have h : (0 : Int) ≤ (n : Int) := by omega
  simp [Dv.new, h, markS]
/-- one write of the row: whether it was done -/
theorem stF_step {n i : Nat} (hn : n ≤ 25) (z : Int) : ∃ (z' : Int) (r : Int), (stF n i z).write i [oneS] = (stF n (i + 1) z', r) ∧ (i < n → r = 0) ∧ (¬ i < n → r = 9) := by
  rcases Nat.lt_trichotomy i n with h | h | h
  · exact ⟨_, _, stF_go hn h z, fun _ => rfl, fun h2 => absurd h h2⟩
  · subst h; exact ⟨_, _, stF_off hn z, fun h2 => absurd h2 (by omega), fun _ => rfl⟩
  · exact ⟨_, _, stF_dead h z, fun h2 => absurd h2 (by omega), fun _ => rfl⟩
theorem stF_on (n m : Nat) (z : Int) : (stF n m z).on = decide (m ≤ n) := by
  unfold stF
  by_cases h : m ≤ n
  · rw [if_pos h, decide_eq_true h]
  · rw [if_neg h, decide_eq_false h]
theorem stF_S (n m : Nat) (z : Int) : (stF n m z).S = markS (min m n) := by
  unfold stF
  by_cases h : m ≤ n
  · rw [if_pos h, Nat.min_eq_left h]
  · rw [if_neg h, Nat.min_eq_right (by omega)]
theorem one_set {w : World} {W m : Nat} (h : w.ownsRow W 5 1 (.slice (some ⟨m, 0, none⟩) 96 96) 96 (by8 (List.replicate 96 0))) : (w.setCell ⟨m, 0, none⟩ (.int .u8 1)).ownsRow W 5 1 (.slice (some ⟨m, 0, none⟩) 96 96) 96 (by8 oneS) := by
  have h1 := own_set1 h (k := 0) (by rw [by8_length]; simp) (.int .u8 1)
  exact h1


set_option maxHeartbeats 4000000 in
set_option maxRecDepth 100000 in
theorem fusesL (a0 a1 : Int) (n m : Nat) (w : World) (hn : clampI a0 0 25 = (n : Int)) (hm : clampI a1 0 25 = (m : Int)) (hn25 : n ≤ 25) (hm25 : m ≤ 25) (hmn : m < n) :
    Calls Try.prog 4 #[.int .i64 a0, .int .i64 a1] w fun e w' => e = .returned (.bool true) ∧ Below w.heap.size w w' := by
  have HLV := Lib.hid (fun V => lives6_any V)
  have HI0 := Lib.hid (fun V => in_any a0 0 25 V)
  have HI1 := Lib.hid (fun V => in_any a1 0 25 V)
  rw [hn] at HI0
  rw [hm] at HI1
  clear hn hm
  have HN := Lib.hid (dnew_any 30 w (by decide) (by decide))
  have HST := Lib.hid (fun i z => stF_step (n := n) (i := i) hn25 z)
  have hS0 := stF_start n
  have HS0 := Lib.hid hS0
  have HON := Lib.hid (stF_on n m)
  have HSS := Lib.hid (stF_S n m)
  have HMN : Hid (min m n = m) := Lib.hid (Nat.min_eq_left (by omega))
  have hmn1 : (m : Int) < (n : Int) := by omega
  clear hS0
  have HW25 := Lib.hid (show m ≤ 25 by omega)
  go_enter Try.func4, Try.ntmps4
  go_wp2_with fail
  refine HN.out.mono ?_
  rintro e w1 ⟨b, g, rfl, ⟨K, kc, hd1⟩, hb1⟩
  have HD1 := Lib.hid hd1
  have HB1 := Lib.hid hb1
  clear hd1 hb1 HN
  go_wp2_with fail
  refine (HI0.out _).mono ?_
  rintro e w2 ⟨rfl, rfl⟩
  go_wp2_with fail
  refine (HI1.out _).mono ?_
  rintro e w3 ⟨rfl, rfl⟩
  have hF := dfuse_any (n : Int) none 0 [] w1 HD1.out HB1.out.size (by simp) (by omega) ⟨Sl.nil, fun h => absurd rfl h⟩
  rw [HS0.out.1, HS0.out.2] at hF
  have HF := Lib.hid hF
  clear hF HI0 HI1
  go_wp2_with fail
  refine HF.out.mono ?_
  rintro e w4 ⟨rfl, hc4, hd4⟩
  have hB4 := HB1.out.trans (hc4.below HB1.out.size HD1.out.ge.1 HD1.out.ge.2)
  have HGE := Lib.hid HD1.out.ge
  have HD4 := Lib.hid hd4
  clear hc4 hd4 HF HD1 HB1 HS0
  go_wp2_with fail
  go_loopw [7, 8] (fun dv iv wr => ∃ (i : Nat) (z : Int), i ≤ m ∧ dv = .int .i64 ((min i n : Nat) : Int) ∧ iv = .int .i64 i ∧ Hid (DrW w.heap.size wr b g (stF n i z)) ∧ Below w.heap.size w wr) (fun _ iv _ => m - (intOf iv).toNat)
  case atStart => exact ⟨0, 0, Nat.zero_le _, by rw [Nat.zero_min]; rfl, rfl, HD4, hB4⟩
  case round =>
    obtain ⟨i, z, hi, rfl, rfl, HD, hB⟩ := hrel
    have hBW := hB.size
    clear hB4
    by_cases hlt : i < m
    · have hlk : (i : Int) < (m : Int) := by omega
      go_wp2_with (first
        | (at_make; refine wpList_z8 rfl (.const (.int .i64 96)) (.const (.int .i64 96)) rfl 96 rfl rfl rfl rfl (by omega) (Nat.le_refl _) ?_; intro w5 own5 hb5; obtain ⟨_, hm5, hfz5, hc5⟩ := own_slice_g own5; have hc50 := hc5 0 (.int .u8 0) rfl; have hfz50 := hfz5 0; clear hc5 hfz5)
        | fail)
      have hb6 := hb5.setCell (p := ⟨wr.heap.size, 0, none⟩) (Nat.le_refl _) (.int .u8 1)
      have own6 := one_set own5
      have hdr6 : DrW w.heap.size (w5.setCell ⟨wr.heap.size, 0, none⟩ (.int .u8 1)) b g (stF n i z) := HD.out.below hb6
      clear own5 hb5 hc50 hfz50
      generalize hV : w5.setCell ⟨wr.heap.size, 0, none⟩ (.int .u8 1) = v6 at *
      have hsz6 : w5.heap.size = v6.heap.size := by rw [← hV]; simp
      clear hV
      rw [hsz6] at hm5 ⊢
      clear hsz6
      obtain ⟨K6, kc6, hd6⟩ := hdr6.below ((Below.refl _ v6).alloc (Nat.le_refl _) (.cells #[.slice (some ⟨wr.heap.size, 0, none⟩) 96 96] 34))
      have own7 := own6.alloc (.cells #[.slice (some ⟨wr.heap.size, 0, none⟩) 96 96] 34)
      obtain ⟨x1, x2⟩ := hd6.off own7 (by decide) (by decide)
      obtain ⟨z', r, hst, hr1, hr2⟩ := HST.out i z
      have hW := dwrite_ok (i : Int) (some ⟨v6.heap.size, 0, none⟩) 1 [⟨some ⟨wr.heap.size, 0, none⟩, 96, oneS⟩] (v6.alloc (.cells #[.slice (some ⟨wr.heap.size, 0, none⟩) 96 96] 34)) hd6 (show 1 ≤ 1000000 by decide)
        ⟨Sl.new_ v6 [.slice (some ⟨wr.heap.size, 0, none⟩) 96 96] 34, fun _ p hp => by
          injection hp with hp
          subst hp
          obtain ⟨K9, kc9, hd9⟩ := hdr6
          have := hd9.lt
          exact ⟨by show v6.heap.size ≠ b; omega, by show v6.heap.size ≠ g; omega⟩⟩
        (fun r hr => by
          rw [List.mem_singleton] at hr
          subst hr
          exact ⟨SlF.of_own own7 x1 x2, fun x hx => by
            simp only [oneS, List.mem_cons, List.mem_replicate] at hx
            omega⟩)
      rw [show ([⟨some ⟨wr.heap.size, 0, none⟩, 96, oneS⟩] : List (RowS Nat)).map RowS.l = [oneS] from rfl, hst] at hW
      have HW := Lib.hid hW
      have HRR := Lib.hid hr1
      have HRN := Lib.hid hr2
      have hB6 := (since_step hB hb6).alloc (Nat.le_trans hBW hb6.size) (.cells #[.slice (some ⟨wr.heap.size, 0, none⟩) 96 96] 34)
      clear hW hst hr1 hr2 own6 own7 x1 x2 hd6 hdr6 hb6
      have hW2 : Calls Try.prog 12 #[.pointer (some ⟨b, 0, none⟩), .int .i64 i, .slice (some ⟨v6.heap.size, 0, none⟩) 1 1] (v6.alloc (.cells #[.slice (some ⟨wr.heap.size, 0, none⟩) 96 96] 34)) fun e w' => e = .returned (.int .i64 r) ∧ Chg2 b g (v6.alloc (.cells #[.slice (some ⟨wr.heap.size, 0, none⟩) 96 96] 34)) w' ∧ DrA w.heap.size w' b g K6 kc6 (stF n (i + 1) z') := HW.out
      have HW2 := Lib.hid hW2
      clear hW2 HW
      by_cases hin : i < n
      · obtain rfl := HRR.out hin
        have hm1 : min i n = i := by omega
        have hm2 : Hid (min (i + 1) n = i + 1) := Lib.hid (by omega)
        rw [hm1]
        clear hm1
        go_wp2_with fail
        refine HW2.out.mono ?_
        rintro e w7 ⟨rfl, hc7, hd7⟩
        have hB7 := hB6.trans (hc7.below hB6.size HGE.out.1 HGE.out.2)
        have HD7 : Hid (DrW w.heap.size w7 b g (stF n (i + 1) z')) := Lib.hid ⟨_, _, hd7⟩
        clear hc7 hd7
        go_wp2_with fail
        go_roundw
        case rel => exact ⟨i + 1, z', by omega, by rw [hm2.out]; go_num, by go_num, HD7, hB7⟩
        case measure => simp [intOf]; omega
      · obtain rfl := HRN.out hin
        have hm1 : min i n = n := by omega
        have hm2 : Hid (min (i + 1) n = n) := Lib.hid (by omega)
        rw [hm1]
        clear hm1
        go_wp2_with fail
        refine HW2.out.mono ?_
        rintro e w7 ⟨rfl, hc7, hd7⟩
        have hB7 := hB6.trans (hc7.below hB6.size HGE.out.1 HGE.out.2)
        have HD7 : Hid (DrW w.heap.size w7 b g (stF n (i + 1) z')) := Lib.hid ⟨_, _, hd7⟩
        clear hc7 hd7
        go_wp2_with fail
        go_roundw
        case rel => exact ⟨i + 1, z', by omega, by rw [hm2.out], by go_num, HD7, hB7⟩
        case measure => simp [intOf]; omega
    · obtain rfl : i = m := by omega
      have hlk : ¬ (i : Int) < (i : Int) := by omega
      rw [HMN.out]
      clear HD4
      go_wp2_with fail
      have HDD := Lib.hid HD.out
      have HSS2 := Lib.hid ((HSS.out z).trans (by rw [HMN.out]))
      have HON2 := Lib.hid (HON.out z)
      clear HD hBW
      generalize wr = v0 at *
      go_loopw [11] (fun jv wr => ∃ j : Nat, j ≤ 30 ∧ jv = .int .i64 j ∧ Below v0.heap.size v0 wr) (fun jv _ => 30 - (intOf jv).toNat)
      case atStart => exact ⟨0, Nat.zero_le _, rfl, Below.refl _ _⟩
      case round =>
        obtain ⟨j, hj, rfl, hBz⟩ := hrel
        obtain ⟨Kz, kcz, hdz⟩ := HDD.out.below hBz
        by_cases hj30 : j < 30
        · have hlen : j < (stF n i z).S.length := by rw [HSS2.out, markS_len (Nat.le_trans HW25.out (by decide))]; exact hj30
          have hR := dread_ok j wr hdz hlen
          obtain ⟨zz, rr, hzz, hzv⟩ := markS_at (k := i) (i := j) (Nat.le_trans HW25.out (by decide)) (by rw [markS_len (Nat.le_trans HW25.out (by decide))]; exact hj30)
          have hSj : (stF n i z).S[j] = zz :: rr := by rw [← hzz]; congr 1
          rw [hSj] at hR
          have HR := Lib.hid hR
          have hj3 : (j : Int) < 30 := by omega
          clear hR hSj hzz hlen hdz
          go_wp2_with fail
          refine HR.out.mono ?_
          rintro e w8 ⟨⟨mm, rfl, own8⟩, hb8⟩
          have hB8 := since_step hBz hb8
          obtain ⟨_, hm8, _, hc8⟩ := own_slice_g own8
          have hc0 := hc8 0 (.int .u8 (zz : Int)) rfl
          clear hc8 own8 hb8 HR
          by_cases hjw : j < i
          · rw [if_pos hjw] at hzv
            subst hzv
            have hjw2 : (j : Int) < (i : Int) := by omega
            go_wp2_with fail
            go_roundw
            case rel => exact ⟨j + 1, by omega, by go_num, hB8⟩
            case measure => simp [intOf]; omega
          · rw [if_neg hjw] at hzv
            subst hzv
            have hjw2 : ¬ (j : Int) < (i : Int) := by omega
            go_wp2_with fail
            go_roundw
            case rel => exact ⟨j + 1, by omega, by go_num, hB8⟩
            case measure => simp [intOf]; omega
        · obtain rfl : j = 30 := by omega
          have hj3 : ¬ ((30 : Nat) : Int) < 30 := by omega
          have hj4 : ¬ (30 : Int) < 30 := by omega
          have HLi := Lib.hid (dlive_any wr hdz)
          rw [HON2.out] at HLi
          have hBw := hB.trans (hBz.mono hB.size)
          clear hdz
          have hin : i ≤ n := by omega
          rw [decide_eq_true hin] at HLi
          have hin2 : (i : Int) ≤ (n : Int) := by omega
          go_wp2_with fail
          refine HLi.out.mono ?_
          rintro e w9 ⟨rfl, hb9⟩
          have hB9 := since_step hBw hb9
          go_wp2_with fail
          refine (HLV.out _).mono ?_
          rintro e w10 ⟨rfl, hb10⟩
          have hB10 := since_step hB9 hb10
          go_wp2_with fail
          go_ret
          exact ⟨rfl, hB10⟩

set_option maxHeartbeats 4000000 in
set_option maxRecDepth 100000 in
theorem fusesG (a0 a1 : Int) (n m : Nat) (w : World) (hn : clampI a0 0 25 = (n : Int)) (hm : clampI a1 0 25 = (m : Int)) (hn25 : n ≤ 25) (hm25 : m ≤ 25) (hmn : n ≤ m) :
    Calls Try.prog 4 #[.int .i64 a0, .int .i64 a1] w fun e w' => e = .returned (.bool true) ∧ Below w.heap.size w w' := by
  have HLV := Lib.hid (fun V => lives6_any V)
  have HI0 := Lib.hid (fun V => in_any a0 0 25 V)
  have HI1 := Lib.hid (fun V => in_any a1 0 25 V)
  rw [hn] at HI0
  rw [hm] at HI1
  clear hn hm
  have HN := Lib.hid (dnew_any 30 w (by decide) (by decide))
  have HST := Lib.hid (fun i z => stF_step (n := n) (i := i) hn25 z)
  have hS0 := stF_start n
  have HS0 := Lib.hid hS0
  have HON := Lib.hid (stF_on n m)
  have HSS := Lib.hid (stF_S n m)
  have HMN : Hid (min m n = n) := Lib.hid (Nat.min_eq_right (by omega))
  have hmn1 : ¬ (m : Int) < (n : Int) := by omega
  clear hS0
  have HW25 := Lib.hid (show n ≤ 25 by omega)
  go_enter Try.func4, Try.ntmps4
  go_wp2_with fail
  refine HN.out.mono ?_
  rintro e w1 ⟨b, g, rfl, ⟨K, kc, hd1⟩, hb1⟩
  have HD1 := Lib.hid hd1
  have HB1 := Lib.hid hb1
  clear hd1 hb1 HN
  go_wp2_with fail
  refine (HI0.out _).mono ?_
  rintro e w2 ⟨rfl, rfl⟩
  go_wp2_with fail
  refine (HI1.out _).mono ?_
  rintro e w3 ⟨rfl, rfl⟩
  have hF := dfuse_any (n : Int) none 0 [] w1 HD1.out HB1.out.size (by simp) (by omega) ⟨Sl.nil, fun h => absurd rfl h⟩
  rw [HS0.out.1, HS0.out.2] at hF
  have HF := Lib.hid hF
  clear hF HI0 HI1
  go_wp2_with fail
  refine HF.out.mono ?_
  rintro e w4 ⟨rfl, hc4, hd4⟩
  have hB4 := HB1.out.trans (hc4.below HB1.out.size HD1.out.ge.1 HD1.out.ge.2)
  have HGE := Lib.hid HD1.out.ge
  have HD4 := Lib.hid hd4
  clear hc4 hd4 HF HD1 HB1 HS0
  go_wp2_with fail
  go_loopw [7, 8] (fun dv iv wr => ∃ (i : Nat) (z : Int), i ≤ m ∧ dv = .int .i64 ((min i n : Nat) : Int) ∧ iv = .int .i64 i ∧ Hid (DrW w.heap.size wr b g (stF n i z)) ∧ Below w.heap.size w wr) (fun _ iv _ => m - (intOf iv).toNat)
  case atStart => exact ⟨0, 0, Nat.zero_le _, by rw [Nat.zero_min]; rfl, rfl, HD4, hB4⟩
  case round =>
    obtain ⟨i, z, hi, rfl, rfl, HD, hB⟩ := hrel
    have hBW := hB.size
    clear hB4
    by_cases hlt : i < m
    · have hlk : (i : Int) < (m : Int) := by omega
      go_wp2_with (first
        | (at_make; refine wpList_z8 rfl (.const (.int .i64 96)) (.const (.int .i64 96)) rfl 96 rfl rfl rfl rfl (by omega) (Nat.le_refl _) ?_; intro w5 own5 hb5; obtain ⟨_, hm5, hfz5, hc5⟩ := own_slice_g own5; have hc50 := hc5 0 (.int .u8 0) rfl; have hfz50 := hfz5 0; clear hc5 hfz5)
        | fail)
      have hb6 := hb5.setCell (p := ⟨wr.heap.size, 0, none⟩) (Nat.le_refl _) (.int .u8 1)
      have own6 := one_set own5
      have hdr6 : DrW w.heap.size (w5.setCell ⟨wr.heap.size, 0, none⟩ (.int .u8 1)) b g (stF n i z) := HD.out.below hb6
      clear own5 hb5 hc50 hfz50
      generalize hV : w5.setCell ⟨wr.heap.size, 0, none⟩ (.int .u8 1) = v6 at *
      have hsz6 : w5.heap.size = v6.heap.size := by rw [← hV]; simp
      clear hV
      rw [hsz6] at hm5 ⊢
      clear hsz6
      obtain ⟨K6, kc6, hd6⟩ := hdr6.below ((Below.refl _ v6).alloc (Nat.le_refl _) (.cells #[.slice (some ⟨wr.heap.size, 0, none⟩) 96 96] 34))
      have own7 := own6.alloc (.cells #[.slice (some ⟨wr.heap.size, 0, none⟩) 96 96] 34)
      obtain ⟨x1, x2⟩ := hd6.off own7 (by decide) (by decide)
      obtain ⟨z', r, hst, hr1, hr2⟩ := HST.out i z
      have hW := dwrite_ok (i : Int) (some ⟨v6.heap.size, 0, none⟩) 1 [⟨some ⟨wr.heap.size, 0, none⟩, 96, oneS⟩] (v6.alloc (.cells #[.slice (some ⟨wr.heap.size, 0, none⟩) 96 96] 34)) hd6 (show 1 ≤ 1000000 by decide)
        ⟨Sl.new_ v6 [.slice (some ⟨wr.heap.size, 0, none⟩) 96 96] 34, fun _ p hp => by
          injection hp with hp
          subst hp
          obtain ⟨K9, kc9, hd9⟩ := hdr6
          have := hd9.lt
          exact ⟨by show v6.heap.size ≠ b; omega, by show v6.heap.size ≠ g; omega⟩⟩
        (fun r hr => by
          rw [List.mem_singleton] at hr
          subst hr
          exact ⟨SlF.of_own own7 x1 x2, fun x hx => by
            simp only [oneS, List.mem_cons, List.mem_replicate] at hx
            omega⟩)
      rw [show ([⟨some ⟨wr.heap.size, 0, none⟩, 96, oneS⟩] : List (RowS Nat)).map RowS.l = [oneS] from rfl, hst] at hW
      have HW := Lib.hid hW
      have HRR := Lib.hid hr1
      have HRN := Lib.hid hr2
      have hB6 := (since_step hB hb6).alloc (Nat.le_trans hBW hb6.size) (.cells #[.slice (some ⟨wr.heap.size, 0, none⟩) 96 96] 34)
      clear hW hst hr1 hr2 own6 own7 x1 x2 hd6 hdr6 hb6
      have hW2 : Calls Try.prog 12 #[.pointer (some ⟨b, 0, none⟩), .int .i64 i, .slice (some ⟨v6.heap.size, 0, none⟩) 1 1] (v6.alloc (.cells #[.slice (some ⟨wr.heap.size, 0, none⟩) 96 96] 34)) fun e w' => e = .returned (.int .i64 r) ∧ Chg2 b g (v6.alloc (.cells #[.slice (some ⟨wr.heap.size, 0, none⟩) 96 96] 34)) w' ∧ DrA w.heap.size w' b g K6 kc6 (stF n (i + 1) z') := HW.out
      have HW2 := Lib.hid hW2
      clear hW2 HW
      by_cases hin : i < n
      · obtain rfl := HRR.out hin
        have hm1 : min i n = i := by omega
        have hm2 : Hid (min (i + 1) n = i + 1) := Lib.hid (by omega)
        rw [hm1]
        clear hm1
        go_wp2_with fail
        refine HW2.out.mono ?_
        rintro e w7 ⟨rfl, hc7, hd7⟩
        have hB7 := hB6.trans (hc7.below hB6.size HGE.out.1 HGE.out.2)
        have HD7 : Hid (DrW w.heap.size w7 b g (stF n (i + 1) z')) := Lib.hid ⟨_, _, hd7⟩
        clear hc7 hd7
        go_wp2_with fail
        go_roundw
        case rel => exact ⟨i + 1, z', by omega, by rw [hm2.out]; go_num, by go_num, HD7, hB7⟩
        case measure => simp [intOf]; omega
      · obtain rfl := HRN.out hin
        have hm1 : min i n = n := by omega
        have hm2 : Hid (min (i + 1) n = n) := Lib.hid (by omega)
        rw [hm1]
        clear hm1
        go_wp2_with fail
        refine HW2.out.mono ?_
        rintro e w7 ⟨rfl, hc7, hd7⟩
        have hB7 := hB6.trans (hc7.below hB6.size HGE.out.1 HGE.out.2)
        have HD7 : Hid (DrW w.heap.size w7 b g (stF n (i + 1) z')) := Lib.hid ⟨_, _, hd7⟩
        clear hc7 hd7
        go_wp2_with fail
        go_roundw
        case rel => exact ⟨i + 1, z', by omega, by rw [hm2.out], by go_num, HD7, hB7⟩
        case measure => simp [intOf]; omega
    · obtain rfl : i = m := by omega
      have hlk : ¬ (i : Int) < (i : Int) := by omega
      rw [HMN.out]
      clear HD4
      go_wp2_with fail
      have HDD := Lib.hid HD.out
      have HSS2 := Lib.hid ((HSS.out z).trans (by rw [HMN.out]))
      have HON2 := Lib.hid (HON.out z)
      clear HD hBW
      generalize wr = v0 at *
      go_loopw [11] (fun jv wr => ∃ j : Nat, j ≤ 30 ∧ jv = .int .i64 j ∧ Below v0.heap.size v0 wr) (fun jv _ => 30 - (intOf jv).toNat)
      case atStart => exact ⟨0, Nat.zero_le _, rfl, Below.refl _ _⟩
      case round =>
        obtain ⟨j, hj, rfl, hBz⟩ := hrel
        obtain ⟨Kz, kcz, hdz⟩ := HDD.out.below hBz
        by_cases hj30 : j < 30
        · have hlen : j < (stF n i z).S.length := by rw [HSS2.out, markS_len (Nat.le_trans HW25.out (by decide))]; exact hj30
          have hR := dread_ok j wr hdz hlen
          obtain ⟨zz, rr, hzz, hzv⟩ := markS_at (k := n) (i := j) (Nat.le_trans HW25.out (by decide)) (by rw [markS_len (Nat.le_trans HW25.out (by decide))]; exact hj30)
          have hSj : (stF n i z).S[j] = zz :: rr := by rw [← hzz]; congr 1
          rw [hSj] at hR
          have HR := Lib.hid hR
          have hj3 : (j : Int) < 30 := by omega
          clear hR hSj hzz hlen hdz
          go_wp2_with fail
          refine HR.out.mono ?_
          rintro e w8 ⟨⟨mm, rfl, own8⟩, hb8⟩
          have hB8 := since_step hBz hb8
          obtain ⟨_, hm8, _, hc8⟩ := own_slice_g own8
          have hc0 := hc8 0 (.int .u8 (zz : Int)) rfl
          clear hc8 own8 hb8 HR
          by_cases hjw : j < n
          · rw [if_pos hjw] at hzv
            subst hzv
            have hjw2 : (j : Int) < (n : Int) := by omega
            go_wp2_with fail
            go_roundw
            case rel => exact ⟨j + 1, by omega, by go_num, hB8⟩
            case measure => simp [intOf]; omega
          · rw [if_neg hjw] at hzv
            subst hzv
            have hjw2 : ¬ (j : Int) < (n : Int) := by omega
            go_wp2_with fail
            go_roundw
            case rel => exact ⟨j + 1, by omega, by go_num, hB8⟩
            case measure => simp [intOf]; omega
        · obtain rfl : j = 30 := by omega
          have hj3 : ¬ ((30 : Nat) : Int) < 30 := by omega
          have hj4 : ¬ (30 : Int) < 30 := by omega
          have HLi := Lib.hid (dlive_any wr hdz)
          rw [HON2.out] at HLi
          have hBw := hB.trans (hBz.mono hB.size)
          clear hdz
          have hin2 : decide ((i : Int) ≤ (n : Int)) = decide (i ≤ n) := by simp
          have HIN2 := Lib.hid hin2
          go_wp2_with fail
          refine HLi.out.mono ?_
          rintro e w9 ⟨rfl, hb9⟩
          have hB9 := since_step hBw hb9
          go_wp2_with fail
          refine (HLV.out _).mono ?_
          rintro e w10 ⟨rfl, hb10⟩
          have hB10 := since_step hB9 hb10
          go_wp2_with fail
          go_ret
          exact ⟨rfl, hB10⟩

theorem walk_DriveFuses (a0 : Int) (a1 : Int) (w : World) (w0 : (Lit.int .i64 a0).wf = true) (w1 : (Lit.int .i64 a1).wf = true) :
    Calls Try.prog 4 #[.int .i64 a0, .int .i64 a1] w fun e w' => e = .returned (.bool true) ∧ Below w.heap.size w w' := by
  obtain ⟨n, hn, hn25⟩ := clampI_nat a0 25
  obtain ⟨m, hm, hm25⟩ := clampI_nat a1 25
  by_cases h : m < n
  · exact fusesL a0 a1 n m w hn hm hn25 hm25 h
  · exact fusesG a0 a1 n m w hn hm hn25 hm25 (by omega)
end Go.Proofs.Ytbjfdphhopembaa
