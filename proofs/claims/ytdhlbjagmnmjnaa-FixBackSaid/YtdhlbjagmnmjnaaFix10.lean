/-
  The walks of layer 2, tenth part: FixBack.
-/
import Derived.Test.YtdhlbjagmnmjnaaFix9
import Derived.Test.YtdhlbjagmnmjnaaFix4
import Derived.Test.YtdhlbjagmnmjnaaFix7
namespace Go.Proofs.Ytdhlbjagmnmjnaa
open Go.ChangeShapes Go.WideShapes Go.ChangeAt Go.RowKit
set_option linter.unusedVariables false
set_option linter.unusedSimpArgs false

theorem sum_reverse (l : List Int) : l.reverse.sum = l.sum := by
  induction l with
  | nil => rfl
  | cons a l ih => rw [List.reverse_cons, List.sum_append, ih]; simp; omega

set_option maxRecDepth 100000 in
set_option maxHeartbeats 8000000 in
theorem walk_FixBack (a0 : Option Addr) (n0 c0 : Nat) (a1 : Int) (a2 : Int) (a3 : Int) (w : World) (w0 : Rd w (.sl (.int .i64)) [.slice a0 n0 c0]) (w1 : (Lit.int .i64 a1).wf = true) (w2 : (Lit.int .i64 a2).wf = true) (w3 : (Lit.int .i64 a3).wf = true) :
    Calls Try.prog 6 #[.slice a0 n0 c0, .int .i64 a1, .int .i64 a2, .int .i64 a3] w fun e w' => e = .returned (.bool true) ∧ Below w.heap.size w w' := by
  have ha : In64 a1 := bd_i64 w1
  have hn : In64 a2 := bd_i64 w2
  have hd : In64 a3 := bd_i64 w3
  obtain ⟨l0, rfl, hc0, hcm, hs0, hwf⟩ := rd_ints w0
  clear w0 w1 w2 w3
  have hsl : Sl w a0 (ints .i64 (l0.take 40)) := by rw [ints_take]; exact hs0.take 40
  have hll : (l0.take 40).length ≤ 40 := by simp; omega
  have hx : All64 (l0.take 40) := fun x h => bd_i64 (hwf x (List.mem_of_mem_take h))
  have hfew := few_any a0 c0 l0 w ⟨hc0, hcm⟩ hs0
  generalize l0.take 40 = l at *
  go_enter Try.func6, Try.ntmps6
  go_wp2_with fail
  refine hfew.mono ?_
  rintro e w1 ⟨rfl, hB1⟩
  have L1 := hsl.below hB1
  clear hfew hs0 hwf hc0 hsl
  go_wp2_with fail
  go_loopw [9, 10] (fun v i wr => ∃ (k m : Nat) (A9 : Option Addr) (c9 : Nat), m + k = l.length ∧ i = .int .i64 k ∧ v = .slice A9 m c9 ∧ wr.ownsRow w1.heap.size 2 1 (.slice A9 m c9) m (ints .i64 (l.drop k).reverse) ∧ Below w1.heap.size w1 wr) (fun _ i _ => (intOf i).toNat)
  case atStart => exact ⟨l.length, 0, none, 0, by omega, rfl, rfl, by simpa [ints] using own_nil w1.heap.size _ _, Below.refl _ _⟩
  case round =>
    obtain ⟨k, m, A9, c9, hmk, rfl, rfl, hown, hB⟩ := hrel
    by_cases hk : 0 < k
    · obtain ⟨j, hj⟩ : ∃ j, k = j + 1 := ⟨k - 1, by omega⟩
      have hlt : j < l.length := by omega
      obtain ⟨b, o, rfl, hz⟩ := (L1.below hB).int hlt
      have hbr := World.block_lt_of_cell? _ _ hz
      have f1 : IntKind.i64.wrap ((k : Int) - 1) = (j : Int) := by rw [IntKind.wrap_i64]; omega
      have f1' : wrap64 ((k : Int) - 1) = (j : Int) := by unfold wrap64; omega
      have hrev : (l.drop j).reverse = (l.drop k).reverse ++ [l[j]] := by rw [hj, List.drop_eq_getElem_cons hlt, List.reverse_cons]
      have HT := Lib.hid hrev
      have HJ := Lib.hid hj
      have d1 : decide (0 < (k : Int)) = true := decide_eq_true (by omega)
      have d1' : decide (0 < k) = true := decide_eq_true hk
      clear hrev hj
      generalize l[j] = x at *
      generalize (l.drop k).reverse = lk at *
      go_wp2_with (first
        | (at_builtin; refine wpList_app rfl (.tmp 26) (.tmp 32) rfl EL rfl rfl (hown.alloc _) (m := 1) (news := ints .i64 [x]) rfl (Sl.new_ _ _ _) (ints_one _ _) (by unfold maxLen; omega) (by omega) (by have := hB.size; simp; omega) ?_; intro A2 c2 w2 hown2 hg2 hb2)
        | fail)
      go_roundw
      case rel =>
        refine ⟨j, m + 1, A2, c2, by have := HJ.out; omega, rfl, rfl, ?_, (since_alloc hB _).trans hb2⟩
        rw [HT.out, ints_append]
        exact hown2
      case measure => have := HJ.out; simp [intOf]; omega
    · obtain rfl : k = 0 := by omega
      rw [List.drop_zero] at hown
      have R1 := Sl.of_own hown
      obtain ⟨l', hl'⟩ : ∃ l', l' = l.reverse := ⟨_, rfl⟩
      rw [← hl'] at R1
      obtain rfl : m = l'.length := by rw [hl', List.length_reverse]; omega
      have hx' : All64 l' := fun x h => hx x (by rw [hl'] at h; simpa using h)
      have hll' : l'.length ≤ 40 := by omega
      have HS := Lib.hid (show l'.sum = l.sum by rw [hl', sum_reverse])
      have L2 := L1.below hB
      have hB2 := hB1.trans (hB.mono hB1.size)
      clear hown hl' hmk hk hB hB1 L1
      go_wp2_with fail
      refine (fsum_any a0 c0 l _ (by omega) hx L2).mono ?_
      rintro e w3 ⟨rfl, hb3⟩
      have hB3 := since_step hB2 hb3
      have R3 := R1.below hb3
      have HF := Lib.hid (fsum_any A9 c9 l' w3 (by omega) hx' R3)
      rw [HS.out] at HF
      clear hb3 hB2 L2 R1 hx HS
      go_wp2_with fail
      refine HF.out.mono ?_
      rintro e w4 ⟨rfl, hb4⟩
      have hB4 := since_step hB3 hb4
      clear hb4 hB3 HF R3
      rcases (show a3 = 0 ∨ a3 < 0 ∨ 0 < a3 by omega) with h0 | h0 | h0
      · have HC := Lib.hid (fscale_zero a1 a2 ha hn)
        subst h0
        go_wp2_with fail
        refine (HC.out _).mono ?_
        rintro e w5 ⟨rfl, hb5⟩
        have hB5 := since_step hB4 hb5
        go_wp2_with fail
        refine (lives02_any _).mono ?_
        rintro e w9 ⟨rfl, hb9⟩
        have hB9 := since_step hB5 hb9
        go_wp2_with fail
        go_ret
        exact ⟨rfl, hB9⟩
      · have HC := Lib.hid (fscale_neg a1 a2 a3 ha hn h0)
        clear h0
        go_wp2_with fail
        refine (HC.out _).mono ?_
        rintro e w5 ⟨rfl, hb5⟩
        have hB5 := since_step hB4 hb5
        go_wp2_with fail
        refine (lives02_any _).mono ?_
        rintro e w9 ⟨rfl, hb9⟩
        have hB9 := since_step hB5 hb9
        go_wp2_with fail
        go_ret
        exact ⟨rfl, hB9⟩
      · obtain ⟨d, rfl⟩ := Int.eq_ofNat_of_zero_le (show 0 ≤ a3 by omega)
        have hd0 : 0 < d := by omega
        have hd1 : d < 9223372036854775808 := by unfold In64 at hd; omega
        have HC := Lib.hid (fscale_pos a1 a2 d ha hn hd0 hd1)
        have hr1 := Int.emod_nonneg (a1 * a2) (show (d : Int) ≠ 0 by omega)
        have hr2 := Int.emod_lt_of_pos (a1 * a2) (show (0 : Int) < (d : Int) by omega)
        have hqr := Int.mul_ediv_add_emod (a1 * a2) (d : Int)
        rw [Int.mul_comm] at hqr
        by_cases hin : In64 (a1 * a2 / (d : Int))
        · rw [show sV (a1 * a2) d = a1 * a2 / (d : Int) from if_pos hin, show sR (a1 * a2) d = a1 * a2 % (d : Int) from if_pos hin, show sE (a1 * a2) d = 0 from if_pos hin] at HC
          generalize a1 * a2 / (d : Int) = q at *
          generalize a1 * a2 % (d : Int) = r at *
          have hrin : In64 r := by unfold In64; omega
          have HZ := Lib.hid (show cmpZ (q * (d : Int) + r) (a1 * a2) = 0 by rw [hqr]; unfold cmpZ; simp)
          have k1 : decide (0 ≤ r) = true := decide_eq_true hr1
          have k2 : decide (r < (d : Int)) = true := decide_eq_true hr2
          clear h0 hqr
          go_wp2_with fail
          refine (HC.out _).mono ?_
          rintro e w5 ⟨rfl, hb5⟩
          have hB5 := since_step hB4 hb5
          clear hb5 HC
          go_wp2_with fail
          refine (bof_any q _ hin).mono ?_
          rintro e w6 ⟨⟨s6, A6, n6, c6, rfl, hf6, X6⟩, hb6⟩
          have hB6 := since_step hB5 hb6
          have n6l : n6 ≤ 64 := (X6.len (k := 64)).2 (by unfold In64 at hin; simp; omega)
          clear hb6 hf6
          go_wp2_with fail
          refine (bof_any (d : Int) _ hd).mono ?_
          rintro e w7 ⟨⟨s7, A7, n7, c7, rfl, hf7, X7⟩, hb7⟩
          have hB7 := since_step hB6 hb7
          have X6' := X6.below hb7
          have n7l : n7 ≤ 64 := (X7.len (k := 64)).2 (by unfold In64 at hd; simp; omega)
          clear hb7 hf7
          go_wp2_with fail
          refine (bmul_any q (d : Int) s6 s7 A6 A7 n6 c6 n7 c7 _ (by omega) (by omega) X6' X7).mono ?_
          rintro e w8 ⟨⟨s8, A8, n8, c8, rfl, hf8, X8⟩, hb8⟩
          have hB8 := since_step hB7 hb8
          have n8l := len_mul X6' X7 X8
          clear hb8 hf8 X6 X6' X7
          go_wp2_with fail
          refine (bof_any r _ hrin).mono ?_
          rintro e w9 ⟨⟨s9, A10, n9, c10, rfl, hf9, X9⟩, hb9⟩
          have hB9 := since_step hB8 hb9
          have X8' := X8.below hb9
          have n9l : n9 ≤ 64 := (X9.len (k := 64)).2 (by unfold In64 at hrin; simp; omega)
          clear hb9 hf9 X8
          go_wp2_with fail
          refine (badd' (by omega) (by omega) X8' X9).mono ?_
          rintro e w10 ⟨⟨s10, B10, n10, d10, rfl, hf10, X10⟩, hb10⟩
          have hB10 := since_step hB9 hb10
          have n10l := len_add X8' X9 X10
          clear hb10 hf10 X8' X9
          go_wp2_with fail
          refine (bof_any a1 _ ha).mono ?_
          rintro e w11 ⟨⟨s11, B11, n11, d11, rfl, hf11, X11⟩, hb11⟩
          have hB11 := since_step hB10 hb11
          have X10 := X10.below hb11
          have n11l : n11 ≤ 64 := (X11.len (k := 64)).2 (by unfold In64 at ha; simp; omega)
          clear hb11 hf11
          go_wp2_with fail
          refine (bof_any a2 _ hn).mono ?_
          rintro e w12 ⟨⟨s12, B12, n12, d12, rfl, hf12, X12⟩, hb12⟩
          have hB12 := since_step hB11 hb12
          have X10 := X10.below hb12
          have X11 := X11.below hb12
          have n12l : n12 ≤ 64 := (X12.len (k := 64)).2 (by unfold In64 at hn; simp; omega)
          clear hb12 hf12
          go_wp2_with fail
          refine (bmul_any a1 a2 s11 s12 B11 B12 n11 d11 n12 d12 _ (by omega) (by omega) X11 X12).mono ?_
          rintro e w13 ⟨⟨s13, B13, n13, d13, rfl, hf13, X13⟩, hb13⟩
          have hB13 := since_step hB12 hb13
          have X10 := X10.below hb13
          have n13l := len_mul X11 X12 X13
          clear hb13 hf13 X11 X12
          go_wp2_with fail
          refine (bcmp_any _ _ s10 s13 B10 B13 n10 d10 n13 d13 _ (by omega) (by omega) X10 X13).mono ?_
          rintro e w14 ⟨rfl, hb14⟩
          have hB5 := since_step hB13 hb14
          rw [HZ.out]
          clear hb14 X10 X13 HZ
          go_wp2_with fail
          refine (lives02_any _).mono ?_
          rintro e w9 ⟨rfl, hb9⟩
          have hB9 := since_step hB5 hb9
          go_wp2_with fail
          go_ret
          exact ⟨rfl, hB9⟩
        · rw [show sV (a1 * a2) d = 0 from if_neg hin, show sR (a1 * a2) d = 0 from if_neg hin, show sE (a1 * a2) d = 7 from if_neg hin] at HC
          clear hin hqr hr1 hr2 h0
          go_wp2_with fail
          refine (HC.out _).mono ?_
          rintro e w5 ⟨rfl, hb5⟩
          have hB5 := since_step hB4 hb5
          go_wp2_with fail
          refine (lives02_any _).mono ?_
          rintro e w9 ⟨rfl, hb9⟩
          have hB9 := since_step hB5 hb9
          go_wp2_with fail
          go_ret
          exact ⟨rfl, hB9⟩
end Go.Proofs.Ytdhlbjagmnmjnaa
