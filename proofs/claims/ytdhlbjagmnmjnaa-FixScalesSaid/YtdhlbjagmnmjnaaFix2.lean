/-
  The walks of layer 2, second part: Abs, Most, Least, Clip; the document's Most, Least; Is; few.
-/
import Derived.Test.YtdhlbjagmnmjnaaFix
import Derived.Test.YtdhlbjagmnmjnaaBig4
namespace Go.Proofs.Ytdhlbjagmnmjnaa
open Go.ChangeShapes Go.WideShapes Go.ChangeAt Go.RowKit
set_option linter.unusedVariables false
set_option linter.unusedSimpArgs false

def mxL (a : Int) (l : List Int) : Int := l.foldl (fun x y => if x < y then y else x) a
def mnL (a : Int) (l : List Int) : Int := l.foldl (fun x y => if y < x then y else x) a
theorem mxL_take (a : Int) (l : List Int) (k : Nat) (h : k < l.length) : mxL a (l.take (k + 1)) = if mxL a (l.take k) < l[k] then l[k] else mxL a (l.take k) := by
  unfold mxL; rw [take_snoc l k h, List.foldl_append]; rfl
theorem mnL_take (a : Int) (l : List Int) (k : Nat) (h : k < l.length) : mnL a (l.take (k + 1)) = if l[k] < mnL a (l.take k) then l[k] else mnL a (l.take k) := by
  unfold mnL; rw [take_snoc l k h, List.foldl_append]; rfl

set_option maxHeartbeats 1000000 in
theorem fmost_any (a : Int) (A : Option Addr) (cap : Nat) (l : List Int) (w : World) (hl : l.length ≤ 1000000) (hs : Sl w A (ints .i64 l)) :
    Calls Try.prog 25 #[.int .i64 a, .slice A l.length cap] w fun e w' => e = .returned (.int .i64 (mxL a l)) ∧ Below w.heap.size w w' := by
  go_enter Try.func25, Try.ntmps25
  go_wp2
  go_loopw [0, 9] (fun v i wr => ∃ k : Nat, k ≤ l.length ∧ i = .int .i64 k ∧ v = .int .i64 (mxL a (l.take k)) ∧ Below w.heap.size w wr) (fun _ i _ => l.length - (intOf i).toNat)
  case atStart => exact ⟨0, by omega, rfl, rfl, Below.refl _ _⟩
  case round =>
    obtain ⟨k, hk, rfl, rfl, hB⟩ := hrel
    by_cases hlt : k < l.length
    · obtain ⟨b, o, rfl, hz⟩ := (hs.below hB).int hlt
      have hbr := World.block_lt_of_cell? _ _ hz
      have HT := Lib.hid (mxL_take a l k hlt)
      generalize mxL a (l.take k) = y at *
      generalize l[k] = x at *
      by_cases h : y < x
      · go_wp2
        go_roundw
        case rel => exact ⟨k + 1, by omega, by go_num, (by rw [HT.out, if_pos h] <;> first | rfl | (refine congrArg _ ?_; omega)), hB⟩
        case measure => simp [intOf]; omega
      · go_wp2
        go_roundw
        case rel => exact ⟨k + 1, by omega, by go_num, (by rw [HT.out, if_neg h] <;> first | rfl | (refine congrArg _ ?_; omega)), hB⟩
        case measure => simp [intOf]; omega
    · obtain rfl : k = l.length := by omega
      rw [List.take_length]
      go_wp2
      go_ret
      exact ⟨rfl, hB⟩
set_option maxHeartbeats 1000000 in
theorem fleast_any (a : Int) (A : Option Addr) (cap : Nat) (l : List Int) (w : World) (hl : l.length ≤ 1000000) (hs : Sl w A (ints .i64 l)) :
    Calls Try.prog 27 #[.int .i64 a, .slice A l.length cap] w fun e w' => e = .returned (.int .i64 (mnL a l)) ∧ Below w.heap.size w w' := by
  go_enter Try.func27, Try.ntmps27
  go_wp2
  go_loopw [0, 9] (fun v i wr => ∃ k : Nat, k ≤ l.length ∧ i = .int .i64 k ∧ v = .int .i64 (mnL a (l.take k)) ∧ Below w.heap.size w wr) (fun _ i _ => l.length - (intOf i).toNat)
  case atStart => exact ⟨0, by omega, rfl, rfl, Below.refl _ _⟩
  case round =>
    obtain ⟨k, hk, rfl, rfl, hB⟩ := hrel
    by_cases hlt : k < l.length
    · obtain ⟨b, o, rfl, hz⟩ := (hs.below hB).int hlt
      have hbr := World.block_lt_of_cell? _ _ hz
      have HT := Lib.hid (mnL_take a l k hlt)
      generalize mnL a (l.take k) = y at *
      generalize l[k] = x at *
      by_cases h : x < y
      · go_wp2
        go_roundw
        case rel => exact ⟨k + 1, by omega, by go_num, (by rw [HT.out, if_pos h] <;> first | rfl | (refine congrArg _ ?_; omega)), hB⟩
        case measure => simp [intOf]; omega
      · go_wp2
        go_roundw
        case rel => exact ⟨k + 1, by omega, by go_num, (by rw [HT.out, if_neg h] <;> first | rfl | (refine congrArg _ ?_; omega)), hB⟩
        case measure => simp [intOf]; omega
    · obtain rfl : k = l.length := by omega
      rw [List.take_length]
      go_wp2
      go_ret
      exact ⟨rfl, hB⟩

set_option maxHeartbeats 1000000 in
theorem rmost_any (a : Int) (A : Option Addr) (cap : Nat) (l : List Int) (w : World) (hl : l.length ≤ 1000000) (hs : Sl w A (ints .i64 (a :: l))) :
    Calls Try.prog 26 #[.slice A (l.length + 1) cap] w fun e w' => e = .returned (.int .i64 (mxL a l)) ∧ Below w.heap.size w w' := by
  obtain ⟨b0, o0, rfl, hz0⟩ := hs.int (j := 0) (by simp)
  have hb0 := World.block_lt_of_cell? _ _ hz0
  simp only [List.getElem_cons_zero, Nat.add_zero] at hz0
  go_enter Try.func26, Try.ntmps26
  go_wp2
  go_loopw [3, 4] (fun v i wr => ∃ k : Nat, k ≤ l.length + 1 ∧ i = .int .i64 k ∧ v = .int .i64 (mxL a (l.take (k - 1))) ∧ Below w.heap.size w wr) (fun _ i _ => l.length + 1 - (intOf i).toNat)
  case atStart => exact ⟨0, by omega, rfl, rfl, Below.refl _ _⟩
  case round =>
    obtain ⟨k, hk, rfl, rfl, hB⟩ := hrel
    by_cases hlt : k < l.length + 1
    · obtain ⟨b, o, he, hz⟩ := (hs.below hB).int (j := k) (by simpa using hlt)
      injection he with he
      injection he with e1 e2
      subst e1; subst e2
      have hbr := World.block_lt_of_cell? _ _ hz
      rcases Nat.eq_zero_or_pos k with h0 | hpos
      · subst h0
        simp only [List.getElem_cons_zero, Nat.add_zero] at hz
        have hn : ¬ (a < a) := by omega
        have e0 : mxL a (l.take (0 - 1)) = a := by simp [mxL]
        rw [e0]
        go_wp2
        go_roundw
        case rel => exact ⟨1, by omega, by first | rfl | go_num, by simp [mxL], hB⟩
        case measure => simp [intOf] <;> omega
      · obtain ⟨m, rfl⟩ : ∃ m, k = m + 1 := ⟨k - 1, by omega⟩
        have hm : m < l.length := by omega
        simp only [List.getElem_cons_succ] at hz
        have HT := Lib.hid (mxL_take a l m hm)
        simp only [Nat.add_sub_cancel]
        generalize mxL a (l.take m) = y at *
        generalize l[m] = x at *
        by_cases h : y < x
        · go_wp2
          go_roundw
          case rel => exact ⟨m + 2, by omega, by first | rfl | go_num, by rw [show m + 2 - 1 = m + 1 from rfl, HT.out, if_pos h], hB⟩
          case measure => simp [intOf] <;> omega
        · go_wp2
          go_roundw
          case rel => exact ⟨m + 2, by omega, by first | rfl | go_num, by rw [show m + 2 - 1 = m + 1 from rfl, HT.out, if_neg h], hB⟩
          case measure => simp [intOf] <;> omega
    · obtain rfl : k = l.length + 1 := by omega
      rw [show l.length + 1 - 1 = l.length from rfl, List.take_length]
      go_wp2
      go_ret
      exact ⟨rfl, hB⟩

set_option maxHeartbeats 1000000 in
theorem rleast_any (a : Int) (A : Option Addr) (cap : Nat) (l : List Int) (w : World) (hl : l.length ≤ 1000000) (hs : Sl w A (ints .i64 (a :: l))) :
    Calls Try.prog 28 #[.slice A (l.length + 1) cap] w fun e w' => e = .returned (.int .i64 (mnL a l)) ∧ Below w.heap.size w w' := by
  obtain ⟨b0, o0, rfl, hz0⟩ := hs.int (j := 0) (by simp)
  have hb0 := World.block_lt_of_cell? _ _ hz0
  simp only [List.getElem_cons_zero, Nat.add_zero] at hz0
  go_enter Try.func28, Try.ntmps28
  go_wp2
  go_loopw [3, 4] (fun v i wr => ∃ k : Nat, k ≤ l.length + 1 ∧ i = .int .i64 k ∧ v = .int .i64 (mnL a (l.take (k - 1))) ∧ Below w.heap.size w wr) (fun _ i _ => l.length + 1 - (intOf i).toNat)
  case atStart => exact ⟨0, by omega, rfl, rfl, Below.refl _ _⟩
  case round =>
    obtain ⟨k, hk, rfl, rfl, hB⟩ := hrel
    by_cases hlt : k < l.length + 1
    · obtain ⟨b, o, he, hz⟩ := (hs.below hB).int (j := k) (by simpa using hlt)
      injection he with he
      injection he with e1 e2
      subst e1; subst e2
      have hbr := World.block_lt_of_cell? _ _ hz
      rcases Nat.eq_zero_or_pos k with h0 | hpos
      · subst h0
        simp only [List.getElem_cons_zero, Nat.add_zero] at hz
        have hn : ¬ (a < a) := by omega
        have e0 : mnL a (l.take (0 - 1)) = a := by simp [mnL]
        rw [e0]
        go_wp2
        go_roundw
        case rel => exact ⟨1, by omega, by first | rfl | go_num, by simp [mnL], hB⟩
        case measure => simp [intOf] <;> omega
      · obtain ⟨m, rfl⟩ : ∃ m, k = m + 1 := ⟨k - 1, by omega⟩
        have hm : m < l.length := by omega
        simp only [List.getElem_cons_succ] at hz
        have HT := Lib.hid (mnL_take a l m hm)
        simp only [Nat.add_sub_cancel]
        generalize mnL a (l.take m) = y at *
        generalize l[m] = x at *
        by_cases h : x < y
        · go_wp2
          go_roundw
          case rel => exact ⟨m + 2, by omega, by first | rfl | go_num, by rw [show m + 2 - 1 = m + 1 from rfl, HT.out, if_pos h], hB⟩
          case measure => simp [intOf] <;> omega
        · go_wp2
          go_roundw
          case rel => exact ⟨m + 2, by omega, by first | rfl | go_num, by rw [show m + 2 - 1 = m + 1 from rfl, HT.out, if_neg h], hB⟩
          case measure => simp [intOf] <;> omega
    · obtain rfl : k = l.length + 1 := by omega
      rw [show l.length + 1 - 1 = l.length from rfl, List.take_length]
      go_wp2
      go_ret
      exact ⟨rfl, hB⟩

/-- the next one between two -/
def clipI (a lo hi : Int) : Int := mxL lo [mnL a [hi]]
set_option maxHeartbeats 1000000 in
theorem fclip_any (a lo hi : Int) (w : World) :
    Calls Try.prog 24 #[.int .i64 a, .int .i64 lo, .int .i64 hi] w fun e w' => e = .returned (.int .i64 (clipI a lo hi)) ∧ Below w.heap.size w w' := by
  go_enter Try.func24, Try.ntmps24
  go_wp2_with fail
  refine (fleast_any a (some ⟨w.heap.size, 0, none⟩) 1 [hi] _ (by simp) (Sl.new_ _ _ _)).mono ?_
  rintro e w1 ⟨rfl, hb1⟩
  have hB1 := since_step (since_alloc (Below.refl _ _) _) hb1
  clear hb1
  go_wp2_with fail
  refine (fmost_any lo (some ⟨w1.heap.size, 0, none⟩) 1 [mnL a [hi]] _ (by simp) (Sl.new_ _ _ _)).mono ?_
  rintro e w2 ⟨rfl, hb2⟩
  have hB2 := since_step (since_alloc hB1 _) hb2
  clear hb2
  go_wp2_with fail
  go_ret
  exact ⟨rfl, hB2⟩
set_option maxHeartbeats 1000000 in
theorem fabs_any (a : Int) (ha : In64 a) (w : World) :
    Calls Try.prog 23 #[.int .i64 a] w fun e w' => e = .returned (.tuple #[.int .i64 (fV a.natAbs), .int .i64 (fE a.natAbs)]) ∧ Below w.heap.size w w' := by
  by_cases h : a < 0
  · have HN := Lib.hid (show 0 - a = (a.natAbs : Int) by omega)
    go_enter Try.func23, Try.ntmps23
    go_wp2_with fail
    refine (fsub_any 0 a (by decide) ha _).mono ?_
    rintro e w1 ⟨rfl, hb1⟩
    rw [HN.out]
    go_wp2_with fail
    go_ret2
    exact ⟨rfl, hb1⟩
  · have HN := Lib.hid (show (a.natAbs : Int) = a by omega)
    have HV := Lib.hid (show fV a = a from if_pos ha)
    have HE := Lib.hid (show fE a = 0 from if_pos ha)
    go_enter Try.func23, Try.ntmps23
    go_wp2_with fail
    go_ret2
    exact ⟨by rw [HN.out, HV.out, HE.out]; rfl, Below.refl _ _⟩
theorem few_any (A : Option Addr) (cap : Nat) (l : List Int) (w : World) (hc : l.length ≤ cap ∧ cap ≤ maxLen) (hs : Sl w A (ints .i64 l)) :
    Calls Try.prog 7 #[.slice A l.length cap] w fun e w' => e = .returned (.slice A (l.take 40).length cap) ∧ Below w.heap.size w w' := by
  by_cases h : 40 < l.length
  · have hl : (l.take 40).length = 40 := by simp; omega
    rw [hl]
    have h40 : 40 ≤ cap := by omega
    cases A with
    | none => obtain ⟨b, o, e, _⟩ := hs.int (j := 0) (by omega); cases e
    | some ad =>
      go_enter Try.func7, Try.ntmps7
      go_wp2
      go_ret
      exact ⟨rfl, Below.refl _ _⟩
  · have hl : (l.take 40).length = l.length := by simp; omega
    rw [hl]
    go_enter Try.func7, Try.ntmps7
    go_wp2
    go_ret
    exact ⟨rfl, Below.refl _ _⟩

theorem in64_iff (z : Int) : inN z 63 ↔ In64 z := by rw [inN_63]; exact Iff.rfl
theorem fV_in (z : Int) : In64 (fV z) := by unfold fV; split <;> first | assumption | decide

set_option maxRecDepth 100000 in
set_option maxHeartbeats 4000000 in
theorem is_any (z : Int) (s : Bool) (A : Option Addr) (n c : Nat) (w : World) (la : n ≤ 100000) (hx : BigAt w s A n c z) :
    Calls Try.prog 14 #[.int .i64 (fV z), .int .i64 (fE z), .agg #[.bool s, .slice A n c]] w fun e w' => e = .returned (.bool true) ∧ Below w.heap.size w w' := by
  have P0 := BB.new w s A n c 30
  have hB0 : Below w.heap.size w (w.alloc (.cells #[.bool s, .slice A n c] 30)) := since_alloc (Below.refl _ w) _
  have X0 := hx.below hB0
  clear hx
  by_cases h : In64 z
  · have HF := Lib.hid (show decide (inN z 63) = true from decide_eq_true ((in64_iff z).2 h))
    rw [show fV z = z from if_pos h, show fE z = 0 from if_pos h]
    go_enter Try.func14, Try.ntmps14
    go_wp2_with fail
    refine (bfits_any z s A n c _ la X0).mono ?_
    rintro e w1 ⟨rfl, hb1⟩
    rw [HF.out]
    have X1 := X0.below hb1
    have P1 := P0.below hb1
    have hB1 := since_step hB0 hb1
    clear hb1 P0 X0
    go_upto_region 3 with fail
    have sO : ∀ W, Below w1.heap.size w1 W → (Below w1.heap.size w1 W ∧ W.cell? ⟨w.heap.size, 0, none⟩ = some (.bool s) ∧ W.cell? ⟨w.heap.size, 1, none⟩ = some (.slice A n c)) := fun W h => ⟨h, (P1.below h).2.1, (P1.below h).2.2.1⟩
    have SO := Lib.hid sO
    have XO := Lib.hid (fun W (h : Below w1.heap.size w1 W) => X1.below h)
    have HC := Lib.hid (show cmpZ z z = 0 from by unfold cmpZ; simp)
    clear sO P1 X1
    go_region_held3 (fun W => Below w1.heap.size w1 W ∧ W.cell? ⟨w.heap.size, 0, none⟩ = some (.bool s) ∧ W.cell? ⟨w.heap.size, 1, none⟩ = some (.slice A n c))
      (first | exact SO.out _ (by assumption) | exact SO.out _ (Below.refl _ _).drew | assumption)
      (first
        | (go_at_call 13; go_split_ands; refine (bof_any z _ h).mono ?_; rintro e w2 ⟨⟨s2, A2, n2, c2, rfl, hfr, hbig⟩, hb2⟩; have hbW2 := since_step (by assumption) hb2; have hn2 : n2 ≤ 64 := (hbig.len (k := 64)).2 (by unfold In64 at h; simp; omega))
        | (go_at_call 12; go_split_ands; refine (bcmp_any z z s2 s A2 A n2 c2 n c _ (by omega) la hbig (XO.out _ (by assumption))).mono ?_; rintro e w3 ⟨rfl, hb3⟩; have hbW3 := since_step (by assumption) hb3; rw [HC.out]))
    go_wp2
    go_ret
    go_split_ands
    exact ⟨rfl, since_step hB1 (by assumption)⟩
  · have HF := Lib.hid (show decide (inN z 63) = false from decide_eq_false fun g => h ((in64_iff z).1 g))
    rw [show fV z = 0 from if_neg h, show fE z = 7 from if_neg h]
    go_enter Try.func14, Try.ntmps14
    go_wp2_with fail
    refine (bfits_any z s A n c _ la X0).mono ?_
    rintro e w1 ⟨rfl, hb1⟩
    rw [HF.out]
    have hB1 := since_step hB0 hb1
    go_wp2
    go_ret
    exact ⟨rfl, hB1⟩
end Go.Proofs.Ytdhlbjagmnmjnaa
