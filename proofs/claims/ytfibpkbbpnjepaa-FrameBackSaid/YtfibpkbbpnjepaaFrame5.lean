/-
  Layer 7, fifth part: blank (laid by gen_frame5.py).
-/
import Derived.Test.YtfibpkbbpnjepaaFrame4
namespace Go.Proofs.Ytfibpkbbpnjepaa
open Go.ChangeShapes Go.WideShapes Go.ChangeAt Go.RowKit
set_option linter.unusedVariables false
set_option linter.unusedSimpArgs false

def blankF (l : List Nat) : Bool := l.all (· == 0)
theorem blankF_true {l : List Nat} (h : ∀ j, (hj : j < l.length) → l[j] = 0) : blankF l = true := by
  unfold blankF
  rw [List.all_eq_true]
  intro x hx
  obtain ⟨j, hj, rfl⟩ := List.getElem_of_mem hx
  simpa using h j hj
theorem blankF_false {l : List Nat} {j : Nat} (hj : j < l.length) (h : l[j] ≠ 0) : blankF l = false := by
  unfold blankF
  rw [List.all_eq_false]
  exact ⟨l[j], List.getElem_mem hj, by simpa using h⟩

set_option maxHeartbeats 1000000 in
theorem nz7_any (z : Int) (w : World) : Calls Try.prog 35 #[.int .u8 z] w fun e w' => e = .returned (.bool (z != 0)) ∧ Below w.heap.size w w' := by
  go_enter Try.func35, Try.ntmps35
  go_wp2_with fail
  go_ret
  exact ⟨rfl, Below.refl _ _⟩
set_option maxHeartbeats 1000000 in
set_option maxRecDepth 100000 in
theorem index7_any (A : Option Addr) (cap : Nat) (l : List Nat) (w : World) (hl : l.length ≤ 1000000) (hs : Sl w A (by8 l)) :
    Calls Try.prog 37 #[.slice A l.length cap, .func (.func 35) #[] #[]] w fun e w' => ∃ z : Int, e = .returned (.int .i64 z) ∧ (blankF l = true → z = -1) ∧ (blankF l = false → 0 ≤ z) ∧ Below w.heap.size w w' := by
  have HA := Lib.hid (fun V => fun z => nz7_any z V)
  go_enter Try.func37, Try.ntmps37
  go_wp2
  go_loopw [8] (fun i wr => ∃ k : Nat, k ≤ l.length ∧ i = .int .i64 k ∧ (∀ j, (hj : j < l.length) → j < k → l[j] = 0) ∧ Below w.heap.size w wr) (fun i _ => l.length - (intOf i).toNat)
  case atStart => exact ⟨0, by omega, rfl, fun j hj h => absurd h (by omega), Below.refl _ _⟩
  case round =>
    obtain ⟨k, hk, rfl, hno, hB⟩ := hrel
    by_cases hlt2 : k < l.length
    · obtain ⟨b, o, rfl, hg⟩ := (hs.below hB).byte hlt2
      have hlk : (k : Int) < (l.length : Int) := by omega
      have hgk : (0 : Int) ≤ (k : Int) := by omega
      have HNO := Lib.hid hno
      obtain ⟨y, hy⟩ : ∃ y : Int, ((l[k] : Nat) : Int) = y := ⟨_, rfl⟩
      rw [hy] at hg
      have HY := Lib.hid hy
      clear hno hy
      by_cases hq : y = 0
      · have hq2 : (y != 0) = false := by simpa using hq
        have HQ := Lib.hid hq2
        have HQ0 := Lib.hid hq
        clear hq hq2
        go_wp2_with (first | (go_at_call 35; refine ((HA.out _ _)).mono ?_; rintro e w1 ⟨rfl, hb1⟩; have hB1 := since_step hB hb1; clear hb1; rw [HQ.out]))
        go_roundw
        case rel =>
          refine ⟨k + 1, by omega, by go_num, fun j hj hjk => ?_, hB1⟩
          rcases Nat.lt_or_ge j k with h | h
          · exact HNO.out j hj h
          · obtain rfl : j = k := by omega
            have := HY.out
            have := HQ0.out
            omega
        case measure => simp [intOf]; omega
      · have hq2 : (y != 0) = true := by simpa using hq
        have HQ := Lib.hid hq2
        have HQ0 := Lib.hid hq
        clear hq hq2
        go_wp2_with (first | (go_at_call 35; refine ((HA.out _ _)).mono ?_; rintro e w1 ⟨rfl, hb1⟩; have hB1 := since_step hB hb1; clear hb1; rw [HQ.out]))
        go_ret
        have hbf := blankF_false hlt2 (fun e => HQ0.out (by have := HY.out; omega))
        exact ⟨(k : Int), rfl, fun h => (by rw [hbf] at h; cases h), fun _ => hgk, hB1⟩
    · obtain rfl : k = l.length := by omega
      have hbf := blankF_true fun j hj => hno j hj hj
      have HBF := Lib.hid hbf
      clear hbf hno
      go_wp2_with fail
      go_ret
      exact ⟨-1, rfl, fun _ => rfl, fun h => (by rw [HBF.out] at h; cases h), hB⟩
set_option maxHeartbeats 1000000 in
set_option maxRecDepth 100000 in
theorem contains7_any (A : Option Addr) (cap : Nat) (l : List Nat) (w : World) (hl : l.length ≤ 1000000) (hs : Sl w A (by8 l)) :
    Calls Try.prog 34 #[.slice A l.length cap, .func (.func 35) #[] #[]] w fun e w' => e = .returned (.bool (!blankF l)) ∧ Below w.heap.size w w' := by
  have HX := Lib.hid (index7_any A cap l w hl hs)
  generalize l.length = n at *
  go_enter Try.func34, Try.ntmps34
  go_wp2_with fail
  refine HX.out.mono ?_
  rintro e w1 ⟨z, rfl, h1, h2, hb⟩
  cases hbf : blankF l with
  | true =>
    obtain rfl := h1 hbf
    go_wp2_with fail
    go_ret
    exact ⟨by rw [hbf]; rfl, hb⟩
  | false =>
    have h3 := h2 hbf
    go_wp2_with fail
    go_ret
    exact ⟨by rw [hbf]; rfl, hb⟩
set_option maxHeartbeats 1000000 in
set_option maxRecDepth 100000 in
theorem blank7_any (A : Option Addr) (cap : Nat) (l : List Nat) (w : World) (hl : l.length ≤ 1000000) (hs : Sl w A (by8 l)) :
    Calls Try.prog 26 #[.slice A l.length cap] w fun e w' => e = .returned (.bool (blankF l)) ∧ Below w.heap.size w w' := by
  have HX := Lib.hid (contains7_any A cap l w hl hs)
  generalize l.length = n at *
  generalize blankF l = b at *
  go_enter Try.func26, Try.ntmps26
  go_wp2_with fail
  refine HX.out.mono ?_
  rintro e w1 ⟨rfl, hb⟩
  cases b with
  | true =>
    go_wp2_with fail
    go_ret
    exact ⟨rfl, hb⟩
  | false =>
    go_wp2_with fail
    go_ret
    exact ⟨rfl, hb⟩
end Go.Proofs.Ytfibpkbbpnjepaa
