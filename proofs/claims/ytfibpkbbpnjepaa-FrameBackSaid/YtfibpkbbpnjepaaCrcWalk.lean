/-
  The walks of layer 5: Cut, More, the document's More, Of, Same.
-/
import Derived.Test.YtfibpkbbpnjepaaBase
import Derived.Test.YtfibpkbbpnjepaaCrcMath
namespace Go.Proofs.Ytfibpkbbpnjepaa
open Go.ChangeShapes Go.WideShapes Go.ChangeAt Go.RowKit
set_option linter.unusedVariables false

theorem cut_any (A : Option Addr) (n cap k : Nat) (w : World) (hn : n ≤ 9223372036854775807) (hk : k ≤ 9223372036854775807) (hcap : n ≤ cap) (hcap2 : cap ≤ 9223372036854775807) :
    Calls Try.prog 7 #[.slice A n cap, .int .i64 k] w fun e w' => e = .returned (.slice A (min n k) cap) ∧ w = w' := by
  by_cases h : k < n
  · have e : min n k = k := by omega
    rw [e]
    clear e
    go_enter Try.func7, Try.ntmps7
    go_wp2
    go_ret
    exact ⟨rfl, rfl⟩
  · have e : min n k = n := by omega
    rw [e]
    clear e
    go_enter Try.func7, Try.ntmps7
    go_wp2
    go_ret
    exact ⟨rfl, rfl⟩

theorem shl16 (x : Nat) (h : x < 256) : ((x : Int) % 4294967296 * 65536 % 4294967296) = ((x * 65536 : Nat) : Int) := by omega
theorem and24 (c : Nat) (h : c < 4294967296) : bits .and .u32 (c : Int) 16777215 = ((c % 16777216 : Nat) : Int) := by
  have := u32_and_nat c 16777215 h (by omega)
  have e : (c &&& 16777215) = c % 16777216 := Nat.and_two_pow_sub_one_eq_mod c 24
  rw [e] at this
  exact this

set_option maxHeartbeats 400000 in
theorem more_any (c : Nat) (A : Option Addr) (cap : Nat) (l : List Nat) (w : World) (hc : c < 4294967296) (hl : l.length ≤ maxLen) (hs : Sl w A (by8 l)) (ho : Oct l) :
    Calls Try.prog 36 #[.int .u32 c, .slice A l.length cap] w fun e w' => e = .returned (.int .u32 (CrcM.more (c % 16777216) l : Nat)) ∧ w = w' := by
  unfold maxLen at hl
  go_enter Try.func36, Try.ntmps36
  go_wp2
  go_loop [0, 11] (fun s i => ∃ k : Nat, k ≤ l.length ∧ i = .int .i64 k ∧ s = .int .u32 (CrcM.more (c % 16777216) (l.take k) : Nat)) (fun _ i => l.length - (intOf i).toNat)
  case atStart => exact ⟨0, Nat.zero_le _, rfl, intE (by rw [and24 c hc]; rfl)⟩
  case round =>
    obtain ⟨k, hk, rfl, rfl⟩ := hrel
    by_cases hlt : k < l.length
    · obtain ⟨b, o, rfl, hz⟩ := hs.byte hlt
      have hx := ho.at_ hlt
      have hm := CrcM.more_lt (c % 16777216) (l.take k) (by omega) (ho.take k)
      have hsn := CrcM.more_snoc (c % 16777216) (l.take k) l[k]
      rw [← take_snoc l k hlt] at hsn
      have HS := Lib.hid hsn
      clear hsn
      generalize CrcM.more (c % 16777216) (l.take k) = v at *
      generalize hxe : l[k] = x at *
      have HX := Lib.hid hxe
      clear hxe
      go_wp2
      go_loop [0, 20] (fun s i => ∃ j : Nat, j ≤ 8 ∧ i = .int .i64 j ∧ s = .int .u32 (CrcM.steps j (v ^^^ (x * 65536)) : Nat)) (fun _ i => 8 - (intOf i).toNat)
      case atStart => exact ⟨0, by omega, rfl, intE (u32_xor_nat v (x * 65536) (by omega) (by omega))⟩
      case round =>
        obtain ⟨j, hj, rfl, rfl⟩ := hrel
        by_cases hj8 : j < 8
        · have hst := CrcM.steps_lt j _ (CrcM.start_lt v x hm hx)
          have hsu : CrcM.steps (j + 1) (v ^^^ (x * 65536)) = CrcM.step (CrcM.steps j (v ^^^ (x * 65536))) := rfl
          have HU := Lib.hid hsu
          clear hsu
          generalize CrcM.steps j (v ^^^ (x * 65536)) = u at *
          by_cases hu : 16777215 < u * 2
          · go_wp2
            go_round
            case rel => exact ⟨j + 1, by omega, by go_num, intE (by rw [HU.out, CrcM.step, if_pos hu]; exact u32_xor_nat (u * 2) 25578747 (by omega) (by omega))⟩
            case measure => simp [intOf]; omega
          · go_wp2
            go_round
            case rel => exact ⟨j + 1, by omega, by go_num, intE (by rw [HU.out, CrcM.step, if_neg hu]; simp)⟩
            case measure => simp [intOf]; omega
        · obtain rfl : j = 8 := by omega
          go_wp2
          go_round
          case rel => exact ⟨k + 1, by omega, by go_num, intE (by rw [HS.out]; rfl)⟩
          case measure => simp [intOf]; omega
    · obtain rfl : k = l.length := by omega
      go_wp2
      go_ret
      refine ⟨?_, rfl⟩
      simp

set_option maxHeartbeats 400000 in
theorem refMore_any (c : Nat) (A : Option Addr) (cap : Nat) (l : List Nat) (w : World) (hc : c < 4294967296) (hl : l.length ≤ maxLen) (hs : Sl w A (by8 l)) (ho : Oct l) :
    Calls Try.prog 33 #[.int .u32 c, .slice A l.length cap] w fun e w' => e = .returned (.int .u32 (CrcM.more (c % 16777216) l : Nat)) ∧ w = w' := by
  unfold maxLen at hl
  go_enter Try.func33, Try.ntmps33
  go_wp2
  go_loop [0, 5] (fun s i => ∃ k : Nat, k ≤ l.length ∧ i = .int .i64 k ∧ s = .int .u32 (CrcM.more (c % 16777216) (l.take k) : Nat)) (fun _ i => l.length - (intOf i).toNat)
  case atStart => exact ⟨0, Nat.zero_le _, rfl, rfl⟩
  case round =>
    obtain ⟨k, hk, rfl, rfl⟩ := hrel
    by_cases hlt : k < l.length
    · obtain ⟨b, o, rfl, hz⟩ := hs.byte hlt
      have hx := ho.at_ hlt
      have hm := CrcM.more_lt (c % 16777216) (l.take k) (by omega) (ho.take k)
      have hsn := CrcM.more_snoc (c % 16777216) (l.take k) l[k]
      rw [← take_snoc l k hlt] at hsn
      have HS := Lib.hid hsn
      clear hsn
      generalize CrcM.more (c % 16777216) (l.take k) = v at *
      generalize hxe : l[k] = x at *
      have HX := Lib.hid hxe
      clear hxe
      go_wp2
      go_loop [0, 6] (fun s i => ∃ j : Nat, j ≤ 8 ∧ i = .int .i64 ((128 / 2 ^ j : Nat) : Int) ∧ s = .int .u32 (CrcM.rsteps j v x : Nat)) (fun _ i => (intOf i).toNat)
      case atStart => exact ⟨0, by omega, rfl, rfl⟩
      case round =>
        obtain ⟨j, hj, rfl, rfl⟩ := hrel
        by_cases hj8 : j < 8
        · have hst := CrcM.rsteps_lt j v x hm
          have hd : 1 ≤ 128 / 2 ^ j ∧ 128 / 2 ^ j ≤ 128 := by
            rcases (show j = 0 ∨ j = 1 ∨ j = 2 ∨ j = 3 ∨ j = 4 ∨ j = 5 ∨ j = 6 ∨ j = 7 from by omega) with rfl | rfl | rfl | rfl | rfl | rfl | rfl | rfl <;> decide
          have hdd : 128 / 2 ^ (j + 1) = 128 / 2 ^ j / 2 := by rw [Nat.pow_succ, Nat.div_div_eq_div_mul]
          have HD := Lib.hid hdd
          clear hdd
          have hsu : CrcM.rsteps (j + 1) v x = CrcM.rstep (CrcM.rsteps j v x) (decide ((CrcM.rsteps j v x) / 8388608 % 2 ≠ x / (128 / 2 ^ j) % 2)) := rfl
          have HU := Lib.hid hsu
          clear hsu
          generalize CrcM.rsteps j v x = u at *
          generalize 128 / 2 ^ j = d at *
          have hq : 0 ≤ (x : Int) / (d : Int) ∧ (x : Int) / (d : Int) ≤ 255 := by
            have : x / d ≤ x := Nat.div_le_self x d
            have e : (x : Int) / (d : Int) = ((x / d : Nat) : Int) := rfl
            rw [e]
            generalize x / d = q at *
            omega
          by_cases hb : u / 8388608 % 2 = x / d % 2
          · have hb' : ((u : Int) / 8388608 % 2 != (x : Int) / (d : Int) % 2) = false := by
              rw [bne_eq_false_iff_eq, show (x : Int) / (d : Int) = ((x / d : Nat) : Int) from rfl]; clear hq; generalize x / d = q at *; omega
            have HB := Lib.hid hb
            clear hb
            go_wp2
            go_round
            case rel => exact ⟨j + 1, by omega, intE (by rw [HD.out]; rfl), intE (by rw [HU.out, CrcM.rstep, HB.out]; simp)⟩
            case measure => simp only [intOf]; omega
          · have hb' : ((u : Int) / 8388608 % 2 != (x : Int) / (d : Int) % 2) = true := by
              rw [bne_iff_ne, show (x : Int) / (d : Int) = ((x / d : Nat) : Int) from rfl]; clear hq; generalize x / d = q at *; omega
            have HB := Lib.hid hb
            clear hb
            go_wp2
            go_round
            case rel => exact ⟨j + 1, by omega, intE (by rw [HD.out]; rfl), intE (by rw [HU.out, CrcM.rstep, decide_eq_true HB.out]; exact u32_xor_nat (u * 2 % 16777216) 8801531 (by omega) (by omega))⟩
            case measure => simp only [intOf]; omega
        · obtain rfl : j = 8 := by omega
          go_wp2
          go_round
          case rel => exact ⟨k + 1, by omega, by go_num, intE (by rw [HS.out, CrcM.byteC_eq v x hm hx])⟩
          case measure => simp [intOf]; omega
    · obtain rfl : k = l.length := by omega
      go_wp2
      go_ret
      refine ⟨?_, rfl⟩
      simp
end Go.Proofs.Ytfibpkbbpnjepaa
