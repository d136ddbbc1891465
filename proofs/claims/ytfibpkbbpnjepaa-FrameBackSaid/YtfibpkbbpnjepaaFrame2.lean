/-
  Layer 7, second part: put, number; get, value (laid by gen_frame2.py).
-/
import Derived.Test.YtfibpkbbpnjepaaFrame
namespace Go.Proofs.Ytfibpkbbpnjepaa
open Go.ChangeShapes Go.WideShapes Go.ChangeAt Go.RowKit
set_option linter.unusedVariables false
set_option linter.unusedSimpArgs false

theorem bign_take {s n j : Nat} (h : j < s) : (bign s n).take (j + 1) = (bign s n).take j ++ [n / 256 ^ (s - 1 - j) % 256] := by
  rw [List.take_succ_eq_append_getElem (by rw [bign_len]; exact h), bign_at]

set_option maxHeartbeats 4000000 in
set_option maxRecDepth 100000 in
theorem put7_any (W : Nat) (A : Option Addr) (c : Nat) (xs : List Nat) (n s : Nat) (w : World) (hs : s ≤ 8) (hn : n < 9223372036854775808) (hxl : xs.length ≤ 1000000) (hW : W ≤ w.heap.size) (hown : w.ownsRow W 5 1 (.slice A xs.length c) xs.length (by8 xs)) :
    Calls Try.prog 21 #[.slice A xs.length c, .int .i64 n, .int .i64 s] w fun e w' => ∃ A' c', e = .returned (.slice A' (xs ++ bign s n).length c') ∧ w'.ownsRow W 5 1 (.slice A' (xs ++ bign s n).length c') (xs ++ bign s n).length (by8 (xs ++ bign s n)) ∧ Below W w w' := by
  have HB := Lib.hid (fun j (h : j < s) => bign_take (n := n) h)
  have HL := Lib.hid (bign_len s n)
  obtain ⟨Y, hY⟩ : ∃ Y, bign s n = Y := ⟨_, rfl⟩
  rw [hY] at HB HL ⊢
  clear hY
  go_enter Try.func21, Try.ntmps21
  go_wp2_with fail
  go_loopw [0, 7] (fun bv iv wr => ∃ (j : Nat) (A2 : Option Addr) (c2 : Nat), j ≤ s ∧ bv = .slice A2 (xs ++ Y.take j).length c2 ∧ iv = .int .i64 ((s : Int) - 1 - j) ∧ wr.ownsRow W 5 1 (.slice A2 (xs ++ Y.take j).length c2) (xs ++ Y.take j).length (by8 (xs ++ Y.take j)) ∧ Below W w wr ∧ W ≤ wr.heap.size) (fun _ iv _ => (intOf iv + 1).toNat)
  case atStart => exact ⟨0, A, c, by omega, by simp, by simp, by simpa using hown, Below.refl _ _, hW⟩
  case round =>
    obtain ⟨j, A2, c2, hj, rfl, rfl, own2, hB, hWs⟩ := hrel
    clear hown
    by_cases hlt : j < s
    · have hT := HB.out j hlt
      obtain ⟨z, hz⟩ : ∃ z : Int, (s : Int) - 1 - j = z := ⟨_, rfl⟩
      rw [hz]
      have hz0 : 0 ≤ z := by omega
      have hz7 : z ≤ 7 := by omega
      obtain ⟨m, hm⟩ : ∃ m : Int, (n : Int) = m := ⟨_, rfl⟩
      rw [hm]
      have hm0 : 0 ≤ m := by omega
      have HZ := Lib.hid hz
      have HM := Lib.hid hm
      clear hz hm
      have HV : Hid (m / 2 ^ (8 * z).toNat % 256 = ((n / 256 ^ (s - 1 - j) % 256 : Nat) : Int)) := Lib.hid (by
        have e1 : (8 * z).toNat = 8 * (s - 1 - j) := by have := HZ.out; omega
        have e2 : (2 : Int) ^ (8 * (s - 1 - j)) = ((256 ^ (s - 1 - j) : Nat) : Int) := by
          rw [Int.pow_mul]; push_cast; rfl
        rw [e1, e2, ← HM.out]
        push_cast
        rfl)
      have HT := Lib.hid hT
      have hpl : (xs ++ Y.take j).length ≤ 1000010 := by rw [List.length_append, List.length_take]; omega
      obtain ⟨P, hP⟩ : ∃ P, xs ++ Y.take j = P := ⟨_, rfl⟩
      have HP : Hid (xs ++ Y.take (j + 1) = P ++ [n / 256 ^ (s - 1 - j) % 256]) := Lib.hid (by rw [HT.out, ← hP, List.append_assoc])
      rw [hP] at own2 hpl ⊢
      clear hP hT HT
      have hzi : z - 1 = (s : Int) - 1 - ((j + 1 : Nat) : Int) := by have := HZ.out; omega
      have HZI := Lib.hid hzi
      clear hzi
      go_wp2_with (first
        | (at_builtin; refine wpList_app2 rfl (.tmp 14) (.tmp 20) rfl EF8 rfl rfl (own2.alloc _) (m := 1) (news := [.int .u8 (m / 2 ^ (8 * z).toNat % 256)]) rfl (by decide) (Sl.new_ _ _ _) (fun u hu => by simp only [List.mem_cons, List.not_mem_nil, or_false] at hu; subst hu; rfl) (by unfold maxLen; omega) (by omega) (by simp only [World.size_alloc]; omega) ?_; intro A3 c3 w3 own3 hg3 hv3 hb3)
        | fail)
      rw [HV.out] at own3
      have hB3 := (hB.trans (((Below.refl _ wr).alloc (Nat.le_refl _) _).mono hWs)).trans hb3
      have hW3 : W ≤ w3.heap.size := by have := hb3.size; rw [World.size_alloc] at this; omega
      go_roundw
      case rel => exact ⟨j + 1, A3, c3, by omega, by rw [HP.out]; simp, by rw [← HZI.out], by rw [HP.out]; simpa [by8] using own3, hB3, hW3⟩
      case measure => simp [intOf]; omega
    · obtain rfl : j = s := by omega
      have e1 : Y.take j = Y := by rw [← HL.out, List.take_length]
      rw [e1] at own2 ⊢
      obtain ⟨z, hz⟩ : ∃ z : Int, (j : Int) - 1 - j = z := ⟨_, rfl⟩
      rw [hz]
      have hz0 : ¬ (0 : Int) ≤ z := by omega
      clear hz
      go_wp2_with fail
      go_ret
      exact ⟨A2, c2, by simp only [List.length_append]; rfl, by simpa only [List.length_append] using own2, hB⟩

set_option maxRecDepth 100000 in
theorem i64_or_byte {z y : Int} (h0 : 0 ≤ z) (h1 : z < 16777216) (h2 : 0 ≤ y) (h3 : y < 256) : bits BinOp.or IntKind.i64 (z * 256) y = 256 * z + y := by
  obtain ⟨Z, rfl⟩ := Int.eq_ofNat_of_zero_le h0
  obtain ⟨Q, rfl⟩ := Int.eq_ofNat_of_zero_le h2
  have e : ((Z : Int) * 256) = ((Z * 256 : Nat) : Int) := by push_cast; rfl
  rw [e]
  show IntKind.i64.wrap ((BitVec.ofInt 64 ((Z * 256 : Nat) : Int) ||| BitVec.ofInt 64 (Q : Int)).toNat : Int) = _
  rw [BitVec.toNat_or, ofInt_u64 (Z * 256) (by omega), ofInt_u64 Q (by omega), nat_join 8 (Z * 256) Q (by omega) (by omega)]
  rw [IntWalk.i64_in _ (by omega)]
  push_cast
  omega

set_option maxHeartbeats 4000000 in
set_option maxRecDepth 100000 in
theorem get7_any (A : Option Addr) (cap : Nat) (l : List Nat) (w : World) (hl : l.length ≤ 4) (ho : Oct l) (hs : Sl w A (by8 l)) :
    Calls Try.prog 27 #[.slice A l.length cap] w fun e w' => e = .returned (.int .i64 (bnum l : Nat)) ∧ w = w' := by
  go_enter Try.func27, Try.ntmps27
  go_wp2_with fail
  go_loop [3, 8] (fun zv iv => ∃ (k : Nat) (z : Int), k ≤ l.length ∧ zv = .int .i64 z ∧ iv = .int .i64 k ∧ z = (bnum (l.take k) : Nat)) (fun _ iv => l.length - (intOf iv).toNat)
  case atStart => exact ⟨0, 0, by omega, rfl, rfl, rfl⟩
  case round =>
    obtain ⟨k, z, hk, rfl, rfl, hz⟩ := hrel
    by_cases hlt : k < l.length
    · have hlk : (k : Int) < (l.length : Int) := by omega
      have hgk : (0 : Int) ≤ (k : Int) := by omega
      obtain ⟨b, o, rfl, hc⟩ := hs.byte hlt
      have hx := ho.at_ hlt
      have hn : bnum (l.take (k + 1)) = 256 * bnum (l.take k) + l[k] := by rw [List.take_succ_eq_append_getElem hlt, bnum_snoc]
      have hb := bnum_lt (ho.take k)
      have hp : 256 ^ (l.take k).length ≤ 16777216 := by
        have : (256 : Nat) ^ (l.take k).length ≤ 256 ^ 3 := Nat.pow_le_pow_right (by omega) (by rw [List.length_take]; omega)
        simpa using this
      have hz0 : 0 ≤ z := by omega
      have hz1 : z < 16777216 := by omega
      obtain ⟨y, hy⟩ : ∃ y : Int, ((l[k] : Nat) : Int) = y := ⟨_, rfl⟩
      have HN : Hid (256 * z + y = (bnum (l.take (k + 1)) : Nat)) := Lib.hid (by rw [hn]; omega)
      rw [hy] at hc
      have hy0 : 0 ≤ y := by omega
      have hy1 : y < 256 := by omega
      have hor := i64_or_byte hz0 hz1 hy0 hy1
      clear hz hy hn hb hp hx
      go_wp2
      go_round
      case rel => exact ⟨k + 1, 256 * z + y, by omega, rfl, by go_num, HN.out⟩
      case measure => simp [intOf]; omega
    · obtain rfl : k = l.length := by omega
      rw [List.take_length] at hz
      have HZ := Lib.hid hz
      clear hz
      go_wp2
      go_ret
      exact ⟨by rw [← HZ.out]; rfl, rfl⟩

set_option maxHeartbeats 4000000 in
set_option maxRecDepth 100000 in
theorem rvalue7_any (A : Option Addr) (cap : Nat) (l : List Nat) (w : World) (hl : l.length ≤ 4) (ho : Oct l) (hs : Sl w A (by8 l)) :
    Calls Try.prog 30 #[.slice A l.length cap] w fun e w' => e = .returned (.int .i64 (bnum l : Nat)) ∧ w = w' := by
  go_enter Try.func30, Try.ntmps30
  go_wp2_with fail
  go_loop [3, 4] (fun zv iv => ∃ (k : Nat) (z : Int), k ≤ l.length ∧ zv = .int .i64 z ∧ iv = .int .i64 k ∧ z = (bnum (l.take k) : Nat)) (fun _ iv => l.length - (intOf iv).toNat)
  case atStart => exact ⟨0, 0, by omega, rfl, rfl, rfl⟩
  case round =>
    obtain ⟨k, z, hk, rfl, rfl, hz⟩ := hrel
    by_cases hlt : k < l.length
    · have hlk : (k : Int) < (l.length : Int) := by omega
      have hgk : (0 : Int) ≤ (k : Int) := by omega
      obtain ⟨b, o, rfl, hc⟩ := hs.byte hlt
      have hx := ho.at_ hlt
      have hn : bnum (l.take (k + 1)) = 256 * bnum (l.take k) + l[k] := by rw [List.take_succ_eq_append_getElem hlt, bnum_snoc]
      have hb := bnum_lt (ho.take k)
      have hp : 256 ^ (l.take k).length ≤ 16777216 := by
        have : (256 : Nat) ^ (l.take k).length ≤ 256 ^ 3 := Nat.pow_le_pow_right (by omega) (by rw [List.length_take]; omega)
        simpa using this
      have hz0 : 0 ≤ z := by omega
      have hz1 : z < 16777216 := by omega
      obtain ⟨y, hy⟩ : ∃ y : Int, ((l[k] : Nat) : Int) = y := ⟨_, rfl⟩
      have HN : Hid (256 * z + y = (bnum (l.take (k + 1)) : Nat)) := Lib.hid (by rw [hn]; omega)
      rw [hy] at hc
      have hy0 : 0 ≤ y := by omega
      have hy1 : y < 256 := by omega
      have hor := i64_or_byte hz0 hz1 hy0 hy1
      clear hz hy hn hb hp hx
      go_wp2
      go_round
      case rel => exact ⟨k + 1, 256 * z + y, by omega, rfl, by go_num, HN.out⟩
      case measure => simp [intOf]; omega
    · obtain rfl : k = l.length := by omega
      rw [List.take_length] at hz
      have HZ := Lib.hid hz
      clear hz
      go_wp2
      go_ret
      exact ⟨by rw [← HZ.out]; rfl, rfl⟩
end Go.Proofs.Ytfibpkbbpnjepaa
