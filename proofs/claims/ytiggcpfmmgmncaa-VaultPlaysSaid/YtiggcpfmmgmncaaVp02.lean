import Derived.BigQuiet
import Derived.Deep.CutBlock
import Derived.Deep.CutRange
import Derived.Deep.DeepCutAuto
import Derived.Deep.RegionHeld3
import Derived.Deep.RegionLaw
import Derived.IntWalk
import Derived.Laws.Bits64
import Derived.Laws.BitsAllLaws
import Derived.Test.YtiggcpfmmgmncaaVp01
set_option maxHeartbeats 16000000
set_option maxRecDepth 100000
set_option linter.unusedVariables false
set_option linter.unusedSimpArgs false
namespace Go.Proofs.Ytiggcpfmmgmncaa
open Go.ChangeShapes Go.WideShapes Go.ChangeAt Go.RowKit
section
theorem EF8 : Elem Try.prog 36 5 1 1 := Elem.mk' (z := .int .u8 0) (by kernel_rfl) (by kernel_rfl) (by decide) (by decide)
def Fr.val (f : Fr) (A : Option Addr) (c : Nat) : Value := .agg #[.int .i64 f.life, .int .i64 f.era, .int .i64 f.seq, .int .i64 f.part, .int .i64 f.parts, .slice A f.data.length c]
theorem fit7_any (f : Fr) (A : Option Addr) (c : Nat) (w : World) :
    Calls Try.prog 93 #[f.val A c] w fun e w' => e = .returned (.bool f.ok) ∧ Below w.heap.size w w' := by
  obtain ⟨life, era, seq, part, parts, data⟩ := f
  unfold Fr.val
  simp only
  obtain ⟨n, hn⟩ : ∃ n, data.length = n := ⟨_, rfl⟩
  rw [hn]
  by_cases h0 : 1 ≤ life
  · by_cases h1 : life ≤ 16777215
    · by_cases h2 : 0 ≤ era
      · by_cases h3 : era ≤ 16777215
        · by_cases h4 : 1 ≤ seq
          · by_cases h5 : seq ≤ 4294967295
            · by_cases h6 : 1 ≤ parts
              · by_cases h7 : parts ≤ 255
                · by_cases h8 : 0 ≤ part
                  · by_cases h9 : part < parts
                    · by_cases h10 : (n : Int) ≤ 80
                      · have hE : Fr.ok ⟨life, era, seq, part, parts, data⟩ = true := (Fr.ok_iff _).2 ⟨by assumption, by assumption, by assumption, by assumption, by assumption, by assumption, by assumption, by assumption, by assumption, by assumption, by simp only; omega⟩
                        rw [hE]
                        clear hE hn
                        go_enter Try.func93, Try.ntmps93
                        go_wp2_with fail
                        go_ret
                        exact ⟨rfl, since_alloc (Below.refl _ _) _⟩
                      · have hE : Fr.ok ⟨life, era, seq, part, parts, data⟩ = false := by
                          refine Bool.eq_false_iff.2 fun h => ?_
                          have h := (Fr.ok_iff _).1 h
                          simp only at h
                          omega
                        rw [hE]
                        clear hE hn
                        go_enter Try.func93, Try.ntmps93
                        go_wp2_with fail
                        go_ret
                        exact ⟨rfl, since_alloc (Below.refl _ _) _⟩
                    · have hE : Fr.ok ⟨life, era, seq, part, parts, data⟩ = false := by
                        refine Bool.eq_false_iff.2 fun h => ?_
                        have h := (Fr.ok_iff _).1 h
                        simp only at h
                        omega
                      rw [hE]
                      clear hE hn
                      go_enter Try.func93, Try.ntmps93
                      go_wp2_with fail
                      go_ret
                      exact ⟨rfl, since_alloc (Below.refl _ _) _⟩
                  · have hE : Fr.ok ⟨life, era, seq, part, parts, data⟩ = false := by
                      refine Bool.eq_false_iff.2 fun h => ?_
                      have h := (Fr.ok_iff _).1 h
                      simp only at h
                      omega
                    rw [hE]
                    clear hE hn
                    go_enter Try.func93, Try.ntmps93
                    go_wp2_with fail
                    go_ret
                    exact ⟨rfl, since_alloc (Below.refl _ _) _⟩
                · have hE : Fr.ok ⟨life, era, seq, part, parts, data⟩ = false := by
                    refine Bool.eq_false_iff.2 fun h => ?_
                    have h := (Fr.ok_iff _).1 h
                    simp only at h
                    omega
                  rw [hE]
                  clear hE hn
                  go_enter Try.func93, Try.ntmps93
                  go_wp2_with fail
                  go_ret
                  exact ⟨rfl, since_alloc (Below.refl _ _) _⟩
              · have hE : Fr.ok ⟨life, era, seq, part, parts, data⟩ = false := by
                  refine Bool.eq_false_iff.2 fun h => ?_
                  have h := (Fr.ok_iff _).1 h
                  simp only at h
                  omega
                rw [hE]
                clear hE hn
                go_enter Try.func93, Try.ntmps93
                go_wp2_with fail
                go_ret
                exact ⟨rfl, since_alloc (Below.refl _ _) _⟩
            · have hE : Fr.ok ⟨life, era, seq, part, parts, data⟩ = false := by
                refine Bool.eq_false_iff.2 fun h => ?_
                have h := (Fr.ok_iff _).1 h
                simp only at h
                omega
              rw [hE]
              clear hE hn
              go_enter Try.func93, Try.ntmps93
              go_wp2_with fail
              go_ret
              exact ⟨rfl, since_alloc (Below.refl _ _) _⟩
          · have hE : Fr.ok ⟨life, era, seq, part, parts, data⟩ = false := by
              refine Bool.eq_false_iff.2 fun h => ?_
              have h := (Fr.ok_iff _).1 h
              simp only at h
              omega
            rw [hE]
            clear hE hn
            go_enter Try.func93, Try.ntmps93
            go_wp2_with fail
            go_ret
            exact ⟨rfl, since_alloc (Below.refl _ _) _⟩
        · have hE : Fr.ok ⟨life, era, seq, part, parts, data⟩ = false := by
            refine Bool.eq_false_iff.2 fun h => ?_
            have h := (Fr.ok_iff _).1 h
            simp only at h
            omega
          rw [hE]
          clear hE hn
          go_enter Try.func93, Try.ntmps93
          go_wp2_with fail
          go_ret
          exact ⟨rfl, since_alloc (Below.refl _ _) _⟩
      · have hE : Fr.ok ⟨life, era, seq, part, parts, data⟩ = false := by
          refine Bool.eq_false_iff.2 fun h => ?_
          have h := (Fr.ok_iff _).1 h
          simp only at h
          omega
        rw [hE]
        clear hE hn
        go_enter Try.func93, Try.ntmps93
        go_wp2_with fail
        go_ret
        exact ⟨rfl, since_alloc (Below.refl _ _) _⟩
    · have hE : Fr.ok ⟨life, era, seq, part, parts, data⟩ = false := by
        refine Bool.eq_false_iff.2 fun h => ?_
        have h := (Fr.ok_iff _).1 h
        simp only at h
        omega
      rw [hE]
      clear hE hn
      go_enter Try.func93, Try.ntmps93
      go_wp2_with fail
      go_ret
      exact ⟨rfl, since_alloc (Below.refl _ _) _⟩
  · have hE : Fr.ok ⟨life, era, seq, part, parts, data⟩ = false := by
      refine Bool.eq_false_iff.2 fun h => ?_
      have h := (Fr.ok_iff _).1 h
      simp only at h
      omega
    rw [hE]
    clear hE hn
    go_enter Try.func93, Try.ntmps93
    go_wp2_with fail
    go_ret
    exact ⟨rfl, since_alloc (Below.refl _ _) _⟩
theorem ris7_any (f : Fr) (A : Option Addr) (c : Nat) (w : World) :
    Calls Try.prog 86 #[f.val A c] w fun e w' => e = .returned (.bool f.ok) ∧ Below w.heap.size w w' := by
  obtain ⟨life, era, seq, part, parts, data⟩ := f
  unfold Fr.val
  simp only
  obtain ⟨n, hn⟩ : ∃ n, data.length = n := ⟨_, rfl⟩
  rw [hn]
  by_cases h0 : 1 ≤ life
  · by_cases h1 : life ≤ 16777215
    · by_cases h2 : 0 ≤ era
      · by_cases h3 : era ≤ 16777215
        · by_cases h4 : 1 ≤ seq
          · by_cases h5 : seq ≤ 4294967295
            · by_cases h6 : 1 ≤ parts
              · by_cases h7 : parts ≤ 255
                · by_cases h8 : 0 ≤ part
                  · by_cases h9 : part < parts
                    · by_cases h10 : (n : Int) ≤ 80
                      · have hE : Fr.ok ⟨life, era, seq, part, parts, data⟩ = true := (Fr.ok_iff _).2 ⟨by assumption, by assumption, by assumption, by assumption, by assumption, by assumption, by assumption, by assumption, by assumption, by assumption, by simp only; omega⟩
                        have g0 : ¬ life < 1 := by omega
                        have g1 : ¬ 16777215 < life := by omega
                        have g2 : ¬ era < 0 := by omega
                        have g3 : ¬ 16777215 < era := by omega
                        have g4 : ¬ seq < 1 := by omega
                        have g5 : ¬ 4294967295 < seq := by omega
                        have p0 : 0 < parts := by omega
                        have p1 : parts < 256 := by omega
                        have p2 : 0 ≤ part := by omega
                        have p3 : part < parts := by omega
                        have p4 : (n : Int) < 81 := by omega
                        clear h0 h1 h2 h3 h4 h5 h6 h7 h8 h9 h10
                        rw [hE]
                        clear hE hn
                        go_enter Try.func86, Try.ntmps86
                        go_wp2_with fail
                        go_ret
                        exact ⟨rfl, since_alloc (Below.refl _ _) _⟩
                      · have hE : Fr.ok ⟨life, era, seq, part, parts, data⟩ = false := by
                          refine Bool.eq_false_iff.2 fun h => ?_
                          have h := (Fr.ok_iff _).1 h
                          simp only at h
                          omega
                        have g0 : ¬ life < 1 := by omega
                        have g1 : ¬ 16777215 < life := by omega
                        have g2 : ¬ era < 0 := by omega
                        have g3 : ¬ 16777215 < era := by omega
                        have g4 : ¬ seq < 1 := by omega
                        have g5 : ¬ 4294967295 < seq := by omega
                        have p0 : 0 < parts := by omega
                        have p1 : parts < 256 := by omega
                        have p2 : 0 ≤ part := by omega
                        have p3 : part < parts := by omega
                        have p4 : ¬ (n : Int) < 81 := by omega
                        clear h0 h1 h2 h3 h4 h5 h6 h7 h8 h9 h10
                        rw [hE]
                        clear hE hn
                        go_enter Try.func86, Try.ntmps86
                        go_wp2_with fail
                        go_ret
                        exact ⟨rfl, since_alloc (Below.refl _ _) _⟩
                    · have hE : Fr.ok ⟨life, era, seq, part, parts, data⟩ = false := by
                        refine Bool.eq_false_iff.2 fun h => ?_
                        have h := (Fr.ok_iff _).1 h
                        simp only at h
                        omega
                      have g0 : ¬ life < 1 := by omega
                      have g1 : ¬ 16777215 < life := by omega
                      have g2 : ¬ era < 0 := by omega
                      have g3 : ¬ 16777215 < era := by omega
                      have g4 : ¬ seq < 1 := by omega
                      have g5 : ¬ 4294967295 < seq := by omega
                      have p0 : 0 < parts := by omega
                      have p1 : parts < 256 := by omega
                      have p2 : 0 ≤ part := by omega
                      have p3 : ¬ part < parts := by omega
                      clear h0 h1 h2 h3 h4 h5 h6 h7 h8 h9
                      rw [hE]
                      clear hE hn
                      go_enter Try.func86, Try.ntmps86
                      go_wp2_with fail
                      go_ret
                      exact ⟨rfl, since_alloc (Below.refl _ _) _⟩
                  · have hE : Fr.ok ⟨life, era, seq, part, parts, data⟩ = false := by
                      refine Bool.eq_false_iff.2 fun h => ?_
                      have h := (Fr.ok_iff _).1 h
                      simp only at h
                      omega
                    have g0 : ¬ life < 1 := by omega
                    have g1 : ¬ 16777215 < life := by omega
                    have g2 : ¬ era < 0 := by omega
                    have g3 : ¬ 16777215 < era := by omega
                    have g4 : ¬ seq < 1 := by omega
                    have g5 : ¬ 4294967295 < seq := by omega
                    have p0 : 0 < parts := by omega
                    have p1 : parts < 256 := by omega
                    have p2 : ¬ 0 ≤ part := by omega
                    clear h0 h1 h2 h3 h4 h5 h6 h7 h8
                    rw [hE]
                    clear hE hn
                    go_enter Try.func86, Try.ntmps86
                    go_wp2_with fail
                    go_ret
                    exact ⟨rfl, since_alloc (Below.refl _ _) _⟩
                · have hE : Fr.ok ⟨life, era, seq, part, parts, data⟩ = false := by
                    refine Bool.eq_false_iff.2 fun h => ?_
                    have h := (Fr.ok_iff _).1 h
                    simp only at h
                    omega
                  have g0 : ¬ life < 1 := by omega
                  have g1 : ¬ 16777215 < life := by omega
                  have g2 : ¬ era < 0 := by omega
                  have g3 : ¬ 16777215 < era := by omega
                  have g4 : ¬ seq < 1 := by omega
                  have g5 : ¬ 4294967295 < seq := by omega
                  have p0 : 0 < parts := by omega
                  have p1 : ¬ parts < 256 := by omega
                  clear h0 h1 h2 h3 h4 h5 h6 h7
                  rw [hE]
                  clear hE hn
                  go_enter Try.func86, Try.ntmps86
                  go_wp2_with fail
                  go_ret
                  exact ⟨rfl, since_alloc (Below.refl _ _) _⟩
              · have hE : Fr.ok ⟨life, era, seq, part, parts, data⟩ = false := by
                  refine Bool.eq_false_iff.2 fun h => ?_
                  have h := (Fr.ok_iff _).1 h
                  simp only at h
                  omega
                have g0 : ¬ life < 1 := by omega
                have g1 : ¬ 16777215 < life := by omega
                have g2 : ¬ era < 0 := by omega
                have g3 : ¬ 16777215 < era := by omega
                have g4 : ¬ seq < 1 := by omega
                have g5 : ¬ 4294967295 < seq := by omega
                have p0 : ¬ 0 < parts := by omega
                clear h0 h1 h2 h3 h4 h5 h6
                rw [hE]
                clear hE hn
                go_enter Try.func86, Try.ntmps86
                go_wp2_with fail
                go_ret
                exact ⟨rfl, since_alloc (Below.refl _ _) _⟩
            · have hE : Fr.ok ⟨life, era, seq, part, parts, data⟩ = false := by
                refine Bool.eq_false_iff.2 fun h => ?_
                have h := (Fr.ok_iff _).1 h
                simp only at h
                omega
              have g0 : ¬ life < 1 := by omega
              have g1 : ¬ 16777215 < life := by omega
              have g2 : ¬ era < 0 := by omega
              have g3 : ¬ 16777215 < era := by omega
              have g4 : ¬ seq < 1 := by omega
              have g5 : 4294967295 < seq := by omega
              clear h0 h1 h2 h3 h4 h5
              rw [hE]
              clear hE hn
              go_enter Try.func86, Try.ntmps86
              go_wp2_with fail
              go_ret
              exact ⟨rfl, since_alloc (Below.refl _ _) _⟩
          · have hE : Fr.ok ⟨life, era, seq, part, parts, data⟩ = false := by
              refine Bool.eq_false_iff.2 fun h => ?_
              have h := (Fr.ok_iff _).1 h
              simp only at h
              omega
            have g0 : ¬ life < 1 := by omega
            have g1 : ¬ 16777215 < life := by omega
            have g2 : ¬ era < 0 := by omega
            have g3 : ¬ 16777215 < era := by omega
            have g4 : seq < 1 := by omega
            clear h0 h1 h2 h3 h4
            rw [hE]
            clear hE hn
            go_enter Try.func86, Try.ntmps86
            go_wp2_with fail
            go_ret
            exact ⟨rfl, since_alloc (Below.refl _ _) _⟩
        · have hE : Fr.ok ⟨life, era, seq, part, parts, data⟩ = false := by
            refine Bool.eq_false_iff.2 fun h => ?_
            have h := (Fr.ok_iff _).1 h
            simp only at h
            omega
          have g0 : ¬ life < 1 := by omega
          have g1 : ¬ 16777215 < life := by omega
          have g2 : ¬ era < 0 := by omega
          have g3 : 16777215 < era := by omega
          clear h0 h1 h2 h3
          rw [hE]
          clear hE hn
          go_enter Try.func86, Try.ntmps86
          go_wp2_with fail
          go_ret
          exact ⟨rfl, since_alloc (Below.refl _ _) _⟩
      · have hE : Fr.ok ⟨life, era, seq, part, parts, data⟩ = false := by
          refine Bool.eq_false_iff.2 fun h => ?_
          have h := (Fr.ok_iff _).1 h
          simp only at h
          omega
        have g0 : ¬ life < 1 := by omega
        have g1 : ¬ 16777215 < life := by omega
        have g2 : era < 0 := by omega
        clear h0 h1 h2
        rw [hE]
        clear hE hn
        go_enter Try.func86, Try.ntmps86
        go_wp2_with fail
        go_ret
        exact ⟨rfl, since_alloc (Below.refl _ _) _⟩
    · have hE : Fr.ok ⟨life, era, seq, part, parts, data⟩ = false := by
        refine Bool.eq_false_iff.2 fun h => ?_
        have h := (Fr.ok_iff _).1 h
        simp only at h
        omega
      have g0 : ¬ life < 1 := by omega
      have g1 : 16777215 < life := by omega
      clear h0 h1
      rw [hE]
      clear hE hn
      go_enter Try.func86, Try.ntmps86
      go_wp2_with fail
      go_ret
      exact ⟨rfl, since_alloc (Below.refl _ _) _⟩
  · have hE : Fr.ok ⟨life, era, seq, part, parts, data⟩ = false := by
      refine Bool.eq_false_iff.2 fun h => ?_
      have h := (Fr.ok_iff _).1 h
      simp only at h
      omega
    have g0 : life < 1 := by omega
    clear h0
    rw [hE]
    clear hE hn
    go_enter Try.func86, Try.ntmps86
    go_wp2_with fail
    go_ret
    exact ⟨rfl, since_alloc (Below.refl _ _) _⟩
end
section
theorem bign_take {s n j : Nat} (h : j < s) : (bign s n).take (j + 1) = (bign s n).take j ++ [n / 256 ^ (s - 1 - j) % 256] := by
  rw [List.take_succ_eq_append_getElem (by rw [bign_len]; exact h), bign_at]
theorem i64_or_byte {z y : Int} (h0 : 0 ≤ z) (h1 : z < 16777216) (h2 : 0 ≤ y) (h3 : y < 256) : bits BinOp.or IntKind.i64 (z * 256) y = 256 * z + y := by
  obtain ⟨Z, rfl⟩ := Int.eq_ofNat_of_zero_le h0
  obtain ⟨Q, rfl⟩ := Int.eq_ofNat_of_zero_le h2
  have e : ((Z : Int) * 256) = ((Z * 256 : Nat) : Int) := by push_cast; rfl
  rw [e]
  show IntKind.i64.wrap ((BitVec.ofInt 64 ((Z * 256 : Nat) : Int) ||| BitVec.ofInt 64 (Q : Int)).toNat : Int) = _
  rw [BitVec.toNat_or, ofInt_u64 (Z * 256) (by omega), ofInt_u64 Q (by omega), nat_join 8 (Z * 256) Q (by omega) (by omega)]
  rw [IntWalk.i64_in _ (by omega)]
  push_cast
  omega
theorem get7_any (A : Option Addr) (cap : Nat) (l : List Nat) (w : World) (hl : l.length ≤ 4) (ho : Oct l) (hs : Sl w A (by8 l)) :
    Calls Try.prog 100 #[.slice A l.length cap] w fun e w' => e = .returned (.int .i64 (bnum l : Nat)) ∧ w = w' := by
  go_enter Try.func100, Try.ntmps100
  go_wp2_with fail
  go_loop [3, 8] (fun zv iv => ∃ (k : Nat) (z : Int), k ≤ l.length ∧ zv = .int .i64 z ∧ iv = .int .i64 k ∧ z = (bnum (l.take k) : Nat)) (fun _ iv => l.length - (intOf iv).toNat)
  case atStart => exact ⟨0, 0, by omega, rfl, rfl, rfl⟩
  case round =>
    obtain ⟨k, z, hk, rfl, rfl, hz⟩ := hrel
    by_cases hlt : k < l.length
    · have hlk : (k : Int) < (l.length : Int) := by omega
      have hgk : (0 : Int) ≤ (k : Int) := by omega
      obtain ⟨b, o, rfl, hc⟩ := hs.byte hlt
      have hx := ho.at_ hlt
      have hn : bnum (l.take (k + 1)) = 256 * bnum (l.take k) + l[k] := by rw [List.take_succ_eq_append_getElem hlt, bnum_snoc]
      have hb := bnum_lt (ho.take k)
      have hp : 256 ^ (l.take k).length ≤ 16777216 := by
        have : (256 : Nat) ^ (l.take k).length ≤ 256 ^ 3 := Nat.pow_le_pow_right (by omega) (by rw [List.length_take]; omega)
        simpa using this
      have hz0 : 0 ≤ z := by omega
      have hz1 : z < 16777216 := by omega
      obtain ⟨y, hy⟩ : ∃ y : Int, ((l[k] : Nat) : Int) = y := ⟨_, rfl⟩
      have HN : Hid (256 * z + y = (bnum (l.take (k + 1)) : Nat)) := Lib.hid (by rw [hn]; omega)
      rw [hy] at hc
      have hy0 : 0 ≤ y := by omega
      have hy1 : y < 256 := by omega
      have hor := i64_or_byte hz0 hz1 hy0 hy1
      clear hz hy hn hb hp hx
      go_wp2
      go_round
      case rel => exact ⟨k + 1, 256 * z + y, by omega, rfl, by go_num, HN.out⟩
      case measure => simp [intOf]; omega
    · obtain rfl : k = l.length := by omega
      rw [List.take_length] at hz
      have HZ := Lib.hid hz
      clear hz
      go_wp2
      go_ret
      exact ⟨by rw [← HZ.out]; rfl, rfl⟩
theorem rvalue7_any (A : Option Addr) (cap : Nat) (l : List Nat) (w : World) (hl : l.length ≤ 4) (ho : Oct l) (hs : Sl w A (by8 l)) :
    Calls Try.prog 85 #[.slice A l.length cap] w fun e w' => e = .returned (.int .i64 (bnum l : Nat)) ∧ w = w' := by
  go_enter Try.func85, Try.ntmps85
  go_wp2_with fail
  go_loop [3, 4] (fun zv iv => ∃ (k : Nat) (z : Int), k ≤ l.length ∧ zv = .int .i64 z ∧ iv = .int .i64 k ∧ z = (bnum (l.take k) : Nat)) (fun _ iv => l.length - (intOf iv).toNat)
  case atStart => exact ⟨0, 0, by omega, rfl, rfl, rfl⟩
  case round =>
    obtain ⟨k, z, hk, rfl, rfl, hz⟩ := hrel
    by_cases hlt : k < l.length
    · have hlk : (k : Int) < (l.length : Int) := by omega
      have hgk : (0 : Int) ≤ (k : Int) := by omega
      obtain ⟨b, o, rfl, hc⟩ := hs.byte hlt
      have hx := ho.at_ hlt
      have hn : bnum (l.take (k + 1)) = 256 * bnum (l.take k) + l[k] := by rw [List.take_succ_eq_append_getElem hlt, bnum_snoc]
      have hb := bnum_lt (ho.take k)
      have hp : 256 ^ (l.take k).length ≤ 16777216 := by
        have : (256 : Nat) ^ (l.take k).length ≤ 256 ^ 3 := Nat.pow_le_pow_right (by omega) (by rw [List.length_take]; omega)
        simpa using this
      have hz0 : 0 ≤ z := by omega
      have hz1 : z < 16777216 := by omega
      obtain ⟨y, hy⟩ : ∃ y : Int, ((l[k] : Nat) : Int) = y := ⟨_, rfl⟩
      have HN : Hid (256 * z + y = (bnum (l.take (k + 1)) : Nat)) := Lib.hid (by rw [hn]; omega)
      rw [hy] at hc
      have hy0 : 0 ≤ y := by omega
      have hy1 : y < 256 := by omega
      have hor := i64_or_byte hz0 hz1 hy0 hy1
      clear hz hy hn hb hp hx
      go_wp2
      go_round
      case rel => exact ⟨k + 1, 256 * z + y, by omega, rfl, by go_num, HN.out⟩
      case measure => simp [intOf]; omega
    · obtain rfl : k = l.length := by omega
      rw [List.take_length] at hz
      have HZ := Lib.hid hz
      clear hz
      go_wp2
      go_ret
      exact ⟨by rw [← HZ.out]; rfl, rfl⟩
end
end Go.Proofs.Ytiggcpfmmgmncaa
