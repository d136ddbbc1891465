import Derived.Test.YtiggcpfmmgmncaaSt21
section
namespace Go.Proofs.Ytiggcpfmmgmncaa
open Go.ChangeShapes Go.WideShapes Go.ChangeAt Go.RowKit
set_option linter.unusedVariables false
set_option linter.unusedSimpArgs false

set_option maxHeartbeats 8000000 in
set_option maxRecDepth 100000 in
theorem snob_a (a0 : Int) (a1 : Int) (a2 : Option Addr) (n2 c2 : Nat) (w : World) (w0 : (Lit.int .i64 a0).wf = true) (w1 : (Lit.int .i64 a1).wf = true) (w2 : Rd w (.sl (.int .u8)) [.slice a2 n2 c2]) (q1 : a0 < 0) :
    Calls Try.prog 8 #[.int .i64 a0, .int .i64 a1, .slice a2 n2 c2] w fun e w' => e = .returned (.bool true) ∧ Below w.heap.size w w' := by
  obtain ⟨l, rfl, h2c, h2m, _, _⟩ := rd_octs w2
  have HCT := Lib.hid (fun V => cut_any a2 l.length c2 90 V (by unfold maxLen at h2m; omega) (by omega) h2c (by unfold maxLen at h2m; omega))
  have HLV := Lib.hid (fun V => lives9_any V)
  have HN10 := Lib.hid (fun V => dnew_any 10 V (by decide) (by decide))
  have hi0 := bd_i64 w0
  have hi1 := bd_i64 w1
  clear w0 w1 w2 h2c h2m
  generalize l.length = n2 at *
  have HLEN : Hid ((Dv.new 10).S.length = 10) := Lib.hid (by simp [Dv.new])
  have hq1 : ¬ 0 ≤ a0 := by omega
  have HQ := Lib.hid q1
  go_enter Try.func8, Try.ntmps8
  go_wp2_with fail
  go_loopw [7] (fun i wr => ∃ k : Nat, k ≤ 2 ∧ i = .int .i64 k ∧ Below w.heap.size w wr) (fun i _ => 2 - (intOf i).toNat)
  case atStart => exact ⟨0, by omega, rfl, Below.refl _ _⟩
  case round =>
    obtain ⟨k, hk, rfl, hB⟩ := hrel
    rcases (by omega : k = 0 ∨ k = 1 ∨ k = 2) with rfl | rfl | rfl
    · have hB0 := hB
      go_wp2_with fail
      refine (sload_nob none a0 a1 _ (Or.inl rfl)).mono ?_
      rintro e x1 ⟨rfl, hb⟩
      have hB1 := since_step hB0 hb
      clear hb
      go_wp2_with fail
      refine (HCT.out _).mono ?_
      rintro e x2 ⟨rfl, rfl⟩
      go_wp2_with fail
      refine (ssave_nob none a0 a1 1 1 a2 (min n2 90) c2 _ (Or.inl rfl)).mono ?_
      rintro e x3 ⟨rfl, hb⟩
      have hB3 := since_step hB1 hb
      clear hb
      go_wp2_with fail
      go_roundw
      case rel => exact ⟨1, by omega, by go_num, hB3⟩
      case measure => simp [intOf]
    · have hN0 : Nob (wr.alloc (.cells #[.bool false, .bool false, .int .i64 0, .slice none 0 0, .slice none 0 0, .int .i64 0] 71)) (some ⟨wr.heap.size, 0, none⟩) := .inr ⟨_, rfl, by rw [heap_alloc_new]⟩
      have hB0 := hB.alloc hB.size (.cells #[.bool false, .bool false, .int .i64 0, .slice none 0 0, .slice none 0 0, .int .i64 0] 71)
      have HN := Lib.hid hN0
      clear hN0
      go_wp2_with fail
      generalize wr.alloc (.cells #[.bool false, .bool false, .int .i64 0, .slice none 0 0, .slice none 0 0, .int .i64 0] 71) = v0 at *
      generalize wr.heap.size = b at *
      refine (sload_nob (some ⟨b, 0, none⟩) a0 a1 _ HN.out).mono ?_
      rintro e x1 ⟨rfl, hb⟩
      have hB1 := since_step hB0 hb
      have HN := Lib.hid (HN.out.below hb)
      clear hb
      go_wp2_with fail
      refine (HCT.out _).mono ?_
      rintro e x2 ⟨rfl, rfl⟩
      go_wp2_with fail
      refine (ssave_nob (some ⟨b, 0, none⟩) a0 a1 1 1 a2 (min n2 90) c2 _ HN.out).mono ?_
      rintro e x3 ⟨rfl, hb⟩
      have hB3 := since_step hB1 hb
      clear hb
      go_wp2_with fail
      go_roundw
      case rel => exact ⟨2, by omega, by go_num, hB3⟩
      case measure => simp [intOf]
    · go_wp2_with fail
      refine (HN10.out _).mono ?_
      rintro e y1 ⟨b, g, rfl, ⟨K, kc, hd1⟩, hb⟩
      have hB1 := since_step hB hb
      have HD := Lib.hid hd1
      clear hb hd1
      go_wp2_with fail
      refine (sload_bad a0 a1 y1 HD.out (by rw [HLEN.out]; exact if_neg (by have := HQ.out; omega))).mono ?_
      rintro e y2 ⟨rfl, hb⟩
      have hB2 := since_step hB1 hb
      clear hb
      go_wp2_with fail
      refine (HLV.out _).mono ?_
      rintro e y3 ⟨rfl, hb⟩
      have hB3 := since_step hB2 hb
      go_wp2_with fail
      go_ret
      exact ⟨rfl, hB3⟩
set_option maxHeartbeats 8000000 in
set_option maxRecDepth 100000 in
theorem snob_b (a0 : Int) (a1 : Int) (a2 : Option Addr) (n2 c2 : Nat) (w : World) (w0 : (Lit.int .i64 a0).wf = true) (w1 : (Lit.int .i64 a1).wf = true) (w2 : Rd w (.sl (.int .u8)) [.slice a2 n2 c2]) (q0 : 0 ≤ a0) (q1 : a1 < 1) :
    Calls Try.prog 8 #[.int .i64 a0, .int .i64 a1, .slice a2 n2 c2] w fun e w' => e = .returned (.bool true) ∧ Below w.heap.size w w' := by
  obtain ⟨l, rfl, h2c, h2m, _, _⟩ := rd_octs w2
  have HCT := Lib.hid (fun V => cut_any a2 l.length c2 90 V (by unfold maxLen at h2m; omega) (by omega) h2c (by unfold maxLen at h2m; omega))
  have HLV := Lib.hid (fun V => lives9_any V)
  have HN10 := Lib.hid (fun V => dnew_any 10 V (by decide) (by decide))
  have hi0 := bd_i64 w0
  have hi1 := bd_i64 w1
  clear w0 w1 w2 h2c h2m
  generalize l.length = n2 at *
  have HLEN : Hid ((Dv.new 10).S.length = 10) := Lib.hid (by simp [Dv.new])
  have hq1 : ¬ 1 ≤ a1 := by omega
  have HQ := Lib.hid q1
  go_enter Try.func8, Try.ntmps8
  go_wp2_with fail
  go_loopw [7] (fun i wr => ∃ k : Nat, k ≤ 2 ∧ i = .int .i64 k ∧ Below w.heap.size w wr) (fun i _ => 2 - (intOf i).toNat)
  case atStart => exact ⟨0, by omega, rfl, Below.refl _ _⟩
  case round =>
    obtain ⟨k, hk, rfl, hB⟩ := hrel
    rcases (by omega : k = 0 ∨ k = 1 ∨ k = 2) with rfl | rfl | rfl
    · have hB0 := hB
      go_wp2_with fail
      refine (sload_nob none a0 a1 _ (Or.inl rfl)).mono ?_
      rintro e x1 ⟨rfl, hb⟩
      have hB1 := since_step hB0 hb
      clear hb
      go_wp2_with fail
      refine (HCT.out _).mono ?_
      rintro e x2 ⟨rfl, rfl⟩
      go_wp2_with fail
      refine (ssave_nob none a0 a1 1 1 a2 (min n2 90) c2 _ (Or.inl rfl)).mono ?_
      rintro e x3 ⟨rfl, hb⟩
      have hB3 := since_step hB1 hb
      clear hb
      go_wp2_with fail
      go_roundw
      case rel => exact ⟨1, by omega, by go_num, hB3⟩
      case measure => simp [intOf]
    · have hN0 : Nob (wr.alloc (.cells #[.bool false, .bool false, .int .i64 0, .slice none 0 0, .slice none 0 0, .int .i64 0] 71)) (some ⟨wr.heap.size, 0, none⟩) := .inr ⟨_, rfl, by rw [heap_alloc_new]⟩
      have hB0 := hB.alloc hB.size (.cells #[.bool false, .bool false, .int .i64 0, .slice none 0 0, .slice none 0 0, .int .i64 0] 71)
      have HN := Lib.hid hN0
      clear hN0
      go_wp2_with fail
      generalize wr.alloc (.cells #[.bool false, .bool false, .int .i64 0, .slice none 0 0, .slice none 0 0, .int .i64 0] 71) = v0 at *
      generalize wr.heap.size = b at *
      refine (sload_nob (some ⟨b, 0, none⟩) a0 a1 _ HN.out).mono ?_
      rintro e x1 ⟨rfl, hb⟩
      have hB1 := since_step hB0 hb
      have HN := Lib.hid (HN.out.below hb)
      clear hb
      go_wp2_with fail
      refine (HCT.out _).mono ?_
      rintro e x2 ⟨rfl, rfl⟩
      go_wp2_with fail
      refine (ssave_nob (some ⟨b, 0, none⟩) a0 a1 1 1 a2 (min n2 90) c2 _ HN.out).mono ?_
      rintro e x3 ⟨rfl, hb⟩
      have hB3 := since_step hB1 hb
      clear hb
      go_wp2_with fail
      go_roundw
      case rel => exact ⟨2, by omega, by go_num, hB3⟩
      case measure => simp [intOf]
    · go_wp2_with fail
      refine (HN10.out _).mono ?_
      rintro e y1 ⟨b, g, rfl, ⟨K, kc, hd1⟩, hb⟩
      have hB1 := since_step hB hb
      have HD := Lib.hid hd1
      clear hb hd1
      go_wp2_with fail
      refine (sload_bad a0 a1 y1 HD.out (by rw [HLEN.out]; exact if_neg (by have := HQ.out; omega))).mono ?_
      rintro e y2 ⟨rfl, hb⟩
      have hB2 := since_step hB1 hb
      clear hb
      go_wp2_with fail
      refine (HLV.out _).mono ?_
      rintro e y3 ⟨rfl, hb⟩
      have hB3 := since_step hB2 hb
      go_wp2_with fail
      go_ret
      exact ⟨rfl, hB3⟩
set_option maxHeartbeats 8000000 in
set_option maxRecDepth 100000 in
theorem snob_c (a0 : Int) (a1 : Int) (a2 : Option Addr) (n2 c2 : Nat) (w : World) (w0 : (Lit.int .i64 a0).wf = true) (w1 : (Lit.int .i64 a1).wf = true) (w2 : Rd w (.sl (.int .u8)) [.slice a2 n2 c2]) (q0 : 0 ≤ a0) (q00 : 1 ≤ a1) (q1 : 10 < a1) :
    Calls Try.prog 8 #[.int .i64 a0, .int .i64 a1, .slice a2 n2 c2] w fun e w' => e = .returned (.bool true) ∧ Below w.heap.size w w' := by
  obtain ⟨l, rfl, h2c, h2m, _, _⟩ := rd_octs w2
  have HCT := Lib.hid (fun V => cut_any a2 l.length c2 90 V (by unfold maxLen at h2m; omega) (by omega) h2c (by unfold maxLen at h2m; omega))
  have HLV := Lib.hid (fun V => lives9_any V)
  have HN10 := Lib.hid (fun V => dnew_any 10 V (by decide) (by decide))
  have hi0 := bd_i64 w0
  have hi1 := bd_i64 w1
  clear w0 w1 w2 h2c h2m
  generalize l.length = n2 at *
  have HLEN : Hid ((Dv.new 10).S.length = 10) := Lib.hid (by simp [Dv.new])
  have hq1 : ¬ a1 ≤ 10 := by omega
  have HQ := Lib.hid q1
  go_enter Try.func8, Try.ntmps8
  go_wp2_with fail
  go_loopw [7] (fun i wr => ∃ k : Nat, k ≤ 2 ∧ i = .int .i64 k ∧ Below w.heap.size w wr) (fun i _ => 2 - (intOf i).toNat)
  case atStart => exact ⟨0, by omega, rfl, Below.refl _ _⟩
  case round =>
    obtain ⟨k, hk, rfl, hB⟩ := hrel
    rcases (by omega : k = 0 ∨ k = 1 ∨ k = 2) with rfl | rfl | rfl
    · have hB0 := hB
      go_wp2_with fail
      refine (sload_nob none a0 a1 _ (Or.inl rfl)).mono ?_
      rintro e x1 ⟨rfl, hb⟩
      have hB1 := since_step hB0 hb
      clear hb
      go_wp2_with fail
      refine (HCT.out _).mono ?_
      rintro e x2 ⟨rfl, rfl⟩
      go_wp2_with fail
      refine (ssave_nob none a0 a1 1 1 a2 (min n2 90) c2 _ (Or.inl rfl)).mono ?_
      rintro e x3 ⟨rfl, hb⟩
      have hB3 := since_step hB1 hb
      clear hb
      go_wp2_with fail
      go_roundw
      case rel => exact ⟨1, by omega, by go_num, hB3⟩
      case measure => simp [intOf]
    · have hN0 : Nob (wr.alloc (.cells #[.bool false, .bool false, .int .i64 0, .slice none 0 0, .slice none 0 0, .int .i64 0] 71)) (some ⟨wr.heap.size, 0, none⟩) := .inr ⟨_, rfl, by rw [heap_alloc_new]⟩
      have hB0 := hB.alloc hB.size (.cells #[.bool false, .bool false, .int .i64 0, .slice none 0 0, .slice none 0 0, .int .i64 0] 71)
      have HN := Lib.hid hN0
      clear hN0
      go_wp2_with fail
      generalize wr.alloc (.cells #[.bool false, .bool false, .int .i64 0, .slice none 0 0, .slice none 0 0, .int .i64 0] 71) = v0 at *
      generalize wr.heap.size = b at *
      refine (sload_nob (some ⟨b, 0, none⟩) a0 a1 _ HN.out).mono ?_
      rintro e x1 ⟨rfl, hb⟩
      have hB1 := since_step hB0 hb
      have HN := Lib.hid (HN.out.below hb)
      clear hb
      go_wp2_with fail
      refine (HCT.out _).mono ?_
      rintro e x2 ⟨rfl, rfl⟩
      go_wp2_with fail
      refine (ssave_nob (some ⟨b, 0, none⟩) a0 a1 1 1 a2 (min n2 90) c2 _ HN.out).mono ?_
      rintro e x3 ⟨rfl, hb⟩
      have hB3 := since_step hB1 hb
      clear hb
      go_wp2_with fail
      go_roundw
      case rel => exact ⟨2, by omega, by go_num, hB3⟩
      case measure => simp [intOf]
    · go_wp2_with fail
      refine (HN10.out _).mono ?_
      rintro e y1 ⟨b, g, rfl, ⟨K, kc, hd1⟩, hb⟩
      have hB1 := since_step hB hb
      have HD := Lib.hid hd1
      clear hb hd1
      go_wp2_with fail
      refine (sload_bad a0 a1 y1 HD.out (by rw [HLEN.out]; exact if_neg (by have := HQ.out; omega))).mono ?_
      rintro e y2 ⟨rfl, hb⟩
      have hB2 := since_step hB1 hb
      clear hb
      go_wp2_with fail
      refine (HLV.out _).mono ?_
      rintro e y3 ⟨rfl, hb⟩
      have hB3 := since_step hB2 hb
      go_wp2_with fail
      go_ret
      exact ⟨rfl, hB3⟩
set_option maxHeartbeats 8000000 in
set_option maxRecDepth 100000 in
theorem snob_d (a0 : Int) (a1 : Int) (a2 : Option Addr) (n2 c2 : Nat) (w : World) (w0 : (Lit.int .i64 a0).wf = true) (w1 : (Lit.int .i64 a1).wf = true) (w2 : Rd w (.sl (.int .u8)) [.slice a2 n2 c2]) (q0 : 0 ≤ a0) (q00 : 1 ≤ a1) (q01 : a1 ≤ 10) (q1 : 10 - 2 * a1 < a0) :
    Calls Try.prog 8 #[.int .i64 a0, .int .i64 a1, .slice a2 n2 c2] w fun e w' => e = .returned (.bool true) ∧ Below w.heap.size w w' := by
  obtain ⟨l, rfl, h2c, h2m, _, _⟩ := rd_octs w2
  have HCT := Lib.hid (fun V => cut_any a2 l.length c2 90 V (by unfold maxLen at h2m; omega) (by omega) h2c (by unfold maxLen at h2m; omega))
  have HLV := Lib.hid (fun V => lives9_any V)
  have HN10 := Lib.hid (fun V => dnew_any 10 V (by decide) (by decide))
  have hi0 := bd_i64 w0
  have hi1 := bd_i64 w1
  clear w0 w1 w2 h2c h2m
  generalize l.length = n2 at *
  have HLEN : Hid ((Dv.new 10).S.length = 10) := Lib.hid (by simp [Dv.new])
  have hq1 : ¬ a0 ≤ 10 - 2 * a1 := by omega
  have hq2 : decide (a0 ≤ 10 - 2 * a1) = false := decide_eq_false hq1
  have HQ := Lib.hid q1
  have hm1 : IntKind.i64.wrap (2 * a1) = 2 * a1 := by rw [IntKind.wrap_i64]; omega
  have hm2 : IntKind.i64.wrap (10 - 2 * a1) = 10 - 2 * a1 := by rw [IntKind.wrap_i64]; omega
  go_enter Try.func8, Try.ntmps8
  go_wp2_with fail
  go_loopw [7] (fun i wr => ∃ k : Nat, k ≤ 2 ∧ i = .int .i64 k ∧ Below w.heap.size w wr) (fun i _ => 2 - (intOf i).toNat)
  case atStart => exact ⟨0, by omega, rfl, Below.refl _ _⟩
  case round =>
    obtain ⟨k, hk, rfl, hB⟩ := hrel
    rcases (by omega : k = 0 ∨ k = 1 ∨ k = 2) with rfl | rfl | rfl
    · have hB0 := hB
      go_wp2_with fail
      refine (sload_nob none a0 a1 _ (Or.inl rfl)).mono ?_
      rintro e x1 ⟨rfl, hb⟩
      have hB1 := since_step hB0 hb
      clear hb
      go_wp2_with fail
      refine (HCT.out _).mono ?_
      rintro e x2 ⟨rfl, rfl⟩
      go_wp2_with fail
      refine (ssave_nob none a0 a1 1 1 a2 (min n2 90) c2 _ (Or.inl rfl)).mono ?_
      rintro e x3 ⟨rfl, hb⟩
      have hB3 := since_step hB1 hb
      clear hb
      go_wp2_with fail
      go_roundw
      case rel => exact ⟨1, by omega, by go_num, hB3⟩
      case measure => simp [intOf]
    · have hN0 : Nob (wr.alloc (.cells #[.bool false, .bool false, .int .i64 0, .slice none 0 0, .slice none 0 0, .int .i64 0] 71)) (some ⟨wr.heap.size, 0, none⟩) := .inr ⟨_, rfl, by rw [heap_alloc_new]⟩
      have hB0 := hB.alloc hB.size (.cells #[.bool false, .bool false, .int .i64 0, .slice none 0 0, .slice none 0 0, .int .i64 0] 71)
      have HN := Lib.hid hN0
      clear hN0
      go_wp2_with fail
      generalize wr.alloc (.cells #[.bool false, .bool false, .int .i64 0, .slice none 0 0, .slice none 0 0, .int .i64 0] 71) = v0 at *
      generalize wr.heap.size = b at *
      refine (sload_nob (some ⟨b, 0, none⟩) a0 a1 _ HN.out).mono ?_
      rintro e x1 ⟨rfl, hb⟩
      have hB1 := since_step hB0 hb
      have HN := Lib.hid (HN.out.below hb)
      clear hb
      go_wp2_with fail
      refine (HCT.out _).mono ?_
      rintro e x2 ⟨rfl, rfl⟩
      go_wp2_with fail
      refine (ssave_nob (some ⟨b, 0, none⟩) a0 a1 1 1 a2 (min n2 90) c2 _ HN.out).mono ?_
      rintro e x3 ⟨rfl, hb⟩
      have hB3 := since_step hB1 hb
      clear hb
      go_wp2_with fail
      go_roundw
      case rel => exact ⟨2, by omega, by go_num, hB3⟩
      case measure => simp [intOf]
    · go_wp2_with fail
      refine (HN10.out _).mono ?_
      rintro e y1 ⟨b, g, rfl, ⟨K, kc, hd1⟩, hb⟩
      have hB1 := since_step hB hb
      have HD := Lib.hid hd1
      clear hb hd1
      go_wp2_with fail
      refine (sload_bad a0 a1 y1 HD.out (by rw [HLEN.out]; exact if_neg (by have := HQ.out; omega))).mono ?_
      rintro e y2 ⟨rfl, hb⟩
      have hB2 := since_step hB1 hb
      clear hb
      go_wp2_with fail
      refine (HLV.out _).mono ?_
      rintro e y3 ⟨rfl, hb⟩
      have hB3 := since_step hB2 hb
      go_wp2_with fail
      go_ret
      exact ⟨rfl, hB3⟩
set_option maxHeartbeats 8000000 in
set_option maxRecDepth 100000 in
theorem snob_e (a0 : Int) (a1 : Int) (a2 : Option Addr) (n2 c2 : Nat) (w : World) (w0 : (Lit.int .i64 a0).wf = true) (w1 : (Lit.int .i64 a1).wf = true) (w2 : Rd w (.sl (.int .u8)) [.slice a2 n2 c2]) (q0 : 0 ≤ a0) (q00 : 1 ≤ a1) (q01 : a1 ≤ 10) (q1 : a0 ≤ 10 - 2 * a1) :
    Calls Try.prog 8 #[.int .i64 a0, .int .i64 a1, .slice a2 n2 c2] w fun e w' => e = .returned (.bool true) ∧ Below w.heap.size w w' := by
  obtain ⟨l, rfl, h2c, h2m, _, _⟩ := rd_octs w2
  have HCT := Lib.hid (fun V => cut_any a2 l.length c2 90 V (by unfold maxLen at h2m; omega) (by omega) h2c (by unfold maxLen at h2m; omega))
  have HLV := Lib.hid (fun V => lives9_any V)
  have HN10 := Lib.hid (fun V => dnew_any 10 V (by decide) (by decide))
  have hi0 := bd_i64 w0
  have hi1 := bd_i64 w1
  clear w0 w1 w2 h2c h2m
  generalize l.length = n2 at *
  have HLEN : Hid ((Dv.new 10).S.length = 10) := Lib.hid (by simp [Dv.new])
  have hm1 : IntKind.i64.wrap (2 * a1) = 2 * a1 := by rw [IntKind.wrap_i64]; omega
  have hm2 : IntKind.i64.wrap (10 - 2 * a1) = 10 - 2 * a1 := by rw [IntKind.wrap_i64]; omega
  obtain ⟨p, hp⟩ : ∃ p : Nat, a0 = (p : Int) := ⟨a0.toNat, by omega⟩
  obtain ⟨q, hq⟩ : ∃ q : Nat, a1 = (q : Int) := ⟨a1.toNat, by omega⟩
  have HPQ := Lib.hid (show p + 2 * q ≤ 10 ∧ 1 ≤ q by omega)
  have HP0 := Lib.hid hp
  have HP1 := Lib.hid hq
  clear hp hq
  go_enter Try.func8, Try.ntmps8
  go_wp2_with fail
  go_loopw [7] (fun i wr => ∃ k : Nat, k ≤ 2 ∧ i = .int .i64 k ∧ Below w.heap.size w wr) (fun i _ => 2 - (intOf i).toNat)
  case atStart => exact ⟨0, by omega, rfl, Below.refl _ _⟩
  case round =>
    obtain ⟨k, hk, rfl, hB⟩ := hrel
    rcases (by omega : k = 0 ∨ k = 1 ∨ k = 2) with rfl | rfl | rfl
    · have hB0 := hB
      go_wp2_with fail
      refine (sload_nob none a0 a1 _ (Or.inl rfl)).mono ?_
      rintro e x1 ⟨rfl, hb⟩
      have hB1 := since_step hB0 hb
      clear hb
      go_wp2_with fail
      refine (HCT.out _).mono ?_
      rintro e x2 ⟨rfl, rfl⟩
      go_wp2_with fail
      refine (ssave_nob none a0 a1 1 1 a2 (min n2 90) c2 _ (Or.inl rfl)).mono ?_
      rintro e x3 ⟨rfl, hb⟩
      have hB3 := since_step hB1 hb
      clear hb
      go_wp2_with fail
      go_roundw
      case rel => exact ⟨1, by omega, by go_num, hB3⟩
      case measure => simp [intOf]
    · have hN0 : Nob (wr.alloc (.cells #[.bool false, .bool false, .int .i64 0, .slice none 0 0, .slice none 0 0, .int .i64 0] 71)) (some ⟨wr.heap.size, 0, none⟩) := .inr ⟨_, rfl, by rw [heap_alloc_new]⟩
      have hB0 := hB.alloc hB.size (.cells #[.bool false, .bool false, .int .i64 0, .slice none 0 0, .slice none 0 0, .int .i64 0] 71)
      have HN := Lib.hid hN0
      clear hN0
      go_wp2_with fail
      generalize wr.alloc (.cells #[.bool false, .bool false, .int .i64 0, .slice none 0 0, .slice none 0 0, .int .i64 0] 71) = v0 at *
      generalize wr.heap.size = b at *
      refine (sload_nob (some ⟨b, 0, none⟩) a0 a1 _ HN.out).mono ?_
      rintro e x1 ⟨rfl, hb⟩
      have hB1 := since_step hB0 hb
      have HN := Lib.hid (HN.out.below hb)
      clear hb
      go_wp2_with fail
      refine (HCT.out _).mono ?_
      rintro e x2 ⟨rfl, rfl⟩
      go_wp2_with fail
      refine (ssave_nob (some ⟨b, 0, none⟩) a0 a1 1 1 a2 (min n2 90) c2 _ HN.out).mono ?_
      rintro e x3 ⟨rfl, hb⟩
      have hB3 := since_step hB1 hb
      clear hb
      go_wp2_with fail
      go_roundw
      case rel => exact ⟨2, by omega, by go_num, hB3⟩
      case measure => simp [intOf]
    · go_wp2_with fail
      refine (HN10.out _).mono ?_
      rintro e y1 ⟨b, g, rfl, ⟨K, kc, hd1⟩, hb⟩
      have hB1 := since_step hB hb
      have HD := Lib.hid hd1
      clear hb hd1
      go_wp2_with fail
      have hLD := sload_any p q y1 HD.out (by rw [HLEN.out]; exact HPQ.out.1) HPQ.out.2
      rw [loadS_new, ← HP0.out, ← HP1.out] at hLD
      refine hLD.mono ?_
      rintro e y2 ⟨⟨A4, c4, rfl, _⟩, hb⟩
      simp only [List.length_nil]
      have hB2 := since_step hB1 hb
      clear hb hLD
      go_wp2_with fail
      refine (HLV.out _).mono ?_
      rintro e y3 ⟨rfl, hb⟩
      have hB3 := since_step hB2 hb
      go_wp2_with fail
      go_ret
      exact ⟨rfl, hB3⟩
theorem walk_StillNobody (a0 : Int) (a1 : Int) (a2 : Option Addr) (n2 c2 : Nat) (w : World) (w0 : (Lit.int .i64 a0).wf = true) (w1 : (Lit.int .i64 a1).wf = true) (w2 : Rd w (.sl (.int .u8)) [.slice a2 n2 c2]) :
    Calls Try.prog 8 #[.int .i64 a0, .int .i64 a1, .slice a2 n2 c2] w fun e w' => e = .returned (.bool true) ∧ Below w.heap.size w w' := by
  by_cases q0 : 0 ≤ a0
  · by_cases q1 : 1 ≤ a1
    · by_cases q2 : a1 ≤ 10
      · by_cases q3 : a0 ≤ 10 - 2 * a1
        · exact snob_e a0 a1 a2 n2 c2 w w0 w1 w2 q0 q1 q2 q3
        · exact snob_d a0 a1 a2 n2 c2 w w0 w1 w2 q0 q1 q2 (by omega)
      · exact snob_c a0 a1 a2 n2 c2 w w0 w1 w2 q0 q1 (by omega)
    · exact snob_b a0 a1 a2 n2 c2 w w0 w1 w2 q0 (by omega)
  · exact snob_a a0 a1 a2 n2 c2 w w0 w1 w2 (by omega)
end Go.Proofs.Ytiggcpfmmgmncaa
end
