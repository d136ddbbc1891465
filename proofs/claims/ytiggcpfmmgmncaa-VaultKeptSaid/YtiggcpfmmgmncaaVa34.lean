import Derived.Test.YtiggcpfmmgmncaaVa33
section
namespace Go.Proofs.Ytiggcpfmmgmncaa
open Go.ChangeShapes Go.WideShapes Go.ChangeAt Go.RowKit
set_option linter.unusedVariables false
set_option linter.unusedSimpArgs false

set_option maxHeartbeats 8000000 in
set_option maxRecDepth 100000 in
theorem walk_VaultNobody (a0 : Option Addr) (n0 c0 : Nat) (a1 : Int) (w : World) (w0 : Rd w (.sl (.int .u8)) [.slice a0 n0 c0]) (w1 : (Lit.int .i64 a1).wf = true) :
    Calls Try.prog 11 #[.slice a0 n0 c0, .int .i64 a1] w fun e w' => e = .returned (.bool true) ∧ Below w.heap.size w w' := by
  obtain ⟨l, rfl, h2c, h2m, _, _⟩ := rd_octs w0
  have HCT := Lib.hid (fun V => cut_any a0 l.length c0 90 V (by unfold maxLen at h2m; omega) (by omega) h2c (by unfold maxLen at h2m; omega))
  have HLV := Lib.hid (fun V => lives10_any V)
  clear w0 w1 h2c h2m
  generalize l.length = n0 at *
  generalize min n0 90 = m0 at *
  go_enter Try.func11, Try.ntmps11
  go_wp2_with fail
  refine (HCT.out _).mono ?_
  rintro e y ⟨rfl, rfl⟩
  go_wp2_with fail
  go_loopw [5] (fun i wr => ∃ k : Nat, k ≤ 2 ∧ i = .int .i64 k ∧ Below w.heap.size w wr) (fun i _ => 2 - (intOf i).toNat)
  case atStart => exact ⟨0, by omega, rfl, Below.refl _ _⟩
  case round =>
    obtain ⟨k, hk, rfl, hB⟩ := hrel
    rcases (by omega : k = 0 ∨ k = 1 ∨ k = 2) with rfl | rfl | rfl
    · have HB0 := Lib.hid hB
      have HN : Hid (Nob wr none) := Lib.hid (.inl rfl)
      have HM : Hid (NobV wr none) := Lib.hid (.inl rfl)
      clear hB
      go_wp2_with fail
      refine (nstate_v none _ HM.out).mono ?_
      rintro e y ⟨rfl, rfl⟩
      go_wp2_with fail
      refine (nopen_v none a1 _ HN.out).mono ?_
      rintro e x1 ⟨rfl, hb⟩
      have HB1 := Lib.hid (since_step HB0.out hb)
      have HN := Lib.hid (HN.out.below hb)
      have HM := Lib.hid (HM.out.below hb)
      clear hb
      go_wp2_with fail
      refine (napp_v none a0 m0 c0 _ HM.out).mono ?_
      rintro e x2 ⟨rfl, hb⟩
      have HB2 := Lib.hid (since_step HB1.out hb)
      have HN := Lib.hid (HN.out.below hb)
      have HM := Lib.hid (HM.out.below hb)
      clear hb
      go_wp2_with fail
      refine (ncompact_v none a0 m0 c0 _ HM.out).mono ?_
      rintro e x3 ⟨rfl, hb⟩
      have HB3 := Lib.hid (since_step HB2.out hb)
      have HN := Lib.hid (HN.out.below hb)
      have HM := Lib.hid (HM.out.below hb)
      clear hb
      go_wp2_with fail
      refine (nrecords_v none _ HM.out).mono ?_
      rintro e y ⟨rfl, rfl⟩
      go_wp2_with fail
      refine (nera_v none _ HM.out).mono ?_
      rintro e y ⟨rfl, rfl⟩
      go_wp2_with fail
      refine (nleft_v none _ HM.out).mono ?_
      rintro e y ⟨rfl, rfl⟩
      go_wp2_with fail
      go_roundw
      case rel => exact ⟨1, by omega, by go_num, HB3.out⟩
      case measure => simp [intOf]
    · have HB0 := Lib.hid ((hB.alloc hB.size (.cells #[.pointer none] 99)).alloc (hB.alloc hB.size (.cells #[.pointer none] 99)).size (.cells #[.bool false, .bool false, .int .i64 0, .slice none 0 0, .slice none 0 0, .int .i64 0] 71))
      have HN : Hid (Nob ((wr.alloc (.cells #[.pointer none] 99)).alloc (.cells #[.bool false, .bool false, .int .i64 0, .slice none 0 0, .slice none 0 0, .int .i64 0] 71)) (some ⟨wr.heap.size + 1, 0, none⟩)) := Lib.hid (.inr ⟨_, rfl, by rw [← World.size_alloc wr (.cells #[.pointer none] 99), heap_alloc_new]⟩)
      have HM : Hid (NobV ((wr.alloc (.cells #[.pointer none] 99)).alloc (.cells #[.bool false, .bool false, .int .i64 0, .slice none 0 0, .slice none 0 0, .int .i64 0] 71)) (some ⟨wr.heap.size, 0, none⟩)) := Lib.hid (NobV.below (.inr ⟨_, rfl, by rw [heap_alloc_new]⟩) (since_alloc (Below.refl _ _) _))
      clear hB
      go_wp2_with fail
      refine (nstate_v (some ⟨wr.heap.size, 0, none⟩) _ HM.out).mono ?_
      rintro e y ⟨rfl, rfl⟩
      go_wp2_with fail
      refine (nopen_v (some ⟨wr.heap.size + 1, 0, none⟩) a1 _ HN.out).mono ?_
      rintro e x1 ⟨rfl, hb⟩
      have HB1 := Lib.hid (since_step HB0.out hb)
      have HN := Lib.hid (HN.out.below hb)
      have HM := Lib.hid (HM.out.below hb)
      clear hb
      go_wp2_with fail
      refine (napp_v (some ⟨wr.heap.size, 0, none⟩) a0 m0 c0 _ HM.out).mono ?_
      rintro e x2 ⟨rfl, hb⟩
      have HB2 := Lib.hid (since_step HB1.out hb)
      have HN := Lib.hid (HN.out.below hb)
      have HM := Lib.hid (HM.out.below hb)
      clear hb
      go_wp2_with fail
      refine (ncompact_v (some ⟨wr.heap.size, 0, none⟩) a0 m0 c0 _ HM.out).mono ?_
      rintro e x3 ⟨rfl, hb⟩
      have HB3 := Lib.hid (since_step HB2.out hb)
      have HN := Lib.hid (HN.out.below hb)
      have HM := Lib.hid (HM.out.below hb)
      clear hb
      go_wp2_with fail
      refine (nrecords_v (some ⟨wr.heap.size, 0, none⟩) _ HM.out).mono ?_
      rintro e y ⟨rfl, rfl⟩
      go_wp2_with fail
      refine (nera_v (some ⟨wr.heap.size, 0, none⟩) _ HM.out).mono ?_
      rintro e y ⟨rfl, rfl⟩
      go_wp2_with fail
      refine (nleft_v (some ⟨wr.heap.size, 0, none⟩) _ HM.out).mono ?_
      rintro e y ⟨rfl, rfl⟩
      go_wp2_with fail
      go_roundw
      case rel => exact ⟨2, by omega, by go_num, HB3.out⟩
      case measure => simp [intOf]
    · go_wp2_with fail
      refine (HLV.out _).mono ?_
      rintro e y3 ⟨rfl, hb⟩
      have hB3 := since_step hB hb
      go_wp2_with fail
      go_ret
      exact ⟨rfl, hB3⟩
end Go.Proofs.Ytiggcpfmmgmncaa
end
