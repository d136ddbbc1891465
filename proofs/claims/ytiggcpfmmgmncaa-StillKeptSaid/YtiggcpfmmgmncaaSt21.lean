import Derived.Laws.IdiomStrings
import Derived.Lib.SlBytesConst
import Derived.Test.YtiggcpfmmgmncaaSt20
section
namespace Go.Proofs.Ytiggcpfmmgmncaa
open Go.ChangeShapes Go.WideShapes Go.ChangeAt Go.RowKit
set_option linter.unusedVariables false
set_option linter.unusedSimpArgs false

theorem conv_b {w : World} {b c : Nat} (h : w.cell? ⟨b, 0, none⟩ = some (.int .u8 98)) : (convert 36 9 (.slice (some ⟨b, 0, none⟩) 1 c)).run Try.prog w = .ok (.string ⟨#[98]⟩) w :=
  run_convert_bytes_back (P := Try.prog) w 36 9 5 ⟨b, 0, none⟩ c [98] ED8.und (by kernel_rfl) (by kernel_rfl) (fun j hj => by
    obtain rfl : j = 0 := by simpa using hj
    exact h)
set_option maxHeartbeats 4000000 in
set_option maxRecDepth 100000 in
theorem lives9_any (w : World) :
    Calls Try.prog 35 #[] w fun e w' => e = .returned (.bool true) ∧ Below w.heap.size w w' := by
  have HN := Lib.hid (dnew_any 8 w (by decide) (by decide))
  have kc := fun (w : World) (C : Array Value) (n c : Nat) => Lib.run_convert_bytes_const (P := Try.prog) w 36 5 C n c Try.underlying36 Try.underlying5
  obtain ⟨D1, D2, h1, h2, h3⟩ := live9_fact
  have H1 := Lib.hid h1
  have H2 := Lib.hid h2
  have H3 := Lib.hid h3
  have HLN : Hid (D1.S.length = 8) := Lib.hid (by have := save_len (Dv.new 8) 0 4 1 1 [97]; rw [h1] at this; rw [this]; simp [Dv.new])
  have HLN2 : Hid (D2.S.length = 8) := Lib.hid (by have := save_len D1 0 4 1 2 [98]; rw [h2] at this; rw [this, HLN.out])
  clear h1 h2 h3
  go_enter Try.func35, Try.ntmps35
  go_wp2_with fail
  refine HN.out.mono ?_
  rintro e w1 ⟨b, g, rfl, ⟨K, kc, hd1⟩, hb1⟩
  have HS := ssave_any 0 4 1 1 (some ⟨w1.heap.size, 0, none⟩) 1 [97] (w1.alloc (.cells #[.int .u8 97] 5 (1, 2))) (hd1.below (since_alloc (Below.refl _ _) _)) (by decide) (by decide) (Nat.le_refl _) (by decide) (by decide) (Sl.newMark w1 [.int .u8 97] 5 (1, 2)) (by intro x hx; simp at hx; omega)
  rw [H1.out] at HS
  have HB1 := Lib.hid (since_alloc hb1 (.cells #[.int .u8 97] 5 (1, 2)))
  have HGE := Lib.hid hd1.ge
  have HS := Lib.hid HS
  clear hd1 hb1
  go_wp2_with fail
  refine HS.out.mono ?_
  rintro e w2 ⟨rfl, hc2, hd2⟩
  have HB2 := Lib.hid (HB1.out.trans (hc2.below HB1.out.size HGE.out.1 HGE.out.2))
  have HS2 := ssave_any 0 4 1 2 (some ⟨w2.heap.size, 0, none⟩) 1 [98] (w2.alloc (.cells #[.int .u8 98] 5 (1, 2))) (hd2.below (since_alloc (Below.refl _ _) _)) (by rw [HLN.out]; decide) (by decide) (Nat.le_refl _) (by decide) (by decide) (Sl.newMark w2 [.int .u8 98] 5 (1, 2)) (by intro x hx; simp at hx; omega)
  rw [H2.out] at HS2
  have HB3 := Lib.hid (since_alloc HB2.out (.cells #[.int .u8 98] 5 (1, 2)))
  have HS2 := Lib.hid HS2
  clear hc2 hd2 HS
  go_wp2_with fail
  refine HS2.out.mono ?_
  rintro e w3 ⟨rfl, hc3, hd3⟩
  have HB4 := Lib.hid (HB3.out.trans (hc3.below HB3.out.size HGE.out.1 HGE.out.2))
  have hL := sload_any 0 4 w3 hd3 (by rw [HLN2.out]; decide) (by decide)
  rw [H3.out] at hL
  have HL := Lib.hid hL
  clear hc3 hd3 HS2 hL
  go_wp2_with fail
  refine HL.out.mono ?_
  rintro e w4 ⟨⟨A4, c4, rfl, own4⟩, hb4⟩
  have hB5 := since_step HB4.out hb4
  simp only [List.length_cons, List.length_nil, Nat.zero_add] at own4 ⊢
  obtain ⟨m, rfl, hm1, hm2, _⟩ := own_at own4 (by decide)
  have hc0 : w4.cell? ⟨m, 0, none⟩ = some (.int .u8 98) := World.ownsRow.cells own4 (g := m) rfl 0 _ rfl
  have hcv := conv_b (c := c4) hc0
  clear own4 hb4 hm1
  go_wp2_with fail
  go_ret
  exact ⟨rfl, hB5⟩
end Go.Proofs.Ytiggcpfmmgmncaa
end
