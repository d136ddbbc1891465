/-
  Layer 6, seventh part: keep, was, lives; DriveNobody.
-/
import Derived.Test.YtbjfdphhopembaaDrive6
namespace Go.Proofs.Ytbjfdphhopembaa
open Go.ChangeShapes Go.WideShapes Go.ChangeAt Go.RowKit
set_option linter.unusedVariables false
set_option linter.unusedSimpArgs false

theorem keep6_any (A : Option Addr) (n cap : Nat) (w : World) (hn : n ≤ 9223372036854775807) (hcap : n ≤ cap) (hcap2 : cap ≤ 9223372036854775807) :
    Calls Try.prog 14 #[.slice A n cap] w fun e w' => e = .returned (.slice A (min n 40) cap) ∧ Below w.heap.size w w' := by
  by_cases h : 40 < n
  · have e : min n 40 = 40 := by omega
    rw [e]
    clear e
    go_enter Try.func14, Try.ntmps14
    go_wp2
    go_ret
    exact ⟨rfl, Below.refl _ _⟩
  · have e : min n 40 = n := by omega
    rw [e]
    clear e
    go_enter Try.func14, Try.ntmps14
    go_wp2
    go_ret
    exact ⟨rfl, Below.refl _ _⟩
set_option maxHeartbeats 1000000 in
set_option maxRecDepth 100000 in
theorem was6_any (w : World) :
    Calls Try.prog 19 #[] w fun e w' => (∃ m, e = .returned (.slice (some ⟨m, 0, none⟩) 96 96) ∧ w'.ownsRow w.heap.size 5 1 (.slice (some ⟨m, 0, none⟩) 96 96) 96 (by8 (List.replicate 96 0))) ∧ Below w.heap.size w w' := by
  go_enter Try.func19, Try.ntmps19
  go_wp2_with (first
    | (at_make; refine wpList_z8 rfl (.const (.int .i64 96)) (.const (.int .i64 96)) rfl 96 rfl rfl rfl rfl (by omega) (Nat.le_refl _) ?_; intro w3 own3 hb3)
    | fail)
  go_ret
  exact ⟨⟨w.heap.size, rfl, own3⟩, hb3⟩
theorem live_fact : ∃ (D : Dv) (r : List Nat), (Dv.new 5).write 3 (cellsL [[1], [2]]) = (D, 0) ∧ D.on = true ∧ ∃ h : 4 < D.S.length, D.S[4] = 2 :: r := by
  exact ⟨((Dv.new 5).write 3 (cellsL [[1], [2]])).1, List.replicate 95 0, Prod.ext rfl (show ((Dv.new 5).write 3 (cellsL [[1], [2]])).2 = 0 by decide +kernel), by decide +kernel, by decide +kernel, by decide +kernel⟩
theorem cells_lit (w : World) : Calls Try.prog 10 #[.slice (some ⟨w.heap.size + 1 + 1, 0, none⟩) 2 2] (((w.alloc (.cells #[.int .u8 1] 5)).alloc (.cells #[.int .u8 2] 5)).alloc (.cells #[.slice (some ⟨w.heap.size, 0, none⟩) 1 1, .slice (some ⟨w.heap.size + 1, 0, none⟩) 1 1] 34)) fun e w' =>
    (∃ (A' : Option Addr) (c' : Nat) (S : List (RowS Nat)), e = .returned (.slice A' S.length c') ∧ w'.ownsRow w.heap.size 34 1 (.slice A' S.length c') S.length (rc RowS.cells S) ∧ S.map RowS.l = cellsL [[1], [2]] ∧ OwnR w.heap.size w' S) ∧ Below w.heap.size w w' := by
  have hb0 : Below w.heap.size w (((w.alloc (.cells #[.int .u8 1] 5)).alloc (.cells #[.int .u8 2] 5)).alloc (.cells #[.slice (some ⟨w.heap.size, 0, none⟩) 1 1, .slice (some ⟨w.heap.size + 1, 0, none⟩) 1 1] 34)) := since_alloc (since_alloc (since_alloc (Below.refl _ _) _) _) _
  have h := cells6_any (some ⟨w.heap.size + 1 + 1, 0, none⟩) 2 [⟨some ⟨w.heap.size, 0, none⟩, 1, [1]⟩, ⟨some ⟨w.heap.size + 1, 0, none⟩, 1, [2]⟩] (((w.alloc (.cells #[.int .u8 1] 5)).alloc (.cells #[.int .u8 2] 5)).alloc (.cells #[.slice (some ⟨w.heap.size, 0, none⟩) 1 1, .slice (some ⟨w.heap.size + 1, 0, none⟩) 1 1] 34)) (show 2 ≤ maxLen by decide)
    (by have := Sl.new_ ((w.alloc (.cells #[.int .u8 1] 5)).alloc (.cells #[.int .u8 2] 5)) [.slice (some ⟨w.heap.size, 0, none⟩) 1 1, .slice (some ⟨w.heap.size + 1, 0, none⟩) 1 1] 34
        simp only [World.size_alloc] at this
        exact this)
    (by
      intro r hr
      simp only [List.mem_cons, List.not_mem_nil, or_false] at hr
      rcases hr with rfl | rfl
      · exact ⟨((Sl.new_ w [.int .u8 1] 5).alloc _).alloc _, show 1 ≤ maxLen by decide⟩
      · have := (Sl.new_ (w.alloc (.cells #[.int .u8 1] 5)) [.int .u8 2] 5).alloc (.cells #[.slice (some ⟨w.heap.size, 0, none⟩) 1 1, .slice (some ⟨w.heap.size + 1, 0, none⟩) 1 1] 34)
        rw [World.size_alloc] at this
        exact ⟨this, show 1 ≤ maxLen by decide⟩)
  refine h.mono ?_
  rintro e w' ⟨⟨A', c', S, rfl, h1, h2, h3⟩, hb⟩
  have hz := hb0.size
  exact ⟨⟨A', c', S, rfl, own_base h1 hz, h2, fun s hs => own_base (h3 s hs) hz⟩, since_step hb0 hb⟩
set_option maxHeartbeats 4000000 in
set_option maxRecDepth 100000 in
theorem lives6_any (w : World) :
    Calls Try.prog 16 #[] w fun e w' => e = .returned (.bool true) ∧ Below w.heap.size w w' := by
  have HN := Lib.hid (dnew_any 5 w (by decide) (by decide))
  go_enter Try.func16, Try.ntmps16
  go_wp2_with fail
  refine HN.out.mono ?_
  rintro e w1 ⟨b, g, rfl, ⟨K, kc, hd1⟩, hb1⟩
  go_wp2_with fail
  have HC := Lib.hid (cells_lit w1)
  have HD1 := Lib.hid hd1
  clear hd1 HN
  refine HC.out.mono ?_
  rintro e w2 ⟨⟨A2, c2, S, rfl, own2, hmap, hor⟩, hb2⟩
  have hd2 := HD1.out.below hb2
  have hSL : S.length = 2 := by have := congrArg List.length hmap; rw [List.length_map] at this; rw [this]; rfl
  obtain ⟨x1, x2⟩ := hd2.off own2 (by decide) (by decide)
  have hW := dwrite_ok 3 A2 c2 S w2 hd2 (by omega) (SlF.of_own own2 x1 x2) (fun r hr => ⟨hor.slf hd2 r hr, by
    have : r.l ∈ cellsL [[1], [2]] := by rw [← hmap]; exact List.mem_map.2 ⟨r, hr, rfl⟩
    obtain ⟨y, hy, e⟩ := List.mem_map.1 this
    rw [← e]
    refine pad96_oct fun x hx => ?_
    simp only [List.take_succ_cons, List.take_nil, List.mem_cons, List.not_mem_nil, or_false] at hy
    rcases hy with rfl | rfl <;> simp at hx <;> omega⟩)
  rw [hmap, hSL] at hW
  obtain ⟨D, r, hD, hon, hlen, h4⟩ := live_fact
  rw [hD] at hW
  simp only at hW
  have HW := Lib.hid hW
  have HB2 := Lib.hid (since_step hb1 hb2)
  have HHD := Lib.hid hd2
  rw [hSL]
  clear hW own2 hmap hor hd2 x1 x2 hb1 hb2 HD1 hSL hD HC
  go_wp2_with fail
  refine HW.out.mono ?_
  rintro e w3 ⟨rfl, hc3, hd3⟩
  have hB3 := HB2.out.trans (hc3.below HB2.out.size HHD.out.ge.1 HHD.out.ge.2)
  have HR := Lib.hid (dread_ok 4 w3 hd3 hlen)
  rw [h4] at HR
  have HD3 := Lib.hid hd3
  have HON := Lib.hid hon
  clear hc3 hd3 HW HHD HB2 h4 hon hlen
  go_wp2_with fail
  refine HR.out.mono ?_
  rintro e w4 ⟨⟨m, rfl, own4⟩, hb4⟩
  have hd4 := HD3.out.below hb4
  have HL := Lib.hid (dlive_any w4 hd4)
  rw [HON.out] at HL
  obtain ⟨_, hm, _, hcell⟩ := own_slice_g own4
  have hc0 := hcell 0 (.int .u8 2) rfl
  have hB4 := since_step hB3 hb4
  clear hd4 hcell own4
  go_wp2_with fail
  refine HL.out.mono ?_
  rintro e w5 ⟨rfl, hb5⟩
  have hB5 := since_step hB4 hb5
  go_wp2_with fail
  go_ret
  exact ⟨rfl, hB5⟩
end Go.Proofs.Ytbjfdphhopembaa
