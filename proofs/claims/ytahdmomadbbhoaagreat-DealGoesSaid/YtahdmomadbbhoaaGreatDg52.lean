import Derived.Test.YtahdmomadbbhoaaGreatDg51
section
namespace Go.Proofs.YtahdmomadbbhoaaGreat
open Go.ChangeShapes Go.WideShapes Go.ChangeAt Go.RowKit
set_option linter.unusedVariables false
set_option linter.unusedSimpArgs false

theorem liveA21 (q : Int) (hq : In64 q) (h0 : q ≠ 0) : addL [[], [⟨1, q⟩]] = (0, [⟨1, q⟩]) := by
  have hg : isG [⟨1, q⟩] = true := by simp [isG, okG, risingL, h0]
  have hi := (isG_iff [⟨1, q⟩]).1 hg
  rw [sum_two, if_pos ⟨rfl, hg⟩]
  have e : ((List.range 8).map fun j : Nat => getG [] ((j : Int) + 1) + getG [⟨1, q⟩] ((j : Int) + 1)) = (List.range 8).map fun j : Nat => getG [⟨1, q⟩] ((j : Int) + 1) :=
    List.map_congr_left fun j _ => by rw [getG_nil, Int.zero_add]
  rw [e]
  exact ofR_getG hi.2 hi.1 (fun x hx => by rw [List.mem_singleton.1 hx]; exact hq)
theorem liveN21 : negR [⟨1, 3⟩] = (0, [⟨1, -3⟩]) := by
  unfold negR
  rw [if_neg (by decide), if_pos (by intro x hx; rw [List.mem_singleton.1 hx]; show In64 (-3 : Int); unfold In64; omega)]
  rfl
theorem live21m : moveP [] 1 0 2 0 [⟨1, 3⟩] = (0, [⟨1, 0, [⟨1, -3⟩]⟩, ⟨2, 0, [⟨1, 3⟩]⟩]) := by
  have h1 : chgHR (fun m => addL [m, [⟨1, -3⟩]]) [] 1 0 = (0, [⟨1, 0, [⟨1, -3⟩]⟩]) := by
    rw [chgHR_ok (L := [⟨1, -3⟩]) rfl (liveA21 (-3) (by unfold In64; omega) (by omega))]; rfl
  rw [moveP_ok rfl liveN21 h1, chgHR_ok (L := [⟨1, 3⟩]) (by decide) (by exact liveA21 3 (by unfold In64; omega) (by omega))]
  rfl
theorem live21c : moveR [] 1 0 2 0 60 = (0, [⟨1, 0, -60⟩, ⟨2, 0, 60⟩]) := by decide +kernel
theorem live21 : dealR [] [] ⟨1, 10, 7, 0, []⟩ 1 0 2 0 3 5 = (0, [⟨1, 0, [⟨1, -3⟩]⟩, ⟨2, 0, [⟨1, 3⟩]⟩], [⟨1, 0, -60⟩, ⟨2, 0, 60⟩]) :=
  dealR_ok rfl rfl (by decide) (by decide) (by decide) live21m live21c
set_option maxHeartbeats 4000000 in
set_option maxRecDepth 100000 in
theorem lives21_any (w : World) : Calls Tryz.prog 16 #[] w fun e w' => e = .returned (.bool true) ∧ Below w.heap.size w w' := by
  have HM := Lib.hid (fun V => dat_any none 0 [] [] none 0 [] ⟨1, 10, 7, 0, []⟩ none 0 1 0 2 0 3 5 V (by simp) (fun g h => by cases h) (fun g h => by cases h) (by simp) (fun x hx => by cases hx) (by unfold In64; omega) (by unfold In64; omega) (by unfold In64; omega) (Dk.nil V) ⟨⟨Nat.le_refl _, by show 0 ≤ maxLen; decide⟩, Sl.nil, (fun x hx => by cases hx), by show In64 1 ∧ In64 10 ∧ In64 7 ∧ In64 0; unfold In64; omega⟩)
  rw [live21] at HM
  unfold DRes insV at HM
  simp only [List.length_nil] at HM
  have hB0 := since_alloc (since_alloc (Below.refl _ w) (.cells #[.int .i64 1, .int .i64 0] 28)) (.cells #[.int .i64 2, .int .i64 0] 28)
  have K1 := (Bk.new w #[.int .i64 1, .int .i64 0] 28).alloc (.cells #[.int .i64 2, .int .i64 0] 28)
  have K2 := Bk.new (w.alloc (.cells #[.int .i64 1, .int .i64 0] 28)) #[.int .i64 2, .int .i64 0] 28
  rw [World.size_alloc] at K2
  have HG1 := Lib.hid (fun A c V h => pget_any A c [⟨1, 0, -60⟩, ⟨2, 0, 60⟩] 2 0 V (by simp) h)
  have HG2 := Lib.hid (fun A c V h => pget_any A c [⟨1, 0, -60⟩, ⟨2, 0, 60⟩] 1 0 V (by simp) h)
  rw [show getF [⟨1, 0, -60⟩, ⟨2, 0, 60⟩] 2 0 = 60 by decide] at HG1
  rw [show getF [⟨1, 0, -60⟩, ⟨2, 0, 60⟩] 1 0 = -60 by decide] at HG2
  have HLO := Lib.hid (fun A c l V hl h1 h2 => hlots_any A c l [⟨1, 0, [⟨1, -3⟩]⟩, ⟨2, 0, [⟨1, 3⟩]⟩] 2 0 V hl (by simp) h1 h2)
  rw [show lotsH [⟨1, 0, [⟨1, -3⟩]⟩, ⟨2, 0, [⟨1, 3⟩]⟩] 2 0 = [⟨1, 3⟩] from rfl] at HLO
  have HSA := Lib.hid (fun A c A2 W h1 h2 => rvsame_any_self A A2 c 1 [⟨1, 3⟩] W (by decide) h1 h2)
  simp only [List.length_cons, List.length_nil] at HG1 HG2 HLO HSA HM
  go_enter Tryz.func16, Tryz.ntmps16
  go_upto_region 2 with fail
  generalize hWW : (w.alloc (.cells #[.int .i64 1, .int .i64 0] 28)).alloc (.cells #[.int .i64 2, .int .i64 0] 28) = W at *
  clear hWW
  have ck := K1.2; have f0 := ck 0; have f1 := ck 1; simp at f0 f1; clear ck
  have ck := K2.2; have u0 := ck 0; have u1 := ck 1; simp at u0 u1; clear ck
  go_wp2_with fail
  refine (HM.out _).mono ?_
  rintro e z1 ⟨⟨m5, A5, k5, A6, k6, rfl, D5⟩, hb⟩
  have hB1 := since_step hB0 hb
  have hA := (Below.refl z1.heap.size z1).alloc (Nat.le_refl _) (.cells #[.slice A5 m5.length k5, .slice A6 2 k6] 30)
  have K3 := Bk.new z1 #[.slice A5 m5.length k5, .slice A6 2 k6] 30
  have K1 := (K1.below hb).below hA
  have K2 := (K2.below hb).below hA
  have D5 := D5.below hA
  have hB1 := since_step hB1 hA
  clear f0 f1 u0 u1 hb hA
  go_upto_region 3 with fail
  generalize hYY : z1.alloc (.cells #[.slice A5 m5.length k5, .slice A6 2 k6] 30) = Y at *
  clear hYY
  have ck := K2.2; have u0 := ck 0; have u1 := ck 1; simp at u0 u1; clear ck
  have ck := K3.2; have d0 := ck 0; have d1 := ck 1; simp at d0 d1; clear ck
  go_wp2_with fail
  refine (HG1.out _ _ _ D5.f).mono ?_
  rintro e z2 ⟨rfl, hb⟩
  have hB2 := since_step hB1 hb
  have K1 := K1.below hb
  have K2 := K2.below hb
  have K3 := K3.below hb
  have D5 := D5.below hb
  clear u0 u1 d0 d1 hb
  have ck := K1.2; have f0 := ck 0; have f1 := ck 1; simp at f0 f1; clear ck
  have ck := K3.2; have d0 := ck 0; have d1 := ck 1; simp at d0 d1; clear ck
  go_wp2_with fail
  refine (HG2.out _ _ _ D5.f).mono ?_
  rintro e z3 ⟨rfl, hb⟩
  have hB3 := since_step hB2 hb
  have K2 := K2.below hb
  have K3 := K3.below hb
  have D5 := D5.below hb
  clear f0 f1 d0 d1 hb
  have ck := K2.2; have u0 := ck 0; have u1 := ck 1; simp at u0 u1; clear ck
  have ck := K3.2; have d0 := ck 0; have d1 := ck 1; simp at d0 d1; clear ck
  have HLL : Hid (m5.length ≤ 900000) := Lib.hid (by rw [D5.t.1]; simp)
  go_wp2_with fail
  refine (HLO.out _ _ _ _ HLL.out D5.s D5.t).mono ?_
  rintro e z4 ⟨⟨A7, c7, rfl, o7⟩, hb⟩
  have hB4 := since_step hB3 hb
  have s7 := Sl.of_own o7
  clear u0 u1 d0 d1 hb o7
  go_wp2_with fail
  refine (HSA.out _ _ _ _ (s7.alloc _) (Sl.new_ z4 (rc Lg.cells [⟨1, 3⟩]) 75)).mono ?_
  rintro e z5 ⟨rfl, hb⟩
  have hB5 := since_step (since_alloc hB4 _) hb
  go_wp2_with fail
  go_ret
  exact ⟨rfl, hB5⟩
end Go.Proofs.YtahdmomadbbhoaaGreat
end
