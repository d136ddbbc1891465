/-
  The walks of layer 23, eleventh part: GiveLate.
-/
import Derived.Test.YtaaknohoaijfhaaGive10
import Derived.Deep.QuietTactic
import Derived.BigQuiet
import Derived.IntWalk
import Derived.Deep.RegionWith
namespace Go.Proofs.Ytaaknohoaijfhaa
open Go.ChangeShapes Go.WideShapes Go.ChangeAt Go.RowKit
set_option linter.unusedVariables false
set_option linter.unusedSimpArgs false

theorem turnL_length (l : List Gv) (id st : Int) : (turnL l id st).length = l.length := by unfold turnL; simp

set_option maxRecDepth 100000 in
set_option maxHeartbeats 8000000 in
theorem walk_GiveLate (a0 : Option Addr) (n0 c0 : Nat) (a1 : Int) (w : World) (w0 : Rd w (.sl (.cat (.int .i64) (.cat (.int .i64) (.cat (.int .i64) (.cat (.int .i64) (.cat (.cat (.int .i64) (.cat (.cat (.int .i64) (.cat (.int .i64) .nil)) (.cat (.cat (.int .i64) (.cat (.int .i64) .nil)) (.cat (.cat (.int .i64) (.cat (.int .i64) .nil)) (.cat (.int .i64) (.cat (.int .i64) (.cat (.int .i64) (.cat (.int .i64) .nil)))))))) .nil)))))) [.slice a0 n0 c0]) (w1 : (Lit.int .i64 a1).wf = true) :
    Calls Try.prog 9 #[.slice a0 n0 c0, .int .i64 a1] w fun e w' => e = .returned (.bool true) ∧ Below w.heap.size w w' := by
  obtain ⟨D, rfl, hc0, hcm, hd⟩ := rd_do (by decide) w0
  clear w0 w1
  go_enter Try.func9, Try.ntmps9
  go_wp2
  go_loopw [5, 6] (fun v i wr => ∃ k A c l, k ≤ D.length ∧ i = .int .i64 (k : Nat) ∧ v = .slice A (List.length l) c ∧ GL wr A c l ∧ Below w.heap.size w wr) (fun _ i _ => D.length - (intOf i).toNat)
  case atStart => exact ⟨0, none, 0, [], by omega, rfl, rfl, GL.nil _, Below.refl _ _⟩
  case round =>
    obtain ⟨k, A, c, l, hk, rfl, rfl, hL, hB⟩ := hrel
    by_cases hlt : k < D.length ∧ k < 90
    · obtain ⟨hlt, h90⟩ := hlt
      obtain ⟨b, o, rfl, hbw, hd1⟩ := hd.dos hlt
      have hd2 := hd1.keep (w' := wr) fun i => hB.cell (p := ⟨b, i, none⟩) hbw
      have hbr : b < wr.heap.size := Nat.lt_of_lt_of_le hbw hB.size
      have HD := Lib.hid hd
      clear hd
      generalize D[k] = d at *
      obtain ⟨d0, d1, d2, d3, d4, d5, d6, d7, d8, d9, d10, d11, d12, d13, d14⟩ := hd2
      clear hd1
      by_cases hE : newE l d.g d.day = 0
      · go_wp2
        go_region_with (first
          | (go_at_call 23; refine (new_any A c l d.g d.day wr.drew hL).mono ?_; rintro e w1 ⟨hr, hb1⟩; have hB1 := since_step hB.drew hb1; have hL1 := (show GL wr.drew A c l from hL).below hb1; have t0 := (hb1.cell (p := ⟨b, o + k * 15, none⟩) hbr).trans d0; have t2 := (hb1.cell (p := ⟨b, o + k * 15 + 2, none⟩) hbr).trans d2; have t3 := (hb1.cell (p := ⟨b, o + k * 15 + 3, none⟩) hbr).trans d3; have hb1r : b < w1.heap.size := Nat.lt_of_lt_of_le hbr hb1.size; clear hb1 d0 d1 d2 d3 d4 d5 d6 d7 d8 d9 d10 d11 d12 d13 d14; rcases hr with ⟨hne, _⟩ | ⟨_, A1, c1, rfl, hcc, hs1⟩; exact absurd hE hne))
        all_goals
          have hG := GL.new hE hL.2.2.2.1 hcc hs1
          have hlen : l.length + 1 = (l ++ [newG l d.g d.day]).length := by simp
          clear hL1 hL hs1 hcc hE
          generalize l ++ [newG l d.g d.day] = N at *
          rw [hlen]
          clear hlen
          by_cases hT : turnE N d.id d.st = 0
          · by_cases hkind : d.kind = 1
            · go_wp2
              go_region_with (first
                | (go_at_call 26; refine (turn_any A1 c1 N d.id d.st w1.drew (by have := hG.2.2.1; omega) hG.2.2.2.2).mono ?_; rintro e w2 ⟨hr, hb2⟩; have hB2 := since_step hB1.drew hb2; have hG2 := (show GL w1.drew A1 c1 N from hG).below hb2; have u0 := (hb2.cell (p := ⟨b, o + k * 15, none⟩) hb1r).trans t0; have hb2r : b < w2.heap.size := Nat.lt_of_lt_of_le hb1r hb2.size; clear hb2 t0 t2 t3; rcases hr with ⟨hne, _⟩ | ⟨_, A2, c2, rfl, hcc2, hs2⟩; exact absurd hT hne))
              all_goals
                rw [hkind] at u0
                go_wp2
                go_roundw
                case rel => exact ⟨k + 1, A2, c2, turnL N d.id d.st, by omega, by go_num, by rw [turnL_length], GL.turn hG hT hcc2 hs2, hB2⟩
                case measure => simp [intOf]; omega
            · go_wp2
              go_region_with (first
                | (go_at_call 26; refine (turn_any A1 c1 N d.id d.st w1.drew (by have := hG.2.2.1; omega) hG.2.2.2.2).mono ?_; rintro e w2 ⟨hr, hb2⟩; have hB2 := since_step hB1.drew hb2; have hG2 := (show GL w1.drew A1 c1 N from hG).below hb2; have u0 := (hb2.cell (p := ⟨b, o + k * 15, none⟩) hb1r).trans t0; have hb2r : b < w2.heap.size := Nat.lt_of_lt_of_le hb1r hb2.size; clear hb2 t0 t2 t3; rcases hr with ⟨hne, _⟩ | ⟨_, A2, c2, rfl, hcc2, hs2⟩; exact absurd hT hne))
              all_goals
                have HK : (d.kind == 1) = false := by simpa using hkind
                go_wp2
                go_roundw
                case rel => exact ⟨k + 1, A1, c1, N, by omega, by go_num, rfl, hG2, hB2⟩
                case measure => simp [intOf]; omega
          · go_wp2
            go_region_with (first
              | (go_at_call 26; refine (turn_any A1 c1 N d.id d.st w1.drew (by have := hG.2.2.1; omega) hG.2.2.2.2).mono ?_; rintro e w2 ⟨hr, hb2⟩; have hB2 := since_step hB1.drew hb2; have hG2 := (show GL w1.drew A1 c1 N from hG).below hb2; have u0 := (hb2.cell (p := ⟨b, o + k * 15, none⟩) hb1r).trans t0; have hb2r : b < w2.heap.size := Nat.lt_of_lt_of_le hb1r hb2.size; clear hb2 t0 t2 t3; rcases hr with ⟨_, rfl⟩ | ⟨he, _⟩; rotate_left; exact absurd he hT))
            all_goals
              have HT : (turnE N d.id d.st == 0) = false := by simpa using hT
              go_wp2
              go_roundw
              case rel => exact ⟨k + 1, A1, c1, N, by omega, by go_num, rfl, hG2, hB2⟩
              case measure => simp [intOf]; omega
      · go_wp2
        go_region_with (first
          | (go_at_call 23; refine (new_any A c l d.g d.day wr.drew hL).mono ?_; rintro e w1 ⟨hr, hb1⟩; have hB1 := since_step hB.drew hb1; have hL1 := (show GL wr.drew A c l from hL).below hb1; have t0 := (hb1.cell (p := ⟨b, o + k * 15, none⟩) hbr).trans d0; have t2 := (hb1.cell (p := ⟨b, o + k * 15 + 2, none⟩) hbr).trans d2; have t3 := (hb1.cell (p := ⟨b, o + k * 15 + 3, none⟩) hbr).trans d3; have hb1r : b < w1.heap.size := Nat.lt_of_lt_of_le hbr hb1.size; clear hb1 d0 d1 d2 d3 d4 d5 d6 d7 d8 d9 d10 d11 d12 d13 d14; rcases hr with ⟨_, rfl⟩ | ⟨he, _⟩; rotate_left; exact absurd he hE))
        all_goals
          have hG := hL1
          have HNE : (newE l d.g d.day != 0) = true := by simpa using hE
          have HNE2 : (newE l d.g d.day == 0) = false := by simpa using hE
          clear hL1 hL
          by_cases hT : turnE l d.id d.st = 0
          · by_cases hkind : d.kind = 1
            · go_wp2
              go_region_with (first
                | (go_at_call 26; refine (turn_any A c l d.id d.st w1.drew (by have := hG.2.2.1; omega) hG.2.2.2.2).mono ?_; rintro e w2 ⟨hr, hb2⟩; have hB2 := since_step hB1.drew hb2; have hG2 := (show GL w1.drew A c l from hG).below hb2; have u0 := (hb2.cell (p := ⟨b, o + k * 15, none⟩) hb1r).trans t0; have hb2r : b < w2.heap.size := Nat.lt_of_lt_of_le hb1r hb2.size; clear hb2 t0 t2 t3; rcases hr with ⟨hne, _⟩ | ⟨_, A2, c2, rfl, hcc2, hs2⟩; exact absurd hT hne))
              all_goals
                rw [hkind] at u0
                go_wp2
                go_roundw
                case rel => exact ⟨k + 1, A2, c2, turnL l d.id d.st, by omega, by go_num, by rw [turnL_length], GL.turn hG hT hcc2 hs2, hB2⟩
                case measure => simp [intOf]; omega
            · go_wp2
              go_region_with (first
                | (go_at_call 26; refine (turn_any A c l d.id d.st w1.drew (by have := hG.2.2.1; omega) hG.2.2.2.2).mono ?_; rintro e w2 ⟨hr, hb2⟩; have hB2 := since_step hB1.drew hb2; have hG2 := (show GL w1.drew A c l from hG).below hb2; have u0 := (hb2.cell (p := ⟨b, o + k * 15, none⟩) hb1r).trans t0; have hb2r : b < w2.heap.size := Nat.lt_of_lt_of_le hb1r hb2.size; clear hb2 t0 t2 t3; rcases hr with ⟨hne, _⟩ | ⟨_, A2, c2, rfl, hcc2, hs2⟩; exact absurd hT hne))
              all_goals
                have HK : (d.kind == 1) = false := by simpa using hkind
                go_wp2
                go_roundw
                case rel => exact ⟨k + 1, A, c, l, by omega, by go_num, rfl, hG2, hB2⟩
                case measure => simp [intOf]; omega
          · go_wp2
            go_region_with (first
              | (go_at_call 26; refine (turn_any A c l d.id d.st w1.drew (by have := hG.2.2.1; omega) hG.2.2.2.2).mono ?_; rintro e w2 ⟨hr, hb2⟩; have hB2 := since_step hB1.drew hb2; have hG2 := (show GL w1.drew A c l from hG).below hb2; have u0 := (hb2.cell (p := ⟨b, o + k * 15, none⟩) hb1r).trans t0; have hb2r : b < w2.heap.size := Nat.lt_of_lt_of_le hb1r hb2.size; clear hb2 t0 t2 t3; rcases hr with ⟨_, rfl⟩ | ⟨he, _⟩; rotate_left; exact absurd he hT))
            all_goals
              have HT : (turnE l d.id d.st == 0) = false := by simpa using hT
              go_wp2
              go_roundw
              case rel => exact ⟨k + 1, A, c, l, by omega, by go_num, rfl, hG2, hB2⟩
              case measure => simp [intOf]; omega
    · rcases (show (k < D.length ∧ ¬ k < 90) ∨ ¬ k < D.length by omega) with ⟨hx1, hx2⟩ | hx1
      all_goals
        clear hlt hk
        go_wp2_with fail
        refine (late_any A c l a1 _ (by have := hL.2.2.1; omega) hL.2.2.2.2).mono ?_
        rintro e w1 ⟨⟨AL, cL, rfl, hsL⟩, hb1⟩
        have hB1 := since_step hB hb1
        have hL1 := hL.below hb1
        clear hb1 hL hB hd
        have h64 := hL1.2.2.1
        have hll : (lateL l a1).length ≤ 64 := Nat.le_trans (lateL_length l a1) h64
        have hids := hL1.2.2.2.1
        go_wp2_with fail
        go_loopw [12, 14] (fun v i wr => ∃ (j : Nat) (A2 : Option Addr) (c2 : Nat), j ≤ (lateL l a1).length ∧ i = .int .i64 j ∧ v = .slice A2 l.length c2 ∧ GL wr A2 c2 (exL l a1 ((lateL l a1).take j)) ∧ Below w1.heap.size w1 wr) (fun _ i _ => (lateL l a1).length - (intOf i).toNat)
        case atStart => exact ⟨0, A, c, by omega, rfl, rfl, by rw [List.take_zero, exL_nil]; exact hL1, Below.refl _ _⟩
        case round =>
          obtain ⟨j, A2, c2, hj, rfl, rfl, hG, hB2⟩ := hrel
          by_cases hlt2 : j < (lateL l a1).length
          · obtain ⟨hT, hN⟩ := late_step hids a1 j hlt2
            have hsL2 := hsL.below hB2
            obtain ⟨bL, oL, rfl, hz⟩ := hsL2.int hlt2
            have step := turn_any A2 c2 (exL l a1 ((lateL l a1).take j)) (lateL l a1)[j] 5 wr (by rw [exL_length]; omega) hG.2.2.2.2
            rw [exL_length] at step
            have HGT := Lib.hid (fun w' A' c' => GL.turn (w' := w') (A' := A') (c' := c') hG hT)
            have HN := Lib.hid hN
            have HT := Lib.hid hT
            clear hN hT hG
            generalize (lateL l a1)[j] = x at *
            go_wp2_with fail
            refine step.mono ?_
            rintro e w2 ⟨hr, hb2⟩
            rcases hr with ⟨hne, _⟩ | ⟨_, A3, c3, rfl, hc3, hs3⟩
            · exact absurd HT.out hne
            have hB3 := since_step hB2 hb2
            clear step
            go_wp2_with fail
            go_roundw
            case rel => exact ⟨j + 1, A3, c3, by omega, by go_num, rfl, by rw [← HN.out]; exact HGT.out _ _ _ (by rw [exL_length]; exact hc3) hs3, hB3⟩
            case measure => simp [intOf]; omega
          · obtain rfl : j = (lateL l a1).length := by omega
            rw [List.take_length] at hG
            have hL2 := hL1.below hB2
            have hB4 := since_step hB1 hB2
            have HNO := Lib.hid (late_none l a1)
            have HAL := Lib.hid (fun k hk => late_all (l := l) a1 k hk)
            have hlen := exL_length l a1 (lateL l a1)
            have hget := fun k h h2 => exL_get l a1 (lateL l a1) k h h2
            generalize exL l a1 (lateL l a1) = N at *
            have HGET := Lib.hid hget
            have HLEN := Lib.hid hlen
            have HG := Lib.hid hG
            have HL2 := Lib.hid hL2
            have hG64 := hG.2.2.1
            clear hget hG hL2 hL1 hsL hids hlen
            generalize (lateL l a1).length = nl at *
            clear hB1 hB2
            generalize wr = wz at *
            go_wp2_with fail
            go_loopw [17] (fun i3 wr3 => ∃ k3 : Nat, k3 ≤ l.length ∧ i3 = .int .i64 k3 ∧ Below wz.heap.size wz wr3) (fun i3 _ => l.length - (intOf i3).toNat)
            case atStart => exact ⟨0, by omega, rfl, Below.refl _ _⟩
            case round =>
              obtain ⟨k3, hk3, rfl, hB5⟩ := hrel
              by_cases h3 : k3 < l.length
              · have h3N : k3 < N.length := by rw [HLEN.out]; exact h3
                obtain ⟨b1, o1, rfl, hb1w, hg1⟩ := HL2.out.2.2.2.2.give h3
                have hg1 := hg1.keep (w' := wr) fun i => hB5.cell (p := ⟨b1, i, none⟩) hb1w
                have hb1r : b1 < wr.heap.size := Nat.lt_of_lt_of_le hb1w hB5.size
                obtain ⟨b2, o2, rfl, hb2w, hg2⟩ := HG.out.2.2.2.2.give h3N
                have hg2 := hg2.keep (w' := wr) fun i => hB5.cell (p := ⟨b2, i, none⟩) hb2w
                have hb2r : b2 < wr.heap.size := Nat.lt_of_lt_of_le hb2w hB5.size
                have he : N[k3] = if ovr a1 l[k3] = true then { l[k3] with st := 5 } else l[k3] := (HGET.out k3 h3N h3).trans (HAL.out k3 h3)
                have ew : IntKind.i64.wrap ((k3 : Int) + 1) = (k3 : Int) + 1 := IntWalk.i64_in _ (by omega)
                have ee : ((l.length : Int) != (l.length : Int)) = false := by simp
                rw [he] at hg2
                clear he
                generalize l[k3] = y at *
                cases hq1 : (y.st == 1) with
                | false =>
                  rw [if_neg (by unfold ovr; rw [hq1]; simp)] at hg2
                  obtain ⟨p0, p1, p2, p3, p4, p5, p6, p7, p8, p9, p10⟩ := hg1
                  obtain ⟨q0, q1, q2, q3, q4, q5, q6, q7, q8, q9, q10⟩ := hg2
                  try dsimp only at q0 q1 q2 q3 q4 q5 q6 q7 q8 q9 q10
                  go_wp2
                  go_quiet (fail)
                  go_wp2
                  go_roundw
                  case rel => exact ⟨k3 + 1, by omega, by go_num, below_drewN hB5 _⟩
                  case measure => simp [intOf]; omega
                | true =>
                  cases hq2 : decide (y.day < a1) with
                  | false =>
                    rw [if_neg (by unfold ovr; rw [hq2]; simp)] at hg2
                    obtain ⟨p0, p1, p2, p3, p4, p5, p6, p7, p8, p9, p10⟩ := hg1
                    obtain ⟨q0, q1, q2, q3, q4, q5, q6, q7, q8, q9, q10⟩ := hg2
                    try dsimp only at q0 q1 q2 q3 q4 q5 q6 q7 q8 q9 q10
                    go_wp2
                    go_quiet (fail)
                    go_wp2
                    go_roundw
                    case rel => exact ⟨k3 + 1, by omega, by go_num, below_drewN hB5 _⟩
                    case measure => simp [intOf]; omega
                  | true =>
                    rw [if_pos (by unfold ovr; rw [hq1, hq2]; rfl)] at hg2
                    have hst : y.st = 1 := by simpa using hq1
                    obtain ⟨p0, p1, p2, p3, p4, p5, p6, p7, p8, p9, p10⟩ := hg1
                    obtain ⟨q0, q1, q2, q3, q4, q5, q6, q7, q8, q9, q10⟩ := hg2
                    try dsimp only at q0 q1 q2 q3 q4 q5 q6 q7 q8 q9 q10
                    rw [hst] at p10
                    go_wp2
                    go_quiet (fail)
                    go_wp2
                    go_roundw
                    case rel => exact ⟨k3 + 1, by omega, by go_num, below_drewN hB5 _⟩
                    case measure => simp [intOf]; omega
              · obtain rfl : k3 = l.length := by omega
                have step := late_any A2 c2 N a1 wr (by rw [HLEN.out]; omega) ((HG.out.below hB5).2.2.2.2)
                rw [HLEN.out, HNO.out] at step
                have hB6 := since_step hB4 hB5
                go_wp2_with fail
                refine step.mono ?_
                rintro e w7 ⟨⟨A7, c7, rfl, _⟩, hb7⟩
                have hB7 := since_step hB6 hb7
                clear step
                go_wp2_with fail
                refine (lives23_any _).mono ?_
                rintro e w8 ⟨rfl, hb8⟩
                have hB8 := since_step hB7 hb8
                go_wp2_with fail
                go_ret
                exact ⟨rfl, hB8⟩
end Go.Proofs.Ytaaknohoaijfhaa
