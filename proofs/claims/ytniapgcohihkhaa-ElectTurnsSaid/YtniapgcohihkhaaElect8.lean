/-
  Layer 16, eighth part: ElectTurns: the walk (laid by gen_elect8.py).
-/
import Derived.Test.YtniapgcohihkhaaElectM2
namespace Go.Proofs.Ytniapgcohihkhaa
open Go.ChangeShapes Go.WideShapes Go.ChangeAt Go.RowKit
set_option linter.unusedVariables false
set_option linter.unusedSimpArgs false

set_option maxHeartbeats 8000000 in
set_option maxRecDepth 100000 in
theorem walk_ElectTurns (a0 : Option Addr) (n0 c0 : Nat) (a1 : Array Value) (a2 : Array Value) (a3 : Array Value) (a4 : Array Value) (w : World) (w0 : Rd w (.sl (.cat (.cat (.int .i64) (.cat (.int .i64) .nil)) (.cat (.cat (.int .i64) (.cat (.int .i64) .nil)) (.cat .bool .nil)))) [.slice a0 n0 c0]) (w1 : Rd w (.cat (.int .i64) (.cat (.int .i64) .nil)) a1.toList) (w2 : Rd w (.cat (.int .i64) (.cat (.int .i64) .nil)) a2.toList) (w3 : Rd w (.cat (.int .i64) (.cat (.int .i64) .nil)) a3.toList) (w4 : Rd w (.cat (.int .i64) (.cat (.int .i64) .nil)) a4.toList) :
    Calls Try.prog 9 #[.slice a0 n0 c0, .agg a1, .agg a2, .agg a3, .agg a4] w fun e w' => e = .returned (.bool true) ∧ Below w.heap.size w w' := by
  obtain ⟨l0, rfl, hn0, hcm, hsl⟩ := rd_rows (f := Ch.cells) (fun r => rd_ch) w0
  obtain ⟨a, ac, rfl⟩ := rd_two w1
  obtain ⟨b, bc, rfl⟩ := rd_two w2
  obtain ⟨c, cc, rfl⟩ := rd_two w3
  obtain ⟨d, dc, rfl⟩ := rd_two w4
  clear w0 w1 w2 w3 w4
  have hBW := (since_alloc (since_alloc (since_alloc (since_alloc (Below.refl _ w) (.cells #[.int .i64 a, .int .i64 ac] 44)) (.cells #[.int .i64 b, .int .i64 bc] 44)) (.cells #[.int .i64 c, .int .i64 cc] 44)) (.cells #[.int .i64 d, .int .i64 dc] 44))
  have hU0 : UAt ((((w.alloc (.cells #[.int .i64 a, .int .i64 ac] 44)).alloc (.cells #[.int .i64 b, .int .i64 bc] 44)).alloc (.cells #[.int .i64 c, .int .i64 cc] 44)).alloc (.cells #[.int .i64 d, .int .i64 dc] 44)) (w.heap.size) a ac := by
    have h := (UAt.below (UAt.below (UAt.below (UAt.new w a ac 44) ((Below.refl _ _).alloc (Nat.le_refl _) (.cells #[.int .i64 b, .int .i64 bc] 44))) ((Below.refl _ _).alloc (Nat.le_refl _) (.cells #[.int .i64 c, .int .i64 cc] 44))) ((Below.refl _ _).alloc (Nat.le_refl _) (.cells #[.int .i64 d, .int .i64 dc] 44)))
    simpa only [World.size_alloc, Nat.add_assoc] using h
  have hU1 : UAt ((((w.alloc (.cells #[.int .i64 a, .int .i64 ac] 44)).alloc (.cells #[.int .i64 b, .int .i64 bc] 44)).alloc (.cells #[.int .i64 c, .int .i64 cc] 44)).alloc (.cells #[.int .i64 d, .int .i64 dc] 44)) (w.heap.size + 1) b bc := by
    have h := (UAt.below (UAt.below (UAt.new (w.alloc (.cells #[.int .i64 a, .int .i64 ac] 44)) b bc 44) ((Below.refl _ _).alloc (Nat.le_refl _) (.cells #[.int .i64 c, .int .i64 cc] 44))) ((Below.refl _ _).alloc (Nat.le_refl _) (.cells #[.int .i64 d, .int .i64 dc] 44)))
    simpa only [World.size_alloc, Nat.add_assoc] using h
  have hU2 : UAt ((((w.alloc (.cells #[.int .i64 a, .int .i64 ac] 44)).alloc (.cells #[.int .i64 b, .int .i64 bc] 44)).alloc (.cells #[.int .i64 c, .int .i64 cc] 44)).alloc (.cells #[.int .i64 d, .int .i64 dc] 44)) (w.heap.size + 2) c cc := by
    have h := (UAt.below (UAt.new ((w.alloc (.cells #[.int .i64 a, .int .i64 ac] 44)).alloc (.cells #[.int .i64 b, .int .i64 bc] 44)) c cc 44) ((Below.refl _ _).alloc (Nat.le_refl _) (.cells #[.int .i64 d, .int .i64 dc] 44)))
    simpa only [World.size_alloc, Nat.add_assoc] using h
  have hU3 : UAt ((((w.alloc (.cells #[.int .i64 a, .int .i64 ac] 44)).alloc (.cells #[.int .i64 b, .int .i64 bc] 44)).alloc (.cells #[.int .i64 c, .int .i64 cc] 44)).alloc (.cells #[.int .i64 d, .int .i64 dc] 44)) (w.heap.size + 3) d dc := by
    have h := (UAt.new (((w.alloc (.cells #[.int .i64 a, .int .i64 ac] 44)).alloc (.cells #[.int .i64 b, .int .i64 bc] 44)).alloc (.cells #[.int .i64 c, .int .i64 cc] 44)) d dc 44)
    simpa only [World.size_alloc, Nat.add_assoc] using h
  have hs0 := (Sl.alloc (Sl.alloc (Sl.alloc (Sl.alloc hsl (.cells #[.int .i64 a, .int .i64 ac] 44)) (.cells #[.int .i64 b, .int .i64 bc] 44)) (.cells #[.int .i64 c, .int .i64 cc] 44)) (.cells #[.int .i64 d, .int .i64 dc] 44))
  have HFW := Lib.hid (few_any a0 c0 l0 ((((w.alloc (.cells #[.int .i64 a, .int .i64 ac] 44)).alloc (.cells #[.int .i64 b, .int .i64 bc] 44)).alloc (.cells #[.int .i64 c, .int .i64 cc] 44)).alloc (.cells #[.int .i64 d, .int .i64 dc] 44)) hn0 hcm hs0)
  have hl20 : (l0.take 20).length ≤ 20 := by simp; omega
  have hs : Sl ((((w.alloc (.cells #[.int .i64 a, .int .i64 ac] 44)).alloc (.cells #[.int .i64 b, .int .i64 bc] 44)).alloc (.cells #[.int .i64 c, .int .i64 cc] 44)).alloc (.cells #[.int .i64 d, .int .i64 dc] 44)) a0 (rc Ch.cells (l0.take 20)) := by
    rw [← rc_take Ch.len]; exact hs0.take _
  clear hs0 hsl
  go_enter Try.func9, Try.ntmps9
  go_wp2_with fail
  refine HFW.out.mono ?_
  rintro e _ ⟨rfl, rfl⟩
  generalize l0.take 20 = l at *
  generalize ((((w.alloc (.cells #[.int .i64 a, .int .i64 ac] 44)).alloc (.cells #[.int .i64 b, .int .i64 bc] 44)).alloc (.cells #[.int .i64 c, .int .i64 cc] 44)).alloc (.cells #[.int .i64 d, .int .i64 dc] 44)) = W at *
  generalize a0 = A at *
  generalize c0 = cap at *
  have hB3 := hBW
  clear HFW hn0 hcm
  by_cases hab : a = b ∧ ac = bc
  · obtain ⟨rfl, rfl⟩ := hab
    obtain ⟨u0, u1, u2⟩ := id hU0
    obtain ⟨v0, v1, v2⟩ := id hU1
    obtain ⟨x0, x1, x2⟩ := id hU2
    obtain ⟨y0, y1, y2⟩ := id hU3
    go_wp2_with fail
    refine (lives16_any _).mono ?_
    rintro e z1 ⟨rfl, hb⟩
    have hB3 := since_step hB3 hb
    have hs := hs.below hb
    have hU0 := hU0.below hb
    have hU1 := hU1.below hb
    have hU2 := hU2.below hb
    have hU3 := hU3.below hb
    clear hb
    clear u0 u1 u2 v0 v1 v2 x0 x1 x2 y0 y1 y2
    obtain ⟨u0, u1, u2⟩ := id hU0
    obtain ⟨v0, v1, v2⟩ := id hU1
    obtain ⟨x0, x1, x2⟩ := id hU2
    obtain ⟨y0, y1, y2⟩ := id hU3
    go_wp2_with fail
    go_ret
    exact ⟨rfl, hB3⟩
  · have HAB := Lib.hid hab
    have hab2 : a ≠ b ∨ (a = b ∧ ac ≠ bc) := by
      by_cases h : a = b
      · exact .inr ⟨h, fun h2 => hab ⟨h, h2⟩⟩
      · exact .inl h
    clear hab
    obtain ⟨q, hq⟩ : ∃ q, isC l = q := ⟨_, rfl⟩
    have HQ := Lib.hid hq
    cases q with
    | false =>
      clear hq
      rcases hab2 with hab | ⟨rfl, hab⟩
      · obtain ⟨u0, u1, u2⟩ := id hU0
        obtain ⟨v0, v1, v2⟩ := id hU1
        obtain ⟨x0, x1, x2⟩ := id hU2
        obtain ⟨y0, y1, y2⟩ := id hU3
        go_wp2_with fail
        refine (eis_any A cap l _ (by omega) hs).mono ?_
        rw [HQ.out]
        rintro e z1 ⟨rfl, hb⟩
        have hB3 := since_step hB3 hb
        have hs := hs.below hb
        have hU0 := hU0.below hb
        have hU1 := hU1.below hb
        have hU2 := hU2.below hb
        have hU3 := hU3.below hb
        clear hb
        clear u0 u1 u2 v0 v1 v2 x0 x1 x2 y0 y1 y2
        obtain ⟨u0, u1, u2⟩ := id hU0
        obtain ⟨v0, v1, v2⟩ := id hU1
        obtain ⟨x0, x1, x2⟩ := id hU2
        obtain ⟨y0, y1, y2⟩ := id hU3
        go_wp2_with fail
        refine (lives16_any _).mono ?_
        rintro e z2 ⟨rfl, hb⟩
        have hB3 := since_step hB3 hb
        have hs := hs.below hb
        have hU0 := hU0.below hb
        have hU1 := hU1.below hb
        have hU2 := hU2.below hb
        have hU3 := hU3.below hb
        clear hb
        clear u0 u1 u2 v0 v1 v2 x0 x1 x2 y0 y1 y2
        obtain ⟨u0, u1, u2⟩ := id hU0
        obtain ⟨v0, v1, v2⟩ := id hU1
        obtain ⟨x0, x1, x2⟩ := id hU2
        obtain ⟨y0, y1, y2⟩ := id hU3
        go_wp2_with fail
        go_ret
        exact ⟨rfl, hB3⟩
      · obtain ⟨u0, u1, u2⟩ := id hU0
        obtain ⟨v0, v1, v2⟩ := id hU1
        obtain ⟨x0, x1, x2⟩ := id hU2
        obtain ⟨y0, y1, y2⟩ := id hU3
        go_wp2_with fail
        refine (eis_any A cap l _ (by omega) hs).mono ?_
        rw [HQ.out]
        rintro e z1 ⟨rfl, hb⟩
        have hB3 := since_step hB3 hb
        have hs := hs.below hb
        have hU0 := hU0.below hb
        have hU1 := hU1.below hb
        have hU2 := hU2.below hb
        have hU3 := hU3.below hb
        clear hb
        clear u0 u1 u2 v0 v1 v2 x0 x1 x2 y0 y1 y2
        obtain ⟨u0, u1, u2⟩ := id hU0
        obtain ⟨v0, v1, v2⟩ := id hU1
        obtain ⟨x0, x1, x2⟩ := id hU2
        obtain ⟨y0, y1, y2⟩ := id hU3
        go_wp2_with fail
        refine (lives16_any _).mono ?_
        rintro e z2 ⟨rfl, hb⟩
        have hB3 := since_step hB3 hb
        have hs := hs.below hb
        have hU0 := hU0.below hb
        have hU1 := hU1.below hb
        have hU2 := hU2.below hb
        have hU3 := hU3.below hb
        clear hb
        clear u0 u1 u2 v0 v1 v2 x0 x1 x2 y0 y1 y2
        obtain ⟨u0, u1, u2⟩ := id hU0
        obtain ⟨v0, v1, v2⟩ := id hU1
        obtain ⟨x0, x1, x2⟩ := id hU2
        obtain ⟨y0, y1, y2⟩ := id hU3
        go_wp2_with fail
        go_ret
        exact ⟨rfl, hB3⟩
    | true =>
      by_cases h1 : a = c ∧ ac = cc
      · have HE1 : Hid (electR l a ac c cc = (24, [])) := Lib.hid (by rw [electR, if_neg (by rw [hq]; decide), if_pos h1])
        by_cases h2 : b = d ∧ bc = dc
        · have HE2 : Hid (electR l b bc d dc = (24, [])) := Lib.hid (by rw [electR, if_neg (by rw [hq]; decide), if_pos h2])
          clear hq
          obtain ⟨rfl, rfl⟩ := h1
          obtain ⟨rfl, rfl⟩ := h2
          rcases hab2 with hab | ⟨rfl, hab⟩
          · obtain ⟨u0, u1, u2⟩ := id hU0
            obtain ⟨v0, v1, v2⟩ := id hU1
            obtain ⟨x0, x1, x2⟩ := id hU2
            obtain ⟨y0, y1, y2⟩ := id hU3
            go_wp2_with fail
            refine (eis_any A cap l _ (by omega) hs).mono ?_
            rw [HQ.out]
            rintro e z1 ⟨rfl, hb⟩
            have hB3 := since_step hB3 hb
            have hs := hs.below hb
            have hU0 := hU0.below hb
            have hU1 := hU1.below hb
            have hU2 := hU2.below hb
            have hU3 := hU3.below hb
            clear hb
            clear u0 u1 u2 v0 v1 v2 x0 x1 x2 y0 y1 y2
            obtain ⟨u0, u1, u2⟩ := id hU0
            obtain ⟨v0, v1, v2⟩ := id hU1
            obtain ⟨x0, x1, x2⟩ := id hU2
            obtain ⟨y0, y1, y2⟩ := id hU3
            go_wp2_with fail
            refine (eelect_any A cap l a ac a ac _ (by omega) hs).mono ?_
            rw [HE1.out]
            rintro e z2 ⟨⟨AX, cX, rfl, hown⟩, hb⟩
            have hB3 := since_step hB3 hb
            have hs := hs.below hb
            have hU0 := hU0.below hb
            have hU1 := hU1.below hb
            have hU2 := hU2.below hb
            have hU3 := hU3.below hb
            clear hb
            clear u0 u1 u2 v0 v1 v2 x0 x1 x2 y0 y1 y2
            have hX := Sl.of_own hown
            clear hown
            obtain ⟨u0, u1, u2⟩ := id hU0
            obtain ⟨v0, v1, v2⟩ := id hU1
            obtain ⟨x0, x1, x2⟩ := id hU2
            obtain ⟨y0, y1, y2⟩ := id hU3
            go_wp2_with fail
            refine (eelect_any A cap l b bc b bc _ (by omega) hs).mono ?_
            rw [HE2.out]
            rintro e z3 ⟨⟨AY, cY, rfl, hown⟩, hb⟩
            have hB3 := since_step hB3 hb
            have hs := hs.below hb
            have hU0 := hU0.below hb
            have hU1 := hU1.below hb
            have hU2 := hU2.below hb
            have hU3 := hU3.below hb
            have hX := hX.below hb
            clear hb
            clear u0 u1 u2 v0 v1 v2 x0 x1 x2 y0 y1 y2
            have hY := Sl.of_own hown
            clear hown
            obtain ⟨u0, u1, u2⟩ := id hU0
            obtain ⟨v0, v1, v2⟩ := id hU1
            obtain ⟨x0, x1, x2⟩ := id hU2
            obtain ⟨y0, y1, y2⟩ := id hU3
            go_wp2_with fail
            refine (lives16_any _).mono ?_
            rintro e z4 ⟨rfl, hb⟩
            have hB3 := since_step hB3 hb
            have hs := hs.below hb
            have hU0 := hU0.below hb
            have hU1 := hU1.below hb
            have hU2 := hU2.below hb
            have hU3 := hU3.below hb
            have hX := hX.below hb
            have hY := hY.below hb
            clear hb
            clear u0 u1 u2 v0 v1 v2 x0 x1 x2 y0 y1 y2
            obtain ⟨u0, u1, u2⟩ := id hU0
            obtain ⟨v0, v1, v2⟩ := id hU1
            obtain ⟨x0, x1, x2⟩ := id hU2
            obtain ⟨y0, y1, y2⟩ := id hU3
            go_wp2_with fail
            go_ret
            exact ⟨rfl, hB3⟩
          · obtain ⟨u0, u1, u2⟩ := id hU0
            obtain ⟨v0, v1, v2⟩ := id hU1
            obtain ⟨x0, x1, x2⟩ := id hU2
            obtain ⟨y0, y1, y2⟩ := id hU3
            go_wp2_with fail
            refine (eis_any A cap l _ (by omega) hs).mono ?_
            rw [HQ.out]
            rintro e z1 ⟨rfl, hb⟩
            have hB3 := since_step hB3 hb
            have hs := hs.below hb
            have hU0 := hU0.below hb
            have hU1 := hU1.below hb
            have hU2 := hU2.below hb
            have hU3 := hU3.below hb
            clear hb
            clear u0 u1 u2 v0 v1 v2 x0 x1 x2 y0 y1 y2
            obtain ⟨u0, u1, u2⟩ := id hU0
            obtain ⟨v0, v1, v2⟩ := id hU1
            obtain ⟨x0, x1, x2⟩ := id hU2
            obtain ⟨y0, y1, y2⟩ := id hU3
            go_wp2_with fail
            refine (eelect_any A cap l a ac a ac _ (by omega) hs).mono ?_
            rw [HE1.out]
            rintro e z2 ⟨⟨AX, cX, rfl, hown⟩, hb⟩
            have hB3 := since_step hB3 hb
            have hs := hs.below hb
            have hU0 := hU0.below hb
            have hU1 := hU1.below hb
            have hU2 := hU2.below hb
            have hU3 := hU3.below hb
            clear hb
            clear u0 u1 u2 v0 v1 v2 x0 x1 x2 y0 y1 y2
            have hX := Sl.of_own hown
            clear hown
            obtain ⟨u0, u1, u2⟩ := id hU0
            obtain ⟨v0, v1, v2⟩ := id hU1
            obtain ⟨x0, x1, x2⟩ := id hU2
            obtain ⟨y0, y1, y2⟩ := id hU3
            go_wp2_with fail
            refine (eelect_any A cap l a bc a bc _ (by omega) hs).mono ?_
            rw [HE2.out]
            rintro e z3 ⟨⟨AY, cY, rfl, hown⟩, hb⟩
            have hB3 := since_step hB3 hb
            have hs := hs.below hb
            have hU0 := hU0.below hb
            have hU1 := hU1.below hb
            have hU2 := hU2.below hb
            have hU3 := hU3.below hb
            have hX := hX.below hb
            clear hb
            clear u0 u1 u2 v0 v1 v2 x0 x1 x2 y0 y1 y2
            have hY := Sl.of_own hown
            clear hown
            obtain ⟨u0, u1, u2⟩ := id hU0
            obtain ⟨v0, v1, v2⟩ := id hU1
            obtain ⟨x0, x1, x2⟩ := id hU2
            obtain ⟨y0, y1, y2⟩ := id hU3
            go_wp2_with fail
            refine (lives16_any _).mono ?_
            rintro e z4 ⟨rfl, hb⟩
            have hB3 := since_step hB3 hb
            have hs := hs.below hb
            have hU0 := hU0.below hb
            have hU1 := hU1.below hb
            have hU2 := hU2.below hb
            have hU3 := hU3.below hb
            have hX := hX.below hb
            have hY := hY.below hb
            clear hb
            clear u0 u1 u2 v0 v1 v2 x0 x1 x2 y0 y1 y2
            obtain ⟨u0, u1, u2⟩ := id hU0
            obtain ⟨v0, v1, v2⟩ := id hU1
            obtain ⟨x0, x1, x2⟩ := id hU2
            obtain ⟨y0, y1, y2⟩ := id hU3
            go_wp2_with fail
            go_ret
            exact ⟨rfl, hB3⟩
        · have HE2 : Hid (electR l b bc d dc = (0, putR ahC l ⟨b, bc, d, dc, false⟩)) := Lib.hid (by rw [electR, if_neg (by rw [hq]; decide), if_neg h2])
          clear hq
          obtain ⟨rfl, rfl⟩ := h1
          have h3 : b ≠ d ∨ (b = d ∧ bc ≠ dc) := by
            by_cases h : b = d
            · exact .inr ⟨h, fun h4 => h2 ⟨h, h4⟩⟩
            · exact .inl h
          clear h2
          rcases hab2 with hab | ⟨rfl, hab⟩
          all_goals rcases h3 with h3 | ⟨rfl, h3⟩
          · obtain ⟨u0, u1, u2⟩ := id hU0
            obtain ⟨v0, v1, v2⟩ := id hU1
            obtain ⟨x0, x1, x2⟩ := id hU2
            obtain ⟨y0, y1, y2⟩ := id hU3
            go_wp2_with fail
            refine (eis_any A cap l _ (by omega) hs).mono ?_
            rw [HQ.out]
            rintro e z1 ⟨rfl, hb⟩
            have hB3 := since_step hB3 hb
            have hs := hs.below hb
            have hU0 := hU0.below hb
            have hU1 := hU1.below hb
            have hU2 := hU2.below hb
            have hU3 := hU3.below hb
            clear hb
            clear u0 u1 u2 v0 v1 v2 x0 x1 x2 y0 y1 y2
            obtain ⟨u0, u1, u2⟩ := id hU0
            obtain ⟨v0, v1, v2⟩ := id hU1
            obtain ⟨x0, x1, x2⟩ := id hU2
            obtain ⟨y0, y1, y2⟩ := id hU3
            go_wp2_with fail
            refine (eelect_any A cap l a ac a ac _ (by omega) hs).mono ?_
            rw [HE1.out]
            rintro e z2 ⟨⟨AX, cX, rfl, hown⟩, hb⟩
            have hB3 := since_step hB3 hb
            have hs := hs.below hb
            have hU0 := hU0.below hb
            have hU1 := hU1.below hb
            have hU2 := hU2.below hb
            have hU3 := hU3.below hb
            clear hb
            clear u0 u1 u2 v0 v1 v2 x0 x1 x2 y0 y1 y2
            have hX := Sl.of_own hown
            clear hown
            obtain ⟨u0, u1, u2⟩ := id hU0
            obtain ⟨v0, v1, v2⟩ := id hU1
            obtain ⟨x0, x1, x2⟩ := id hU2
            obtain ⟨y0, y1, y2⟩ := id hU3
            go_wp2_with fail
            refine (eelect_any A cap l b bc d dc _ (by omega) hs).mono ?_
            rw [HE2.out]
            rintro e z3 ⟨⟨AY, cY, rfl, hown⟩, hb⟩
            have hB3 := since_step hB3 hb
            have hs := hs.below hb
            have hU0 := hU0.below hb
            have hU1 := hU1.below hb
            have hU2 := hU2.below hb
            have hU3 := hU3.below hb
            have hX := hX.below hb
            clear hb
            clear u0 u1 u2 v0 v1 v2 x0 x1 x2 y0 y1 y2
            have hY := Sl.of_own hown
            clear hown
            obtain ⟨u0, u1, u2⟩ := id hU0
            obtain ⟨v0, v1, v2⟩ := id hU1
            obtain ⟨x0, x1, x2⟩ := id hU2
            obtain ⟨y0, y1, y2⟩ := id hU3
            go_wp2_with fail
            refine (lives16_any _).mono ?_
            rintro e z4 ⟨rfl, hb⟩
            have hB3 := since_step hB3 hb
            have hs := hs.below hb
            have hU0 := hU0.below hb
            have hU1 := hU1.below hb
            have hU2 := hU2.below hb
            have hU3 := hU3.below hb
            have hX := hX.below hb
            have hY := hY.below hb
            clear hb
            clear u0 u1 u2 v0 v1 v2 x0 x1 x2 y0 y1 y2
            obtain ⟨u0, u1, u2⟩ := id hU0
            obtain ⟨v0, v1, v2⟩ := id hU1
            obtain ⟨x0, x1, x2⟩ := id hU2
            obtain ⟨y0, y1, y2⟩ := id hU3
            go_wp2_with fail
            go_ret
            exact ⟨rfl, hB3⟩
          · obtain ⟨u0, u1, u2⟩ := id hU0
            obtain ⟨v0, v1, v2⟩ := id hU1
            obtain ⟨x0, x1, x2⟩ := id hU2
            obtain ⟨y0, y1, y2⟩ := id hU3
            go_wp2_with fail
            refine (eis_any A cap l _ (by omega) hs).mono ?_
            rw [HQ.out]
            rintro e z1 ⟨rfl, hb⟩
            have hB3 := since_step hB3 hb
            have hs := hs.below hb
            have hU0 := hU0.below hb
            have hU1 := hU1.below hb
            have hU2 := hU2.below hb
            have hU3 := hU3.below hb
            clear hb
            clear u0 u1 u2 v0 v1 v2 x0 x1 x2 y0 y1 y2
            obtain ⟨u0, u1, u2⟩ := id hU0
            obtain ⟨v0, v1, v2⟩ := id hU1
            obtain ⟨x0, x1, x2⟩ := id hU2
            obtain ⟨y0, y1, y2⟩ := id hU3
            go_wp2_with fail
            refine (eelect_any A cap l a ac a ac _ (by omega) hs).mono ?_
            rw [HE1.out]
            rintro e z2 ⟨⟨AX, cX, rfl, hown⟩, hb⟩
            have hB3 := since_step hB3 hb
            have hs := hs.below hb
            have hU0 := hU0.below hb
            have hU1 := hU1.below hb
            have hU2 := hU2.below hb
            have hU3 := hU3.below hb
            clear hb
            clear u0 u1 u2 v0 v1 v2 x0 x1 x2 y0 y1 y2
            have hX := Sl.of_own hown
            clear hown
            obtain ⟨u0, u1, u2⟩ := id hU0
            obtain ⟨v0, v1, v2⟩ := id hU1
            obtain ⟨x0, x1, x2⟩ := id hU2
            obtain ⟨y0, y1, y2⟩ := id hU3
            go_wp2_with fail
            refine (eelect_any A cap l b bc b dc _ (by omega) hs).mono ?_
            rw [HE2.out]
            rintro e z3 ⟨⟨AY, cY, rfl, hown⟩, hb⟩
            have hB3 := since_step hB3 hb
            have hs := hs.below hb
            have hU0 := hU0.below hb
            have hU1 := hU1.below hb
            have hU2 := hU2.below hb
            have hU3 := hU3.below hb
            have hX := hX.below hb
            clear hb
            clear u0 u1 u2 v0 v1 v2 x0 x1 x2 y0 y1 y2
            have hY := Sl.of_own hown
            clear hown
            obtain ⟨u0, u1, u2⟩ := id hU0
            obtain ⟨v0, v1, v2⟩ := id hU1
            obtain ⟨x0, x1, x2⟩ := id hU2
            obtain ⟨y0, y1, y2⟩ := id hU3
            go_wp2_with fail
            refine (lives16_any _).mono ?_
            rintro e z4 ⟨rfl, hb⟩
            have hB3 := since_step hB3 hb
            have hs := hs.below hb
            have hU0 := hU0.below hb
            have hU1 := hU1.below hb
            have hU2 := hU2.below hb
            have hU3 := hU3.below hb
            have hX := hX.below hb
            have hY := hY.below hb
            clear hb
            clear u0 u1 u2 v0 v1 v2 x0 x1 x2 y0 y1 y2
            obtain ⟨u0, u1, u2⟩ := id hU0
            obtain ⟨v0, v1, v2⟩ := id hU1
            obtain ⟨x0, x1, x2⟩ := id hU2
            obtain ⟨y0, y1, y2⟩ := id hU3
            go_wp2_with fail
            go_ret
            exact ⟨rfl, hB3⟩
          · obtain ⟨u0, u1, u2⟩ := id hU0
            obtain ⟨v0, v1, v2⟩ := id hU1
            obtain ⟨x0, x1, x2⟩ := id hU2
            obtain ⟨y0, y1, y2⟩ := id hU3
            go_wp2_with fail
            refine (eis_any A cap l _ (by omega) hs).mono ?_
            rw [HQ.out]
            rintro e z1 ⟨rfl, hb⟩
            have hB3 := since_step hB3 hb
            have hs := hs.below hb
            have hU0 := hU0.below hb
            have hU1 := hU1.below hb
            have hU2 := hU2.below hb
            have hU3 := hU3.below hb
            clear hb
            clear u0 u1 u2 v0 v1 v2 x0 x1 x2 y0 y1 y2
            obtain ⟨u0, u1, u2⟩ := id hU0
            obtain ⟨v0, v1, v2⟩ := id hU1
            obtain ⟨x0, x1, x2⟩ := id hU2
            obtain ⟨y0, y1, y2⟩ := id hU3
            go_wp2_with fail
            refine (eelect_any A cap l a ac a ac _ (by omega) hs).mono ?_
            rw [HE1.out]
            rintro e z2 ⟨⟨AX, cX, rfl, hown⟩, hb⟩
            have hB3 := since_step hB3 hb
            have hs := hs.below hb
            have hU0 := hU0.below hb
            have hU1 := hU1.below hb
            have hU2 := hU2.below hb
            have hU3 := hU3.below hb
            clear hb
            clear u0 u1 u2 v0 v1 v2 x0 x1 x2 y0 y1 y2
            have hX := Sl.of_own hown
            clear hown
            obtain ⟨u0, u1, u2⟩ := id hU0
            obtain ⟨v0, v1, v2⟩ := id hU1
            obtain ⟨x0, x1, x2⟩ := id hU2
            obtain ⟨y0, y1, y2⟩ := id hU3
            go_wp2_with fail
            refine (eelect_any A cap l a bc d dc _ (by omega) hs).mono ?_
            rw [HE2.out]
            rintro e z3 ⟨⟨AY, cY, rfl, hown⟩, hb⟩
            have hB3 := since_step hB3 hb
            have hs := hs.below hb
            have hU0 := hU0.below hb
            have hU1 := hU1.below hb
            have hU2 := hU2.below hb
            have hU3 := hU3.below hb
            have hX := hX.below hb
            clear hb
            clear u0 u1 u2 v0 v1 v2 x0 x1 x2 y0 y1 y2
            have hY := Sl.of_own hown
            clear hown
            obtain ⟨u0, u1, u2⟩ := id hU0
            obtain ⟨v0, v1, v2⟩ := id hU1
            obtain ⟨x0, x1, x2⟩ := id hU2
            obtain ⟨y0, y1, y2⟩ := id hU3
            go_wp2_with fail
            refine (lives16_any _).mono ?_
            rintro e z4 ⟨rfl, hb⟩
            have hB3 := since_step hB3 hb
            have hs := hs.below hb
            have hU0 := hU0.below hb
            have hU1 := hU1.below hb
            have hU2 := hU2.below hb
            have hU3 := hU3.below hb
            have hX := hX.below hb
            have hY := hY.below hb
            clear hb
            clear u0 u1 u2 v0 v1 v2 x0 x1 x2 y0 y1 y2
            obtain ⟨u0, u1, u2⟩ := id hU0
            obtain ⟨v0, v1, v2⟩ := id hU1
            obtain ⟨x0, x1, x2⟩ := id hU2
            obtain ⟨y0, y1, y2⟩ := id hU3
            go_wp2_with fail
            go_ret
            exact ⟨rfl, hB3⟩
          · obtain ⟨u0, u1, u2⟩ := id hU0
            obtain ⟨v0, v1, v2⟩ := id hU1
            obtain ⟨x0, x1, x2⟩ := id hU2
            obtain ⟨y0, y1, y2⟩ := id hU3
            go_wp2_with fail
            refine (eis_any A cap l _ (by omega) hs).mono ?_
            rw [HQ.out]
            rintro e z1 ⟨rfl, hb⟩
            have hB3 := since_step hB3 hb
            have hs := hs.below hb
            have hU0 := hU0.below hb
            have hU1 := hU1.below hb
            have hU2 := hU2.below hb
            have hU3 := hU3.below hb
            clear hb
            clear u0 u1 u2 v0 v1 v2 x0 x1 x2 y0 y1 y2
            obtain ⟨u0, u1, u2⟩ := id hU0
            obtain ⟨v0, v1, v2⟩ := id hU1
            obtain ⟨x0, x1, x2⟩ := id hU2
            obtain ⟨y0, y1, y2⟩ := id hU3
            go_wp2_with fail
            refine (eelect_any A cap l a ac a ac _ (by omega) hs).mono ?_
            rw [HE1.out]
            rintro e z2 ⟨⟨AX, cX, rfl, hown⟩, hb⟩
            have hB3 := since_step hB3 hb
            have hs := hs.below hb
            have hU0 := hU0.below hb
            have hU1 := hU1.below hb
            have hU2 := hU2.below hb
            have hU3 := hU3.below hb
            clear hb
            clear u0 u1 u2 v0 v1 v2 x0 x1 x2 y0 y1 y2
            have hX := Sl.of_own hown
            clear hown
            obtain ⟨u0, u1, u2⟩ := id hU0
            obtain ⟨v0, v1, v2⟩ := id hU1
            obtain ⟨x0, x1, x2⟩ := id hU2
            obtain ⟨y0, y1, y2⟩ := id hU3
            go_wp2_with fail
            refine (eelect_any A cap l a bc a dc _ (by omega) hs).mono ?_
            rw [HE2.out]
            rintro e z3 ⟨⟨AY, cY, rfl, hown⟩, hb⟩
            have hB3 := since_step hB3 hb
            have hs := hs.below hb
            have hU0 := hU0.below hb
            have hU1 := hU1.below hb
            have hU2 := hU2.below hb
            have hU3 := hU3.below hb
            have hX := hX.below hb
            clear hb
            clear u0 u1 u2 v0 v1 v2 x0 x1 x2 y0 y1 y2
            have hY := Sl.of_own hown
            clear hown
            obtain ⟨u0, u1, u2⟩ := id hU0
            obtain ⟨v0, v1, v2⟩ := id hU1
            obtain ⟨x0, x1, x2⟩ := id hU2
            obtain ⟨y0, y1, y2⟩ := id hU3
            go_wp2_with fail
            refine (lives16_any _).mono ?_
            rintro e z4 ⟨rfl, hb⟩
            have hB3 := since_step hB3 hb
            have hs := hs.below hb
            have hU0 := hU0.below hb
            have hU1 := hU1.below hb
            have hU2 := hU2.below hb
            have hU3 := hU3.below hb
            have hX := hX.below hb
            have hY := hY.below hb
            clear hb
            clear u0 u1 u2 v0 v1 v2 x0 x1 x2 y0 y1 y2
            obtain ⟨u0, u1, u2⟩ := id hU0
            obtain ⟨v0, v1, v2⟩ := id hU1
            obtain ⟨x0, x1, x2⟩ := id hU2
            obtain ⟨y0, y1, y2⟩ := id hU3
            go_wp2_with fail
            go_ret
            exact ⟨rfl, hB3⟩
      · have h3 : a ≠ c ∨ (a = c ∧ ac ≠ cc) := by
          by_cases h : a = c
          · exact .inr ⟨h, fun h4 => h1 ⟨h, h4⟩⟩
          · exact .inl h
        by_cases h2 : b = d ∧ bc = dc
        · have HE1 : Hid (electR l a ac c cc = (0, putR ahC l ⟨a, ac, c, cc, false⟩)) := Lib.hid (by rw [electR, if_neg (by rw [hq]; decide), if_neg h1])
          have HE2 : Hid (electR l b bc d dc = (24, [])) := Lib.hid (by rw [electR, if_neg (by rw [hq]; decide), if_pos h2])
          clear hq
          obtain ⟨rfl, rfl⟩ := h2
          clear h1
          rcases hab2 with hab | ⟨rfl, hab⟩
          all_goals rcases h3 with h3 | ⟨rfl, h3⟩
          · obtain ⟨u0, u1, u2⟩ := id hU0
            obtain ⟨v0, v1, v2⟩ := id hU1
            obtain ⟨x0, x1, x2⟩ := id hU2
            obtain ⟨y0, y1, y2⟩ := id hU3
            go_wp2_with fail
            refine (eis_any A cap l _ (by omega) hs).mono ?_
            rw [HQ.out]
            rintro e z1 ⟨rfl, hb⟩
            have hB3 := since_step hB3 hb
            have hs := hs.below hb
            have hU0 := hU0.below hb
            have hU1 := hU1.below hb
            have hU2 := hU2.below hb
            have hU3 := hU3.below hb
            clear hb
            clear u0 u1 u2 v0 v1 v2 x0 x1 x2 y0 y1 y2
            obtain ⟨u0, u1, u2⟩ := id hU0
            obtain ⟨v0, v1, v2⟩ := id hU1
            obtain ⟨x0, x1, x2⟩ := id hU2
            obtain ⟨y0, y1, y2⟩ := id hU3
            go_wp2_with fail
            refine (eelect_any A cap l a ac c cc _ (by omega) hs).mono ?_
            rw [HE1.out]
            rintro e z2 ⟨⟨AX, cX, rfl, hown⟩, hb⟩
            have hB3 := since_step hB3 hb
            have hs := hs.below hb
            have hU0 := hU0.below hb
            have hU1 := hU1.below hb
            have hU2 := hU2.below hb
            have hU3 := hU3.below hb
            clear hb
            clear u0 u1 u2 v0 v1 v2 x0 x1 x2 y0 y1 y2
            have hX := Sl.of_own hown
            clear hown
            obtain ⟨u0, u1, u2⟩ := id hU0
            obtain ⟨v0, v1, v2⟩ := id hU1
            obtain ⟨x0, x1, x2⟩ := id hU2
            obtain ⟨y0, y1, y2⟩ := id hU3
            go_wp2_with fail
            refine (eelect_any A cap l b bc b bc _ (by omega) hs).mono ?_
            rw [HE2.out]
            rintro e z3 ⟨⟨AY, cY, rfl, hown⟩, hb⟩
            have hB3 := since_step hB3 hb
            have hs := hs.below hb
            have hU0 := hU0.below hb
            have hU1 := hU1.below hb
            have hU2 := hU2.below hb
            have hU3 := hU3.below hb
            have hX := hX.below hb
            clear hb
            clear u0 u1 u2 v0 v1 v2 x0 x1 x2 y0 y1 y2
            have hY := Sl.of_own hown
            clear hown
            obtain ⟨u0, u1, u2⟩ := id hU0
            obtain ⟨v0, v1, v2⟩ := id hU1
            obtain ⟨x0, x1, x2⟩ := id hU2
            obtain ⟨y0, y1, y2⟩ := id hU3
            go_wp2_with fail
            refine (lives16_any _).mono ?_
            rintro e z4 ⟨rfl, hb⟩
            have hB3 := since_step hB3 hb
            have hs := hs.below hb
            have hU0 := hU0.below hb
            have hU1 := hU1.below hb
            have hU2 := hU2.below hb
            have hU3 := hU3.below hb
            have hX := hX.below hb
            have hY := hY.below hb
            clear hb
            clear u0 u1 u2 v0 v1 v2 x0 x1 x2 y0 y1 y2
            obtain ⟨u0, u1, u2⟩ := id hU0
            obtain ⟨v0, v1, v2⟩ := id hU1
            obtain ⟨x0, x1, x2⟩ := id hU2
            obtain ⟨y0, y1, y2⟩ := id hU3
            go_wp2_with fail
            go_ret
            exact ⟨rfl, hB3⟩
          · obtain ⟨u0, u1, u2⟩ := id hU0
            obtain ⟨v0, v1, v2⟩ := id hU1
            obtain ⟨x0, x1, x2⟩ := id hU2
            obtain ⟨y0, y1, y2⟩ := id hU3
            go_wp2_with fail
            refine (eis_any A cap l _ (by omega) hs).mono ?_
            rw [HQ.out]
            rintro e z1 ⟨rfl, hb⟩
            have hB3 := since_step hB3 hb
            have hs := hs.below hb
            have hU0 := hU0.below hb
            have hU1 := hU1.below hb
            have hU2 := hU2.below hb
            have hU3 := hU3.below hb
            clear hb
            clear u0 u1 u2 v0 v1 v2 x0 x1 x2 y0 y1 y2
            obtain ⟨u0, u1, u2⟩ := id hU0
            obtain ⟨v0, v1, v2⟩ := id hU1
            obtain ⟨x0, x1, x2⟩ := id hU2
            obtain ⟨y0, y1, y2⟩ := id hU3
            go_wp2_with fail
            refine (eelect_any A cap l a ac a cc _ (by omega) hs).mono ?_
            rw [HE1.out]
            rintro e z2 ⟨⟨AX, cX, rfl, hown⟩, hb⟩
            have hB3 := since_step hB3 hb
            have hs := hs.below hb
            have hU0 := hU0.below hb
            have hU1 := hU1.below hb
            have hU2 := hU2.below hb
            have hU3 := hU3.below hb
            clear hb
            clear u0 u1 u2 v0 v1 v2 x0 x1 x2 y0 y1 y2
            have hX := Sl.of_own hown
            clear hown
            obtain ⟨u0, u1, u2⟩ := id hU0
            obtain ⟨v0, v1, v2⟩ := id hU1
            obtain ⟨x0, x1, x2⟩ := id hU2
            obtain ⟨y0, y1, y2⟩ := id hU3
            go_wp2_with fail
            refine (eelect_any A cap l b bc b bc _ (by omega) hs).mono ?_
            rw [HE2.out]
            rintro e z3 ⟨⟨AY, cY, rfl, hown⟩, hb⟩
            have hB3 := since_step hB3 hb
            have hs := hs.below hb
            have hU0 := hU0.below hb
            have hU1 := hU1.below hb
            have hU2 := hU2.below hb
            have hU3 := hU3.below hb
            have hX := hX.below hb
            clear hb
            clear u0 u1 u2 v0 v1 v2 x0 x1 x2 y0 y1 y2
            have hY := Sl.of_own hown
            clear hown
            obtain ⟨u0, u1, u2⟩ := id hU0
            obtain ⟨v0, v1, v2⟩ := id hU1
            obtain ⟨x0, x1, x2⟩ := id hU2
            obtain ⟨y0, y1, y2⟩ := id hU3
            go_wp2_with fail
            refine (lives16_any _).mono ?_
            rintro e z4 ⟨rfl, hb⟩
            have hB3 := since_step hB3 hb
            have hs := hs.below hb
            have hU0 := hU0.below hb
            have hU1 := hU1.below hb
            have hU2 := hU2.below hb
            have hU3 := hU3.below hb
            have hX := hX.below hb
            have hY := hY.below hb
            clear hb
            clear u0 u1 u2 v0 v1 v2 x0 x1 x2 y0 y1 y2
            obtain ⟨u0, u1, u2⟩ := id hU0
            obtain ⟨v0, v1, v2⟩ := id hU1
            obtain ⟨x0, x1, x2⟩ := id hU2
            obtain ⟨y0, y1, y2⟩ := id hU3
            go_wp2_with fail
            go_ret
            exact ⟨rfl, hB3⟩
          · obtain ⟨u0, u1, u2⟩ := id hU0
            obtain ⟨v0, v1, v2⟩ := id hU1
            obtain ⟨x0, x1, x2⟩ := id hU2
            obtain ⟨y0, y1, y2⟩ := id hU3
            go_wp2_with fail
            refine (eis_any A cap l _ (by omega) hs).mono ?_
            rw [HQ.out]
            rintro e z1 ⟨rfl, hb⟩
            have hB3 := since_step hB3 hb
            have hs := hs.below hb
            have hU0 := hU0.below hb
            have hU1 := hU1.below hb
            have hU2 := hU2.below hb
            have hU3 := hU3.below hb
            clear hb
            clear u0 u1 u2 v0 v1 v2 x0 x1 x2 y0 y1 y2
            obtain ⟨u0, u1, u2⟩ := id hU0
            obtain ⟨v0, v1, v2⟩ := id hU1
            obtain ⟨x0, x1, x2⟩ := id hU2
            obtain ⟨y0, y1, y2⟩ := id hU3
            go_wp2_with fail
            refine (eelect_any A cap l a ac c cc _ (by omega) hs).mono ?_
            rw [HE1.out]
            rintro e z2 ⟨⟨AX, cX, rfl, hown⟩, hb⟩
            have hB3 := since_step hB3 hb
            have hs := hs.below hb
            have hU0 := hU0.below hb
            have hU1 := hU1.below hb
            have hU2 := hU2.below hb
            have hU3 := hU3.below hb
            clear hb
            clear u0 u1 u2 v0 v1 v2 x0 x1 x2 y0 y1 y2
            have hX := Sl.of_own hown
            clear hown
            obtain ⟨u0, u1, u2⟩ := id hU0
            obtain ⟨v0, v1, v2⟩ := id hU1
            obtain ⟨x0, x1, x2⟩ := id hU2
            obtain ⟨y0, y1, y2⟩ := id hU3
            go_wp2_with fail
            refine (eelect_any A cap l a bc a bc _ (by omega) hs).mono ?_
            rw [HE2.out]
            rintro e z3 ⟨⟨AY, cY, rfl, hown⟩, hb⟩
            have hB3 := since_step hB3 hb
            have hs := hs.below hb
            have hU0 := hU0.below hb
            have hU1 := hU1.below hb
            have hU2 := hU2.below hb
            have hU3 := hU3.below hb
            have hX := hX.below hb
            clear hb
            clear u0 u1 u2 v0 v1 v2 x0 x1 x2 y0 y1 y2
            have hY := Sl.of_own hown
            clear hown
            obtain ⟨u0, u1, u2⟩ := id hU0
            obtain ⟨v0, v1, v2⟩ := id hU1
            obtain ⟨x0, x1, x2⟩ := id hU2
            obtain ⟨y0, y1, y2⟩ := id hU3
            go_wp2_with fail
            refine (lives16_any _).mono ?_
            rintro e z4 ⟨rfl, hb⟩
            have hB3 := since_step hB3 hb
            have hs := hs.below hb
            have hU0 := hU0.below hb
            have hU1 := hU1.below hb
            have hU2 := hU2.below hb
            have hU3 := hU3.below hb
            have hX := hX.below hb
            have hY := hY.below hb
            clear hb
            clear u0 u1 u2 v0 v1 v2 x0 x1 x2 y0 y1 y2
            obtain ⟨u0, u1, u2⟩ := id hU0
            obtain ⟨v0, v1, v2⟩ := id hU1
            obtain ⟨x0, x1, x2⟩ := id hU2
            obtain ⟨y0, y1, y2⟩ := id hU3
            go_wp2_with fail
            go_ret
            exact ⟨rfl, hB3⟩
          · obtain ⟨u0, u1, u2⟩ := id hU0
            obtain ⟨v0, v1, v2⟩ := id hU1
            obtain ⟨x0, x1, x2⟩ := id hU2
            obtain ⟨y0, y1, y2⟩ := id hU3
            go_wp2_with fail
            refine (eis_any A cap l _ (by omega) hs).mono ?_
            rw [HQ.out]
            rintro e z1 ⟨rfl, hb⟩
            have hB3 := since_step hB3 hb
            have hs := hs.below hb
            have hU0 := hU0.below hb
            have hU1 := hU1.below hb
            have hU2 := hU2.below hb
            have hU3 := hU3.below hb
            clear hb
            clear u0 u1 u2 v0 v1 v2 x0 x1 x2 y0 y1 y2
            obtain ⟨u0, u1, u2⟩ := id hU0
            obtain ⟨v0, v1, v2⟩ := id hU1
            obtain ⟨x0, x1, x2⟩ := id hU2
            obtain ⟨y0, y1, y2⟩ := id hU3
            go_wp2_with fail
            refine (eelect_any A cap l a ac a cc _ (by omega) hs).mono ?_
            rw [HE1.out]
            rintro e z2 ⟨⟨AX, cX, rfl, hown⟩, hb⟩
            have hB3 := since_step hB3 hb
            have hs := hs.below hb
            have hU0 := hU0.below hb
            have hU1 := hU1.below hb
            have hU2 := hU2.below hb
            have hU3 := hU3.below hb
            clear hb
            clear u0 u1 u2 v0 v1 v2 x0 x1 x2 y0 y1 y2
            have hX := Sl.of_own hown
            clear hown
            obtain ⟨u0, u1, u2⟩ := id hU0
            obtain ⟨v0, v1, v2⟩ := id hU1
            obtain ⟨x0, x1, x2⟩ := id hU2
            obtain ⟨y0, y1, y2⟩ := id hU3
            go_wp2_with fail
            refine (eelect_any A cap l a bc a bc _ (by omega) hs).mono ?_
            rw [HE2.out]
            rintro e z3 ⟨⟨AY, cY, rfl, hown⟩, hb⟩
            have hB3 := since_step hB3 hb
            have hs := hs.below hb
            have hU0 := hU0.below hb
            have hU1 := hU1.below hb
            have hU2 := hU2.below hb
            have hU3 := hU3.below hb
            have hX := hX.below hb
            clear hb
            clear u0 u1 u2 v0 v1 v2 x0 x1 x2 y0 y1 y2
            have hY := Sl.of_own hown
            clear hown
            obtain ⟨u0, u1, u2⟩ := id hU0
            obtain ⟨v0, v1, v2⟩ := id hU1
            obtain ⟨x0, x1, x2⟩ := id hU2
            obtain ⟨y0, y1, y2⟩ := id hU3
            go_wp2_with fail
            refine (lives16_any _).mono ?_
            rintro e z4 ⟨rfl, hb⟩
            have hB3 := since_step hB3 hb
            have hs := hs.below hb
            have hU0 := hU0.below hb
            have hU1 := hU1.below hb
            have hU2 := hU2.below hb
            have hU3 := hU3.below hb
            have hX := hX.below hb
            have hY := hY.below hb
            clear hb
            clear u0 u1 u2 v0 v1 v2 x0 x1 x2 y0 y1 y2
            obtain ⟨u0, u1, u2⟩ := id hU0
            obtain ⟨v0, v1, v2⟩ := id hU1
            obtain ⟨x0, x1, x2⟩ := id hU2
            obtain ⟨y0, y1, y2⟩ := id hU3
            go_wp2_with fail
            go_ret
            exact ⟨rfl, hB3⟩
        · have hab := HAB.out
          clear h3
          have hsa : selfC ⟨a, ac, c, cc, false⟩ = false := by simp only [selfC, Bool.and_eq_false_iff, beq_eq_false_iff_ne]; omega
          have hsb : selfC ⟨b, bc, d, dc, false⟩ = false := by simp only [selfC, Bool.and_eq_false_iff, beq_eq_false_iff_ne]; omega
          have hX' := isC_putR hq hsa
          have hY' := isC_putR hq hsb
          have HE1 : Hid (electR l a ac c cc = (0, putR ahC l ⟨a, ac, c, cc, false⟩)) := Lib.hid (by rw [electR, if_neg (by rw [hq]; decide), if_neg h1])
          have HE2 : Hid (electR l b bc d dc = (0, putR ahC l ⟨b, bc, d, dc, false⟩)) := Lib.hid (by rw [electR, if_neg (by rw [hq]; decide), if_neg h2])
          have hcm := putR_commC (x := ⟨a, ac, c, cc, false⟩) (y := ⟨b, bc, d, dc, false⟩) hab l
          have hlX : (putR ahC l ⟨a, ac, c, cc, false⟩).length ≤ 900000 := Nat.le_trans (length_putR _ _) (by omega)
          have hlY : (putR ahC l ⟨b, bc, d, dc, false⟩).length ≤ 900000 := Nat.le_trans (length_putR _ _) (by omega)
          obtain ⟨P, hPP⟩ : ∃ P, putR ahC (putR ahC l ⟨a, ac, c, cc, false⟩) ⟨b, bc, d, dc, false⟩ = P := ⟨_, rfl⟩
          obtain ⟨O, hOO⟩ : ∃ O, dropC P a ac = O := ⟨_, rfl⟩
          have HE3 : Hid (electR (putR ahC l ⟨a, ac, c, cc, false⟩) b bc d dc = (0, P)) := Lib.hid (by rw [electR, if_neg (by rw [hX']; decide), if_neg h2, hPP])
          have HE4 : Hid (electR (putR ahC l ⟨b, bc, d, dc, false⟩) a ac c cc = (0, P)) := Lib.hid (by rw [electR, if_neg (by rw [hY']; decide), if_neg h1, ← hcm, hPP])
          have HDO := Lib.hid hOO
          have HDD : Hid (dropC O a ac = O) := Lib.hid (by rw [← hOO, dropC_twice])
          have HCM : Hid (dropC (dropC P b bc) a ac = dropC O b bc) := Lib.hid (by rw [← hOO, dropC_comm])
          have hlP : P.length ≤ 1000000 := by
            have h9 := length_putR (ah := ahC) ⟨b, bc, d, dc, false⟩ (putR ahC l ⟨a, ac, c, cc, false⟩)
            have h8 := length_putR (ah := ahC) ⟨a, ac, c, cc, false⟩ l
            rw [hPP] at h9
            omega
          have hlO : O.length ≤ 1000000 := by rw [← hOO]; exact Nat.le_trans (dropC_len _ _ _) hlP
          have hlPb : (dropC P b bc).length ≤ 1000000 := Nat.le_trans (dropC_len _ _ _) hlP
          have hlOb : (dropC O b bc).length ≤ 1000000 := Nat.le_trans (dropC_len _ _ _) hlO
          have hu1 := h1
          have hu2 := h2
          clear hsa hsb hX' hY' hcm hPP hOO h1 h2 hq hu1 hu2
          clear hab
          rcases hab2 with hab | ⟨rfl, hab⟩
          · obtain ⟨u0, u1, u2⟩ := id hU0
            obtain ⟨v0, v1, v2⟩ := id hU1
            obtain ⟨x0, x1, x2⟩ := id hU2
            obtain ⟨y0, y1, y2⟩ := id hU3
            go_wp2_with fail
            refine (eis_any A cap l _ (by omega) hs).mono ?_
            rw [HQ.out]
            rintro e z1 ⟨rfl, hb⟩
            have hB3 := since_step hB3 hb
            have hs := hs.below hb
            have hU0 := hU0.below hb
            have hU1 := hU1.below hb
            have hU2 := hU2.below hb
            have hU3 := hU3.below hb
            clear hb
            clear u0 u1 u2 v0 v1 v2 x0 x1 x2 y0 y1 y2
            obtain ⟨u0, u1, u2⟩ := id hU0
            obtain ⟨v0, v1, v2⟩ := id hU1
            obtain ⟨x0, x1, x2⟩ := id hU2
            obtain ⟨y0, y1, y2⟩ := id hU3
            go_wp2_with fail
            refine (eelect_any A cap l a ac c cc _ (by omega) hs).mono ?_
            rw [HE1.out]
            rintro e z2 ⟨⟨AX, cX, rfl, hown⟩, hb⟩
            have hB3 := since_step hB3 hb
            have hs := hs.below hb
            have hU0 := hU0.below hb
            have hU1 := hU1.below hb
            have hU2 := hU2.below hb
            have hU3 := hU3.below hb
            clear hb
            clear u0 u1 u2 v0 v1 v2 x0 x1 x2 y0 y1 y2
            have hX := Sl.of_own hown
            clear hown
            obtain ⟨u0, u1, u2⟩ := id hU0
            obtain ⟨v0, v1, v2⟩ := id hU1
            obtain ⟨x0, x1, x2⟩ := id hU2
            obtain ⟨y0, y1, y2⟩ := id hU3
            go_wp2_with fail
            refine (eelect_any A cap l b bc d dc _ (by omega) hs).mono ?_
            rw [HE2.out]
            rintro e z3 ⟨⟨AY, cY, rfl, hown⟩, hb⟩
            have hB3 := since_step hB3 hb
            have hs := hs.below hb
            have hU0 := hU0.below hb
            have hU1 := hU1.below hb
            have hU2 := hU2.below hb
            have hU3 := hU3.below hb
            have hX := hX.below hb
            clear hb
            clear u0 u1 u2 v0 v1 v2 x0 x1 x2 y0 y1 y2
            have hY := Sl.of_own hown
            clear hown
            obtain ⟨u0, u1, u2⟩ := id hU0
            obtain ⟨v0, v1, v2⟩ := id hU1
            obtain ⟨x0, x1, x2⟩ := id hU2
            obtain ⟨y0, y1, y2⟩ := id hU3
            go_wp2_with fail
            refine (eelect_any AX cX (putR ahC l ⟨a, ac, c, cc, false⟩) b bc d dc _ hlX hX).mono ?_
            rw [HE3.out]
            rintro e z4 ⟨⟨AP, cP, rfl, hown⟩, hb⟩
            have hB3 := since_step hB3 hb
            have hs := hs.below hb
            have hU0 := hU0.below hb
            have hU1 := hU1.below hb
            have hU2 := hU2.below hb
            have hU3 := hU3.below hb
            have hX := hX.below hb
            have hY := hY.below hb
            clear hb
            clear u0 u1 u2 v0 v1 v2 x0 x1 x2 y0 y1 y2
            have hP := Sl.of_own hown
            clear hown
            obtain ⟨u0, u1, u2⟩ := id hU0
            obtain ⟨v0, v1, v2⟩ := id hU1
            obtain ⟨x0, x1, x2⟩ := id hU2
            obtain ⟨y0, y1, y2⟩ := id hU3
            go_wp2_with fail
            refine (eelect_any AY cY (putR ahC l ⟨b, bc, d, dc, false⟩) a ac c cc _ hlY hY).mono ?_
            rw [HE4.out]
            rintro e z5 ⟨⟨AQ, cQ, rfl, hown⟩, hb⟩
            have hB3 := since_step hB3 hb
            have hs := hs.below hb
            have hU0 := hU0.below hb
            have hU1 := hU1.below hb
            have hU2 := hU2.below hb
            have hU3 := hU3.below hb
            have hX := hX.below hb
            have hY := hY.below hb
            have hP := hP.below hb
            clear hb
            clear u0 u1 u2 v0 v1 v2 x0 x1 x2 y0 y1 y2
            have hQ := Sl.of_own hown
            clear hown
            obtain ⟨u0, u1, u2⟩ := id hU0
            obtain ⟨v0, v1, v2⟩ := id hU1
            obtain ⟨x0, x1, x2⟩ := id hU2
            obtain ⟨y0, y1, y2⟩ := id hU3
            go_wp2_with fail
            refine (edrop_any AP cP P a ac _ hlP hP).mono ?_
            rw [HDO.out]
            rintro e z6 ⟨⟨AO, cO, rfl, hown⟩, hb⟩
            have hB3 := since_step hB3 hb
            have hs := hs.below hb
            have hU0 := hU0.below hb
            have hU1 := hU1.below hb
            have hU2 := hU2.below hb
            have hU3 := hU3.below hb
            have hX := hX.below hb
            have hY := hY.below hb
            have hP := hP.below hb
            have hQ := hQ.below hb
            clear hb
            clear u0 u1 u2 v0 v1 v2 x0 x1 x2 y0 y1 y2
            have hO := Sl.of_own hown
            clear hown
            obtain ⟨u0, u1, u2⟩ := id hU0
            obtain ⟨v0, v1, v2⟩ := id hU1
            obtain ⟨x0, x1, x2⟩ := id hU2
            obtain ⟨y0, y1, y2⟩ := id hU3
            go_wp2_with fail
            generalize hUU : z6 = U at *
            clear hUU
            have HU0 : Hid (∀ V, Below U.heap.size U V → UAt V w.heap.size a ac) := Lib.hid fun V hV => hU0.below hV
            have HU1 : Hid (∀ V, Below U.heap.size U V → UAt V (w.heap.size + 1) b bc) := Lib.hid fun V hV => hU1.below hV
            have HSP : Hid (∀ V, Below U.heap.size U V → Sl V AP (rc Ch.cells P) ∧ Sl V AQ (rc Ch.cells P) ∧ Sl V AO (rc Ch.cells O)) := Lib.hid fun V hV => ⟨hP.below hV, hQ.below hV, hO.below hV⟩
            clear hs hU0 hU1 hU2 hU3 hX hY hP hQ hO
            clear u0 u1 u2 v0 v1 v2 x0 x1 x2 y0 y1 y2
            refine wp_region_held_drew (S := (fun V => Below U.heap.size U V)) (by kernel_rfl) (by exact (Below.refl _ _).drew) (fun hHeld => ?_)
            refine wpAnyH_take (i := 0) (oi := { dst := some 85, op := _, type := _, pos := _, after := _, guard := _ }) (v := ?_) rfl (by kernel_rfl) (by kernel_rfl) (by kernel_rfl) (fun _ _ _ h => h) (Or.inl ⟨by rfl, ?_⟩) hHeld ?_
            rotate_left
            · (intro w hSw; obtain ⟨u0, u1, u2⟩ := HU0.out _ hSw; obtain ⟨v0, v1, v2⟩ := HU1.out _ hSw; go_simp <;> with_reducible rfl)
            try simp only [Act.put, List.setIfInBounds_toArray, List.set_cons_zero, List.set_cons_succ]
            refine wpAnyH_take (i := 1) (oi := { dst := some 86, op := _, type := _, pos := _, after := _, guard := _ }) (v := ?_) rfl (by kernel_rfl) (by kernel_rfl) (by kernel_rfl) (fun _ _ _ h => h) (Or.inl ⟨by rfl, ?_⟩) hHeld ?_
            rotate_left
            · (intro w hSw; obtain ⟨u0, u1, u2⟩ := HU0.out _ hSw; obtain ⟨v0, v1, v2⟩ := HU1.out _ hSw; go_simp <;> with_reducible rfl)
            try simp only [Act.put, List.setIfInBounds_toArray, List.set_cons_zero, List.set_cons_succ]
            refine wpAnyH_take (i := 2) (oi := { dst := some 87, op := _, type := _, pos := _, after := _, guard := _ }) (v := ?_) rfl (by kernel_rfl) (by kernel_rfl) (by kernel_rfl) (fun _ _ _ h => h) (Or.inl ⟨by rfl, ?_⟩) hHeld ?_
            rotate_left
            · (intro w hSw; obtain ⟨u0, u1, u2⟩ := HU0.out _ hSw; obtain ⟨v0, v1, v2⟩ := HU1.out _ hSw; go_simp <;> with_reducible rfl)
            try simp only [Act.put, List.setIfInBounds_toArray, List.set_cons_zero, List.set_cons_succ]
            refine wpAnyH_take (i := 3) (oi := { dst := some 88, op := _, type := _, pos := _, after := _, guard := _ }) (v := ?_) rfl (by kernel_rfl) (by kernel_rfl) (by kernel_rfl) (fun _ _ _ h => h) (Or.inl ⟨by rfl, ?_⟩) hHeld ?_
            rotate_left
            · (intro w hSw; obtain ⟨u0, u1, u2⟩ := HU0.out _ hSw; obtain ⟨v0, v1, v2⟩ := HU1.out _ hSw; go_simp <;> with_reducible rfl)
            try simp only [Act.put, List.setIfInBounds_toArray, List.set_cons_zero, List.set_cons_succ]
            refine wpAnyH_take (i := 4) (oi := { dst := some 89, op := _, type := _, pos := _, after := _, guard := _ }) (v := ?_) rfl (by kernel_rfl) (by kernel_rfl) (by kernel_rfl) (fun _ _ _ h => h) (Or.inl ⟨by rfl, ?_⟩) hHeld ?_
            rotate_left
            · (intro w hSw; obtain ⟨u0, u1, u2⟩ := HU0.out _ hSw; obtain ⟨v0, v1, v2⟩ := HU1.out _ hSw; go_simp <;> with_reducible rfl)
            try simp only [Act.put, List.setIfInBounds_toArray, List.set_cons_zero, List.set_cons_succ]
            refine wpAnyH_take (i := 5) (oi := { dst := some 90, op := _, type := _, pos := _, after := _, guard := _ }) (v := ?_) rfl (by kernel_rfl) (by kernel_rfl) (by kernel_rfl) (fun _ _ _ h => h) (Or.inl ⟨by rfl, ?_⟩) hHeld ?_
            rotate_left
            · (intro w hSw; obtain ⟨u0, u1, u2⟩ := HU0.out _ hSw; obtain ⟨v0, v1, v2⟩ := HU1.out _ hSw; go_simp <;> with_reducible rfl)
            try simp only [Act.put, List.setIfInBounds_toArray, List.set_cons_zero, List.set_cons_succ]
            refine wpAnyH_take (i := 6) (oi := { dst := some 91, op := _, type := _, pos := _, after := _, guard := _ }) (v := ?_) rfl (by kernel_rfl) (by kernel_rfl) (by kernel_rfl) (fun _ _ _ h => h) (Or.inl ⟨by rfl, ?_⟩) hHeld ?_
            rotate_left
            · (intro w hSw; obtain ⟨u0, u1, u2⟩ := HU0.out _ hSw; obtain ⟨v0, v1, v2⟩ := HU1.out _ hSw; go_simp <;> with_reducible rfl)
            try simp only [Act.put, List.setIfInBounds_toArray, List.set_cons_zero, List.set_cons_succ]
            refine wpAnyH_take (i := 7) (oi := { dst := some 92, op := _, type := _, pos := _, after := _, guard := _ }) (v := ?_) rfl (by kernel_rfl) (by kernel_rfl) (by kernel_rfl) (fun _ _ _ h => h) (Or.inl ⟨by rfl, ?_⟩) hHeld ?_
            rotate_left
            · (intro w hSw; obtain ⟨u0, u1, u2⟩ := HU0.out _ hSw; obtain ⟨v0, v1, v2⟩ := HU1.out _ hSw; go_simp <;> with_reducible rfl)
            try simp only [Act.put, List.setIfInBounds_toArray, List.set_cons_zero, List.set_cons_succ]
            refine wpAnyH_take (i := 8) (oi := { dst := some 93, op := _, type := _, pos := _, after := _, guard := _ }) (v := ?_) rfl (by kernel_rfl) (by kernel_rfl) (by kernel_rfl) (fun _ _ _ h => h) (Or.inl ⟨by rfl, ?_⟩) hHeld ?_
            rotate_left
            · (intro w hSw; obtain ⟨u0, u1, u2⟩ := HU0.out _ hSw; obtain ⟨v0, v1, v2⟩ := HU1.out _ hSw; go_simp <;> with_reducible rfl)
            try simp only [Act.put, List.setIfInBounds_toArray, List.set_cons_zero, List.set_cons_succ]
            refine wpAnyH_ready (rs := [9]) (by kernel_rfl) (by simp) ?_
            refine AllReadyH.cons (o := { dst := some 94, op := _, type := _, pos := _, after := _, guard := _ }) rfl (fun K hK => ?_) AllReadyH.nil
            go_simp
            obtain ⟨hP, hQ, hO⟩ := HSP.out _ hHeld
            refine (same_self AP AQ cP cQ P _ hlP hP hQ).mono ?_
            rintro e r1 ⟨rfl, hk1⟩
            have hKeep := since_step hHeld hk1
            go_wp2_with fail
            refine hK.out _ _ (by (try dsimp only); exact hKeep) (fun hHeld => ?_)
            clear hK K hKeep
            try simp only [Act.put, List.setIfInBounds_toArray, List.set_cons_zero, List.set_cons_succ]
            refine wpAnyH_take (i := 10) (oi := { dst := some 95, op := _, type := _, pos := _, after := _, guard := _ }) (v := ?_) rfl (by kernel_rfl) (by kernel_rfl) (by kernel_rfl) (fun _ _ _ h => h) (Or.inl ⟨by rfl, ?_⟩) hHeld ?_
            rotate_left
            · (intro w hSw; obtain ⟨u0, u1, u2⟩ := HU0.out _ hSw; obtain ⟨v0, v1, v2⟩ := HU1.out _ hSw; go_simp <;> with_reducible rfl)
            try simp only [Act.put, List.setIfInBounds_toArray, List.set_cons_zero, List.set_cons_succ]
            refine wpAnyH_take (i := 11) (oi := { dst := some 96, op := _, type := _, pos := _, after := _, guard := _ }) (v := ?_) rfl (by kernel_rfl) (by kernel_rfl) (by kernel_rfl) (fun _ _ _ h => h) (Or.inl ⟨by rfl, ?_⟩) hHeld ?_
            rotate_left
            · (intro w hSw; obtain ⟨u0, u1, u2⟩ := HU0.out _ hSw; obtain ⟨v0, v1, v2⟩ := HU1.out _ hSw; go_simp <;> with_reducible rfl)
            try simp only [Act.put, List.setIfInBounds_toArray, List.set_cons_zero, List.set_cons_succ]
            refine wpAnyH_take (i := 12) (oi := { dst := some 97, op := _, type := _, pos := _, after := _, guard := _ }) (v := ?_) rfl (by kernel_rfl) (by kernel_rfl) (by kernel_rfl) (fun _ _ _ h => h) (Or.inl ⟨by rfl, ?_⟩) hHeld ?_
            rotate_left
            · (intro w hSw; obtain ⟨u0, u1, u2⟩ := HU0.out _ hSw; obtain ⟨v0, v1, v2⟩ := HU1.out _ hSw; go_simp <;> with_reducible rfl)
            try simp only [Act.put, List.setIfInBounds_toArray, List.set_cons_zero, List.set_cons_succ]
            refine wpAnyH_take (i := 13) (oi := { dst := some 98, op := _, type := _, pos := _, after := _, guard := _ }) (v := ?_) rfl (by kernel_rfl) (by kernel_rfl) (by kernel_rfl) (fun _ _ _ h => h) (Or.inl ⟨by rfl, ?_⟩) hHeld ?_
            rotate_left
            · (intro w hSw; obtain ⟨u0, u1, u2⟩ := HU0.out _ hSw; obtain ⟨v0, v1, v2⟩ := HU1.out _ hSw; go_simp <;> with_reducible rfl)
            try simp only [Act.put, List.setIfInBounds_toArray, List.set_cons_zero, List.set_cons_succ]
            refine wpAnyH_take (i := 15) (oi := { dst := some 100, op := _, type := _, pos := _, after := _, guard := _ }) (v := ?_) rfl (by kernel_rfl) (by kernel_rfl) (by kernel_rfl) (fun _ _ _ h => h) (Or.inl ⟨by rfl, ?_⟩) hHeld ?_
            rotate_left
            · (intro w hSw; obtain ⟨u0, u1, u2⟩ := HU0.out _ hSw; obtain ⟨v0, v1, v2⟩ := HU1.out _ hSw; go_simp <;> with_reducible rfl)
            try simp only [Act.put, List.setIfInBounds_toArray, List.set_cons_zero, List.set_cons_succ]
            refine wpAnyH_ready (rs := [14]) (by kernel_rfl) (by simp) ?_
            refine AllReadyH.cons (o := { dst := some 99, op := _, type := _, pos := _, after := _, guard := _ }) rfl (fun K hK => ?_) AllReadyH.nil
            go_simp
            obtain ⟨hP, hQ, hO⟩ := HSP.out _ hHeld
            refine (edrop_any AO cO O a ac _ hlO hO).mono ?_
            rw [HDD.out]
            rintro e r2 ⟨⟨A2, c2, rfl, hown2⟩, hk2⟩
            have hKeep := since_step hHeld hk2
            have hs2 := Sl.of_own hown2
            go_wp2_with fail
            refine hK.out _ _ (by (try dsimp only); exact hKeep) (fun hHeld => ?_)
            clear hK K hKeep
            try simp only [Act.put, List.setIfInBounds_toArray, List.set_cons_zero, List.set_cons_succ]
            refine wpAnyH_ready (rs := [16]) (by kernel_rfl) (by simp) ?_
            refine AllReadyH.cons (o := { dst := some 101, op := _, type := _, pos := _, after := _, guard := _ }) rfl (fun K hK => ?_) AllReadyH.nil
            go_simp
            obtain ⟨hP, hQ, hO⟩ := HSP.out _ hHeld
            refine (same_self A2 AO c2 cO O _ hlO hs2 hO).mono ?_
            rintro e r3 ⟨rfl, hk3⟩
            have hKeep := since_step hHeld hk3
            go_wp2_with fail
            refine hK.out _ _ (by (try dsimp only); exact hKeep) (fun hHeld => ?_)
            clear hK K hKeep
            try simp only [Act.put, List.setIfInBounds_toArray, List.set_cons_zero, List.set_cons_succ]
            refine wpAnyH_take (i := 17) (oi := { dst := some 102, op := _, type := _, pos := _, after := _, guard := _ }) (v := ?_) rfl (by kernel_rfl) (by kernel_rfl) (by kernel_rfl) (fun _ _ _ h => h) (Or.inl ⟨by rfl, ?_⟩) hHeld ?_
            rotate_left
            · (intro w hSw; obtain ⟨u0, u1, u2⟩ := HU0.out _ hSw; obtain ⟨v0, v1, v2⟩ := HU1.out _ hSw; go_simp <;> with_reducible rfl)
            try simp only [Act.put, List.setIfInBounds_toArray, List.set_cons_zero, List.set_cons_succ]
            refine wpAnyH_take (i := 18) (oi := { dst := some 103, op := _, type := _, pos := _, after := _, guard := _ }) (v := ?_) rfl (by kernel_rfl) (by kernel_rfl) (by kernel_rfl) (fun _ _ _ h => h) (Or.inl ⟨by rfl, ?_⟩) hHeld ?_
            rotate_left
            · (intro w hSw; obtain ⟨u0, u1, u2⟩ := HU0.out _ hSw; obtain ⟨v0, v1, v2⟩ := HU1.out _ hSw; go_simp <;> with_reducible rfl)
            try simp only [Act.put, List.setIfInBounds_toArray, List.set_cons_zero, List.set_cons_succ]
            refine wpAnyH_take (i := 19) (oi := { dst := some 104, op := _, type := _, pos := _, after := _, guard := _ }) (v := ?_) rfl (by kernel_rfl) (by kernel_rfl) (by kernel_rfl) (fun _ _ _ h => h) (Or.inl ⟨by rfl, ?_⟩) hHeld ?_
            rotate_left
            · (intro w hSw; obtain ⟨u0, u1, u2⟩ := HU0.out _ hSw; obtain ⟨v0, v1, v2⟩ := HU1.out _ hSw; go_simp <;> with_reducible rfl)
            try simp only [Act.put, List.setIfInBounds_toArray, List.set_cons_zero, List.set_cons_succ]
            refine wpAnyH_take (i := 20) (oi := { dst := some 105, op := _, type := _, pos := _, after := _, guard := _ }) (v := ?_) rfl (by kernel_rfl) (by kernel_rfl) (by kernel_rfl) (fun _ _ _ h => h) (Or.inl ⟨by rfl, ?_⟩) hHeld ?_
            rotate_left
            · (intro w hSw; obtain ⟨u0, u1, u2⟩ := HU0.out _ hSw; obtain ⟨v0, v1, v2⟩ := HU1.out _ hSw; go_simp <;> with_reducible rfl)
            try simp only [Act.put, List.setIfInBounds_toArray, List.set_cons_zero, List.set_cons_succ]
            refine wpAnyH_take (i := 22) (oi := { dst := some 107, op := _, type := _, pos := _, after := _, guard := _ }) (v := ?_) rfl (by kernel_rfl) (by kernel_rfl) (by kernel_rfl) (fun _ _ _ h => h) (Or.inl ⟨by rfl, ?_⟩) hHeld ?_
            rotate_left
            · (intro w hSw; obtain ⟨u0, u1, u2⟩ := HU0.out _ hSw; obtain ⟨v0, v1, v2⟩ := HU1.out _ hSw; go_simp <;> with_reducible rfl)
            try simp only [Act.put, List.setIfInBounds_toArray, List.set_cons_zero, List.set_cons_succ]
            refine wpAnyH_take (i := 23) (oi := { dst := some 108, op := _, type := _, pos := _, after := _, guard := _ }) (v := ?_) rfl (by kernel_rfl) (by kernel_rfl) (by kernel_rfl) (fun _ _ _ h => h) (Or.inl ⟨by rfl, ?_⟩) hHeld ?_
            rotate_left
            · (intro w hSw; obtain ⟨u0, u1, u2⟩ := HU0.out _ hSw; obtain ⟨v0, v1, v2⟩ := HU1.out _ hSw; go_simp <;> with_reducible rfl)
            try simp only [Act.put, List.setIfInBounds_toArray, List.set_cons_zero, List.set_cons_succ]
            refine wpAnyH_take (i := 25) (oi := { dst := some 110, op := _, type := _, pos := _, after := _, guard := _ }) (v := ?_) rfl (by kernel_rfl) (by kernel_rfl) (by kernel_rfl) (fun _ _ _ h => h) (Or.inl ⟨by rfl, ?_⟩) hHeld ?_
            rotate_left
            · (intro w hSw; obtain ⟨u0, u1, u2⟩ := HU0.out _ hSw; obtain ⟨v0, v1, v2⟩ := HU1.out _ hSw; go_simp <;> with_reducible rfl)
            try simp only [Act.put, List.setIfInBounds_toArray, List.set_cons_zero, List.set_cons_succ]
            refine wpAnyH_ready (rs := [21]) (by kernel_rfl) (by simp) ?_
            refine AllReadyH.cons (o := { dst := some 106, op := _, type := _, pos := _, after := _, guard := _ }) rfl (fun K hK => ?_) AllReadyH.nil
            go_simp
            obtain ⟨hP, hQ, hO⟩ := HSP.out _ hHeld
            refine (edrop_any AO cO O b bc _ hlO hO).mono ?_
            rintro e r4 ⟨⟨A4, c4, rfl, hown4⟩, hk4⟩
            have hKeep := since_step hHeld hk4
            have hs4 := Sl.of_own hown4
            go_wp2_with fail
            refine hK.out _ _ (by (try dsimp only); exact hKeep) (fun hHeld => ?_)
            clear hK K hKeep
            try simp only [Act.put, List.setIfInBounds_toArray, List.set_cons_zero, List.set_cons_succ]
            refine wpAnyH_ready (rs := [24]) (by kernel_rfl) (by simp) ?_
            refine AllReadyH.cons (o := { dst := some 109, op := _, type := _, pos := _, after := _, guard := _ }) rfl (fun K hK => ?_) AllReadyH.nil
            go_simp
            obtain ⟨hP, hQ, hO⟩ := HSP.out _ hHeld
            refine (edrop_any AP cP P b bc _ hlP hP).mono ?_
            rintro e r5 ⟨⟨A5, c5, rfl, hown5⟩, hk5⟩
            have hKeep := since_step hHeld hk5
            have hs4 := hs4.below hk5
            have hs5 := Sl.of_own hown5
            go_wp2_with fail
            refine hK.out _ _ (by (try dsimp only); exact hKeep) (fun hHeld => ?_)
            clear hK K hKeep
            try simp only [Act.put, List.setIfInBounds_toArray, List.set_cons_zero, List.set_cons_succ]
            refine wpAnyH_ready (rs := [26]) (by kernel_rfl) (by simp) ?_
            refine AllReadyH.cons (o := { dst := some 111, op := _, type := _, pos := _, after := _, guard := _ }) rfl (fun K hK => ?_) AllReadyH.nil
            go_simp
            refine (edrop_any A5 c5 (dropC P b bc) a ac _ hlPb hs5).mono ?_
            rw [HCM.out]
            rintro e r6 ⟨⟨A6, c6, rfl, hown6⟩, hk6⟩
            have hKeep := since_step hHeld hk6
            have hs4 := hs4.below hk6
            have hs6 := Sl.of_own hown6
            go_wp2_with fail
            refine hK.out _ _ (by (try dsimp only); exact hKeep) (fun hHeld => ?_)
            clear hK K hKeep
            try simp only [Act.put, List.setIfInBounds_toArray, List.set_cons_zero, List.set_cons_succ]
            refine wpAnyH_ready (rs := [27]) (by kernel_rfl) (by simp) ?_
            refine AllReadyH.cons (o := { dst := some 112, op := _, type := _, pos := _, after := _, guard := _ }) rfl (fun K hK => ?_) AllReadyH.nil
            go_simp
            refine (same_self A4 A6 c4 c6 (dropC O b bc) _ hlOb hs4 hs6).mono ?_
            rintro e r7 ⟨rfl, hk7⟩
            have hKeep := since_step hHeld hk7
            go_wp2_with fail
            refine hK.out _ _ (by (try dsimp only); exact hKeep) (fun hHeld => ?_)
            clear hK K hKeep
            try simp only [Act.put, List.setIfInBounds_toArray, List.set_cons_zero, List.set_cons_succ]
            refine wpAnyH_take (i := 28) (oi := { dst := some 113, op := _, type := _, pos := _, after := _, guard := _ }) (v := ?_) rfl (by kernel_rfl) (by kernel_rfl) (by kernel_rfl) (fun _ _ _ h => h) (Or.inl ⟨by rfl, ?_⟩) hHeld ?_
            rotate_left
            · (intro w hSw; obtain ⟨u0, u1, u2⟩ := HU0.out _ hSw; obtain ⟨v0, v1, v2⟩ := HU1.out _ hSw; go_simp <;> with_reducible rfl)
            try simp only [Act.put, List.setIfInBounds_toArray, List.set_cons_zero, List.set_cons_succ]
            refine wpAnyH_take (i := 29) (oi := { dst := some 114, op := _, type := _, pos := _, after := _, guard := _ }) (v := ?_) rfl (by kernel_rfl) (by kernel_rfl) (by kernel_rfl) (fun _ _ _ h => h) (Or.inl ⟨by rfl, ?_⟩) hHeld ?_
            rotate_left
            · (intro w hSw; obtain ⟨u0, u1, u2⟩ := HU0.out _ hSw; obtain ⟨v0, v1, v2⟩ := HU1.out _ hSw; go_simp <;> with_reducible rfl)
            try simp only [Act.put, List.setIfInBounds_toArray, List.set_cons_zero, List.set_cons_succ]
            refine wpAnyH_ready (rs := [30]) (by kernel_rfl) (by simp) ?_
            refine AllReadyH.cons (o := { dst := some 115, op := _, type := _, pos := _, after := _, guard := _ }) rfl (fun K hK => ?_) AllReadyH.nil
            go_simp
            refine (lives16_any _).mono ?_
            rintro e r8 ⟨rfl, hk8⟩
            have hKeep := since_step hHeld hk8
            go_wp2_with fail
            refine hK.out _ _ (by (try dsimp only); exact hKeep) (fun hHeld => ?_)
            clear hK K hKeep
            try simp only [Act.put, List.setIfInBounds_toArray, List.set_cons_zero, List.set_cons_succ]
            refine wpAnyH_take (i := 31) (oi := { dst := some 116, op := _, type := _, pos := _, after := _, guard := _ }) (v := ?_) rfl (by kernel_rfl) (by kernel_rfl) (by kernel_rfl) (fun _ _ _ h => h) (Or.inl ⟨by rfl, ?_⟩) hHeld ?_
            rotate_left
            · (intro w hSw; obtain ⟨u0, u1, u2⟩ := HU0.out _ hSw; obtain ⟨v0, v1, v2⟩ := HU1.out _ hSw; go_simp <;> with_reducible rfl)
            try simp only [Act.put, List.setIfInBounds_toArray, List.set_cons_zero, List.set_cons_succ]
            refine wpAnyH_take (i := 32) (oi := { dst := some 10, op := _, type := _, pos := _, after := _, guard := _ }) (v := ?_) rfl (by kernel_rfl) (by kernel_rfl) (by kernel_rfl) (fun _ _ _ h => h) (Or.inl ⟨by rfl, ?_⟩) hHeld ?_
            rotate_left
            · (intro w hSw; obtain ⟨u0, u1, u2⟩ := HU0.out _ hSw; obtain ⟨v0, v1, v2⟩ := HU1.out _ hSw; go_simp <;> with_reducible rfl)
            try simp only [Act.put, List.setIfInBounds_toArray, List.set_cons_zero, List.set_cons_succ]
            refine wpAnyH_done (by kernel_rfl) ?_ _
            have hB4 := hB3.trans (hHeld.mono hB3.size)
            go_wp2_with fail
            go_ret
            exact ⟨rfl, hB4⟩
          · obtain ⟨u0, u1, u2⟩ := id hU0
            obtain ⟨v0, v1, v2⟩ := id hU1
            obtain ⟨x0, x1, x2⟩ := id hU2
            obtain ⟨y0, y1, y2⟩ := id hU3
            go_wp2_with fail
            refine (eis_any A cap l _ (by omega) hs).mono ?_
            rw [HQ.out]
            rintro e z1 ⟨rfl, hb⟩
            have hB3 := since_step hB3 hb
            have hs := hs.below hb
            have hU0 := hU0.below hb
            have hU1 := hU1.below hb
            have hU2 := hU2.below hb
            have hU3 := hU3.below hb
            clear hb
            clear u0 u1 u2 v0 v1 v2 x0 x1 x2 y0 y1 y2
            obtain ⟨u0, u1, u2⟩ := id hU0
            obtain ⟨v0, v1, v2⟩ := id hU1
            obtain ⟨x0, x1, x2⟩ := id hU2
            obtain ⟨y0, y1, y2⟩ := id hU3
            go_wp2_with fail
            refine (eelect_any A cap l a ac c cc _ (by omega) hs).mono ?_
            rw [HE1.out]
            rintro e z2 ⟨⟨AX, cX, rfl, hown⟩, hb⟩
            have hB3 := since_step hB3 hb
            have hs := hs.below hb
            have hU0 := hU0.below hb
            have hU1 := hU1.below hb
            have hU2 := hU2.below hb
            have hU3 := hU3.below hb
            clear hb
            clear u0 u1 u2 v0 v1 v2 x0 x1 x2 y0 y1 y2
            have hX := Sl.of_own hown
            clear hown
            obtain ⟨u0, u1, u2⟩ := id hU0
            obtain ⟨v0, v1, v2⟩ := id hU1
            obtain ⟨x0, x1, x2⟩ := id hU2
            obtain ⟨y0, y1, y2⟩ := id hU3
            go_wp2_with fail
            refine (eelect_any A cap l a bc d dc _ (by omega) hs).mono ?_
            rw [HE2.out]
            rintro e z3 ⟨⟨AY, cY, rfl, hown⟩, hb⟩
            have hB3 := since_step hB3 hb
            have hs := hs.below hb
            have hU0 := hU0.below hb
            have hU1 := hU1.below hb
            have hU2 := hU2.below hb
            have hU3 := hU3.below hb
            have hX := hX.below hb
            clear hb
            clear u0 u1 u2 v0 v1 v2 x0 x1 x2 y0 y1 y2
            have hY := Sl.of_own hown
            clear hown
            obtain ⟨u0, u1, u2⟩ := id hU0
            obtain ⟨v0, v1, v2⟩ := id hU1
            obtain ⟨x0, x1, x2⟩ := id hU2
            obtain ⟨y0, y1, y2⟩ := id hU3
            go_wp2_with fail
            refine (eelect_any AX cX (putR ahC l ⟨a, ac, c, cc, false⟩) a bc d dc _ hlX hX).mono ?_
            rw [HE3.out]
            rintro e z4 ⟨⟨AP, cP, rfl, hown⟩, hb⟩
            have hB3 := since_step hB3 hb
            have hs := hs.below hb
            have hU0 := hU0.below hb
            have hU1 := hU1.below hb
            have hU2 := hU2.below hb
            have hU3 := hU3.below hb
            have hX := hX.below hb
            have hY := hY.below hb
            clear hb
            clear u0 u1 u2 v0 v1 v2 x0 x1 x2 y0 y1 y2
            have hP := Sl.of_own hown
            clear hown
            obtain ⟨u0, u1, u2⟩ := id hU0
            obtain ⟨v0, v1, v2⟩ := id hU1
            obtain ⟨x0, x1, x2⟩ := id hU2
            obtain ⟨y0, y1, y2⟩ := id hU3
            go_wp2_with fail
            refine (eelect_any AY cY (putR ahC l ⟨a, bc, d, dc, false⟩) a ac c cc _ hlY hY).mono ?_
            rw [HE4.out]
            rintro e z5 ⟨⟨AQ, cQ, rfl, hown⟩, hb⟩
            have hB3 := since_step hB3 hb
            have hs := hs.below hb
            have hU0 := hU0.below hb
            have hU1 := hU1.below hb
            have hU2 := hU2.below hb
            have hU3 := hU3.below hb
            have hX := hX.below hb
            have hY := hY.below hb
            have hP := hP.below hb
            clear hb
            clear u0 u1 u2 v0 v1 v2 x0 x1 x2 y0 y1 y2
            have hQ := Sl.of_own hown
            clear hown
            obtain ⟨u0, u1, u2⟩ := id hU0
            obtain ⟨v0, v1, v2⟩ := id hU1
            obtain ⟨x0, x1, x2⟩ := id hU2
            obtain ⟨y0, y1, y2⟩ := id hU3
            go_wp2_with fail
            refine (edrop_any AP cP P a ac _ hlP hP).mono ?_
            rw [HDO.out]
            rintro e z6 ⟨⟨AO, cO, rfl, hown⟩, hb⟩
            have hB3 := since_step hB3 hb
            have hs := hs.below hb
            have hU0 := hU0.below hb
            have hU1 := hU1.below hb
            have hU2 := hU2.below hb
            have hU3 := hU3.below hb
            have hX := hX.below hb
            have hY := hY.below hb
            have hP := hP.below hb
            have hQ := hQ.below hb
            clear hb
            clear u0 u1 u2 v0 v1 v2 x0 x1 x2 y0 y1 y2
            have hO := Sl.of_own hown
            clear hown
            obtain ⟨u0, u1, u2⟩ := id hU0
            obtain ⟨v0, v1, v2⟩ := id hU1
            obtain ⟨x0, x1, x2⟩ := id hU2
            obtain ⟨y0, y1, y2⟩ := id hU3
            go_wp2_with fail
            generalize hUU : z6 = U at *
            clear hUU
            have HU0 : Hid (∀ V, Below U.heap.size U V → UAt V w.heap.size a ac) := Lib.hid fun V hV => hU0.below hV
            have HU1 : Hid (∀ V, Below U.heap.size U V → UAt V (w.heap.size + 1) a bc) := Lib.hid fun V hV => hU1.below hV
            have HSP : Hid (∀ V, Below U.heap.size U V → Sl V AP (rc Ch.cells P) ∧ Sl V AQ (rc Ch.cells P) ∧ Sl V AO (rc Ch.cells O)) := Lib.hid fun V hV => ⟨hP.below hV, hQ.below hV, hO.below hV⟩
            clear hs hU0 hU1 hU2 hU3 hX hY hP hQ hO
            clear u0 u1 u2 v0 v1 v2 x0 x1 x2 y0 y1 y2
            refine wp_region_held_drew (S := (fun V => Below U.heap.size U V)) (by kernel_rfl) (by exact (Below.refl _ _).drew) (fun hHeld => ?_)
            refine wpAnyH_take (i := 0) (oi := { dst := some 85, op := _, type := _, pos := _, after := _, guard := _ }) (v := ?_) rfl (by kernel_rfl) (by kernel_rfl) (by kernel_rfl) (fun _ _ _ h => h) (Or.inl ⟨by rfl, ?_⟩) hHeld ?_
            rotate_left
            · (intro w hSw; obtain ⟨u0, u1, u2⟩ := HU0.out _ hSw; obtain ⟨v0, v1, v2⟩ := HU1.out _ hSw; go_simp <;> with_reducible rfl)
            try simp only [Act.put, List.setIfInBounds_toArray, List.set_cons_zero, List.set_cons_succ]
            refine wpAnyH_take (i := 1) (oi := { dst := some 86, op := _, type := _, pos := _, after := _, guard := _ }) (v := ?_) rfl (by kernel_rfl) (by kernel_rfl) (by kernel_rfl) (fun _ _ _ h => h) (Or.inl ⟨by rfl, ?_⟩) hHeld ?_
            rotate_left
            · (intro w hSw; obtain ⟨u0, u1, u2⟩ := HU0.out _ hSw; obtain ⟨v0, v1, v2⟩ := HU1.out _ hSw; go_simp <;> with_reducible rfl)
            try simp only [Act.put, List.setIfInBounds_toArray, List.set_cons_zero, List.set_cons_succ]
            refine wpAnyH_take (i := 2) (oi := { dst := some 87, op := _, type := _, pos := _, after := _, guard := _ }) (v := ?_) rfl (by kernel_rfl) (by kernel_rfl) (by kernel_rfl) (fun _ _ _ h => h) (Or.inl ⟨by rfl, ?_⟩) hHeld ?_
            rotate_left
            · (intro w hSw; obtain ⟨u0, u1, u2⟩ := HU0.out _ hSw; obtain ⟨v0, v1, v2⟩ := HU1.out _ hSw; go_simp <;> with_reducible rfl)
            try simp only [Act.put, List.setIfInBounds_toArray, List.set_cons_zero, List.set_cons_succ]
            refine wpAnyH_take (i := 3) (oi := { dst := some 88, op := _, type := _, pos := _, after := _, guard := _ }) (v := ?_) rfl (by kernel_rfl) (by kernel_rfl) (by kernel_rfl) (fun _ _ _ h => h) (Or.inl ⟨by rfl, ?_⟩) hHeld ?_
            rotate_left
            · (intro w hSw; obtain ⟨u0, u1, u2⟩ := HU0.out _ hSw; obtain ⟨v0, v1, v2⟩ := HU1.out _ hSw; go_simp <;> with_reducible rfl)
            try simp only [Act.put, List.setIfInBounds_toArray, List.set_cons_zero, List.set_cons_succ]
            refine wpAnyH_take (i := 4) (oi := { dst := some 89, op := _, type := _, pos := _, after := _, guard := _ }) (v := ?_) rfl (by kernel_rfl) (by kernel_rfl) (by kernel_rfl) (fun _ _ _ h => h) (Or.inl ⟨by rfl, ?_⟩) hHeld ?_
            rotate_left
            · (intro w hSw; obtain ⟨u0, u1, u2⟩ := HU0.out _ hSw; obtain ⟨v0, v1, v2⟩ := HU1.out _ hSw; go_simp <;> with_reducible rfl)
            try simp only [Act.put, List.setIfInBounds_toArray, List.set_cons_zero, List.set_cons_succ]
            refine wpAnyH_take (i := 5) (oi := { dst := some 90, op := _, type := _, pos := _, after := _, guard := _ }) (v := ?_) rfl (by kernel_rfl) (by kernel_rfl) (by kernel_rfl) (fun _ _ _ h => h) (Or.inl ⟨by rfl, ?_⟩) hHeld ?_
            rotate_left
            · (intro w hSw; obtain ⟨u0, u1, u2⟩ := HU0.out _ hSw; obtain ⟨v0, v1, v2⟩ := HU1.out _ hSw; go_simp <;> with_reducible rfl)
            try simp only [Act.put, List.setIfInBounds_toArray, List.set_cons_zero, List.set_cons_succ]
            refine wpAnyH_take (i := 6) (oi := { dst := some 91, op := _, type := _, pos := _, after := _, guard := _ }) (v := ?_) rfl (by kernel_rfl) (by kernel_rfl) (by kernel_rfl) (fun _ _ _ h => h) (Or.inl ⟨by rfl, ?_⟩) hHeld ?_
            rotate_left
            · (intro w hSw; obtain ⟨u0, u1, u2⟩ := HU0.out _ hSw; obtain ⟨v0, v1, v2⟩ := HU1.out _ hSw; go_simp <;> with_reducible rfl)
            try simp only [Act.put, List.setIfInBounds_toArray, List.set_cons_zero, List.set_cons_succ]
            refine wpAnyH_take (i := 7) (oi := { dst := some 92, op := _, type := _, pos := _, after := _, guard := _ }) (v := ?_) rfl (by kernel_rfl) (by kernel_rfl) (by kernel_rfl) (fun _ _ _ h => h) (Or.inl ⟨by rfl, ?_⟩) hHeld ?_
            rotate_left
            · (intro w hSw; obtain ⟨u0, u1, u2⟩ := HU0.out _ hSw; obtain ⟨v0, v1, v2⟩ := HU1.out _ hSw; go_simp <;> with_reducible rfl)
            try simp only [Act.put, List.setIfInBounds_toArray, List.set_cons_zero, List.set_cons_succ]
            refine wpAnyH_take (i := 8) (oi := { dst := some 93, op := _, type := _, pos := _, after := _, guard := _ }) (v := ?_) rfl (by kernel_rfl) (by kernel_rfl) (by kernel_rfl) (fun _ _ _ h => h) (Or.inl ⟨by rfl, ?_⟩) hHeld ?_
            rotate_left
            · (intro w hSw; obtain ⟨u0, u1, u2⟩ := HU0.out _ hSw; obtain ⟨v0, v1, v2⟩ := HU1.out _ hSw; go_simp <;> with_reducible rfl)
            try simp only [Act.put, List.setIfInBounds_toArray, List.set_cons_zero, List.set_cons_succ]
            refine wpAnyH_ready (rs := [9]) (by kernel_rfl) (by simp) ?_
            refine AllReadyH.cons (o := { dst := some 94, op := _, type := _, pos := _, after := _, guard := _ }) rfl (fun K hK => ?_) AllReadyH.nil
            go_simp
            obtain ⟨hP, hQ, hO⟩ := HSP.out _ hHeld
            refine (same_self AP AQ cP cQ P _ hlP hP hQ).mono ?_
            rintro e r1 ⟨rfl, hk1⟩
            have hKeep := since_step hHeld hk1
            go_wp2_with fail
            refine hK.out _ _ (by (try dsimp only); exact hKeep) (fun hHeld => ?_)
            clear hK K hKeep
            try simp only [Act.put, List.setIfInBounds_toArray, List.set_cons_zero, List.set_cons_succ]
            refine wpAnyH_take (i := 10) (oi := { dst := some 95, op := _, type := _, pos := _, after := _, guard := _ }) (v := ?_) rfl (by kernel_rfl) (by kernel_rfl) (by kernel_rfl) (fun _ _ _ h => h) (Or.inl ⟨by rfl, ?_⟩) hHeld ?_
            rotate_left
            · (intro w hSw; obtain ⟨u0, u1, u2⟩ := HU0.out _ hSw; obtain ⟨v0, v1, v2⟩ := HU1.out _ hSw; go_simp <;> with_reducible rfl)
            try simp only [Act.put, List.setIfInBounds_toArray, List.set_cons_zero, List.set_cons_succ]
            refine wpAnyH_take (i := 11) (oi := { dst := some 96, op := _, type := _, pos := _, after := _, guard := _ }) (v := ?_) rfl (by kernel_rfl) (by kernel_rfl) (by kernel_rfl) (fun _ _ _ h => h) (Or.inl ⟨by rfl, ?_⟩) hHeld ?_
            rotate_left
            · (intro w hSw; obtain ⟨u0, u1, u2⟩ := HU0.out _ hSw; obtain ⟨v0, v1, v2⟩ := HU1.out _ hSw; go_simp <;> with_reducible rfl)
            try simp only [Act.put, List.setIfInBounds_toArray, List.set_cons_zero, List.set_cons_succ]
            refine wpAnyH_take (i := 12) (oi := { dst := some 97, op := _, type := _, pos := _, after := _, guard := _ }) (v := ?_) rfl (by kernel_rfl) (by kernel_rfl) (by kernel_rfl) (fun _ _ _ h => h) (Or.inl ⟨by rfl, ?_⟩) hHeld ?_
            rotate_left
            · (intro w hSw; obtain ⟨u0, u1, u2⟩ := HU0.out _ hSw; obtain ⟨v0, v1, v2⟩ := HU1.out _ hSw; go_simp <;> with_reducible rfl)
            try simp only [Act.put, List.setIfInBounds_toArray, List.set_cons_zero, List.set_cons_succ]
            refine wpAnyH_take (i := 13) (oi := { dst := some 98, op := _, type := _, pos := _, after := _, guard := _ }) (v := ?_) rfl (by kernel_rfl) (by kernel_rfl) (by kernel_rfl) (fun _ _ _ h => h) (Or.inl ⟨by rfl, ?_⟩) hHeld ?_
            rotate_left
            · (intro w hSw; obtain ⟨u0, u1, u2⟩ := HU0.out _ hSw; obtain ⟨v0, v1, v2⟩ := HU1.out _ hSw; go_simp <;> with_reducible rfl)
            try simp only [Act.put, List.setIfInBounds_toArray, List.set_cons_zero, List.set_cons_succ]
            refine wpAnyH_take (i := 15) (oi := { dst := some 100, op := _, type := _, pos := _, after := _, guard := _ }) (v := ?_) rfl (by kernel_rfl) (by kernel_rfl) (by kernel_rfl) (fun _ _ _ h => h) (Or.inl ⟨by rfl, ?_⟩) hHeld ?_
            rotate_left
            · (intro w hSw; obtain ⟨u0, u1, u2⟩ := HU0.out _ hSw; obtain ⟨v0, v1, v2⟩ := HU1.out _ hSw; go_simp <;> with_reducible rfl)
            try simp only [Act.put, List.setIfInBounds_toArray, List.set_cons_zero, List.set_cons_succ]
            refine wpAnyH_ready (rs := [14]) (by kernel_rfl) (by simp) ?_
            refine AllReadyH.cons (o := { dst := some 99, op := _, type := _, pos := _, after := _, guard := _ }) rfl (fun K hK => ?_) AllReadyH.nil
            go_simp
            obtain ⟨hP, hQ, hO⟩ := HSP.out _ hHeld
            refine (edrop_any AO cO O a ac _ hlO hO).mono ?_
            rw [HDD.out]
            rintro e r2 ⟨⟨A2, c2, rfl, hown2⟩, hk2⟩
            have hKeep := since_step hHeld hk2
            have hs2 := Sl.of_own hown2
            go_wp2_with fail
            refine hK.out _ _ (by (try dsimp only); exact hKeep) (fun hHeld => ?_)
            clear hK K hKeep
            try simp only [Act.put, List.setIfInBounds_toArray, List.set_cons_zero, List.set_cons_succ]
            refine wpAnyH_ready (rs := [16]) (by kernel_rfl) (by simp) ?_
            refine AllReadyH.cons (o := { dst := some 101, op := _, type := _, pos := _, after := _, guard := _ }) rfl (fun K hK => ?_) AllReadyH.nil
            go_simp
            obtain ⟨hP, hQ, hO⟩ := HSP.out _ hHeld
            refine (same_self A2 AO c2 cO O _ hlO hs2 hO).mono ?_
            rintro e r3 ⟨rfl, hk3⟩
            have hKeep := since_step hHeld hk3
            go_wp2_with fail
            refine hK.out _ _ (by (try dsimp only); exact hKeep) (fun hHeld => ?_)
            clear hK K hKeep
            try simp only [Act.put, List.setIfInBounds_toArray, List.set_cons_zero, List.set_cons_succ]
            refine wpAnyH_take (i := 17) (oi := { dst := some 102, op := _, type := _, pos := _, after := _, guard := _ }) (v := ?_) rfl (by kernel_rfl) (by kernel_rfl) (by kernel_rfl) (fun _ _ _ h => h) (Or.inl ⟨by rfl, ?_⟩) hHeld ?_
            rotate_left
            · (intro w hSw; obtain ⟨u0, u1, u2⟩ := HU0.out _ hSw; obtain ⟨v0, v1, v2⟩ := HU1.out _ hSw; go_simp <;> with_reducible rfl)
            try simp only [Act.put, List.setIfInBounds_toArray, List.set_cons_zero, List.set_cons_succ]
            refine wpAnyH_take (i := 18) (oi := { dst := some 103, op := _, type := _, pos := _, after := _, guard := _ }) (v := ?_) rfl (by kernel_rfl) (by kernel_rfl) (by kernel_rfl) (fun _ _ _ h => h) (Or.inl ⟨by rfl, ?_⟩) hHeld ?_
            rotate_left
            · (intro w hSw; obtain ⟨u0, u1, u2⟩ := HU0.out _ hSw; obtain ⟨v0, v1, v2⟩ := HU1.out _ hSw; go_simp <;> with_reducible rfl)
            try simp only [Act.put, List.setIfInBounds_toArray, List.set_cons_zero, List.set_cons_succ]
            refine wpAnyH_take (i := 19) (oi := { dst := some 104, op := _, type := _, pos := _, after := _, guard := _ }) (v := ?_) rfl (by kernel_rfl) (by kernel_rfl) (by kernel_rfl) (fun _ _ _ h => h) (Or.inl ⟨by rfl, ?_⟩) hHeld ?_
            rotate_left
            · (intro w hSw; obtain ⟨u0, u1, u2⟩ := HU0.out _ hSw; obtain ⟨v0, v1, v2⟩ := HU1.out _ hSw; go_simp <;> with_reducible rfl)
            try simp only [Act.put, List.setIfInBounds_toArray, List.set_cons_zero, List.set_cons_succ]
            refine wpAnyH_take (i := 20) (oi := { dst := some 105, op := _, type := _, pos := _, after := _, guard := _ }) (v := ?_) rfl (by kernel_rfl) (by kernel_rfl) (by kernel_rfl) (fun _ _ _ h => h) (Or.inl ⟨by rfl, ?_⟩) hHeld ?_
            rotate_left
            · (intro w hSw; obtain ⟨u0, u1, u2⟩ := HU0.out _ hSw; obtain ⟨v0, v1, v2⟩ := HU1.out _ hSw; go_simp <;> with_reducible rfl)
            try simp only [Act.put, List.setIfInBounds_toArray, List.set_cons_zero, List.set_cons_succ]
            refine wpAnyH_take (i := 22) (oi := { dst := some 107, op := _, type := _, pos := _, after := _, guard := _ }) (v := ?_) rfl (by kernel_rfl) (by kernel_rfl) (by kernel_rfl) (fun _ _ _ h => h) (Or.inl ⟨by rfl, ?_⟩) hHeld ?_
            rotate_left
            · (intro w hSw; obtain ⟨u0, u1, u2⟩ := HU0.out _ hSw; obtain ⟨v0, v1, v2⟩ := HU1.out _ hSw; go_simp <;> with_reducible rfl)
            try simp only [Act.put, List.setIfInBounds_toArray, List.set_cons_zero, List.set_cons_succ]
            refine wpAnyH_take (i := 23) (oi := { dst := some 108, op := _, type := _, pos := _, after := _, guard := _ }) (v := ?_) rfl (by kernel_rfl) (by kernel_rfl) (by kernel_rfl) (fun _ _ _ h => h) (Or.inl ⟨by rfl, ?_⟩) hHeld ?_
            rotate_left
            · (intro w hSw; obtain ⟨u0, u1, u2⟩ := HU0.out _ hSw; obtain ⟨v0, v1, v2⟩ := HU1.out _ hSw; go_simp <;> with_reducible rfl)
            try simp only [Act.put, List.setIfInBounds_toArray, List.set_cons_zero, List.set_cons_succ]
            refine wpAnyH_take (i := 25) (oi := { dst := some 110, op := _, type := _, pos := _, after := _, guard := _ }) (v := ?_) rfl (by kernel_rfl) (by kernel_rfl) (by kernel_rfl) (fun _ _ _ h => h) (Or.inl ⟨by rfl, ?_⟩) hHeld ?_
            rotate_left
            · (intro w hSw; obtain ⟨u0, u1, u2⟩ := HU0.out _ hSw; obtain ⟨v0, v1, v2⟩ := HU1.out _ hSw; go_simp <;> with_reducible rfl)
            try simp only [Act.put, List.setIfInBounds_toArray, List.set_cons_zero, List.set_cons_succ]
            refine wpAnyH_ready (rs := [21]) (by kernel_rfl) (by simp) ?_
            refine AllReadyH.cons (o := { dst := some 106, op := _, type := _, pos := _, after := _, guard := _ }) rfl (fun K hK => ?_) AllReadyH.nil
            go_simp
            obtain ⟨hP, hQ, hO⟩ := HSP.out _ hHeld
            refine (edrop_any AO cO O a bc _ hlO hO).mono ?_
            rintro e r4 ⟨⟨A4, c4, rfl, hown4⟩, hk4⟩
            have hKeep := since_step hHeld hk4
            have hs4 := Sl.of_own hown4
            go_wp2_with fail
            refine hK.out _ _ (by (try dsimp only); exact hKeep) (fun hHeld => ?_)
            clear hK K hKeep
            try simp only [Act.put, List.setIfInBounds_toArray, List.set_cons_zero, List.set_cons_succ]
            refine wpAnyH_ready (rs := [24]) (by kernel_rfl) (by simp) ?_
            refine AllReadyH.cons (o := { dst := some 109, op := _, type := _, pos := _, after := _, guard := _ }) rfl (fun K hK => ?_) AllReadyH.nil
            go_simp
            obtain ⟨hP, hQ, hO⟩ := HSP.out _ hHeld
            refine (edrop_any AP cP P a bc _ hlP hP).mono ?_
            rintro e r5 ⟨⟨A5, c5, rfl, hown5⟩, hk5⟩
            have hKeep := since_step hHeld hk5
            have hs4 := hs4.below hk5
            have hs5 := Sl.of_own hown5
            go_wp2_with fail
            refine hK.out _ _ (by (try dsimp only); exact hKeep) (fun hHeld => ?_)
            clear hK K hKeep
            try simp only [Act.put, List.setIfInBounds_toArray, List.set_cons_zero, List.set_cons_succ]
            refine wpAnyH_ready (rs := [26]) (by kernel_rfl) (by simp) ?_
            refine AllReadyH.cons (o := { dst := some 111, op := _, type := _, pos := _, after := _, guard := _ }) rfl (fun K hK => ?_) AllReadyH.nil
            go_simp
            refine (edrop_any A5 c5 (dropC P a bc) a ac _ hlPb hs5).mono ?_
            rw [HCM.out]
            rintro e r6 ⟨⟨A6, c6, rfl, hown6⟩, hk6⟩
            have hKeep := since_step hHeld hk6
            have hs4 := hs4.below hk6
            have hs6 := Sl.of_own hown6
            go_wp2_with fail
            refine hK.out _ _ (by (try dsimp only); exact hKeep) (fun hHeld => ?_)
            clear hK K hKeep
            try simp only [Act.put, List.setIfInBounds_toArray, List.set_cons_zero, List.set_cons_succ]
            refine wpAnyH_ready (rs := [27]) (by kernel_rfl) (by simp) ?_
            refine AllReadyH.cons (o := { dst := some 112, op := _, type := _, pos := _, after := _, guard := _ }) rfl (fun K hK => ?_) AllReadyH.nil
            go_simp
            refine (same_self A4 A6 c4 c6 (dropC O a bc) _ hlOb hs4 hs6).mono ?_
            rintro e r7 ⟨rfl, hk7⟩
            have hKeep := since_step hHeld hk7
            go_wp2_with fail
            refine hK.out _ _ (by (try dsimp only); exact hKeep) (fun hHeld => ?_)
            clear hK K hKeep
            try simp only [Act.put, List.setIfInBounds_toArray, List.set_cons_zero, List.set_cons_succ]
            refine wpAnyH_take (i := 28) (oi := { dst := some 113, op := _, type := _, pos := _, after := _, guard := _ }) (v := ?_) rfl (by kernel_rfl) (by kernel_rfl) (by kernel_rfl) (fun _ _ _ h => h) (Or.inl ⟨by rfl, ?_⟩) hHeld ?_
            rotate_left
            · (intro w hSw; obtain ⟨u0, u1, u2⟩ := HU0.out _ hSw; obtain ⟨v0, v1, v2⟩ := HU1.out _ hSw; go_simp <;> with_reducible rfl)
            try simp only [Act.put, List.setIfInBounds_toArray, List.set_cons_zero, List.set_cons_succ]
            refine wpAnyH_take (i := 29) (oi := { dst := some 114, op := _, type := _, pos := _, after := _, guard := _ }) (v := ?_) rfl (by kernel_rfl) (by kernel_rfl) (by kernel_rfl) (fun _ _ _ h => h) (Or.inl ⟨by rfl, ?_⟩) hHeld ?_
            rotate_left
            · (intro w hSw; obtain ⟨u0, u1, u2⟩ := HU0.out _ hSw; obtain ⟨v0, v1, v2⟩ := HU1.out _ hSw; go_simp <;> with_reducible rfl)
            try simp only [Act.put, List.setIfInBounds_toArray, List.set_cons_zero, List.set_cons_succ]
            refine wpAnyH_ready (rs := [30]) (by kernel_rfl) (by simp) ?_
            refine AllReadyH.cons (o := { dst := some 115, op := _, type := _, pos := _, after := _, guard := _ }) rfl (fun K hK => ?_) AllReadyH.nil
            go_simp
            refine (lives16_any _).mono ?_
            rintro e r8 ⟨rfl, hk8⟩
            have hKeep := since_step hHeld hk8
            go_wp2_with fail
            refine hK.out _ _ (by (try dsimp only); exact hKeep) (fun hHeld => ?_)
            clear hK K hKeep
            try simp only [Act.put, List.setIfInBounds_toArray, List.set_cons_zero, List.set_cons_succ]
            refine wpAnyH_take (i := 31) (oi := { dst := some 116, op := _, type := _, pos := _, after := _, guard := _ }) (v := ?_) rfl (by kernel_rfl) (by kernel_rfl) (by kernel_rfl) (fun _ _ _ h => h) (Or.inl ⟨by rfl, ?_⟩) hHeld ?_
            rotate_left
            · (intro w hSw; obtain ⟨u0, u1, u2⟩ := HU0.out _ hSw; obtain ⟨v0, v1, v2⟩ := HU1.out _ hSw; go_simp <;> with_reducible rfl)
            try simp only [Act.put, List.setIfInBounds_toArray, List.set_cons_zero, List.set_cons_succ]
            refine wpAnyH_take (i := 32) (oi := { dst := some 10, op := _, type := _, pos := _, after := _, guard := _ }) (v := ?_) rfl (by kernel_rfl) (by kernel_rfl) (by kernel_rfl) (fun _ _ _ h => h) (Or.inl ⟨by rfl, ?_⟩) hHeld ?_
            rotate_left
            · (intro w hSw; obtain ⟨u0, u1, u2⟩ := HU0.out _ hSw; obtain ⟨v0, v1, v2⟩ := HU1.out _ hSw; go_simp <;> with_reducible rfl)
            try simp only [Act.put, List.setIfInBounds_toArray, List.set_cons_zero, List.set_cons_succ]
            refine wpAnyH_done (by kernel_rfl) ?_ _
            have hB4 := hB3.trans (hHeld.mono hB3.size)
            go_wp2_with fail
            go_ret
            exact ⟨rfl, hB4⟩
end Go.Proofs.Ytniapgcohihkhaa
