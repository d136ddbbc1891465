/-
  The walks of layer 23, ninth part: GiveStays.
-/
import Derived.Test.YtaaknohoaijfhaaGive8
import Derived.Deep.QuietTactic
import Derived.BigQuiet
import Derived.IntWalk
namespace Go.Proofs.Ytaaknohoaijfhaa
open Go.ChangeShapes Go.WideShapes Go.ChangeAt Go.RowKit
set_option linter.unusedVariables false
set_option linter.unusedSimpArgs false

set_option maxRecDepth 100000 in
set_option maxHeartbeats 4000000 in
theorem walk_GiveStays (a0 : Option Addr) (n0 c0 : Nat) (w : World) (w0 : Rd w (.sl (.cat (.int .i64) (.cat (.int .i64) (.cat (.int .i64) (.cat (.int .i64) (.cat (.cat (.int .i64) (.cat (.cat (.int .i64) (.cat (.int .i64) .nil)) (.cat (.cat (.int .i64) (.cat (.int .i64) .nil)) (.cat (.cat (.int .i64) (.cat (.int .i64) .nil)) (.cat (.int .i64) (.cat (.int .i64) (.cat (.int .i64) (.cat (.int .i64) .nil)))))))) .nil)))))) [.slice a0 n0 c0]) :
    Calls Try.prog 8 #[.slice a0 n0 c0] w fun e w' => e = .returned (.bool true) ∧ Below w.heap.size w w' := by
  obtain ⟨D, rfl, hc0, hcm, hd⟩ := rd_do (by decide) w0
  clear w0
  go_enter Try.func8, Try.ntmps8
  go_wp2
  go_loopw [3, 4] (fun v i wr => ∃ k A c l, k ≤ D.length ∧ i = .int .i64 (k : Nat) ∧ v = .slice A (List.length l) c ∧ GL wr A c l ∧ Below w.heap.size w wr) (fun _ i _ => D.length - (intOf i).toNat)
  case atStart => exact ⟨0, none, 0, [], by omega, rfl, rfl, GL.nil _, Below.refl _ _⟩
  case round =>
    obtain ⟨k, A, c, l, hk, rfl, rfl, hL, hB⟩ := hrel
    by_cases hlt : k < D.length ∧ k < 90
    · obtain ⟨hlt, h90⟩ := hlt
      obtain ⟨b, o, rfl, hbw, hd1⟩ := hd.dos hlt
      have hd2 := hd1.keep (w' := wr) fun i => hB.cell (p := ⟨b, i, none⟩) hbw
      have hbr : b < wr.heap.size := Nat.lt_of_lt_of_le hbw hB.size
      generalize D[k] = d at *
      obtain ⟨d0, d1, d2, d3, d4, d5, d6, d7, d8, d9, d10, d11, d12, d13, d14⟩ := hd2
      clear hd1
      by_cases hkind : d.kind = 0
      · rw [hkind] at d0
        go_wp2_with fail
        refine (new_any A c l d.g d.day _ (hL.alloc _)).mono ?_
        rintro e w1 ⟨hr, hb1⟩
        have hB1 := since_step (since_alloc hB _) hb1
        have hL1 := (hL.alloc _).below hb1
        clear hb1
        rcases hr with ⟨hne, rfl⟩ | ⟨hE, A1, c1, rfl, hc1, hs1⟩
        · have HNE : (newE l d.g d.day != 0) = true := by simpa using hne
          go_wp2_with fail
          go_roundw
          case rel => exact ⟨k + 1, A, c, l, by omega, by go_num, rfl, hL1, hB1⟩
          case measure => simp [intOf]; omega
        · have hG := GL.new hE hL.2.2.2.1 hc1 hs1
          have hstay := Stays.new hL.2.2.2.1 d.g d.day
          generalize hN : l ++ [newG l d.g d.day] = N at *
          have hlen : l.length + 1 = N.length := by rw [← hN]; simp
          have HG := Lib.hid hG
          have HS := Lib.hid hstay
          have HL1 := Lib.hid hL1
          have HD := Lib.hid hd
          clear hstay hG hs1 hL1 hL hd hN
          rw [hlen]
          clear hlen
          go_wp2_with fail
          go_loopw [8] (fun i2 wr2 => ∃ k2 : Nat, k2 ≤ N.length ∧ i2 = .int .i64 k2 ∧ Below w1.heap.size w1 wr2) (fun i2 _ => N.length - (intOf i2).toNat)
          case atStart => exact ⟨0, by omega, rfl, Below.refl _ _⟩
          case round =>
            obtain ⟨k2, hk2, rfl, hB2⟩ := hrel
            by_cases hlt2 : k2 < N.length
            · obtain ⟨b1, o1, rfl, hb1w, hg1⟩ := HG.out.2.2.2.2.give hlt2
              have hg1 := hg1.keep (w' := wr) fun i => hB2.cell (p := ⟨b1, i, none⟩) hb1w
              have hb1r : b1 < wr.heap.size := Nat.lt_of_lt_of_le hb1w hB2.size
              obtain ⟨hid, hst⟩ := HS.out k2 hlt2
              have h64 := HG.out.2.2.1
              have ew : IntKind.i64.wrap ((k2 : Int) + 1) = (k2 : Int) + 1 := IntWalk.i64_in _ (by omega)
              have e1 : ((k2 : Int) + 1 != (k2 : Int) + 1) = false := by simp
              by_cases h3 : k2 < l.length
              · obtain ⟨b2, o2, rfl, hb2w, hg2⟩ := HL1.out.2.2.2.2.give h3
                have hg2 := hg2.keep (w' := wr) fun i => hB2.cell (p := ⟨b2, i, none⟩) hb2w
                have hb2r : b2 < wr.heap.size := Nat.lt_of_lt_of_le hb2w hB2.size
                have e2 : decide ((k2 : Int) < (l.length : Int)) = true := by simp; omega
                rcases hst h3 with he | ⟨hs, s, hs1, he⟩
                · rw [he] at hg1 hid
                  clear hst he
                  generalize l[k2] = y at *
                  obtain ⟨p0, p1, p2, p3, p4, p5, p6, p7, p8, p9, p10⟩ := hg1
                  obtain ⟨q0, q1, q2, q3, q4, q5, q6, q7, q8, q9, q10⟩ := hg2
                  rw [hid] at p0 q0
                  go_wp2
                  go_quiet (fail)
                  go_wp2
                  go_roundw
                  case rel => exact ⟨k2 + 1, by omega, by go_num, below_drewN hB2 _⟩
                  case measure => simp [intOf]; omega
                · rw [he] at hg1 hid
                  clear hst he
                  generalize l[k2] = y at *
                  dsimp only at hid
                  obtain ⟨p0, p1, p2, p3, p4, p5, p6, p7, p8, p9, p10⟩ := hg1
                  obtain ⟨q0, q1, q2, q3, q4, q5, q6, q7, q8, q9, q10⟩ := hg2
                  dsimp only at p0 p1 p2 p3 p4 p5 p6 p7 p8 p9 p10
                  rw [hid] at p0 q0
                  rw [hs] at q10
                  have e3 : (s == 1) = false := by simpa using hs1
                  have e4 : (s != 1) = true := by simpa using hs1
                  clear hid hs
                  go_wp2
                  go_quiet (fail)
                  go_wp2
                  go_roundw
                  case rel => exact ⟨k2 + 1, by omega, by go_num, below_drewN hB2 _⟩
                  case measure => simp [intOf]; omega
              · have e2 : decide ((k2 : Int) < (l.length : Int)) = false := by simp; omega
                clear hst
                generalize N[k2] = x at *
                obtain ⟨p0, p1, p2, p3, p4, p5, p6, p7, p8, p9, p10⟩ := hg1
                rw [hid] at p0
                clear hid
                go_wp2
                go_quiet (fail)
                go_wp2
                go_roundw
                case rel => exact ⟨k2 + 1, by omega, by go_num, below_drewN hB2 _⟩
                case measure => simp [intOf]; omega
            · go_wp2_with fail
              go_roundw
              case rel => exact ⟨k + 1, A1, c1, N, by omega, by go_num, rfl, HG.out.below hB2, since_step hB1 hB2⟩
              case measure => simp [intOf]; omega
      · have hk2 : (d.kind == 0) = false := by simpa using hkind
        go_wp2_with fail
        refine (turn_any A c l d.id d.st _ (by have := hL.2.2.1; omega) (hL.alloc _).2.2.2.2).mono ?_
        rintro e w1 ⟨hr, hb1⟩
        have hB1 := since_step (since_alloc hB _) hb1
        have hL1 := (hL.alloc _).below hb1
        clear hb1
        have hlen : (turnL l d.id d.st).length = l.length := by unfold turnL; simp
        rw [← hlen] at hr
        rcases hr with ⟨hne, rfl⟩ | ⟨hE, A1, c1, rfl, hc1, hs1⟩
        · have HNE : (turnE l d.id d.st != 0) = true := by simpa using hne
          go_wp2_with fail
          go_roundw
          case rel => exact ⟨k + 1, A, c, l, by omega, by go_num, rfl, hL1, hB1⟩
          case measure => simp [intOf]; omega
        · have hG := GL.turn hL hE (by rw [← hlen]; exact hc1) hs1
          have hstay := Stays.turn hL.2.2.2.1 hE
          clear hE hc1 hlen
          generalize hN : turnL l d.id d.st = N at *
          have HG := Lib.hid hG
          have HS := Lib.hid hstay
          have HL1 := Lib.hid hL1
          have HD := Lib.hid hd
          clear hstay hG hs1 hL1 hL hd hN
          go_wp2_with fail
          go_loopw [8] (fun i2 wr2 => ∃ k2 : Nat, k2 ≤ N.length ∧ i2 = .int .i64 k2 ∧ Below w1.heap.size w1 wr2) (fun i2 _ => N.length - (intOf i2).toNat)
          case atStart => exact ⟨0, by omega, rfl, Below.refl _ _⟩
          case round =>
            obtain ⟨k2, hk2, rfl, hB2⟩ := hrel
            by_cases hlt2 : k2 < N.length
            · obtain ⟨b1, o1, rfl, hb1w, hg1⟩ := HG.out.2.2.2.2.give hlt2
              have hg1 := hg1.keep (w' := wr) fun i => hB2.cell (p := ⟨b1, i, none⟩) hb1w
              have hb1r : b1 < wr.heap.size := Nat.lt_of_lt_of_le hb1w hB2.size
              obtain ⟨hid, hst⟩ := HS.out k2 hlt2
              have h64 := HG.out.2.2.1
              have ew : IntKind.i64.wrap ((k2 : Int) + 1) = (k2 : Int) + 1 := IntWalk.i64_in _ (by omega)
              have e1 : ((k2 : Int) + 1 != (k2 : Int) + 1) = false := by simp
              by_cases h3 : k2 < l.length
              · obtain ⟨b2, o2, rfl, hb2w, hg2⟩ := HL1.out.2.2.2.2.give h3
                have hg2 := hg2.keep (w' := wr) fun i => hB2.cell (p := ⟨b2, i, none⟩) hb2w
                have hb2r : b2 < wr.heap.size := Nat.lt_of_lt_of_le hb2w hB2.size
                have e2 : decide ((k2 : Int) < (l.length : Int)) = true := by simp; omega
                rcases hst h3 with he | ⟨hs, s, hs1, he⟩
                · rw [he] at hg1 hid
                  clear hst he
                  generalize l[k2] = y at *
                  obtain ⟨p0, p1, p2, p3, p4, p5, p6, p7, p8, p9, p10⟩ := hg1
                  obtain ⟨q0, q1, q2, q3, q4, q5, q6, q7, q8, q9, q10⟩ := hg2
                  rw [hid] at p0 q0
                  go_wp2
                  go_quiet (fail)
                  go_wp2
                  go_roundw
                  case rel => exact ⟨k2 + 1, by omega, by go_num, below_drewN hB2 _⟩
                  case measure => simp [intOf]; omega
                · rw [he] at hg1 hid
                  clear hst he
                  generalize l[k2] = y at *
                  dsimp only at hid
                  obtain ⟨p0, p1, p2, p3, p4, p5, p6, p7, p8, p9, p10⟩ := hg1
                  obtain ⟨q0, q1, q2, q3, q4, q5, q6, q7, q8, q9, q10⟩ := hg2
                  dsimp only at p0 p1 p2 p3 p4 p5 p6 p7 p8 p9 p10
                  rw [hid] at p0 q0
                  rw [hs] at q10
                  have e3 : (s == 1) = false := by simpa using hs1
                  have e4 : (s != 1) = true := by simpa using hs1
                  clear hid hs
                  go_wp2
                  go_quiet (fail)
                  go_wp2
                  go_roundw
                  case rel => exact ⟨k2 + 1, by omega, by go_num, below_drewN hB2 _⟩
                  case measure => simp [intOf]; omega
              · have e2 : decide ((k2 : Int) < (l.length : Int)) = false := by simp; omega
                clear hst
                generalize N[k2] = x at *
                obtain ⟨p0, p1, p2, p3, p4, p5, p6, p7, p8, p9, p10⟩ := hg1
                rw [hid] at p0
                clear hid
                go_wp2
                go_quiet (fail)
                go_wp2
                go_roundw
                case rel => exact ⟨k2 + 1, by omega, by go_num, below_drewN hB2 _⟩
                case measure => simp [intOf]; omega
            · go_wp2_with fail
              go_roundw
              case rel => exact ⟨k + 1, A1, c1, N, by omega, by go_num, rfl, HG.out.below hB2, since_step hB1 hB2⟩
              case measure => simp [intOf]; omega
    · by_cases hk1 : k < D.length
      · have h90 : ¬ k < 90 := fun h => hlt ⟨hk1, h⟩
        go_wp2_with fail
        refine (lives23_any _).mono ?_
        rintro e w1 ⟨rfl, hb1⟩
        have hB1 := since_step hB hb1
        go_wp2_with fail
        go_ret
        exact ⟨rfl, hB1⟩
      · go_wp2_with fail
        refine (lives23_any _).mono ?_
        rintro e w1 ⟨rfl, hb1⟩
        have hB1 := since_step hB hb1
        go_wp2_with fail
        go_ret
        exact ⟨rfl, hB1⟩
end Go.Proofs.Ytaaknohoaijfhaa
