import Derived.Laws.IdiomStrings
import Derived.Lib.SlBytesConst
import Derived.Test.YtiggcpfmmgmncaaSa23
import Derived.Test.YtiggcpfmmgmncaaSa24
section
namespace Go.Proofs.Ytiggcpfmmgmncaa
open Go.ChangeShapes Go.WideShapes Go.ChangeAt Go.RowKit
set_option linter.unusedVariables false
set_option linter.unusedSimpArgs false

set_option maxHeartbeats 8000000 in
set_option maxRecDepth 100000 in
theorem lives8_any (w : World) :
    Calls Try.prog 29 #[] w fun e w' => e = .returned (.bool true) ∧ Below w.heap.size w w' := by
  have HN := Lib.hid (dnew_any 9 w (by decide) (by decide))
  have kc := fun (w : World) (C : Array Value) (n c : Nat) => Lib.run_convert_bytes_const (P := Try.prog) w 36 5 C n c Try.underlying36 Try.underlying5
  obtain ⟨cs, D, h1, h2, h3, h4, h5, h6, h7⟩ := live8_fact
  have H1 := Lib.hid h1
  have H2 := Lib.hid h2
  have H3 := Lib.hid h3
  have H4 := Lib.hid h4
  have H5 := Lib.hid h5
  have H6 := Lib.hid h6
  have H7 := Lib.hid h7
  have HA := Lib.hid live8_a
  have HB := Lib.hid live8_b
  clear h1 h2 h3 h4 h5 h6 h7
  go_enter Try.func29, Try.ntmps29
  go_wp2_with fail
  refine HN.out.mono ?_
  rintro e w1 ⟨b, g, rfl, ⟨K, kc2, hd1⟩, hb1⟩
  have ho := sopen_ok 1 9 1 0 w1 hd1 hb1.size (by decide) (by decide) (by decide) (by decide) (by decide) (by decide) (by rw [HA.out]; decide)
  rw [HB.out] at ho
  have HO := Lib.hid ho
  have HD1 := Lib.hid hd1
  have HB1 := Lib.hid hb1
  clear ho hd1 hb1
  go_wp2_with fail
  refine HO.out.mono ?_
  rintro e w2 ⟨s, A2, c2, R2, rfl, hs2, hb2⟩
  have hd2 := HD1.out.below hb2
  have hB2 := since_step HB1.out hb2
  have hsl : SlF (w2.alloc (.cells #[.int .u8 97] 5 (1, 2))) b g (some ⟨w2.heap.size, 0, none⟩) (by8 [97]) := ⟨Sl.newMark w2 [.int .u8 97] 5 (1, 2), fun _ p hp => by cases hp; have := hd2.lt; exact ⟨fun h => by simp at h; omega, fun h => by simp at h; omega⟩⟩
  have ha := sapp_go (some ⟨w2.heap.size, 0, none⟩) 1 [97] (w2.alloc (.cells #[.int .u8 97] 5 (1, 2))) (hd2.below (since_alloc (Below.refl _ _) _)) (hs2.below (since_alloc (Below.refl _ _) _)) (since_alloc hB2 _).size (by decide) (by decide) (by decide) hsl (by intro x hx; simp at hx; omega) rfl rfl (by show (cutF 1 0 ((0 + 1 : Nat) : Int) [97]).2 = 0; rw [H1.out]) (by show ¬ ((9 : Nat) : Int) - ((1 : Nat) : Int) - ((0 : Nat) : Int) < (((cutF 1 0 ((0 + 1 : Nat) : Int) [97]).1.length : Nat) : Int); rw [H1.out]; show ¬ _ < ((cs.length : Nat) : Int); rw [H2.out]; decide) (by show ((Dv.new 9).write ((1 + 0 : Nat) : Int) (cutF 1 0 ((0 + 1 : Nat) : Int) [97]).1).2 = 0; rw [H1.out]; show ((Dv.new 9).write 1 cs).2 = 0; rw [H3.out]) (by show (cutF 1 0 ((0 + 1 : Nat) : Int) [97]).1.length ≤ 255; rw [H1.out]; show cs.length ≤ 255; rw [H2.out]; decide) (by decide)
  rw [show (cutF (⟨1, 9, 1, 0, [], 0, false⟩ : Sc).life (⟨1, 9, 1, 0, [], 0, false⟩ : Sc).era (((⟨1, 9, 1, 0, [], 0, false⟩ : Sc).L.length + 1 : Nat) : Int) [97]).1 = cs by show (cutF 1 0 ((0 + 1 : Nat) : Int) [97]).1 = cs; rw [H1.out]] at ha
  have HAP := Lib.hid ha
  have HGE : Hid (∀ x ∈ b :: g :: s :: ((⟨1, 9, 1, 0, [], 0, false⟩ : Sc).row A2 c2).ownBlock.toList, w.heap.size ≤ x) := Lib.hid (by
    intro x hx
    simp only [List.mem_cons, Option.mem_toList] at hx
    rcases hx with rfl | rfl | rfl | hx
    · exact HD1.out.ge.1
    · exact HD1.out.ge.2
    · exact hs2.ge
    · exact own_ge hs2.own x hx)
  have HB2 := Lib.hid (since_alloc hB2 (.cells #[.int .u8 97] 5 (1, 2)))
  clear ha hs2 hb2 hd2 hB2 hsl
  go_wp2_with fail
  refine HAP.out.mono ?_
  rintro e w3 ⟨rfl, A3, c3, R3, hs3, hd3, hc3, _⟩
  have HB3 := Lib.hid (HB2.out.trans (hc3.below HB2.out.size HGE.out))
  rw [show ((Dv.new 9).write (((⟨1, 9, 1, 0, [], 0, false⟩ : Sc).f + (⟨1, 9, 1, 0, [], 0, false⟩ : Sc).used : Nat) : Int) cs).1 = D from by show ((Dv.new 9).write 1 cs).1 = D; rw [H3.out]] at hd3
  have HD3 := Lib.hid hd3
  have ho2 := sopen_ok 1 9 2 0 w3 hd3 HB3.out.size (by decide) (by rw [H4.out]; decide) (by decide) (by decide) (by decide) (by decide) (by show newestN D.S 1 8 < 2; rw [H5.out]; decide)
  rw [H6.out] at ho2
  have HO2 := Lib.hid ho2
  clear ho2 hd3 hc3 hs3
  go_wp2_with fail
  refine HO2.out.mono ?_
  rintro e w4 ⟨s2, A4, c4, R4, rfl, hs4, hb4⟩
  have HB4 := Lib.hid (since_step HB3.out hb4)
  have HD4 := Lib.hid (HD3.out.below hb4)
  have hR4 : ∀ r ∈ R4, r.l.length ≤ 100000 := fun r hr => by
    have h : r.l ∈ R4.map RowS.l := List.mem_map.2 ⟨r, hr, rfl⟩
    rw [hs4.map] at h
    have h : r.l = [97] := by simpa using h
    rw [h]; decide
  have HRC := Lib.hid (srecords_any w4 hs4 hR4)
  have HS4 := Lib.hid hs4
  clear hs4 hb4 hR4
  go_wp2_with fail
  refine HRC.out.mono ?_
  rintro e w5 ⟨⟨A5, c5, S5, rfl, own5, map5, rows5⟩, hb5⟩
  have HB5 := Lib.hid (since_step HB4.out hb5)
  have hl5 : S5.length = 1 := by have h := congrArg List.length map5; simpa using h
  have hbz : Below w5.heap.size w5 ((w5.alloc (.cells #[.int .u8 97] 5 (1, 2))).alloc (.cells #[.slice (some ⟨w5.heap.size, 0, none⟩) 1 1] 36)) := since_alloc (since_alloc (Below.refl _ _) _) _
  have hsame := rsame8_any A5 (some ⟨w5.heap.size + 1, 0, none⟩) c5 1 S5 [(⟨some ⟨w5.heap.size, 0, none⟩, 1, [97]⟩ : RowS Nat)] _ (by omega) (show 1 ≤ 1000000 by decide) (Sl.of_own (own_below own5 hbz)) (by
      have h := Sl.new_ (w5.alloc (.cells #[.int .u8 97] 5 (1, 2))) [.slice (some ⟨w5.heap.size, 0, none⟩) 1 1] 36
      rw [World.size_alloc] at h
      exact h)
    (fun r hr => ⟨Sl.of_own (own_below (rows5 r hr) hbz), by
      have h : r.l ∈ S5.map RowS.l := List.mem_map.2 ⟨r, hr, rfl⟩
      rw [map5] at h
      have h : r.l = [97] := by simpa using h
      rw [h]; decide⟩)
    (fun r hr => by
      obtain rfl : r = ⟨some ⟨w5.heap.size, 0, none⟩, 1, [97]⟩ := by simpa using hr
      exact ⟨(Sl.newMark w5 [.int .u8 97] 5 (1, 2)).below (since_alloc (Below.refl _ _) _), show 1 ≤ 1000000 by decide⟩)
  change Calls _ _ #[.slice A5 S5.length c5, .slice (some ⟨w5.heap.size + 1, 0, none⟩) 1 1] _ _ at hsame
  rw [show decide (S5.map RowS.l = [(⟨some ⟨w5.heap.size, 0, none⟩, 1, [97]⟩ : RowS Nat)].map RowS.l) = true by rw [map5]; rfl] at hsame
  have HSAME := Lib.hid hsame
  have HS5 := Lib.hid ((HS4.out.below hb5).below hbz)
  have HD5 := Lib.hid ((HD4.out.below hb5).below hbz)
  have HB6 := Lib.hid (since_step HB5.out hbz)
  clear hsame hbz own5 rows5 hb5 map5 hl5
  go_wp2_with fail
  refine HSAME.out.mono ?_
  rintro e w6 ⟨rfl, hb6⟩
  have hus := sused_any w6 (HS5.out.below hb6)
  change Calls _ _ _ _ (fun e w' => e = .returned (.int .i64 1) ∧ _) at hus
  have HUS := Lib.hid hus
  clear hus
  have HD6 := Lib.hid (HD5.out.below hb6)
  have HB7 := Lib.hid (since_step HB6.out hb6)
  clear hb6
  go_wp2_with fail
  refine HUS.out.mono ?_
  rintro e w7 ⟨rfl, hb7⟩
  have hnw := snewest_ok 0 9 w7 (HD6.out.below hb7) (by decide) (by rw [H4.out]; decide)
  rw [show newestN D.S 0 (9 - 0) = 1 from H7.out] at hnw
  have HNW := Lib.hid hnw
  have HB8 := Lib.hid (since_step HB7.out hb7)
  clear hb7 hnw
  go_wp2_with fail
  refine HNW.out.mono ?_
  rintro e w8 ⟨rfl, hb8⟩
  have HB9 := Lib.hid (since_step HB8.out hb8)
  clear hb8
  go_wp2_with fail
  go_ret
  exact ⟨rfl, HB9.out⟩
end Go.Proofs.Ytiggcpfmmgmncaa
end
section
namespace Go.Proofs.Ytiggcpfmmgmncaa
open Go.ChangeShapes Go.WideShapes Go.ChangeAt Go.RowKit
set_option linter.unusedVariables false
set_option linter.unusedSimpArgs false

set_option maxHeartbeats 8000000 in
set_option maxRecDepth 100000 in
theorem walk_ScrollNobody (a0 : Option Addr) (n0 c0 : Nat) (a1 a2 : Int) (w : World) (w0 : Rd w (.sl (.int .u8)) [.slice a0 n0 c0]) (w1 : (Lit.int .i64 a1).wf = true) (w2 : (Lit.int .i64 a2).wf = true) :
    Calls Try.prog 6 #[.slice a0 n0 c0, .int .i64 a1, .int .i64 a2] w fun e w' => e = .returned (.bool true) ∧ Below w.heap.size w w' := by
  obtain ⟨l, rfl, h2c, h2m, _, _⟩ := rd_octs w0
  have HCT := Lib.hid (fun V => cut_any a0 l.length c0 90 V (by unfold maxLen at h2m; omega) (by omega) h2c (by unfold maxLen at h2m; omega))
  have HLV := Lib.hid (fun V => lives8_any V)
  have hi1 := bd_i64 w1
  have hi2 := bd_i64 w2
  clear w0 w1 w2 h2c h2m
  generalize l.length = n0 at *
  go_enter Try.func6, Try.ntmps6
  go_wp2_with fail
  go_loopw [7] (fun i wr => ∃ k : Nat, k ≤ 2 ∧ i = .int .i64 k ∧ Below w.heap.size w wr) (fun i _ => 2 - (intOf i).toNat)
  case atStart => exact ⟨0, by omega, rfl, Below.refl _ _⟩
  case round =>
    obtain ⟨k, hk, rfl, hB⟩ := hrel
    rcases (by omega : k = 0 ∨ k = 1 ∨ k = 2) with rfl | rfl | rfl
    · have HB0 := Lib.hid hB
      have HN : Hid (Nob wr none) := Lib.hid (.inl rfl)
      have HM : Hid (NobS wr none) := Lib.hid (.inl rfl)
      clear hB
      go_wp2_with fail
      refine (sopen_nob none a1 a2 1 1 _ HN.out).mono ?_
      rintro e x1 ⟨rfl, hb⟩
      have HB1 := Lib.hid (since_step HB0.out hb)
      have HN := Lib.hid (HN.out.below hb)
      have HM := Lib.hid (HM.out.below hb)
      clear hb
      go_wp2_with fail
      refine (snewest_nob none a1 a2 _ HN.out).mono ?_
      rintro e x2 ⟨rfl, hb⟩
      have HB2 := Lib.hid (since_step HB1.out hb)
      have HN := Lib.hid (HN.out.below hb)
      have HM := Lib.hid (HM.out.below hb)
      clear hb
      go_wp2_with fail
      refine (HCT.out _).mono ?_
      rintro e y ⟨rfl, rfl⟩
      go_wp2_with fail
      refine (napp_any none a0 (min n0 90) c0 _ HM.out).mono ?_
      rintro e x3 ⟨rfl, hb⟩
      have HB3 := Lib.hid (since_step HB2.out hb)
      have HN := Lib.hid (HN.out.below hb)
      have HM := Lib.hid (HM.out.below hb)
      clear hb
      go_wp2_with fail
      refine (nrecords_any none _ HM.out).mono ?_
      rintro e x4 ⟨⟨A4, c4, rfl⟩, hb⟩
      have HB4 := Lib.hid (since_step HB3.out hb)
      have HN := Lib.hid (HN.out.below hb)
      have HM := Lib.hid (HM.out.below hb)
      clear hb
      go_wp2_with fail
      refine (nused_any none _ HM.out).mono ?_
      rintro e x5 ⟨rfl, hb⟩
      have HB5 := Lib.hid (since_step HB4.out hb)
      have HN := Lib.hid (HN.out.below hb)
      have HM := Lib.hid (HM.out.below hb)
      clear hb
      go_wp2_with fail
      go_roundw
      case rel => exact ⟨1, by omega, by go_num, HB5.out⟩
      case measure => simp [intOf]
    · have HB0 := Lib.hid ((hB.alloc hB.size (.cells #[.pointer none, .int .i64 0, .int .i64 0, .int .i64 0, .int .i64 0, .slice none 0 0, .int .i64 0, .bool false] 66)).alloc (hB.alloc hB.size (.cells #[.pointer none, .int .i64 0, .int .i64 0, .int .i64 0, .int .i64 0, .slice none 0 0, .int .i64 0, .bool false] 66)).size (.cells #[.bool false, .bool false, .int .i64 0, .slice none 0 0, .slice none 0 0, .int .i64 0] 71))
      have HN : Hid (Nob ((wr.alloc (.cells #[.pointer none, .int .i64 0, .int .i64 0, .int .i64 0, .int .i64 0, .slice none 0 0, .int .i64 0, .bool false] 66)).alloc (.cells #[.bool false, .bool false, .int .i64 0, .slice none 0 0, .slice none 0 0, .int .i64 0] 71)) (some ⟨wr.heap.size + 1, 0, none⟩)) := Lib.hid (.inr ⟨_, rfl, by rw [← World.size_alloc wr (.cells #[.pointer none, .int .i64 0, .int .i64 0, .int .i64 0, .int .i64 0, .slice none 0 0, .int .i64 0, .bool false] 66), heap_alloc_new]⟩)
      have HM : Hid (NobS ((wr.alloc (.cells #[.pointer none, .int .i64 0, .int .i64 0, .int .i64 0, .int .i64 0, .slice none 0 0, .int .i64 0, .bool false] 66)).alloc (.cells #[.bool false, .bool false, .int .i64 0, .slice none 0 0, .slice none 0 0, .int .i64 0] 71)) (some ⟨wr.heap.size, 0, none⟩)) := Lib.hid (NobS.below (.inr ⟨_, rfl, by rw [heap_alloc_new]⟩) (since_alloc (Below.refl _ _) _))
      clear hB
      go_wp2_with fail
      refine (sopen_nob (some ⟨wr.heap.size + 1, 0, none⟩) a1 a2 1 1 _ HN.out).mono ?_
      rintro e x1 ⟨rfl, hb⟩
      have HB1 := Lib.hid (since_step HB0.out hb)
      have HN := Lib.hid (HN.out.below hb)
      have HM := Lib.hid (HM.out.below hb)
      clear hb
      go_wp2_with fail
      refine (snewest_nob (some ⟨wr.heap.size + 1, 0, none⟩) a1 a2 _ HN.out).mono ?_
      rintro e x2 ⟨rfl, hb⟩
      have HB2 := Lib.hid (since_step HB1.out hb)
      have HN := Lib.hid (HN.out.below hb)
      have HM := Lib.hid (HM.out.below hb)
      clear hb
      go_wp2_with fail
      refine (HCT.out _).mono ?_
      rintro e y ⟨rfl, rfl⟩
      go_wp2_with fail
      refine (napp_any (some ⟨wr.heap.size, 0, none⟩) a0 (min n0 90) c0 _ HM.out).mono ?_
      rintro e x3 ⟨rfl, hb⟩
      have HB3 := Lib.hid (since_step HB2.out hb)
      have HN := Lib.hid (HN.out.below hb)
      have HM := Lib.hid (HM.out.below hb)
      clear hb
      go_wp2_with fail
      refine (nrecords_any (some ⟨wr.heap.size, 0, none⟩) _ HM.out).mono ?_
      rintro e x4 ⟨⟨A4, c4, rfl⟩, hb⟩
      have HB4 := Lib.hid (since_step HB3.out hb)
      have HN := Lib.hid (HN.out.below hb)
      have HM := Lib.hid (HM.out.below hb)
      clear hb
      go_wp2_with fail
      refine (nused_any (some ⟨wr.heap.size, 0, none⟩) _ HM.out).mono ?_
      rintro e x5 ⟨rfl, hb⟩
      have HB5 := Lib.hid (since_step HB4.out hb)
      have HN := Lib.hid (HN.out.below hb)
      have HM := Lib.hid (HM.out.below hb)
      clear hb
      go_wp2_with fail
      go_roundw
      case rel => exact ⟨2, by omega, by go_num, HB5.out⟩
      case measure => simp [intOf]
    · go_wp2_with fail
      refine (HLV.out _).mono ?_
      rintro e y3 ⟨rfl, hb⟩
      have hB3 := since_step hB hb
      go_wp2_with fail
      go_ret
      exact ⟨rfl, hB3⟩
end Go.Proofs.Ytiggcpfmmgmncaa
end
