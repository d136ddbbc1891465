import Derived.Laws.IdiomStrings
import Derived.Lib.SlBytesConst
import Derived.Test.YtiggcpfmmgmncaaVa32
section
namespace Go.Proofs.Ytiggcpfmmgmncaa
open Go.ChangeShapes Go.WideShapes Go.ChangeAt Go.RowKit
set_option linter.unusedVariables false
set_option linter.unusedSimpArgs false

def NobV (w : World) (p : Option Addr) : Prop := p = none ∨ ∃ s, p = some ⟨s, 0, none⟩ ∧ w.heap[s]? = some (.cells #[.pointer none] 99 (0, 0))
theorem NobV.below {w w' : World} {p : Option Addr} (h : NobV w p) (hb : Below w.heap.size w w') : NobV w' p := by
  rcases h with h | ⟨b, h1, h2⟩
  · exact .inl h
  · exact .inr ⟨b, h1, by rw [hb.block b (Array.getElem?_eq_some_iff.1 h2).1]; exact h2⟩
set_option maxHeartbeats 1000000 in
set_option maxRecDepth 100000 in
theorem nfit_v (p : Option Addr) (w : World) (h : NobV w p) :
    Calls Try.prog 76 #[.pointer p] w fun e w' => e = .returned (.bool false) ∧ w' = w := by
  rcases h with rfl | ⟨b, rfl, hb⟩
  · go_enter Try.func76, Try.ntmps76
    go_wp2_with fail
    go_ret
    exact ⟨rfl, rfl⟩
  · have k0 := (box_cells hb 0).1
    have hlt := (box_cells hb 0).2.2
    simp only [List.getElem?_toArray, List.getElem?_cons_zero] at k0
    clear hb
    go_enter Try.func76, Try.ntmps76
    go_wp2_with fail
    go_ret
    exact ⟨rfl, rfl⟩
set_option maxHeartbeats 1000000 in
set_option maxRecDepth 100000 in
theorem nera_v (p : Option Addr) (w : World) (h : NobV w p) :
    Calls Try.prog 42 #[.pointer p] w fun e w' => e = .returned (.int .i64 0) ∧ w' = w := by
  have HFT := Lib.hid (nfit_v p w h)
  clear h
  go_enter Try.func42, Try.ntmps42
  go_wp2_with fail
  refine HFT.out.mono ?_
  rintro e w1 ⟨rfl, rfl⟩
  go_wp2_with fail
  go_ret
  exact ⟨rfl, rfl⟩
set_option maxHeartbeats 1000000 in
set_option maxRecDepth 100000 in
theorem nleft_v (p : Option Addr) (w : World) (h : NobV w p) :
    Calls Try.prog 47 #[.pointer p] w fun e w' => e = .returned (.int .i64 0) ∧ w' = w := by
  have HFT := Lib.hid (nfit_v p w h)
  clear h
  go_enter Try.func47, Try.ntmps47
  go_wp2_with fail
  refine HFT.out.mono ?_
  rintro e w1 ⟨rfl, rfl⟩
  go_wp2_with fail
  go_ret
  exact ⟨rfl, rfl⟩
set_option maxHeartbeats 1000000 in
set_option maxRecDepth 100000 in
theorem nrecords_v (p : Option Addr) (w : World) (h : NobV w p) :
    Calls Try.prog 46 #[.pointer p] w fun e w' => e = .returned (.slice none 0 0) ∧ w' = w := by
  have HFT := Lib.hid (nfit_v p w h)
  clear h
  go_enter Try.func46, Try.ntmps46
  go_wp2_with fail
  refine HFT.out.mono ?_
  rintro e w1 ⟨rfl, rfl⟩
  go_wp2_with fail
  go_ret
  exact ⟨rfl, rfl⟩
set_option maxHeartbeats 1000000 in
set_option maxRecDepth 100000 in
theorem nstate_v (p : Option Addr) (w : World) (h : NobV w p) :
    Calls Try.prog 45 #[.pointer p] w fun e w' => e = .returned (.tuple #[.slice none 0 0, .bool false]) ∧ w' = w := by
  have HFT := Lib.hid (nfit_v p w h)
  clear h
  go_enter Try.func45, Try.ntmps45
  go_wp2_with fail
  refine HFT.out.mono ?_
  rintro e w1 ⟨rfl, rfl⟩
  go_wp2_with fail
  go_ret2
  exact ⟨rfl, rfl⟩
set_option maxHeartbeats 1000000 in
set_option maxRecDepth 100000 in
theorem nguard_v (p : Option Addr) (F : Nat) (caps : Array Value) (w : World) (h : NobV w p) :
    Calls Try.prog 71 #[.pointer p, .func (.func F) #[] caps] w fun e w' => e = .returned (.int .i64 1) ∧ w' = w := by
  have HFT := Lib.hid (nfit_v p w h)
  clear h
  go_enter Try.func71, Try.ntmps71
  go_wp2_with fail
  refine HFT.out.mono ?_
  rintro e w1 ⟨rfl, rfl⟩
  go_wp2_with fail
  go_ret
  exact ⟨rfl, rfl⟩
set_option maxHeartbeats 1000000 in
set_option maxRecDepth 100000 in
theorem napp_v (p A : Option Addr) (n c : Nat) (w : World) (h : NobV w p) :
    Calls Try.prog 38 #[.pointer p, .slice A n c] w fun e w' => e = .returned (.int .i64 1) ∧ Below w.heap.size w w' := by
  have hb0 : Below w.heap.size w ((w.alloc (.cells #[.pointer p] 83)).alloc (.cells #[.slice A n c] 36)) := since_alloc (since_alloc (Below.refl _ _) _) _
  have HG := Lib.hid (nguard_v p 72 #[.pointer (some ⟨w.heap.size, 0, none⟩), .pointer (some ⟨w.heap.size + 1, 0, none⟩)] _ (h.below hb0))
  have HB0 := Lib.hid hb0
  clear h hb0
  go_enter Try.func38, Try.ntmps38
  go_wp2_with fail
  refine HG.out.mono ?_
  rintro e w1 ⟨rfl, rfl⟩
  go_wp2_with fail
  go_ret
  exact ⟨rfl, HB0.out⟩
set_option maxHeartbeats 1000000 in
set_option maxRecDepth 100000 in
theorem ncompact_v (p A : Option Addr) (n c : Nat) (w : World) (h : NobV w p) :
    Calls Try.prog 40 #[.pointer p, .slice A n c] w fun e w' => e = .returned (.int .i64 1) ∧ Below w.heap.size w w' := by
  have hb0 : Below w.heap.size w ((w.alloc (.cells #[.pointer p] 83)).alloc (.cells #[.slice A n c] 36)) := since_alloc (since_alloc (Below.refl _ _) _) _
  have HG := Lib.hid (nguard_v p 73 #[.pointer (some ⟨w.heap.size, 0, none⟩), .pointer (some ⟨w.heap.size + 1, 0, none⟩)] _ (h.below hb0))
  have HB0 := Lib.hid hb0
  clear h hb0
  go_enter Try.func40, Try.ntmps40
  go_wp2_with fail
  refine HG.out.mono ?_
  rintro e w1 ⟨rfl, rfl⟩
  go_wp2_with fail
  go_ret
  exact ⟨rfl, HB0.out⟩
theorem nopen_v (p : Option Addr) (each : Int) (w : World) (h : Nob w p) :
    Calls Try.prog 36 #[.pointer p, .int .i64 each] w fun e w' => e = .returned (.tuple #[.pointer none, .int .i64 1]) ∧ Below w.heap.size w w' := by
  have HS := Lib.hid (nsize_any p w h)
  clear h
  go_enter Try.func36, Try.ntmps36
  go_wp2_with fail
  refine HS.out.mono ?_
  rintro e w1 ⟨rfl, hb⟩
  go_wp2_with fail
  go_ret2
  exact ⟨rfl, hb⟩
def lvA : (Vv × Dv) × Int := (openV (Dv.new 12).S 3).app (Dv.new 12) [97]
def lvC : (Vv × Dv) × Int := lvA.1.1.compact lvA.1.2 [115]
def lvB : (Vv × Dv) × Int := lvC.1.1.app lvC.1.2 [98]
set_option maxRecDepth 100000 in
theorem lv10_0 : newestN (Dv.new 12).S 0 12 < 16777214 ∧ (openV (Dv.new 12).S 3).sc.t ≤ 12 ∧ (openV (Dv.new 12).S 3).sc.L.length ≤ 900000 := by decide +kernel
set_option maxRecDepth 100000 in
theorem lv10_a : lvA.2 = 0 ∧ lvA.1.2.S.length = 12 ∧ lvA.1.1.each = 3 ∧ lvA.1.1.era = 0 := by decide +kernel
set_option maxRecDepth 100000 in
theorem lv10_n : newestN (lvA.1.2.save 0 lvA.1.1.each lvA.1.1.life (lvA.1.1.era + 1) [115]).1.S (2 * lvA.1.1.each) ((lvA.1.2.save 0 lvA.1.1.each lvA.1.1.life (lvA.1.1.era + 1) [115]).1.S.length - 2 * lvA.1.1.each) < lvA.1.1.life + 1 := by decide +kernel
set_option maxRecDepth 100000 in
theorem lv10_c : lvC.2 = 0 ∧ lvC.1.2.S.length = 12 ∧ lvC.1.1.sc.t ≤ 12 ∧ lvC.1.1.sc.L.length ≤ 900000 := by decide +kernel
set_option maxRecDepth 100000 in
theorem lv10_b : lvB.2 = 0 ∧ lvB.1.2.S.length = 12 ∧ newestN lvB.1.2.S 0 12 < 16777214 := by decide +kernel
set_option maxRecDepth 100000 in
theorem lv10_o : (openV lvB.1.2.S 3).era = 1 ∧ (openV lvB.1.2.S 3).state = [115] ∧ (openV lvB.1.2.S 3).sc.L = [[98]] := by decide +kernel
theorem str_back (w : World) (b c : Nat) (h : w.cell? ⟨b, 0, none⟩ = some (.int .u8 115)) : (convert 36 9 (.slice (some ⟨b, 0, none⟩) 1 c)).run Try.prog w = .ok (.string ⟨#[115]⟩) w :=
  run_convert_bytes_back (P := Try.prog) w 36 9 5 ⟨b, 0, none⟩ c [115] ED8.und (by kernel_rfl) (by kernel_rfl) (fun j hj => by
    obtain rfl : j = 0 := by simpa using hj
    exact h)
set_option maxHeartbeats 8000000 in
set_option maxRecDepth 100000 in
theorem lives10_any (w : World) :
    Calls Try.prog 44 #[] w fun e w' => e = .returned (.bool true) ∧ Below w.heap.size w w' := by
  have HN := Lib.hid (dnew_any 12 w (by decide) (by decide))
  have kc := fun (w : World) (C : Array Value) (n c : Nat) => Lib.run_convert_bytes_const (P := Try.prog) w 36 5 C n c Try.underlying36 Try.underlying5
  go_enter Try.func44, Try.ntmps44
  go_wp2_with fail
  refine HN.out.mono ?_
  rintro e w1 ⟨b, g, rfl, ⟨K, kc2, hd1⟩, hb1⟩
  have HO := Lib.hid (vopen_ok 3 w1 hd1 hb1.size (by decide) (by decide) lv10_0.1)
  have HD1 := Lib.hid hd1
  have HB1 := Lib.hid hb1
  clear hd1 hb1
  go_wp2_with fail
  refine HO.out.mono ?_
  rintro e w2 ⟨v, h2, s2, A2, c2, R2, SA2, k2, rfl, hv2, hb2, _⟩
  have HB2 := Lib.hid (since_step HB1.out hb2)
  have HD2 := Lib.hid (HD1.out.below hb2)
  have HV2 := Lib.hid hv2
  clear hv2 hb2
  have hlb2 : Below w2.heap.size w2 (w2.alloc (.cells #[.int .u8 97] 5 (1, 2))) := since_alloc (Below.refl _ _) _
  have hsl : SlF (w2.alloc (.cells #[.int .u8 97] 5 (1, 2))) b g (some ⟨w2.heap.size, 0, none⟩) (by8 [97]) := ⟨Sl.newMark w2 [.int .u8 97] 5 (1, 2), fun _ p hp => by cases hp; have := HD2.out.lt; exact ⟨fun h => by simp at h; omega, fun h => by simp at h; omega⟩⟩
  have ha := vapp_any (some ⟨w2.heap.size, 0, none⟩) 1 [97] (w2.alloc (.cells #[.int .u8 97] 5 (1, 2))) (HV2.out.below hlb2) (HD2.out.below hlb2) (since_alloc HB2.out _).size (by decide) (by decide) (by decide) hsl (by intro x hx; simp at hx; omega) (by exact lv10_0.2.1) (by exact lv10_0.2.2)
  rw [show (openV (Dv.new 12).S 3).app (Dv.new 12) [97] = lvA from rfl, lv10_a.1] at ha
  have HAP := Lib.hid ha
  have HGE : Hid (∀ y ∈ blkV b g h2 s2 ((openV (Dv.new 12).S 3).sc.row A2 c2), w.heap.size ≤ y) := Lib.hid (fun y hy => by
    rcases List.mem_cons.1 hy with e | hy
    · rw [e]; exact HV2.out.ge.2
    · exact blk8_ge HD2.out HV2.out.sc y hy)
  have HBL := Lib.hid (since_alloc HB2.out (.cells #[.int .u8 97] 5 (1, 2)))
  clear ha hsl hlb2
  go_wp2_with fail
  refine HAP.out.mono ?_
  rintro e w3 ⟨rfl, s3, A3, c3, R3, SA3, k3, hv, hd, hc, _⟩
  have HB3 := Lib.hid (HBL.out.trans (hc.below HBL.out.size HGE.out))
  have HV3 := Lib.hid hv
  have HD3 := Lib.hid hd
  clear hv hd hc HAP HGE HBL
  have hlb3 : Below w3.heap.size w3 (w3.alloc (.cells #[.int .u8 115] 5 (1, 2))) := since_alloc (Below.refl _ _) _
  have hsl : SlF (w3.alloc (.cells #[.int .u8 115] 5 (1, 2))) b g (some ⟨w3.heap.size, 0, none⟩) (by8 [115]) := ⟨Sl.newMark w3 [.int .u8 115] 5 (1, 2), fun _ p hp => by cases hp; have := HD3.out.lt; exact ⟨fun h => by simp at h; omega, fun h => by simp at h; omega⟩⟩
  have ha := vcompact_any (some ⟨w3.heap.size, 0, none⟩) 1 [115] (w3.alloc (.cells #[.int .u8 115] 5 (1, 2))) (HV3.out.below hlb3) (HD3.out.below hlb3) (since_alloc HB3.out _).size (by decide) (by decide) (by decide) hsl (by intro x hx; simp at hx; omega) (by rw [lv10_a.2.2.1]; decide) (by rw [lv10_a.2.2.1, lv10_a.2.1]; decide) (by rw [lv10_a.2.2.2]; decide) (fun _ => lv10_n)
  rw [show lvA.1.1.compact lvA.1.2 [115] = lvC from rfl, lv10_c.1] at ha
  have HAP := Lib.hid ha
  have HGE : Hid (∀ y ∈ blkV b g h2 s3 ((lvA.1.1).sc.row A3 c3), w.heap.size ≤ y) := Lib.hid (fun y hy => by
    rcases List.mem_cons.1 hy with e | hy
    · rw [e]; exact HV3.out.ge.2
    · exact blk8_ge HD3.out HV3.out.sc y hy)
  have HBL := Lib.hid (since_alloc HB3.out (.cells #[.int .u8 115] 5 (1, 2)))
  clear ha hsl hlb3
  go_wp2_with fail
  refine HAP.out.mono ?_
  rintro e w4 ⟨rfl, s4, A4, c4, R4, SA4, k4, hv, hd, hc, _⟩
  have HB4 := Lib.hid (HBL.out.trans (hc.below HBL.out.size HGE.out))
  have HV4 := Lib.hid hv
  have HD4 := Lib.hid hd
  clear hv hd hc HAP HGE HBL
  have hlb4 : Below w4.heap.size w4 (w4.alloc (.cells #[.int .u8 98] 5 (1, 2))) := since_alloc (Below.refl _ _) _
  have hsl : SlF (w4.alloc (.cells #[.int .u8 98] 5 (1, 2))) b g (some ⟨w4.heap.size, 0, none⟩) (by8 [98]) := ⟨Sl.newMark w4 [.int .u8 98] 5 (1, 2), fun _ p hp => by cases hp; have := HD4.out.lt; exact ⟨fun h => by simp at h; omega, fun h => by simp at h; omega⟩⟩
  have ha := vapp_any (some ⟨w4.heap.size, 0, none⟩) 1 [98] (w4.alloc (.cells #[.int .u8 98] 5 (1, 2))) (HV4.out.below hlb4) (HD4.out.below hlb4) (since_alloc HB4.out _).size (by decide) (by decide) (by decide) hsl (by intro x hx; simp at hx; omega) (by rw [lv10_c.2.1]; exact lv10_c.2.2.1) lv10_c.2.2.2
  rw [show lvC.1.1.app lvC.1.2 [98] = lvB from rfl, lv10_b.1] at ha
  have HAP := Lib.hid ha
  have HGE : Hid (∀ y ∈ blkV b g h2 s4 ((lvC.1.1).sc.row A4 c4), w.heap.size ≤ y) := Lib.hid (fun y hy => by
    rcases List.mem_cons.1 hy with e | hy
    · rw [e]; exact HV4.out.ge.2
    · exact blk8_ge HD4.out HV4.out.sc y hy)
  have HBL := Lib.hid (since_alloc HB4.out (.cells #[.int .u8 98] 5 (1, 2)))
  clear ha hsl hlb4
  go_wp2_with fail
  refine HAP.out.mono ?_
  rintro e w5 ⟨rfl, s5, A5, c5, R5, SA5, k5, hv, hd, hc, _⟩
  have HB5 := Lib.hid (HBL.out.trans (hc.below HBL.out.size HGE.out))
  have HV5 := Lib.hid hv
  have HD5 := Lib.hid hd
  clear hv hd hc HAP HGE HBL
  have HO2 := Lib.hid (vopen_ok 3 w5 HD5.out HB5.out.size (by decide) (by rw [lv10_b.2.1]; decide) (by rw [lv10_b.2.1]; exact lv10_b.2.2))
  go_wp2_with fail
  refine HO2.out.mono ?_
  rintro e w6 ⟨v6, h6, s6, A6, c6, R6, SA6, k6, rfl, hv6, hb6, _⟩
  have HB6 := Lib.hid (since_step HB5.out hb6)
  have HV6 := Lib.hid hv6
  clear hv6 hb6
  have hst := vstate_any w6 HV6.out
  rw [if_neg (by rw [lv10_o.1]; decide), decide_eq_false (by rw [lv10_o.1]; decide), lv10_o.2.1] at hst
  have HST := Lib.hid hst
  clear hst
  go_wp2_with fail
  refine HST.out.mono ?_
  rintro e w7 ⟨⟨A7, c7, rfl, own7⟩, hb7⟩
  have HB7 := Lib.hid (since_step HB6.out hb7)
  have HV7 := Lib.hid (HV6.out.below hb7)
  obtain ⟨b7, o7, rfl, h7c⟩ := Sl.of_own own7 (by simp [by8])
  have h7 := h7c 0 _ rfl
  obtain rfl : o7 = 0 := by
    rcases own7.2 with ⟨hv1, _⟩ | ⟨n, cap, cur, hv1, _⟩
    · injection hv1 with hv1; cases hv1
    · injection hv1 with hv1
      injection hv1 with hv1
      injection hv1
  have hsb := fun W (hW : Below w7.heap.size w7 W) => str_back W b7 c7 (by
    rw [hW.cell (p := ⟨b7, 0, none⟩) (World.block_lt_of_cell? _ _ h7)]
    exact h7)
  have hsb7 := hsb w7 (Below.refl _ _)
  have hR7 : ∀ r ∈ R6, r.l.length ≤ 100000 := fun r hr => by
    have h : r.l ∈ R6.map RowS.l := List.mem_map.2 ⟨r, hr, rfl⟩
    rw [HV7.out.sc.map, lv10_o.2.2] at h
    have h : r.l = [98] := by simpa using h
    rw [h]; decide
  have HRC := Lib.hid (vrecords_any w7 HV7.out hR7)
  clear own7 hb7 hR7 h7c h7 hsb HST
  go_wp2_with fail
  refine HRC.out.mono ?_
  rintro e w8 ⟨⟨A8, c8, S8, rfl, own8, map8, rows8⟩, hb8⟩
  rw [lv10_o.2.2] at map8
  have HB8 := Lib.hid (since_step HB7.out hb8)
  have hl8 : S8.length = 1 := by have h := congrArg List.length map8; simpa using h
  have hbz : Below w8.heap.size w8 ((w8.alloc (.cells #[.int .u8 98] 5 (1, 2))).alloc (.cells #[.slice (some ⟨w8.heap.size, 0, none⟩) 1 1] 36)) := since_alloc (since_alloc (Below.refl _ _) _) _
  have hsame := rsame8_any A8 (some ⟨w8.heap.size + 1, 0, none⟩) c8 1 S8 [(⟨some ⟨w8.heap.size, 0, none⟩, 1, [98]⟩ : RowS Nat)] _ (by omega) (show 1 ≤ 1000000 by decide) (Sl.of_own (own_below own8 hbz)) (by
      have h := Sl.new_ (w8.alloc (.cells #[.int .u8 98] 5 (1, 2))) [.slice (some ⟨w8.heap.size, 0, none⟩) 1 1] 36
      rw [World.size_alloc] at h
      exact h)
    (fun r hr => ⟨Sl.of_own (own_below (rows8 r hr) hbz), by
      have h : r.l ∈ S8.map RowS.l := List.mem_map.2 ⟨r, hr, rfl⟩
      rw [map8] at h
      have h : r.l = [98] := by simpa using h
      rw [h]; decide⟩)
    (fun r hr => by
      obtain rfl : r = ⟨some ⟨w8.heap.size, 0, none⟩, 1, [98]⟩ := by simpa using hr
      exact ⟨(Sl.newMark w8 [.int .u8 98] 5 (1, 2)).below (since_alloc (Below.refl _ _) _), show 1 ≤ 1000000 by decide⟩)
  change Calls _ _ #[.slice A8 S8.length c8, .slice (some ⟨w8.heap.size + 1, 0, none⟩) 1 1] _ _ at hsame
  rw [show decide (S8.map RowS.l = [(⟨some ⟨w8.heap.size, 0, none⟩, 1, [98]⟩ : RowS Nat)].map RowS.l) = true by rw [map8]; rfl] at hsame
  have HSAME := Lib.hid hsame
  have HV8 := Lib.hid ((HV7.out.below hb8).below hbz)
  have HB9 := Lib.hid (since_step HB8.out hbz)
  clear hsame hbz own8 rows8 hb8 map8 hl8 HRC
  go_wp2_with fail
  refine HSAME.out.mono ?_
  rintro e w9 ⟨rfl, hb9⟩
  have her := vera_eq w9 (HV8.out.below hb9)
  rw [lv10_o.1] at her
  have HER := Lib.hid her
  have HB10 := Lib.hid (since_step HB9.out hb9)
  clear her hb9
  go_wp2_with fail
  refine HER.out.mono ?_
  rintro e w10 ⟨rfl, rfl⟩
  go_wp2_with fail
  go_ret
  exact ⟨rfl, HB10.out⟩
end Go.Proofs.Ytiggcpfmmgmncaa
end
