import Derived.Test.YtiggcpfmmgmncaaVp20
import Derived.Test.YtiggcpfmmgmncaaVp22
set_option maxHeartbeats 16000000
set_option maxRecDepth 100000
set_option linter.unusedVariables false
set_option linter.unusedSimpArgs false
namespace Go.Proofs.Ytiggcpfmmgmncaa
open Go.ChangeShapes Go.WideShapes Go.ChangeAt Go.RowKit
section
theorem dlive_eq {B b g kc : Nat} {K : Option Addr} {d : Dv} (w : World) (h : DrA B w b g K kc d) :
    Calls Try.prog 30 #[.pointer (some ⟨b, 0, none⟩)] w fun e w' => e = .returned (.bool d.on) ∧ w' = w := by
  obtain ⟨k0, k1, k2, k3, k4, k5⟩ := h.got
  have hlt := h.lt.1
  generalize d.on = n at *
  clear h
  go_enter Try.func30, Try.ntmps30
  go_wp2_with fail
  go_ret
  exact ⟨rfl, rfl⟩
theorem sapp_dead {B b g kc s c : Nat} {K A : Option Addr} {d : Dv} {R : List (RowS Nat)} {x : Sc} (rA : Option Addr) (rc_ : Nat) (l : List Nat) (w : World) (hd : DrA B w b g K kc d) (hs : ScA B w s b A c R x) (hB : B ≤ w.heap.size) (hlc : l.length ≤ rc_) (hcm : rc_ ≤ maxLen) (hl : l.length ≤ 100000) (hrs : SlF w b g rA (by8 l)) (ho : Oct l) (hdead : x.dead = true) :
    Calls Try.prog 18 #[.pointer (some ⟨s, 0, none⟩), .slice rA l.length rc_] w fun e w' => e = .returned (.int .i64 9) ∧ Below w.heap.size w w' := by
  obtain ⟨p0, p1, p2, p3, p4, p5, p6, p7⟩ := hs.got
  have ps := hs.lt
  rw [hdead] at p7
  clear hd hs hrs ho hdead
  go_enter Try.func18, Try.ntmps18
  go_wp2_with fail
  go_ret
  exact ⟨rfl, Below.refl _ _⟩
theorem sapp_off {B b g kc s c : Nat} {K A : Option Addr} {d : Dv} {R : List (RowS Nat)} {x : Sc} (rA : Option Addr) (rc_ : Nat) (l : List Nat) (w : World) (hd : DrA B w b g K kc d) (hs : ScA B w s b A c R x) (hB : B ≤ w.heap.size) (hlc : l.length ≤ rc_) (hcm : rc_ ≤ maxLen) (hl : l.length ≤ 100000) (hrs : SlF w b g rA (by8 l)) (ho : Oct l) (hdead : x.dead = false) (hon : d.on = false) :
    Calls Try.prog 18 #[.pointer (some ⟨s, 0, none⟩), .slice rA l.length rc_] w fun e w' => e = .returned (.int .i64 9) ∧ Below w.heap.size w w' := by
  obtain ⟨p0, p1, p2, p3, p4, p5, p6, p7⟩ := hs.got
  have ps := hs.lt
  rw [hdead] at p7
  have HL := Lib.hid (dlive_eq w hd)
  rw [hon] at HL
  clear hd hs hrs ho hdead hon
  go_enter Try.func18, Try.ntmps18
  go_wp2_with fail
  refine HL.out.mono ?_
  rintro e w1 ⟨rfl, rfl⟩
  go_wp2_with fail
  go_ret
  exact ⟨rfl, Below.refl _ _⟩
theorem sapp_cut {B b g kc s c : Nat} {K A : Option Addr} {d : Dv} {R : List (RowS Nat)} {x : Sc} (rA : Option Addr) (rc_ : Nat) (l : List Nat) (w : World) (hd : DrA B w b g K kc d) (hs : ScA B w s b A c R x) (hB : B ≤ w.heap.size) (hlc : l.length ≤ rc_) (hcm : rc_ ≤ maxLen) (hl : l.length ≤ 100000) (hrs : SlF w b g rA (by8 l)) (ho : Oct l) (hdead : x.dead = false) (hon : d.on = true) (hcz : (cutF x.life x.era ((x.L.length + 1 : Nat) : Int) l).2 ≠ 0) :
    Calls Try.prog 18 #[.pointer (some ⟨s, 0, none⟩), .slice rA l.length rc_] w fun e w' => e = .returned (.int .i64 (cutF x.life x.era ((x.L.length + 1 : Nat) : Int) l).2) ∧ Below w.heap.size w w' := by
  obtain ⟨p0, p1, p2, p3, p4, p5, p6, p7⟩ := hs.got
  have ps := hs.lt
  rw [hdead] at p7
  have HL := Lib.hid (dlive_eq w hd)
  rw [hon] at HL
  have HCUT := Lib.hid (fun V (hV : Below w.heap.size w V) => fcut7_any x.life x.era ((x.L.length + 1 : Nat) : Int) rA rc_ l V hlc hcm (by omega) (hrs.1.below hV) ho)
  have HNX := Lib.hid (fun V (hV : Below w.heap.size w V) => snext_any V (hs.below hV))
  have HSC := Lib.hid (fun V (hV : Below w.heap.size w V) => (show V.cell? ⟨s, 3, none⟩ = some (.int .i64 x.life) ∧ V.cell? ⟨s, 4, none⟩ = some (.int .i64 x.era) ∧ V.cell? ⟨s, 5, none⟩ = some (.slice A x.L.length c) ∧ s < V.heap.size from by
    have h := hs.below hV
    obtain ⟨k0, k1, k2, k3, k4, k5, k6, k7⟩ := h.got
    exact ⟨k3, k4, k5, h.lt⟩))
  obtain ⟨n1, hn1⟩ : ∃ n1, x.L.length + 1 = n1 := ⟨_, rfl⟩
  rw [hn1] at HCUT HNX
  have HN1 := Lib.hid hn1
  have HD := Lib.hid (fun V (hV : Below w.heap.size w V) => hd.below hV)
  have HS := Lib.hid (fun V (hV : Below w.heap.size w V) => hs.below hV)
  have HRS := Lib.hid (fun V (hV : Below w.heap.size w V) => hrs.below hV)
  have hz := cutF_err hcz
  rw [hn1] at hz hcz ⊢
  obtain ⟨⟨CR, z⟩, hR⟩ : ∃ C, cutF x.life x.era (n1 : Int) l = C := ⟨_, rfl⟩
  rw [hR] at HCUT hz hcz ⊢
  simp only at hz hcz ⊢
  have hzb : (z != 0) = true := by simpa using hcz
  clear hR hcz hz
  clear hd hs hrs ho hdead hon hn1
  go_enter Try.func18, Try.ntmps18
  go_wp2_with fail
  refine HL.out.mono ?_
  rintro e w1 ⟨rfl, rfl⟩
  clear p0 p1 p2 p3 p4 p5 p6 p7
  go_wp2_with fail
  refine wp_region_held_drew (S := (fun V => Below w1.heap.size w1 V)) (by kernel_rfl) (by exact (Below.refl _ _).drew) (fun hHeld => ?_)
  refine tkJ 0 32 rfl (by intro w; go_simp <;> with_reducible rfl) hHeld ?_; simp only [pqZ]
  refine tkJ 1 33 rfl (by intro w; go_simp <;> with_reducible rfl) hHeld ?_; simp only [pqZ]
  refine tkJ 2 34 rfl (by intro w; go_simp <;> with_reducible rfl) hHeld ?_; simp only [pqZ]
  refine tkI 3 35 rfl (by intro w hSw; obtain ⟨q1, q2, q3, qs⟩ := HSC.out _ (hSw); go_simp <;> with_reducible rfl) hHeld ?_; simp only [pqZ]
  refine tkJ 4 36 rfl (by intro w; go_simp <;> with_reducible rfl) hHeld ?_; simp only [pqZ]
  refine tkJ 5 37 rfl (by intro w; go_simp <;> with_reducible rfl) hHeld ?_; simp only [pqZ]
  refine tkJ 6 38 rfl (by intro w; go_simp <;> with_reducible rfl) hHeld ?_; simp only [pqZ]
  refine tkI 7 39 rfl (by intro w hSw; obtain ⟨q1, q2, q3, qs⟩ := HSC.out _ (hSw); go_simp <;> with_reducible rfl) hHeld ?_; simp only [pqZ]
  refine tkJ 8 40 rfl (by intro w; go_simp <;> with_reducible rfl) hHeld ?_; simp only [pqZ]
  refine tkJ 10 42 rfl (by intro w; go_simp <;> with_reducible rfl) hHeld ?_; simp only [pqZ]
  refine rdZ 9 41 rfl (by kernel_rfl) (fun K hK => ?_)
  go_simp
  refine (HNX.out _ hHeld).mono ?_
  rintro e x1 ⟨rfl, rfl⟩
  have hKeep := hHeld
  go_wp2_with fail
  refine hK.out _ _ (by (try dsimp only); exact hKeep) (fun hHeld => ?_); clear hK K hKeep; try simp only [pqZ]
  refine rdZ 11 43 rfl (by kernel_rfl) (fun K hK => ?_)
  go_simp
  refine (HCUT.out _ hHeld).mono ?_
  rintro e x2 ⟨⟨A2, c2, S2, rfl, own2, hm2, hor2⟩, hk2⟩
  have hKeep := since_step hHeld hk2
  have HO2 := Lib.hid (own_base own2 hHeld.size)
  have HR2 := Lib.hid (fun r hr => own_base (hor2 r hr) hHeld.size)
  simp only at hm2
  have HM2 := Lib.hid hm2
  clear own2 hor2 hm2 hk2
  go_wp2_with fail
  refine hK.out _ _ (by (try dsimp only); exact hKeep) (fun hHeld => ?_); clear hK K hKeep; try simp only [pqZ]
  refine tkJ 12 31 rfl (by intro w; go_simp <;> with_reducible rfl) hHeld ?_; simp only [pqZ]
  refine tkJ 13 44 rfl (by intro w; go_simp <;> with_reducible rfl) hHeld ?_; simp only [pqZ]
  refine tkJ 14 45 rfl (by intro w; go_simp <;> with_reducible rfl) hHeld ?_; simp only [pqZ]
  refine tkJ 15 5 rfl (by intro w; go_simp <;> with_reducible rfl) hHeld ?_; simp only [pqZ]
  refine tkJ 16 6 rfl (by intro w; go_simp <;> with_reducible rfl) hHeld ?_; simp only [pqZ]
  refine wpAnyH_done (by kernel_rfl) ?_ _
  have HBY := Lib.hid hHeld
  go_wp2_with fail
  go_ret
  exact ⟨rfl, HBY.out⟩
theorem ScA.chg2 {B B2 b g kc s b2 c : Nat} {K A : Option Addr} {d : Dv} {R : List (RowS Nat)} {x : Sc} {w w' : World} (hd : DrA B w b g K kc d) (hs : ScA B2 w s b2 A c R x) (hc : Chg2 b g w w') : ScA B2 w' s b2 A c R x := by
  have hsb : s ≠ b := fun e => by
    have h1 := hd.blk
    rw [← e, hs.blk] at h1
    injection h1 with h1
    injection h1 with _ h2
    exact absurd h2 (by decide)
  have hsg : s ≠ g := fun e => by
    have h1 := hd.row
    rw [← e, hs.blk] at h1
    injection h1 with h1
    injection h1 with _ h2
    exact absurd h2 (by decide)
  obtain ⟨x1, x2⟩ := hd.off hs.own (by decide) (by decide)
  exact ⟨by rw [hc.block s hs.lt hsb hsg]; exact hs.blk, hc.own hs.own x1 x2, OwnR.chg hs.rows hd hc, hs.map, hs.ge, hs.small⟩
theorem sapp_full {B b g kc s c : Nat} {K A : Option Addr} {d : Dv} {R : List (RowS Nat)} {x : Sc} (rA : Option Addr) (rc_ : Nat) (l : List Nat) (w : World) (hd : DrA B w b g K kc d) (hs : ScA B w s b A c R x) (hB : B ≤ w.heap.size) (hlc : l.length ≤ rc_) (hcm : rc_ ≤ maxLen) (hl : l.length ≤ 100000) (hrs : SlF w b g rA (by8 l)) (ho : Oct l) (hdead : x.dead = false) (hon : d.on = true) (hcz : (cutF x.life x.era ((x.L.length + 1 : Nat) : Int) l).2 = 0) (hroom : (x.t : Int) - (x.f : Int) - (x.used : Int) < (((cutF x.life x.era ((x.L.length + 1 : Nat) : Int) l).1.length : Nat) : Int)) :
    Calls Try.prog 18 #[.pointer (some ⟨s, 0, none⟩), .slice rA l.length rc_] w fun e w' => e = .returned (.int .i64 10) ∧ Below w.heap.size w w' := by
  obtain ⟨p0, p1, p2, p3, p4, p5, p6, p7⟩ := hs.got
  have ps := hs.lt
  rw [hdead] at p7
  have HL := Lib.hid (dlive_eq w hd)
  rw [hon] at HL
  have HCUT := Lib.hid (fun V (hV : Below w.heap.size w V) => fcut7_any x.life x.era ((x.L.length + 1 : Nat) : Int) rA rc_ l V hlc hcm (by omega) (hrs.1.below hV) ho)
  have HNX := Lib.hid (fun V (hV : Below w.heap.size w V) => snext_any V (hs.below hV))
  have HSC := Lib.hid (fun V (hV : Below w.heap.size w V) => (show V.cell? ⟨s, 3, none⟩ = some (.int .i64 x.life) ∧ V.cell? ⟨s, 4, none⟩ = some (.int .i64 x.era) ∧ V.cell? ⟨s, 5, none⟩ = some (.slice A x.L.length c) ∧ s < V.heap.size from by
    have h := hs.below hV
    obtain ⟨k0, k1, k2, k3, k4, k5, k6, k7⟩ := h.got
    exact ⟨k3, k4, k5, h.lt⟩))
  obtain ⟨n1, hn1⟩ : ∃ n1, x.L.length + 1 = n1 := ⟨_, rfl⟩
  rw [hn1] at HCUT HNX
  have HN1 := Lib.hid hn1
  have HD := Lib.hid (fun V (hV : Below w.heap.size w V) => hd.below hV)
  have HS := Lib.hid (fun V (hV : Below w.heap.size w V) => hs.below hV)
  have HRS := Lib.hid (fun V (hV : Below w.heap.size w V) => hrs.below hV)
  rw [hn1] at hcz hroom 
  have hrows := cut_rows (b := l) (Prod.ext rfl hcz : cutF x.life x.era (n1 : Int) l = ((cutF x.life x.era (n1 : Int) l).1, 0)) ho
  obtain ⟨⟨CR, z⟩, hR⟩ : ∃ C, cutF x.life x.era (n1 : Int) l = C := ⟨_, rfl⟩
  rw [hR] at HCUT hcz hroom hrows 
  simp only at hcz hroom hrows 
  subst hcz
  obtain ⟨hf2, ht2, hu2, hL2⟩ := hs.small
  have hwa : IntKind.i64.wrap ((x.t : Int) - (x.f : Int)) = (x.t : Int) - (x.f : Int) := by rw [IntKind.wrap_i64]; omega
  have hwb : IntKind.i64.wrap ((x.t : Int) - (x.f : Int) - (x.used : Int)) = (x.t : Int) - (x.f : Int) - (x.used : Int) := by rw [IntKind.wrap_i64]; omega
  have HROWS := Lib.hid hrows
  clear hR hrows hf2 ht2 hu2 hL2
  clear hd hs hrs ho hdead hon hn1
  go_enter Try.func18, Try.ntmps18
  go_wp2_with fail
  refine HL.out.mono ?_
  rintro e w1 ⟨rfl, rfl⟩
  clear p0 p1 p2 p3 p4 p5 p6 p7
  go_wp2_with fail
  refine wp_region_held_drew (S := (fun V => Below w1.heap.size w1 V)) (by kernel_rfl) (by exact (Below.refl _ _).drew) (fun hHeld => ?_)
  refine tkJ 0 32 rfl (by intro w; go_simp <;> with_reducible rfl) hHeld ?_; simp only [pqZ]
  refine tkJ 1 33 rfl (by intro w; go_simp <;> with_reducible rfl) hHeld ?_; simp only [pqZ]
  refine tkJ 2 34 rfl (by intro w; go_simp <;> with_reducible rfl) hHeld ?_; simp only [pqZ]
  refine tkI 3 35 rfl (by intro w hSw; obtain ⟨q1, q2, q3, qs⟩ := HSC.out _ (hSw); go_simp <;> with_reducible rfl) hHeld ?_; simp only [pqZ]
  refine tkJ 4 36 rfl (by intro w; go_simp <;> with_reducible rfl) hHeld ?_; simp only [pqZ]
  refine tkJ 5 37 rfl (by intro w; go_simp <;> with_reducible rfl) hHeld ?_; simp only [pqZ]
  refine tkJ 6 38 rfl (by intro w; go_simp <;> with_reducible rfl) hHeld ?_; simp only [pqZ]
  refine tkI 7 39 rfl (by intro w hSw; obtain ⟨q1, q2, q3, qs⟩ := HSC.out _ (hSw); go_simp <;> with_reducible rfl) hHeld ?_; simp only [pqZ]
  refine tkJ 8 40 rfl (by intro w; go_simp <;> with_reducible rfl) hHeld ?_; simp only [pqZ]
  refine tkJ 10 42 rfl (by intro w; go_simp <;> with_reducible rfl) hHeld ?_; simp only [pqZ]
  refine rdZ 9 41 rfl (by kernel_rfl) (fun K hK => ?_)
  go_simp
  refine (HNX.out _ hHeld).mono ?_
  rintro e x1 ⟨rfl, rfl⟩
  have hKeep := hHeld
  go_wp2_with fail
  refine hK.out _ _ (by (try dsimp only); exact hKeep) (fun hHeld => ?_); clear hK K hKeep; try simp only [pqZ]
  refine rdZ 11 43 rfl (by kernel_rfl) (fun K hK => ?_)
  go_simp
  refine (HCUT.out _ hHeld).mono ?_
  rintro e x2 ⟨⟨A2, c2, S2, rfl, own2, hm2, hor2⟩, hk2⟩
  have hKeep := since_step hHeld hk2
  have HO2 := Lib.hid (own_base own2 hHeld.size)
  have HR2 := Lib.hid (fun r hr => own_base (hor2 r hr) hHeld.size)
  simp only at hm2
  have HM2 := Lib.hid hm2
  clear own2 hor2 hm2 hk2
  go_wp2_with fail
  refine hK.out _ _ (by (try dsimp only); exact hKeep) (fun hHeld => ?_); clear hK K hKeep; try simp only [pqZ]
  refine tkJ 12 31 rfl (by intro w; go_simp <;> with_reducible rfl) hHeld ?_; simp only [pqZ]
  refine tkJ 13 44 rfl (by intro w; go_simp <;> with_reducible rfl) hHeld ?_; simp only [pqZ]
  refine tkJ 14 45 rfl (by intro w; go_simp <;> with_reducible rfl) hHeld ?_; simp only [pqZ]
  refine tkJ 15 5 rfl (by intro w; go_simp <;> with_reducible rfl) hHeld ?_; simp only [pqZ]
  refine tkJ 16 6 rfl (by intro w; go_simp <;> with_reducible rfl) hHeld ?_; simp only [pqZ]
  refine wpAnyH_done (by kernel_rfl) ?_ _
  have HBY := Lib.hid hHeld
  have HML : Hid (S2.length = CR.length) := Lib.hid (by rw [← HM2.out, List.length_map])
  generalize hy : x2 = y at *
  clear hy
  have hsy := HS.out _ HBY.out
  obtain ⟨p0, p1, p2, p3, p4, p5, p6, p7⟩ := hsy.got
  have ps := hsy.lt
  clear hsy
  have hrm : decide ((x.t : Int) - (x.f : Int) - (x.used : Int) < (S2.length : Int)) = true := decide_eq_true (by rw [HML.out]; exact hroom)
  clear hroom
  go_wp2_with fail
  go_quiet (fail)
  go_wp2_with fail
  go_ret
  exact ⟨rfl, below_drewN HBY.out _⟩
theorem sapp_go {B b g kc s c : Nat} {K A : Option Addr} {d : Dv} {R : List (RowS Nat)} {x : Sc} (rA : Option Addr) (rc_ : Nat) (l : List Nat) (w : World) (hd : DrA B w b g K kc d) (hs : ScA B w s b A c R x) (hB : B ≤ w.heap.size) (hlc : l.length ≤ rc_) (hcm : rc_ ≤ maxLen) (hl : l.length ≤ 100000) (hrs : SlF w b g rA (by8 l)) (ho : Oct l) (hdead : x.dead = false) (hon : d.on = true) (hcz : (cutF x.life x.era ((x.L.length + 1 : Nat) : Int) l).2 = 0) (hroom : ¬ (x.t : Int) - (x.f : Int) - (x.used : Int) < (((cutF x.life x.era ((x.L.length + 1 : Nat) : Int) l).1.length : Nat) : Int)) (hwr : (d.write ((x.f + x.used : Nat) : Int) (cutF x.life x.era ((x.L.length + 1 : Nat) : Int) l).1).2 = 0) (hlen : (cutF x.life x.era ((x.L.length + 1 : Nat) : Int) l).1.length ≤ 255) (hLn : x.L.length ≤ 900000) :
    Calls Try.prog 18 #[.pointer (some ⟨s, 0, none⟩), .slice rA l.length rc_] w fun e w' => e = .returned (.int .i64 0) ∧ ∃ A' c' R', ScA B w' s b A' c' R' (x.add l (cutF x.life x.era ((x.L.length + 1 : Nat) : Int) l).1.length) ∧ DrA B w' b g K kc (d.write ((x.f + x.used : Nat) : Int) (cutF x.life x.era ((x.L.length + 1 : Nat) : Int) l).1).1 ∧ ChgL (b :: g :: s :: (x.row A c).ownBlock.toList) w w' ∧ (((x.add l (cutF x.life x.era ((x.L.length + 1 : Nat) : Int) l).1.length).row A' c').ownBlock = (x.row A c).ownBlock ∨ ∃ k, w.heap.size ≤ k ∧ ((x.add l (cutF x.life x.era ((x.L.length + 1 : Nat) : Int) l).1.length).row A' c').ownBlock = some k) := by
  obtain ⟨p0, p1, p2, p3, p4, p5, p6, p7⟩ := hs.got
  have ps := hs.lt
  rw [hdead] at p7
  have HL := Lib.hid (dlive_eq w hd)
  rw [hon] at HL
  have HCUT := Lib.hid (fun V (hV : Below w.heap.size w V) => fcut7_any x.life x.era ((x.L.length + 1 : Nat) : Int) rA rc_ l V hlc hcm (by omega) (hrs.1.below hV) ho)
  have HNX := Lib.hid (fun V (hV : Below w.heap.size w V) => snext_any V (hs.below hV))
  have HSC := Lib.hid (fun V (hV : Below w.heap.size w V) => (show V.cell? ⟨s, 3, none⟩ = some (.int .i64 x.life) ∧ V.cell? ⟨s, 4, none⟩ = some (.int .i64 x.era) ∧ V.cell? ⟨s, 5, none⟩ = some (.slice A x.L.length c) ∧ s < V.heap.size from by
    have h := hs.below hV
    obtain ⟨k0, k1, k2, k3, k4, k5, k6, k7⟩ := h.got
    exact ⟨k3, k4, k5, h.lt⟩))
  obtain ⟨n1, hn1⟩ : ∃ n1, x.L.length + 1 = n1 := ⟨_, rfl⟩
  rw [hn1] at HCUT HNX
  have HN1 := Lib.hid hn1
  have HD := Lib.hid (fun V (hV : Below w.heap.size w V) => hd.below hV)
  have HS := Lib.hid (fun V (hV : Below w.heap.size w V) => hs.below hV)
  have HRS := Lib.hid (fun V (hV : Below w.heap.size w V) => hrs.below hV)
  rw [hn1] at hcz hroom hwr hlen ⊢
  have hrows := cut_rows (b := l) (Prod.ext rfl hcz : cutF x.life x.era (n1 : Int) l = ((cutF x.life x.era (n1 : Int) l).1, 0)) ho
  obtain ⟨⟨CR, z⟩, hR⟩ : ∃ C, cutF x.life x.era (n1 : Int) l = C := ⟨_, rfl⟩
  rw [hR] at HCUT hcz hroom hwr hlen hrows ⊢
  simp only at hcz hroom hwr hlen hrows ⊢
  subst hcz
  obtain ⟨hf2, ht2, hu2, hL2⟩ := hs.small
  have hwa : IntKind.i64.wrap ((x.t : Int) - (x.f : Int)) = (x.t : Int) - (x.f : Int) := by rw [IntKind.wrap_i64]; omega
  have hwb : IntKind.i64.wrap ((x.t : Int) - (x.f : Int) - (x.used : Int)) = (x.t : Int) - (x.f : Int) - (x.used : Int) := by rw [IntKind.wrap_i64]; omega
  have HROWS := Lib.hid hrows
  clear hR hrows hf2 ht2 hu2 hL2
  have HSM := Lib.hid (show CR.length ≤ 255 ∧ x.f ≤ 2048 ∧ x.used ≤ 1000000 ∧ x.used + CR.length ≤ 2048 ∧ x.L.length ≤ 900000 from ⟨hlen, hs.small.1, hs.small.2.2.1, by have := hs.small; omega, hLn⟩)
  have HBB := Lib.hid hB
  have HLL := Lib.hid hl
  clear hlen hLn
  clear hd hs hrs ho hdead hon hn1
  go_enter Try.func18, Try.ntmps18
  go_wp2_with fail
  refine HL.out.mono ?_
  rintro e w1 ⟨rfl, rfl⟩
  clear p0 p1 p2 p3 p4 p5 p6 p7
  go_wp2_with fail
  refine wp_region_held_drew (S := (fun V => Below w1.heap.size w1 V)) (by kernel_rfl) (by exact (Below.refl _ _).drew) (fun hHeld => ?_)
  refine tkJ 0 32 rfl (by intro w; go_simp <;> with_reducible rfl) hHeld ?_; simp only [pqZ]
  refine tkJ 1 33 rfl (by intro w; go_simp <;> with_reducible rfl) hHeld ?_; simp only [pqZ]
  refine tkJ 2 34 rfl (by intro w; go_simp <;> with_reducible rfl) hHeld ?_; simp only [pqZ]
  refine tkI 3 35 rfl (by intro w hSw; obtain ⟨q1, q2, q3, qs⟩ := HSC.out _ (hSw); go_simp <;> with_reducible rfl) hHeld ?_; simp only [pqZ]
  refine tkJ 4 36 rfl (by intro w; go_simp <;> with_reducible rfl) hHeld ?_; simp only [pqZ]
  refine tkJ 5 37 rfl (by intro w; go_simp <;> with_reducible rfl) hHeld ?_; simp only [pqZ]
  refine tkJ 6 38 rfl (by intro w; go_simp <;> with_reducible rfl) hHeld ?_; simp only [pqZ]
  refine tkI 7 39 rfl (by intro w hSw; obtain ⟨q1, q2, q3, qs⟩ := HSC.out _ (hSw); go_simp <;> with_reducible rfl) hHeld ?_; simp only [pqZ]
  refine tkJ 8 40 rfl (by intro w; go_simp <;> with_reducible rfl) hHeld ?_; simp only [pqZ]
  refine tkJ 10 42 rfl (by intro w; go_simp <;> with_reducible rfl) hHeld ?_; simp only [pqZ]
  refine rdZ 9 41 rfl (by kernel_rfl) (fun K hK => ?_)
  go_simp
  refine (HNX.out _ hHeld).mono ?_
  rintro e x1 ⟨rfl, rfl⟩
  have hKeep := hHeld
  go_wp2_with fail
  refine hK.out _ _ (by (try dsimp only); exact hKeep) (fun hHeld => ?_); clear hK K hKeep; try simp only [pqZ]
  refine rdZ 11 43 rfl (by kernel_rfl) (fun K hK => ?_)
  go_simp
  refine (HCUT.out _ hHeld).mono ?_
  rintro e x2 ⟨⟨A2, c2, S2, rfl, own2, hm2, hor2⟩, hk2⟩
  have hKeep := since_step hHeld hk2
  have HO2 := Lib.hid (own_base own2 hHeld.size)
  have HR2 := Lib.hid (fun r hr => own_base (hor2 r hr) hHeld.size)
  simp only at hm2
  have HM2 := Lib.hid hm2
  clear own2 hor2 hm2 hk2
  go_wp2_with fail
  refine hK.out _ _ (by (try dsimp only); exact hKeep) (fun hHeld => ?_); clear hK K hKeep; try simp only [pqZ]
  refine tkJ 12 31 rfl (by intro w; go_simp <;> with_reducible rfl) hHeld ?_; simp only [pqZ]
  refine tkJ 13 44 rfl (by intro w; go_simp <;> with_reducible rfl) hHeld ?_; simp only [pqZ]
  refine tkJ 14 45 rfl (by intro w; go_simp <;> with_reducible rfl) hHeld ?_; simp only [pqZ]
  refine tkJ 15 5 rfl (by intro w; go_simp <;> with_reducible rfl) hHeld ?_; simp only [pqZ]
  refine tkJ 16 6 rfl (by intro w; go_simp <;> with_reducible rfl) hHeld ?_; simp only [pqZ]
  refine wpAnyH_done (by kernel_rfl) ?_ _
  have HBY := Lib.hid hHeld
  have HML : Hid (S2.length = CR.length) := Lib.hid (by rw [← HM2.out, List.length_map])
  generalize hy : x2 = y at *
  clear hy
  have hsy := HS.out _ HBY.out
  obtain ⟨p0, p1, p2, p3, p4, p5, p6, p7⟩ := hsy.got
  have ps := hsy.lt
  clear hsy
  have hrm : decide ((x.t : Int) - (x.f : Int) - (x.used : Int) < (S2.length : Int)) = false := decide_eq_false (by rw [HML.out]; omega)
  clear hroom
  go_wp2_with fail
  go_quiet (fail)
  go_wp2_with fail
  generalize hyn : y.drewN _ = yd at *
  have HBZ : Hid (Below w1.heap.size w1 yd) := Lib.hid (by rw [← hyn]; exact below_drewN HBY.out _)
  have HOZ : Hid (yd.ownsRow w1.heap.size 36 1 (.slice A2 S2.length c2) S2.length (rc RowS.cells S2)) := Lib.hid (by rw [← hyn]; exact own_below HO2.out (below_drewN (Below.refl _ _) _))
  have HRZ : Hid (OwnR w1.heap.size yd S2) := Lib.hid (by rw [← hyn]; exact fun r hr => own_below (HR2.out r hr) (below_drewN (Below.refl _ _) _))
  have HSZ := Lib.hid (HS.out _ HBZ.out)
  have HDZ := Lib.hid (HD.out _ HBZ.out)
  clear hyn p0 p1 p2 p3 p4 p5 p6 p7 ps
  obtain ⟨p0, p1, p2, p3, p4, p5, p6, p7⟩ := HSZ.out.got
  have ps := HSZ.out.lt
  have hdr : Below yd.heap.size yd yd.drew := ⟨rfl, rfl, rfl, Nat.le_refl _, fun _ _ => rfl⟩
  have HDR := Lib.hid hdr
  have HDZ2 := Lib.hid (HDZ.out.below hdr)
  have HSZ2 := Lib.hid (HSZ.out.below hdr)
  have HRF := Lib.hid ((RowsF.of_own HDZ.out HOZ.out HRZ.out).below hdr)
  clear hdr
  have hWR := dwrite_ok ((x.f + x.used : Nat) : Int) A2 c2 S2 yd.drew HDZ2.out (by have := HSM.out; rw [HML.out]; omega) HRF.out.1 (fun r hr => ⟨HRF.out.2 r hr, (HROWS.out r.l (by rw [← HM2.out]; exact List.mem_map.2 ⟨r, hr, rfl⟩)).1⟩)
  rw [HM2.out, hwr] at hWR
  have HWR := Lib.hid hWR
  have hwf : IntKind.i64.wrap ((x.f : Int) + (x.used : Int)) = ((x.f + x.used : Nat) : Int) := by rw [IntKind.wrap_i64]; have := HSM.out; omega
  clear hWR
  refine wp_region_held_drew (S := (fun V => V.cell? ⟨s, 0, none⟩ = some (.pointer (some ⟨b, 0, none⟩)) ∧ V.cell? ⟨s, 1, none⟩ = some (.int .i64 x.f) ∧ V.cell? ⟨s, 6, none⟩ = some (.int .i64 x.used) ∧ s < V.heap.size)) (by kernel_rfl) (by exact ⟨p0, p1, p6, ps⟩) (fun hHeld => ?_)
  refine tkJ 0 68 rfl (by intro w; go_simp <;> with_reducible rfl) hHeld ?_; simp only [pqZ]
  refine tkJ 1 69 rfl (by intro w; go_simp <;> with_reducible rfl) hHeld ?_; simp only [pqZ]
  refine tkJ 2 70 rfl (by intro w; go_simp <;> with_reducible rfl) hHeld ?_; simp only [pqZ]
  refine tkJ 3 71 rfl (by intro w; go_simp <;> with_reducible rfl) hHeld ?_; simp only [pqZ]
  refine tkI 4 72 rfl (by intro w hSw; obtain ⟨q0, q1, q6, qs⟩ := (hSw); go_simp <;> with_reducible rfl) hHeld ?_; simp only [pqZ]
  refine tkJ 5 73 rfl (by intro w; go_simp <;> with_reducible rfl) hHeld ?_; simp only [pqZ]
  refine tkJ 6 74 rfl (by intro w; go_simp <;> with_reducible rfl) hHeld ?_; simp only [pqZ]
  refine tkJ 7 75 rfl (by intro w; go_simp <;> with_reducible rfl) hHeld ?_; simp only [pqZ]
  refine tkJ 8 76 rfl (by intro w; go_simp <;> with_reducible rfl) hHeld ?_; simp only [pqZ]
  refine tkI 9 77 rfl (by intro w hSw; obtain ⟨q0, q1, q6, qs⟩ := (hSw); go_simp <;> with_reducible rfl) hHeld ?_; simp only [pqZ]
  refine tkJ 10 78 rfl (by intro w; go_simp <;> with_reducible rfl) hHeld ?_; simp only [pqZ]
  refine tkJ 11 79 rfl (by intro w; go_simp <;> with_reducible rfl) hHeld ?_; simp only [pqZ]
  refine tkJ 12 80 rfl (by intro w; go_simp <;> with_reducible rfl) hHeld ?_; simp only [pqZ]
  refine tkI 13 81 rfl (by intro w hSw; obtain ⟨q0, q1, q6, qs⟩ := (hSw); go_simp <;> with_reducible rfl) hHeld ?_; simp only [pqZ]
  refine tkJ 14 82 rfl (by intro w; go_simp <;> with_reducible rfl) hHeld ?_; simp only [pqZ]
  refine tkJ 15 83 rfl (by intro w; go_simp <;> with_reducible rfl) hHeld ?_; simp only [pqZ]
  refine rdZ 16 84 rfl (by kernel_rfl) (fun K hK => ?_)
  go_simp
  refine HWR.out.mono ?_
  rintro e x4 ⟨rfl, hc4, hd4⟩
  have hs4 := ScA.chg2 HDZ2.out HSZ2.out hc4
  obtain ⟨k0, k1, k2, k3, k4, k5, k6, k7⟩ := hs4.got
  have hKeep : (fun V => V.cell? ⟨s, 0, none⟩ = some (.pointer (some ⟨b, 0, none⟩)) ∧ V.cell? ⟨s, 1, none⟩ = some (.int .i64 x.f) ∧ V.cell? ⟨s, 6, none⟩ = some (.int .i64 x.used) ∧ s < V.heap.size) x4 := ⟨k0, k1, k6, hs4.lt⟩
  have HS4 := Lib.hid hs4
  have HD4 := Lib.hid hd4
  have HC4 := Lib.hid hc4
  clear k0 k1 k2 k3 k4 k5 k6 k7 hs4 hd4 hc4
  go_wp2_with fail
  refine hK.out _ _ (by (try dsimp only); exact hKeep) (fun hHeld => ?_); clear hK K hKeep; try simp only [pqZ]
  refine tkJ 17 7 rfl (by intro w; go_simp <;> with_reducible rfl) hHeld ?_; simp only [pqZ]
  refine wpAnyH_done (by kernel_rfl) ?_ _
  have hB4 : w1.heap.size ≤ x4.heap.size := Nat.le_trans HBZ.out.size HC4.out.size
  have HCL := Lib.hid (clone8_any rA rc_ l x4 (by have := HLL.out; omega) (((HRS.out _ HBZ.out).below HDR.out).chg HC4.out).1)
  have HB4 := Lib.hid hB4
  clear hB4 HWR
  go_wp2_with fail
  refine HCL.out.mono ?_
  rintro e x5 ⟨⟨A5, c5, rfl, own5⟩, hb5⟩
  have HS5 := Lib.hid (HS4.out.below hb5)
  have HD5 := Lib.hid (HD4.out.below hb5)
  have HC5 := Lib.hid (HC4.out.step hb5)
  have HO5 := Lib.hid (own_base own5 (Nat.le_trans HBB.out HB4.out))
  have hadd := sadd_any A5 c5 l S2.length x5 HS5.out (Nat.le_trans HBB.out (Nat.le_trans HB4.out hb5.size)) HO5.out (by rw [HML.out]; have := HSM.out; omega) (by have := HSM.out; omega)
  rw [HML.out] at hadd
  have HADD := Lib.hid hadd
  clear hadd own5 hb5 HCL
  rw [HML.out]
  go_wp2_with fail
  refine HADD.out.mono ?_
  rintro e x6 ⟨rfl, A6, c6, hs6, hc6, hr6⟩
  have HD6 := Lib.hid (HD5.out.scroll HS5.out hc6)
  have HS6 := Lib.hid hs6
  have HR6 := Lib.hid hr6
  have HCC : Hid (ChgL (b :: g :: s :: (x.row A c).ownBlock.toList) w1 x6) := Lib.hid (((ChgL.of_below (HBZ.out)).trans ((ChgL.of_below HDR.out).trans (ChgL.of2 (l := b :: g :: s :: (x.row A c).ownBlock.toList) HC5.out (by simp) (by simp)) (fun y hy => .inl hy)) (fun y hy => .inl hy)).trans hc6 (fun y hy => .inl (List.mem_cons_of_mem _ (List.mem_cons_of_mem _ hy))))
  clear hs6 hc6 hr6
  go_wp2_with fail
  go_ret
  refine ⟨rfl, A6, c6, _, HS6.out, HD6.out, HCC.out, ?_⟩
  rcases HR6.out with h1 | ⟨k, h1, h2⟩
  · exact .inl h1
  · exact .inr ⟨k, Nat.le_trans HBZ.out.size (Nat.le_trans HC5.out.size h1), h2⟩
theorem sapp_torn {B b g kc s c : Nat} {K A : Option Addr} {d : Dv} {R : List (RowS Nat)} {x : Sc} (rA : Option Addr) (rc_ : Nat) (l : List Nat) (w : World) (hd : DrA B w b g K kc d) (hs : ScA B w s b A c R x) (hB : B ≤ w.heap.size) (hlc : l.length ≤ rc_) (hcm : rc_ ≤ maxLen) (hl : l.length ≤ 100000) (hrs : SlF w b g rA (by8 l)) (ho : Oct l) (hdead : x.dead = false) (hon : d.on = true) (hcz : (cutF x.life x.era ((x.L.length + 1 : Nat) : Int) l).2 = 0) (hroom : ¬ (x.t : Int) - (x.f : Int) - (x.used : Int) < (((cutF x.life x.era ((x.L.length + 1 : Nat) : Int) l).1.length : Nat) : Int)) (hwr : (d.write ((x.f + x.used : Nat) : Int) (cutF x.life x.era ((x.L.length + 1 : Nat) : Int) l).1).2 = 9) (hlen : (cutF x.life x.era ((x.L.length + 1 : Nat) : Int) l).1.length ≤ 255) (hLn : x.L.length ≤ 900000) :
    Calls Try.prog 18 #[.pointer (some ⟨s, 0, none⟩), .slice rA l.length rc_] w fun e w' => e = .returned (.int .i64 9) ∧ ScA B w' s b A c R { x with dead := true } ∧ DrA B w' b g K kc (d.write ((x.f + x.used : Nat) : Int) (cutF x.life x.era ((x.L.length + 1 : Nat) : Int) l).1).1 ∧ ChgL (b :: g :: s :: (x.row A c).ownBlock.toList) w w' := by
  obtain ⟨p0, p1, p2, p3, p4, p5, p6, p7⟩ := hs.got
  have ps := hs.lt
  rw [hdead] at p7
  have HL := Lib.hid (dlive_eq w hd)
  rw [hon] at HL
  have HCUT := Lib.hid (fun V (hV : Below w.heap.size w V) => fcut7_any x.life x.era ((x.L.length + 1 : Nat) : Int) rA rc_ l V hlc hcm (by omega) (hrs.1.below hV) ho)
  have HNX := Lib.hid (fun V (hV : Below w.heap.size w V) => snext_any V (hs.below hV))
  have HSC := Lib.hid (fun V (hV : Below w.heap.size w V) => (show V.cell? ⟨s, 3, none⟩ = some (.int .i64 x.life) ∧ V.cell? ⟨s, 4, none⟩ = some (.int .i64 x.era) ∧ V.cell? ⟨s, 5, none⟩ = some (.slice A x.L.length c) ∧ s < V.heap.size from by
    have h := hs.below hV
    obtain ⟨k0, k1, k2, k3, k4, k5, k6, k7⟩ := h.got
    exact ⟨k3, k4, k5, h.lt⟩))
  obtain ⟨n1, hn1⟩ : ∃ n1, x.L.length + 1 = n1 := ⟨_, rfl⟩
  rw [hn1] at HCUT HNX
  have HN1 := Lib.hid hn1
  have HD := Lib.hid (fun V (hV : Below w.heap.size w V) => hd.below hV)
  have HS := Lib.hid (fun V (hV : Below w.heap.size w V) => hs.below hV)
  have HRS := Lib.hid (fun V (hV : Below w.heap.size w V) => hrs.below hV)
  rw [hn1] at hcz hroom hwr hlen ⊢
  have hrows := cut_rows (b := l) (Prod.ext rfl hcz : cutF x.life x.era (n1 : Int) l = ((cutF x.life x.era (n1 : Int) l).1, 0)) ho
  obtain ⟨⟨CR, z⟩, hR⟩ : ∃ C, cutF x.life x.era (n1 : Int) l = C := ⟨_, rfl⟩
  rw [hR] at HCUT hcz hroom hwr hlen hrows ⊢
  simp only at hcz hroom hwr hlen hrows ⊢
  subst hcz
  obtain ⟨hf2, ht2, hu2, hL2⟩ := hs.small
  have hwa : IntKind.i64.wrap ((x.t : Int) - (x.f : Int)) = (x.t : Int) - (x.f : Int) := by rw [IntKind.wrap_i64]; omega
  have hwb : IntKind.i64.wrap ((x.t : Int) - (x.f : Int) - (x.used : Int)) = (x.t : Int) - (x.f : Int) - (x.used : Int) := by rw [IntKind.wrap_i64]; omega
  have HROWS := Lib.hid hrows
  clear hR hrows hf2 ht2 hu2 hL2
  have HSM := Lib.hid (show CR.length ≤ 255 ∧ x.f ≤ 2048 ∧ x.used ≤ 1000000 ∧ x.used + CR.length ≤ 2048 ∧ x.L.length ≤ 900000 from ⟨hlen, hs.small.1, hs.small.2.2.1, by have := hs.small; omega, hLn⟩)
  have HBB := Lib.hid hB
  have HLL := Lib.hid hl
  clear hlen hLn
  clear hd hs hrs ho hdead hon hn1
  go_enter Try.func18, Try.ntmps18
  go_wp2_with fail
  refine HL.out.mono ?_
  rintro e w1 ⟨rfl, rfl⟩
  clear p0 p1 p2 p3 p4 p5 p6 p7
  go_wp2_with fail
  refine wp_region_held_drew (S := (fun V => Below w1.heap.size w1 V)) (by kernel_rfl) (by exact (Below.refl _ _).drew) (fun hHeld => ?_)
  refine tkJ 0 32 rfl (by intro w; go_simp <;> with_reducible rfl) hHeld ?_; simp only [pqZ]
  refine tkJ 1 33 rfl (by intro w; go_simp <;> with_reducible rfl) hHeld ?_; simp only [pqZ]
  refine tkJ 2 34 rfl (by intro w; go_simp <;> with_reducible rfl) hHeld ?_; simp only [pqZ]
  refine tkI 3 35 rfl (by intro w hSw; obtain ⟨q1, q2, q3, qs⟩ := HSC.out _ (hSw); go_simp <;> with_reducible rfl) hHeld ?_; simp only [pqZ]
  refine tkJ 4 36 rfl (by intro w; go_simp <;> with_reducible rfl) hHeld ?_; simp only [pqZ]
  refine tkJ 5 37 rfl (by intro w; go_simp <;> with_reducible rfl) hHeld ?_; simp only [pqZ]
  refine tkJ 6 38 rfl (by intro w; go_simp <;> with_reducible rfl) hHeld ?_; simp only [pqZ]
  refine tkI 7 39 rfl (by intro w hSw; obtain ⟨q1, q2, q3, qs⟩ := HSC.out _ (hSw); go_simp <;> with_reducible rfl) hHeld ?_; simp only [pqZ]
  refine tkJ 8 40 rfl (by intro w; go_simp <;> with_reducible rfl) hHeld ?_; simp only [pqZ]
  refine tkJ 10 42 rfl (by intro w; go_simp <;> with_reducible rfl) hHeld ?_; simp only [pqZ]
  refine rdZ 9 41 rfl (by kernel_rfl) (fun K hK => ?_)
  go_simp
  refine (HNX.out _ hHeld).mono ?_
  rintro e x1 ⟨rfl, rfl⟩
  have hKeep := hHeld
  go_wp2_with fail
  refine hK.out _ _ (by (try dsimp only); exact hKeep) (fun hHeld => ?_); clear hK K hKeep; try simp only [pqZ]
  refine rdZ 11 43 rfl (by kernel_rfl) (fun K hK => ?_)
  go_simp
  refine (HCUT.out _ hHeld).mono ?_
  rintro e x2 ⟨⟨A2, c2, S2, rfl, own2, hm2, hor2⟩, hk2⟩
  have hKeep := since_step hHeld hk2
  have HO2 := Lib.hid (own_base own2 hHeld.size)
  have HR2 := Lib.hid (fun r hr => own_base (hor2 r hr) hHeld.size)
  simp only at hm2
  have HM2 := Lib.hid hm2
  clear own2 hor2 hm2 hk2
  go_wp2_with fail
  refine hK.out _ _ (by (try dsimp only); exact hKeep) (fun hHeld => ?_); clear hK K hKeep; try simp only [pqZ]
  refine tkJ 12 31 rfl (by intro w; go_simp <;> with_reducible rfl) hHeld ?_; simp only [pqZ]
  refine tkJ 13 44 rfl (by intro w; go_simp <;> with_reducible rfl) hHeld ?_; simp only [pqZ]
  refine tkJ 14 45 rfl (by intro w; go_simp <;> with_reducible rfl) hHeld ?_; simp only [pqZ]
  refine tkJ 15 5 rfl (by intro w; go_simp <;> with_reducible rfl) hHeld ?_; simp only [pqZ]
  refine tkJ 16 6 rfl (by intro w; go_simp <;> with_reducible rfl) hHeld ?_; simp only [pqZ]
  refine wpAnyH_done (by kernel_rfl) ?_ _
  have HBY := Lib.hid hHeld
  have HML : Hid (S2.length = CR.length) := Lib.hid (by rw [← HM2.out, List.length_map])
  generalize hy : x2 = y at *
  clear hy
  have hsy := HS.out _ HBY.out
  obtain ⟨p0, p1, p2, p3, p4, p5, p6, p7⟩ := hsy.got
  have ps := hsy.lt
  clear hsy
  have hrm : decide ((x.t : Int) - (x.f : Int) - (x.used : Int) < (S2.length : Int)) = false := decide_eq_false (by rw [HML.out]; omega)
  clear hroom
  go_wp2_with fail
  go_quiet (fail)
  go_wp2_with fail
  generalize hyn : y.drewN _ = yd at *
  have HBZ : Hid (Below w1.heap.size w1 yd) := Lib.hid (by rw [← hyn]; exact below_drewN HBY.out _)
  have HOZ : Hid (yd.ownsRow w1.heap.size 36 1 (.slice A2 S2.length c2) S2.length (rc RowS.cells S2)) := Lib.hid (by rw [← hyn]; exact own_below HO2.out (below_drewN (Below.refl _ _) _))
  have HRZ : Hid (OwnR w1.heap.size yd S2) := Lib.hid (by rw [← hyn]; exact fun r hr => own_below (HR2.out r hr) (below_drewN (Below.refl _ _) _))
  have HSZ := Lib.hid (HS.out _ HBZ.out)
  have HDZ := Lib.hid (HD.out _ HBZ.out)
  clear hyn p0 p1 p2 p3 p4 p5 p6 p7 ps
  obtain ⟨p0, p1, p2, p3, p4, p5, p6, p7⟩ := HSZ.out.got
  have ps := HSZ.out.lt
  have hdr : Below yd.heap.size yd yd.drew := ⟨rfl, rfl, rfl, Nat.le_refl _, fun _ _ => rfl⟩
  have HDR := Lib.hid hdr
  have HDZ2 := Lib.hid (HDZ.out.below hdr)
  have HSZ2 := Lib.hid (HSZ.out.below hdr)
  have HRF := Lib.hid ((RowsF.of_own HDZ.out HOZ.out HRZ.out).below hdr)
  clear hdr
  have hWR := dwrite_ok ((x.f + x.used : Nat) : Int) A2 c2 S2 yd.drew HDZ2.out (by have := HSM.out; rw [HML.out]; omega) HRF.out.1 (fun r hr => ⟨HRF.out.2 r hr, (HROWS.out r.l (by rw [← HM2.out]; exact List.mem_map.2 ⟨r, hr, rfl⟩)).1⟩)
  rw [HM2.out, hwr] at hWR
  have HWR := Lib.hid hWR
  have hwf : IntKind.i64.wrap ((x.f : Int) + (x.used : Int)) = ((x.f + x.used : Nat) : Int) := by rw [IntKind.wrap_i64]; have := HSM.out; omega
  clear hWR
  refine wp_region_held_drew (S := (fun V => V.cell? ⟨s, 0, none⟩ = some (.pointer (some ⟨b, 0, none⟩)) ∧ V.cell? ⟨s, 1, none⟩ = some (.int .i64 x.f) ∧ V.cell? ⟨s, 6, none⟩ = some (.int .i64 x.used) ∧ s < V.heap.size)) (by kernel_rfl) (by exact ⟨p0, p1, p6, ps⟩) (fun hHeld => ?_)
  refine tkJ 0 68 rfl (by intro w; go_simp <;> with_reducible rfl) hHeld ?_; simp only [pqZ]
  refine tkJ 1 69 rfl (by intro w; go_simp <;> with_reducible rfl) hHeld ?_; simp only [pqZ]
  refine tkJ 2 70 rfl (by intro w; go_simp <;> with_reducible rfl) hHeld ?_; simp only [pqZ]
  refine tkJ 3 71 rfl (by intro w; go_simp <;> with_reducible rfl) hHeld ?_; simp only [pqZ]
  refine tkI 4 72 rfl (by intro w hSw; obtain ⟨q0, q1, q6, qs⟩ := (hSw); go_simp <;> with_reducible rfl) hHeld ?_; simp only [pqZ]
  refine tkJ 5 73 rfl (by intro w; go_simp <;> with_reducible rfl) hHeld ?_; simp only [pqZ]
  refine tkJ 6 74 rfl (by intro w; go_simp <;> with_reducible rfl) hHeld ?_; simp only [pqZ]
  refine tkJ 7 75 rfl (by intro w; go_simp <;> with_reducible rfl) hHeld ?_; simp only [pqZ]
  refine tkJ 8 76 rfl (by intro w; go_simp <;> with_reducible rfl) hHeld ?_; simp only [pqZ]
  refine tkI 9 77 rfl (by intro w hSw; obtain ⟨q0, q1, q6, qs⟩ := (hSw); go_simp <;> with_reducible rfl) hHeld ?_; simp only [pqZ]
  refine tkJ 10 78 rfl (by intro w; go_simp <;> with_reducible rfl) hHeld ?_; simp only [pqZ]
  refine tkJ 11 79 rfl (by intro w; go_simp <;> with_reducible rfl) hHeld ?_; simp only [pqZ]
  refine tkJ 12 80 rfl (by intro w; go_simp <;> with_reducible rfl) hHeld ?_; simp only [pqZ]
  refine tkI 13 81 rfl (by intro w hSw; obtain ⟨q0, q1, q6, qs⟩ := (hSw); go_simp <;> with_reducible rfl) hHeld ?_; simp only [pqZ]
  refine tkJ 14 82 rfl (by intro w; go_simp <;> with_reducible rfl) hHeld ?_; simp only [pqZ]
  refine tkJ 15 83 rfl (by intro w; go_simp <;> with_reducible rfl) hHeld ?_; simp only [pqZ]
  refine rdZ 16 84 rfl (by kernel_rfl) (fun K hK => ?_)
  go_simp
  refine HWR.out.mono ?_
  rintro e x4 ⟨rfl, hc4, hd4⟩
  have hs4 := ScA.chg2 HDZ2.out HSZ2.out hc4
  obtain ⟨k0, k1, k2, k3, k4, k5, k6, k7⟩ := hs4.got
  have hKeep : (fun V => V.cell? ⟨s, 0, none⟩ = some (.pointer (some ⟨b, 0, none⟩)) ∧ V.cell? ⟨s, 1, none⟩ = some (.int .i64 x.f) ∧ V.cell? ⟨s, 6, none⟩ = some (.int .i64 x.used) ∧ s < V.heap.size) x4 := ⟨k0, k1, k6, hs4.lt⟩
  have HS4 := Lib.hid hs4
  have HD4 := Lib.hid hd4
  have HC4 := Lib.hid hc4
  clear k0 k1 k2 k3 k4 k5 k6 k7 hs4 hd4 hc4
  go_wp2_with fail
  refine hK.out _ _ (by (try dsimp only); exact hKeep) (fun hHeld => ?_); clear hK K hKeep; try simp only [pqZ]
  refine tkJ 17 7 rfl (by intro w; go_simp <;> with_reducible rfl) hHeld ?_; simp only [pqZ]
  refine wpAnyH_done (by kernel_rfl) ?_ _
  obtain ⟨k0, k1, k2, k3, k4, k5, k6, k7⟩ := HS4.out.got
  have z7 := HS4.out.fz 7
  have ks := HS4.out.lt
  go_wp2_with fail
  go_ret
  have e2 := set_blk (i := 7) (.bool true) HS4.out.blk
  have hoff : (Value.slice A x.L.length c).ownBlock ≠ some s := HS4.out.off HS4.out.own (by decide)
  refine ⟨rfl, ⟨?_, own_far1 HS4.out.own (p := ⟨s, 7, none⟩) hoff _, fun r hr => own_far1 (HS4.out.rows r hr) (p := ⟨s, 7, none⟩) (HS4.out.off (HS4.out.rows r hr) (by decide)) _, HS4.out.map, HS4.out.ge, HS4.out.small⟩, ?_, ?_⟩
  · have e3 : (Sc.cells { x with dead := true } b A c) = (x.cells b A c).setIfInBounds 7 (.bool true) := by simp [Sc.cells]
    rw [e3]; exact e2
  · refine HD4.out.chgL (ChgL.set (l := [s]) 7 _ (by simp)) ?_ ?_ ?_
    · intro hm
      rw [List.mem_singleton] at hm
      have h1 := HD4.out.blk
      rw [hm, HS4.out.blk] at h1
      injection h1 with h1
      injection h1 with _ h2
      exact absurd h2 (by decide)
    · intro hm
      rw [List.mem_singleton] at hm
      have h1 := HD4.out.row
      rw [hm, HS4.out.blk] at h1
      injection h1 with h1
      injection h1 with _ h2
      exact absurd h2 (by decide)
    · intro y hy
      rw [List.mem_singleton] at hy
      rw [hy]
      exact own_type HD4.out.kp HS4.out.blk (by decide)
  · exact (((ChgL.of_below (HBZ.out)).trans ((ChgL.of_below HDR.out).trans (ChgL.of2 (l := b :: g :: s :: (x.row A c).ownBlock.toList) HC4.out (by simp) (by simp)) (fun y hy => .inl hy)) (fun y hy => .inl hy)).trans (ChgL.set (l := b :: g :: s :: (x.row A c).ownBlock.toList) 7 _ (by simp)) (fun y hy => .inl hy))
end
end Go.Proofs.Ytiggcpfmmgmncaa
