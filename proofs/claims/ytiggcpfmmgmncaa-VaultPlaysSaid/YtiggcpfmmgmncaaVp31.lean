import Derived.Test.YtiggcpfmmgmncaaVp29
set_option maxHeartbeats 16000000
set_option maxRecDepth 100000
set_option linter.unusedVariables false
set_option linter.unusedSimpArgs false
namespace Go.Proofs.Ytiggcpfmmgmncaa
open Go.ChangeShapes Go.WideShapes Go.ChangeAt Go.RowKit
section
structure RsA (B : Nat) (w : World) (s b : Nat) (A : Option Addr) (c : Nat) (R : List (RowS Nat)) (x : Sc) : Prop where
  blk : w.heap[s]? = some (.cells (x.cells b A c) 55 (0, 0))
  own : w.ownsRow B 36 1 (.slice A x.L.length c) x.L.length (rc RowS.cells R)
  map : R.map RowS.l = x.L
  ge : B ≤ s
  small : x.f ≤ 2048 ∧ x.t ≤ 2048 ∧ x.used ≤ 1000000 ∧ x.L.length ≤ 1000000
section
variable {B s b c : Nat} {w w' : World} {A : Option Addr} {R : List (RowS Nat)} {x : Sc}
theorem RsA.lt (h : RsA B w s b A c R x) : s < w.heap.size := (Array.getElem?_eq_some_iff.1 h.blk).1
theorem RsA.below (h : RsA B w s b A c R x) (hb : Below w.heap.size w w') : RsA B w' s b A c R x := ⟨by rw [hb.block s h.lt]; exact h.blk, own_below h.own hb, h.map, h.ge, h.small⟩
theorem RsA.got (h : RsA B w s b A c R x) : w.cell? ⟨s, 0, none⟩ = some (.pointer (some ⟨b, 0, none⟩)) ∧ w.cell? ⟨s, 1, none⟩ = some (.int .i64 x.f) ∧ w.cell? ⟨s, 2, none⟩ = some (.int .i64 x.t) ∧ w.cell? ⟨s, 3, none⟩ = some (.int .i64 x.life) ∧
    w.cell? ⟨s, 4, none⟩ = some (.int .i64 x.era) ∧ w.cell? ⟨s, 5, none⟩ = some (.slice A x.L.length c) ∧ w.cell? ⟨s, 6, none⟩ = some (.int .i64 x.used) ∧ w.cell? ⟨s, 7, none⟩ = some (.bool x.dead) ∧ s < w.heap.size := by
  have e : ∀ i, w.cell? ⟨s, i, none⟩ = (x.cells b A c)[i]? := fun i => by simp [World.cell?, h.blk]
  exact ⟨e 0, e 1, e 2, e 3, e 4, e 5, e 6, e 7, h.lt⟩
theorem RsA.fz (h : RsA B w s b A c R x) (i : Nat) : w.frozen? ⟨s, i, none⟩ = false := by simp [World.frozen?, h.blk]
theorem RsA.off (h : RsA B w s b A c R x) {base e size n : Nat} {v : Value} {xs : List Value} (ho : w.ownsRow base e size v n xs) (h1 : e ≠ 55) : v.ownBlock ≠ some s := own_type ho h.blk h1
theorem RsA.set (h : RsA B w s b A c R x) (i : Nat) (u : Value) {y : Sc} (hL : y.L = x.L) (hs : y.f ≤ 2048 ∧ y.t ≤ 2048 ∧ y.used ≤ 1000000) (hc : (x.cells b A c).setIfInBounds i u = y.cells b A c) : RsA B (w.setCell ⟨s, i, none⟩ u) s b A c R y := by
  refine ⟨?_, ?_, ?_, h.ge, hs.1, hs.2.1, hs.2.2, ?_⟩
  · have := set_blk (i := i) u h.blk
    rw [hc] at this
    exact this
  · rw [hL]; exact own_far1 h.own (p := ⟨s, i, none⟩) (h.off h.own (by decide)) _
  · rw [hL]; exact h.map
  · rw [hL]; exact h.small.2.2.2
end
theorem scanF_bd {S : List (List Nat)} {t : Nat} {era : Int} : ∀ (k q n : Nat) (life : Int), (scanF S t era k q n life).1.length ≤ (scanF S t era k q n life).2 - q ∧ q ≤ (scanF S t era k q n life).2 ∧ (scanF S t era k q n life).2 ≤ max q t
  | 0, q, _, _ => ⟨Nat.zero_le _, Nat.le_refl _, Nat.le_max_left _ _⟩
  | k + 1, q, n, life => by
    rw [scanF]
    cases hr : readF S q t with
    | none => exact ⟨Nat.zero_le _, Nat.le_refl _, Nat.le_max_left _ _⟩
    | some x =>
      obtain ⟨b, f⟩ := x
      have hp := readF_parts hr
      simp only
      split
      · have ih := scanF_bd (S := S) (t := t) (era := era) k (q + f.parts.toNat) (n + 1) f.life
        simp only [List.length_cons]
        omega
      · exact ⟨Nat.zero_le _, Nat.le_refl _, Nat.le_max_left _ _⟩
theorem scan_bd {S : List (List Nat)} {t : Nat} {era : Int} {q n : Nat} {life : Int} : (scan S t era q n life).1.length ≤ (scan S t era q n life).2 - q ∧ (scan S t era q n life).2 ≤ max q t := by
  have := scanF_bd (S := S) (t := t) (era := era) (t - q) q n life
  exact ⟨this.1, this.2.2⟩
theorem ropen8_ok {B b c kc : Nat} {A KA : Option Addr} {R : List (RowS Nat)} {x : Rv} (f t : Nat) (life era : Int) (w : World) (h : RvA B w b A c R KA kc x) (hB : B ≤ w.heap.size) (hft : f ≤ t) (ht : t ≤ x.C.length) (hl1 : 1 ≤ life) (hl2 : life ≤ 16777215) (he1 : 0 ≤ era) (he2 : era ≤ 16777215) (hnew : newestN x.C f (t - f) < life) :
    Calls Try.prog 16 #[.pointer (some ⟨b, 0, none⟩), .int .i64 f, .int .i64 t, .int .i64 life, .int .i64 era] w fun e w' => (∃ s A' c' R', e = .returned (.tuple #[.pointer (some ⟨s, 0, none⟩), .int .i64 0]) ∧ RsA w.heap.size w' s b A' c' R' ⟨f, t, life, era, (scan x.C t era f 0 0).1, (scan x.C t era f 0 0).2 - f, false⟩ ∧ OwnR w.heap.size w' R') ∧ Below w.heap.size w w' := by
  have HRV := Lib.hid h
  have HNW := Lib.hid (rnewest8_any f t w h hft ht)
  have HRD := Lib.hid (fun V (hV : Below w.heap.size w V) => rread8_any f t era V (h.below hV) hft ht)
  have hsl := h.small.1
  have HFT := Lib.hid (show f ≤ 2048 ∧ t ≤ 2048 by omega)
  have hbd : (scan x.C t era f 0 0).1.length ≤ (scan x.C t era f 0 0).2 - f ∧ (scan x.C t era f 0 0).2 ≤ max f t := scan_bd
  have HBD := Lib.hid (show (scan x.C t era f 0 0).2 - f ≤ 1000000 ∧ (scan x.C t era f 0 0).1.length ≤ 1000000 by omega)
  obtain ⟨T, hT⟩ : ∃ T, scan x.C t era f 0 0 = T := ⟨_, rfl⟩
  rw [hT] at HRD HBD ⊢
  obtain ⟨nw, hnw⟩ : ∃ nw, newestN x.C f (t - f) = nw := ⟨_, rfl⟩
  rw [hnw] at HNW hnew
  obtain ⟨p0, p1, p2, p3, p4, ps⟩ := h.got
  have a1 : ¬ (f : Int) < 0 := by omega
  have a1' : decide ((f : Int) < 0) = false := decide_eq_false a1
  have a2 : ¬ (t : Int) < (f : Int) := by omega
  have a2' : decide ((t : Int) < (f : Int)) = false := decide_eq_false a2
  have a2n : decide (t < f) = false := decide_eq_false (by omega)
  have a3 : ¬ (x.C.length : Int) < (t : Int) := by omega
  have a3' : decide ((x.C.length : Int) < (t : Int)) = false := decide_eq_false a3
  have a3n : decide (x.C.length < t) = false := decide_eq_false (by omega)
  have a4' : decide (life < 1) = false := decide_eq_false (by omega)
  have a5' : decide (16777215 < life) = false := decide_eq_false (by omega)
  have a6' : decide (era < 0) = false := decide_eq_false (by omega)
  have a7' : decide (16777215 < era) = false := decide_eq_false (by omega)
  have a8' : decide (life ≤ nw) = false := decide_eq_false (by omega)
  clear h hT hnw hbd
  go_enter Try.func16, Try.ntmps16
  go_wp2_with fail
  refine HNW.out.mono ?_
  rintro e w1 ⟨rfl, hb1⟩
  have HB1 := Lib.hid hb1
  clear hb1 p0 p1 p2 p3 p4 ps
  go_wp2_with fail
  refine (HRD.out _ HB1.out).mono ?_
  rintro e w2 ⟨⟨A2, c2, S2, rfl, own2, map2, or2⟩, hb2⟩
  have HB2 := Lib.hid (since_step HB1.out hb2)
  have HO2 := Lib.hid (own_base own2 HB1.out.size)
  have HR2 := Lib.hid (fun r hr => own_base (or2 r hr) HB1.out.size)
  have HM2 := Lib.hid map2
  have HL2 := Lib.hid (show S2.length = T.1.length by rw [← map2, List.length_map])
  clear own2 or2 map2 hb2
  go_wp2_with fail
  go_ret2
  refine ⟨⟨w2.heap.size, A2, c2, S2, rfl, ⟨?_, ?_, HM2.out, HB2.out.size, HFT.out.1, HFT.out.2, HBD.out.1, HBD.out.2⟩, fun r hr => (HR2.out r hr).alloc _⟩, since_alloc HB2.out _⟩
  · rw [heap_alloc_new]
    show some (Obj.cells #[.pointer (some ⟨b, 0, none⟩), .int .i64 f, .int .i64 t, .int .i64 life, .int .i64 era, .slice A2 S2.length c2, .int .i64 ((T.2 - f : Nat) : Int), .bool false] 55 (0, 0)) = _
    rw [HL2.out]; rfl
  · show World.ownsRow _ _ _ _ (.slice A2 T.1.length c2) T.1.length _
    rw [← HL2.out]
    exact HO2.out.alloc _
def Sc.rapp (y : Sc) (x : Rv) (l : List Nat) : (Sc × Rv) × Int :=
  if y.dead = true ∨ x.off = true then ((y, x), 9)
  else if (cutF y.life y.era ((y.L.length + 1 : Nat) : Int) l).2 ≠ 0 then ((y, x), (cutF y.life y.era ((y.L.length + 1 : Nat) : Int) l).2)
  else if (y.t : Int) - (y.f : Int) - (y.used : Int) < (((cutF y.life y.era ((y.L.length + 1 : Nat) : Int) l).1.length : Nat) : Int) then ((y, x), 10)
  else if (x.write ((y.f + y.used : Nat) : Int) (cutF y.life y.era ((y.L.length + 1 : Nat) : Int) l).1).2 ≠ 0 then (({ y with dead := true }, (x.write ((y.f + y.used : Nat) : Int) (cutF y.life y.era ((y.L.length + 1 : Nat) : Int) l).1).1), (x.write ((y.f + y.used : Nat) : Int) (cutF y.life y.era ((y.L.length + 1 : Nat) : Int) l).1).2)
  else ((y.add l (cutF y.life y.era ((y.L.length + 1 : Nat) : Int) l).1.length, (x.write ((y.f + y.used : Nat) : Int) (cutF y.life y.era ((y.L.length + 1 : Nat) : Int) l).1).1), 0)
theorem rapp_off {B b c kc s c2 : Nat} {A KA A2 : Option Addr} {R R2 : List (RowS Nat)} {x : Rv} {y : Sc} (rA : Option Addr) (rc_ : Nat) (l : List Nat) (w : World) (h : RvA B w b A c R KA kc x) (hy : RsA B w s b A2 c2 R2 y) (hB : B ≤ w.heap.size) (hlc : l.length ≤ rc_) (hcm : rc_ ≤ maxLen) (hl : l.length ≤ 100000) (hrs : Sl w rA (by8 l)) (ho : Oct l) (hd : y.dead = true ∨ x.off = true) :
    Calls Try.prog 19 #[.pointer (some ⟨s, 0, none⟩), .slice rA l.length rc_] w fun e w' => e = .returned (.int .i64 9) ∧ w' = w := by
  obtain ⟨p0, p1, p2, p3, p4, ps⟩ := h.got
  obtain ⟨q0, q1, q2, q3, q4, q5, q6, q7, qs⟩ := hy.got
  clear h hy hrs ho
  cases hdd : y.dead with
  | true =>
    rw [hdd] at q7
    clear hd hdd
    go_enter Try.func19, Try.ntmps19
    go_wp2_with fail
    go_ret
    exact ⟨rfl, rfl⟩
  | false =>
    have hof : x.off = true := hd.resolve_left (by rw [hdd]; decide)
    rw [hdd] at q7
    rw [hof] at p1
    clear hd hdd hof
    go_enter Try.func19, Try.ntmps19
    go_wp2_with fail
    go_ret
    exact ⟨rfl, rfl⟩
theorem rapp_cut {B b c kc s c2 : Nat} {A KA A2 : Option Addr} {R R2 : List (RowS Nat)} {x : Rv} {y : Sc} (rA : Option Addr) (rc_ : Nat) (l : List Nat) (w : World) (h : RvA B w b A c R KA kc x) (hy : RsA B w s b A2 c2 R2 y) (hB : B ≤ w.heap.size) (hlc : l.length ≤ rc_) (hcm : rc_ ≤ maxLen) (hl : l.length ≤ 100000) (hrs : Sl w rA (by8 l)) (ho : Oct l) (hdead : y.dead = false) (hoff : x.off = false) (hcz : (cutF y.life y.era ((y.L.length + 1 : Nat) : Int) l).2 ≠ 0) :
    Calls Try.prog 19 #[.pointer (some ⟨s, 0, none⟩), .slice rA l.length rc_] w fun e w' => e = .returned (.int .i64 (cutF y.life y.era ((y.L.length + 1 : Nat) : Int) l).2) ∧ Below w.heap.size w w' := by
  obtain ⟨p0, p1, p2, p3, p4, ps⟩ := h.got
  obtain ⟨q0, q1, q2, q3, q4, q5, q6, q7, qs⟩ := hy.got
  have hcut := fun (V : World) (hV : Below w.heap.size w V) => rcut7_any y.life y.era ((y.L.length + 1 : Nat) : Int) rA rc_ l V hlc hcm (by omega) (hrs.below hV) ho
  obtain ⟨n1, hn1⟩ : ∃ n1, y.L.length + 1 = n1 := ⟨_, rfl⟩
  rw [hdead] at q7
  rw [hoff] at p1
  have hn1b : n1 ≤ 1000001 := by have := hy.small; omega
  have hwn : IntKind.i64.wrap ((y.L.length : Int) + 1) = (n1 : Int) := by rw [IntKind.wrap_i64]; omega
  rw [hn1] at hcut hcz ⊢
  obtain ⟨⟨CR, z⟩, hR⟩ : ∃ C, cutF y.life y.era (n1 : Int) l = C := ⟨_, rfl⟩
  rw [hR] at hcut hcz ⊢
  simp only at hcz ⊢
  have HCUT := Lib.hid hcut
  have HN1 := Lib.hid hn1
  have HRV := Lib.hid h
  have HRY := Lib.hid hy
  have HBB := Lib.hid hB
  have HLL := Lib.hid (show l.length ≤ 100000 ∧ l.length ≤ rc_ ∧ rc_ ≤ maxLen from ⟨hl, hlc, hcm⟩)
  have HRS := Lib.hid hrs
  have hzb : (z != 0) = true := by simpa using hcz
  clear h hy hrs ho hcut hn1 hR hB hlc hcm hl hdead hoff
  go_enter Try.func19, Try.ntmps19
  go_upto_region 3 with fail
  refine wp_region_held_drew (S := (fun V => Below w.heap.size w V)) (by kernel_rfl) (by exact (Below.refl _ _).drew) (fun hHeld => ?_)
  refine tkJ 0 22 rfl (by intro w; go_simp <;> with_reducible rfl) hHeld ?_; simp only [pqZ]
  refine tkJ 1 23 rfl (by intro w; go_simp <;> with_reducible rfl) hHeld ?_; simp only [pqZ]
  refine tkJ 2 24 rfl (by intro w; go_simp <;> with_reducible rfl) hHeld ?_; simp only [pqZ]
  refine tkI 3 25 rfl (by intro w hSw; obtain ⟨z0, z1, z2, z3, z4, z5, z6, z7, zs⟩ := (HRY.out.below (hSw)).got; go_simp <;> with_reducible rfl) hHeld ?_; simp only [pqZ]
  refine tkJ 4 26 rfl (by intro w; go_simp <;> with_reducible rfl) hHeld ?_; simp only [pqZ]
  refine tkJ 5 27 rfl (by intro w; go_simp <;> with_reducible rfl) hHeld ?_; simp only [pqZ]
  refine tkJ 6 28 rfl (by intro w; go_simp <;> with_reducible rfl) hHeld ?_; simp only [pqZ]
  refine tkI 7 29 rfl (by intro w hSw; obtain ⟨z0, z1, z2, z3, z4, z5, z6, z7, zs⟩ := (HRY.out.below (hSw)).got; go_simp <;> with_reducible rfl) hHeld ?_; simp only [pqZ]
  refine tkJ 8 30 rfl (by intro w; go_simp <;> with_reducible rfl) hHeld ?_; simp only [pqZ]
  refine tkJ 9 31 rfl (by intro w; go_simp <;> with_reducible rfl) hHeld ?_; simp only [pqZ]
  refine tkJ 10 32 rfl (by intro w; go_simp <;> with_reducible rfl) hHeld ?_; simp only [pqZ]
  refine tkI 11 33 rfl (by intro w hSw; obtain ⟨z0, z1, z2, z3, z4, z5, z6, z7, zs⟩ := (HRY.out.below (hSw)).got; go_simp <;> with_reducible rfl) hHeld ?_; simp only [pqZ]
  refine tkJ 12 34 rfl (by intro w; go_simp <;> with_reducible rfl) hHeld ?_; simp only [pqZ]
  refine tkJ 13 35 rfl (by intro w; go_simp <;> with_reducible rfl) hHeld ?_; simp only [pqZ]
  refine tkJ 14 36 rfl (by intro w; go_simp <;> with_reducible rfl) hHeld ?_; simp only [pqZ]
  refine rdZ 15 37 rfl (by kernel_rfl) (fun K hK => ?_)
  go_simp
  refine (HCUT.out _ hHeld).mono ?_
  rintro e w1 ⟨⟨A5, c5, S5, rfl, own5, map5, or5⟩, hb5⟩
  have hKeep := since_step hHeld hb5
  have HO5 := Lib.hid own5
  have HM5 := Lib.hid map5
  have HR5 := Lib.hid or5
  have HZ5 := Lib.hid hHeld.size
  clear own5 map5 or5 hb5
  go_wp2_with fail
  refine hK.out _ _ (by (try dsimp only); exact hKeep) (fun hHeld => ?_); clear hK K hKeep; try simp only [pqZ]
  refine tkJ 16 21 rfl (by intro w; go_simp <;> with_reducible rfl) hHeld ?_; simp only [pqZ]
  refine tkJ 17 38 rfl (by intro w; go_simp <;> with_reducible rfl) hHeld ?_; simp only [pqZ]
  refine tkJ 18 39 rfl (by intro w; go_simp <;> with_reducible rfl) hHeld ?_; simp only [pqZ]
  refine tkJ 19 5 rfl (by intro w; go_simp <;> with_reducible rfl) hHeld ?_; simp only [pqZ]
  refine tkJ 20 6 rfl (by intro w; go_simp <;> with_reducible rfl) hHeld ?_; simp only [pqZ]
  refine wpAnyH_done (by kernel_rfl) ?_ _
  have HB5 := Lib.hid hHeld
  clear q0 q1 q2 q3 q4 q5 q6 q7 qs p0 p1 p2 p3 p4 ps hHeld
  go_wp2_with fail
  go_ret
  exact ⟨rfl, HB5.out⟩
theorem rapp_full {B b c kc s c2 : Nat} {A KA A2 : Option Addr} {R R2 : List (RowS Nat)} {x : Rv} {y : Sc} (rA : Option Addr) (rc_ : Nat) (l : List Nat) (w : World) (h : RvA B w b A c R KA kc x) (hy : RsA B w s b A2 c2 R2 y) (hB : B ≤ w.heap.size) (hlc : l.length ≤ rc_) (hcm : rc_ ≤ maxLen) (hl : l.length ≤ 100000) (hrs : Sl w rA (by8 l)) (ho : Oct l) (hdead : y.dead = false) (hoff : x.off = false) (hcz : (cutF y.life y.era ((y.L.length + 1 : Nat) : Int) l).2 = 0) (hroom : (y.t : Int) - (y.f : Int) - (y.used : Int) < (((cutF y.life y.era ((y.L.length + 1 : Nat) : Int) l).1.length : Nat) : Int)) :
    Calls Try.prog 19 #[.pointer (some ⟨s, 0, none⟩), .slice rA l.length rc_] w fun e w' => e = .returned (.int .i64 10) ∧ Below w.heap.size w w' := by
  obtain ⟨p0, p1, p2, p3, p4, ps⟩ := h.got
  obtain ⟨q0, q1, q2, q3, q4, q5, q6, q7, qs⟩ := hy.got
  have hcut := fun (V : World) (hV : Below w.heap.size w V) => rcut7_any y.life y.era ((y.L.length + 1 : Nat) : Int) rA rc_ l V hlc hcm (by omega) (hrs.below hV) ho
  obtain ⟨n1, hn1⟩ : ∃ n1, y.L.length + 1 = n1 := ⟨_, rfl⟩
  rw [hdead] at q7
  rw [hoff] at p1
  have hn1b : n1 ≤ 1000001 := by have := hy.small; omega
  have hwn : IntKind.i64.wrap ((y.L.length : Int) + 1) = (n1 : Int) := by rw [IntKind.wrap_i64]; omega
  rw [hn1] at hcut hcz hroom
  obtain ⟨⟨CR, z⟩, hR⟩ : ∃ C, cutF y.life y.era (n1 : Int) l = C := ⟨_, rfl⟩
  rw [hR] at hcut hcz hroom
  simp only at hcz hroom
  have HCUT := Lib.hid hcut
  have HN1 := Lib.hid hn1
  have HRV := Lib.hid h
  have HRY := Lib.hid hy
  have HBB := Lib.hid hB
  have HLL := Lib.hid (show l.length ≤ 100000 ∧ l.length ≤ rc_ ∧ rc_ ≤ maxLen from ⟨hl, hlc, hcm⟩)
  have HRS := Lib.hid hrs
  have hsm := hy.small
  have hwa : IntKind.i64.wrap ((y.t : Int) - (y.f : Int)) = (y.t : Int) - (y.f : Int) := by rw [IntKind.wrap_i64]; omega
  have hwb : IntKind.i64.wrap ((y.t : Int) - (y.f : Int) - (y.used : Int)) = (y.t : Int) - (y.f : Int) - (y.used : Int) := by rw [IntKind.wrap_i64]; omega
  have hwc : IntKind.i64.wrap ((y.f : Int) + (y.used : Int)) = ((y.f + y.used : Nat) : Int) := by rw [IntKind.wrap_i64]; omega
  have HSM := Lib.hid hsm
  subst hcz
  clear hsm
  clear h hy hrs ho hcut hn1 hR hB hlc hcm hl hdead hoff
  go_enter Try.func19, Try.ntmps19
  go_upto_region 3 with fail
  refine wp_region_held_drew (S := (fun V => Below w.heap.size w V)) (by kernel_rfl) (by exact (Below.refl _ _).drew) (fun hHeld => ?_)
  refine tkJ 0 22 rfl (by intro w; go_simp <;> with_reducible rfl) hHeld ?_; simp only [pqZ]
  refine tkJ 1 23 rfl (by intro w; go_simp <;> with_reducible rfl) hHeld ?_; simp only [pqZ]
  refine tkJ 2 24 rfl (by intro w; go_simp <;> with_reducible rfl) hHeld ?_; simp only [pqZ]
  refine tkI 3 25 rfl (by intro w hSw; obtain ⟨z0, z1, z2, z3, z4, z5, z6, z7, zs⟩ := (HRY.out.below (hSw)).got; go_simp <;> with_reducible rfl) hHeld ?_; simp only [pqZ]
  refine tkJ 4 26 rfl (by intro w; go_simp <;> with_reducible rfl) hHeld ?_; simp only [pqZ]
  refine tkJ 5 27 rfl (by intro w; go_simp <;> with_reducible rfl) hHeld ?_; simp only [pqZ]
  refine tkJ 6 28 rfl (by intro w; go_simp <;> with_reducible rfl) hHeld ?_; simp only [pqZ]
  refine tkI 7 29 rfl (by intro w hSw; obtain ⟨z0, z1, z2, z3, z4, z5, z6, z7, zs⟩ := (HRY.out.below (hSw)).got; go_simp <;> with_reducible rfl) hHeld ?_; simp only [pqZ]
  refine tkJ 8 30 rfl (by intro w; go_simp <;> with_reducible rfl) hHeld ?_; simp only [pqZ]
  refine tkJ 9 31 rfl (by intro w; go_simp <;> with_reducible rfl) hHeld ?_; simp only [pqZ]
  refine tkJ 10 32 rfl (by intro w; go_simp <;> with_reducible rfl) hHeld ?_; simp only [pqZ]
  refine tkI 11 33 rfl (by intro w hSw; obtain ⟨z0, z1, z2, z3, z4, z5, z6, z7, zs⟩ := (HRY.out.below (hSw)).got; go_simp <;> with_reducible rfl) hHeld ?_; simp only [pqZ]
  refine tkJ 12 34 rfl (by intro w; go_simp <;> with_reducible rfl) hHeld ?_; simp only [pqZ]
  refine tkJ 13 35 rfl (by intro w; go_simp <;> with_reducible rfl) hHeld ?_; simp only [pqZ]
  refine tkJ 14 36 rfl (by intro w; go_simp <;> with_reducible rfl) hHeld ?_; simp only [pqZ]
  refine rdZ 15 37 rfl (by kernel_rfl) (fun K hK => ?_)
  go_simp
  refine (HCUT.out _ hHeld).mono ?_
  rintro e w1 ⟨⟨A5, c5, S5, rfl, own5, map5, or5⟩, hb5⟩
  have hKeep := since_step hHeld hb5
  have HO5 := Lib.hid own5
  have HM5 := Lib.hid map5
  have HR5 := Lib.hid or5
  have HZ5 := Lib.hid hHeld.size
  clear own5 map5 or5 hb5
  go_wp2_with fail
  refine hK.out _ _ (by (try dsimp only); exact hKeep) (fun hHeld => ?_); clear hK K hKeep; try simp only [pqZ]
  refine tkJ 16 21 rfl (by intro w; go_simp <;> with_reducible rfl) hHeld ?_; simp only [pqZ]
  refine tkJ 17 38 rfl (by intro w; go_simp <;> with_reducible rfl) hHeld ?_; simp only [pqZ]
  refine tkJ 18 39 rfl (by intro w; go_simp <;> with_reducible rfl) hHeld ?_; simp only [pqZ]
  refine tkJ 19 5 rfl (by intro w; go_simp <;> with_reducible rfl) hHeld ?_; simp only [pqZ]
  refine tkJ 20 6 rfl (by intro w; go_simp <;> with_reducible rfl) hHeld ?_; simp only [pqZ]
  refine wpAnyH_done (by kernel_rfl) ?_ _
  have HB5 := Lib.hid hHeld
  have HRV5 := Lib.hid (HRV.out.below hHeld)
  have HRY5 := Lib.hid (HRY.out.below hHeld)
  clear q0 q1 q2 q3 q4 q5 q6 q7 qs p0 p1 p2 p3 p4 ps hHeld HRV HRY
  obtain ⟨q0, q1, q2, q3, q4, q5, q6, q7, qs⟩ := HRY5.out.got
  have HSL : Hid (S5.length = CR.length) := Lib.hid (by rw [← HM5.out, List.length_map])
  generalize w1 = wz at *
  have hrm : decide ((y.t : Int) - (y.f : Int) - (y.used : Int) < (S5.length : Int)) = true := decide_eq_true (by rw [HSL.out]; omega)
  clear hroom
  go_wp2_with fail
  go_quiet (fail)
  go_wp2_with fail
  go_ret
  exact ⟨rfl, below_drewN HB5.out _⟩
theorem RsA.added {B s b c2 c9 rc_ p : Nat} {w9 : World} {A2 A9 rA : Option Addr} {R2 : List (RowS Nat)} {y : Sc} {l : List Nat} (hbx : w9.heap[s]? = some (.cells (y.cells b A2 c2) 55 (0, 0)))
    (own9 : w9.ownsRow B 36 1 (.slice A9 (y.L.length + 1) c9) (y.L.length + 1) (rc RowS.cells R2 ++ [.slice rA l.length rc_])) (hm : R2.map RowS.l = y.L) (hge : B ≤ s) (hsm : y.f ≤ 2048 ∧ y.t ≤ 2048 ∧ y.used + p ≤ 1000000 ∧ y.L.length + 1 ≤ 1000000) :
    RsA B ((w9.setCell ⟨s, 5, none⟩ (.slice A9 (y.L.length + 1) c9)).setCell ⟨s, 6, none⟩ (.int .i64 ((y.used + p : Nat) : Int))) s b A9 c9 (R2 ++ [⟨rA, rc_, l⟩]) (y.add l p) := by
  have hl1 : (y.add l p).L.length = y.L.length + 1 := by simp [Sc.add]
  have hbo := own_type own9 hbx (by decide)
  have e1 := set_blk (i := 5) (.slice A9 (y.L.length + 1) c9) hbx
  have e2 := set_blk (i := 6) (.int .i64 ((y.used + p : Nat) : Int)) e1
  have hc : ((y.cells b A2 c2).setIfInBounds 5 (.slice A9 (y.L.length + 1) c9)).setIfInBounds 6 (.int .i64 ((y.used + p : Nat) : Int)) = (y.add l p).cells b A9 c9 := by
    simp [Sc.cells, Sc.add]
  rw [hc] at e2
  have h1 := own_far1 own9 (p := ⟨s, 5, none⟩) hbo (.slice A9 (y.L.length + 1) c9)
  have h2 := own_far1 h1 (p := ⟨s, 6, none⟩) hbo (.int .i64 ((y.used + p : Nat) : Int))
  have e3 : rc RowS.cells (R2 ++ [(⟨rA, rc_, l⟩ : RowS Nat)]) = rc RowS.cells R2 ++ [.slice rA l.length rc_] := by rw [rc_append]; rfl
  refine ⟨e2, ?_, ?_, hge, hsm.1, hsm.2.1, hsm.2.2.1, ?_⟩
  · rw [hl1, e3]; exact h2
  · show (R2 ++ [(⟨rA, rc_, l⟩ : RowS Nat)]).map RowS.l = y.L ++ [l]
    rw [List.map_append, hm]; rfl
  · rw [hl1]; exact hsm.2.2.2
theorem own_len (A : Option Addr) (n m c : Nat) : (Value.slice A n c).ownBlock = (Value.slice A m c).ownBlock := by
  cases A <;> rfl
def blkD (b : Nat) (A : Option Addr) (n c s : Nat) (v : Value) : List Nat := blkR b A n c ++ s :: v.ownBlock.toList
theorem RvA.row_blk {B b c kc : Nat} {A KA : Option Addr} {R : List (RowS Nat)} {x : Rv} {w : World} (h : RvA B w b A c R KA kc x) : ∀ y ∈ blkR b A x.C.length c, ∃ cs z T, w.heap[y]? = some (.cells cs T z) ∧ (T = 49 ∨ T = 36) := fun y hy => by
  unfold blkR at hy
  rcases List.mem_cons.1 hy with e | hy
  · exact ⟨_, _, _, by rw [e]; exact h.blk, .inl rfl⟩
  · have e2 := Option.mem_def.1 (Option.mem_toList.1 hy)
    rcases h.own.2 with ⟨hv, _⟩ | ⟨k, cap, cur, hv, hk2, hh, _⟩
    · rw [hv] at e2; simp [Value.ownBlock] at e2
    · rw [hv] at e2
      simp [Value.ownBlock] at e2
      subst e2
      exact ⟨_, _, _, hh, .inr rfl⟩
theorem RsA.row_blk {B s b c : Nat} {A : Option Addr} {R : List (RowS Nat)} {x : Sc} {w : World} (h : RsA B w s b A c R x) : ∀ y ∈ s :: (x.row A c).ownBlock.toList, ∃ cs z T, w.heap[y]? = some (.cells cs T z) ∧ (T = 55 ∨ T = 36) := fun y hy => by
  rcases List.mem_cons.1 hy with e | hy
  · exact ⟨_, _, _, by rw [e]; exact h.blk, .inl rfl⟩
  · have e2 := Option.mem_def.1 (Option.mem_toList.1 hy)
    unfold Sc.row at e2
    rcases h.own.2 with ⟨hv, _⟩ | ⟨k, cap, cur, hv, hk2, hh, _⟩
    · rw [hv] at e2; simp [Value.ownBlock] at e2
    · rw [hv] at e2
      simp [Value.ownBlock] at e2
      subst e2
      exact ⟨_, _, _, hh, .inr rfl⟩
theorem blk_lt_of {w : World} {l : List Nat} {P : TypeId → Prop} (h : ∀ y ∈ l, ∃ cs z T, w.heap[y]? = some (.cells cs T z) ∧ P T) : ∀ y ∈ l, y < w.heap.size := fun y hy => by
  obtain ⟨cs, z, T, h1, _⟩ := h y hy
  exact (Array.getElem?_eq_some_iff.1 h1).1
theorem blkR_ge {B b c kc : Nat} {A KA : Option Addr} {R : List (RowS Nat)} {x : Rv} {w : World} (h : RvA B w b A c R KA kc x) : ∀ y ∈ blkR b A x.C.length c, B ≤ y := fun y hy => by
  unfold blkR at hy
  rcases List.mem_cons.1 hy with e | hy
  · rw [e]; exact h.ge
  · exact own_ge h.own y (Option.mem_def.1 (Option.mem_toList.1 hy))
theorem RsA.far {B s b c : Nat} {A : Option Addr} {R : List (RowS Nat)} {x : Sc} {w w' : World} {l : List Nat} (h : RsA B w s b A c R x) (hc : ChgL l w w') (h1 : s ∉ l) (h2 : ∀ y ∈ l, (x.row A c).ownBlock ≠ some y) : RsA B w' s b A c R x :=
  ⟨by rw [hc.block s h.lt h1]; exact h.blk, hc.own h.own h2, h.map, h.ge, h.small⟩
theorem not_mem_type {w : World} {l : List Nat} {P : TypeId → Prop} {n : Nat} {cs : Array Value} {T : TypeId} {z : Nat × Nat} (h : ∀ y ∈ l, ∃ cs z T, w.heap[y]? = some (.cells cs T z) ∧ P T) (hn : w.heap[n]? = some (.cells cs T z)) (hT : ¬ P T) : n ∉ l := fun hm => by
  obtain ⟨cs2, z2, T2, h1, h2⟩ := h n hm
  rw [hn] at h1
  injection h1 with h1
  injection h1 with _ h1
  exact hT (h1 ▸ h2)
theorem own_not_type {w : World} {l : List Nat} {P : TypeId → Prop} {base e size n : Nat} {v : Value} {xs : List Value} (h : ∀ y ∈ l, ∃ cs z T, w.heap[y]? = some (.cells cs T z) ∧ P T) (ho : w.ownsRow base e size v n xs) (hT : ¬ P e) : ∀ y ∈ l, v.ownBlock ≠ some y := fun y hy he => by
  obtain ⟨cs2, z2, T2, h1, h2⟩ := h y hy
  exact own_type ho h1 (fun e2 => hT (e2 ▸ h2)) he
theorem RvA.far {B b c kc : Nat} {A KA : Option Addr} {R : List (RowS Nat)} {x : Rv} {w w' : World} {l : List Nat} (h : RvA B w b A c R KA kc x) (hc : ChgL l w w') (h1 : b ∉ l) (h2 : ∀ y ∈ l, (Value.slice A x.C.length c).ownBlock ≠ some y) (h3 : ∀ y ∈ l, ∃ cs z T, w.heap[y]? = some (.cells cs T z) ∧ (T ≠ 5 ∧ T ≠ 3)) : RvA B w' b A c R KA kc x :=
  ⟨by rw [hc.block b h.lt h1]; exact h.blk, hc.own h.own h2, fun r hr => hc.own (h.rows r hr) (own_not_type h3 (h.rows r hr) (fun hh => hh.1 rfl)), hc.own h.kp (own_not_type h3 h.kp (fun hh => hh.2 rfl)), h.map, h.ge, h.s96, h.oct, h.small⟩
theorem RvA.box {B b c kc h : Nat} {A KA : Option Addr} {R : List (RowS Nat)} {x : Rv} {w w' : World} {cs : Array Value} {T : TypeId} {z : Nat × Nat} (hv : RvA B w b A c R KA kc x) (hh : w.heap[h]? = some (.cells cs T z)) (h1 : T ≠ 49) (h2 : T ≠ 36) (h3 : T ≠ 5) (h4 : T ≠ 3) (hc : ChgL [h] w w') : RvA B w' b A c R KA kc x := by
  have hk : ∀ y ∈ [h], ∃ cs z T2, w.heap[y]? = some (.cells cs T2 z) ∧ T2 = T := fun y hy => by rw [List.mem_singleton] at hy; rw [hy]; exact ⟨_, _, _, hh, rfl⟩
  exact hv.far hc (not_mem_type hk hv.blk (fun e => h1 e.symm)) (own_not_type hk hv.own (fun e => h2 e.symm)) (fun y hy => by obtain ⟨cs, z, T2, a, e⟩ := hk y hy; exact ⟨cs, z, T2, a, by rw [e]; exact h3, by rw [e]; exact h4⟩)
theorem rapp_torn {B b c kc s c2 : Nat} {A KA A2 : Option Addr} {R R2 : List (RowS Nat)} {x : Rv} {y : Sc} (rA : Option Addr) (rc_ : Nat) (l : List Nat) (w : World) (h : RvA B w b A c R KA kc x) (hy : RsA B w s b A2 c2 R2 y) (hB : B ≤ w.heap.size) (hlc : l.length ≤ rc_) (hcm : rc_ ≤ maxLen) (hl : l.length ≤ 100000) (hrs : Sl w rA (by8 l)) (ho : Oct l) (hdead : y.dead = false) (hoff : x.off = false) (hcz : (cutF y.life y.era ((y.L.length + 1 : Nat) : Int) l).2 = 0) (hroom : ¬ (y.t : Int) - (y.f : Int) - (y.used : Int) < (((cutF y.life y.era ((y.L.length + 1 : Nat) : Int) l).1.length : Nat) : Int)) (htc : y.t ≤ x.C.length) (hfu : x.fuse ≤ 9223372036854775807) (hfl : -9223372036854775807 ≤ x.fuse) (hap : ∀ z ∈ blkR b A x.C.length c, (y.row A2 c2).ownBlock ≠ some z) (hwz : (x.write ((y.f + y.used : Nat) : Int) (cutF y.life y.era ((y.L.length + 1 : Nat) : Int) l).1).2 = 9) :
    Calls Try.prog 19 #[.pointer (some ⟨s, 0, none⟩), .slice rA l.length rc_] w fun e w' => e = .returned (.int .i64 9) ∧ ∃ R', RvA B w' b A c R' KA kc (x.write ((y.f + y.used : Nat) : Int) (cutF y.life y.era ((y.L.length + 1 : Nat) : Int) l).1).1 ∧ RsA B w' s b A2 c2 R2 { y with dead := true } ∧ ChgL (blkD b A x.C.length c s (y.row A2 c2)) w w' := by
  obtain ⟨p0, p1, p2, p3, p4, ps⟩ := h.got
  obtain ⟨q0, q1, q2, q3, q4, q5, q6, q7, qs⟩ := hy.got
  have hcut := fun (V : World) (hV : Below w.heap.size w V) => rcut7_any y.life y.era ((y.L.length + 1 : Nat) : Int) rA rc_ l V hlc hcm (by omega) (hrs.below hV) ho
  obtain ⟨n1, hn1⟩ : ∃ n1, y.L.length + 1 = n1 := ⟨_, rfl⟩
  rw [hdead] at q7
  rw [hoff] at p1
  have hn1b : n1 ≤ 1000001 := by have := hy.small; omega
  have hwn : IntKind.i64.wrap ((y.L.length : Int) + 1) = (n1 : Int) := by rw [IntKind.wrap_i64]; omega
  rw [hn1] at hcut hcz hroom hwz ⊢
  obtain ⟨⟨CR, z⟩, hR⟩ : ∃ C, cutF y.life y.era (n1 : Int) l = C := ⟨_, rfl⟩
  rw [hR] at hcut hcz hroom hwz ⊢
  simp only at hcz hroom hwz ⊢
  have HCUT := Lib.hid hcut
  have HN1 := Lib.hid hn1
  have HRV := Lib.hid h
  have HRY := Lib.hid hy
  have HBB := Lib.hid hB
  have HLL := Lib.hid (show l.length ≤ 100000 ∧ l.length ≤ rc_ ∧ rc_ ≤ maxLen from ⟨hl, hlc, hcm⟩)
  have HRS := Lib.hid hrs
  have hsm := hy.small
  have hwa : IntKind.i64.wrap ((y.t : Int) - (y.f : Int)) = (y.t : Int) - (y.f : Int) := by rw [IntKind.wrap_i64]; omega
  have hwb : IntKind.i64.wrap ((y.t : Int) - (y.f : Int) - (y.used : Int)) = (y.t : Int) - (y.f : Int) - (y.used : Int) := by rw [IntKind.wrap_i64]; omega
  have hwc : IntKind.i64.wrap ((y.f : Int) + (y.used : Int)) = ((y.f + y.used : Nat) : Int) := by rw [IntKind.wrap_i64]; omega
  have HSM := Lib.hid hsm
  subst hcz
  clear hsm
  have hrows := cut_rows (b := l) (show cutF y.life y.era (n1 : Int) l = (CR, 0) from hR) ho
  have HROWS := Lib.hid hrows
  have HOFF := Lib.hid hoff
  have HFU := Lib.hid (show x.fuse ≤ 9223372036854775807 ∧ -9223372036854775807 ≤ x.fuse from ⟨hfu, hfl⟩)
  have HAP := Lib.hid hap
  have HLT := Lib.hid (blk_lt_of h.row_blk)
  have HPOS : Hid (0 < CR.length) := Lib.hid (by have := cut_pos (life := y.life) (era := y.era) (seq := (n1 : Int)) (b := l) (by rw [hR]); rw [hR] at this; exact this)
  have HFITS : Hid (y.f + y.used + CR.length ≤ x.C.length) := Lib.hid (by have := hy.small; omega)
  clear hrows hfu hfl hap htc
  clear h hy hrs ho hcut hn1 hR hB hlc hcm hl hdead hoff
  go_enter Try.func19, Try.ntmps19
  go_upto_region 3 with fail
  refine wp_region_held_drew (S := (fun V => Below w.heap.size w V)) (by kernel_rfl) (by exact (Below.refl _ _).drew) (fun hHeld => ?_)
  refine tkJ 0 22 rfl (by intro w; go_simp <;> with_reducible rfl) hHeld ?_; simp only [pqZ]
  refine tkJ 1 23 rfl (by intro w; go_simp <;> with_reducible rfl) hHeld ?_; simp only [pqZ]
  refine tkJ 2 24 rfl (by intro w; go_simp <;> with_reducible rfl) hHeld ?_; simp only [pqZ]
  refine tkI 3 25 rfl (by intro w hSw; obtain ⟨z0, z1, z2, z3, z4, z5, z6, z7, zs⟩ := (HRY.out.below (hSw)).got; go_simp <;> with_reducible rfl) hHeld ?_; simp only [pqZ]
  refine tkJ 4 26 rfl (by intro w; go_simp <;> with_reducible rfl) hHeld ?_; simp only [pqZ]
  refine tkJ 5 27 rfl (by intro w; go_simp <;> with_reducible rfl) hHeld ?_; simp only [pqZ]
  refine tkJ 6 28 rfl (by intro w; go_simp <;> with_reducible rfl) hHeld ?_; simp only [pqZ]
  refine tkI 7 29 rfl (by intro w hSw; obtain ⟨z0, z1, z2, z3, z4, z5, z6, z7, zs⟩ := (HRY.out.below (hSw)).got; go_simp <;> with_reducible rfl) hHeld ?_; simp only [pqZ]
  refine tkJ 8 30 rfl (by intro w; go_simp <;> with_reducible rfl) hHeld ?_; simp only [pqZ]
  refine tkJ 9 31 rfl (by intro w; go_simp <;> with_reducible rfl) hHeld ?_; simp only [pqZ]
  refine tkJ 10 32 rfl (by intro w; go_simp <;> with_reducible rfl) hHeld ?_; simp only [pqZ]
  refine tkI 11 33 rfl (by intro w hSw; obtain ⟨z0, z1, z2, z3, z4, z5, z6, z7, zs⟩ := (HRY.out.below (hSw)).got; go_simp <;> with_reducible rfl) hHeld ?_; simp only [pqZ]
  refine tkJ 12 34 rfl (by intro w; go_simp <;> with_reducible rfl) hHeld ?_; simp only [pqZ]
  refine tkJ 13 35 rfl (by intro w; go_simp <;> with_reducible rfl) hHeld ?_; simp only [pqZ]
  refine tkJ 14 36 rfl (by intro w; go_simp <;> with_reducible rfl) hHeld ?_; simp only [pqZ]
  refine rdZ 15 37 rfl (by kernel_rfl) (fun K hK => ?_)
  go_simp
  refine (HCUT.out _ hHeld).mono ?_
  rintro e w1 ⟨⟨A5, c5, S5, rfl, own5, map5, or5⟩, hb5⟩
  have hKeep := since_step hHeld hb5
  have HO5 := Lib.hid own5
  have HM5 := Lib.hid map5
  have HR5 := Lib.hid or5
  have HZ5 := Lib.hid hHeld.size
  clear own5 map5 or5 hb5
  go_wp2_with fail
  refine hK.out _ _ (by (try dsimp only); exact hKeep) (fun hHeld => ?_); clear hK K hKeep; try simp only [pqZ]
  refine tkJ 16 21 rfl (by intro w; go_simp <;> with_reducible rfl) hHeld ?_; simp only [pqZ]
  refine tkJ 17 38 rfl (by intro w; go_simp <;> with_reducible rfl) hHeld ?_; simp only [pqZ]
  refine tkJ 18 39 rfl (by intro w; go_simp <;> with_reducible rfl) hHeld ?_; simp only [pqZ]
  refine tkJ 19 5 rfl (by intro w; go_simp <;> with_reducible rfl) hHeld ?_; simp only [pqZ]
  refine tkJ 20 6 rfl (by intro w; go_simp <;> with_reducible rfl) hHeld ?_; simp only [pqZ]
  refine wpAnyH_done (by kernel_rfl) ?_ _
  have HB5 := Lib.hid hHeld
  have HRV5 := Lib.hid (HRV.out.below hHeld)
  have HRY5 := Lib.hid (HRY.out.below hHeld)
  clear q0 q1 q2 q3 q4 q5 q6 q7 qs p0 p1 p2 p3 p4 ps hHeld HRV HRY
  obtain ⟨q0, q1, q2, q3, q4, q5, q6, q7, qs⟩ := HRY5.out.got
  have HSL : Hid (S5.length = CR.length) := Lib.hid (by rw [← HM5.out, List.length_map])
  generalize w1 = wz at *
  have hrm : decide ((y.t : Int) - (y.f : Int) - (y.used : Int) < (S5.length : Int)) = false := decide_eq_false (by rw [HSL.out]; omega)
  clear hroom
  go_wp2_with fail
  go_quiet (fail)
  go_upto_region 8 with fail
  generalize hyn : wz.drewN _ = yd at *
  have hbz : Below wz.heap.size wz yd := by rw [← hyn]; exact below_drewN (Below.refl _ _) _
  have HBZ := Lib.hid (since_step HB5.out hbz)
  have HRV6 := Lib.hid (HRV5.out.below hbz)
  have HRY6 := Lib.hid (HRY5.out.below hbz)
  have HO6 := Lib.hid (own_below HO5.out hbz)
  have HR6 := Lib.hid (OwnR.below (S := S5) (fun r hr => HR5.out r hr) hbz)
  clear hyn hbz q0 q1 q2 q3 q4 q5 q6 q7 qs HRV5 HRY5
  obtain ⟨q0, q1, q2, q3, q4, q5, q6, q7, qs⟩ := HRY6.out.got
  have hbd : Below yd.heap.size yd yd.drew := (Below.refl _ _).drew
  have HRV7 := Lib.hid (HRV6.out.below hbd)
  have HRY7 := Lib.hid (HRY6.out.below hbd)
  have hrx : RowsX (blkR b A x.C.length c) yd A5 S5 := RowsX.own HO6.out HR6.out (fun y2 hy2 => by
    have h9 := HLT.out y2 hy2
    have h8 := HZ5.out
    exact ⟨by first | exact h9 | exact Nat.lt_of_lt_of_le h9 h8, by first | exact h9 | exact Nat.lt_of_lt_of_le h9 h8⟩)
  have hwr := rwrite_ok (y.f + y.used) c5 S5 yd.drew HRV7.out (Nat.le_trans HBB.out HBZ.out.size) (hrx.below hbd) (fun r hr => (HROWS.out r.l (by rw [← HM5.out]; exact List.mem_map.2 ⟨r, hr, rfl⟩)).symm) HOFF.out (by rw [HSL.out]; exact HFITS.out) (by rw [HSL.out]; exact HPOS.out) HFU.out.1 HFU.out.2
  rw [HM5.out] at hwr
  have HWR := Lib.hid hwr
  clear hbd hrx hwr
  go_still_tail 14, (by kernel_rfl)
  change wpList _ _ _ _ _ yd.drew
  go_wp2_with fail
  refine HWR.out.mono ?_
  rintro e w8 ⟨rfl, R8, hv8, hc8⟩
  have HV8 := Lib.hid hv8
  have HC8 := Lib.hid (((ChgL.of_below (l := blkR b A x.C.length c) HBZ.out).step (Below.refl _ _).drew).trans hc8 (fun y2 hy2 => .inl hy2))
  have hy8 := HRY7.out.far hc8 (not_mem_type HRV7.out.row_blk HRY7.out.blk (by decide)) HAP.out
  have HY8 := Lib.hid hy8
  clear hv8 hc8 hy8 q0 q1 q2 q3 q4 q5 q6 q7 qs
  obtain ⟨q0, q1, q2, q3, q4, q5, q6, q7, qs⟩ := HY8.out.got
  rw [hwz]
  have hset := HY8.out.set (y := { y with dead := true }) 7 (.bool true) rfl ⟨HSM.out.1, HSM.out.2.1, HSM.out.2.2.1⟩ (by simp [Sc.cells])
  have z7 := HY8.out.fz 7
  have HSET := Lib.hid hset
  clear hset
  go_wp2_with fail
  go_ret
  refine ⟨rfl, R8, HV8.out.box HY8.out.blk (by decide) (by decide) (by decide) (by decide) (ChgL.set (l := [s]) 7 _ (by simp)), HSET.out, ?_⟩
  exact (ChgL.trans (l := blkD b A x.C.length c s (y.row A2 c2)) (m := blkR b A x.C.length c) ⟨HC8.out.os, HC8.out.tape, HC8.out.output, HC8.out.size, fun k hk hn => HC8.out.block k hk (fun hm => hn (List.mem_append.2 (.inl hm)))⟩ (ChgL.refl _ _) (fun y2 hy2 => .inl (List.mem_append.2 (.inl hy2)))).trans (ChgL.set (l := [s]) 7 _ (by simp)) (fun y2 hy2 => .inl (List.mem_append.2 (.inr (by rw [List.mem_singleton] at hy2; rw [hy2]; exact List.mem_cons_self ..))))
theorem rapp_go {B b c kc s c2 : Nat} {A KA A2 : Option Addr} {R R2 : List (RowS Nat)} {x : Rv} {y : Sc} (rA : Option Addr) (rc_ : Nat) (l : List Nat) (w : World) (h : RvA B w b A c R KA kc x) (hy : RsA B w s b A2 c2 R2 y) (hB : B ≤ w.heap.size) (hlc : l.length ≤ rc_) (hcm : rc_ ≤ maxLen) (hl : l.length ≤ 100000) (hrs : Sl w rA (by8 l)) (ho : Oct l) (hdead : y.dead = false) (hoff : x.off = false) (hcz : (cutF y.life y.era ((y.L.length + 1 : Nat) : Int) l).2 = 0) (hroom : ¬ (y.t : Int) - (y.f : Int) - (y.used : Int) < (((cutF y.life y.era ((y.L.length + 1 : Nat) : Int) l).1.length : Nat) : Int)) (htc : y.t ≤ x.C.length) (hfu : x.fuse ≤ 9223372036854775807) (hfl : -9223372036854775807 ≤ x.fuse) (hap : ∀ z ∈ blkR b A x.C.length c, (y.row A2 c2).ownBlock ≠ some z) (hwz : (x.write ((y.f + y.used : Nat) : Int) (cutF y.life y.era ((y.L.length + 1 : Nat) : Int) l).1).2 = 0) (hLn : y.L.length ≤ 900000) :
    Calls Try.prog 19 #[.pointer (some ⟨s, 0, none⟩), .slice rA l.length rc_] w fun e w' => e = .returned (.int .i64 0) ∧ ∃ R' A2' c2', RvA B w' b A c R' KA kc (x.write ((y.f + y.used : Nat) : Int) (cutF y.life y.era ((y.L.length + 1 : Nat) : Int) l).1).1 ∧ RsA B w' s b A2' c2' (R2 ++ [⟨rA, rc_, l⟩]) (y.add l (cutF y.life y.era ((y.L.length + 1 : Nat) : Int) l).1.length) ∧ ChgL (blkD b A x.C.length c s (y.row A2 c2)) w w' ∧ (((y.add l (cutF y.life y.era ((y.L.length + 1 : Nat) : Int) l).1.length).row A2' c2').ownBlock = (y.row A2 c2).ownBlock ∨ ∃ k, w.heap.size ≤ k ∧ ((y.add l (cutF y.life y.era ((y.L.length + 1 : Nat) : Int) l).1.length).row A2' c2').ownBlock = some k) := by
  obtain ⟨p0, p1, p2, p3, p4, ps⟩ := h.got
  obtain ⟨q0, q1, q2, q3, q4, q5, q6, q7, qs⟩ := hy.got
  have hcut := fun (V : World) (hV : Below w.heap.size w V) => rcut7_any y.life y.era ((y.L.length + 1 : Nat) : Int) rA rc_ l V hlc hcm (by omega) (hrs.below hV) ho
  obtain ⟨n1, hn1⟩ : ∃ n1, y.L.length + 1 = n1 := ⟨_, rfl⟩
  rw [hdead] at q7
  rw [hoff] at p1
  have hn1b : n1 ≤ 1000001 := by have := hy.small; omega
  have hwn : IntKind.i64.wrap ((y.L.length : Int) + 1) = (n1 : Int) := by rw [IntKind.wrap_i64]; omega
  rw [hn1] at hcut hcz hroom hwz ⊢
  obtain ⟨⟨CR, z⟩, hR⟩ : ∃ C, cutF y.life y.era (n1 : Int) l = C := ⟨_, rfl⟩
  rw [hR] at hcut hcz hroom hwz ⊢
  simp only at hcz hroom hwz ⊢
  have HCUT := Lib.hid hcut
  have HN1 := Lib.hid hn1
  have HRV := Lib.hid h
  have HRY := Lib.hid hy
  have HBB := Lib.hid hB
  have HLL := Lib.hid (show l.length ≤ 100000 ∧ l.length ≤ rc_ ∧ rc_ ≤ maxLen from ⟨hl, hlc, hcm⟩)
  have HRS := Lib.hid hrs
  have hsm := hy.small
  have hwa : IntKind.i64.wrap ((y.t : Int) - (y.f : Int)) = (y.t : Int) - (y.f : Int) := by rw [IntKind.wrap_i64]; omega
  have hwb : IntKind.i64.wrap ((y.t : Int) - (y.f : Int) - (y.used : Int)) = (y.t : Int) - (y.f : Int) - (y.used : Int) := by rw [IntKind.wrap_i64]; omega
  have hwc : IntKind.i64.wrap ((y.f : Int) + (y.used : Int)) = ((y.f + y.used : Nat) : Int) := by rw [IntKind.wrap_i64]; omega
  have HSM := Lib.hid hsm
  subst hcz
  clear hsm
  have hrows := cut_rows (b := l) (show cutF y.life y.era (n1 : Int) l = (CR, 0) from hR) ho
  have HROWS := Lib.hid hrows
  have HOFF := Lib.hid hoff
  have HFU := Lib.hid (show x.fuse ≤ 9223372036854775807 ∧ -9223372036854775807 ≤ x.fuse from ⟨hfu, hfl⟩)
  have HAP := Lib.hid hap
  have HLT := Lib.hid (blk_lt_of h.row_blk)
  have HPOS : Hid (0 < CR.length) := Lib.hid (by have := cut_pos (life := y.life) (era := y.era) (seq := (n1 : Int)) (b := l) (by rw [hR]); rw [hR] at this; exact this)
  have HFITS : Hid (y.f + y.used + CR.length ≤ x.C.length) := Lib.hid (by have := hy.small; omega)
  clear hrows hfu hfl hap htc
  have HLN := Lib.hid hLn
  clear hLn
  have HCL := Lib.hid (show CR.length ≤ 255 by have := cutF_len y.life y.era (n1 : Int) l; rw [hR] at this; exact this)
  have HADD : Hid (y.f ≤ 2048 ∧ y.t ≤ 2048 ∧ y.used + CR.length ≤ 1000000 ∧ y.L.length + 1 ≤ 1000000) := Lib.hid (by have h1 := HSM.out; have h2 := HCL.out; have h3 := HLN.out; have h4 := HFITS.out; have h5 := h.small; omega)
  have HWU : Hid (wrap64 ((y.used : Int) + (CR.length : Int)) = ((y.used + CR.length : Nat) : Int)) := Lib.hid (by have h1 := HADD.out; have h2 := HCL.out; rw [show ((y.used + CR.length : Nat) : Int) = (y.used : Int) + (CR.length : Int) by omega]; exact IntWalk.wrap64_in ((y.used : Int) + (CR.length : Int)) (by omega))
  clear h hy hrs ho hcut hn1 hR hB hlc hcm hl hdead hoff
  go_enter Try.func19, Try.ntmps19
  go_upto_region 3 with fail
  refine wp_region_held_drew (S := (fun V => Below w.heap.size w V)) (by kernel_rfl) (by exact (Below.refl _ _).drew) (fun hHeld => ?_)
  refine tkJ 0 22 rfl (by intro w; go_simp <;> with_reducible rfl) hHeld ?_; simp only [pqZ]
  refine tkJ 1 23 rfl (by intro w; go_simp <;> with_reducible rfl) hHeld ?_; simp only [pqZ]
  refine tkJ 2 24 rfl (by intro w; go_simp <;> with_reducible rfl) hHeld ?_; simp only [pqZ]
  refine tkI 3 25 rfl (by intro w hSw; obtain ⟨z0, z1, z2, z3, z4, z5, z6, z7, zs⟩ := (HRY.out.below (hSw)).got; go_simp <;> with_reducible rfl) hHeld ?_; simp only [pqZ]
  refine tkJ 4 26 rfl (by intro w; go_simp <;> with_reducible rfl) hHeld ?_; simp only [pqZ]
  refine tkJ 5 27 rfl (by intro w; go_simp <;> with_reducible rfl) hHeld ?_; simp only [pqZ]
  refine tkJ 6 28 rfl (by intro w; go_simp <;> with_reducible rfl) hHeld ?_; simp only [pqZ]
  refine tkI 7 29 rfl (by intro w hSw; obtain ⟨z0, z1, z2, z3, z4, z5, z6, z7, zs⟩ := (HRY.out.below (hSw)).got; go_simp <;> with_reducible rfl) hHeld ?_; simp only [pqZ]
  refine tkJ 8 30 rfl (by intro w; go_simp <;> with_reducible rfl) hHeld ?_; simp only [pqZ]
  refine tkJ 9 31 rfl (by intro w; go_simp <;> with_reducible rfl) hHeld ?_; simp only [pqZ]
  refine tkJ 10 32 rfl (by intro w; go_simp <;> with_reducible rfl) hHeld ?_; simp only [pqZ]
  refine tkI 11 33 rfl (by intro w hSw; obtain ⟨z0, z1, z2, z3, z4, z5, z6, z7, zs⟩ := (HRY.out.below (hSw)).got; go_simp <;> with_reducible rfl) hHeld ?_; simp only [pqZ]
  refine tkJ 12 34 rfl (by intro w; go_simp <;> with_reducible rfl) hHeld ?_; simp only [pqZ]
  refine tkJ 13 35 rfl (by intro w; go_simp <;> with_reducible rfl) hHeld ?_; simp only [pqZ]
  refine tkJ 14 36 rfl (by intro w; go_simp <;> with_reducible rfl) hHeld ?_; simp only [pqZ]
  refine rdZ 15 37 rfl (by kernel_rfl) (fun K hK => ?_)
  go_simp
  refine (HCUT.out _ hHeld).mono ?_
  rintro e w1 ⟨⟨A5, c5, S5, rfl, own5, map5, or5⟩, hb5⟩
  have hKeep := since_step hHeld hb5
  have HO5 := Lib.hid own5
  have HM5 := Lib.hid map5
  have HR5 := Lib.hid or5
  have HZ5 := Lib.hid hHeld.size
  clear own5 map5 or5 hb5
  go_wp2_with fail
  refine hK.out _ _ (by (try dsimp only); exact hKeep) (fun hHeld => ?_); clear hK K hKeep; try simp only [pqZ]
  refine tkJ 16 21 rfl (by intro w; go_simp <;> with_reducible rfl) hHeld ?_; simp only [pqZ]
  refine tkJ 17 38 rfl (by intro w; go_simp <;> with_reducible rfl) hHeld ?_; simp only [pqZ]
  refine tkJ 18 39 rfl (by intro w; go_simp <;> with_reducible rfl) hHeld ?_; simp only [pqZ]
  refine tkJ 19 5 rfl (by intro w; go_simp <;> with_reducible rfl) hHeld ?_; simp only [pqZ]
  refine tkJ 20 6 rfl (by intro w; go_simp <;> with_reducible rfl) hHeld ?_; simp only [pqZ]
  refine wpAnyH_done (by kernel_rfl) ?_ _
  have HB5 := Lib.hid hHeld
  have HRV5 := Lib.hid (HRV.out.below hHeld)
  have HRY5 := Lib.hid (HRY.out.below hHeld)
  clear q0 q1 q2 q3 q4 q5 q6 q7 qs p0 p1 p2 p3 p4 ps hHeld HRV HRY
  obtain ⟨q0, q1, q2, q3, q4, q5, q6, q7, qs⟩ := HRY5.out.got
  have HSL : Hid (S5.length = CR.length) := Lib.hid (by rw [← HM5.out, List.length_map])
  generalize w1 = wz at *
  have hrm : decide ((y.t : Int) - (y.f : Int) - (y.used : Int) < (S5.length : Int)) = false := decide_eq_false (by rw [HSL.out]; omega)
  clear hroom
  go_wp2_with fail
  go_quiet (fail)
  go_upto_region 8 with fail
  generalize hyn : wz.drewN _ = yd at *
  have hbz : Below wz.heap.size wz yd := by rw [← hyn]; exact below_drewN (Below.refl _ _) _
  have HBZ := Lib.hid (since_step HB5.out hbz)
  have HRV6 := Lib.hid (HRV5.out.below hbz)
  have HRY6 := Lib.hid (HRY5.out.below hbz)
  have HO6 := Lib.hid (own_below HO5.out hbz)
  have HR6 := Lib.hid (OwnR.below (S := S5) (fun r hr => HR5.out r hr) hbz)
  clear hyn hbz q0 q1 q2 q3 q4 q5 q6 q7 qs HRV5 HRY5
  obtain ⟨q0, q1, q2, q3, q4, q5, q6, q7, qs⟩ := HRY6.out.got
  have hbd : Below yd.heap.size yd yd.drew := (Below.refl _ _).drew
  have HRV7 := Lib.hid (HRV6.out.below hbd)
  have HRY7 := Lib.hid (HRY6.out.below hbd)
  have hrx : RowsX (blkR b A x.C.length c) yd A5 S5 := RowsX.own HO6.out HR6.out (fun y2 hy2 => by
    have h9 := HLT.out y2 hy2
    have h8 := HZ5.out
    exact ⟨by first | exact h9 | exact Nat.lt_of_lt_of_le h9 h8, by first | exact h9 | exact Nat.lt_of_lt_of_le h9 h8⟩)
  have hwr := rwrite_ok (y.f + y.used) c5 S5 yd.drew HRV7.out (Nat.le_trans HBB.out HBZ.out.size) (hrx.below hbd) (fun r hr => (HROWS.out r.l (by rw [← HM5.out]; exact List.mem_map.2 ⟨r, hr, rfl⟩)).symm) HOFF.out (by rw [HSL.out]; exact HFITS.out) (by rw [HSL.out]; exact HPOS.out) HFU.out.1 HFU.out.2
  rw [HM5.out] at hwr
  have HWR := Lib.hid hwr
  clear hbd hrx hwr
  go_still_tail 14, (by kernel_rfl)
  change wpList _ _ _ _ _ yd.drew
  go_wp2_with fail
  refine HWR.out.mono ?_
  rintro e w8 ⟨rfl, R8, hv8, hc8⟩
  have HV8 := Lib.hid hv8
  have HC8 := Lib.hid (((ChgL.of_below (l := blkR b A x.C.length c) HBZ.out).step (Below.refl _ _).drew).trans hc8 (fun y2 hy2 => .inl hy2))
  have hy8 := HRY7.out.far hc8 (not_mem_type HRV7.out.row_blk HRY7.out.blk (by decide)) HAP.out
  have HY8 := Lib.hid hy8
  clear hv8 hc8 hy8 q0 q1 q2 q3 q4 q5 q6 q7 qs
  obtain ⟨q0, q1, q2, q3, q4, q5, q6, q7, qs⟩ := HY8.out.got
  rw [hwz]
  have z5 := HY8.out.fz 5
  have z6 := HY8.out.fz 6
  have hbs : B ≤ w8.heap.size := Nat.le_trans HBB.out HC8.out.size
  go_wp2_with (first
    | (at_builtin; refine wpList_app2 rfl (.tmp 86) (.tmp 88) rfl EDR rfl rfl (HY8.out.own.alloc (.cells #[.slice rA l.length rc_] 36)) (m := 1) (news := [.slice rA l.length rc_]) rfl (by decide) (Sl.new_ _ _ _) (fun u hu => by simp only [List.mem_cons, List.not_mem_nil, or_false] at hu; subst hu; rfl) (by unfold maxLen; have := HLN.out; omega) (by have := HLN.out; omega) (by simp only [World.size_alloc]; omega) ?_; intro A9 c9 w9 own9 hg9 hv9 hb9; have hbx : w9.heap[s]? = some (.cells (y.cells b A2 c2) 55 (0, 0)) := ((ChgL.of_grown (l := (Value.slice A2 y.L.length c2).ownBlock.toList) hg9 (fun y2 hy2 => by rw [hy2]; simp)).block s (Nat.lt_of_lt_of_le qs (by simp)) (fun hm => HY8.out.off HY8.out.own (by decide) (Option.mem_def.1 (Option.mem_toList.1 hm)))).trans (((since_alloc (Below.refl _ w8) _).block s qs).trans HY8.out.blk); have q5 : w9.cell? ⟨s, 5, none⟩ = some (.slice A2 y.L.length c2) := (box_cells' hbx 5).1; have q6 : w9.cell? ⟨s, 6, none⟩ = some (.int .i64 y.used) := (box_cells' hbx 6).1; have z5 := (box_cells' hbx 5).2.1; have z6 := (box_cells' hbx 6).2.1; have qs := (box_cells' hbx 5).2.2)
    | fail)
  rw [HSL.out, HWU.out]
  have hrow9 := RsA.added (l := l) (p := CR.length) hbx own9 HRY6.out.map HRY6.out.ge HADD.out
  have hLr : ∀ y2 ∈ (Value.slice A2 y.L.length c2).ownBlock.toList, (Value.slice A (x.write ((y.f + y.used : Nat) : Int) CR).1.C.length c).ownBlock ≠ some y2 := fun y2 hy2 he => by
    rw [own_len A _ x.C.length c] at he
    exact HAP.out y2 (by unfold blkR; exact List.mem_cons_of_mem _ (Option.mem_toList.2 (Option.mem_def.2 he))) (Option.mem_def.1 (Option.mem_toList.1 hy2))
  have hLt : ∀ y2 ∈ (Value.slice A2 y.L.length c2).ownBlock.toList, ∃ cs z T, (w8.alloc (.cells #[.slice rA l.length rc_] 36)).heap[y2]? = some (.cells cs T z) ∧ T = 36 := fun y2 hy2 => by
    have h9 := (HY8.out.own.alloc (.cells #[.slice rA l.length rc_] 36))
    have e2 := Option.mem_def.1 (Option.mem_toList.1 hy2)
    rcases h9.2 with ⟨hv, _⟩ | ⟨k, cap, cur, hv, hk2, hh, _⟩
    · rw [hv] at e2; simp [Value.ownBlock] at e2
    · rw [hv] at e2
      simp [Value.ownBlock] at e2
      subst e2
      exact ⟨_, _, _, hh, rfl⟩
  have hv9' := ((HV8.out.below (since_alloc (Below.refl _ w8) (.cells #[.slice rA l.length rc_] 36))).far (ChgL.of_grown (l := (Value.slice A2 y.L.length c2).ownBlock.toList) hg9 (fun y2 hy2 => by rw [hy2]; simp)) (not_mem_type hLt (HV8.out.below (since_alloc (Below.refl _ w8) _)).blk (by decide)) hLr (fun y2 hy2 => by obtain ⟨cs, z, T2, a, e⟩ := hLt y2 hy2; exact ⟨cs, z, T2, a, by rw [e]; decide, by rw [e]; decide⟩))
  have hcs : ChgL [s] w9 ((w9.setCell ⟨s, 5, none⟩ (.slice A9 (y.L.length + 1) c9)).setCell ⟨s, 6, none⟩ (.int .i64 ((y.used + CR.length : Nat) : Int))) := (ChgL.set (l := [s]) 5 _ (by simp)).trans (ChgL.set (l := [s]) 6 _ (by simp)) (fun y2 hy2 => .inl hy2)
  have HFIN := Lib.hid (hv9'.box hbx (by decide) (by decide) (by decide) (by decide) hcs)
  have HROW := Lib.hid hrow9
  have HCC : Hid (ChgL (blkD b A x.C.length c s (y.row A2 c2)) w ((w9.setCell ⟨s, 5, none⟩ (.slice A9 (y.L.length + 1) c9)).setCell ⟨s, 6, none⟩ (.int .i64 ((y.used + CR.length : Nat) : Int)))) := Lib.hid ((((ChgL.trans (l := blkD b A x.C.length c s (y.row A2 c2)) (m := blkR b A x.C.length c) ⟨HC8.out.os, HC8.out.tape, HC8.out.output, HC8.out.size, fun k hk hn => HC8.out.block k hk (fun hm => hn (List.mem_append.2 (.inl hm)))⟩ (ChgL.refl _ _) (fun y2 hy2 => .inl (List.mem_append.2 (.inl hy2)))).step (since_alloc (Below.refl _ w8) _)).trans (ChgL.of_grown (l := (Value.slice A2 y.L.length c2).ownBlock.toList) hg9 (fun y2 hy2 => by rw [hy2]; simp)) (fun y2 hy2 => .inl (List.mem_append.2 (.inr (List.mem_cons_of_mem _ hy2))))).trans hcs (fun y2 hy2 => .inl (List.mem_append.2 (.inr (by rw [List.mem_singleton] at hy2; rw [hy2]; exact List.mem_cons_self ..)))))
  have hsz : w.heap.size ≤ (w8.alloc (.cells #[.slice rA l.length rc_] 36)).heap.size := Nat.le_trans HC8.out.size (by simp)
  have HSAME : Hid (((y.add l CR.length).row A9 c9).ownBlock = (y.row A2 c2).ownBlock ∨ ∃ k, w.heap.size ≤ k ∧ ((y.add l CR.length).row A9 c9).ownBlock = some k) := Lib.hid (by
    have e0 : ((y.add l CR.length).row A9 c9).ownBlock = (Value.slice A9 (y.L.length + 1) c9).ownBlock := own_len _ _ _ _
    rw [e0]
    rcases hv9 with h1 | h1
    · exact .inl h1
    · exact .inr ⟨_, hsz, h1⟩)
  go_ret
  exact ⟨rfl, R8, A9, c9, HFIN.out, HROW.out, HCC.out, HSAME.out⟩
end
end Go.Proofs.Ytiggcpfmmgmncaa
