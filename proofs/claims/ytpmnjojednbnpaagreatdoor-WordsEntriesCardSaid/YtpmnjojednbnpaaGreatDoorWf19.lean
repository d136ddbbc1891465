import Derived.BigRegion
import Derived.Deep.RegionWith
import Derived.Test.YtpmnjojednbnpaaGreatDoorWf18
set_option maxHeartbeats 16000000
set_option maxRecDepth 100000
set_option linter.unusedVariables false
set_option linter.unusedSimpArgs false
namespace Go.Proofs.YtpmnjojednbnpaaGreatDoor
open Go.ChangeShapes Go.WideShapes Go.ChangeAt Go.RowKit
section
def BB (w : World) (g : Nat) (s : Bool) (A : Option Addr) (n c : Nat) : Prop := g < w.heap.size ∧ w.cell? ⟨g, 0, none⟩ = some (.bool s) ∧ w.cell? ⟨g, 1, none⟩ = some (.slice A n c) ∧ w.frozen? ⟨g, 0, none⟩ = false ∧ w.frozen? ⟨g, 1, none⟩ = false
section
variable {w w' : World} {g : Nat} {s : Bool} {A : Option Addr} {n c : Nat}
theorem BB.new (w : World) (s : Bool) (A : Option Addr) (n c : Nat) (t : TypeId) : BB (w.alloc (.cells #[.bool s, .slice A n c] t)) w.heap.size s A n c := by
 refine ⟨by simp, ?_, ?_, ?_, ?_⟩ <;> simp
theorem BB.below (h : BB w g s A n c) (hb : Below w.heap.size w w') : BB w' g s A n c := by
 obtain ⟨h0, h1, h2, f1, f2⟩ := h;exact ⟨Nat.lt_of_lt_of_le h0 hb.size, (hb.cell (p := ⟨g, 0, none⟩) h0).trans h1, (hb.cell (p := ⟨g, 1, none⟩) h0).trans h2, (hb.frozen (p := ⟨g, 0, none⟩) h0).trans f1, (hb.frozen (p := ⟨g, 1, none⟩) h0).trans f2⟩
theorem BB.alloc (h : BB w g s A n c) (o : Obj) : BB (w.alloc o) g s A n c := h.below ((Below.refl _ _).alloc (Nat.le_refl _) o)
theorem BB.drew (h : BB w g s A n c) : BB w.drew g s A n c := h
end
theorem BigAt.lt {w : World} {neg : Bool} {A : Option Addr} {n c : Nat} {z : Int} (h : BigAt w neg A n c z) : ∀ b o, A = some ⟨b, o, none⟩ → 0 < n → b < w.heap.size := by
 intro b o hA hn;obtain ⟨bits, h1, h2, h3, h4, _⟩ := h.ex;obtain ⟨b', o', e, hc⟩ := h4.byte (j := 0) (by omega);rw [hA] at e;injection e with e;injection e with e1 e2;subst e1;exact World.block_lt_of_cell? _ _ hc
theorem add_same {s : Bool} {x y : Int} {p q v : Nat} (hx : x = if s = true then -(p : Int) else (p : Int)) (hy : y = if s = true then -(q : Int) else (q : Int)) (hv : v = p + q) : x + y = if s = true then -(v : Int) else (v : Int) := by
 subst hx; subst hy; subst hv; cases s <;> simp <;> omega
theorem add_lt {s t : Bool} {x y : Int} {p q v : Nat} (h : (s == t) = false) (hx : x = if s = true then -(p : Int) else (p : Int)) (hy : y = if t = true then -(q : Int) else (q : Int)) (hl : p < q) (hv : v = q - p) : x + y = if t = true then -(v : Int) else (v : Int) := by
 subst hx; subst hy; subst hv
 cases s <;> cases t <;> simp at h ⊢ <;> omega
theorem add_ge {s t : Bool} {x y : Int} {p q v : Nat} (h : (s == t) = false) (hx : x = if s = true then -(p : Int) else (p : Int)) (hy : y = if t = true then -(q : Int) else (q : Int)) (hl : ¬ p < q) (hv : v = p - q) : x + y = if s = true then -(v : Int) else (v : Int) := by
 subst hx; subst hy; subst hv
 cases s <;> cases t <;> simp at h ⊢ <;> omega
theorem bneg_any (x : Int) (A : Option Addr) (n c : Nat) (w : World) (hn : n ≤ 1000000) (hx : BigAt w (decide (x < 0)) A n c x) :
  Calls Tryz.prog 72 #[.agg #[.bool (decide (x < 0)), .slice A n c]] w fun e w' => (∃ n' c', e = .returned (.agg #[.bool (decide (-x < 0)), .slice A n' c']) ∧ n' ≤ n ∧ BigAt w' (decide (-x < 0)) A n' c' (-x)) ∧ Below w.heap.size w w' := by
 have hlt := hx.lt;obtain ⟨bits, h1, h2, h3, h4, h5, h6, h7⟩ := hx.ex;generalize hX : decide (x < 0) = sx at *;clear hX hx h6;subst h1;have hz : -x = if (!sx) = true then -(bval bits : Int) else (bval bits : Int) := by rw [h7]; cases sx <;> simp
 have HZ := hJz hz;clear hz h7
 have P2 : BB ((w.alloc (.cells #[.bool sx, .slice A bits.length c] 124)).alloc (.cells #[.bool false, .slice none 0 0] 124)) (w.heap.size + 1) false none 0 0 := by
  have := BB.new (w.alloc (.cells #[.bool sx, .slice A bits.length c] 124)) false none 0 0 124
  rwa [World.size_alloc] at this
 have hcs := @cell_set;go_enter Tryz.func72, Tryz.ntmps72;go_wp2_with fail;refine (trim_any (!sx) A c bits (-x) HZ.out _ hn ⟨h2, h3⟩ h5.1 ((h4.alloc _).alloc _)).mono ?_;rintro e w1 ⟨⟨n', c', rfl, hn', hbig⟩, hb1⟩;have hB1 := since_step (since_alloc (since_alloc (Below.refl _ w) _) _) hb1;obtain ⟨q0, q1, q2, q3, q4⟩ := P2.below hb1;clear hb1 P2;generalize hs2 : decide (-x < 0) = s2 at *;have HS2 := hJz hs2;clear hs2
 go_wp2
 refine bodyPost_ret (v := .agg #[.bool s2, .slice A n' c']) ?_ rfl ?_
 ·simp [results, Tryz.results72, go_sem, cell_set, q1, q2]
 ·rw [HS2.out]
  refine ⟨⟨n', c', rfl, hn', ?_⟩, ?_⟩
  ·exact (hbig.far (fun b o hA h0 => by have := hlt b o hA (by omega); simp; omega) _).far (fun b o hA h0 => by have := hlt b o hA (by omega); simp; omega) _
  ·repeat' (first | with_reducible exact hB1 | with_reducible refine Below.setCell ?_ ?_ _)
   all_goals first | (simp; done) | (simp; omega)
theorem badd_any (x y : Int) (A B : Option Addr) (na ca nb cb : Nat) (w : World) (la : na ≤ 100000) (lb : nb ≤ 100000) (hx : BigAt w (decide (x < 0)) A na ca x) (hy : BigAt w (decide (y < 0)) B nb cb y) :
  Calls Tryz.prog 69 #[.agg #[.bool (decide (x < 0)), .slice A na ca], .agg #[.bool (decide (y < 0)), .slice B nb cb]] w fun e w' => (∃ A' n' c', e = .returned (.agg #[.bool (decide (x + y < 0)), .slice A' n' c']) ∧ Fr w.heap.size A' n' ∧ BigAt w' (decide (x + y < 0)) A' n' c' (x + y)) ∧ Below w.heap.size w w' := by
 obtain ⟨a, h1, h2, h3, h4, h5, h6, h7⟩ := hx.ex;obtain ⟨b, k1, k2, k3, k4, k5, k6, k7⟩ := hy.ex;generalize decide (x < 0) = sx at *;generalize decide (y < 0) = sy at *;clear hx hy h6 k6;have P1 : BB (((w.alloc (.cells #[.bool sx, .slice A na ca] 124)).alloc (.cells #[.bool sy, .slice B nb cb] 124)).alloc (.cells #[.bool false, .slice none 0 0] 124)) w.heap.size sx A na ca := ((BB.new _ _ _ _ _ _).alloc _).alloc _
 have P2 : BB (((w.alloc (.cells #[.bool sx, .slice A na ca] 124)).alloc (.cells #[.bool sy, .slice B nb cb] 124)).alloc (.cells #[.bool false, .slice none 0 0] 124)) (w.heap.size + 1) sy B nb cb := by
  have := (BB.new (w.alloc (.cells #[.bool sx, .slice A na ca] 124)) sy B nb cb 124).alloc (.cells #[.bool false, .slice none 0 0] 124)
  rwa [World.size_alloc] at this
 have P3 : BB (((w.alloc (.cells #[.bool sx, .slice A na ca] 124)).alloc (.cells #[.bool sy, .slice B nb cb] 124)).alloc (.cells #[.bool false, .slice none 0 0] 124)) (w.heap.size + 1 + 1) false none 0 0 := by
  have := BB.new ((w.alloc (.cells #[.bool sx, .slice A na ca] 124)).alloc (.cells #[.bool sy, .slice B nb cb] 124)) false none 0 0 124
  rwa [World.size_alloc, World.size_alloc] at this
 have hB0 : Below w.heap.size w (((w.alloc (.cells #[.bool sx, .slice A na ca] 124)).alloc (.cells #[.bool sy, .slice B nb cb] 124)).alloc (.cells #[.bool false, .slice none 0 0] 124)) := since_alloc (since_alloc (since_alloc (Below.refl _ w) _) _) _;have S1 := h4.below hB0;have S2 := k4.below hB0;have hcs := @cell_set;have hlt1 := P3.1;subst h1; subst k1;have H7 := hJz h7;have K7 := hJz k7;clear h7 k7;go_enter Tryz.func69, Tryz.ntmps69
 by_cases hss : sx = sy
 ·subst hss;have hsb : (sx == sx) = true := by simp
  have HLT := hJz (show True from trivial)
  go_wp2
  generalize (((w.alloc (.cells #[.bool sx, .slice A a.length ca] 124)).alloc (.cells #[.bool sx, .slice B b.length cb] 124)).alloc (.cells #[.bool false, .slice none 0 0] 124)) = W0 at *;obtain ⟨p10, p11, p12, p13, p14⟩ := _root_.id P1;obtain ⟨p20, p21, p22, p23, p24⟩ := _root_.id P2
  go_region_with (first
   | (go_at_call 94; refine (bplus_any A B ca cb a b W0.drew (by omega) (by omega) h5.1 k5.1 S1.drew S2.drew).mono ?_; rintro e w1 ⟨⟨A1, c1, out, rfl, ⟨hcap, hs1, hbin, hfr⟩, hv, hlen⟩, hb1⟩; obtain ⟨r0, r1, r2, r3, r4⟩ := P1.drew.below hb1; have Q3 := P3.drew.below hb1; have hB1 := since_step hB0.drew hb1; have HV := hJz hv; have HLN := hJz hlen; clear hb1 hv hlen)
   | (go_at_call 100; refine (trim_any sx A1 c1 out (x + y) (add_same H7.out K7.out HV.out) _ (by have := HLN.out; omega) hcap hbin hs1).mono ?_; rintro e w2 ⟨⟨n2, c2, rfl, hn2, hbig⟩, hb2⟩; obtain ⟨q0, q1, q2, q3, q4⟩ := Q3.below hb2; have hB2 := since_step hB1 hb2; clear hb2; generalize hs2 : decide (x + y < 0) = s2 at *; have HS2 := hJz hs2; clear hs2))
  all_goals
   go_wp2
   refine bodyPost_ret (v := .agg #[.bool s2, .slice A1 n2 c2]) ?_ rfl ?_
   ·simp [results, Tryz.results69, go_sem, cell_set, q1, q2]
   ·rw [HS2.out]
    refine ⟨⟨A1, n2, c2, rfl, hfr.le hB0.size hn2, ?_⟩, ?_⟩
    ·exact (hbig.far (fun b o hA h0 => by have := hfr b o hA (by omega); simp only [World.size_drew] at this; simp; omega) _).far (fun b o hA h0 => by have := hfr b o hA (by omega); simp only [World.size_drew] at this; simp; omega) _
    ·repeat' (first | with_reducible exact hB2 | with_reducible refine Below.setCell ?_ ?_ _)
     all_goals first | (simp; done) | (simp; omega)
 ·have hsb : (sx == sy) = false := by simpa using hss
  have HSB := hJz hsb;clear hss;go_wp2_with fail;generalize (((w.alloc (.cells #[.bool sx, .slice A a.length ca] 124)).alloc (.cells #[.bool sy, .slice B b.length cb] 124)).alloc (.cells #[.bool false, .slice none 0 0] 124)) = W0 at *;obtain ⟨p10, p11, p12, p13, p14⟩ := _root_.id P1;obtain ⟨p20, p21, p22, p23, p24⟩ := _root_.id P2;refine (bless_any A B ca cb a b _ (by omega) (by omega) h5 k5 S1 S2).mono ?_;rintro e wl ⟨rfl, hbl⟩;have P1 := P1.below hbl;have P2 := P2.below hbl;have P3 := P3.below hbl;have S1 := S1.below hbl;have S2 := S2.below hbl;have hlt1 := P3.1;have hB0 := since_step hB0 hbl;clear hbl p10 p11 p12 p13 p14 p20 p21 p22 p23 p24;obtain ⟨p10, p11, p12, p13, p14⟩ := _root_.id P1;obtain ⟨p20, p21, p22, p23, p24⟩ := _root_.id P2
  by_cases hl : bval a < bval b
  ·have HLT := hJz hl;have HLE := hJz (Nat.le_of_lt hl);have HLEN := hJz (show a.length ≤ b.length from Decidable.byContradiction fun h => by have := k5.lt_len h5 (by omega); omega);have hd : decide (bval a < bval b) = true := decide_eq_true hl;rw [hd];clear hl hd
   go_wp2
   go_region_with (first
    | (go_at_call 102; refine (bminus_any B A cb ca b a wl.drew (by omega) HLEN.out k5.1 h5.1 HLE.out S2.drew S1.drew).mono ?_; rintro e w1 ⟨⟨A1, c1, out, rfl, ⟨hcap, hs1, hbin, hfr⟩, hv, hlen⟩, hb1⟩; obtain ⟨r0, r1, r2, r3, r4⟩ := P2.drew.below hb1; have Q3 := P3.drew.below hb1; have hB1 := since_step hB0.drew hb1; have HV := hJz hv; have HLN := hJz hlen; clear hb1 hv hlen)
    | (go_at_call 100; refine (trim_any sy A1 c1 out (x + y) (add_lt HSB.out H7.out K7.out HLT.out HV.out) _ (by have := HLN.out; omega) hcap hbin hs1).mono ?_; rintro e w2 ⟨⟨n2, c2, rfl, hn2, hbig⟩, hb2⟩; obtain ⟨q0, q1, q2, q3, q4⟩ := Q3.below hb2; have hB2 := since_step hB1 hb2; clear hb2; generalize hs2 : decide (x + y < 0) = s2 at *; have HS2 := hJz hs2; clear hs2))
   all_goals
    go_wp2
    refine bodyPost_ret (v := .agg #[.bool s2, .slice A1 n2 c2]) ?_ rfl ?_
    ·simp [results, Tryz.results69, go_sem, cell_set, q1, q2]
    ·rw [HS2.out]
     refine ⟨⟨A1, n2, c2, rfl, hfr.le hB0.size hn2, ?_⟩, ?_⟩
     ·exact (hbig.far (fun b o hA h0 => by have := hfr b o hA (by omega); simp only [World.size_drew] at this; simp; omega) _).far (fun b o hA h0 => by have := hfr b o hA (by omega); simp only [World.size_drew] at this; simp; omega) _
     ·repeat' (first | with_reducible exact hB2 | with_reducible refine Below.setCell ?_ ?_ _)
      all_goals first | (simp; done) | (simp; omega)
  ·have HLT := hJz hl;have HLE := hJz (Nat.le_of_not_lt hl);have HLEN := hJz (show b.length ≤ a.length from Decidable.byContradiction fun h => hl (h5.lt_len k5 (by omega)));have hd : decide (bval a < bval b) = false := decide_eq_false hl;rw [hd];clear hl hd
   go_wp2
   go_region_with (first
    | (go_at_call 102; refine (bminus_any A B ca cb a b wl.drew (by omega) HLEN.out h5.1 k5.1 HLE.out S1.drew S2.drew).mono ?_; rintro e w1 ⟨⟨A1, c1, out, rfl, ⟨hcap, hs1, hbin, hfr⟩, hv, hlen⟩, hb1⟩; obtain ⟨r0, r1, r2, r3, r4⟩ := P1.drew.below hb1; have Q3 := P3.drew.below hb1; have hB1 := since_step hB0.drew hb1; have HV := hJz hv; have HLN := hJz hlen; clear hb1 hv hlen)
    | (go_at_call 100; refine (trim_any sx A1 c1 out (x + y) (add_ge HSB.out H7.out K7.out HLT.out HV.out) _ (by have := HLN.out; omega) hcap hbin hs1).mono ?_; rintro e w2 ⟨⟨n2, c2, rfl, hn2, hbig⟩, hb2⟩; obtain ⟨q0, q1, q2, q3, q4⟩ := Q3.below hb2; have hB2 := since_step hB1 hb2; clear hb2; generalize hs2 : decide (x + y < 0) = s2 at *; have HS2 := hJz hs2; clear hs2))
   all_goals
    go_wp2
    refine bodyPost_ret (v := .agg #[.bool s2, .slice A1 n2 c2]) ?_ rfl ?_
    ·simp [results, Tryz.results69, go_sem, cell_set, q1, q2]
    ·rw [HS2.out]
     refine ⟨⟨A1, n2, c2, rfl, hfr.le hB0.size hn2, ?_⟩, ?_⟩
     ·exact (hbig.far (fun b o hA h0 => by have := hfr b o hA (by omega); simp only [World.size_drew] at this; simp; omega) _).far (fun b o hA h0 => by have := hfr b o hA (by omega); simp only [World.size_drew] at this; simp; omega) _
     ·repeat' (first | with_reducible exact hB2 | with_reducible refine Below.setCell ?_ ?_ _)
      all_goals first | (simp; done) | (simp; omega)
end
section
def bigR (w w' : World) (e : Ending) (z : Int) : Prop := ∃ s A n c, e = .returned (.agg #[.bool s, .slice A n c]) ∧ Fr w.heap.size A n ∧ BigAt w' s A n c z
theorem bigR.of {w w' : World} {e : Ending} {z : Int} (h : ∃ A n c, e = .returned (.agg #[.bool (decide (z < 0)), .slice A n c]) ∧ Fr w.heap.size A n ∧ BigAt w' (decide (z < 0)) A n c z) : bigR w w' e z := ⟨_, h⟩
section
variable {w w1 w2 : World} {sx sy s : Bool} {A B C : Option Addr} {na nb n ca cb c : Nat} {x y z : Int}
theorem bneg' (hn : na ≤ 1000000) (hx : BigAt w sx A na ca x) :
  Calls Tryz.prog 72 #[.agg #[.bool sx, .slice A na ca]] w fun e w' => (∃ s n' c', e = .returned (.agg #[.bool s, .slice A n' c']) ∧ n' ≤ na ∧ BigAt w' s A n' c' (-x)) ∧ Below w.heap.size w w' := by
 obtain rfl := hx.neg_iff;exact (bneg_any x A na ca w hn hx).mono fun e w' ⟨h, hb⟩ => ⟨⟨_, h⟩, hb⟩
theorem badd' (la : na ≤ 100000) (lb : nb ≤ 100000) (hx : BigAt w sx A na ca x) (hy : BigAt w sy B nb cb y) :
  Calls Tryz.prog 69 #[.agg #[.bool sx, .slice A na ca], .agg #[.bool sy, .slice B nb cb]] w fun e w' => bigR w w' e (x + y) ∧ Below w.heap.size w w' := by
 obtain rfl := hx.neg_iff;obtain rfl := hy.neg_iff;exact (badd_any x y A B na ca nb cb w la lb hx hy).mono fun e w' ⟨h, hb⟩ => ⟨bigR.of h, hb⟩
end

theorem bsub_any (x y : Int) (sx sy : Bool) (A B : Option Addr) (na ca nb cb : Nat) (w : World) (la : na ≤ 100000) (lb : nb ≤ 100000) (hx : BigAt w sx A na ca x) (hy : BigAt w sy B nb cb y) :
  Calls Tryz.prog 122 #[.agg #[.bool sx, .slice A na ca], .agg #[.bool sy, .slice B nb cb]] w fun e w' => bigR w w' e (x - y) ∧ Below w.heap.size w w' := by
 rw [Int.sub_eq_add_neg];have P1 : BB (((w.alloc (.cells #[.bool sx, .slice A na ca] 124)).alloc (.cells #[.bool sy, .slice B nb cb] 124)).alloc (.cells #[.bool false, .slice none 0 0] 124)) w.heap.size sx A na ca := ((BB.new _ _ _ _ _ _).alloc _).alloc _
 have P2 : BB (((w.alloc (.cells #[.bool sx, .slice A na ca] 124)).alloc (.cells #[.bool sy, .slice B nb cb] 124)).alloc (.cells #[.bool false, .slice none 0 0] 124)) (w.heap.size + 1) sy B nb cb := by
  have := (BB.new (w.alloc (.cells #[.bool sx, .slice A na ca] 124)) sy B nb cb 124).alloc (.cells #[.bool false, .slice none 0 0] 124)
  rwa [World.size_alloc] at this
 have P3 : BB (((w.alloc (.cells #[.bool sx, .slice A na ca] 124)).alloc (.cells #[.bool sy, .slice B nb cb] 124)).alloc (.cells #[.bool false, .slice none 0 0] 124)) (w.heap.size + 1 + 1) false none 0 0 := by
  have := BB.new ((w.alloc (.cells #[.bool sx, .slice A na ca] 124)).alloc (.cells #[.bool sy, .slice B nb cb] 124)) false none 0 0 124
  rwa [World.size_alloc, World.size_alloc] at this
 have hB0 : Below w.heap.size w (((w.alloc (.cells #[.bool sx, .slice A na ca] 124)).alloc (.cells #[.bool sy, .slice B nb cb] 124)).alloc (.cells #[.bool false, .slice none 0 0] 124)) := since_alloc (since_alloc (since_alloc (Below.refl _ w) _) _) _;have X0 := hx.below hB0;have Y0 := hy.below hB0;clear hx hy;have hcs := @cell_set;have hlt1 := P3.1;go_enter Tryz.func122, Tryz.ntmps122
 go_wp2
 generalize (((w.alloc (.cells #[.bool sx, .slice A na ca] 124)).alloc (.cells #[.bool sy, .slice B nb cb] 124)).alloc (.cells #[.bool false, .slice none 0 0] 124)) = W0 at *;obtain ⟨p10, p11, p12, p13, p14⟩ := _root_.id P1;obtain ⟨p20, p21, p22, p23, p24⟩ := _root_.id P2
 go_region_with (first
  | (go_at_call 72; refine (bneg' (w := W0.drew) (by omega) Y0.drew).mono ?_; rintro e w1 ⟨⟨s1, n1, c1, rfl, hn1, hbig1⟩, hb1⟩; obtain ⟨r0, r1, r2, r3, r4⟩ := P1.drew.below hb1; have Q3 := P3.drew.below hb1; have X1 := X0.drew.below hb1; have hB1 := since_step hB0.drew hb1; clear hb1)
  | (go_at_call 69; refine (badd' (w := w1) la (by omega) X1 hbig1).mono ?_; rintro e w2 ⟨⟨s2, A2, n2, c2, rfl, hfr, hbig⟩, hb2⟩; obtain ⟨q0, q1, q2, q3, q4⟩ := Q3.below hb2; have hB2 := since_step hB1 hb2; have hz1 := Q3.1; clear hb2))
 all_goals
  go_wp2
  refine bodyPost_ret (v := .agg #[.bool s2, .slice A2 n2 c2]) ?_ rfl ?_
  ·simp [results, Tryz.results122, go_sem, cell_set, q1, q2]
  ·refine ⟨⟨s2, A2, n2, c2, rfl, hfr.le hB1.size (Nat.le_refl _), ?_⟩, ?_⟩
   ·exact (hbig.far (fun b o hA h0 => by have := hfr b o hA h0; simp; omega) _).far (fun b o hA h0 => by have := hfr b o hA h0; simp; omega) _
   ·repeat' (first | with_reducible exact hB2 | with_reducible refine Below.setCell ?_ ?_ _)
    all_goals first | (simp; done) | (simp; omega)
theorem norm_plus {a b out : List Nat} (ha : Norm a) (hb : Norm b) (ho : Bin out) (hv : bval out = bval a + bval b) (hl : out.length = max a.length b.length ∨ (out.length = max a.length b.length + 1 ∧ 2 ^ max a.length b.length ≤ bval out)) : Norm out := by
 rcases hl with hl | ⟨hl, hge⟩
 ·rcases Nat.eq_zero_or_pos out.length with h0 | h0
  ·rw [List.eq_nil_of_length_eq_zero h0]; exact Norm.nil
  ·obtain ⟨k, hk⟩ : ∃ k, out.length = k + 1 := ⟨out.length - 1, by omega⟩;refine norm_of_ge ho hk ?_
   rcases Nat.le_total a.length b.length with h | h
   ·have := hb.ge (k := k) (by omega);omega
   ·have := ha.ge (k := k) (by omega);omega
 ·exact norm_of_ge ho hl hge
theorem big_field (s : Bool) (A : Option Addr) (n c : Nat) (W : World) : (Instr.field 124 (.agg #[.bool s, .slice A n c]) 1).run Tryz.prog W = .ok (.slice A n c) W := by kernel_rfl
theorem bof_any (x : Int) (w : World) (hx : -9223372036854775808 ≤ x ∧ x ≤ 9223372036854775807) :
  Calls Tryz.prog 65 #[.int .i64 x] w fun e w' => bigR w w' e x ∧ Below w.heap.size w w' := by
 have P0 := BB.new w false none 0 0 124;have hB0 : Below w.heap.size w (w.alloc (.cells #[.bool false, .slice none 0 0] 124)) := since_alloc (Below.refl _ w) _;have hcs := @cell_set
 by_cases h0 : 0 ≤ x
 ·obtain ⟨u, rfl⟩ := Int.eq_ofNat_of_zero_le h0;have ew : IntKind.u64.wrap (u : Int) = (u : Int) := by rw [IntKind.wrap_u64]; omega
  go_enter Tryz.func65, Tryz.ntmps65;go_wp2_with fail;refine (nat_any u _ (by omega)).mono ?_;rintro e w1 ⟨⟨A1, n1, c1, rfl, hfr, hbig⟩, hb1⟩;obtain ⟨q0, q1, q2, q3, q4⟩ := P0.below hb1;have hB1 := since_step hB0 hb1;clear hb1 P0
  go_wp2
  refine bodyPost_ret (v := .agg #[.bool false, .slice A1 n1 c1]) ?_ rfl ?_
  ·simp [results, Tryz.results65, go_sem, cell_set, q1, q2]
  ·refine ⟨⟨false, A1, n1, c1, rfl, hfr.le hB0.size (Nat.le_refl _), ?_⟩, ?_⟩
   ·exact (hbig.far (fun b o hA h0 => by have := hfr b o hA h0; simp at this ⊢; omega) _).far (fun b o hA h0 => by have := hfr b o hA h0; simp at this ⊢; omega) _
   ·repeat' (first | with_reducible exact hB1 | with_reducible refine Below.setCell ?_ ?_ _)
    all_goals first | (simp; done) | (simp; omega)
 ·obtain ⟨u, rfl⟩ : ∃ u : Nat, x = -((u : Int) + 1) := ⟨(-x - 1).toNat, by omega⟩;have hu : u < 9223372036854775808 := by omega
  have ew : IntKind.u64.wrap (u : Int) = (u : Int) := by rw [IntKind.wrap_u64]; omega
  clear hx;have hfd := big_field;go_enter Tryz.func65, Tryz.ntmps65;go_wp2_with fail;rw [show -(-((u : Int) + 1) + 1) = (u : Int) from by omega];refine (nat_any u _ (by omega)).mono ?_;rintro e w1 ⟨⟨A1, n1, c1, rfl, hfr, hbig⟩, hb1⟩;have Q0 := P0.below hb1;have hB1 := since_step hB0 hb1;have hn1 : n1 ≤ 64 := (hbig.len (k := 64)).2 (by simp; omega);obtain ⟨bits, h1, h2, h3, h4, h5, h6, h7⟩ := hbig.ex;have hv1 : (u : Int) = bval bits := by simpa using h7
  have HV1 := hJz hv1;subst h1;clear hb1 P0 hv1 h7 h6 hbig;go_wp2_with fail;have norm1 : Norm [1] := ⟨fun b hb => by simp at hb; omega, fun k hk hl => by simp at hk; subst hk; rfl⟩;refine (bplus_any A1 (some ⟨w1.heap.size, 0, none⟩) c1 1 bits [1] _ (by omega) (by simp) h5.1 norm1.1 (h4.alloc _) (Sl.new_ _ _ _)).mono ?_;rintro e w2 ⟨⟨A2, c2, out, rfl, ⟨hcap, hs2, hbin, hfr2⟩, hv, hlen⟩, hb2⟩;have hN := norm_plus h5 norm1 hbin hv hlen;have hv2 : bval out = bval bits + 1 := by rw [hv]; rfl
  have HV2 := hJz hv2;obtain ⟨q0, q1, q2, q3, q4⟩ := (Q0.alloc (.cells #[.int .u8 1] 5)).below hb2;have hB2 := since_step (since_alloc hB1 _) hb2;have hz1 := Q0.1;have HL := hJz hlen;clear hb2 hv hv2 hlen Q0
  go_wp2
  refine bodyPost_ret (v := .agg #[.bool true, .slice A2 out.length c2]) ?_ rfl ?_
  ·simp [results, Tryz.results65, go_sem, cell_set, q1, q2]
  ·have hbig : BigAt w2 true A2 out.length c2 (-((u : Int) + 1)) := ⟨out, rfl, hcap.1, hcap.2, hs2, hN, fun _ e => by subst e; have := HV2.out; simp [bval] at this, by have := HV1.out; have := HV2.out; simp; omega⟩;have hfr3 : Fr w.heap.size A2 out.length := hfr2.le (by have := hB1.size; simp; omega) (Nat.le_refl _);have hne : ∀ b o, A2 = some ⟨b, o, none⟩ → 0 < out.length → b ≠ w.heap.size := fun b o hA h0 => by have := hfr2 b o hA h0; simp at this; omega
   refine ⟨⟨true, A2, out.length, c2, rfl, hfr3, ?_⟩, ?_⟩
   ·exact (hbig.far (fun b o hA h0 => by have := hne b o hA h0; simpa using this) _).far (fun b o hA h0 => by have := hne b o hA h0; simpa using this) _
   ·repeat' (first | with_reducible exact hB2 | with_reducible refine Below.setCell ?_ ?_ _)
    all_goals first | (simp; done) | (simp; omega)
def inN (x : Int) (m : Nat) : Prop := (if x < 0 then (x + 1).natAbs else x.natAbs) < 2 ^ m
instance (x : Int) (m : Nat) : Decidable (inN x m) := by unfold inN; infer_instance
theorem inN_63 (x : Int) : inN x 63 ↔ (-9223372036854775808 ≤ x ∧ x ≤ 9223372036854775807) := by
 unfold inN;rw [show (2 : Nat) ^ 63 = 9223372036854775808 from by decide]
 split <;> omega
theorem bwithin_any (x : Int) (m : Nat) (K : Int) (hK : K = m + 1) (hm : m ≤ 100000) (s : Bool) (A : Option Addr) (n c : Nat) (w : World) (la : n ≤ 100000) (hx : BigAt w s A n c x) :
  Calls Tryz.prog 103 #[.agg #[.bool s, .slice A n c], .int .i64 K] w fun e w' => e = .returned (.bool (decide (inN x m))) ∧ Below w.heap.size w w' := by
 have P0 := BB.new w s A n c 124;have hB0 : Below w.heap.size w (w.alloc (.cells #[.bool s, .slice A n c] 124)) := since_alloc (Below.refl _ w) _;have X0 := hx.below hB0;have hs := hx.neg_iff;have hln := hx.len (k := m);have hcs := @cell_set;clear hx
 cases s with
 | false =>
  have hv : inN x m ↔ n ≤ m := by
   have : ¬ x < 0 := by simpa using hs.symm
   unfold inN;rw [if_neg this, hln]
  have HV := hJz hv;have HK := hJz hK;clear hv hK hln hs;go_enter Tryz.func103, Tryz.ntmps103
  go_wp2
  go_ret;exact ⟨retB (by have := HK.out; by_cases h : inN x m; (rw [decide_eq_true h, decide_eq_true]; have := HV.out.1 h; omega); (rw [decide_eq_false h, decide_eq_false]; have : ¬ n ≤ m := fun g => h (HV.out.2 g); omega)), hB0⟩
 | true =>
  have hx0 : x < 0 := by simpa using hs.symm
  have HX := hJz hx0;have HK := hJz hK;clear hK hln hs hx0;go_enter Tryz.func103, Tryz.ntmps103
  go_wp2
  generalize w.alloc (.cells #[.bool true, .slice A n c] 124) = W0 at *;obtain ⟨p0, p1, p2, p3, p4⟩ := _root_.id P0
  go_region_with (first
   | (go_at_call 71; refine (nat_any 1 W0.drew (by decide)).mono ?_; rintro e w1 ⟨⟨A1, n1, c1, rfl, hfr1, hbig1⟩, hb1⟩; have Q0 := P0.drew.below hb1; obtain ⟨r0, r1, r2, r3, r4⟩ := _root_.id Q0; have X1 := X0.drew.below hb1; have hB1 := since_step hB0.drew hb1; have hn1 : n1 ≤ 64 := (hbig1.len (k := 64)).2 (by decide); clear hb1)
   | (go_at_call 69; refine (badd' (w := w1) la (by omega) X1 hbig1).mono ?_; rintro e w2 ⟨⟨s2, A2, n2, c2, rfl, hfr, hbig⟩, hb2⟩; obtain ⟨q0, q1, q2, q3, q4⟩ := Q0.below hb2; have hB2 := since_step hB1 hb2; have hln := hbig.len (k := m); have HLN := hJz hln; clear hb2 hln))
  all_goals
   go_wp2
   go_ret
   refine ⟨retB ?_, ?_⟩
   ·have h1 := HK.out;have h2 := HLN.out;have h3 := HX.out
    have h4 : inN x m ↔ n2 ≤ m := by
     unfold inN;rw [if_pos h3, h2];simp
    by_cases h : inN x m
    ·rw [decide_eq_true h, decide_eq_true]; have := h4.1 h; omega
    ·rw [decide_eq_false h, decide_eq_false]; have : ¬ n2 ≤ m := fun g => h (h4.2 g); omega
   ·repeat' (first | with_reducible exact hB2 | with_reducible refine Below.setCell ?_ ?_ _)
    all_goals first | (simp; done) | (simp; omega)
theorem bfits_any (x : Int) (s : Bool) (A : Option Addr) (n c : Nat) (w : World) (la : n ≤ 100000) (hx : BigAt w s A n c x) :
  Calls Tryz.prog 73 #[.agg #[.bool s, .slice A n c]] w fun e w' => e = .returned (.bool (decide (inN x 63))) ∧ Below w.heap.size w w' := by
 have hB0 : Below w.heap.size w (w.alloc (.cells #[.bool s, .slice A n c] 124)) := since_alloc (Below.refl _ w) _;have X0 := hx.below hB0;clear hx;go_enter Tryz.func73, Tryz.ntmps73;go_wp2_with fail;refine (bwithin_any x 63 64 (by decide) (by decide) s A n c _ la X0).mono ?_;rintro e w1 ⟨rfl, hb1⟩;generalize hd : decide (inN x 63) = r at *;have HD := hJz hd;clear hd;have hB1 := since_step hB0 hb1;clear hb1
 go_wp2
 go_ret;exact ⟨retB HD.out.symm, hB1⟩
end
end Go.Proofs.YtpmnjojednbnpaaGreatDoor
